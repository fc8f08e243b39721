/-
  The contracts of the program's smallest functions of layer 3.
-/
import Derived.Test.YtianojbdabeoeaaGreatDoorProg
import Derived.Test.YtianojbdabeoeaaGreatDoorIsMath
import Derived.Test.YtianojbdabeoeaaGreatDoorArith
import Derived.WalkKit
import Derived.WalkSpells
import Derived.WalkLawsBesides
import Derived.Handy
import Derived.Lib.Hide
import Derived.LoopTactic
import Derived.Laws.OwnMore
import Derived.Outline
namespace Go.Proofs.YtianojbdabeoeaaGreatDoor
open Go.RowKit
set_option linter.unusedVariables false


theorem bitsOf_any (x : Int) (w : World) :
    Calls Tryz.prog 201 #[.int .u32 x] w fun e w' => e = .returned (.func (.func 256) #[] #[.pointer (some ⟨w.heap.size, 0, none⟩)]) ∧ w' = w.alloc (.cells #[.int .u32 x] 22) := by
  go_enter Tryz.func201, Tryz.ntmps201
  go_wp2
  go_ret
  exact ⟨rfl, rfl⟩

/-- the closure that tells the bits of what stands in block r -/
def Clo (r : Nat) : Value := .func (.func 256) #[] #[.pointer (some ⟨r, 0, none⟩)]

theorem bits1_any (x hi lo : Int) (r : Nat) (w : World) (h0 : 0 ≤ lo) (h1 : lo ≤ hi) (h2 : hi ≤ 31) (hx : Is.Wd x) (hc : w.cell? ⟨r, 0, none⟩ = some (.int .u32 x)) :
    Calls Tryz.prog 256 #[.int .i64 hi, .int .i64 lo, .pointer (some ⟨r, 0, none⟩)] w fun e w' => e = .returned (.int .u32 (Is.bt x hi lo)) ∧ w = w' := by
  have HX := Lib.hid hx; clear hx
  go_enter Tryz.func256, Tryz.ntmps256
  go_wp2
  go_ret
  exact ⟨ret_int (Is.bt_walk HX.out h0 h1 h2), rfl⟩

theorem upperImm_any (x : Int) (r : Nat) (w : World) (hx : Is.Wd x) (hc : w.cell? ⟨r, 0, none⟩ = some (.int .u32 x)) :
    Calls Tryz.prog 230 #[Clo r] w fun e w' => e = .returned (.int .u32 (Is.upperImm x)) ∧ w = w' := by
  have HX := Lib.hid hx; clear hx
  have HC := Lib.hid hc; clear hc
  unfold Clo
  go_enter Tryz.func230, Tryz.ntmps230
  go_wp2_with (go_at_call 256; refine (bits1_any x _ _ r _ (by decide) (by decide) (by decide) HX.out HC.out).mono ?_; rintro e w' ⟨rfl, rfl⟩)
  go_ret
  exact ⟨ret_int (Is.upperImm_walk HX.out), rfl⟩
theorem jumpImm_any (x : Int) (r : Nat) (w : World) (hx : Is.Wd x) (hc : w.cell? ⟨r, 0, none⟩ = some (.int .u32 x)) :
    Calls Tryz.prog 232 #[Clo r] w fun e w' => e = .returned (.int .u32 (Is.jumpImm x)) ∧ w = w' := by
  have HX := Lib.hid hx; clear hx
  have HC := Lib.hid hc; clear hc
  unfold Clo
  go_enter Tryz.func232, Tryz.ntmps232
  go_wp2_with (go_at_call 256; refine (bits1_any x _ _ r _ (by decide) (by decide) (by decide) HX.out HC.out).mono ?_; rintro e w' ⟨rfl, rfl⟩)
  go_ret
  exact ⟨ret_int (Is.jumpImm_walk HX.out), rfl⟩
theorem jumpPlace_any (x : Int) (r : Nat) (w : World) (hx : Is.Wd x) (hc : w.cell? ⟨r, 0, none⟩ = some (.int .u32 x)) :
    Calls Tryz.prog 233 #[Clo r] w fun e w' => e = .returned (.int .u32 (Is.jumpPlace x)) ∧ w = w' := by
  have HX := Lib.hid hx; clear hx
  have HC := Lib.hid hc; clear hc
  unfold Clo
  go_enter Tryz.func233, Tryz.ntmps233
  go_wp2_with (go_at_call 256; refine (bits1_any x _ _ r _ (by decide) (by decide) (by decide) HX.out HC.out).mono ?_; rintro e w' ⟨rfl, rfl⟩)
  go_ret
  exact ⟨ret_int (Is.jumpPlace_walk HX.out), rfl⟩
theorem shortImm_any (x : Int) (r : Nat) (w : World) (hx : Is.Wd x) (hc : w.cell? ⟨r, 0, none⟩ = some (.int .u32 x)) :
    Calls Tryz.prog 235 #[Clo r] w fun e w' => e = .returned (.int .u32 (Is.shortImm x)) ∧ w = w' := by
  have HX := Lib.hid hx; clear hx
  have HC := Lib.hid hc; clear hc
  unfold Clo
  go_enter Tryz.func235, Tryz.ntmps235
  go_wp2_with (go_at_call 256; refine (bits1_any x _ _ r _ (by decide) (by decide) (by decide) HX.out HC.out).mono ?_; rintro e w' ⟨rfl, rfl⟩)
  go_ret
  exact ⟨ret_int (Is.shortImm_walk HX.out), rfl⟩
theorem shortPlace_any (x : Int) (r : Nat) (w : World) (hx : Is.Wd x) (hc : w.cell? ⟨r, 0, none⟩ = some (.int .u32 x)) :
    Calls Tryz.prog 236 #[Clo r] w fun e w' => e = .returned (.int .u32 (Is.shortPlace x)) ∧ w = w' := by
  have HX := Lib.hid hx; clear hx
  have HC := Lib.hid hc; clear hc
  unfold Clo
  go_enter Tryz.func236, Tryz.ntmps236
  go_wp2_with (go_at_call 256; refine (bits1_any x _ _ r _ (by decide) (by decide) (by decide) HX.out HC.out).mono ?_; rintro e w' ⟨rfl, rfl⟩)
  go_ret
  exact ⟨ret_int (Is.shortPlace_walk HX.out), rfl⟩
theorem shiftImm_any (x : Int) (r : Nat) (w : World) (hx : Is.Wd x) (hc : w.cell? ⟨r, 0, none⟩ = some (.int .u32 x)) :
    Calls Tryz.prog 239 #[Clo r] w fun e w' => e = .returned (.int .u32 (Is.shiftImm x)) ∧ w = w' := by
  have HX := Lib.hid hx; clear hx
  have HC := Lib.hid hc; clear hc
  unfold Clo
  go_enter Tryz.func239, Tryz.ntmps239
  go_wp2_with (go_at_call 256; refine (bits1_any x _ _ r _ (by decide) (by decide) (by decide) HX.out HC.out).mono ?_; rintro e w' ⟨rfl, rfl⟩)
  go_ret
  exact ⟨ret_int (Is.shiftImm_walk _), rfl⟩
theorem shiftPlace_any (x : Int) (r : Nat) (w : World) (hx : Is.Wd x) (hc : w.cell? ⟨r, 0, none⟩ = some (.int .u32 x)) :
    Calls Tryz.prog 240 #[Clo r] w fun e w' => e = .returned (.int .u32 (Is.shiftPlace x)) ∧ w = w' := by
  have HX := Lib.hid hx; clear hx
  have HC := Lib.hid hc; clear hc
  unfold Clo
  go_enter Tryz.func240, Tryz.ntmps240
  go_wp2_with (go_at_call 256; refine (bits1_any x _ _ r _ (by decide) (by decide) (by decide) HX.out HC.out).mono ?_; rintro e w' ⟨rfl, rfl⟩)
  go_ret
  exact ⟨ret_int (Is.shiftPlace_walk HX.out), rfl⟩
theorem branchImm_any (x : Int) (r : Nat) (w : World) (hx : Is.Wd x) (hc : w.cell? ⟨r, 0, none⟩ = some (.int .u32 x)) :
    Calls Tryz.prog 241 #[Clo r] w fun e w' => e = .returned (.int .u32 (Is.branchImm x)) ∧ w = w' := by
  have HX := Lib.hid hx; clear hx
  have HC := Lib.hid hc; clear hc
  unfold Clo
  go_enter Tryz.func241, Tryz.ntmps241
  go_wp2_with (go_at_call 256; refine (bits1_any x _ _ r _ (by decide) (by decide) (by decide) HX.out HC.out).mono ?_; rintro e w' ⟨rfl, rfl⟩)
  go_ret
  exact ⟨ret_int (Is.branchImm_walk HX.out), rfl⟩
theorem branchPlace_any (x : Int) (r : Nat) (w : World) (hx : Is.Wd x) (hc : w.cell? ⟨r, 0, none⟩ = some (.int .u32 x)) :
    Calls Tryz.prog 242 #[Clo r] w fun e w' => e = .returned (.int .u32 (Is.branchPlace x)) ∧ w = w' := by
  have HX := Lib.hid hx; clear hx
  have HC := Lib.hid hc; clear hc
  unfold Clo
  go_enter Tryz.func242, Tryz.ntmps242
  go_wp2_with (go_at_call 256; refine (bits1_any x _ _ r _ (by decide) (by decide) (by decide) HX.out HC.out).mono ?_; rintro e w' ⟨rfl, rfl⟩)
  go_ret
  exact ⟨ret_int (Is.branchPlace_walk HX.out), rfl⟩
theorem storeImm_any (x : Int) (r : Nat) (w : World) (hx : Is.Wd x) (hc : w.cell? ⟨r, 0, none⟩ = some (.int .u32 x)) :
    Calls Tryz.prog 244 #[Clo r] w fun e w' => e = .returned (.int .u32 (Is.storeImm x)) ∧ w = w' := by
  have HX := Lib.hid hx; clear hx
  have HC := Lib.hid hc; clear hc
  unfold Clo
  go_enter Tryz.func244, Tryz.ntmps244
  go_wp2_with (go_at_call 256; refine (bits1_any x _ _ r _ (by decide) (by decide) (by decide) HX.out HC.out).mono ?_; rintro e w' ⟨rfl, rfl⟩)
  go_ret
  exact ⟨ret_int (Is.storeImm_walk HX.out), rfl⟩
theorem storePlace_any (x : Int) (r : Nat) (w : World) (hx : Is.Wd x) (hc : w.cell? ⟨r, 0, none⟩ = some (.int .u32 x)) :
    Calls Tryz.prog 245 #[Clo r] w fun e w' => e = .returned (.int .u32 (Is.storePlace x)) ∧ w = w' := by
  have HX := Lib.hid hx; clear hx
  have HC := Lib.hid hc; clear hc
  unfold Clo
  go_enter Tryz.func245, Tryz.ntmps245
  go_wp2_with (go_at_call 256; refine (bits1_any x _ _ r _ (by decide) (by decide) (by decide) HX.out HC.out).mono ?_; rintro e w' ⟨rfl, rfl⟩)
  go_ret
  exact ⟨ret_int (Is.storePlace_walk HX.out), rfl⟩
theorem noImm_any (x : Int) (r : Nat) (w : World) (hx : Is.Wd x) (hc : w.cell? ⟨r, 0, none⟩ = some (.int .u32 x)) :
    Calls Tryz.prog 247 #[Clo r] w fun e w' => e = .returned (.int .u32 (Is.noImm x)) ∧ w = w' := by
  have HX := Lib.hid hx; clear hx
  have HC := Lib.hid hc; clear hc
  unfold Clo
  go_enter Tryz.func247, Tryz.ntmps247
  go_wp2_with (go_at_call 256; refine (bits1_any x _ _ r _ (by decide) (by decide) (by decide) HX.out HC.out).mono ?_; rintro e w' ⟨rfl, rfl⟩)
  go_ret
  exact ⟨ret_int (Is.noImm_walk _), rfl⟩
theorem fenceImm_any (x : Int) (r : Nat) (w : World) (hx : Is.Wd x) (hc : w.cell? ⟨r, 0, none⟩ = some (.int .u32 x)) :
    Calls Tryz.prog 249 #[Clo r] w fun e w' => e = .returned (.int .u32 (Is.fenceImm x)) ∧ w = w' := by
  have HX := Lib.hid hx; clear hx
  have HC := Lib.hid hc; clear hc
  unfold Clo
  go_enter Tryz.func249, Tryz.ntmps249
  go_wp2_with (go_at_call 256; refine (bits1_any x _ _ r _ (by decide) (by decide) (by decide) HX.out HC.out).mono ?_; rintro e w' ⟨rfl, rfl⟩)
  go_ret
  exact ⟨ret_int (Is.fenceImm_walk _), rfl⟩
theorem fencePlace_any (x : Int) (r : Nat) (w : World) (hx : Is.Wd x) (hc : w.cell? ⟨r, 0, none⟩ = some (.int .u32 x)) :
    Calls Tryz.prog 250 #[Clo r] w fun e w' => e = .returned (.int .u32 (Is.fencePlace x)) ∧ w = w' := by
  have HX := Lib.hid hx; clear hx
  have HC := Lib.hid hc; clear hc
  unfold Clo
  go_enter Tryz.func250, Tryz.ntmps250
  go_wp2_with (go_at_call 256; refine (bits1_any x _ _ r _ (by decide) (by decide) (by decide) HX.out HC.out).mono ?_; rintro e w' ⟨rfl, rfl⟩)
  go_ret
  exact ⟨ret_int (Is.fencePlace_walk HX.out), rfl⟩
end Go.Proofs.YtianojbdabeoeaaGreatDoor
