/-
  The contracts of the program's smallest functions of layer 3.
-/
import Derived.Test.YtaokpphlfhnleaaGreatDoorProg
import Derived.Test.YtaokpphlfhnleaaGreatDoorIsMath
import Derived.Test.YtaokpphlfhnleaaGreatDoorArith
import Derived.WalkKit
import Derived.WalkSpells
import Derived.WalkLawsBesides
import Derived.Handy
import Derived.Lib.Hide
import Derived.LoopTactic
import Derived.Laws.OwnMore
import Derived.Outline
namespace Go.Proofs.YtaokpphlfhnleaaGreatDoor
open Go.RowKit
set_option linter.unusedVariables false


theorem bitsOf_any (x : Int) (w : World) :
    Calls Tryz.prog 166 #[.int .u32 x] w fun e w' => e = .returned (.func (.func 207) #[] #[.pointer (some ⟨w.heap.size, 0, none⟩)]) ∧ w' = w.alloc (.cells #[.int .u32 x] 22) := by
  go_enter Tryz.func166, Tryz.ntmps166
  go_wp2
  go_ret
  exact ⟨rfl, rfl⟩

/-- the closure that tells the bits of what stands in block r -/
def Clo (r : Nat) : Value := .func (.func 207) #[] #[.pointer (some ⟨r, 0, none⟩)]

theorem bits1_any (x hi lo : Int) (r : Nat) (w : World) (h0 : 0 ≤ lo) (h1 : lo ≤ hi) (h2 : hi ≤ 31) (hx : Is.Wd x) (hc : w.cell? ⟨r, 0, none⟩ = some (.int .u32 x)) :
    Calls Tryz.prog 207 #[.int .i64 hi, .int .i64 lo, .pointer (some ⟨r, 0, none⟩)] w fun e w' => e = .returned (.int .u32 (Is.bt x hi lo)) ∧ w = w' := by
  have HX := Lib.hid hx; clear hx
  go_enter Tryz.func207, Tryz.ntmps207
  go_wp2
  go_ret
  exact ⟨ret_int (Is.bt_walk HX.out h0 h1 h2), rfl⟩

theorem upperImm_any (x : Int) (r : Nat) (w : World) (hx : Is.Wd x) (hc : w.cell? ⟨r, 0, none⟩ = some (.int .u32 x)) :
    Calls Tryz.prog 181 #[Clo r] w fun e w' => e = .returned (.int .u32 (Is.upperImm x)) ∧ w = w' := by
  have HX := Lib.hid hx; clear hx
  have HC := Lib.hid hc; clear hc
  unfold Clo
  go_enter Tryz.func181, Tryz.ntmps181
  go_wp2_with (go_at_call 207; refine (bits1_any x _ _ r _ (by decide) (by decide) (by decide) HX.out HC.out).mono ?_; rintro e w' ⟨rfl, rfl⟩)
  go_ret
  exact ⟨ret_int (Is.upperImm_walk HX.out), rfl⟩
theorem jumpImm_any (x : Int) (r : Nat) (w : World) (hx : Is.Wd x) (hc : w.cell? ⟨r, 0, none⟩ = some (.int .u32 x)) :
    Calls Tryz.prog 183 #[Clo r] w fun e w' => e = .returned (.int .u32 (Is.jumpImm x)) ∧ w = w' := by
  have HX := Lib.hid hx; clear hx
  have HC := Lib.hid hc; clear hc
  unfold Clo
  go_enter Tryz.func183, Tryz.ntmps183
  go_wp2_with (go_at_call 207; refine (bits1_any x _ _ r _ (by decide) (by decide) (by decide) HX.out HC.out).mono ?_; rintro e w' ⟨rfl, rfl⟩)
  go_ret
  exact ⟨ret_int (Is.jumpImm_walk HX.out), rfl⟩
theorem jumpPlace_any (x : Int) (r : Nat) (w : World) (hx : Is.Wd x) (hc : w.cell? ⟨r, 0, none⟩ = some (.int .u32 x)) :
    Calls Tryz.prog 184 #[Clo r] w fun e w' => e = .returned (.int .u32 (Is.jumpPlace x)) ∧ w = w' := by
  have HX := Lib.hid hx; clear hx
  have HC := Lib.hid hc; clear hc
  unfold Clo
  go_enter Tryz.func184, Tryz.ntmps184
  go_wp2_with (go_at_call 207; refine (bits1_any x _ _ r _ (by decide) (by decide) (by decide) HX.out HC.out).mono ?_; rintro e w' ⟨rfl, rfl⟩)
  go_ret
  exact ⟨ret_int (Is.jumpPlace_walk HX.out), rfl⟩
theorem shortImm_any (x : Int) (r : Nat) (w : World) (hx : Is.Wd x) (hc : w.cell? ⟨r, 0, none⟩ = some (.int .u32 x)) :
    Calls Tryz.prog 186 #[Clo r] w fun e w' => e = .returned (.int .u32 (Is.shortImm x)) ∧ w = w' := by
  have HX := Lib.hid hx; clear hx
  have HC := Lib.hid hc; clear hc
  unfold Clo
  go_enter Tryz.func186, Tryz.ntmps186
  go_wp2_with (go_at_call 207; refine (bits1_any x _ _ r _ (by decide) (by decide) (by decide) HX.out HC.out).mono ?_; rintro e w' ⟨rfl, rfl⟩)
  go_ret
  exact ⟨ret_int (Is.shortImm_walk HX.out), rfl⟩
theorem shortPlace_any (x : Int) (r : Nat) (w : World) (hx : Is.Wd x) (hc : w.cell? ⟨r, 0, none⟩ = some (.int .u32 x)) :
    Calls Tryz.prog 187 #[Clo r] w fun e w' => e = .returned (.int .u32 (Is.shortPlace x)) ∧ w = w' := by
  have HX := Lib.hid hx; clear hx
  have HC := Lib.hid hc; clear hc
  unfold Clo
  go_enter Tryz.func187, Tryz.ntmps187
  go_wp2_with (go_at_call 207; refine (bits1_any x _ _ r _ (by decide) (by decide) (by decide) HX.out HC.out).mono ?_; rintro e w' ⟨rfl, rfl⟩)
  go_ret
  exact ⟨ret_int (Is.shortPlace_walk HX.out), rfl⟩
theorem shiftImm_any (x : Int) (r : Nat) (w : World) (hx : Is.Wd x) (hc : w.cell? ⟨r, 0, none⟩ = some (.int .u32 x)) :
    Calls Tryz.prog 190 #[Clo r] w fun e w' => e = .returned (.int .u32 (Is.shiftImm x)) ∧ w = w' := by
  have HX := Lib.hid hx; clear hx
  have HC := Lib.hid hc; clear hc
  unfold Clo
  go_enter Tryz.func190, Tryz.ntmps190
  go_wp2_with (go_at_call 207; refine (bits1_any x _ _ r _ (by decide) (by decide) (by decide) HX.out HC.out).mono ?_; rintro e w' ⟨rfl, rfl⟩)
  go_ret
  exact ⟨ret_int (Is.shiftImm_walk _), rfl⟩
theorem shiftPlace_any (x : Int) (r : Nat) (w : World) (hx : Is.Wd x) (hc : w.cell? ⟨r, 0, none⟩ = some (.int .u32 x)) :
    Calls Tryz.prog 191 #[Clo r] w fun e w' => e = .returned (.int .u32 (Is.shiftPlace x)) ∧ w = w' := by
  have HX := Lib.hid hx; clear hx
  have HC := Lib.hid hc; clear hc
  unfold Clo
  go_enter Tryz.func191, Tryz.ntmps191
  go_wp2_with (go_at_call 207; refine (bits1_any x _ _ r _ (by decide) (by decide) (by decide) HX.out HC.out).mono ?_; rintro e w' ⟨rfl, rfl⟩)
  go_ret
  exact ⟨ret_int (Is.shiftPlace_walk HX.out), rfl⟩
theorem branchImm_any (x : Int) (r : Nat) (w : World) (hx : Is.Wd x) (hc : w.cell? ⟨r, 0, none⟩ = some (.int .u32 x)) :
    Calls Tryz.prog 192 #[Clo r] w fun e w' => e = .returned (.int .u32 (Is.branchImm x)) ∧ w = w' := by
  have HX := Lib.hid hx; clear hx
  have HC := Lib.hid hc; clear hc
  unfold Clo
  go_enter Tryz.func192, Tryz.ntmps192
  go_wp2_with (go_at_call 207; refine (bits1_any x _ _ r _ (by decide) (by decide) (by decide) HX.out HC.out).mono ?_; rintro e w' ⟨rfl, rfl⟩)
  go_ret
  exact ⟨ret_int (Is.branchImm_walk HX.out), rfl⟩
theorem branchPlace_any (x : Int) (r : Nat) (w : World) (hx : Is.Wd x) (hc : w.cell? ⟨r, 0, none⟩ = some (.int .u32 x)) :
    Calls Tryz.prog 193 #[Clo r] w fun e w' => e = .returned (.int .u32 (Is.branchPlace x)) ∧ w = w' := by
  have HX := Lib.hid hx; clear hx
  have HC := Lib.hid hc; clear hc
  unfold Clo
  go_enter Tryz.func193, Tryz.ntmps193
  go_wp2_with (go_at_call 207; refine (bits1_any x _ _ r _ (by decide) (by decide) (by decide) HX.out HC.out).mono ?_; rintro e w' ⟨rfl, rfl⟩)
  go_ret
  exact ⟨ret_int (Is.branchPlace_walk HX.out), rfl⟩
theorem storeImm_any (x : Int) (r : Nat) (w : World) (hx : Is.Wd x) (hc : w.cell? ⟨r, 0, none⟩ = some (.int .u32 x)) :
    Calls Tryz.prog 195 #[Clo r] w fun e w' => e = .returned (.int .u32 (Is.storeImm x)) ∧ w = w' := by
  have HX := Lib.hid hx; clear hx
  have HC := Lib.hid hc; clear hc
  unfold Clo
  go_enter Tryz.func195, Tryz.ntmps195
  go_wp2_with (go_at_call 207; refine (bits1_any x _ _ r _ (by decide) (by decide) (by decide) HX.out HC.out).mono ?_; rintro e w' ⟨rfl, rfl⟩)
  go_ret
  exact ⟨ret_int (Is.storeImm_walk HX.out), rfl⟩
theorem storePlace_any (x : Int) (r : Nat) (w : World) (hx : Is.Wd x) (hc : w.cell? ⟨r, 0, none⟩ = some (.int .u32 x)) :
    Calls Tryz.prog 196 #[Clo r] w fun e w' => e = .returned (.int .u32 (Is.storePlace x)) ∧ w = w' := by
  have HX := Lib.hid hx; clear hx
  have HC := Lib.hid hc; clear hc
  unfold Clo
  go_enter Tryz.func196, Tryz.ntmps196
  go_wp2_with (go_at_call 207; refine (bits1_any x _ _ r _ (by decide) (by decide) (by decide) HX.out HC.out).mono ?_; rintro e w' ⟨rfl, rfl⟩)
  go_ret
  exact ⟨ret_int (Is.storePlace_walk HX.out), rfl⟩
theorem noImm_any (x : Int) (r : Nat) (w : World) (hx : Is.Wd x) (hc : w.cell? ⟨r, 0, none⟩ = some (.int .u32 x)) :
    Calls Tryz.prog 198 #[Clo r] w fun e w' => e = .returned (.int .u32 (Is.noImm x)) ∧ w = w' := by
  have HX := Lib.hid hx; clear hx
  have HC := Lib.hid hc; clear hc
  unfold Clo
  go_enter Tryz.func198, Tryz.ntmps198
  go_wp2_with (go_at_call 207; refine (bits1_any x _ _ r _ (by decide) (by decide) (by decide) HX.out HC.out).mono ?_; rintro e w' ⟨rfl, rfl⟩)
  go_ret
  exact ⟨ret_int (Is.noImm_walk _), rfl⟩
theorem fenceImm_any (x : Int) (r : Nat) (w : World) (hx : Is.Wd x) (hc : w.cell? ⟨r, 0, none⟩ = some (.int .u32 x)) :
    Calls Tryz.prog 200 #[Clo r] w fun e w' => e = .returned (.int .u32 (Is.fenceImm x)) ∧ w = w' := by
  have HX := Lib.hid hx; clear hx
  have HC := Lib.hid hc; clear hc
  unfold Clo
  go_enter Tryz.func200, Tryz.ntmps200
  go_wp2_with (go_at_call 207; refine (bits1_any x _ _ r _ (by decide) (by decide) (by decide) HX.out HC.out).mono ?_; rintro e w' ⟨rfl, rfl⟩)
  go_ret
  exact ⟨ret_int (Is.fenceImm_walk _), rfl⟩
theorem fencePlace_any (x : Int) (r : Nat) (w : World) (hx : Is.Wd x) (hc : w.cell? ⟨r, 0, none⟩ = some (.int .u32 x)) :
    Calls Tryz.prog 201 #[Clo r] w fun e w' => e = .returned (.int .u32 (Is.fencePlace x)) ∧ w = w' := by
  have HX := Lib.hid hx; clear hx
  have HC := Lib.hid hc; clear hc
  unfold Clo
  go_enter Tryz.func201, Tryz.ntmps201
  go_wp2_with (go_at_call 207; refine (bits1_any x _ _ r _ (by decide) (by decide) (by decide) HX.out HC.out).mono ?_; rintro e w' ⟨rfl, rfl⟩)
  go_ret
  exact ⟨ret_int (Is.fencePlace_walk HX.out), rfl⟩
end Go.Proofs.YtaokpphlfhnleaaGreatDoor
