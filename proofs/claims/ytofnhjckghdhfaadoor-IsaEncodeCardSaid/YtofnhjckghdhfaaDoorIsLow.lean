/-
  The contracts of the program's smallest functions of layer 3.
-/
import Derived.Test.YtofnhjckghdhfaaDoorProg
import Derived.Test.YtofnhjckghdhfaaDoorIsMath
import Derived.WalkKit
import Derived.WalkSpells
import Derived.WalkLawsBesides
import Derived.Handy
import Derived.Lib.Hide
import Derived.LoopTactic
import Derived.Laws.OwnMore
import Derived.Outline
namespace Go.Proofs.YtofnhjckghdhfaaDoor
open Go.RowKit
set_option linter.unusedVariables false

theorem ret_int {k : IntKind} {a b : Int} (h : a = b) : Ending.returned (.int k a) = .returned (.int k b) := by rw [h]

theorem bitsOf_any (x : Int) (w : World) :
    Calls Tryd.prog 40 #[.int .u32 x] w fun e w' => e = .returned (.func (.func 75) #[] #[.pointer (some ⟨w.heap.size, 0, none⟩)]) ∧ w' = w.alloc (.cells #[.int .u32 x] 22) := by
  go_enter Tryd.func40, Tryd.ntmps40
  go_wp2
  go_ret
  exact ⟨rfl, rfl⟩

/-- the closure that tells the bits of what stands in block r -/
def Clo (r : Nat) : Value := .func (.func 75) #[] #[.pointer (some ⟨r, 0, none⟩)]

theorem bits1_any (x hi lo : Int) (r : Nat) (w : World) (h0 : 0 ≤ lo) (h1 : lo ≤ hi) (h2 : hi ≤ 31) (hx : Is.Wd x) (hc : w.cell? ⟨r, 0, none⟩ = some (.int .u32 x)) :
    Calls Tryd.prog 75 #[.int .i64 hi, .int .i64 lo, .pointer (some ⟨r, 0, none⟩)] w fun e w' => e = .returned (.int .u32 (Is.bt x hi lo)) ∧ w = w' := by
  have HX := Lib.hid hx; clear hx
  go_enter Tryd.func75, Tryd.ntmps75
  go_wp2
  go_ret
  exact ⟨ret_int (Is.bt_walk HX.out h0 h1 h2), rfl⟩

theorem upperImm_any (x : Int) (r : Nat) (w : World) (hx : Is.Wd x) (hc : w.cell? ⟨r, 0, none⟩ = some (.int .u32 x)) :
    Calls Tryd.prog 44 #[Clo r] w fun e w' => e = .returned (.int .u32 (Is.upperImm x)) ∧ w = w' := by
  have HX := Lib.hid hx; clear hx
  have HC := Lib.hid hc; clear hc
  unfold Clo
  go_enter Tryd.func44, Tryd.ntmps44
  go_wp2_with (go_at_call 75; refine (bits1_any x _ _ r _ (by decide) (by decide) (by decide) HX.out HC.out).mono ?_; rintro e w' ⟨rfl, rfl⟩)
  go_ret
  exact ⟨ret_int (Is.upperImm_walk HX.out), rfl⟩
theorem jumpImm_any (x : Int) (r : Nat) (w : World) (hx : Is.Wd x) (hc : w.cell? ⟨r, 0, none⟩ = some (.int .u32 x)) :
    Calls Tryd.prog 46 #[Clo r] w fun e w' => e = .returned (.int .u32 (Is.jumpImm x)) ∧ w = w' := by
  have HX := Lib.hid hx; clear hx
  have HC := Lib.hid hc; clear hc
  unfold Clo
  go_enter Tryd.func46, Tryd.ntmps46
  go_wp2_with (go_at_call 75; refine (bits1_any x _ _ r _ (by decide) (by decide) (by decide) HX.out HC.out).mono ?_; rintro e w' ⟨rfl, rfl⟩)
  go_ret
  exact ⟨ret_int (Is.jumpImm_walk HX.out), rfl⟩
theorem jumpPlace_any (x : Int) (r : Nat) (w : World) (hx : Is.Wd x) (hc : w.cell? ⟨r, 0, none⟩ = some (.int .u32 x)) :
    Calls Tryd.prog 47 #[Clo r] w fun e w' => e = .returned (.int .u32 (Is.jumpPlace x)) ∧ w = w' := by
  have HX := Lib.hid hx; clear hx
  have HC := Lib.hid hc; clear hc
  unfold Clo
  go_enter Tryd.func47, Tryd.ntmps47
  go_wp2_with (go_at_call 75; refine (bits1_any x _ _ r _ (by decide) (by decide) (by decide) HX.out HC.out).mono ?_; rintro e w' ⟨rfl, rfl⟩)
  go_ret
  exact ⟨ret_int (Is.jumpPlace_walk HX.out), rfl⟩
theorem shortImm_any (x : Int) (r : Nat) (w : World) (hx : Is.Wd x) (hc : w.cell? ⟨r, 0, none⟩ = some (.int .u32 x)) :
    Calls Tryd.prog 49 #[Clo r] w fun e w' => e = .returned (.int .u32 (Is.shortImm x)) ∧ w = w' := by
  have HX := Lib.hid hx; clear hx
  have HC := Lib.hid hc; clear hc
  unfold Clo
  go_enter Tryd.func49, Tryd.ntmps49
  go_wp2_with (go_at_call 75; refine (bits1_any x _ _ r _ (by decide) (by decide) (by decide) HX.out HC.out).mono ?_; rintro e w' ⟨rfl, rfl⟩)
  go_ret
  exact ⟨ret_int (Is.shortImm_walk HX.out), rfl⟩
theorem shortPlace_any (x : Int) (r : Nat) (w : World) (hx : Is.Wd x) (hc : w.cell? ⟨r, 0, none⟩ = some (.int .u32 x)) :
    Calls Tryd.prog 50 #[Clo r] w fun e w' => e = .returned (.int .u32 (Is.shortPlace x)) ∧ w = w' := by
  have HX := Lib.hid hx; clear hx
  have HC := Lib.hid hc; clear hc
  unfold Clo
  go_enter Tryd.func50, Tryd.ntmps50
  go_wp2_with (go_at_call 75; refine (bits1_any x _ _ r _ (by decide) (by decide) (by decide) HX.out HC.out).mono ?_; rintro e w' ⟨rfl, rfl⟩)
  go_ret
  exact ⟨ret_int (Is.shortPlace_walk HX.out), rfl⟩
theorem shiftImm_any (x : Int) (r : Nat) (w : World) (hx : Is.Wd x) (hc : w.cell? ⟨r, 0, none⟩ = some (.int .u32 x)) :
    Calls Tryd.prog 53 #[Clo r] w fun e w' => e = .returned (.int .u32 (Is.shiftImm x)) ∧ w = w' := by
  have HX := Lib.hid hx; clear hx
  have HC := Lib.hid hc; clear hc
  unfold Clo
  go_enter Tryd.func53, Tryd.ntmps53
  go_wp2_with (go_at_call 75; refine (bits1_any x _ _ r _ (by decide) (by decide) (by decide) HX.out HC.out).mono ?_; rintro e w' ⟨rfl, rfl⟩)
  go_ret
  exact ⟨ret_int (Is.shiftImm_walk _), rfl⟩
theorem shiftPlace_any (x : Int) (r : Nat) (w : World) (hx : Is.Wd x) (hc : w.cell? ⟨r, 0, none⟩ = some (.int .u32 x)) :
    Calls Tryd.prog 54 #[Clo r] w fun e w' => e = .returned (.int .u32 (Is.shiftPlace x)) ∧ w = w' := by
  have HX := Lib.hid hx; clear hx
  have HC := Lib.hid hc; clear hc
  unfold Clo
  go_enter Tryd.func54, Tryd.ntmps54
  go_wp2_with (go_at_call 75; refine (bits1_any x _ _ r _ (by decide) (by decide) (by decide) HX.out HC.out).mono ?_; rintro e w' ⟨rfl, rfl⟩)
  go_ret
  exact ⟨ret_int (Is.shiftPlace_walk HX.out), rfl⟩
theorem branchImm_any (x : Int) (r : Nat) (w : World) (hx : Is.Wd x) (hc : w.cell? ⟨r, 0, none⟩ = some (.int .u32 x)) :
    Calls Tryd.prog 55 #[Clo r] w fun e w' => e = .returned (.int .u32 (Is.branchImm x)) ∧ w = w' := by
  have HX := Lib.hid hx; clear hx
  have HC := Lib.hid hc; clear hc
  unfold Clo
  go_enter Tryd.func55, Tryd.ntmps55
  go_wp2_with (go_at_call 75; refine (bits1_any x _ _ r _ (by decide) (by decide) (by decide) HX.out HC.out).mono ?_; rintro e w' ⟨rfl, rfl⟩)
  go_ret
  exact ⟨ret_int (Is.branchImm_walk HX.out), rfl⟩
theorem branchPlace_any (x : Int) (r : Nat) (w : World) (hx : Is.Wd x) (hc : w.cell? ⟨r, 0, none⟩ = some (.int .u32 x)) :
    Calls Tryd.prog 56 #[Clo r] w fun e w' => e = .returned (.int .u32 (Is.branchPlace x)) ∧ w = w' := by
  have HX := Lib.hid hx; clear hx
  have HC := Lib.hid hc; clear hc
  unfold Clo
  go_enter Tryd.func56, Tryd.ntmps56
  go_wp2_with (go_at_call 75; refine (bits1_any x _ _ r _ (by decide) (by decide) (by decide) HX.out HC.out).mono ?_; rintro e w' ⟨rfl, rfl⟩)
  go_ret
  exact ⟨ret_int (Is.branchPlace_walk HX.out), rfl⟩
theorem storeImm_any (x : Int) (r : Nat) (w : World) (hx : Is.Wd x) (hc : w.cell? ⟨r, 0, none⟩ = some (.int .u32 x)) :
    Calls Tryd.prog 58 #[Clo r] w fun e w' => e = .returned (.int .u32 (Is.storeImm x)) ∧ w = w' := by
  have HX := Lib.hid hx; clear hx
  have HC := Lib.hid hc; clear hc
  unfold Clo
  go_enter Tryd.func58, Tryd.ntmps58
  go_wp2_with (go_at_call 75; refine (bits1_any x _ _ r _ (by decide) (by decide) (by decide) HX.out HC.out).mono ?_; rintro e w' ⟨rfl, rfl⟩)
  go_ret
  exact ⟨ret_int (Is.storeImm_walk HX.out), rfl⟩
theorem storePlace_any (x : Int) (r : Nat) (w : World) (hx : Is.Wd x) (hc : w.cell? ⟨r, 0, none⟩ = some (.int .u32 x)) :
    Calls Tryd.prog 59 #[Clo r] w fun e w' => e = .returned (.int .u32 (Is.storePlace x)) ∧ w = w' := by
  have HX := Lib.hid hx; clear hx
  have HC := Lib.hid hc; clear hc
  unfold Clo
  go_enter Tryd.func59, Tryd.ntmps59
  go_wp2_with (go_at_call 75; refine (bits1_any x _ _ r _ (by decide) (by decide) (by decide) HX.out HC.out).mono ?_; rintro e w' ⟨rfl, rfl⟩)
  go_ret
  exact ⟨ret_int (Is.storePlace_walk HX.out), rfl⟩
theorem noImm_any (x : Int) (r : Nat) (w : World) (hx : Is.Wd x) (hc : w.cell? ⟨r, 0, none⟩ = some (.int .u32 x)) :
    Calls Tryd.prog 61 #[Clo r] w fun e w' => e = .returned (.int .u32 (Is.noImm x)) ∧ w = w' := by
  have HX := Lib.hid hx; clear hx
  have HC := Lib.hid hc; clear hc
  unfold Clo
  go_enter Tryd.func61, Tryd.ntmps61
  go_wp2_with (go_at_call 75; refine (bits1_any x _ _ r _ (by decide) (by decide) (by decide) HX.out HC.out).mono ?_; rintro e w' ⟨rfl, rfl⟩)
  go_ret
  exact ⟨ret_int (Is.noImm_walk _), rfl⟩
theorem fenceImm_any (x : Int) (r : Nat) (w : World) (hx : Is.Wd x) (hc : w.cell? ⟨r, 0, none⟩ = some (.int .u32 x)) :
    Calls Tryd.prog 63 #[Clo r] w fun e w' => e = .returned (.int .u32 (Is.fenceImm x)) ∧ w = w' := by
  have HX := Lib.hid hx; clear hx
  have HC := Lib.hid hc; clear hc
  unfold Clo
  go_enter Tryd.func63, Tryd.ntmps63
  go_wp2_with (go_at_call 75; refine (bits1_any x _ _ r _ (by decide) (by decide) (by decide) HX.out HC.out).mono ?_; rintro e w' ⟨rfl, rfl⟩)
  go_ret
  exact ⟨ret_int (Is.fenceImm_walk _), rfl⟩
theorem fencePlace_any (x : Int) (r : Nat) (w : World) (hx : Is.Wd x) (hc : w.cell? ⟨r, 0, none⟩ = some (.int .u32 x)) :
    Calls Tryd.prog 64 #[Clo r] w fun e w' => e = .returned (.int .u32 (Is.fencePlace x)) ∧ w = w' := by
  have HX := Lib.hid hx; clear hx
  have HC := Lib.hid hc; clear hc
  unfold Clo
  go_enter Tryd.func64, Tryd.ntmps64
  go_wp2_with (go_at_call 75; refine (bits1_any x _ _ r _ (by decide) (by decide) (by decide) HX.out HC.out).mono ?_; rintro e w' ⟨rfl, rfl⟩)
  go_ret
  exact ⟨ret_int (Is.fencePlace_walk HX.out), rfl⟩
end Go.Proofs.YtofnhjckghdhfaaDoor
