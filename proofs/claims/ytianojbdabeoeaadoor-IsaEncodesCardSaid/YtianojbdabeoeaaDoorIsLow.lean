/-
  The contracts of the program's smallest functions of layer 3.
-/
import Derived.Test.YtianojbdabeoeaaDoorProg
import Derived.Test.YtianojbdabeoeaaDoorIsMath
import Derived.WalkKit
import Derived.WalkSpells
import Derived.WalkLawsBesides
import Derived.Handy
import Derived.Lib.Hide
import Derived.LoopTactic
import Derived.Laws.OwnMore
import Derived.Outline
namespace Go.Proofs.YtianojbdabeoeaaDoor
open Go.RowKit
set_option linter.unusedVariables false

theorem ret_int {k : IntKind} {a b : Int} (h : a = b) : Ending.returned (.int k a) = .returned (.int k b) := by rw [h]

theorem bitsOf_any (x : Int) (w : World) :
    Calls Tryd.prog 48 #[.int .u32 x] w fun e w' => e = .returned (.func (.func 57) #[] #[.pointer (some ⟨w.heap.size, 0, none⟩)]) ∧ w' = w.alloc (.cells #[.int .u32 x] 24) := by
  go_enter Tryd.func48, Tryd.ntmps48
  go_wp2
  go_ret
  exact ⟨rfl, rfl⟩

/-- the closure that tells the bits of what stands in block r -/
def Clo (r : Nat) : Value := .func (.func 57) #[] #[.pointer (some ⟨r, 0, none⟩)]

theorem bits1_any (x hi lo : Int) (r : Nat) (w : World) (h0 : 0 ≤ lo) (h1 : lo ≤ hi) (h2 : hi ≤ 31) (hx : Is.Wd x) (hc : w.cell? ⟨r, 0, none⟩ = some (.int .u32 x)) :
    Calls Tryd.prog 57 #[.int .i64 hi, .int .i64 lo, .pointer (some ⟨r, 0, none⟩)] w fun e w' => e = .returned (.int .u32 (Is.bt x hi lo)) ∧ w = w' := by
  have HX := Lib.hid hx; clear hx
  go_enter Tryd.func57, Tryd.ntmps57
  go_wp2
  go_ret
  exact ⟨ret_int (Is.bt_walk HX.out h0 h1 h2), rfl⟩

theorem upperImm_any (x : Int) (r : Nat) (w : World) (hx : Is.Wd x) (hc : w.cell? ⟨r, 0, none⟩ = some (.int .u32 x)) :
    Calls Tryd.prog 22 #[Clo r] w fun e w' => e = .returned (.int .u32 (Is.upperImm x)) ∧ w = w' := by
  have HX := Lib.hid hx; clear hx
  have HC := Lib.hid hc; clear hc
  unfold Clo
  go_enter Tryd.func22, Tryd.ntmps22
  go_wp2_with (go_at_call 57; refine (bits1_any x _ _ r _ (by decide) (by decide) (by decide) HX.out HC.out).mono ?_; rintro e w' ⟨rfl, rfl⟩)
  go_ret
  exact ⟨ret_int (Is.upperImm_walk HX.out), rfl⟩
theorem jumpImm_any (x : Int) (r : Nat) (w : World) (hx : Is.Wd x) (hc : w.cell? ⟨r, 0, none⟩ = some (.int .u32 x)) :
    Calls Tryd.prog 24 #[Clo r] w fun e w' => e = .returned (.int .u32 (Is.jumpImm x)) ∧ w = w' := by
  have HX := Lib.hid hx; clear hx
  have HC := Lib.hid hc; clear hc
  unfold Clo
  go_enter Tryd.func24, Tryd.ntmps24
  go_wp2_with (go_at_call 57; refine (bits1_any x _ _ r _ (by decide) (by decide) (by decide) HX.out HC.out).mono ?_; rintro e w' ⟨rfl, rfl⟩)
  go_ret
  exact ⟨ret_int (Is.jumpImm_walk HX.out), rfl⟩
theorem jumpPlace_any (x : Int) (r : Nat) (w : World) (hx : Is.Wd x) (hc : w.cell? ⟨r, 0, none⟩ = some (.int .u32 x)) :
    Calls Tryd.prog 25 #[Clo r] w fun e w' => e = .returned (.int .u32 (Is.jumpPlace x)) ∧ w = w' := by
  have HX := Lib.hid hx; clear hx
  have HC := Lib.hid hc; clear hc
  unfold Clo
  go_enter Tryd.func25, Tryd.ntmps25
  go_wp2_with (go_at_call 57; refine (bits1_any x _ _ r _ (by decide) (by decide) (by decide) HX.out HC.out).mono ?_; rintro e w' ⟨rfl, rfl⟩)
  go_ret
  exact ⟨ret_int (Is.jumpPlace_walk HX.out), rfl⟩
theorem shortImm_any (x : Int) (r : Nat) (w : World) (hx : Is.Wd x) (hc : w.cell? ⟨r, 0, none⟩ = some (.int .u32 x)) :
    Calls Tryd.prog 27 #[Clo r] w fun e w' => e = .returned (.int .u32 (Is.shortImm x)) ∧ w = w' := by
  have HX := Lib.hid hx; clear hx
  have HC := Lib.hid hc; clear hc
  unfold Clo
  go_enter Tryd.func27, Tryd.ntmps27
  go_wp2_with (go_at_call 57; refine (bits1_any x _ _ r _ (by decide) (by decide) (by decide) HX.out HC.out).mono ?_; rintro e w' ⟨rfl, rfl⟩)
  go_ret
  exact ⟨ret_int (Is.shortImm_walk HX.out), rfl⟩
theorem shortPlace_any (x : Int) (r : Nat) (w : World) (hx : Is.Wd x) (hc : w.cell? ⟨r, 0, none⟩ = some (.int .u32 x)) :
    Calls Tryd.prog 28 #[Clo r] w fun e w' => e = .returned (.int .u32 (Is.shortPlace x)) ∧ w = w' := by
  have HX := Lib.hid hx; clear hx
  have HC := Lib.hid hc; clear hc
  unfold Clo
  go_enter Tryd.func28, Tryd.ntmps28
  go_wp2_with (go_at_call 57; refine (bits1_any x _ _ r _ (by decide) (by decide) (by decide) HX.out HC.out).mono ?_; rintro e w' ⟨rfl, rfl⟩)
  go_ret
  exact ⟨ret_int (Is.shortPlace_walk HX.out), rfl⟩
theorem shiftImm_any (x : Int) (r : Nat) (w : World) (hx : Is.Wd x) (hc : w.cell? ⟨r, 0, none⟩ = some (.int .u32 x)) :
    Calls Tryd.prog 31 #[Clo r] w fun e w' => e = .returned (.int .u32 (Is.shiftImm x)) ∧ w = w' := by
  have HX := Lib.hid hx; clear hx
  have HC := Lib.hid hc; clear hc
  unfold Clo
  go_enter Tryd.func31, Tryd.ntmps31
  go_wp2_with (go_at_call 57; refine (bits1_any x _ _ r _ (by decide) (by decide) (by decide) HX.out HC.out).mono ?_; rintro e w' ⟨rfl, rfl⟩)
  go_ret
  exact ⟨ret_int (Is.shiftImm_walk _), rfl⟩
theorem shiftPlace_any (x : Int) (r : Nat) (w : World) (hx : Is.Wd x) (hc : w.cell? ⟨r, 0, none⟩ = some (.int .u32 x)) :
    Calls Tryd.prog 32 #[Clo r] w fun e w' => e = .returned (.int .u32 (Is.shiftPlace x)) ∧ w = w' := by
  have HX := Lib.hid hx; clear hx
  have HC := Lib.hid hc; clear hc
  unfold Clo
  go_enter Tryd.func32, Tryd.ntmps32
  go_wp2_with (go_at_call 57; refine (bits1_any x _ _ r _ (by decide) (by decide) (by decide) HX.out HC.out).mono ?_; rintro e w' ⟨rfl, rfl⟩)
  go_ret
  exact ⟨ret_int (Is.shiftPlace_walk HX.out), rfl⟩
theorem branchImm_any (x : Int) (r : Nat) (w : World) (hx : Is.Wd x) (hc : w.cell? ⟨r, 0, none⟩ = some (.int .u32 x)) :
    Calls Tryd.prog 33 #[Clo r] w fun e w' => e = .returned (.int .u32 (Is.branchImm x)) ∧ w = w' := by
  have HX := Lib.hid hx; clear hx
  have HC := Lib.hid hc; clear hc
  unfold Clo
  go_enter Tryd.func33, Tryd.ntmps33
  go_wp2_with (go_at_call 57; refine (bits1_any x _ _ r _ (by decide) (by decide) (by decide) HX.out HC.out).mono ?_; rintro e w' ⟨rfl, rfl⟩)
  go_ret
  exact ⟨ret_int (Is.branchImm_walk HX.out), rfl⟩
theorem branchPlace_any (x : Int) (r : Nat) (w : World) (hx : Is.Wd x) (hc : w.cell? ⟨r, 0, none⟩ = some (.int .u32 x)) :
    Calls Tryd.prog 34 #[Clo r] w fun e w' => e = .returned (.int .u32 (Is.branchPlace x)) ∧ w = w' := by
  have HX := Lib.hid hx; clear hx
  have HC := Lib.hid hc; clear hc
  unfold Clo
  go_enter Tryd.func34, Tryd.ntmps34
  go_wp2_with (go_at_call 57; refine (bits1_any x _ _ r _ (by decide) (by decide) (by decide) HX.out HC.out).mono ?_; rintro e w' ⟨rfl, rfl⟩)
  go_ret
  exact ⟨ret_int (Is.branchPlace_walk HX.out), rfl⟩
theorem storeImm_any (x : Int) (r : Nat) (w : World) (hx : Is.Wd x) (hc : w.cell? ⟨r, 0, none⟩ = some (.int .u32 x)) :
    Calls Tryd.prog 36 #[Clo r] w fun e w' => e = .returned (.int .u32 (Is.storeImm x)) ∧ w = w' := by
  have HX := Lib.hid hx; clear hx
  have HC := Lib.hid hc; clear hc
  unfold Clo
  go_enter Tryd.func36, Tryd.ntmps36
  go_wp2_with (go_at_call 57; refine (bits1_any x _ _ r _ (by decide) (by decide) (by decide) HX.out HC.out).mono ?_; rintro e w' ⟨rfl, rfl⟩)
  go_ret
  exact ⟨ret_int (Is.storeImm_walk HX.out), rfl⟩
theorem storePlace_any (x : Int) (r : Nat) (w : World) (hx : Is.Wd x) (hc : w.cell? ⟨r, 0, none⟩ = some (.int .u32 x)) :
    Calls Tryd.prog 37 #[Clo r] w fun e w' => e = .returned (.int .u32 (Is.storePlace x)) ∧ w = w' := by
  have HX := Lib.hid hx; clear hx
  have HC := Lib.hid hc; clear hc
  unfold Clo
  go_enter Tryd.func37, Tryd.ntmps37
  go_wp2_with (go_at_call 57; refine (bits1_any x _ _ r _ (by decide) (by decide) (by decide) HX.out HC.out).mono ?_; rintro e w' ⟨rfl, rfl⟩)
  go_ret
  exact ⟨ret_int (Is.storePlace_walk HX.out), rfl⟩
theorem noImm_any (x : Int) (r : Nat) (w : World) (hx : Is.Wd x) (hc : w.cell? ⟨r, 0, none⟩ = some (.int .u32 x)) :
    Calls Tryd.prog 39 #[Clo r] w fun e w' => e = .returned (.int .u32 (Is.noImm x)) ∧ w = w' := by
  have HX := Lib.hid hx; clear hx
  have HC := Lib.hid hc; clear hc
  unfold Clo
  go_enter Tryd.func39, Tryd.ntmps39
  go_wp2_with (go_at_call 57; refine (bits1_any x _ _ r _ (by decide) (by decide) (by decide) HX.out HC.out).mono ?_; rintro e w' ⟨rfl, rfl⟩)
  go_ret
  exact ⟨ret_int (Is.noImm_walk _), rfl⟩
theorem fenceImm_any (x : Int) (r : Nat) (w : World) (hx : Is.Wd x) (hc : w.cell? ⟨r, 0, none⟩ = some (.int .u32 x)) :
    Calls Tryd.prog 41 #[Clo r] w fun e w' => e = .returned (.int .u32 (Is.fenceImm x)) ∧ w = w' := by
  have HX := Lib.hid hx; clear hx
  have HC := Lib.hid hc; clear hc
  unfold Clo
  go_enter Tryd.func41, Tryd.ntmps41
  go_wp2_with (go_at_call 57; refine (bits1_any x _ _ r _ (by decide) (by decide) (by decide) HX.out HC.out).mono ?_; rintro e w' ⟨rfl, rfl⟩)
  go_ret
  exact ⟨ret_int (Is.fenceImm_walk _), rfl⟩
theorem fencePlace_any (x : Int) (r : Nat) (w : World) (hx : Is.Wd x) (hc : w.cell? ⟨r, 0, none⟩ = some (.int .u32 x)) :
    Calls Tryd.prog 42 #[Clo r] w fun e w' => e = .returned (.int .u32 (Is.fencePlace x)) ∧ w = w' := by
  have HX := Lib.hid hx; clear hx
  have HC := Lib.hid hc; clear hc
  unfold Clo
  go_enter Tryd.func42, Tryd.ntmps42
  go_wp2_with (go_at_call 57; refine (bits1_any x _ _ r _ (by decide) (by decide) (by decide) HX.out HC.out).mono ?_; rintro e w' ⟨rfl, rfl⟩)
  go_ret
  exact ⟨ret_int (Is.fencePlace_walk HX.out), rfl⟩
end Go.Proofs.YtianojbdabeoeaaDoor
