/-
  The document's own answer: an instruction that may not be, form by form.
-/
import Derived.Test.YtianojbdabeoeaaDoorIsPure
import Derived.Test.YtianojbdabeoeaaDoorIsForm
import Derived.BigGuardPart
namespace Go.Proofs.YtianojbdabeoeaaDoor
open Go.RowKit
set_option linter.unusedVariables false
set_option linter.unusedSimpArgs false

set_option maxRecDepth 100000 in
set_option maxHeartbeats 20000000 in
theorem rmayF9_below (op : Nat) (h : 1 ≤ op ∧ op ≤ 59) (hk : Is.fm op = 9) (rd rs1 rs2 imm : Int) (aq rl : Bool) (hi : Is.Wd imm) (i2 : Is.sg imm < 0) (w : World) :
    Calls Tryd.prog 6 #[inst op 0 0 0 imm false false] w fun e w' => e = .returned (.bool false) ∧ Below w.heap.size w w' := by
  have HF := Lib.hid (show Is.fb (Is.fm op) = 102 by rw [hk]; rfl)
  have HI := Lib.hid hi
  unfold Is.Wd at hi
  clear hk
  unfold inst
  go_enter Tryd.func6, Tryd.ntmps6
  go_wp2_with (first
    | (go_at_call 13; refine (rform_yes op h _).mono ?_; rw [HF.out]; rintro e w' ⟨rfl, rfl⟩)
    | (go_at_call 14; refine (rsigned_any imm HI.out _).mono ?_; rintro e w' ⟨rfl, rfl⟩))
  all_goals go_ret
  all_goals exact ⟨rfl, (Below.refl _ _).alloc (Nat.le_refl _) _⟩

set_option maxRecDepth 100000 in
set_option maxHeartbeats 20000000 in
theorem rmayF9_above (op : Nat) (h : 1 ≤ op ∧ op ≤ 59) (hk : Is.fm op = 9) (rd rs1 rs2 imm : Int) (aq rl : Bool) (hi : Is.Wd imm) (i2 : 0 ≤ Is.sg imm) (i3 : 255 < Is.sg imm) (w : World) :
    Calls Tryd.prog 6 #[inst op 0 0 0 imm false false] w fun e w' => e = .returned (.bool false) ∧ Below w.heap.size w w' := by
  have HF := Lib.hid (show Is.fb (Is.fm op) = 102 by rw [hk]; rfl)
  have HI := Lib.hid hi
  unfold Is.Wd at hi
  clear hk
  unfold inst
  go_enter Tryd.func6, Tryd.ntmps6
  go_wp2_with (first
    | (go_at_call 13; refine (rform_yes op h _).mono ?_; rw [HF.out]; rintro e w' ⟨rfl, rfl⟩)
    | (go_at_call 14; refine (rsigned_any imm HI.out _).mono ?_; rintro e w' ⟨rfl, rfl⟩))
  all_goals go_ret
  exact ⟨(show Ending.returned (.bool (decide (Is.sg imm ≤ 255))) = Ending.returned (.bool false) by rw [decide_eq_false (by omega)]), (Below.refl _ _).alloc (Nat.le_refl _) _⟩

set_option maxRecDepth 100000 in
set_option maxHeartbeats 20000000 in
theorem rmayF10_imm (op : Nat) (h : 1 ≤ op ∧ op ≤ 59) (hk : Is.fm op = 10) (rd rs1 rs2 imm : Int) (aq rl : Bool) (hi : Is.Wd imm) (i1 : ¬ imm = 0) (w : World) :
    Calls Tryd.prog 6 #[inst op 0 0 0 imm false false] w fun e w' => e = .returned (.bool false) ∧ Below w.heap.size w w' := by
  have HF := Lib.hid (show Is.fb (Is.fm op) = 101 by rw [hk]; rfl)
  have HI := Lib.hid hi
  unfold Is.Wd at hi
  clear hk
  have t1 : (imm == 0) = false := beq_eq_false_iff_ne.2 i1
  clear i1
  unfold inst
  go_enter Tryd.func6, Tryd.ntmps6
  go_wp2_with (first
    | (go_at_call 13; refine (rform_yes op h _).mono ?_; rw [HF.out]; rintro e w' ⟨rfl, rfl⟩)
    | (go_at_call 14; refine (rsigned_any imm HI.out _).mono ?_; rintro e w' ⟨rfl, rfl⟩))
  all_goals go_ret
  all_goals exact ⟨rfl, (Below.refl _ _).alloc (Nat.le_refl _) _⟩

set_option maxRecDepth 100000 in
set_option maxHeartbeats 20000000 in
theorem rmayF11_imm (op : Nat) (h : 1 ≤ op ∧ op ≤ 59) (hk : Is.fm op = 11) (rd rs1 rs2 imm : Int) (aq rl : Bool) (hi : Is.Wd imm) (p_rd : 0 ≤ rd) (u_rd : rd ≤ 31) (p_rs1 : 0 ≤ rs1) (u_rs1 : rs1 ≤ 31) (p_rs2 : 0 ≤ rs2) (u_rs2 : rs2 ≤ 31) (i1 : ¬ imm = 0) (w : World) :
    Calls Tryd.prog 6 #[inst op rd rs1 rs2 imm aq rl] w fun e w' => e = .returned (.bool false) ∧ Below w.heap.size w w' := by
  have HF := Lib.hid (show Is.fb (Is.fm op) = 97 by rw [hk]; rfl)
  have HI := Lib.hid hi
  unfold Is.Wd at hi
  clear hk
  have t1 : (imm == 0) = false := beq_eq_false_iff_ne.2 i1
  clear i1
  unfold inst
  go_enter Tryd.func6, Tryd.ntmps6
  go_wp2_with (first
    | (go_at_call 13; refine (rform_yes op h _).mono ?_; rw [HF.out]; rintro e w' ⟨rfl, rfl⟩)
    | (go_at_call 14; refine (rsigned_any imm HI.out _).mono ?_; rintro e w' ⟨rfl, rfl⟩))
  all_goals go_ret
  all_goals exact ⟨rfl, (Below.refl _ _).alloc (Nat.le_refl _) _⟩
end Go.Proofs.YtianojbdabeoeaaDoor
