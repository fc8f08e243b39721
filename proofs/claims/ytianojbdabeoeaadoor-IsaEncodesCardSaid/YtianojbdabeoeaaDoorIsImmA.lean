/-
  The document's own answer: an instruction that may not be, form by form.
-/
import Derived.Test.YtianojbdabeoeaaDoorIsPure
import Derived.Test.YtianojbdabeoeaaDoorIsForm
import Derived.BigGuardPart
namespace Go.Proofs.YtianojbdabeoeaaDoor
open Go.RowKit
set_option linter.unusedVariables false
set_option linter.unusedSimpArgs false

set_option maxRecDepth 100000 in
set_option maxHeartbeats 20000000 in
theorem rmayF1_imm (op : Nat) (h : 1 ≤ op ∧ op ≤ 59) (hk : Is.fm op = 1) (rd rs1 rs2 imm : Int) (aq rl : Bool) (hi : Is.Wd imm) (p_rd : 0 ≤ rd) (u_rd : rd ≤ 31) (i1 : ¬ imm % 4096 = 0) (w : World) :
    Calls Tryd.prog 6 #[inst op rd 0 0 imm false false] w fun e w' => e = .returned (.bool false) ∧ Below w.heap.size w w' := by
  have HF := Lib.hid (show Is.fb (Is.fm op) = 117 by rw [hk]; rfl)
  have HI := Lib.hid hi
  unfold Is.Wd at hi
  clear hk
  have t1 : (imm % 4096 == 0) = false := beq_eq_false_iff_ne.2 i1
  clear i1
  unfold inst
  go_enter Tryd.func6, Tryd.ntmps6
  go_wp2_with (first
    | (go_at_call 13; refine (rform_yes op h _).mono ?_; rw [HF.out]; rintro e w' ⟨rfl, rfl⟩)
    | (go_at_call 14; refine (rsigned_any imm HI.out _).mono ?_; rintro e w' ⟨rfl, rfl⟩))
  all_goals go_ret
  all_goals refine ⟨?_, (Below.refl _ _).alloc (Nat.le_refl _) _⟩
  all_goals first | rfl | (exfalso; omega)

set_option maxRecDepth 100000 in
set_option maxHeartbeats 20000000 in
theorem rmayF2_odd (op : Nat) (h : 1 ≤ op ∧ op ≤ 59) (hk : Is.fm op = 2) (rd rs1 rs2 imm : Int) (aq rl : Bool) (hi : Is.Wd imm) (p_rd : 0 ≤ rd) (u_rd : rd ≤ 31) (i1 : ¬ imm % 2 = 0) (w : World) :
    Calls Tryd.prog 6 #[inst op rd 0 0 imm false false] w fun e w' => e = .returned (.bool false) ∧ Below w.heap.size w w' := by
  have HF := Lib.hid (show Is.fb (Is.fm op) = 106 by rw [hk]; rfl)
  have HI := Lib.hid hi
  unfold Is.Wd at hi
  clear hk
  have t2 : ((Is.sg imm).tmod 2 == 0) = false := by
    have e : (Is.sg imm) % 2 = 1 := by unfold Is.sg; split <;> omega
    rw [beq_eq_false_iff_ne, Int.tmod_eq_emod]; split <;> simp <;> omega
  clear i1
  unfold inst
  go_enter Tryd.func6, Tryd.ntmps6
  go_wp2_with (first
    | (go_at_call 13; refine (rform_yes op h _).mono ?_; rw [HF.out]; rintro e w' ⟨rfl, rfl⟩)
    | (go_at_call 14; refine (rsigned_any imm HI.out _).mono ?_; rintro e w' ⟨rfl, rfl⟩))
  all_goals go_ret
  all_goals refine ⟨?_, (Below.refl _ _).alloc (Nat.le_refl _) _⟩
  all_goals first | rfl | (exfalso; omega) | (show Ending.returned (.bool (decide (Is.sg imm ≤ 1048574))) = Ending.returned (.bool false); rw [decide_eq_false (by omega)])

set_option maxRecDepth 100000 in
set_option maxHeartbeats 20000000 in
theorem rmayF2_below (op : Nat) (h : 1 ≤ op ∧ op ≤ 59) (hk : Is.fm op = 2) (rd rs1 rs2 imm : Int) (aq rl : Bool) (hi : Is.Wd imm) (p_rd : 0 ≤ rd) (u_rd : rd ≤ 31) (i1 : imm % 2 = 0) (i2 : Is.sg imm < -1048576) (w : World) :
    Calls Tryd.prog 6 #[inst op rd 0 0 imm false false] w fun e w' => e = .returned (.bool false) ∧ Below w.heap.size w w' := by
  have HF := Lib.hid (show Is.fb (Is.fm op) = 106 by rw [hk]; rfl)
  have HI := Lib.hid hi
  unfold Is.Wd at hi
  clear hk
  have t2 : ((Is.sg imm).tmod 2 == 0) = true := by
    have e : (Is.sg imm) % 2 = 0 := by unfold Is.sg; split <;> omega
    rw [Int.tmod_eq_emod]; simp [e]; try omega
  clear i1
  unfold inst
  go_enter Tryd.func6, Tryd.ntmps6
  go_wp2_with (first
    | (go_at_call 13; refine (rform_yes op h _).mono ?_; rw [HF.out]; rintro e w' ⟨rfl, rfl⟩)
    | (go_at_call 14; refine (rsigned_any imm HI.out _).mono ?_; rintro e w' ⟨rfl, rfl⟩))
  all_goals go_ret
  all_goals refine ⟨?_, (Below.refl _ _).alloc (Nat.le_refl _) _⟩
  all_goals first | rfl | (exfalso; omega) | (show Ending.returned (.bool (decide (Is.sg imm ≤ 1048574))) = Ending.returned (.bool false); rw [decide_eq_false (by omega)])

set_option maxRecDepth 100000 in
set_option maxHeartbeats 20000000 in
theorem rmayF2_above (op : Nat) (h : 1 ≤ op ∧ op ≤ 59) (hk : Is.fm op = 2) (rd rs1 rs2 imm : Int) (aq rl : Bool) (hi : Is.Wd imm) (p_rd : 0 ≤ rd) (u_rd : rd ≤ 31) (i1 : imm % 2 = 0) (i2 : -1048576 ≤ Is.sg imm) (i3 : 1048574 < Is.sg imm) (w : World) :
    Calls Tryd.prog 6 #[inst op rd 0 0 imm false false] w fun e w' => e = .returned (.bool false) ∧ Below w.heap.size w w' := by
  have HF := Lib.hid (show Is.fb (Is.fm op) = 106 by rw [hk]; rfl)
  have HI := Lib.hid hi
  unfold Is.Wd at hi
  clear hk
  have t2 : ((Is.sg imm).tmod 2 == 0) = true := by
    have e : (Is.sg imm) % 2 = 0 := by unfold Is.sg; split <;> omega
    rw [Int.tmod_eq_emod]; simp [e]; try omega
  clear i1
  unfold inst
  go_enter Tryd.func6, Tryd.ntmps6
  go_wp2_with (first
    | (go_at_call 13; refine (rform_yes op h _).mono ?_; rw [HF.out]; rintro e w' ⟨rfl, rfl⟩)
    | (go_at_call 14; refine (rsigned_any imm HI.out _).mono ?_; rintro e w' ⟨rfl, rfl⟩))
  all_goals go_ret
  all_goals refine ⟨?_, (Below.refl _ _).alloc (Nat.le_refl _) _⟩
  all_goals first | rfl | (exfalso; omega) | (show Ending.returned (.bool (decide (Is.sg imm ≤ 1048574))) = Ending.returned (.bool false); rw [decide_eq_false (by omega)])
end Go.Proofs.YtianojbdabeoeaaDoor
