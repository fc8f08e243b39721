/-
  The document's own answer: an instruction that may not be, form by form.
-/
import Derived.Test.YtianojbdabeoeaaDoorIsPure
import Derived.Test.YtianojbdabeoeaaDoorIsForm
import Derived.BigGuardPart
namespace Go.Proofs.YtianojbdabeoeaaDoor
open Go.RowKit
set_option linter.unusedVariables false
set_option linter.unusedSimpArgs false

set_option maxRecDepth 100000 in
set_option maxHeartbeats 20000000 in
theorem rmayF6_above (op : Nat) (h : 1 ≤ op ∧ op ≤ 59) (hk : Is.fm op = 6) (rd rs1 rs2 imm : Int) (aq rl : Bool) (hi : Is.Wd imm) (p_rs1 : 0 ≤ rs1) (u_rs1 : rs1 ≤ 31) (p_rs2 : 0 ≤ rs2) (u_rs2 : rs2 ≤ 31) (i1 : imm % 2 = 0) (i2 : -4096 ≤ Is.sg imm) (i3 : 4094 < Is.sg imm) (w : World) :
    Calls Tryd.prog 6 #[inst op 0 rs1 rs2 imm false false] w fun e w' => e = .returned (.bool false) ∧ Below w.heap.size w w' := by
  have HF := Lib.hid (show Is.fb (Is.fm op) = 98 by rw [hk]; rfl)
  have HI := Lib.hid hi
  unfold Is.Wd at hi
  clear hk
  have t2 : ((Is.sg imm).tmod 2 == 0) = true := by
    have e : (Is.sg imm) % 2 = 0 := by unfold Is.sg; split <;> omega
    rw [Int.tmod_eq_emod]; simp [e]; try omega
  clear i1
  unfold inst
  go_enter Tryd.func6, Tryd.ntmps6
  go_wp2_with (first
    | (go_at_call 13; refine (rform_yes op h _).mono ?_; rw [HF.out]; rintro e w' ⟨rfl, rfl⟩)
    | (go_at_call 14; refine (rsigned_any imm HI.out _).mono ?_; rintro e w' ⟨rfl, rfl⟩))
  all_goals go_ret
  all_goals refine ⟨?_, (Below.refl _ _).alloc (Nat.le_refl _) _⟩
  all_goals first | rfl | (exfalso; omega) | (show Ending.returned (.bool (decide (Is.sg imm ≤ 4094))) = Ending.returned (.bool false); rw [decide_eq_false (by omega)])

set_option maxRecDepth 100000 in
set_option maxHeartbeats 20000000 in
theorem rmayF7_below (op : Nat) (h : 1 ≤ op ∧ op ≤ 59) (hk : Is.fm op = 7) (rd rs1 rs2 imm : Int) (aq rl : Bool) (hi : Is.Wd imm) (p_rs1 : 0 ≤ rs1) (u_rs1 : rs1 ≤ 31) (p_rs2 : 0 ≤ rs2) (u_rs2 : rs2 ≤ 31) (i2 : Is.sg imm < -2048) (w : World) :
    Calls Tryd.prog 6 #[inst op 0 rs1 rs2 imm false false] w fun e w' => e = .returned (.bool false) ∧ Below w.heap.size w w' := by
  have HF := Lib.hid (show Is.fb (Is.fm op) = 115 by rw [hk]; rfl)
  have HI := Lib.hid hi
  unfold Is.Wd at hi
  clear hk
  unfold inst
  go_enter Tryd.func6, Tryd.ntmps6
  go_wp2_with (first
    | (go_at_call 13; refine (rform_yes op h _).mono ?_; rw [HF.out]; rintro e w' ⟨rfl, rfl⟩)
    | (go_at_call 14; refine (rsigned_any imm HI.out _).mono ?_; rintro e w' ⟨rfl, rfl⟩))
  all_goals go_ret
  all_goals refine ⟨?_, (Below.refl _ _).alloc (Nat.le_refl _) _⟩
  all_goals first | rfl | (exfalso; omega) | (show Ending.returned (.bool (decide (Is.sg imm ≤ 2047))) = Ending.returned (.bool false); rw [decide_eq_false (by omega)])

set_option maxRecDepth 100000 in
set_option maxHeartbeats 20000000 in
theorem rmayF7_above (op : Nat) (h : 1 ≤ op ∧ op ≤ 59) (hk : Is.fm op = 7) (rd rs1 rs2 imm : Int) (aq rl : Bool) (hi : Is.Wd imm) (p_rs1 : 0 ≤ rs1) (u_rs1 : rs1 ≤ 31) (p_rs2 : 0 ≤ rs2) (u_rs2 : rs2 ≤ 31) (i2 : -2048 ≤ Is.sg imm) (i3 : 2047 < Is.sg imm) (w : World) :
    Calls Tryd.prog 6 #[inst op 0 rs1 rs2 imm false false] w fun e w' => e = .returned (.bool false) ∧ Below w.heap.size w w' := by
  have HF := Lib.hid (show Is.fb (Is.fm op) = 115 by rw [hk]; rfl)
  have HI := Lib.hid hi
  unfold Is.Wd at hi
  clear hk
  unfold inst
  go_enter Tryd.func6, Tryd.ntmps6
  go_wp2_with (first
    | (go_at_call 13; refine (rform_yes op h _).mono ?_; rw [HF.out]; rintro e w' ⟨rfl, rfl⟩)
    | (go_at_call 14; refine (rsigned_any imm HI.out _).mono ?_; rintro e w' ⟨rfl, rfl⟩))
  all_goals go_ret
  all_goals refine ⟨?_, (Below.refl _ _).alloc (Nat.le_refl _) _⟩
  all_goals first | rfl | (exfalso; omega) | (show Ending.returned (.bool (decide (Is.sg imm ≤ 2047))) = Ending.returned (.bool false); rw [decide_eq_false (by omega)])

set_option maxRecDepth 100000 in
set_option maxHeartbeats 20000000 in
theorem rmayF8_imm (op : Nat) (h : 1 ≤ op ∧ op ≤ 59) (hk : Is.fm op = 8) (rd rs1 rs2 imm : Int) (aq rl : Bool) (hi : Is.Wd imm) (p_rd : 0 ≤ rd) (u_rd : rd ≤ 31) (p_rs1 : 0 ≤ rs1) (u_rs1 : rs1 ≤ 31) (p_rs2 : 0 ≤ rs2) (u_rs2 : rs2 ≤ 31) (i1 : ¬ imm = 0) (w : World) :
    Calls Tryd.prog 6 #[inst op rd rs1 rs2 imm false false] w fun e w' => e = .returned (.bool false) ∧ Below w.heap.size w w' := by
  have HF := Lib.hid (show Is.fb (Is.fm op) = 114 by rw [hk]; rfl)
  have HI := Lib.hid hi
  unfold Is.Wd at hi
  clear hk
  have t1 : (imm == 0) = false := beq_eq_false_iff_ne.2 i1
  clear i1
  unfold inst
  go_enter Tryd.func6, Tryd.ntmps6
  go_wp2_with (first
    | (go_at_call 13; refine (rform_yes op h _).mono ?_; rw [HF.out]; rintro e w' ⟨rfl, rfl⟩)
    | (go_at_call 14; refine (rsigned_any imm HI.out _).mono ?_; rintro e w' ⟨rfl, rfl⟩))
  all_goals go_ret
  all_goals refine ⟨?_, (Below.refl _ _).alloc (Nat.le_refl _) _⟩
  all_goals first | rfl | (exfalso; omega)
end Go.Proofs.YtianojbdabeoeaaDoor
