/-
  The document's own answer: whatever may not be.
-/
import Derived.Test.YtianojbdabeoeaaDoorIsUnfA
import Derived.Test.YtianojbdabeoeaaDoorIsUnfB
import Derived.Test.YtianojbdabeoeaaDoorIsUnfC
import Derived.Test.YtianojbdabeoeaaDoorIsUnfD
import Derived.Test.YtianojbdabeoeaaDoorIsUnfE
import Derived.Test.YtianojbdabeoeaaDoorIsImmA
import Derived.Test.YtianojbdabeoeaaDoorIsImmB
import Derived.Test.YtianojbdabeoeaaDoorIsImmC
import Derived.Test.YtianojbdabeoeaaDoorIsImmD
import Derived.Test.YtianojbdabeoeaaDoorIsImmE
import Derived.Test.YtianojbdabeoeaaDoorIsImmF
import Derived.Test.YtianojbdabeoeaaDoorIsRefb
namespace Go.Proofs.YtianojbdabeoeaaDoor
open Go.RowKit
set_option linter.unusedVariables false
set_option linter.unusedSimpArgs false

set_option maxRecDepth 100000 in
set_option maxHeartbeats 4000000 in
theorem rmay_bad (n : Int) (h : n < 1 ∨ 59 < n) (rd rs1 rs2 imm : Int) (aq rl : Bool) (w : World) :
    Calls Tryd.prog 6 #[inst n rd rs1 rs2 imm aq rl] w fun e w' => e = .returned (.bool false) ∧ Below w.heap.size w w' := by
  unfold inst
  go_enter Tryd.func6, Tryd.ntmps6
  go_wp2_with (first
    | (go_at_call 13; refine (rform_no n h _).mono ?_; rintro e w' ⟨rfl, rfl⟩)
    | refine Ex.stopL ?_)
  refine ⟨Ex.unfit (fr := (0, 0)) (t0 := 30) (ts := []) (g := w.heap.size) (row := #[.int .i64 n, .int .i64 rd, .int .i64 rs1, .int .i64 rs2, .int .u32 imm, .bool aq, .bool rl]) ?_ [] 0 (by assumption) ?_ ?_ rfl ⟨rfl, rfl, rfl⟩ ⟨rfl, (Below.refl _ _).alloc (Nat.le_refl _) _⟩⟩
  · exact Array.getElem?_push_size
  · as_aux_lemma => kernel_rfl
  · intro t ht; cases ht

theorem rmayN1 (op : Nat) (h : 1 ≤ op ∧ op ≤ 59) (hk : Is.fm op = 1) (rd rs1 rs2 imm : Int) (aq rl : Bool) (hi : Is.Wd imm) (hn : ¬ Is.mayP 1 rd rs1 rs2 imm aq rl) (w : World) :
    Calls Tryd.prog 6 #[inst op rd rs1 rs2 imm aq rl] w fun e w' => e = .returned (.bool false) ∧ Below w.heap.size w w' := by
  have hi' := hi
  unfold Is.Wd at hi'
  rcases (show rd < 0 ∨ 0 ≤ rd by omega) with c_rd | p_rd
  · exact rmayF1_rdlo op h hk rd rs1 rs2 imm aq rl (by assumption) w
  rcases (show 31 < rd ∨ rd ≤ 31 by omega) with c_rd | u_rd
  · exact rmayF1_rdhi op h hk rd rs1 rs2 imm aq rl (by assumption) (by assumption) w
  rcases (show rs1 < 0 ∨ 0 ≤ rs1 by omega) with c_rs1 | p_rs1
  · exact rmayF1_rs1lo op h hk rd rs1 rs2 imm aq rl (by assumption) (by assumption) (by assumption) w
  rcases (show 31 < rs1 ∨ rs1 ≤ 31 by omega) with c_rs1 | u_rs1
  · exact rmayF1_rs1hi op h hk rd rs1 rs2 imm aq rl (by assumption) (by assumption) (by assumption) (by assumption) w
  rcases (show rs2 < 0 ∨ 0 ≤ rs2 by omega) with c_rs2 | p_rs2
  · exact rmayF1_rs2lo op h hk rd rs1 rs2 imm aq rl (by assumption) (by assumption) (by assumption) (by assumption) (by assumption) w
  rcases (show 31 < rs2 ∨ rs2 ≤ 31 by omega) with c_rs2 | u_rs2
  · exact rmayF1_rs2hi op h hk rd rs1 rs2 imm aq rl (by assumption) (by assumption) (by assumption) (by assumption) (by assumption) (by assumption) w
  rcases (show 1 ≤ rs1 ∨ rs1 = 0 by omega) with n_rs1 | rfl
  · exact rmayF1_rs1nz op h hk rd rs1 rs2 imm aq rl (by assumption) (by assumption) (by assumption) (by assumption) (by assumption) (by assumption) (by assumption) w
  rcases (show 1 ≤ rs2 ∨ rs2 = 0 by omega) with n_rs2 | rfl
  · exact rmayF1_rs2nz op h hk rd 0 rs2 imm aq rl (by assumption) (by assumption) (by assumption) (by assumption) (by assumption) w
  rcases (show aq = true ∨ aq = false by cases aq <;> simp) with rfl | rfl
  · exact rmayF1_aq op h hk rd 0 0 imm true rl (by assumption) (by assumption) w
  rcases (show rl = true ∨ rl = false by cases rl <;> simp) with rfl | rfl
  · exact rmayF1_rl op h hk rd 0 0 imm false true (by assumption) (by assumption) w
  have hm : ¬ Is.immOk 1 imm := fun hm => hn (by refine ⟨⟨by omega, by omega⟩, ⟨by omega, by omega⟩, ⟨by omega, by omega⟩, ?_, ?_, ?_, ?_, hm⟩ <;> simp [Is.hasRd, Is.hasRs1, Is.hasRs2, Is.hasOrd])
  simp only [Is.immOk] at hm
  exact rmayF1_imm op h hk rd 0 0 imm false false (by assumption) (by assumption) (by assumption) (by assumption) w

theorem rmayN2 (op : Nat) (h : 1 ≤ op ∧ op ≤ 59) (hk : Is.fm op = 2) (rd rs1 rs2 imm : Int) (aq rl : Bool) (hi : Is.Wd imm) (hn : ¬ Is.mayP 2 rd rs1 rs2 imm aq rl) (w : World) :
    Calls Tryd.prog 6 #[inst op rd rs1 rs2 imm aq rl] w fun e w' => e = .returned (.bool false) ∧ Below w.heap.size w w' := by
  have hi' := hi
  unfold Is.Wd at hi'
  rcases (show rd < 0 ∨ 0 ≤ rd by omega) with c_rd | p_rd
  · exact rmayF2_rdlo op h hk rd rs1 rs2 imm aq rl (by assumption) w
  rcases (show 31 < rd ∨ rd ≤ 31 by omega) with c_rd | u_rd
  · exact rmayF2_rdhi op h hk rd rs1 rs2 imm aq rl (by assumption) (by assumption) w
  rcases (show rs1 < 0 ∨ 0 ≤ rs1 by omega) with c_rs1 | p_rs1
  · exact rmayF2_rs1lo op h hk rd rs1 rs2 imm aq rl (by assumption) (by assumption) (by assumption) w
  rcases (show 31 < rs1 ∨ rs1 ≤ 31 by omega) with c_rs1 | u_rs1
  · exact rmayF2_rs1hi op h hk rd rs1 rs2 imm aq rl (by assumption) (by assumption) (by assumption) (by assumption) w
  rcases (show rs2 < 0 ∨ 0 ≤ rs2 by omega) with c_rs2 | p_rs2
  · exact rmayF2_rs2lo op h hk rd rs1 rs2 imm aq rl (by assumption) (by assumption) (by assumption) (by assumption) (by assumption) w
  rcases (show 31 < rs2 ∨ rs2 ≤ 31 by omega) with c_rs2 | u_rs2
  · exact rmayF2_rs2hi op h hk rd rs1 rs2 imm aq rl (by assumption) (by assumption) (by assumption) (by assumption) (by assumption) (by assumption) w
  rcases (show 1 ≤ rs1 ∨ rs1 = 0 by omega) with n_rs1 | rfl
  · exact rmayF2_rs1nz op h hk rd rs1 rs2 imm aq rl (by assumption) (by assumption) (by assumption) (by assumption) (by assumption) (by assumption) (by assumption) w
  rcases (show 1 ≤ rs2 ∨ rs2 = 0 by omega) with n_rs2 | rfl
  · exact rmayF2_rs2nz op h hk rd 0 rs2 imm aq rl (by assumption) (by assumption) (by assumption) (by assumption) (by assumption) w
  rcases (show aq = true ∨ aq = false by cases aq <;> simp) with rfl | rfl
  · exact rmayF2_aq op h hk rd 0 0 imm true rl (by assumption) (by assumption) w
  rcases (show rl = true ∨ rl = false by cases rl <;> simp) with rfl | rfl
  · exact rmayF2_rl op h hk rd 0 0 imm false true (by assumption) (by assumption) w
  have hm : ¬ Is.immOk 2 imm := fun hm => hn (by refine ⟨⟨by omega, by omega⟩, ⟨by omega, by omega⟩, ⟨by omega, by omega⟩, ?_, ?_, ?_, ?_, hm⟩ <;> simp [Is.hasRd, Is.hasRs1, Is.hasRs2, Is.hasOrd])
  simp only [Is.immOk] at hm
  rcases (show ¬ imm % 2 = 0 ∨ imm % 2 = 0 by omega) with io | io
  · exact rmayF2_odd op h hk rd 0 0 imm false false (by assumption) (by assumption) (by assumption) (by assumption) w
  rcases (show Is.sg imm < -1048576 ∨ (-1048576 ≤ Is.sg imm ∧ 1048574 < Is.sg imm) by unfold Is.sg; split <;> omega) with i1 | ⟨i1, i2⟩
  · exact rmayF2_below op h hk rd 0 0 imm false false (by assumption) (by assumption) (by assumption) (by assumption) (by assumption) w
  · exact rmayF2_above op h hk rd 0 0 imm false false (by assumption) (by assumption) (by assumption) (by assumption) (by assumption) (by assumption) w

theorem rmayN3 (op : Nat) (h : 1 ≤ op ∧ op ≤ 59) (hk : Is.fm op = 3) (rd rs1 rs2 imm : Int) (aq rl : Bool) (hi : Is.Wd imm) (hn : ¬ Is.mayP 3 rd rs1 rs2 imm aq rl) (w : World) :
    Calls Tryd.prog 6 #[inst op rd rs1 rs2 imm aq rl] w fun e w' => e = .returned (.bool false) ∧ Below w.heap.size w w' := by
  have hi' := hi
  unfold Is.Wd at hi'
  rcases (show rd < 0 ∨ 0 ≤ rd by omega) with c_rd | p_rd
  · exact rmayF3_rdlo op h hk rd rs1 rs2 imm aq rl (by assumption) w
  rcases (show 31 < rd ∨ rd ≤ 31 by omega) with c_rd | u_rd
  · exact rmayF3_rdhi op h hk rd rs1 rs2 imm aq rl (by assumption) (by assumption) w
  rcases (show rs1 < 0 ∨ 0 ≤ rs1 by omega) with c_rs1 | p_rs1
  · exact rmayF3_rs1lo op h hk rd rs1 rs2 imm aq rl (by assumption) (by assumption) (by assumption) w
  rcases (show 31 < rs1 ∨ rs1 ≤ 31 by omega) with c_rs1 | u_rs1
  · exact rmayF3_rs1hi op h hk rd rs1 rs2 imm aq rl (by assumption) (by assumption) (by assumption) (by assumption) w
  rcases (show rs2 < 0 ∨ 0 ≤ rs2 by omega) with c_rs2 | p_rs2
  · exact rmayF3_rs2lo op h hk rd rs1 rs2 imm aq rl (by assumption) (by assumption) (by assumption) (by assumption) (by assumption) w
  rcases (show 31 < rs2 ∨ rs2 ≤ 31 by omega) with c_rs2 | u_rs2
  · exact rmayF3_rs2hi op h hk rd rs1 rs2 imm aq rl (by assumption) (by assumption) (by assumption) (by assumption) (by assumption) (by assumption) w
  rcases (show 1 ≤ rs2 ∨ rs2 = 0 by omega) with n_rs2 | rfl
  · exact rmayF3_rs2nz op h hk rd rs1 rs2 imm aq rl (by assumption) (by assumption) (by assumption) (by assumption) (by assumption) (by assumption) (by assumption) w
  rcases (show aq = true ∨ aq = false by cases aq <;> simp) with rfl | rfl
  · exact rmayF3_aq op h hk rd rs1 0 imm true rl (by assumption) (by assumption) (by assumption) (by assumption) w
  rcases (show rl = true ∨ rl = false by cases rl <;> simp) with rfl | rfl
  · exact rmayF3_rl op h hk rd rs1 0 imm false true (by assumption) (by assumption) (by assumption) (by assumption) w
  have hm : ¬ Is.immOk 3 imm := fun hm => hn (by refine ⟨⟨by omega, by omega⟩, ⟨by omega, by omega⟩, ⟨by omega, by omega⟩, ?_, ?_, ?_, ?_, hm⟩ <;> simp [Is.hasRd, Is.hasRs1, Is.hasRs2, Is.hasOrd])
  simp only [Is.immOk] at hm
  rcases (show Is.sg imm < -2048 ∨ (-2048 ≤ Is.sg imm ∧ 2047 < Is.sg imm) by unfold Is.sg; split <;> omega) with i1 | ⟨i1, i2⟩
  · exact rmayF3_below op h hk rd rs1 0 imm false false (by assumption) (by assumption) (by assumption) (by assumption) (by assumption) (by assumption) w
  · exact rmayF3_above op h hk rd rs1 0 imm false false (by assumption) (by assumption) (by assumption) (by assumption) (by assumption) (by assumption) (by assumption) w

theorem rmayN4 (op : Nat) (h : 1 ≤ op ∧ op ≤ 59) (hk : Is.fm op = 4) (rd rs1 rs2 imm : Int) (aq rl : Bool) (hi : Is.Wd imm) (hn : ¬ Is.mayP 4 rd rs1 rs2 imm aq rl) (w : World) :
    Calls Tryd.prog 6 #[inst op rd rs1 rs2 imm aq rl] w fun e w' => e = .returned (.bool false) ∧ Below w.heap.size w w' := by
  have hi' := hi
  unfold Is.Wd at hi'
  rcases (show rd < 0 ∨ 0 ≤ rd by omega) with c_rd | p_rd
  · exact rmayF4_rdlo op h hk rd rs1 rs2 imm aq rl (by assumption) w
  rcases (show 31 < rd ∨ rd ≤ 31 by omega) with c_rd | u_rd
  · exact rmayF4_rdhi op h hk rd rs1 rs2 imm aq rl (by assumption) (by assumption) w
  rcases (show rs1 < 0 ∨ 0 ≤ rs1 by omega) with c_rs1 | p_rs1
  · exact rmayF4_rs1lo op h hk rd rs1 rs2 imm aq rl (by assumption) (by assumption) (by assumption) w
  rcases (show 31 < rs1 ∨ rs1 ≤ 31 by omega) with c_rs1 | u_rs1
  · exact rmayF4_rs1hi op h hk rd rs1 rs2 imm aq rl (by assumption) (by assumption) (by assumption) (by assumption) w
  rcases (show rs2 < 0 ∨ 0 ≤ rs2 by omega) with c_rs2 | p_rs2
  · exact rmayF4_rs2lo op h hk rd rs1 rs2 imm aq rl (by assumption) (by assumption) (by assumption) (by assumption) (by assumption) w
  rcases (show 31 < rs2 ∨ rs2 ≤ 31 by omega) with c_rs2 | u_rs2
  · exact rmayF4_rs2hi op h hk rd rs1 rs2 imm aq rl (by assumption) (by assumption) (by assumption) (by assumption) (by assumption) (by assumption) w
  rcases (show 1 ≤ rs2 ∨ rs2 = 0 by omega) with n_rs2 | rfl
  · exact rmayF4_rs2nz op h hk rd rs1 rs2 imm aq rl (by assumption) (by assumption) (by assumption) (by assumption) (by assumption) (by assumption) (by assumption) w
  rcases (show aq = true ∨ aq = false by cases aq <;> simp) with rfl | rfl
  · exact rmayF4_aq op h hk rd rs1 0 imm true rl (by assumption) (by assumption) (by assumption) (by assumption) w
  rcases (show rl = true ∨ rl = false by cases rl <;> simp) with rfl | rfl
  · exact rmayF4_rl op h hk rd rs1 0 imm false true (by assumption) (by assumption) (by assumption) (by assumption) w
  have hm : ¬ Is.immOk 4 imm := fun hm => hn (by refine ⟨⟨by omega, by omega⟩, ⟨by omega, by omega⟩, ⟨by omega, by omega⟩, ?_, ?_, ?_, ?_, hm⟩ <;> simp [Is.hasRd, Is.hasRs1, Is.hasRs2, Is.hasOrd])
  simp only [Is.immOk] at hm
  rcases (show Is.sg imm < -2048 ∨ (-2048 ≤ Is.sg imm ∧ 2047 < Is.sg imm) by unfold Is.sg; split <;> omega) with i1 | ⟨i1, i2⟩
  · exact rmayF4_below op h hk rd rs1 0 imm false false (by assumption) (by assumption) (by assumption) (by assumption) (by assumption) (by assumption) w
  · exact rmayF4_above op h hk rd rs1 0 imm false false (by assumption) (by assumption) (by assumption) (by assumption) (by assumption) (by assumption) (by assumption) w

theorem rmayN5 (op : Nat) (h : 1 ≤ op ∧ op ≤ 59) (hk : Is.fm op = 5) (rd rs1 rs2 imm : Int) (aq rl : Bool) (hi : Is.Wd imm) (hn : ¬ Is.mayP 5 rd rs1 rs2 imm aq rl) (w : World) :
    Calls Tryd.prog 6 #[inst op rd rs1 rs2 imm aq rl] w fun e w' => e = .returned (.bool false) ∧ Below w.heap.size w w' := by
  have hi' := hi
  unfold Is.Wd at hi'
  rcases (show rd < 0 ∨ 0 ≤ rd by omega) with c_rd | p_rd
  · exact rmayF5_rdlo op h hk rd rs1 rs2 imm aq rl (by assumption) w
  rcases (show 31 < rd ∨ rd ≤ 31 by omega) with c_rd | u_rd
  · exact rmayF5_rdhi op h hk rd rs1 rs2 imm aq rl (by assumption) (by assumption) w
  rcases (show rs1 < 0 ∨ 0 ≤ rs1 by omega) with c_rs1 | p_rs1
  · exact rmayF5_rs1lo op h hk rd rs1 rs2 imm aq rl (by assumption) (by assumption) (by assumption) w
  rcases (show 31 < rs1 ∨ rs1 ≤ 31 by omega) with c_rs1 | u_rs1
  · exact rmayF5_rs1hi op h hk rd rs1 rs2 imm aq rl (by assumption) (by assumption) (by assumption) (by assumption) w
  rcases (show rs2 < 0 ∨ 0 ≤ rs2 by omega) with c_rs2 | p_rs2
  · exact rmayF5_rs2lo op h hk rd rs1 rs2 imm aq rl (by assumption) (by assumption) (by assumption) (by assumption) (by assumption) w
  rcases (show 31 < rs2 ∨ rs2 ≤ 31 by omega) with c_rs2 | u_rs2
  · exact rmayF5_rs2hi op h hk rd rs1 rs2 imm aq rl (by assumption) (by assumption) (by assumption) (by assumption) (by assumption) (by assumption) w
  rcases (show 1 ≤ rs2 ∨ rs2 = 0 by omega) with n_rs2 | rfl
  · exact rmayF5_rs2nz op h hk rd rs1 rs2 imm aq rl (by assumption) (by assumption) (by assumption) (by assumption) (by assumption) (by assumption) (by assumption) w
  rcases (show aq = true ∨ aq = false by cases aq <;> simp) with rfl | rfl
  · exact rmayF5_aq op h hk rd rs1 0 imm true rl (by assumption) (by assumption) (by assumption) (by assumption) w
  rcases (show rl = true ∨ rl = false by cases rl <;> simp) with rfl | rfl
  · exact rmayF5_rl op h hk rd rs1 0 imm false true (by assumption) (by assumption) (by assumption) (by assumption) w
  have hm : ¬ Is.immOk 5 imm := fun hm => hn (by refine ⟨⟨by omega, by omega⟩, ⟨by omega, by omega⟩, ⟨by omega, by omega⟩, ?_, ?_, ?_, ?_, hm⟩ <;> simp [Is.hasRd, Is.hasRs1, Is.hasRs2, Is.hasOrd])
  simp only [Is.immOk] at hm
  rcases (show Is.sg imm < 0 ∨ (0 ≤ Is.sg imm ∧ 31 < Is.sg imm) by unfold Is.sg; split <;> omega) with i1 | ⟨i1, i2⟩
  · exact rmayF5_below op h hk rd rs1 0 imm false false (by assumption) (by assumption) (by assumption) (by assumption) (by assumption) (by assumption) w
  · exact rmayF5_above op h hk rd rs1 0 imm false false (by assumption) (by assumption) (by assumption) (by assumption) (by assumption) (by assumption) (by assumption) w

theorem rmayN6 (op : Nat) (h : 1 ≤ op ∧ op ≤ 59) (hk : Is.fm op = 6) (rd rs1 rs2 imm : Int) (aq rl : Bool) (hi : Is.Wd imm) (hn : ¬ Is.mayP 6 rd rs1 rs2 imm aq rl) (w : World) :
    Calls Tryd.prog 6 #[inst op rd rs1 rs2 imm aq rl] w fun e w' => e = .returned (.bool false) ∧ Below w.heap.size w w' := by
  have hi' := hi
  unfold Is.Wd at hi'
  rcases (show rd < 0 ∨ 0 ≤ rd by omega) with c_rd | p_rd
  · exact rmayF6_rdlo op h hk rd rs1 rs2 imm aq rl (by assumption) w
  rcases (show 31 < rd ∨ rd ≤ 31 by omega) with c_rd | u_rd
  · exact rmayF6_rdhi op h hk rd rs1 rs2 imm aq rl (by assumption) (by assumption) w
  rcases (show rs1 < 0 ∨ 0 ≤ rs1 by omega) with c_rs1 | p_rs1
  · exact rmayF6_rs1lo op h hk rd rs1 rs2 imm aq rl (by assumption) (by assumption) (by assumption) w
  rcases (show 31 < rs1 ∨ rs1 ≤ 31 by omega) with c_rs1 | u_rs1
  · exact rmayF6_rs1hi op h hk rd rs1 rs2 imm aq rl (by assumption) (by assumption) (by assumption) (by assumption) w
  rcases (show rs2 < 0 ∨ 0 ≤ rs2 by omega) with c_rs2 | p_rs2
  · exact rmayF6_rs2lo op h hk rd rs1 rs2 imm aq rl (by assumption) (by assumption) (by assumption) (by assumption) (by assumption) w
  rcases (show 31 < rs2 ∨ rs2 ≤ 31 by omega) with c_rs2 | u_rs2
  · exact rmayF6_rs2hi op h hk rd rs1 rs2 imm aq rl (by assumption) (by assumption) (by assumption) (by assumption) (by assumption) (by assumption) w
  rcases (show 1 ≤ rd ∨ rd = 0 by omega) with n_rd | rfl
  · exact rmayF6_rdnz op h hk rd rs1 rs2 imm aq rl (by assumption) (by assumption) (by assumption) (by assumption) (by assumption) (by assumption) (by assumption) w
  rcases (show aq = true ∨ aq = false by cases aq <;> simp) with rfl | rfl
  · exact rmayF6_aq op h hk 0 rs1 rs2 imm true rl (by assumption) (by assumption) (by assumption) (by assumption) w
  rcases (show rl = true ∨ rl = false by cases rl <;> simp) with rfl | rfl
  · exact rmayF6_rl op h hk 0 rs1 rs2 imm false true (by assumption) (by assumption) (by assumption) (by assumption) w
  have hm : ¬ Is.immOk 6 imm := fun hm => hn (by refine ⟨⟨by omega, by omega⟩, ⟨by omega, by omega⟩, ⟨by omega, by omega⟩, ?_, ?_, ?_, ?_, hm⟩ <;> simp [Is.hasRd, Is.hasRs1, Is.hasRs2, Is.hasOrd])
  simp only [Is.immOk] at hm
  rcases (show ¬ imm % 2 = 0 ∨ imm % 2 = 0 by omega) with io | io
  · exact rmayF6_odd op h hk 0 rs1 rs2 imm false false (by assumption) (by assumption) (by assumption) (by assumption) (by assumption) (by assumption) w
  rcases (show Is.sg imm < -4096 ∨ (-4096 ≤ Is.sg imm ∧ 4094 < Is.sg imm) by unfold Is.sg; split <;> omega) with i1 | ⟨i1, i2⟩
  · exact rmayF6_below op h hk 0 rs1 rs2 imm false false (by assumption) (by assumption) (by assumption) (by assumption) (by assumption) (by assumption) (by assumption) w
  · exact rmayF6_above op h hk 0 rs1 rs2 imm false false (by assumption) (by assumption) (by assumption) (by assumption) (by assumption) (by assumption) (by assumption) (by assumption) w

theorem rmayN7 (op : Nat) (h : 1 ≤ op ∧ op ≤ 59) (hk : Is.fm op = 7) (rd rs1 rs2 imm : Int) (aq rl : Bool) (hi : Is.Wd imm) (hn : ¬ Is.mayP 7 rd rs1 rs2 imm aq rl) (w : World) :
    Calls Tryd.prog 6 #[inst op rd rs1 rs2 imm aq rl] w fun e w' => e = .returned (.bool false) ∧ Below w.heap.size w w' := by
  have hi' := hi
  unfold Is.Wd at hi'
  rcases (show rd < 0 ∨ 0 ≤ rd by omega) with c_rd | p_rd
  · exact rmayF7_rdlo op h hk rd rs1 rs2 imm aq rl (by assumption) w
  rcases (show 31 < rd ∨ rd ≤ 31 by omega) with c_rd | u_rd
  · exact rmayF7_rdhi op h hk rd rs1 rs2 imm aq rl (by assumption) (by assumption) w
  rcases (show rs1 < 0 ∨ 0 ≤ rs1 by omega) with c_rs1 | p_rs1
  · exact rmayF7_rs1lo op h hk rd rs1 rs2 imm aq rl (by assumption) (by assumption) (by assumption) w
  rcases (show 31 < rs1 ∨ rs1 ≤ 31 by omega) with c_rs1 | u_rs1
  · exact rmayF7_rs1hi op h hk rd rs1 rs2 imm aq rl (by assumption) (by assumption) (by assumption) (by assumption) w
  rcases (show rs2 < 0 ∨ 0 ≤ rs2 by omega) with c_rs2 | p_rs2
  · exact rmayF7_rs2lo op h hk rd rs1 rs2 imm aq rl (by assumption) (by assumption) (by assumption) (by assumption) (by assumption) w
  rcases (show 31 < rs2 ∨ rs2 ≤ 31 by omega) with c_rs2 | u_rs2
  · exact rmayF7_rs2hi op h hk rd rs1 rs2 imm aq rl (by assumption) (by assumption) (by assumption) (by assumption) (by assumption) (by assumption) w
  rcases (show 1 ≤ rd ∨ rd = 0 by omega) with n_rd | rfl
  · exact rmayF7_rdnz op h hk rd rs1 rs2 imm aq rl (by assumption) (by assumption) (by assumption) (by assumption) (by assumption) (by assumption) (by assumption) w
  rcases (show aq = true ∨ aq = false by cases aq <;> simp) with rfl | rfl
  · exact rmayF7_aq op h hk 0 rs1 rs2 imm true rl (by assumption) (by assumption) (by assumption) (by assumption) w
  rcases (show rl = true ∨ rl = false by cases rl <;> simp) with rfl | rfl
  · exact rmayF7_rl op h hk 0 rs1 rs2 imm false true (by assumption) (by assumption) (by assumption) (by assumption) w
  have hm : ¬ Is.immOk 7 imm := fun hm => hn (by refine ⟨⟨by omega, by omega⟩, ⟨by omega, by omega⟩, ⟨by omega, by omega⟩, ?_, ?_, ?_, ?_, hm⟩ <;> simp [Is.hasRd, Is.hasRs1, Is.hasRs2, Is.hasOrd])
  simp only [Is.immOk] at hm
  rcases (show Is.sg imm < -2048 ∨ (-2048 ≤ Is.sg imm ∧ 2047 < Is.sg imm) by unfold Is.sg; split <;> omega) with i1 | ⟨i1, i2⟩
  · exact rmayF7_below op h hk 0 rs1 rs2 imm false false (by assumption) (by assumption) (by assumption) (by assumption) (by assumption) (by assumption) w
  · exact rmayF7_above op h hk 0 rs1 rs2 imm false false (by assumption) (by assumption) (by assumption) (by assumption) (by assumption) (by assumption) (by assumption) w

theorem rmayN8 (op : Nat) (h : 1 ≤ op ∧ op ≤ 59) (hk : Is.fm op = 8) (rd rs1 rs2 imm : Int) (aq rl : Bool) (hi : Is.Wd imm) (hn : ¬ Is.mayP 8 rd rs1 rs2 imm aq rl) (w : World) :
    Calls Tryd.prog 6 #[inst op rd rs1 rs2 imm aq rl] w fun e w' => e = .returned (.bool false) ∧ Below w.heap.size w w' := by
  have hi' := hi
  unfold Is.Wd at hi'
  rcases (show rd < 0 ∨ 0 ≤ rd by omega) with c_rd | p_rd
  · exact rmayF8_rdlo op h hk rd rs1 rs2 imm aq rl (by assumption) w
  rcases (show 31 < rd ∨ rd ≤ 31 by omega) with c_rd | u_rd
  · exact rmayF8_rdhi op h hk rd rs1 rs2 imm aq rl (by assumption) (by assumption) w
  rcases (show rs1 < 0 ∨ 0 ≤ rs1 by omega) with c_rs1 | p_rs1
  · exact rmayF8_rs1lo op h hk rd rs1 rs2 imm aq rl (by assumption) (by assumption) (by assumption) w
  rcases (show 31 < rs1 ∨ rs1 ≤ 31 by omega) with c_rs1 | u_rs1
  · exact rmayF8_rs1hi op h hk rd rs1 rs2 imm aq rl (by assumption) (by assumption) (by assumption) (by assumption) w
  rcases (show rs2 < 0 ∨ 0 ≤ rs2 by omega) with c_rs2 | p_rs2
  · exact rmayF8_rs2lo op h hk rd rs1 rs2 imm aq rl (by assumption) (by assumption) (by assumption) (by assumption) (by assumption) w
  rcases (show 31 < rs2 ∨ rs2 ≤ 31 by omega) with c_rs2 | u_rs2
  · exact rmayF8_rs2hi op h hk rd rs1 rs2 imm aq rl (by assumption) (by assumption) (by assumption) (by assumption) (by assumption) (by assumption) w
  rcases (show aq = true ∨ aq = false by cases aq <;> simp) with rfl | rfl
  · exact rmayF8_aq op h hk rd rs1 rs2 imm true rl (by assumption) (by assumption) (by assumption) (by assumption) (by assumption) (by assumption) w
  rcases (show rl = true ∨ rl = false by cases rl <;> simp) with rfl | rfl
  · exact rmayF8_rl op h hk rd rs1 rs2 imm false true (by assumption) (by assumption) (by assumption) (by assumption) (by assumption) (by assumption) w
  have hm : ¬ Is.immOk 8 imm := fun hm => hn (by refine ⟨⟨by omega, by omega⟩, ⟨by omega, by omega⟩, ⟨by omega, by omega⟩, ?_, ?_, ?_, ?_, hm⟩ <;> simp [Is.hasRd, Is.hasRs1, Is.hasRs2, Is.hasOrd])
  simp only [Is.immOk] at hm
  exact rmayF8_imm op h hk rd rs1 rs2 imm false false (by assumption) (by assumption) (by assumption) (by assumption) (by assumption) (by assumption) (by assumption) (by assumption) w

theorem rmayN9 (op : Nat) (h : 1 ≤ op ∧ op ≤ 59) (hk : Is.fm op = 9) (rd rs1 rs2 imm : Int) (aq rl : Bool) (hi : Is.Wd imm) (hn : ¬ Is.mayP 9 rd rs1 rs2 imm aq rl) (w : World) :
    Calls Tryd.prog 6 #[inst op rd rs1 rs2 imm aq rl] w fun e w' => e = .returned (.bool false) ∧ Below w.heap.size w w' := by
  have hi' := hi
  unfold Is.Wd at hi'
  rcases (show rd < 0 ∨ 0 ≤ rd by omega) with c_rd | p_rd
  · exact rmayF9_rdlo op h hk rd rs1 rs2 imm aq rl (by assumption) w
  rcases (show 31 < rd ∨ rd ≤ 31 by omega) with c_rd | u_rd
  · exact rmayF9_rdhi op h hk rd rs1 rs2 imm aq rl (by assumption) (by assumption) w
  rcases (show rs1 < 0 ∨ 0 ≤ rs1 by omega) with c_rs1 | p_rs1
  · exact rmayF9_rs1lo op h hk rd rs1 rs2 imm aq rl (by assumption) (by assumption) (by assumption) w
  rcases (show 31 < rs1 ∨ rs1 ≤ 31 by omega) with c_rs1 | u_rs1
  · exact rmayF9_rs1hi op h hk rd rs1 rs2 imm aq rl (by assumption) (by assumption) (by assumption) (by assumption) w
  rcases (show rs2 < 0 ∨ 0 ≤ rs2 by omega) with c_rs2 | p_rs2
  · exact rmayF9_rs2lo op h hk rd rs1 rs2 imm aq rl (by assumption) (by assumption) (by assumption) (by assumption) (by assumption) w
  rcases (show 31 < rs2 ∨ rs2 ≤ 31 by omega) with c_rs2 | u_rs2
  · exact rmayF9_rs2hi op h hk rd rs1 rs2 imm aq rl (by assumption) (by assumption) (by assumption) (by assumption) (by assumption) (by assumption) w
  rcases (show 1 ≤ rd ∨ rd = 0 by omega) with n_rd | rfl
  · exact rmayF9_rdnz op h hk rd rs1 rs2 imm aq rl (by assumption) (by assumption) (by assumption) (by assumption) (by assumption) (by assumption) (by assumption) w
  rcases (show 1 ≤ rs1 ∨ rs1 = 0 by omega) with n_rs1 | rfl
  · exact rmayF9_rs1nz op h hk 0 rs1 rs2 imm aq rl (by assumption) (by assumption) (by assumption) (by assumption) (by assumption) w
  rcases (show 1 ≤ rs2 ∨ rs2 = 0 by omega) with n_rs2 | rfl
  · exact rmayF9_rs2nz op h hk 0 0 rs2 imm aq rl (by assumption) (by assumption) (by assumption) w
  rcases (show aq = true ∨ aq = false by cases aq <;> simp) with rfl | rfl
  · exact rmayF9_aq op h hk 0 0 0 imm true rl w
  rcases (show rl = true ∨ rl = false by cases rl <;> simp) with rfl | rfl
  · exact rmayF9_rl op h hk 0 0 0 imm false true w
  have hm : ¬ Is.immOk 9 imm := fun hm => hn (by refine ⟨⟨by omega, by omega⟩, ⟨by omega, by omega⟩, ⟨by omega, by omega⟩, ?_, ?_, ?_, ?_, hm⟩ <;> simp [Is.hasRd, Is.hasRs1, Is.hasRs2, Is.hasOrd])
  simp only [Is.immOk] at hm
  rcases (show Is.sg imm < 0 ∨ (0 ≤ Is.sg imm ∧ 255 < Is.sg imm) by unfold Is.sg; split <;> omega) with i1 | ⟨i1, i2⟩
  · exact rmayF9_below op h hk 0 0 0 imm false false (by assumption) (by assumption) w
  · exact rmayF9_above op h hk 0 0 0 imm false false (by assumption) (by assumption) (by assumption) w

theorem rmayN10 (op : Nat) (h : 1 ≤ op ∧ op ≤ 59) (hk : Is.fm op = 10) (rd rs1 rs2 imm : Int) (aq rl : Bool) (hi : Is.Wd imm) (hn : ¬ Is.mayP 10 rd rs1 rs2 imm aq rl) (w : World) :
    Calls Tryd.prog 6 #[inst op rd rs1 rs2 imm aq rl] w fun e w' => e = .returned (.bool false) ∧ Below w.heap.size w w' := by
  have hi' := hi
  unfold Is.Wd at hi'
  rcases (show rd < 0 ∨ 0 ≤ rd by omega) with c_rd | p_rd
  · exact rmayF10_rdlo op h hk rd rs1 rs2 imm aq rl (by assumption) w
  rcases (show 31 < rd ∨ rd ≤ 31 by omega) with c_rd | u_rd
  · exact rmayF10_rdhi op h hk rd rs1 rs2 imm aq rl (by assumption) (by assumption) w
  rcases (show rs1 < 0 ∨ 0 ≤ rs1 by omega) with c_rs1 | p_rs1
  · exact rmayF10_rs1lo op h hk rd rs1 rs2 imm aq rl (by assumption) (by assumption) (by assumption) w
  rcases (show 31 < rs1 ∨ rs1 ≤ 31 by omega) with c_rs1 | u_rs1
  · exact rmayF10_rs1hi op h hk rd rs1 rs2 imm aq rl (by assumption) (by assumption) (by assumption) (by assumption) w
  rcases (show rs2 < 0 ∨ 0 ≤ rs2 by omega) with c_rs2 | p_rs2
  · exact rmayF10_rs2lo op h hk rd rs1 rs2 imm aq rl (by assumption) (by assumption) (by assumption) (by assumption) (by assumption) w
  rcases (show 31 < rs2 ∨ rs2 ≤ 31 by omega) with c_rs2 | u_rs2
  · exact rmayF10_rs2hi op h hk rd rs1 rs2 imm aq rl (by assumption) (by assumption) (by assumption) (by assumption) (by assumption) (by assumption) w
  rcases (show 1 ≤ rd ∨ rd = 0 by omega) with n_rd | rfl
  · exact rmayF10_rdnz op h hk rd rs1 rs2 imm aq rl (by assumption) (by assumption) (by assumption) (by assumption) (by assumption) (by assumption) (by assumption) w
  rcases (show 1 ≤ rs1 ∨ rs1 = 0 by omega) with n_rs1 | rfl
  · exact rmayF10_rs1nz op h hk 0 rs1 rs2 imm aq rl (by assumption) (by assumption) (by assumption) (by assumption) (by assumption) w
  rcases (show 1 ≤ rs2 ∨ rs2 = 0 by omega) with n_rs2 | rfl
  · exact rmayF10_rs2nz op h hk 0 0 rs2 imm aq rl (by assumption) (by assumption) (by assumption) w
  rcases (show aq = true ∨ aq = false by cases aq <;> simp) with rfl | rfl
  · exact rmayF10_aq op h hk 0 0 0 imm true rl w
  rcases (show rl = true ∨ rl = false by cases rl <;> simp) with rfl | rfl
  · exact rmayF10_rl op h hk 0 0 0 imm false true w
  have hm : ¬ Is.immOk 10 imm := fun hm => hn (by refine ⟨⟨by omega, by omega⟩, ⟨by omega, by omega⟩, ⟨by omega, by omega⟩, ?_, ?_, ?_, ?_, hm⟩ <;> simp [Is.hasRd, Is.hasRs1, Is.hasRs2, Is.hasOrd])
  simp only [Is.immOk] at hm
  exact rmayF10_imm op h hk 0 0 0 imm false false (by assumption) (by assumption) w

theorem rmayN11 (op : Nat) (h : 1 ≤ op ∧ op ≤ 59) (hk : Is.fm op = 11) (rd rs1 rs2 imm : Int) (aq rl : Bool) (hi : Is.Wd imm) (hn : ¬ Is.mayP 11 rd rs1 rs2 imm aq rl) (w : World) :
    Calls Tryd.prog 6 #[inst op rd rs1 rs2 imm aq rl] w fun e w' => e = .returned (.bool false) ∧ Below w.heap.size w w' := by
  have hi' := hi
  unfold Is.Wd at hi'
  rcases (show rd < 0 ∨ 0 ≤ rd by omega) with c_rd | p_rd
  · exact rmayF11_rdlo op h hk rd rs1 rs2 imm aq rl (by assumption) w
  rcases (show 31 < rd ∨ rd ≤ 31 by omega) with c_rd | u_rd
  · exact rmayF11_rdhi op h hk rd rs1 rs2 imm aq rl (by assumption) (by assumption) w
  rcases (show rs1 < 0 ∨ 0 ≤ rs1 by omega) with c_rs1 | p_rs1
  · exact rmayF11_rs1lo op h hk rd rs1 rs2 imm aq rl (by assumption) (by assumption) (by assumption) w
  rcases (show 31 < rs1 ∨ rs1 ≤ 31 by omega) with c_rs1 | u_rs1
  · exact rmayF11_rs1hi op h hk rd rs1 rs2 imm aq rl (by assumption) (by assumption) (by assumption) (by assumption) w
  rcases (show rs2 < 0 ∨ 0 ≤ rs2 by omega) with c_rs2 | p_rs2
  · exact rmayF11_rs2lo op h hk rd rs1 rs2 imm aq rl (by assumption) (by assumption) (by assumption) (by assumption) (by assumption) w
  rcases (show 31 < rs2 ∨ rs2 ≤ 31 by omega) with c_rs2 | u_rs2
  · exact rmayF11_rs2hi op h hk rd rs1 rs2 imm aq rl (by assumption) (by assumption) (by assumption) (by assumption) (by assumption) (by assumption) w
  have hm : ¬ Is.immOk 11 imm := fun hm => hn (by refine ⟨⟨by omega, by omega⟩, ⟨by omega, by omega⟩, ⟨by omega, by omega⟩, ?_, ?_, ?_, ?_, hm⟩ <;> simp [Is.hasRd, Is.hasRs1, Is.hasRs2, Is.hasOrd])
  simp only [Is.immOk] at hm
  exact rmayF11_imm op h hk rd rs1 rs2 imm aq rl (by assumption) (by assumption) (by assumption) (by assumption) (by assumption) (by assumption) (by assumption) (by assumption) w

theorem rmayN12 (op : Nat) (h : 1 ≤ op ∧ op ≤ 59) (hk : Is.fm op = 12) (rd rs1 rs2 imm : Int) (aq rl : Bool) (hi : Is.Wd imm) (hn : ¬ Is.mayP 12 rd rs1 rs2 imm aq rl) (w : World) :
    Calls Tryd.prog 6 #[inst op rd rs1 rs2 imm aq rl] w fun e w' => e = .returned (.bool false) ∧ Below w.heap.size w w' := by
  have hi' := hi
  unfold Is.Wd at hi'
  rcases (show rd < 0 ∨ 0 ≤ rd by omega) with c_rd | p_rd
  · exact rmayF12_rdlo op h hk rd rs1 rs2 imm aq rl (by assumption) w
  rcases (show 31 < rd ∨ rd ≤ 31 by omega) with c_rd | u_rd
  · exact rmayF12_rdhi op h hk rd rs1 rs2 imm aq rl (by assumption) (by assumption) w
  rcases (show rs1 < 0 ∨ 0 ≤ rs1 by omega) with c_rs1 | p_rs1
  · exact rmayF12_rs1lo op h hk rd rs1 rs2 imm aq rl (by assumption) (by assumption) (by assumption) w
  rcases (show 31 < rs1 ∨ rs1 ≤ 31 by omega) with c_rs1 | u_rs1
  · exact rmayF12_rs1hi op h hk rd rs1 rs2 imm aq rl (by assumption) (by assumption) (by assumption) (by assumption) w
  rcases (show rs2 < 0 ∨ 0 ≤ rs2 by omega) with c_rs2 | p_rs2
  · exact rmayF12_rs2lo op h hk rd rs1 rs2 imm aq rl (by assumption) (by assumption) (by assumption) (by assumption) (by assumption) w
  rcases (show 31 < rs2 ∨ rs2 ≤ 31 by omega) with c_rs2 | u_rs2
  · exact rmayF12_rs2hi op h hk rd rs1 rs2 imm aq rl (by assumption) (by assumption) (by assumption) (by assumption) (by assumption) (by assumption) w
  rcases (show 1 ≤ rs2 ∨ rs2 = 0 by omega) with n_rs2 | rfl
  · exact rmayF12_rs2nz op h hk rd rs1 rs2 imm aq rl (by assumption) (by assumption) (by assumption) (by assumption) (by assumption) (by assumption) (by assumption) w
  have hm : ¬ Is.immOk 12 imm := fun hm => hn (by refine ⟨⟨by omega, by omega⟩, ⟨by omega, by omega⟩, ⟨by omega, by omega⟩, ?_, ?_, ?_, ?_, hm⟩ <;> simp [Is.hasRd, Is.hasRs1, Is.hasRs2, Is.hasOrd])
  simp only [Is.immOk] at hm
  exact rmayF12_imm op h hk rd rs1 0 imm aq rl (by assumption) (by assumption) (by assumption) (by assumption) (by assumption) (by assumption) w

theorem rmayN13 (op : Nat) (h : 1 ≤ op ∧ op ≤ 59) (hk : Is.fm op = 13) (rd rs1 rs2 imm : Int) (aq rl : Bool) (hi : Is.Wd imm) (hn : ¬ Is.mayP 13 rd rs1 rs2 imm aq rl) (w : World) :
    Calls Tryd.prog 6 #[inst op rd rs1 rs2 imm aq rl] w fun e w' => e = .returned (.bool false) ∧ Below w.heap.size w w' := by
  have hi' := hi
  unfold Is.Wd at hi'
  rcases (show rd < 0 ∨ 0 ≤ rd by omega) with c_rd | p_rd
  · exact rmayF13_rdlo op h hk rd rs1 rs2 imm aq rl (by assumption) w
  rcases (show 31 < rd ∨ rd ≤ 31 by omega) with c_rd | u_rd
  · exact rmayF13_rdhi op h hk rd rs1 rs2 imm aq rl (by assumption) (by assumption) w
  rcases (show rs1 < 0 ∨ 0 ≤ rs1 by omega) with c_rs1 | p_rs1
  · exact rmayF13_rs1lo op h hk rd rs1 rs2 imm aq rl (by assumption) (by assumption) (by assumption) w
  rcases (show 31 < rs1 ∨ rs1 ≤ 31 by omega) with c_rs1 | u_rs1
  · exact rmayF13_rs1hi op h hk rd rs1 rs2 imm aq rl (by assumption) (by assumption) (by assumption) (by assumption) w
  rcases (show rs2 < 0 ∨ 0 ≤ rs2 by omega) with c_rs2 | p_rs2
  · exact rmayF13_rs2lo op h hk rd rs1 rs2 imm aq rl (by assumption) (by assumption) (by assumption) (by assumption) (by assumption) w
  rcases (show 31 < rs2 ∨ rs2 ≤ 31 by omega) with c_rs2 | u_rs2
  · exact rmayF13_rs2hi op h hk rd rs1 rs2 imm aq rl (by assumption) (by assumption) (by assumption) (by assumption) (by assumption) (by assumption) w
  rcases (show 1 ≤ rs1 ∨ rs1 = 0 by omega) with n_rs1 | rfl
  · exact rmayF13_rs1nz op h hk rd rs1 rs2 imm aq rl (by assumption) (by assumption) (by assumption) (by assumption) (by assumption) (by assumption) (by assumption) w
  rcases (show 1 ≤ rs2 ∨ rs2 = 0 by omega) with n_rs2 | rfl
  · exact rmayF13_rs2nz op h hk rd 0 rs2 imm aq rl (by assumption) (by assumption) (by assumption) (by assumption) (by assumption) w
  rcases (show aq = true ∨ aq = false by cases aq <;> simp) with rfl | rfl
  · exact rmayF13_aq op h hk rd 0 0 imm true rl (by assumption) (by assumption) w
  rcases (show rl = true ∨ rl = false by cases rl <;> simp) with rfl | rfl
  · exact rmayF13_rl op h hk rd 0 0 imm false true (by assumption) (by assumption) w
  have hm : ¬ Is.immOk 13 imm := fun hm => hn (by refine ⟨⟨by omega, by omega⟩, ⟨by omega, by omega⟩, ⟨by omega, by omega⟩, ?_, ?_, ?_, ?_, hm⟩ <;> simp [Is.hasRd, Is.hasRs1, Is.hasRs2, Is.hasOrd])
  simp only [Is.immOk] at hm
  exact rmayF13_imm op h hk rd 0 0 imm false false (by assumption) (by assumption) (by assumption) (by assumption) w

/-- the document's May: whatever may not be -/
theorem rmay_no (op : Nat) (h : 1 ≤ op ∧ op ≤ 59) (rd rs1 rs2 imm : Int) (aq rl : Bool) (hi : Is.Wd imm) (hn : ¬ Is.mayP (Is.fm op) rd rs1 rs2 imm aq rl) (w : World) :
    Calls Tryd.prog 6 #[inst op rd rs1 rs2 imm aq rl] w fun e w' => e = .returned (.bool false) ∧ Below w.heap.size w w' := by
  have hk : Is.fm op = 1 ∨ Is.fm op = 2 ∨ Is.fm op = 3 ∨ Is.fm op = 4 ∨ Is.fm op = 5 ∨ Is.fm op = 6 ∨ Is.fm op = 7 ∨ Is.fm op = 8 ∨ Is.fm op = 9 ∨ Is.fm op = 10 ∨ Is.fm op = 11 ∨ Is.fm op = 12 ∨ Is.fm op = 13 := by
    have key : ∀ n : Fin 60, 1 ≤ n.1 → (1 ≤ Is.fm n.1 ∧ Is.fm n.1 ≤ 13) := by decide
    have := key ⟨op, by omega⟩ h.1
    simp only at this
    omega
  rcases hk with hk | hk | hk | hk | hk | hk | hk | hk | hk | hk | hk | hk | hk <;> rw [hk] at hn
  · exact rmayN1 op h hk rd rs1 rs2 imm aq rl hi hn w
  · exact rmayN2 op h hk rd rs1 rs2 imm aq rl hi hn w
  · exact rmayN3 op h hk rd rs1 rs2 imm aq rl hi hn w
  · exact rmayN4 op h hk rd rs1 rs2 imm aq rl hi hn w
  · exact rmayN5 op h hk rd rs1 rs2 imm aq rl hi hn w
  · exact rmayN6 op h hk rd rs1 rs2 imm aq rl hi hn w
  · exact rmayN7 op h hk rd rs1 rs2 imm aq rl hi hn w
  · exact rmayN8 op h hk rd rs1 rs2 imm aq rl hi hn w
  · exact rmayN9 op h hk rd rs1 rs2 imm aq rl hi hn w
  · exact rmayN10 op h hk rd rs1 rs2 imm aq rl hi hn w
  · exact rmayN11 op h hk rd rs1 rs2 imm aq rl hi hn w
  · exact rmayN12 op h hk rd rs1 rs2 imm aq rl hi hn w
  · exact rmayN13 op h hk rd rs1 rs2 imm aq rl hi hn w
end Go.Proofs.YtianojbdabeoeaaDoor
