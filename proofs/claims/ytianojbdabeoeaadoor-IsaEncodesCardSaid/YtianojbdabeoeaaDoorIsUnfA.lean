/-
  The document's own answer: an instruction that may not be, form by form: its parts.
-/
import Derived.Test.YtianojbdabeoeaaDoorIsExec
namespace Go.Proofs.YtianojbdabeoeaaDoor
open Go.RowKit
set_option linter.unusedVariables false
set_option linter.unusedSimpArgs false

set_option maxRecDepth 100000 in
set_option maxHeartbeats 4000000 in
theorem rmayF1_rdlo (op : Nat) (h : 1 ≤ op ∧ op ≤ 59) (hk : Is.fm op = 1) (rd rs1 rs2 imm : Int) (aq rl : Bool) (c_rd : rd < 0) (w : World) :
    Calls Tryd.prog 6 #[inst op rd rs1 rs2 imm aq rl] w fun e w' => e = .returned (.bool false) ∧ Below w.heap.size w w' := by
  have HF := Lib.hid (show Is.fb (Is.fm op) = 117 by rw [hk]; rfl)
  clear hk
  unfold inst
  go_enter Tryd.func6, Tryd.ntmps6
  go_wp2_with (first
    | (go_at_call 13; refine (rform_yes op h _).mono ?_; rw [HF.out]; rintro e w' ⟨rfl, rfl⟩)
    | refine Ex.stopL ?_)
  refine ⟨Ex.unfit (fr := (0, 0)) (t0 := 30) (ts := [(.lss, rd, 0, true)]) (g := w.heap.size) (row := #[.int .i64 op, .int .i64 rd, .int .i64 rs1, .int .i64 rs2, .int .u32 imm, .bool aq, .bool rl]) ?_ [(64, true)] 1 (by assumption) ?_ ?_ rfl ⟨rfl, rfl, rfl⟩ ⟨rfl, (Below.refl _ _).alloc (Nat.le_refl _) _⟩⟩
  · exact Array.getElem?_push_size
  · as_aux_lemma => kernel_rfl
  · simp only [List.forall_mem_cons, List.not_mem_nil, false_implies, implies_true, and_true, Ex.cmpB, decide_eq_true_eq, decide_eq_false_iff_not, Bool.not_eq_true', Bool.not_eq_false', beq_eq_false_iff_ne, beq_iff_eq, ne_eq]
    try omega

set_option maxRecDepth 100000 in
set_option maxHeartbeats 4000000 in
theorem rmayF1_rdhi (op : Nat) (h : 1 ≤ op ∧ op ≤ 59) (hk : Is.fm op = 1) (rd rs1 rs2 imm : Int) (aq rl : Bool) (p_rd : 0 ≤ rd) (c_rd : 31 < rd) (w : World) :
    Calls Tryd.prog 6 #[inst op rd rs1 rs2 imm aq rl] w fun e w' => e = .returned (.bool false) ∧ Below w.heap.size w w' := by
  have HF := Lib.hid (show Is.fb (Is.fm op) = 117 by rw [hk]; rfl)
  clear hk
  unfold inst
  go_enter Tryd.func6, Tryd.ntmps6
  go_wp2_with (first
    | (go_at_call 13; refine (rform_yes op h _).mono ?_; rw [HF.out]; rintro e w' ⟨rfl, rfl⟩)
    | refine Ex.stopL ?_)
  refine ⟨Ex.unfit (fr := (0, 0)) (t0 := 30) (ts := [(.gtr, rd, 31, true), (.lss, rd, 0, false)]) (g := w.heap.size) (row := #[.int .i64 op, .int .i64 rd, .int .i64 rs1, .int .i64 rs2, .int .u32 imm, .bool aq, .bool rl]) ?_ [(64, false), (69, true)] 2 (by assumption) ?_ ?_ rfl ⟨rfl, rfl, rfl⟩ ⟨rfl, (Below.refl _ _).alloc (Nat.le_refl _) _⟩⟩
  · exact Array.getElem?_push_size
  · as_aux_lemma => kernel_rfl
  · simp only [List.forall_mem_cons, List.not_mem_nil, false_implies, implies_true, and_true, Ex.cmpB, decide_eq_true_eq, decide_eq_false_iff_not, Bool.not_eq_true', Bool.not_eq_false', beq_eq_false_iff_ne, beq_iff_eq, ne_eq]
    try omega

set_option maxRecDepth 100000 in
set_option maxHeartbeats 4000000 in
theorem rmayF1_rs1lo (op : Nat) (h : 1 ≤ op ∧ op ≤ 59) (hk : Is.fm op = 1) (rd rs1 rs2 imm : Int) (aq rl : Bool) (p_rd : 0 ≤ rd) (u_rd : rd ≤ 31) (c_rs1 : rs1 < 0) (w : World) :
    Calls Tryd.prog 6 #[inst op rd rs1 rs2 imm aq rl] w fun e w' => e = .returned (.bool false) ∧ Below w.heap.size w w' := by
  have HF := Lib.hid (show Is.fb (Is.fm op) = 117 by rw [hk]; rfl)
  clear hk
  unfold inst
  go_enter Tryd.func6, Tryd.ntmps6
  go_wp2_with (first
    | (go_at_call 13; refine (rform_yes op h _).mono ?_; rw [HF.out]; rintro e w' ⟨rfl, rfl⟩)
    | refine Ex.stopL ?_)
  refine ⟨Ex.unfit (fr := (0, 0)) (t0 := 30) (ts := [(.lss, rs1, 0, true), (.gtr, rd, 31, false), (.lss, rd, 0, false)]) (g := w.heap.size) (row := #[.int .i64 op, .int .i64 rd, .int .i64 rs1, .int .i64 rs2, .int .u32 imm, .bool aq, .bool rl]) ?_ [(64, false), (69, false), (74, true)] 3 (by assumption) ?_ ?_ rfl ⟨rfl, rfl, rfl⟩ ⟨rfl, (Below.refl _ _).alloc (Nat.le_refl _) _⟩⟩
  · exact Array.getElem?_push_size
  · as_aux_lemma => kernel_rfl
  · simp only [List.forall_mem_cons, List.not_mem_nil, false_implies, implies_true, and_true, Ex.cmpB, decide_eq_true_eq, decide_eq_false_iff_not, Bool.not_eq_true', Bool.not_eq_false', beq_eq_false_iff_ne, beq_iff_eq, ne_eq]
    try omega

set_option maxRecDepth 100000 in
set_option maxHeartbeats 4000000 in
theorem rmayF1_rs1hi (op : Nat) (h : 1 ≤ op ∧ op ≤ 59) (hk : Is.fm op = 1) (rd rs1 rs2 imm : Int) (aq rl : Bool) (p_rd : 0 ≤ rd) (u_rd : rd ≤ 31) (p_rs1 : 0 ≤ rs1) (c_rs1 : 31 < rs1) (w : World) :
    Calls Tryd.prog 6 #[inst op rd rs1 rs2 imm aq rl] w fun e w' => e = .returned (.bool false) ∧ Below w.heap.size w w' := by
  have HF := Lib.hid (show Is.fb (Is.fm op) = 117 by rw [hk]; rfl)
  clear hk
  unfold inst
  go_enter Tryd.func6, Tryd.ntmps6
  go_wp2_with (first
    | (go_at_call 13; refine (rform_yes op h _).mono ?_; rw [HF.out]; rintro e w' ⟨rfl, rfl⟩)
    | refine Ex.stopL ?_)
  refine ⟨Ex.unfit (fr := (0, 0)) (t0 := 30) (ts := [(.gtr, rs1, 31, true), (.lss, rs1, 0, false), (.gtr, rd, 31, false), (.lss, rd, 0, false)]) (g := w.heap.size) (row := #[.int .i64 op, .int .i64 rd, .int .i64 rs1, .int .i64 rs2, .int .u32 imm, .bool aq, .bool rl]) ?_ [(64, false), (69, false), (74, false), (79, true)] 4 (by assumption) ?_ ?_ rfl ⟨rfl, rfl, rfl⟩ ⟨rfl, (Below.refl _ _).alloc (Nat.le_refl _) _⟩⟩
  · exact Array.getElem?_push_size
  · as_aux_lemma => kernel_rfl
  · simp only [List.forall_mem_cons, List.not_mem_nil, false_implies, implies_true, and_true, Ex.cmpB, decide_eq_true_eq, decide_eq_false_iff_not, Bool.not_eq_true', Bool.not_eq_false', beq_eq_false_iff_ne, beq_iff_eq, ne_eq]
    try omega

set_option maxRecDepth 100000 in
set_option maxHeartbeats 4000000 in
theorem rmayF1_rs2lo (op : Nat) (h : 1 ≤ op ∧ op ≤ 59) (hk : Is.fm op = 1) (rd rs1 rs2 imm : Int) (aq rl : Bool) (p_rd : 0 ≤ rd) (u_rd : rd ≤ 31) (p_rs1 : 0 ≤ rs1) (u_rs1 : rs1 ≤ 31) (c_rs2 : rs2 < 0) (w : World) :
    Calls Tryd.prog 6 #[inst op rd rs1 rs2 imm aq rl] w fun e w' => e = .returned (.bool false) ∧ Below w.heap.size w w' := by
  have HF := Lib.hid (show Is.fb (Is.fm op) = 117 by rw [hk]; rfl)
  clear hk
  unfold inst
  go_enter Tryd.func6, Tryd.ntmps6
  go_wp2_with (first
    | (go_at_call 13; refine (rform_yes op h _).mono ?_; rw [HF.out]; rintro e w' ⟨rfl, rfl⟩)
    | refine Ex.stopL ?_)
  refine ⟨Ex.unfit (fr := (0, 0)) (t0 := 30) (ts := [(.lss, rs2, 0, true), (.gtr, rs1, 31, false), (.lss, rs1, 0, false), (.gtr, rd, 31, false), (.lss, rd, 0, false)]) (g := w.heap.size) (row := #[.int .i64 op, .int .i64 rd, .int .i64 rs1, .int .i64 rs2, .int .u32 imm, .bool aq, .bool rl]) ?_ [(64, false), (69, false), (74, false), (79, false), (84, true)] 5 (by assumption) ?_ ?_ rfl ⟨rfl, rfl, rfl⟩ ⟨rfl, (Below.refl _ _).alloc (Nat.le_refl _) _⟩⟩
  · exact Array.getElem?_push_size
  · as_aux_lemma => kernel_rfl
  · simp only [List.forall_mem_cons, List.not_mem_nil, false_implies, implies_true, and_true, Ex.cmpB, decide_eq_true_eq, decide_eq_false_iff_not, Bool.not_eq_true', Bool.not_eq_false', beq_eq_false_iff_ne, beq_iff_eq, ne_eq]
    try omega

set_option maxRecDepth 100000 in
set_option maxHeartbeats 4000000 in
theorem rmayF1_rs2hi (op : Nat) (h : 1 ≤ op ∧ op ≤ 59) (hk : Is.fm op = 1) (rd rs1 rs2 imm : Int) (aq rl : Bool) (p_rd : 0 ≤ rd) (u_rd : rd ≤ 31) (p_rs1 : 0 ≤ rs1) (u_rs1 : rs1 ≤ 31) (p_rs2 : 0 ≤ rs2) (c_rs2 : 31 < rs2) (w : World) :
    Calls Tryd.prog 6 #[inst op rd rs1 rs2 imm aq rl] w fun e w' => e = .returned (.bool false) ∧ Below w.heap.size w w' := by
  have HF := Lib.hid (show Is.fb (Is.fm op) = 117 by rw [hk]; rfl)
  clear hk
  unfold inst
  go_enter Tryd.func6, Tryd.ntmps6
  go_wp2_with (first
    | (go_at_call 13; refine (rform_yes op h _).mono ?_; rw [HF.out]; rintro e w' ⟨rfl, rfl⟩)
    | refine Ex.stopL ?_)
  refine ⟨Ex.unfit (fr := (0, 0)) (t0 := 30) (ts := [(.gtr, rs2, 31, true), (.lss, rs2, 0, false), (.gtr, rs1, 31, false), (.lss, rs1, 0, false), (.gtr, rd, 31, false), (.lss, rd, 0, false)]) (g := w.heap.size) (row := #[.int .i64 op, .int .i64 rd, .int .i64 rs1, .int .i64 rs2, .int .u32 imm, .bool aq, .bool rl]) ?_ [(64, false), (69, false), (74, false), (79, false), (84, false), (89, true)] 6 (by assumption) ?_ ?_ rfl ⟨rfl, rfl, rfl⟩ ⟨rfl, (Below.refl _ _).alloc (Nat.le_refl _) _⟩⟩
  · exact Array.getElem?_push_size
  · as_aux_lemma => kernel_rfl
  · simp only [List.forall_mem_cons, List.not_mem_nil, false_implies, implies_true, and_true, Ex.cmpB, decide_eq_true_eq, decide_eq_false_iff_not, Bool.not_eq_true', Bool.not_eq_false', beq_eq_false_iff_ne, beq_iff_eq, ne_eq]
    try omega

set_option maxRecDepth 100000 in
set_option maxHeartbeats 4000000 in
theorem rmayF1_rs1nz (op : Nat) (h : 1 ≤ op ∧ op ≤ 59) (hk : Is.fm op = 1) (rd rs1 rs2 imm : Int) (aq rl : Bool) (p_rd : 0 ≤ rd) (u_rd : rd ≤ 31) (p_rs1 : 0 ≤ rs1) (u_rs1 : rs1 ≤ 31) (p_rs2 : 0 ≤ rs2) (u_rs2 : rs2 ≤ 31) (n_rs1 : 1 ≤ rs1) (w : World) :
    Calls Tryd.prog 6 #[inst op rd rs1 rs2 imm aq rl] w fun e w' => e = .returned (.bool false) ∧ Below w.heap.size w w' := by
  have HF := Lib.hid (show Is.fb (Is.fm op) = 117 by rw [hk]; rfl)
  clear hk
  unfold inst
  go_enter Tryd.func6, Tryd.ntmps6
  go_wp2_with (first
    | (go_at_call 13; refine (rform_yes op h _).mono ?_; rw [HF.out]; rintro e w' ⟨rfl, rfl⟩)
    | refine Ex.stopL ?_)
  refine ⟨Ex.unfit (fr := (0, 0)) (t0 := 30) (ts := [(.neq, rs1, 0, true), (.gtr, rs2, 31, false), (.lss, rs2, 0, false), (.gtr, rs1, 31, false), (.lss, rs1, 0, false), (.gtr, rd, 31, false), (.lss, rd, 0, false)]) (g := w.heap.size) (row := #[.int .i64 op, .int .i64 rd, .int .i64 rs1, .int .i64 rs2, .int .u32 imm, .bool aq, .bool rl]) ?_ [(64, false), (69, false), (74, false), (79, false), (84, false), (89, false), (106, true)] 7 (by assumption) ?_ ?_ rfl ⟨rfl, rfl, rfl⟩ ⟨rfl, (Below.refl _ _).alloc (Nat.le_refl _) _⟩⟩
  · exact Array.getElem?_push_size
  · as_aux_lemma => kernel_rfl
  · simp only [List.forall_mem_cons, List.not_mem_nil, false_implies, implies_true, and_true, Ex.cmpB, decide_eq_true_eq, decide_eq_false_iff_not, Bool.not_eq_true', Bool.not_eq_false', beq_eq_false_iff_ne, beq_iff_eq, ne_eq]
    try omega

set_option maxRecDepth 100000 in
set_option maxHeartbeats 4000000 in
theorem rmayF1_rs2nz (op : Nat) (h : 1 ≤ op ∧ op ≤ 59) (hk : Is.fm op = 1) (rd rs1 rs2 imm : Int) (aq rl : Bool) (p_rd : 0 ≤ rd) (u_rd : rd ≤ 31) (p_rs2 : 0 ≤ rs2) (u_rs2 : rs2 ≤ 31) (n_rs2 : 1 ≤ rs2) (w : World) :
    Calls Tryd.prog 6 #[inst op rd 0 rs2 imm aq rl] w fun e w' => e = .returned (.bool false) ∧ Below w.heap.size w w' := by
  have HF := Lib.hid (show Is.fb (Is.fm op) = 117 by rw [hk]; rfl)
  clear hk
  unfold inst
  go_enter Tryd.func6, Tryd.ntmps6
  go_wp2_with (first
    | (go_at_call 13; refine (rform_yes op h _).mono ?_; rw [HF.out]; rintro e w' ⟨rfl, rfl⟩)
    | refine Ex.stopL ?_)
  refine ⟨Ex.unfit (fr := (0, 0)) (t0 := 30) (ts := [(.neq, rs2, 0, true), (.gtr, rs2, 31, false), (.lss, rs2, 0, false), (.gtr, rd, 31, false), (.lss, rd, 0, false)]) (g := w.heap.size) (row := #[.int .i64 op, .int .i64 rd, .int .i64 0, .int .i64 rs2, .int .u32 imm, .bool aq, .bool rl]) ?_ [(64, false), (69, false), (84, false), (89, false), (115, true)] 8 (by assumption) ?_ ?_ rfl ⟨rfl, rfl, rfl⟩ ⟨rfl, (Below.refl _ _).alloc (Nat.le_refl _) _⟩⟩
  · exact Array.getElem?_push_size
  · as_aux_lemma => kernel_rfl
  · simp only [List.forall_mem_cons, List.not_mem_nil, false_implies, implies_true, and_true, Ex.cmpB, decide_eq_true_eq, decide_eq_false_iff_not, Bool.not_eq_true', Bool.not_eq_false', beq_eq_false_iff_ne, beq_iff_eq, ne_eq]
    try omega

set_option maxRecDepth 100000 in
set_option maxHeartbeats 4000000 in
theorem rmayF1_aq (op : Nat) (h : 1 ≤ op ∧ op ≤ 59) (hk : Is.fm op = 1) (rd rs1 rs2 imm : Int) (aq rl : Bool) (p_rd : 0 ≤ rd) (u_rd : rd ≤ 31) (w : World) :
    Calls Tryd.prog 6 #[inst op rd 0 0 imm true rl] w fun e w' => e = .returned (.bool false) ∧ Below w.heap.size w w' := by
  have HF := Lib.hid (show Is.fb (Is.fm op) = 117 by rw [hk]; rfl)
  clear hk
  unfold inst
  go_enter Tryd.func6, Tryd.ntmps6
  go_wp2_with (first
    | (go_at_call 13; refine (rform_yes op h _).mono ?_; rw [HF.out]; rintro e w' ⟨rfl, rfl⟩)
    | refine Ex.stopL ?_)
  refine ⟨Ex.unfit (fr := (0, 0)) (t0 := 30) (ts := [(.gtr, rd, 31, false), (.lss, rd, 0, false)]) (g := w.heap.size) (row := #[.int .i64 op, .int .i64 rd, .int .i64 0, .int .i64 0, .int .u32 imm, .bool true, .bool rl]) ?_ [(64, false), (69, false)] 9 (by assumption) ?_ ?_ rfl ⟨rfl, rfl, rfl⟩ ⟨rfl, (Below.refl _ _).alloc (Nat.le_refl _) _⟩⟩
  · exact Array.getElem?_push_size
  · as_aux_lemma => kernel_rfl
  · simp only [List.forall_mem_cons, List.not_mem_nil, false_implies, implies_true, and_true, Ex.cmpB, decide_eq_true_eq, decide_eq_false_iff_not, Bool.not_eq_true', Bool.not_eq_false', beq_eq_false_iff_ne, beq_iff_eq, ne_eq]
    try omega

set_option maxRecDepth 100000 in
set_option maxHeartbeats 4000000 in
theorem rmayF1_rl (op : Nat) (h : 1 ≤ op ∧ op ≤ 59) (hk : Is.fm op = 1) (rd rs1 rs2 imm : Int) (aq rl : Bool) (p_rd : 0 ≤ rd) (u_rd : rd ≤ 31) (w : World) :
    Calls Tryd.prog 6 #[inst op rd 0 0 imm false true] w fun e w' => e = .returned (.bool false) ∧ Below w.heap.size w w' := by
  have HF := Lib.hid (show Is.fb (Is.fm op) = 117 by rw [hk]; rfl)
  clear hk
  unfold inst
  go_enter Tryd.func6, Tryd.ntmps6
  go_wp2_with (first
    | (go_at_call 13; refine (rform_yes op h _).mono ?_; rw [HF.out]; rintro e w' ⟨rfl, rfl⟩)
    | refine Ex.stopL ?_)
  refine ⟨Ex.unfit (fr := (0, 0)) (t0 := 30) (ts := [(.gtr, rd, 31, false), (.lss, rd, 0, false)]) (g := w.heap.size) (row := #[.int .i64 op, .int .i64 rd, .int .i64 0, .int .i64 0, .int .u32 imm, .bool false, .bool true]) ?_ [(64, false), (69, false)] 10 (by assumption) ?_ ?_ rfl ⟨rfl, rfl, rfl⟩ ⟨rfl, (Below.refl _ _).alloc (Nat.le_refl _) _⟩⟩
  · exact Array.getElem?_push_size
  · as_aux_lemma => kernel_rfl
  · simp only [List.forall_mem_cons, List.not_mem_nil, false_implies, implies_true, and_true, Ex.cmpB, decide_eq_true_eq, decide_eq_false_iff_not, Bool.not_eq_true', Bool.not_eq_false', beq_eq_false_iff_ne, beq_iff_eq, ne_eq]
    try omega

set_option maxRecDepth 100000 in
set_option maxHeartbeats 4000000 in
theorem rmayF2_rdlo (op : Nat) (h : 1 ≤ op ∧ op ≤ 59) (hk : Is.fm op = 2) (rd rs1 rs2 imm : Int) (aq rl : Bool) (c_rd : rd < 0) (w : World) :
    Calls Tryd.prog 6 #[inst op rd rs1 rs2 imm aq rl] w fun e w' => e = .returned (.bool false) ∧ Below w.heap.size w w' := by
  have HF := Lib.hid (show Is.fb (Is.fm op) = 106 by rw [hk]; rfl)
  clear hk
  unfold inst
  go_enter Tryd.func6, Tryd.ntmps6
  go_wp2_with (first
    | (go_at_call 13; refine (rform_yes op h _).mono ?_; rw [HF.out]; rintro e w' ⟨rfl, rfl⟩)
    | refine Ex.stopL ?_)
  refine ⟨Ex.unfit (fr := (0, 0)) (t0 := 30) (ts := [(.lss, rd, 0, true)]) (g := w.heap.size) (row := #[.int .i64 op, .int .i64 rd, .int .i64 rs1, .int .i64 rs2, .int .u32 imm, .bool aq, .bool rl]) ?_ [(64, true)] 1 (by assumption) ?_ ?_ rfl ⟨rfl, rfl, rfl⟩ ⟨rfl, (Below.refl _ _).alloc (Nat.le_refl _) _⟩⟩
  · exact Array.getElem?_push_size
  · as_aux_lemma => kernel_rfl
  · simp only [List.forall_mem_cons, List.not_mem_nil, false_implies, implies_true, and_true, Ex.cmpB, decide_eq_true_eq, decide_eq_false_iff_not, Bool.not_eq_true', Bool.not_eq_false', beq_eq_false_iff_ne, beq_iff_eq, ne_eq]
    try omega

set_option maxRecDepth 100000 in
set_option maxHeartbeats 4000000 in
theorem rmayF2_rdhi (op : Nat) (h : 1 ≤ op ∧ op ≤ 59) (hk : Is.fm op = 2) (rd rs1 rs2 imm : Int) (aq rl : Bool) (p_rd : 0 ≤ rd) (c_rd : 31 < rd) (w : World) :
    Calls Tryd.prog 6 #[inst op rd rs1 rs2 imm aq rl] w fun e w' => e = .returned (.bool false) ∧ Below w.heap.size w w' := by
  have HF := Lib.hid (show Is.fb (Is.fm op) = 106 by rw [hk]; rfl)
  clear hk
  unfold inst
  go_enter Tryd.func6, Tryd.ntmps6
  go_wp2_with (first
    | (go_at_call 13; refine (rform_yes op h _).mono ?_; rw [HF.out]; rintro e w' ⟨rfl, rfl⟩)
    | refine Ex.stopL ?_)
  refine ⟨Ex.unfit (fr := (0, 0)) (t0 := 30) (ts := [(.gtr, rd, 31, true), (.lss, rd, 0, false)]) (g := w.heap.size) (row := #[.int .i64 op, .int .i64 rd, .int .i64 rs1, .int .i64 rs2, .int .u32 imm, .bool aq, .bool rl]) ?_ [(64, false), (69, true)] 2 (by assumption) ?_ ?_ rfl ⟨rfl, rfl, rfl⟩ ⟨rfl, (Below.refl _ _).alloc (Nat.le_refl _) _⟩⟩
  · exact Array.getElem?_push_size
  · as_aux_lemma => kernel_rfl
  · simp only [List.forall_mem_cons, List.not_mem_nil, false_implies, implies_true, and_true, Ex.cmpB, decide_eq_true_eq, decide_eq_false_iff_not, Bool.not_eq_true', Bool.not_eq_false', beq_eq_false_iff_ne, beq_iff_eq, ne_eq]
    try omega

set_option maxRecDepth 100000 in
set_option maxHeartbeats 4000000 in
theorem rmayF2_rs1lo (op : Nat) (h : 1 ≤ op ∧ op ≤ 59) (hk : Is.fm op = 2) (rd rs1 rs2 imm : Int) (aq rl : Bool) (p_rd : 0 ≤ rd) (u_rd : rd ≤ 31) (c_rs1 : rs1 < 0) (w : World) :
    Calls Tryd.prog 6 #[inst op rd rs1 rs2 imm aq rl] w fun e w' => e = .returned (.bool false) ∧ Below w.heap.size w w' := by
  have HF := Lib.hid (show Is.fb (Is.fm op) = 106 by rw [hk]; rfl)
  clear hk
  unfold inst
  go_enter Tryd.func6, Tryd.ntmps6
  go_wp2_with (first
    | (go_at_call 13; refine (rform_yes op h _).mono ?_; rw [HF.out]; rintro e w' ⟨rfl, rfl⟩)
    | refine Ex.stopL ?_)
  refine ⟨Ex.unfit (fr := (0, 0)) (t0 := 30) (ts := [(.lss, rs1, 0, true), (.gtr, rd, 31, false), (.lss, rd, 0, false)]) (g := w.heap.size) (row := #[.int .i64 op, .int .i64 rd, .int .i64 rs1, .int .i64 rs2, .int .u32 imm, .bool aq, .bool rl]) ?_ [(64, false), (69, false), (74, true)] 3 (by assumption) ?_ ?_ rfl ⟨rfl, rfl, rfl⟩ ⟨rfl, (Below.refl _ _).alloc (Nat.le_refl _) _⟩⟩
  · exact Array.getElem?_push_size
  · as_aux_lemma => kernel_rfl
  · simp only [List.forall_mem_cons, List.not_mem_nil, false_implies, implies_true, and_true, Ex.cmpB, decide_eq_true_eq, decide_eq_false_iff_not, Bool.not_eq_true', Bool.not_eq_false', beq_eq_false_iff_ne, beq_iff_eq, ne_eq]
    try omega

set_option maxRecDepth 100000 in
set_option maxHeartbeats 4000000 in
theorem rmayF2_rs1hi (op : Nat) (h : 1 ≤ op ∧ op ≤ 59) (hk : Is.fm op = 2) (rd rs1 rs2 imm : Int) (aq rl : Bool) (p_rd : 0 ≤ rd) (u_rd : rd ≤ 31) (p_rs1 : 0 ≤ rs1) (c_rs1 : 31 < rs1) (w : World) :
    Calls Tryd.prog 6 #[inst op rd rs1 rs2 imm aq rl] w fun e w' => e = .returned (.bool false) ∧ Below w.heap.size w w' := by
  have HF := Lib.hid (show Is.fb (Is.fm op) = 106 by rw [hk]; rfl)
  clear hk
  unfold inst
  go_enter Tryd.func6, Tryd.ntmps6
  go_wp2_with (first
    | (go_at_call 13; refine (rform_yes op h _).mono ?_; rw [HF.out]; rintro e w' ⟨rfl, rfl⟩)
    | refine Ex.stopL ?_)
  refine ⟨Ex.unfit (fr := (0, 0)) (t0 := 30) (ts := [(.gtr, rs1, 31, true), (.lss, rs1, 0, false), (.gtr, rd, 31, false), (.lss, rd, 0, false)]) (g := w.heap.size) (row := #[.int .i64 op, .int .i64 rd, .int .i64 rs1, .int .i64 rs2, .int .u32 imm, .bool aq, .bool rl]) ?_ [(64, false), (69, false), (74, false), (79, true)] 4 (by assumption) ?_ ?_ rfl ⟨rfl, rfl, rfl⟩ ⟨rfl, (Below.refl _ _).alloc (Nat.le_refl _) _⟩⟩
  · exact Array.getElem?_push_size
  · as_aux_lemma => kernel_rfl
  · simp only [List.forall_mem_cons, List.not_mem_nil, false_implies, implies_true, and_true, Ex.cmpB, decide_eq_true_eq, decide_eq_false_iff_not, Bool.not_eq_true', Bool.not_eq_false', beq_eq_false_iff_ne, beq_iff_eq, ne_eq]
    try omega

set_option maxRecDepth 100000 in
set_option maxHeartbeats 4000000 in
theorem rmayF2_rs2lo (op : Nat) (h : 1 ≤ op ∧ op ≤ 59) (hk : Is.fm op = 2) (rd rs1 rs2 imm : Int) (aq rl : Bool) (p_rd : 0 ≤ rd) (u_rd : rd ≤ 31) (p_rs1 : 0 ≤ rs1) (u_rs1 : rs1 ≤ 31) (c_rs2 : rs2 < 0) (w : World) :
    Calls Tryd.prog 6 #[inst op rd rs1 rs2 imm aq rl] w fun e w' => e = .returned (.bool false) ∧ Below w.heap.size w w' := by
  have HF := Lib.hid (show Is.fb (Is.fm op) = 106 by rw [hk]; rfl)
  clear hk
  unfold inst
  go_enter Tryd.func6, Tryd.ntmps6
  go_wp2_with (first
    | (go_at_call 13; refine (rform_yes op h _).mono ?_; rw [HF.out]; rintro e w' ⟨rfl, rfl⟩)
    | refine Ex.stopL ?_)
  refine ⟨Ex.unfit (fr := (0, 0)) (t0 := 30) (ts := [(.lss, rs2, 0, true), (.gtr, rs1, 31, false), (.lss, rs1, 0, false), (.gtr, rd, 31, false), (.lss, rd, 0, false)]) (g := w.heap.size) (row := #[.int .i64 op, .int .i64 rd, .int .i64 rs1, .int .i64 rs2, .int .u32 imm, .bool aq, .bool rl]) ?_ [(64, false), (69, false), (74, false), (79, false), (84, true)] 5 (by assumption) ?_ ?_ rfl ⟨rfl, rfl, rfl⟩ ⟨rfl, (Below.refl _ _).alloc (Nat.le_refl _) _⟩⟩
  · exact Array.getElem?_push_size
  · as_aux_lemma => kernel_rfl
  · simp only [List.forall_mem_cons, List.not_mem_nil, false_implies, implies_true, and_true, Ex.cmpB, decide_eq_true_eq, decide_eq_false_iff_not, Bool.not_eq_true', Bool.not_eq_false', beq_eq_false_iff_ne, beq_iff_eq, ne_eq]
    try omega

set_option maxRecDepth 100000 in
set_option maxHeartbeats 4000000 in
theorem rmayF2_rs2hi (op : Nat) (h : 1 ≤ op ∧ op ≤ 59) (hk : Is.fm op = 2) (rd rs1 rs2 imm : Int) (aq rl : Bool) (p_rd : 0 ≤ rd) (u_rd : rd ≤ 31) (p_rs1 : 0 ≤ rs1) (u_rs1 : rs1 ≤ 31) (p_rs2 : 0 ≤ rs2) (c_rs2 : 31 < rs2) (w : World) :
    Calls Tryd.prog 6 #[inst op rd rs1 rs2 imm aq rl] w fun e w' => e = .returned (.bool false) ∧ Below w.heap.size w w' := by
  have HF := Lib.hid (show Is.fb (Is.fm op) = 106 by rw [hk]; rfl)
  clear hk
  unfold inst
  go_enter Tryd.func6, Tryd.ntmps6
  go_wp2_with (first
    | (go_at_call 13; refine (rform_yes op h _).mono ?_; rw [HF.out]; rintro e w' ⟨rfl, rfl⟩)
    | refine Ex.stopL ?_)
  refine ⟨Ex.unfit (fr := (0, 0)) (t0 := 30) (ts := [(.gtr, rs2, 31, true), (.lss, rs2, 0, false), (.gtr, rs1, 31, false), (.lss, rs1, 0, false), (.gtr, rd, 31, false), (.lss, rd, 0, false)]) (g := w.heap.size) (row := #[.int .i64 op, .int .i64 rd, .int .i64 rs1, .int .i64 rs2, .int .u32 imm, .bool aq, .bool rl]) ?_ [(64, false), (69, false), (74, false), (79, false), (84, false), (89, true)] 6 (by assumption) ?_ ?_ rfl ⟨rfl, rfl, rfl⟩ ⟨rfl, (Below.refl _ _).alloc (Nat.le_refl _) _⟩⟩
  · exact Array.getElem?_push_size
  · as_aux_lemma => kernel_rfl
  · simp only [List.forall_mem_cons, List.not_mem_nil, false_implies, implies_true, and_true, Ex.cmpB, decide_eq_true_eq, decide_eq_false_iff_not, Bool.not_eq_true', Bool.not_eq_false', beq_eq_false_iff_ne, beq_iff_eq, ne_eq]
    try omega

set_option maxRecDepth 100000 in
set_option maxHeartbeats 4000000 in
theorem rmayF2_rs1nz (op : Nat) (h : 1 ≤ op ∧ op ≤ 59) (hk : Is.fm op = 2) (rd rs1 rs2 imm : Int) (aq rl : Bool) (p_rd : 0 ≤ rd) (u_rd : rd ≤ 31) (p_rs1 : 0 ≤ rs1) (u_rs1 : rs1 ≤ 31) (p_rs2 : 0 ≤ rs2) (u_rs2 : rs2 ≤ 31) (n_rs1 : 1 ≤ rs1) (w : World) :
    Calls Tryd.prog 6 #[inst op rd rs1 rs2 imm aq rl] w fun e w' => e = .returned (.bool false) ∧ Below w.heap.size w w' := by
  have HF := Lib.hid (show Is.fb (Is.fm op) = 106 by rw [hk]; rfl)
  clear hk
  unfold inst
  go_enter Tryd.func6, Tryd.ntmps6
  go_wp2_with (first
    | (go_at_call 13; refine (rform_yes op h _).mono ?_; rw [HF.out]; rintro e w' ⟨rfl, rfl⟩)
    | refine Ex.stopL ?_)
  refine ⟨Ex.unfit (fr := (0, 0)) (t0 := 30) (ts := [(.neq, rs1, 0, true), (.gtr, rs2, 31, false), (.lss, rs2, 0, false), (.gtr, rs1, 31, false), (.lss, rs1, 0, false), (.gtr, rd, 31, false), (.lss, rd, 0, false)]) (g := w.heap.size) (row := #[.int .i64 op, .int .i64 rd, .int .i64 rs1, .int .i64 rs2, .int .u32 imm, .bool aq, .bool rl]) ?_ [(64, false), (69, false), (74, false), (79, false), (84, false), (89, false), (106, true)] 7 (by assumption) ?_ ?_ rfl ⟨rfl, rfl, rfl⟩ ⟨rfl, (Below.refl _ _).alloc (Nat.le_refl _) _⟩⟩
  · exact Array.getElem?_push_size
  · as_aux_lemma => kernel_rfl
  · simp only [List.forall_mem_cons, List.not_mem_nil, false_implies, implies_true, and_true, Ex.cmpB, decide_eq_true_eq, decide_eq_false_iff_not, Bool.not_eq_true', Bool.not_eq_false', beq_eq_false_iff_ne, beq_iff_eq, ne_eq]
    try omega

set_option maxRecDepth 100000 in
set_option maxHeartbeats 4000000 in
theorem rmayF2_rs2nz (op : Nat) (h : 1 ≤ op ∧ op ≤ 59) (hk : Is.fm op = 2) (rd rs1 rs2 imm : Int) (aq rl : Bool) (p_rd : 0 ≤ rd) (u_rd : rd ≤ 31) (p_rs2 : 0 ≤ rs2) (u_rs2 : rs2 ≤ 31) (n_rs2 : 1 ≤ rs2) (w : World) :
    Calls Tryd.prog 6 #[inst op rd 0 rs2 imm aq rl] w fun e w' => e = .returned (.bool false) ∧ Below w.heap.size w w' := by
  have HF := Lib.hid (show Is.fb (Is.fm op) = 106 by rw [hk]; rfl)
  clear hk
  unfold inst
  go_enter Tryd.func6, Tryd.ntmps6
  go_wp2_with (first
    | (go_at_call 13; refine (rform_yes op h _).mono ?_; rw [HF.out]; rintro e w' ⟨rfl, rfl⟩)
    | refine Ex.stopL ?_)
  refine ⟨Ex.unfit (fr := (0, 0)) (t0 := 30) (ts := [(.neq, rs2, 0, true), (.gtr, rs2, 31, false), (.lss, rs2, 0, false), (.gtr, rd, 31, false), (.lss, rd, 0, false)]) (g := w.heap.size) (row := #[.int .i64 op, .int .i64 rd, .int .i64 0, .int .i64 rs2, .int .u32 imm, .bool aq, .bool rl]) ?_ [(64, false), (69, false), (84, false), (89, false), (115, true)] 8 (by assumption) ?_ ?_ rfl ⟨rfl, rfl, rfl⟩ ⟨rfl, (Below.refl _ _).alloc (Nat.le_refl _) _⟩⟩
  · exact Array.getElem?_push_size
  · as_aux_lemma => kernel_rfl
  · simp only [List.forall_mem_cons, List.not_mem_nil, false_implies, implies_true, and_true, Ex.cmpB, decide_eq_true_eq, decide_eq_false_iff_not, Bool.not_eq_true', Bool.not_eq_false', beq_eq_false_iff_ne, beq_iff_eq, ne_eq]
    try omega

set_option maxRecDepth 100000 in
set_option maxHeartbeats 4000000 in
theorem rmayF2_aq (op : Nat) (h : 1 ≤ op ∧ op ≤ 59) (hk : Is.fm op = 2) (rd rs1 rs2 imm : Int) (aq rl : Bool) (p_rd : 0 ≤ rd) (u_rd : rd ≤ 31) (w : World) :
    Calls Tryd.prog 6 #[inst op rd 0 0 imm true rl] w fun e w' => e = .returned (.bool false) ∧ Below w.heap.size w w' := by
  have HF := Lib.hid (show Is.fb (Is.fm op) = 106 by rw [hk]; rfl)
  clear hk
  unfold inst
  go_enter Tryd.func6, Tryd.ntmps6
  go_wp2_with (first
    | (go_at_call 13; refine (rform_yes op h _).mono ?_; rw [HF.out]; rintro e w' ⟨rfl, rfl⟩)
    | refine Ex.stopL ?_)
  refine ⟨Ex.unfit (fr := (0, 0)) (t0 := 30) (ts := [(.gtr, rd, 31, false), (.lss, rd, 0, false)]) (g := w.heap.size) (row := #[.int .i64 op, .int .i64 rd, .int .i64 0, .int .i64 0, .int .u32 imm, .bool true, .bool rl]) ?_ [(64, false), (69, false)] 9 (by assumption) ?_ ?_ rfl ⟨rfl, rfl, rfl⟩ ⟨rfl, (Below.refl _ _).alloc (Nat.le_refl _) _⟩⟩
  · exact Array.getElem?_push_size
  · as_aux_lemma => kernel_rfl
  · simp only [List.forall_mem_cons, List.not_mem_nil, false_implies, implies_true, and_true, Ex.cmpB, decide_eq_true_eq, decide_eq_false_iff_not, Bool.not_eq_true', Bool.not_eq_false', beq_eq_false_iff_ne, beq_iff_eq, ne_eq]
    try omega

set_option maxRecDepth 100000 in
set_option maxHeartbeats 4000000 in
theorem rmayF2_rl (op : Nat) (h : 1 ≤ op ∧ op ≤ 59) (hk : Is.fm op = 2) (rd rs1 rs2 imm : Int) (aq rl : Bool) (p_rd : 0 ≤ rd) (u_rd : rd ≤ 31) (w : World) :
    Calls Tryd.prog 6 #[inst op rd 0 0 imm false true] w fun e w' => e = .returned (.bool false) ∧ Below w.heap.size w w' := by
  have HF := Lib.hid (show Is.fb (Is.fm op) = 106 by rw [hk]; rfl)
  clear hk
  unfold inst
  go_enter Tryd.func6, Tryd.ntmps6
  go_wp2_with (first
    | (go_at_call 13; refine (rform_yes op h _).mono ?_; rw [HF.out]; rintro e w' ⟨rfl, rfl⟩)
    | refine Ex.stopL ?_)
  refine ⟨Ex.unfit (fr := (0, 0)) (t0 := 30) (ts := [(.gtr, rd, 31, false), (.lss, rd, 0, false)]) (g := w.heap.size) (row := #[.int .i64 op, .int .i64 rd, .int .i64 0, .int .i64 0, .int .u32 imm, .bool false, .bool true]) ?_ [(64, false), (69, false)] 10 (by assumption) ?_ ?_ rfl ⟨rfl, rfl, rfl⟩ ⟨rfl, (Below.refl _ _).alloc (Nat.le_refl _) _⟩⟩
  · exact Array.getElem?_push_size
  · as_aux_lemma => kernel_rfl
  · simp only [List.forall_mem_cons, List.not_mem_nil, false_implies, implies_true, and_true, Ex.cmpB, decide_eq_true_eq, decide_eq_false_iff_not, Bool.not_eq_true', Bool.not_eq_false', beq_eq_false_iff_ne, beq_iff_eq, ne_eq]
    try omega

set_option maxRecDepth 100000 in
set_option maxHeartbeats 4000000 in
theorem rmayF3_rdlo (op : Nat) (h : 1 ≤ op ∧ op ≤ 59) (hk : Is.fm op = 3) (rd rs1 rs2 imm : Int) (aq rl : Bool) (c_rd : rd < 0) (w : World) :
    Calls Tryd.prog 6 #[inst op rd rs1 rs2 imm aq rl] w fun e w' => e = .returned (.bool false) ∧ Below w.heap.size w w' := by
  have HF := Lib.hid (show Is.fb (Is.fm op) = 105 by rw [hk]; rfl)
  clear hk
  unfold inst
  go_enter Tryd.func6, Tryd.ntmps6
  go_wp2_with (first
    | (go_at_call 13; refine (rform_yes op h _).mono ?_; rw [HF.out]; rintro e w' ⟨rfl, rfl⟩)
    | refine Ex.stopL ?_)
  refine ⟨Ex.unfit (fr := (0, 0)) (t0 := 30) (ts := [(.lss, rd, 0, true)]) (g := w.heap.size) (row := #[.int .i64 op, .int .i64 rd, .int .i64 rs1, .int .i64 rs2, .int .u32 imm, .bool aq, .bool rl]) ?_ [(64, true)] 1 (by assumption) ?_ ?_ rfl ⟨rfl, rfl, rfl⟩ ⟨rfl, (Below.refl _ _).alloc (Nat.le_refl _) _⟩⟩
  · exact Array.getElem?_push_size
  · as_aux_lemma => kernel_rfl
  · simp only [List.forall_mem_cons, List.not_mem_nil, false_implies, implies_true, and_true, Ex.cmpB, decide_eq_true_eq, decide_eq_false_iff_not, Bool.not_eq_true', Bool.not_eq_false', beq_eq_false_iff_ne, beq_iff_eq, ne_eq]
    try omega

set_option maxRecDepth 100000 in
set_option maxHeartbeats 4000000 in
theorem rmayF3_rdhi (op : Nat) (h : 1 ≤ op ∧ op ≤ 59) (hk : Is.fm op = 3) (rd rs1 rs2 imm : Int) (aq rl : Bool) (p_rd : 0 ≤ rd) (c_rd : 31 < rd) (w : World) :
    Calls Tryd.prog 6 #[inst op rd rs1 rs2 imm aq rl] w fun e w' => e = .returned (.bool false) ∧ Below w.heap.size w w' := by
  have HF := Lib.hid (show Is.fb (Is.fm op) = 105 by rw [hk]; rfl)
  clear hk
  unfold inst
  go_enter Tryd.func6, Tryd.ntmps6
  go_wp2_with (first
    | (go_at_call 13; refine (rform_yes op h _).mono ?_; rw [HF.out]; rintro e w' ⟨rfl, rfl⟩)
    | refine Ex.stopL ?_)
  refine ⟨Ex.unfit (fr := (0, 0)) (t0 := 30) (ts := [(.gtr, rd, 31, true), (.lss, rd, 0, false)]) (g := w.heap.size) (row := #[.int .i64 op, .int .i64 rd, .int .i64 rs1, .int .i64 rs2, .int .u32 imm, .bool aq, .bool rl]) ?_ [(64, false), (69, true)] 2 (by assumption) ?_ ?_ rfl ⟨rfl, rfl, rfl⟩ ⟨rfl, (Below.refl _ _).alloc (Nat.le_refl _) _⟩⟩
  · exact Array.getElem?_push_size
  · as_aux_lemma => kernel_rfl
  · simp only [List.forall_mem_cons, List.not_mem_nil, false_implies, implies_true, and_true, Ex.cmpB, decide_eq_true_eq, decide_eq_false_iff_not, Bool.not_eq_true', Bool.not_eq_false', beq_eq_false_iff_ne, beq_iff_eq, ne_eq]
    try omega

set_option maxRecDepth 100000 in
set_option maxHeartbeats 4000000 in
theorem rmayF3_rs1lo (op : Nat) (h : 1 ≤ op ∧ op ≤ 59) (hk : Is.fm op = 3) (rd rs1 rs2 imm : Int) (aq rl : Bool) (p_rd : 0 ≤ rd) (u_rd : rd ≤ 31) (c_rs1 : rs1 < 0) (w : World) :
    Calls Tryd.prog 6 #[inst op rd rs1 rs2 imm aq rl] w fun e w' => e = .returned (.bool false) ∧ Below w.heap.size w w' := by
  have HF := Lib.hid (show Is.fb (Is.fm op) = 105 by rw [hk]; rfl)
  clear hk
  unfold inst
  go_enter Tryd.func6, Tryd.ntmps6
  go_wp2_with (first
    | (go_at_call 13; refine (rform_yes op h _).mono ?_; rw [HF.out]; rintro e w' ⟨rfl, rfl⟩)
    | refine Ex.stopL ?_)
  refine ⟨Ex.unfit (fr := (0, 0)) (t0 := 30) (ts := [(.lss, rs1, 0, true), (.gtr, rd, 31, false), (.lss, rd, 0, false)]) (g := w.heap.size) (row := #[.int .i64 op, .int .i64 rd, .int .i64 rs1, .int .i64 rs2, .int .u32 imm, .bool aq, .bool rl]) ?_ [(64, false), (69, false), (74, true)] 3 (by assumption) ?_ ?_ rfl ⟨rfl, rfl, rfl⟩ ⟨rfl, (Below.refl _ _).alloc (Nat.le_refl _) _⟩⟩
  · exact Array.getElem?_push_size
  · as_aux_lemma => kernel_rfl
  · simp only [List.forall_mem_cons, List.not_mem_nil, false_implies, implies_true, and_true, Ex.cmpB, decide_eq_true_eq, decide_eq_false_iff_not, Bool.not_eq_true', Bool.not_eq_false', beq_eq_false_iff_ne, beq_iff_eq, ne_eq]
    try omega

set_option maxRecDepth 100000 in
set_option maxHeartbeats 4000000 in
theorem rmayF3_rs1hi (op : Nat) (h : 1 ≤ op ∧ op ≤ 59) (hk : Is.fm op = 3) (rd rs1 rs2 imm : Int) (aq rl : Bool) (p_rd : 0 ≤ rd) (u_rd : rd ≤ 31) (p_rs1 : 0 ≤ rs1) (c_rs1 : 31 < rs1) (w : World) :
    Calls Tryd.prog 6 #[inst op rd rs1 rs2 imm aq rl] w fun e w' => e = .returned (.bool false) ∧ Below w.heap.size w w' := by
  have HF := Lib.hid (show Is.fb (Is.fm op) = 105 by rw [hk]; rfl)
  clear hk
  unfold inst
  go_enter Tryd.func6, Tryd.ntmps6
  go_wp2_with (first
    | (go_at_call 13; refine (rform_yes op h _).mono ?_; rw [HF.out]; rintro e w' ⟨rfl, rfl⟩)
    | refine Ex.stopL ?_)
  refine ⟨Ex.unfit (fr := (0, 0)) (t0 := 30) (ts := [(.gtr, rs1, 31, true), (.lss, rs1, 0, false), (.gtr, rd, 31, false), (.lss, rd, 0, false)]) (g := w.heap.size) (row := #[.int .i64 op, .int .i64 rd, .int .i64 rs1, .int .i64 rs2, .int .u32 imm, .bool aq, .bool rl]) ?_ [(64, false), (69, false), (74, false), (79, true)] 4 (by assumption) ?_ ?_ rfl ⟨rfl, rfl, rfl⟩ ⟨rfl, (Below.refl _ _).alloc (Nat.le_refl _) _⟩⟩
  · exact Array.getElem?_push_size
  · as_aux_lemma => kernel_rfl
  · simp only [List.forall_mem_cons, List.not_mem_nil, false_implies, implies_true, and_true, Ex.cmpB, decide_eq_true_eq, decide_eq_false_iff_not, Bool.not_eq_true', Bool.not_eq_false', beq_eq_false_iff_ne, beq_iff_eq, ne_eq]
    try omega

set_option maxRecDepth 100000 in
set_option maxHeartbeats 4000000 in
theorem rmayF3_rs2lo (op : Nat) (h : 1 ≤ op ∧ op ≤ 59) (hk : Is.fm op = 3) (rd rs1 rs2 imm : Int) (aq rl : Bool) (p_rd : 0 ≤ rd) (u_rd : rd ≤ 31) (p_rs1 : 0 ≤ rs1) (u_rs1 : rs1 ≤ 31) (c_rs2 : rs2 < 0) (w : World) :
    Calls Tryd.prog 6 #[inst op rd rs1 rs2 imm aq rl] w fun e w' => e = .returned (.bool false) ∧ Below w.heap.size w w' := by
  have HF := Lib.hid (show Is.fb (Is.fm op) = 105 by rw [hk]; rfl)
  clear hk
  unfold inst
  go_enter Tryd.func6, Tryd.ntmps6
  go_wp2_with (first
    | (go_at_call 13; refine (rform_yes op h _).mono ?_; rw [HF.out]; rintro e w' ⟨rfl, rfl⟩)
    | refine Ex.stopL ?_)
  refine ⟨Ex.unfit (fr := (0, 0)) (t0 := 30) (ts := [(.lss, rs2, 0, true), (.gtr, rs1, 31, false), (.lss, rs1, 0, false), (.gtr, rd, 31, false), (.lss, rd, 0, false)]) (g := w.heap.size) (row := #[.int .i64 op, .int .i64 rd, .int .i64 rs1, .int .i64 rs2, .int .u32 imm, .bool aq, .bool rl]) ?_ [(64, false), (69, false), (74, false), (79, false), (84, true)] 5 (by assumption) ?_ ?_ rfl ⟨rfl, rfl, rfl⟩ ⟨rfl, (Below.refl _ _).alloc (Nat.le_refl _) _⟩⟩
  · exact Array.getElem?_push_size
  · as_aux_lemma => kernel_rfl
  · simp only [List.forall_mem_cons, List.not_mem_nil, false_implies, implies_true, and_true, Ex.cmpB, decide_eq_true_eq, decide_eq_false_iff_not, Bool.not_eq_true', Bool.not_eq_false', beq_eq_false_iff_ne, beq_iff_eq, ne_eq]
    try omega

set_option maxRecDepth 100000 in
set_option maxHeartbeats 4000000 in
theorem rmayF3_rs2hi (op : Nat) (h : 1 ≤ op ∧ op ≤ 59) (hk : Is.fm op = 3) (rd rs1 rs2 imm : Int) (aq rl : Bool) (p_rd : 0 ≤ rd) (u_rd : rd ≤ 31) (p_rs1 : 0 ≤ rs1) (u_rs1 : rs1 ≤ 31) (p_rs2 : 0 ≤ rs2) (c_rs2 : 31 < rs2) (w : World) :
    Calls Tryd.prog 6 #[inst op rd rs1 rs2 imm aq rl] w fun e w' => e = .returned (.bool false) ∧ Below w.heap.size w w' := by
  have HF := Lib.hid (show Is.fb (Is.fm op) = 105 by rw [hk]; rfl)
  clear hk
  unfold inst
  go_enter Tryd.func6, Tryd.ntmps6
  go_wp2_with (first
    | (go_at_call 13; refine (rform_yes op h _).mono ?_; rw [HF.out]; rintro e w' ⟨rfl, rfl⟩)
    | refine Ex.stopL ?_)
  refine ⟨Ex.unfit (fr := (0, 0)) (t0 := 30) (ts := [(.gtr, rs2, 31, true), (.lss, rs2, 0, false), (.gtr, rs1, 31, false), (.lss, rs1, 0, false), (.gtr, rd, 31, false), (.lss, rd, 0, false)]) (g := w.heap.size) (row := #[.int .i64 op, .int .i64 rd, .int .i64 rs1, .int .i64 rs2, .int .u32 imm, .bool aq, .bool rl]) ?_ [(64, false), (69, false), (74, false), (79, false), (84, false), (89, true)] 6 (by assumption) ?_ ?_ rfl ⟨rfl, rfl, rfl⟩ ⟨rfl, (Below.refl _ _).alloc (Nat.le_refl _) _⟩⟩
  · exact Array.getElem?_push_size
  · as_aux_lemma => kernel_rfl
  · simp only [List.forall_mem_cons, List.not_mem_nil, false_implies, implies_true, and_true, Ex.cmpB, decide_eq_true_eq, decide_eq_false_iff_not, Bool.not_eq_true', Bool.not_eq_false', beq_eq_false_iff_ne, beq_iff_eq, ne_eq]
    try omega

set_option maxRecDepth 100000 in
set_option maxHeartbeats 4000000 in
theorem rmayF3_rs2nz (op : Nat) (h : 1 ≤ op ∧ op ≤ 59) (hk : Is.fm op = 3) (rd rs1 rs2 imm : Int) (aq rl : Bool) (p_rd : 0 ≤ rd) (u_rd : rd ≤ 31) (p_rs1 : 0 ≤ rs1) (u_rs1 : rs1 ≤ 31) (p_rs2 : 0 ≤ rs2) (u_rs2 : rs2 ≤ 31) (n_rs2 : 1 ≤ rs2) (w : World) :
    Calls Tryd.prog 6 #[inst op rd rs1 rs2 imm aq rl] w fun e w' => e = .returned (.bool false) ∧ Below w.heap.size w w' := by
  have HF := Lib.hid (show Is.fb (Is.fm op) = 105 by rw [hk]; rfl)
  clear hk
  unfold inst
  go_enter Tryd.func6, Tryd.ntmps6
  go_wp2_with (first
    | (go_at_call 13; refine (rform_yes op h _).mono ?_; rw [HF.out]; rintro e w' ⟨rfl, rfl⟩)
    | refine Ex.stopL ?_)
  refine ⟨Ex.unfit (fr := (0, 0)) (t0 := 30) (ts := [(.neq, rs2, 0, true), (.gtr, rs2, 31, false), (.lss, rs2, 0, false), (.gtr, rs1, 31, false), (.lss, rs1, 0, false), (.gtr, rd, 31, false), (.lss, rd, 0, false)]) (g := w.heap.size) (row := #[.int .i64 op, .int .i64 rd, .int .i64 rs1, .int .i64 rs2, .int .u32 imm, .bool aq, .bool rl]) ?_ [(64, false), (69, false), (74, false), (79, false), (84, false), (89, false), (115, true)] 7 (by assumption) ?_ ?_ rfl ⟨rfl, rfl, rfl⟩ ⟨rfl, (Below.refl _ _).alloc (Nat.le_refl _) _⟩⟩
  · exact Array.getElem?_push_size
  · as_aux_lemma => kernel_rfl
  · simp only [List.forall_mem_cons, List.not_mem_nil, false_implies, implies_true, and_true, Ex.cmpB, decide_eq_true_eq, decide_eq_false_iff_not, Bool.not_eq_true', Bool.not_eq_false', beq_eq_false_iff_ne, beq_iff_eq, ne_eq]
    try omega

set_option maxRecDepth 100000 in
set_option maxHeartbeats 4000000 in
theorem rmayF3_aq (op : Nat) (h : 1 ≤ op ∧ op ≤ 59) (hk : Is.fm op = 3) (rd rs1 rs2 imm : Int) (aq rl : Bool) (p_rd : 0 ≤ rd) (u_rd : rd ≤ 31) (p_rs1 : 0 ≤ rs1) (u_rs1 : rs1 ≤ 31) (w : World) :
    Calls Tryd.prog 6 #[inst op rd rs1 0 imm true rl] w fun e w' => e = .returned (.bool false) ∧ Below w.heap.size w w' := by
  have HF := Lib.hid (show Is.fb (Is.fm op) = 105 by rw [hk]; rfl)
  clear hk
  unfold inst
  go_enter Tryd.func6, Tryd.ntmps6
  go_wp2_with (first
    | (go_at_call 13; refine (rform_yes op h _).mono ?_; rw [HF.out]; rintro e w' ⟨rfl, rfl⟩)
    | refine Ex.stopL ?_)
  refine ⟨Ex.unfit (fr := (0, 0)) (t0 := 30) (ts := [(.gtr, rs1, 31, false), (.lss, rs1, 0, false), (.gtr, rd, 31, false), (.lss, rd, 0, false)]) (g := w.heap.size) (row := #[.int .i64 op, .int .i64 rd, .int .i64 rs1, .int .i64 0, .int .u32 imm, .bool true, .bool rl]) ?_ [(64, false), (69, false), (74, false), (79, false)] 8 (by assumption) ?_ ?_ rfl ⟨rfl, rfl, rfl⟩ ⟨rfl, (Below.refl _ _).alloc (Nat.le_refl _) _⟩⟩
  · exact Array.getElem?_push_size
  · as_aux_lemma => kernel_rfl
  · simp only [List.forall_mem_cons, List.not_mem_nil, false_implies, implies_true, and_true, Ex.cmpB, decide_eq_true_eq, decide_eq_false_iff_not, Bool.not_eq_true', Bool.not_eq_false', beq_eq_false_iff_ne, beq_iff_eq, ne_eq]
    try omega

set_option maxRecDepth 100000 in
set_option maxHeartbeats 4000000 in
theorem rmayF3_rl (op : Nat) (h : 1 ≤ op ∧ op ≤ 59) (hk : Is.fm op = 3) (rd rs1 rs2 imm : Int) (aq rl : Bool) (p_rd : 0 ≤ rd) (u_rd : rd ≤ 31) (p_rs1 : 0 ≤ rs1) (u_rs1 : rs1 ≤ 31) (w : World) :
    Calls Tryd.prog 6 #[inst op rd rs1 0 imm false true] w fun e w' => e = .returned (.bool false) ∧ Below w.heap.size w w' := by
  have HF := Lib.hid (show Is.fb (Is.fm op) = 105 by rw [hk]; rfl)
  clear hk
  unfold inst
  go_enter Tryd.func6, Tryd.ntmps6
  go_wp2_with (first
    | (go_at_call 13; refine (rform_yes op h _).mono ?_; rw [HF.out]; rintro e w' ⟨rfl, rfl⟩)
    | refine Ex.stopL ?_)
  refine ⟨Ex.unfit (fr := (0, 0)) (t0 := 30) (ts := [(.gtr, rs1, 31, false), (.lss, rs1, 0, false), (.gtr, rd, 31, false), (.lss, rd, 0, false)]) (g := w.heap.size) (row := #[.int .i64 op, .int .i64 rd, .int .i64 rs1, .int .i64 0, .int .u32 imm, .bool false, .bool true]) ?_ [(64, false), (69, false), (74, false), (79, false)] 9 (by assumption) ?_ ?_ rfl ⟨rfl, rfl, rfl⟩ ⟨rfl, (Below.refl _ _).alloc (Nat.le_refl _) _⟩⟩
  · exact Array.getElem?_push_size
  · as_aux_lemma => kernel_rfl
  · simp only [List.forall_mem_cons, List.not_mem_nil, false_implies, implies_true, and_true, Ex.cmpB, decide_eq_true_eq, decide_eq_false_iff_not, Bool.not_eq_true', Bool.not_eq_false', beq_eq_false_iff_ne, beq_iff_eq, ne_eq]
    try omega
end Go.Proofs.YtianojbdabeoeaaDoor
