/-
  HrAccM: HrAccA, HrAccB, HrAny in one text.
-/
import Derived.Test.YtianojbdabeoeaaGreatDoorHrValM
import Derived.Test.YtianojbdabeoeaaGreatDoorHtDoM

section
namespace Go.Proofs.YtianojbdabeoeaaGreatDoor
open Go.RowKit Ht
set_option linter.unusedVariables false
set_option maxRecDepth 100000 in
set_option maxHeartbeats 2000000 in
theorem racc_11 (h : H) (i : I) (hop : i.op = 11) (K : HIOk h i) (w : World) :
    Calls Tryz.prog 35 #[hartV h, instV i] w fun e w' => e = .returned (accV ⟨1, Ar.add (h.R i.rs1) i.imm, 1, 0, 0, false, false⟩) ∧ Below w.heap.size w w' := by
  have k1 := hc h i.rs1 K.rs1
  have k2 := hc h i.rs2 K.rs2
  have b1 : (i.rs1 : Int) < 32 := by have := K.rs1; omega
  have b2 : (i.rs2 : Int) < 32 := by have := K.rs2; omega
  have j0 : (icells i)[0]? = some (.int .i64 11) := by rw [← show ((i.op : Nat) : Int) = 11 by rw [hop]; rfl]; rfl
  clear hop
  have j2 : (icells i)[2]? = some (.int .i64 i.rs1) := rfl
  have j4 : (icells i)[4]? = some (.int .u32 i.imm) := rfl
  unfold hartV instV accV
  go_enter Tryz.func35, Tryz.ntmps35
  go_wp2
  go_quiet ((go_at_call 49; exact Calls.quiet_of_same ((radd_any _ _ (K.R _) K.imm _).mono fun _ _ h => ⟨h.1, h.2.symm⟩)))
  obtain ⟨W, hW⟩ : ∃ W, W = (((w.alloc (.cells (hcells h).toArray 26)).alloc (.cells (icells i).toArray 85)).alloc (.cells azero 37)).drewN nq := ⟨_, rfl⟩
  have q0 : W.heap[w.heap.size]? = some (.cells (hcells h).toArray 26) := by rw [hW]; exact (heap_a3 w _ _ _).1
  have q1 : W.heap[w.heap.size + 1]? = some (.cells (icells i).toArray 85) := by rw [hW]; exact (heap_a3 w _ _ _).2.1
  have q2 : W.heap[w.heap.size + 2]? = some (.cells azero 37) := by rw [hW]; exact (heap_a3 w _ _ _).2.2
  have c1 : W.cell? ⟨w.heap.size + 1, 3, none⟩ = some (.int .i64 i.rs2) := by rw [cell_of_row W _ 3 _ _ _ q1]; rfl
  have c2 : W.cell? ⟨w.heap.size, 2 + i.rs2, none⟩ = some (.int .u32 (h.R i.rs2)) := by rw [cell_of_row W _ _ _ _ _ q0]; simpa using k2
  have c3 : W.cell? ⟨w.heap.size + 1, 4, none⟩ = some (.int .u32 i.imm) := by rw [cell_of_row W _ 4 _ _ _ q1]; rfl
  have c4 : W.cell? ⟨w.heap.size + 1, 5, none⟩ = some (.bool i.aq) := by rw [cell_of_row W _ 5 _ _ _ q1]; rfl
  have c5 : W.cell? ⟨w.heap.size + 1, 6, none⟩ = some (.bool i.rl) := by rw [cell_of_row W _ 6 _ _ _ q1]; rfl
  have c6 : W.cell? ⟨w.heap.size + 1, 0, none⟩ = some (.int .i64 11) := by rw [cell_of_row W _ 0 _ _ _ q1]; simpa using j0
  have b : Below w.heap.size w W := by rw [hW]; exact (((Below.refl w.heap.size w).alloc (Nat.le_refl _) _).alloc (by simp only [World.size_alloc]; omega) _).alloc (by simp only [World.size_alloc]; omega) _ |>.trans ⟨rfl, rfl, rfl, Nat.le_refl _, fun _ _ => rfl⟩
  rw [← hW]
  have B := Lib.hid b; have Q2 := Lib.hid q2; clear b hW q0 q1 q2 k1 k2 j0 j2 j4 b1
  go_wp2_with fail
  refine (rwidth_11 _).mono ?_
  rintro e w1 ⟨rfl, rfl⟩
  have HR := Lib.hid (setRow_heap W (w.heap.size + 2) azero (acells ⟨1, Ar.add (h.R i.rs1) i.imm, 1, 0, 0, false, false⟩).toArray 37 (0, 0) Q2.out)
  go_wp2_with (refine wpList_store_row rfl 37 (.tmp 4) (.tmp 39) rfl (w.heap.size + 2) (acells ⟨1, Ar.add (h.R i.rs1) i.imm, 1, 0, 0, false, false⟩).toArray rfl rfl 37 azero Q2.out (by kernel_rfl) (by kernel_rfl) (by kernel_rfl) ?_)
  refine bodyPost_ret (v := .agg (acells ⟨1, Ar.add (h.R i.rs1) i.imm, 1, 0, 0, false, false⟩).toArray) ?_ rfl ⟨rfl, ?_⟩
  · exact results_cell_row (fn := Tryz.f35) rfl _ _ (w.heap.size + 2) 37 (acells ⟨1, Ar.add (h.R i.rs1) i.imm, 1, 0, 0, false, false⟩).toArray (0, 0) _ rfl HR.out Tryz.underlying37 rfl (by kernel_rfl)
  · exact below_setRow B.out (by omega)
set_option maxRecDepth 100000 in
set_option maxHeartbeats 2000000 in
theorem racc_12 (h : H) (i : I) (hop : i.op = 12) (K : HIOk h i) (w : World) :
    Calls Tryz.prog 35 #[hartV h, instV i] w fun e w' => e = .returned (accV ⟨1, Ar.add (h.R i.rs1) i.imm, 2, 0, 0, false, false⟩) ∧ Below w.heap.size w w' := by
  have k1 := hc h i.rs1 K.rs1
  have k2 := hc h i.rs2 K.rs2
  have b1 : (i.rs1 : Int) < 32 := by have := K.rs1; omega
  have b2 : (i.rs2 : Int) < 32 := by have := K.rs2; omega
  have j0 : (icells i)[0]? = some (.int .i64 12) := by rw [← show ((i.op : Nat) : Int) = 12 by rw [hop]; rfl]; rfl
  clear hop
  have j2 : (icells i)[2]? = some (.int .i64 i.rs1) := rfl
  have j4 : (icells i)[4]? = some (.int .u32 i.imm) := rfl
  unfold hartV instV accV
  go_enter Tryz.func35, Tryz.ntmps35
  go_wp2
  go_quiet ((go_at_call 49; exact Calls.quiet_of_same ((radd_any _ _ (K.R _) K.imm _).mono fun _ _ h => ⟨h.1, h.2.symm⟩)))
  obtain ⟨W, hW⟩ : ∃ W, W = (((w.alloc (.cells (hcells h).toArray 26)).alloc (.cells (icells i).toArray 85)).alloc (.cells azero 37)).drewN nq := ⟨_, rfl⟩
  have q0 : W.heap[w.heap.size]? = some (.cells (hcells h).toArray 26) := by rw [hW]; exact (heap_a3 w _ _ _).1
  have q1 : W.heap[w.heap.size + 1]? = some (.cells (icells i).toArray 85) := by rw [hW]; exact (heap_a3 w _ _ _).2.1
  have q2 : W.heap[w.heap.size + 2]? = some (.cells azero 37) := by rw [hW]; exact (heap_a3 w _ _ _).2.2
  have c1 : W.cell? ⟨w.heap.size + 1, 3, none⟩ = some (.int .i64 i.rs2) := by rw [cell_of_row W _ 3 _ _ _ q1]; rfl
  have c2 : W.cell? ⟨w.heap.size, 2 + i.rs2, none⟩ = some (.int .u32 (h.R i.rs2)) := by rw [cell_of_row W _ _ _ _ _ q0]; simpa using k2
  have c3 : W.cell? ⟨w.heap.size + 1, 4, none⟩ = some (.int .u32 i.imm) := by rw [cell_of_row W _ 4 _ _ _ q1]; rfl
  have c4 : W.cell? ⟨w.heap.size + 1, 5, none⟩ = some (.bool i.aq) := by rw [cell_of_row W _ 5 _ _ _ q1]; rfl
  have c5 : W.cell? ⟨w.heap.size + 1, 6, none⟩ = some (.bool i.rl) := by rw [cell_of_row W _ 6 _ _ _ q1]; rfl
  have c6 : W.cell? ⟨w.heap.size + 1, 0, none⟩ = some (.int .i64 12) := by rw [cell_of_row W _ 0 _ _ _ q1]; simpa using j0
  have b : Below w.heap.size w W := by rw [hW]; exact (((Below.refl w.heap.size w).alloc (Nat.le_refl _) _).alloc (by simp only [World.size_alloc]; omega) _).alloc (by simp only [World.size_alloc]; omega) _ |>.trans ⟨rfl, rfl, rfl, Nat.le_refl _, fun _ _ => rfl⟩
  rw [← hW]
  have B := Lib.hid b; have Q2 := Lib.hid q2; clear b hW q0 q1 q2 k1 k2 j0 j2 j4 b1
  go_wp2_with fail
  refine (rwidth_12 _).mono ?_
  rintro e w1 ⟨rfl, rfl⟩
  have HR := Lib.hid (setRow_heap W (w.heap.size + 2) azero (acells ⟨1, Ar.add (h.R i.rs1) i.imm, 2, 0, 0, false, false⟩).toArray 37 (0, 0) Q2.out)
  go_wp2_with (refine wpList_store_row rfl 37 (.tmp 4) (.tmp 39) rfl (w.heap.size + 2) (acells ⟨1, Ar.add (h.R i.rs1) i.imm, 2, 0, 0, false, false⟩).toArray rfl rfl 37 azero Q2.out (by kernel_rfl) (by kernel_rfl) (by kernel_rfl) ?_)
  refine bodyPost_ret (v := .agg (acells ⟨1, Ar.add (h.R i.rs1) i.imm, 2, 0, 0, false, false⟩).toArray) ?_ rfl ⟨rfl, ?_⟩
  · exact results_cell_row (fn := Tryz.f35) rfl _ _ (w.heap.size + 2) 37 (acells ⟨1, Ar.add (h.R i.rs1) i.imm, 2, 0, 0, false, false⟩).toArray (0, 0) _ rfl HR.out Tryz.underlying37 rfl (by kernel_rfl)
  · exact below_setRow B.out (by omega)
set_option maxRecDepth 100000 in
set_option maxHeartbeats 2000000 in
theorem racc_13 (h : H) (i : I) (hop : i.op = 13) (K : HIOk h i) (w : World) :
    Calls Tryz.prog 35 #[hartV h, instV i] w fun e w' => e = .returned (accV ⟨1, Ar.add (h.R i.rs1) i.imm, 4, 0, 0, false, false⟩) ∧ Below w.heap.size w w' := by
  have k1 := hc h i.rs1 K.rs1
  have k2 := hc h i.rs2 K.rs2
  have b1 : (i.rs1 : Int) < 32 := by have := K.rs1; omega
  have b2 : (i.rs2 : Int) < 32 := by have := K.rs2; omega
  have j0 : (icells i)[0]? = some (.int .i64 13) := by rw [← show ((i.op : Nat) : Int) = 13 by rw [hop]; rfl]; rfl
  clear hop
  have j2 : (icells i)[2]? = some (.int .i64 i.rs1) := rfl
  have j4 : (icells i)[4]? = some (.int .u32 i.imm) := rfl
  unfold hartV instV accV
  go_enter Tryz.func35, Tryz.ntmps35
  go_wp2
  go_quiet ((go_at_call 49; exact Calls.quiet_of_same ((radd_any _ _ (K.R _) K.imm _).mono fun _ _ h => ⟨h.1, h.2.symm⟩)))
  obtain ⟨W, hW⟩ : ∃ W, W = (((w.alloc (.cells (hcells h).toArray 26)).alloc (.cells (icells i).toArray 85)).alloc (.cells azero 37)).drewN nq := ⟨_, rfl⟩
  have q0 : W.heap[w.heap.size]? = some (.cells (hcells h).toArray 26) := by rw [hW]; exact (heap_a3 w _ _ _).1
  have q1 : W.heap[w.heap.size + 1]? = some (.cells (icells i).toArray 85) := by rw [hW]; exact (heap_a3 w _ _ _).2.1
  have q2 : W.heap[w.heap.size + 2]? = some (.cells azero 37) := by rw [hW]; exact (heap_a3 w _ _ _).2.2
  have c1 : W.cell? ⟨w.heap.size + 1, 3, none⟩ = some (.int .i64 i.rs2) := by rw [cell_of_row W _ 3 _ _ _ q1]; rfl
  have c2 : W.cell? ⟨w.heap.size, 2 + i.rs2, none⟩ = some (.int .u32 (h.R i.rs2)) := by rw [cell_of_row W _ _ _ _ _ q0]; simpa using k2
  have c3 : W.cell? ⟨w.heap.size + 1, 4, none⟩ = some (.int .u32 i.imm) := by rw [cell_of_row W _ 4 _ _ _ q1]; rfl
  have c4 : W.cell? ⟨w.heap.size + 1, 5, none⟩ = some (.bool i.aq) := by rw [cell_of_row W _ 5 _ _ _ q1]; rfl
  have c5 : W.cell? ⟨w.heap.size + 1, 6, none⟩ = some (.bool i.rl) := by rw [cell_of_row W _ 6 _ _ _ q1]; rfl
  have c6 : W.cell? ⟨w.heap.size + 1, 0, none⟩ = some (.int .i64 13) := by rw [cell_of_row W _ 0 _ _ _ q1]; simpa using j0
  have b : Below w.heap.size w W := by rw [hW]; exact (((Below.refl w.heap.size w).alloc (Nat.le_refl _) _).alloc (by simp only [World.size_alloc]; omega) _).alloc (by simp only [World.size_alloc]; omega) _ |>.trans ⟨rfl, rfl, rfl, Nat.le_refl _, fun _ _ => rfl⟩
  rw [← hW]
  have B := Lib.hid b; have Q2 := Lib.hid q2; clear b hW q0 q1 q2 k1 k2 j0 j2 j4 b1
  go_wp2_with fail
  refine (rwidth_13 _).mono ?_
  rintro e w1 ⟨rfl, rfl⟩
  have HR := Lib.hid (setRow_heap W (w.heap.size + 2) azero (acells ⟨1, Ar.add (h.R i.rs1) i.imm, 4, 0, 0, false, false⟩).toArray 37 (0, 0) Q2.out)
  go_wp2_with (refine wpList_store_row rfl 37 (.tmp 4) (.tmp 39) rfl (w.heap.size + 2) (acells ⟨1, Ar.add (h.R i.rs1) i.imm, 4, 0, 0, false, false⟩).toArray rfl rfl 37 azero Q2.out (by kernel_rfl) (by kernel_rfl) (by kernel_rfl) ?_)
  refine bodyPost_ret (v := .agg (acells ⟨1, Ar.add (h.R i.rs1) i.imm, 4, 0, 0, false, false⟩).toArray) ?_ rfl ⟨rfl, ?_⟩
  · exact results_cell_row (fn := Tryz.f35) rfl _ _ (w.heap.size + 2) 37 (acells ⟨1, Ar.add (h.R i.rs1) i.imm, 4, 0, 0, false, false⟩).toArray (0, 0) _ rfl HR.out Tryz.underlying37 rfl (by kernel_rfl)
  · exact below_setRow B.out (by omega)
set_option maxRecDepth 100000 in
set_option maxHeartbeats 2000000 in
theorem racc_14 (h : H) (i : I) (hop : i.op = 14) (K : HIOk h i) (w : World) :
    Calls Tryz.prog 35 #[hartV h, instV i] w fun e w' => e = .returned (accV ⟨1, Ar.add (h.R i.rs1) i.imm, 1, 0, 0, false, false⟩) ∧ Below w.heap.size w w' := by
  have k1 := hc h i.rs1 K.rs1
  have k2 := hc h i.rs2 K.rs2
  have b1 : (i.rs1 : Int) < 32 := by have := K.rs1; omega
  have b2 : (i.rs2 : Int) < 32 := by have := K.rs2; omega
  have j0 : (icells i)[0]? = some (.int .i64 14) := by rw [← show ((i.op : Nat) : Int) = 14 by rw [hop]; rfl]; rfl
  clear hop
  have j2 : (icells i)[2]? = some (.int .i64 i.rs1) := rfl
  have j4 : (icells i)[4]? = some (.int .u32 i.imm) := rfl
  unfold hartV instV accV
  go_enter Tryz.func35, Tryz.ntmps35
  go_wp2
  go_quiet ((go_at_call 49; exact Calls.quiet_of_same ((radd_any _ _ (K.R _) K.imm _).mono fun _ _ h => ⟨h.1, h.2.symm⟩)))
  obtain ⟨W, hW⟩ : ∃ W, W = (((w.alloc (.cells (hcells h).toArray 26)).alloc (.cells (icells i).toArray 85)).alloc (.cells azero 37)).drewN nq := ⟨_, rfl⟩
  have q0 : W.heap[w.heap.size]? = some (.cells (hcells h).toArray 26) := by rw [hW]; exact (heap_a3 w _ _ _).1
  have q1 : W.heap[w.heap.size + 1]? = some (.cells (icells i).toArray 85) := by rw [hW]; exact (heap_a3 w _ _ _).2.1
  have q2 : W.heap[w.heap.size + 2]? = some (.cells azero 37) := by rw [hW]; exact (heap_a3 w _ _ _).2.2
  have c1 : W.cell? ⟨w.heap.size + 1, 3, none⟩ = some (.int .i64 i.rs2) := by rw [cell_of_row W _ 3 _ _ _ q1]; rfl
  have c2 : W.cell? ⟨w.heap.size, 2 + i.rs2, none⟩ = some (.int .u32 (h.R i.rs2)) := by rw [cell_of_row W _ _ _ _ _ q0]; simpa using k2
  have c3 : W.cell? ⟨w.heap.size + 1, 4, none⟩ = some (.int .u32 i.imm) := by rw [cell_of_row W _ 4 _ _ _ q1]; rfl
  have c4 : W.cell? ⟨w.heap.size + 1, 5, none⟩ = some (.bool i.aq) := by rw [cell_of_row W _ 5 _ _ _ q1]; rfl
  have c5 : W.cell? ⟨w.heap.size + 1, 6, none⟩ = some (.bool i.rl) := by rw [cell_of_row W _ 6 _ _ _ q1]; rfl
  have c6 : W.cell? ⟨w.heap.size + 1, 0, none⟩ = some (.int .i64 14) := by rw [cell_of_row W _ 0 _ _ _ q1]; simpa using j0
  have b : Below w.heap.size w W := by rw [hW]; exact (((Below.refl w.heap.size w).alloc (Nat.le_refl _) _).alloc (by simp only [World.size_alloc]; omega) _).alloc (by simp only [World.size_alloc]; omega) _ |>.trans ⟨rfl, rfl, rfl, Nat.le_refl _, fun _ _ => rfl⟩
  rw [← hW]
  have B := Lib.hid b; have Q2 := Lib.hid q2; clear b hW q0 q1 q2 k1 k2 j0 j2 j4 b1
  go_wp2_with fail
  refine (rwidth_14 _).mono ?_
  rintro e w1 ⟨rfl, rfl⟩
  have HR := Lib.hid (setRow_heap W (w.heap.size + 2) azero (acells ⟨1, Ar.add (h.R i.rs1) i.imm, 1, 0, 0, false, false⟩).toArray 37 (0, 0) Q2.out)
  go_wp2_with (refine wpList_store_row rfl 37 (.tmp 4) (.tmp 39) rfl (w.heap.size + 2) (acells ⟨1, Ar.add (h.R i.rs1) i.imm, 1, 0, 0, false, false⟩).toArray rfl rfl 37 azero Q2.out (by kernel_rfl) (by kernel_rfl) (by kernel_rfl) ?_)
  refine bodyPost_ret (v := .agg (acells ⟨1, Ar.add (h.R i.rs1) i.imm, 1, 0, 0, false, false⟩).toArray) ?_ rfl ⟨rfl, ?_⟩
  · exact results_cell_row (fn := Tryz.f35) rfl _ _ (w.heap.size + 2) 37 (acells ⟨1, Ar.add (h.R i.rs1) i.imm, 1, 0, 0, false, false⟩).toArray (0, 0) _ rfl HR.out Tryz.underlying37 rfl (by kernel_rfl)
  · exact below_setRow B.out (by omega)
set_option maxRecDepth 100000 in
set_option maxHeartbeats 2000000 in
theorem racc_15 (h : H) (i : I) (hop : i.op = 15) (K : HIOk h i) (w : World) :
    Calls Tryz.prog 35 #[hartV h, instV i] w fun e w' => e = .returned (accV ⟨1, Ar.add (h.R i.rs1) i.imm, 2, 0, 0, false, false⟩) ∧ Below w.heap.size w w' := by
  have k1 := hc h i.rs1 K.rs1
  have k2 := hc h i.rs2 K.rs2
  have b1 : (i.rs1 : Int) < 32 := by have := K.rs1; omega
  have b2 : (i.rs2 : Int) < 32 := by have := K.rs2; omega
  have j0 : (icells i)[0]? = some (.int .i64 15) := by rw [← show ((i.op : Nat) : Int) = 15 by rw [hop]; rfl]; rfl
  clear hop
  have j2 : (icells i)[2]? = some (.int .i64 i.rs1) := rfl
  have j4 : (icells i)[4]? = some (.int .u32 i.imm) := rfl
  unfold hartV instV accV
  go_enter Tryz.func35, Tryz.ntmps35
  go_wp2
  go_quiet ((go_at_call 49; exact Calls.quiet_of_same ((radd_any _ _ (K.R _) K.imm _).mono fun _ _ h => ⟨h.1, h.2.symm⟩)))
  obtain ⟨W, hW⟩ : ∃ W, W = (((w.alloc (.cells (hcells h).toArray 26)).alloc (.cells (icells i).toArray 85)).alloc (.cells azero 37)).drewN nq := ⟨_, rfl⟩
  have q0 : W.heap[w.heap.size]? = some (.cells (hcells h).toArray 26) := by rw [hW]; exact (heap_a3 w _ _ _).1
  have q1 : W.heap[w.heap.size + 1]? = some (.cells (icells i).toArray 85) := by rw [hW]; exact (heap_a3 w _ _ _).2.1
  have q2 : W.heap[w.heap.size + 2]? = some (.cells azero 37) := by rw [hW]; exact (heap_a3 w _ _ _).2.2
  have c1 : W.cell? ⟨w.heap.size + 1, 3, none⟩ = some (.int .i64 i.rs2) := by rw [cell_of_row W _ 3 _ _ _ q1]; rfl
  have c2 : W.cell? ⟨w.heap.size, 2 + i.rs2, none⟩ = some (.int .u32 (h.R i.rs2)) := by rw [cell_of_row W _ _ _ _ _ q0]; simpa using k2
  have c3 : W.cell? ⟨w.heap.size + 1, 4, none⟩ = some (.int .u32 i.imm) := by rw [cell_of_row W _ 4 _ _ _ q1]; rfl
  have c4 : W.cell? ⟨w.heap.size + 1, 5, none⟩ = some (.bool i.aq) := by rw [cell_of_row W _ 5 _ _ _ q1]; rfl
  have c5 : W.cell? ⟨w.heap.size + 1, 6, none⟩ = some (.bool i.rl) := by rw [cell_of_row W _ 6 _ _ _ q1]; rfl
  have c6 : W.cell? ⟨w.heap.size + 1, 0, none⟩ = some (.int .i64 15) := by rw [cell_of_row W _ 0 _ _ _ q1]; simpa using j0
  have b : Below w.heap.size w W := by rw [hW]; exact (((Below.refl w.heap.size w).alloc (Nat.le_refl _) _).alloc (by simp only [World.size_alloc]; omega) _).alloc (by simp only [World.size_alloc]; omega) _ |>.trans ⟨rfl, rfl, rfl, Nat.le_refl _, fun _ _ => rfl⟩
  rw [← hW]
  have B := Lib.hid b; have Q2 := Lib.hid q2; clear b hW q0 q1 q2 k1 k2 j0 j2 j4 b1
  go_wp2_with fail
  refine (rwidth_15 _).mono ?_
  rintro e w1 ⟨rfl, rfl⟩
  have HR := Lib.hid (setRow_heap W (w.heap.size + 2) azero (acells ⟨1, Ar.add (h.R i.rs1) i.imm, 2, 0, 0, false, false⟩).toArray 37 (0, 0) Q2.out)
  go_wp2_with (refine wpList_store_row rfl 37 (.tmp 4) (.tmp 39) rfl (w.heap.size + 2) (acells ⟨1, Ar.add (h.R i.rs1) i.imm, 2, 0, 0, false, false⟩).toArray rfl rfl 37 azero Q2.out (by kernel_rfl) (by kernel_rfl) (by kernel_rfl) ?_)
  refine bodyPost_ret (v := .agg (acells ⟨1, Ar.add (h.R i.rs1) i.imm, 2, 0, 0, false, false⟩).toArray) ?_ rfl ⟨rfl, ?_⟩
  · exact results_cell_row (fn := Tryz.f35) rfl _ _ (w.heap.size + 2) 37 (acells ⟨1, Ar.add (h.R i.rs1) i.imm, 2, 0, 0, false, false⟩).toArray (0, 0) _ rfl HR.out Tryz.underlying37 rfl (by kernel_rfl)
  · exact below_setRow B.out (by omega)
set_option maxRecDepth 100000 in
set_option maxHeartbeats 2000000 in
theorem racc_16 (h : H) (i : I) (hop : i.op = 16) (K : HIOk h i) (w : World) :
    Calls Tryz.prog 35 #[hartV h, instV i] w fun e w' => e = .returned (accV ⟨2, Ar.add (h.R i.rs1) i.imm, 1, low (h.R i.rs2) 1, 0, false, false⟩) ∧ Below w.heap.size w w' := by
  have k1 := hc h i.rs1 K.rs1
  have k2 := hc h i.rs2 K.rs2
  have b1 : (i.rs1 : Int) < 32 := by have := K.rs1; omega
  have b2 : (i.rs2 : Int) < 32 := by have := K.rs2; omega
  have j0 : (icells i)[0]? = some (.int .i64 16) := by rw [← show ((i.op : Nat) : Int) = 16 by rw [hop]; rfl]; rfl
  clear hop
  have j2 : (icells i)[2]? = some (.int .i64 i.rs1) := rfl
  have j4 : (icells i)[4]? = some (.int .u32 i.imm) := rfl
  unfold hartV instV accV
  go_enter Tryz.func35, Tryz.ntmps35
  go_wp2
  go_quiet ((go_at_call 49; exact Calls.quiet_of_same ((radd_any _ _ (K.R _) K.imm _).mono fun _ _ h => ⟨h.1, h.2.symm⟩)))
  obtain ⟨W, hW⟩ : ∃ W, W = (((w.alloc (.cells (hcells h).toArray 26)).alloc (.cells (icells i).toArray 85)).alloc (.cells azero 37)).drewN nq := ⟨_, rfl⟩
  have q0 : W.heap[w.heap.size]? = some (.cells (hcells h).toArray 26) := by rw [hW]; exact (heap_a3 w _ _ _).1
  have q1 : W.heap[w.heap.size + 1]? = some (.cells (icells i).toArray 85) := by rw [hW]; exact (heap_a3 w _ _ _).2.1
  have q2 : W.heap[w.heap.size + 2]? = some (.cells azero 37) := by rw [hW]; exact (heap_a3 w _ _ _).2.2
  have c1 : W.cell? ⟨w.heap.size + 1, 3, none⟩ = some (.int .i64 i.rs2) := by rw [cell_of_row W _ 3 _ _ _ q1]; rfl
  have c2 : W.cell? ⟨w.heap.size, 2 + i.rs2, none⟩ = some (.int .u32 (h.R i.rs2)) := by rw [cell_of_row W _ _ _ _ _ q0]; simpa using k2
  have c3 : W.cell? ⟨w.heap.size + 1, 4, none⟩ = some (.int .u32 i.imm) := by rw [cell_of_row W _ 4 _ _ _ q1]; rfl
  have c4 : W.cell? ⟨w.heap.size + 1, 5, none⟩ = some (.bool i.aq) := by rw [cell_of_row W _ 5 _ _ _ q1]; rfl
  have c5 : W.cell? ⟨w.heap.size + 1, 6, none⟩ = some (.bool i.rl) := by rw [cell_of_row W _ 6 _ _ _ q1]; rfl
  have c6 : W.cell? ⟨w.heap.size + 1, 0, none⟩ = some (.int .i64 16) := by rw [cell_of_row W _ 0 _ _ _ q1]; simpa using j0
  have b : Below w.heap.size w W := by rw [hW]; exact (((Below.refl w.heap.size w).alloc (Nat.le_refl _) _).alloc (by simp only [World.size_alloc]; omega) _).alloc (by simp only [World.size_alloc]; omega) _ |>.trans ⟨rfl, rfl, rfl, Nat.le_refl _, fun _ _ => rfl⟩
  rw [← hW]
  have B := Lib.hid b; have Q2 := Lib.hid q2; clear b hW q0 q1 q2 k1 k2 j0 j2 j4 b1
  go_wp2_with fail
  refine (rwidth_16 _).mono ?_
  rintro e w1 ⟨rfl, rfl⟩
  go_wp2_with fail
  refine (rwidth_16 _).mono ?_
  rintro e w1 ⟨rfl, rfl⟩
  go_wp2_with fail
  refine (rlow_1 _ (K.R _) _).mono ?_
  rintro e w1 ⟨rfl, rfl⟩
  have HR := Lib.hid (setRow_heap W (w.heap.size + 2) azero (acells ⟨2, Ar.add (h.R i.rs1) i.imm, 1, low (h.R i.rs2) 1, 0, false, false⟩).toArray 37 (0, 0) Q2.out)
  go_wp2_with (refine wpList_store_row rfl 37 (.tmp 4) (.tmp 54) rfl (w.heap.size + 2) (acells ⟨2, Ar.add (h.R i.rs1) i.imm, 1, low (h.R i.rs2) 1, 0, false, false⟩).toArray rfl rfl 37 azero Q2.out (by kernel_rfl) (by kernel_rfl) (by kernel_rfl) ?_)
  refine bodyPost_ret (v := .agg (acells ⟨2, Ar.add (h.R i.rs1) i.imm, 1, low (h.R i.rs2) 1, 0, false, false⟩).toArray) ?_ rfl ⟨rfl, ?_⟩
  · exact results_cell_row (fn := Tryz.f35) rfl _ _ (w.heap.size + 2) 37 (acells ⟨2, Ar.add (h.R i.rs1) i.imm, 1, low (h.R i.rs2) 1, 0, false, false⟩).toArray (0, 0) _ rfl HR.out Tryz.underlying37 rfl (by kernel_rfl)
  · exact below_setRow B.out (by omega)
set_option maxRecDepth 100000 in
set_option maxHeartbeats 2000000 in
theorem racc_17 (h : H) (i : I) (hop : i.op = 17) (K : HIOk h i) (w : World) :
    Calls Tryz.prog 35 #[hartV h, instV i] w fun e w' => e = .returned (accV ⟨2, Ar.add (h.R i.rs1) i.imm, 2, low (h.R i.rs2) 2, 0, false, false⟩) ∧ Below w.heap.size w w' := by
  have k1 := hc h i.rs1 K.rs1
  have k2 := hc h i.rs2 K.rs2
  have b1 : (i.rs1 : Int) < 32 := by have := K.rs1; omega
  have b2 : (i.rs2 : Int) < 32 := by have := K.rs2; omega
  have j0 : (icells i)[0]? = some (.int .i64 17) := by rw [← show ((i.op : Nat) : Int) = 17 by rw [hop]; rfl]; rfl
  clear hop
  have j2 : (icells i)[2]? = some (.int .i64 i.rs1) := rfl
  have j4 : (icells i)[4]? = some (.int .u32 i.imm) := rfl
  unfold hartV instV accV
  go_enter Tryz.func35, Tryz.ntmps35
  go_wp2
  go_quiet ((go_at_call 49; exact Calls.quiet_of_same ((radd_any _ _ (K.R _) K.imm _).mono fun _ _ h => ⟨h.1, h.2.symm⟩)))
  obtain ⟨W, hW⟩ : ∃ W, W = (((w.alloc (.cells (hcells h).toArray 26)).alloc (.cells (icells i).toArray 85)).alloc (.cells azero 37)).drewN nq := ⟨_, rfl⟩
  have q0 : W.heap[w.heap.size]? = some (.cells (hcells h).toArray 26) := by rw [hW]; exact (heap_a3 w _ _ _).1
  have q1 : W.heap[w.heap.size + 1]? = some (.cells (icells i).toArray 85) := by rw [hW]; exact (heap_a3 w _ _ _).2.1
  have q2 : W.heap[w.heap.size + 2]? = some (.cells azero 37) := by rw [hW]; exact (heap_a3 w _ _ _).2.2
  have c1 : W.cell? ⟨w.heap.size + 1, 3, none⟩ = some (.int .i64 i.rs2) := by rw [cell_of_row W _ 3 _ _ _ q1]; rfl
  have c2 : W.cell? ⟨w.heap.size, 2 + i.rs2, none⟩ = some (.int .u32 (h.R i.rs2)) := by rw [cell_of_row W _ _ _ _ _ q0]; simpa using k2
  have c3 : W.cell? ⟨w.heap.size + 1, 4, none⟩ = some (.int .u32 i.imm) := by rw [cell_of_row W _ 4 _ _ _ q1]; rfl
  have c4 : W.cell? ⟨w.heap.size + 1, 5, none⟩ = some (.bool i.aq) := by rw [cell_of_row W _ 5 _ _ _ q1]; rfl
  have c5 : W.cell? ⟨w.heap.size + 1, 6, none⟩ = some (.bool i.rl) := by rw [cell_of_row W _ 6 _ _ _ q1]; rfl
  have c6 : W.cell? ⟨w.heap.size + 1, 0, none⟩ = some (.int .i64 17) := by rw [cell_of_row W _ 0 _ _ _ q1]; simpa using j0
  have b : Below w.heap.size w W := by rw [hW]; exact (((Below.refl w.heap.size w).alloc (Nat.le_refl _) _).alloc (by simp only [World.size_alloc]; omega) _).alloc (by simp only [World.size_alloc]; omega) _ |>.trans ⟨rfl, rfl, rfl, Nat.le_refl _, fun _ _ => rfl⟩
  rw [← hW]
  have B := Lib.hid b; have Q2 := Lib.hid q2; clear b hW q0 q1 q2 k1 k2 j0 j2 j4 b1
  go_wp2_with fail
  refine (rwidth_17 _).mono ?_
  rintro e w1 ⟨rfl, rfl⟩
  go_wp2_with fail
  refine (rwidth_17 _).mono ?_
  rintro e w1 ⟨rfl, rfl⟩
  go_wp2_with fail
  refine (rlow_2 _ (K.R _) _).mono ?_
  rintro e w1 ⟨rfl, rfl⟩
  have HR := Lib.hid (setRow_heap W (w.heap.size + 2) azero (acells ⟨2, Ar.add (h.R i.rs1) i.imm, 2, low (h.R i.rs2) 2, 0, false, false⟩).toArray 37 (0, 0) Q2.out)
  go_wp2_with (refine wpList_store_row rfl 37 (.tmp 4) (.tmp 54) rfl (w.heap.size + 2) (acells ⟨2, Ar.add (h.R i.rs1) i.imm, 2, low (h.R i.rs2) 2, 0, false, false⟩).toArray rfl rfl 37 azero Q2.out (by kernel_rfl) (by kernel_rfl) (by kernel_rfl) ?_)
  refine bodyPost_ret (v := .agg (acells ⟨2, Ar.add (h.R i.rs1) i.imm, 2, low (h.R i.rs2) 2, 0, false, false⟩).toArray) ?_ rfl ⟨rfl, ?_⟩
  · exact results_cell_row (fn := Tryz.f35) rfl _ _ (w.heap.size + 2) 37 (acells ⟨2, Ar.add (h.R i.rs1) i.imm, 2, low (h.R i.rs2) 2, 0, false, false⟩).toArray (0, 0) _ rfl HR.out Tryz.underlying37 rfl (by kernel_rfl)
  · exact below_setRow B.out (by omega)
set_option maxRecDepth 100000 in
set_option maxHeartbeats 2000000 in
theorem racc_18 (h : H) (i : I) (hop : i.op = 18) (K : HIOk h i) (w : World) :
    Calls Tryz.prog 35 #[hartV h, instV i] w fun e w' => e = .returned (accV ⟨2, Ar.add (h.R i.rs1) i.imm, 4, low (h.R i.rs2) 4, 0, false, false⟩) ∧ Below w.heap.size w w' := by
  have k1 := hc h i.rs1 K.rs1
  have k2 := hc h i.rs2 K.rs2
  have b1 : (i.rs1 : Int) < 32 := by have := K.rs1; omega
  have b2 : (i.rs2 : Int) < 32 := by have := K.rs2; omega
  have j0 : (icells i)[0]? = some (.int .i64 18) := by rw [← show ((i.op : Nat) : Int) = 18 by rw [hop]; rfl]; rfl
  clear hop
  have j2 : (icells i)[2]? = some (.int .i64 i.rs1) := rfl
  have j4 : (icells i)[4]? = some (.int .u32 i.imm) := rfl
  unfold hartV instV accV
  go_enter Tryz.func35, Tryz.ntmps35
  go_wp2
  go_quiet ((go_at_call 49; exact Calls.quiet_of_same ((radd_any _ _ (K.R _) K.imm _).mono fun _ _ h => ⟨h.1, h.2.symm⟩)))
  obtain ⟨W, hW⟩ : ∃ W, W = (((w.alloc (.cells (hcells h).toArray 26)).alloc (.cells (icells i).toArray 85)).alloc (.cells azero 37)).drewN nq := ⟨_, rfl⟩
  have q0 : W.heap[w.heap.size]? = some (.cells (hcells h).toArray 26) := by rw [hW]; exact (heap_a3 w _ _ _).1
  have q1 : W.heap[w.heap.size + 1]? = some (.cells (icells i).toArray 85) := by rw [hW]; exact (heap_a3 w _ _ _).2.1
  have q2 : W.heap[w.heap.size + 2]? = some (.cells azero 37) := by rw [hW]; exact (heap_a3 w _ _ _).2.2
  have c1 : W.cell? ⟨w.heap.size + 1, 3, none⟩ = some (.int .i64 i.rs2) := by rw [cell_of_row W _ 3 _ _ _ q1]; rfl
  have c2 : W.cell? ⟨w.heap.size, 2 + i.rs2, none⟩ = some (.int .u32 (h.R i.rs2)) := by rw [cell_of_row W _ _ _ _ _ q0]; simpa using k2
  have c3 : W.cell? ⟨w.heap.size + 1, 4, none⟩ = some (.int .u32 i.imm) := by rw [cell_of_row W _ 4 _ _ _ q1]; rfl
  have c4 : W.cell? ⟨w.heap.size + 1, 5, none⟩ = some (.bool i.aq) := by rw [cell_of_row W _ 5 _ _ _ q1]; rfl
  have c5 : W.cell? ⟨w.heap.size + 1, 6, none⟩ = some (.bool i.rl) := by rw [cell_of_row W _ 6 _ _ _ q1]; rfl
  have c6 : W.cell? ⟨w.heap.size + 1, 0, none⟩ = some (.int .i64 18) := by rw [cell_of_row W _ 0 _ _ _ q1]; simpa using j0
  have b : Below w.heap.size w W := by rw [hW]; exact (((Below.refl w.heap.size w).alloc (Nat.le_refl _) _).alloc (by simp only [World.size_alloc]; omega) _).alloc (by simp only [World.size_alloc]; omega) _ |>.trans ⟨rfl, rfl, rfl, Nat.le_refl _, fun _ _ => rfl⟩
  rw [← hW]
  have B := Lib.hid b; have Q2 := Lib.hid q2; clear b hW q0 q1 q2 k1 k2 j0 j2 j4 b1
  go_wp2_with fail
  refine (rwidth_18 _).mono ?_
  rintro e w1 ⟨rfl, rfl⟩
  go_wp2_with fail
  refine (rwidth_18 _).mono ?_
  rintro e w1 ⟨rfl, rfl⟩
  go_wp2_with fail
  refine (rlow_4 _ (K.R _) _).mono ?_
  rintro e w1 ⟨rfl, rfl⟩
  have HR := Lib.hid (setRow_heap W (w.heap.size + 2) azero (acells ⟨2, Ar.add (h.R i.rs1) i.imm, 4, low (h.R i.rs2) 4, 0, false, false⟩).toArray 37 (0, 0) Q2.out)
  go_wp2_with (refine wpList_store_row rfl 37 (.tmp 4) (.tmp 54) rfl (w.heap.size + 2) (acells ⟨2, Ar.add (h.R i.rs1) i.imm, 4, low (h.R i.rs2) 4, 0, false, false⟩).toArray rfl rfl 37 azero Q2.out (by kernel_rfl) (by kernel_rfl) (by kernel_rfl) ?_)
  refine bodyPost_ret (v := .agg (acells ⟨2, Ar.add (h.R i.rs1) i.imm, 4, low (h.R i.rs2) 4, 0, false, false⟩).toArray) ?_ rfl ⟨rfl, ?_⟩
  · exact results_cell_row (fn := Tryz.f35) rfl _ _ (w.heap.size + 2) 37 (acells ⟨2, Ar.add (h.R i.rs1) i.imm, 4, low (h.R i.rs2) 4, 0, false, false⟩).toArray (0, 0) _ rfl HR.out Tryz.underlying37 rfl (by kernel_rfl)
  · exact below_setRow B.out (by omega)
end Go.Proofs.YtianojbdabeoeaaGreatDoor
end

section
namespace Go.Proofs.YtianojbdabeoeaaGreatDoor
open Go.RowKit Ht
set_option linter.unusedVariables false
set_option maxRecDepth 100000 in
set_option maxHeartbeats 2000000 in
theorem racc_38 (h : H) (i : I) (hop : i.op = 38) (K : HIOk h i) (w : World) :
    Calls Tryz.prog 35 #[hartV h, instV i] w fun e w' => e = .returned (accV ⟨6, 0, 0, i.imm, 0, false, false⟩) ∧ Below w.heap.size w w' := by
  have k1 := hc h i.rs1 K.rs1
  have k2 := hc h i.rs2 K.rs2
  have b1 : (i.rs1 : Int) < 32 := by have := K.rs1; omega
  have b2 : (i.rs2 : Int) < 32 := by have := K.rs2; omega
  have j0 : (icells i)[0]? = some (.int .i64 38) := by rw [← show ((i.op : Nat) : Int) = 38 by rw [hop]; rfl]; rfl
  clear hop
  have j2 : (icells i)[2]? = some (.int .i64 i.rs1) := rfl
  have j4 : (icells i)[4]? = some (.int .u32 i.imm) := rfl
  unfold hartV instV accV
  go_enter Tryz.func35, Tryz.ntmps35
  go_wp2
  go_quiet ((go_at_call 49; exact Calls.quiet_of_same ((radd_any _ _ (K.R _) K.imm _).mono fun _ _ h => ⟨h.1, h.2.symm⟩)))
  obtain ⟨W, hW⟩ : ∃ W, W = (((w.alloc (.cells (hcells h).toArray 26)).alloc (.cells (icells i).toArray 85)).alloc (.cells azero 37)).drewN nq := ⟨_, rfl⟩
  have q0 : W.heap[w.heap.size]? = some (.cells (hcells h).toArray 26) := by rw [hW]; exact (heap_a3 w _ _ _).1
  have q1 : W.heap[w.heap.size + 1]? = some (.cells (icells i).toArray 85) := by rw [hW]; exact (heap_a3 w _ _ _).2.1
  have q2 : W.heap[w.heap.size + 2]? = some (.cells azero 37) := by rw [hW]; exact (heap_a3 w _ _ _).2.2
  have c1 : W.cell? ⟨w.heap.size + 1, 3, none⟩ = some (.int .i64 i.rs2) := by rw [cell_of_row W _ 3 _ _ _ q1]; rfl
  have c2 : W.cell? ⟨w.heap.size, 2 + i.rs2, none⟩ = some (.int .u32 (h.R i.rs2)) := by rw [cell_of_row W _ _ _ _ _ q0]; simpa using k2
  have c3 : W.cell? ⟨w.heap.size + 1, 4, none⟩ = some (.int .u32 i.imm) := by rw [cell_of_row W _ 4 _ _ _ q1]; rfl
  have c4 : W.cell? ⟨w.heap.size + 1, 5, none⟩ = some (.bool i.aq) := by rw [cell_of_row W _ 5 _ _ _ q1]; rfl
  have c5 : W.cell? ⟨w.heap.size + 1, 6, none⟩ = some (.bool i.rl) := by rw [cell_of_row W _ 6 _ _ _ q1]; rfl
  have c6 : W.cell? ⟨w.heap.size + 1, 0, none⟩ = some (.int .i64 38) := by rw [cell_of_row W _ 0 _ _ _ q1]; simpa using j0
  have b : Below w.heap.size w W := by rw [hW]; exact (((Below.refl w.heap.size w).alloc (Nat.le_refl _) _).alloc (by simp only [World.size_alloc]; omega) _).alloc (by simp only [World.size_alloc]; omega) _ |>.trans ⟨rfl, rfl, rfl, Nat.le_refl _, fun _ _ => rfl⟩
  rw [← hW]
  have B := Lib.hid b; have Q2 := Lib.hid q2; clear b hW q0 q1 q2 k1 k2 j0 j2 j4 b1
  have HR := Lib.hid (setRow_heap W (w.heap.size + 2) azero (acells ⟨6, 0, 0, i.imm, 0, false, false⟩).toArray 37 (0, 0) Q2.out)
  go_wp2_with (refine wpList_store_row rfl 37 (.tmp 4) (.tmp 28) rfl (w.heap.size + 2) (acells ⟨6, 0, 0, i.imm, 0, false, false⟩).toArray rfl rfl 37 azero Q2.out (by kernel_rfl) (by kernel_rfl) (by kernel_rfl) ?_)
  refine bodyPost_ret (v := .agg (acells ⟨6, 0, 0, i.imm, 0, false, false⟩).toArray) ?_ rfl ⟨rfl, ?_⟩
  · exact results_cell_row (fn := Tryz.f35) rfl _ _ (w.heap.size + 2) 37 (acells ⟨6, 0, 0, i.imm, 0, false, false⟩).toArray (0, 0) _ rfl HR.out Tryz.underlying37 rfl (by kernel_rfl)
  · exact below_setRow B.out (by omega)
set_option maxRecDepth 100000 in
set_option maxHeartbeats 2000000 in
theorem racc_48 (h : H) (i : I) (hop : i.op = 48) (K : HIOk h i) (w : World) :
    Calls Tryz.prog 35 #[hartV h, instV i] w fun e w' => e = .returned (accV ⟨3, Ar.add (h.R i.rs1) i.imm, 4, 0, 0, i.aq, i.rl⟩) ∧ Below w.heap.size w w' := by
  have k1 := hc h i.rs1 K.rs1
  have k2 := hc h i.rs2 K.rs2
  have b1 : (i.rs1 : Int) < 32 := by have := K.rs1; omega
  have b2 : (i.rs2 : Int) < 32 := by have := K.rs2; omega
  have j0 : (icells i)[0]? = some (.int .i64 48) := by rw [← show ((i.op : Nat) : Int) = 48 by rw [hop]; rfl]; rfl
  clear hop
  have j2 : (icells i)[2]? = some (.int .i64 i.rs1) := rfl
  have j4 : (icells i)[4]? = some (.int .u32 i.imm) := rfl
  unfold hartV instV accV
  go_enter Tryz.func35, Tryz.ntmps35
  go_wp2
  go_quiet ((go_at_call 49; exact Calls.quiet_of_same ((radd_any _ _ (K.R _) K.imm _).mono fun _ _ h => ⟨h.1, h.2.symm⟩)))
  obtain ⟨W, hW⟩ : ∃ W, W = (((w.alloc (.cells (hcells h).toArray 26)).alloc (.cells (icells i).toArray 85)).alloc (.cells azero 37)).drewN nq := ⟨_, rfl⟩
  have q0 : W.heap[w.heap.size]? = some (.cells (hcells h).toArray 26) := by rw [hW]; exact (heap_a3 w _ _ _).1
  have q1 : W.heap[w.heap.size + 1]? = some (.cells (icells i).toArray 85) := by rw [hW]; exact (heap_a3 w _ _ _).2.1
  have q2 : W.heap[w.heap.size + 2]? = some (.cells azero 37) := by rw [hW]; exact (heap_a3 w _ _ _).2.2
  have c1 : W.cell? ⟨w.heap.size + 1, 3, none⟩ = some (.int .i64 i.rs2) := by rw [cell_of_row W _ 3 _ _ _ q1]; rfl
  have c2 : W.cell? ⟨w.heap.size, 2 + i.rs2, none⟩ = some (.int .u32 (h.R i.rs2)) := by rw [cell_of_row W _ _ _ _ _ q0]; simpa using k2
  have c3 : W.cell? ⟨w.heap.size + 1, 4, none⟩ = some (.int .u32 i.imm) := by rw [cell_of_row W _ 4 _ _ _ q1]; rfl
  have c4 : W.cell? ⟨w.heap.size + 1, 5, none⟩ = some (.bool i.aq) := by rw [cell_of_row W _ 5 _ _ _ q1]; rfl
  have c5 : W.cell? ⟨w.heap.size + 1, 6, none⟩ = some (.bool i.rl) := by rw [cell_of_row W _ 6 _ _ _ q1]; rfl
  have c6 : W.cell? ⟨w.heap.size + 1, 0, none⟩ = some (.int .i64 48) := by rw [cell_of_row W _ 0 _ _ _ q1]; simpa using j0
  have b : Below w.heap.size w W := by rw [hW]; exact (((Below.refl w.heap.size w).alloc (Nat.le_refl _) _).alloc (by simp only [World.size_alloc]; omega) _).alloc (by simp only [World.size_alloc]; omega) _ |>.trans ⟨rfl, rfl, rfl, Nat.le_refl _, fun _ _ => rfl⟩
  rw [← hW]
  have B := Lib.hid b; have Q2 := Lib.hid q2; clear b hW q0 q1 q2 k1 k2 j0 j2 j4 b1
  have HR := Lib.hid (setRow_heap W (w.heap.size + 2) azero (acells ⟨3, Ar.add (h.R i.rs1) i.imm, 4, 0, 0, i.aq, i.rl⟩).toArray 37 (0, 0) Q2.out)
  go_wp2_with (refine wpList_store_row rfl 37 (.tmp 4) (.tmp 63) rfl (w.heap.size + 2) (acells ⟨3, Ar.add (h.R i.rs1) i.imm, 4, 0, 0, i.aq, i.rl⟩).toArray rfl rfl 37 azero Q2.out (by kernel_rfl) (by kernel_rfl) (by kernel_rfl) ?_)
  refine bodyPost_ret (v := .agg (acells ⟨3, Ar.add (h.R i.rs1) i.imm, 4, 0, 0, i.aq, i.rl⟩).toArray) ?_ rfl ⟨rfl, ?_⟩
  · exact results_cell_row (fn := Tryz.f35) rfl _ _ (w.heap.size + 2) 37 (acells ⟨3, Ar.add (h.R i.rs1) i.imm, 4, 0, 0, i.aq, i.rl⟩).toArray (0, 0) _ rfl HR.out Tryz.underlying37 rfl (by kernel_rfl)
  · exact below_setRow B.out (by omega)
set_option maxRecDepth 100000 in
set_option maxHeartbeats 2000000 in
theorem racc_49 (h : H) (i : I) (hop : i.op = 49) (K : HIOk h i) (w : World) :
    Calls Tryz.prog 35 #[hartV h, instV i] w fun e w' => e = .returned (accV ⟨4, Ar.add (h.R i.rs1) i.imm, 4, h.R i.rs2, 0, i.aq, i.rl⟩) ∧ Below w.heap.size w w' := by
  have k1 := hc h i.rs1 K.rs1
  have k2 := hc h i.rs2 K.rs2
  have b1 : (i.rs1 : Int) < 32 := by have := K.rs1; omega
  have b2 : (i.rs2 : Int) < 32 := by have := K.rs2; omega
  have j0 : (icells i)[0]? = some (.int .i64 49) := by rw [← show ((i.op : Nat) : Int) = 49 by rw [hop]; rfl]; rfl
  clear hop
  have j2 : (icells i)[2]? = some (.int .i64 i.rs1) := rfl
  have j4 : (icells i)[4]? = some (.int .u32 i.imm) := rfl
  unfold hartV instV accV
  go_enter Tryz.func35, Tryz.ntmps35
  go_wp2
  go_quiet ((go_at_call 49; exact Calls.quiet_of_same ((radd_any _ _ (K.R _) K.imm _).mono fun _ _ h => ⟨h.1, h.2.symm⟩)))
  obtain ⟨W, hW⟩ : ∃ W, W = (((w.alloc (.cells (hcells h).toArray 26)).alloc (.cells (icells i).toArray 85)).alloc (.cells azero 37)).drewN nq := ⟨_, rfl⟩
  have q0 : W.heap[w.heap.size]? = some (.cells (hcells h).toArray 26) := by rw [hW]; exact (heap_a3 w _ _ _).1
  have q1 : W.heap[w.heap.size + 1]? = some (.cells (icells i).toArray 85) := by rw [hW]; exact (heap_a3 w _ _ _).2.1
  have q2 : W.heap[w.heap.size + 2]? = some (.cells azero 37) := by rw [hW]; exact (heap_a3 w _ _ _).2.2
  have c1 : W.cell? ⟨w.heap.size + 1, 3, none⟩ = some (.int .i64 i.rs2) := by rw [cell_of_row W _ 3 _ _ _ q1]; rfl
  have c2 : W.cell? ⟨w.heap.size, 2 + i.rs2, none⟩ = some (.int .u32 (h.R i.rs2)) := by rw [cell_of_row W _ _ _ _ _ q0]; simpa using k2
  have c3 : W.cell? ⟨w.heap.size + 1, 4, none⟩ = some (.int .u32 i.imm) := by rw [cell_of_row W _ 4 _ _ _ q1]; rfl
  have c4 : W.cell? ⟨w.heap.size + 1, 5, none⟩ = some (.bool i.aq) := by rw [cell_of_row W _ 5 _ _ _ q1]; rfl
  have c5 : W.cell? ⟨w.heap.size + 1, 6, none⟩ = some (.bool i.rl) := by rw [cell_of_row W _ 6 _ _ _ q1]; rfl
  have c6 : W.cell? ⟨w.heap.size + 1, 0, none⟩ = some (.int .i64 49) := by rw [cell_of_row W _ 0 _ _ _ q1]; simpa using j0
  have b : Below w.heap.size w W := by rw [hW]; exact (((Below.refl w.heap.size w).alloc (Nat.le_refl _) _).alloc (by simp only [World.size_alloc]; omega) _).alloc (by simp only [World.size_alloc]; omega) _ |>.trans ⟨rfl, rfl, rfl, Nat.le_refl _, fun _ _ => rfl⟩
  rw [← hW]
  have B := Lib.hid b; have Q2 := Lib.hid q2; clear b hW q0 q1 q2 k1 k2 j0 j2 j4 b1
  have HR := Lib.hid (setRow_heap W (w.heap.size + 2) azero (acells ⟨4, Ar.add (h.R i.rs1) i.imm, 4, h.R i.rs2, 0, i.aq, i.rl⟩).toArray 37 (0, 0) Q2.out)
  go_wp2_with (refine wpList_store_row rfl 37 (.tmp 4) (.tmp 73) rfl (w.heap.size + 2) (acells ⟨4, Ar.add (h.R i.rs1) i.imm, 4, h.R i.rs2, 0, i.aq, i.rl⟩).toArray rfl rfl 37 azero Q2.out (by kernel_rfl) (by kernel_rfl) (by kernel_rfl) ?_)
  refine bodyPost_ret (v := .agg (acells ⟨4, Ar.add (h.R i.rs1) i.imm, 4, h.R i.rs2, 0, i.aq, i.rl⟩).toArray) ?_ rfl ⟨rfl, ?_⟩
  · exact results_cell_row (fn := Tryz.f35) rfl _ _ (w.heap.size + 2) 37 (acells ⟨4, Ar.add (h.R i.rs1) i.imm, 4, h.R i.rs2, 0, i.aq, i.rl⟩).toArray (0, 0) _ rfl HR.out Tryz.underlying37 rfl (by kernel_rfl)
  · exact below_setRow B.out (by omega)
set_option maxRecDepth 100000 in
set_option maxHeartbeats 2000000 in
theorem racc_amo (h : H) (i : I) (hop : 50 ≤ i.op ∧ i.op ≤ 58) (K : HIOk h i) (w : World) :
    Calls Tryz.prog 35 #[hartV h, instV i] w fun e w' => e = .returned (accV ⟨5, Ar.add (h.R i.rs1) i.imm, 4, h.R i.rs2, i.op, i.aq, i.rl⟩) ∧ Below w.heap.size w w' := by
  have k1 := hc h i.rs1 K.rs1
  have k2 := hc h i.rs2 K.rs2
  have b1 : (i.rs1 : Int) < 32 := by have := K.rs1; omega
  have b2 : (i.rs2 : Int) < 32 := by have := K.rs2; omega
  have j0 : (icells i)[0]? = some (.int .i64 i.op) := rfl
  have n38 : ((i.op : Int) == 38) = false := beq_eq_false_iff_ne.2 (by omega)
  have n48 : ((i.op : Int) == 48) = false := beq_eq_false_iff_ne.2 (by omega)
  have n49 : ((i.op : Int) == 49) = false := beq_eq_false_iff_ne.2 (by omega)
  have g1 : 50 ≤ (i.op : Int) := by omega
  have g2 : (i.op : Int) ≤ 58 := by omega
  clear hop
  have j2 : (icells i)[2]? = some (.int .i64 i.rs1) := rfl
  have j4 : (icells i)[4]? = some (.int .u32 i.imm) := rfl
  unfold hartV instV accV
  go_enter Tryz.func35, Tryz.ntmps35
  go_wp2
  go_quiet ((go_at_call 49; exact Calls.quiet_of_same ((radd_any _ _ (K.R _) K.imm _).mono fun _ _ h => ⟨h.1, h.2.symm⟩)))
  obtain ⟨W, hW⟩ : ∃ W, W = (((w.alloc (.cells (hcells h).toArray 26)).alloc (.cells (icells i).toArray 85)).alloc (.cells azero 37)).drewN nq := ⟨_, rfl⟩
  have q0 : W.heap[w.heap.size]? = some (.cells (hcells h).toArray 26) := by rw [hW]; exact (heap_a3 w _ _ _).1
  have q1 : W.heap[w.heap.size + 1]? = some (.cells (icells i).toArray 85) := by rw [hW]; exact (heap_a3 w _ _ _).2.1
  have q2 : W.heap[w.heap.size + 2]? = some (.cells azero 37) := by rw [hW]; exact (heap_a3 w _ _ _).2.2
  have c1 : W.cell? ⟨w.heap.size + 1, 3, none⟩ = some (.int .i64 i.rs2) := by rw [cell_of_row W _ 3 _ _ _ q1]; rfl
  have c2 : W.cell? ⟨w.heap.size, 2 + i.rs2, none⟩ = some (.int .u32 (h.R i.rs2)) := by rw [cell_of_row W _ _ _ _ _ q0]; simpa using k2
  have c3 : W.cell? ⟨w.heap.size + 1, 4, none⟩ = some (.int .u32 i.imm) := by rw [cell_of_row W _ 4 _ _ _ q1]; rfl
  have c4 : W.cell? ⟨w.heap.size + 1, 5, none⟩ = some (.bool i.aq) := by rw [cell_of_row W _ 5 _ _ _ q1]; rfl
  have c5 : W.cell? ⟨w.heap.size + 1, 6, none⟩ = some (.bool i.rl) := by rw [cell_of_row W _ 6 _ _ _ q1]; rfl
  have c6 : W.cell? ⟨w.heap.size + 1, 0, none⟩ = some (.int .i64 i.op) := by rw [cell_of_row W _ 0 _ _ _ q1]; simpa using j0
  have b : Below w.heap.size w W := by rw [hW]; exact (((Below.refl w.heap.size w).alloc (Nat.le_refl _) _).alloc (by simp only [World.size_alloc]; omega) _).alloc (by simp only [World.size_alloc]; omega) _ |>.trans ⟨rfl, rfl, rfl, Nat.le_refl _, fun _ _ => rfl⟩
  rw [← hW]
  have B := Lib.hid b; have Q2 := Lib.hid q2; clear b hW q0 q1 q2 k1 k2 j0 j2 j4 b1
  have HR := Lib.hid (setRow_heap W (w.heap.size + 2) azero (acells ⟨5, Ar.add (h.R i.rs1) i.imm, 4, h.R i.rs2, i.op, i.aq, i.rl⟩).toArray 37 (0, 0) Q2.out)
  go_wp2_with (refine wpList_store_row rfl 37 (.tmp 4) (.tmp 89) rfl (w.heap.size + 2) (acells ⟨5, Ar.add (h.R i.rs1) i.imm, 4, h.R i.rs2, i.op, i.aq, i.rl⟩).toArray rfl rfl 37 azero Q2.out (by kernel_rfl) (by kernel_rfl) (by kernel_rfl) ?_)
  refine bodyPost_ret (v := .agg (acells ⟨5, Ar.add (h.R i.rs1) i.imm, 4, h.R i.rs2, i.op, i.aq, i.rl⟩).toArray) ?_ rfl ⟨rfl, ?_⟩
  · exact results_cell_row (fn := Tryz.f35) rfl _ _ (w.heap.size + 2) 37 (acells ⟨5, Ar.add (h.R i.rs1) i.imm, 4, h.R i.rs2, i.op, i.aq, i.rl⟩).toArray (0, 0) _ rfl HR.out Tryz.underlying37 rfl (by kernel_rfl)
  · exact below_setRow B.out (by omega)
set_option maxRecDepth 100000 in
set_option maxHeartbeats 2000000 in
theorem racc_n1 (h : H) (i : I) (hop : 0 ≤ i.op ∧ i.op ≤ 10) (K : HIOk h i) (w : World) :
    Calls Tryz.prog 35 #[hartV h, instV i] w fun e w' => e = .returned (accV A0) ∧ Below w.heap.size w w' := by
  have k1 := hc h i.rs1 K.rs1
  have k2 := hc h i.rs2 K.rs2
  have b1 : (i.rs1 : Int) < 32 := by have := K.rs1; omega
  have b2 : (i.rs2 : Int) < 32 := by have := K.rs2; omega
  have j0 : (icells i)[0]? = some (.int .i64 i.op) := rfl
  have n38 : ((i.op : Int) == 38) = false := beq_eq_false_iff_ne.2 (by omega)
  have n48 : ((i.op : Int) == 48) = false := beq_eq_false_iff_ne.2 (by omega)
  have n49 : ((i.op : Int) == 49) = false := beq_eq_false_iff_ne.2 (by omega)
  have g1 : 0 ≤ (i.op : Int) := by omega
  have g2 : (i.op : Int) ≤ 10 := by omega
  clear hop
  have j2 : (icells i)[2]? = some (.int .i64 i.rs1) := rfl
  have j4 : (icells i)[4]? = some (.int .u32 i.imm) := rfl
  unfold hartV instV accV
  go_enter Tryz.func35, Tryz.ntmps35
  go_wp2
  go_quiet ((go_at_call 49; exact Calls.quiet_of_same ((radd_any _ _ (K.R _) K.imm _).mono fun _ _ h => ⟨h.1, h.2.symm⟩)))
  obtain ⟨W, hW⟩ : ∃ W, W = (((w.alloc (.cells (hcells h).toArray 26)).alloc (.cells (icells i).toArray 85)).alloc (.cells azero 37)).drewN nq := ⟨_, rfl⟩
  have q0 : W.heap[w.heap.size]? = some (.cells (hcells h).toArray 26) := by rw [hW]; exact (heap_a3 w _ _ _).1
  have q1 : W.heap[w.heap.size + 1]? = some (.cells (icells i).toArray 85) := by rw [hW]; exact (heap_a3 w _ _ _).2.1
  have q2 : W.heap[w.heap.size + 2]? = some (.cells azero 37) := by rw [hW]; exact (heap_a3 w _ _ _).2.2
  have c1 : W.cell? ⟨w.heap.size + 1, 3, none⟩ = some (.int .i64 i.rs2) := by rw [cell_of_row W _ 3 _ _ _ q1]; rfl
  have c2 : W.cell? ⟨w.heap.size, 2 + i.rs2, none⟩ = some (.int .u32 (h.R i.rs2)) := by rw [cell_of_row W _ _ _ _ _ q0]; simpa using k2
  have c3 : W.cell? ⟨w.heap.size + 1, 4, none⟩ = some (.int .u32 i.imm) := by rw [cell_of_row W _ 4 _ _ _ q1]; rfl
  have c4 : W.cell? ⟨w.heap.size + 1, 5, none⟩ = some (.bool i.aq) := by rw [cell_of_row W _ 5 _ _ _ q1]; rfl
  have c5 : W.cell? ⟨w.heap.size + 1, 6, none⟩ = some (.bool i.rl) := by rw [cell_of_row W _ 6 _ _ _ q1]; rfl
  have c6 : W.cell? ⟨w.heap.size + 1, 0, none⟩ = some (.int .i64 i.op) := by rw [cell_of_row W _ 0 _ _ _ q1]; simpa using j0
  have b : Below w.heap.size w W := by rw [hW]; exact (((Below.refl w.heap.size w).alloc (Nat.le_refl _) _).alloc (by simp only [World.size_alloc]; omega) _).alloc (by simp only [World.size_alloc]; omega) _ |>.trans ⟨rfl, rfl, rfl, Nat.le_refl _, fun _ _ => rfl⟩
  rw [← hW]
  have B := Lib.hid b; have Q2 := Lib.hid q2; clear b hW q0 q1 q2 k1 k2 j0 j2 j4 b1
  have HR := Lib.hid (setRow_heap W (w.heap.size + 2) azero (acells A0).toArray 37 (0, 0) Q2.out)
  go_wp2_with (refine wpList_store_row rfl 37 (.tmp 4) (.tmp 90) rfl (w.heap.size + 2) (acells A0).toArray rfl rfl 37 azero Q2.out (by kernel_rfl) (by kernel_rfl) (by kernel_rfl) ?_)
  refine bodyPost_ret (v := .agg (acells A0).toArray) ?_ rfl ⟨rfl, ?_⟩
  · exact results_cell_row (fn := Tryz.f35) rfl _ _ (w.heap.size + 2) 37 (acells A0).toArray (0, 0) _ rfl HR.out Tryz.underlying37 rfl (by kernel_rfl)
  · exact below_setRow B.out (by omega)
set_option maxRecDepth 100000 in
set_option maxHeartbeats 2000000 in
theorem racc_n2 (h : H) (i : I) (hop : 19 ≤ i.op ∧ i.op ≤ 37) (K : HIOk h i) (w : World) :
    Calls Tryz.prog 35 #[hartV h, instV i] w fun e w' => e = .returned (accV A0) ∧ Below w.heap.size w w' := by
  have k1 := hc h i.rs1 K.rs1
  have k2 := hc h i.rs2 K.rs2
  have b1 : (i.rs1 : Int) < 32 := by have := K.rs1; omega
  have b2 : (i.rs2 : Int) < 32 := by have := K.rs2; omega
  have j0 : (icells i)[0]? = some (.int .i64 i.op) := rfl
  have n38 : ((i.op : Int) == 38) = false := beq_eq_false_iff_ne.2 (by omega)
  have n48 : ((i.op : Int) == 48) = false := beq_eq_false_iff_ne.2 (by omega)
  have n49 : ((i.op : Int) == 49) = false := beq_eq_false_iff_ne.2 (by omega)
  have g1 : 19 ≤ (i.op : Int) := by omega
  have g2 : (i.op : Int) ≤ 37 := by omega
  clear hop
  have j2 : (icells i)[2]? = some (.int .i64 i.rs1) := rfl
  have j4 : (icells i)[4]? = some (.int .u32 i.imm) := rfl
  unfold hartV instV accV
  go_enter Tryz.func35, Tryz.ntmps35
  go_wp2
  go_quiet ((go_at_call 49; exact Calls.quiet_of_same ((radd_any _ _ (K.R _) K.imm _).mono fun _ _ h => ⟨h.1, h.2.symm⟩)))
  obtain ⟨W, hW⟩ : ∃ W, W = (((w.alloc (.cells (hcells h).toArray 26)).alloc (.cells (icells i).toArray 85)).alloc (.cells azero 37)).drewN nq := ⟨_, rfl⟩
  have q0 : W.heap[w.heap.size]? = some (.cells (hcells h).toArray 26) := by rw [hW]; exact (heap_a3 w _ _ _).1
  have q1 : W.heap[w.heap.size + 1]? = some (.cells (icells i).toArray 85) := by rw [hW]; exact (heap_a3 w _ _ _).2.1
  have q2 : W.heap[w.heap.size + 2]? = some (.cells azero 37) := by rw [hW]; exact (heap_a3 w _ _ _).2.2
  have c1 : W.cell? ⟨w.heap.size + 1, 3, none⟩ = some (.int .i64 i.rs2) := by rw [cell_of_row W _ 3 _ _ _ q1]; rfl
  have c2 : W.cell? ⟨w.heap.size, 2 + i.rs2, none⟩ = some (.int .u32 (h.R i.rs2)) := by rw [cell_of_row W _ _ _ _ _ q0]; simpa using k2
  have c3 : W.cell? ⟨w.heap.size + 1, 4, none⟩ = some (.int .u32 i.imm) := by rw [cell_of_row W _ 4 _ _ _ q1]; rfl
  have c4 : W.cell? ⟨w.heap.size + 1, 5, none⟩ = some (.bool i.aq) := by rw [cell_of_row W _ 5 _ _ _ q1]; rfl
  have c5 : W.cell? ⟨w.heap.size + 1, 6, none⟩ = some (.bool i.rl) := by rw [cell_of_row W _ 6 _ _ _ q1]; rfl
  have c6 : W.cell? ⟨w.heap.size + 1, 0, none⟩ = some (.int .i64 i.op) := by rw [cell_of_row W _ 0 _ _ _ q1]; simpa using j0
  have b : Below w.heap.size w W := by rw [hW]; exact (((Below.refl w.heap.size w).alloc (Nat.le_refl _) _).alloc (by simp only [World.size_alloc]; omega) _).alloc (by simp only [World.size_alloc]; omega) _ |>.trans ⟨rfl, rfl, rfl, Nat.le_refl _, fun _ _ => rfl⟩
  rw [← hW]
  have B := Lib.hid b; have Q2 := Lib.hid q2; clear b hW q0 q1 q2 k1 k2 j0 j2 j4 b1
  have HR := Lib.hid (setRow_heap W (w.heap.size + 2) azero (acells A0).toArray 37 (0, 0) Q2.out)
  go_wp2_with (refine wpList_store_row rfl 37 (.tmp 4) (.tmp 90) rfl (w.heap.size + 2) (acells A0).toArray rfl rfl 37 azero Q2.out (by kernel_rfl) (by kernel_rfl) (by kernel_rfl) ?_)
  refine bodyPost_ret (v := .agg (acells A0).toArray) ?_ rfl ⟨rfl, ?_⟩
  · exact results_cell_row (fn := Tryz.f35) rfl _ _ (w.heap.size + 2) 37 (acells A0).toArray (0, 0) _ rfl HR.out Tryz.underlying37 rfl (by kernel_rfl)
  · exact below_setRow B.out (by omega)
set_option maxRecDepth 100000 in
set_option maxHeartbeats 2000000 in
theorem racc_n3 (h : H) (i : I) (hop : 39 ≤ i.op ∧ i.op ≤ 47) (K : HIOk h i) (w : World) :
    Calls Tryz.prog 35 #[hartV h, instV i] w fun e w' => e = .returned (accV A0) ∧ Below w.heap.size w w' := by
  have k1 := hc h i.rs1 K.rs1
  have k2 := hc h i.rs2 K.rs2
  have b1 : (i.rs1 : Int) < 32 := by have := K.rs1; omega
  have b2 : (i.rs2 : Int) < 32 := by have := K.rs2; omega
  have j0 : (icells i)[0]? = some (.int .i64 i.op) := rfl
  have n38 : ((i.op : Int) == 38) = false := beq_eq_false_iff_ne.2 (by omega)
  have n48 : ((i.op : Int) == 48) = false := beq_eq_false_iff_ne.2 (by omega)
  have n49 : ((i.op : Int) == 49) = false := beq_eq_false_iff_ne.2 (by omega)
  have g1 : 39 ≤ (i.op : Int) := by omega
  have g2 : (i.op : Int) ≤ 47 := by omega
  clear hop
  have j2 : (icells i)[2]? = some (.int .i64 i.rs1) := rfl
  have j4 : (icells i)[4]? = some (.int .u32 i.imm) := rfl
  unfold hartV instV accV
  go_enter Tryz.func35, Tryz.ntmps35
  go_wp2
  go_quiet ((go_at_call 49; exact Calls.quiet_of_same ((radd_any _ _ (K.R _) K.imm _).mono fun _ _ h => ⟨h.1, h.2.symm⟩)))
  obtain ⟨W, hW⟩ : ∃ W, W = (((w.alloc (.cells (hcells h).toArray 26)).alloc (.cells (icells i).toArray 85)).alloc (.cells azero 37)).drewN nq := ⟨_, rfl⟩
  have q0 : W.heap[w.heap.size]? = some (.cells (hcells h).toArray 26) := by rw [hW]; exact (heap_a3 w _ _ _).1
  have q1 : W.heap[w.heap.size + 1]? = some (.cells (icells i).toArray 85) := by rw [hW]; exact (heap_a3 w _ _ _).2.1
  have q2 : W.heap[w.heap.size + 2]? = some (.cells azero 37) := by rw [hW]; exact (heap_a3 w _ _ _).2.2
  have c1 : W.cell? ⟨w.heap.size + 1, 3, none⟩ = some (.int .i64 i.rs2) := by rw [cell_of_row W _ 3 _ _ _ q1]; rfl
  have c2 : W.cell? ⟨w.heap.size, 2 + i.rs2, none⟩ = some (.int .u32 (h.R i.rs2)) := by rw [cell_of_row W _ _ _ _ _ q0]; simpa using k2
  have c3 : W.cell? ⟨w.heap.size + 1, 4, none⟩ = some (.int .u32 i.imm) := by rw [cell_of_row W _ 4 _ _ _ q1]; rfl
  have c4 : W.cell? ⟨w.heap.size + 1, 5, none⟩ = some (.bool i.aq) := by rw [cell_of_row W _ 5 _ _ _ q1]; rfl
  have c5 : W.cell? ⟨w.heap.size + 1, 6, none⟩ = some (.bool i.rl) := by rw [cell_of_row W _ 6 _ _ _ q1]; rfl
  have c6 : W.cell? ⟨w.heap.size + 1, 0, none⟩ = some (.int .i64 i.op) := by rw [cell_of_row W _ 0 _ _ _ q1]; simpa using j0
  have b : Below w.heap.size w W := by rw [hW]; exact (((Below.refl w.heap.size w).alloc (Nat.le_refl _) _).alloc (by simp only [World.size_alloc]; omega) _).alloc (by simp only [World.size_alloc]; omega) _ |>.trans ⟨rfl, rfl, rfl, Nat.le_refl _, fun _ _ => rfl⟩
  rw [← hW]
  have B := Lib.hid b; have Q2 := Lib.hid q2; clear b hW q0 q1 q2 k1 k2 j0 j2 j4 b1
  have HR := Lib.hid (setRow_heap W (w.heap.size + 2) azero (acells A0).toArray 37 (0, 0) Q2.out)
  go_wp2_with (refine wpList_store_row rfl 37 (.tmp 4) (.tmp 90) rfl (w.heap.size + 2) (acells A0).toArray rfl rfl 37 azero Q2.out (by kernel_rfl) (by kernel_rfl) (by kernel_rfl) ?_)
  refine bodyPost_ret (v := .agg (acells A0).toArray) ?_ rfl ⟨rfl, ?_⟩
  · exact results_cell_row (fn := Tryz.f35) rfl _ _ (w.heap.size + 2) 37 (acells A0).toArray (0, 0) _ rfl HR.out Tryz.underlying37 rfl (by kernel_rfl)
  · exact below_setRow B.out (by omega)
set_option maxRecDepth 100000 in
set_option maxHeartbeats 2000000 in
theorem racc_n4 (h : H) (i : I) (hop : 59 ≤ i.op ∧ i.op ≤ 59) (K : HIOk h i) (w : World) :
    Calls Tryz.prog 35 #[hartV h, instV i] w fun e w' => e = .returned (accV A0) ∧ Below w.heap.size w w' := by
  have k1 := hc h i.rs1 K.rs1
  have k2 := hc h i.rs2 K.rs2
  have b1 : (i.rs1 : Int) < 32 := by have := K.rs1; omega
  have b2 : (i.rs2 : Int) < 32 := by have := K.rs2; omega
  have j0 : (icells i)[0]? = some (.int .i64 i.op) := rfl
  have n38 : ((i.op : Int) == 38) = false := beq_eq_false_iff_ne.2 (by omega)
  have n48 : ((i.op : Int) == 48) = false := beq_eq_false_iff_ne.2 (by omega)
  have n49 : ((i.op : Int) == 49) = false := beq_eq_false_iff_ne.2 (by omega)
  have g1 : 59 ≤ (i.op : Int) := by omega
  have g2 : (i.op : Int) ≤ 59 := by omega
  clear hop
  have j2 : (icells i)[2]? = some (.int .i64 i.rs1) := rfl
  have j4 : (icells i)[4]? = some (.int .u32 i.imm) := rfl
  unfold hartV instV accV
  go_enter Tryz.func35, Tryz.ntmps35
  go_wp2
  go_quiet ((go_at_call 49; exact Calls.quiet_of_same ((radd_any _ _ (K.R _) K.imm _).mono fun _ _ h => ⟨h.1, h.2.symm⟩)))
  obtain ⟨W, hW⟩ : ∃ W, W = (((w.alloc (.cells (hcells h).toArray 26)).alloc (.cells (icells i).toArray 85)).alloc (.cells azero 37)).drewN nq := ⟨_, rfl⟩
  have q0 : W.heap[w.heap.size]? = some (.cells (hcells h).toArray 26) := by rw [hW]; exact (heap_a3 w _ _ _).1
  have q1 : W.heap[w.heap.size + 1]? = some (.cells (icells i).toArray 85) := by rw [hW]; exact (heap_a3 w _ _ _).2.1
  have q2 : W.heap[w.heap.size + 2]? = some (.cells azero 37) := by rw [hW]; exact (heap_a3 w _ _ _).2.2
  have c1 : W.cell? ⟨w.heap.size + 1, 3, none⟩ = some (.int .i64 i.rs2) := by rw [cell_of_row W _ 3 _ _ _ q1]; rfl
  have c2 : W.cell? ⟨w.heap.size, 2 + i.rs2, none⟩ = some (.int .u32 (h.R i.rs2)) := by rw [cell_of_row W _ _ _ _ _ q0]; simpa using k2
  have c3 : W.cell? ⟨w.heap.size + 1, 4, none⟩ = some (.int .u32 i.imm) := by rw [cell_of_row W _ 4 _ _ _ q1]; rfl
  have c4 : W.cell? ⟨w.heap.size + 1, 5, none⟩ = some (.bool i.aq) := by rw [cell_of_row W _ 5 _ _ _ q1]; rfl
  have c5 : W.cell? ⟨w.heap.size + 1, 6, none⟩ = some (.bool i.rl) := by rw [cell_of_row W _ 6 _ _ _ q1]; rfl
  have c6 : W.cell? ⟨w.heap.size + 1, 0, none⟩ = some (.int .i64 i.op) := by rw [cell_of_row W _ 0 _ _ _ q1]; simpa using j0
  have b : Below w.heap.size w W := by rw [hW]; exact (((Below.refl w.heap.size w).alloc (Nat.le_refl _) _).alloc (by simp only [World.size_alloc]; omega) _).alloc (by simp only [World.size_alloc]; omega) _ |>.trans ⟨rfl, rfl, rfl, Nat.le_refl _, fun _ _ => rfl⟩
  rw [← hW]
  have B := Lib.hid b; have Q2 := Lib.hid q2; clear b hW q0 q1 q2 k1 k2 j0 j2 j4 b1
  have HR := Lib.hid (setRow_heap W (w.heap.size + 2) azero (acells A0).toArray 37 (0, 0) Q2.out)
  go_wp2_with (refine wpList_store_row rfl 37 (.tmp 4) (.tmp 90) rfl (w.heap.size + 2) (acells A0).toArray rfl rfl 37 azero Q2.out (by kernel_rfl) (by kernel_rfl) (by kernel_rfl) ?_)
  refine bodyPost_ret (v := .agg (acells A0).toArray) ?_ rfl ⟨rfl, ?_⟩
  · exact results_cell_row (fn := Tryz.f35) rfl _ _ (w.heap.size + 2) 37 (acells A0).toArray (0, 0) _ rfl HR.out Tryz.underlying37 rfl (by kernel_rfl)
  · exact below_setRow B.out (by omega)
end Go.Proofs.YtianojbdabeoeaaGreatDoor
end

section
namespace Go.Proofs.YtianojbdabeoeaaGreatDoor
open Go.RowKit Ht
set_option linter.unusedVariables false
theorem racc_any (h : H) (i : I) (hop : 1 ≤ i.op ∧ i.op ≤ 59) (K : HIOk h i) (w : World) :
    Calls Tryz.prog 35 #[hartV h, instV i] w fun e w' => e = .returned (accV (acc i.op (h.R i.rs1) (h.R i.rs2) i.imm i.aq i.rl)) ∧ Below w.heap.size w w' := by
  have no : (i.op ≤ 10 ∨ (19 ≤ i.op ∧ i.op ≤ 37) ∨ (39 ≤ i.op ∧ i.op ≤ 47) ∨ i.op = 59) → acc i.op (h.R i.rs1) (h.R i.rs2) i.imm i.aq i.rl = A0 := fun g => by
    unfold acc
    rw [if_neg (by omega), if_neg (by omega), if_neg (by omega), if_neg (by omega), if_neg (by omega), if_neg (by omega)]
  rcases (show i.op ≤ 10 ∨ i.op = 11 ∨ i.op = 12 ∨ i.op = 13 ∨ i.op = 14 ∨ i.op = 15 ∨ i.op = 16 ∨ i.op = 17 ∨ i.op = 18 ∨ (19 ≤ i.op ∧ i.op ≤ 37) ∨ i.op = 38 ∨ (39 ≤ i.op ∧ i.op ≤ 47) ∨ i.op = 48 ∨ i.op = 49 ∨ (50 ≤ i.op ∧ i.op ≤ 58) ∨ i.op = 59 by omega) with
    g | g | g | g | g | g | g | g | g | g | g | g | g | g | g | g
  · rw [no (.inl g)]; exact racc_n1 h i ⟨by omega, g⟩ K w
  · have := racc_11 h i g K w; rw [g]; exact this
  · have := racc_12 h i g K w; rw [g]; exact this
  · have := racc_13 h i g K w; rw [g]; exact this
  · have := racc_14 h i g K w; rw [g]; exact this
  · have := racc_15 h i g K w; rw [g]; exact this
  · have := racc_16 h i g K w; rw [g]; exact this
  · have := racc_17 h i g K w; rw [g]; exact this
  · have := racc_18 h i g K w; rw [g]; exact this
  · rw [no (.inr (.inl g))]; exact racc_n2 h i g K w
  · have := racc_38 h i g K w; rw [g]; exact this
  · rw [no (.inr (.inr (.inl g)))]; exact racc_n3 h i g K w
  · have := racc_48 h i g K w; rw [g]; exact this
  · have := racc_49 h i g K w; rw [g]; exact this
  · have e : acc i.op (h.R i.rs1) (h.R i.rs2) i.imm i.aq i.rl = ⟨5, Ar.add (h.R i.rs1) i.imm, 4, h.R i.rs2, i.op, i.aq, i.rl⟩ := by
      unfold acc
      rw [if_neg (by omega), if_neg (by omega), if_neg (by omega), if_neg (by omega), if_neg (by omega), if_pos g]
    rw [e]; exact racc_amo h i g K w
  · rw [no (.inr (.inr (.inr g)))]; exact racc_n4 h i (by omega) K w
theorem rval_any (h : H) (i : I) (hop : 1 ≤ i.op ∧ i.op ≤ 59) (tv : Int) (tok : Bool) (ht : Ar.Wd tv) (K : HIOk h i) (w : World) :
    Calls Tryz.prog 56 #[hartV h, instV i, ansV tv tok] w fun e w' => e = .returned (.tuple #[.int .u32 (val i.op h.pc h.id (h.R i.rs1) (h.R i.rs2) i.imm tv tok), .bool (has i.op)]) ∧ Below w.heap.size w w' := by
  rcases (show i.op = 1 ∨ i.op = 2 ∨ i.op = 3 ∨ i.op = 4 ∨ i.op = 5 ∨ i.op = 6 ∨ i.op = 7 ∨ i.op = 8 ∨ i.op = 9 ∨ i.op = 10 ∨ i.op = 11 ∨ i.op = 12 ∨ i.op = 13 ∨ i.op = 14 ∨ i.op = 15 ∨ i.op = 16 ∨ i.op = 17 ∨ i.op = 18 ∨ i.op = 19 ∨ i.op = 20 ∨ i.op = 21 ∨ i.op = 22 ∨ i.op = 23 ∨ i.op = 24 ∨ i.op = 25 ∨ i.op = 26 ∨ i.op = 27 ∨ i.op = 28 ∨ i.op = 29 ∨ i.op = 30 ∨ i.op = 31 ∨ i.op = 32 ∨ i.op = 33 ∨ i.op = 34 ∨ i.op = 35 ∨ i.op = 36 ∨ i.op = 37 ∨ i.op = 38 ∨ i.op = 39 ∨ i.op = 40 ∨ i.op = 41 ∨ i.op = 42 ∨ i.op = 43 ∨ i.op = 44 ∨ i.op = 45 ∨ i.op = 46 ∨ i.op = 47 ∨ i.op = 48 ∨ i.op = 49 ∨ i.op = 50 ∨ i.op = 51 ∨ i.op = 52 ∨ i.op = 53 ∨ i.op = 54 ∨ i.op = 55 ∨ i.op = 56 ∨ i.op = 57 ∨ i.op = 58 ∨ i.op = 59 by omega) with g | g | g | g | g | g | g | g | g | g | g | g | g | g | g | g | g | g | g | g | g | g | g | g | g | g | g | g | g | g | g | g | g | g | g | g | g | g | g | g | g | g | g | g | g | g | g | g | g | g | g | g | g | g | g | g | g | g | g
  · have := rval_1 h i g tv tok ht K w; rw [g]; exact this
  · have := rval_2 h i g tv tok ht K w; rw [g]; exact this
  · have := rval_3 h i g tv tok ht K w; rw [g]; exact this
  · have := rval_4 h i g tv tok ht K w; rw [g]; exact this
  · have := rval_5 h i g tv tok ht K w; rw [g]; exact this
  · have := rval_6 h i g tv tok ht K w; rw [g]; exact this
  · have := rval_7 h i g tv tok ht K w; rw [g]; exact this
  · have := rval_8 h i g tv tok ht K w; rw [g]; exact this
  · have := rval_9 h i g tv tok ht K w; rw [g]; exact this
  · have := rval_10 h i g tv tok ht K w; rw [g]; exact this
  · have := rval_11 h i g tv tok ht K w; rw [g]; exact this
  · have := rval_12 h i g tv tok ht K w; rw [g]; exact this
  · have := rval_13 h i g tv tok ht K w; rw [g]; exact this
  · have := rval_14 h i g tv tok ht K w; rw [g]; exact this
  · have := rval_15 h i g tv tok ht K w; rw [g]; exact this
  · have := rval_16 h i g tv tok ht K w; rw [g]; exact this
  · have := rval_17 h i g tv tok ht K w; rw [g]; exact this
  · have := rval_18 h i g tv tok ht K w; rw [g]; exact this
  · have := rval_19 h i g tv tok ht K w; rw [g]; exact this
  · have := rval_20 h i g tv tok ht K w; rw [g]; exact this
  · have := rval_21 h i g tv tok ht K w; rw [g]; exact this
  · have := rval_22 h i g tv tok ht K w; rw [g]; exact this
  · have := rval_23 h i g tv tok ht K w; rw [g]; exact this
  · have := rval_24 h i g tv tok ht K w; rw [g]; exact this
  · have := rval_25 h i g tv tok ht K w; rw [g]; exact this
  · have := rval_26 h i g tv tok ht K w; rw [g]; exact this
  · have := rval_27 h i g tv tok ht K w; rw [g]; exact this
  · have := rval_28 h i g tv tok ht K w; rw [g]; exact this
  · have := rval_29 h i g tv tok ht K w; rw [g]; exact this
  · have := rval_30 h i g tv tok ht K w; rw [g]; exact this
  · have := rval_31 h i g tv tok ht K w; rw [g]; exact this
  · have := rval_32 h i g tv tok ht K w; rw [g]; exact this
  · have := rval_33 h i g tv tok ht K w; rw [g]; exact this
  · have := rval_34 h i g tv tok ht K w; rw [g]; exact this
  · have := rval_35 h i g tv tok ht K w; rw [g]; exact this
  · have := rval_36 h i g tv tok ht K w; rw [g]; exact this
  · have := rval_37 h i g tv tok ht K w; rw [g]; exact this
  · have := rval_38 h i g tv tok ht K w; rw [g]; exact this
  · have := rval_39 h i g tv tok ht K w; rw [g]; exact this
  · have := rval_40 h i g tv tok ht K w; rw [g]; exact this
  · have := rval_41 h i g tv tok ht K w; rw [g]; exact this
  · have := rval_42 h i g tv tok ht K w; rw [g]; exact this
  · have := rval_43 h i g tv tok ht K w; rw [g]; exact this
  · have := rval_44 h i g tv tok ht K w; rw [g]; exact this
  · have := rval_45 h i g tv tok ht K w; rw [g]; exact this
  · have := rval_46 h i g tv tok ht K w; rw [g]; exact this
  · have := rval_47 h i g tv tok ht K w; rw [g]; exact this
  · have := rval_48 h i g tv tok ht K w; rw [g]; exact this
  · have := rval_49 h i g tv tok ht K w; rw [g]; exact this
  · have := rval_50 h i g tv tok ht K w; rw [g]; exact this
  · have := rval_51 h i g tv tok ht K w; rw [g]; exact this
  · have := rval_52 h i g tv tok ht K w; rw [g]; exact this
  · have := rval_53 h i g tv tok ht K w; rw [g]; exact this
  · have := rval_54 h i g tv tok ht K w; rw [g]; exact this
  · have := rval_55 h i g tv tok ht K w; rw [g]; exact this
  · have := rval_56 h i g tv tok ht K w; rw [g]; exact this
  · have := rval_57 h i g tv tok ht K w; rw [g]; exact this
  · have := rval_58 h i g tv tok ht K w; rw [g]; exact this
  · have := rval_59 h i g tv tok ht K w; rw [g]; exact this
end Go.Proofs.YtianojbdabeoeaaGreatDoor
end
