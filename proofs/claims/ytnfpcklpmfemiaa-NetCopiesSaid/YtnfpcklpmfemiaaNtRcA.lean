/-
  The document's Check.
-/
import Derived.Test.YtnfpcklpmfemiaaNtBe
namespace Go.Proofs.Ytnfpcklpmfemiaa
open Go.RowKit
set_option linter.unusedVariables false
set_option linter.unusedSimpArgs false
namespace Nt
set_option maxRecDepth 100000 in
set_option maxHeartbeats 8000000 in
theorem rcheck_1 (f t n : Int) (b : List Int) (hok : Ok ⟨1, f, t, n, b⟩) (w : World) : Calls Try.prog 27 #[.agg (cells ⟨1, f, t, n, b⟩).toArray] w fun r w' => r = .returned (.int .i64 (chk ⟨1, f, t, n, b⟩)) ∧ Below w.heap.size w w' := by
  obtain ⟨mb, hmb⟩ : ∃ mb, mb = w.heap.size := ⟨_, rfl⟩
  obtain ⟨B, hB⟩ : ∃ B, B = w.alloc (.cells (cells ⟨1, f, t, n, b⟩).toArray 57) := ⟨_, rfl⟩
  have HB := Lib.hid hB; have HMB := Lib.hid hmb
  have B0 := Lib.hid (show Below w.heap.size w B by rw [hB]; exact (Below.refl w.heap.size w).alloc (Nat.le_refl _) _)
  have R0 := Lib.hid (show B.heap[mb]? = some (.cells (cells ⟨1, f, t, n, b⟩).toArray 57 (0, 0)) by rw [hB, hmb]; exact heap_alloc_new _ _)
  have HOK := Lib.hid hok
  have HBY := Lib.hid (show ∀ i c, (bys b)[i]? = some c → B.cell? ⟨mb, 4 + i, none⟩ = some c from fun i c hi => cells_at R0.out (i := 4 + i) (by unfold cells; rw [Nat.add_comm]; exact hi))
  have hbl : (bys b).length = 16 := by unfold bys; rw [List.length_map]; exact HOK.out.b
  have c0 : B.cell? ⟨mb, 0, none⟩ = some (.int .i64 1) := cells_at R0.out (cell0 _)
  have c1 : B.cell? ⟨mb, 1, none⟩ = some (.int .i64 f) := cells_at R0.out (cell1 _)
  have c2 : B.cell? ⟨mb, 2, none⟩ = some (.int .i64 t) := cells_at R0.out (cell2 _)
  clear hB hmb hok
  have HC := Lib.hid (show chk ⟨1, f, t, n, b⟩ = if (zb b && (ca f && t == 4)) then 0 else 2 from rfl)
  have HCA := Lib.hid (rfl : (0 : Nat) = 0)
  obtain ⟨Z, hZ⟩ : ∃ Z, zb b = Z := ⟨_, rfl⟩
  have HC2 := HC.out
  rw [hZ] at HC2
  have HZ := Lib.hid hZ
  have HC := Lib.hid HC2
  clear HC2 hZ
  cases Z
  · go_enter Try.func27, Try.ntmps27
    go_wp2_with (first
      | ((with_reducible show wpList _ _ _ (Oper.mk (some 4) _ _ _ _ _ :: _) _ _); rw [← HB.out, ← HMB.out])
      | ((with_reducible show wpList _ _ _ (Oper.mk (some 31) _ _ _ _ _ :: _) _ _); refine wpList_val_g rfl (v := .agg (bys b).toArray) (Og.load_run 25 (.tmp 30) rfl ⟨mb, 4, none⟩ rfl (run_loadVar_at B mb 4 25 (bys b) _ HBY.out Try.underlying25 rfl (by rw [hbl]; kernel_rfl))) ?_)
      | ((with_reducible show wpList _ _ _ (Oper.mk (some 33) _ _ _ _ _ :: _) _ _); refine wpList_val_g rfl (neq_bytes (.tmp 31) (.tmp 32) rfl HOK.out.b rfl rfl B) ?_; rw [HZ.out])
      | (go_at_call 61; (with_reducible refine (cache_any f B).mono ?_); rintro e2 W2 ⟨rfl, hw⟩; subst hw; rw [HCA.out]))
    go_ret
    exact ⟨by rw [HC.out]; rfl, B0.out⟩
  have HC2 := HC.out
  rw [Bool.true_and] at HC2
  have HC := Lib.hid HC2
  clear HC2
  by_cases h4 : t = 4
  · subst h4
    obtain ⟨V, hV⟩ : ∃ V, ca f = V := ⟨_, rfl⟩
    have HC2 := HC.out
    rw [hV] at HC2
    have HC := Lib.hid HC2
    have HCA := Lib.hid hV
    clear HC2 hV
    cases V
    · go_enter Try.func27, Try.ntmps27
      go_wp2_with (first
        | ((with_reducible show wpList _ _ _ (Oper.mk (some 4) _ _ _ _ _ :: _) _ _); rw [← HB.out, ← HMB.out])
        | ((with_reducible show wpList _ _ _ (Oper.mk (some 31) _ _ _ _ _ :: _) _ _); refine wpList_val_g rfl (v := .agg (bys b).toArray) (Og.load_run 25 (.tmp 30) rfl ⟨mb, 4, none⟩ rfl (run_loadVar_at B mb 4 25 (bys b) _ HBY.out Try.underlying25 rfl (by rw [hbl]; kernel_rfl))) ?_)
        | ((with_reducible show wpList _ _ _ (Oper.mk (some 33) _ _ _ _ _ :: _) _ _); refine wpList_val_g rfl (neq_bytes (.tmp 31) (.tmp 32) rfl HOK.out.b rfl rfl B) ?_; rw [HZ.out])
        | (go_at_call 61; (with_reducible refine (cache_any f B).mono ?_); rintro e2 W2 ⟨rfl, hw⟩; subst hw; rw [HCA.out]))
      go_ret
      exact ⟨by rw [HC.out]; rfl, B0.out⟩
    · go_enter Try.func27, Try.ntmps27
      go_wp2_with (first
        | ((with_reducible show wpList _ _ _ (Oper.mk (some 4) _ _ _ _ _ :: _) _ _); rw [← HB.out, ← HMB.out])
        | ((with_reducible show wpList _ _ _ (Oper.mk (some 31) _ _ _ _ _ :: _) _ _); refine wpList_val_g rfl (v := .agg (bys b).toArray) (Og.load_run 25 (.tmp 30) rfl ⟨mb, 4, none⟩ rfl (run_loadVar_at B mb 4 25 (bys b) _ HBY.out Try.underlying25 rfl (by rw [hbl]; kernel_rfl))) ?_)
        | ((with_reducible show wpList _ _ _ (Oper.mk (some 33) _ _ _ _ _ :: _) _ _); refine wpList_val_g rfl (neq_bytes (.tmp 31) (.tmp 32) rfl HOK.out.b rfl rfl B) ?_; rw [HZ.out])
        | (go_at_call 61; (with_reducible refine (cache_any f B).mono ?_); rintro e2 W2 ⟨rfl, hw⟩; subst hw; rw [HCA.out]))
      go_ret
      exact ⟨by rw [HC.out]; rfl, B0.out⟩
  · obtain ⟨V, hV⟩ : ∃ V, ca f = V := ⟨_, rfl⟩
    have HC2 := HC.out
    rw [hV, show (t == 4) = false from by simpa using h4] at HC2
    have HC := Lib.hid HC2
    have HCA := Lib.hid hV
    clear HC2 hV
    cases V
    · go_enter Try.func27, Try.ntmps27
      go_wp2_with (first
        | ((with_reducible show wpList _ _ _ (Oper.mk (some 4) _ _ _ _ _ :: _) _ _); rw [← HB.out, ← HMB.out])
        | ((with_reducible show wpList _ _ _ (Oper.mk (some 31) _ _ _ _ _ :: _) _ _); refine wpList_val_g rfl (v := .agg (bys b).toArray) (Og.load_run 25 (.tmp 30) rfl ⟨mb, 4, none⟩ rfl (run_loadVar_at B mb 4 25 (bys b) _ HBY.out Try.underlying25 rfl (by rw [hbl]; kernel_rfl))) ?_)
        | ((with_reducible show wpList _ _ _ (Oper.mk (some 33) _ _ _ _ _ :: _) _ _); refine wpList_val_g rfl (neq_bytes (.tmp 31) (.tmp 32) rfl HOK.out.b rfl rfl B) ?_; rw [HZ.out])
        | (go_at_call 61; (with_reducible refine (cache_any f B).mono ?_); rintro e2 W2 ⟨rfl, hw⟩; subst hw; rw [HCA.out]))
      go_ret
      exact ⟨by rw [HC.out]; rfl, B0.out⟩
    · go_enter Try.func27, Try.ntmps27
      go_wp2_with (first
        | ((with_reducible show wpList _ _ _ (Oper.mk (some 4) _ _ _ _ _ :: _) _ _); rw [← HB.out, ← HMB.out])
        | ((with_reducible show wpList _ _ _ (Oper.mk (some 31) _ _ _ _ _ :: _) _ _); refine wpList_val_g rfl (v := .agg (bys b).toArray) (Og.load_run 25 (.tmp 30) rfl ⟨mb, 4, none⟩ rfl (run_loadVar_at B mb 4 25 (bys b) _ HBY.out Try.underlying25 rfl (by rw [hbl]; kernel_rfl))) ?_)
        | ((with_reducible show wpList _ _ _ (Oper.mk (some 33) _ _ _ _ _ :: _) _ _); refine wpList_val_g rfl (neq_bytes (.tmp 31) (.tmp 32) rfl HOK.out.b rfl rfl B) ?_; rw [HZ.out])
        | (go_at_call 61; (with_reducible refine (cache_any f B).mono ?_); rintro e2 W2 ⟨rfl, hw⟩; subst hw; rw [HCA.out]))
      go_ret
      exact ⟨by rw [HC.out]; rfl, B0.out⟩
set_option maxRecDepth 100000 in
set_option maxHeartbeats 8000000 in
theorem rcheck_2 (f t n : Int) (b : List Int) (hok : Ok ⟨2, f, t, n, b⟩) (w : World) : Calls Try.prog 27 #[.agg (cells ⟨2, f, t, n, b⟩).toArray] w fun r w' => r = .returned (.int .i64 (chk ⟨2, f, t, n, b⟩)) ∧ Below w.heap.size w w' := by
  obtain ⟨mb, hmb⟩ : ∃ mb, mb = w.heap.size := ⟨_, rfl⟩
  obtain ⟨B, hB⟩ : ∃ B, B = w.alloc (.cells (cells ⟨2, f, t, n, b⟩).toArray 57) := ⟨_, rfl⟩
  have HB := Lib.hid hB; have HMB := Lib.hid hmb
  have B0 := Lib.hid (show Below w.heap.size w B by rw [hB]; exact (Below.refl w.heap.size w).alloc (Nat.le_refl _) _)
  have R0 := Lib.hid (show B.heap[mb]? = some (.cells (cells ⟨2, f, t, n, b⟩).toArray 57 (0, 0)) by rw [hB, hmb]; exact heap_alloc_new _ _)
  have HOK := Lib.hid hok
  have HBY := Lib.hid (show ∀ i c, (bys b)[i]? = some c → B.cell? ⟨mb, 4 + i, none⟩ = some c from fun i c hi => cells_at R0.out (i := 4 + i) (by unfold cells; rw [Nat.add_comm]; exact hi))
  have hbl : (bys b).length = 16 := by unfold bys; rw [List.length_map]; exact HOK.out.b
  have c0 : B.cell? ⟨mb, 0, none⟩ = some (.int .i64 2) := cells_at R0.out (cell0 _)
  have c1 : B.cell? ⟨mb, 1, none⟩ = some (.int .i64 f) := cells_at R0.out (cell1 _)
  have c2 : B.cell? ⟨mb, 2, none⟩ = some (.int .i64 t) := cells_at R0.out (cell2 _)
  clear hB hmb hok
  have HC := Lib.hid (show chk ⟨2, f, t, n, b⟩ = if (zb b && (ca f && t == 4)) then 0 else 2 from rfl)
  have HCA := Lib.hid (rfl : (0 : Nat) = 0)
  obtain ⟨Z, hZ⟩ : ∃ Z, zb b = Z := ⟨_, rfl⟩
  have HC2 := HC.out
  rw [hZ] at HC2
  have HZ := Lib.hid hZ
  have HC := Lib.hid HC2
  clear HC2 hZ
  cases Z
  · go_enter Try.func27, Try.ntmps27
    go_wp2_with (first
      | ((with_reducible show wpList _ _ _ (Oper.mk (some 4) _ _ _ _ _ :: _) _ _); rw [← HB.out, ← HMB.out])
      | ((with_reducible show wpList _ _ _ (Oper.mk (some 31) _ _ _ _ _ :: _) _ _); refine wpList_val_g rfl (v := .agg (bys b).toArray) (Og.load_run 25 (.tmp 30) rfl ⟨mb, 4, none⟩ rfl (run_loadVar_at B mb 4 25 (bys b) _ HBY.out Try.underlying25 rfl (by rw [hbl]; kernel_rfl))) ?_)
      | ((with_reducible show wpList _ _ _ (Oper.mk (some 33) _ _ _ _ _ :: _) _ _); refine wpList_val_g rfl (neq_bytes (.tmp 31) (.tmp 32) rfl HOK.out.b rfl rfl B) ?_; rw [HZ.out])
      | (go_at_call 61; (with_reducible refine (cache_any f B).mono ?_); rintro e2 W2 ⟨rfl, hw⟩; subst hw; rw [HCA.out]))
    go_ret
    exact ⟨by rw [HC.out]; rfl, B0.out⟩
  have HC2 := HC.out
  rw [Bool.true_and] at HC2
  have HC := Lib.hid HC2
  clear HC2
  by_cases h4 : t = 4
  · subst h4
    obtain ⟨V, hV⟩ : ∃ V, ca f = V := ⟨_, rfl⟩
    have HC2 := HC.out
    rw [hV] at HC2
    have HC := Lib.hid HC2
    have HCA := Lib.hid hV
    clear HC2 hV
    cases V
    · go_enter Try.func27, Try.ntmps27
      go_wp2_with (first
        | ((with_reducible show wpList _ _ _ (Oper.mk (some 4) _ _ _ _ _ :: _) _ _); rw [← HB.out, ← HMB.out])
        | ((with_reducible show wpList _ _ _ (Oper.mk (some 31) _ _ _ _ _ :: _) _ _); refine wpList_val_g rfl (v := .agg (bys b).toArray) (Og.load_run 25 (.tmp 30) rfl ⟨mb, 4, none⟩ rfl (run_loadVar_at B mb 4 25 (bys b) _ HBY.out Try.underlying25 rfl (by rw [hbl]; kernel_rfl))) ?_)
        | ((with_reducible show wpList _ _ _ (Oper.mk (some 33) _ _ _ _ _ :: _) _ _); refine wpList_val_g rfl (neq_bytes (.tmp 31) (.tmp 32) rfl HOK.out.b rfl rfl B) ?_; rw [HZ.out])
        | (go_at_call 61; (with_reducible refine (cache_any f B).mono ?_); rintro e2 W2 ⟨rfl, hw⟩; subst hw; rw [HCA.out]))
      go_ret
      exact ⟨by rw [HC.out]; rfl, B0.out⟩
    · go_enter Try.func27, Try.ntmps27
      go_wp2_with (first
        | ((with_reducible show wpList _ _ _ (Oper.mk (some 4) _ _ _ _ _ :: _) _ _); rw [← HB.out, ← HMB.out])
        | ((with_reducible show wpList _ _ _ (Oper.mk (some 31) _ _ _ _ _ :: _) _ _); refine wpList_val_g rfl (v := .agg (bys b).toArray) (Og.load_run 25 (.tmp 30) rfl ⟨mb, 4, none⟩ rfl (run_loadVar_at B mb 4 25 (bys b) _ HBY.out Try.underlying25 rfl (by rw [hbl]; kernel_rfl))) ?_)
        | ((with_reducible show wpList _ _ _ (Oper.mk (some 33) _ _ _ _ _ :: _) _ _); refine wpList_val_g rfl (neq_bytes (.tmp 31) (.tmp 32) rfl HOK.out.b rfl rfl B) ?_; rw [HZ.out])
        | (go_at_call 61; (with_reducible refine (cache_any f B).mono ?_); rintro e2 W2 ⟨rfl, hw⟩; subst hw; rw [HCA.out]))
      go_ret
      exact ⟨by rw [HC.out]; rfl, B0.out⟩
  · obtain ⟨V, hV⟩ : ∃ V, ca f = V := ⟨_, rfl⟩
    have HC2 := HC.out
    rw [hV, show (t == 4) = false from by simpa using h4] at HC2
    have HC := Lib.hid HC2
    have HCA := Lib.hid hV
    clear HC2 hV
    cases V
    · go_enter Try.func27, Try.ntmps27
      go_wp2_with (first
        | ((with_reducible show wpList _ _ _ (Oper.mk (some 4) _ _ _ _ _ :: _) _ _); rw [← HB.out, ← HMB.out])
        | ((with_reducible show wpList _ _ _ (Oper.mk (some 31) _ _ _ _ _ :: _) _ _); refine wpList_val_g rfl (v := .agg (bys b).toArray) (Og.load_run 25 (.tmp 30) rfl ⟨mb, 4, none⟩ rfl (run_loadVar_at B mb 4 25 (bys b) _ HBY.out Try.underlying25 rfl (by rw [hbl]; kernel_rfl))) ?_)
        | ((with_reducible show wpList _ _ _ (Oper.mk (some 33) _ _ _ _ _ :: _) _ _); refine wpList_val_g rfl (neq_bytes (.tmp 31) (.tmp 32) rfl HOK.out.b rfl rfl B) ?_; rw [HZ.out])
        | (go_at_call 61; (with_reducible refine (cache_any f B).mono ?_); rintro e2 W2 ⟨rfl, hw⟩; subst hw; rw [HCA.out]))
      go_ret
      exact ⟨by rw [HC.out]; rfl, B0.out⟩
    · go_enter Try.func27, Try.ntmps27
      go_wp2_with (first
        | ((with_reducible show wpList _ _ _ (Oper.mk (some 4) _ _ _ _ _ :: _) _ _); rw [← HB.out, ← HMB.out])
        | ((with_reducible show wpList _ _ _ (Oper.mk (some 31) _ _ _ _ _ :: _) _ _); refine wpList_val_g rfl (v := .agg (bys b).toArray) (Og.load_run 25 (.tmp 30) rfl ⟨mb, 4, none⟩ rfl (run_loadVar_at B mb 4 25 (bys b) _ HBY.out Try.underlying25 rfl (by rw [hbl]; kernel_rfl))) ?_)
        | ((with_reducible show wpList _ _ _ (Oper.mk (some 33) _ _ _ _ _ :: _) _ _); refine wpList_val_g rfl (neq_bytes (.tmp 31) (.tmp 32) rfl HOK.out.b rfl rfl B) ?_; rw [HZ.out])
        | (go_at_call 61; (with_reducible refine (cache_any f B).mono ?_); rintro e2 W2 ⟨rfl, hw⟩; subst hw; rw [HCA.out]))
      go_ret
      exact ⟨by rw [HC.out]; rfl, B0.out⟩
set_option maxRecDepth 100000 in
set_option maxHeartbeats 8000000 in
theorem rcheck_3 (f t n : Int) (b : List Int) (hok : Ok ⟨3, f, t, n, b⟩) (w : World) : Calls Try.prog 27 #[.agg (cells ⟨3, f, t, n, b⟩).toArray] w fun r w' => r = .returned (.int .i64 (chk ⟨3, f, t, n, b⟩)) ∧ Below w.heap.size w w' := by
  obtain ⟨mb, hmb⟩ : ∃ mb, mb = w.heap.size := ⟨_, rfl⟩
  obtain ⟨B, hB⟩ : ∃ B, B = w.alloc (.cells (cells ⟨3, f, t, n, b⟩).toArray 57) := ⟨_, rfl⟩
  have HB := Lib.hid hB; have HMB := Lib.hid hmb
  have B0 := Lib.hid (show Below w.heap.size w B by rw [hB]; exact (Below.refl w.heap.size w).alloc (Nat.le_refl _) _)
  have R0 := Lib.hid (show B.heap[mb]? = some (.cells (cells ⟨3, f, t, n, b⟩).toArray 57 (0, 0)) by rw [hB, hmb]; exact heap_alloc_new _ _)
  have HOK := Lib.hid hok
  have HBY := Lib.hid (show ∀ i c, (bys b)[i]? = some c → B.cell? ⟨mb, 4 + i, none⟩ = some c from fun i c hi => cells_at R0.out (i := 4 + i) (by unfold cells; rw [Nat.add_comm]; exact hi))
  have hbl : (bys b).length = 16 := by unfold bys; rw [List.length_map]; exact HOK.out.b
  have c0 : B.cell? ⟨mb, 0, none⟩ = some (.int .i64 3) := cells_at R0.out (cell0 _)
  have c1 : B.cell? ⟨mb, 1, none⟩ = some (.int .i64 f) := cells_at R0.out (cell1 _)
  have c2 : B.cell? ⟨mb, 2, none⟩ = some (.int .i64 t) := cells_at R0.out (cell2 _)
  clear hB hmb hok
  have HC := Lib.hid (show chk ⟨3, f, t, n, b⟩ = if (ca f && t == 4) then 0 else 2 from rfl)
  have HCA := Lib.hid (rfl : (0 : Nat) = 0)
  have HZ := Lib.hid (rfl : (0 : Nat) = 0)
  by_cases h4 : t = 4
  · subst h4
    obtain ⟨V, hV⟩ : ∃ V, ca f = V := ⟨_, rfl⟩
    have HC2 := HC.out
    rw [hV] at HC2
    have HC := Lib.hid HC2
    have HCA := Lib.hid hV
    clear HC2 hV
    cases V
    · go_enter Try.func27, Try.ntmps27
      go_wp2_with (first
        | ((with_reducible show wpList _ _ _ (Oper.mk (some 4) _ _ _ _ _ :: _) _ _); rw [← HB.out, ← HMB.out])
        | ((with_reducible show wpList _ _ _ (Oper.mk (some 31) _ _ _ _ _ :: _) _ _); refine wpList_val_g rfl (v := .agg (bys b).toArray) (Og.load_run 25 (.tmp 30) rfl ⟨mb, 4, none⟩ rfl (run_loadVar_at B mb 4 25 (bys b) _ HBY.out Try.underlying25 rfl (by rw [hbl]; kernel_rfl))) ?_)
        | ((with_reducible show wpList _ _ _ (Oper.mk (some 33) _ _ _ _ _ :: _) _ _); refine wpList_val_g rfl (neq_bytes (.tmp 31) (.tmp 32) rfl HOK.out.b rfl rfl B) ?_; rw [HZ.out])
        | (go_at_call 61; (with_reducible refine (cache_any f B).mono ?_); rintro e2 W2 ⟨rfl, hw⟩; subst hw; rw [HCA.out]))
      go_ret
      exact ⟨by rw [HC.out]; rfl, B0.out⟩
    · go_enter Try.func27, Try.ntmps27
      go_wp2_with (first
        | ((with_reducible show wpList _ _ _ (Oper.mk (some 4) _ _ _ _ _ :: _) _ _); rw [← HB.out, ← HMB.out])
        | ((with_reducible show wpList _ _ _ (Oper.mk (some 31) _ _ _ _ _ :: _) _ _); refine wpList_val_g rfl (v := .agg (bys b).toArray) (Og.load_run 25 (.tmp 30) rfl ⟨mb, 4, none⟩ rfl (run_loadVar_at B mb 4 25 (bys b) _ HBY.out Try.underlying25 rfl (by rw [hbl]; kernel_rfl))) ?_)
        | ((with_reducible show wpList _ _ _ (Oper.mk (some 33) _ _ _ _ _ :: _) _ _); refine wpList_val_g rfl (neq_bytes (.tmp 31) (.tmp 32) rfl HOK.out.b rfl rfl B) ?_; rw [HZ.out])
        | (go_at_call 61; (with_reducible refine (cache_any f B).mono ?_); rintro e2 W2 ⟨rfl, hw⟩; subst hw; rw [HCA.out]))
      go_ret
      exact ⟨by rw [HC.out]; rfl, B0.out⟩
  · obtain ⟨V, hV⟩ : ∃ V, ca f = V := ⟨_, rfl⟩
    have HC2 := HC.out
    rw [hV, show (t == 4) = false from by simpa using h4] at HC2
    have HC := Lib.hid HC2
    have HCA := Lib.hid hV
    clear HC2 hV
    cases V
    · go_enter Try.func27, Try.ntmps27
      go_wp2_with (first
        | ((with_reducible show wpList _ _ _ (Oper.mk (some 4) _ _ _ _ _ :: _) _ _); rw [← HB.out, ← HMB.out])
        | ((with_reducible show wpList _ _ _ (Oper.mk (some 31) _ _ _ _ _ :: _) _ _); refine wpList_val_g rfl (v := .agg (bys b).toArray) (Og.load_run 25 (.tmp 30) rfl ⟨mb, 4, none⟩ rfl (run_loadVar_at B mb 4 25 (bys b) _ HBY.out Try.underlying25 rfl (by rw [hbl]; kernel_rfl))) ?_)
        | ((with_reducible show wpList _ _ _ (Oper.mk (some 33) _ _ _ _ _ :: _) _ _); refine wpList_val_g rfl (neq_bytes (.tmp 31) (.tmp 32) rfl HOK.out.b rfl rfl B) ?_; rw [HZ.out])
        | (go_at_call 61; (with_reducible refine (cache_any f B).mono ?_); rintro e2 W2 ⟨rfl, hw⟩; subst hw; rw [HCA.out]))
      go_ret
      exact ⟨by rw [HC.out]; rfl, B0.out⟩
    · go_enter Try.func27, Try.ntmps27
      go_wp2_with (first
        | ((with_reducible show wpList _ _ _ (Oper.mk (some 4) _ _ _ _ _ :: _) _ _); rw [← HB.out, ← HMB.out])
        | ((with_reducible show wpList _ _ _ (Oper.mk (some 31) _ _ _ _ _ :: _) _ _); refine wpList_val_g rfl (v := .agg (bys b).toArray) (Og.load_run 25 (.tmp 30) rfl ⟨mb, 4, none⟩ rfl (run_loadVar_at B mb 4 25 (bys b) _ HBY.out Try.underlying25 rfl (by rw [hbl]; kernel_rfl))) ?_)
        | ((with_reducible show wpList _ _ _ (Oper.mk (some 33) _ _ _ _ _ :: _) _ _); refine wpList_val_g rfl (neq_bytes (.tmp 31) (.tmp 32) rfl HOK.out.b rfl rfl B) ?_; rw [HZ.out])
        | (go_at_call 61; (with_reducible refine (cache_any f B).mono ?_); rintro e2 W2 ⟨rfl, hw⟩; subst hw; rw [HCA.out]))
      go_ret
      exact ⟨by rw [HC.out]; rfl, B0.out⟩
set_option maxRecDepth 100000 in
set_option maxHeartbeats 8000000 in
theorem rcheck_no (k : Int) (hk : ¬ (1 ≤ k ∧ k ≤ 13)) (f t n : Int) (b : List Int) (hok : Ok ⟨k, f, t, n, b⟩) (w : World) : Calls Try.prog 27 #[.agg (cells ⟨k, f, t, n, b⟩).toArray] w fun r w' => r = .returned (.int .i64 (chk ⟨k, f, t, n, b⟩)) ∧ Below w.heap.size w w' := by
  obtain ⟨mb, hmb⟩ : ∃ mb, mb = w.heap.size := ⟨_, rfl⟩
  obtain ⟨B, hB⟩ : ∃ B, B = w.alloc (.cells (cells ⟨k, f, t, n, b⟩).toArray 57) := ⟨_, rfl⟩
  have HB := Lib.hid hB; have HMB := Lib.hid hmb
  have B0 := Lib.hid (show Below w.heap.size w B by rw [hB]; exact (Below.refl w.heap.size w).alloc (Nat.le_refl _) _)
  have R0 := Lib.hid (show B.heap[mb]? = some (.cells (cells ⟨k, f, t, n, b⟩).toArray 57 (0, 0)) by rw [hB, hmb]; exact heap_alloc_new _ _)
  have HOK := Lib.hid hok
  have HBY := Lib.hid (show ∀ i c, (bys b)[i]? = some c → B.cell? ⟨mb, 4 + i, none⟩ = some c from fun i c hi => cells_at R0.out (i := 4 + i) (by unfold cells; rw [Nat.add_comm]; exact hi))
  have hbl : (bys b).length = 16 := by unfold bys; rw [List.length_map]; exact HOK.out.b
  have c0 : B.cell? ⟨mb, 0, none⟩ = some (.int .i64 k) := cells_at R0.out (cell0 _)
  have c1 : B.cell? ⟨mb, 1, none⟩ = some (.int .i64 f) := cells_at R0.out (cell1 _)
  have c2 : B.cell? ⟨mb, 2, none⟩ = some (.int .i64 t) := cells_at R0.out (cell2 _)
  clear hB hmb hok
  have HC := Lib.hid (show chk ⟨k, f, t, n, b⟩ = 2 from by unfold chk may kd; rw [decide_eq_false hk]; rfl)
  have k1 : ¬ k = 1 := by omega
  have kb1 : (k == 1) = false := by simpa using k1
  have k2 : ¬ k = 2 := by omega
  have kb2 : (k == 2) = false := by simpa using k2
  have k3 : ¬ k = 3 := by omega
  have kb3 : (k == 3) = false := by simpa using k3
  have k4 : ¬ k = 4 := by omega
  have kb4 : (k == 4) = false := by simpa using k4
  have k5 : ¬ k = 5 := by omega
  have kb5 : (k == 5) = false := by simpa using k5
  have k6 : ¬ k = 6 := by omega
  have kb6 : (k == 6) = false := by simpa using k6
  have k7 : ¬ k = 7 := by omega
  have kb7 : (k == 7) = false := by simpa using k7
  have k8 : ¬ k = 8 := by omega
  have kb8 : (k == 8) = false := by simpa using k8
  have k9 : ¬ k = 9 := by omega
  have kb9 : (k == 9) = false := by simpa using k9
  have k10 : ¬ k = 10 := by omega
  have kb10 : (k == 10) = false := by simpa using k10
  have k11 : ¬ k = 11 := by omega
  have kb11 : (k == 11) = false := by simpa using k11
  have k12 : ¬ k = 12 := by omega
  have kb12 : (k == 12) = false := by simpa using k12
  have k13 : ¬ k = 13 := by omega
  have kb13 : (k == 13) = false := by simpa using k13
  clear hk
  have HCA := Lib.hid (rfl : (0 : Nat) = 0)
  obtain ⟨Z, hZ⟩ : ∃ Z, zb b = Z := ⟨_, rfl⟩
  have HC2 := HC.out
  have HZ := Lib.hid hZ
  have HC := Lib.hid HC2
  clear HC2 hZ
  cases Z
  · go_enter Try.func27, Try.ntmps27
    go_wp2_with (first
      | ((with_reducible show wpList _ _ _ (Oper.mk (some 27) _ _ _ _ _ :: _) _ _); simp only [kb3, kb11, kb8, kb9, kb10, Bool.or_false])
      | ((with_reducible show wpList _ _ _ (Oper.mk (some 4) _ _ _ _ _ :: _) _ _); rw [← HB.out, ← HMB.out])
      | ((with_reducible show wpList _ _ _ (Oper.mk (some 31) _ _ _ _ _ :: _) _ _); refine wpList_val_g rfl (v := .agg (bys b).toArray) (Og.load_run 25 (.tmp 30) rfl ⟨mb, 4, none⟩ rfl (run_loadVar_at B mb 4 25 (bys b) _ HBY.out Try.underlying25 rfl (by rw [hbl]; kernel_rfl))) ?_)
      | ((with_reducible show wpList _ _ _ (Oper.mk (some 33) _ _ _ _ _ :: _) _ _); refine wpList_val_g rfl (neq_bytes (.tmp 31) (.tmp 32) rfl HOK.out.b rfl rfl B) ?_; rw [HZ.out])
      | (go_at_call 61; (with_reducible refine (cache_any f B).mono ?_); rintro e2 W2 ⟨rfl, hw⟩; subst hw; rw [HCA.out]))
    go_ret
    exact ⟨by rw [HC.out]; rfl, B0.out⟩
  · go_enter Try.func27, Try.ntmps27
    go_wp2_with (first
      | ((with_reducible show wpList _ _ _ (Oper.mk (some 27) _ _ _ _ _ :: _) _ _); simp only [kb3, kb11, kb8, kb9, kb10, Bool.or_false])
      | ((with_reducible show wpList _ _ _ (Oper.mk (some 4) _ _ _ _ _ :: _) _ _); rw [← HB.out, ← HMB.out])
      | ((with_reducible show wpList _ _ _ (Oper.mk (some 31) _ _ _ _ _ :: _) _ _); refine wpList_val_g rfl (v := .agg (bys b).toArray) (Og.load_run 25 (.tmp 30) rfl ⟨mb, 4, none⟩ rfl (run_loadVar_at B mb 4 25 (bys b) _ HBY.out Try.underlying25 rfl (by rw [hbl]; kernel_rfl))) ?_)
      | ((with_reducible show wpList _ _ _ (Oper.mk (some 33) _ _ _ _ _ :: _) _ _); refine wpList_val_g rfl (neq_bytes (.tmp 31) (.tmp 32) rfl HOK.out.b rfl rfl B) ?_; rw [HZ.out])
      | (go_at_call 61; (with_reducible refine (cache_any f B).mono ?_); rintro e2 W2 ⟨rfl, hw⟩; subst hw; rw [HCA.out]))
    go_ret
    exact ⟨by rw [HC.out]; rfl, B0.out⟩
end Nt
end Go.Proofs.Ytnfpcklpmfemiaa
