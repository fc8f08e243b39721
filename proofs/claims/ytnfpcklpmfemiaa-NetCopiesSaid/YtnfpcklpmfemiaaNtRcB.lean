/-
  The document's Check.
-/
import Derived.Test.YtnfpcklpmfemiaaNtBe
namespace Go.Proofs.Ytnfpcklpmfemiaa
open Go.RowKit
set_option linter.unusedVariables false
set_option linter.unusedSimpArgs false
namespace Nt
set_option maxRecDepth 100000 in
set_option maxHeartbeats 8000000 in
theorem rcheck_11 (f t n : Int) (b : List Int) (hok : Ok ⟨11, f, t, n, b⟩) (w : World) : Calls Try.prog 27 #[.agg (cells ⟨11, f, t, n, b⟩).toArray] w fun r w' => r = .returned (.int .i64 (chk ⟨11, f, t, n, b⟩)) ∧ Below w.heap.size w w' := by
  obtain ⟨mb, hmb⟩ : ∃ mb, mb = w.heap.size := ⟨_, rfl⟩
  obtain ⟨B, hB⟩ : ∃ B, B = w.alloc (.cells (cells ⟨11, f, t, n, b⟩).toArray 57) := ⟨_, rfl⟩
  have HB := Lib.hid hB; have HMB := Lib.hid hmb
  have B0 := Lib.hid (show Below w.heap.size w B by rw [hB]; exact (Below.refl w.heap.size w).alloc (Nat.le_refl _) _)
  have R0 := Lib.hid (show B.heap[mb]? = some (.cells (cells ⟨11, f, t, n, b⟩).toArray 57 (0, 0)) by rw [hB, hmb]; exact heap_alloc_new _ _)
  have HOK := Lib.hid hok
  have HBY := Lib.hid (show ∀ i c, (bys b)[i]? = some c → B.cell? ⟨mb, 4 + i, none⟩ = some c from fun i c hi => cells_at R0.out (i := 4 + i) (by unfold cells; rw [Nat.add_comm]; exact hi))
  have hbl : (bys b).length = 16 := by unfold bys; rw [List.length_map]; exact HOK.out.b
  have c0 : B.cell? ⟨mb, 0, none⟩ = some (.int .i64 11) := cells_at R0.out (cell0 _)
  have c1 : B.cell? ⟨mb, 1, none⟩ = some (.int .i64 f) := cells_at R0.out (cell1 _)
  have c2 : B.cell? ⟨mb, 2, none⟩ = some (.int .i64 t) := cells_at R0.out (cell2 _)
  clear hB hmb hok
  have HC := Lib.hid (show chk ⟨11, f, t, n, b⟩ = if (ca f && t == 4) then 0 else 2 from rfl)
  have HCA := Lib.hid (rfl : (0 : Nat) = 0)
  have HZ := Lib.hid (rfl : (0 : Nat) = 0)
  by_cases h4 : t = 4
  · subst h4
    obtain ⟨V, hV⟩ : ∃ V, ca f = V := ⟨_, rfl⟩
    have HC2 := HC.out
    rw [hV] at HC2
    have HC := Lib.hid HC2
    have HCA := Lib.hid hV
    clear HC2 hV
    cases V
    · go_enter Try.func27, Try.ntmps27
      go_wp2_with (first
        | ((with_reducible show wpList _ _ _ (Oper.mk (some 4) _ _ _ _ _ :: _) _ _); rw [← HB.out, ← HMB.out])
        | ((with_reducible show wpList _ _ _ (Oper.mk (some 31) _ _ _ _ _ :: _) _ _); refine wpList_val_g rfl (v := .agg (bys b).toArray) (Og.load_run 25 (.tmp 30) rfl ⟨mb, 4, none⟩ rfl (run_loadVar_at B mb 4 25 (bys b) _ HBY.out Try.underlying25 rfl (by rw [hbl]; kernel_rfl))) ?_)
        | ((with_reducible show wpList _ _ _ (Oper.mk (some 33) _ _ _ _ _ :: _) _ _); refine wpList_val_g rfl (neq_bytes (.tmp 31) (.tmp 32) rfl HOK.out.b rfl rfl B) ?_; rw [HZ.out])
        | (go_at_call 61; (with_reducible refine (cache_any f B).mono ?_); rintro e2 W2 ⟨rfl, hw⟩; subst hw; rw [HCA.out]))
      go_ret
      exact ⟨by rw [HC.out]; rfl, B0.out⟩
    · go_enter Try.func27, Try.ntmps27
      go_wp2_with (first
        | ((with_reducible show wpList _ _ _ (Oper.mk (some 4) _ _ _ _ _ :: _) _ _); rw [← HB.out, ← HMB.out])
        | ((with_reducible show wpList _ _ _ (Oper.mk (some 31) _ _ _ _ _ :: _) _ _); refine wpList_val_g rfl (v := .agg (bys b).toArray) (Og.load_run 25 (.tmp 30) rfl ⟨mb, 4, none⟩ rfl (run_loadVar_at B mb 4 25 (bys b) _ HBY.out Try.underlying25 rfl (by rw [hbl]; kernel_rfl))) ?_)
        | ((with_reducible show wpList _ _ _ (Oper.mk (some 33) _ _ _ _ _ :: _) _ _); refine wpList_val_g rfl (neq_bytes (.tmp 31) (.tmp 32) rfl HOK.out.b rfl rfl B) ?_; rw [HZ.out])
        | (go_at_call 61; (with_reducible refine (cache_any f B).mono ?_); rintro e2 W2 ⟨rfl, hw⟩; subst hw; rw [HCA.out]))
      go_ret
      exact ⟨by rw [HC.out]; rfl, B0.out⟩
  · obtain ⟨V, hV⟩ : ∃ V, ca f = V := ⟨_, rfl⟩
    have HC2 := HC.out
    rw [hV, show (t == 4) = false from by simpa using h4] at HC2
    have HC := Lib.hid HC2
    have HCA := Lib.hid hV
    clear HC2 hV
    cases V
    · go_enter Try.func27, Try.ntmps27
      go_wp2_with (first
        | ((with_reducible show wpList _ _ _ (Oper.mk (some 4) _ _ _ _ _ :: _) _ _); rw [← HB.out, ← HMB.out])
        | ((with_reducible show wpList _ _ _ (Oper.mk (some 31) _ _ _ _ _ :: _) _ _); refine wpList_val_g rfl (v := .agg (bys b).toArray) (Og.load_run 25 (.tmp 30) rfl ⟨mb, 4, none⟩ rfl (run_loadVar_at B mb 4 25 (bys b) _ HBY.out Try.underlying25 rfl (by rw [hbl]; kernel_rfl))) ?_)
        | ((with_reducible show wpList _ _ _ (Oper.mk (some 33) _ _ _ _ _ :: _) _ _); refine wpList_val_g rfl (neq_bytes (.tmp 31) (.tmp 32) rfl HOK.out.b rfl rfl B) ?_; rw [HZ.out])
        | (go_at_call 61; (with_reducible refine (cache_any f B).mono ?_); rintro e2 W2 ⟨rfl, hw⟩; subst hw; rw [HCA.out]))
      go_ret
      exact ⟨by rw [HC.out]; rfl, B0.out⟩
    · go_enter Try.func27, Try.ntmps27
      go_wp2_with (first
        | ((with_reducible show wpList _ _ _ (Oper.mk (some 4) _ _ _ _ _ :: _) _ _); rw [← HB.out, ← HMB.out])
        | ((with_reducible show wpList _ _ _ (Oper.mk (some 31) _ _ _ _ _ :: _) _ _); refine wpList_val_g rfl (v := .agg (bys b).toArray) (Og.load_run 25 (.tmp 30) rfl ⟨mb, 4, none⟩ rfl (run_loadVar_at B mb 4 25 (bys b) _ HBY.out Try.underlying25 rfl (by rw [hbl]; kernel_rfl))) ?_)
        | ((with_reducible show wpList _ _ _ (Oper.mk (some 33) _ _ _ _ _ :: _) _ _); refine wpList_val_g rfl (neq_bytes (.tmp 31) (.tmp 32) rfl HOK.out.b rfl rfl B) ?_; rw [HZ.out])
        | (go_at_call 61; (with_reducible refine (cache_any f B).mono ?_); rintro e2 W2 ⟨rfl, hw⟩; subst hw; rw [HCA.out]))
      go_ret
      exact ⟨by rw [HC.out]; rfl, B0.out⟩
set_option maxRecDepth 100000 in
set_option maxHeartbeats 8000000 in
theorem rcheck_12 (f t n : Int) (b : List Int) (hok : Ok ⟨12, f, t, n, b⟩) (w : World) : Calls Try.prog 27 #[.agg (cells ⟨12, f, t, n, b⟩).toArray] w fun r w' => r = .returned (.int .i64 (chk ⟨12, f, t, n, b⟩)) ∧ Below w.heap.size w w' := by
  obtain ⟨mb, hmb⟩ : ∃ mb, mb = w.heap.size := ⟨_, rfl⟩
  obtain ⟨B, hB⟩ : ∃ B, B = w.alloc (.cells (cells ⟨12, f, t, n, b⟩).toArray 57) := ⟨_, rfl⟩
  have HB := Lib.hid hB; have HMB := Lib.hid hmb
  have B0 := Lib.hid (show Below w.heap.size w B by rw [hB]; exact (Below.refl w.heap.size w).alloc (Nat.le_refl _) _)
  have R0 := Lib.hid (show B.heap[mb]? = some (.cells (cells ⟨12, f, t, n, b⟩).toArray 57 (0, 0)) by rw [hB, hmb]; exact heap_alloc_new _ _)
  have HOK := Lib.hid hok
  have HBY := Lib.hid (show ∀ i c, (bys b)[i]? = some c → B.cell? ⟨mb, 4 + i, none⟩ = some c from fun i c hi => cells_at R0.out (i := 4 + i) (by unfold cells; rw [Nat.add_comm]; exact hi))
  have hbl : (bys b).length = 16 := by unfold bys; rw [List.length_map]; exact HOK.out.b
  have c0 : B.cell? ⟨mb, 0, none⟩ = some (.int .i64 12) := cells_at R0.out (cell0 _)
  have c1 : B.cell? ⟨mb, 1, none⟩ = some (.int .i64 f) := cells_at R0.out (cell1 _)
  have c2 : B.cell? ⟨mb, 2, none⟩ = some (.int .i64 t) := cells_at R0.out (cell2 _)
  clear hB hmb hok
  have HC := Lib.hid (show chk ⟨12, f, t, n, b⟩ = if (zb b && (ca f && t == 4)) then 0 else 2 from rfl)
  have HCA := Lib.hid (rfl : (0 : Nat) = 0)
  obtain ⟨Z, hZ⟩ : ∃ Z, zb b = Z := ⟨_, rfl⟩
  have HC2 := HC.out
  rw [hZ] at HC2
  have HZ := Lib.hid hZ
  have HC := Lib.hid HC2
  clear HC2 hZ
  cases Z
  · go_enter Try.func27, Try.ntmps27
    go_wp2_with (first
      | ((with_reducible show wpList _ _ _ (Oper.mk (some 4) _ _ _ _ _ :: _) _ _); rw [← HB.out, ← HMB.out])
      | ((with_reducible show wpList _ _ _ (Oper.mk (some 31) _ _ _ _ _ :: _) _ _); refine wpList_val_g rfl (v := .agg (bys b).toArray) (Og.load_run 25 (.tmp 30) rfl ⟨mb, 4, none⟩ rfl (run_loadVar_at B mb 4 25 (bys b) _ HBY.out Try.underlying25 rfl (by rw [hbl]; kernel_rfl))) ?_)
      | ((with_reducible show wpList _ _ _ (Oper.mk (some 33) _ _ _ _ _ :: _) _ _); refine wpList_val_g rfl (neq_bytes (.tmp 31) (.tmp 32) rfl HOK.out.b rfl rfl B) ?_; rw [HZ.out])
      | (go_at_call 61; (with_reducible refine (cache_any f B).mono ?_); rintro e2 W2 ⟨rfl, hw⟩; subst hw; rw [HCA.out]))
    go_ret
    exact ⟨by rw [HC.out]; rfl, B0.out⟩
  have HC2 := HC.out
  rw [Bool.true_and] at HC2
  have HC := Lib.hid HC2
  clear HC2
  by_cases h4 : t = 4
  · subst h4
    obtain ⟨V, hV⟩ : ∃ V, ca f = V := ⟨_, rfl⟩
    have HC2 := HC.out
    rw [hV] at HC2
    have HC := Lib.hid HC2
    have HCA := Lib.hid hV
    clear HC2 hV
    cases V
    · go_enter Try.func27, Try.ntmps27
      go_wp2_with (first
        | ((with_reducible show wpList _ _ _ (Oper.mk (some 4) _ _ _ _ _ :: _) _ _); rw [← HB.out, ← HMB.out])
        | ((with_reducible show wpList _ _ _ (Oper.mk (some 31) _ _ _ _ _ :: _) _ _); refine wpList_val_g rfl (v := .agg (bys b).toArray) (Og.load_run 25 (.tmp 30) rfl ⟨mb, 4, none⟩ rfl (run_loadVar_at B mb 4 25 (bys b) _ HBY.out Try.underlying25 rfl (by rw [hbl]; kernel_rfl))) ?_)
        | ((with_reducible show wpList _ _ _ (Oper.mk (some 33) _ _ _ _ _ :: _) _ _); refine wpList_val_g rfl (neq_bytes (.tmp 31) (.tmp 32) rfl HOK.out.b rfl rfl B) ?_; rw [HZ.out])
        | (go_at_call 61; (with_reducible refine (cache_any f B).mono ?_); rintro e2 W2 ⟨rfl, hw⟩; subst hw; rw [HCA.out]))
      go_ret
      exact ⟨by rw [HC.out]; rfl, B0.out⟩
    · go_enter Try.func27, Try.ntmps27
      go_wp2_with (first
        | ((with_reducible show wpList _ _ _ (Oper.mk (some 4) _ _ _ _ _ :: _) _ _); rw [← HB.out, ← HMB.out])
        | ((with_reducible show wpList _ _ _ (Oper.mk (some 31) _ _ _ _ _ :: _) _ _); refine wpList_val_g rfl (v := .agg (bys b).toArray) (Og.load_run 25 (.tmp 30) rfl ⟨mb, 4, none⟩ rfl (run_loadVar_at B mb 4 25 (bys b) _ HBY.out Try.underlying25 rfl (by rw [hbl]; kernel_rfl))) ?_)
        | ((with_reducible show wpList _ _ _ (Oper.mk (some 33) _ _ _ _ _ :: _) _ _); refine wpList_val_g rfl (neq_bytes (.tmp 31) (.tmp 32) rfl HOK.out.b rfl rfl B) ?_; rw [HZ.out])
        | (go_at_call 61; (with_reducible refine (cache_any f B).mono ?_); rintro e2 W2 ⟨rfl, hw⟩; subst hw; rw [HCA.out]))
      go_ret
      exact ⟨by rw [HC.out]; rfl, B0.out⟩
  · obtain ⟨V, hV⟩ : ∃ V, ca f = V := ⟨_, rfl⟩
    have HC2 := HC.out
    rw [hV, show (t == 4) = false from by simpa using h4] at HC2
    have HC := Lib.hid HC2
    have HCA := Lib.hid hV
    clear HC2 hV
    cases V
    · go_enter Try.func27, Try.ntmps27
      go_wp2_with (first
        | ((with_reducible show wpList _ _ _ (Oper.mk (some 4) _ _ _ _ _ :: _) _ _); rw [← HB.out, ← HMB.out])
        | ((with_reducible show wpList _ _ _ (Oper.mk (some 31) _ _ _ _ _ :: _) _ _); refine wpList_val_g rfl (v := .agg (bys b).toArray) (Og.load_run 25 (.tmp 30) rfl ⟨mb, 4, none⟩ rfl (run_loadVar_at B mb 4 25 (bys b) _ HBY.out Try.underlying25 rfl (by rw [hbl]; kernel_rfl))) ?_)
        | ((with_reducible show wpList _ _ _ (Oper.mk (some 33) _ _ _ _ _ :: _) _ _); refine wpList_val_g rfl (neq_bytes (.tmp 31) (.tmp 32) rfl HOK.out.b rfl rfl B) ?_; rw [HZ.out])
        | (go_at_call 61; (with_reducible refine (cache_any f B).mono ?_); rintro e2 W2 ⟨rfl, hw⟩; subst hw; rw [HCA.out]))
      go_ret
      exact ⟨by rw [HC.out]; rfl, B0.out⟩
    · go_enter Try.func27, Try.ntmps27
      go_wp2_with (first
        | ((with_reducible show wpList _ _ _ (Oper.mk (some 4) _ _ _ _ _ :: _) _ _); rw [← HB.out, ← HMB.out])
        | ((with_reducible show wpList _ _ _ (Oper.mk (some 31) _ _ _ _ _ :: _) _ _); refine wpList_val_g rfl (v := .agg (bys b).toArray) (Og.load_run 25 (.tmp 30) rfl ⟨mb, 4, none⟩ rfl (run_loadVar_at B mb 4 25 (bys b) _ HBY.out Try.underlying25 rfl (by rw [hbl]; kernel_rfl))) ?_)
        | ((with_reducible show wpList _ _ _ (Oper.mk (some 33) _ _ _ _ _ :: _) _ _); refine wpList_val_g rfl (neq_bytes (.tmp 31) (.tmp 32) rfl HOK.out.b rfl rfl B) ?_; rw [HZ.out])
        | (go_at_call 61; (with_reducible refine (cache_any f B).mono ?_); rintro e2 W2 ⟨rfl, hw⟩; subst hw; rw [HCA.out]))
      go_ret
      exact ⟨by rw [HC.out]; rfl, B0.out⟩
set_option maxRecDepth 100000 in
set_option maxHeartbeats 8000000 in
theorem rcheck_13 (f t n : Int) (b : List Int) (hok : Ok ⟨13, f, t, n, b⟩) (w : World) : Calls Try.prog 27 #[.agg (cells ⟨13, f, t, n, b⟩).toArray] w fun r w' => r = .returned (.int .i64 (chk ⟨13, f, t, n, b⟩)) ∧ Below w.heap.size w w' := by
  obtain ⟨mb, hmb⟩ : ∃ mb, mb = w.heap.size := ⟨_, rfl⟩
  obtain ⟨B, hB⟩ : ∃ B, B = w.alloc (.cells (cells ⟨13, f, t, n, b⟩).toArray 57) := ⟨_, rfl⟩
  have HB := Lib.hid hB; have HMB := Lib.hid hmb
  have B0 := Lib.hid (show Below w.heap.size w B by rw [hB]; exact (Below.refl w.heap.size w).alloc (Nat.le_refl _) _)
  have R0 := Lib.hid (show B.heap[mb]? = some (.cells (cells ⟨13, f, t, n, b⟩).toArray 57 (0, 0)) by rw [hB, hmb]; exact heap_alloc_new _ _)
  have HOK := Lib.hid hok
  have HBY := Lib.hid (show ∀ i c, (bys b)[i]? = some c → B.cell? ⟨mb, 4 + i, none⟩ = some c from fun i c hi => cells_at R0.out (i := 4 + i) (by unfold cells; rw [Nat.add_comm]; exact hi))
  have hbl : (bys b).length = 16 := by unfold bys; rw [List.length_map]; exact HOK.out.b
  have c0 : B.cell? ⟨mb, 0, none⟩ = some (.int .i64 13) := cells_at R0.out (cell0 _)
  have c1 : B.cell? ⟨mb, 1, none⟩ = some (.int .i64 f) := cells_at R0.out (cell1 _)
  have c2 : B.cell? ⟨mb, 2, none⟩ = some (.int .i64 t) := cells_at R0.out (cell2 _)
  clear hB hmb hok
  have HC := Lib.hid (show chk ⟨13, f, t, n, b⟩ = if (zb b && (ca f && t == 4)) then 0 else 2 from rfl)
  have HCA := Lib.hid (rfl : (0 : Nat) = 0)
  obtain ⟨Z, hZ⟩ : ∃ Z, zb b = Z := ⟨_, rfl⟩
  have HC2 := HC.out
  rw [hZ] at HC2
  have HZ := Lib.hid hZ
  have HC := Lib.hid HC2
  clear HC2 hZ
  cases Z
  · go_enter Try.func27, Try.ntmps27
    go_wp2_with (first
      | ((with_reducible show wpList _ _ _ (Oper.mk (some 4) _ _ _ _ _ :: _) _ _); rw [← HB.out, ← HMB.out])
      | ((with_reducible show wpList _ _ _ (Oper.mk (some 31) _ _ _ _ _ :: _) _ _); refine wpList_val_g rfl (v := .agg (bys b).toArray) (Og.load_run 25 (.tmp 30) rfl ⟨mb, 4, none⟩ rfl (run_loadVar_at B mb 4 25 (bys b) _ HBY.out Try.underlying25 rfl (by rw [hbl]; kernel_rfl))) ?_)
      | ((with_reducible show wpList _ _ _ (Oper.mk (some 33) _ _ _ _ _ :: _) _ _); refine wpList_val_g rfl (neq_bytes (.tmp 31) (.tmp 32) rfl HOK.out.b rfl rfl B) ?_; rw [HZ.out])
      | (go_at_call 61; (with_reducible refine (cache_any f B).mono ?_); rintro e2 W2 ⟨rfl, hw⟩; subst hw; rw [HCA.out]))
    go_ret
    exact ⟨by rw [HC.out]; rfl, B0.out⟩
  have HC2 := HC.out
  rw [Bool.true_and] at HC2
  have HC := Lib.hid HC2
  clear HC2
  by_cases h4 : t = 4
  · subst h4
    obtain ⟨V, hV⟩ : ∃ V, ca f = V := ⟨_, rfl⟩
    have HC2 := HC.out
    rw [hV] at HC2
    have HC := Lib.hid HC2
    have HCA := Lib.hid hV
    clear HC2 hV
    cases V
    · go_enter Try.func27, Try.ntmps27
      go_wp2_with (first
        | ((with_reducible show wpList _ _ _ (Oper.mk (some 4) _ _ _ _ _ :: _) _ _); rw [← HB.out, ← HMB.out])
        | ((with_reducible show wpList _ _ _ (Oper.mk (some 31) _ _ _ _ _ :: _) _ _); refine wpList_val_g rfl (v := .agg (bys b).toArray) (Og.load_run 25 (.tmp 30) rfl ⟨mb, 4, none⟩ rfl (run_loadVar_at B mb 4 25 (bys b) _ HBY.out Try.underlying25 rfl (by rw [hbl]; kernel_rfl))) ?_)
        | ((with_reducible show wpList _ _ _ (Oper.mk (some 33) _ _ _ _ _ :: _) _ _); refine wpList_val_g rfl (neq_bytes (.tmp 31) (.tmp 32) rfl HOK.out.b rfl rfl B) ?_; rw [HZ.out])
        | (go_at_call 61; (with_reducible refine (cache_any f B).mono ?_); rintro e2 W2 ⟨rfl, hw⟩; subst hw; rw [HCA.out]))
      go_ret
      exact ⟨by rw [HC.out]; rfl, B0.out⟩
    · go_enter Try.func27, Try.ntmps27
      go_wp2_with (first
        | ((with_reducible show wpList _ _ _ (Oper.mk (some 4) _ _ _ _ _ :: _) _ _); rw [← HB.out, ← HMB.out])
        | ((with_reducible show wpList _ _ _ (Oper.mk (some 31) _ _ _ _ _ :: _) _ _); refine wpList_val_g rfl (v := .agg (bys b).toArray) (Og.load_run 25 (.tmp 30) rfl ⟨mb, 4, none⟩ rfl (run_loadVar_at B mb 4 25 (bys b) _ HBY.out Try.underlying25 rfl (by rw [hbl]; kernel_rfl))) ?_)
        | ((with_reducible show wpList _ _ _ (Oper.mk (some 33) _ _ _ _ _ :: _) _ _); refine wpList_val_g rfl (neq_bytes (.tmp 31) (.tmp 32) rfl HOK.out.b rfl rfl B) ?_; rw [HZ.out])
        | (go_at_call 61; (with_reducible refine (cache_any f B).mono ?_); rintro e2 W2 ⟨rfl, hw⟩; subst hw; rw [HCA.out]))
      go_ret
      exact ⟨by rw [HC.out]; rfl, B0.out⟩
  · obtain ⟨V, hV⟩ : ∃ V, ca f = V := ⟨_, rfl⟩
    have HC2 := HC.out
    rw [hV, show (t == 4) = false from by simpa using h4] at HC2
    have HC := Lib.hid HC2
    have HCA := Lib.hid hV
    clear HC2 hV
    cases V
    · go_enter Try.func27, Try.ntmps27
      go_wp2_with (first
        | ((with_reducible show wpList _ _ _ (Oper.mk (some 4) _ _ _ _ _ :: _) _ _); rw [← HB.out, ← HMB.out])
        | ((with_reducible show wpList _ _ _ (Oper.mk (some 31) _ _ _ _ _ :: _) _ _); refine wpList_val_g rfl (v := .agg (bys b).toArray) (Og.load_run 25 (.tmp 30) rfl ⟨mb, 4, none⟩ rfl (run_loadVar_at B mb 4 25 (bys b) _ HBY.out Try.underlying25 rfl (by rw [hbl]; kernel_rfl))) ?_)
        | ((with_reducible show wpList _ _ _ (Oper.mk (some 33) _ _ _ _ _ :: _) _ _); refine wpList_val_g rfl (neq_bytes (.tmp 31) (.tmp 32) rfl HOK.out.b rfl rfl B) ?_; rw [HZ.out])
        | (go_at_call 61; (with_reducible refine (cache_any f B).mono ?_); rintro e2 W2 ⟨rfl, hw⟩; subst hw; rw [HCA.out]))
      go_ret
      exact ⟨by rw [HC.out]; rfl, B0.out⟩
    · go_enter Try.func27, Try.ntmps27
      go_wp2_with (first
        | ((with_reducible show wpList _ _ _ (Oper.mk (some 4) _ _ _ _ _ :: _) _ _); rw [← HB.out, ← HMB.out])
        | ((with_reducible show wpList _ _ _ (Oper.mk (some 31) _ _ _ _ _ :: _) _ _); refine wpList_val_g rfl (v := .agg (bys b).toArray) (Og.load_run 25 (.tmp 30) rfl ⟨mb, 4, none⟩ rfl (run_loadVar_at B mb 4 25 (bys b) _ HBY.out Try.underlying25 rfl (by rw [hbl]; kernel_rfl))) ?_)
        | ((with_reducible show wpList _ _ _ (Oper.mk (some 33) _ _ _ _ _ :: _) _ _); refine wpList_val_g rfl (neq_bytes (.tmp 31) (.tmp 32) rfl HOK.out.b rfl rfl B) ?_; rw [HZ.out])
        | (go_at_call 61; (with_reducible refine (cache_any f B).mono ?_); rintro e2 W2 ⟨rfl, hw⟩; subst hw; rw [HCA.out]))
      go_ret
      exact ⟨by rw [HC.out]; rfl, B0.out⟩
set_option maxRecDepth 100000 in
set_option maxHeartbeats 8000000 in
theorem rcheck_8 (f t n : Int) (b : List Int) (hok : Ok ⟨8, f, t, n, b⟩) (w : World) : Calls Try.prog 27 #[.agg (cells ⟨8, f, t, n, b⟩).toArray] w fun r w' => r = .returned (.int .i64 (chk ⟨8, f, t, n, b⟩)) ∧ Below w.heap.size w w' := by
  obtain ⟨mb, hmb⟩ : ∃ mb, mb = w.heap.size := ⟨_, rfl⟩
  obtain ⟨B, hB⟩ : ∃ B, B = w.alloc (.cells (cells ⟨8, f, t, n, b⟩).toArray 57) := ⟨_, rfl⟩
  have HB := Lib.hid hB; have HMB := Lib.hid hmb
  have B0 := Lib.hid (show Below w.heap.size w B by rw [hB]; exact (Below.refl w.heap.size w).alloc (Nat.le_refl _) _)
  have R0 := Lib.hid (show B.heap[mb]? = some (.cells (cells ⟨8, f, t, n, b⟩).toArray 57 (0, 0)) by rw [hB, hmb]; exact heap_alloc_new _ _)
  have HOK := Lib.hid hok
  have HBY := Lib.hid (show ∀ i c, (bys b)[i]? = some c → B.cell? ⟨mb, 4 + i, none⟩ = some c from fun i c hi => cells_at R0.out (i := 4 + i) (by unfold cells; rw [Nat.add_comm]; exact hi))
  have hbl : (bys b).length = 16 := by unfold bys; rw [List.length_map]; exact HOK.out.b
  have c0 : B.cell? ⟨mb, 0, none⟩ = some (.int .i64 8) := cells_at R0.out (cell0 _)
  have c1 : B.cell? ⟨mb, 1, none⟩ = some (.int .i64 f) := cells_at R0.out (cell1 _)
  have c2 : B.cell? ⟨mb, 2, none⟩ = some (.int .i64 t) := cells_at R0.out (cell2 _)
  clear hB hmb hok
  have HC := Lib.hid (show chk ⟨8, f, t, n, b⟩ = if (f == 4 && ca t) then 0 else 2 from rfl)
  have HCA := Lib.hid (rfl : (0 : Nat) = 0)
  have HZ := Lib.hid (rfl : (0 : Nat) = 0)
  by_cases h4 : f = 4
  · subst h4
    obtain ⟨V, hV⟩ : ∃ V, ca t = V := ⟨_, rfl⟩
    have HC2 := HC.out
    rw [hV] at HC2
    have HC := Lib.hid HC2
    have HCA := Lib.hid hV
    clear HC2 hV
    cases V
    · go_enter Try.func27, Try.ntmps27
      go_wp2_with (first
        | ((with_reducible show wpList _ _ _ (Oper.mk (some 4) _ _ _ _ _ :: _) _ _); rw [← HB.out, ← HMB.out])
        | ((with_reducible show wpList _ _ _ (Oper.mk (some 31) _ _ _ _ _ :: _) _ _); refine wpList_val_g rfl (v := .agg (bys b).toArray) (Og.load_run 25 (.tmp 30) rfl ⟨mb, 4, none⟩ rfl (run_loadVar_at B mb 4 25 (bys b) _ HBY.out Try.underlying25 rfl (by rw [hbl]; kernel_rfl))) ?_)
        | ((with_reducible show wpList _ _ _ (Oper.mk (some 33) _ _ _ _ _ :: _) _ _); refine wpList_val_g rfl (neq_bytes (.tmp 31) (.tmp 32) rfl HOK.out.b rfl rfl B) ?_; rw [HZ.out])
        | (go_at_call 61; (with_reducible refine (cache_any t B).mono ?_); rintro e2 W2 ⟨rfl, hw⟩; subst hw; rw [HCA.out]))
      go_ret
      exact ⟨by rw [HC.out]; rfl, B0.out⟩
    · go_enter Try.func27, Try.ntmps27
      go_wp2_with (first
        | ((with_reducible show wpList _ _ _ (Oper.mk (some 4) _ _ _ _ _ :: _) _ _); rw [← HB.out, ← HMB.out])
        | ((with_reducible show wpList _ _ _ (Oper.mk (some 31) _ _ _ _ _ :: _) _ _); refine wpList_val_g rfl (v := .agg (bys b).toArray) (Og.load_run 25 (.tmp 30) rfl ⟨mb, 4, none⟩ rfl (run_loadVar_at B mb 4 25 (bys b) _ HBY.out Try.underlying25 rfl (by rw [hbl]; kernel_rfl))) ?_)
        | ((with_reducible show wpList _ _ _ (Oper.mk (some 33) _ _ _ _ _ :: _) _ _); refine wpList_val_g rfl (neq_bytes (.tmp 31) (.tmp 32) rfl HOK.out.b rfl rfl B) ?_; rw [HZ.out])
        | (go_at_call 61; (with_reducible refine (cache_any t B).mono ?_); rintro e2 W2 ⟨rfl, hw⟩; subst hw; rw [HCA.out]))
      go_ret
      exact ⟨by rw [HC.out]; rfl, B0.out⟩
  · have HC2 := HC.out
    rw [show (f == 4) = false from by simpa using h4] at HC2
    have HC := Lib.hid HC2
    clear HC2
    go_enter Try.func27, Try.ntmps27
    go_wp2_with (first
      | ((with_reducible show wpList _ _ _ (Oper.mk (some 4) _ _ _ _ _ :: _) _ _); rw [← HB.out, ← HMB.out])
      | ((with_reducible show wpList _ _ _ (Oper.mk (some 31) _ _ _ _ _ :: _) _ _); refine wpList_val_g rfl (v := .agg (bys b).toArray) (Og.load_run 25 (.tmp 30) rfl ⟨mb, 4, none⟩ rfl (run_loadVar_at B mb 4 25 (bys b) _ HBY.out Try.underlying25 rfl (by rw [hbl]; kernel_rfl))) ?_)
      | ((with_reducible show wpList _ _ _ (Oper.mk (some 33) _ _ _ _ _ :: _) _ _); refine wpList_val_g rfl (neq_bytes (.tmp 31) (.tmp 32) rfl HOK.out.b rfl rfl B) ?_; rw [HZ.out])
      | (go_at_call 61; (with_reducible refine (cache_any t B).mono ?_); rintro e2 W2 ⟨rfl, hw⟩; subst hw; rw [HCA.out]))
    go_ret
    exact ⟨by rw [HC.out]; rfl, B0.out⟩
end Nt
end Go.Proofs.Ytnfpcklpmfemiaa
