/-
  EvCM: EvCoP, EvDPl, EvKnownB in one text.
-/
import Derived.Test.YtoicmhidmknfiaaEvRelB

section
namespace Go.Proofs.Ytoicmhidmknfiaa
open Go.RowKit
set_option linter.unusedVariables false
set_option linter.unusedSimpArgs false
namespace Ev
theorem check_order {x : X} (h : check x = 0) : orderOk x.ev x.od = true ∧ fromOk x.ev x.fr.l = true ∧ x.ev.length ≤ 64 := by
  unfold check at h
  split at h
  · cases h
  split at h
  · cases h
  split at h
  · cases h
  split at h
  · cases h
  · rename_i h1 h2 h3 h4
    exact ⟨by simpa using h4, by simpa using h3, by omega⟩
theorem check_lens {x : X} (h : check x = 0) : x.od.length ≤ 64 ∧ ∀ s ∈ x.od, s.l.length ≤ 64 := by
  obtain ⟨h1, _, h3⟩ := check_order h
  unfold orderOk at h1
  simp only [Bool.and_eq_true, beq_iff_eq, List.all_eq_true] at h1
  have hb := beg_le x.ev
  refine ⟨by omega, fun s hs => ?_⟩
  obtain ⟨j, hj⟩ := List.mem_iff_getElem?.1 hs
  have := h1.2 j (List.mem_range.2 (List.getElem?_eq_some_iff.1 hj).1)
  unfold orderAt at this
  rw [hj] at this
  simp only [Bool.and_eq_true, beq_iff_eq] at this
  have hc := cnt_le x.ev (nth x.ev j).a
  omega
theorem from_in {x : X} (h : check x = 0) {a : Nat} (ha : a < x.ev.length) (hl : loads (nth x.ev a).k = true) : ∃ f : Nat, f < x.ev.length ∧ x.fr.l[a]? = some (f : Int) ∧ frAt x a = f := by
  obtain ⟨_, h2, _⟩ := check_order h
  have hfl : x.fr.l.length = x.ev.length := check_from h
  unfold fromOk at h2
  simp only [Bool.and_eq_true, beq_iff_eq, List.all_eq_true] at h2
  have := h2.2 a (List.mem_range.2 ha)
  unfold fromAt at this
  rw [if_pos hl] at this
  unfold readOk inB at this
  simp only [Bool.and_eq_true, decide_eq_true_eq] at this
  have hg := List.getElem?_eq_getElem (show a < x.fr.l.length by omega)
  have e : x.fr.l.getD a 0 = x.fr.l[a] := by simp [List.getD, hg]
  rw [e] at this
  refine ⟨x.fr.l[a].toNat, by omega, ?_, ?_⟩
  · rw [hg]; congr 1; omega
  · unfold frAt; rw [e]; omega
end Ev
end Go.Proofs.Ytoicmhidmknfiaa
end

section
namespace Go.Proofs.Ytoicmhidmknfiaa
open Go.RowKit
set_option linter.unusedVariables false
set_option linter.unusedSimpArgs false
namespace Ev
def rowL (is : Nat → Nat → Bool) (a : Nat) (l : List Nat) : List (Nat × Nat) := (l.filter fun b => is a b).map fun b => (a, b)
def pl (is : Nat → Nat → Bool) (n k : Nat) : List (Nat × Nat) := (List.range k).flatMap fun a => rowL is a (List.range n)
theorem pl_succ (is : Nat → Nat → Bool) (n k : Nat) : pl is n (k + 1) = pl is n k ++ rowL is k (List.range n) := by unfold pl; rw [List.range_succ, List.flatMap_append]; simp
theorem rowL_succ (is : Nat → Nat → Bool) (a q : Nat) : rowL is a (List.range (q + 1)) = rowL is a (List.range q) ++ if is a q then [(a, q)] else [] := by
  unfold rowL
  rw [List.range_succ, List.filter_append, List.map_append]
  congr 1
  cases h : is a q <;> simp [h]
theorem rowL_len (is : Nat → Nat → Bool) (a q : Nat) : (rowL is a (List.range q)).length ≤ q := by
  unfold rowL
  rw [List.length_map]
  have := List.length_filter_le (fun b => is a b) (List.range q)
  rwa [List.length_range] at this
theorem pl_len (is : Nat → Nat → Bool) (n : Nat) : ∀ k, (pl is n k).length ≤ k * n
  | 0 => by simp [pl]
  | k + 1 => by
    rw [pl_succ, List.length_append, Nat.succ_mul]
    have := pl_len is n k
    have := rowL_len is k n
    omega
end Ev
end Go.Proofs.Ytoicmhidmknfiaa
end

section
namespace Go.Proofs.Ytoicmhidmknfiaa
open Go.RowKit
set_option linter.unusedVariables false
set_option linter.unusedSimpArgs false
namespace Ev
theorem flat_rows {n : Nat} : ∀ {xs : List (List Value)}, (∀ v ∈ xs, v.length = n) → ∀ (j : Nat) (v : List Value) (i : Nat) (c : Value), xs[j]? = some v → v[i]? = some c → xs.flatten[j * n + i]? = some c
  | [], _, j, v, i, c, h, _ => by simp at h
  | q :: r, hl, 0, v, i, c, h, hi => by
    cases Option.some.inj h
    have hil := (List.getElem?_eq_some_iff.1 hi).1
    rw [List.flatten_cons, List.getElem?_append_left (by simpa using hil)]
    simpa using hi
  | q :: r, hl, j + 1, v, i, c, h, hi => by
    have h2 := flat_rows (fun v hv => hl v (List.mem_cons_of_mem _ hv)) j v i c (by simpa using h) hi
    have hq := hl q List.mem_cons_self
    rw [List.flatten_cons, List.getElem?_append_right (by rw [hq, Nat.succ_mul]; omega)]
    have e : (j + 1) * n + i - q.length = j * n + i := by rw [hq, Nat.succ_mul]; omega
    rw [e]; exact h2
theorem rows_of_block {w : World} {g n : Nat} {xs : List (List Value)} {t : TypeId} (h : w.heap[g]? = some (.cells xs.flatten.toArray t (0, 0))) (hl : ∀ v ∈ xs, v.length = n) : RowsIn w (some ⟨g, 0, none⟩) n xs := fun _ =>
  ⟨g, 0, rfl, fun j v hv i c hi => by
    rw [cell_of_row w g _ _ t (0, 0) h, Nat.zero_add]
    simpa using flat_rows hl j v i c hv hi⟩
theorem ints_of_block {w : World} {g : Nat} {l : List Int} {t : TypeId} (h : w.heap[g]? = some (.cells (l.map (Value.int .i64)).toArray t (0, 0))) (hb : ∀ v ∈ l, i64B v) (hm : l.length ≤ 9223372036854775807) : IntsIn w ⟨some ⟨g, 0, none⟩, l.length, l⟩ :=
  ⟨fun _ => ⟨g, 0, rfl, fun j v hv => by
    rw [cell_of_row w g _ _ t (0, 0) h, Nat.zero_add]
    simp [hv]⟩, Nat.le_refl _, hm, hb⟩
theorem ints_none (w : World) : IntsIn w ⟨none, 0, []⟩ := ⟨fun h => absurd h (by simp), by simp, by simp, fun v hv => by cases hv⟩
def N0 : Sl := ⟨none, 0, []⟩
def kE0 : R := ⟨-1, 5, 0, 0, 0, false, false, 0, 0, false, N0, N0, N0⟩
def kE1 : R := ⟨0, 2, 0, 1, 0, false, false, 0, 0, false, N0, N0, N0⟩
def kE2 : R := ⟨1, 1, 0, 0, 1, false, false, 0, 0, false, N0, N0, N0⟩
def kX (s : Nat) : X := ⟨some ⟨s, 0, none⟩, 3, [kE0, kE1, kE2], ⟨some ⟨s + 1, 0, none⟩, 3, [-1, -1, 1]⟩, some ⟨s + 1 + 1 + 1, 0, none⟩, 1, [⟨some ⟨s + 1 + 1, 0, none⟩, 2, [0, 1]⟩]⟩
theorem kX_in {W : World} {s : Nat} (h0 : W.heap[s]? = some (.cells ([kE0, kE1, kE2].map cells).flatten.toArray 54 (0, 0))) (h1 : W.heap[s + 1]? = some (.cells #[.int .i64 (-1), .int .i64 (-1), .int .i64 1] 3 (0, 0)))
    (h2 : W.heap[s + 1 + 1]? = some (.cells #[.int .i64 0, .int .i64 1] 3 (0, 0))) (h3 : W.heap[s + 1 + 1 + 1]? = some (.cells #[.slice (some ⟨s + 1 + 1, 0, none⟩) 2 2] 23 (0, 0))) : XIn W (kX s) := by
  refine ⟨⟨rows_of_block (xs := [kE0, kE1, kE2].map cells) h0 ?_, ?_, by show 3 ≤ 3; omega, by show 3 ≤ _; omega⟩, ints_of_block (l := [-1, -1, 1]) h1 ?_ (by simp), ⟨rows_of_block (xs := [[.slice (some ⟨s + 1 + 1, 0, none⟩) 2 2]]) h3 ?_, ?_, by show 1 ≤ 1; omega, by show 1 ≤ _; omega⟩⟩
  · intro v hv
    obtain ⟨e, _, rfl⟩ := List.mem_map.1 hv
    rfl
  · intro x hx
    have hx' : x = kE0 ∨ x = kE1 ∨ x = kE2 := by simpa [kX] using hx
    rcases hx' with rfl | rfl | rfl
    all_goals exact ⟨by unfold i64B; decide, by unfold i64B; decide, by unfold u32B; decide, by unfold u32B; decide, by unfold u32B; decide, by unfold i64B; decide, by unfold i64B; decide, ints_none W, ints_none W, ints_none W⟩
  · intro v hv
    have hv' : v = -1 ∨ v = 1 := by simpa using hv
    rcases hv' with rfl | rfl <;> (unfold i64B; decide)
  · intro v hv
    have : v = [.slice (some ⟨s + 1 + 1, 0, none⟩) 2 2] := by simpa using hv
    subst this; rfl
  · intro x hx
    have : x = ⟨some ⟨s + 1 + 1, 0, none⟩, 2, [0, 1]⟩ := by simpa [kX] using hx
    subst this
    refine ints_of_block (l := [0, 1]) h2 ?_ (by simp)
    intro v hv
    have hv' : v = 0 ∨ v = 1 := by simpa using hv
    rcases hv' with rfl | rfl <;> (unfold i64B; decide)
theorem kX_check (s : Nat) : check (kX s) = 0 := by kernel_rfl
theorem kX_told (s : Nat) : told (bondRf (kX s)) (kX s).ev.length (kX s).ev.length = [(1, 2)] := by kernel_rfl
end Ev
theorem heap_a5 (w : World) (A B C D E : Obj) : ((((((w.alloc A).alloc B).alloc C).alloc D).alloc E).heap[w.heap.size]? = some A ∧ (((((w.alloc A).alloc B).alloc C).alloc D).alloc E).heap[w.heap.size + 1]? = some B ∧
    (((((w.alloc A).alloc B).alloc C).alloc D).alloc E).heap[w.heap.size + 1 + 1]? = some C ∧ (((((w.alloc A).alloc B).alloc C).alloc D).alloc E).heap[w.heap.size + 1 + 1 + 1]? = some D ∧ (((((w.alloc A).alloc B).alloc C).alloc D).alloc E).heap[w.heap.size + 1 + 1 + 1 + 1]? = some E) := by
  have old : ∀ (x : World) (o : Obj) (i : Nat), i < x.heap.size → (x.alloc o).heap[i]? = x.heap[i]? := fun x o i h => Below.heap_alloc x o i h
  have s1 : (w.alloc A).heap.size = w.heap.size + 1 := by simp only [World.size_alloc]
  have s2 : ((w.alloc A).alloc B).heap.size = w.heap.size + 1 + 1 := by simp only [World.size_alloc]
  have s3 : (((w.alloc A).alloc B).alloc C).heap.size = w.heap.size + 1 + 1 + 1 := by simp only [World.size_alloc]
  have s4 : ((((w.alloc A).alloc B).alloc C).alloc D).heap.size = w.heap.size + 1 + 1 + 1 + 1 := by simp only [World.size_alloc]
  refine ⟨?_, ?_, ?_, ?_, ?_⟩
  · rw [old _ _ _ (by omega), old _ _ _ (by omega), old _ _ _ (by omega), old _ _ _ (by omega)]; exact heap_alloc_new _ _
  · rw [old _ _ _ (by omega), old _ _ _ (by omega), old _ _ _ (by omega)]; have := heap_alloc_new (w.alloc A) B; rwa [s1] at this
  · rw [old _ _ _ (by omega), old _ _ _ (by omega)]; have := heap_alloc_new ((w.alloc A).alloc B) C; rwa [s2] at this
  · rw [old _ _ _ (by omega)]; have := heap_alloc_new (((w.alloc A).alloc B).alloc C) D; rwa [s3] at this
  · have := heap_alloc_new ((((w.alloc A).alloc B).alloc C).alloc D) E; rwa [s4] at this
end Go.Proofs.Ytoicmhidmknfiaa
end
