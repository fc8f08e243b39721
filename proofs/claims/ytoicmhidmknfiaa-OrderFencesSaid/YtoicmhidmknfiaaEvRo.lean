/-
  The document's own test of the orders, as plain lists.
-/
import Derived.Test.YtoicmhidmknfiaaEvRn
import Derived.Test.YtoicmhidmknfiaaEvAt
namespace Go.Proofs.Ytoicmhidmknfiaa
open Go.RowKit
set_option linter.unusedVariables false
set_option linter.unusedSimpArgs false
namespace Ev
theorem nodup_of_len {α : Type} [DecidableEq α] : ∀ {b a : List α}, a.Nodup → (∀ x ∈ a, x ∈ b) → b.length ≤ a.length → b.Nodup
  | [], _, _, _, _ => List.nodup_nil
  | y :: s, a, ha, hs, hl => by
    rw [List.nodup_cons]
    constructor
    · intro hy
      have := nodup_le (a := a) (b := s) ha fun x hx => by
        rcases List.mem_cons.1 (hs x hx) with rfl | h
        · exact hy
        · exact h
      simp only [List.length_cons] at hl
      omega
    · refine nodup_of_len (a := a.erase y) (ha.erase y) (fun x hx => ?_) ?_
      · have hm := List.mem_of_mem_erase hx
        rcases List.mem_cons.1 (hs x hm) with rfl | h
        · exact absurd hx (List.Nodup.not_mem_erase ha)
        · exact h
      · have := List.le_length_erase (l := a) (a := y)
        simp only [List.length_cons] at hl
        omega
/-- the numbers of the stores of an address -/
def sts (xs : List R) (y : Int) : List Int := ((List.range xs.length).filter fun i : Nat => isSt y (nth xs (i : Int))).map fun i : Nat => (i : Int)
theorem sts_mem {xs : List R} {y n : Int} : n ∈ sts xs y ↔ ∃ i : Nat, i < xs.length ∧ isSt y (nth xs (i : Int)) = true ∧ n = i := by
  unfold sts
  rw [List.mem_map]
  constructor
  · rintro ⟨i, hi, rfl⟩
    rw [List.mem_filter, List.mem_range] at hi
    exact ⟨i, hi.1, hi.2, rfl⟩
  · rintro ⟨i, hi, hq, rfl⟩
    exact ⟨i, List.mem_filter.2 ⟨List.mem_range.2 hi, hq⟩, rfl⟩
theorem sts_nodup (xs : List R) (y : Int) : (sts xs y).Nodup := by
  unfold sts
  rw [List.Nodup, List.pairwise_map]
  exact (List.nodup_range.filter _).imp fun {a b} h e => h (by have e2 : (a : Int) = (b : Int) := e; omega)
theorem range_map (xs : List R) : (List.range xs.length).map (fun i : Nat => nth xs (i : Int)) = xs := by
  apply List.ext_getElem
  · simp
  · intro i h1 h2
    simp only [List.getElem_map, List.getElem_range]
    exact nth_get h2
theorem sts_len (xs : List R) (y : Int) : (sts xs y).length = cnt xs y := by
  unfold sts cnt
  rw [List.length_map]
  conv => rhs; rw [← range_map xs]
  rw [List.filter_map, List.length_map]
  rfl
/-- the list of an address, in the document's words -/
def rOrd (xs : List R) (A b : Int) (s : List Int) : Prop := (∀ i : Nat, i < xs.length → stores (nth xs i).k = true → (nth xs i).a = A → (i : Int) ∈ s) ∧ s.length = cnt xs A ∧ s.getD 0 0 = b
theorem ord_iff {xs : List R} {od : List Sl} {s : Sl} {b : Nat} (hs : od[b]? = some s) {A : Int} (hA : (nth xs b).a = A) : orderAt xs od b = true ↔ rOrd xs A b s.l := by
  unfold orderAt rOrd
  rw [hs]
  simp only [Bool.and_eq_true, beq_iff_eq]
  rw [hA]
  unfold onceOk
  rw [Bool.and_eq_true, List.all_eq_true, decide_eq_true_eq]
  have hone : ∀ n, s.l.getD 0 0 = (b : Int) → (onceAt xs (s.l.getD 0 0) n = true ↔ n ∈ sts xs A) := fun n h0 => by
    rw [h0, sts_mem]
    unfold onceAt inB isSt
    rw [hA]
    simp only [Bool.and_eq_true, decide_eq_true_eq, beq_iff_eq]
    constructor
    · rintro ⟨⟨⟨h1, h2⟩, h3⟩, h4⟩
      obtain ⟨i, rfl⟩ : ∃ i : Nat, n = i := ⟨n.toNat, by omega⟩
      exact ⟨i, by omega, ⟨h3, h4⟩, rfl⟩
    · rintro ⟨i, hi, ⟨h3, h4⟩, rfl⟩
      exact ⟨⟨⟨by omega, by omega⟩, h3⟩, h4⟩
  constructor
  · rintro ⟨⟨h1, h2⟩, h3, h4⟩
    refine ⟨fun i hi hk ha => ?_, h1, h2⟩
    refine back_of_len (a := s.l) (b := sts xs A) h4 ?_ (fun n hn => (hone n h2).1 (h3 n hn)) _ (sts_mem.2 ⟨i, hi, ?_, rfl⟩)
    · rw [sts_len]; omega
    · unfold isSt; rw [hk, ha]; simp
  · rintro ⟨h1, h2, h3⟩
    have hsub : ∀ n ∈ sts xs A, n ∈ s.l := fun n hn => by
      obtain ⟨i, hi, hq, rfl⟩ := sts_mem.1 hn
      unfold isSt at hq
      simp only [Bool.and_eq_true, beq_iff_eq] at hq
      exact h1 i hi hq.1 hq.2
    have hl : s.l.length ≤ (sts xs A).length := by rw [sts_len]; omega
    exact ⟨⟨h2, h3⟩, fun n hn => (hone n h3).2 (back_of_len (sts_nodup xs A) hl hsub n hn), nodup_of_len (sts_nodup xs A) hsub hl⟩
end Ev
end Go.Proofs.Ytoicmhidmknfiaa
