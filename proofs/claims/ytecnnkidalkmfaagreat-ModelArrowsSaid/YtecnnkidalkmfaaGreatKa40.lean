import Derived.Test.YtecnnkidalkmfaaGreatKa29
import Derived.Test.YtecnnkidalkmfaaGreatKa38
import Derived.Test.YtecnnkidalkmfaaGreatKa39
import Derived.Test.YtecnnkidalkmfaaGreatKa26
import Derived.Test.YtecnnkidalkmfaaGreatKa10
import Derived.Test.YtecnnkidalkmfaaGreatKa28

section
namespace Go.Proofs.YtecnnkidalkmfaaGreat
open Go.RowKit
set_option linter.unusedVariables false
set_option linter.unusedSimpArgs false
namespace Md
open Ev
/-- ranks that rise along arrows -/
def Rk (ps : List (Int × Int)) : Prop := ∃ rank : Int → Int, ∀ p ∈ ps, rank p.1 < rank p.2
def Tp (n : Nat) (ps : List (Int × Int)) : Prop := ∃ l, Topo ps l ∧ ∀ x, 0 ≤ x → x < (n : Int) → x ∈ l
theorem topo_sorted {ps : List (Int × Int)} {rank : Int → Int} (hr : ∀ p ∈ ps, rank p.1 < rank p.2) : ∀ {l : List Int}, l.Pairwise (fun a b => rank a ≤ rank b) → (∀ p ∈ l, ∀ q, (p, q) ∈ ps → q ∈ l) → Topo ps l
  | [], _, _ => .nil
  | a :: l, hp, hc => by
    have hp := List.pairwise_cons.1 hp
    refine .cons (fun q hq => ?_) (topo_sorted hr hp.2 fun p hpl q hq => ?_)
    · rcases List.mem_cons.1 (hc a List.mem_cons_self q hq) with rfl | h
      · have := hr _ hq; simp only at this; omega
      · exact h
    · rcases List.mem_cons.1 (hc p (List.mem_cons_of_mem _ hpl) q hq) with rfl | h
      · have h1 := hr _ hq; have h2 := hp.1 p hpl; simp only at h1; omega
      · exact h
theorem rk_tp {n : Nat} {ps : List (Int × Int)} (hr : InR n ps) : Rk ps ↔ Tp n ps := by
  constructor
  · rintro ⟨rank, h⟩
    let le : Int → Int → Bool := fun a b => decide (rank a ≤ rank b)
    let l0 := (List.range n).map fun i : Nat => (i : Int)
    have hmem : ∀ x, x ∈ l0.mergeSort le ↔ 0 ≤ x ∧ x < (n : Int) := fun x => by
      rw [(List.mergeSort_perm l0 le).mem_iff]
      simp only [l0, List.mem_map, List.mem_range]
      constructor
      · rintro ⟨i, hi, rfl⟩; omega
      · rintro ⟨h1, h2⟩; exact ⟨x.toNat, by omega, by omega⟩
    refine ⟨l0.mergeSort le, topo_sorted h ?_ (fun p _ q hq => ?_), fun x h1 h2 => (hmem x).2 ⟨h1, h2⟩⟩
    · have := List.pairwise_mergeSort (le := le) (fun a b c h1 h2 => by simp only [le, decide_eq_true_eq] at *; omega) (fun a b => by simp only [le, Bool.or_eq_true, decide_eq_true_eq]; omega) l0
      exact this.imp fun h => of_decide_eq_true h
    · have := hr.2.2 _ hq
      exact (hmem q).2 ⟨this.2.2.1, this.2.2.2⟩
  · rintro ⟨l, ht, hl⟩
    obtain ⟨rank, h⟩ := ht.rank
    refine ⟨fun x => -(rank x : Int), fun p hp => ?_⟩
    have h1 := hr.2.2 p hp
    have := h p.1 (hl _ h1.1 h1.2.1) p.2 hp
    show -(rank p.1 : Int) < -(rank p.2 : Int)
    omega
theorem rk_no_cyc {ps : List (Int × Int)} (h : Rk ps) : ¬ Cyc ps := by
  obtain ⟨rank, h⟩ := h
  exact rank_acyclic rank h
/-- ranks hang on which arrows there are alone -/
theorem rk_sub {ps qs : List (Int × Int)} (h : ∀ p ∈ ps, p ∈ qs) (k : Rk qs) : Rk ps := by
  obtain ⟨rank, hr⟩ := k
  exact ⟨rank, fun p hp => hr p (h p hp)⟩
end Md
end Go.Proofs.YtecnnkidalkmfaaGreat
end

section
namespace Go.Proofs.YtecnnkidalkmfaaGreat
end Go.Proofs.YtecnnkidalkmfaaGreat
end
