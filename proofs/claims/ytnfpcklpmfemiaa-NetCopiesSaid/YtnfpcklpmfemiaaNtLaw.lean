/-
  What the laws on nets share.
-/
import Derived.Test.YtnfpcklpmfemiaaNtPlayed
import Derived.Test.YtnfpcklpmfemiaaNtSame
namespace Go.Proofs.Ytnfpcklpmfemiaa
open Go.RowKit
set_option linter.unusedVariables false
set_option linter.unusedSimpArgs false
namespace Nt
theorem may_nat {a : Int} (h1 : 1 ≤ a) (h2 : a ≤ 1024) : ∃ k : Nat, a = (k : Int) ∧ 1 ≤ k ∧ k ≤ 1024 := ⟨a.toNat, by omega, by omega, by omega⟩
theorem own_other {W W' : World} {F : Nat → Prop} {a c l} (h : Own W F a c l) {g : Nat} {t : TypeId} {z cs : Array Value} (hz : W.heap[g]? = some (.cells z t (0, 0))) (hs : Ev.Set1 W W' g t cs) (ht : t ≠ 57) : Own W' F a c l := by
  rcases h with h1 | ⟨g', cur, e, hf, hg, r⟩
  · exact .inl h1
  · refine .inr ⟨g', cur, e, hf, (hs.block g' (fun e => ?_)).trans hg, r⟩
    rw [e, hz] at hg
    injection hg with hg
    injection hg with _ hg _
    exact ht hg
/-- another block is set -/
theorem Pl.other {w W W' : World} {F : Nat → Prop} {p most wb : Nat} {n : List E} {a : Option Addr} {c : Nat} {l : List E} (h : Pl w W F p most wb n a c l) {g : Nat} {t : TypeId} {z cs : Array Value} (hz : W.heap[g]? = some (.cells z t (0, 0))) (hs : Ev.Set1 W W' g t cs)
    (h1 : w.heap.size ≤ g) (h2 : ¬ F g) (h3 : g ≠ wb) (ht : t ≠ 57) : Pl w W' F p most wb n a c l :=
  ⟨h.net.kept (by rw [hs.size]; exact Nat.le_refl _) (fun k hk => hs.block k (fun e => h2 (by rw [← e]; exact hk))), h.bel.trans (hs.below.mono h1), h.lo, (hs.block _ (Ne.symm h3)).trans h.want, h.wlo, h.wf, own_other h.own hz hs ht, h.ok⟩
/-- messages that are sent, one behind the other -/
def sendsL (most : Nat) (xs : List E) : List E := xs.foldl (sendL most) []
theorem sendsL_succ (most : Nat) {xs : List E} {k : Nat} {x : E} (h : xs[k]? = some x) : sendsL most (xs.take (k + 1)) = sendL most (sendsL most (xs.take k)) x := by
  unfold sendsL
  rw [List.take_add_one, h, List.foldl_append]; rfl
end Nt
end Go.Proofs.Ytnfpcklpmfemiaa
