/-
  What the laws on calls share.
-/
import Derived.Test.YtifniogldinbdaaLnPlayed
namespace Go.Proofs.Ytifniogldinbdaa
open Go.RowKit
set_option linter.unusedVariables false
set_option linter.unusedSimpArgs false
namespace Ln
theorem Pl.of_played {w W1 W2 : World} {F : Nat → Prop} {p s ways : Nat} {a : Option Addr} {c : Nat} {l : List E} {o : Obj}
    (hca : Cache W1 F p ways (rows l s)) (hb : Below w.heap.size w W1) (hf : ∀ k, F k → w.heap.size ≤ k)
    (ho : W1.ownsRow w.heap.size 30 18 (.slice a l.length c) l.length (flat l)) (hnf : ∀ k, (Value.slice a l.length c).ownBlock = some k → ¬ F k)
    (hs : Ev.Set1 (W1.alloc o) W2 W1.heap.size 46 #[.int .i64 (s : Int), .int .i64 (ways : Int), .slice a l.length c]) :
    Pl w W2 F p s ways W1.heap.size (rows l s) a c l := by
  have N : Below W1.heap.size W1 W2 := ((Below.refl W1.heap.size W1).alloc (Nat.le_refl _) _).trans hs.below
  exact ⟨hca.kp N, hb.trans (N.mono hb.size), hf, hs.row, hb.size, fun h => by have := hca.lt _ h; omega, row_kept ho (fun k hk => N.block k (ho.lt k hk).2), hnf⟩
theorem may_nat {a b : Int} (h : mayB a b = true) : ∃ s ways : Nat, a = (s : Int) ∧ b = (ways : Int) ∧ 0 < s ∧ s ≤ 64 ∧ 0 < ways ∧ ways ≤ 8 := by
  unfold mayB at h
  rw [Bool.and_eq_true, Bool.and_eq_true] at h
  have h1 := pow2_in h.1
  have h2 := of_decide_eq_true h.2.1
  have h3 := of_decide_eq_true h.2.2
  exact ⟨a.toNat, b.toNat, by omega, by omega, by omega, by omega, by omega, by omega⟩
end Ln
end Go.Proofs.Ytifniogldinbdaa
