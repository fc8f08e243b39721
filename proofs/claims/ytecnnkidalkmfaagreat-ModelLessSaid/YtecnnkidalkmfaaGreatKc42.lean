import Derived.Test.YtecnnkidalkmfaaGreatKc07
set_option linter.unusedVariables false
set_option linter.unusedSimpArgs false

section
namespace Go.Proofs.YtecnnkidalkmfaaGreat
open Go.RowKit
namespace Og
structure One (w W : World) (g : Nat) (t : TypeId) (c : Array Value) : Prop where
  row : W.heap[g]? = some (.cells c t (0, 0))
  ge : w.heap.size ≤ g
  below : Below w.heap.size w W
structure OneF (P : Program) (ops : Array Oper) (listed : Array Bool) (a : Act) (p s q dp x1 dq : Nat) (T : TypeId) (Z c : Array Value) (v : Value) : Prop where
  ap : ∃ o, ops[p]? = some o ∧ o.guard = none ∧ o.dst = some dp ∧ ∀ ρ w, (execOp ρ o).run P w = .ok (.value (.pointer (some ⟨w.heap.size, 0, none⟩))) (w.alloc (.cells Z T))
  a1 : ∃ o, ops[s]? = some o ∧ o.guard = none ∧ o.dst = none ∧ o.op = .store T (.tmp dp) (.tmp x1)
  aq : ∃ o x, ops[q]? = some o ∧ o.guard = none ∧ o.dst = some dq ∧ o.op = .assign (.tmp x) ∧ x ≠ dp ∧ a.tmps.getD x undef = v
  r0 : Region.ready .any ops listed = [p]
  r1 : Region.ready .any ops (listed.setIfInBounds p true) = [s]
  r2 : Region.ready .any ops ((listed.setIfInBounds p true).setIfInBounds s true) = [q]
  r3 : Region.ready .any ops (((listed.setIfInBounds p true).setIfInBounds s true).setIfInBounds q true) = []
  v1 : a.tmps.getD x1 undef = .agg c
  hdp : dp < a.tmps.size
  n1 : x1 ≠ dp
  z1 : Z.size = c.size
  i1 : (P.info? T).map (·.size) = some c.size
  o1 : c.all (·.oneCell') = true
theorem oneA {P : Program} {ops : Array Oper} {Q : Exit → Act → World → Prop} {w w1 : World} {listed : Array Bool} {a : Act} {fuel p s q dp x1 dq : Nat} {T : TypeId} {Z c : Array Value} {v : Value} (F : OneF P ops listed a p s q dp x1 dq T Z c v) (S0 : Std w w1)
    (h : ∀ W g, One w W g T c → Q .normal ((a.put (some dp) (.pointer (some ⟨g, 0, none⟩))).put (some dq) v) W) :
    wpAnyH P .any ops Q (Std w) (fuel + 3) listed a w1 := by
  obtain ⟨op, hp, gp, dpe, rp⟩ := F.ap
  obtain ⟨b1, hb1, gb1, db1, ob1⟩ := F.a1
  obtain ⟨oq, x, hq, gq, dqe, oqe, hx, hv⟩ := F.aq
  have s0 : w.heap.size ≤ w1.heap.size := Below.size S0
  have A1 : Std w (w1.alloc (.cells Z T)) := Below.alloc S0 s0 _
  have m1 : (w1.alloc (.cells Z T)).heap[w1.heap.size]? = some (.cells Z T (0, 0)) := heap_alloc_new _ _
  refine held_one p F.r0 (held_op p op _ _ _ hp gp (rp _ _) rfl A1 ?_)
  rw [dpe]
  have t1 := Ev.set1 m1 F.z1
  have B1 : Std w ((w1.alloc (.cells Z T)).setRow w1.heap.size c) := Below.trans A1 (t1.below.mono s0)
  refine store_step s b1 hb1 gb1 db1 T dp x1 ob1 F.r1 w1.heap.size c Z ?_ ?_ m1 F.i1 F.z1 F.o1 B1 ?_
  · rw [dget_put _ _ _ _ F.hdp, if_pos rfl]
  · rw [dget_put _ _ _ _ F.hdp, if_neg F.n1]; exact F.v1
  refine held_one q F.r2 (held_op q oq v _ _ hq gq ?_ rfl B1 ?_)
  · unfold execOp
    simp only [oqe]
    have : (a.put (some dp) (.pointer (some ⟨w1.heap.size, 0, none⟩))).eval (.tmp x) = v := by
      show (a.put (some dp) _).tmps.getD x undef = v
      rw [dget_put _ _ _ _ F.hdp, if_neg hx]; exact hv
    rw [this]; rfl
  · rw [dqe]
    exact wpAnyH_done F.r3 (h _ _ ⟨t1.row, s0, B1⟩) _
end Og
end Go.Proofs.YtecnnkidalkmfaaGreat
end
