/-
  A region that draws its order, reads, makes two variables and fills them: the reading first, then the two in either order. No program is named here.
-/
import Derived.Test.YtnfpcklpmfemiaaEvMem
import Derived.OrdersHeld
import Derived.RegionTactic
namespace Go.Proofs.Ytnfpcklpmfemiaa
open Go.RowKit
set_option linter.unusedVariables false
set_option linter.unusedSimpArgs false
namespace Og
/-- what stood there stands -/
def Std (w x : World) : Prop := Below w.heap.size w x
theorem std_cell {w x : World} (h : Std w x) {p : Addr} {v : Value} (e : w.cell? p = some v) : x.cell? p = some v := Ev.kp_below h p v e
theorem held_take {P : Program} {ops : Array Oper} {Q : Exit → Act → World → Prop} {S : World → Prop} {fuel : Nat} {listed : Array Bool} {a : Act} {w : World} (i : Nat) (o : Oper) (v : Value) (a' : Act) (hi : ops[i]? = some o) (hg : o.guard = none)
    (hs : Region.noSelect ops = true) (hf : Region.free .any ops listed i = true) (hr : (Region.ready .any ops listed).contains i = true)
    (hQ : ∀ c a w, Q (.panic c) (a.put o.dst v) w → Q (.panic c) a w) (hS : S w)
    (hrun : ∀ x, S x → (execOp a.eval o).run P x = .ok (.value v) x) (ha : a.put o.dst v = a')
    (h : wpAnyH P .any ops Q S fuel (listed.setIfInBounds i true) a' w) : wpAnyH P .any ops Q S (fuel + 1) listed a w :=
  wpAnyH_take hi hs hf hr hQ (Or.inl ⟨by unfold Region.wanted; rw [hg], hrun⟩) hS (by rw [ha]; exact h)
/-- one operation that has come up, of several that might -/
theorem held_op {P : Program} {ops : Array Oper} {Q : Exit → Act → World → Prop} {S : World → Prop} {fuel : Nat} {listed : Array Bool} {a : Act} {w : World} (i : Nat) (o : Oper) (v : Value) (w' : World) (a' : Act) (hi : ops[i]? = some o) (hg : o.guard = none)
    (hrun : (execOp a.eval o).run P w = .ok (.value v) w') (ha : a.put o.dst v = a') (hS : S w')
    (h : wpAnyH P .any ops Q S fuel (listed.setIfInBounds i true) a' w') : wpOp P ops Q i (fun a' w' => S w' ∧ wpAnyH P .any ops Q S fuel (listed.setIfInBounds i true) a' w') a w := by
  unfold wpOp
  rw [hi]
  have hw : Region.wanted o (yielded ops a.tmps) = true := by unfold Region.wanted; rw [hg]
  simp only [hw, if_true]
  refine .inl ?_
  unfold Oper.wp
  rw [hrun]
  show _ ∧ _
  rw [ha]
  exact ⟨hS, h⟩
theorem held_op' {P : Program} {ops : Array Oper} {Q : Exit → Act → World → Prop} {S : World → Prop} {fuel : Nat} {listed : Array Bool} {a : Act} {w : World} (i : Nat) (o : Oper) (w' : World) (a' : Act) (hi : ops[i]? = some o) (hg : o.guard = none)
    (hrun : (execOp a.eval o).run P w = .ok .skip w') (ha : a.put o.dst undef = a') (hS : S w')
    (h : wpAnyH P .any ops Q S fuel (listed.setIfInBounds i true) a' w') : wpOp P ops Q i (fun a' w' => S w' ∧ wpAnyH P .any ops Q S fuel (listed.setIfInBounds i true) a' w') a w := by
  unfold wpOp
  rw [hi]
  have hw : Region.wanted o (yielded ops a.tmps) = true := by unfold Region.wanted; rw [hg]
  simp only [hw, if_true]
  refine .inl ?_
  unfold Oper.wp
  rw [hrun]
  show _ ∧ _
  rw [ha]
  exact ⟨hS, h⟩
theorem held_one {P : Program} {ops : Array Oper} {Q : Exit → Act → World → Prop} {S : World → Prop} {fuel : Nat} {listed : Array Bool} {a : Act} {w : World} (i : Nat) (hr : Region.ready .any ops listed = [i])
    (h : wpOp P ops Q i (fun a' w' => S w' ∧ wpAnyH P .any ops Q S fuel (listed.setIfInBounds i true) a' w') a w) : wpAnyH P .any ops Q S (fuel + 1) listed a w :=
  wpAnyH_all hr (by simp) (fun j hj => by obtain rfl : j = i := by simpa using hj
                                          exact h)
theorem held_two {P : Program} {ops : Array Oper} {Q : Exit → Act → World → Prop} {S : World → Prop} {fuel : Nat} {listed : Array Bool} {a : Act} {w : World} (i k : Nat) (hr : Region.ready .any ops listed = [i, k])
    (h1 : wpOp P ops Q i (fun a' w' => S w' ∧ wpAnyH P .any ops Q S fuel (listed.setIfInBounds i true) a' w') a w)
    (h2 : wpOp P ops Q k (fun a' w' => S w' ∧ wpAnyH P .any ops Q S fuel (listed.setIfInBounds k true) a' w') a w) : wpAnyH P .any ops Q S (fuel + 1) listed a w :=
  wpAnyH_all hr (by simp) (fun j hj => by
    rcases (by simpa using hj : j = i ∨ j = k) with rfl | rfl
    · exact h1
    · exact h2)
/-- two new blocks, filled: a world of which it is known what stands in them -/
structure Two (w W : World) (g1 g2 : Nat) (t : TypeId) (c1 c2 : Array Value) : Prop where
  r1 : W.heap[g1]? = some (.cells c1 t (0, 0))
  r2 : W.heap[g2]? = some (.cells c2 t (0, 0))
  ge1 : w.heap.size ≤ g1
  ge2 : w.heap.size ≤ g2
  below : Below w.heap.size w W
theorem two_a {w w1 : World} (h0 : Below w.heap.size w w1) {t : TypeId} {z c1 c2 : Array Value} (h1 : z.size = c1.size) (h2 : z.size = c2.size) :
    Two w (((((w1.alloc (.cells z t)).alloc (.cells z t)).setRow w1.heap.size c1)).setRow (w1.heap.size + 1) c2) w1.heap.size (w1.heap.size + 1) t c1 c2 := by
  have s0 := h0.size
  have a1 : ((w1.alloc (.cells z t)).alloc (.cells z t)).heap[w1.heap.size]? = some (.cells z t (0, 0)) := (Below.heap_alloc _ _ _ (by simp)).trans (heap_alloc_new _ _)
  have a2 : ((w1.alloc (.cells z t)).alloc (.cells z t)).heap[w1.heap.size + 1]? = some (.cells z t (0, 0)) := heap_alloc2_new _ _ _
  have e1 := Ev.set1 a1 h1
  have a3 := (e1.block (w1.heap.size + 1) (by omega)).trans a2
  have e2 := Ev.set1 a3 h2
  refine ⟨(e2.block _ (by omega)).trans e1.row, e2.row, s0, by omega, ?_⟩
  exact (((h0.alloc s0 _).alloc (by simp only [World.size_alloc]; omega) _).trans (e1.below.mono s0)).trans (e2.below.mono (by omega))
theorem two_b {w w1 : World} (h0 : Below w.heap.size w w1) {t : TypeId} {z c1 c2 : Array Value} (h1 : z.size = c1.size) (h2 : z.size = c2.size) :
    Two w (((((w1.alloc (.cells z t)).alloc (.cells z t)).setRow (w1.heap.size + 1) c1)).setRow w1.heap.size c2) (w1.heap.size + 1) w1.heap.size t c1 c2 := by
  have s0 := h0.size
  have a1 : ((w1.alloc (.cells z t)).alloc (.cells z t)).heap[w1.heap.size]? = some (.cells z t (0, 0)) := (Below.heap_alloc _ _ _ (by simp)).trans (heap_alloc_new _ _)
  have a2 : ((w1.alloc (.cells z t)).alloc (.cells z t)).heap[w1.heap.size + 1]? = some (.cells z t (0, 0)) := heap_alloc2_new _ _ _
  have e1 := Ev.set1 a2 h1
  have a3 := (e1.block w1.heap.size (by omega)).trans a1
  have e2 := Ev.set1 a3 h2
  refine ⟨(e2.block _ (by omega)).trans e1.row, e2.row, by omega, s0, ?_⟩
  exact (((h0.alloc s0 _).alloc (by simp only [World.size_alloc]; omega) _).trans (e1.below.mono (by omega))).trans (e2.below.mono s0)
/-- a load's run -/
theorem load_run {P : Program} {o : Oper} {ρ : Operand → Value} {w : World} {v : Value} (ty : TypeId) (x : Operand) (ho : o.op = .load ty x) (p : Addr) (hx : ρ x = .pointer (some p)) (hl : (loadVar ty p).run P w = .ok v w) : (execOp ρ o).run P w = .ok (.value v) w := by
  unfold execOp
  simp only [ho, hx, Instr.loadAt, Instr.sureAddr, Sem.run_bind, Sem.run_pure, Result.andThen_ok, hl]
theorem store_run {P : Program} {o : Oper} {ρ : Operand → Value} {w : World} (ty : TypeId) (x y : Operand) (ho : o.op = .store ty x y) (g : Nat) (cells : Array Value) (hx : ρ x = .pointer (some ⟨g, 0, none⟩)) (hy : ρ y = .agg cells)
    (t : TypeId) (old : Array Value) (hg : w.heap[g]? = some (.cells old t (0, 0))) (hi : (P.info? ty).map (·.size) = some cells.size) (hold : old.size = cells.size) (h1 : cells.all (·.oneCell') = true) :
    (execOp ρ o).run P w = .ok (.value undef) (w.setRow g cells) ∨ (execOp ρ o).run P w = .ok .skip (w.setRow g cells) := by
  unfold execOp
  simp only [ho, hx, hy, Instr.storeAt, Instr.sureAddr, Sem.run_bind, Sem.run_pure, Result.andThen_ok, run_storeVar_row w g t ty old cells hg hi hold h1]
  first | exact .inl rfl | exact .inr rfl | exact .inl trivial | exact .inr trivial
/-- what the region's last four are: two new variables, two stores -/
structure Four (P : Program) (ops : Array Oper) (listed : Array Bool) (a : Act) (p q s1 s2 dp dq x1 x2 : Nat) (T : TypeId) (Z c1 c2 : Array Value) : Prop where
  ap : ∃ o, ops[p]? = some o ∧ o.guard = none ∧ o.dst = some dp ∧ ∀ ρ w, (execOp ρ o).run P w = .ok (.value (.pointer (some ⟨w.heap.size, 0, none⟩))) (w.alloc (.cells Z T))
  aq : ∃ o, ops[q]? = some o ∧ o.guard = none ∧ o.dst = some dq ∧ ∀ ρ w, (execOp ρ o).run P w = .ok (.value (.pointer (some ⟨w.heap.size, 0, none⟩))) (w.alloc (.cells Z T))
  a1 : ∃ o, ops[s1]? = some o ∧ o.guard = none ∧ o.dst = none ∧ o.op = .store T (.tmp dp) (.tmp x1)
  a2 : ∃ o, ops[s2]? = some o ∧ o.guard = none ∧ o.dst = none ∧ o.op = .store T (.tmp dq) (.tmp x2)
  r0 : Region.ready .any ops listed = [p, q]
  rp : Region.ready .any ops (listed.setIfInBounds p true) = [q]
  rq : Region.ready .any ops (listed.setIfInBounds q true) = [p]
  r2 : Region.ready .any ops ((listed.setIfInBounds p true).setIfInBounds q true) = [s1]
  r2' : Region.ready .any ops ((listed.setIfInBounds q true).setIfInBounds p true) = [s1]
  r3 : Region.ready .any ops (((listed.setIfInBounds p true).setIfInBounds q true).setIfInBounds s1 true) = [s2]
  r3' : Region.ready .any ops (((listed.setIfInBounds q true).setIfInBounds p true).setIfInBounds s1 true) = [s2]
  r4 : Region.ready .any ops ((((listed.setIfInBounds p true).setIfInBounds q true).setIfInBounds s1 true).setIfInBounds s2 true) = []
  r4' : Region.ready .any ops ((((listed.setIfInBounds q true).setIfInBounds p true).setIfInBounds s1 true).setIfInBounds s2 true) = []
  v1 : a.tmps.getD x1 undef = .agg c1
  v2 : a.tmps.getD x2 undef = .agg c2
  hdp : dp < a.tmps.size
  hdq : dq < a.tmps.size
  n1 : x1 ≠ dp ∧ x1 ≠ dq ∧ x2 ≠ dp ∧ x2 ≠ dq ∧ dp ≠ dq
  z1 : Z.size = c1.size
  z2 : Z.size = c2.size
  i1 : (P.info? T).map (·.size) = some c1.size
  i2 : (P.info? T).map (·.size) = some c2.size
  o1 : c1.all (·.oneCell') = true
  o2 : c2.all (·.oneCell') = true
theorem dget_put (a : Act) (d : Nat) (v : Value) (t : Nat) (hd : d < a.tmps.size) : (a.put (some d) v).tmps.getD t undef = if t = d then v else a.tmps.getD t undef := by
  by_cases h : t = d
  · subst h; simp [Act.put, hd]
  · rw [if_neg h]; simp [Act.put, Array.getElem?_setIfInBounds_ne (Ne.symm h)]
theorem dsize_put (a : Act) (d : Option Nat) (v : Value) : (a.put d v).tmps.size = a.tmps.size := by cases d <;> simp [Act.put]
theorem store_step {P : Program} {ops : Array Oper} {Q : Exit → Act → World → Prop} {S : World → Prop} {fuel : Nat} {listed : Array Bool} {a : Act} {w : World} (i : Nat) (o : Oper) (hi : ops[i]? = some o) (hg : o.guard = none) (hd : o.dst = none) (T : TypeId) (x y : Nat) (ho : o.op = .store T (.tmp x) (.tmp y))
    (hr : Region.ready .any ops listed = [i]) (g : Nat) (cells old : Array Value) (hx : a.tmps.getD x undef = .pointer (some ⟨g, 0, none⟩)) (hy : a.tmps.getD y undef = .agg cells)
    (hgw : w.heap[g]? = some (.cells old T (0, 0))) (hin : (P.info? T).map (·.size) = some cells.size) (hold : old.size = cells.size) (h1 : cells.all (·.oneCell') = true) (hS : S (w.setRow g cells))
    (h : wpAnyH P .any ops Q S fuel (listed.setIfInBounds i true) a (w.setRow g cells)) : wpAnyH P .any ops Q S (fuel + 1) listed a w := by
  refine held_one i hr ?_
  rcases store_run (P := P) (o := o) (ρ := a.eval) (w := w) T (.tmp x) (.tmp y) ho g cells hx hy T old hgw hin hold h1 with hrun | hrun
  · exact held_op i o undef _ a hi hg hrun (by rw [hd]; rfl) hS h
  · exact held_op' i o _ a hi hg hrun (by rw [hd]; rfl) hS h
theorem four {P : Program} {ops : Array Oper} {Q : Exit → Act → World → Prop} {w w1 : World} {listed : Array Bool} {a : Act} {fuel p q s1 s2 dp dq x1 x2 : Nat} {T : TypeId} {Z c1 c2 : Array Value} (F : Four P ops listed a p q s1 s2 dp dq x1 x2 T Z c1 c2) (S0 : Std w w1)
    (h : ∀ W g1 g2, Two w W g1 g2 T c1 c2 → Q .normal ((a.put (some dp) (.pointer (some ⟨g1, 0, none⟩))).put (some dq) (.pointer (some ⟨g2, 0, none⟩))) W) :
    wpAnyH P .any ops Q (Std w) (fuel + 4) listed a w1 := by
  obtain ⟨op, hp, gp, dpe, rp⟩ := F.ap
  obtain ⟨oq, hq, gq, dqe, rq⟩ := F.aq
  obtain ⟨b1, hb1, gb1, db1, ob1⟩ := F.a1
  obtain ⟨b2, hb2, gb2, db2, ob2⟩ := F.a2
  obtain ⟨n1, n2, n3, n4, n5⟩ := F.n1
  have s0 : w.heap.size ≤ w1.heap.size := Below.size S0
  have A1 : Std w (w1.alloc (.cells Z T)) := Below.alloc S0 s0 _
  have A2 : Std w ((w1.alloc (.cells Z T)).alloc (.cells Z T)) := Below.alloc A1 (by simp only [World.size_alloc]; omega) _
  have m1 : ((w1.alloc (.cells Z T)).alloc (.cells Z T)).heap[w1.heap.size]? = some (.cells Z T (0, 0)) := (Below.heap_alloc _ _ _ (by simp)).trans (heap_alloc_new _ _)
  have m2 : ((w1.alloc (.cells Z T)).alloc (.cells Z T)).heap[w1.heap.size + 1]? = some (.cells Z T (0, 0)) := heap_alloc2_new _ _ _
  have e2 : (w1.alloc (.cells Z T)).heap.size = w1.heap.size + 1 := by simp only [World.size_alloc]
  refine held_two p q F.r0 ?_ ?_
  · refine held_op p op _ _ _ hp gp (rp _ _) rfl A1 ?_
    refine held_one q F.rp (held_op q oq _ _ _ hq gq (rq _ _) rfl A2 ?_)
    rw [dpe, dqe, e2]
    have t1 := Ev.set1 m1 F.z1
    have B1 : Std w (((w1.alloc (.cells Z T)).alloc (.cells Z T)).setRow w1.heap.size c1) := Below.trans A2 (t1.below.mono s0)
    have m3 := (t1.block (w1.heap.size + 1) (by omega)).trans m2
    have t2 := Ev.set1 m3 F.z2
    have B2 := Below.trans B1 (t2.below.mono (Nat.le_succ_of_le s0))
    refine store_step s1 b1 hb1 gb1 db1 T dp x1 ob1 F.r2 w1.heap.size c1 Z ?_ ?_ m1 F.i1 F.z1 F.o1 B1 ?_
    · rw [dget_put _ _ _ _ (by rw [dsize_put]; exact F.hdq), if_neg n5, dget_put _ _ _ _ F.hdp, if_pos rfl]
    · rw [dget_put _ _ _ _ (by rw [dsize_put]; exact F.hdq), if_neg n2, dget_put _ _ _ _ F.hdp, if_neg n1]; exact F.v1
    refine store_step s2 b2 hb2 gb2 db2 T dq x2 ob2 F.r3 (w1.heap.size + 1) c2 Z ?_ ?_ m3 F.i2 F.z2 F.o2 B2 ?_
    · rw [dget_put _ _ _ _ (by rw [dsize_put]; exact F.hdq), if_pos rfl]
    · rw [dget_put _ _ _ _ (by rw [dsize_put]; exact F.hdq), if_neg n4, dget_put _ _ _ _ F.hdp, if_neg n3]; exact F.v2
    exact wpAnyH_done F.r4 (h _ _ _ (two_a S0 F.z1 F.z2)) _
  · refine held_op q oq _ _ _ hq gq (rq _ _) rfl A1 ?_
    refine held_one p F.rq (held_op p op _ _ _ hp gp (rp _ _) rfl A2 ?_)
    rw [dpe, dqe, e2]
    have t1 := Ev.set1 m2 F.z1
    have B1 : Std w (((w1.alloc (.cells Z T)).alloc (.cells Z T)).setRow (w1.heap.size + 1) c1) := Below.trans A2 (t1.below.mono (Nat.le_succ_of_le s0))
    have m3 := (t1.block w1.heap.size (by omega)).trans m1
    have t2 := Ev.set1 m3 F.z2
    have B2 := Below.trans B1 (t2.below.mono s0)
    refine store_step s1 b1 hb1 gb1 db1 T dp x1 ob1 F.r2' (w1.heap.size + 1) c1 Z ?_ ?_ m2 F.i1 F.z1 F.o1 B1 ?_
    · rw [dget_put _ _ _ _ (by rw [dsize_put]; exact F.hdp), if_pos rfl]
    · rw [dget_put _ _ _ _ (by rw [dsize_put]; exact F.hdp), if_neg n1, dget_put _ _ _ _ F.hdq, if_neg n2]; exact F.v1
    refine store_step s2 b2 hb2 gb2 db2 T dq x2 ob2 F.r3' w1.heap.size c2 Z ?_ ?_ m3 F.i2 F.z2 F.o2 B2 ?_
    · rw [dget_put _ _ _ _ (by rw [dsize_put]; exact F.hdp), if_neg (Ne.symm n5), dget_put _ _ _ _ F.hdq, if_pos rfl]
    · rw [dget_put _ _ _ _ (by rw [dsize_put]; exact F.hdp), if_neg n3, dget_put _ _ _ _ F.hdq, if_neg n4]; exact F.v2
    refine wpAnyH_done F.r4' ?_ _
    have hc : ∀ u v : Value, (a.put (some dq) u).put (some dp) v = (a.put (some dp) v).put (some dq) u := fun u v => by
      simp only [Act.put]
      congr 1
      exact Array.setIfInBounds_comm _ _ (Ne.symm n5)
    rw [hc]
    exact h _ _ _ (two_b S0 F.z1 F.z2)
end Og
end Go.Proofs.Ytnfpcklpmfemiaa
