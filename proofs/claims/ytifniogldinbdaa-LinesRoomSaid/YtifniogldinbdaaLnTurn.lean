/-
  How a cache turns: a set of it is another row, the rest stays.
-/
import Derived.Test.YtifniogldinbdaaLnFind
import Derived.Test.YtifniogldinbdaaOgS
import Derived.Test.YtifniogldinbdaaOgT
import Derived.Maps.AppendAt
namespace Go.Proofs.Ytifniogldinbdaa
open Go.RowKit
set_option linter.unusedVariables false
set_option linter.unusedSimpArgs false
theorem run_storeVar_at {P : Program} (w : World) (g off : Nat) (t ty : TypeId) (old : Array Value) (cs : List Value) (hg : w.heap[g]? = some (.cells old t (0, 0))) (hi : (P.info? ty).map (·.size) = some cs.length)
    (ho : off + cs.length ≤ old.size) (h1 : ∀ v ∈ cs, v.oneCell' = true) :
    (storeVar ty ⟨g, off, none⟩ (.agg cs.toArray)).run P w = .ok () (w.setRow g (old.toList.take off ++ cs ++ old.toList.drop (off + cs.length)).toArray) := by
  have := run_storeCells_at P g off t cs 0 old w hg (by simpa using ho) h1
  cases hq : P.info? ty with
  | none => simp [hq] at hi
  | some i =>
    have hs : cs.length = i.size := by simp [hq] at hi; omega
    simp only [Nat.add_zero] at this
    simp [storeVar, sizeOf, typeInfo, hq, Value.cells, hs, this]
theorem wpList_store_at {P : Program} {ops : Array Oper} {rest : List Oper} {o : Oper} {a : Act} {w : World} {Q : Exit → Act → World → Prop} (hgd : o.guard = none) (ty : TypeId) (x y : Operand) (ho : o.op = .store ty x y)
    (g off : Nat) (cs : List Value) (hx : a.eval x = .pointer (some ⟨g, off, none⟩)) (hy : a.eval y = .agg cs.toArray)
    (t : TypeId) (old : Array Value) (hg : w.heap[g]? = some (.cells old t (0, 0))) (hi : (P.info? ty).map (·.size) = some cs.length)
    (hold : off + cs.length ≤ old.size) (h1 : ∀ v ∈ cs, v.oneCell' = true)
    (h : wpList P ops Q rest (a.put o.dst undef) (w.setRow g (old.toList.take off ++ cs ++ old.toList.drop (off + cs.length)).toArray)) : wpList P ops Q (o :: rest) a w :=
  wpList_plain hgd fun _ hK => by
    unfold Oper.wp execOp
    simp only [ho, hx, hy, Instr.storeAt, Instr.sureAddr, Sem.run_bind, Sem.run_pure, Result.andThen_ok, run_storeVar_at w g off t ty old cs hg hi hold h1]
    exact hK _ _ h
namespace Ln
/-- a cache that was turned: what else turned was its own -/
def Turns (F : Nat → Prop) (w w' : World) (p ways : Nat) (Q : List (List E)) : Prop := ∃ F', Cache w' F' p ways Q ∧ Fr F w w' ∧ ∀ k, F' k → F k ∨ w.heap.size ≤ k
theorem Turns.before {F : Nat → Prop} {w w1 w2 : World} {p ways Q} (hb : Below w.heap.size w w1) (h : Turns F w1 w2 p ways Q) : Turns F w w2 p ways Q := by
  obtain ⟨F', hc, hf, hk⟩ := h
  exact ⟨F', hc, (Fr.of_below hb).trans hf (fun i hi => .inl hi), fun k hF => (hk k hF).imp id fun h => Nat.le_trans hb.size h⟩
theorem Turns.behind {F : Nat → Prop} {w w1 w2 : World} {p ways Q} (h : Turns F w w1 p ways Q) (hb : Below w1.heap.size w1 w2) : Turns F w w2 p ways Q := by
  obtain ⟨F', hc, hf, hk⟩ := h
  exact ⟨F', hc.kp hb, hf.trans (Fr.of_below (F := F) hb) (fun i hi => .inl hi), hk⟩
theorem Turns.same {F : Nat → Prop} {w w1 : World} {p ways Q} (hc : Cache w F p ways Q) (hb : Below w.heap.size w w1) : Turns F w w1 p ways Q :=
  ⟨F, hc.kp hb, Fr.of_below hb, fun k h => .inl h⟩
theorem Cin.turn {w w2 : World} {F p g ways S} (h : Cin w F p g ways S) {i : Nat} {r r' : RW} (hr : S[i]? = some r) (hos : w2.os = w.os) (htp : w2.tape = w.tape) (hou : w2.output = w.output) (hsz : w.heap.size ≤ w2.heap.size)
    (hb : ∀ k, k < w.heap.size → k ≠ g → some k ≠ r.v.ownBlock → w2.heap[k]? = w.heap[k]?) (hs : w2.heap[g]? = some (.cells ((S.set i r').map RW.v).toArray 38 (0, 0)))
    (hw : w2.ownsRow 0 30 18 r'.v r'.l.length (flat r'.l)) (hl : ∀ k, r'.v.ownBlock = some k → r.v.ownBlock = some k ∨ w.heap.size ≤ k)
    (hok : ∀ e ∈ r'.l, Ok e) (hf : r'.l.length ≤ ways) : Turns F w w2 p ways ((S.map (·.l)).set i r'.l) := by
  have hil := (List.getElem?_eq_some_iff.1 hr).1
  have hrm := List.mem_of_getElem? hr
  have hne : p ≠ g := by
    intro e
    have h1 := h.box; rw [e, h.sets] at h1
    simp at h1
  have hpr : some p ≠ r.v.ownBlock := by
    intro e
    rcases (h.rows i r hr).2 with ⟨e1, _⟩ | ⟨g', cap, cur, e1, _, hg', _⟩
    · rw [e1] at e; cases e
    · rw [e1] at e
      obtain rfl : p = g' := by simpa [Value.ownBlock] using e
      rw [h.box] at hg'; simp at hg'
  have hgr : ∀ (j : Nat) (s : RW), S[j]? = some s → s.v.ownBlock ≠ some g := by
    intro j s hj e
    rcases (h.rows j s hj).2 with ⟨e1, _⟩ | ⟨g', cap, cur, e1, _, hg', _⟩
    · rw [e1] at e; cases e
    · rw [e1] at e
      obtain rfl : g' = g := by simpa [Value.ownBlock] using e
      rw [h.sets] at hg'; simp at hg'
  have get : ∀ (j : Nat) (s : RW), (S.set i r')[j]? = some s → (j = i ∧ s = r') ∨ (j ≠ i ∧ S[j]? = some s) := by
    intro j s hj
    by_cases e : j = i
    · subst e
      rw [List.getElem?_set_self hil] at hj
      exact .inl ⟨rfl, (Option.some.inj hj).symm⟩
    · rw [List.getElem?_set_ne (Ne.symm e)] at hj
      exact .inr ⟨e, hj⟩
  have far : ∀ (j : Nat) (s : RW), j ≠ i → S[j]? = some s → ∀ k, s.v.ownBlock = some k → w2.heap[k]? = w.heap[k]? := by
    intro j s hji hj k hk
    refine hb k (h.lt k (h.fr s (List.mem_of_getElem? hj) k hk)) (fun e => hgr j s hj (by rw [hk, e])) (fun e => ?_)
    rcases h.apt j i s r hji hj hr with h1 | h1
    · rw [hk] at h1; cases h1
    · exact h1 (by rw [hk]; exact e)
  have new : ∀ k, r'.v.ownBlock = some k → k < w2.heap.size := fun k hk => (hw.lt k hk).2
  refine ⟨fun k => F k ∨ (w.heap.size ≤ k ∧ k < w2.heap.size), ⟨g, S.set i r', ⟨?_, hs, ?_, ?_, .inl h.fp, .inl h.fg, ?_, ?_, ?_, by rw [List.length_set]; exact h.pos, by rw [List.length_set]; exact h.len, h.wpos, h.wlen, ?_⟩, by rw [List.map_set]⟩, ⟨hos, htp, hou, hsz, ?_⟩, ?_⟩
  · rw [List.length_set]; exact (hb p (h.lt p h.fp) hne hpr).trans h.box
  · intro j s hj
    rcases get j s hj with ⟨_, rfl⟩ | ⟨hji, hj⟩
    · exact hw
    · exact row_kept (h.rows j s hj) (far j s hji hj)
  · intro j k s t hjk hj hk
    have key : ∀ (j : Nat) (s : RW), j ≠ i → S[j]? = some s → ∀ b, s.v.ownBlock = some b → r'.v.ownBlock ≠ some b := by
      intro j s hji hj b hb' e
      rcases hl b e with h1 | h1
      · rcases h.apt j i s r hji hj hr with h2 | h2
        · rw [hb'] at h2; cases h2
        · exact h2 (by rw [hb', h1])
      · have := h.lt b (h.fr s (List.mem_of_getElem? hj) b hb'); omega
    rcases get j s hj with ⟨e1, e2⟩ | ⟨hji, hj'⟩
    · rcases get k t hk with ⟨e3, _⟩ | ⟨hki, hk'⟩
      · exact absurd (e1.trans e3.symm) hjk
      · cases hv : s.v.ownBlock with
        | none => exact .inl rfl
        | some b => exact .inr fun e => key k t hki hk' b e.symm (by rw [← e2]; exact hv)
    · rcases get k t hk with ⟨_, e2⟩ | ⟨hki, hk'⟩
      · cases hv : s.v.ownBlock with
        | none => exact .inl rfl
        | some b => exact .inr fun e => key j s hji hj' b hv (by rw [← e2]; exact e.symm)
      · exact h.apt j k s t hjk hj' hk'
  · intro s hsm k hk
    obtain ⟨j, hj⟩ := List.mem_iff_getElem?.1 hsm
    rcases get j s hj with ⟨_, rfl⟩ | ⟨hji, hj⟩
    · rcases hl k hk with h1 | h1
      · exact .inl (h.fr r hrm k h1)
      · exact .inr ⟨h1, new k hk⟩
    · exact .inl (h.fr s (List.mem_of_getElem? hj) k hk)
  · rintro k (hk | hk)
    · exact Nat.lt_of_lt_of_le (h.lt k hk) hsz
    · exact hk.2
  · intro s hsm e he
    obtain ⟨j, hj⟩ := List.mem_iff_getElem?.1 hsm
    rcases get j s hj with ⟨_, rfl⟩ | ⟨hji, hj⟩
    · exact hok e he
    · exact h.ok s (List.mem_of_getElem? hj) e he
  · intro s hsm
    obtain ⟨j, hj⟩ := List.mem_iff_getElem?.1 hsm
    rcases get j s hj with ⟨_, rfl⟩ | ⟨hji, hj⟩
    · exact hf
    · exact h.fits s (List.mem_of_getElem? hj)
  · intro k hk hF
    refine hb k hk (fun e => hF (by rw [e]; exact h.fg)) (fun e => hF (h.fr r hrm k e.symm))
  · rintro k (hk | hk)
    · exact .inl hk
    · exact .inr hk.1
/-- a row of a set is put into its place -/
theorem Cin.put_row {w w1 : World} {F p g ways S} (h : Cin w F p g ways S) {i : Nat} {r r' : RW} (hr : S[i]? = some r) (hos : w1.os = w.os) (htp : w1.tape = w.tape) (hou : w1.output = w.output) (hsz : w.heap.size ≤ w1.heap.size)
    (hb : ∀ k, k < w.heap.size → some k ≠ r.v.ownBlock → w1.heap[k]? = w.heap[k]?)
    (hw : w1.ownsRow 0 30 18 r'.v r'.l.length (flat r'.l)) (hl : ∀ k, r'.v.ownBlock = some k → r.v.ownBlock = some k ∨ w.heap.size ≤ k)
    (hok : ∀ e ∈ r'.l, Ok e) (hf : r'.l.length ≤ ways) : w1.heap[g]? = some (.cells (S.map RW.v).toArray 38 (0, 0)) ∧ Turns F w (w1.setCell ⟨g, i, none⟩ r'.v) p ways ((S.map (·.l)).set i r'.l) := by
  have hil := (List.getElem?_eq_some_iff.1 hr).1
  have hgr : r.v.ownBlock ≠ some g := by
    intro e
    rcases (h.rows i r hr).2 with ⟨e1, _⟩ | ⟨g', cap, cur, e1, _, hg', _⟩
    · rw [e1] at e; cases e
    · rw [e1] at e
      obtain rfl : g' = g := by simpa [Value.ownBlock] using e
      rw [h.sets] at hg'; simp at hg'
  have hg1 : w1.heap[g]? = some (.cells (S.map RW.v).toArray 38 (0, 0)) := (hb g (h.lt g h.fg) (Ne.symm hgr)).trans h.sets
  have hG := grown_cell w1 g i r'.v
  have hr'g : r'.v.ownBlock ≠ some g := by
    intro e
    rcases hl g e with h1 | h1
    · exact hgr h1
    · have := h.lt g h.fg; omega
  refine ⟨hg1, h.turn hr (hG.os.trans hos) (hG.tape.trans htp) (hG.output.trans hou) (Nat.le_trans hsz hG.size) (fun k hk h1 h2 => ?_) ?_ ?_ hl hok hf⟩
  · exact (hG.block k (by omega) (by simpa using h1)).trans (hb k hk h2)
  · rw [set_row r'.v hg1]
    congr 2
    rw [List.map_set]
    apply Array.toList_inj.1
    simp
  · exact row_kept hw (fun k hk => hG.block k (hw.lt k hk).2 (fun e => hr'g (by rw [hk, e])))
end Ln
end Go.Proofs.Ytifniogldinbdaa
