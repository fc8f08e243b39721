import Derived.Test.YtfajkgbpeapcbaaNa10
import Derived.Laws.CopyRow
set_option linter.unusedVariables false
set_option linter.unusedSimpArgs false

section
namespace Go.Proofs.Ytfajkgbpeapcbaa
open Go.RowKit
namespace Hm
open Nt
set_option maxRecDepth 100000
def own (tp ep g : Nat) (S Q : Nat → Prop) (k : Nat) : Prop := k = tp ∨ k = ep ∨ k = g ∨ S k ∨ Q k
structure Tw (w W : World) (tp ep mp g : Nat) (S0 Q0 S Q : Nat → Prop) (sa : Option Addr) (sc : Nat) (qa : Option Addr) (qc : Nat) (T : Tg) : Prop where
  tk : Tk W tp ep mp g S Q sa sc qa qc T
  fr : Fr (own tp ep g S0 Q0) w W
  sn : ∀ k, S k → S0 k ∨ w.heap.size ≤ k
  qn : ∀ k, Q k → Q0 k ∨ w.heap.size ≤ k
def TT (w W : World) (tp ep mp g : Nat) (S0 Q0 : Nat → Prop) (T : Tg) : Prop := ∃ S Q sa sc qa qc, Tw w W tp ep mp g S0 Q0 S Q sa sc qa qc T
def Ta (w : World) (tp ep mp g : Nat) (S Q : Nat → Prop) (T : Tg) : Prop := ∃ sa sc qa qc, Tk w tp ep mp g S Q sa sc qa qc T
section
variable {w W W' : World} {tp ep mp g : Nat} {S0 Q0 S Q : Nat → Prop} {sa : Option Addr} {sc : Nat} {qa : Option Addr} {qc : Nat} {T T' : Tg}
theorem Tw.start (h : Tk w tp ep mp g S Q sa sc qa qc T) : Tw w w tp ep mp g S Q S Q sa sc qa qc T := ⟨h, Fr.refl _ _, fun k h => .inl h, fun k h => .inl h⟩
theorem Tw.kp (h : Tw w W tp ep mp g S0 Q0 S Q sa sc qa qc T) (hb : Below W.heap.size W W') : Tw w W' tp ep mp g S0 Q0 S Q sa sc qa qc T :=
  ⟨h.tk.kp hb, h.fr.trans (Fr.of_below (F := own tp ep g S0 Q0) hb) (fun i hi => .inl hi), h.sn, h.qn⟩
theorem Tw.own_lt (h : Tk w tp ep mp g S Q sa sc qa qc T) : ∀ k, own tp ep g S Q k → k < w.heap.size := by
  rintro k (rfl | rfl | rfl | hk | hk)
  · exact h.lt.1
  · exact h.lt.2.1
  · exact h.lt.2.2.2
  · exact h.sl k hk
  · exact h.ql k hk
theorem Tw.own_sub (h : Tw w W tp ep mp g S0 Q0 S Q sa sc qa qc T) : ∀ k, own tp ep g S Q k → own tp ep g S0 Q0 k ∨ w.heap.size ≤ k := by
  rintro k (rfl | rfl | rfl | hk | hk)
  · exact .inl (.inl rfl)
  · exact .inl (.inr (.inl rfl))
  · exact .inl (.inr (.inr (.inl rfl)))
  · exact (h.sn k hk).imp (fun h => .inr (.inr (.inr (.inl h)))) id
  · exact (h.qn k hk).imp (fun h => .inr (.inr (.inr (.inr h)))) id
theorem Tw.call (h : Tw w W tp ep mp g S0 Q0 S Q sa sc qa qc T) (k : TT W W' tp ep mp g S Q T') : TT w W' tp ep mp g S0 Q0 T' := by
  obtain ⟨S', Q', sa', sc', qa', qc', k⟩ := k
  exact ⟨S', Q', sa', sc', qa', qc', k.tk, h.fr.trans k.fr h.own_sub, fun j hj => (k.sn j hj).elim (fun h1 => h.sn j h1) (fun h1 => .inr (Nat.le_trans h.fr.size h1)),
    fun j hj => (k.qn j hj).elim (fun h1 => h.qn j h1) (fun h1 => .inr (Nat.le_trans h.fr.size h1))⟩
theorem Tw.behind {S' Q' : Nat → Prop} {sa' : Option Addr} {sc' : Nat} {qa' : Option Addr} {qc' : Nat} (h : Tw w W tp ep mp g S0 Q0 S Q sa sc qa qc T) (k : Tw W W' tp ep mp g S Q S' Q' sa' sc' qa' qc' T') : Tw w W' tp ep mp g S0 Q0 S' Q' sa' sc' qa' qc' T' :=
  ⟨k.tk, h.fr.trans k.fr h.own_sub, fun j hj => (k.sn j hj).elim (fun h1 => h.sn j h1) (fun h1 => .inr (Nat.le_trans h.fr.size h1)),
    fun j hj => (k.qn j hj).elim (fun h1 => h.qn j h1) (fun h1 => .inr (Nat.le_trans h.fr.size h1))⟩
theorem Tw.tt (h : Tw w W tp ep mp g S0 Q0 S Q sa sc qa qc T) : TT w W tp ep mp g S0 Q0 T := ⟨S, Q, sa, sc, qa, qc, h⟩
theorem TT.kp (h : TT w W tp ep mp g S0 Q0 T) (hb : Below W.heap.size W W') : TT w W' tp ep mp g S0 Q0 T := by
  obtain ⟨S, Q, sa, sc, qa, qc, h⟩ := h
  exact ⟨S, Q, sa, sc, qa, qc, h.kp hb⟩
theorem TT.before {B : World} (hb : Below w.heap.size w B) (h : TT B W tp ep mp g S0 Q0 T) : TT w W tp ep mp g S0 Q0 T := by
  obtain ⟨S, Q, sa, sc, qa, qc, h⟩ := h
  exact ⟨S, Q, sa, sc, qa, qc, h.tk, (Fr.of_below hb).trans h.fr (fun i hi => .inl hi), fun k hk => (h.sn k hk).imp id (Nat.le_trans hb.size), fun k hk => (h.qn k hk).imp id (Nat.le_trans hb.size)⟩
theorem Tw.other (h : Tw w W tp ep mp g S0 Q0 S Q sa sc qa qc T) {k : Nat} {o : Obj} (hk : w.heap[k]? = some o) (hn : ∀ j, own tp ep g S0 Q0 j → j < k) : W.heap[k]? = some o :=
  (h.fr.block k (Array.getElem?_eq_some_iff.1 hk).1 (fun hf => Nat.lt_irrefl _ (hn k hf))).trans hk
theorem Tw.row (h : Tw w W tp ep mp g S0 Q0 S Q sa sc qa qc T) (e' : En) (hq : e'.q = T.e.q) : Tw w (W.setRow ep (ecells e' qa qc)) tp ep mp g S0 Q0 S Q sa sc qa qc { T with e := e' } := by
  have hs : (W.setRow ep (ecells e' qa qc)).heap.size = W.heap.size := by simp
  refine ⟨h.tk.entry e' hq hs (fun k hk => setRow_other _ _ _ _ hk) (setRow_heap _ _ _ _ _ _ h.tk.eb), h.fr.trans (G := fun k => k = ep) ⟨rfl, rfl, rfl, by rw [hs]; exact Nat.le_refl _, fun k _ hk => setRow_other _ _ _ _ hk⟩ ?_, h.sn, h.qn⟩
  rintro k rfl
  exact .inl (.inr (.inl rfl))
end
def SL (l : List Nat) (Fa : World → Prop) (j : Nat) (x : World) : Prop := l.contains j = true → Fa x
theorem keep_sl {ops : Array Oper} {l : List Nat} {Fa : World → Prop} {j : Nat} {w w' : World} (h : Fa w') : Og.Keep .any ops (SL l Fa) j w w' := fun oj hoj i hij hno hS hi => h
theorem keep_end {ops : Array Oper} {l : List Nat} {Fa : World → Prop} {j : Nat} {w w' : World} {o : Oper} (hj : ops[j]? = some o) (hall : (l.all fun i => decide (i = j) || o.after.any fun e => Region.binds .any e && e.on == i) = true) : Og.Keep .any ops (SL l Fa) j w w' := by
  intro oj hoj i hij hno hS hi
  obtain rfl : o = oj := Option.some.inj (hj.symm.trans hoj)
  have h1 := List.all_eq_true.1 hall i (by simpa using hi)
  rw [Bool.or_eq_true] at h1
  rcases h1 with h1 | h1
  · exact absurd (of_decide_eq_true h1) hij
  · obtain ⟨k, hk, he⟩ := Array.any_eq_true.1 h1
    rw [Bool.and_eq_true] at he
    exact absurd (by simpa using he.2) (hno _ (Array.getElem_mem hk) he.1)
theorem Tw.push {w W W5 : World} {tp ep mp g : Nat} {S0 Q0 S Q : Nat → Prop} {sa : Option Addr} {sc : Nat} {qa : Option Addr} {qc : Nat} {T : Tg} (h : Tw w W tp ep mp g S0 Q0 S Q sa sc qa qc T) {a' : Option Addr} {c' : Nat} {l' : List E}
    (ho : Nt.Own W5 (fun k => S k ∨ k = W.heap.size) a' c' l') (hf : Fr S W W5) (hok : ∀ x ∈ l', Ok x) :
    W5.heap[tp]? = some (.cells (tcells T.n sa T.sent.length sc ep mp) 125 (0, 0)) ∧
    Tw w (W5.setRow tp (tcells T.n a' l'.length c' ep mp)) tp ep mp g S0 Q0 (fun k => (S k ∨ k = W.heap.size) ∧ k < W5.heap.size) Q a' c' qa qc { T with sent := l' } := by
  have hk := h.tk
  have hl := hk.lt; have hn := hk.ne
  have hs : (W5.setRow tp (tcells T.n a' l'.length c' ep mp)).heap.size = W5.heap.size := by simp
  have hb : ∀ k, k ≠ tp → (W5.setRow tp (tcells T.n a' l'.length c' ep mp)).heap[k]? = W5.heap[k]? := fun k hk => setRow_other _ _ _ _ hk
  have hbx : W5.heap[tp]? = some (.cells (tcells T.n sa T.sent.length sc ep mp) 125 (0, 0)) := (hf.block tp hl.1 (fun h => (hk.st tp h).1 rfl)).trans hk.tb
  have ko : ∀ k, k < W.heap.size → k ≠ tp → ¬ S k → (W5.setRow tp (tcells T.n a' l'.length c' ep mp)).heap[k]? = W.heap[k]? := fun k h1 h2 h3 => (hb k h2).trans (hf.block k h1 h3)
  refine ⟨hbx, ⟨setRow_heap _ _ _ _ _ _ hbx, (ko ep hl.2.1 (Ne.symm hn.1) (fun h => (hk.st ep h).2.1 rfl)).trans hk.eb,
    ⟨(ko mp hl.2.2.1 (Ne.symm hn.2.1) (fun h => (hk.st mp h).2.2.1 rfl)).trans hk.im.ptr, (ko g hl.2.2.2 (Ne.symm hn.2.2.1) (fun h => (hk.st g h).2.2.2 rfl)).trans hk.im.row, hk.im.ok, hk.im.byt⟩, ?_,
    hk.qo.kept fun k h1 h2 => ko k h2 (hk.qt k h1).1 (fun h => hk.dj k h h1), fun k h1 => by rw [hs]; exact h1.2, fun k h1 => by rw [hs]; exact Nat.lt_of_lt_of_le (hk.ql k h1) hf.size, ?_, ?_, hk.qt, hok, hk.qok, hk.qby, hk.nl⟩, ?_, ?_, h.qn⟩
  · have ho2 := ho.lt
    refine ho2.kept fun k h1 h2 => hb k ?_
    rintro rfl
    rcases h1.1 with h1 | h1
    · exact (hk.st _ h1).1 rfl
    · omega
  · intro k h1 h2
    rcases h1.1 with h1 | h1
    · exact hk.dj k h1 h2
    · have := hk.ql k h2; omega
  · intro k h1
    rcases h1.1 with h1 | h1
    · exact hk.st k h1
    · exact ⟨by omega, by omega, by omega, by omega⟩
  · refine h.fr.trans (G := own tp ep g S Q) (Fr.trans (G := fun k => k = tp) (F := own tp ep g S Q) ⟨hf.os, hf.tape, hf.output, hf.size, fun k h1 h2 => hf.block k h1 (fun h3 => h2 (.inr (.inr (.inr (.inl h3)))))⟩ ⟨rfl, rfl, rfl, by rw [hs]; exact Nat.le_refl _, fun k _ hk => hb k hk⟩ (fun i hi => .inl (.inl hi))) h.own_sub
  · intro k h1
    rcases h1.1 with h1 | h1
    · exact h.sn k h1
    · exact .inr (by rw [h1]; exact h.fr.size)
theorem Tw.img {w W W' : World} {tp ep mp g : Nat} {S0 Q0 S Q : Nat → Prop} {sa : Option Addr} {sc : Nat} {qa : Option Addr} {qc : Nat} {T : Tg} (h : Tw w W tp ep mp g S0 Q0 S Q sa sc qa qc T) {bs' : List Int} (hi : Img W' mp g bs') (hg : W.grownBy W' (some g)) (hl : bs'.length = T.bs.length) :
    Tw w W' tp ep mp g S0 Q0 S Q sa sc qa qc { T with bs := bs' } := by
  have hk := h.tk
  have hlt := hk.lt; have hn := hk.ne
  have ko : ∀ k, k < W.heap.size → k ≠ g → W'.heap[k]? = W.heap[k]? := fun k h1 h2 => hg.block k h1 (fun e => h2 (by injection e))
  refine ⟨⟨(ko tp hlt.1 hn.2.2.1).trans hk.tb, (ko ep hlt.2.1 hn.2.2.2.2).trans hk.eb, hi, hk.so.kept fun k h1 h2 => ko k h2 (hk.st k h1).2.2.2, hk.qo.kept fun k h1 h2 => ko k h2 (hk.qt k h1).2.2.2,
    fun k h1 => Nat.lt_of_lt_of_le (hk.sl k h1) hg.size, fun k h1 => Nat.lt_of_lt_of_le (hk.ql k h1) hg.size, hk.dj, hk.st, hk.qt, hk.sok, hk.qok, hk.qby, by show T.n * 16 < bs'.length; rw [hl]; exact hk.nl⟩, h.fr.trans (G := fun k => k = g) (Fr.grown hg fun k e _ => by injection e with e; exact e.symm) ?_, h.sn, h.qn⟩
  rintro k rfl
  exact .inl (.inr (.inr (.inl rfl)))
theorem Tw.rowq {w W W5 : World} {tp ep mp g : Nat} {S0 Q0 S Q : Nat → Prop} {sa : Option Addr} {sc : Nat} {qa : Option Addr} {qc : Nat} {T : Tg} (h : Tw w W tp ep mp g S0 Q0 S Q sa sc qa qc T) {a' : Option Addr} {c' : Nat} (e' : En)
    (ho : OwnQ W5 (fun k => Q k ∨ k = W.heap.size) a' c' e'.q) (hf : Fr Q W W5) (hok : ∀ x ∈ e'.q, Ok x) (hby : ∀ x ∈ e'.q, Im.Byt x.b) :
    W5.heap[ep]? = some (.cells (ecells T.e qa qc) 84 (0, 0)) ∧
    Tw w (W5.setRow ep (ecells e' a' c')) tp ep mp g S0 Q0 S (fun k => (Q k ∨ k = W.heap.size) ∧ k < W5.heap.size) sa sc a' c' { T with e := e' } := by
  have hk := h.tk
  have hl := hk.lt; have hn := hk.ne
  have hs : (W5.setRow ep (ecells e' a' c')).heap.size = W5.heap.size := by simp
  have hb : ∀ k, k ≠ ep → (W5.setRow ep (ecells e' a' c')).heap[k]? = W5.heap[k]? := fun k hk => setRow_other _ _ _ _ hk
  have hbx : W5.heap[ep]? = some (.cells (ecells T.e qa qc) 84 (0, 0)) := (hf.block ep hl.2.1 (fun h => (hk.qt ep h).2.1 rfl)).trans hk.eb
  have ko : ∀ k, k < W.heap.size → k ≠ ep → ¬ Q k → (W5.setRow ep (ecells e' a' c')).heap[k]? = W.heap[k]? := fun k h1 h2 h3 => (hb k h2).trans (hf.block k h1 h3)
  refine ⟨hbx, ⟨(ko tp hl.1 hn.1 (fun h => (hk.qt tp h).1 rfl)).trans hk.tb, setRow_heap _ _ _ _ _ _ hbx,
    ⟨(ko mp hl.2.2.1 (Ne.symm hn.2.2.2.1) (fun h => (hk.qt mp h).2.2.1 rfl)).trans hk.im.ptr, (ko g hl.2.2.2 (Ne.symm hn.2.2.2.2) (fun h => (hk.qt g h).2.2.2 rfl)).trans hk.im.row, hk.im.ok, hk.im.byt⟩,
    hk.so.kept fun k h1 h2 => ko k h2 (hk.st k h1).2.1 (fun h => hk.dj k h1 h), ?_, fun k h1 => by rw [hs]; exact Nat.lt_of_lt_of_le (hk.sl k h1) hf.size, fun k h1 => by rw [hs]; exact h1.2, ?_, hk.st, ?_, hk.sok, hok, hby, hk.nl⟩, ?_, h.sn, ?_⟩
  · show OwnQ _ _ a' c' e'.q
    rcases ho with h1 | ⟨j, o, cur, e, h1, h2, r⟩
    · exact .inl h1
    · have hj := (Array.getElem?_eq_some_iff.1 h2).1
      refine .inr ⟨j, o, cur, e, ⟨h1, hj⟩, (hb j ?_).trans h2, r⟩
      rintro rfl
      rcases h1 with h1 | h1
      · exact (hk.qt _ h1).2.1 rfl
      · omega
  · intro k h1 h2
    rcases h2.1 with h2 | h2
    · exact hk.dj k h1 h2
    · have := hk.sl k h1; omega
  · intro k h1
    rcases h1.1 with h1 | h1
    · exact hk.qt k h1
    · exact ⟨by omega, by omega, by omega, by omega⟩
  · refine h.fr.trans (G := own tp ep g S Q) (Fr.trans (G := fun k => k = ep) (F := own tp ep g S Q) ⟨hf.os, hf.tape, hf.output, hf.size, fun k h1 h2 => hf.block k h1 (fun h3 => h2 (.inr (.inr (.inr (.inr h3)))))⟩ ⟨rfl, rfl, rfl, by rw [hs]; exact Nat.le_refl _, fun k _ hk => hb k hk⟩ (fun i hi => .inl (.inr (.inl hi)))) h.own_sub
  · intro k h1
    rcases h1.1 with h1 | h1
    · exact h.qn k h1
    · exact .inr (by rw [h1]; exact h.fr.size)
theorem Tw.newrow {w W : World} {tp ep mp g : Nat} {S Q : Nat → Prop} {sa sa0 : Option Addr} {sc sc0 : Nat} {qa qa0 : Option Addr} {qc qc0 : Nat} {T T0 : Tg} (h : Tw w W tp ep mp g S Q S Q sa sc qa qc T) (h0 : Tk w tp ep mp g S Q sa0 sc0 qa0 qc0 T0) {nb : Nat} (hn : w.heap.size ≤ nb) (cs : Array Value) :
    Tw w (W.setRow nb cs) tp ep mp g S Q S Q sa sc qa qc T := by
  have hs : (W.setRow nb cs).heap.size = W.heap.size := by simp
  have hb : ∀ k, k ≠ nb → (W.setRow nb cs).heap[k]? = W.heap[k]? := fun k hk => setRow_other _ _ _ _ hk
  have hl := h0.lt
  have hk := h.tk
  refine ⟨⟨(hb tp (by omega)).trans hk.tb, (hb ep (by omega)).trans hk.eb, ⟨(hb mp (by omega)).trans hk.im.ptr, (hb g (by omega)).trans hk.im.row, hk.im.ok, hk.im.byt⟩, hk.so.kept fun k h1 _ => hb k (by have := h0.sl k h1; omega), hk.qo.kept fun k h1 _ => hb k (by have := h0.ql k h1; omega),
    fun k h1 => by rw [hs]; exact hk.sl k h1, fun k h1 => by rw [hs]; exact hk.ql k h1, hk.dj, hk.st, hk.qt, hk.sok, hk.qok, hk.qby, hk.nl⟩, ?_, h.sn, h.qn⟩
  exact h.fr.trans (G := fun k => k = nb) ⟨rfl, rfl, rfl, by rw [hs]; exact Nat.le_refl _, fun k _ hk => hb k hk⟩ (fun i hi => .inr (by rw [hi]; exact hn))
theorem put_run {P : Program} {w : World} (ty : TypeId) (g off : Nat) (v : Value) (t : TypeId) (cur : Array Value) (hr : w.heap[g]? = some (.cells cur t (0, 0))) (hi : (P.info? ty).map (·.size) = some v.cells.size)
    (hle : off + v.cells.size ≤ cur.size) (h1 : ∀ u ∈ v.cells.toList, u.oneCell' = true) (cs' : Array Value) (hcs : (cur.toList.take off ++ v.cells.toList ++ cur.toList.drop (off + v.cells.size)).toArray = cs') :
    (Instr.storeAt ty (.pointer (some ⟨g, off, none⟩)) v).run P w = .ok () (w.setRow g cs') := by
  have hst := run_storeCells_at (P := P) g off t v.cells.toList 0 cur w hr (by simpa using hle) h1
  simp only [Nat.add_zero, Array.length_toList] at hst
  rw [hcs] at hst
  cases hq : P.info? ty with
  | none => simp [hq] at hi
  | some i =>
    have hs : v.cells.size = i.size := by have := hi; simp only [hq, Option.map] at this; injection this with this; exact this.symm
    simp only [Instr.storeAt, Instr.sureAddr, storeVar, sizeOf, typeInfo, Sem.run_bind, Sem.run_pure, Result.andThen_ok]
    simp [typeInfo, hq, hs, hst]
theorem put_to {P : Program} {o : Oper} {ρ : Operand → Value} {w : World} (ty : TypeId) (x y : Operand) (ho : o.op = .store ty x y) (g off : Nat) (v : Value) (hx : ρ x = .pointer (some ⟨g, off, none⟩)) (hy : ρ y = v) (t : TypeId) (cur : Array Value)
    (hr : w.heap[g]? = some (.cells cur t (0, 0))) (hi : (P.info? ty).map (·.size) = some v.cells.size) (hle : off + v.cells.size ≤ cur.size) (h1 : ∀ u ∈ v.cells.toList, u.oneCell' = true) (cs' : Array Value)
    (hcs : (cur.toList.take off ++ v.cells.toList ++ cur.toList.drop (off + v.cells.size)).toArray = cs') : (execOp ρ o).run P w = .ok .skip (w.setRow g cs') := by
  have hl := put_run (P := P) ty g off v t cur hr hi hle h1 cs' hcs
  unfold execOp
  simp only [ho, hx, hy, Sem.run_bind, hl, Sem.run_pure, Result.andThen_ok]
theorem wpList_put {P : Program} {ops : Array Oper} {rest : List Oper} {o : Oper} {a : Act} {w : World} {Q : Exit → Act → World → Prop} (hg : o.guard = none) (ty : TypeId) (x y : Operand) (ho : o.op = .store ty x y) (g off : Nat) (v : Value) (hx : a.eval x = .pointer (some ⟨g, off, none⟩)) (hy : a.eval y = v) (t : TypeId) (cur : Array Value)
    (hr : w.heap[g]? = some (.cells cur t (0, 0))) (hi : (P.info? ty).map (·.size) = some v.cells.size) (hle : off + v.cells.size ≤ cur.size) (h1 : ∀ u ∈ v.cells.toList, u.oneCell' = true) (cs' : Array Value)
    (hcs : (cur.toList.take off ++ v.cells.toList ++ cur.toList.drop (off + v.cells.size)).toArray = cs') (hk : wpList P ops Q rest (a.put o.dst undef) (w.setRow g cs')) : wpList P ops Q (o :: rest) a w := by
  refine wpList_plain hg fun K' hK' => ?_
  exact Og.skip_to (put_to ty x y ho g off v hx hy t cur hr hi hle h1 cs' hcs) (hK' _ _ hk)
theorem one_int (k : IntKind) (n : Int) : ∀ u ∈ (Value.int k n).cells.toList, u.oneCell' = true := by intro u hu; simp [Value.cells] at hu; subst hu; rfl
theorem one_bool (b : Bool) : ∀ u ∈ (Value.bool b).cells.toList, u.oneCell' = true := by intro u hu; simp [Value.cells] at hu; subst hu; rfl
theorem one_slice (a : Option Addr) (n c : Nat) : ∀ u ∈ (Value.slice a n c).cells.toList, u.oneCell' = true := by intro u hu; simp [Value.cells] at hu; subst hu; rfl
theorem one_bools (a b c d : Bool) : ∀ u ∈ (Value.agg #[.bool a, .bool b, .bool c, .bool d]).cells.toList, u.oneCell' = true := by
  intro u hu
  simp [Value.cells] at hu
  rcases hu with rfl | rfl | rfl | rfl <;> rfl
theorem msg_cell {w : World} {mb : Nat} {m : E} (h : w.heap[mb]? = some (.cells (cells m).toArray 67 (0, 0))) : w.cell? ⟨mb, 0, none⟩ = some (.int .i64 m.k) ∧ w.cell? ⟨mb, 1, none⟩ = some (.int .i64 m.f) ∧ w.cell? ⟨mb, 2, none⟩ = some (.int .i64 m.t) ∧ w.cell? ⟨mb, 3, none⟩ = some (.int .u32 m.n) := by
  refine ⟨?_, ?_, ?_, ?_⟩ <;> (rw [cell_of_row _ _ _ _ _ _ h]; rfl)
theorem append_room_off {P : Program} {w : World} (t ty e : TypeId) (i : TypeInfo) (ht : P.underlying t = some (.slice e)) (hi : P.info? e = some i)
    (g off sLen sCap : Nat) (cur : Array Value) (hg : w.heap[g]? = some (.cells cur e (0, 0)))
    (a : Addr) (m c : Nat) (news : List Value) (hl : news.length = m * i.size) (hnews : ∀ j u, news[j]? = some u → w.cell? (a.add j) = some u) (h1 : ∀ u ∈ news, u.oneCell' = true)
    (hroom : sLen + m ≤ sCap) (hfit : off + sLen * i.size + news.length ≤ cur.size) :
    (Builtin.append_ #[t, t] ty #[.slice (some ⟨g, off, none⟩) sLen sCap, .slice (some a) m c]).run P w =
      .ok (.slice (some ⟨g, off, none⟩) (sLen + m) sCap) (w.setRow g (cur.toList.take (off + sLen * i.size) ++ news ++ cur.toList.drop (off + sLen * i.size + news.length)).toArray) := by
  have hf := run_firstCells_some (P := P) w i.size m a m c news hl hnews
  have hst := run_storeCells_at (P := P) g (off + sLen * i.size) e news 0 cur w hg (by simpa using hfit) h1
  simp only [Nat.add_zero] at hst
  simp [Builtin.append_, run_underlying ht, sizeOf, typeInfo, hi, Builtin.lenOf, hroom, hf, Addr.add_lit, hst]
theorem qappend {w : World} {F : Nat → Prop} {a c l} (h : OwnQ w F a c l) (hok : ∀ e ∈ l, Ok e) {a2 : Option Addr} {c2 : Nat} {x : E} (h2 : LsIn w a2 c2 [x]) (hl : l.length + 1 ≤ 4096) :
    ∃ (a' : Option Addr) (c' : Nat) (w' : World), (Builtin.append_ #[56, 56] 56 #[.slice a l.length c, .slice a2 1 c2]).run Try.prog w = .ok (.slice a' (l ++ [x]).length c') w' ∧
      OwnQ w' (fun k => F k ∨ k = w.heap.size) a' c' (l ++ [x]) ∧ Fr F w w' := by
  obtain ⟨i0, hi, hz0, hz1, hz2⟩ := info_msg
  have HS := src_ls h2
  have hlx : (flat [x]).length = 1 * 20 := flat_len h2.ok
  have hll : (flat l).length = l.length * 20 := flat_len hok
  have hoks : ∀ e ∈ l ++ [x], Ok e := fun e he => (List.mem_append.1 he).elim (hok e) (h2.ok e)
  rw [List.length_append]
  have grow : ∀ (hold : (Builtin.firstCells i0.size l.length (.slice a l.length c)).run Try.prog w.drew = .ok (flat l).toArray w.drew) (hc : c < l.length + 1), 
      ∃ (a' : Option Addr) (c' : Nat) (w' : World), (Builtin.append_ #[56, 56] 56 #[.slice a l.length c, .slice a2 1 c2]).run Try.prog w = .ok (.slice a' (l.length + [x].length) c') w' ∧
      OwnQ w' (fun k => F k ∨ k = w.heap.size) a' c' (l ++ [x]) ∧ Fr F w w' := by
    intro hold hc
    have hr := run_append_grow_src (P := Try.prog) w 56 56 56 67 i0 (EV E0) Try.underlying56 hi hz0 a l.length c (flat l) hold _ 1 _ (by rw [hz1]; exact HS) (by omega) (by omega) (growslice_fits (by omega) (by rw [hz2]; omega))
    have hge := grownCap_ge w (l.length + 1) c 67
    have hcm := grownCap_le_maxLen w (l.length + 1) c 67 (by unfold maxLen; omega)
    refine ⟨_, _, _, hr, .inr ⟨w.heap.size, 0, _, rfl, .inr rfl, heap_alloc_new w.drew _, by simp only [List.length_append, List.length_singleton]; omega, hcm, ?_, ?_⟩, Fr.grown (r := none) ⟨rfl, rfl, rfl, by simp, fun k hk _ => Below.heap_alloc w.drew _ k hk⟩ (fun k hk => by cases hk)⟩
    · simp only [Array.size_append, List.size_toArray, size_zeroCells, List.length_append]
      rw [hlx, hll, show (EV E0).cells.size = 20 from by kernel_rfl]
      omega
    · simp only [Array.toList_append]
      rw [flat_app, List.length_append, Nat.add_mul, ← hll, show [x].length * 20 = (flat [x]).length by rw [hlx]; rfl, ← List.length_append, Nat.zero_mul, List.drop_zero]; exact List.take_left
  rcases h with ⟨rfl, rfl⟩ | ⟨g, o, cur, rfl, hf, hg, h1, h3, h4, h5⟩
  · refine grow ?_ (by simp)
    cases a with
    | none => exact run_firstCells_none _ _ _ _ _
    | some ad => exact run_firstCells_some _ _ _ _ _ _ [] (by simp) (fun j v hj => by simp at hj)
  · by_cases hroom : l.length + 1 ≤ c
    · obtain ⟨g2, o2, e2, _⟩ := h2.at_ (k := 0) (e := x) rfl
      subst e2
      have hfit : o * 20 + l.length * 20 + (flat [x]).length ≤ cur.size := by rw [hlx]; omega
      have hr := append_room_off (P := Try.prog) (w := w) 56 56 67 i0 Try.underlying56 hi g (o * 20) l.length c cur hg ⟨g2, o2, none⟩ 1 c2 (flat [x]) (by rw [hz1]; exact hlx) h2.news flat_one_cells hroom (by rw [hz1]; exact hfit)
      rw [hz1] at hr
      refine ⟨_, _, _, hr, .inr ⟨g, o, _, rfl, .inl hf, setRow_heap w g cur _ 67 _ hg, by rw [List.length_append]; exact hroom, h3, ?_, ?_⟩, Fr.grown (r := some g) ⟨rfl, rfl, rfl, by simp, fun k _ hk => setRow_other w g k _ (fun e => hk (by rw [e]))⟩ (fun k hk _ => by injection hk with hk; exact hk ▸ hf)⟩
      · simp only [List.size_toArray, List.length_append, List.length_take, List.length_drop, Array.length_toList]
        omega
      · have e1 : (cur.toList.take (o * 20 + l.length * 20)).length = o * 20 + l.length * 20 := by
          have h9 : cur.toList.length = cur.size := by simp
          rw [List.length_take]; omega
        show (List.drop (o * 20) (List.take (o * 20 + l.length * 20) cur.toList ++ flat [x] ++ List.drop (o * 20 + l.length * 20 + (flat [x]).length) cur.toList)).take ((l ++ [x]).length * 20) = flat (l ++ [x])
        rw [List.append_assoc, List.drop_append_of_le_length (by rw [e1]; omega), List.drop_take, show o * 20 + l.length * 20 - o * 20 = l.length * 20 by omega, h5, flat_app, ← List.append_assoc, List.length_append, Nat.add_mul, ← hll, show [x].length * 20 = (flat [x]).length by rw [hlx]; rfl, ← List.length_append]
        exact List.take_left
    · refine grow ?_ (by omega)
      refine run_firstCells_some w.drew _ _ _ _ _ (flat l) (by rw [hz1]; exact hll) (fun j u hj => ?_)
      have h6 := take_at h5 hj
      rw [List.getElem?_drop] at h6
      show w.cell? _ = _
      rw [Go.WideShapes.add_plain, cell_of_row _ _ _ _ _ _ hg]
      simpa using h6
theorem region_post {P : Program} {id : Nat} {ops : Array Oper} {b : Bool} {Q : Exit → Act → World → Prop} {a : Act} {w : World} (G : Act → Nat → Option Addr → Nat → Act) (Facts : World → Nat → Option Addr → Nat → Prop)
    (h1 : (Code.region id ops b).wp P (fun e a' w' => e = .normal ∧ ∃ nb a3 c3, a' = G a nb a3 c3 ∧ Facts w' nb a3 c3) a w)
    (h2 : ∀ nb a3 c3 w', Facts w' nb a3 c3 → Q .normal (G a nb a3 c3) w') : (Code.region id ops b).wp P Q a w := by
  refine Code.wp_mono (Q := fun e a' w' => e = .normal ∧ ∃ nb a3 c3, a' = G a nb a3 c3 ∧ Facts w' nb a3 c3) ?_ h1
  rintro e a' w' ⟨rfl, nb, a3, c3, rfl, hf⟩
  exact h2 nb a3 c3 w' hf
section
open Og
variable {P : Program} {md : Region.Mode} {ops : Array Oper} {Q : Exit → Act → World → Prop} {S : Nat → World → Prop}
theorem s_take_g {fuel : Nat} {listed : Array Bool} {a : Act} {w : World} (i : Nat) (o : Oper) (v : Value) (a' : Act) (hi : ops[i]? = some o) (hg : Region.wanted o (yielded ops a.tmps) = true)
    (hs : Region.noSelect ops = true) (hf : Region.free md ops listed i = true) (hr : (Region.ready md ops listed).contains i = true)
    (hQ : ∀ c a w, Q (.panic c) (a.put o.dst v) w → Q (.panic c) a w) (hS : S i w)
    (hrun : ∀ x, S i x → (execOp a.eval o).run P x = .ok (.value v) x) (ha : a.put o.dst v = a')
    (h : Og.wpAnyS P md ops Q S fuel (listed.setIfInBounds i true) a' w) : Og.wpAnyS P md ops Q S (fuel + 1) listed a w :=
  Og.wpAnyS_first hi (Region.noSelect_spec hs) hQ fuel listed a w (Region.free_spec hi hf) (by simpa using hr) (Or.inl ⟨hg, hrun⟩) hS (by rw [ha]; exact h)
end
structure Stop (p : Prop) : Prop where
  out : p
end Hm
end Go.Proofs.Ytfajkgbpeapcbaa
end
