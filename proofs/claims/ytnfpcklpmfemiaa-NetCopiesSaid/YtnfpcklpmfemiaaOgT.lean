/-
  The region of XOgC by lists: what an operation leaves is a value, or a block of its own that has not been written yet, or something that speaks of its value alone. No program is named here.
-/
import Derived.Test.YtnfpcklpmfemiaaOgC
import Derived.Laws.Tables
namespace Go.Proofs.Ytnfpcklpmfemiaa
set_option linter.unusedVariables false
namespace Og
open Go.RowKit
variable {P : Program}
inductive Sq where
  | is (v : Value)
  | new (o : Obj)
  | sl (o : Obj) (n m : Nat)
  | sat (p : Value → Prop)
def Sq.holds (B : Nat) : Sq → Value → World → Prop
  | .is u, v, _ => v = u
  | .new o, v, w => ∃ b, v = .pointer (some ⟨b, 0, none⟩) ∧ B ≤ b ∧ w.heap[b]? = some o
  | .sl o n m, v, w => ∃ b, v = .slice (some ⟨b, 0, none⟩) n m ∧ B ≤ b ∧ w.heap[b]? = some o
  | .sat p, v, _ => p v
theorem Sq.stab {B : Nat} (s : Sq) {v : Value} {w w' : World} (h : s.holds B v w) (hb : Below w.heap.size w w') : s.holds B v w' := by
  cases s with
  | is u => exact h
  | sat p => exact h
  | new o => obtain ⟨b, h1, h2, h3⟩ := h; exact ⟨b, h1, h2, (hb.block b (Array.getElem?_eq_some_iff.1 h3).1).trans h3⟩
  | sl o n m => obtain ⟨b, h1, h2, h3⟩ := h; exact ⟨b, h1, h2, (hb.block b (Array.getElem?_eq_some_iff.1 h3).1).trans h3⟩
def sq (S : List Sq) (j : Nat) : Sq := S.getD j (.is undef)
def depq (B : Nat) (own : Nat → Option Nat) (a0 : Act) (S : List Sq) (ρ : Operand → Value) (w : World) : Operand → Prop
  | .tmp t => match own t with | some i => (sq S i).holds B (ρ (.tmp t)) w | none => ρ (.tmp t) = a0.tmps.getD t undef
  | .const c => ρ (.const c) = c
  | .global g => ρ (.global g) = .pointer (some ⟨g, 0, none⟩)
  | .func f => ρ (.func f) = .func (.func f) #[] #[]
def depsq (B : Nat) (own : Nat → Option Nat) (a0 : Act) (S : List Sq) (ρ : Operand → Value) (w : World) : List Operand → Prop
  | [] => True
  | x :: r => depq B own a0 S ρ w x ∧ depsq B own a0 S ρ w r
theorem depsq_of {B : Nat} {own : Nat → Option Nat} {ops : Array Oper} {a0 : Act} {S : List Sq} {ρ : Operand → Value} {w : World} : ∀ {l : List Operand}, (∀ t, .tmp t ∈ l → own t = owner ops t) →
    deps ops a0 (fun j => (sq S j).holds B) ρ w l → depsq B own a0 S ρ w l
  | [], _, _ => trivial
  | x :: r, h, hd => by
    refine ⟨?_, depsq_of (fun t ht => h t (List.mem_cons_of_mem _ ht)) hd.2⟩
    have h1 := hd.1
    cases x with
    | tmp t =>
      simp only [depq, h t List.mem_cons_self]
      exact h1
    | const c => exact h1
    | global g => exact h1
    | func f => exact h1
/-- what is owed of operation j -/
def oblq (P : Program) (B c : Nat) (Ph : Bool → World → Prop) (turn : World → World → Prop) (own : Nat → Option Nat) (a0 : Act) (S : List Sq) (W : List Bool) (j : Nat) (o : Oper) : Prop :=
  (match o.guard with | none => W.getD j true = true | some (g, b) => ∀ (v : Value) (w : World), (sq S g).holds B v w → if W.getD j true = true then v = .bool b else v ≠ .bool b) ∧
  (if j = c then W.getD j true = true ∧ ∀ (ρ : Operand → Value) (w1 : World), Ph false w1 → depsq B own a0 S ρ w1 o.op.operands.toList → gives P o ρ w1 (fun v w' => (turn w1 w' ∧ Ph true w') ∧ (sq S j).holds B (left o v) w')
   else ∀ (ρ : Operand → Value) (w1 : World) (b : Bool), Ph b w1 → depsq B own a0 S ρ w1 o.op.operands.toList →
    if W.getD j true = true then gives P o ρ w1 (fun v w' => Below w1.heap.size w1 w' ∧ (sq S j).holds B (left o v) w') else (sq S j).holds B undef w1)
def oblqs (P : Program) (B c : Nat) (Ph : Bool → World → Prop) (turn : World → World → Prop) (own : Nat → Option Nat) (a0 : Act) (S : List Sq) (W : List Bool) : Nat → List Oper → Prop
  | _, [] => True
  | j, o :: r => oblq P B c Ph turn own a0 S W j o ∧ oblqs P B c Ph turn own a0 S W (j + 1) r
theorem oblqs_at {B c : Nat} {Ph : Bool → World → Prop} {turn : World → World → Prop} {own : Nat → Option Nat} {a0 : Act} {S : List Sq} {W : List Bool} : ∀ {l : List Oper} {k : Nat}, oblqs P B c Ph turn own a0 S W k l → ∀ {j : Nat} {o : Oper}, l[j]? = some o → oblq P B c Ph turn own a0 S W (k + j) o
  | [], _, _, _, _, h => by simp at h
  | x :: r, k, h, 0, o, ho => by
    simp at ho
    subst ho
    exact h.1
  | x :: r, k, h, j + 1, o, ho => by
    have := oblqs_at h.2 (j := j) (o := o) (by simpa using ho)
    rwa [show k + 1 + j = k + (j + 1) by omega] at this
def okq (own : Nat → Option Nat) (ops : Array Oper) (sz n : Nat) : Bool := ok ops sz && tailOk ops n && decide (n ≤ ops.size) && ((List.range ops.size).all fun j => match ops[j]? with
  | some o => (o.op.operands.all fun x => match x with | .tmp t => own t == owner ops t && (decide (n ≤ j) || (match owner ops t with | some i => decide (i < n) | none => true)) | _ => true) &&
      (decide (n ≤ j) || (match o.guard with | some (g, _) => decide (g < n) | none => true))
  | none => true)
theorem regionQ {id : Nat} {ls : List Oper} {Q : Exit → Act → World → Prop} {a0 : Act} {w : World} (hm : P.follows .mixedOrders = true) (n c : Nat) (Ph : Bool → World → Prop) (turn : World → World → Prop)
    (hph : ∀ b w w', Ph b w → Below w.heap.size w w' → Ph b w') (hph0 : Ph false w.drew) (hturn : ∀ x y b, turn x y → w.heap.size ≤ b → b < x.heap.size → y.heap[b]? = x.heap[b]?)
    (own : Nat → Option Nat) (S : List Sq) (W : List Bool) (hok : okq own ls.toArray a0.tmps.size n = true) (h : oblqs P w.heap.size c Ph turn own a0 S W 0 (ls.take n))
    (hend : ∀ (vs : Nat → Value) (w1 : World), Ph (decide (c < n)) w1 → (∀ (j : Nat) (o : Oper) (d : Nat), (ls.take n)[j]? = some o → o.dst = some d → (sq S j).holds w.heap.size (vs j) w1) →
      wpList P ls.toArray Q (ls.drop n) (putAll 0 (ls.take n) vs a0) w1) :
    (Code.region id ls.toArray true).wp P Q a0 w := by
  unfold okq at hok
  simp only [Bool.and_eq_true, decide_eq_true_eq] at hok
  obtain ⟨⟨⟨hok1, hok2⟩, hnl⟩, hok3⟩ := hok
  have at3 : ∀ (j : Nat) (o : Oper), ls[j]? = some o → (∀ t, .tmp t ∈ o.op.operands.toList → own t = owner ls.toArray t ∧ (j < n → ∀ i, owner ls.toArray t = some i → i < n)) ∧ (j < n → ∀ g b, o.guard = some (g, b) → g < n) := by
    intro j o ho
    have hj := (List.getElem?_eq_some_iff.1 ho).1
    have h1 := List.all_eq_true.1 hok3 j (List.mem_range.2 (by simpa using hj))
    have ho' : ls.toArray[j]? = some o := by simpa using ho
    rw [ho'] at h1
    simp only [Bool.and_eq_true] at h1
    refine ⟨fun t ht => ?_, fun hjn g b hg => ?_⟩
    · have h2 := Array.all_eq_true_iff_forall_mem.1 h1.1 (.tmp t) (by simpa using ht)
      simp only [Bool.and_eq_true, Bool.or_eq_true, decide_eq_true_eq] at h2
      refine ⟨by simpa using h2.1, fun hjn i hi => ?_⟩
      have h3 := h2.2
      rw [hi] at h3
      simp only [decide_eq_true_eq] at h3
      omega
    · have h2 := h1.2
      rw [hg] at h2
      simp only [Bool.or_eq_true, decide_eq_true_eq] at h2
      omega
  have tk : ∀ (j : Nat) (o : Oper), j < n → ls.toArray[j]? = some o → (ls.take n)[j]? = some o := fun j o hj ho => by
    rw [List.getElem?_take_of_lt hj]; simpa using ho
  refine regionC hm n c Ph turn hph hph0 (fun j => (sq S j).holds w.heap.size) (fun j v w1 w2 h hb => (sq S j).stab h hb) (fun j v w1 w2 h ht => ?_) (fun j => W.getD j true) hok1 hok2 hnl
    (fun j o hj ho => ?_) (fun j o hj ho ρ w1 b hp hc hd => ?_) (fun j i t o hj ho ht hi => ((at3 j o (by simpa using ho)).1 t ht).2 hj i hi) (fun a w1 hp hdf hsz hall hout => ?_)
  · cases hs : sq S j with
    | is u => rw [hs] at h; exact h
    | sat p => rw [hs] at h; exact h
    | new o =>
      rw [hs] at h
      obtain ⟨b, h1, h2, h3⟩ := h
      exact ⟨b, h1, h2, (hturn _ _ b ht h2 (Array.getElem?_eq_some_iff.1 h3).1).trans h3⟩
    | sl o n' m' =>
      rw [hs] at h
      obtain ⟨b, h1, h2, h3⟩ := h
      exact ⟨b, h1, h2, (hturn _ _ b ht h2 (Array.getElem?_eq_some_iff.1 h3).1).trans h3⟩
  · have := (oblqs_at h (tk j o hj ho)).1
    rw [Nat.zero_add] at this
    cases hg : o.guard with
    | none => rw [hg] at this; exact this
    | some gb =>
      obtain ⟨g, b⟩ := gb
      rw [hg] at this
      exact ⟨(at3 j o (by simpa using ho)).2 hj g b hg, this⟩
  · have h1 := (oblqs_at h (tk j o hj ho)).2
    rw [Nat.zero_add] at h1
    have hd' := depsq_of (B := w.heap.size) (own := own) (S := S) (fun t ht => ((at3 j o (by simpa using ho)).1 t ht).1) hd
    by_cases hjc : j = c
    · rw [if_pos hjc] at h1
      have hb := hc hjc
      subst hb
      rw [if_pos h1.1]
      have h2 := h1.2 ρ w1 hp hd'
      simpa only [if_pos hjc] using h2
    · rw [if_neg hjc] at h1
      have h2 := h1 ρ w1 b hp hd'
      by_cases hw : W.getD j true = true
      · rw [if_pos hw] at h2 ⊢
        simpa only [if_neg hjc] using h2
      · rw [if_neg hw] at h2 ⊢
        exact ⟨hjc, h2⟩
  · have key := hend (fun j => match (ls.take n)[j]? with | some o => slot o a | none => undef) w1 hp (fun j o d ho hd => by
      have hlt := (List.getElem?_eq_some_iff.1 ho).1
      have hjn : j < n := by simp at hlt; omega
      have := hall j o hjn (by rw [List.getElem?_toArray]; rwa [List.getElem?_take_of_lt hjn] at ho)
      simpa [ho] using this)
    rw [putAll_eq (b := a) (ls.take n) 0 a0 hsz.symm hdf.symm (fun j o d ho hd => ?_) (fun t ht => ?_)] at key
    · simpa using key
    · have hlt := (List.getElem?_eq_some_iff.1 ho).1
      have hjn : j < n := by simp at hlt; omega
      have h1 := (ok_at hok1 (j := j) (o := o) (by rw [List.getElem?_toArray]; rwa [List.getElem?_take_of_lt hjn] at ho)).1 d hd
      refine ⟨by rw [hsz]; exact h1.1, ?_⟩
      simp only [Nat.zero_add, ho, slot, hd]
    · refine hout t fun i hi => ?_
      apply Classical.byContradiction
      intro hlt
      obtain ⟨o, ho, hd⟩ := owner_spec hi
      exact ht i o (tk i o (by omega) ho) hd
/-- no call that turns anything -/
theorem regionP {id : Nat} {ls : List Oper} {Q : Exit → Act → World → Prop} {a0 : Act} {w : World} (hm : P.follows .mixedOrders = true) (n : Nat)
    (own : Nat → Option Nat) (S : List Sq) (W : List Bool) (hok : okq own ls.toArray a0.tmps.size n = true) (hn : (ls.take n).length ≤ 1000)
    (h : oblqs P w.heap.size 1000 (fun _ x => Below w.heap.size w x) (fun _ _ => False) own a0 S W 0 (ls.take n))
    (hend : ∀ (vs : Nat → Value) (w1 : World), Below w.heap.size w w1 → (∀ (j : Nat) (o : Oper) (d : Nat), (ls.take n)[j]? = some o → o.dst = some d → (sq S j).holds w.heap.size (vs j) w1) →
      wpList P ls.toArray Q (ls.drop n) (putAll 0 (ls.take n) vs a0) w1) :
    (Code.region id ls.toArray true).wp P Q a0 w :=
  regionQ hm n 1000 (fun _ x => Below w.heap.size w x) (fun _ _ => False) (fun b x y hx hb => hx.trans (hb.mono hx.size)) ⟨rfl, rfl, rfl, Nat.le_refl _, fun _ _ => rfl⟩ (fun x y b h => h.elim) own S W hok h hend
theorem gives_build {o : Oper} {ρ : Operand → Value} {w : World} {R : Value → World → Prop} (t : TypeId) (parts : Array (Nat × Operand)) (ho : o.op = .build t parts) (cs : Array Value)
    (hb : P.built t (parts.map fun (i, x) => (i, ρ x)).toList = some cs) (hr : R (.agg cs) w) : gives P o ρ w R := by
  refine gives_is (.agg cs) ?_ hr
  unfold execOp
  simp only [ho, Sem.run_bind, run_build w t _ cs hb, Result.andThen_ok, Sem.run_pure]
theorem gives_load {o : Oper} {ρ : Operand → Value} {w : World} {R : Value → World → Prop} (ty : TypeId) (x : Operand) (ho : o.op = .load ty x) (q : Addr) (v : Value) (hx : ρ x = .pointer (some q)) (hl : (loadVar ty q).run P w = .ok v w) (hr : R v w) : gives P o ρ w R := by
  refine gives_is v ?_ hr
  unfold execOp
  simp only [ho, hx, Instr.loadAt, Instr.sureAddr, Sem.run_bind, Sem.run_pure, Result.andThen_ok, hl]
theorem gives_row {o : Oper} {ρ : Operand → Value} {w w1 : World} {R : Value → World → Prop} (ty : TypeId) (x : Operand) (ho : o.op = .load ty x) (g : Nat) (cs : Array Value) (t : TypeId) (fr : Nat × Nat) (d : TypeDesc) (hx : ρ x = .pointer (some ⟨g, 0, none⟩))
    (hg : w.heap[g]? = some (.cells cs t fr)) (hb : Below w.heap.size w w1)
    (hu : P.underlying ty = some d) (hd : (match d with | .struct _ | .array _ _ => true | _ => false) = true) (hi : (P.info? ty).map (·.size) = some cs.size) (hr : R (.agg cs) w1) : gives P o ρ w1 R :=
  gives_load ty x ho _ _ hx (run_loadVar_row w1 g t ty cs fr d ((hb.block g (Array.getElem?_eq_some_iff.1 hg).1).trans hg) hu hd hi) hr
theorem gives_setrow {o : Oper} {ρ : Operand → Value} {w : World} {R : Value → World → Prop} (ty : TypeId) (x y : Operand) (ho : o.op = .store ty x y) (g : Nat) (cells : Array Value) (hx : ρ x = .pointer (some ⟨g, 0, none⟩)) (hy : ρ y = .agg cells)
    (t : TypeId) (old : Array Value) (hg : w.heap[g]? = some (.cells old t (0, 0))) (hi : (P.info? ty).map (·.size) = some cells.size) (hold : old.size = cells.size) (h1 : cells.all (·.oneCell') = true)
    (hr : R undef (w.setRow g cells)) : gives P o ρ w R := by
  unfold gives execOp
  simp only [ho, hx, hy, Instr.storeAt, Instr.sureAddr, Sem.run_bind, Sem.run_pure, Result.andThen_ok, run_storeVar_row w g t ty old cells hg hi hold h1]
  exact hr
/-- ahead of the store of a row, and behind it -/
def PhS (w : World) (g : Nat) (cs : Array Value) : Bool → World → Prop
  | false, x => Below w.heap.size w x
  | true, x => ∃ y, Below w.heap.size w y ∧ Below (y.setRow g cs).heap.size (y.setRow g cs) x
theorem PhS.old {w x : World} {g : Nat} {cs : Array Value} {b : Bool} (h : PhS w g cs b x) {k : Nat} {o : Obj} (hk : k ≠ g) (ho : w.heap[k]? = some o) : x.heap[k]? = some o := by
  have hlt := (Array.getElem?_eq_some_iff.1 ho).1
  cases b with
  | false => exact (Below.block h k hlt).trans ho
  | true =>
    obtain ⟨y, h1, h2⟩ := h
    have h3 : (y.setRow g cs).heap[k]? = some o := (setRow_other y g k cs hk).trans ((h1.block k hlt).trans ho)
    exact (h2.block k (Array.getElem?_eq_some_iff.1 h3).1).trans h3
theorem PhS.cell {w x : World} {g : Nat} {cs : Array Value} {b : Bool} (h : PhS w g cs b x) {k j : Nat} {cells : Array Value} {t : TypeId} {fr : Nat × Nat} (hk : k ≠ g) (ho : w.heap[k]? = some (.cells cells t fr)) : x.cell? ⟨k, j, none⟩ = cells[j]? := by
  rw [cell_of_row x k j _ _ _ (h.old hk ho)]
theorem PhS.below {w0 w x : World} {g B : Nat} {cs : Array Value} (h : PhS w g cs true x) (h0 : Below B w0 w) (hB : B ≤ w.heap.size) (hg : B ≤ g) : Below B w0 x := by
  obtain ⟨y, h1, h2⟩ := h
  have h3 : Below B w0 (y.setRow g cs) := (h0.trans (h1.mono hB)).trans ⟨rfl, rfl, rfl, by simp [World.setRow], fun k hk => setRow_other y g k cs (by omega)⟩
  exact h3.trans (h2.mono (by have := h3.size; have := h0.size; have := h1.size; simp [World.setRow] at *; omega))
theorem PhS.new {w x : World} {g : Nat} {cs old : Array Value} {t : TypeId} {fr : Nat × Nat} (h : PhS w g cs true x) (ho : w.heap[g]? = some (.cells old t fr)) : x.heap[g]? = some (.cells cs t fr) := by
  obtain ⟨y, h1, h2⟩ := h
  have h3 : y.heap[g]? = some (.cells old t fr) := (h1.block g (Array.getElem?_eq_some_iff.1 ho).1).trans ho
  have h4 : (y.setRow g cs).heap[g]? = some (.cells cs t fr) := setRow_heap _ _ _ _ _ _ h3
  exact (h2.block g (Array.getElem?_eq_some_iff.1 h4).1).trans h4
theorem regionS {id : Nat} {ls : List Oper} {Q : Exit → Act → World → Prop} {a0 : Act} {w : World} (hm : P.follows .mixedOrders = true) (n c : Nat) (g : Nat) (cs : Array Value) (hg : g < w.heap.size)
    (own : Nat → Option Nat) (S : List Sq) (W : List Bool) (hok : okq own ls.toArray a0.tmps.size n = true)
    (h : oblqs P w.heap.size c (PhS w g cs) (fun y z => z = y.setRow g cs) own a0 S W 0 (ls.take n))
    (hend : ∀ (vs : Nat → Value) (w1 : World), PhS w g cs (decide (c < n)) w1 → (∀ (j : Nat) (o : Oper) (d : Nat), (ls.take n)[j]? = some o → o.dst = some d → (sq S j).holds w.heap.size (vs j) w1) →
      wpList P ls.toArray Q (ls.drop n) (putAll 0 (ls.take n) vs a0) w1) :
    (Code.region id ls.toArray true).wp P Q a0 w :=
  regionQ hm n c (PhS w g cs) (fun y z => z = y.setRow g cs) (fun b x y hx hb => by
      cases b with
      | false => exact Below.trans hx (hb.mono (Below.size hx))
      | true => obtain ⟨z, h1, h2⟩ := hx; exact ⟨z, h1, h2.trans (hb.mono h2.size)⟩) ⟨rfl, rfl, rfl, Nat.le_refl _, fun _ _ => rfl⟩
    (fun x y b hxy hb hlt => by rw [hxy]; exact setRow_other x g b cs (by omega)) own S W hok h hend
/-- all but two blocks lie as they lay -/
structure Kept (q g : Nat) (w w' : World) : Prop where
  os : w'.os = w.os
  tape : w'.tape = w.tape
  output : w'.output = w.output
  size : w.heap.size ≤ w'.heap.size
  block : ∀ k, k < w.heap.size → k ≠ q → k ≠ g → w'.heap[k]? = w.heap[k]?
theorem Kept.refl (q g : Nat) (w : World) : Kept q g w w := ⟨rfl, rfl, rfl, Nat.le_refl _, fun _ _ _ _ => rfl⟩
theorem Kept.trans {q g : Nat} {a b c : World} (h : Kept q g a b) (k : Kept q g b c) : Kept q g a c :=
  ⟨k.os.trans h.os, k.tape.trans h.tape, k.output.trans h.output, Nat.le_trans h.size k.size, fun i hi h1 h2 => (k.block i (Nat.lt_of_lt_of_le hi h.size) h1 h2).trans (h.block i hi h1 h2)⟩
theorem Kept.of_below {q g : Nat} {w w' : World} (h : Below w.heap.size w w') : Kept q g w w' := ⟨h.os, h.tape, h.output, h.size, fun k hk _ _ => h.block k hk⟩
theorem Kept.of_grown {q g : Nat} {w w' : World} (h : w.grownBy w' (some g)) : Kept q g w w' := ⟨h.os, h.tape, h.output, h.size, fun k hk _ h2 => h.block k hk (by simpa using h2)⟩
theorem Kept.of_grownq {q g : Nat} {w w' : World} (h : w.grownBy w' (some q)) : Kept q g w w' := ⟨h.os, h.tape, h.output, h.size, fun k hk h2 _ => h.block k hk (by simpa using h2)⟩
theorem Kept.setCell {q g : Nat} {a w : World} (h : Kept q g a w) (j : Nat) (u : Value) : Kept q g a (w.setCell ⟨q, j, none⟩ u) :=
  h.trans ⟨rfl, rfl, rfl, by simp [World.setCell], fun k hk h1 _ => Below.heap_setCell _ _ _ _ (by simpa using h1)⟩
theorem Kept.below {q g : Nat} {a b c : World} (h : Kept q g a b) (k : Below b.heap.size b c) : Kept q g a c := h.trans (Kept.of_below k)
theorem Kept.setRow {q g r : Nat} {a w : World} (h : Kept q g a w) (hr : a.heap.size ≤ r) (cs : Array Value) : Kept q g a (w.setRow r cs) :=
  ⟨h.os, h.tape, h.output, by simpa [World.setRow] using h.size, fun k hk h1 h2 => (setRow_other w r k cs (by omega)).trans (h.block k hk h1 h2)⟩
/-- ahead of a call that turns two blocks, and behind it -/
def PhK (w : World) (q g : Nat) (Post : World → Prop) : Bool → World → Prop
  | false, x => Below w.heap.size w x
  | true, x => ∃ y z, Below w.heap.size w y ∧ Kept q g y z ∧ Post z ∧ Below z.heap.size z x
theorem PhK.old {w x : World} {q g : Nat} {Post : World → Prop} {b : Bool} (h : PhK w q g Post b x) {k : Nat} {o : Obj} (h1 : k ≠ q) (h2 : k ≠ g) (ho : w.heap[k]? = some o) : x.heap[k]? = some o := by
  have hlt := (Array.getElem?_eq_some_iff.1 ho).1
  cases b with
  | false => exact (Below.block h k hlt).trans ho
  | true =>
    obtain ⟨y, z, hy, hz, _, hx⟩ := h
    have e1 : y.heap[k]? = some o := (hy.block k hlt).trans ho
    have e2 : z.heap[k]? = some o := (hz.block k (Array.getElem?_eq_some_iff.1 e1).1 h1 h2).trans e1
    exact (hx.block k (Array.getElem?_eq_some_iff.1 e2).1).trans e2
theorem PhK.size {w x : World} {q g : Nat} {Post : World → Prop} {b : Bool} (h : PhK w q g Post b x) : w.heap.size ≤ x.heap.size := by
  cases b with
  | false => exact Below.size h
  | true => obtain ⟨y, z, hy, hz, _, hx⟩ := h; exact Nat.le_trans hy.size (Nat.le_trans hz.size hx.size)
theorem PhK.kept {w x : World} {q g : Nat} {Post : World → Prop} {b : Bool} (h : PhK w q g Post b x) : Kept q g w x := by
  cases b with
  | false => exact Kept.of_below h
  | true => obtain ⟨y, z, hy, hz, _, hx⟩ := h; exact ((Kept.of_below hy).trans hz).below hx
theorem regionK {id : Nat} {ls : List Oper} {Q : Exit → Act → World → Prop} {a0 : Act} {w : World} (hm : P.follows .mixedOrders = true) (n c : Nat) (q g : Nat) (Post : World → Prop) (hq : q < w.heap.size) (hg : g < w.heap.size)
    (own : Nat → Option Nat) (S : List Sq) (W : List Bool) (hok : okq own ls.toArray a0.tmps.size n = true)
    (h : oblqs P w.heap.size c (PhK w q g Post) (Kept q g) own a0 S W 0 (ls.take n))
    (hend : ∀ (vs : Nat → Value) (w1 : World), PhK w q g Post (decide (c < n)) w1 → (∀ (j : Nat) (o : Oper) (d : Nat), (ls.take n)[j]? = some o → o.dst = some d → (sq S j).holds w.heap.size (vs j) w1) →
      wpList P ls.toArray Q (ls.drop n) (putAll 0 (ls.take n) vs a0) w1) :
    (Code.region id ls.toArray true).wp P Q a0 w :=
  regionQ hm n c (PhK w q g Post) (Kept q g) (fun b x y hx hb => by
      cases b with
      | false => exact Below.trans hx (hb.mono (Below.size hx))
      | true => obtain ⟨y', z, h1, h2, h3, h4⟩ := hx; exact ⟨y', z, h1, h2, h3, h4.trans (hb.mono h4.size)⟩) ⟨rfl, rfl, rfl, Nat.le_refl _, fun _ _ => rfl⟩
    (fun x y b hxy hb hlt => hxy.block b hlt (by omega) (by omega)) own S W hok h hend
end Og
end Go.Proofs.Ytnfpcklpmfemiaa
