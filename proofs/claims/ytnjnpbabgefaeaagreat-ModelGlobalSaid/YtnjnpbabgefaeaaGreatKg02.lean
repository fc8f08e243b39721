import Derived.Orders
import Derived.KernelRfl
import Derived.Tactics
import Derived.Below
import Derived.Shelf.SlLaysN
import Derived.Shelf.SlGeneric
import Derived.Ground.SlgnProg
import Derived.Test.YtnjnpbabgefaeaaGreatProg
import Derived.Test.YtnjnpbabgefaeaaGreatRows
import Derived.Test.YtnjnpbabgefaeaaGreatKg01
import Derived.Lib.Hide
import Derived.WalkKit
import Derived.Laws.Rows
import Derived.Laws.Tables
set_option linter.unusedVariables false
set_option linter.unusedSimpArgs false

section
namespace Go.Proofs.YtnjnpbabgefaeaaGreat
namespace Og
def owner (ops : Array Oper) (t : Nat) : Option Nat := (List.range ops.size).find? fun i => (ops[i]?.bind (·.dst)) == some t
def waits (o : Oper) (i : Nat) : Bool := o.after.any fun e => e.on == i && Region.binds .any e
def ok (ops : Array Oper) (n : Nat) : Bool := Region.noSelect ops && (List.range ops.size).all fun j =>
  match ops[j]? with
  | none => false
  | some o =>
    (match o.dst with | none => true | some d => decide (d < n) && owner ops d == some j) &&
    (o.op.operands.all fun x => match x with | .tmp t => (match owner ops t with | some i => waits o i | none => true) | _ => true) &&
    (match o.guard with | none => true | some (g, _) => waits o g && (ops[g]?.bind (·.dst)).isSome) &&
    (o.after.all fun e => !Region.binds .any e || decide (e.on < j))
variable {P : Program}
def gives (P : Program) (o : Oper) (ρ : Operand → Value) (w : World) (R : Value → World → Prop) : Prop :=
  match (execOp ρ o).run P w with
  | .ok (.value u) w' => R u w'
  | .ok .skip w' => R undef w'
  | .ok (.enter f args) w' => Calls P f args w' (fun e w'' => ∃ v, e = .returned v ∧ R v w'')
  | _ => False
def dep (ops : Array Oper) (a0 : Act) (T : Nat → Value → World → Prop) (ρ : Operand → Value) (w : World) : Operand → Prop
  | .tmp t => match owner ops t with | some i => T i (ρ (.tmp t)) w | none => ρ (.tmp t) = a0.tmps.getD t undef
  | .const c => ρ (.const c) = c
  | .global g => ρ (.global g) = .pointer (some ⟨g, 0, none⟩)
  | .func f => ρ (.func f) = .func (.func f) #[] #[]
def deps (ops : Array Oper) (a0 : Act) (T : Nat → Value → World → Prop) (ρ : Operand → Value) (w : World) : List Operand → Prop
  | [] => True
  | x :: r => dep ops a0 T ρ w x ∧ deps ops a0 T ρ w r
theorem deps_of {ops : Array Oper} {a0 : Act} {T : Nat → Value → World → Prop} {ρ : Operand → Value} {w : World} : ∀ {l : List Operand}, (∀ x ∈ l, dep ops a0 T ρ w x) → deps ops a0 T ρ w l
  | [], _ => trivial
  | x :: r, h => ⟨h x List.mem_cons_self, deps_of fun y hy => h y (List.mem_cons_of_mem _ hy)⟩
def slot (o : Oper) (a : Act) : Value := match o.dst with | some d => a.tmps.getD d undef | none => undef
def left (o : Oper) (v : Value) : Value := match o.dst with | some _ => v | none => undef
theorem wp_of_gives {o : Oper} {a : Act} {w : World} {R : Value → World → Prop} {K : Act → World → Prop} {Q : Exit → Act → World → Prop}
    (h : gives P o a.eval w R) (hk : ∀ v w', R v w' → K (a.put o.dst v) w') : o.wp P a w K Q := by
  unfold gives at h
  unfold Oper.wp
  generalize (execOp a.eval o).run P w = r at *
  cases r with
  | ok n w' =>
    cases n <;> simp only [Oper.upon] at h ⊢
    case value u => exact hk _ _ h
    case skip => exact hk _ _ h
    case enter f args => exact h.mono fun e w'' ⟨v, he, hr⟩ => by subst he; exact hk _ _ hr
  | halt x w' => simp at h
theorem owner_spec {ops : Array Oper} {t i : Nat} (h : owner ops t = some i) : ∃ o, ops[i]? = some o ∧ o.dst = some t := by
  have := List.find?_some h
  rw [beq_iff_eq] at this
  obtain ⟨o, ho, hd⟩ := Option.bind_eq_some_iff.1 this
  exact ⟨o, ho, hd⟩
theorem owner_none {ops : Array Oper} {t : Nat} (h : owner ops t = none) {j : Nat} {o : Oper} (ho : ops[j]? = some o) : o.dst ≠ some t := by
  intro hd
  have := List.find?_eq_none.1 h j (List.mem_range.2 (Array.getElem?_eq_some_iff.1 ho).1)
  simp [ho, hd] at this
section
variable {ops : Array Oper} {n : Nat}
theorem ok_at (h : ok ops n = true) {j : Nat} {o : Oper} (ho : ops[j]? = some o) :
    (∀ d, o.dst = some d → d < n ∧ owner ops d = some j) ∧ (∀ t i, .tmp t ∈ o.op.operands.toList → owner ops t = some i → waits o i = true) ∧
    (∀ g b, o.guard = some (g, b) → waits o g = true ∧ ∃ d, (ops[g]?.bind (·.dst)) = some d) ∧ (∀ e ∈ o.after, Region.binds .any e = true → e.on < j) := by
  unfold ok at h
  rw [Bool.and_eq_true, List.all_eq_true] at h
  have h1 := h.2 j (List.mem_range.2 (Array.getElem?_eq_some_iff.1 ho).1)
  rw [ho] at h1
  simp only [Bool.and_eq_true] at h1
  obtain ⟨⟨⟨h1, h2⟩, h3⟩, h4⟩ := h1
  refine ⟨fun d hd => ?_, fun t i ht hi => ?_, fun g b hg => ?_, fun e he hb => ?_⟩
  · rw [hd] at h1; simpa using h1
  · have := Array.all_eq_true_iff_forall_mem.1 h2 (.tmp t) (by simpa using ht)
    simp only [hi] at this
    exact this
  · rw [hg] at h3
    simp only [Bool.and_eq_true, Option.isSome_iff_exists] at h3
    exact h3
  · have := Array.all_eq_true_iff_forall_mem.1 h4 e he
    simpa [hb] using this
theorem waits_spec {o : Oper} {i : Nat} (h : waits o i = true) : ∃ e ∈ o.after, e.on = i ∧ Region.binds .any e = true := by
  unfold waits at h
  obtain ⟨k, hk, hb⟩ := Array.any_eq_true.1 h
  simp at hb
  exact ⟨_, Array.getElem_mem hk, hb⟩
end
theorem filter_lt {l : List Nat} {p q : Nat → Bool} (hpq : ∀ x, q x = true → p x = true) {x : Nat} (hx : x ∈ l) (hp : p x = true) (hq : q x = false) : (l.filter q).length < (l.filter p).length := by
  induction l with
  | nil => cases hx
  | cons y l ih =>
    have hle : (l.filter q).length ≤ (l.filter p).length := by
      clear ih hx
      induction l with
      | nil => simp
      | cons z l ih =>
        by_cases hz : q z = true
        · simp [hz, hpq z hz, ih]
        · by_cases hz' : p z = true
          · simp [hz, hz']; omega
          · simp [hz, hz', ih]
    rcases List.mem_cons.1 hx with rfl | hx
    · simp [hp, hq]; omega
    · have := ih hx
      by_cases hz : q y = true
      · simp [hz, hpq y hz, this]
      · by_cases hz' : p y = true
        · simp [hz, hz']; omega
        · simp [hz, hz', this]
structure Inv (ops : Array Oper) (a0 : Act) (w0 : World) (Rel : World → World → Prop) (T : Nat → Value → World → Prop) (listed : Array Bool) (a : Act) (w : World) : Prop where
  rel : Rel w0 w
  defers : a.defers = a0.defers
  size : a.tmps.size = a0.tmps.size
  lsize : listed.size = ops.size
  all : ∀ (j : Nat) (o : Oper), ops[j]? = some o → listed.getD j false = true → T j (slot o a) w
  out : ∀ t, owner ops t = none → a.tmps.getD t undef = a0.tmps.getD t undef
theorem region {id : Nat} {ops : Array Oper} {Q : Exit → Act → World → Prop} {a0 : Act} {w : World} (hm : P.follows .mixedOrders = true)
    (Rel : World → World → Prop) (refl : ∀ w, Rel w w) (tr : ∀ a b c, Rel a b → Rel b c → Rel a c)
    (T : Nat → Value → World → Prop) (stab : ∀ j v w w', T j v w → Rel w w' → T j v w') (want : Nat → Bool) (hok : ok ops a0.tmps.size = true)
    (hguard : ∀ (j : Nat) (o : Oper), ops[j]? = some o → match o.guard with | none => want j = true | some (g, b) => ∀ (v : Value) (w : World), T g v w → if want j = true then v = .bool b else v ≠ .bool b)
    (hstep : ∀ (j : Nat) (o : Oper), ops[j]? = some o → ∀ (ρ : Operand → Value) (w1 : World), Rel w.drew w1 → deps ops a0 T ρ w1 o.op.operands.toList →
      if want j = true then gives P o ρ w1 (fun v w' => Rel w1 w' ∧ T j (left o v) w') else T j undef w1)
    (hend : ∀ (a : Act) (w1 : World), Rel w.drew w1 → a.defers = a0.defers → a.tmps.size = a0.tmps.size → (∀ (j : Nat) (o : Oper), ops[j]? = some o → T j (slot o a) w1) → (∀ t, owner ops t = none → a.tmps.getD t undef = a0.tmps.getD t undef) → Q .normal a w1) :
    (Code.region id ops true).wp P Q a0 w := by
  have main : ∀ (fuel : Nat) (listed : Array Bool) (a : Act) (w1 : World), Inv ops a0 w.drew Rel T listed a w1 → ((List.range ops.size).filter fun j => !listed.getD j true).length ≤ fuel →
      wpAny P .any ops Q fuel listed a w1 := by
    have done : ∀ (listed : Array Bool) (a : Act) (w1 : World), Inv ops a0 w.drew Rel T listed a w1 → Region.ready .any ops listed = [] → Q .normal a w1 := by
      intro listed a w1 I hr
      have hall : ∀ j, j < ops.size → listed.getD j false = true := by
        intro j
        induction j using Nat.strongRecOn with
        | _ j ih =>
          intro hj
          by_cases hl : listed.getD j false = true
          · exact hl
          · exfalso
            have ho := Array.getElem?_eq_getElem hj
            have hmem : j ∈ Region.ready .any ops listed := by
              rw [mem_ready]
              refine ⟨?_, _, ho, fun e he hb => ?_⟩
              · have hjl : j < listed.size := by rw [I.lsize]; exact hj
                simp [hjl] at hl ⊢
                exact hl
              · have hlt := (ok_at hok ho).2.2.2 e he hb
                exact ih e.on hlt (by omega)
            rw [hr] at hmem
            cases hmem
      exact hend a w1 I.rel I.defers I.size (fun j o ho => I.all j o ho (hall j (Array.getElem?_eq_some_iff.1 ho).1)) I.out
    intro fuel
    induction fuel with
    | zero =>
      intro listed a w1 I hc
      have hr : Region.ready .any ops listed = [] := by
        apply List.eq_nil_iff_forall_not_mem.2
        intro j hj
        have h1 := mem_ready.1 hj
        obtain ⟨h0, o, ho, _⟩ := h1
        have : j ∈ (List.range ops.size).filter fun j => !listed.getD j true := List.mem_filter.2 ⟨List.mem_range.2 (Array.getElem?_eq_some_iff.1 ho).1, by rw [h0]; rfl⟩
        rw [List.eq_nil_of_length_eq_zero (by omega : ((List.range ops.size).filter fun j => !listed.getD j true).length = 0)] at this
        cases this
      exact ⟨hr, done listed a w1 I hr⟩
    | succ fuel ih =>
      intro listed a w1 I hc
      refine ⟨fun hr => done listed a w1 I hr, fun i hi => ?_⟩
      obtain ⟨h0, o, ho, hafter⟩ := mem_ready.1 hi
      obtain ⟨k1, k2, k3, k4⟩ := ok_at hok ho
      have hilt := (Array.getElem?_eq_some_iff.1 ho).1
      -- what it waits for has come up
      have come : ∀ k, waits o k = true → listed.getD k false = true := fun k hk => by
        obtain ⟨e, he, rfl, hb⟩ := waits_spec hk
        exact hafter e he hb
      have hdeps : deps ops a0 T a.eval w1 o.op.operands.toList := deps_of fun x hx => by
        cases x with
        | tmp t =>
          cases hown : owner ops t with
          | none => simp only [dep, hown]; exact I.out t hown
          | some k =>
            obtain ⟨ok', hok', hd⟩ := owner_spec hown
            have := I.all k ok' hok' (come k (k2 t k hx hown))
            simp only [slot, hd] at this
            simp only [dep, hown]
            exact this
        | const c => rfl
        | global g => rfl
        | func f => rfl
      have hstep' := hstep i o ho a.eval w1 I.rel hdeps
      have hcount : ((List.range ops.size).filter fun j => !(listed.setIfInBounds i true).getD j true).length ≤ fuel := by
        have := filter_lt (l := List.range ops.size) (p := fun j => !listed.getD j true) (q := fun j => !(listed.setIfInBounds i true).getD j true)
          (fun x hx => by
            by_cases hxi : i = x
            · subst hxi; simp only [h0]; rfl
            · rw [getD_set_ne true hxi] at hx; exact hx) (List.mem_range.2 hilt) (by simp only [h0]; rfl)
          (by have : i < listed.size := by rw [I.lsize]; exact hilt
              simp [this])
        omega
      have hnext : ∀ v w', Rel w1 w' → T i (left o v) w' → Inv ops a0 w.drew Rel T (listed.setIfInBounds i true) (a.put o.dst v) w' := fun v w' hr ht => by
        refine ⟨tr _ _ _ I.rel hr, ?_, ?_, by simpa using I.lsize, fun j oj hoj hlj => ?_, fun t hn => ?_⟩
        · cases hd : o.dst <;> simp [Act.put, I.defers]
        · cases hd : o.dst <;> simp [Act.put, I.size]
        · by_cases hij : i = j
          · subst hij
            obtain rfl : o = oj := Option.some.inj (ho.symm.trans hoj)
            cases hd : o.dst with
            | none => simpa [slot, left, hd] using ht
            | some d =>
              have hdlt := (k1 d hd).1
              have e : slot o (a.put (some d) v) = v := by
                simp [slot, hd, Act.put, I.size, hdlt]
              rw [e]
              simpa [left, hd] using ht
          · rw [getD_set_ne false hij] at hlj
            have hold := stab _ _ _ _ (I.all j oj hoj hlj) hr
            have e : slot oj (a.put o.dst v) = slot oj a := by
              cases hd : o.dst with
              | none => rfl
              | some d =>
                unfold slot
                cases hdj : oj.dst with
                | none => rfl
                | some dj =>
                  have hne : d ≠ dj := fun e => by
                    subst e
                    have h1 := (k1 d hd).2
                    have h2 := ((ok_at hok hoj).1 d hdj).2
                    rw [h1] at h2
                    exact hij (Option.some.inj h2)
                  simp [Act.put, Array.getElem?_setIfInBounds_ne hne]
            rw [e]; exact hold
        · rw [← I.out t hn]
          cases hd : o.dst with
          | none => rfl
          | some d =>
            have hne : d ≠ t := fun e => owner_none hn ho (e ▸ hd)
            simp [Act.put, Array.getElem?_setIfInBounds_ne hne]
      have hg := hguard i o ho
      -- is it wanted?
      have hw : Region.wanted o (yielded ops a.tmps) = want i := by
        unfold Region.wanted
        cases hgd : o.guard with
        | none => rw [hgd] at hg; simp only at hg; rw [hg]
        | some gb =>
          obtain ⟨g, b⟩ := gb
          rw [hgd] at hg
          simp only at hg
          obtain ⟨hwg, d, hd⟩ := k3 g b hgd
          obtain ⟨og, hog, hdg⟩ := Option.bind_eq_some_iff.1 hd
          have hT := I.all g og hog (come g hwg)
          have hv := hg _ _ hT
          have hdlt : d < a.tmps.size := by rw [I.size]; exact ((ok_at hok hog).1 d hdg).1
          have hs : slot og a = a.tmps[d] := by simp [slot, hdg, hdlt]
          have hy : yielded ops a.tmps g = match a.tmps[d] with | .bool b => some b | _ => none := by
            unfold yielded
            rw [hd]
            simp [hdlt]
            cases a.tmps[d] <;> rfl
          rw [hs] at hv
          simp only [hy]
          cases hwi : want i with
          | true => rw [hwi] at hv; simp only [if_true] at hv; rw [hv]; simp
          | false =>
            rw [hwi] at hv
            simp only [Bool.false_eq_true, if_false] at hv
            cases hx : a.tmps[d] <;> first | rfl | skip
            rename_i bb
            rw [hx] at hv
            have : bb ≠ b := fun e => hv (by rw [e])
            simp [this]
      unfold wpOp
      rw [ho]
      simp only [hw]
      cases hwi : want i with
      | true =>
        rw [hwi] at hstep'
        simp only [if_true] at hstep' ⊢
        exact .inl (wp_of_gives hstep' fun v w' ⟨hr, ht⟩ => ih _ _ _ (hnext v w' hr ht) hcount)
      | false =>
        rw [hwi] at hstep'
        simp only [Bool.false_eq_true, if_false] at hstep' ⊢
        refine ih _ _ _ (hnext undef w1 (refl _) ?_) hcount
        cases hd : o.dst <;> simpa [left, hd] using hstep'
  refine wp_region_any hm (main ops.size (Array.replicate ops.size false) a0 w.drew ⟨refl _, rfl, rfl, by simp, fun j o ho hl => ?_, fun t _ => rfl⟩ ?_)
  · have hj := (Array.getElem?_eq_some_iff.1 ho).1
    simp [hj] at hl
  · exact Nat.le_trans (List.length_filter_le _ _) (by simp)
open Go.RowKit
inductive Sp where
  | is (v : Value)
  | says (p : Value → World → Prop)
def Sp.holds : Sp → Value → World → Prop
  | .is u, v, _ => v = u
  | .says p, v, w => ∃ w1, Below w1.heap.size w1 w ∧ p v w1
def at_ (S : List Sp) (j : Nat) : Sp := S.getD j (.is undef)
def dep2 (own : Nat → Option Nat) (a0 : Act) (S : List Sp) (ρ : Operand → Value) (w : World) : Operand → Prop
  | .tmp t => match own t with | some i => (at_ S i).holds (ρ (.tmp t)) w | none => ρ (.tmp t) = a0.tmps.getD t undef
  | .const c => ρ (.const c) = c
  | .global g => ρ (.global g) = .pointer (some ⟨g, 0, none⟩)
  | .func f => ρ (.func f) = .func (.func f) #[] #[]
def deps2 (own : Nat → Option Nat) (a0 : Act) (S : List Sp) (ρ : Operand → Value) (w : World) : List Operand → Prop
  | [] => True
  | x :: r => dep2 own a0 S ρ w x ∧ deps2 own a0 S ρ w r
def obl (P : Program) (own : Nat → Option Nat) (a0 : Act) (w0 : World) (S : List Sp) (W : List Bool) (j : Nat) (o : Oper) : Prop :=
  (match o.guard with | none => W.getD j true = true | some (g, b) => ∀ (v : Value) (w : World), (at_ S g).holds v w → if W.getD j true = true then v = .bool b else v ≠ .bool b) ∧
  (∀ (ρ : Operand → Value) (w1 : World), Below w0.heap.size w0 w1 → deps2 own a0 S ρ w1 o.op.operands.toList →
    if W.getD j true = true then gives P o ρ w1 (fun v w' => Below w1.heap.size w1 w' ∧ (at_ S j).holds (left o v) w') else (at_ S j).holds undef w1)
def obls (P : Program) (own : Nat → Option Nat) (a0 : Act) (w0 : World) (S : List Sp) (W : List Bool) : Nat → List Oper → Prop
  | _, [] => True
  | j, o :: r => obl P own a0 w0 S W j o ∧ obls P own a0 w0 S W (j + 1) r
theorem obls_at {own : Nat → Option Nat} {a0 : Act} {w0 : World} {S : List Sp} {W : List Bool} : ∀ {l : List Oper} {k : Nat}, obls P own a0 w0 S W k l → ∀ {j : Nat} {o : Oper}, l[j]? = some o → obl P own a0 w0 S W (k + j) o
  | [], _, _, _, _, h => by simp at h
  | x :: r, k, h, 0, o, ho => by
    simp at ho
    subst ho
    exact h.1
  | x :: r, k, h, j + 1, o, ho => by
    have := obls_at h.2 (j := j) (o := o) (by simpa using ho)
    rwa [show k + 1 + j = k + (j + 1) by omega] at this
def ok2 (own : Nat → Option Nat) (ops : Array Oper) (n : Nat) : Bool := ok ops n && ops.all fun o => o.op.operands.all fun x => match x with | .tmp t => own t == owner ops t | _ => true
theorem holds_stab (s : Sp) {v : Value} {w w' : World} (h : s.holds v w) (hb : Below w.heap.size w w') : s.holds v w' := by
  cases s with
  | is u => exact h
  | says p => obtain ⟨w1, hb1, hp⟩ := h; exact ⟨w1, hb1.trans (hb.mono hb1.size), hp⟩
theorem deps2_of {own : Nat → Option Nat} {ops : Array Oper} {a0 : Act} {S : List Sp} {ρ : Operand → Value} {w : World} : ∀ {l : List Operand}, (∀ t, .tmp t ∈ l → own t = owner ops t) →
    deps ops a0 (fun j => (at_ S j).holds) ρ w l → deps2 own a0 S ρ w l
  | [], _, _ => trivial
  | x :: r, h, hd => by
    refine ⟨?_, deps2_of (fun t ht => h t (List.mem_cons_of_mem _ ht)) hd.2⟩
    have h1 := hd.1
    cases x with
    | tmp t =>
      simp only [dep2, h t List.mem_cons_self]
      exact h1
    | const c => exact h1
    | global g => exact h1
    | func f => exact h1
theorem gives_is {o : Oper} {ρ : Operand → Value} {w : World} {R : Value → World → Prop} (v : Value) (h : (execOp ρ o).run P w = .ok (.value v) w) (hr : R v w) : gives P o ρ w R := by
  unfold gives; rw [h]; exact hr
theorem gives_call {o : Oper} {ρ : Operand → Value} {w : World} {R : Value → World → Prop} (f : FuncId) (args : Array Value) (h : (execOp ρ o).run P w = .ok (.enter f args) w)
    (hc : Calls P f args w fun e w' => ∃ v, e = .returned v ∧ R v w') : gives P o ρ w R := by
  unfold gives; rw [h]; exact hc
theorem gives_new {o : Oper} {ρ : Operand → Value} {w w' : World} {R : Value → World → Prop} (v : Value) (h : (execOp ρ o).run P w = .ok (.value v) w') (hr : R v w') : gives P o ρ w R := by
  unfold gives; rw [h]; exact hr
end Og
end Go.Proofs.YtnjnpbabgefaeaaGreat
end

section
namespace Go.Proofs
open Go.Shelf
def Tryz.delInts_ren : Go.Shelf.Ren := ⟨fun | 45 => 70 | n => n, fun | 22 => 23 | 23 => 3 | 3 => 3 | 4 => 4 | 0 => 0 | n => n, fun | n => n⟩
theorem Tryz.delInts : Go.Proofs.SlLaysN.n45 Tryz.prog Tryz.delInts_ren := {
  mixed := by kernel_rfl
  f45 := ⟨Tryz.f70.name, by decide, Tryz.func70.trans (congrArg some (by kernel_rfl))⟩
  t0 := Tryz.underlying0
  a0 := Tryz.isAgg0
  z0 := Tryz.sizeOf0
  v0 := Tryz.zeroValue0
  t3 := Tryz.underlying3
  a3 := Tryz.isAgg3
  z3 := Tryz.sizeOf3
  v3 := Tryz.zeroValue3
  t4 := Tryz.underlying4
  a4 := Tryz.isAgg4
  z4 := Tryz.sizeOf4
  v4 := Tryz.zeroValue4
  t22 := Tryz.underlying23
  a22 := Tryz.isAgg23
  z22 := Tryz.sizeOf23
  v22 := Tryz.zeroValue23
  t23 := Tryz.underlying3
  a23 := Tryz.isAgg3
  z23 := Tryz.sizeOf3
  v23 := Tryz.zeroValue3
  i23 := by kernel_rfl }
end Go.Proofs
end

section
namespace Go.Proofs.YtnjnpbabgefaeaaGreat
open Go.RowKit
namespace Ev
structure Sl where
  a : Option Addr
  c : Nat
  l : List Int
structure R where
  h : Int
  k : Int
  a : Int
  v : Int
  r : Int
  q : Bool
  l : Bool
  p : Int
  s : Int
  z : Bool
  d1 : Sl
  d2 : Sl
  d3 : Sl
structure X where
  ae : Option Addr
  ce : Nat
  ev : List R
  fr : Sl
  ao : Option Addr
  co : Nat
  od : List Sl
def Sl.v (s : Sl) : Value := .slice s.a s.l.length s.c
def cells (x : R) : List Value := [.int .i64 x.h, .int .i64 x.k, .int .u32 x.a, .int .u32 x.v, .int .u32 x.r, .bool x.q, .bool x.l, .int .i64 x.p, .int .i64 x.s, .bool x.z, .slice x.d1.a x.d1.l.length x.d1.c, .slice x.d2.a x.d2.l.length x.d2.c, .slice x.d3.a x.d3.l.length x.d3.c]
def evV (x : R) : Value := .agg (cells x).toArray
def xcells (x : X) : List Value := [.slice x.ae x.ev.length x.ce, .slice x.fr.a x.fr.l.length x.fr.c, .slice x.ao x.od.length x.co]
def exV (x : X) : Value := .agg (xcells x).toArray
def Kp (w w' : World) : Prop := ∀ p v, w.cell? p = some v → w'.cell? p = some v
theorem Kp.refl (w : World) : Kp w w := fun _ _ h => h
theorem Kp.trans {a b c : World} (h : Kp a b) (k : Kp b c) : Kp a c := fun p v e => k p v (h p v e)
theorem kp_below {w w' : World} (h : Below w.heap.size w w') : Kp w w' := fun p v e => (h.cell (World.block_lt_of_cell? w p e)).trans e
theorem kp_of {B : Nat} {w w' : World} (h : Below B w w') (hB : w.heap.size ≤ B) : Kp w w' := fun p v e => (h.cell (Nat.lt_of_lt_of_le (World.block_lt_of_cell? w p e) hB)).trans e
def RowsIn (w : World) (a : Option Addr) (n : Nat) (xs : List (List Value)) : Prop :=
  0 < xs.length → ∃ g o, a = some ⟨g, o, none⟩ ∧ ∀ j v, xs[j]? = some v → ∀ i c, v[i]? = some c → w.cell? ⟨g, o + j * n + i, none⟩ = some c
theorem RowsIn.kp {w w' : World} {a n xs} (h : RowsIn w a n xs) (k : Kp w w') : RowsIn w' a n xs := fun hp => by
  obtain ⟨g, o, e, hc⟩ := h hp
  exact ⟨g, o, e, fun j v hv i c hi => k _ _ (hc j v hv i c hi)⟩
def i64B (n : Int) : Prop := -9223372036854775808 ≤ n ∧ n ≤ 9223372036854775807
def u32B (n : Int) : Prop := 0 ≤ n ∧ n < 4294967296
def IntsIn (w : World) (s : Sl) : Prop :=
  (0 < s.l.length → ∃ g o, s.a = some ⟨g, o, none⟩ ∧ ∀ j v, s.l[j]? = some v → w.cell? ⟨g, o + j, none⟩ = some (.int .i64 v)) ∧ s.l.length ≤ s.c ∧ s.c ≤ 9223372036854775807 ∧ ∀ v ∈ s.l, i64B v
theorem IntsIn.kp {w w' : World} {s} (h : IntsIn w s) (k : Kp w w') : IntsIn w' s :=
  ⟨fun hp => by
    obtain ⟨g, o, e, hc⟩ := h.1 hp
    exact ⟨g, o, e, fun j v hv => k _ _ (hc j v hv)⟩, h.2⟩
structure ROk (w : World) (x : R) : Prop where
  h : i64B x.h
  k : i64B x.k
  a : u32B x.a
  v : u32B x.v
  r : u32B x.r
  p : i64B x.p
  s : i64B x.s
  d1 : IntsIn w x.d1
  d2 : IntsIn w x.d2
  d3 : IntsIn w x.d3
theorem ROk.kp {w w' : World} {x} (h : ROk w x) (k : Kp w w') : ROk w' x := ⟨h.h, h.k, h.a, h.v, h.r, h.p, h.s, h.d1.kp k, h.d2.kp k, h.d3.kp k⟩
structure EvsIn (w : World) (a : Option Addr) (c : Nat) (xs : List R) : Prop where
  rows : RowsIn w a 13 (xs.map cells)
  ok : ∀ x ∈ xs, ROk w x
  le : xs.length ≤ c
  max : c ≤ 9223372036854775807
theorem EvsIn.kp {w w' : World} {a c xs} (h : EvsIn w a c xs) (k : Kp w w') : EvsIn w' a c xs := ⟨h.rows.kp k, fun x hx => (h.ok x hx).kp k, h.le, h.max⟩
structure OdIn (w : World) (a : Option Addr) (c : Nat) (xs : List Sl) : Prop where
  rows : RowsIn w a 1 (xs.map fun s => [s.v])
  ok : ∀ x ∈ xs, IntsIn w x
  le : xs.length ≤ c
  max : c ≤ 9223372036854775807
theorem OdIn.kp {w w' : World} {a c xs} (h : OdIn w a c xs) (k : Kp w w') : OdIn w' a c xs := ⟨h.rows.kp k, fun x hx => (h.ok x hx).kp k, h.le, h.max⟩
structure XIn (w : World) (x : X) : Prop where
  ev : EvsIn w x.ae x.ce x.ev
  fr : IntsIn w x.fr
  od : OdIn w x.ao x.co x.od
theorem XIn.kp {w w' : World} {x} (h : XIn w x) (k : Kp w w') : XIn w' x := ⟨h.ev.kp k, h.fr.kp k, h.od.kp k⟩
theorem EvsIn.at_ {w : World} {a c xs} (h : EvsIn w a c xs) {k : Nat} {x : R} (hk : xs[k]? = some x) :
    ∃ g o, a = some ⟨g, o, none⟩ ∧ (∀ i c, (cells x)[i]? = some c → w.cell? ⟨g, o + k * 13 + i, none⟩ = some c) := by
  have hl := (List.getElem?_eq_some_iff.1 hk).1
  obtain ⟨g, o, e, hc⟩ := h.rows (by simp; omega)
  exact ⟨g, o, e, fun i c hi => hc k (cells x) (by rw [List.getElem?_map, hk]; rfl) i c hi⟩
theorem EvsIn.ok_ {w : World} {a c xs} (h : EvsIn w a c xs) {k : Nat} {x : R} (hk : xs[k]? = some x) : ROk w x := h.ok x (List.mem_of_getElem? hk)
theorem IntsIn.at_ {w : World} {s : Sl} (h : IntsIn w s) {k : Nat} {v : Int} (hk : s.l[k]? = some v) : ∃ g o, s.a = some ⟨g, o, none⟩ ∧ w.cell? ⟨g, o + k, none⟩ = some (.int .i64 v) := by
  have hl := (List.getElem?_eq_some_iff.1 hk).1
  obtain ⟨g, o, e, hc⟩ := h.1 (by omega)
  exact ⟨g, o, e, hc k v hk⟩
theorem IntsIn.b_ {w : World} {s : Sl} (h : IntsIn w s) {k : Nat} {v : Int} (hk : s.l[k]? = some v) : i64B v := h.2.2.2 v (List.mem_of_getElem? hk)
theorem OdIn.at_ {w : World} {a c xs} (h : OdIn w a c xs) {k : Nat} {s : Sl} (hk : xs[k]? = some s) : ∃ g o, a = some ⟨g, o, none⟩ ∧ w.cell? ⟨g, o + k, none⟩ = some (.slice s.a s.l.length s.c) := by
  have hl := (List.getElem?_eq_some_iff.1 hk).1
  obtain ⟨g, o, e, hc⟩ := h.rows (by simp; omega)
  exact ⟨g, o, e, by have := hc k [s.v] (by rw [List.getElem?_map, hk]; rfl) 0 _ rfl; simpa [Sl.v] using this⟩
theorem OdIn.ok_ {w : World} {a c xs} (h : OdIn w a c xs) {k : Nat} {x : Sl} (hk : xs[k]? = some x) : IntsIn w x := h.ok x (List.mem_of_getElem? hk)
end Ev
theorem run_loadVar_at {P : Program} (w : World) (g off : Nat) (ty : TypeId) (cs : List Value) (d : TypeDesc) (hc : ∀ i v, cs[i]? = some v → w.cell? ⟨g, off + i, none⟩ = some v)
    (hu : P.underlying ty = some d) (hd : (match d with | .struct _ | .array _ _ => true | _ => false) = true) (hi : (P.info? ty).map (·.size) = some cs.length) :
    (loadVar ty ⟨g, off, none⟩).run P w = .ok (.agg cs.toArray) w := by
  have hl : (loadCells ⟨g, off, none⟩ cs.length).run P w = .ok cs.toArray w :=
    run_loadCells_list (P := P) w ⟨g, off, none⟩ cs (fun j v hv => by
      have hadd : (⟨g, off, none⟩ : Addr).add j = ⟨g, off + j, none⟩ := by unfold Addr.add; split <;> simp_all
      rw [hadd]; exact hc j v hv)
  cases hq : P.info? ty with
  | none => simp [hq] at hi
  | some i =>
    have hs : i.size = cs.length := by simpa [hq] using hi
    have hagg : (isAgg ty).run P w = .ok true w := by
      unfold isAgg
      rw [Sem.run_bind, run_underlying hu w]
      cases d <;> simp_all
    simp [loadVar, Sem.run_bind, hagg, sizeOf, typeInfo, hq, hs, hl]
theorem wpList_load_at {P : Program} {ops : Array Oper} {rest : List Oper} {o : Oper} {a : Act} {w : World} {Q : Exit → Act → World → Prop} (hgd : o.guard = none) (ty : TypeId) (x : Operand) (ho : o.op = .load ty x)
    (g off : Nat) (hx : a.eval x = .pointer (some ⟨g, off, none⟩)) (cs : List Value) (d : TypeDesc) (hc : ∀ i v, cs[i]? = some v → w.cell? ⟨g, off + i, none⟩ = some v)
    (hu : P.underlying ty = some d) (hd : (match d with | .struct _ | .array _ _ => true | _ => false) = true) (hi : (P.info? ty).map (·.size) = some cs.length)
    (h : wpList P ops Q rest (a.put o.dst (.agg cs.toArray)) w) : wpList P ops Q (o :: rest) a w :=
  wpList_plain hgd fun _ hK => by
    unfold Oper.wp execOp
    simp only [ho, hx, Instr.loadAt, Instr.sureAddr, Sem.run_bind, Sem.run_pure, Result.andThen_ok, run_loadVar_at w g off ty cs d hc hu hd hi]
    exact hK _ _ h
namespace Ev
structure Set1 (w W : World) (g : Nat) (t : TypeId) (cs : Array Value) : Prop where
  row : W.heap[g]? = some (.cells cs t (0, 0))
  size : W.heap.size = w.heap.size
  below : Below g w W
  block : ∀ i, i ≠ g → W.heap[i]? = w.heap[i]?
theorem set1 {w : World} {g : Nat} {t : TypeId} {old cs : Array Value} (hg : w.heap[g]? = some (.cells old t (0, 0))) (hs : old.size = cs.size) : Set1 w (w.setRow g cs) g t cs := by
  refine ⟨?_, ?_, ⟨rfl, rfl, rfl, ?_, fun i hi => ?_⟩, fun i hi => ?_⟩
  · simp [World.setRow, Array.getElem?_modify, hg]
  · simp [World.setRow]
  · simp [World.setRow]
  · simp [World.setRow, Array.getElem?_modify]; omega
  · simp [World.setRow, Array.getElem?_modify, Ne.symm hi]
end Ev
theorem wpList_store_own {P : Program} {ops : Array Oper} {rest : List Oper} {o : Oper} {a : Act} {w : World} {Q : Exit → Act → World → Prop} (hgd : o.guard = none) (ty : TypeId) (x y : Operand) (ho : o.op = .store ty x y)
    (g : Nat) (cells : Array Value) (hx : a.eval x = .pointer (some ⟨g, 0, none⟩)) (hy : a.eval y = .agg cells)
    (t : TypeId) (old : Array Value) (hg : w.heap[g]? = some (.cells old t (0, 0))) (hi : (P.info? ty).map (·.size) = some cells.size)
    (hold : old.size = cells.size) (h1 : cells.all (·.oneCell') = true)
    (h : ∀ W, Ev.Set1 w W g t cells → wpList P ops Q rest (a.put o.dst undef) W) : wpList P ops Q (o :: rest) a w :=
  wpList_store_row hgd ty x y ho g cells hx hy t old hg hi hold h1 (h _ (Ev.set1 hg hold))
theorem Ev.load_row_g {P : Program} {ops : Array Oper} {rest : List Oper} {o : Oper} {a : Act} {w : World} {Q : Exit → Act → World → Prop} (ty : TypeId) (x : Operand) (ho : o.op = .load ty x) (hw : Region.wanted o (yielded ops a.tmps) = true)
    (g : Nat) (hx : a.eval x = .pointer (some ⟨g, 0, none⟩)) (t : TypeId) (cs : Array Value) (fr : Nat × Nat) (d : TypeDesc) (hg : w.heap[g]? = some (.cells cs t fr))
    (hu : P.underlying ty = some d) (hd : (match d with | .struct _ | .array _ _ => true | _ => false) = true) (hi : (P.info? ty).map (·.size) = some cs.size)
    (h : wpList P ops Q rest (a.put o.dst (.agg cs)) w) : wpList P ops Q (o :: rest) a w := by
  unfold wpList
  rw [if_pos hw]
  exact .inl (wp_load_row ty x ho g hx t cs fr d hg hu hd hi h)
end Go.Proofs.YtnjnpbabgefaeaaGreat
end
