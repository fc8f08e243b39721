import Derived.BigQuiet
import Derived.Deep.QuietTactic
import Derived.Below
import Derived.Laws.Rows
import Derived.Orders
import Derived.KernelRfl
import Derived.Tactics
set_option linter.unusedVariables false
set_option linter.unusedSimpArgs false

section
namespace Go.Proofs.Ytfajkgbpeapcbaa
namespace Ev
end Ev
end Go.Proofs.Ytfajkgbpeapcbaa
end

section
namespace Go.Proofs.Ytfajkgbpeapcbaa
open Go.RowKit
namespace Og
structure On (n : Nat) (w : World) where
  x : World
  b : Below n w x
instance (n : Nat) (w : World) : Nonempty (On n w) := ⟨⟨w, Below.refl n w⟩⟩
end Og
end Go.Proofs.Ytfajkgbpeapcbaa
end

section
namespace Go.Proofs.Ytfajkgbpeapcbaa
namespace Og
def owner (ops : Array Oper) (t : Nat) : Option Nat := (List.range ops.size).find? fun i => (ops[i]?.bind (·.dst)) == some t
def waits (o : Oper) (i : Nat) : Bool := o.after.any fun e => e.on == i && Region.binds .any e
def ok (ops : Array Oper) (n : Nat) : Bool := Region.noSelect ops && (List.range ops.size).all fun j =>
  match ops[j]? with
  | none => false
  | some o =>
    (match o.dst with | none => true | some d => decide (d < n) && owner ops d == some j) &&
    (o.op.operands.all fun x => match x with | .tmp t => (match owner ops t with | some i => waits o i | none => true) | _ => true) &&
    (match o.guard with | none => true | some (g, _) => waits o g && (ops[g]?.bind (·.dst)).isSome) &&
    (o.after.all fun e => !Region.binds .any e || decide (e.on < j))
variable {P : Program}
def gives (P : Program) (o : Oper) (ρ : Operand → Value) (w : World) (R : Value → World → Prop) : Prop :=
  match (execOp ρ o).run P w with
  | .ok (.value u) w' => R u w'
  | .ok .skip w' => R undef w'
  | .ok (.enter f args) w' => Calls P f args w' (fun e w'' => ∃ v, e = .returned v ∧ R v w'')
  | _ => False
def dep (ops : Array Oper) (a0 : Act) (T : Nat → Value → World → Prop) (ρ : Operand → Value) (w : World) : Operand → Prop
  | .tmp t => match owner ops t with | some i => T i (ρ (.tmp t)) w | none => ρ (.tmp t) = a0.tmps.getD t undef
  | .const c => ρ (.const c) = c
  | .global g => ρ (.global g) = .pointer (some ⟨g, 0, none⟩)
  | .func f => ρ (.func f) = .func (.func f) #[] #[]
def deps (ops : Array Oper) (a0 : Act) (T : Nat → Value → World → Prop) (ρ : Operand → Value) (w : World) : List Operand → Prop
  | [] => True
  | x :: r => dep ops a0 T ρ w x ∧ deps ops a0 T ρ w r
theorem deps_of {ops : Array Oper} {a0 : Act} {T : Nat → Value → World → Prop} {ρ : Operand → Value} {w : World} : ∀ {l : List Operand}, (∀ x ∈ l, dep ops a0 T ρ w x) → deps ops a0 T ρ w l
  | [], _ => trivial
  | x :: r, h => ⟨h x List.mem_cons_self, deps_of fun y hy => h y (List.mem_cons_of_mem _ hy)⟩
def slot (o : Oper) (a : Act) : Value := match o.dst with | some d => a.tmps.getD d undef | none => undef
def left (o : Oper) (v : Value) : Value := match o.dst with | some _ => v | none => undef
theorem wp_of_gives {o : Oper} {a : Act} {w : World} {R : Value → World → Prop} {K : Act → World → Prop} {Q : Exit → Act → World → Prop}
    (h : gives P o a.eval w R) (hk : ∀ v w', R v w' → K (a.put o.dst v) w') : o.wp P a w K Q := by
  unfold gives at h
  unfold Oper.wp
  generalize (execOp a.eval o).run P w = r at *
  cases r with
  | ok n w' =>
    cases n <;> simp only [Oper.upon] at h ⊢
    case value u => exact hk _ _ h
    case skip => exact hk _ _ h
    case enter f args => exact h.mono fun e w'' ⟨v, he, hr⟩ => by subst he; exact hk _ _ hr
  | halt x w' => simp at h
theorem owner_spec {ops : Array Oper} {t i : Nat} (h : owner ops t = some i) : ∃ o, ops[i]? = some o ∧ o.dst = some t := by
  have := List.find?_some h
  rw [beq_iff_eq] at this
  obtain ⟨o, ho, hd⟩ := Option.bind_eq_some_iff.1 this
  exact ⟨o, ho, hd⟩
theorem owner_none {ops : Array Oper} {t : Nat} (h : owner ops t = none) {j : Nat} {o : Oper} (ho : ops[j]? = some o) : o.dst ≠ some t := by
  intro hd
  have := List.find?_eq_none.1 h j (List.mem_range.2 (Array.getElem?_eq_some_iff.1 ho).1)
  simp [ho, hd] at this
section
variable {ops : Array Oper} {n : Nat}
theorem ok_at (h : ok ops n = true) {j : Nat} {o : Oper} (ho : ops[j]? = some o) :
    (∀ d, o.dst = some d → d < n ∧ owner ops d = some j) ∧ (∀ t i, .tmp t ∈ o.op.operands.toList → owner ops t = some i → waits o i = true) ∧
    (∀ g b, o.guard = some (g, b) → waits o g = true ∧ ∃ d, (ops[g]?.bind (·.dst)) = some d) ∧ (∀ e ∈ o.after, Region.binds .any e = true → e.on < j) := by
  unfold ok at h
  rw [Bool.and_eq_true, List.all_eq_true] at h
  have h1 := h.2 j (List.mem_range.2 (Array.getElem?_eq_some_iff.1 ho).1)
  rw [ho] at h1
  simp only [Bool.and_eq_true] at h1
  obtain ⟨⟨⟨h1, h2⟩, h3⟩, h4⟩ := h1
  refine ⟨fun d hd => ?_, fun t i ht hi => ?_, fun g b hg => ?_, fun e he hb => ?_⟩
  · rw [hd] at h1; simpa using h1
  · have := Array.all_eq_true_iff_forall_mem.1 h2 (.tmp t) (by simpa using ht)
    simp only [hi] at this
    exact this
  · rw [hg] at h3
    simp only [Bool.and_eq_true, Option.isSome_iff_exists] at h3
    exact h3
  · have := Array.all_eq_true_iff_forall_mem.1 h4 e he
    simpa [hb] using this
theorem waits_spec {o : Oper} {i : Nat} (h : waits o i = true) : ∃ e ∈ o.after, e.on = i ∧ Region.binds .any e = true := by
  unfold waits at h
  obtain ⟨k, hk, hb⟩ := Array.any_eq_true.1 h
  simp at hb
  exact ⟨_, Array.getElem_mem hk, hb⟩
end
theorem filter_lt {l : List Nat} {p q : Nat → Bool} (hpq : ∀ x, q x = true → p x = true) {x : Nat} (hx : x ∈ l) (hp : p x = true) (hq : q x = false) : (l.filter q).length < (l.filter p).length := by
  induction l with
  | nil => cases hx
  | cons y l ih =>
    have hle : (l.filter q).length ≤ (l.filter p).length := by
      clear ih hx
      induction l with
      | nil => simp
      | cons z l ih =>
        by_cases hz : q z = true
        · simp [hz, hpq z hz, ih]
        · by_cases hz' : p z = true
          · simp [hz, hz']; omega
          · simp [hz, hz', ih]
    rcases List.mem_cons.1 hx with rfl | hx
    · simp [hp, hq]; omega
    · have := ih hx
      by_cases hz : q y = true
      · simp [hz, hpq y hz, this]
      · by_cases hz' : p y = true
        · simp [hz, hz']; omega
        · simp [hz, hz', this]
structure Inv (ops : Array Oper) (a0 : Act) (w0 : World) (Rel : World → World → Prop) (T : Nat → Value → World → Prop) (listed : Array Bool) (a : Act) (w : World) : Prop where
  rel : Rel w0 w
  defers : a.defers = a0.defers
  size : a.tmps.size = a0.tmps.size
  lsize : listed.size = ops.size
  all : ∀ (j : Nat) (o : Oper), ops[j]? = some o → listed.getD j false = true → T j (slot o a) w
  out : ∀ t, owner ops t = none → a.tmps.getD t undef = a0.tmps.getD t undef
theorem region {id : Nat} {ops : Array Oper} {Q : Exit → Act → World → Prop} {a0 : Act} {w : World} (hm : P.follows .mixedOrders = true)
    (Rel : World → World → Prop) (refl : ∀ w, Rel w w) (tr : ∀ a b c, Rel a b → Rel b c → Rel a c)
    (T : Nat → Value → World → Prop) (stab : ∀ j v w w', T j v w → Rel w w' → T j v w') (want : Nat → Bool) (hok : ok ops a0.tmps.size = true)
    (hguard : ∀ (j : Nat) (o : Oper), ops[j]? = some o → match o.guard with | none => want j = true | some (g, b) => ∀ (v : Value) (w : World), T g v w → if want j = true then v = .bool b else v ≠ .bool b)
    (hstep : ∀ (j : Nat) (o : Oper), ops[j]? = some o → ∀ (ρ : Operand → Value) (w1 : World), Rel w.drew w1 → deps ops a0 T ρ w1 o.op.operands.toList →
      if want j = true then gives P o ρ w1 (fun v w' => Rel w1 w' ∧ T j (left o v) w') else T j undef w1)
    (hend : ∀ (a : Act) (w1 : World), Rel w.drew w1 → a.defers = a0.defers → a.tmps.size = a0.tmps.size → (∀ (j : Nat) (o : Oper), ops[j]? = some o → T j (slot o a) w1) → (∀ t, owner ops t = none → a.tmps.getD t undef = a0.tmps.getD t undef) → Q .normal a w1) :
    (Code.region id ops true).wp P Q a0 w := by
  have main : ∀ (fuel : Nat) (listed : Array Bool) (a : Act) (w1 : World), Inv ops a0 w.drew Rel T listed a w1 → ((List.range ops.size).filter fun j => !listed.getD j true).length ≤ fuel →
      wpAny P .any ops Q fuel listed a w1 := by
    have done : ∀ (listed : Array Bool) (a : Act) (w1 : World), Inv ops a0 w.drew Rel T listed a w1 → Region.ready .any ops listed = [] → Q .normal a w1 := by
      intro listed a w1 I hr
      have hall : ∀ j, j < ops.size → listed.getD j false = true := by
        intro j
        induction j using Nat.strongRecOn with
        | _ j ih =>
          intro hj
          by_cases hl : listed.getD j false = true
          · exact hl
          · exfalso
            have ho := Array.getElem?_eq_getElem hj
            have hmem : j ∈ Region.ready .any ops listed := by
              rw [mem_ready]
              refine ⟨?_, _, ho, fun e he hb => ?_⟩
              · have hjl : j < listed.size := by rw [I.lsize]; exact hj
                simp [hjl] at hl ⊢
                exact hl
              · have hlt := (ok_at hok ho).2.2.2 e he hb
                exact ih e.on hlt (by omega)
            rw [hr] at hmem
            cases hmem
      exact hend a w1 I.rel I.defers I.size (fun j o ho => I.all j o ho (hall j (Array.getElem?_eq_some_iff.1 ho).1)) I.out
    intro fuel
    induction fuel with
    | zero =>
      intro listed a w1 I hc
      have hr : Region.ready .any ops listed = [] := by
        apply List.eq_nil_iff_forall_not_mem.2
        intro j hj
        have h1 := mem_ready.1 hj
        obtain ⟨h0, o, ho, _⟩ := h1
        have : j ∈ (List.range ops.size).filter fun j => !listed.getD j true := List.mem_filter.2 ⟨List.mem_range.2 (Array.getElem?_eq_some_iff.1 ho).1, by rw [h0]; rfl⟩
        rw [List.eq_nil_of_length_eq_zero (by omega : ((List.range ops.size).filter fun j => !listed.getD j true).length = 0)] at this
        cases this
      exact ⟨hr, done listed a w1 I hr⟩
    | succ fuel ih =>
      intro listed a w1 I hc
      refine ⟨fun hr => done listed a w1 I hr, fun i hi => ?_⟩
      obtain ⟨h0, o, ho, hafter⟩ := mem_ready.1 hi
      obtain ⟨k1, k2, k3, k4⟩ := ok_at hok ho
      have hilt := (Array.getElem?_eq_some_iff.1 ho).1
      -- what it waits for has come up
      have come : ∀ k, waits o k = true → listed.getD k false = true := fun k hk => by
        obtain ⟨e, he, rfl, hb⟩ := waits_spec hk
        exact hafter e he hb
      have hdeps : deps ops a0 T a.eval w1 o.op.operands.toList := deps_of fun x hx => by
        cases x with
        | tmp t =>
          cases hown : owner ops t with
          | none => simp only [dep, hown]; exact I.out t hown
          | some k =>
            obtain ⟨ok', hok', hd⟩ := owner_spec hown
            have := I.all k ok' hok' (come k (k2 t k hx hown))
            simp only [slot, hd] at this
            simp only [dep, hown]
            exact this
        | const c => rfl
        | global g => rfl
        | func f => rfl
      have hstep' := hstep i o ho a.eval w1 I.rel hdeps
      have hcount : ((List.range ops.size).filter fun j => !(listed.setIfInBounds i true).getD j true).length ≤ fuel := by
        have := filter_lt (l := List.range ops.size) (p := fun j => !listed.getD j true) (q := fun j => !(listed.setIfInBounds i true).getD j true)
          (fun x hx => by
            by_cases hxi : i = x
            · subst hxi; simp only [h0]; rfl
            · rw [getD_set_ne true hxi] at hx; exact hx) (List.mem_range.2 hilt) (by simp only [h0]; rfl)
          (by have : i < listed.size := by rw [I.lsize]; exact hilt
              simp [this])
        omega
      have hnext : ∀ v w', Rel w1 w' → T i (left o v) w' → Inv ops a0 w.drew Rel T (listed.setIfInBounds i true) (a.put o.dst v) w' := fun v w' hr ht => by
        refine ⟨tr _ _ _ I.rel hr, ?_, ?_, by simpa using I.lsize, fun j oj hoj hlj => ?_, fun t hn => ?_⟩
        · cases hd : o.dst <;> simp [Act.put, I.defers]
        · cases hd : o.dst <;> simp [Act.put, I.size]
        · by_cases hij : i = j
          · subst hij
            obtain rfl : o = oj := Option.some.inj (ho.symm.trans hoj)
            cases hd : o.dst with
            | none => simpa [slot, left, hd] using ht
            | some d =>
              have hdlt := (k1 d hd).1
              have e : slot o (a.put (some d) v) = v := by
                simp [slot, hd, Act.put, I.size, hdlt]
              rw [e]
              simpa [left, hd] using ht
          · rw [getD_set_ne false hij] at hlj
            have hold := stab _ _ _ _ (I.all j oj hoj hlj) hr
            have e : slot oj (a.put o.dst v) = slot oj a := by
              cases hd : o.dst with
              | none => rfl
              | some d =>
                unfold slot
                cases hdj : oj.dst with
                | none => rfl
                | some dj =>
                  have hne : d ≠ dj := fun e => by
                    subst e
                    have h1 := (k1 d hd).2
                    have h2 := ((ok_at hok hoj).1 d hdj).2
                    rw [h1] at h2
                    exact hij (Option.some.inj h2)
                  simp [Act.put, Array.getElem?_setIfInBounds_ne hne]
            rw [e]; exact hold
        · rw [← I.out t hn]
          cases hd : o.dst with
          | none => rfl
          | some d =>
            have hne : d ≠ t := fun e => owner_none hn ho (e ▸ hd)
            simp [Act.put, Array.getElem?_setIfInBounds_ne hne]
      have hg := hguard i o ho
      -- is it wanted?
      have hw : Region.wanted o (yielded ops a.tmps) = want i := by
        unfold Region.wanted
        cases hgd : o.guard with
        | none => rw [hgd] at hg; simp only at hg; rw [hg]
        | some gb =>
          obtain ⟨g, b⟩ := gb
          rw [hgd] at hg
          simp only at hg
          obtain ⟨hwg, d, hd⟩ := k3 g b hgd
          obtain ⟨og, hog, hdg⟩ := Option.bind_eq_some_iff.1 hd
          have hT := I.all g og hog (come g hwg)
          have hv := hg _ _ hT
          have hdlt : d < a.tmps.size := by rw [I.size]; exact ((ok_at hok hog).1 d hdg).1
          have hs : slot og a = a.tmps[d] := by simp [slot, hdg, hdlt]
          have hy : yielded ops a.tmps g = match a.tmps[d] with | .bool b => some b | _ => none := by
            unfold yielded
            rw [hd]
            simp [hdlt]
            cases a.tmps[d] <;> rfl
          rw [hs] at hv
          simp only [hy]
          cases hwi : want i with
          | true => rw [hwi] at hv; simp only [if_true] at hv; rw [hv]; simp
          | false =>
            rw [hwi] at hv
            simp only [Bool.false_eq_true, if_false] at hv
            cases hx : a.tmps[d] <;> first | rfl | skip
            rename_i bb
            rw [hx] at hv
            have : bb ≠ b := fun e => hv (by rw [e])
            simp [this]
      unfold wpOp
      rw [ho]
      simp only [hw]
      cases hwi : want i with
      | true =>
        rw [hwi] at hstep'
        simp only [if_true] at hstep' ⊢
        exact .inl (wp_of_gives hstep' fun v w' ⟨hr, ht⟩ => ih _ _ _ (hnext v w' hr ht) hcount)
      | false =>
        rw [hwi] at hstep'
        simp only [Bool.false_eq_true, if_false] at hstep' ⊢
        refine ih _ _ _ (hnext undef w1 (refl _) ?_) hcount
        cases hd : o.dst <;> simpa [left, hd] using hstep'
  refine wp_region_any hm (main ops.size (Array.replicate ops.size false) a0 w.drew ⟨refl _, rfl, rfl, by simp, fun j o ho hl => ?_, fun t _ => rfl⟩ ?_)
  · have hj := (Array.getElem?_eq_some_iff.1 ho).1
    simp [hj] at hl
  · exact Nat.le_trans (List.length_filter_le _ _) (by simp)
open Go.RowKit
inductive Sp where
  | is (v : Value)
  | says (p : Value → World → Prop)
def Sp.holds : Sp → Value → World → Prop
  | .is u, v, _ => v = u
  | .says p, v, w => ∃ w1, Below w1.heap.size w1 w ∧ p v w1
def at_ (S : List Sp) (j : Nat) : Sp := S.getD j (.is undef)
end Og
end Go.Proofs.Ytfajkgbpeapcbaa
end
