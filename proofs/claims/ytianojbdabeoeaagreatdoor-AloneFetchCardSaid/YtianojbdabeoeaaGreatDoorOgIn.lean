/-
  A region that draws its order, in a round of a range over a function (the wide fence, in a round): as outside. No program is named here.
-/
import Derived.Test.YtianojbdabeoeaaGreatDoorOgL
import Derived.OrdersIn
import Derived.RangeFuncNested
import Derived.Shelf.Abstract
namespace Go.Proofs.YtianojbdabeoeaaGreatDoor
set_option linter.unusedVariables false
namespace Og
variable {P : Program}
open Go.RowKit
theorem wpIn_of_gives {lr n : Nat} {o : Oper} {a : Act} {w : World} {R : Value → World → Prop} {K : Act → World → Prop} {Q : Exit → Act → World → Prop} (hnd : ∀ c, o.op ≠ .defer c)
    (h : gives P o a.eval w R) (hk : ∀ v w', R v w' → K (a.put o.dst v) w') : o.wpIn (Fence.wide.inRound lr) n P a w K Q := by
  unfold gives at h
  unfold Oper.wpIn
  refine ⟨fun _ _ => trivial, ?_⟩
  rw [Oper.semAt_eq _ _ _ hnd]
  generalize (execOp a.eval o).run P w = r at *
  cases r with
  | ok x w' =>
    cases x <;> simp only [Oper.uponIn] at h ⊢
    case value u => exact hk _ _ h
    case skip => exact hk _ _ h
    case enter f args => exact ⟨fun e => by simp [Fence.wide] at e, (CallsIn.inRound lr (callsIn_wide.2 h)).mono fun e w'' ⟨v, he, hr⟩ => by subst he; exact hk _ _ hr⟩
  | halt x w' => simp at h
theorem regionR {lr n : Nat} {id : Nat} {ops : Array Oper} {Q : Exit → Act → World → Prop} {a0 : Act} {w : World} (hm : P.follows .mixedOrders = true)
    (Rel : World → World → Prop) (refl : ∀ w, Rel w w) (tr : ∀ a b c, Rel a b → Rel b c → Rel a c)
    (T : Nat → Value → World → Prop) (stab : ∀ j v w w', T j v w → Rel w w' → T j v w') (want : Nat → Bool) (hok : ok ops a0.tmps.size = true) (hnd : ∀ (j : Nat) (o : Oper), ops[j]? = some o → ∀ c, o.op ≠ .defer c)
    (hguard : ∀ (j : Nat) (o : Oper), ops[j]? = some o → match o.guard with | none => want j = true | some (g, b) => ∀ (v : Value) (w : World), T g v w → if want j = true then v = .bool b else v ≠ .bool b)
    (hstep : ∀ (j : Nat) (o : Oper), ops[j]? = some o → ∀ (ρ : Operand → Value) (w1 : World), Rel w.drew w1 → deps ops a0 T ρ w1 o.op.operands.toList →
      if want j = true then gives P o ρ w1 (fun v w' => Rel w1 w' ∧ T j (left o v) w') else T j undef w1)
    (hend : ∀ (a : Act) (w1 : World), Rel w.drew w1 → a.defers = a0.defers → a.tmps.size = a0.tmps.size → (∀ (j : Nat) (o : Oper), ops[j]? = some o → T j (slot o a) w1) → (∀ t, owner ops t = none → a.tmps.getD t undef = a0.tmps.getD t undef) → Q .normal a w1) :
    (Code.region id ops true).wpIn (Fence.wide.inRound lr) n P Q a0 w := by
  have main : ∀ (fuel : Nat) (listed : Array Bool) (a : Act) (w1 : World), Inv ops a0 w.drew Rel T listed a w1 → ((List.range ops.size).filter fun j => !listed.getD j true).length ≤ fuel →
      wpAnyIn (Fence.wide.inRound lr) n P .any ops Q fuel listed a w1 := by
    have done : ∀ (listed : Array Bool) (a : Act) (w1 : World), Inv ops a0 w.drew Rel T listed a w1 → Region.ready .any ops listed = [] → Q .normal a w1 := by
      intro listed a w1 I hr
      have hall : ∀ j, j < ops.size → listed.getD j false = true := by
        intro j
        induction j using Nat.strongRecOn with
        | _ j ih =>
          intro hj
          by_cases hl : listed.getD j false = true
          · exact hl
          · exfalso
            have ho := Array.getElem?_eq_getElem hj
            have hmem : j ∈ Region.ready .any ops listed := by
              rw [mem_ready]
              refine ⟨?_, _, ho, fun e he hb => ?_⟩
              · have hjl : j < listed.size := by rw [I.lsize]; exact hj
                simp [hjl] at hl ⊢
                exact hl
              · have hlt := (ok_at hok ho).2.2.2 e he hb
                exact ih e.on hlt (by omega)
            rw [hr] at hmem
            cases hmem
      exact hend a w1 I.rel I.defers I.size (fun j o ho => I.all j o ho (hall j (Array.getElem?_eq_some_iff.1 ho).1)) I.out
    intro fuel
    induction fuel with
    | zero =>
      intro listed a w1 I hc
      have hr : Region.ready .any ops listed = [] := by
        apply List.eq_nil_iff_forall_not_mem.2
        intro j hj
        have h1 := mem_ready.1 hj
        obtain ⟨h0, o, ho, _⟩ := h1
        have : j ∈ (List.range ops.size).filter fun j => !listed.getD j true := List.mem_filter.2 ⟨List.mem_range.2 (Array.getElem?_eq_some_iff.1 ho).1, by rw [h0]; rfl⟩
        rw [List.eq_nil_of_length_eq_zero (by omega : ((List.range ops.size).filter fun j => !listed.getD j true).length = 0)] at this
        cases this
      exact ⟨hr, done listed a w1 I hr⟩
    | succ fuel ih =>
      intro listed a w1 I hc
      refine ⟨fun hr => done listed a w1 I hr, fun i hi => ?_⟩
      obtain ⟨h0, o, ho, hafter⟩ := mem_ready.1 hi
      obtain ⟨k1, k2, k3, k4⟩ := ok_at hok ho
      have hilt := (Array.getElem?_eq_some_iff.1 ho).1
      -- what it waits for has come up
      have come : ∀ k, waits o k = true → listed.getD k false = true := fun k hk => by
        obtain ⟨e, he, rfl, hb⟩ := waits_spec hk
        exact hafter e he hb
      have hdeps : deps ops a0 T a.eval w1 o.op.operands.toList := deps_of fun x hx => by
        cases x with
        | tmp t =>
          cases hown : owner ops t with
          | none => simp only [dep, hown]; exact I.out t hown
          | some k =>
            obtain ⟨ok', hok', hd⟩ := owner_spec hown
            have := I.all k ok' hok' (come k (k2 t k hx hown))
            simp only [slot, hd] at this
            simp only [dep, hown]
            exact this
        | const c => rfl
        | global g => rfl
        | func f => rfl
      have hstep' := hstep i o ho a.eval w1 I.rel hdeps
      have hcount : ((List.range ops.size).filter fun j => !(listed.setIfInBounds i true).getD j true).length ≤ fuel := by
        have := filter_lt (l := List.range ops.size) (p := fun j => !listed.getD j true) (q := fun j => !(listed.setIfInBounds i true).getD j true)
          (fun x hx => by
            by_cases hxi : i = x
            · subst hxi; simp only [h0]; rfl
            · rw [getD_set_ne true hxi] at hx; exact hx) (List.mem_range.2 hilt) (by simp only [h0]; rfl)
          (by have : i < listed.size := by rw [I.lsize]; exact hilt
              simp [this])
        omega
      have hnext : ∀ v w', Rel w1 w' → T i (left o v) w' → Inv ops a0 w.drew Rel T (listed.setIfInBounds i true) (a.put o.dst v) w' := fun v w' hr ht => by
        refine ⟨tr _ _ _ I.rel hr, ?_, ?_, by simpa using I.lsize, fun j oj hoj hlj => ?_, fun t hn => ?_⟩
        · cases hd : o.dst <;> simp [Act.put, I.defers]
        · cases hd : o.dst <;> simp [Act.put, I.size]
        · by_cases hij : i = j
          · subst hij
            obtain rfl : o = oj := Option.some.inj (ho.symm.trans hoj)
            cases hd : o.dst with
            | none => simpa [slot, left, hd] using ht
            | some d =>
              have hdlt := (k1 d hd).1
              have e : slot o (a.put (some d) v) = v := by
                simp [slot, hd, Act.put, I.size, hdlt]
              rw [e]
              simpa [left, hd] using ht
          · rw [getD_set_ne false hij] at hlj
            have hold := stab _ _ _ _ (I.all j oj hoj hlj) hr
            have e : slot oj (a.put o.dst v) = slot oj a := by
              cases hd : o.dst with
              | none => rfl
              | some d =>
                unfold slot
                cases hdj : oj.dst with
                | none => rfl
                | some dj =>
                  have hne : d ≠ dj := fun e => by
                    subst e
                    have h1 := (k1 d hd).2
                    have h2 := ((ok_at hok hoj).1 d hdj).2
                    rw [h1] at h2
                    exact hij (Option.some.inj h2)
                  simp [Act.put, Array.getElem?_setIfInBounds_ne hne]
            rw [e]; exact hold
        · rw [← I.out t hn]
          cases hd : o.dst with
          | none => rfl
          | some d =>
            have hne : d ≠ t := fun e => owner_none hn ho (e ▸ hd)
            simp [Act.put, Array.getElem?_setIfInBounds_ne hne]
      have hg := hguard i o ho
      -- is it wanted?
      have hw : Region.wanted o (yielded ops a.tmps) = want i := by
        unfold Region.wanted
        cases hgd : o.guard with
        | none => rw [hgd] at hg; simp only at hg; rw [hg]
        | some gb =>
          obtain ⟨g, b⟩ := gb
          rw [hgd] at hg
          simp only at hg
          obtain ⟨hwg, d, hd⟩ := k3 g b hgd
          obtain ⟨og, hog, hdg⟩ := Option.bind_eq_some_iff.1 hd
          have hT := I.all g og hog (come g hwg)
          have hv := hg _ _ hT
          have hdlt : d < a.tmps.size := by rw [I.size]; exact ((ok_at hok hog).1 d hdg).1
          have hs : slot og a = a.tmps[d] := by simp [slot, hdg, hdlt]
          have hy : yielded ops a.tmps g = match a.tmps[d] with | .bool b => some b | _ => none := by
            unfold yielded
            rw [hd]
            simp [hdlt]
            cases a.tmps[d] <;> rfl
          rw [hs] at hv
          simp only [hy]
          cases hwi : want i with
          | true => rw [hwi] at hv; simp only [if_true] at hv; rw [hv]; simp
          | false =>
            rw [hwi] at hv
            simp only [Bool.false_eq_true, if_false] at hv
            cases hx : a.tmps[d] <;> first | rfl | skip
            rename_i bb
            rw [hx] at hv
            have : bb ≠ b := fun e => hv (by rw [e])
            simp [this]
      unfold wpOpIn
      rw [ho]
      simp only [hw]
      cases hwi : want i with
      | true =>
        rw [hwi] at hstep'
        simp only [if_true] at hstep' ⊢
        exact wpIn_of_gives (hnd i o ho) hstep' fun v w' ⟨hr, ht⟩ => ih _ _ _ (hnext v w' hr ht) hcount
      | false =>
        rw [hwi] at hstep'
        simp only [Bool.false_eq_true, if_false] at hstep' ⊢
        refine ⟨fun _ _ => trivial, ih _ _ _ (hnext undef w1 (refl _) ?_) hcount⟩
        cases hd : o.dst <;> simpa [left, hd] using hstep'
  refine wpIn_region_any hm (main ops.size (Array.replicate ops.size false) a0 w.drew ⟨refl _, rfl, rfl, by simp, fun j o ho hl => ?_, fun t _ => rfl⟩ ?_)
  · have hj := (Array.getElem?_eq_some_iff.1 ho).1
    simp [hj] at hl
  · exact Nat.le_trans (List.length_filter_le _ _) (by simp)

theorem region3R {lr n : Nat} {id : Nat} {l : List Oper} {Q : Exit → Act → World → Prop} {a0 : Act} {w : World} (hm : P.follows .mixedOrders = true) (own : Nat → Option Nat) (S : List Sp) (W : List Bool)
    (hok : ok2 own l.toArray a0.tmps.size = true) (hnd : l.all (fun o => match o.op with | .defer _ => false | _ => true) = true) (h : obls P own a0 w S W 0 l)
    (hend : ∀ (vs : Nat → Value) (w1 : World), Below w.heap.size w w1 → (∀ (j : Nat) (o : Oper) (d : Nat), l[j]? = some o → o.dst = some d → (at_ S j).holds (vs j) w1) → Q .normal (putAll 0 l vs a0) w1) :
    (Code.region id l.toArray true).wpIn (Fence.wide.inRound lr) n P Q a0 w := by
  unfold ok2 at hok
  rw [Bool.and_eq_true] at hok
  refine regionR hm (fun a b => Below a.heap.size a b) (fun w => Below.refl _ _) (fun a b c h k => h.trans (k.mono h.size)) (fun j => (at_ S j).holds) (fun j v w w' h hb => holds_stab _ h hb) (fun j => W.getD j true) hok.1 (fun j o ho c e => by have h1 := List.all_eq_true.1 hnd o (List.mem_of_getElem? (by simpa using ho)); rw [e] at h1; cases h1)
    (fun j o ho => ?_) (fun j o ho ρ w1 hr hd => ?_) (fun a w1 hr hdf hsz hall hout => ?_)
  · have := (obls_at h (j := j) (o := o) (by simpa using ho)).1
    rw [Nat.zero_add] at this
    exact this
  · have := (obls_at h (j := j) (o := o) (by simpa using ho)).2 ρ w1 ⟨hr.os, hr.tape, hr.output, hr.size, hr.block⟩ (deps2_of (fun t ht => by
      have h1 := Array.all_eq_true_iff_forall_mem.1 hok.2 o (Array.mem_of_getElem? ho)
      have h2 := Array.all_eq_true_iff_forall_mem.1 h1 (.tmp t) (by simpa using ht)
      simpa using h2) hd)
    rw [Nat.zero_add] at this
    exact this
  · have key := hend (fun j => match l[j]? with | some o => slot o a | none => undef) w1 ⟨hr.os, hr.tape, hr.output, hr.size, hr.block⟩ (fun j o d ho hd => by
      have := hall j o (by simpa using ho)
      simpa [ho] using this)
    rw [putAll_eq (b := a) l 0 a0 hsz.symm hdf.symm (fun j o d ho hd => ?_) (fun t ht => ?_)] at key
    · exact key
    · have h1 := (ok_at hok.1 (j := j) (o := o) (by simpa using ho)).1 d hd
      refine ⟨by rw [hsz]; exact h1.1, ?_⟩
      simp [ho, slot, hd]
    · refine hout t ?_
      cases hown : owner l.toArray t with
      | none => rfl
      | some i =>
        obtain ⟨o, ho, hd⟩ := owner_spec hown
        exact absurd hd (ht i o (by simpa using ho))
end Og
end Go.Proofs.YtianojbdabeoeaaGreatDoor
