/-
  OgM: OgC, OgT, OgF, OgR, OgG in one text.
-/
import Derived.Test.YtianojbdabeoeaaGreatDoorOg3
import Derived.Laws.Tables
import Derived.RangeFuncNested
import Derived.RangeFuncBound
import Derived.RangeFuncCalls
import Derived.RangeFuncLeaves
import Derived.Shelf.Abstract
import Derived.WalkKit
import Derived.OwnWalkIn
import Derived.TacticsInMore
import Derived.LoopNIn
import Derived.LoopIn
import Derived.OrdersIn

section
namespace Go.Proofs.YtianojbdabeoeaaGreatDoor
set_option linter.unusedVariables false
namespace Og
open Go.RowKit
variable {P : Program}
/-- from number n on each operation waits for all ahead of it -/
def tailOk (ops : Array Oper) (n : Nat) : Bool := (List.range ops.size).all fun k => decide (k < n) || (List.range k).all fun i => match ops[k]? with | some o => waits o i | none => false
theorem tail_at {ops : Array Oper} {n k i : Nat} {o : Oper} (h : tailOk ops n = true) (ho : ops[k]? = some o) (hk : n ≤ k) (hi : i < k) : waits o i = true := by
  have h1 := List.all_eq_true.1 h k (List.mem_range.2 (Array.getElem?_eq_some_iff.1 ho).1)
  rw [Bool.or_eq_true] at h1
  rcases h1 with h1 | h1
  · simp only [decide_eq_true_eq] at h1; omega
  · have h2 := List.all_eq_true.1 h1 i (List.mem_range.2 hi)
    rw [ho] at h2; exact h2
/-- what holds while the first ones come up -/
structure InvC (ops : Array Oper) (n c : Nat) (a0 : Act) (Ph : Bool → World → Prop) (T : Nat → Value → World → Prop) (listed : Array Bool) (a : Act) (w : World) : Prop where
  ph : Ph (listed.getD c false) w
  defers : a.defers = a0.defers
  size : a.tmps.size = a0.tmps.size
  lsize : listed.size = ops.size
  all : ∀ (j : Nat) (o : Oper), ops[j]? = some o → j < n → listed.getD j false = true → T j (slot o a) w
  late : ∀ j, n ≤ j → listed.getD j false = false
  out : ∀ t, (∀ i, owner ops t = some i → n ≤ i) → a.tmps.getD t undef = a0.tmps.getD t undef
/-- the last ones, as the text has them -/
theorem tail_run {ops : Array Oper} {n sz : Nat} {Q : Exit → Act → World → Prop} (hok : ok ops sz = true) (ht : tailOk ops n = true) : ∀ (m : Nat) (k : Nat) (fuel : Nat) (listed : Array Bool) (a : Act) (w : World), k + m = ops.size → n ≤ k → listed.size = ops.size →
    (∀ j, j < k → listed.getD j false = true) → (∀ j, k ≤ j → listed.getD j false = false) → m ≤ fuel → wpList P ops Q (ops.toList.drop k) a w → wpAny P .any ops Q fuel listed a w := by
  intro m
  induction m with
  | zero =>
    intro k fuel listed a w hk hn hs h1 h2 hf h
    have hd : ops.toList.drop k = [] := List.drop_eq_nil_of_le (by simp; omega)
    rw [hd] at h
    have hr : Region.ready .any ops listed = [] := by
      apply List.eq_nil_iff_forall_not_mem.2
      intro j hj
      obtain ⟨h0, o, ho, _⟩ := mem_ready.1 hj
      have hjl : j < ops.size := (Array.getElem?_eq_some_iff.1 ho).1
      have h3 := h1 j (by omega)
      have hjs : j < listed.size := by omega
      simp [hjs] at h0 h3
      rw [h0] at h3; cases h3
    cases fuel with
    | zero => exact ⟨hr, h⟩
    | succ f => exact ⟨fun _ => h, fun i hi => by rw [hr] at hi; cases hi⟩
  | succ m ih =>
    intro k fuel listed a w hk hn hs h1 h2 hf h
    have hkl : k < ops.size := by omega
    obtain ⟨f, rfl⟩ : ∃ f, fuel = f + 1 := ⟨fuel - 1, by omega⟩
    have hd : ops.toList.drop k = ops[k] :: ops.toList.drop (k + 1) := by
      rw [List.drop_eq_getElem_cons (by simpa using hkl)]; simp
    rw [hd] at h
    have hko : ops[k]? = some ops[k] := Array.getElem?_eq_getElem hkl
    refine ⟨fun hr => ?_, fun i hi => ?_⟩
    · exfalso
      have : k ∈ Region.ready .any ops listed := by
        rw [mem_ready]
        refine ⟨?_, _, hko, fun e he hb => h1 _ ((ok_at hok hko).2.2.2 e he hb)⟩
        have h3 := h2 k (Nat.le_refl _)
        have hks : k < listed.size := by omega
        simp [hks] at h3 ⊢
        exact h3
      rw [hr] at this; cases this
    · obtain ⟨h0, o, ho, hafter⟩ := mem_ready.1 hi
      have hil := (Array.getElem?_eq_some_iff.1 ho).1
      have hik : i = k := by
        by_cases hlt : i < k
        · have h3 := h1 i hlt
          have hjs : i < listed.size := by omega
          simp [hjs] at h0 h3
          rw [h0] at h3; cases h3
        · by_cases hgt : k < i
          · exfalso
            obtain ⟨e, he, hek, hb⟩ := waits_spec (tail_at ht ho (by omega) hgt)
            have h3 := hafter e he hb
            rw [hek, h2 k (Nat.le_refl _)] at h3; cases h3
          · omega
      subst hik
      obtain rfl : ops[i] = o := Option.some.inj (hko.symm.trans ho)
      have next : ∀ (a' : Act) (w' : World), wpList P ops Q (ops.toList.drop (i + 1)) a' w' → wpAny P .any ops Q f (listed.setIfInBounds i true) a' w' := fun a' w' h' =>
        ih (i + 1) f _ a' w' (by omega) (by omega) (by simpa using hs) (fun j hj => by
          by_cases hji : i = j
          · subst hji; have : i < listed.size := by omega
            simp [this]
          · rw [getD_set_ne false hji]; exact h1 j (by omega)) (fun j hj => by rw [getD_set_ne false (by omega)]; exact h2 j (by omega)) (by omega) h'
      unfold wpOp
      rw [ho]
      unfold wpList at h
      simp only
      by_cases hw : Region.wanted ops[i] (yielded ops a.tmps) = true
      · rw [if_pos hw] at h ⊢
        rcases h with h | h
        · exact .inl (Oper.wp_mono (fun a' w' h' => next a' w' h') h)
        · exact .inr h
      · rw [if_neg hw] at h ⊢
        exact next _ _ h
theorem regionC {id : Nat} {ops : Array Oper} {Q : Exit → Act → World → Prop} {a0 : Act} {w : World} (hm : P.follows .mixedOrders = true) (n c : Nat) (Ph : Bool → World → Prop) (turn : World → World → Prop)
    (hph : ∀ b w w', Ph b w → Below w.heap.size w w' → Ph b w') (hph0 : Ph false w.drew)
    (T : Nat → Value → World → Prop) (stab : ∀ j v w w', T j v w → Below w.heap.size w w' → T j v w') (stabT : ∀ j v w w', T j v w → turn w w' → T j v w') (want : Nat → Bool) (hok : ok ops a0.tmps.size = true) (ht : tailOk ops n = true) (hn : n ≤ ops.size)
    (hguard : ∀ (j : Nat) (o : Oper), j < n → ops[j]? = some o → match o.guard with | none => want j = true | some (g, b) => g < n ∧ ∀ (v : Value) (w : World), T g v w → if want j = true then v = .bool b else v ≠ .bool b)
    (hstep : ∀ (j : Nat) (o : Oper), j < n → ops[j]? = some o → ∀ (ρ : Operand → Value) (w1 : World) (b : Bool), Ph b w1 → (j = c → b = false) → deps ops a0 T ρ w1 o.op.operands.toList →
      if want j = true then gives P o ρ w1 (fun v w' => (if j = c then turn w1 w' ∧ Ph true w' else Below w1.heap.size w1 w') ∧ T j (left o v) w') else j ≠ c ∧ T j undef w1)
    (hback : ∀ (j i t : Nat) (o : Oper), j < n → ops[j]? = some o → .tmp t ∈ o.op.operands.toList → owner ops t = some i → i < n)
    (hend : ∀ (a : Act) (w1 : World), Ph (decide (c < n)) w1 → a.defers = a0.defers → a.tmps.size = a0.tmps.size → (∀ (j : Nat) (o : Oper), j < n → ops[j]? = some o → T j (slot o a) w1) → (∀ t, (∀ i, owner ops t = some i → n ≤ i) → a.tmps.getD t undef = a0.tmps.getD t undef) →
      wpList P ops Q (ops.toList.drop n) a w1) :
    (Code.region id ops true).wp P Q a0 w := by
  have main : ∀ (fuel : Nat) (listed : Array Bool) (a : Act) (w1 : World), InvC ops n c a0 Ph T listed a w1 → ((List.range ops.size).filter fun j => !listed.getD j true).length ≤ fuel →
      wpAny P .any ops Q fuel listed a w1 := by
    have cnt : ∀ (listed : Array Bool), listed.size = ops.size → (∀ j, n ≤ j → listed.getD j false = false) → ops.size - n ≤ ((List.range ops.size).filter fun j => !listed.getD j true).length := by
      intro listed hs hl
      have e : List.range ops.size = List.range n ++ (List.range (ops.size - n)).map (n + ·) := by rw [← List.range_add, Nat.add_sub_cancel' hn]
      have e2 : ((List.range (ops.size - n)).map (n + ·)).filter (fun j => !listed.getD j true) = (List.range (ops.size - n)).map (n + ·) := by
        rw [List.filter_eq_self]
        intro x hx
        obtain ⟨y, hy, rfl⟩ := List.mem_map.1 hx
        rw [List.mem_range] at hy
        have h3 := hl (n + y) (by omega)
        have hxs : n + y < listed.size := by omega
        simp [hxs] at h3 ⊢
        exact h3
      rw [e, List.filter_append, e2]
      simp
    -- all the first ones have come up
    have full : ∀ (fuel : Nat) (listed : Array Bool) (a : Act) (w1 : World), InvC ops n c a0 Ph T listed a w1 → ((List.range ops.size).filter fun j => !listed.getD j true).length ≤ fuel → (∀ j, j < n → listed.getD j false = true) → wpAny P .any ops Q fuel listed a w1 := by
      intro fuel listed a w1 I hc hall
      refine tail_run hok ht (ops.size - n) n fuel listed a w1 (by omega) (Nat.le_refl _) I.lsize hall I.late (Nat.le_trans (cnt listed I.lsize I.late) hc) ?_
      refine hend a w1 ?_ I.defers I.size (fun j o hj ho => I.all j o ho hj (hall j hj)) I.out
      have hp := I.ph
      by_cases hcn : c < n
      · rw [hall c hcn] at hp; simpa [hcn] using hp
      · rw [I.late c (by omega)] at hp; simpa [hcn] using hp
    intro fuel
    induction fuel with
    | zero =>
      intro listed a w1 I hc
      refine full 0 listed a w1 I hc (fun j hj => ?_)
      by_cases hl : listed.getD j false = true
      · exact hl
      · exfalso
        have hjl : j < listed.size := by rw [I.lsize]; omega
        have : j ∈ (List.range ops.size).filter fun j => !listed.getD j true := List.mem_filter.2 ⟨List.mem_range.2 (by omega), by simp [hjl] at hl ⊢; exact hl⟩
        rw [List.eq_nil_of_length_eq_zero (by omega : ((List.range ops.size).filter fun j => !listed.getD j true).length = 0)] at this
        cases this
    | succ fuel ih =>
      intro listed a w1 I hc
      by_cases hall : ∀ j, j < n → listed.getD j false = true
      · exact full (fuel + 1) listed a w1 I hc hall
      have hex : ∃ j, j < n ∧ listed.getD j false = false := by
        apply Classical.byContradiction
        intro hne
        refine hall fun j hj => ?_
        cases hl : listed.getD j false
        · exact absurd ⟨j, hj, hl⟩ hne
        · rfl
      refine ⟨fun hr => ?_, fun i hi => ?_⟩
      · exfalso
        refine hall fun j => ?_
        induction j using Nat.strongRecOn with
        | _ j ihj =>
          intro hj
          by_cases hl : listed.getD j false = true
          · exact hl
          · exfalso
            have ho := Array.getElem?_eq_getElem (xs := ops) (i := j) (by omega)
            have hmem : j ∈ Region.ready .any ops listed := by
              rw [mem_ready]
              refine ⟨?_, _, ho, fun e he hb => ?_⟩
              · have hjl : j < listed.size := by rw [I.lsize]; omega
                simp [hjl] at hl ⊢
                exact hl
              · have hlt := (ok_at hok ho).2.2.2 e he hb
                exact ihj e.on hlt (by omega)
            rw [hr] at hmem
            cases hmem
      obtain ⟨h0, o, ho, hafter⟩ := mem_ready.1 hi
      obtain ⟨k1, k2, k3, k4⟩ := ok_at hok ho
      have hilt := (Array.getElem?_eq_some_iff.1 ho).1
      -- what it waits for has come up
      have come : ∀ k, waits o k = true → listed.getD k false = true := fun k hk => by
        obtain ⟨e, he, rfl, hb⟩ := waits_spec hk
        exact hafter e he hb
      have hin : i < n := by
        apply Classical.byContradiction
        intro hge
        obtain ⟨j, hj, hjl⟩ := hex
        have := come j (tail_at ht ho (by omega) (by omega))
        rw [hjl] at this; cases this
      have hdeps : deps ops a0 T a.eval w1 o.op.operands.toList := deps_of fun x hx => by
        cases x with
        | tmp t =>
          cases hown : owner ops t with
          | none => simp only [dep, hown]; exact I.out t (fun i hi => by rw [hown] at hi; cases hi)
          | some k =>
            obtain ⟨ok', hok', hd⟩ := owner_spec hown
            have := I.all k ok' hok' (hback i k t o hin ho hx hown) (come k (k2 t k hx hown))
            simp only [slot, hd] at this
            simp only [dep, hown]
            exact this
        | const c => rfl
        | global g => rfl
        | func f => rfl
      have hnc : i = c → listed.getD c false = false := fun e => by
        subst e
        have his : i < listed.size := by rw [I.lsize]; exact hilt
        simp [his] at h0 ⊢
        exact h0
      have hstep' := hstep i o hin ho a.eval w1 _ I.ph hnc hdeps
      have hcount : ((List.range ops.size).filter fun j => !(listed.setIfInBounds i true).getD j true).length ≤ fuel := by
        have := filter_lt (l := List.range ops.size) (p := fun j => !listed.getD j true) (q := fun j => !(listed.setIfInBounds i true).getD j true)
          (fun x hx => by
            by_cases hxi : i = x
            · subst hxi; simp only [h0]; rfl
            · rw [getD_set_ne true hxi] at hx; exact hx) (List.mem_range.2 hilt) (by simp only [h0]; rfl)
          (by have : i < listed.size := by rw [I.lsize]; exact hilt
              simp [this])
        omega
      have hnext : ∀ v w', (if i = c then turn w1 w' ∧ Ph true w' else Below w1.heap.size w1 w') → T i (left o v) w' → InvC ops n c a0 Ph T (listed.setIfInBounds i true) (a.put o.dst v) w' := fun v w' hr ht' => by
        refine ⟨?_, ?_, ?_, by simpa using I.lsize, fun j oj hoj hjn hlj => ?_, fun j hj => by rw [getD_set_ne false (by omega)]; exact I.late j hj, fun t hn' => ?_⟩
        · by_cases hic : i = c
          · subst hic
            rw [if_pos rfl] at hr
            have : i < listed.size := by rw [I.lsize]; exact hilt
            simp [this]
            exact hr.2
          · rw [if_neg hic] at hr
            rw [getD_set_ne false hic]
            exact hph _ _ _ I.ph hr
        · cases hd : o.dst <;> simp [Act.put, I.defers]
        · cases hd : o.dst <;> simp [Act.put, I.size]
        · by_cases hij : i = j
          · subst hij
            obtain rfl : o = oj := Option.some.inj (ho.symm.trans hoj)
            cases hd : o.dst with
            | none => simpa [slot, left, hd] using ht'
            | some d =>
              have hdlt := (k1 d hd).1
              have e : slot o (a.put (some d) v) = v := by
                simp [slot, hd, Act.put, I.size, hdlt]
              rw [e]
              simpa [left, hd] using ht'
          · rw [getD_set_ne false hij] at hlj
            have hold := I.all j oj hoj hjn hlj
            have hold' : T j (slot oj a) w' := by
              by_cases hic : i = c
              · rw [if_pos hic] at hr; exact stabT _ _ _ _ hold hr.1
              · rw [if_neg hic] at hr; exact stab _ _ _ _ hold hr
            have e : slot oj (a.put o.dst v) = slot oj a := by
              cases hd : o.dst with
              | none => rfl
              | some d =>
                unfold slot
                cases hdj : oj.dst with
                | none => rfl
                | some dj =>
                  have hne : d ≠ dj := fun e => by
                    subst e
                    have h1 := (k1 d hd).2
                    have h2 := ((ok_at hok hoj).1 d hdj).2
                    rw [h1] at h2
                    exact hij (Option.some.inj h2)
                  simp [Act.put, Array.getElem?_setIfInBounds_ne hne]
            rw [e]; exact hold'
        · rw [← I.out t hn']
          cases hd : o.dst with
          | none => rfl
          | some d =>
            have hne : d ≠ t := fun e => by
              subst e
              have := hn' i (k1 d hd).2
              omega
            simp [Act.put, Array.getElem?_setIfInBounds_ne hne]
      have hg := hguard i o hin ho
      -- is it wanted?
      have hw : Region.wanted o (yielded ops a.tmps) = want i := by
        unfold Region.wanted
        cases hgd : o.guard with
        | none => rw [hgd] at hg; simp only at hg; rw [hg]
        | some gb =>
          obtain ⟨g, b⟩ := gb
          rw [hgd] at hg
          simp only at hg
          obtain ⟨hwg, d, hd⟩ := k3 g b hgd
          obtain ⟨og, hog, hdg⟩ := Option.bind_eq_some_iff.1 hd
          have hT := I.all g og hog hg.1 (come g hwg)
          have hv := hg.2 _ _ hT
          have hdlt : d < a.tmps.size := by rw [I.size]; exact ((ok_at hok hog).1 d hdg).1
          have hs : slot og a = a.tmps[d] := by simp [slot, hdg, hdlt]
          have hy : yielded ops a.tmps g = match a.tmps[d] with | .bool b => some b | _ => none := by
            unfold yielded
            rw [hd]
            simp [hdlt]
            cases a.tmps[d] <;> rfl
          rw [hs] at hv
          simp only [hy]
          cases hwi : want i with
          | true => rw [hwi] at hv; simp only [if_true] at hv; rw [hv]; simp
          | false =>
            rw [hwi] at hv
            simp only [Bool.false_eq_true, if_false] at hv
            cases hx : a.tmps[d] <;> first | rfl | skip
            rename_i bb
            rw [hx] at hv
            have : bb ≠ b := fun e => hv (by rw [e])
            simp [this]
      unfold wpOp
      rw [ho]
      simp only [hw]
      cases hwi : want i with
      | true =>
        rw [hwi] at hstep'
        simp only [if_true] at hstep' ⊢
        exact .inl (wp_of_gives hstep' fun v w' ⟨hr, ht'⟩ => ih _ _ _ (hnext v w' hr ht') hcount)
      | false =>
        rw [hwi] at hstep'
        simp only [Bool.false_eq_true, if_false] at hstep' ⊢
        refine ih _ _ _ (hnext undef w1 (by rw [if_neg hstep'.1]; exact Below.refl _ _) ?_) hcount
        cases hd : o.dst <;> simpa [left, hd] using hstep'.2
  refine wp_region_any hm (main ops.size (Array.replicate ops.size false) a0 w.drew ⟨?_, rfl, rfl, by simp, fun j o ho _ hl => ?_, fun j _ => ?_, fun t _ => rfl⟩ ?_)
  · have e : (Array.replicate ops.size false).getD c false = false := by
      by_cases hc : c < ops.size <;> simp [hc]
    rw [e]; exact hph0
  · have hj := (Array.getElem?_eq_some_iff.1 ho).1
    simp [hj] at hl
  · by_cases hc : j < ops.size <;> simp [hc]
  · exact Nat.le_trans (List.length_filter_le _ _) (by simp)
end Og
end Go.Proofs.YtianojbdabeoeaaGreatDoor
end

section
namespace Go.Proofs.YtianojbdabeoeaaGreatDoor
set_option linter.unusedVariables false
namespace Og
open Go.RowKit
variable {P : Program}
inductive Sq where
  | is (v : Value)
  | new (o : Obj)
  | sl (o : Obj) (n m : Nat)
  | sat (p : Value → Prop)
def Sq.holds (B : Nat) : Sq → Value → World → Prop
  | .is u, v, _ => v = u
  | .new o, v, w => ∃ b, v = .pointer (some ⟨b, 0, none⟩) ∧ B ≤ b ∧ w.heap[b]? = some o
  | .sl o n m, v, w => ∃ b, v = .slice (some ⟨b, 0, none⟩) n m ∧ B ≤ b ∧ w.heap[b]? = some o
  | .sat p, v, _ => p v
theorem Sq.stab {B : Nat} (s : Sq) {v : Value} {w w' : World} (h : s.holds B v w) (hb : Below w.heap.size w w') : s.holds B v w' := by
  cases s with
  | is u => exact h
  | sat p => exact h
  | new o => obtain ⟨b, h1, h2, h3⟩ := h; exact ⟨b, h1, h2, (hb.block b (Array.getElem?_eq_some_iff.1 h3).1).trans h3⟩
  | sl o n m => obtain ⟨b, h1, h2, h3⟩ := h; exact ⟨b, h1, h2, (hb.block b (Array.getElem?_eq_some_iff.1 h3).1).trans h3⟩
def sq (S : List Sq) (j : Nat) : Sq := S.getD j (.is undef)
def depq (B : Nat) (own : Nat → Option Nat) (a0 : Act) (S : List Sq) (ρ : Operand → Value) (w : World) : Operand → Prop
  | .tmp t => match own t with | some i => (sq S i).holds B (ρ (.tmp t)) w | none => ρ (.tmp t) = a0.tmps.getD t undef
  | .const c => ρ (.const c) = c
  | .global g => ρ (.global g) = .pointer (some ⟨g, 0, none⟩)
  | .func f => ρ (.func f) = .func (.func f) #[] #[]
def depsq (B : Nat) (own : Nat → Option Nat) (a0 : Act) (S : List Sq) (ρ : Operand → Value) (w : World) : List Operand → Prop
  | [] => True
  | x :: r => depq B own a0 S ρ w x ∧ depsq B own a0 S ρ w r
theorem depsq_of {B : Nat} {own : Nat → Option Nat} {ops : Array Oper} {a0 : Act} {S : List Sq} {ρ : Operand → Value} {w : World} : ∀ {l : List Operand}, (∀ t, .tmp t ∈ l → own t = owner ops t) →
    deps ops a0 (fun j => (sq S j).holds B) ρ w l → depsq B own a0 S ρ w l
  | [], _, _ => trivial
  | x :: r, h, hd => by
    refine ⟨?_, depsq_of (fun t ht => h t (List.mem_cons_of_mem _ ht)) hd.2⟩
    have h1 := hd.1
    cases x with
    | tmp t =>
      simp only [depq, h t List.mem_cons_self]
      exact h1
    | const c => exact h1
    | global g => exact h1
    | func f => exact h1
/-- what is owed of operation j -/
def oblq (P : Program) (B c : Nat) (Ph : Bool → World → Prop) (turn : World → World → Prop) (own : Nat → Option Nat) (a0 : Act) (S : List Sq) (W : List Bool) (j : Nat) (o : Oper) : Prop :=
  (match o.guard with | none => W.getD j true = true | some (g, b) => ∀ (v : Value) (w : World), (sq S g).holds B v w → if W.getD j true = true then v = .bool b else v ≠ .bool b) ∧
  (if j = c then W.getD j true = true ∧ ∀ (ρ : Operand → Value) (w1 : World), Ph false w1 → depsq B own a0 S ρ w1 o.op.operands.toList → gives P o ρ w1 (fun v w' => (turn w1 w' ∧ Ph true w') ∧ (sq S j).holds B (left o v) w')
   else ∀ (ρ : Operand → Value) (w1 : World) (b : Bool), Ph b w1 → depsq B own a0 S ρ w1 o.op.operands.toList →
    if W.getD j true = true then gives P o ρ w1 (fun v w' => Below w1.heap.size w1 w' ∧ (sq S j).holds B (left o v) w') else (sq S j).holds B undef w1)
def oblqs (P : Program) (B c : Nat) (Ph : Bool → World → Prop) (turn : World → World → Prop) (own : Nat → Option Nat) (a0 : Act) (S : List Sq) (W : List Bool) : Nat → List Oper → Prop
  | _, [] => True
  | j, o :: r => oblq P B c Ph turn own a0 S W j o ∧ oblqs P B c Ph turn own a0 S W (j + 1) r
theorem oblqs_at {B c : Nat} {Ph : Bool → World → Prop} {turn : World → World → Prop} {own : Nat → Option Nat} {a0 : Act} {S : List Sq} {W : List Bool} : ∀ {l : List Oper} {k : Nat}, oblqs P B c Ph turn own a0 S W k l → ∀ {j : Nat} {o : Oper}, l[j]? = some o → oblq P B c Ph turn own a0 S W (k + j) o
  | [], _, _, _, _, h => by simp at h
  | x :: r, k, h, 0, o, ho => by
    simp at ho
    subst ho
    exact h.1
  | x :: r, k, h, j + 1, o, ho => by
    have := oblqs_at h.2 (j := j) (o := o) (by simpa using ho)
    rwa [show k + 1 + j = k + (j + 1) by omega] at this
def okq (own : Nat → Option Nat) (ops : Array Oper) (sz n : Nat) : Bool := ok ops sz && tailOk ops n && decide (n ≤ ops.size) && ((List.range ops.size).all fun j => match ops[j]? with
  | some o => (o.op.operands.all fun x => match x with | .tmp t => own t == owner ops t && (decide (n ≤ j) || (match owner ops t with | some i => decide (i < n) | none => true)) | _ => true) &&
      (decide (n ≤ j) || (match o.guard with | some (g, _) => decide (g < n) | none => true))
  | none => true)
theorem regionQ {id : Nat} {ls : List Oper} {Q : Exit → Act → World → Prop} {a0 : Act} {w : World} (hm : P.follows .mixedOrders = true) (n c : Nat) (Ph : Bool → World → Prop) (turn : World → World → Prop)
    (hph : ∀ b w w', Ph b w → Below w.heap.size w w' → Ph b w') (hph0 : Ph false w.drew) (hturn : ∀ x y b, turn x y → w.heap.size ≤ b → b < x.heap.size → y.heap[b]? = x.heap[b]?)
    (own : Nat → Option Nat) (S : List Sq) (W : List Bool) (hok : okq own ls.toArray a0.tmps.size n = true) (h : oblqs P w.heap.size c Ph turn own a0 S W 0 (ls.take n))
    (hend : ∀ (vs : Nat → Value) (w1 : World), Ph (decide (c < n)) w1 → (∀ (j : Nat) (o : Oper) (d : Nat), (ls.take n)[j]? = some o → o.dst = some d → (sq S j).holds w.heap.size (vs j) w1) →
      wpList P ls.toArray Q (ls.drop n) (putAll 0 (ls.take n) vs a0) w1) :
    (Code.region id ls.toArray true).wp P Q a0 w := by
  unfold okq at hok
  simp only [Bool.and_eq_true, decide_eq_true_eq] at hok
  obtain ⟨⟨⟨hok1, hok2⟩, hnl⟩, hok3⟩ := hok
  have at3 : ∀ (j : Nat) (o : Oper), ls[j]? = some o → (∀ t, .tmp t ∈ o.op.operands.toList → own t = owner ls.toArray t ∧ (j < n → ∀ i, owner ls.toArray t = some i → i < n)) ∧ (j < n → ∀ g b, o.guard = some (g, b) → g < n) := by
    intro j o ho
    have hj := (List.getElem?_eq_some_iff.1 ho).1
    have h1 := List.all_eq_true.1 hok3 j (List.mem_range.2 (by simpa using hj))
    have ho' : ls.toArray[j]? = some o := by simpa using ho
    rw [ho'] at h1
    simp only [Bool.and_eq_true] at h1
    refine ⟨fun t ht => ?_, fun hjn g b hg => ?_⟩
    · have h2 := Array.all_eq_true_iff_forall_mem.1 h1.1 (.tmp t) (by simpa using ht)
      simp only [Bool.and_eq_true, Bool.or_eq_true, decide_eq_true_eq] at h2
      refine ⟨by simpa using h2.1, fun hjn i hi => ?_⟩
      have h3 := h2.2
      rw [hi] at h3
      simp only [decide_eq_true_eq] at h3
      omega
    · have h2 := h1.2
      rw [hg] at h2
      simp only [Bool.or_eq_true, decide_eq_true_eq] at h2
      omega
  have tk : ∀ (j : Nat) (o : Oper), j < n → ls.toArray[j]? = some o → (ls.take n)[j]? = some o := fun j o hj ho => by
    rw [List.getElem?_take_of_lt hj]; simpa using ho
  refine regionC hm n c Ph turn hph hph0 (fun j => (sq S j).holds w.heap.size) (fun j v w1 w2 h hb => (sq S j).stab h hb) (fun j v w1 w2 h ht => ?_) (fun j => W.getD j true) hok1 hok2 hnl
    (fun j o hj ho => ?_) (fun j o hj ho ρ w1 b hp hc hd => ?_) (fun j i t o hj ho ht hi => ((at3 j o (by simpa using ho)).1 t ht).2 hj i hi) (fun a w1 hp hdf hsz hall hout => ?_)
  · cases hs : sq S j with
    | is u => rw [hs] at h; exact h
    | sat p => rw [hs] at h; exact h
    | new o =>
      rw [hs] at h
      obtain ⟨b, h1, h2, h3⟩ := h
      exact ⟨b, h1, h2, (hturn _ _ b ht h2 (Array.getElem?_eq_some_iff.1 h3).1).trans h3⟩
    | sl o n' m' =>
      rw [hs] at h
      obtain ⟨b, h1, h2, h3⟩ := h
      exact ⟨b, h1, h2, (hturn _ _ b ht h2 (Array.getElem?_eq_some_iff.1 h3).1).trans h3⟩
  · have := (oblqs_at h (tk j o hj ho)).1
    rw [Nat.zero_add] at this
    cases hg : o.guard with
    | none => rw [hg] at this; exact this
    | some gb =>
      obtain ⟨g, b⟩ := gb
      rw [hg] at this
      exact ⟨(at3 j o (by simpa using ho)).2 hj g b hg, this⟩
  · have h1 := (oblqs_at h (tk j o hj ho)).2
    rw [Nat.zero_add] at h1
    have hd' := depsq_of (B := w.heap.size) (own := own) (S := S) (fun t ht => ((at3 j o (by simpa using ho)).1 t ht).1) hd
    by_cases hjc : j = c
    · rw [if_pos hjc] at h1
      have hb := hc hjc
      subst hb
      rw [if_pos h1.1]
      have h2 := h1.2 ρ w1 hp hd'
      simpa only [if_pos hjc] using h2
    · rw [if_neg hjc] at h1
      have h2 := h1 ρ w1 b hp hd'
      by_cases hw : W.getD j true = true
      · rw [if_pos hw] at h2 ⊢
        simpa only [if_neg hjc] using h2
      · rw [if_neg hw] at h2 ⊢
        exact ⟨hjc, h2⟩
  · have key := hend (fun j => match (ls.take n)[j]? with | some o => slot o a | none => undef) w1 hp (fun j o d ho hd => by
      have hlt := (List.getElem?_eq_some_iff.1 ho).1
      have hjn : j < n := by simp at hlt; omega
      have := hall j o hjn (by rw [List.getElem?_toArray]; rwa [List.getElem?_take_of_lt hjn] at ho)
      simpa [ho] using this)
    rw [putAll_eq (b := a) (ls.take n) 0 a0 hsz.symm hdf.symm (fun j o d ho hd => ?_) (fun t ht => ?_)] at key
    · simpa using key
    · have hlt := (List.getElem?_eq_some_iff.1 ho).1
      have hjn : j < n := by simp at hlt; omega
      have h1 := (ok_at hok1 (j := j) (o := o) (by rw [List.getElem?_toArray]; rwa [List.getElem?_take_of_lt hjn] at ho)).1 d hd
      refine ⟨by rw [hsz]; exact h1.1, ?_⟩
      simp only [Nat.zero_add, ho, slot, hd]
    · refine hout t fun i hi => ?_
      apply Classical.byContradiction
      intro hlt
      obtain ⟨o, ho, hd⟩ := owner_spec hi
      exact ht i o (tk i o (by omega) ho) hd
/-- no call that turns anything -/
theorem regionP {id : Nat} {ls : List Oper} {Q : Exit → Act → World → Prop} {a0 : Act} {w : World} (hm : P.follows .mixedOrders = true) (n : Nat)
    (own : Nat → Option Nat) (S : List Sq) (W : List Bool) (hok : okq own ls.toArray a0.tmps.size n = true) (hn : (ls.take n).length ≤ 1000)
    (h : oblqs P w.heap.size 1000 (fun _ x => Below w.heap.size w x) (fun _ _ => False) own a0 S W 0 (ls.take n))
    (hend : ∀ (vs : Nat → Value) (w1 : World), Below w.heap.size w w1 → (∀ (j : Nat) (o : Oper) (d : Nat), (ls.take n)[j]? = some o → o.dst = some d → (sq S j).holds w.heap.size (vs j) w1) →
      wpList P ls.toArray Q (ls.drop n) (putAll 0 (ls.take n) vs a0) w1) :
    (Code.region id ls.toArray true).wp P Q a0 w :=
  regionQ hm n 1000 (fun _ x => Below w.heap.size w x) (fun _ _ => False) (fun b x y hx hb => hx.trans (hb.mono hx.size)) ⟨rfl, rfl, rfl, Nat.le_refl _, fun _ _ => rfl⟩ (fun x y b h => h.elim) own S W hok h hend
theorem gives_build {o : Oper} {ρ : Operand → Value} {w : World} {R : Value → World → Prop} (t : TypeId) (parts : Array (Nat × Operand)) (ho : o.op = .build t parts) (cs : Array Value)
    (hb : P.built t (parts.map fun (i, x) => (i, ρ x)).toList = some cs) (hr : R (.agg cs) w) : gives P o ρ w R := by
  refine gives_is (.agg cs) ?_ hr
  unfold execOp
  simp only [ho, Sem.run_bind, run_build w t _ cs hb, Result.andThen_ok, Sem.run_pure]
theorem gives_load {o : Oper} {ρ : Operand → Value} {w : World} {R : Value → World → Prop} (ty : TypeId) (x : Operand) (ho : o.op = .load ty x) (q : Addr) (v : Value) (hx : ρ x = .pointer (some q)) (hl : (loadVar ty q).run P w = .ok v w) (hr : R v w) : gives P o ρ w R := by
  refine gives_is v ?_ hr
  unfold execOp
  simp only [ho, hx, Instr.loadAt, Instr.sureAddr, Sem.run_bind, Sem.run_pure, Result.andThen_ok, hl]
theorem gives_row {o : Oper} {ρ : Operand → Value} {w w1 : World} {R : Value → World → Prop} (ty : TypeId) (x : Operand) (ho : o.op = .load ty x) (g : Nat) (cs : Array Value) (t : TypeId) (fr : Nat × Nat) (d : TypeDesc) (hx : ρ x = .pointer (some ⟨g, 0, none⟩))
    (hg : w.heap[g]? = some (.cells cs t fr)) (hb : Below w.heap.size w w1)
    (hu : P.underlying ty = some d) (hd : (match d with | .struct _ | .array _ _ => true | _ => false) = true) (hi : (P.info? ty).map (·.size) = some cs.size) (hr : R (.agg cs) w1) : gives P o ρ w1 R :=
  gives_load ty x ho _ _ hx (run_loadVar_row w1 g t ty cs fr d ((hb.block g (Array.getElem?_eq_some_iff.1 hg).1).trans hg) hu hd hi) hr
theorem gives_setrow {o : Oper} {ρ : Operand → Value} {w : World} {R : Value → World → Prop} (ty : TypeId) (x y : Operand) (ho : o.op = .store ty x y) (g : Nat) (cells : Array Value) (hx : ρ x = .pointer (some ⟨g, 0, none⟩)) (hy : ρ y = .agg cells)
    (t : TypeId) (old : Array Value) (hg : w.heap[g]? = some (.cells old t (0, 0))) (hi : (P.info? ty).map (·.size) = some cells.size) (hold : old.size = cells.size) (h1 : cells.all (·.oneCell') = true)
    (hr : R undef (w.setRow g cells)) : gives P o ρ w R := by
  unfold gives execOp
  simp only [ho, hx, hy, Instr.storeAt, Instr.sureAddr, Sem.run_bind, Sem.run_pure, Result.andThen_ok, run_storeVar_row w g t ty old cells hg hi hold h1]
  exact hr
/-- ahead of the store of a row, and behind it -/
def PhS (w : World) (g : Nat) (cs : Array Value) : Bool → World → Prop
  | false, x => Below w.heap.size w x
  | true, x => ∃ y, Below w.heap.size w y ∧ Below (y.setRow g cs).heap.size (y.setRow g cs) x
theorem PhS.old {w x : World} {g : Nat} {cs : Array Value} {b : Bool} (h : PhS w g cs b x) {k : Nat} {o : Obj} (hk : k ≠ g) (ho : w.heap[k]? = some o) : x.heap[k]? = some o := by
  have hlt := (Array.getElem?_eq_some_iff.1 ho).1
  cases b with
  | false => exact (Below.block h k hlt).trans ho
  | true =>
    obtain ⟨y, h1, h2⟩ := h
    have h3 : (y.setRow g cs).heap[k]? = some o := (setRow_other y g k cs hk).trans ((h1.block k hlt).trans ho)
    exact (h2.block k (Array.getElem?_eq_some_iff.1 h3).1).trans h3
theorem PhS.cell {w x : World} {g : Nat} {cs : Array Value} {b : Bool} (h : PhS w g cs b x) {k j : Nat} {cells : Array Value} {t : TypeId} {fr : Nat × Nat} (hk : k ≠ g) (ho : w.heap[k]? = some (.cells cells t fr)) : x.cell? ⟨k, j, none⟩ = cells[j]? := by
  rw [cell_of_row x k j _ _ _ (h.old hk ho)]
theorem PhS.below {w0 w x : World} {g B : Nat} {cs : Array Value} (h : PhS w g cs true x) (h0 : Below B w0 w) (hB : B ≤ w.heap.size) (hg : B ≤ g) : Below B w0 x := by
  obtain ⟨y, h1, h2⟩ := h
  have h3 : Below B w0 (y.setRow g cs) := (h0.trans (h1.mono hB)).trans ⟨rfl, rfl, rfl, by simp [World.setRow], fun k hk => setRow_other y g k cs (by omega)⟩
  exact h3.trans (h2.mono (by have := h3.size; have := h0.size; have := h1.size; simp [World.setRow] at *; omega))
theorem PhS.new {w x : World} {g : Nat} {cs old : Array Value} {t : TypeId} {fr : Nat × Nat} (h : PhS w g cs true x) (ho : w.heap[g]? = some (.cells old t fr)) : x.heap[g]? = some (.cells cs t fr) := by
  obtain ⟨y, h1, h2⟩ := h
  have h3 : y.heap[g]? = some (.cells old t fr) := (h1.block g (Array.getElem?_eq_some_iff.1 ho).1).trans ho
  have h4 : (y.setRow g cs).heap[g]? = some (.cells cs t fr) := setRow_heap _ _ _ _ _ _ h3
  exact (h2.block g (Array.getElem?_eq_some_iff.1 h4).1).trans h4
theorem regionS {id : Nat} {ls : List Oper} {Q : Exit → Act → World → Prop} {a0 : Act} {w : World} (hm : P.follows .mixedOrders = true) (n c : Nat) (g : Nat) (cs : Array Value) (hg : g < w.heap.size)
    (own : Nat → Option Nat) (S : List Sq) (W : List Bool) (hok : okq own ls.toArray a0.tmps.size n = true)
    (h : oblqs P w.heap.size c (PhS w g cs) (fun y z => z = y.setRow g cs) own a0 S W 0 (ls.take n))
    (hend : ∀ (vs : Nat → Value) (w1 : World), PhS w g cs (decide (c < n)) w1 → (∀ (j : Nat) (o : Oper) (d : Nat), (ls.take n)[j]? = some o → o.dst = some d → (sq S j).holds w.heap.size (vs j) w1) →
      wpList P ls.toArray Q (ls.drop n) (putAll 0 (ls.take n) vs a0) w1) :
    (Code.region id ls.toArray true).wp P Q a0 w :=
  regionQ hm n c (PhS w g cs) (fun y z => z = y.setRow g cs) (fun b x y hx hb => by
      cases b with
      | false => exact Below.trans hx (hb.mono (Below.size hx))
      | true => obtain ⟨z, h1, h2⟩ := hx; exact ⟨z, h1, h2.trans (hb.mono h2.size)⟩) ⟨rfl, rfl, rfl, Nat.le_refl _, fun _ _ => rfl⟩
    (fun x y b hxy hb hlt => by rw [hxy]; exact setRow_other x g b cs (by omega)) own S W hok h hend
/-- all but two blocks lie as they lay -/
structure Kept (q g : Nat) (w w' : World) : Prop where
  os : w'.os = w.os
  tape : w'.tape = w.tape
  output : w'.output = w.output
  size : w.heap.size ≤ w'.heap.size
  block : ∀ k, k < w.heap.size → k ≠ q → k ≠ g → w'.heap[k]? = w.heap[k]?
theorem Kept.refl (q g : Nat) (w : World) : Kept q g w w := ⟨rfl, rfl, rfl, Nat.le_refl _, fun _ _ _ _ => rfl⟩
theorem Kept.trans {q g : Nat} {a b c : World} (h : Kept q g a b) (k : Kept q g b c) : Kept q g a c :=
  ⟨k.os.trans h.os, k.tape.trans h.tape, k.output.trans h.output, Nat.le_trans h.size k.size, fun i hi h1 h2 => (k.block i (Nat.lt_of_lt_of_le hi h.size) h1 h2).trans (h.block i hi h1 h2)⟩
theorem Kept.of_below {q g : Nat} {w w' : World} (h : Below w.heap.size w w') : Kept q g w w' := ⟨h.os, h.tape, h.output, h.size, fun k hk _ _ => h.block k hk⟩
theorem Kept.of_grown {q g : Nat} {w w' : World} (h : w.grownBy w' (some g)) : Kept q g w w' := ⟨h.os, h.tape, h.output, h.size, fun k hk _ h2 => h.block k hk (by simpa using h2)⟩
theorem Kept.of_grownq {q g : Nat} {w w' : World} (h : w.grownBy w' (some q)) : Kept q g w w' := ⟨h.os, h.tape, h.output, h.size, fun k hk h2 _ => h.block k hk (by simpa using h2)⟩
theorem Kept.setCell {q g : Nat} {a w : World} (h : Kept q g a w) (j : Nat) (u : Value) : Kept q g a (w.setCell ⟨q, j, none⟩ u) :=
  h.trans ⟨rfl, rfl, rfl, by simp [World.setCell], fun k hk h1 _ => Below.heap_setCell _ _ _ _ (by simpa using h1)⟩
theorem Kept.below {q g : Nat} {a b c : World} (h : Kept q g a b) (k : Below b.heap.size b c) : Kept q g a c := h.trans (Kept.of_below k)
theorem Kept.setRow {q g r : Nat} {a w : World} (h : Kept q g a w) (hr : a.heap.size ≤ r) (cs : Array Value) : Kept q g a (w.setRow r cs) :=
  ⟨h.os, h.tape, h.output, by simpa [World.setRow] using h.size, fun k hk h1 h2 => (setRow_other w r k cs (by omega)).trans (h.block k hk h1 h2)⟩
/-- ahead of a call that turns two blocks, and behind it -/
def PhK (w : World) (q g : Nat) (Post : World → Prop) : Bool → World → Prop
  | false, x => Below w.heap.size w x
  | true, x => ∃ y z, Below w.heap.size w y ∧ Kept q g y z ∧ Post z ∧ Below z.heap.size z x
theorem PhK.old {w x : World} {q g : Nat} {Post : World → Prop} {b : Bool} (h : PhK w q g Post b x) {k : Nat} {o : Obj} (h1 : k ≠ q) (h2 : k ≠ g) (ho : w.heap[k]? = some o) : x.heap[k]? = some o := by
  have hlt := (Array.getElem?_eq_some_iff.1 ho).1
  cases b with
  | false => exact (Below.block h k hlt).trans ho
  | true =>
    obtain ⟨y, z, hy, hz, _, hx⟩ := h
    have e1 : y.heap[k]? = some o := (hy.block k hlt).trans ho
    have e2 : z.heap[k]? = some o := (hz.block k (Array.getElem?_eq_some_iff.1 e1).1 h1 h2).trans e1
    exact (hx.block k (Array.getElem?_eq_some_iff.1 e2).1).trans e2
theorem PhK.size {w x : World} {q g : Nat} {Post : World → Prop} {b : Bool} (h : PhK w q g Post b x) : w.heap.size ≤ x.heap.size := by
  cases b with
  | false => exact Below.size h
  | true => obtain ⟨y, z, hy, hz, _, hx⟩ := h; exact Nat.le_trans hy.size (Nat.le_trans hz.size hx.size)
theorem PhK.kept {w x : World} {q g : Nat} {Post : World → Prop} {b : Bool} (h : PhK w q g Post b x) : Kept q g w x := by
  cases b with
  | false => exact Kept.of_below h
  | true => obtain ⟨y, z, hy, hz, _, hx⟩ := h; exact ((Kept.of_below hy).trans hz).below hx
theorem regionK {id : Nat} {ls : List Oper} {Q : Exit → Act → World → Prop} {a0 : Act} {w : World} (hm : P.follows .mixedOrders = true) (n c : Nat) (q g : Nat) (Post : World → Prop) (hq : q < w.heap.size) (hg : g < w.heap.size)
    (own : Nat → Option Nat) (S : List Sq) (W : List Bool) (hok : okq own ls.toArray a0.tmps.size n = true)
    (h : oblqs P w.heap.size c (PhK w q g Post) (Kept q g) own a0 S W 0 (ls.take n))
    (hend : ∀ (vs : Nat → Value) (w1 : World), PhK w q g Post (decide (c < n)) w1 → (∀ (j : Nat) (o : Oper) (d : Nat), (ls.take n)[j]? = some o → o.dst = some d → (sq S j).holds w.heap.size (vs j) w1) →
      wpList P ls.toArray Q (ls.drop n) (putAll 0 (ls.take n) vs a0) w1) :
    (Code.region id ls.toArray true).wp P Q a0 w :=
  regionQ hm n c (PhK w q g Post) (Kept q g) (fun b x y hx hb => by
      cases b with
      | false => exact Below.trans hx (hb.mono (Below.size hx))
      | true => obtain ⟨y', z, h1, h2, h3, h4⟩ := hx; exact ⟨y', z, h1, h2, h3, h4.trans (hb.mono h4.size)⟩) ⟨rfl, rfl, rfl, Nat.le_refl _, fun _ _ => rfl⟩
    (fun x y b hxy hb hlt => hxy.block b hlt (by omega) (by omega)) own S W hok h hend
end Og
end Go.Proofs.YtianojbdabeoeaaGreatDoor
end

section
namespace Go.Proofs.YtianojbdabeoeaaGreatDoor
set_option linter.unusedVariables false
namespace Og
open Go.RowKit
variable {P : Program}
/-- from number n on each operation has no guard and waits for all ahead of it that do not float -/
def tailF (ops : Array Oper) (n : Nat) (F : Nat → Bool) : Bool := (List.range ops.size).all fun k => decide (k < n) || (match ops[k]? with | some o => o.guard.isNone && (List.range k).all fun i => F i || waits o i | none => false)
theorem tailF_at {ops : Array Oper} {n k : Nat} {F : Nat → Bool} {o : Oper} (h : tailF ops n F = true) (ho : ops[k]? = some o) (hk : n ≤ k) : o.guard = none ∧ ∀ i, i < k → F i = false → waits o i = true := by
  have h1 := List.all_eq_true.1 h k (List.mem_range.2 (Array.getElem?_eq_some_iff.1 ho).1)
  rw [Bool.or_eq_true] at h1
  rcases h1 with h1 | h1
  · simp only [decide_eq_true_eq] at h1; omega
  · rw [ho] at h1
    simp only [Bool.and_eq_true] at h1
    refine ⟨by simpa using h1.1, fun i hi hf => ?_⟩
    have h2 := List.all_eq_true.1 h1.2 i (List.mem_range.2 hi)
    rw [hf, Bool.false_or] at h2
    exact h2
/-- the value of a slot that floats -/
def fval (ops : Array Oper) (F : Nat → Bool) (val : Nat → Value) (t : Nat) : Option Value := match owner ops t with | some j => if F j = true then some (val j) else none | none => none
/-- the frame in which all that floats has been taken -/
def fill (ops : Array Oper) (F : Nat → Bool) (val : Nat → Value) (a : Act) : Act := { a with tmps := a.tmps.mapIdx fun t v => (fval ops F val t).getD v }
section
variable {ops : Array Oper} {F : Nat → Bool} {val : Nat → Value}
theorem fill_get (a : Act) (t : Nat) : (fill ops F val a).tmps.getD t undef = if t < a.tmps.size then (fval ops F val t).getD (a.tmps.getD t undef) else undef := by
  unfold fill
  by_cases h : t < a.tmps.size
  · simp [h]
  · simp [h]
theorem fill_size (a : Act) : (fill ops F val a).tmps.size = a.tmps.size := by simp [fill]
theorem fill_defers (a : Act) : (fill ops F val a).defers = a.defers := rfl
theorem act_ext {a b : Act} (hs : a.tmps.size = b.tmps.size) (hd : a.defers = b.defers) (h : ∀ t, a.tmps.getD t undef = b.tmps.getD t undef) : a = b := by
  obtain ⟨at1, ad⟩ := a
  obtain ⟨bt, bd⟩ := b
  simp only at hs hd h
  subst hd
  have e : at1 = bt := by
    apply Array.ext hs
    intro i h3 h4
    have h5 := h i
    simp only [Array.getD_eq_getD_getElem?, Array.getElem?_eq_getElem h3, Array.getElem?_eq_getElem h4, Option.getD_some] at h5
    exact h5
  rw [e]
theorem put_get (a : Act) (d : Option Nat) (v : Value) (t : Nat) : (a.put d v).tmps.getD t undef = if d = some t ∧ t < a.tmps.size then v else a.tmps.getD t undef := by
  cases d with
  | none => simp [Act.put]
  | some d =>
    by_cases hdt : d = t
    · subst hdt
      by_cases hlt : d < a.tmps.size
      · simp [Act.put, hlt]
      · simp [Act.put, hlt]
    · have : ¬ (some d = some t ∧ t < a.tmps.size) := fun h => hdt (Option.some.inj h.1)
      rw [if_neg this]
      simp [Act.put, Array.getElem?_setIfInBounds_ne hdt]
theorem put_size (a : Act) (d : Option Nat) (v : Value) : (a.put d v).tmps.size = a.tmps.size := by cases d <;> simp [Act.put]
theorem put_defers (a : Act) (d : Option Nat) (v : Value) : (a.put d v).defers = a.defers := by cases d <;> rfl
theorem fill_put (a : Act) (d : Option Nat) (v : Value) (h : ∀ t, d = some t → fval ops F val t = none) : fill ops F val (a.put d v) = (fill ops F val a).put d v := by
  refine act_ext (by rw [fill_size, put_size, put_size, fill_size]) (by rw [put_defers, fill_defers, fill_defers, put_defers]) fun t => ?_
  rw [fill_get, put_size, put_get, put_get, fill_get, fill_size]
  by_cases hd : d = some t
  · by_cases hlt : t < a.tmps.size
    · simp [hd, hlt, h t hd]
    · simp [hd, hlt]
  · simp [hd]
theorem fill_float (a : Act) (t : Nat) (v : Value) (h : fval ops F val t = some v) : fill ops F val (a.put (some t) v) = fill ops F val a := by
  refine act_ext (by rw [fill_size, put_size, fill_size]) (by rw [fill_defers, fill_defers, put_defers]) fun u => ?_
  rw [fill_get, put_size, put_get, fill_get]
  by_cases hu : t = u
  · subst hu
    by_cases hlt : t < a.tmps.size <;> simp [hlt, h]
  · have : ¬ ((some t : Option Nat) = some u ∧ u < a.tmps.size) := fun e => hu (Option.some.inj e.1)
    rw [if_neg this]
theorem fill_done (a : Act) (h : ∀ t v, fval ops F val t = some v → t < a.tmps.size → a.tmps.getD t undef = v) : fill ops F val a = a := by
  refine act_ext (fill_size a) rfl fun t => ?_
  rw [fill_get]
  by_cases hlt : t < a.tmps.size
  · rw [if_pos hlt]
    cases hf : fval ops F val t with
    | none => rfl
    | some v => rw [h t v hf hlt]; rfl
  · simp [hlt]
end
/-- what is asked of what floats: a part of a result whose value is known -/
structure Floats (P : Program) (ops : Array Oper) (n : Nat) (F : Nat → Bool) (val : Nat → Value) (j : Nat) : Prop where
  lt : j < n
  one : ∃ (o : Oper) (d s js : Nat), ops[j]? = some o ∧ o.guard = none ∧ o.dst = some d ∧ o.op.operands.toList = [.tmp s] ∧ owner ops s = some js ∧ js < n ∧ F js = false ∧
    ∀ (ρ : Operand → Value) (w : World), ρ (.tmp s) = val js → (execOp ρ o).run P w = .ok (.value (val j)) w
/-- the last ones, each of which yields something -/
def tailGo (P : Program) (Q : Exit → Act → World → Prop) : List Oper → Act → World → Prop
  | [], a, w => Q .normal a w
  | o :: r, a, w => ∃ x w', (execOp a.eval o).run P w = .ok x w' ∧ ((∃ v, x = .value v ∧ tailGo P Q r (a.put o.dst v) w') ∨ (x = .skip ∧ tailGo P Q r (a.put o.dst undef) w'))
/-- behind the first ones that do not float: the rest as the text has it, what floats in between -/
theorem tail_float {ops : Array Oper} {n sz : Nat} {F : Nat → Bool} {val : Nat → Value} {Q : Exit → Act → World → Prop} (hok : ok ops sz = true) (ht : tailF ops n F = true) (hfl : ∀ j, F j = true → Floats P ops n F val j) :
    ∀ (fuel : Nat) (m : Nat) (listed : Array Bool) (a : Act) (w : World), n ≤ m → m ≤ ops.size → listed.size = ops.size → a.tmps.size = sz →
    (∀ j, j < n → F j = false → listed.getD j false = true) → (∀ j, n ≤ j → j < ops.size → (listed.getD j false = true ↔ j < m)) →
    (∀ (j : Nat) (o : Oper) (d : Nat), ops[j]? = some o → o.dst = some d → listed.getD j false = true → F j = true → a.tmps.getD d undef = val j) →
    (∀ (j : Nat) (o : Oper) (s js : Nat), F j = true → ops[j]? = some o → o.op.operands.toList = [.tmp s] → owner ops s = some js → a.tmps.getD s undef = val js) →
    ((List.range ops.size).filter fun j => !listed.getD j true).length ≤ fuel → tailGo P Q (ops.toList.drop m) (fill ops F val a) w → wpAny P .any ops Q fuel listed a w := by
  have fv : ∀ {j : Nat} {o : Oper} {d : Nat}, ops[j]? = some o → o.dst = some d → F j = true → fval ops F val d = some (val j) := fun {j o d} ho hd hf => by
    unfold fval
    rw [((ok_at hok ho).1 d hd).2]
    simp [hf]
  have fn : ∀ {j : Nat} {o : Oper} {d : Nat}, ops[j]? = some o → o.dst = some d → F j = false → fval ops F val d = none := fun {j o d} ho hd hf => by
    unfold fval
    rw [((ok_at hok ho).1 d hd).2]
    simp [hf]
  have bk : ∀ {t : Nat} {v : Value}, fval ops F val t = some v → ∃ j o, ops[j]? = some o ∧ o.dst = some t ∧ F j = true ∧ v = val j := fun {t v} h => by
    unfold fval at h
    cases hown : owner ops t with
    | none => rw [hown] at h; cases h
    | some j =>
      rw [hown] at h
      obtain ⟨o, ho, hd⟩ := owner_spec hown
      by_cases hf : F j = true
      · simp only [hf, if_true] at h
        exact ⟨j, o, ho, hd, hf, (Option.some.inj h).symm⟩
      · simp [hf] at h
  intro fuel
  induction fuel with
  | zero =>
    intro m listed a w hm hml hs hsz h1 h2 h3 h4 hc hw
    have hall : ∀ j, j < ops.size → listed.getD j false = true := fun j hj => by
      cases hl : listed.getD j false
      · exfalso
        have hjl : j < listed.size := by omega
        have : j ∈ (List.range ops.size).filter fun j => !listed.getD j true := List.mem_filter.2 ⟨List.mem_range.2 hj, by simp [hjl] at hl ⊢; exact hl⟩
        rw [List.eq_nil_of_length_eq_zero (by omega : ((List.range ops.size).filter fun j => !listed.getD j true).length = 0)] at this
        cases this
      · rfl
    have hmm : m = ops.size := by
      apply Classical.byContradiction
      intro hne
      have := (h2 m hm (by omega)).1 (hall m (by omega))
      omega
    rw [hmm, List.drop_eq_nil_of_le (by simp)] at hw
    have hf : fill ops F val a = a := fill_done a fun t v hfv _ => by
      obtain ⟨j, o, ho, hd, hF, rfl⟩ := bk hfv
      exact h3 j o t ho hd (hall j (Array.getElem?_eq_some_iff.1 ho).1) hF
    rw [hf] at hw
    refine ⟨?_, hw⟩
    apply List.eq_nil_iff_forall_not_mem.2
    intro j hj
    obtain ⟨h0, o, ho, _⟩ := mem_ready.1 hj
    have h5 := hall j (Array.getElem?_eq_some_iff.1 ho).1
    have hjl : j < listed.size := by have := (Array.getElem?_eq_some_iff.1 ho).1; omega
    simp [hjl] at h0 h5
    rw [h0] at h5; cases h5
  | succ fuel ih =>
    intro m listed a w hm hml hs hsz h1 h2 h3 h4 hc hw
    refine ⟨fun hr => ?_, fun i hi => ?_⟩
    · -- none is ready: all have come
      have hall : ∀ j, j < ops.size → listed.getD j false = true := by
        intro j
        induction j using Nat.strongRecOn with
        | _ j ihj =>
          intro hj
          cases hl : listed.getD j false
          · exfalso
            have ho := Array.getElem?_eq_getElem (xs := ops) (i := j) hj
            have hmem : j ∈ Region.ready .any ops listed := by
              rw [mem_ready]
              refine ⟨?_, _, ho, fun e he hb => ?_⟩
              · have hjl : j < listed.size := by omega
                simp [hjl] at hl ⊢
                exact hl
              · have hlt := (ok_at hok ho).2.2.2 e he hb
                exact ihj e.on hlt (by omega)
            rw [hr] at hmem
            cases hmem
          · rfl
      have hmm : m = ops.size := by
        apply Classical.byContradiction
        intro hne
        have := (h2 m hm (by omega)).1 (hall m (by omega))
        omega
      rw [hmm, List.drop_eq_nil_of_le (by simp)] at hw
      have hf : fill ops F val a = a := fill_done a fun t v hfv _ => by
        obtain ⟨j, o, ho, hd, hF, rfl⟩ := bk hfv
        exact h3 j o t ho hd (hall j (Array.getElem?_eq_some_iff.1 ho).1) hF
      rw [hf] at hw
      exact hw
    · obtain ⟨h0, o, ho, hafter⟩ := mem_ready.1 hi
      have hil := (Array.getElem?_eq_some_iff.1 ho).1
      obtain ⟨k1, k2, k3, k4⟩ := ok_at hok ho
      have hiu : listed.getD i false = false := by
        have hjl : i < listed.size := by omega
        simp [hjl] at h0 ⊢
        exact h0
      have hcount : ((List.range ops.size).filter fun j => !(listed.setIfInBounds i true).getD j true).length ≤ fuel := by
        have := filter_lt (l := List.range ops.size) (p := fun j => !listed.getD j true) (q := fun j => !(listed.setIfInBounds i true).getD j true)
          (fun x hx => by
            by_cases hxi : i = x
            · subst hxi; simp only [h0]; rfl
            · rw [getD_set_ne true hxi] at hx; exact hx) (List.mem_range.2 hil) (by simp only [h0]; rfl)
          (by have : i < listed.size := by omega
              simp [this])
        omega
      have hset : ∀ j, (listed.setIfInBounds i true).getD j false = true ↔ (j = i ∨ listed.getD j false = true) := fun j => by
        by_cases hij : i = j
        · subst hij
          have : i < listed.size := by omega
          simp [this]
        · rw [getD_set_ne false hij]
          exact ⟨.inr, fun h => h.resolve_left fun e => hij e.symm⟩
      by_cases hF : F i = true
      · -- it floats
        obtain ⟨hlt, o', d, s, js, ho', hg, hd, hops, hown, hjs, hFjs, hrun⟩ := hfl i hF
        obtain rfl : o = o' := Option.some.inj (ho.symm.trans ho')
        have hsv : a.eval (.tmp s) = val js := h4 i o s js hF ho hops hown
        have hdlt : d < a.tmps.size := by rw [hsz]; exact (k1 d hd).1
        have hw' : Region.wanted o (yielded ops a.tmps) = true := by unfold Region.wanted; rw [hg]
        unfold wpOp
        rw [ho]
        simp only [hw', if_true]
        refine .inl ?_
        unfold Oper.wp
        rw [hrun a.eval w hsv]
        show wpAny P .any ops Q fuel (listed.setIfInBounds i true) (a.put o.dst (val i)) w
        rw [hd]
        refine ih m _ _ w hm hml (by simpa using hs) (by rw [put_size]; exact hsz) (fun j hj hf => (hset j).2 (.inr (h1 j hj hf))) (fun j hj1 hj2 => ?_) (fun j oj dj hoj hdj hlj hFj => ?_) (fun j oj sj jsj hFj hoj hopj hownj => ?_) hcount ?_
        · rw [hset, ← h2 j hj1 hj2]
          exact ⟨fun h => h.resolve_left (by omega), .inr⟩
        · rw [put_get]
          by_cases hdd : d = dj
          · subst hdd
            have hij : i = j := by
              have e1 := (k1 d hd).2
              have e2 := ((ok_at hok hoj).1 d hdj).2
              exact Option.some.inj (e1.symm.trans e2)
            subst hij
            rw [if_pos ⟨rfl, hdlt⟩]
          · rw [if_neg (fun e => hdd (Option.some.inj e.1))]
            rcases (hset j).1 hlj with e | e
            · exfalso
              subst e
              obtain rfl : o = oj := Option.some.inj (ho.symm.trans hoj)
              exact hdd (Option.some.inj (hd.symm.trans hdj))
            · exact h3 j oj dj hoj hdj e hFj
        · rw [put_get]
          by_cases hds : d = sj
          · exfalso
            subst hds
            obtain ⟨_, o2, d2, s2, js2, ho2, _, _, hops2, hown2, _, hF2, _⟩ := hfl j hFj
            obtain rfl : oj = o2 := Option.some.inj (hoj.symm.trans ho2)
            have e0 : d = s2 := by rw [hopj] at hops2; injection hops2 with e _; injection e
            rw [← e0] at hown2
            have e1 := (k1 d hd).2
            have e2 : i = js2 := Option.some.inj (e1.symm.trans hown2)
            rw [← e2] at hF2
            rw [hF] at hF2; cases hF2
          · rw [if_neg (fun e => hds (Option.some.inj e.1))]
            exact h4 j oj sj jsj hFj hoj hopj hownj
        · rw [fill_float a d (val i) (fv ho hd hF)]
          exact hw
      · -- it is the next of the last ones
        have hF : F i = false := by simpa using hF
        have him : i = m := by
          have hin : n ≤ i := by
            apply Classical.byContradiction
            intro hlt
            rw [h1 i (by omega) hF] at hiu; cases hiu
          have hnm : ¬ i < m := fun hlt => by rw [(h2 i hin hil).2 hlt] at hiu; cases hiu
          apply Classical.byContradiction
          intro hne
          have hmi : m < i := by omega
          have hFm : F m = false := by
            cases hfm : F m
            · rfl
            · have := (hfl m hfm).lt; omega
          obtain ⟨e, he, hek, hb⟩ := waits_spec ((tailF_at ht ho hin).2 m hmi hFm)
          have := hafter e he hb
          rw [hek] at this
          have := (h2 m hm (by omega)).1 this
          omega
        subst him
        have hg := (tailF_at ht ho hm).1
        have hd : ops.toList.drop i = o :: ops.toList.drop (i + 1) := by
          rw [List.drop_eq_getElem_cons (by simpa using hil)]
          have : ops[i] = o := (Array.getElem?_eq_some_iff.1 ho).2
          simp [this]
        rw [hd] at hw
        have hw' : ∀ (b : Act), Region.wanted o (yielded ops b.tmps) = true := fun b => by unfold Region.wanted; rw [hg]
        unfold wpOp
        rw [ho]
        simp only [hw', if_true]
        -- what it looks at has been taken
        have heval : ∀ x ∈ o.op.operands, (fill ops F val a).eval x = a.eval x := fun x hx => by
          cases x with
          | tmp t =>
            show (fill ops F val a).tmps.getD t undef = a.tmps.getD t undef
            rw [fill_get]
            by_cases htl : t < a.tmps.size
            · rw [if_pos htl]
              cases hfv : fval ops F val t with
              | none => rfl
              | some v =>
                obtain ⟨j, oj, hoj, hdj, hFj, rfl⟩ := bk hfv
                have hownj : owner ops t = some j := ((ok_at hok hoj).1 t hdj).2
                have hwt := k2 t j (by simpa using hx) hownj
                obtain ⟨e, he, hek, hb⟩ := waits_spec hwt
                have := hafter e he hb
                rw [hek] at this
                exact (h3 j oj t hoj hdj this hFj).symm
            · simp [htl]
          | const c => rfl
          | global g => rfl
          | func f => rfl
        have hns : ∀ cs b, o.op ≠ .select cs b := by
          intro cs b e
          have h6 : Region.noSelect ops = true := by
            unfold ok at hok
            rw [Bool.and_eq_true] at hok
            exact hok.1
          unfold Region.noSelect at h6
          have h7 := Array.all_eq_true_iff_forall_mem.1 h6 o (Array.mem_of_getElem? ho)
          rw [e] at h7
          cases h7
        have hex : execOp (fill ops F val a).eval o = execOp a.eval o := execOp_congr o hns heval
        have next : ∀ (v : Value) (w' : World), tailGo P Q (ops.toList.drop (i + 1)) ((fill ops F val a).put o.dst v) w' → wpAny P .any ops Q fuel (listed.setIfInBounds i true) (a.put o.dst v) w' := fun v w' h' => by
          have hput : fill ops F val (a.put o.dst v) = (fill ops F val a).put o.dst v := fill_put a o.dst v fun t e => fn ho e hF
          refine ih (i + 1) _ _ w' (by omega) (by omega) (by simpa using hs) (by rw [put_size]; exact hsz) (fun j hj hf => (hset j).2 (.inr (h1 j hj hf))) (fun j hj1 hj2 => ?_) (fun j oj dj hoj hdj hlj hFj => ?_) (fun j oj sj jsj hFj hoj hopj hownj => ?_) hcount (by rw [hput]; exact h')
          · rw [hset, h2 j hj1 hj2]
            omega
          · rw [put_get, if_neg (fun e => ?_)]
            · rcases (hset j).1 hlj with e | e
              · exfalso
                subst e
                rw [hF] at hFj; cases hFj
              · exact h3 j oj dj hoj hdj e hFj
            · have e1 := (k1 dj e.1).2
              have e2 := ((ok_at hok hoj).1 dj hdj).2
              have e3 : i = j := Option.some.inj (e1.symm.trans e2)
              subst e3
              rw [hF] at hFj; cases hFj
          · rw [put_get, if_neg (fun e => ?_)]
            · exact h4 j oj sj jsj hFj hoj hopj hownj
            · have e1 := (k1 sj e.1).2
              have e3 : i = jsj := Option.some.inj (e1.symm.trans hownj)
              obtain ⟨_, o2, d2, s2, js2, ho2, _, _, hops2, hown2, hjs2, _, _⟩ := hfl j hFj
              obtain rfl : oj = o2 := Option.some.inj (hoj.symm.trans ho2)
              have e0 : sj = s2 := by rw [hopj] at hops2; injection hops2 with e _; injection e
              rw [← e0, hownj] at hown2
              have := Option.some.inj hown2
              omega
        obtain ⟨x, w', hr, hx⟩ := hw
        rw [hex] at hr
        refine .inl ?_
        unfold Oper.wp
        rw [hr]
        rcases hx with ⟨v, rfl, h⟩ | ⟨rfl, h⟩
        · exact next _ _ h
        · exact next _ _ h
theorem regionF {id : Nat} {ops : Array Oper} {Q : Exit → Act → World → Prop} {a0 : Act} {w : World} (hm : P.follows .mixedOrders = true) (n c : Nat) (Ph : Bool → World → Prop) (turn : World → World → Prop)
    (hph : ∀ b w w', Ph b w → Below w.heap.size w w' → Ph b w') (hph0 : Ph false w.drew)
    (T : Nat → Value → World → Prop) (stab : ∀ j v w w', T j v w → Below w.heap.size w w' → T j v w') (stabT : ∀ j v w w', T j v w → turn w w' → T j v w') (want : Nat → Bool) (hok : ok ops a0.tmps.size = true) (F : Nat → Bool) (val : Nat → Value) (ht : tailF ops n F = true) (hfl : ∀ j, F j = true → Floats P ops n F val j)
    (hT1 : ∀ j v w, F j = true → T j v w → v = val j) (hT2 : ∀ j w, F j = true → T j (val j) w) (hT3 : ∀ (j : Nat) (o : Oper) (s js : Nat), F j = true → ops[j]? = some o → o.op.operands.toList = [.tmp s] → owner ops s = some js → ∀ v w, T js v w → v = val js) (hn : n ≤ ops.size)
    (hguard : ∀ (j : Nat) (o : Oper), j < n → ops[j]? = some o → match o.guard with | none => want j = true | some (g, b) => g < n ∧ ∀ (v : Value) (w : World), T g v w → if want j = true then v = .bool b else v ≠ .bool b)
    (hstep : ∀ (j : Nat) (o : Oper), j < n → ops[j]? = some o → ∀ (ρ : Operand → Value) (w1 : World) (b : Bool), Ph b w1 → (j = c → b = false) → deps ops a0 T ρ w1 o.op.operands.toList →
      if want j = true then gives P o ρ w1 (fun v w' => (if j = c then turn w1 w' ∧ Ph true w' else Below w1.heap.size w1 w') ∧ T j (left o v) w') else j ≠ c ∧ T j undef w1)
    (hFc : c < n → F c = false) (hback : ∀ (j i t : Nat) (o : Oper), j < n → ops[j]? = some o → .tmp t ∈ o.op.operands.toList → owner ops t = some i → i < n)
    (hend : ∀ (a : Act) (w1 : World), Ph (decide (c < n)) w1 → a.defers = a0.defers → a.tmps.size = a0.tmps.size → (∀ (j : Nat) (o : Oper), j < n → ops[j]? = some o → T j (slot o a) w1) → (∀ t, (∀ i, owner ops t = some i → n ≤ i) → a.tmps.getD t undef = a0.tmps.getD t undef) →
      tailGo P Q (ops.toList.drop n) a w1) :
    (Code.region id ops true).wp P Q a0 w := by
  have main : ∀ (fuel : Nat) (listed : Array Bool) (a : Act) (w1 : World), InvC ops n c a0 Ph T listed a w1 → ((List.range ops.size).filter fun j => !listed.getD j true).length ≤ fuel →
      wpAny P .any ops Q fuel listed a w1 := by
    have full : ∀ (fuel : Nat) (listed : Array Bool) (a : Act) (w1 : World), InvC ops n c a0 Ph T listed a w1 → ((List.range ops.size).filter fun j => !listed.getD j true).length ≤ fuel → (∀ j, j < n → F j = false → listed.getD j false = true) → (c < n → listed.getD c false = true) → wpAny P .any ops Q fuel listed a w1 := by
      intro fuel listed a w1 I hc hall hcl
      refine tail_float hok ht hfl fuel n listed a w1 (Nat.le_refl _) hn I.lsize I.size hall (fun j hj hjs => ⟨fun h => (by rw [I.late j hj] at h; cases h), fun h => by omega⟩) (fun j o d ho hd hl hF => ?_) (fun j o sl js hF ho hops hown => ?_) hc ?_
      · have hjn := (hfl j hF).lt
        have := hT1 j _ w1 hF (I.all j o ho hjn hl)
        simpa [slot, hd] using this
      · obtain ⟨hjn, o2, d2, s2, js2, ho2, hg2, hd2, hops2, hown2, hjs2, hF2, _⟩ := hfl j hF
        obtain rfl : o = o2 := Option.some.inj (ho.symm.trans ho2)
        have e0 : sl = s2 := by rw [hops] at hops2; injection hops2 with e _; injection e
        rw [← e0, hown] at hown2
        obtain rfl : js = js2 := Option.some.inj hown2
        obtain ⟨os, hos, hds⟩ := owner_spec hown
        have := hT3 j o sl js hF ho hops hown _ w1 (I.all js os hos hjs2 (hall js hjs2 hF2))
        simpa [slot, hds] using this
      · have hsl : ∀ (j : Nat) (o : Oper), ops[j]? = some o → slot o (fill ops F val a) = if F j = true ∧ o.dst.isSome = true then val j else slot o a := fun j o ho => by
          unfold slot
          cases hd : o.dst with
          | none => simp
          | some d =>
            have hk := (ok_at hok ho).1 d hd
            have hdl : d < a.tmps.size := by rw [I.size]; exact hk.1
            show (fill ops F val a).tmps.getD d undef = _
            rw [fill_get, if_pos hdl]
            unfold fval
            rw [hk.2]
            by_cases hF : F j = true <;> simp [hF]
        refine hend (fill ops F val a) w1 ?_ I.defers (by rw [fill_size]; exact I.size) (fun j o hj ho => ?_) (fun t ht' => ?_)
        · have hp := I.ph
          by_cases hcn : c < n
          · rw [hcl hcn] at hp; simpa [hcn] using hp
          · rw [I.late c (by omega)] at hp; simpa [hcn] using hp
        · rw [hsl j o ho]
          by_cases hF : F j = true
          · obtain ⟨_, o2, d2, _, _, ho2, _, hd2, _⟩ := hfl j hF
            obtain rfl : o = o2 := Option.some.inj (ho.symm.trans ho2)
            rw [if_pos ⟨hF, by rw [hd2]; rfl⟩]
            exact hT2 j w1 hF
          · rw [if_neg (fun e => hF e.1)]
            exact I.all j o ho hj (hall j hj (by simpa using hF))
        · rw [← I.out t ht', fill_get]
          by_cases htl : t < a.tmps.size
          · rw [if_pos htl]
            have : fval ops F val t = none := by
              unfold fval
              cases hown : owner ops t with
              | none => rfl
              | some j =>
                have hjn := ht' j hown
                have hF : ¬ F j = true := fun hF => by have := (hfl j hF).lt; omega
                simp [hF]
            rw [this]; rfl
          · simp [htl]
    intro fuel
    induction fuel with
    | zero =>
      intro listed a w1 I hc
      have hl : ∀ j, j < n → listed.getD j false = true := fun j hj => by
        by_cases hl : listed.getD j false = true
        · exact hl
        · exfalso
          have hjl : j < listed.size := by rw [I.lsize]; omega
          have : j ∈ (List.range ops.size).filter fun j => !listed.getD j true := List.mem_filter.2 ⟨List.mem_range.2 (by omega), by simp [hjl] at hl ⊢; exact hl⟩
          rw [List.eq_nil_of_length_eq_zero (by omega : ((List.range ops.size).filter fun j => !listed.getD j true).length = 0)] at this
          cases this
      exact full 0 listed a w1 I hc (fun j hj _ => hl j hj) (fun h => hl c h)
    | succ fuel ih =>
      intro listed a w1 I hc
      by_cases hall : ∀ j, j < n → F j = false → listed.getD j false = true
      · exact full (fuel + 1) listed a w1 I hc hall (fun h => hall c h (hFc h))
      have hex : ∃ j, j < n ∧ F j = false ∧ listed.getD j false = false := by
        apply Classical.byContradiction
        intro hne
        refine hall fun j hj hf => ?_
        cases hl : listed.getD j false
        · exact absurd ⟨j, hj, hf, hl⟩ hne
        · rfl
      refine ⟨fun hr => ?_, fun i hi => ?_⟩
      · exfalso
        refine hall fun j hjn hfj => ?_
        clear hfj
        revert hjn
        induction j using Nat.strongRecOn with
        | _ j ihj =>
          intro hj
          by_cases hl : listed.getD j false = true
          · exact hl
          · exfalso
            have ho := Array.getElem?_eq_getElem (xs := ops) (i := j) (by omega)
            have hmem : j ∈ Region.ready .any ops listed := by
              rw [mem_ready]
              refine ⟨?_, _, ho, fun e he hb => ?_⟩
              · have hjl : j < listed.size := by rw [I.lsize]; omega
                simp [hjl] at hl ⊢
                exact hl
              · have hlt := (ok_at hok ho).2.2.2 e he hb
                exact ihj e.on hlt (by omega)
            rw [hr] at hmem
            cases hmem
      obtain ⟨h0, o, ho, hafter⟩ := mem_ready.1 hi
      obtain ⟨k1, k2, k3, k4⟩ := ok_at hok ho
      have hilt := (Array.getElem?_eq_some_iff.1 ho).1
      -- what it waits for has come up
      have come : ∀ k, waits o k = true → listed.getD k false = true := fun k hk => by
        obtain ⟨e, he, rfl, hb⟩ := waits_spec hk
        exact hafter e he hb
      have hin : i < n := by
        apply Classical.byContradiction
        intro hge
        obtain ⟨j, hj, hjf, hjl⟩ := hex
        have := come j ((tailF_at ht ho (by omega)).2 j (by omega) hjf)
        rw [hjl] at this; cases this
      have hdeps : deps ops a0 T a.eval w1 o.op.operands.toList := deps_of fun x hx => by
        cases x with
        | tmp t =>
          cases hown : owner ops t with
          | none => simp only [dep, hown]; exact I.out t (fun i hi => by rw [hown] at hi; cases hi)
          | some k =>
            obtain ⟨ok', hok', hd⟩ := owner_spec hown
            have := I.all k ok' hok' (hback i k t o hin ho hx hown) (come k (k2 t k hx hown))
            simp only [slot, hd] at this
            simp only [dep, hown]
            exact this
        | const c => rfl
        | global g => rfl
        | func f => rfl
      have hnc : i = c → listed.getD c false = false := fun e => by
        subst e
        have his : i < listed.size := by rw [I.lsize]; exact hilt
        simp [his] at h0 ⊢
        exact h0
      have hstep' := hstep i o hin ho a.eval w1 _ I.ph hnc hdeps
      have hcount : ((List.range ops.size).filter fun j => !(listed.setIfInBounds i true).getD j true).length ≤ fuel := by
        have := filter_lt (l := List.range ops.size) (p := fun j => !listed.getD j true) (q := fun j => !(listed.setIfInBounds i true).getD j true)
          (fun x hx => by
            by_cases hxi : i = x
            · subst hxi; simp only [h0]; rfl
            · rw [getD_set_ne true hxi] at hx; exact hx) (List.mem_range.2 hilt) (by simp only [h0]; rfl)
          (by have : i < listed.size := by rw [I.lsize]; exact hilt
              simp [this])
        omega
      have hnext : ∀ v w', (if i = c then turn w1 w' ∧ Ph true w' else Below w1.heap.size w1 w') → T i (left o v) w' → InvC ops n c a0 Ph T (listed.setIfInBounds i true) (a.put o.dst v) w' := fun v w' hr ht' => by
        refine ⟨?_, ?_, ?_, by simpa using I.lsize, fun j oj hoj hjn hlj => ?_, fun j hj => by rw [getD_set_ne false (by omega)]; exact I.late j hj, fun t hn' => ?_⟩
        · by_cases hic : i = c
          · subst hic
            rw [if_pos rfl] at hr
            have : i < listed.size := by rw [I.lsize]; exact hilt
            simp [this]
            exact hr.2
          · rw [if_neg hic] at hr
            rw [getD_set_ne false hic]
            exact hph _ _ _ I.ph hr
        · cases hd : o.dst <;> simp [Act.put, I.defers]
        · cases hd : o.dst <;> simp [Act.put, I.size]
        · by_cases hij : i = j
          · subst hij
            obtain rfl : o = oj := Option.some.inj (ho.symm.trans hoj)
            cases hd : o.dst with
            | none => simpa [slot, left, hd] using ht'
            | some d =>
              have hdlt := (k1 d hd).1
              have e : slot o (a.put (some d) v) = v := by
                simp [slot, hd, Act.put, I.size, hdlt]
              rw [e]
              simpa [left, hd] using ht'
          · rw [getD_set_ne false hij] at hlj
            have hold := I.all j oj hoj hjn hlj
            have hold' : T j (slot oj a) w' := by
              by_cases hic : i = c
              · rw [if_pos hic] at hr; exact stabT _ _ _ _ hold hr.1
              · rw [if_neg hic] at hr; exact stab _ _ _ _ hold hr
            have e : slot oj (a.put o.dst v) = slot oj a := by
              cases hd : o.dst with
              | none => rfl
              | some d =>
                unfold slot
                cases hdj : oj.dst with
                | none => rfl
                | some dj =>
                  have hne : d ≠ dj := fun e => by
                    subst e
                    have h1 := (k1 d hd).2
                    have h2 := ((ok_at hok hoj).1 d hdj).2
                    rw [h1] at h2
                    exact hij (Option.some.inj h2)
                  simp [Act.put, Array.getElem?_setIfInBounds_ne hne]
            rw [e]; exact hold'
        · rw [← I.out t hn']
          cases hd : o.dst with
          | none => rfl
          | some d =>
            have hne : d ≠ t := fun e => by
              subst e
              have := hn' i (k1 d hd).2
              omega
            simp [Act.put, Array.getElem?_setIfInBounds_ne hne]
      have hg := hguard i o hin ho
      -- is it wanted?
      have hw : Region.wanted o (yielded ops a.tmps) = want i := by
        unfold Region.wanted
        cases hgd : o.guard with
        | none => rw [hgd] at hg; simp only at hg; rw [hg]
        | some gb =>
          obtain ⟨g, b⟩ := gb
          rw [hgd] at hg
          simp only at hg
          obtain ⟨hwg, d, hd⟩ := k3 g b hgd
          obtain ⟨og, hog, hdg⟩ := Option.bind_eq_some_iff.1 hd
          have hT := I.all g og hog hg.1 (come g hwg)
          have hv := hg.2 _ _ hT
          have hdlt : d < a.tmps.size := by rw [I.size]; exact ((ok_at hok hog).1 d hdg).1
          have hs : slot og a = a.tmps[d] := by simp [slot, hdg, hdlt]
          have hy : yielded ops a.tmps g = match a.tmps[d] with | .bool b => some b | _ => none := by
            unfold yielded
            rw [hd]
            simp [hdlt]
            cases a.tmps[d] <;> rfl
          rw [hs] at hv
          simp only [hy]
          cases hwi : want i with
          | true => rw [hwi] at hv; simp only [if_true] at hv; rw [hv]; simp
          | false =>
            rw [hwi] at hv
            simp only [Bool.false_eq_true, if_false] at hv
            cases hx : a.tmps[d] <;> first | rfl | skip
            rename_i bb
            rw [hx] at hv
            have : bb ≠ b := fun e => hv (by rw [e])
            simp [this]
      unfold wpOp
      rw [ho]
      simp only [hw]
      cases hwi : want i with
      | true =>
        rw [hwi] at hstep'
        simp only [if_true] at hstep' ⊢
        exact .inl (wp_of_gives hstep' fun v w' ⟨hr, ht'⟩ => ih _ _ _ (hnext v w' hr ht') hcount)
      | false =>
        rw [hwi] at hstep'
        simp only [Bool.false_eq_true, if_false] at hstep' ⊢
        refine ih _ _ _ (hnext undef w1 (by rw [if_neg hstep'.1]; exact Below.refl _ _) ?_) hcount
        cases hd : o.dst <;> simpa [left, hd] using hstep'.2
  refine wp_region_any hm (main ops.size (Array.replicate ops.size false) a0 w.drew ⟨?_, rfl, rfl, by simp, fun j o ho _ hl => ?_, fun j _ => ?_, fun t _ => rfl⟩ ?_)
  · have e : (Array.replicate ops.size false).getD c false = false := by
      by_cases hc : c < ops.size <;> simp [hc]
    rw [e]; exact hph0
  · have hj := (Array.getElem?_eq_some_iff.1 ho).1
    simp [hj] at hl
  · by_cases hc : j < ops.size <;> simp [hc]
  · exact Nat.le_trans (List.length_filter_le _ _) (by simp)
/-! By lists. -/
def isV : Sq → Bool
  | .is _ => true
  | _ => false
def valq (S : List Sq) (j : Nat) : Value := match sq S j with | .is v => v | _ => undef
def inF (Fl : List (Nat × Nat × Nat)) (j : Nat) : Bool := Fl.any fun x => x.1 == j
def flOk (ops : Array Oper) (n : Nat) (S : List Sq) (Fl : List (Nat × Nat × Nat)) : Bool := Fl.all fun x => decide (x.1 < n) && decide (x.2.2 < n) && !inF Fl x.2.2 && isV (sq S x.1) && isV (sq S x.2.2) && owner ops x.2.1 == some x.2.2 &&
  (match ops[x.1]? with | some o => o.guard.isNone && o.dst.isSome && (match o.op.operands.toList with | [.tmp s] => s == x.2.1 | _ => false) | none => false)
def flobls (P : Program) (ls : List Oper) (S : List Sq) : List (Nat × Nat × Nat) → Prop
  | [] => True
  | x :: r => (match ls[x.1]? with | some o => ∀ (ρ : Operand → Value) (w : World), ρ (.tmp x.2.1) = valq S x.2.2 → (execOp ρ o).run P w = .ok (.value (valq S x.1)) w | none => False) ∧ flobls P ls S r
theorem flobls_at {ls : List Oper} {S : List Sq} : ∀ {Fl : List (Nat × Nat × Nat)}, flobls P ls S Fl → ∀ x ∈ Fl, ∀ o, ls[x.1]? = some o → ∀ (ρ : Operand → Value) (w : World), ρ (.tmp x.2.1) = valq S x.2.2 → (execOp ρ o).run P w = .ok (.value (valq S x.1)) w
  | [], _, _, hx, _, _ => by cases hx
  | y :: r, h, x, hx, o, ho => by
    rcases List.mem_cons.1 hx with rfl | hx
    · have h1 := h.1
      rw [ho] at h1
      exact h1
    · exact flobls_at h.2 x hx o ho
def okF (own : Nat → Option Nat) (ops : Array Oper) (sz n : Nat) (F : Nat → Bool) : Bool := ok ops sz && tailF ops n F && decide (n ≤ ops.size) && ((List.range ops.size).all fun j => match ops[j]? with
  | some o => (o.op.operands.all fun x => match x with | .tmp t => own t == owner ops t && (decide (n ≤ j) || (match owner ops t with | some i => decide (i < n) | none => true)) | _ => true) &&
      (decide (n ≤ j) || (match o.guard with | some (g, _) => decide (g < n) | none => true))
  | none => true)
theorem regionFQ {id : Nat} {ls : List Oper} {Q : Exit → Act → World → Prop} {a0 : Act} {w : World} (hm : P.follows .mixedOrders = true) (n c : Nat) (Ph : Bool → World → Prop) (turn : World → World → Prop)
    (hph : ∀ b w w', Ph b w → Below w.heap.size w w' → Ph b w') (hph0 : Ph false w.drew) (hturn : ∀ x y b, turn x y → w.heap.size ≤ b → b < x.heap.size → y.heap[b]? = x.heap[b]?)
    (own : Nat → Option Nat) (S : List Sq) (W : List Bool) (Fl : List (Nat × Nat × Nat)) (hok : okF own ls.toArray a0.tmps.size n (inF Fl) = true) (hfo : flOk ls.toArray n S Fl = true) (hFc : inF Fl c = false)
    (h : oblqs P w.heap.size c Ph turn own a0 S W 0 (ls.take n)) (hfl : flobls P ls S Fl)
    (hend : ∀ (vs : Nat → Value) (w1 : World), Ph (decide (c < n)) w1 → (∀ (j : Nat) (o : Oper) (d : Nat), (ls.take n)[j]? = some o → o.dst = some d → (sq S j).holds w.heap.size (vs j) w1) →
      tailGo P Q (ls.drop n) (putAll 0 (ls.take n) vs a0) w1) :
    (Code.region id ls.toArray true).wp P Q a0 w := by
  unfold okF at hok
  simp only [Bool.and_eq_true, decide_eq_true_eq] at hok
  obtain ⟨⟨⟨hok1, hok2⟩, hnl⟩, hok3⟩ := hok
  have fl : ∀ j, inF Fl j = true → ∃ s js, (j, s, js) ∈ Fl ∧ j < n ∧ js < n ∧ inF Fl js = false ∧ (∃ v, sq S j = .is v) ∧ (∃ v, sq S js = .is v) ∧ owner ls.toArray s = some js ∧ ∃ o d, ls.toArray[j]? = some o ∧ o.guard = none ∧ o.dst = some d ∧ o.op.operands.toList = [.tmp s] := by
    intro j hj
    unfold inF at hj
    rw [List.any_eq_true] at hj
    obtain ⟨⟨j', s, js⟩, hx, he⟩ := hj
    have he : j' = j := by simpa using he
    subst he
    have h1 := List.all_eq_true.1 hfo _ hx
    simp only [Bool.and_eq_true, decide_eq_true_eq, Bool.not_eq_true', beq_iff_eq] at h1
    obtain ⟨⟨⟨⟨⟨⟨h1, h2⟩, h3⟩, h4⟩, h5⟩, h6⟩, h7⟩ := h1
    have isv : ∀ x : Sq, isV x = true → ∃ v, x = .is v := fun x hx => by cases x <;> first | exact ⟨_, rfl⟩ | cases hx
    refine ⟨s, js, hx, h1, h2, h3, isv _ h4, isv _ h5, h6, ?_⟩
    cases ho : ls.toArray[j']? with
    | none => rw [ho] at h7; cases h7
    | some o =>
      rw [ho] at h7
      simp only [Bool.and_eq_true] at h7
      obtain ⟨⟨hg, hd⟩, hops⟩ := h7
      obtain ⟨d, hd⟩ := Option.isSome_iff_exists.1 hd
      refine ⟨o, d, rfl, by simpa using hg, hd, ?_⟩
      split at hops
      · rename_i s' heq
        have : s' = s := by simpa using hops
        rw [heq, this]
      · cases hops
  have vq : ∀ j v, sq S j = .is v → valq S j = v := fun j v hv => by unfold valq; rw [hv]
  have at3 : ∀ (j : Nat) (o : Oper), ls[j]? = some o → (∀ t, .tmp t ∈ o.op.operands.toList → own t = owner ls.toArray t ∧ (j < n → ∀ i, owner ls.toArray t = some i → i < n)) ∧ (j < n → ∀ g b, o.guard = some (g, b) → g < n) := by
    intro j o ho
    have hj := (List.getElem?_eq_some_iff.1 ho).1
    have h1 := List.all_eq_true.1 hok3 j (List.mem_range.2 (by simpa using hj))
    have ho' : ls.toArray[j]? = some o := by simpa using ho
    rw [ho'] at h1
    simp only [Bool.and_eq_true] at h1
    refine ⟨fun t ht => ?_, fun hjn g b hg => ?_⟩
    · have h2 := Array.all_eq_true_iff_forall_mem.1 h1.1 (.tmp t) (by simpa using ht)
      simp only [Bool.and_eq_true, Bool.or_eq_true, decide_eq_true_eq] at h2
      refine ⟨by simpa using h2.1, fun hjn i hi => ?_⟩
      have h3 := h2.2
      rw [hi] at h3
      simp only [decide_eq_true_eq] at h3
      omega
    · have h2 := h1.2
      rw [hg] at h2
      simp only [Bool.or_eq_true, decide_eq_true_eq] at h2
      omega
  have tk : ∀ (j : Nat) (o : Oper), j < n → ls.toArray[j]? = some o → (ls.take n)[j]? = some o := fun j o hj ho => by
    rw [List.getElem?_take_of_lt hj]; simpa using ho
  refine regionF hm n c Ph turn hph hph0 (fun j => (sq S j).holds w.heap.size) (fun j v w1 w2 h hb => (sq S j).stab h hb) (fun j v w1 w2 h ht => ?_) (fun j => W.getD j true) hok1 (inF Fl) (valq S) hok2
    (fun j hj => ?_) (fun j v w1 hj hv => ?_) (fun j w1 hj => ?_) (fun j o s js hj ho hops hown v w1 hv => ?_) hnl
    (fun j o hj ho => ?_) (fun j o hj ho ρ w1 b hp hc hd => ?_) (fun _ => hFc) (fun j i t o hj ho ht hi => ((at3 j o (by simpa using ho)).1 t ht).2 hj i hi) (fun a w1 hp hdf hsz hall hout => ?_)
  · cases hs : sq S j with
    | is u => rw [hs] at h; exact h
    | sat p => rw [hs] at h; exact h
    | new o =>
      rw [hs] at h
      obtain ⟨b, h1, h2, h3⟩ := h
      exact ⟨b, h1, h2, (hturn _ _ b ht h2 (Array.getElem?_eq_some_iff.1 h3).1).trans h3⟩
    | sl o n' m' =>
      rw [hs] at h
      obtain ⟨b, h1, h2, h3⟩ := h
      exact ⟨b, h1, h2, (hturn _ _ b ht h2 (Array.getElem?_eq_some_iff.1 h3).1).trans h3⟩
  · obtain ⟨s, js, hx, h1, h2, h3, _, _, h6, o, d, ho, hg, hd, hops⟩ := fl j hj
    exact ⟨h1, o, d, s, js, ho, hg, hd, hops, h6, h2, h3, fun ρ w0 hρ => flobls_at hfl _ hx o (by simpa using ho) ρ w0 hρ⟩
  · obtain ⟨_, _, _, _, _, _, ⟨u, hu⟩, _⟩ := fl j hj
    rw [hu] at hv
    rw [vq j u hu]; exact hv
  · obtain ⟨_, _, _, _, _, _, ⟨u, hu⟩, _⟩ := fl j hj
    rw [hu]
    exact vq j u hu
  · obtain ⟨s2, js2, _, _, _, _, _, ⟨u, hu⟩, hown2, o2, _, ho2, _, _, hops2⟩ := fl j hj
    obtain rfl : o = o2 := Option.some.inj (ho.symm.trans ho2)
    have e0 : s = s2 := by rw [hops] at hops2; injection hops2 with e _; injection e
    rw [← e0, hown] at hown2
    obtain rfl : js = js2 := Option.some.inj hown2
    rw [hu] at hv
    rw [vq js u hu]; exact hv
  · have := (oblqs_at h (tk j o hj ho)).1
    rw [Nat.zero_add] at this
    cases hg : o.guard with
    | none => rw [hg] at this; exact this
    | some gb =>
      obtain ⟨g, b⟩ := gb
      rw [hg] at this
      exact ⟨(at3 j o (by simpa using ho)).2 hj g b hg, this⟩
  · have h1 := (oblqs_at h (tk j o hj ho)).2
    rw [Nat.zero_add] at h1
    have hd' := depsq_of (B := w.heap.size) (own := own) (S := S) (fun t ht => ((at3 j o (by simpa using ho)).1 t ht).1) hd
    by_cases hjc : j = c
    · rw [if_pos hjc] at h1
      have hb := hc hjc
      subst hb
      rw [if_pos h1.1]
      have h2 := h1.2 ρ w1 hp hd'
      simpa only [if_pos hjc] using h2
    · rw [if_neg hjc] at h1
      have h2 := h1 ρ w1 b hp hd'
      by_cases hw : W.getD j true = true
      · rw [if_pos hw] at h2 ⊢
        simpa only [if_neg hjc] using h2
      · rw [if_neg hw] at h2 ⊢
        exact ⟨hjc, h2⟩
  · have key := hend (fun j => match (ls.take n)[j]? with | some o => slot o a | none => undef) w1 hp (fun j o d ho hd => by
      have hlt := (List.getElem?_eq_some_iff.1 ho).1
      have hjn : j < n := by simp at hlt; omega
      have := hall j o hjn (by rw [List.getElem?_toArray]; rwa [List.getElem?_take_of_lt hjn] at ho)
      simpa [ho] using this)
    rw [putAll_eq (b := a) (ls.take n) 0 a0 hsz.symm hdf.symm (fun j o d ho hd => ?_) (fun t ht => ?_)] at key
    · simpa using key
    · have hlt := (List.getElem?_eq_some_iff.1 ho).1
      have hjn : j < n := by simp at hlt; omega
      have h1 := (ok_at hok1 (j := j) (o := o) (by rw [List.getElem?_toArray]; rwa [List.getElem?_take_of_lt hjn] at ho)).1 d hd
      refine ⟨by rw [hsz]; exact h1.1, ?_⟩
      simp only [Nat.zero_add, ho, slot, hd]
    · refine hout t fun i hi => ?_
      apply Classical.byContradiction
      intro hlt
      obtain ⟨o, ho, hd⟩ := owner_spec hi
      exact ht i o (tk i o (by omega) ho) hd
theorem regionFP {id : Nat} {ls : List Oper} {Q : Exit → Act → World → Prop} {a0 : Act} {w : World} (hm : P.follows .mixedOrders = true) (n : Nat)
    (own : Nat → Option Nat) (S : List Sq) (W : List Bool) (Fl : List (Nat × Nat × Nat)) (hok : okF own ls.toArray a0.tmps.size n (inF Fl) = true) (hfo : flOk ls.toArray n S Fl = true) (hFc : inF Fl 1000 = false)
    (h : oblqs P w.heap.size 1000 (fun _ x => Below w.heap.size w x) (fun _ _ => False) own a0 S W 0 (ls.take n)) (hfl : flobls P ls S Fl)
    (hend : ∀ (vs : Nat → Value) (w1 : World), Below w.heap.size w w1 → (∀ (j : Nat) (o : Oper) (d : Nat), (ls.take n)[j]? = some o → o.dst = some d → (sq S j).holds w.heap.size (vs j) w1) →
      tailGo P Q (ls.drop n) (putAll 0 (ls.take n) vs a0) w1) :
    (Code.region id ls.toArray true).wp P Q a0 w :=
  regionFQ hm n 1000 (fun _ x => Below w.heap.size w x) (fun _ _ => False) (fun b x y hx hb => hx.trans (hb.mono hx.size)) ⟨rfl, rfl, rfl, Nat.le_refl _, fun _ _ => rfl⟩ (fun x y b h => h.elim) own S W Fl hok hfo hFc h hfl hend
theorem regionFK {id : Nat} {ls : List Oper} {Q : Exit → Act → World → Prop} {a0 : Act} {w : World} (hm : P.follows .mixedOrders = true) (n c : Nat) (q g : Nat) (Post : World → Prop) (hq : q < w.heap.size) (hg : g < w.heap.size)
    (own : Nat → Option Nat) (S : List Sq) (W : List Bool) (Fl : List (Nat × Nat × Nat)) (hok : okF own ls.toArray a0.tmps.size n (inF Fl) = true) (hfo : flOk ls.toArray n S Fl = true) (hFc : inF Fl c = false)
    (h : oblqs P w.heap.size c (PhK w q g Post) (Kept q g) own a0 S W 0 (ls.take n)) (hfl : flobls P ls S Fl)
    (hend : ∀ (vs : Nat → Value) (w1 : World), PhK w q g Post (decide (c < n)) w1 → (∀ (j : Nat) (o : Oper) (d : Nat), (ls.take n)[j]? = some o → o.dst = some d → (sq S j).holds w.heap.size (vs j) w1) →
      tailGo P Q (ls.drop n) (putAll 0 (ls.take n) vs a0) w1) :
    (Code.region id ls.toArray true).wp P Q a0 w :=
  regionFQ hm n c (PhK w q g Post) (Kept q g) (fun b x y hx hb => by
      cases b with
      | false => exact Below.trans hx (hb.mono (Below.size hx))
      | true => obtain ⟨y', z, h1, h2, h3, h4⟩ := hx; exact ⟨y', z, h1, h2, h3, h4.trans (hb.mono h4.size)⟩) ⟨rfl, rfl, rfl, Nat.le_refl _, fun _ _ => rfl⟩
    (fun x y b hxy hb hlt => hxy.block b hlt (by omega) (by omega)) own S W Fl hok hfo hFc h hfl hend
theorem go_store {o : Oper} {r : List Oper} {a : Act} {w : World} {Q : Exit → Act → World → Prop} (ty : TypeId) (x y : Operand) (ho : o.op = .store ty x y) (g : Nat) (cells : Array Value) (hx : a.eval x = .pointer (some ⟨g, 0, none⟩)) (hy : a.eval y = .agg cells)
    (t : TypeId) (old : Array Value) (hg : w.heap[g]? = some (.cells old t (0, 0))) (hi : (P.info? ty).map (·.size) = some cells.size) (hold : old.size = cells.size) (h1 : cells.all (·.oneCell') = true)
    (h : tailGo P Q r (a.put o.dst undef) (w.setRow g cells)) : tailGo P Q (o :: r) a w := by
  unfold tailGo
  have hr : ∃ x, (execOp a.eval o).run P w = .ok x (w.setRow g cells) ∧ (x = .value undef ∨ x = .skip) := by
    unfold execOp
    simp only [ho, hx, hy, Instr.storeAt, Instr.sureAddr, Sem.run_bind, Sem.run_pure, Result.andThen_ok, run_storeVar_row w g t ty old cells hg hi hold h1]
    first | exact ⟨_, rfl, .inl rfl⟩ | exact ⟨_, rfl, .inr rfl⟩
  obtain ⟨x', hr, hx'⟩ := hr
  rcases hx' with rfl | rfl
  · exact ⟨_, _, hr, .inl ⟨_, rfl, h⟩⟩
  · exact ⟨_, _, hr, .inr ⟨rfl, h⟩⟩
theorem go_assign {o : Oper} {r : List Oper} {a : Act} {w : World} {Q : Exit → Act → World → Prop} (x : Operand) (ho : o.op = .assign x) (v : Value) (hx : a.eval x = v) (h : tailGo P Q r (a.put o.dst v) w) : tailGo P Q (o :: r) a w := by
  unfold tailGo
  refine ⟨.value v, w, ?_, .inl ⟨v, rfl, h⟩⟩
  unfold execOp
  simp only [ho, hx]
  rfl
end Og
end Go.Proofs.YtianojbdabeoeaaGreatDoor
end

section
namespace Go.Og
open Go Go.RowKit
variable {F : Fence} {n : Nat} {P : Program}
/-- the iterator g: in each round it hands over what its state shows; it ends only when a round has said 'no more' -/
def IterSt {σ : Type} (F : Fence) (n : Nat) (P : Program) (g : Nat) (lb : Array Value) (R : σ → World → Prop) (enc : σ → Array Value) : Prop :=
  ∀ (l N : Nat) (J : Nat → World → Prop) (Jx : World → Prop) (W : World),
    (∀ k A A', J k A → Below A.heap.size A A' → J k A') → (∀ k A, J k A → k < N ∧ ∃ s, R s A) →
    (∀ k s W1, J k W1 → R s W1 → YieldAt F (n - 1) P l (enc s) W1 fun e W' => (e = .returned (.bool true) ∧ J (k + 1) W') ∨ (e = .returned (.bool false) ∧ Jx W')) →
    J 0 W → CallsIn F n P g (#[.func (.yield l) #[] #[]] ++ lb) W fun e W' => (∃ v, e = .returned v) ∧ Jx W'
/-- how a round is left -/
def stPost (I : Nat → World → Prop) (Ix : Code → World → Prop) (k : Nat) (W : World) : Exit → Act → World → Prop
  | .normal, _, W' => KeepsOthers W W' ∧ I (k + 1) W'
  | .ret, _, W' => KeepsOthers W W' ∧ Ix .ret W'
  | .exit id, _, W' => KeepsOthers W W' ∧ Ix (.exit id) W'
  | .goto t, _, W' => KeepsOthers W W' ∧ Ix (.goto t) W'
  | .panic _, _, _ => False
  | .outgrown, _, _ => False
theorem wpIn_rangeFunc_st {σ : Type} {g : Operand} {ps : Array Tmp} {assign body : Code} {Q : Exit → Act → World → Prop} {a : Act} {w : World}
    (hro : F.round = none) (h1 : 1 ≤ n) {gf : Nat} {lb : Array Value} (hg : a.eval g = .func (.func gf) #[] lb) (hFg : F.fn gf) (eg : ∀ args w, (callFunc gf args).run P w = .ok (.enter gf args) w)
    {R : σ → World → Prop} {enc : σ → Array Value} (hit : IterSt F (n - 1) P gf lb R enc) (hps : ∀ s, (enc s).size = ps.size) (N : Nat)
    (I : Nat → World → Prop) (Ix : Code → World → Prop)
    (hb : ∀ k A A', I k A → Below A.heap.size A A' → I k A') (hp : ∀ k A l o o', I k A → w.heap.size ≤ l → A.heap[l]? = some o → o.isCells = false → I k (A.putObj l o'))
    (hpx : ∀ c A l o o', Ix c A → w.heap.size ≤ l → A.heap[l]? = some o → o.isCells = false → Ix c (A.putObj l o'))
    (hR : ∀ k A, I k A → k < N ∧ ∃ s, R s A) (hRp : ∀ s A l o o', R s A → w.heap.size ≤ l → A.heap[l]? = some o → o.isCells = false → R s (A.putObj l o'))
    (h0 : I 0 w) (a₁ : σ → Act)
    (hassign : ∀ (l : Nat) (s : σ) (W : World) (K : Act → World → Prop), K (a₁ s) W →
      assign.wpIn (F.inRound l) (n - 1 - 1) P (Exit.then K (fun _ _ _ => False)) { tmps := (ps.zip (enc s)).foldl (fun t (p, v) => t.setIfInBounds p v) a.tmps, defers := [] } W)
    (hbody : ∀ (l k : Nat) (s : σ) (W : World), I k W → R s W → body.wpIn (F.inRound l) (n - 1 - 1) P (stPost I Ix k W) (a₁ s) W)
    (hstop : ∀ (D : Nat) (c : Code) (W : World), w.heap.size ≤ D → Ix c W → W.heap[D]? = some (.deferred (some [])) → c.wpIn F n P Q { a with defers := { target := .collected D, args := #[] } :: a.defers } W) :
    (Code.rangeFunc g ps assign body).wpIn F n P Q a w := by
  refine wpIn_rangeFunc fun fn hfn => ?_
  rw [hro]
  obtain ⟨rec, hrec⟩ : ∃ rec : LoopState → Option Code → Loop, rec = fun st pe => { state := st, pending := pe, fn, tmps := a.tmps, params := ps, assign, body, defers := w.heap.size } := ⟨_, rfl⟩
  obtain ⟨W1, hW1⟩ : ∃ W1, (w.alloc (.deferred (some []))).alloc (.loop (rec .ready none)) = W1 := ⟨_, rfl⟩
  have hD : W1.heap[w.heap.size]? = some (.deferred (some [])) := by
    rw [← hW1]; exact (Below.heap_alloc _ _ _ (by simp)).trans (World.alloc_heap_new w _)
  have hL : W1.heap[w.heap.size + 1]? = some (.loop (rec .ready none)) := by
    have := World.alloc_heap_new (w.alloc (.deferred (some []))) (.loop (rec .ready none)); rw [World.size_alloc] at this; rw [← hW1]; exact this
  have hI1 : I 0 W1 := by
    rw [← hW1]; exact hb _ _ _ h0 (((Below.refl _ w).alloc (Nat.le_refl _) _).alloc (by simp) _)
  refine ⟨w.heap.size + 1, [{ target := .collected w.heap.size, args := #[] }], W1, { target := .fn (.func gf) lb, args := #[.func (.yield (w.heap.size + 1)) #[] #[]] }, W1, gf,
    #[.func (.yield (w.heap.size + 1)) #[] #[]] ++ lb, W1, ?_, ?_, ?_, ?_, fun _ => h1, ?_⟩
  · rw [← hW1, hrec]; exact run_enterLoop_outer _ _ _ _ _
  · simp only [resolve, hg]; simp [go_sem]
  · intro f' hf'; simp [Target.leads] at hf'; subst hf'; exact hFg
  · simp [invoke, go_sem, eg]
  · have kd : ∀ {A A' : World} {k : Nat} {o : Obj}, Below A.heap.size A A' → A.heap[k]? = some o → A'.heap[k]? = some o := fun hb' h => (hb'.block _ (Array.getElem?_eq_some_iff.1 h).1).trans h
    refine (hit (w.heap.size + 1) N (fun k W => I k W ∧ W.heap[w.heap.size + 1]? = some (.loop (rec .ready none)) ∧ W.heap[w.heap.size]? = some (.deferred (some [])))
      (fun W => ∃ c, Ix c W ∧ W.heap[w.heap.size + 1]? = some (.loop (rec .done (some c))) ∧ W.heap[w.heap.size]? = some (.deferred (some []))) W1
      (fun k A A' h hb' => ⟨hb _ _ _ h.1 hb', kd hb' h.2.1, kd hb' h.2.2⟩) (fun k A h => hR _ _ h.1) ?_ ⟨hI1, hL, hD⟩).mono ?_
    · rintro k s W ⟨hi, hl, hk⟩ hr
      have hlt : w.heap.size + 1 < W.heap.size := (Array.getElem?_eq_some_iff.1 hl).1
      have hy := run_yield (P := P) (args := enc s) hl (by rw [hrec]; exact hps s)
      rw [hrec] at hy
      refine ⟨fn, _, assign, body, hy, roundIn_of_wpIn hfn (hassign _ s W _ ⟨_, run_beginRound hl (by rw [hrec]), ?_⟩)⟩
      have hl2 : (W.putObj (w.heap.size + 1) (.loop { rec .ready none with state := .busy })).heap[w.heap.size + 1]? = some (.loop { rec .ready none with state := .busy }) := World.putObj_heap_same hlt
      have hk2 : (W.putObj (w.heap.size + 1) (.loop { rec .ready none with state := .busy })).heap[w.heap.size]? = some (.deferred (some [])) := (World.putObj_heap_other (by omega)).trans hk
      have fin : ∀ (jump : Option Code) (W3 : World), KeepsOthers (W.putObj (w.heap.size + 1) (.loop { rec .ready none with state := .busy })) W3 →
          (Instr.endRound (w.heap.size + 1) jump).run P W3 = .ok (.bool jump.isNone) (W3.putObj (w.heap.size + 1) (.loop (rec (if jump.isNone then .ready else .done) jump))) ∧
          W3.heap[w.heap.size + 1]? = some (.loop { rec .ready none with state := .busy }) ∧
          (W3.putObj (w.heap.size + 1) (.loop (rec (if jump.isNone then .ready else .done) jump))).heap[w.heap.size + 1]? = some (.loop (rec (if jump.isNone then .ready else .done) jump)) ∧
          (W3.putObj (w.heap.size + 1) (.loop (rec (if jump.isNone then .ready else .done) jump))).heap[w.heap.size]? = some (.deferred (some [])) := fun jump W3 hk3 => by
        have hl3 := hk3.same _ _ hl2 rfl
        have he := run_endRound (P := P) jump hl3
        rw [hrec] at he ⊢
        exact ⟨he, by rw [hrec] at hl3; exact hl3, World.putObj_heap_same (Array.getElem?_eq_some_iff.1 hl3).1, (World.putObj_heap_other (by omega)).trans (hk3.same _ _ hk2 rfl)⟩
      refine wpIn_mono (hbody _ k s _ (hp _ _ _ _ _ hi (Nat.le_succ _) hl rfl) (hRp _ _ _ _ _ hr (Nat.le_succ _) hl rfl)) ?_
      rintro e a3 W3 hpost
      cases e with
      | normal =>
        obtain ⟨hk3, hi3⟩ := hpost
        obtain ⟨hr3, hl3, hl4, hk4⟩ := fin none W3 hk3
        exact ⟨_, _, hr3, .inl ⟨rfl, hp _ _ _ _ _ hi3 (Nat.le_succ _) hl3 rfl, hl4, hk4⟩⟩
      | ret =>
        obtain ⟨hk3, hi3⟩ := hpost
        obtain ⟨hr3, hl3, hl4, hk4⟩ := fin (some .ret) W3 hk3
        exact ⟨_, _, hr3, .inr ⟨rfl, .ret, hpx _ _ _ _ _ hi3 (Nat.le_succ _) hl3 rfl, hl4, hk4⟩⟩
      | exit id =>
        obtain ⟨hk3, hi3⟩ := hpost
        obtain ⟨hr3, hl3, hl4, hk4⟩ := fin (some (.exit id)) W3 hk3
        exact ⟨_, _, hr3, .inr ⟨rfl, .exit id, hpx _ _ _ _ _ hi3 (Nat.le_succ _) hl3 rfl, hl4, hk4⟩⟩
      | goto t =>
        obtain ⟨hk3, hi3⟩ := hpost
        obtain ⟨hr3, hl3, hl4, hk4⟩ := fin (some (.goto t)) W3 hk3
        exact ⟨_, _, hr3, .inr ⟨rfl, .goto t, hpx _ _ _ _ _ hi3 (Nat.le_succ _) hl3 rfl, hl4, hk4⟩⟩
      | panic ch => exact hpost.elim
      | outgrown => exact hpost.elim
    · rintro e W2 ⟨⟨v, rfl⟩, c, hi, hl, hk⟩
      exact ⟨some c, _, by have := run_endLoop (P := P) hl (by rw [hrec]; simp); rw [hrec] at this; exact this, hstop _ c _ (Nat.le_refl _) (hpx _ _ _ _ _ hi (Nat.le_succ _) hl rfl) ((World.putObj_heap_other (by omega)).trans hk)⟩
end Go.Og
end

section
namespace Go.Proofs.YtianojbdabeoeaaGreatDoor
set_option linter.unusedVariables false
namespace Og
open Go.RowKit
variable {P : Program}
theorem wpIn_of_givesF {F : Fence} {n : Nat} (hF : ∀ f, F.fn f) (hdp : F.depth = none) (hcall : ∀ {f : FuncId} {args : Array Value} {w : World} {R : Ending → World → Prop}, Calls P f args w R → CallsIn F (n - 1) P f args w R)
    {o : Oper} {a : Act} {w : World} {R : Value → World → Prop} {K : Act → World → Prop} {Q : Exit → Act → World → Prop} (hnd : ∀ c, o.op ≠ .defer c)
    (h : gives P o a.eval w R) (hk : ∀ v w', R v w' → K (a.put o.dst v) w') : o.wpIn F n P a w K Q := by
  unfold gives at h
  unfold Oper.wpIn
  refine ⟨fun f _ => hF f, ?_⟩
  rw [Oper.semAt_eq _ _ _ hnd]
  generalize (execOp a.eval o).run P w = r at *
  cases r with
  | ok x w' =>
    cases x <;> simp only [Oper.uponIn] at h ⊢
    case value u => exact hk _ _ h
    case skip => exact hk _ _ h
    case enter f args => exact ⟨fun e => (by rw [hdp] at e; cases e), (hcall h).mono fun e w'' ⟨v, he, hr⟩ => by subst he; exact hk _ _ hr⟩
  | halt x w' => simp at h
/-- it waits for it, or for one that does -/
def reach (ops : Array Oper) : Nat → Nat → Nat → Bool
  | 0, _, _ => false
  | f + 1, k, i => match ops[k]? with | some o => waits o i || (List.range k).any fun j => waits o j && reach ops f j i | none => false
theorem reach_listed {ops : Array Oper} {listed : Array Bool} (hc : ∀ (j : Nat) (o : Oper), ops[j]? = some o → listed.getD j false = true → ∀ k, waits o k = true → listed.getD k false = true) :
    ∀ (f k : Nat) (o : Oper), ops[k]? = some o → (∀ i, waits o i = true → listed.getD i false = true) → ∀ i, reach ops f k i = true → listed.getD i false = true
  | 0, _, _, _, _, _, h => by unfold reach at h; cases h
  | f + 1, k, o, ho, hw, i, h => by
    unfold reach at h
    rw [ho] at h
    simp only [Bool.or_eq_true] at h
    rcases h with h | h
    · exact hw i h
    · obtain ⟨j, _, hj⟩ := List.any_eq_true.1 h
      rw [Bool.and_eq_true] at hj
      have hlj := hw j hj.1
      cases hoj : ops[j]? with
      | none => cases f <;> simp [reach, hoj] at hj
      | some oj => exact reach_listed hc f j oj hoj (hc j oj hoj hlj) i hj.2
/-- from number n on each operation waits for all ahead of it: for the first ones at last -/
def tailOkG (ops : Array Oper) (n : Nat) : Bool := (List.range ops.size).all fun k => decide (k < n) || ((List.range n).all fun i => reach ops ops.size k i) && ((List.range k).all fun i => decide (i < n) || match ops[k]? with | some o => waits o i | none => false)
theorem tail_atG {ops : Array Oper} {n k i : Nat} {o : Oper} (h : tailOkG ops n = true) (ho : ops[k]? = some o) (hk : n ≤ k) (hn : n ≤ i) (hi : i < k) : waits o i = true := by
  have h1 := List.all_eq_true.1 h k (List.mem_range.2 (Array.getElem?_eq_some_iff.1 ho).1)
  rw [Bool.or_eq_true] at h1
  rcases h1 with h1 | h1
  · simp only [decide_eq_true_eq] at h1; omega
  · have h2 := List.all_eq_true.1 (Bool.and_eq_true _ _ ▸ h1).2 i (List.mem_range.2 hi)
    rw [ho, Bool.or_eq_true] at h2
    rcases h2 with h2 | h2
    · simp only [decide_eq_true_eq] at h2; omega
    · exact h2
theorem reach_atG {ops : Array Oper} {n k i : Nat} {o : Oper} (h : tailOkG ops n = true) (ho : ops[k]? = some o) (hk : n ≤ k) (hi : i < n) : reach ops ops.size k i = true := by
  have h1 := List.all_eq_true.1 h k (List.mem_range.2 (Array.getElem?_eq_some_iff.1 ho).1)
  rw [Bool.or_eq_true] at h1
  rcases h1 with h1 | h1
  · simp only [decide_eq_true_eq] at h1; omega
  · exact List.all_eq_true.1 (Bool.and_eq_true _ _ ▸ h1).1 i (List.mem_range.2 hi)
def okqG (own : Nat → Option Nat) (ops : Array Oper) (sz n : Nat) : Bool := ok ops sz && tailOkG ops n && decide (n ≤ ops.size) && ((List.range ops.size).all fun j => match ops[j]? with
  | some o => (o.op.operands.all fun x => match x with | .tmp t => own t == owner ops t && (decide (n ≤ j) || (match owner ops t with | some i => decide (i < n) | none => true)) | _ => true) &&
      (decide (n ≤ j) || (match o.guard with | some (g, _) => decide (g < n) | none => true))
  | none => true)
/-- what holds while the first ones come up -/
structure InvG (ops : Array Oper) (n c : Nat) (a0 : Act) (Ph : Bool → World → Prop) (T : Nat → Value → World → Prop) (listed : Array Bool) (a : Act) (w : World) : Prop where
  ph : Ph (listed.getD c false) w
  defers : a.defers = a0.defers
  size : a.tmps.size = a0.tmps.size
  lsize : listed.size = ops.size
  all : ∀ (j : Nat) (o : Oper), ops[j]? = some o → j < n → listed.getD j false = true → T j (slot o a) w
  late : ∀ j, n ≤ j → listed.getD j false = false
  out : ∀ t, (∀ i, owner ops t = some i → n ≤ i) → a.tmps.getD t undef = a0.tmps.getD t undef
  closed : ∀ (j : Nat) (o : Oper), ops[j]? = some o → listed.getD j false = true → ∀ k, waits o k = true → listed.getD k false = true
/-- the last ones, as the text has them -/
theorem tail_runG {F : Fence} {m0 : Nat} {ops : Array Oper} {n sz : Nat} {Q : Exit → Act → World → Prop} (hok : ok ops sz = true) (ht : tailOkG ops n = true) : ∀ (m : Nat) (k : Nat) (fuel : Nat) (listed : Array Bool) (a : Act) (w : World), k + m = ops.size → n ≤ k → listed.size = ops.size →
    (∀ j, j < k → listed.getD j false = true) → (∀ j, k ≤ j → listed.getD j false = false) → m ≤ fuel → wpListIn F m0 P ops Q (ops.toList.drop k) a w → wpAnyIn F m0 P .any ops Q fuel listed a w := by
  intro m
  induction m with
  | zero =>
    intro k fuel listed a w hk hn hs h1 h2 hf h
    have hd : ops.toList.drop k = [] := List.drop_eq_nil_of_le (by simp; omega)
    rw [hd] at h
    have hr : Region.ready .any ops listed = [] := by
      apply List.eq_nil_iff_forall_not_mem.2
      intro j hj
      obtain ⟨h0, o, ho, _⟩ := mem_ready.1 hj
      have hjl : j < ops.size := (Array.getElem?_eq_some_iff.1 ho).1
      have h3 := h1 j (by omega)
      have hjs : j < listed.size := by omega
      simp [hjs] at h0 h3
      rw [h0] at h3; cases h3
    cases fuel with
    | zero => exact ⟨hr, h⟩
    | succ f => exact ⟨fun _ => h, fun i hi => by rw [hr] at hi; cases hi⟩
  | succ m ih =>
    intro k fuel listed a w hk hn hs h1 h2 hf h
    have hkl : k < ops.size := by omega
    obtain ⟨f, rfl⟩ : ∃ f, fuel = f + 1 := ⟨fuel - 1, by omega⟩
    have hd : ops.toList.drop k = ops[k] :: ops.toList.drop (k + 1) := by
      rw [List.drop_eq_getElem_cons (by simpa using hkl)]; simp
    rw [hd] at h
    have hko : ops[k]? = some ops[k] := Array.getElem?_eq_getElem hkl
    refine ⟨fun hr => ?_, fun i hi => ?_⟩
    · exfalso
      have : k ∈ Region.ready .any ops listed := by
        rw [mem_ready]
        refine ⟨?_, _, hko, fun e he hb => h1 _ ((ok_at hok hko).2.2.2 e he hb)⟩
        have h3 := h2 k (Nat.le_refl _)
        have hks : k < listed.size := by omega
        simp [hks] at h3 ⊢
        exact h3
      rw [hr] at this; cases this
    · obtain ⟨h0, o, ho, hafter⟩ := mem_ready.1 hi
      have hil := (Array.getElem?_eq_some_iff.1 ho).1
      have hik : i = k := by
        by_cases hlt : i < k
        · have h3 := h1 i hlt
          have hjs : i < listed.size := by omega
          simp [hjs] at h0 h3
          rw [h0] at h3; cases h3
        · by_cases hgt : k < i
          · exfalso
            obtain ⟨e, he, hek, hb⟩ := waits_spec (tail_atG ht ho (by omega) (by omega) hgt)
            have h3 := hafter e he hb
            rw [hek, h2 k (Nat.le_refl _)] at h3; cases h3
          · omega
      subst hik
      obtain rfl : ops[i] = o := Option.some.inj (hko.symm.trans ho)
      have next : ∀ (a' : Act) (w' : World), wpListIn F m0 P ops Q (ops.toList.drop (i + 1)) a' w' → wpAnyIn F m0 P .any ops Q f (listed.setIfInBounds i true) a' w' := fun a' w' h' =>
        ih (i + 1) f _ a' w' (by omega) (by omega) (by simpa using hs) (fun j hj => by
          by_cases hji : i = j
          · subst hji; have : i < listed.size := by omega
            simp [this]
          · rw [getD_set_ne false hji]; exact h1 j (by omega)) (fun j hj => by rw [getD_set_ne false (by omega)]; exact h2 j (by omega)) (by omega) h'
      unfold wpOpIn
      rw [ho]
      unfold wpListIn at h
      simp only
      by_cases hw : Region.wanted ops[i] (yielded ops a.tmps) = true
      · rw [if_pos hw] at h ⊢
        exact Oper.wpIn_mono (fun a' w' h' => next a' w' h') h
      · rw [if_neg hw] at h ⊢
        exact ⟨h.1, next _ _ h.2⟩
theorem regionCG {F : Fence} {m0 : Nat} (hF : ∀ f, F.fn f) (hdp : F.depth = none) (hcall : ∀ {f : FuncId} {args : Array Value} {w : World} {R : Ending → World → Prop}, Calls P f args w R → CallsIn F (m0 - 1) P f args w R) {id : Nat} {ops : Array Oper} {Q : Exit → Act → World → Prop} {a0 : Act} {w : World} (hm : P.follows .mixedOrders = true) (n c : Nat) (Ph : Bool → World → Prop) (turn : World → World → Prop)
    (hph : ∀ b w w', Ph b w → Below w.heap.size w w' → Ph b w') (hph0 : Ph false w.drew)
    (T : Nat → Value → World → Prop) (stab : ∀ j v w w', T j v w → Below w.heap.size w w' → T j v w') (stabT : ∀ j v w w', T j v w → turn w w' → T j v w') (want : Nat → Bool) (hok : ok ops a0.tmps.size = true) (ht : tailOkG ops n = true) (hn : n ≤ ops.size)
    (hguard : ∀ (j : Nat) (o : Oper), j < n → ops[j]? = some o → match o.guard with | none => want j = true | some (g, b) => g < n ∧ ∀ (v : Value) (w : World), T g v w → if want j = true then v = .bool b else v ≠ .bool b)
    (hstep : ∀ (j : Nat) (o : Oper), j < n → ops[j]? = some o → ∀ (ρ : Operand → Value) (w1 : World) (b : Bool), Ph b w1 → (j = c → b = false) → deps ops a0 T ρ w1 o.op.operands.toList →
      if want j = true then gives P o ρ w1 (fun v w' => (if j = c then turn w1 w' ∧ Ph true w' else Below w1.heap.size w1 w') ∧ T j (left o v) w') else j ≠ c ∧ T j undef w1)
    (hnd : ∀ (j : Nat) (o : Oper), ops[j]? = some o → ∀ c, o.op ≠ .defer c)
    (hback : ∀ (j i t : Nat) (o : Oper), j < n → ops[j]? = some o → .tmp t ∈ o.op.operands.toList → owner ops t = some i → i < n)
    (hend : ∀ (a : Act) (w1 : World), Ph (decide (c < n)) w1 → a.defers = a0.defers → a.tmps.size = a0.tmps.size → (∀ (j : Nat) (o : Oper), j < n → ops[j]? = some o → T j (slot o a) w1) → (∀ t, (∀ i, owner ops t = some i → n ≤ i) → a.tmps.getD t undef = a0.tmps.getD t undef) →
      wpListIn F m0 P ops Q (ops.toList.drop n) a w1) :
    (Code.region id ops true).wpIn F m0 P Q a0 w := by
  have main : ∀ (fuel : Nat) (listed : Array Bool) (a : Act) (w1 : World), InvG ops n c a0 Ph T listed a w1 → ((List.range ops.size).filter fun j => !listed.getD j true).length ≤ fuel →
      wpAnyIn F m0 P .any ops Q fuel listed a w1 := by
    have cnt : ∀ (listed : Array Bool), listed.size = ops.size → (∀ j, n ≤ j → listed.getD j false = false) → ops.size - n ≤ ((List.range ops.size).filter fun j => !listed.getD j true).length := by
      intro listed hs hl
      have e : List.range ops.size = List.range n ++ (List.range (ops.size - n)).map (n + ·) := by rw [← List.range_add, Nat.add_sub_cancel' hn]
      have e2 : ((List.range (ops.size - n)).map (n + ·)).filter (fun j => !listed.getD j true) = (List.range (ops.size - n)).map (n + ·) := by
        rw [List.filter_eq_self]
        intro x hx
        obtain ⟨y, hy, rfl⟩ := List.mem_map.1 hx
        rw [List.mem_range] at hy
        have h3 := hl (n + y) (by omega)
        have hxs : n + y < listed.size := by omega
        simp [hxs] at h3 ⊢
        exact h3
      rw [e, List.filter_append, e2]
      simp
    -- all the first ones have come up
    have full : ∀ (fuel : Nat) (listed : Array Bool) (a : Act) (w1 : World), InvG ops n c a0 Ph T listed a w1 → ((List.range ops.size).filter fun j => !listed.getD j true).length ≤ fuel → (∀ j, j < n → listed.getD j false = true) → wpAnyIn F m0 P .any ops Q fuel listed a w1 := by
      intro fuel listed a w1 I hc hall
      refine tail_runG hok ht (ops.size - n) n fuel listed a w1 (by omega) (Nat.le_refl _) I.lsize hall I.late (Nat.le_trans (cnt listed I.lsize I.late) hc) ?_
      refine hend a w1 ?_ I.defers I.size (fun j o hj ho => I.all j o ho hj (hall j hj)) I.out
      have hp := I.ph
      by_cases hcn : c < n
      · rw [hall c hcn] at hp; simpa [hcn] using hp
      · rw [I.late c (by omega)] at hp; simpa [hcn] using hp
    intro fuel
    induction fuel with
    | zero =>
      intro listed a w1 I hc
      refine full 0 listed a w1 I hc (fun j hj => ?_)
      by_cases hl : listed.getD j false = true
      · exact hl
      · exfalso
        have hjl : j < listed.size := by rw [I.lsize]; omega
        have : j ∈ (List.range ops.size).filter fun j => !listed.getD j true := List.mem_filter.2 ⟨List.mem_range.2 (by omega), by simp [hjl] at hl ⊢; exact hl⟩
        rw [List.eq_nil_of_length_eq_zero (by omega : ((List.range ops.size).filter fun j => !listed.getD j true).length = 0)] at this
        cases this
    | succ fuel ih =>
      intro listed a w1 I hc
      by_cases hall : ∀ j, j < n → listed.getD j false = true
      · exact full (fuel + 1) listed a w1 I hc hall
      have hex : ∃ j, j < n ∧ listed.getD j false = false := by
        apply Classical.byContradiction
        intro hne
        refine hall fun j hj => ?_
        cases hl : listed.getD j false
        · exact absurd ⟨j, hj, hl⟩ hne
        · rfl
      refine ⟨fun hr => ?_, fun i hi => ?_⟩
      · exfalso
        refine hall fun j => ?_
        induction j using Nat.strongRecOn with
        | _ j ihj =>
          intro hj
          by_cases hl : listed.getD j false = true
          · exact hl
          · exfalso
            have ho := Array.getElem?_eq_getElem (xs := ops) (i := j) (by omega)
            have hmem : j ∈ Region.ready .any ops listed := by
              rw [mem_ready]
              refine ⟨?_, _, ho, fun e he hb => ?_⟩
              · have hjl : j < listed.size := by rw [I.lsize]; omega
                simp [hjl] at hl ⊢
                exact hl
              · have hlt := (ok_at hok ho).2.2.2 e he hb
                exact ihj e.on hlt (by omega)
            rw [hr] at hmem
            cases hmem
      obtain ⟨h0, o, ho, hafter⟩ := mem_ready.1 hi
      obtain ⟨k1, k2, k3, k4⟩ := ok_at hok ho
      have hilt := (Array.getElem?_eq_some_iff.1 ho).1
      -- what it waits for has come up
      have come : ∀ k, waits o k = true → listed.getD k false = true := fun k hk => by
        obtain ⟨e, he, rfl, hb⟩ := waits_spec hk
        exact hafter e he hb
      have hin : i < n := by
        apply Classical.byContradiction
        intro hge
        obtain ⟨j, hj, hjl⟩ := hex
        have := reach_listed I.closed ops.size i o ho come j (reach_atG ht ho (by omega) hj)
        rw [hjl] at this; cases this
      have hdeps : deps ops a0 T a.eval w1 o.op.operands.toList := deps_of fun x hx => by
        cases x with
        | tmp t =>
          cases hown : owner ops t with
          | none => simp only [dep, hown]; exact I.out t (fun i hi => by rw [hown] at hi; cases hi)
          | some k =>
            obtain ⟨ok', hok', hd⟩ := owner_spec hown
            have := I.all k ok' hok' (hback i k t o hin ho hx hown) (come k (k2 t k hx hown))
            simp only [slot, hd] at this
            simp only [dep, hown]
            exact this
        | const c => rfl
        | global g => rfl
        | func f => rfl
      have hnc : i = c → listed.getD c false = false := fun e => by
        subst e
        have his : i < listed.size := by rw [I.lsize]; exact hilt
        simp [his] at h0 ⊢
        exact h0
      have hstep' := hstep i o hin ho a.eval w1 _ I.ph hnc hdeps
      have hcount : ((List.range ops.size).filter fun j => !(listed.setIfInBounds i true).getD j true).length ≤ fuel := by
        have := filter_lt (l := List.range ops.size) (p := fun j => !listed.getD j true) (q := fun j => !(listed.setIfInBounds i true).getD j true)
          (fun x hx => by
            by_cases hxi : i = x
            · subst hxi; simp only [h0]; rfl
            · rw [getD_set_ne true hxi] at hx; exact hx) (List.mem_range.2 hilt) (by simp only [h0]; rfl)
          (by have : i < listed.size := by rw [I.lsize]; exact hilt
              simp [this])
        omega
      have hnext : ∀ v w', (if i = c then turn w1 w' ∧ Ph true w' else Below w1.heap.size w1 w') → T i (left o v) w' → InvG ops n c a0 Ph T (listed.setIfInBounds i true) (a.put o.dst v) w' := fun v w' hr ht' => by
        refine ⟨?_, ?_, ?_, by simpa using I.lsize, fun j oj hoj hjn hlj => ?_, fun j hj => by rw [getD_set_ne false (by omega)]; exact I.late j hj, fun t hn' => ?_, fun j oj hoj hlj k hk => by
          have kp : listed.getD k false = true → (listed.setIfInBounds i true).getD k false = true := fun h => by
            by_cases hik : i = k
            · subst hik
              have : i < listed.size := by rw [I.lsize]; exact hilt
              simp [this]
            · rw [getD_set_ne false hik]; exact h
          by_cases hij : i = j
          · subst hij
            obtain rfl : o = oj := Option.some.inj (ho.symm.trans hoj)
            exact kp (come k hk)
          · rw [getD_set_ne false hij] at hlj
            exact kp (I.closed j oj hoj hlj k hk)⟩
        · by_cases hic : i = c
          · subst hic
            rw [if_pos rfl] at hr
            have : i < listed.size := by rw [I.lsize]; exact hilt
            simp [this]
            exact hr.2
          · rw [if_neg hic] at hr
            rw [getD_set_ne false hic]
            exact hph _ _ _ I.ph hr
        · cases hd : o.dst <;> simp [Act.put, I.defers]
        · cases hd : o.dst <;> simp [Act.put, I.size]
        · by_cases hij : i = j
          · subst hij
            obtain rfl : o = oj := Option.some.inj (ho.symm.trans hoj)
            cases hd : o.dst with
            | none => simpa [slot, left, hd] using ht'
            | some d =>
              have hdlt := (k1 d hd).1
              have e : slot o (a.put (some d) v) = v := by
                simp [slot, hd, Act.put, I.size, hdlt]
              rw [e]
              simpa [left, hd] using ht'
          · rw [getD_set_ne false hij] at hlj
            have hold := I.all j oj hoj hjn hlj
            have hold' : T j (slot oj a) w' := by
              by_cases hic : i = c
              · rw [if_pos hic] at hr; exact stabT _ _ _ _ hold hr.1
              · rw [if_neg hic] at hr; exact stab _ _ _ _ hold hr
            have e : slot oj (a.put o.dst v) = slot oj a := by
              cases hd : o.dst with
              | none => rfl
              | some d =>
                unfold slot
                cases hdj : oj.dst with
                | none => rfl
                | some dj =>
                  have hne : d ≠ dj := fun e => by
                    subst e
                    have h1 := (k1 d hd).2
                    have h2 := ((ok_at hok hoj).1 d hdj).2
                    rw [h1] at h2
                    exact hij (Option.some.inj h2)
                  simp [Act.put, Array.getElem?_setIfInBounds_ne hne]
            rw [e]; exact hold'
        · rw [← I.out t hn']
          cases hd : o.dst with
          | none => rfl
          | some d =>
            have hne : d ≠ t := fun e => by
              subst e
              have := hn' i (k1 d hd).2
              omega
            simp [Act.put, Array.getElem?_setIfInBounds_ne hne]
      have hg := hguard i o hin ho
      -- is it wanted?
      have hw : Region.wanted o (yielded ops a.tmps) = want i := by
        unfold Region.wanted
        cases hgd : o.guard with
        | none => rw [hgd] at hg; simp only at hg; rw [hg]
        | some gb =>
          obtain ⟨g, b⟩ := gb
          rw [hgd] at hg
          simp only at hg
          obtain ⟨hwg, d, hd⟩ := k3 g b hgd
          obtain ⟨og, hog, hdg⟩ := Option.bind_eq_some_iff.1 hd
          have hT := I.all g og hog hg.1 (come g hwg)
          have hv := hg.2 _ _ hT
          have hdlt : d < a.tmps.size := by rw [I.size]; exact ((ok_at hok hog).1 d hdg).1
          have hs : slot og a = a.tmps[d] := by simp [slot, hdg, hdlt]
          have hy : yielded ops a.tmps g = match a.tmps[d] with | .bool b => some b | _ => none := by
            unfold yielded
            rw [hd]
            simp [hdlt]
            cases a.tmps[d] <;> rfl
          rw [hs] at hv
          simp only [hy]
          cases hwi : want i with
          | true => rw [hwi] at hv; simp only [if_true] at hv; rw [hv]; simp
          | false =>
            rw [hwi] at hv
            simp only [Bool.false_eq_true, if_false] at hv
            cases hx : a.tmps[d] <;> first | rfl | skip
            rename_i bb
            rw [hx] at hv
            have : bb ≠ b := fun e => hv (by rw [e])
            simp [this]
      unfold wpOpIn
      rw [ho]
      simp only [hw]
      cases hwi : want i with
      | true =>
        rw [hwi] at hstep'
        simp only [if_true] at hstep' ⊢
        exact wpIn_of_givesF hF hdp hcall (hnd i o ho) hstep' fun v w' ⟨hr, ht'⟩ => ih _ _ _ (hnext v w' hr ht') hcount
      | false =>
        rw [hwi] at hstep'
        simp only [Bool.false_eq_true, if_false] at hstep' ⊢
        refine ⟨fun f _ => hF f, ih _ _ _ (hnext undef w1 (by rw [if_neg hstep'.1]; exact Below.refl _ _) ?_) hcount⟩
        cases hd : o.dst <;> simpa [left, hd] using hstep'.2
  refine wpIn_region_any hm (main ops.size (Array.replicate ops.size false) a0 w.drew ⟨?_, rfl, rfl, by simp, fun j o ho _ hl => ?_, fun j _ => ?_, fun t _ => rfl, fun j o ho hl => by
    have hj := (Array.getElem?_eq_some_iff.1 ho).1
    simp [hj] at hl⟩ ?_)
  · have e : (Array.replicate ops.size false).getD c false = false := by
      by_cases hc : c < ops.size <;> simp [hc]
    rw [e]; exact hph0
  · have hj := (Array.getElem?_eq_some_iff.1 ho).1
    simp [hj] at hl
  · by_cases hc : j < ops.size <;> simp [hc]
  · exact Nat.le_trans (List.length_filter_le _ _) (by simp)
theorem regionQG {F : Fence} {m0 : Nat} (hF : ∀ f, F.fn f) (hdp : F.depth = none) (hcall : ∀ {f : FuncId} {args : Array Value} {w : World} {R : Ending → World → Prop}, Calls P f args w R → CallsIn F (m0 - 1) P f args w R) {id : Nat} {ls : List Oper} {Q : Exit → Act → World → Prop} {a0 : Act} {w : World} (hm : P.follows .mixedOrders = true) (n c : Nat) (Ph : Bool → World → Prop) (turn : World → World → Prop)
    (hph : ∀ b w w', Ph b w → Below w.heap.size w w' → Ph b w') (hph0 : Ph false w.drew) (hturn : ∀ x y b, turn x y → w.heap.size ≤ b → b < x.heap.size → y.heap[b]? = x.heap[b]?)
    (hnd : ls.all (fun o => match o.op with | .defer _ => false | _ => true) = true) (own : Nat → Option Nat) (S : List Sq) (W : List Bool) (hok : okqG own ls.toArray a0.tmps.size n = true) (h : oblqs P w.heap.size c Ph turn own a0 S W 0 (ls.take n))
    (hend : ∀ (vs : Nat → Value) (w1 : World), Ph (decide (c < n)) w1 → (∀ (j : Nat) (o : Oper) (d : Nat), (ls.take n)[j]? = some o → o.dst = some d → (sq S j).holds w.heap.size (vs j) w1) →
      wpListIn F m0 P ls.toArray Q (ls.drop n) (putAll 0 (ls.take n) vs a0) w1) :
    (Code.region id ls.toArray true).wpIn F m0 P Q a0 w := by
  unfold okqG at hok
  simp only [Bool.and_eq_true, decide_eq_true_eq] at hok
  obtain ⟨⟨⟨hok1, hok2⟩, hnl⟩, hok3⟩ := hok
  have at3 : ∀ (j : Nat) (o : Oper), ls[j]? = some o → (∀ t, .tmp t ∈ o.op.operands.toList → own t = owner ls.toArray t ∧ (j < n → ∀ i, owner ls.toArray t = some i → i < n)) ∧ (j < n → ∀ g b, o.guard = some (g, b) → g < n) := by
    intro j o ho
    have hj := (List.getElem?_eq_some_iff.1 ho).1
    have h1 := List.all_eq_true.1 hok3 j (List.mem_range.2 (by simpa using hj))
    have ho' : ls.toArray[j]? = some o := by simpa using ho
    rw [ho'] at h1
    simp only [Bool.and_eq_true] at h1
    refine ⟨fun t ht => ?_, fun hjn g b hg => ?_⟩
    · have h2 := Array.all_eq_true_iff_forall_mem.1 h1.1 (.tmp t) (by simpa using ht)
      simp only [Bool.and_eq_true, Bool.or_eq_true, decide_eq_true_eq] at h2
      refine ⟨by simpa using h2.1, fun hjn i hi => ?_⟩
      have h3 := h2.2
      rw [hi] at h3
      simp only [decide_eq_true_eq] at h3
      omega
    · have h2 := h1.2
      rw [hg] at h2
      simp only [Bool.or_eq_true, decide_eq_true_eq] at h2
      omega
  have tk : ∀ (j : Nat) (o : Oper), j < n → ls.toArray[j]? = some o → (ls.take n)[j]? = some o := fun j o hj ho => by
    rw [List.getElem?_take_of_lt hj]; simpa using ho
  refine regionCG hF hdp hcall hm n c Ph turn hph hph0 (fun j => (sq S j).holds w.heap.size) (fun j v w1 w2 h hb => (sq S j).stab h hb) (fun j v w1 w2 h ht => ?_) (fun j => W.getD j true) hok1 hok2 hnl
    (fun j o hj ho => ?_) (fun j o hj ho ρ w1 b hp hc hd => ?_) (fun j o ho c e => by have h1 := List.all_eq_true.1 hnd o (List.mem_of_getElem? (by simpa using ho)); rw [e] at h1; cases h1) (fun j i t o hj ho ht hi => ((at3 j o (by simpa using ho)).1 t ht).2 hj i hi) (fun a w1 hp hdf hsz hall hout => ?_)
  · cases hs : sq S j with
    | is u => rw [hs] at h; exact h
    | sat p => rw [hs] at h; exact h
    | new o =>
      rw [hs] at h
      obtain ⟨b, h1, h2, h3⟩ := h
      exact ⟨b, h1, h2, (hturn _ _ b ht h2 (Array.getElem?_eq_some_iff.1 h3).1).trans h3⟩
    | sl o n' m' =>
      rw [hs] at h
      obtain ⟨b, h1, h2, h3⟩ := h
      exact ⟨b, h1, h2, (hturn _ _ b ht h2 (Array.getElem?_eq_some_iff.1 h3).1).trans h3⟩
  · have := (oblqs_at h (tk j o hj ho)).1
    rw [Nat.zero_add] at this
    cases hg : o.guard with
    | none => rw [hg] at this; exact this
    | some gb =>
      obtain ⟨g, b⟩ := gb
      rw [hg] at this
      exact ⟨(at3 j o (by simpa using ho)).2 hj g b hg, this⟩
  · have h1 := (oblqs_at h (tk j o hj ho)).2
    rw [Nat.zero_add] at h1
    have hd' := depsq_of (B := w.heap.size) (own := own) (S := S) (fun t ht => ((at3 j o (by simpa using ho)).1 t ht).1) hd
    by_cases hjc : j = c
    · rw [if_pos hjc] at h1
      have hb := hc hjc
      subst hb
      rw [if_pos h1.1]
      have h2 := h1.2 ρ w1 hp hd'
      simpa only [if_pos hjc] using h2
    · rw [if_neg hjc] at h1
      have h2 := h1 ρ w1 b hp hd'
      by_cases hw : W.getD j true = true
      · rw [if_pos hw] at h2 ⊢
        simpa only [if_neg hjc] using h2
      · rw [if_neg hw] at h2 ⊢
        exact ⟨hjc, h2⟩
  · have key := hend (fun j => match (ls.take n)[j]? with | some o => slot o a | none => undef) w1 hp (fun j o d ho hd => by
      have hlt := (List.getElem?_eq_some_iff.1 ho).1
      have hjn : j < n := by simp at hlt; omega
      have := hall j o hjn (by rw [List.getElem?_toArray]; rwa [List.getElem?_take_of_lt hjn] at ho)
      simpa [ho] using this)
    rw [putAll_eq (b := a) (ls.take n) 0 a0 hsz.symm hdf.symm (fun j o d ho hd => ?_) (fun t ht => ?_)] at key
    · simpa using key
    · have hlt := (List.getElem?_eq_some_iff.1 ho).1
      have hjn : j < n := by simp at hlt; omega
      have h1 := (ok_at hok1 (j := j) (o := o) (by rw [List.getElem?_toArray]; rwa [List.getElem?_take_of_lt hjn] at ho)).1 d hd
      refine ⟨by rw [hsz]; exact h1.1, ?_⟩
      simp only [Nat.zero_add, ho, slot, hd]
    · refine hout t fun i hi => ?_
      apply Classical.byContradiction
      intro hlt
      obtain ⟨o, ho, hd⟩ := owner_spec hi
      exact ht i o (tk i o (by omega) ho) hd
/-- no call that turns anything -/
theorem regionPG {F : Fence} {m0 : Nat} (hF : ∀ f, F.fn f) (hdp : F.depth = none) (hcall : ∀ {f : FuncId} {args : Array Value} {w : World} {R : Ending → World → Prop}, Calls P f args w R → CallsIn F (m0 - 1) P f args w R) {id : Nat} {ls : List Oper} {Q : Exit → Act → World → Prop} {a0 : Act} {w : World} (hm : P.follows .mixedOrders = true) (n : Nat)
    (hnd : ls.all (fun o => match o.op with | .defer _ => false | _ => true) = true) (own : Nat → Option Nat) (S : List Sq) (W : List Bool) (hok : okqG own ls.toArray a0.tmps.size n = true) (hn : (ls.take n).length ≤ 1000)
    (h : oblqs P w.heap.size 1000 (fun _ x => Below w.heap.size w x) (fun _ _ => False) own a0 S W 0 (ls.take n))
    (hend : ∀ (vs : Nat → Value) (w1 : World), Below w.heap.size w w1 → (∀ (j : Nat) (o : Oper) (d : Nat), (ls.take n)[j]? = some o → o.dst = some d → (sq S j).holds w.heap.size (vs j) w1) →
      wpListIn F m0 P ls.toArray Q (ls.drop n) (putAll 0 (ls.take n) vs a0) w1) :
    (Code.region id ls.toArray true).wpIn F m0 P Q a0 w :=
  regionQG hF hdp hcall hm n 1000 (fun _ x => Below w.heap.size w x) (fun _ _ => False) (fun b x y hx hb => hx.trans (hb.mono hx.size)) ⟨rfl, rfl, rfl, Nat.le_refl _, fun _ _ => rfl⟩ (fun x y b h => h.elim) hnd own S W hok h hend
/-- a call turns two blocks -/
theorem regionKG {F : Fence} {m0 : Nat} (hF : ∀ f, F.fn f) (hdp : F.depth = none) (hcall : ∀ {f : FuncId} {args : Array Value} {w : World} {R : Ending → World → Prop}, Calls P f args w R → CallsIn F (m0 - 1) P f args w R) {id : Nat} {ls : List Oper} {Q : Exit → Act → World → Prop} {a0 : Act} {w : World} (hm : P.follows .mixedOrders = true) (n c : Nat) (q g : Nat) (Post : World → Prop) (hq : q < w.heap.size) (hg : g < w.heap.size)
    (hnd : ls.all (fun o => match o.op with | .defer _ => false | _ => true) = true) (own : Nat → Option Nat) (S : List Sq) (W : List Bool) (hok : okqG own ls.toArray a0.tmps.size n = true)
    (h : oblqs P w.heap.size c (PhK w q g Post) (Kept q g) own a0 S W 0 (ls.take n))
    (hend : ∀ (vs : Nat → Value) (w1 : World), PhK w q g Post (decide (c < n)) w1 → (∀ (j : Nat) (o : Oper) (d : Nat), (ls.take n)[j]? = some o → o.dst = some d → (sq S j).holds w.heap.size (vs j) w1) →
      wpListIn F m0 P ls.toArray Q (ls.drop n) (putAll 0 (ls.take n) vs a0) w1) :
    (Code.region id ls.toArray true).wpIn F m0 P Q a0 w :=
  regionQG hF hdp hcall hm n c (PhK w q g Post) (Kept q g) (fun b x y hx hb => by
      cases b with
      | false => exact Below.trans hx (hb.mono (Below.size hx))
      | true => obtain ⟨y', z, h1, h2, h3, h4⟩ := hx; exact ⟨y', z, h1, h2, h3, h4.trans (hb.mono h4.size)⟩) ⟨rfl, rfl, rfl, Nat.le_refl _, fun _ _ => rfl⟩
    (fun x y b hxy hb hlt => hxy.block b hlt (by omega) (by omega)) hnd own S W hok h hend
end Og
end Go.Proofs.YtianojbdabeoeaaGreatDoor
end
