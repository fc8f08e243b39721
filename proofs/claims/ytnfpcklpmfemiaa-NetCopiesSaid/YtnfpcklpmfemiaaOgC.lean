/-
  A region that draws its order, whose last operations each wait for all that are ahead of them, and in which one call may turn what else stands still: the first ones in whatever order, the last ones as the text has them. No program is named here.
-/
import Derived.Test.YtnfpcklpmfemiaaOg3
namespace Go.Proofs.Ytnfpcklpmfemiaa
set_option linter.unusedVariables false
namespace Og
open Go.RowKit
variable {P : Program}
/-- from number n on each operation waits for all ahead of it -/
def tailOk (ops : Array Oper) (n : Nat) : Bool := (List.range ops.size).all fun k => decide (k < n) || (List.range k).all fun i => match ops[k]? with | some o => waits o i | none => false
theorem tail_at {ops : Array Oper} {n k i : Nat} {o : Oper} (h : tailOk ops n = true) (ho : ops[k]? = some o) (hk : n ≤ k) (hi : i < k) : waits o i = true := by
  have h1 := List.all_eq_true.1 h k (List.mem_range.2 (Array.getElem?_eq_some_iff.1 ho).1)
  rw [Bool.or_eq_true] at h1
  rcases h1 with h1 | h1
  · simp only [decide_eq_true_eq] at h1; omega
  · have h2 := List.all_eq_true.1 h1 i (List.mem_range.2 hi)
    rw [ho] at h2; exact h2
/-- what holds while the first ones come up -/
structure InvC (ops : Array Oper) (n c : Nat) (a0 : Act) (Ph : Bool → World → Prop) (T : Nat → Value → World → Prop) (listed : Array Bool) (a : Act) (w : World) : Prop where
  ph : Ph (listed.getD c false) w
  defers : a.defers = a0.defers
  size : a.tmps.size = a0.tmps.size
  lsize : listed.size = ops.size
  all : ∀ (j : Nat) (o : Oper), ops[j]? = some o → j < n → listed.getD j false = true → T j (slot o a) w
  late : ∀ j, n ≤ j → listed.getD j false = false
  out : ∀ t, (∀ i, owner ops t = some i → n ≤ i) → a.tmps.getD t undef = a0.tmps.getD t undef
/-- the last ones, as the text has them -/
theorem tail_run {ops : Array Oper} {n sz : Nat} {Q : Exit → Act → World → Prop} (hok : ok ops sz = true) (ht : tailOk ops n = true) : ∀ (m : Nat) (k : Nat) (fuel : Nat) (listed : Array Bool) (a : Act) (w : World), k + m = ops.size → n ≤ k → listed.size = ops.size →
    (∀ j, j < k → listed.getD j false = true) → (∀ j, k ≤ j → listed.getD j false = false) → m ≤ fuel → wpList P ops Q (ops.toList.drop k) a w → wpAny P .any ops Q fuel listed a w := by
  intro m
  induction m with
  | zero =>
    intro k fuel listed a w hk hn hs h1 h2 hf h
    have hd : ops.toList.drop k = [] := List.drop_eq_nil_of_le (by simp; omega)
    rw [hd] at h
    have hr : Region.ready .any ops listed = [] := by
      apply List.eq_nil_iff_forall_not_mem.2
      intro j hj
      obtain ⟨h0, o, ho, _⟩ := mem_ready.1 hj
      have hjl : j < ops.size := (Array.getElem?_eq_some_iff.1 ho).1
      have h3 := h1 j (by omega)
      have hjs : j < listed.size := by omega
      simp [hjs] at h0 h3
      rw [h0] at h3; cases h3
    cases fuel with
    | zero => exact ⟨hr, h⟩
    | succ f => exact ⟨fun _ => h, fun i hi => by rw [hr] at hi; cases hi⟩
  | succ m ih =>
    intro k fuel listed a w hk hn hs h1 h2 hf h
    have hkl : k < ops.size := by omega
    obtain ⟨f, rfl⟩ : ∃ f, fuel = f + 1 := ⟨fuel - 1, by omega⟩
    have hd : ops.toList.drop k = ops[k] :: ops.toList.drop (k + 1) := by
      rw [List.drop_eq_getElem_cons (by simpa using hkl)]; simp
    rw [hd] at h
    have hko : ops[k]? = some ops[k] := Array.getElem?_eq_getElem hkl
    refine ⟨fun hr => ?_, fun i hi => ?_⟩
    · exfalso
      have : k ∈ Region.ready .any ops listed := by
        rw [mem_ready]
        refine ⟨?_, _, hko, fun e he hb => h1 _ ((ok_at hok hko).2.2.2 e he hb)⟩
        have h3 := h2 k (Nat.le_refl _)
        have hks : k < listed.size := by omega
        simp [hks] at h3 ⊢
        exact h3
      rw [hr] at this; cases this
    · obtain ⟨h0, o, ho, hafter⟩ := mem_ready.1 hi
      have hil := (Array.getElem?_eq_some_iff.1 ho).1
      have hik : i = k := by
        by_cases hlt : i < k
        · have h3 := h1 i hlt
          have hjs : i < listed.size := by omega
          simp [hjs] at h0 h3
          rw [h0] at h3; cases h3
        · by_cases hgt : k < i
          · exfalso
            obtain ⟨e, he, hek, hb⟩ := waits_spec (tail_at ht ho (by omega) hgt)
            have h3 := hafter e he hb
            rw [hek, h2 k (Nat.le_refl _)] at h3; cases h3
          · omega
      subst hik
      obtain rfl : ops[i] = o := Option.some.inj (hko.symm.trans ho)
      have next : ∀ (a' : Act) (w' : World), wpList P ops Q (ops.toList.drop (i + 1)) a' w' → wpAny P .any ops Q f (listed.setIfInBounds i true) a' w' := fun a' w' h' =>
        ih (i + 1) f _ a' w' (by omega) (by omega) (by simpa using hs) (fun j hj => by
          by_cases hji : i = j
          · subst hji; have : i < listed.size := by omega
            simp [this]
          · rw [getD_set_ne false hji]; exact h1 j (by omega)) (fun j hj => by rw [getD_set_ne false (by omega)]; exact h2 j (by omega)) (by omega) h'
      unfold wpOp
      rw [ho]
      unfold wpList at h
      simp only
      by_cases hw : Region.wanted ops[i] (yielded ops a.tmps) = true
      · rw [if_pos hw] at h ⊢
        rcases h with h | h
        · exact .inl (Oper.wp_mono (fun a' w' h' => next a' w' h') h)
        · exact .inr h
      · rw [if_neg hw] at h ⊢
        exact next _ _ h
theorem regionC {id : Nat} {ops : Array Oper} {Q : Exit → Act → World → Prop} {a0 : Act} {w : World} (hm : P.follows .mixedOrders = true) (n c : Nat) (Ph : Bool → World → Prop) (turn : World → World → Prop)
    (hph : ∀ b w w', Ph b w → Below w.heap.size w w' → Ph b w') (hph0 : Ph false w.drew)
    (T : Nat → Value → World → Prop) (stab : ∀ j v w w', T j v w → Below w.heap.size w w' → T j v w') (stabT : ∀ j v w w', T j v w → turn w w' → T j v w') (want : Nat → Bool) (hok : ok ops a0.tmps.size = true) (ht : tailOk ops n = true) (hn : n ≤ ops.size)
    (hguard : ∀ (j : Nat) (o : Oper), j < n → ops[j]? = some o → match o.guard with | none => want j = true | some (g, b) => g < n ∧ ∀ (v : Value) (w : World), T g v w → if want j = true then v = .bool b else v ≠ .bool b)
    (hstep : ∀ (j : Nat) (o : Oper), j < n → ops[j]? = some o → ∀ (ρ : Operand → Value) (w1 : World) (b : Bool), Ph b w1 → (j = c → b = false) → deps ops a0 T ρ w1 o.op.operands.toList →
      if want j = true then gives P o ρ w1 (fun v w' => (if j = c then turn w1 w' ∧ Ph true w' else Below w1.heap.size w1 w') ∧ T j (left o v) w') else j ≠ c ∧ T j undef w1)
    (hback : ∀ (j i t : Nat) (o : Oper), j < n → ops[j]? = some o → .tmp t ∈ o.op.operands.toList → owner ops t = some i → i < n)
    (hend : ∀ (a : Act) (w1 : World), Ph (decide (c < n)) w1 → a.defers = a0.defers → a.tmps.size = a0.tmps.size → (∀ (j : Nat) (o : Oper), j < n → ops[j]? = some o → T j (slot o a) w1) → (∀ t, (∀ i, owner ops t = some i → n ≤ i) → a.tmps.getD t undef = a0.tmps.getD t undef) →
      wpList P ops Q (ops.toList.drop n) a w1) :
    (Code.region id ops true).wp P Q a0 w := by
  have main : ∀ (fuel : Nat) (listed : Array Bool) (a : Act) (w1 : World), InvC ops n c a0 Ph T listed a w1 → ((List.range ops.size).filter fun j => !listed.getD j true).length ≤ fuel →
      wpAny P .any ops Q fuel listed a w1 := by
    have cnt : ∀ (listed : Array Bool), listed.size = ops.size → (∀ j, n ≤ j → listed.getD j false = false) → ops.size - n ≤ ((List.range ops.size).filter fun j => !listed.getD j true).length := by
      intro listed hs hl
      have e : List.range ops.size = List.range n ++ (List.range (ops.size - n)).map (n + ·) := by rw [← List.range_add, Nat.add_sub_cancel' hn]
      have e2 : ((List.range (ops.size - n)).map (n + ·)).filter (fun j => !listed.getD j true) = (List.range (ops.size - n)).map (n + ·) := by
        rw [List.filter_eq_self]
        intro x hx
        obtain ⟨y, hy, rfl⟩ := List.mem_map.1 hx
        rw [List.mem_range] at hy
        have h3 := hl (n + y) (by omega)
        have hxs : n + y < listed.size := by omega
        simp [hxs] at h3 ⊢
        exact h3
      rw [e, List.filter_append, e2]
      simp
    -- all the first ones have come up
    have full : ∀ (fuel : Nat) (listed : Array Bool) (a : Act) (w1 : World), InvC ops n c a0 Ph T listed a w1 → ((List.range ops.size).filter fun j => !listed.getD j true).length ≤ fuel → (∀ j, j < n → listed.getD j false = true) → wpAny P .any ops Q fuel listed a w1 := by
      intro fuel listed a w1 I hc hall
      refine tail_run hok ht (ops.size - n) n fuel listed a w1 (by omega) (Nat.le_refl _) I.lsize hall I.late (Nat.le_trans (cnt listed I.lsize I.late) hc) ?_
      refine hend a w1 ?_ I.defers I.size (fun j o hj ho => I.all j o ho hj (hall j hj)) I.out
      have hp := I.ph
      by_cases hcn : c < n
      · rw [hall c hcn] at hp; simpa [hcn] using hp
      · rw [I.late c (by omega)] at hp; simpa [hcn] using hp
    intro fuel
    induction fuel with
    | zero =>
      intro listed a w1 I hc
      refine full 0 listed a w1 I hc (fun j hj => ?_)
      by_cases hl : listed.getD j false = true
      · exact hl
      · exfalso
        have hjl : j < listed.size := by rw [I.lsize]; omega
        have : j ∈ (List.range ops.size).filter fun j => !listed.getD j true := List.mem_filter.2 ⟨List.mem_range.2 (by omega), by simp [hjl] at hl ⊢; exact hl⟩
        rw [List.eq_nil_of_length_eq_zero (by omega : ((List.range ops.size).filter fun j => !listed.getD j true).length = 0)] at this
        cases this
    | succ fuel ih =>
      intro listed a w1 I hc
      by_cases hall : ∀ j, j < n → listed.getD j false = true
      · exact full (fuel + 1) listed a w1 I hc hall
      have hex : ∃ j, j < n ∧ listed.getD j false = false := by
        apply Classical.byContradiction
        intro hne
        refine hall fun j hj => ?_
        cases hl : listed.getD j false
        · exact absurd ⟨j, hj, hl⟩ hne
        · rfl
      refine ⟨fun hr => ?_, fun i hi => ?_⟩
      · exfalso
        refine hall fun j => ?_
        induction j using Nat.strongRecOn with
        | _ j ihj =>
          intro hj
          by_cases hl : listed.getD j false = true
          · exact hl
          · exfalso
            have ho := Array.getElem?_eq_getElem (xs := ops) (i := j) (by omega)
            have hmem : j ∈ Region.ready .any ops listed := by
              rw [mem_ready]
              refine ⟨?_, _, ho, fun e he hb => ?_⟩
              · have hjl : j < listed.size := by rw [I.lsize]; omega
                simp [hjl] at hl ⊢
                exact hl
              · have hlt := (ok_at hok ho).2.2.2 e he hb
                exact ihj e.on hlt (by omega)
            rw [hr] at hmem
            cases hmem
      obtain ⟨h0, o, ho, hafter⟩ := mem_ready.1 hi
      obtain ⟨k1, k2, k3, k4⟩ := ok_at hok ho
      have hilt := (Array.getElem?_eq_some_iff.1 ho).1
      -- what it waits for has come up
      have come : ∀ k, waits o k = true → listed.getD k false = true := fun k hk => by
        obtain ⟨e, he, rfl, hb⟩ := waits_spec hk
        exact hafter e he hb
      have hin : i < n := by
        apply Classical.byContradiction
        intro hge
        obtain ⟨j, hj, hjl⟩ := hex
        have := come j (tail_at ht ho (by omega) (by omega))
        rw [hjl] at this; cases this
      have hdeps : deps ops a0 T a.eval w1 o.op.operands.toList := deps_of fun x hx => by
        cases x with
        | tmp t =>
          cases hown : owner ops t with
          | none => simp only [dep, hown]; exact I.out t (fun i hi => by rw [hown] at hi; cases hi)
          | some k =>
            obtain ⟨ok', hok', hd⟩ := owner_spec hown
            have := I.all k ok' hok' (hback i k t o hin ho hx hown) (come k (k2 t k hx hown))
            simp only [slot, hd] at this
            simp only [dep, hown]
            exact this
        | const c => rfl
        | global g => rfl
        | func f => rfl
      have hnc : i = c → listed.getD c false = false := fun e => by
        subst e
        have his : i < listed.size := by rw [I.lsize]; exact hilt
        simp [his] at h0 ⊢
        exact h0
      have hstep' := hstep i o hin ho a.eval w1 _ I.ph hnc hdeps
      have hcount : ((List.range ops.size).filter fun j => !(listed.setIfInBounds i true).getD j true).length ≤ fuel := by
        have := filter_lt (l := List.range ops.size) (p := fun j => !listed.getD j true) (q := fun j => !(listed.setIfInBounds i true).getD j true)
          (fun x hx => by
            by_cases hxi : i = x
            · subst hxi; simp only [h0]; rfl
            · rw [getD_set_ne true hxi] at hx; exact hx) (List.mem_range.2 hilt) (by simp only [h0]; rfl)
          (by have : i < listed.size := by rw [I.lsize]; exact hilt
              simp [this])
        omega
      have hnext : ∀ v w', (if i = c then turn w1 w' ∧ Ph true w' else Below w1.heap.size w1 w') → T i (left o v) w' → InvC ops n c a0 Ph T (listed.setIfInBounds i true) (a.put o.dst v) w' := fun v w' hr ht' => by
        refine ⟨?_, ?_, ?_, by simpa using I.lsize, fun j oj hoj hjn hlj => ?_, fun j hj => by rw [getD_set_ne false (by omega)]; exact I.late j hj, fun t hn' => ?_⟩
        · by_cases hic : i = c
          · subst hic
            rw [if_pos rfl] at hr
            have : i < listed.size := by rw [I.lsize]; exact hilt
            simp [this]
            exact hr.2
          · rw [if_neg hic] at hr
            rw [getD_set_ne false hic]
            exact hph _ _ _ I.ph hr
        · cases hd : o.dst <;> simp [Act.put, I.defers]
        · cases hd : o.dst <;> simp [Act.put, I.size]
        · by_cases hij : i = j
          · subst hij
            obtain rfl : o = oj := Option.some.inj (ho.symm.trans hoj)
            cases hd : o.dst with
            | none => simpa [slot, left, hd] using ht'
            | some d =>
              have hdlt := (k1 d hd).1
              have e : slot o (a.put (some d) v) = v := by
                simp [slot, hd, Act.put, I.size, hdlt]
              rw [e]
              simpa [left, hd] using ht'
          · rw [getD_set_ne false hij] at hlj
            have hold := I.all j oj hoj hjn hlj
            have hold' : T j (slot oj a) w' := by
              by_cases hic : i = c
              · rw [if_pos hic] at hr; exact stabT _ _ _ _ hold hr.1
              · rw [if_neg hic] at hr; exact stab _ _ _ _ hold hr
            have e : slot oj (a.put o.dst v) = slot oj a := by
              cases hd : o.dst with
              | none => rfl
              | some d =>
                unfold slot
                cases hdj : oj.dst with
                | none => rfl
                | some dj =>
                  have hne : d ≠ dj := fun e => by
                    subst e
                    have h1 := (k1 d hd).2
                    have h2 := ((ok_at hok hoj).1 d hdj).2
                    rw [h1] at h2
                    exact hij (Option.some.inj h2)
                  simp [Act.put, Array.getElem?_setIfInBounds_ne hne]
            rw [e]; exact hold'
        · rw [← I.out t hn']
          cases hd : o.dst with
          | none => rfl
          | some d =>
            have hne : d ≠ t := fun e => by
              subst e
              have := hn' i (k1 d hd).2
              omega
            simp [Act.put, Array.getElem?_setIfInBounds_ne hne]
      have hg := hguard i o hin ho
      -- is it wanted?
      have hw : Region.wanted o (yielded ops a.tmps) = want i := by
        unfold Region.wanted
        cases hgd : o.guard with
        | none => rw [hgd] at hg; simp only at hg; rw [hg]
        | some gb =>
          obtain ⟨g, b⟩ := gb
          rw [hgd] at hg
          simp only at hg
          obtain ⟨hwg, d, hd⟩ := k3 g b hgd
          obtain ⟨og, hog, hdg⟩ := Option.bind_eq_some_iff.1 hd
          have hT := I.all g og hog hg.1 (come g hwg)
          have hv := hg.2 _ _ hT
          have hdlt : d < a.tmps.size := by rw [I.size]; exact ((ok_at hok hog).1 d hdg).1
          have hs : slot og a = a.tmps[d] := by simp [slot, hdg, hdlt]
          have hy : yielded ops a.tmps g = match a.tmps[d] with | .bool b => some b | _ => none := by
            unfold yielded
            rw [hd]
            simp [hdlt]
            cases a.tmps[d] <;> rfl
          rw [hs] at hv
          simp only [hy]
          cases hwi : want i with
          | true => rw [hwi] at hv; simp only [if_true] at hv; rw [hv]; simp
          | false =>
            rw [hwi] at hv
            simp only [Bool.false_eq_true, if_false] at hv
            cases hx : a.tmps[d] <;> first | rfl | skip
            rename_i bb
            rw [hx] at hv
            have : bb ≠ b := fun e => hv (by rw [e])
            simp [this]
      unfold wpOp
      rw [ho]
      simp only [hw]
      cases hwi : want i with
      | true =>
        rw [hwi] at hstep'
        simp only [if_true] at hstep' ⊢
        exact .inl (wp_of_gives hstep' fun v w' ⟨hr, ht'⟩ => ih _ _ _ (hnext v w' hr ht') hcount)
      | false =>
        rw [hwi] at hstep'
        simp only [Bool.false_eq_true, if_false] at hstep' ⊢
        refine ih _ _ _ (hnext undef w1 (by rw [if_neg hstep'.1]; exact Below.refl _ _) ?_) hcount
        cases hd : o.dst <;> simpa [left, hd] using hstep'.2
  refine wp_region_any hm (main ops.size (Array.replicate ops.size false) a0 w.drew ⟨?_, rfl, rfl, by simp, fun j o ho _ hl => ?_, fun j _ => ?_, fun t _ => rfl⟩ ?_)
  · have e : (Array.replicate ops.size false).getD c false = false := by
      by_cases hc : c < ops.size <;> simp [hc]
    rw [e]; exact hph0
  · have hj := (Array.getElem?_eq_some_iff.1 ho).1
    simp [hj] at hl
  · by_cases hc : j < ops.size <;> simp [hc]
  · exact Nat.le_trans (List.length_filter_le _ _) (by simp)
end Og
end Go.Proofs.Ytnfpcklpmfemiaa
