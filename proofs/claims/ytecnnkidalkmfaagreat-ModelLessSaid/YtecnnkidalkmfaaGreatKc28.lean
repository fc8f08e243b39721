import Derived.Test.YtecnnkidalkmfaaGreatKc27
import Derived.Test.YtecnnkidalkmfaaGreatKc23
import Derived.RangeFuncBox
import Derived.Deep.AppendLies
set_option linter.unusedVariables false
set_option linter.unusedSimpArgs false

section
namespace Go.Proofs.YtecnnkidalkmfaaGreat
open Go.RowKit
namespace Ev
theorem nodup_le {α : Type} [DecidableEq α] : ∀ {a b : List α}, a.Nodup → (∀ x ∈ a, x ∈ b) → a.length ≤ b.length
  | [], b, _, _ => Nat.zero_le _
  | x :: r, b, h, hs => by
    have hn := List.nodup_cons.1 h
    have hx : x ∈ b := hs x List.mem_cons_self
    have h1 : r.length ≤ (b.erase x).length := nodup_le hn.2 fun y hy => by
      have hyx : y ≠ x := fun e => hn.1 (e ▸ hy)
      exact (List.mem_erase_of_ne hyx).2 (hs y (List.mem_cons_of_mem _ hy))
    have h2 := List.length_erase_of_mem hx
    have h3 := List.length_pos_of_mem hx
    simp only [List.length_cons]; omega
theorem back_of_len {α : Type} [DecidableEq α] {a b : List α} (ha : a.Nodup) (hl : b.length ≤ a.length) (hs : ∀ x ∈ a, x ∈ b) : ∀ y ∈ b, y ∈ a := fun y hy => by
  apply Classical.byContradiction
  intro hn
  have := nodup_le (a := a) (b := b.erase y) ha (fun x hx => (List.mem_erase_of_ne (by rintro rfl; exact hn hx)).2 (hs x hx))
  have h2 := List.length_erase_of_mem hy
  have h3 := List.length_pos_of_mem hy
  omega
theorem up_nodup {l : List Int} (h : l.Pairwise (· < ·)) : l.Nodup := h.imp (fun {a b} hab => by omega)
theorem up_ext : ∀ {a b : List Int}, a.Pairwise (· < ·) → b.Pairwise (· < ·) → (∀ y, y ∈ a ↔ y ∈ b) → a = b
  | [], [], _, _, _ => rfl
  | [], y :: s, _, _, h => absurd ((h y).2 List.mem_cons_self) (by simp)
  | x :: r, [], _, _, h => absurd ((h x).1 List.mem_cons_self) (by simp)
  | x :: r, y :: s, ha, hb, h => by
    have ha' := List.pairwise_cons.1 ha
    have hb' := List.pairwise_cons.1 hb
    have hxy : x = y := by
      have h1 := (h x).1 List.mem_cons_self
      have h2 := (h y).2 List.mem_cons_self
      rcases List.mem_cons.1 h1 with e | h1
      · exact e
      rcases List.mem_cons.1 h2 with e | h2
      · exact e.symm
      have := ha'.1 y h2; have := hb'.1 x h1; omega
    subst hxy
    congr 1
    refine up_ext ha'.2 hb'.2 fun z => ?_
    have hz := h z
    simp only [List.mem_cons] at hz
    constructor
    · intro hr
      rcases hz.1 (.inr hr) with e | e
      · have := ha'.1 z hr; omega
      · exact e
    · intro hs
      rcases hz.2 (.inr hs) with e | e
      · have := hb'.1 z hs; omega
      · exact e
theorem mem_nth {xs : List R} {e : R} : e ∈ xs ↔ ∃ i : Nat, i < xs.length ∧ nth xs i = e := by
  constructor
  · intro h
    obtain ⟨i, hi⟩ := List.mem_iff_getElem?.1 h
    exact ⟨i, (List.getElem?_eq_some_iff.1 hi).1, nth_some hi⟩
  · rintro ⟨i, hi, rfl⟩
    rw [nth_get hi]; exact List.getElem_mem hi
theorem Addrs.le {xs : List R} {l : List Int} (h : Addrs xs l) : l.length ≤ xs.length := by
  have := nodup_le (a := l) (b := xs.map R.a) (up_nodup h.up) fun y hy => by
    obtain ⟨e, he, _, ha⟩ := (h.mem y).1 hy
    exact List.mem_map.2 ⟨e, he, ha⟩
  simpa using this
theorem getD_get {l : List Int} {i : Nat} (h : i < l.length) : l.getD i 0 = l[i] := by simp [h]
theorem up_lt {l : List Int} (h : l.Pairwise (· < ·)) {i j : Nat} (hij : i < j) (hj : j < l.length) : l.getD i 0 < l.getD j 0 := by
  rw [getD_get (by omega), getD_get hj]
  exact List.pairwise_iff_getElem.1 h i j (by omega) hj hij
theorem bare_kind {x : R} (h : bare x = true) : 1 ≤ x.k ∧ x.k ≤ 5 := by
  unfold bare at h
  simp only [Bool.and_eq_true, decide_eq_true_eq] at h
  exact h.1.1.1
theorem bare_five {x : R} (h : bare x = true) (h5 : x.k = 5) : x.h = -1 := by
  unfold bare bareK at h
  simp [h5] at h
  exact h.2.2.2
theorem evs_of_r {xs : List R} {l : List Int} (ha : Addrs xs l) (h : ∀ i, i < xs.length → rAt xs l i = true) : evsOk xs = true := by
  have hle := ha.le
  have get : ∀ i, i < xs.length → bare (nth xs i) = true ∧ (nth xs i).a % 4 = 0 ∧ depsOk xs i = true ∧ (((nth xs i).k = 5) ↔ i < l.length) ∧ ((nth xs i).k = 5 → (nth xs i).a = l.getD i 0) ∧ ((nth xs i).k ≠ 5 → 0 ≤ (nth xs i).h ∧ (nth xs i).h ≤ 3 ∧ (l.length < i → (nth xs ((i : Int) - 1)).h ≤ (nth xs i).h)) := fun i hi => by
    have hr := h i hi
    unfold rAt at hr
    simp only [Bool.and_eq_true, Bool.or_eq_true, beq_iff_eq, Bool.not_eq_true', beq_eq_false_iff_ne, decide_eq_true_eq, decide_eq_false_iff_not] at hr
    obtain ⟨⟨⟨⟨⟨r1, r2⟩, r3⟩, r4⟩, r5⟩, r6⟩ := hr
    refine ⟨r1, r2, r3, ?_, ?_, ?_⟩
    · constructor
      · intro e; rw [show ((nth xs i).k == 5) = true by simpa using e] at r4; simpa using r4.symm
      · intro e; rw [show decide (i < l.length) = true by simpa using e] at r4; simpa using r4
    · intro e; exact r5.resolve_left (fun n => n e)
    · intro e
      obtain ⟨⟨a, b⟩, c⟩ := r6.resolve_left e
      refine ⟨a, b, fun hl => ?_⟩
      have := c.resolve_left (fun n => n hl)
      omega
  unfold evsOk
  rw [Bool.and_eq_true, List.all_eq_true]
  refine ⟨fun i hi => ?_, begun_true fun i hi => ?_⟩
  · have hi := List.mem_range.1 hi
    obtain ⟨b1, b2, b3, b4, b5, b6⟩ := get i hi
    unfold evAt
    rw [Bool.and_eq_true, Bool.and_eq_true, Bool.or_eq_true]
    refine ⟨⟨?_, b3⟩, ?_⟩
    · rw [parts_bare, b1, Bool.true_and, Bool.and_eq_true]
      refine ⟨?_, by simpa using b2⟩
      by_cases h5 : (nth xs i).k = 5
      · simp [h5]
      · have := b6 h5
        have : inB (nth xs i).h 4 = true := by unfold inB; simp; omega
        rw [this]; simp
    · by_cases h0 : i = 0
      · subst h0; exact .inl rfl
      · right
        obtain ⟨p, rfl⟩ : ∃ p, i = p + 1 := ⟨i - 1, by omega⟩
        have e : ((p + 1 : Nat) : Int) - 1 = (p : Int) := by omega
        rw [e] at b6 ⊢
        obtain ⟨c1, c2, c3, c4, c5, c6⟩ := get p (by omega)
        unfold follow
        by_cases h5 : (nth xs (p + 1 : Nat)).k = 5
        · have hl := b4.1 h5
          have hp5 := c4.2 (by omega)
          rw [if_pos ⟨h5, hp5⟩, b5 h5, c5 hp5]
          exact decide_eq_true (up_lt ha.up (Nat.lt_succ_self p) hl)
        · rw [if_neg (fun e => h5 e.1)]
          apply decide_eq_true
          have hh := b6 h5
          by_cases hp5 : (nth xs p).k = 5
          · rw [bare_five c1 hp5]; omega
          · have : ¬ p < l.length := fun hlt => hp5 (c4.2 hlt)
            exact hh.2.2 (by omega)
  · obtain ⟨b1, b2, b3, b4, b5, b6⟩ := get i hi
    unfold begunAt
    cases hk : acc (nth xs i).k
    · rfl
    · have hk' : (nth xs i).k = 1 ∨ (nth xs i).k = 2 ∨ (nth xs i).k = 3 := by
        unfold acc at hk; simp at hk; omega
      have hm := (ha.mem (nth xs i).a).2 ⟨_, mem_nth.2 ⟨i, hi, rfl⟩, by omega, rfl⟩
      obtain ⟨j, hj⟩ := List.mem_iff_getElem?.1 hm
      have hjl := (List.getElem?_eq_some_iff.1 hj).1
      have hij : j < i := by
        have : ¬ i < l.length := fun hlt => by have := b4.2 hlt; omega
        omega
      obtain ⟨c1, c2, c3, c4, c5, c6⟩ := get j (by omega)
      have hj5 := c4.2 hjl
      have hja := c5 hj5
      rw [Bool.not_true, Bool.false_or, List.any_eq_true]
      refine ⟨nth xs j, ?_, ?_⟩
      · rw [nth_get (by omega)]
        exact List.mem_take_iff_getElem.2 ⟨j, by omega, rfl⟩
      · unfold isBeg
        rw [hja, List.getD_eq_getElem?_getD, hj]; simp [hj5]
theorem mem_take_lt {xs : List R} {n : Nat} {e : R} (h : e ∈ xs.take n) : ∃ i : Nat, i < n ∧ i < xs.length ∧ nth xs i = e := by
  obtain ⟨i, hi, he⟩ := List.mem_take_iff_getElem.1 h
  exact ⟨i, by omega, by omega, by rw [nth_get (by omega)]; exact he⟩
theorem r_of_evs {xs : List R} {l : List Int} (ha : Addrs xs l) (h : evsOk xs = true) : (∀ i, i < xs.length → rAt xs l i = true) ∧ l.length = beg xs ∧ ∀ i, i < l.length → (nth xs i).k = 5 ∧ (nth xs i).a = l.getD i 0 := by
  have hev := evs_all h
  have hbg : ∀ i, i < xs.length → begunAt xs i = true := by
    unfold evsOk begun at h
    rw [Bool.and_eq_true, List.all_eq_true (p := begunAt xs)] at h
    exact fun i hi => h.2 i (List.mem_range.2 hi)
  have hpre := beg_pre hev
  have hB := beg_le xs
  have hat : ∀ i, i < xs.length → partsOk (nth xs i) = true ∧ depsOk xs i = true ∧ (i = 0 ∨ follow (nth xs ((i : Int) - 1)) (nth xs i) = true) := fun i hi => by
    have := hev i hi
    unfold evAt at this
    simp only [Bool.and_eq_true, Bool.or_eq_true, beq_iff_eq] at this
    exact ⟨this.1.1, this.1.2, this.2⟩
  have hbare : ∀ i, i < xs.length → bare (nth xs i) = true ∧ ((nth xs i).k = 5 ∨ inB (nth xs i).h 4 = true) ∧ (nth xs i).a % 4 = 0 := fun i hi => by
    have := (hat i hi).1
    rw [parts_bare] at this
    simpa [and_assoc] using this
  have h5 : ∀ i, i < beg xs → (nth xs i).k = 5 := fun i hi => by
    obtain ⟨x, hx, hk⟩ := hpre i hi
    rw [nth_some hx]; exact hk
  have hn5 : ∀ i, i < xs.length → beg xs ≤ i → (nth xs i).k ≠ 5 := fun i hi hb e => by
    have hall := five_back hev i hi e
    have h1 : beg (xs.take (i + 1)) = i + 1 := by
      unfold beg
      rw [List.filter_eq_self.2, List.length_take]
      · omega
      · intro y hy
        obtain ⟨j, hj, hjl, rfl⟩ := mem_take_lt hy
        simpa using hall j (by omega)
    have h2 : beg (xs.take (i + 1)) ≤ beg xs := by
      unfold beg
      exact (List.Sublist.filter _ (List.take_sublist _ _)).length_le
    omega
  have hup : ((xs.take (beg xs)).map R.a).Pairwise (· < ·) := by
    have step : ∀ i, i + 1 < beg xs → (nth xs i).a < (nth xs (i + 1 : Nat)).a := fun i hi => by
      have hf := (hat (i + 1) (by omega)).2.2.resolve_left (by omega)
      rw [show ((i + 1 : Nat) : Int) - 1 = (i : Int) by omega] at hf
      unfold follow at hf
      rw [if_pos ⟨h5 _ hi, h5 _ (by omega)⟩] at hf
      exact of_decide_eq_true hf
    have far : ∀ d i, i + d + 1 < beg xs → (nth xs i).a < (nth xs (i + d + 1 : Nat)).a := by
      intro d
      induction d with
      | zero => exact fun i hi => step i hi
      | succ d ih => exact fun i hi => Int.lt_trans (ih i (by omega)) (step (i + d + 1) hi)
    rw [List.pairwise_iff_getElem]
    intro i j hi hj hij
    simp only [List.length_map, List.length_take] at hi hj
    simp only [List.getElem_map, List.getElem_take]
    have := far (j - i - 1) i (by omega)
    rw [show i + (j - i - 1) + 1 = j by omega, nth_get (by omega), nth_get (by omega)] at this
    exact this
  have hl : l = (xs.take (beg xs)).map R.a := up_ext ha.up hup fun y => by
    rw [ha.mem y, List.mem_map]
    constructor
    · rintro ⟨e, he, hk4, rfl⟩
      obtain ⟨i, hi, rfl⟩ := mem_nth.1 he
      by_cases hb : i < beg xs
      · exact ⟨nth xs i, by rw [nth_get hi]; exact List.mem_take_iff_getElem.2 ⟨i, by omega, rfl⟩, rfl⟩
      · have hk5 := hn5 i hi (by omega)
        have hkk := bare_kind (hbare i hi).1
        have hg := hbg i hi
        unfold begunAt at hg
        rw [show acc (nth xs i).k = true by unfold acc; simp; omega, Bool.not_true, Bool.false_or, List.any_eq_true] at hg
        obtain ⟨e, he, hq⟩ := hg
        obtain ⟨j, hj, hjl, rfl⟩ := mem_take_lt he
        unfold isBeg at hq
        simp only [Bool.and_eq_true, beq_iff_eq] at hq
        have hjb : j < beg xs := by
          apply Classical.byContradiction
          intro hn
          exact hn5 j hjl (by omega) hq.1
        exact ⟨nth xs j, by rw [nth_get hjl]; exact List.mem_take_iff_getElem.2 ⟨j, by omega, rfl⟩, hq.2⟩
    · rintro ⟨e, he, rfl⟩
      obtain ⟨i, hi, hil, rfl⟩ := mem_take_lt he
      exact ⟨_, mem_nth.2 ⟨i, hil, rfl⟩, by rw [h5 i hi]; decide, rfl⟩
  have hlen : l.length = beg xs := by rw [hl]; simp; omega
  have hla : ∀ i, i < l.length → (nth xs i).k = 5 ∧ (nth xs i).a = l.getD i 0 := fun i hi => by
    refine ⟨h5 i (by omega), ?_⟩
    rw [getD_get hi]
    simp only [hl, List.getElem_map, List.getElem_take]
    rw [nth_get (by omega)]
  refine ⟨fun i hi => ?_, hlen, hla⟩
  obtain ⟨b1, b2, b3⟩ := hbare i hi
  unfold rAt
  rw [b1, (hat i hi).2.1]
  by_cases hb : i < l.length
  · have ⟨k5, ka⟩ := hla i hb
    rw [k5, ka, decide_eq_true hb]
    rw [ka, List.getD_eq_getElem?_getD] at b3
    simp [b3]
  · have k5 := hn5 i hi (by omega)
    have k5' : ((nth xs i).k == 5) = false := by simpa using k5
    rw [k5', decide_eq_false hb]
    have hi4 := b2.resolve_left k5
    unfold inB at hi4
    simp at hi4
    have hf : l.length < i → ¬ (nth xs i).h < (nth xs ((i : Int) - 1)).h := fun hlt => by
      have hf := (hat i hi).2.2.resolve_left (by omega)
      unfold follow at hf
      rw [if_neg (fun e => k5 e.1)] at hf
      have := of_decide_eq_true hf
      omega
    have hf' : (!(decide (l.length < i)) || !(decide ((nth xs i).h < (nth xs ((i : Int) - 1)).h))) = true := by
      by_cases hlt : l.length < i
      · rw [decide_eq_false (hf hlt)]; simp
      · rw [decide_eq_false hlt]; simp
    rw [hf']
    simp [b3]; omega
end Ev
end Go.Proofs.YtecnnkidalkmfaaGreat
end

section
namespace Go.Proofs.YtecnnkidalkmfaaGreat
open Go.RowKit
attribute [local go_sem] or_store_func
attribute [local go_sem] Oper.semAt_some
theorem Md.wpListIn_load_row {F : Fence} {n : Nat} {P : Program} {ops : Array Oper} {rest : List Oper} {o : Oper} {a : Act} {w : World} {Q : Exit → Act → World → Prop} (hgd : o.guard = none) (ty : TypeId) (x : Operand) (ho : o.op = .load ty x)
    (g : Nat) (hx : a.eval x = .pointer (some ⟨g, 0, none⟩)) (t : TypeId) (cs : Array Value) (fr : Nat × Nat) (d : TypeDesc) (hg : w.heap[g]? = some (.cells cs t fr))
    (hu : P.underlying ty = some d) (hd : (match d with | .struct _ | .array _ _ => true | _ => false) = true) (hi : (P.info? ty).map (·.size) = some cs.size)
    (h : wpListIn F n P ops Q rest (a.put o.dst (.agg cs)) w) : wpListIn F n P ops Q (o :: rest) a w := by
  refine wpListIn_plain hgd fun K' hK' => ?_
  unfold Oper.wpIn
  refine ⟨by simp [Oper.about, ho], ?_⟩
  rw [Oper.semAt_plain F _ _ (by rw [ho]; intro c hc'; cases hc')]
  unfold execOp
  simp only [ho, hx, Instr.loadAt, Instr.sureAddr, Sem.run_bind, Sem.run_pure, Result.andThen_ok, run_loadVar_row w g t ty cs fr d hg hu hd hi]
  exact hK' _ _ h
theorem Or.Acc.grown {w : World} {B : Nat} {T E : TypeId} {sz k : Nat} {xs : List Value} {W W' : World} (h : Or.Acc w B T E sz k xs W) {r : Nat} {o : Obj} (hr : w.heap.size ≤ r) (ho : W.heap[r]? = some o) (hc : o.isCells = false) (hg : W.grownBy W' (some r)) : Or.Acc w B T E sz k xs W' := by
  obtain ⟨v, h1, h2⟩ := h.out
  refine ⟨h.bel.grown hg h.bel.size (fun j hj => by cases hj; exact hr), v, (hg.block B h1.lt (fun e => ?_)).trans h1, h2.kept hg ?_⟩
  · cases e; rw [show W.heap[B]? = _ from h1] at ho; cases ho; cases hc
  · rcases h2.2 with ⟨rfl, _⟩ | ⟨g, cap, cur, rfl, _, hh, _⟩
    · exact .inl rfl
    · refine .inr fun e => ?_
      have : g = r := by simpa [Value.ownBlock] using e
      subst this; rw [hh] at ho; cases ho; cases hc
set_option maxRecDepth 100000 in
set_option maxHeartbeats 8000000 in
theorem pappendSeq_any (G : FuncId) (caps : Array Value) (R : World → Prop) (S : List (Nat × Nat)) (hS : S.length ≤ 65536) (w : World) (hE : ∀ args w, (callFunc G args).run Tryz.prog w = .ok (.enter G args) w) (hR : ∀ (ss : List (Nat × Nat)) (W : World), Below w.heap.size w W → R W)
    (hit : Og.IterS Fence.wide 4 Tryz.prog G caps R (fun p : Nat × Nat => #[Md.pkV p]) (Md.kst S) [] (Md.kfin S)) :
    Calls Tryz.prog 113 #[.slice none 0 0, .func (.func G) #[] caps] w fun r w' => ∃ v ss, r = .returned v ∧ Md.kfin S ss ∧ w'.ownsRow w.heap.size 72 2 v ss.length (ss.flatMap Ev.pv) ∧ Below w.heap.size w w' := by
  obtain ⟨W0, hW0⟩ : ∃ W0, w.alloc (.cells #[.slice none 0 0] 37) = W0 := ⟨_, rfl⟩
  have hsz : W0.heap.size = w.heap.size + 1 := by rw [← hW0]; simp
  have hA : Or.Acc w w.heap.size 37 72 2 0 [] W0 := by
    rw [← hW0]; exact ⟨(Below.refl _ w).alloc (Nat.le_refl _) _, _, Boxed.new w _ _, World.ownsRow_nil _ _ _ _⟩
  have HA := Lib.hid hA; have HSZ := Lib.hid hsz; have HW0 := Lib.hid hW0; have HR := Lib.hid hR
  have HIT := Lib.hid hit; have HE := Lib.hid hE
  obtain ⟨i0, hi, hz0, hz1, hz2⟩ := info_pair
  have HI := Lib.hid hi; have HZ0 := Lib.hid hz0; have HZ1 := Lib.hid hz1; have HZ2 := Lib.hid hz2
  clear hA hsz hW0 hit hR hE hi hz0 hz1 hz2
  refine (callsIn_wide (n := 5)).1 ?_
  refine callsIn_of_wp_marks Tryz.func113 rfl trivial ?_ rfl
  simp only [Tryz.ntmps113, List.size_toArray, List.length_cons, List.length_nil, Nat.reduceAdd, Nat.reduceSub, Array.replicate_succ, Array.replicate_zero, List.push_toArray, List.append_toArray, List.nil_append, List.cons_append]
  refine wpIn_wide.2 ?_
  go_wp2_with fail
  rw [HW0.out]
  clear HW0
  refine (wpIn_wide (n := 5)).1 ?_
  refine Og.wpIn_rangeFunc_sts (α := Nat × Nat) (σ := List (Nat × Nat)) rfl (by decide) (gf := G) (lb := caps) rfl trivial HE.out
    HIT.out (fun _ => rfl)
    (fun ss W => Or.Acc w w.heap.size 37 72 2 ss.length (ss.flatMap Ev.pv) W) (fun c W => False)
    (fun k A A' h hb => h.kp hb) (fun k A l o o' h hl ho hc => h.putObj o' (by have := HSZ.out; omega) ho hc)
    (fun k A A' r o h hr ho hc hg => h.grown (by have := HSZ.out; omega) ho hc hg) (fun c A A' r o h _ _ _ _ => h) (fun c A l o o' h hl ho hc => h)
    (fun k A h => HR.out k A h.bel) HA.out
    (fun p U => { tmps := #[.slice none 0 0, .func (.func G) #[] caps, .pointer (some ⟨w.heap.size, 0, none⟩), undef, .slice none 0 0, .pointer (some ⟨U.heap.size, 0, none⟩), .func (.func G) #[] caps, Md.pkV p, undef, undef, undef, undef, undef], defers := [] })
    (fun p U => U.alloc (.cells #[.int .i64 (p.1 : Int), .int .i64 (p.2 : Int)] 72)) (fun p U => (Below.refl _ _).alloc (Nat.le_refl _) _) ?assign ?body ?done ?stop
  case assign =>
    rintro l m W K hK
    have HK := Lib.hid hK; clear hK
    unfold Md.pkV
    gi_wp2_with fail
    exact HK.out
  case body =>
    rintro l ss ss2 p U W hs hAU hA hcl hsz
    obtain ⟨hp, hn, hnd, hsub, rfl⟩ := hs
    have hlen : ss.length ≤ 65536 := Nat.le_trans (Ev.nodup_le hnd hsub) hS
    have RWP := Lib.hid (hcl U.heap.size _ (heap_alloc_new _ _) rfl)
    obtain ⟨ad, cc, hv, hr⟩ := hA.form
    have c2 := hv.cell
    have HV := Lib.hid hv; have HRR := Lib.hid hr; have HB := Lib.hid hA.bel
    clear hA hAU hv hr hp hn hnd hsub hcl hsz
    unfold Md.pkV
    gi_wp2_with (first
      | ((with_reducible show wpListIn _ _ _ _ _ (Oper.mk (some 9) _ _ _ _ _ :: _) _ _); refine Md.wpListIn_load_row rfl 72 (.tmp 5) rfl U.heap.size (by kernel_rfl) 72 #[.int .i64 (p.1 : Int), .int .i64 (p.2 : Int)] (0, 0) _ RWP.out Tryz.underlying72 rfl (by kernel_rfl) ?_)
      | ((with_reducible show wpListIn _ _ _ _ _ (Oper.mk (some 11) _ _ _ _ _ :: _) _ _); refine wpListIn_append_own (W.alloc (.cells #[.int .i64 (p.1 : Int), .int .i64 (p.2 : Int)] 72)) rfl (.tmp 8) (.tmp 10) 37 rfl w.heap.size 72 i0 (.agg #[.int .i64 0, .int .i64 0]) 2 16 Tryz.underlying37 HI.out HZ0.out HZ1.out HZ2.out rfl (by decide) _ _ _ rfl (HRR.out.alloc _) ⟨W.heap.size, 0, none⟩ 1 1 (Ev.pv p) rfl rfl (fun j u hu => World.news_of_block (heap_alloc_new W _) j u hu) (Ev.pv_one _) (by unfold maxLen; omega) (by omega) (by have := HB.out.size; simp only [World.size_alloc]; omega) ?_
         intro v' w3 hown hgrow _
         obtain ⟨gb, cp', rfl⟩ := Or.row_succ hown
         obtain ⟨f1, f2, f3, f4, f5⟩ := Boxed.appended HV.out (by decide) HRR.out HB.out.size (Nat.le_refl _) hown hgrow
         have hf1 := f1.cell; have hf2 := f1.frozen
         have F4 := Lib.hid f4; have F5 := Lib.hid (HB.out.trans f5)
         have FA := Lib.hid (And.intro f2 f3)
         clear f1 f2 f3 f4 f5 hown hgrow c2))
    refine ⟨F4.out, F5.out, _, FA.out.1, ?_⟩
    have h := FA.out.2
    rw [List.length_append, List.flatMap_append]
    simpa using h
  case done =>
    rintro D ss W hD hf hA hK
    obtain ⟨ad, cc, hv, hr⟩ := hA.form
    have c2 := hv.cell
    have HRR := Lib.hid hr; have HB := Lib.hid hA.bel; have HK := Lib.hid hK; have HDD := Lib.hid hD; have HAA := Lib.hid hA; have HF := Lib.hid hf
    clear hv hr hA hK hD hf
    go_wp2_with fail
    refine ⟨by simp, .inl ⟨_, _, rfl, run_takeDeferred HK.out, ?_⟩⟩
    refine ⟨_, results_tmp (fn := Tryz.f113) rfl _ _ _, ⟨_, ss, rfl, HF.out, ?_, Or.below_putObj HB.out (by have := HDD.out; have := HSZ.out; omega)⟩⟩
    have hr := HRR.out
    have hk : ∀ (j : Nat) (x : Obj), W.heap[j]? = some x → x.isCells = true → (W.putObj D (.deferred none)).heap[j]? = some x := fun j x hx hxc => (World.putObj_heap_other (fun e => by subst e; rw [HK.out] at hx; cases hx; cases hxc)).trans hx
    exact ⟨hr.1, hr.2.imp id fun ⟨g, cap, cur, e1, e2, e3, r⟩ => ⟨g, cap, cur, e1, e2, hk g _ e3 rfl, r⟩⟩
  case stop =>
    rintro D c W hD h hK
    exact h.elim
end Go.Proofs.YtecnnkidalkmfaaGreat
end
