import Derived.Test.YtecnnkidalkmfaaGreatKb25
set_option linter.unusedVariables false
set_option linter.unusedSimpArgs false

section
namespace Go.Proofs.YtecnnkidalkmfaaGreat
open Go.RowKit
namespace Ev
theorem cut_row {bond : Nat → Nat → Int} {is : Nat → Nat → Bool} {a : Nat} : ∀ {n s : Nat}, (∀ b, b < s + n → (bond a b = 1 ↔ is a b = true)) → (∀ b, b < s + n → bond a b = 2 → ∀ c, b ≤ c → c < s + n → is a c = false) →
    cutL bond a (List.range' s n) = rowL is a (List.range' s n)
  | 0, s, _, _ => rfl
  | n + 1, s, h1, h2 => by
    have ih := cut_row (bond := bond) (is := is) (a := a) (n := n) (s := s + 1) (fun b hb => h1 b (by omega)) (fun b hb h c hc hc2 => h2 b (by omega) h c hc (by omega))
    have e : rowL is a (List.range' s (n + 1)) = (if is a s then [(a, s)] else []) ++ rowL is a (List.range' (s + 1) n) := by
      unfold rowL
      rw [List.range'_succ, List.filter_cons]
      cases h : is a s <;> simp
    rw [e, List.range'_succ]
    unfold cutL
    by_cases hb2 : bond a s = 2
    · rw [if_pos hb2]
      have hall : ∀ c ∈ s :: List.range' (s + 1) n, is a c = false := fun c hc => by
        rw [List.mem_cons, List.mem_range'_1] at hc
        rcases hc with rfl | hc
        · exact h2 c (by omega) hb2 c (Nat.le_refl _) (by omega)
        · exact h2 s (by omega) hb2 c (by omega) (by omega)
      rw [hall s List.mem_cons_self]
      have : rowL is a (List.range' (s + 1) n) = [] := by
        unfold rowL
        rw [List.filter_eq_nil_iff.2 (fun c hc => by rw [hall c (List.mem_cons_of_mem _ hc)]; simp)]
        rfl
      rw [this]; simp
    · rw [if_neg hb2]
      by_cases hb1 : bond a s = 1
      · rw [if_pos hb1, (h1 s (by omega)).1 hb1, ih]; simp
      · rw [if_neg hb1, ih]
        have : is a s = false := by
          cases h : is a s
          · rfl
          · exact absurd ((h1 s (by omega)).2 h) hb1
        rw [this]; simp
theorem told_pl {bond : Nat → Nat → Int} {is : Nat → Nat → Bool} {n : Nat} (h1 : ∀ a b, a < n → b < n → (bond a b = 1 ↔ is a b = true)) (h2 : ∀ a b, a < n → b < n → bond a b = 2 → ∀ c, b ≤ c → c < n → is a c = false) :
    told bond n n = pl is n n := by
  unfold told pl
  have : ∀ l : List Nat, (∀ a ∈ l, a < n) → (l.flatMap fun i => cutL bond i (List.range n)) = l.flatMap fun i => rowL is i (List.range n) := by
    intro l
    induction l with
    | nil => intro _; rfl
    | cons a l ih =>
      intro hl
      have ha := hl a List.mem_cons_self
      rw [List.flatMap_cons, List.flatMap_cons, ih (fun b hb => hl b (List.mem_cons_of_mem _ hb))]
      congr 1
      rw [List.range_eq_range']
      exact cut_row (fun b hb => h1 a b ha (by omega)) (fun b hb h c hc hc2 => h2 a b ha (by omega) h c hc (by omega))
  exact this _ (fun a ha => List.mem_range.1 ha)
theorem ev_all {x : X} (h : check x = 0) : evsOk x.ev = true := by
  unfold check at h
  split at h
  · cases h
  split at h
  · cases h
  · rename_i h2; simpa using h2
theorem at_parts {xs : List R} (h : evsOk xs = true) {i : Nat} (hi : i < xs.length) : partsOk (nth xs i) = true ∧ (i = 0 ∨ follow (nth xs ((i : Int) - 1)) (nth xs i) = true) := by
  have := evs_all h i hi
  unfold evAt at this
  simp only [Bool.and_eq_true, Bool.or_eq_true, beq_iff_eq] at this
  exact ⟨this.1.1, this.2⟩
theorem hart5 {xs : List R} (h : evsOk xs = true) {i : Nat} (hi : i < xs.length) : (nth xs i).k = 5 ↔ (nth xs i).h < 0 := by
  have hp := (at_parts h hi).1
  rw [parts_bare] at hp
  simp only [Bool.and_eq_true, Bool.or_eq_true, beq_iff_eq] at hp
  constructor
  · intro h5
    have := bare_five hp.1.1 h5
    omega
  · intro hh
    rcases hp.1.2 with h5 | hb
    · exact h5
    · unfold inB at hb; simp at hb; omega
theorem hart_up {xs : List R} (h : evsOk xs = true) : ∀ (d i : Nat), i + d < xs.length → (nth xs i).h ≤ (nth xs (i + d : Nat)).h := by
  intro d
  induction d with
  | zero => intro i _; exact Int.le_refl _
  | succ d ih =>
    intro i hi
    have h1 := ih i (by omega)
    have h2 := (at_parts h (show i + (d + 1) < xs.length from hi)).2.resolve_left (by omega)
    rw [show ((i + (d + 1) : Nat) : Int) - 1 = ((i + d : Nat) : Int) by omega] at h2
    have h3 : (nth xs (i + d : Nat)).h ≤ (nth xs (i + (d + 1) : Nat)).h := by
      unfold follow at h2
      split at h2
      · rename_i hk
        have a := (at_parts h (show i + d < xs.length by omega)).1
        have b := (at_parts h hi).1
        rw [parts_bare] at a b
        simp only [Bool.and_eq_true] at a b
        rw [bare_five a.1.1 hk.2, bare_five b.1.1 hk.1]
        exact Int.le_refl _
      · exact of_decide_eq_true h2
    exact Int.le_trans h1 h3
theorem po_eq {x : X} (hc : check x = 0) : told (bondPo x) x.ev.length x.ev.length = pl (isPo x) x.ev.length x.ev.length := by
  have he := ev_all hc
  have up : ∀ a b : Nat, a ≤ b → b < x.ev.length → (nth x.ev a).h ≤ (nth x.ev b).h := fun a b hab hb => by
    have := hart_up he (b - a) a (by omega)
    rwa [show a + (b - a) = b by omega] at this
  refine told_pl (fun a b ha hb => ?_) (fun a b ha hb h2 c hbc hcn => ?_)
  · have h5 := hart5 he ha
    unfold bondPo isPo bnd
    simp only [Bool.and_eq_true, decide_eq_true_eq, beq_iff_eq]
    by_cases h : (nth x.ev (a : Int)).k = 5 ∨ (nth x.ev (a : Int)).h < (nth x.ev (b : Int)).h
    · rw [if_pos h]
      constructor
      · intro hh; omega
      · rintro ⟨⟨h1, h2⟩, h3⟩
        rcases h with h | h
        · have := h5.1 h; omega
        · omega
    · rw [if_neg h]
      have hh : ¬ (nth x.ev (a : Int)).h < 0 := fun e => h (.inl (h5.2 e))
      have hh2 : ¬ (nth x.ev (a : Int)).h < (nth x.ev (b : Int)).h := fun e => h (.inr e)
      constructor
      · intro hq
        have hab : a < b := by
          apply Classical.byContradiction
          intro hn
          rw [if_neg (by simp; omega)] at hq
          omega
        have := up a b (by omega) hb
        exact ⟨⟨hab, by omega⟩, by omega⟩
      · rintro ⟨⟨h1, h2⟩, h3⟩
        rw [if_pos (by simp; omega)]
  · have h5 := hart5 he ha
    unfold bondPo bnd at h2
    unfold isPo
    by_cases h : (nth x.ev (a : Int)).k = 5 ∨ (nth x.ev (a : Int)).h < (nth x.ev (b : Int)).h
    · have := up b c hbc hcn
      rcases h with h | h
      · have := h5.1 h
        simp only [Bool.and_eq_false_iff, decide_eq_false_iff_not]
        left; right; omega
      · simp only [Bool.and_eq_false_iff, decide_eq_false_iff_not, beq_eq_false_iff_ne]
        right; omega
    · rw [if_neg h] at h2
      split at h2 <;> omega
theorem rf_eq {x : X} (hc : check x = 0) : told (bondRf x) x.ev.length x.ev.length = pl (isRf x) x.ev.length x.ev.length := by
  obtain ⟨_, hf, _⟩ := check_order hc
  have hfl : x.fr.l.length = x.ev.length := check_from hc
  have hone : ∀ b, b < x.ev.length → fromAt x.ev x.fr.l b = true := by
    unfold fromOk at hf
    simp only [Bool.and_eq_true, List.all_eq_true] at hf
    exact fun b hb => hf.2 b (List.mem_range.2 hb)
  have key : ∀ a b : Nat, b < x.ev.length → frAt x b = (a : Int) → loads (nth x.ev b).k = true ∧ stores (nth x.ev a).k = true := fun a b hb he => by
    have h := hone b hb
    unfold fromAt at h
    have e2 : x.fr.l.getD b 0 = (a : Int) := he
    rw [e2] at h
    split at h
    · rename_i hl
      unfold readOk at h
      simp only [Bool.and_eq_true] at h
      exact ⟨hl, h.1.1.2⟩
    · simp only [beq_iff_eq] at h
      omega
  refine told_pl (fun a b ha hb => ?_) (fun a b ha hb h2 c hbc hcn => ?_)
  · unfold bondRf isRf bnd
    simp only [Bool.and_eq_true, beq_iff_eq]
    constructor
    · intro h
      split at h
      · omega
      · split at h
        · rename_i hq
          exact ⟨(key a b hb hq).1, hq⟩
        · omega
    · rintro ⟨h1, h2⟩
      rw [if_neg (by rw [(key a b hb h2).2]; simp), if_pos h2]
  · unfold bondRf bnd at h2
    split at h2
    · rename_i hs
      unfold isRf
      rw [Bool.and_eq_false_iff]
      right
      rw [beq_eq_false_iff_ne]
      intro e
      rw [(key a c hcn e).2] at hs
      cases hs
    · split at h2 <;> omega
end Ev
end Go.Proofs.YtecnnkidalkmfaaGreat
end

section
namespace Go.Proofs.YtecnnkidalkmfaaGreat
open Go.RowKit
namespace Ev
theorem rk_fold {n : Int} {v : Nat} : ∀ {ps : List (Int × Nat)} {r : Int}, (∀ p ∈ ps, p.1 = n → p.2 = v) → (r = v ∨ ∃ p ∈ ps, p.1 = n) → ps.foldl (fun r p => if p.1 = n then (p.2 : Int) else r) r = v
  | [], r, _, h => by
    rcases h with h | ⟨p, hp, _⟩
    · exact h
    · cases hp
  | p :: t, r, h1, h2 => by
    rw [List.foldl_cons]
    refine rk_fold (fun q hq => h1 q (List.mem_cons_of_mem _ hq)) ?_
    by_cases hp : p.1 = n
    · left; rw [if_pos hp, h1 p List.mem_cons_self hp]
    · rw [if_neg hp]
      rcases h2 with h | ⟨q, hq, hn⟩
      · exact .inl h
      · rcases List.mem_cons.1 hq with rfl | hq
        · exact absurd hn hp
        · exact .inr ⟨q, hq, hn⟩
theorem atGo_at {n : Int} : ∀ {l : List Int} {i : Int} {j : Nat}, l.Nodup → l[j]? = some n → atGo n i l = i + j
  | [], i, j, _, h => by simp at h
  | v :: r, i, 0, _, h => by
    simp at h; unfold atGo; rw [if_pos h]; simp
  | v :: r, i, j + 1, hd, h => by
    rw [List.nodup_cons] at hd
    have h' : r[j]? = some n := by simpa using h
    unfold atGo
    rw [if_neg (fun e => hd.1 (by rw [e]; exact List.mem_of_getElem? h')), atGo_at hd.2 h']
    omega
theorem at_at {n : Int} {l : List Int} {j : Nat} (hd : l.Nodup) (h : l[j]? = some n) : at_ l n = j := by
  unfold at_; rw [atGo_at hd h]; omega
theorem place_of {n v : Int} : ∀ {od : List Sl}, (∃ t ∈ od, n ∈ t.l) → (∀ t ∈ od, n ∈ t.l → at_ t.l n = v) → placeGo n od = v
  | [], h, _ => by obtain ⟨t, ht, _⟩ := h; cases ht
  | s :: r, h1, h2 => by
    unfold placeGo
    by_cases hs : n ∈ s.l
    · have := h2 s List.mem_cons_self hs
      have h0 : ¬ at_ s.l n < 0 := fun e => (at_neg s.l n).1 e hs
      rw [if_pos (by omega)]; exact this
    · have h0 := (at_neg s.l n).2 hs
      rw [if_neg (by omega)]
      refine place_of ?_ (fun t ht => h2 t (List.mem_cons_of_mem _ ht))
      obtain ⟨t, ht, hn⟩ := h1
      rcases List.mem_cons.1 ht with rfl | ht
      · exact absurd hn hs
      · exact ⟨t, ht, hn⟩
theorem five_lt {xs : List R} (h : evsOk xs = true) {i : Nat} (hi : i < xs.length) (e : (nth xs i).k = 5) : i < beg xs := by
  have hall := five_back (evs_all h) i hi e
  have h1 : beg (xs.take (i + 1)) = i + 1 := by
    unfold beg
    rw [List.filter_eq_self.2, List.length_take]
    · omega
    · intro y hy
      obtain ⟨j, hj, hjl, rfl⟩ := mem_take_lt hy
      simpa using hall j (by omega)
  have h2 : beg (xs.take (i + 1)) ≤ beg xs := by
    unfold beg
    exact (List.Sublist.filter _ (List.take_sublist _ _)).length_le
  omega
theorem beg_five {xs : List R} (h : evsOk xs = true) {i : Nat} (hi : i < beg xs) : (nth xs i).k = 5 := by
  obtain ⟨x, hx, hk⟩ := beg_pre (evs_all h) i hi
  rw [nth_some hx]; exact hk
theorem beg_up {xs : List R} (h : evsOk xs = true) : ∀ (d i : Nat), i + d + 1 < beg xs → (nth xs i).a < (nth xs (i + d + 1 : Nat)).a := by
  have hB := beg_le xs
  have step : ∀ i, i + 1 < beg xs → (nth xs i).a < (nth xs (i + 1 : Nat)).a := fun i hi => by
    have hf := (at_parts h (show i + 1 < xs.length by omega)).2.resolve_left (by omega)
    rw [show ((i + 1 : Nat) : Int) - 1 = (i : Int) by omega] at hf
    unfold follow at hf
    rw [if_pos ⟨beg_five h hi, beg_five h (show i < beg xs by omega)⟩] at hf
    exact of_decide_eq_true hf
  intro d
  induction d with
  | zero => exact fun i hi => step i hi
  | succ d ih => exact fun i hi => Int.lt_trans (ih i (by omega)) (step (i + d + 1) hi)
theorem beg_inj {xs : List R} (h : evsOk xs = true) {i j : Nat} (hi : i < beg xs) (hj : j < beg xs) (e : (nth xs i).a = (nth xs j).a) : i = j := by
  rcases Nat.lt_trichotomy i j with hl | hl | hl
  · have := beg_up h (j - i - 1) i (by omega)
    rw [show i + (j - i - 1) + 1 = j by omega] at this
    omega
  · exact hl
  · have := beg_up h (i - j - 1) j (by omega)
    rw [show j + (i - j - 1) + 1 = i by omega] at this
    omega
theorem beg_of {xs : List R} (h : evsOk xs = true) {n : Nat} (hn : n < xs.length) (hs : stores (nth xs n).k = true) : ∃ i, i < beg xs ∧ (nth xs i).a = (nth xs n).a := by
  by_cases h5 : (nth xs n).k = 5
  · exact ⟨n, five_lt h hn h5, rfl⟩
  have hbg : begunAt xs n = true := by
    have h' := h
    unfold evsOk begun at h'
    rw [Bool.and_eq_true, List.all_eq_true (p := begunAt xs)] at h'
    exact h'.2 n (List.mem_range.2 hn)
  unfold begunAt at hbg
  have hacc : acc (nth xs n).k = true := by
    unfold stores at hs; unfold acc
    simp at hs ⊢; omega
  rw [hacc, Bool.not_true, Bool.false_or, List.any_eq_true] at hbg
  obtain ⟨e, he, hq⟩ := hbg
  obtain ⟨j, hj, hjl, rfl⟩ := mem_take_lt he
  unfold isBeg at hq
  simp only [Bool.and_eq_true, beq_iff_eq] at hq
  exact ⟨j, five_lt h hjl hq.1, hq.2⟩
theorem od_at {x : X} (hc : check x = 0) {i : Nat} {s : Sl} (hs : x.od[i]? = some s) : i < beg x.ev ∧ rOrd x.ev (nth x.ev i).a i s.l ∧ s.l.Nodup ∧ ∀ n ∈ s.l, (nth x.ev n).a = (nth x.ev i).a := by
  obtain ⟨h1, _, _⟩ := check_order hc
  unfold orderOk at h1
  simp only [Bool.and_eq_true, beq_iff_eq, List.all_eq_true] at h1
  have hi := (List.getElem?_eq_some_iff.1 hs).1
  have ho := h1.2 i (List.mem_range.2 hi)
  have hr := (ord_iff hs rfl).1 ho
  refine ⟨by omega, hr, ?_⟩
  unfold orderAt at ho
  rw [hs] at ho
  simp only [Bool.and_eq_true, beq_iff_eq] at ho
  have hon := ho.2
  unfold onceOk at hon
  rw [Bool.and_eq_true, List.all_eq_true, decide_eq_true_eq] at hon
  refine ⟨hon.2, fun n hn => ?_⟩
  have := hon.1 n hn
  unfold onceAt at this
  simp only [Bool.and_eq_true, beq_iff_eq] at this
  rw [this.2, ho.1.2]
end Ev
end Go.Proofs.YtecnnkidalkmfaaGreat
end

section
namespace Go.Proofs.YtecnnkidalkmfaaGreat
open Go.RowKit
namespace Ev
theorem pl_mem {is : Nat → Nat → Bool} {n k : Nat} {p : Nat × Nat} : p ∈ pl is n k ↔ p.1 < k ∧ p.2 < n ∧ is p.1 p.2 = true := by
  unfold pl rowL
  rw [List.mem_flatMap]
  constructor
  · rintro ⟨a, ha, hp⟩
    rw [List.mem_map] at hp
    obtain ⟨b, hb, rfl⟩ := hp
    rw [List.mem_filter, List.mem_range] at hb
    exact ⟨List.mem_range.1 ha, hb.1, hb.2⟩
  · rintro ⟨h1, h2, h3⟩
    exact ⟨p.1, List.mem_range.2 h1, List.mem_map.2 ⟨p.2, List.mem_filter.2 ⟨List.mem_range.2 h2, h3⟩, rfl⟩⟩
end Ev
end Go.Proofs.YtecnnkidalkmfaaGreat
end
