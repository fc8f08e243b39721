/-
  Of an execution that may be coherence order is the document's, as plain lists.
-/
import Derived.Test.YtnlfdepeimjliaaEvDEq
namespace Go.Proofs.Ytnlfdepeimjliaa
open Go.RowKit
set_option linter.unusedVariables false
set_option linter.unusedSimpArgs false
namespace Ev
theorem rk_fold {n : Int} {v : Nat} : ∀ {ps : List (Int × Nat)} {r : Int}, (∀ p ∈ ps, p.1 = n → p.2 = v) → (r = v ∨ ∃ p ∈ ps, p.1 = n) → ps.foldl (fun r p => if p.1 = n then (p.2 : Int) else r) r = v
  | [], r, _, h => by
    rcases h with h | ⟨p, hp, _⟩
    · exact h
    · cases hp
  | p :: t, r, h1, h2 => by
    rw [List.foldl_cons]
    refine rk_fold (fun q hq => h1 q (List.mem_cons_of_mem _ hq)) ?_
    by_cases hp : p.1 = n
    · left; rw [if_pos hp, h1 p List.mem_cons_self hp]
    · rw [if_neg hp]
      rcases h2 with h | ⟨q, hq, hn⟩
      · exact .inl h
      · rcases List.mem_cons.1 hq with rfl | hq
        · exact absurd hn hp
        · exact .inr ⟨q, hq, hn⟩
theorem atGo_at {n : Int} : ∀ {l : List Int} {i : Int} {j : Nat}, l.Nodup → l[j]? = some n → atGo n i l = i + j
  | [], i, j, _, h => by simp at h
  | v :: r, i, 0, _, h => by
    simp at h; unfold atGo; rw [if_pos h]; simp
  | v :: r, i, j + 1, hd, h => by
    rw [List.nodup_cons] at hd
    have h' : r[j]? = some n := by simpa using h
    unfold atGo
    rw [if_neg (fun e => hd.1 (by rw [e]; exact List.mem_of_getElem? h')), atGo_at hd.2 h']
    omega
theorem at_at {n : Int} {l : List Int} {j : Nat} (hd : l.Nodup) (h : l[j]? = some n) : at_ l n = j := by
  unfold at_; rw [atGo_at hd h]; omega
theorem place_of {n v : Int} : ∀ {od : List Sl}, (∃ t ∈ od, n ∈ t.l) → (∀ t ∈ od, n ∈ t.l → at_ t.l n = v) → placeGo n od = v
  | [], h, _ => by obtain ⟨t, ht, _⟩ := h; cases ht
  | s :: r, h1, h2 => by
    unfold placeGo
    by_cases hs : n ∈ s.l
    · have := h2 s List.mem_cons_self hs
      have h0 : ¬ at_ s.l n < 0 := fun e => (at_neg s.l n).1 e hs
      rw [if_pos (by omega)]; exact this
    · have h0 := (at_neg s.l n).2 hs
      rw [if_neg (by omega)]
      refine place_of ?_ (fun t ht => h2 t (List.mem_cons_of_mem _ ht))
      obtain ⟨t, ht, hn⟩ := h1
      rcases List.mem_cons.1 ht with rfl | ht
      · exact absurd hn hs
      · exact ⟨t, ht, hn⟩
theorem five_lt {xs : List R} (h : evsOk xs = true) {i : Nat} (hi : i < xs.length) (e : (nth xs i).k = 5) : i < beg xs := by
  have hall := five_back (evs_all h) i hi e
  have h1 : beg (xs.take (i + 1)) = i + 1 := by
    unfold beg
    rw [List.filter_eq_self.2, List.length_take]
    · omega
    · intro y hy
      obtain ⟨j, hj, hjl, rfl⟩ := mem_take_lt hy
      simpa using hall j (by omega)
  have h2 : beg (xs.take (i + 1)) ≤ beg xs := by
    unfold beg
    exact (List.Sublist.filter _ (List.take_sublist _ _)).length_le
  omega
theorem beg_five {xs : List R} (h : evsOk xs = true) {i : Nat} (hi : i < beg xs) : (nth xs i).k = 5 := by
  obtain ⟨x, hx, hk⟩ := beg_pre (evs_all h) i hi
  rw [nth_some hx]; exact hk
theorem beg_up {xs : List R} (h : evsOk xs = true) : ∀ (d i : Nat), i + d + 1 < beg xs → (nth xs i).a < (nth xs (i + d + 1 : Nat)).a := by
  have hB := beg_le xs
  have step : ∀ i, i + 1 < beg xs → (nth xs i).a < (nth xs (i + 1 : Nat)).a := fun i hi => by
    have hf := (at_parts h (show i + 1 < xs.length by omega)).2.resolve_left (by omega)
    rw [show ((i + 1 : Nat) : Int) - 1 = (i : Int) by omega] at hf
    unfold follow at hf
    rw [if_pos ⟨beg_five h hi, beg_five h (show i < beg xs by omega)⟩] at hf
    exact of_decide_eq_true hf
  intro d
  induction d with
  | zero => exact fun i hi => step i hi
  | succ d ih => exact fun i hi => Int.lt_trans (ih i (by omega)) (step (i + d + 1) hi)
theorem beg_inj {xs : List R} (h : evsOk xs = true) {i j : Nat} (hi : i < beg xs) (hj : j < beg xs) (e : (nth xs i).a = (nth xs j).a) : i = j := by
  rcases Nat.lt_trichotomy i j with hl | hl | hl
  · have := beg_up h (j - i - 1) i (by omega)
    rw [show i + (j - i - 1) + 1 = j by omega] at this
    omega
  · exact hl
  · have := beg_up h (i - j - 1) j (by omega)
    rw [show j + (i - j - 1) + 1 = i by omega] at this
    omega
theorem beg_of {xs : List R} (h : evsOk xs = true) {n : Nat} (hn : n < xs.length) (hs : stores (nth xs n).k = true) : ∃ i, i < beg xs ∧ (nth xs i).a = (nth xs n).a := by
  by_cases h5 : (nth xs n).k = 5
  · exact ⟨n, five_lt h hn h5, rfl⟩
  have hbg : begunAt xs n = true := by
    have h' := h
    unfold evsOk begun at h'
    rw [Bool.and_eq_true, List.all_eq_true (p := begunAt xs)] at h'
    exact h'.2 n (List.mem_range.2 hn)
  unfold begunAt at hbg
  have hacc : acc (nth xs n).k = true := by
    unfold stores at hs; unfold acc
    simp at hs ⊢; omega
  rw [hacc, Bool.not_true, Bool.false_or, List.any_eq_true] at hbg
  obtain ⟨e, he, hq⟩ := hbg
  obtain ⟨j, hj, hjl, rfl⟩ := mem_take_lt he
  unfold isBeg at hq
  simp only [Bool.and_eq_true, beq_iff_eq] at hq
  exact ⟨j, five_lt h hjl hq.1, hq.2⟩
theorem od_at {x : X} (hc : check x = 0) {i : Nat} {s : Sl} (hs : x.od[i]? = some s) : i < beg x.ev ∧ rOrd x.ev (nth x.ev i).a i s.l ∧ s.l.Nodup ∧ ∀ n ∈ s.l, (nth x.ev n).a = (nth x.ev i).a := by
  obtain ⟨h1, _, _⟩ := check_order hc
  unfold orderOk at h1
  simp only [Bool.and_eq_true, beq_iff_eq, List.all_eq_true] at h1
  have hi := (List.getElem?_eq_some_iff.1 hs).1
  have ho := h1.2 i (List.mem_range.2 hi)
  have hr := (ord_iff hs rfl).1 ho
  refine ⟨by omega, hr, ?_⟩
  unfold orderAt at ho
  rw [hs] at ho
  simp only [Bool.and_eq_true, beq_iff_eq] at ho
  have hon := ho.2
  unfold onceOk at hon
  rw [Bool.and_eq_true, List.all_eq_true, decide_eq_true_eq] at hon
  refine ⟨hon.2, fun n hn => ?_⟩
  have := hon.1 n hn
  unfold onceAt at this
  simp only [Bool.and_eq_true, beq_iff_eq] at this
  rw [this.2, ho.1.2]
theorem rk_place {x : X} (hc : check x = 0) {n : Nat} (hn : n < x.ev.length) (hs : stores (nth x.ev n).k = true) : rk x n = place x n := by
  have he := ev_all hc
  obtain ⟨h1, _, _⟩ := check_order hc
  obtain ⟨i, hi, ha⟩ := beg_of he hn hs
  have hod : x.od.length = beg x.ev := by
    unfold orderOk at h1
    simp only [Bool.and_eq_true, beq_iff_eq] at h1
    exact h1.1
  obtain ⟨s, hsi⟩ : ∃ s, x.od[i]? = some s := ⟨_, List.getElem?_eq_getElem (by omega)⟩
  obtain ⟨_, hr, hd, _⟩ := od_at hc hsi
  have hm : (n : Int) ∈ s.l := hr.1 n hn hs ha.symm
  obtain ⟨v, hv⟩ := List.mem_iff_getElem?.1 hm
  have hat := at_at hd hv
  have key : ∀ t ∈ x.od, (n : Int) ∈ t.l → t = s := fun t ht hnt => by
    obtain ⟨k, hk⟩ := List.mem_iff_getElem?.1 ht
    obtain ⟨hkb, _, _, hka⟩ := od_at hc hk
    have hki : k = i := beg_inj he hkb hi (by rw [ha]; exact (hka _ hnt).symm)
    subst hki
    rw [hk] at hsi
    exact Option.some.inj hsi
  have hp : place x n = v := by
    unfold place
    refine place_of ⟨s, List.mem_of_getElem? hsi, hm⟩ (fun t ht hnt => ?_)
    rw [key t ht hnt, hat]
  rw [hp]
  unfold rk rkL
  refine rk_fold (fun p hp hpn => ?_) (.inr ⟨((n : Int), v), ?_, rfl⟩)
  · unfold zall at hp
    rw [List.mem_flatMap] at hp
    obtain ⟨t, ht, hpt⟩ := hp
    rw [List.take_length] at ht
    unfold zs at hpt
    rw [List.mem_map] at hpt
    obtain ⟨j, hj, rfl⟩ := hpt
    have hjl := List.mem_range.1 hj
    have hg := List.getElem?_eq_getElem hjl
    have e : t.l.getD j 0 = t.l[j] := by simp [List.getD, hg]
    have hpn' : t.l[j] = (n : Int) := by rw [← e]; exact hpn
    rw [hpn'] at hg
    have hts := key t ht (List.mem_of_getElem? hg)
    subst hts
    have := at_at hd hg
    show j = v
    omega
  · unfold zall
    rw [List.mem_flatMap, List.take_length]
    refine ⟨s, List.mem_of_getElem? hsi, ?_⟩
    unfold zs
    rw [List.mem_map]
    have hvl := (List.getElem?_eq_some_iff.1 hv).1
    exact ⟨v, List.mem_range.2 hvl, by simp [List.getD, hv]⟩
/-- the program's and the document's word of two stores -/
theorem bh_co {x : X} (hc : check x = 0) {a b : Nat} (ha : a < x.ev.length) (hb : b < x.ev.length) (hs : stores (nth x.ev a).k = true) : bh x a b = isCo x a b := by
  unfold bh isCo
  rw [hs, Bool.true_and]
  cases hsb : stores (nth x.ev (b : Int)).k
  · rfl
  · rw [rk_place hc ha hs, rk_place hc hb hsb, Bool.true_and, Bool.true_and]
    congr 1
    rw [Bool.eq_iff_iff]
    simp only [beq_iff_eq]
    exact eq_comm
theorem co_eq {x : X} (hc : check x = 0) : told (bondCo x) x.ev.length x.ev.length = pl (fun a b : Nat => isCo x (a : Int) (b : Int)) x.ev.length x.ev.length := by
  refine told_pl (fun a b ha hb => ?_) (fun a b ha hb h2 c hbc hcn => ?_)
  · unfold bondCo bnd
    by_cases h : stores (nth x.ev (a : Int)).k = false
    · rw [if_pos h]
      constructor
      · intro e; omega
      · intro e
        unfold isCo at e
        rw [h] at e
        simp at e
    · have h' : stores (nth x.ev (a : Int)).k = true := by simpa using h
      rw [if_neg h, ← bh_co hc ha hb h']
      cases bh x a b <;> simp
  · unfold bondCo bnd at h2
    by_cases h : stores (nth x.ev (a : Int)).k = false
    · unfold isCo
      rw [h]; rfl
    · rw [if_neg h] at h2
      split at h2 <;> omega
theorem fr_eq {x : X} (hc : check x = 0) : told (bondFr x) x.ev.length x.ev.length = pl (isFr x) x.ev.length x.ev.length := by
  have key : ∀ a b : Nat, a < x.ev.length → b < x.ev.length → loads (nth x.ev (a : Int)).k = true → bh x (frAt x a) b = isCo x (frAt x a) b := fun a b ha hb hl => by
    obtain ⟨f, hf, hfa, hfr⟩ := from_in hc ha hl
    obtain ⟨_, h2, _⟩ := check_order hc
    unfold fromOk at h2
    simp only [Bool.and_eq_true, beq_iff_eq, List.all_eq_true] at h2
    have := h2.2 a (List.mem_range.2 ha)
    unfold fromAt at this
    have e2 : x.fr.l.getD a 0 = (f : Int) := hfr
    rw [if_pos hl, e2] at this
    unfold readOk at this
    simp only [Bool.and_eq_true] at this
    rw [hfr]
    exact bh_co hc hf hb this.1.1.2
  refine told_pl (fun a b ha hb => ?_) (fun a b ha hb h2 c hbc hcn => ?_)
  · unfold bondFr isFr bnd
    by_cases h : loads (nth x.ev (a : Int)).k = false
    · rw [if_pos h, h]
      simp
    · have h' : loads (nth x.ev (a : Int)).k = true := by simpa using h
      rw [if_neg h, h', key a b ha hb h', Bool.and_true]
      cases (!decide (a = b) && isCo x (frAt x a) b) <;> simp
  · unfold bondFr bnd at h2
    by_cases h : loads (nth x.ev (a : Int)).k = false
    · unfold isFr
      rw [h]; simp
    · rw [if_neg h] at h2
      split at h2 <;> omega
end Ev
end Go.Proofs.Ytnlfdepeimjliaa
