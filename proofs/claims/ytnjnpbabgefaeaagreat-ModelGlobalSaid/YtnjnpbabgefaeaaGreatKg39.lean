import Derived.Test.YtnjnpbabgefaeaaGreatKg37
import Derived.Test.YtnjnpbabgefaeaaGreatKg28
set_option linter.unusedVariables false
set_option linter.unusedSimpArgs false

section
namespace Go.Proofs.YtnjnpbabgefaeaaGreat
open Go.RowKit
namespace Ev
theorem rk_place {x : X} (hc : check x = 0) {n : Nat} (hn : n < x.ev.length) (hs : stores (nth x.ev n).k = true) : rk x n = place x n := by
  have he := ev_all hc
  obtain ⟨h1, _, _⟩ := check_order hc
  obtain ⟨i, hi, ha⟩ := beg_of he hn hs
  have hod : x.od.length = beg x.ev := by
    unfold orderOk at h1
    simp only [Bool.and_eq_true, beq_iff_eq] at h1
    exact h1.1
  obtain ⟨s, hsi⟩ : ∃ s, x.od[i]? = some s := ⟨_, List.getElem?_eq_getElem (by omega)⟩
  obtain ⟨_, hr, hd, _⟩ := od_at hc hsi
  have hm : (n : Int) ∈ s.l := hr.1 n hn hs ha.symm
  obtain ⟨v, hv⟩ := List.mem_iff_getElem?.1 hm
  have hat := at_at hd hv
  have key : ∀ t ∈ x.od, (n : Int) ∈ t.l → t = s := fun t ht hnt => by
    obtain ⟨k, hk⟩ := List.mem_iff_getElem?.1 ht
    obtain ⟨hkb, _, _, hka⟩ := od_at hc hk
    have hki : k = i := beg_inj he hkb hi (by rw [ha]; exact (hka _ hnt).symm)
    subst hki
    rw [hk] at hsi
    exact Option.some.inj hsi
  have hp : place x n = v := by
    unfold place
    refine place_of ⟨s, List.mem_of_getElem? hsi, hm⟩ (fun t ht hnt => ?_)
    rw [key t ht hnt, hat]
  rw [hp]
  unfold rk rkL
  refine rk_fold (fun p hp hpn => ?_) (.inr ⟨((n : Int), v), ?_, rfl⟩)
  · unfold zall at hp
    rw [List.mem_flatMap] at hp
    obtain ⟨t, ht, hpt⟩ := hp
    rw [List.take_length] at ht
    unfold zs at hpt
    rw [List.mem_map] at hpt
    obtain ⟨j, hj, rfl⟩ := hpt
    have hjl := List.mem_range.1 hj
    have hg := List.getElem?_eq_getElem hjl
    have e : t.l.getD j 0 = t.l[j] := by simp [List.getD, hg]
    have hpn' : t.l[j] = (n : Int) := by rw [← e]; exact hpn
    rw [hpn'] at hg
    have hts := key t ht (List.mem_of_getElem? hg)
    subst hts
    have := at_at hd hg
    show j = v
    omega
  · unfold zall
    rw [List.mem_flatMap, List.take_length]
    refine ⟨s, List.mem_of_getElem? hsi, ?_⟩
    unfold zs
    rw [List.mem_map]
    have hvl := (List.getElem?_eq_some_iff.1 hv).1
    exact ⟨v, List.mem_range.2 hvl, by simp [List.getD, hv]⟩
theorem bh_co {x : X} (hc : check x = 0) {a b : Nat} (ha : a < x.ev.length) (hb : b < x.ev.length) (hs : stores (nth x.ev a).k = true) : bh x a b = isCo x a b := by
  unfold bh isCo
  rw [hs, Bool.true_and]
  cases hsb : stores (nth x.ev (b : Int)).k
  · rfl
  · rw [rk_place hc ha hs, rk_place hc hb hsb, Bool.true_and, Bool.true_and]
    congr 1
    rw [Bool.eq_iff_iff]
    simp only [beq_iff_eq]
    exact eq_comm
theorem co_eq {x : X} (hc : check x = 0) : told (bondCo x) x.ev.length x.ev.length = pl (fun a b : Nat => isCo x (a : Int) (b : Int)) x.ev.length x.ev.length := by
  refine told_pl (fun a b ha hb => ?_) (fun a b ha hb h2 c hbc hcn => ?_)
  · unfold bondCo bnd
    by_cases h : stores (nth x.ev (a : Int)).k = false
    · rw [if_pos h]
      constructor
      · intro e; omega
      · intro e
        unfold isCo at e
        rw [h] at e
        simp at e
    · have h' : stores (nth x.ev (a : Int)).k = true := by simpa using h
      rw [if_neg h, ← bh_co hc ha hb h']
      cases bh x a b <;> simp
  · unfold bondCo bnd at h2
    by_cases h : stores (nth x.ev (a : Int)).k = false
    · unfold isCo
      rw [h]; rfl
    · rw [if_neg h] at h2
      split at h2 <;> omega
theorem fr_eq {x : X} (hc : check x = 0) : told (bondFr x) x.ev.length x.ev.length = pl (isFr x) x.ev.length x.ev.length := by
  have key : ∀ a b : Nat, a < x.ev.length → b < x.ev.length → loads (nth x.ev (a : Int)).k = true → bh x (frAt x a) b = isCo x (frAt x a) b := fun a b ha hb hl => by
    obtain ⟨f, hf, hfa, hfr⟩ := from_in hc ha hl
    obtain ⟨_, h2, _⟩ := check_order hc
    unfold fromOk at h2
    simp only [Bool.and_eq_true, beq_iff_eq, List.all_eq_true] at h2
    have := h2.2 a (List.mem_range.2 ha)
    unfold fromAt at this
    have e2 : x.fr.l.getD a 0 = (f : Int) := hfr
    rw [if_pos hl, e2] at this
    unfold readOk at this
    simp only [Bool.and_eq_true] at this
    rw [hfr]
    exact bh_co hc hf hb this.1.1.2
  refine told_pl (fun a b ha hb => ?_) (fun a b ha hb h2 c hbc hcn => ?_)
  · unfold bondFr isFr bnd
    by_cases h : loads (nth x.ev (a : Int)).k = false
    · rw [if_pos h, h]
      simp
    · have h' : loads (nth x.ev (a : Int)).k = true := by simpa using h
      rw [if_neg h, h', key a b ha hb h', Bool.and_true]
      cases (!decide (a = b) && isCo x (frAt x a) b) <;> simp
  · unfold bondFr bnd at h2
    by_cases h : loads (nth x.ev (a : Int)).k = false
    · unfold isFr
      rw [h]; simp
    · rw [if_neg h] at h2
      split at h2 <;> omega
end Ev
end Go.Proofs.YtnjnpbabgefaeaaGreat
end
