import Derived.Test.YtnjnpbabgefaeaaGreatKd45
import Derived.Test.YtnjnpbabgefaeaaGreatKd44
import Derived.Test.YtnjnpbabgefaeaaGreatKd01
import Derived.Test.YtnjnpbabgefaeaaGreatKd41
import Derived.Test.YtnjnpbabgefaeaaGreatKd42
import Derived.Test.YtnjnpbabgefaeaaGreatKd04
set_option linter.unusedVariables false
set_option linter.unusedSimpArgs false

section
namespace Go.Proofs.YtnjnpbabgefaeaaGreat
open Go.RowKit
namespace Md
open Ev
theorem fr_iff {x : X} (hc : check x = 0) {a b : Nat} (ha : a < x.ev.length) (hb : b < x.ev.length) : isFr x a b = true ↔ (exe x).fr a b := by
  unfold isFr Exe.fr
  simp only [Bool.and_eq_true, Bool.not_eq_true', decide_eq_false_iff_not]
  constructor
  · rintro ⟨⟨h1, h2⟩, h3⟩
    obtain ⟨f, hf, e, _⟩ := from_ok hc ha h2
    have hrf : (exe x).rf a = f := by show (frAt x a).toNat = f; omega
    rw [e] at h3
    exact ⟨h1, ⟨ha, h2⟩, by rw [hrf]; exact (co_iff hf hb).1 h3⟩
  · rintro ⟨h1, h2, h3⟩
    obtain ⟨f, hf, e, _⟩ := from_ok hc ha h2.2
    have hrf : (exe x).rf a = f := by show (frAt x a).toNat = f; omega
    rw [hrf] at h3
    exact ⟨⟨h1, h2.2⟩, by rw [e]; exact (co_iff hf hb).2 h3⟩
theorem rf_iff {x : X} (hc : check x = 0) {a b : Nat} (hb : b < x.ev.length) : isRf x a b = true ↔ (exe x).ld b ∧ (exe x).rf b = a := by
  unfold isRf
  simp only [Bool.and_eq_true, beq_iff_eq]
  constructor
  · rintro ⟨h1, h2⟩
    exact ⟨⟨hb, h1⟩, by show (frAt x b).toNat = a; omega⟩
  · rintro ⟨h1, h2⟩
    obtain ⟨f, hf, e, _⟩ := from_ok hc hb h1.2
    have hrf : (exe x).rf b = f := by show (frAt x b).toNat = f; omega
    exact ⟨h1.2, by omega⟩
theorem G_iff {x : X} (hc : check x = 0) {a b : Nat} (ha : a < x.ev.length) (hb : b < x.ev.length) : isG6 x a b = true ↔ (exe x).G a b := by
  unfold isG6 Exe.G
  simp only [Bool.or_eq_true, Bool.and_eq_true, bne_iff_ne]
  rw [co_iff ha hb, fr_iff hc ha hb, rf_iff hc hb]
  constructor
  · rintro (((h | h) | h) | h)
    · exact .inl ⟨ha, hb, h⟩
    · exact .inr (.inr (.inl h))
    · exact .inr (.inr (.inr h))
    · exact .inr (.inl ⟨h.1.1, h.1.2, h.2⟩)
  · rintro (h | h | h | h)
    · exact .inl (.inl (.inl h.2.2))
    · exact .inr ⟨⟨h.1, h.2.1⟩, h.2.2⟩
    · exact .inl (.inl (.inr h))
    · exact .inl (.inr h)
theorem G_in {x : X} (hc : check x = 0) {a b : Nat} (h : (exe x).G a b) : a < x.ev.length ∧ b < x.ev.length := by
  have H := exe_ok hc
  rcases h with h | h | h | h
  · exact ⟨h.1, h.2.1⟩
  · obtain ⟨hl, rfl, _⟩ := h
    exact ⟨(H.rfst hl).1.1, hl.1⟩
  · exact ⟨h.1.1, h.2.1.1⟩
  · exact ⟨h.2.1.1, h.2.2.2.1.1⟩
theorem C_in {x : X} (hc : check x = 0) {a b : Nat} (h : (exe x).C a b) : a < x.ev.length ∧ b < x.ev.length := by
  have H := exe_ok hc
  rcases h with h | h | h | h
  · exact ⟨h.2.1.1, h.2.2.1.1⟩
  · obtain ⟨hl, rfl⟩ := h
    exact ⟨(H.rfst hl).1.1, hl.1⟩
  · exact ⟨h.1.1, h.2.1.1⟩
  · exact ⟨h.2.1.1, h.2.2.2.1.1⟩
theorem rk_G {x : X} (hc : check x = 0) : Rk (gI (pl (isG6 x) x.ev.length x.ev.length)) ↔ ∃ gr : Nat → Int, ∀ a b, (exe x).G a b → gr a < gr b := by
  rw [rk_gI]
  constructor
  · rintro ⟨gr, h⟩
    exact ⟨gr, fun a b k => h (a, b) (mem_pl.2 ⟨(G_in hc k).1, (G_in hc k).2, (G_iff hc (G_in hc k).1 (G_in hc k).2).2 k⟩)⟩
  · rintro ⟨gr, h⟩
    refine ⟨gr, fun p hp => ?_⟩
    obtain ⟨h1, h2, h3⟩ := mem_pl.1 (show (p.1, p.2) ∈ _ from hp)
    exact h _ _ ((G_iff hc h1 h2).1 h3)
theorem mem_cohL {x : X} (hc : check x = 0) {a b : Nat} : (a, b) ∈ cohL x ↔ (exe x).C a b := by
  unfold cohL
  simp only [List.mem_append, List.mem_filter, mem_pl]
  constructor
  · rintro (((⟨h1, h2, h⟩ | ⟨h1, h2, h⟩) | ⟨h1, h2, h⟩) | ⟨⟨h1, h2, h⟩, h'⟩)
    · exact .inr (.inl ((rf_iff hc h2).1 h))
    · exact .inr (.inr (.inl ((co_iff h1 h2).1 h)))
    · exact .inr (.inr (.inr ((fr_iff hc h1 h2).1 h)))
    · unfold oneA at h'
      simp only [Bool.and_eq_true, Bool.not_eq_true', beq_eq_false_iff_ne, beq_iff_eq] at h'
      exact .inl ⟨po_iff.1 h, ⟨h1, h'.1.1⟩, ⟨h2, h'.1.2⟩, h'.2⟩
  · intro h
    obtain ⟨h1, h2⟩ := C_in hc h
    rcases h with h | h | h | h
    · refine .inr ⟨⟨h1, h2, po_iff.2 h.1⟩, ?_⟩
      unfold oneA
      simp only [Bool.and_eq_true, Bool.not_eq_true', beq_eq_false_iff_ne, beq_iff_eq]
      exact ⟨⟨h.2.1.2, h.2.2.1.2⟩, h.2.2.2⟩
    · exact .inl (.inl (.inl ⟨h1, h2, (rf_iff hc h2).2 h⟩))
    · exact .inl (.inl (.inr ⟨h1, h2, (co_iff h1 h2).2 h⟩))
    · exact .inl (.inr ⟨h1, h2, (fr_iff hc h1 h2).2 h⟩)
theorem rk_C {x : X} (hc : check x = 0) : Rk (gI (cohL x)) ↔ ∃ gc : Nat → Int, ∀ a b, (exe x).C a b → gc a < gc b := by
  rw [rk_gI]
  constructor
  · rintro ⟨gr, h⟩
    exact ⟨gr, fun a b k => h (a, b) ((mem_cohL hc).2 k)⟩
  · rintro ⟨gr, h⟩
    exact ⟨gr, fun p hp => h _ _ ((mem_cohL hc).1 (show (p.1, p.2) ∈ _ from hp))⟩
end Md
end Go.Proofs.YtnjnpbabgefaeaaGreat
end

section
namespace Go.Proofs.YtnjnpbabgefaeaaGreat
open Go.RowKit Go.Shelf Go.Lib Go.Sort
namespace Md
def ltP (p q : Nat × Nat) : Bool := decide (p.1 < q.1) || (p.1 == q.1 && decide (p.2 < q.2))
theorem ltOf_cmp : ltOf cmpP = ltP := by
  funext p q
  unfold ltOf cmpP orI cmpI ltP
  rw [Bool.eq_iff_iff]
  simp only [decide_eq_true_eq, Bool.or_eq_true, Bool.and_eq_true, beq_iff_eq]
  by_cases h1 : p.1 < q.1
  · simp [h1]
  · by_cases h2 : q.1 < p.1
    · have : ¬ p.1 = q.1 := by omega
      simp [h1, h2, this]
    · have : p.1 = q.1 := by omega
      by_cases h3 : p.2 < q.2
      · simp [h1, h2, h3, this]
      · by_cases h4 : q.2 < p.2 <;> simp [h1, h2, h3, h4, this]
theorem ltP_iff {p q : Nat × Nat} : ltP p q = true ↔ p.1 < q.1 ∨ (p.1 = q.1 ∧ p.2 < q.2) := by simp [ltP]
theorem ltP_no {p q : Nat × Nat} : ltP p q = false ↔ ¬ (p.1 < q.1 ∨ (p.1 = q.1 ∧ p.2 < q.2)) := by rw [← ltP_iff]; simp
theorem swo : SWO (ltOf cmpP) where
  irrefl x := by rw [ltOf_cmp, ltP_no]; omega
  trans x y z h1 h2 := by rw [ltOf_cmp, ltP_iff] at *; omega
  ntrans x y z h1 h2 := by rw [ltOf_cmp, ltP_no] at *; omega
theorem apart {x y : Nat × Nat} (h1 : ltOf cmpP x y = false) (h2 : ltOf cmpP y x = false) : x = y := by
  rw [ltOf_cmp, ltP_no] at *
  exact Prod.ext (by omega) (by omega)
theorem lays (blk off size : Nat) (w : World) : CmpLays Tryz.prog 62 #[] Ev.pv 2 cmpP blk off size w := fun _ _ _ _ x y => cmpP_any x y _
def le (x y : Nat × Nat) : Bool := !(ltOf cmpP) y x
theorem le_iff {x y : Nat × Nat} : le x y = true ↔ x.1 < y.1 ∨ (x.1 = y.1 ∧ x.2 ≤ y.2) := by
  unfold le
  rw [ltOf_cmp, Bool.not_eq_true', ltP_no]; omega
theorem sorted_ok (ss : List (Nat × Nat)) : (ss.mergeSort le).Pairwise (fun a b => le a b = true) :=
  List.pairwise_mergeSort (fun a b c h1 h2 => by rw [le_iff] at *; omega) (fun a b => by simp only [Bool.or_eq_true, le_iff]; omega) ss
theorem holds_of_row {w : World} {base : Nat} {g cap : Nat} {ss : List (Nat × Nat)} (h : w.ownsRow base 72 2 (.slice (some ⟨g, 0, none⟩) ss.length cap) ss.length (ss.flatMap Ev.pv)) : HoldsK Ev.pv 2 w g 0 ss.toArray ∧ g < w.heap.size ∧ base ≤ g := by
  rcases h.2 with ⟨h, _⟩ | ⟨g', cap', cur, e, hb, hh, hnc, hcm, _, ht⟩
  · simp at h
  · obtain ⟨rfl, rfl⟩ : g = g' ∧ cap = cap' := by simpa using e
    refine ⟨fun j hj => ?_, (Array.getElem?_eq_some_iff.1 hh).1, hb⟩
    have hj2 : j < ss.length * 2 := by simpa using hj
    have hd : j / 2 < ss.length := by omega
    refine ⟨?_, ?_⟩
    · rw [get_flatK _ _ _ _ (by simpa using hj2), cell_of_row w g _ cur 72 (0, 0) hh]
      have h1 := Ev.pv_flat ss (j / 2) ss[j / 2] (j % 2) ((Ev.pv ss[j / 2])[j % 2]!) (by rw [List.getElem?_eq_getElem hd]) (by
        have : j % 2 < (Ev.pv ss[j / 2]).length := by simp [Ev.pv]; omega
        simp [this])
      rw [show j / 2 * 2 + j % 2 = j by omega, ← ht, List.getElem?_take] at h1
      rw [if_pos (by simpa [Nat.mul_comm] using hj2)] at h1
      simp only [Nat.zero_add]
      have e1 : ss.toArray[j / 2]! = ss[j / 2] := by simp [hd]
      rw [e1]
      simpa using h1
    · exact frozen_of_row w _ _ _ _ hh
theorem pairs_of_holds {w : World} {g cap : Nat} {L : List (Nat × Nat)} (h : HoldsK Ev.pv 2 w g 0 L.toArray) (h1 : L.length ≤ cap) (h2 : cap ≤ 9223372036854775807) : Ev.PairsIn w (some ⟨g, 0, none⟩) cap L := by
  refine ⟨fun hp => ⟨g, 0, rfl, fun j v hv i c hi => ?_⟩, h1, h2⟩
  rw [List.getElem?_map] at hv
  cases hj : L[j]? with
  | none => rw [hj] at hv; cases hv
  | some p =>
    rw [hj] at hv
    have hvp : Ev.pv p = v := by simpa using hv
    subst hvp
    have hjl := (List.getElem?_eq_some_iff.1 hj).1
    have hil : i < 2 := by have := (List.getElem?_eq_some_iff.1 hi).1; simpa [Ev.pv] using this
    have hc := (h (j * 2 + i) (by simp; omega)).1
    rw [get_flatK _ _ _ _ (by simp; omega), show (j * 2 + i) / 2 = j by omega, show (j * 2 + i) % 2 = i by omega] at hc
    rw [show 0 + j * 2 + i = 0 + (j * 2 + i) by omega, hc]
    have e1 : L.toArray[j]! = p := by
      have := (List.getElem?_eq_some_iff.1 hj).2
      simp [hjl, this]
    rw [e1]
    have e2 := (List.getElem?_eq_some_iff.1 hi)
    obtain ⟨e3, e4⟩ := e2
    simp [e3, ← e4]
theorem below_sorted {w W : World} {g n : Nat} {d : Array (Nat × Nat)} {os : Array Obj} (h : Below w.heap.size w W) (hg : w.heap.size ≤ g) (hW : g < W.heap.size) : Below w.heap.size w (sortWorldK Ev.pv 2 W g 0 n d os) := by
  refine ⟨h.os, h.tape, h.output, Nat.le_trans h.size ?_, fun i hi => ?_⟩
  · exact size_sortWorldK_c _ _ _ _ _ _ _ _
  · refine Eq.trans ?_ (h.block i hi)
    have hi2 := Nat.lt_of_lt_of_le hi h.size
    show ((W.heap.modify g _) ++ os)[i]? = W.heap[i]?
    rw [Array.getElem?_append_left (by simp; exact hi2), Array.getElem?_modify, if_neg (by omega)]
end Md
set_option maxRecDepth 100000 in
theorem isAgg_pair (w : World) : (isAgg 72).run Tryz.prog w = .ok true w := Tryz.isAgg72 w
set_option maxRecDepth 100000 in
set_option maxHeartbeats 2000000 in
theorem psort_any (v : Value) (ss : List (Nat × Nat)) (hlen : ss.length ≤ 65536) (w W : World) (h : W.ownsRow w.heap.size 72 2 v ss.length (ss.flatMap Ev.pv)) (hb : Below w.heap.size w W) :
    Calls Tryz.prog 88 #[v, .func (.func 62) #[] #[]] W fun e w' => e = .returned (.tuple #[]) ∧ (∃ a c, v = .slice a ss.length c ∧ Ev.PairsIn w' a c (ss.mergeSort Md.le)) ∧ Below w.heap.size w w' := by
  rcases h.2 with ⟨rfl, hz⟩ | ⟨g, cap, cur, rfl, hbase, hh, hnc, hcm, hrest⟩
  · have hs : ss = [] := List.length_eq_zero_iff.1 hz
    subst hs
    exact (AnyF.slices_SortFunc_none (L := Tryz.sortPairs) none 0 _ W).mono fun e w' ⟨he, hw⟩ => ⟨he, ⟨none, 0, rfl, ⟨fun hp => by simp at hp, by simp, by omega⟩⟩, by rw [hw]; exact hb⟩
  · obtain ⟨hH, hlt, hge⟩ := Md.holds_of_row h
    have hcap : cap ≤ 9223372036854775807 := by unfold maxLen at hcm; exact hcm
    have hcon := AnyQ.slices_SortFunc_total Tryz.sortPairs 2 isAgg_pair (fun w => Tryz.sizeOf72 w) Ev.pv (fun _ => rfl) Ev.pv_one Md.cmpP Md.swo 62 #[] g 0 cap ss.toArray W
      (enters_of Tryz.func62 (by kernel_rfl) rfl) (Md.lays _ _ _ _) hH hlt (by simp; omega) (fun x y h1 h2 => Md.apart h1 h2)
    simp only [List.size_toArray] at hcon
    refine hcon.mono fun e w' hpost => ?_
    obtain ⟨he, n, os, hw⟩ := hpost
    refine ⟨he, ⟨_, _, rfl, ?_⟩, ?_⟩
    · refine Md.pairs_of_holds ?_ (by rw [List.length_mergeSort]; exact hnc) hcap
      rw [hw]
      exact holdsK_sortWorldK Ev.pv 2 W g 0 n ss.toArray _ os hlt hH (by simp [List.length_mergeSort])
    · rw [hw]
      exact Md.below_sorted hb hbase hlt
set_option maxHeartbeats 1000000 in
theorem pcollect_any (G : FuncId) (caps : Array Value) (R : World → Prop) (S : List (Nat × Nat)) (hS : S.length ≤ 65536) (w : World) (hE : ∀ args w, (callFunc G args).run Tryz.prog w = .ok (.enter G args) w) (hR : ∀ (ss : List (Nat × Nat)) (W : World), Below w.heap.size w W → R W)
    (hit : Og.IterS Fence.wide 4 Tryz.prog G caps R (fun p : Nat × Nat => #[Md.pkV p]) (Md.kst S) [] (Md.kfin S)) :
    Calls Tryz.prog 87 #[.func (.func G) #[] caps] w fun r w' => ∃ v ss, r = .returned v ∧ Md.kfin S ss ∧ w'.ownsRow w.heap.size 72 2 v ss.length (ss.flatMap Ev.pv) ∧ Below w.heap.size w w' := by
  have HC := Lib.hid (pappendSeq_any G caps R S hS w hE hR hit)
  clear hit hR hE
  go_enter Tryz.func87, Tryz.ntmps87
  go_wp2_with fail
  refine HC.out.mono ?_
  rintro r W1 ⟨v, ss, rfl, h0, h1, h2⟩
  have H0 := Lib.hid h0; have H1 := Lib.hid h1; have H2 := Lib.hid h2
  clear h0 h1 h2
  go_wp2_with fail
  go_ret
  exact ⟨_, ss, rfl, H0.out, H1.out, H2.out⟩
theorem Md.kfin_len {S ss : List (Nat × Nat)} (h : Md.kfin S ss) (hS : S.length ≤ 65536) : ss.length ≤ 65536 := Nat.le_trans (Ev.nodup_le h.1 fun x hx => (h.2 x).1 hx) hS
set_option maxHeartbeats 1000000 in
theorem sortedFunc_any (G : FuncId) (caps : Array Value) (R : World → Prop) (S : List (Nat × Nat)) (hS : S.length ≤ 65536) (w : World) (hE : ∀ args w, (callFunc G args).run Tryz.prog w = .ok (.enter G args) w) (hR : ∀ (ss : List (Nat × Nat)) (W : World), Below w.heap.size w W → R W)
    (hit : Og.IterS Fence.wide 4 Tryz.prog G caps R (fun p : Nat × Nat => #[Md.pkV p]) (Md.kst S) [] (Md.kfin S)) :
    Calls Tryz.prog 60 #[.func (.func G) #[] caps, .func (.func 62) #[] #[]] w fun r w' => ∃ a c ss, r = .returned (.slice a ss.length c) ∧ Md.kfin S ss ∧ Ev.PairsIn w' a c (ss.mergeSort Md.le) ∧ Below w.heap.size w w' := by
  have HC := Lib.hid (pcollect_any G caps R S hS w hE hR hit)
  clear hit hR hE
  go_enter Tryz.func60, Tryz.ntmps60
  go_wp2_with fail
  refine HC.out.mono ?_
  rintro r W1 ⟨v, ss, rfl, h0, h1, h2⟩
  have H0 := Lib.hid h0
  have HP := Lib.hid (psort_any v ss (Md.kfin_len h0 hS) w W1 h1 h2)
  clear h0 h1 h2
  go_wp2_with fail
  refine HP.out.mono ?_
  rintro r W2 ⟨rfl, ⟨a, c, rfl, h1⟩, h2⟩
  have H1 := Lib.hid h1; have H2 := Lib.hid h2
  clear h1 h2
  go_wp2_with fail
  go_ret
  exact ⟨_, _, ss, rfl, H0.out, H1.out, H2.out⟩
set_option maxHeartbeats 1000000 in
theorem keys_any (b : Nat) (w : World) : Calls Tryz.prog 61 #[.map (some b)] w fun r w' => r = .returned (.func (.func 89) #[] #[.pointer (some ⟨w.heap.size, 0, none⟩)]) ∧ w' = w.alloc (.cells #[.map (some b)] 77) := by
  go_enter Tryz.func61, Tryz.ntmps61
  go_wp2
  go_ret
  exact ⟨rfl, rfl⟩
def Md.Ris (S L : List (Nat × Nat)) : Prop := L.Pairwise (fun p q => Md.ltP p q = true) ∧ ∀ p, p ∈ L ↔ p ∈ S
theorem Md.ris_sort {S ss : List (Nat × Nat)} (h : Md.kfin S ss) : Md.Ris S (ss.mergeSort Md.le) := by
  refine ⟨?_, fun p => by rw [List.mem_mergeSort]; exact h.2 p⟩
  have h1 := Md.sorted_ok ss
  have h2 : (ss.mergeSort Md.le).Nodup := (List.mergeSort_perm ss Md.le).nodup_iff.2 h.1
  refine (h1.and h2).imp fun {p q} hpq => ?_
  obtain ⟨hle, hne⟩ := hpq
  rw [Md.le_iff] at hle
  rw [Md.ltP_iff]
  have : ¬ (p.1 = q.1 ∧ p.2 = q.2) := fun e => hne (Prod.ext e.1 e.2)
  omega
set_option maxHeartbeats 1000000 in
theorem rising_any (b n : Nat) (S : List (Nat × Nat)) (hS : S.length ≤ 65536) (w : World) (hin : Md.PSet w b n S) :
    Calls Tryz.prog 41 #[.map (some b)] w fun r w' => ∃ a c L, r = .returned (.slice a L.length c) ∧ Md.Ris S L ∧ Ev.PairsIn w' a c L ∧ Below w.heap.size w w' := by
  obtain ⟨W0, hW0⟩ : ∃ W0, W0 = w.alloc (.cells #[.map (some b)] 77) := ⟨_, rfl⟩
  have hb0 : Below w.heap.size w W0 := by rw [hW0]; exact (Below.refl _ _).alloc (Nat.le_refl _) _
  have hbx : W0.heap[w.heap.size]? = some (.cells #[.map (some b)] 77 (0, 0)) := by rw [hW0]; exact heap_alloc_new _ _
  have hlt : w.heap.size < W0.heap.size := (Array.getElem?_eq_some_iff.1 hbx).1
  have HC := Lib.hid (sortedFunc_any 89 #[.pointer (some ⟨w.heap.size, 0, none⟩)] (Md.KIn w.heap.size b n S) S hS W0
    (enters_of Tryz.func89 (by kernel_rfl) rfl)
    (fun ss W hb => ⟨by rw [(cell_of_row _ _ _ _ _ _ ((hb.block _ hlt).trans hbx))]; rfl, (hin.kp hb0).kp hb⟩) (keys_iter 4 (by decide) w.heap.size b n S))
  have HW0 := Lib.hid hW0; have HB0 := Lib.hid hb0
  clear hW0 hb0 hbx hlt hin
  go_enter Tryz.func41, Tryz.ntmps41
  go_wp2_with fail
  refine (keys_any b w).mono ?_
  rintro r W1 ⟨rfl, hw1⟩
  rw [← HW0.out] at hw1
  subst hw1
  go_wp2_with fail
  refine HC.out.mono ?_
  rintro r W2 ⟨a, c, ss, rfl, h0, h1, h2⟩
  have H0 := Lib.hid h0; have H1 := Lib.hid h1; have H2 := Lib.hid h2
  clear h0 h1 h2
  go_wp2_with fail
  go_ret
  refine ⟨a, c, ss.mergeSort Md.le, ?_, Md.ris_sort H0.out, H1.out, HB0.out.trans (H2.out.mono HB0.out.size)⟩
  rw [List.length_mergeSort]
  rfl
end Go.Proofs.YtnjnpbabgefaeaaGreat
end

section
namespace Go.Proofs.YtnjnpbabgefaeaaGreat
open Go.RowKit
namespace Md
open Ev
structure JIn (w : World) (q : Nat) (x : X) : Prop where
  row : w.heap[q]? = some (.cells (xcells x).toArray 83 (0, 0))
  xin : XIn w x
theorem JIn.kp {w w' : World} {q : Nat} {x : X} (h : JIn w q x) (hb : Below w.heap.size w w') : JIn w' q x :=
  ⟨(hb.block q (Array.getElem?_eq_some_iff.1 h.row).1).trans h.row, h.xin.kp (kp_below hb)⟩
theorem JIn.c0 {w : World} {q : Nat} {x : X} (h : JIn w q x) : w.cell? ⟨q, 0, none⟩ = some (.slice x.ae x.ev.length x.ce) := by rw [cell_of_row _ _ _ _ _ _ h.row]; rfl
theorem JIn.c1 {w : World} {q : Nat} {x : X} (h : JIn w q x) : w.cell? ⟨q, 1, none⟩ = some (.slice x.fr.a x.fr.l.length x.fr.c) := by rw [cell_of_row _ _ _ _ _ _ h.row]; rfl
def BringR (x : X) (w : World) (e : Ending) (w' : World) : Prop := Below w.heap.size w w' ∧
  ((check x ≠ 0 ∧ e = .returned (.tuple #[.pointer none, .int .i64 (check x)])) ∨ (check x = 0 ∧ ∃ q, e = .returned (.tuple #[.pointer (some ⟨q, 0, none⟩), .int .i64 0]) ∧ JIn w' q x))
end Md
set_option maxRecDepth 100000 in
set_option maxHeartbeats 2000000 in
theorem isFence_any (e : Ev.R) (w : World) : Calls Tryz.prog 75 #[.agg (Ev.cells e).toArray] w fun r w' => r = .returned (.bool (e.k == 4)) ∧ Below w.heap.size w w' := by
  have c1 : (w.alloc (.cells (Ev.cells e).toArray 48)).cell? ⟨w.heap.size, 1, none⟩ = some (.int .i64 e.k) := by rw [cell_of_row _ _ _ _ _ _ (heap_alloc_new w _)]; rfl
  have B0 := Lib.hid ((Below.refl w.heap.size w).alloc (Nat.le_refl _) (.cells (Ev.cells e).toArray 48))
  go_enter Tryz.func75, Tryz.ntmps75
  go_wp2
  go_ret
  exact ⟨rfl, B0.out⟩
set_option maxRecDepth 100000 in
set_option maxHeartbeats 2000000 in
theorem bring_any (x : Ev.X) (w : World) (hin : Ev.XIn w x) : Calls Tryz.prog 34 #[.agg (Ev.xcells x).toArray] w (Md.BringR x w) := by
  have HIN := Lib.hid hin; clear hin
  have R0 := Lib.hid (heap_alloc_new w (.cells (Ev.xcells x).toArray 26))
  have B0 := Lib.hid ((Below.refl w.heap.size w).alloc (Nat.le_refl _) (.cells (Ev.xcells x).toArray 26))
  obtain ⟨v, hv⟩ : ∃ v, Ev.check x = v := ⟨_, rfl⟩
  have HV := Lib.hid hv
  clear hv
  go_enter Tryz.func34, Tryz.ntmps34
  go_wp2_with ((with_reducible show wpList _ _ _ (Oper.mk (some 5) _ _ _ _ _ :: _) _ _); refine wpList_load_row rfl 26 (.tmp 1) rfl w.heap.size (by kernel_rfl) 26 (Ev.xcells x).toArray (0, 0) _ R0.out Tryz.underlying26 rfl (by kernel_rfl) ?_)
  refine (check_is HV.out _ (HIN.out.kp (Ev.kp_below B0.out))).mono ?_
  rintro e W1 ⟨rfl, hb⟩
  have R1 := Lib.hid ((hb.block w.heap.size (by simp only [World.size_alloc]; omega)).trans R0.out)
  have B1 := Lib.hid (B0.out.trans (hb.mono (by simp only [World.size_alloc]; omega))); clear hb
  by_cases hz : v = 0
  · subst hz
    go_wp2_with ((with_reducible show wpList _ _ _ (Oper.mk (some 10) _ _ _ _ _ :: _) _ _); refine wpList_load_row rfl 26 (.tmp 1) rfl w.heap.size (by kernel_rfl) 26 #[.slice x.ae x.ev.length x.ce, .slice x.fr.a x.fr.l.length x.fr.c, .slice x.ao x.od.length x.co] (0, 0) _ R1.out Tryz.underlying26 rfl (by kernel_rfl) ?_)
    go_ret2
    have hb2 : Below W1.heap.size W1 (W1.alloc (.cells (Ev.xcells x).toArray 83)) := (Below.refl _ _).alloc (Nat.le_refl _) _
    exact ⟨B1.out.trans (hb2.mono B1.out.size), .inr ⟨HV.out, W1.heap.size, rfl, heap_alloc_new _ _, HIN.out.kp (Ev.kp_below (B1.out.trans (hb2.mono B1.out.size)))⟩⟩
  · have tv : (v != 0) = true := by simpa using hz
    have HZ := Lib.hid hz
    clear hz
    go_wp2
    go_ret2
    exact ⟨B1.out, .inl ⟨by rw [HV.out]; exact HZ.out, by rw [HV.out]; rfl⟩⟩
end Go.Proofs.YtnjnpbabgefaeaaGreat
end
