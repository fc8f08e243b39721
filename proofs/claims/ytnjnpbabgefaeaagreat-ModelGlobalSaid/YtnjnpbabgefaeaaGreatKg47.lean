import Derived.Test.YtnjnpbabgefaeaaGreatKg46
import Derived.Test.YtnjnpbabgefaeaaGreatKg01
import Derived.Test.YtnjnpbabgefaeaaGreatKg43
import Derived.Test.YtnjnpbabgefaeaaGreatKg44
import Derived.Test.YtnjnpbabgefaeaaGreatKg04
set_option linter.unusedVariables false
set_option linter.unusedSimpArgs false

section
namespace Go.Proofs.YtnjnpbabgefaeaaGreat
open Go.RowKit
namespace Md
open Ev
end Md
end Go.Proofs.YtnjnpbabgefaeaaGreat
end

section
namespace Go.Proofs.YtnjnpbabgefaeaaGreat
open Go.RowKit Go.Shelf Go.Lib Go.Sort
namespace Md
def ltP (p q : Nat × Nat) : Bool := decide (p.1 < q.1) || (p.1 == q.1 && decide (p.2 < q.2))
theorem ltOf_cmp : ltOf cmpP = ltP := by
  funext p q
  unfold ltOf cmpP orI cmpI ltP
  rw [Bool.eq_iff_iff]
  simp only [decide_eq_true_eq, Bool.or_eq_true, Bool.and_eq_true, beq_iff_eq]
  by_cases h1 : p.1 < q.1
  · simp [h1]
  · by_cases h2 : q.1 < p.1
    · have : ¬ p.1 = q.1 := by omega
      simp [h1, h2, this]
    · have : p.1 = q.1 := by omega
      by_cases h3 : p.2 < q.2
      · simp [h1, h2, h3, this]
      · by_cases h4 : q.2 < p.2 <;> simp [h1, h2, h3, h4, this]
theorem ltP_iff {p q : Nat × Nat} : ltP p q = true ↔ p.1 < q.1 ∨ (p.1 = q.1 ∧ p.2 < q.2) := by simp [ltP]
theorem ltP_no {p q : Nat × Nat} : ltP p q = false ↔ ¬ (p.1 < q.1 ∨ (p.1 = q.1 ∧ p.2 < q.2)) := by rw [← ltP_iff]; simp
theorem swo : SWO (ltOf cmpP) where
  irrefl x := by rw [ltOf_cmp, ltP_no]; omega
  trans x y z h1 h2 := by rw [ltOf_cmp, ltP_iff] at *; omega
  ntrans x y z h1 h2 := by rw [ltOf_cmp, ltP_no] at *; omega
theorem apart {x y : Nat × Nat} (h1 : ltOf cmpP x y = false) (h2 : ltOf cmpP y x = false) : x = y := by
  rw [ltOf_cmp, ltP_no] at *
  exact Prod.ext (by omega) (by omega)
theorem lays (blk off size : Nat) (w : World) : CmpLays Tryz.prog 62 #[] Ev.pv 2 cmpP blk off size w := fun _ _ _ _ x y => cmpP_any x y _
def le (x y : Nat × Nat) : Bool := !(ltOf cmpP) y x
theorem le_iff {x y : Nat × Nat} : le x y = true ↔ x.1 < y.1 ∨ (x.1 = y.1 ∧ x.2 ≤ y.2) := by
  unfold le
  rw [ltOf_cmp, Bool.not_eq_true', ltP_no]; omega
theorem sorted_ok (ss : List (Nat × Nat)) : (ss.mergeSort le).Pairwise (fun a b => le a b = true) :=
  List.pairwise_mergeSort (fun a b c h1 h2 => by rw [le_iff] at *; omega) (fun a b => by simp only [Bool.or_eq_true, le_iff]; omega) ss
theorem holds_of_row {w : World} {base : Nat} {g cap : Nat} {ss : List (Nat × Nat)} (h : w.ownsRow base 72 2 (.slice (some ⟨g, 0, none⟩) ss.length cap) ss.length (ss.flatMap Ev.pv)) : HoldsK Ev.pv 2 w g 0 ss.toArray ∧ g < w.heap.size ∧ base ≤ g := by
  rcases h.2 with ⟨h, _⟩ | ⟨g', cap', cur, e, hb, hh, hnc, hcm, _, ht⟩
  · simp at h
  · obtain ⟨rfl, rfl⟩ : g = g' ∧ cap = cap' := by simpa using e
    refine ⟨fun j hj => ?_, (Array.getElem?_eq_some_iff.1 hh).1, hb⟩
    have hj2 : j < ss.length * 2 := by simpa using hj
    have hd : j / 2 < ss.length := by omega
    refine ⟨?_, ?_⟩
    · rw [get_flatK _ _ _ _ (by simpa using hj2), cell_of_row w g _ cur 72 (0, 0) hh]
      have h1 := Ev.pv_flat ss (j / 2) ss[j / 2] (j % 2) ((Ev.pv ss[j / 2])[j % 2]!) (by rw [List.getElem?_eq_getElem hd]) (by
        have : j % 2 < (Ev.pv ss[j / 2]).length := by simp [Ev.pv]; omega
        simp [this])
      rw [show j / 2 * 2 + j % 2 = j by omega, ← ht, List.getElem?_take] at h1
      rw [if_pos (by simpa [Nat.mul_comm] using hj2)] at h1
      simp only [Nat.zero_add]
      have e1 : ss.toArray[j / 2]! = ss[j / 2] := by simp [hd]
      rw [e1]
      simpa using h1
    · exact frozen_of_row w _ _ _ _ hh
theorem pairs_of_holds {w : World} {g cap : Nat} {L : List (Nat × Nat)} (h : HoldsK Ev.pv 2 w g 0 L.toArray) (h1 : L.length ≤ cap) (h2 : cap ≤ 9223372036854775807) : Ev.PairsIn w (some ⟨g, 0, none⟩) cap L := by
  refine ⟨fun hp => ⟨g, 0, rfl, fun j v hv i c hi => ?_⟩, h1, h2⟩
  rw [List.getElem?_map] at hv
  cases hj : L[j]? with
  | none => rw [hj] at hv; cases hv
  | some p =>
    rw [hj] at hv
    have hvp : Ev.pv p = v := by simpa using hv
    subst hvp
    have hjl := (List.getElem?_eq_some_iff.1 hj).1
    have hil : i < 2 := by have := (List.getElem?_eq_some_iff.1 hi).1; simpa [Ev.pv] using this
    have hc := (h (j * 2 + i) (by simp; omega)).1
    rw [get_flatK _ _ _ _ (by simp; omega), show (j * 2 + i) / 2 = j by omega, show (j * 2 + i) % 2 = i by omega] at hc
    rw [show 0 + j * 2 + i = 0 + (j * 2 + i) by omega, hc]
    have e1 : L.toArray[j]! = p := by
      have := (List.getElem?_eq_some_iff.1 hj).2
      simp [hjl, this]
    rw [e1]
    have e2 := (List.getElem?_eq_some_iff.1 hi)
    obtain ⟨e3, e4⟩ := e2
    simp [e3, ← e4]
theorem below_sorted {w W : World} {g n : Nat} {d : Array (Nat × Nat)} {os : Array Obj} (h : Below w.heap.size w W) (hg : w.heap.size ≤ g) (hW : g < W.heap.size) : Below w.heap.size w (sortWorldK Ev.pv 2 W g 0 n d os) := by
  refine ⟨h.os, h.tape, h.output, Nat.le_trans h.size ?_, fun i hi => ?_⟩
  · exact size_sortWorldK_c _ _ _ _ _ _ _ _
  · refine Eq.trans ?_ (h.block i hi)
    have hi2 := Nat.lt_of_lt_of_le hi h.size
    show ((W.heap.modify g _) ++ os)[i]? = W.heap[i]?
    rw [Array.getElem?_append_left (by simp; exact hi2), Array.getElem?_modify, if_neg (by omega)]
end Md
set_option maxRecDepth 100000 in
theorem isAgg_pair (w : World) : (isAgg 72).run Tryz.prog w = .ok true w := Tryz.isAgg72 w
set_option maxRecDepth 100000 in
set_option maxHeartbeats 2000000 in
theorem psort_any (v : Value) (ss : List (Nat × Nat)) (hlen : ss.length ≤ 65536) (w W : World) (h : W.ownsRow w.heap.size 72 2 v ss.length (ss.flatMap Ev.pv)) (hb : Below w.heap.size w W) :
    Calls Tryz.prog 88 #[v, .func (.func 62) #[] #[]] W fun e w' => e = .returned (.tuple #[]) ∧ (∃ a c, v = .slice a ss.length c ∧ Ev.PairsIn w' a c (ss.mergeSort Md.le)) ∧ Below w.heap.size w w' := by
  rcases h.2 with ⟨rfl, hz⟩ | ⟨g, cap, cur, rfl, hbase, hh, hnc, hcm, hrest⟩
  · have hs : ss = [] := List.length_eq_zero_iff.1 hz
    subst hs
    exact (AnyF.slices_SortFunc_none (L := Tryz.sortPairs) none 0 _ W).mono fun e w' ⟨he, hw⟩ => ⟨he, ⟨none, 0, rfl, ⟨fun hp => by simp at hp, by simp, by omega⟩⟩, by rw [hw]; exact hb⟩
  · obtain ⟨hH, hlt, hge⟩ := Md.holds_of_row h
    have hcap : cap ≤ 9223372036854775807 := by unfold maxLen at hcm; exact hcm
    have hcon := AnyQ.slices_SortFunc_total Tryz.sortPairs 2 isAgg_pair (fun w => Tryz.sizeOf72 w) Ev.pv (fun _ => rfl) Ev.pv_one Md.cmpP Md.swo 62 #[] g 0 cap ss.toArray W
      (enters_of Tryz.func62 (by kernel_rfl) rfl) (Md.lays _ _ _ _) hH hlt (by simp; omega) (fun x y h1 h2 => Md.apart h1 h2)
    simp only [List.size_toArray] at hcon
    refine hcon.mono fun e w' hpost => ?_
    obtain ⟨he, n, os, hw⟩ := hpost
    refine ⟨he, ⟨_, _, rfl, ?_⟩, ?_⟩
    · refine Md.pairs_of_holds ?_ (by rw [List.length_mergeSort]; exact hnc) hcap
      rw [hw]
      exact holdsK_sortWorldK Ev.pv 2 W g 0 n ss.toArray _ os hlt hH (by simp [List.length_mergeSort])
    · rw [hw]
      exact Md.below_sorted hb hbase hlt
set_option maxHeartbeats 1000000 in
theorem pcollect_any (G : FuncId) (caps : Array Value) (R : World → Prop) (S : List (Nat × Nat)) (hS : S.length ≤ 65536) (w : World) (hE : ∀ args w, (callFunc G args).run Tryz.prog w = .ok (.enter G args) w) (hR : ∀ (ss : List (Nat × Nat)) (W : World), Below w.heap.size w W → R W)
    (hit : Og.IterS Fence.wide 4 Tryz.prog G caps R (fun p : Nat × Nat => #[Md.pkV p]) (Md.kst S) [] (Md.kfin S)) :
    Calls Tryz.prog 87 #[.func (.func G) #[] caps] w fun r w' => ∃ v ss, r = .returned v ∧ Md.kfin S ss ∧ w'.ownsRow w.heap.size 72 2 v ss.length (ss.flatMap Ev.pv) ∧ Below w.heap.size w w' := by
  have HC := Lib.hid (pappendSeq_any G caps R S hS w hE hR hit)
  clear hit hR hE
  go_enter Tryz.func87, Tryz.ntmps87
  go_wp2_with fail
  refine HC.out.mono ?_
  rintro r W1 ⟨v, ss, rfl, h0, h1, h2⟩
  have H0 := Lib.hid h0; have H1 := Lib.hid h1; have H2 := Lib.hid h2
  clear h0 h1 h2
  go_wp2_with fail
  go_ret
  exact ⟨_, ss, rfl, H0.out, H1.out, H2.out⟩
theorem Md.kfin_len {S ss : List (Nat × Nat)} (h : Md.kfin S ss) (hS : S.length ≤ 65536) : ss.length ≤ 65536 := Nat.le_trans (Ev.nodup_le h.1 fun x hx => (h.2 x).1 hx) hS
set_option maxHeartbeats 1000000 in
theorem sortedFunc_any (G : FuncId) (caps : Array Value) (R : World → Prop) (S : List (Nat × Nat)) (hS : S.length ≤ 65536) (w : World) (hE : ∀ args w, (callFunc G args).run Tryz.prog w = .ok (.enter G args) w) (hR : ∀ (ss : List (Nat × Nat)) (W : World), Below w.heap.size w W → R W)
    (hit : Og.IterS Fence.wide 4 Tryz.prog G caps R (fun p : Nat × Nat => #[Md.pkV p]) (Md.kst S) [] (Md.kfin S)) :
    Calls Tryz.prog 60 #[.func (.func G) #[] caps, .func (.func 62) #[] #[]] w fun r w' => ∃ a c ss, r = .returned (.slice a ss.length c) ∧ Md.kfin S ss ∧ Ev.PairsIn w' a c (ss.mergeSort Md.le) ∧ Below w.heap.size w w' := by
  have HC := Lib.hid (pcollect_any G caps R S hS w hE hR hit)
  clear hit hR hE
  go_enter Tryz.func60, Tryz.ntmps60
  go_wp2_with fail
  refine HC.out.mono ?_
  rintro r W1 ⟨v, ss, rfl, h0, h1, h2⟩
  have H0 := Lib.hid h0
  have HP := Lib.hid (psort_any v ss (Md.kfin_len h0 hS) w W1 h1 h2)
  clear h0 h1 h2
  go_wp2_with fail
  refine HP.out.mono ?_
  rintro r W2 ⟨rfl, ⟨a, c, rfl, h1⟩, h2⟩
  have H1 := Lib.hid h1; have H2 := Lib.hid h2
  clear h1 h2
  go_wp2_with fail
  go_ret
  exact ⟨_, _, ss, rfl, H0.out, H1.out, H2.out⟩
set_option maxHeartbeats 1000000 in
theorem keys_any (b : Nat) (w : World) : Calls Tryz.prog 61 #[.map (some b)] w fun r w' => r = .returned (.func (.func 89) #[] #[.pointer (some ⟨w.heap.size, 0, none⟩)]) ∧ w' = w.alloc (.cells #[.map (some b)] 77) := by
  go_enter Tryz.func61, Tryz.ntmps61
  go_wp2
  go_ret
  exact ⟨rfl, rfl⟩
def Md.Ris (S L : List (Nat × Nat)) : Prop := L.Pairwise (fun p q => Md.ltP p q = true) ∧ ∀ p, p ∈ L ↔ p ∈ S
theorem Md.ris_sort {S ss : List (Nat × Nat)} (h : Md.kfin S ss) : Md.Ris S (ss.mergeSort Md.le) := by
  refine ⟨?_, fun p => by rw [List.mem_mergeSort]; exact h.2 p⟩
  have h1 := Md.sorted_ok ss
  have h2 : (ss.mergeSort Md.le).Nodup := (List.mergeSort_perm ss Md.le).nodup_iff.2 h.1
  refine (h1.and h2).imp fun {p q} hpq => ?_
  obtain ⟨hle, hne⟩ := hpq
  rw [Md.le_iff] at hle
  rw [Md.ltP_iff]
  have : ¬ (p.1 = q.1 ∧ p.2 = q.2) := fun e => hne (Prod.ext e.1 e.2)
  omega
set_option maxHeartbeats 1000000 in
theorem rising_any (b n : Nat) (S : List (Nat × Nat)) (hS : S.length ≤ 65536) (w : World) (hin : Md.PSet w b n S) :
    Calls Tryz.prog 41 #[.map (some b)] w fun r w' => ∃ a c L, r = .returned (.slice a L.length c) ∧ Md.Ris S L ∧ Ev.PairsIn w' a c L ∧ Below w.heap.size w w' := by
  obtain ⟨W0, hW0⟩ : ∃ W0, W0 = w.alloc (.cells #[.map (some b)] 77) := ⟨_, rfl⟩
  have hb0 : Below w.heap.size w W0 := by rw [hW0]; exact (Below.refl _ _).alloc (Nat.le_refl _) _
  have hbx : W0.heap[w.heap.size]? = some (.cells #[.map (some b)] 77 (0, 0)) := by rw [hW0]; exact heap_alloc_new _ _
  have hlt : w.heap.size < W0.heap.size := (Array.getElem?_eq_some_iff.1 hbx).1
  have HC := Lib.hid (sortedFunc_any 89 #[.pointer (some ⟨w.heap.size, 0, none⟩)] (Md.KIn w.heap.size b n S) S hS W0
    (enters_of Tryz.func89 (by kernel_rfl) rfl)
    (fun ss W hb => ⟨by rw [(cell_of_row _ _ _ _ _ _ ((hb.block _ hlt).trans hbx))]; rfl, (hin.kp hb0).kp hb⟩) (keys_iter 4 (by decide) w.heap.size b n S))
  have HW0 := Lib.hid hW0; have HB0 := Lib.hid hb0
  clear hW0 hb0 hbx hlt hin
  go_enter Tryz.func41, Tryz.ntmps41
  go_wp2_with fail
  refine (keys_any b w).mono ?_
  rintro r W1 ⟨rfl, hw1⟩
  rw [← HW0.out] at hw1
  subst hw1
  go_wp2_with fail
  refine HC.out.mono ?_
  rintro r W2 ⟨a, c, ss, rfl, h0, h1, h2⟩
  have H0 := Lib.hid h0; have H1 := Lib.hid h1; have H2 := Lib.hid h2
  clear h0 h1 h2
  go_wp2_with fail
  go_ret
  refine ⟨a, c, ss.mergeSort Md.le, ?_, Md.ris_sort H0.out, H1.out, HB0.out.trans (H2.out.mono HB0.out.size)⟩
  rw [List.length_mergeSort]
  rfl
end Go.Proofs.YtnjnpbabgefaeaaGreat
end

section
namespace Go.Proofs.YtnjnpbabgefaeaaGreat
open Go.RowKit
namespace Md
open Ev
def placedL (x : X) : List Nat := (List.range x.ev.length).filter fun n => (nth x.ev (n : Int)).k != 4
def leftL (x : X) (out : List Nat) : List Nat := (placedL x).filter fun n => !out.contains n
def freeL (x : X) (out : List Nat) (n : Nat) : Bool := (leftL x out).all fun o => !isG6 x o n
def nextL (x : X) (out : List Nat) : Option Nat := (leftL x out).find? (freeL x out)
def goG (x : X) : Nat → List Nat → Option (List Nat)
  | 0, out => some out
  | k + 1, out => match nextL x out with
    | none => none
    | some n => goG x k (out ++ [n])
def globalO (x : X) : Option (List Nat) := goG x (placedL x).length []
theorem placed_len (x : X) : (placedL x).length ≤ x.ev.length := by
  unfold placedL
  exact Nat.le_trans (List.length_filter_le _ _) (by simp)
theorem placed_mem {x : X} {n : Nat} : n ∈ placedL x ↔ n < x.ev.length ∧ (nth x.ev (n : Int)).k ≠ 4 := by
  unfold placedL; simp [List.mem_filter]
theorem left_mem {x : X} {out : List Nat} {n : Nat} : n ∈ leftL x out ↔ (n < x.ev.length ∧ (nth x.ev (n : Int)).k ≠ 4) ∧ n ∉ out := by
  unfold leftL
  rw [List.mem_filter, placed_mem]
  simp
theorem left_nil (x : X) : leftL x [] = placedL x := by
  unfold leftL
  exact List.filter_eq_self.2 fun a _ => by simp
theorem placed_nodup (x : X) : (placedL x).Nodup := List.nodup_range.filter _
theorem left_nodup (x : X) (out : List Nat) : (leftL x out).Nodup := (placed_nodup x).filter _
theorem left_take {x : X} {out : List Nat} {n : Nat} : leftL x (out ++ [n]) = (leftL x out).filter (fun m => m != n) := by
  unfold leftL
  rw [List.filter_filter]
  apply List.filter_congr
  intro m _
  by_cases h : m = n
  · subst h; simp
  · simp [h]
theorem filter_ne_erase {l : List Nat} (hd : l.Nodup) (i n : Nat) (h : l[i]? = some n) : l.filter (fun m => m != n) = l.take i ++ l.drop (i + 1) := by
  have hi := (List.getElem?_eq_some_iff.1 h).1
  have hl : l = l.take i ++ n :: l.drop (i + 1) := by
    have := (List.getElem?_eq_some_iff.1 h).2
    rw [← this, ← List.drop_eq_getElem_cons hi, List.take_append_drop]
  obtain ⟨A, hA⟩ : ∃ A, l.take i = A := ⟨_, rfl⟩
  obtain ⟨B, hB⟩ : ∃ B, l.drop (i + 1) = B := ⟨_, rfl⟩
  rw [hA, hB] at hl
  rw [hA, hB]
  subst hl
  rw [List.nodup_append] at hd
  obtain ⟨_, h2, h3⟩ := hd
  have h4 := (List.nodup_cons.1 h2).1
  rw [List.filter_append, List.filter_cons]
  have ha : A.filter (fun m => m != n) = A := List.filter_eq_self.2 fun a ha => by
    have := h3 a ha n List.mem_cons_self
    simpa using this
  have hb : B.filter (fun m => m != n) = B := List.filter_eq_self.2 fun b hb => by
    have : b ≠ n := fun e => h4 (e ▸ hb)
    simpa using this
  simp [ha, hb]
theorem left_next {x : X} {out : List Nat} {i n : Nat} (h : (leftL x out)[i]? = some n) : leftL x (out ++ [n]) = (leftL x out).take i ++ (leftL x out).drop (i + 1) := by
  rw [left_take]; exact filter_ne_erase (left_nodup x out) i n h
theorem left_next_len {x : X} {out : List Nat} {i n : Nat} (h : (leftL x out)[i]? = some n) : (leftL x out).length = (leftL x (out ++ [n])).length + 1 := by
  have hi := (List.getElem?_eq_some_iff.1 h).1
  rw [left_next h, List.length_append, List.length_take, List.length_drop]; omega
theorem next_at {x : X} {out : List Nat} {i n : Nat} (h : (leftL x out)[i]? = some n) (hno : ∀ k m : Nat, k < i → (leftL x out)[k]? = some m → freeL x out m = false) (hf : freeL x out n = true) : nextL x out = some n := by
  unfold nextL
  have hi := (List.getElem?_eq_some_iff.1 h).1
  rw [List.find?_eq_some_iff_append]
  refine ⟨hf, (leftL x out).take i, (leftL x out).drop (i + 1), ?_, ?_⟩
  · rw [← (List.getElem?_eq_some_iff.1 h).2, ← List.drop_eq_getElem_cons hi, List.take_append_drop]
  · intro a ha
    obtain ⟨k, hk, e⟩ := List.mem_take_iff_getElem.1 ha
    have hk2 : k < (leftL x out).length := by omega
    have e2 : (leftL x out)[k]? = some a := by rw [List.getElem?_eq_getElem hk2]; exact congrArg some e
    rw [hno k a (by omega) e2]; rfl
theorem next_none {x : X} {out : List Nat} (hno : ∀ k m : Nat, (leftL x out)[k]? = some m → freeL x out m = false) : nextL x out = none := by
  unfold nextL
  rw [List.find?_eq_none]
  intro a ha
  obtain ⟨k, hk, e⟩ := List.mem_iff_getElem.1 ha
  rw [hno k a (by rw [List.getElem?_eq_getElem hk]; exact congrArg some e)]; simp
def least (f : Nat → Bool) (k d : Nat) : Int := match (List.range' k d).find? f with
  | none => -1
  | some n => (n : Int)
theorem least_yes {f : Nat → Bool} {k d : Nat} (h : f k = true) : least f k (d + 1) = (k : Int) := by
  unfold least; rw [List.range'_succ, List.find?_cons_of_pos h]
theorem least_no {f : Nat → Bool} {k d : Nat} (h : f k = false) : least f k (d + 1) = least f (k + 1) d := by
  unfold least; rw [List.range'_succ, List.find?_cons_of_neg (by simp [h])]
def docFree (x : X) (out : List Nat) (n : Nat) : Bool := ((nth x.ev (n : Int)).k != 4 && !out.contains n) && (pl (isG6 x) x.ev.length x.ev.length).all fun p => !(p.2 == n && !out.contains p.1)
theorem G6_k {x : X} (hc : check x = 0) {a b : Nat} (hb : b < x.ev.length) (h : isG6 x a b = true) : (nth x.ev (a : Int)).k ≠ 4 := by
  unfold isG6 at h
  simp only [Bool.or_eq_true, Bool.and_eq_true] at h
  rcases h with ((h | h) | h) | ⟨h, _⟩
  · exact (ppo_parts h).2.1
  · unfold isCo at h
    simp only [Bool.and_eq_true] at h
    have := st_k h.1.1.1; omega
  · unfold isFr at h
    simp only [Bool.and_eq_true] at h
    have := ld_k h.1.2; omega
  · unfold isRf at h
    simp only [Bool.and_eq_true, beq_iff_eq] at h
    obtain ⟨f, _, h2, h3, _⟩ := from_ok hc hb h.1
    have : f = a := by have := h.2; omega
    subst this
    have := st_k h3; omega
theorem docFree_iff {x : X} (hc : check x = 0) {out : List Nat} {n : Nat} (hn : n < x.ev.length) : docFree x out n = true ↔ n ∈ leftL x out ∧ freeL x out n = true := by
  unfold docFree freeL
  rw [left_mem]
  simp only [Bool.and_eq_true, List.all_eq_true, Bool.not_eq_true', bne_iff_ne, ne_eq, List.contains_eq_mem, decide_eq_false_iff_not, beq_iff_eq, Bool.and_eq_false_iff, beq_eq_false_iff_ne, decide_eq_true_eq, Bool.not_eq_false']
  constructor
  · rintro ⟨⟨h1, h2⟩, h3⟩
    refine ⟨⟨⟨hn, h1⟩, h2⟩, fun o ho => ?_⟩
    have ho' := left_mem.1 ho
    cases hg : isG6 x o n
    · rfl
    · have := h3 (o, n) (mem_pl.2 ⟨ho'.1.1, hn, hg⟩)
      rcases this with h | h
      · exact absurd rfl h
      · exact absurd h ho'.2
  · rintro ⟨⟨⟨_, h1⟩, h2⟩, h3⟩
    refine ⟨⟨h1, h2⟩, fun p hp => ?_⟩
    obtain ⟨a, b⟩ := p
    obtain ⟨ha, hb, hg⟩ := mem_pl.1 hp
    by_cases e : b = n
    · right
      subst e
      by_cases hm : a ∈ out
      · exact hm
      · have := h3 a (left_mem.2 ⟨⟨ha, G6_k hc hb hg⟩, hm⟩)
        rw [hg] at this; cases this
    · exact .inl e
theorem find_congr {p q : Nat → Bool} : ∀ {l : List Nat}, (∀ a ∈ l, p a = q a) → l.find? p = l.find? q
  | [], _ => rfl
  | a :: l, h => by
    have h1 := h a List.mem_cons_self
    have h2 := find_congr (l := l) fun b hb => h b (List.mem_cons_of_mem _ hb)
    rw [List.find?_cons, List.find?_cons, h1, h2]
theorem next_least {x : X} (hc : check x = 0) (out : List Nat) : least (docFree x out) 0 x.ev.length = match nextL x out with
    | none => -1
    | some n => (n : Int) := by
  have h : (List.range' 0 x.ev.length).find? (docFree x out) = nextL x out := by
    unfold nextL leftL placedL
    rw [List.find?_filter, List.find?_filter, List.range_eq_range']
    refine find_congr fun a ha => ?_
    have ha' : a < x.ev.length := by simpa using ha
    rw [Bool.eq_iff_iff, docFree_iff hc ha', left_mem]
    simp [ha', and_assoc]
  unfold least
  rw [h]
end Md
end Go.Proofs.YtnjnpbabgefaeaaGreat
end

section
namespace Go.Proofs.YtnjnpbabgefaeaaGreat
open Go.RowKit
namespace Md
open Ev
structure JIn (w : World) (q : Nat) (x : X) : Prop where
  row : w.heap[q]? = some (.cells (xcells x).toArray 83 (0, 0))
  xin : XIn w x
theorem JIn.kp {w w' : World} {q : Nat} {x : X} (h : JIn w q x) (hb : Below w.heap.size w w') : JIn w' q x :=
  ⟨(hb.block q (Array.getElem?_eq_some_iff.1 h.row).1).trans h.row, h.xin.kp (kp_below hb)⟩
theorem JIn.c0 {w : World} {q : Nat} {x : X} (h : JIn w q x) : w.cell? ⟨q, 0, none⟩ = some (.slice x.ae x.ev.length x.ce) := by rw [cell_of_row _ _ _ _ _ _ h.row]; rfl
theorem JIn.c1 {w : World} {q : Nat} {x : X} (h : JIn w q x) : w.cell? ⟨q, 1, none⟩ = some (.slice x.fr.a x.fr.l.length x.fr.c) := by rw [cell_of_row _ _ _ _ _ _ h.row]; rfl
def BringR (x : X) (w : World) (e : Ending) (w' : World) : Prop := Below w.heap.size w w' ∧
  ((check x ≠ 0 ∧ e = .returned (.tuple #[.pointer none, .int .i64 (check x)])) ∨ (check x = 0 ∧ ∃ q, e = .returned (.tuple #[.pointer (some ⟨q, 0, none⟩), .int .i64 0]) ∧ JIn w' q x))
end Md
set_option maxRecDepth 100000 in
set_option maxHeartbeats 2000000 in
theorem isFence_any (e : Ev.R) (w : World) : Calls Tryz.prog 75 #[.agg (Ev.cells e).toArray] w fun r w' => r = .returned (.bool (e.k == 4)) ∧ Below w.heap.size w w' := by
  have c1 : (w.alloc (.cells (Ev.cells e).toArray 48)).cell? ⟨w.heap.size, 1, none⟩ = some (.int .i64 e.k) := by rw [cell_of_row _ _ _ _ _ _ (heap_alloc_new w _)]; rfl
  have B0 := Lib.hid ((Below.refl w.heap.size w).alloc (Nat.le_refl _) (.cells (Ev.cells e).toArray 48))
  go_enter Tryz.func75, Tryz.ntmps75
  go_wp2
  go_ret
  exact ⟨rfl, B0.out⟩
set_option maxRecDepth 100000 in
set_option maxHeartbeats 2000000 in
theorem bring_any (x : Ev.X) (w : World) (hin : Ev.XIn w x) : Calls Tryz.prog 34 #[.agg (Ev.xcells x).toArray] w (Md.BringR x w) := by
  have HIN := Lib.hid hin; clear hin
  have R0 := Lib.hid (heap_alloc_new w (.cells (Ev.xcells x).toArray 26))
  have B0 := Lib.hid ((Below.refl w.heap.size w).alloc (Nat.le_refl _) (.cells (Ev.xcells x).toArray 26))
  obtain ⟨v, hv⟩ : ∃ v, Ev.check x = v := ⟨_, rfl⟩
  have HV := Lib.hid hv
  clear hv
  go_enter Tryz.func34, Tryz.ntmps34
  go_wp2_with ((with_reducible show wpList _ _ _ (Oper.mk (some 5) _ _ _ _ _ :: _) _ _); refine wpList_load_row rfl 26 (.tmp 1) rfl w.heap.size (by kernel_rfl) 26 (Ev.xcells x).toArray (0, 0) _ R0.out Tryz.underlying26 rfl (by kernel_rfl) ?_)
  refine (check_is HV.out _ (HIN.out.kp (Ev.kp_below B0.out))).mono ?_
  rintro e W1 ⟨rfl, hb⟩
  have R1 := Lib.hid ((hb.block w.heap.size (by simp only [World.size_alloc]; omega)).trans R0.out)
  have B1 := Lib.hid (B0.out.trans (hb.mono (by simp only [World.size_alloc]; omega))); clear hb
  by_cases hz : v = 0
  · subst hz
    go_wp2_with ((with_reducible show wpList _ _ _ (Oper.mk (some 10) _ _ _ _ _ :: _) _ _); refine wpList_load_row rfl 26 (.tmp 1) rfl w.heap.size (by kernel_rfl) 26 #[.slice x.ae x.ev.length x.ce, .slice x.fr.a x.fr.l.length x.fr.c, .slice x.ao x.od.length x.co] (0, 0) _ R1.out Tryz.underlying26 rfl (by kernel_rfl) ?_)
    go_ret2
    have hb2 : Below W1.heap.size W1 (W1.alloc (.cells (Ev.xcells x).toArray 83)) := (Below.refl _ _).alloc (Nat.le_refl _) _
    exact ⟨B1.out.trans (hb2.mono B1.out.size), .inr ⟨HV.out, W1.heap.size, rfl, heap_alloc_new _ _, HIN.out.kp (Ev.kp_below (B1.out.trans (hb2.mono B1.out.size)))⟩⟩
  · have tv : (v != 0) = true := by simpa using hz
    have HZ := Lib.hid hz
    clear hz
    go_wp2
    go_ret2
    exact ⟨B1.out, .inl ⟨by rw [HV.out]; exact HZ.out, by rw [HV.out]; rfl⟩⟩
end Go.Proofs.YtnjnpbabgefaeaaGreat
end
