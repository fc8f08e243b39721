/-
  Pairs as a table of 24 times 24; coherence order of an execution that may be, as plain lists.
-/
import Derived.Test.YtnlfdepeimjliaaEvDEq2
namespace Go.Proofs.Ytnlfdepeimjliaa
open Go.RowKit
set_option linter.unusedVariables false
set_option linter.unusedSimpArgs false
namespace Ev
def mat (L : List (Nat × Nat)) : List Bool := (List.range 576).map fun i => L.contains (i / 24, i % 24)
theorem mat_len (L : List (Nat × Nat)) : (mat L).length = 576 := by unfold mat; simp
theorem mat_get (L : List (Nat × Nat)) {a b : Nat} (ha : a < 24) (hb : b < 24) : (mat L)[a * 24 + b]? = some (L.contains (a, b)) := by
  unfold mat
  rw [List.getElem?_map, List.getElem?_range (by omega)]
  have h1 : (a * 24 + b) / 24 = a := by omega
  have h2 : (a * 24 + b) % 24 = b := by omega
  simp only [Option.map_some, h1, h2]
theorem mat_snoc (L : List (Nat × Nat)) {a b : Nat} (ha : a < 24) (hb : b < 24) : mat (L ++ [(a, b)]) = (mat L).set (a * 24 + b) true := by
  apply List.ext_getElem?
  intro i
  rw [List.getElem?_set, mat_len]
  unfold mat
  rw [List.getElem?_map, List.getElem?_map]
  by_cases hi : i < 576
  · rw [List.getElem?_range hi]
    simp only [Option.map_some]
    by_cases he : a * 24 + b = i
    · subst he
      have h1 : (a * 24 + b) / 24 = a := by omega
      have h2 : (a * 24 + b) % 24 = b := by omega
      rw [if_pos rfl, if_pos hi, h1, h2]; simp
    · rw [if_neg he]
      have hne : ¬ (i / 24, i % 24) = (a, b) := fun e => by injection e with e1 e2; omega
      have : (L ++ [(a, b)]).contains (i / 24, i % 24) = L.contains (i / 24, i % 24) := by
        rw [Bool.eq_iff_iff]
        simp only [List.contains_iff_mem, List.mem_append, List.mem_singleton]
        exact ⟨fun h => h.resolve_right hne, .inl⟩
      rw [this]
  · rw [List.getElem?_eq_none (by simp; omega)]
    simp only [Option.map_none]
    rw [if_neg (by omega)]
theorem mat_nil : mat [] = List.replicate 576 false := by
  unfold mat
  rw [List.eq_replicate_iff]
  exact ⟨by simp, fun b hb => by rw [List.mem_map] at hb; obtain ⟨i, _, rfl⟩ := hb; rfl⟩
def MBlk (w : World) (g : Nat) (L : List (Nat × Nat)) : Prop := w.heap[g]? = some (.cells ((mat L).map Value.bool).toArray 37 (0, 0))
theorem MBlk.cell {w : World} {g : Nat} {L : List (Nat × Nat)} (h : MBlk w g L) {a b : Nat} (ha : a < 24) (hb : b < 24) : w.cell? ⟨g, a * 24 + b, none⟩ = some (.bool (L.contains (a, b))) := by
  unfold MBlk at h
  rw [cell_of_row _ _ _ _ _ _ h]
  have := mat_get L ha hb
  simp [List.getElem?_map, this]
theorem MBlk.set_ {w : World} {g : Nat} {L : List (Nat × Nat)} (h : MBlk w g L) {a b : Nat} (ha : a < 24) (hb : b < 24) : MBlk (w.setCell ⟨g, a * 24 + b, none⟩ (.bool true)) g (L ++ [(a, b)]) := by
  unfold MBlk at h ⊢
  rw [mat_snoc L ha hb]
  simp [World.setCell, Array.getElem?_modify, h, List.map_set]
theorem MBlk.frozen {w : World} {g : Nat} {L : List (Nat × Nat)} (h : MBlk w g L) (i : Nat) : w.frozen? ⟨g, i, none⟩ = false := by
  unfold MBlk at h
  simp [World.frozen?, h]
theorem MBlk.kp {w w' : World} {g : Nat} {L : List (Nat × Nat)} (h : MBlk w g L) (hb : Below w.heap.size w w') : MBlk w' g L := (hb.block g (Array.getElem?_eq_some_iff.1 h).1).trans h
theorem pl_mem {is : Nat → Nat → Bool} {n k : Nat} {p : Nat × Nat} : p ∈ pl is n k ↔ p.1 < k ∧ p.2 < n ∧ is p.1 p.2 = true := by
  unfold pl rowL
  rw [List.mem_flatMap]
  constructor
  · rintro ⟨a, ha, hp⟩
    rw [List.mem_map] at hp
    obtain ⟨b, hb, rfl⟩ := hp
    rw [List.mem_filter, List.mem_range] at hb
    exact ⟨List.mem_range.1 ha, hb.1, hb.2⟩
  · rintro ⟨h1, h2, h3⟩
    exact ⟨p.1, List.mem_range.2 h1, List.mem_map.2 ⟨p.2, List.mem_filter.2 ⟨List.mem_range.2 h2, h3⟩, rfl⟩⟩
theorem pl_has {is : Nat → Nat → Bool} {n a b : Nat} (ha : a < n) (hb : b < n) : (pl is n n).contains (a, b) = is a b := by
  rw [Bool.eq_iff_iff, List.contains_iff_mem, pl_mem]
  exact ⟨fun h => h.2.2, fun h => ⟨ha, hb, h⟩⟩
theorem place_at {x : X} (hc : check x = 0) {n : Nat} (hn : n < x.ev.length) (hs : stores (nth x.ev n).k = true) :
    ∃ (i : Nat) (s : Sl) (v : Nat), x.od[i]? = some s ∧ i < beg x.ev ∧ (nth x.ev i).a = (nth x.ev n).a ∧ s.l[v]? = some (n : Int) ∧ place x n = v := by
  have he := ev_all hc
  obtain ⟨h1, _, _⟩ := check_order hc
  obtain ⟨i, hi, ha⟩ := beg_of he hn hs
  have hod : x.od.length = beg x.ev := by
    unfold orderOk at h1
    simp only [Bool.and_eq_true, beq_iff_eq] at h1
    exact h1.1
  obtain ⟨s, hsi⟩ : ∃ s, x.od[i]? = some s := ⟨_, List.getElem?_eq_getElem (by omega)⟩
  obtain ⟨_, hr, hd, _⟩ := od_at hc hsi
  have hm : (n : Int) ∈ s.l := hr.1 n hn hs ha.symm
  obtain ⟨v, hv⟩ := List.mem_iff_getElem?.1 hm
  have hat := at_at hd hv
  refine ⟨i, s, v, hsi, hi, ha, hv, ?_⟩
  unfold place
  refine place_of ⟨s, List.mem_of_getElem? hsi, hm⟩ (fun t ht hnt => ?_)
  obtain ⟨k, hk⟩ := List.mem_iff_getElem?.1 ht
  obtain ⟨hkb, _, _, hka⟩ := od_at hc hk
  have hki : k = i := beg_inj he hkb hi (by rw [ha]; exact (hka _ hnt).symm)
  subst hki
  rw [hk] at hsi
  rw [Option.some.inj hsi, hat]
theorem place_inj {x : X} (hc : check x = 0) {a b : Nat} (ha : a < x.ev.length) (hb : b < x.ev.length) (hsa : stores (nth x.ev a).k = true) (hsb : stores (nth x.ev b).k = true) (he : (nth x.ev a).a = (nth x.ev b).a) (hp : place x a = place x b) : a = b := by
  obtain ⟨i, s, v, h1, h2, h3, h4, h5⟩ := place_at hc ha hsa
  obtain ⟨j, t, u, k1, k2, k3, k4, k5⟩ := place_at hc hb hsb
  have hij : i = j := beg_inj (ev_all hc) h2 k2 (by rw [h3, k3, he])
  subst hij
  rw [h1] at k1
  cases k1
  have huv : v = u := by omega
  subst huv
  rw [h4] at k4
  have := Option.some.inj k4
  omega
def bothS (x : X) (a b : Nat) : Bool := !(decide (a = b)) && stores (nth x.ev a).k && stores (nth x.ev b).k && (nth x.ev a).a == (nth x.ev b).a
theorem co_not {x : X} {a b : Nat} (h : bothS x a b = false) : isCo x a b = false ∧ isCo x b a = false := by
  unfold bothS at h
  by_cases hab : a = b
  · subst hab; unfold isCo; simp
  · rw [decide_eq_false hab] at h
    unfold isCo
    cases h1 : stores (nth x.ev (a : Int)).k
    · simp
    · cases h2 : stores (nth x.ev (b : Int)).k
      · simp
      · rw [h1, h2] at h
        have h' : ((nth x.ev (a : Int)).a == (nth x.ev (b : Int)).a) = false := by simpa using h
        have h'' : ((nth x.ev (b : Int)).a == (nth x.ev (a : Int)).a) = false := by
          rw [beq_eq_false_iff_ne] at h' ⊢
          exact fun e => h' e.symm
        rw [h', h'']; simp
theorem co_anti {x : X} (hc : check x = 0) {a b : Nat} (ha : a < x.ev.length) (hb : b < x.ev.length) (h : bothS x a b = true) : isCo x b a = !(isCo x a b) := by
  unfold bothS at h
  simp only [Bool.and_eq_true, beq_iff_eq, Bool.not_eq_true', decide_eq_false_iff_not] at h
  obtain ⟨⟨⟨h0, h1⟩, h2⟩, h3⟩ := h
  have hne : place x a ≠ place x b := fun e => h0 (place_inj hc ha hb h1 h2 h3 e)
  unfold isCo
  rw [h1, h2, h3]
  by_cases hp : place x (a : Int) < place x (b : Int)
  · rw [decide_eq_true hp, decide_eq_false (show ¬ place x (b : Int) < place x (a : Int) by omega)]; simp
  · rw [decide_eq_false hp, decide_eq_true (show place x (b : Int) < place x (a : Int) by omega)]; simp
theorem co_trans {x : X} {a b c : Nat} (h1 : isCo x a b = true) (h2 : isCo x b c = true) : isCo x a c = true := by
  unfold isCo at *
  simp only [Bool.and_eq_true, beq_iff_eq, decide_eq_true_eq] at *
  exact ⟨⟨⟨h1.1.1.1, h2.1.1.2⟩, by rw [h1.1.2, h2.1.2]⟩, by omega⟩
theorem fr_rf {x : X} {a b : Nat} (h1 : isFr x a b = true) (h2 : isRf x b a = true) : False := by
  unfold isFr at h1
  unfold isRf at h2
  simp only [Bool.and_eq_true, beq_iff_eq] at h1 h2
  rw [h2.2] at h1
  have h3 := h1.2
  unfold isCo at h3
  simp at h3
end Ev
end Go.Proofs.Ytnlfdepeimjliaa
