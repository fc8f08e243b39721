/-
  An execution that is laid event by event, first its EvBegins: it is one that may be. (Plain: no program.)
-/
import Derived.Test.YtoicmhidmknfiaaEvRm
import Derived.Test.YtoicmhidmknfiaaEvChk
namespace Go.Proofs.Ytoicmhidmknfiaa
open Go.RowKit
set_option linter.unusedVariables false
set_option linter.unusedSimpArgs false
namespace Ev
abbrev noS : Sl := ⟨none, 0, []⟩
/-- the EvBegin of an address -/
def begE (a : Int) : R := ⟨-1, 5, a, 0, 0, false, false, 0, 0, false, noS, noS, noS⟩
/-- an event of hart 0 that is laid, behind B EvBegins, and which it reads from -/
inductive Laid (B : Nat) : R → Int → Prop
  | fence (p s : Int) (hp : 0 ≤ p ∧ p < 4) (hs : 0 ≤ s ∧ s < 4) : Laid B ⟨0, 4, 0, 0, 0, false, false, p, s, false, noS, noS, noS⟩ (-1)
  | load (w : Nat) (hw : w < B) (z : Bool) : Laid B ⟨0, 1, 4 * w, 0, 0, false, false, 0, 0, z, noS, noS, noS⟩ w
  | store (w : Nat) (hw : w < B) (v : Int) (z : Bool) : Laid B ⟨0, 2, 4 * w, v, 0, false, false, 0, 0, z, noS, noS, noS⟩ (-1)
  | both (w : Nat) (hw : w < B) (v : Int) : Laid B ⟨0, 3, 4 * w, v, 0, false, false, 0, 0, false, noS, noS, noS⟩ w
theorem nth_lt {xs : List R} {y : R} {i : Nat} (h : i < xs.length) : nth (xs ++ [y]) (i : Int) = nth xs (i : Int) := by
  unfold nth
  rw [Int.toNat_natCast, List.getD_eq_getElem?_getD, List.getD_eq_getElem?_getD, List.getElem?_append_left h]
theorem nth_end (xs : List R) (y : R) : nth (xs ++ [y]) (xs.length : Int) = y := by
  unfold nth
  rw [Int.toNat_natCast, List.getD_eq_getElem?_getD, List.getElem?_append_right (Nat.le_refl _)]
  simp
theorem cnt_app (xs : List R) (y : R) (a : Int) : cnt (xs ++ [y]) a = cnt xs a + (if isSt a y then 1 else 0) := by
  unfold cnt
  rw [List.filter_append, List.length_append]
  congr 1
  cases h : isSt a y <;> simp [List.filter, h]
/-- one row of the order -/
structure RowOk (xs : List R) (b : Nat) (l : List Int) : Prop where
  nd : l.Nodup
  hd : l.getD 0 0 = b
  len : l.length = cnt xs (4 * b)
  all : ∀ n ∈ l, ∃ k : Nat, n = k ∧ k < xs.length ∧ stores (nth xs (k : Int)).k = true ∧ (nth xs (k : Int)).a = 4 * b
/-- what is laid so far -/
structure Bld (xs : List R) (fr : List Int) (od : List (List Int)) : Prop where
  fl : fr.length = xs.length
  ol : od.length ≤ xs.length
  beg : ∀ i : Nat, i < od.length → nth xs (i : Int) = begE (4 * i) ∧ fr.getD i 0 = -1
  ev : ∀ i : Nat, od.length ≤ i → i < xs.length → Laid od.length (nth xs (i : Int)) (fr.getD i 0)
  rows : ∀ (b : Nat) (l : List Int), od[b]? = some l → RowOk xs b l
theorem Bld.nil : Bld [] [] [] := ⟨rfl, Nat.le_refl _, fun i h => by simp at h, fun i _ h => by simp at h, fun b l h => by simp at h⟩
theorem RowOk.app {xs b l} (h : RowOk xs b l) {y : R} (hy : isSt (4 * b) y = false) : RowOk (xs ++ [y]) b l :=
  ⟨h.nd, h.hd, by rw [cnt_app, hy]; exact h.len, fun n hn => by
    obtain ⟨k, e, hk, h1, h2⟩ := h.all n hn
    refine ⟨k, e, by rw [List.length_append]; omega, ?_, ?_⟩ <;> rw [nth_lt hk]
    · exact h1
    · exact h2⟩
theorem RowOk.put {xs b l} (h : RowOk xs b l) {y : R} (h1 : stores y.k = true) (h2 : y.a = 4 * b) (hl : 0 < l.length) : RowOk (xs ++ [y]) b (l ++ [(xs.length : Int)]) := by
  refine ⟨?_, ?_, ?_, ?_⟩
  · rw [List.nodup_append]
    refine ⟨h.nd, by simp, fun a ha c hc => ?_⟩
    obtain ⟨k, e, hk, _⟩ := h.all a ha
    have : c = (xs.length : Int) := by simpa using hc
    omega
  · rw [List.getD_eq_getElem?_getD, List.getElem?_append_left hl, ← List.getD_eq_getElem?_getD]; exact h.hd
  · have : isSt (4 * b) y = true := by unfold isSt; rw [h1, h2]; simp
    rw [cnt_app, this, List.length_append, h.len]; rfl
  · intro n hn
    rcases List.mem_append.1 hn with hn | hn
    · obtain ⟨k, e, hk, g1, g2⟩ := h.all n hn
      refine ⟨k, e, by rw [List.length_append]; omega, ?_, ?_⟩ <;> rw [nth_lt hk]
      · exact g1
      · exact g2
    · have : n = (xs.length : Int) := by simpa using hn
      refine ⟨xs.length, this, by simp, ?_, ?_⟩ <;> rw [nth_end]
      · exact h1
      · exact h2
theorem getD_lt {l : List Int} {n : Int} {i : Nat} (h : i < l.length) : (l ++ [n]).getD i 0 = l.getD i 0 := by
  rw [List.getD_eq_getElem?_getD, List.getElem?_append_left h, ← List.getD_eq_getElem?_getD]
theorem getD_end {l : List Int} {n : Int} {i : Nat} (h : i = l.length) : (l ++ [n]).getD i 0 = n := by
  subst h; rw [List.getD_eq_getElem?_getD, List.getElem?_append_right (Nat.le_refl _)]; simp
/-- as long as there are EvBegins alone, no address stands twice -/
theorem Bld.cnt0 {xs fr od} (h : Bld xs fr od) (he : xs.length = od.length) : cnt xs (4 * (xs.length : Int)) = 0 := by
  unfold cnt
  rw [List.length_eq_zero_iff, List.filter_eq_nil_iff]
  intro y hy
  obtain ⟨i, hi, rfl⟩ := List.mem_iff_getElem.1 hy
  have hb := (h.beg i (by omega)).1
  rw [nth_get hi] at hb
  rw [hb]
  unfold isSt begE
  simp only [Bool.and_eq_true, beq_iff_eq, not_and]
  intro _; omega
/-- one EvBegin more -/
theorem Bld.begin {xs fr od} (h : Bld xs fr od) (he : xs.length = od.length) : Bld (xs ++ [begE (4 * (xs.length : Int))]) (fr ++ [-1]) (od ++ [[(xs.length : Int)]]) := by
  refine ⟨by simp [h.fl], by simp [he], fun i hi => ?_, fun i h1 h2 => ?_, fun b l hb => ?_⟩
  · rw [List.length_append] at hi
    by_cases hx : i < od.length
    · rw [nth_lt (by omega), getD_lt (by have := h.fl; omega)]; exact h.beg i hx
    · have hi' : i = xs.length := by simp at hi; omega
      subst hi'
      rw [nth_end, getD_end h.fl.symm]; exact ⟨rfl, rfl⟩
  · simp at h1 h2; omega
  · by_cases hx : b < od.length
    · rw [List.getElem?_append_left hx] at hb
      refine (h.rows b l hb).app ?_
      unfold isSt begE
      have : (4 * (xs.length : Int) == 4 * (b : Int)) = false := by rw [beq_eq_false_iff_ne]; omega
      rw [this, Bool.and_false]
    · have hb' : b = od.length := by
        have := (List.getElem?_eq_some_iff.1 hb).1; simp at this; omega
      subst hb'
      rw [List.getElem?_append_right (Nat.le_refl _)] at hb
      have hl : l = [(xs.length : Int)] := by simpa using hb.symm
      subst hl
      refine ⟨by simp, by simp [he], ?_, fun n hn => ?_⟩
      · rw [cnt_app, ← he, h.cnt0 he]; unfold isSt begE; simp [stores]
      · have : n = (xs.length : Int) := by simpa using hn
        refine ⟨xs.length, this, by simp, ?_, ?_⟩ <;> rw [nth_end]
        · rfl
        · unfold begE; simp [he]
/-- one event more that stores nothing -/
theorem Bld.more {xs fr od} (h : Bld xs fr od) {y : R} {f : Int} (hy : Laid od.length y f) (hs : stores y.k = false) : Bld (xs ++ [y]) (fr ++ [f]) od := by
  refine ⟨by simp [h.fl], by have := h.ol; simp; omega, fun i hi => ?_, fun i h1 h2 => ?_, fun b l hb => ?_⟩
  · have := h.ol; have := h.fl
    rw [nth_lt (by omega), getD_lt (by omega)]; exact h.beg i hi
  · by_cases hx : i < xs.length
    · rw [nth_lt hx, getD_lt (by have := h.fl; omega)]; exact h.ev i h1 hx
    · have hi' : i = xs.length := by simp at h2; omega
      subst hi'
      rw [nth_end, getD_end h.fl.symm]; exact hy
  · exact (h.rows b l hb).app (by unfold isSt; rw [hs]; rfl)
/-- one event more that stores -/
theorem Bld.put {xs fr od} (h : Bld xs fr od) {y : R} {f : Int} (hy : Laid od.length y f) (hs : stores y.k = true) {w : Nat} {l : List Int} (hw : od[w]? = some l) (ha : y.a = 4 * w) : Bld (xs ++ [y]) (fr ++ [f]) (od.set w (l ++ [(xs.length : Int)])) := by
  have hl : (od.set w (l ++ [(xs.length : Int)])).length = od.length := by simp
  have hlt := (List.getElem?_eq_some_iff.1 hw).1
  refine ⟨by simp [h.fl], by have := h.ol; simp; omega, fun i hi => ?_, fun i h1 h2 => ?_, fun b m hb => ?_⟩
  · rw [hl] at hi
    have := h.ol; have := h.fl
    rw [nth_lt (by omega), getD_lt (by omega)]; exact h.beg i hi
  · rw [hl] at h1 ⊢
    by_cases hx : i < xs.length
    · rw [nth_lt hx, getD_lt (by have := h.fl; omega)]; exact h.ev i h1 hx
    · have hi' : i = xs.length := by simp at h2; omega
      subst hi'
      rw [nth_end, getD_end h.fl.symm]; exact hy
  · by_cases hx : b = w
    · subst hx
      rw [List.getElem?_set_self hlt] at hb
      obtain rfl : l ++ [(xs.length : Int)] = m := by simpa using hb
      have hr := h.rows b l hw
      refine hr.put hs ha ?_
      rw [hr.len]
      have hb0 := (h.beg b hlt).1
      have hbx : b < xs.length := by have := h.ol; omega
      rw [nth_get hbx] at hb0
      unfold cnt
      refine List.length_pos_of_mem (a := xs[b]) (List.mem_filter.2 ⟨List.getElem_mem hbx, ?_⟩)
      rw [hb0]; unfold isSt begE; simp [stores]
    · rw [List.getElem?_set_ne (fun e => hx e.symm)] at hb
      refine (h.rows b m hb).app ?_
      unfold isSt
      have : (y.a == 4 * (b : Int)) = false := by rw [beq_eq_false_iff_ne]; omega
      rw [this, Bool.and_false]
/-- what an event is, whichever -/
theorem Bld.one {xs fr od} (h : Bld xs fr od) {i : Nat} (hi : i < xs.length) : (i < od.length ∧ nth xs (i : Int) = begE (4 * i) ∧ fr.getD i 0 = -1) ∨ (od.length ≤ i ∧ Laid od.length (nth xs (i : Int)) (fr.getD i 0)) := by
  by_cases hx : i < od.length
  · exact .inl ⟨hx, h.beg i hx⟩
  · exact .inr ⟨by omega, h.ev i (by omega) hi⟩
theorem begE_parts (a : Int) (h : a % 4 = 0) : partsOk (begE a) = true := by
  rw [parts_bare]; unfold begE; simp [bare, bareK, inB, stores, loads, h]
theorem laid_parts {B : Nat} {y : R} {f : Int} (h : Laid B y f) : partsOk y = true := by
  rw [parts_bare]
  cases h with
  | fence p s hp hs => simp [bare, bareK, inB, stores, loads, hp.1, hp.2, hs.1, hs.2]
  | load w hw z => simp [bare, bareK, inB, stores, loads, Int.mul_emod_right]
  | store w hw v z => simp [bare, bareK, inB, stores, loads, Int.mul_emod_right]
  | both w hw v => simp [bare, bareK, inB, stores, loads, Int.mul_emod_right]
theorem laid_deps {B : Nat} {y : R} {f : Int} (h : Laid B y f) : y.d1 = noS ∧ y.d2 = noS ∧ y.d3 = noS ∧ y.h = 0 ∧ y.k ≠ 5 := by
  cases h <;> exact ⟨rfl, rfl, rfl, rfl, by simp⟩
theorem deps_no {xs : List R} {n : Int} (h : (nth xs n).d1 = noS ∧ (nth xs n).d2 = noS ∧ (nth xs n).d3 = noS) : depsOk xs n = true := by
  unfold depsOk deps
  rw [h.1, h.2.1, h.2.2]
  simp [hangGo]
theorem Bld.evsOk {xs fr od} (h : Bld xs fr od) : evsOk xs = true := by
  unfold Ev.evsOk begun
  rw [Bool.and_eq_true]
  constructor
  · rw [List.all_eq_true]
    intro i hi
    have hi : i < xs.length := by simpa using hi
    unfold evAt
    rcases h.one hi with ⟨h1, h2, h3⟩ | ⟨h1, h2⟩
    · rw [deps_no (by rw [h2]; exact ⟨rfl, rfl, rfl⟩), h2, begE_parts _ (by omega)]
      by_cases h0 : i = 0
      · subst h0; simp
      · have he : ((i : Int) - 1) = ((i - 1 : Nat) : Int) := by omega
        rw [he, (h.beg (i - 1) (by omega)).1]
        have : follow (begE (4 * ((i - 1 : Nat) : Int))) (begE (4 * (i : Int))) = true := by
          unfold follow begE; simp; omega
        rw [this]; simp
    · have hd := laid_deps h2
      rw [deps_no ⟨hd.1, hd.2.1, hd.2.2.1⟩, laid_parts h2]
      by_cases h0 : i = 0
      · subst h0; simp
      · have he : ((i : Int) - 1) = ((i - 1 : Nat) : Int) := by omega
        have : follow (nth xs ((i : Int) - 1)) (nth xs (i : Int)) = true := by
          unfold follow
          rw [if_neg (fun hh => hd.2.2.2.2 hh.1), he, hd.2.2.2.1]
          rcases h.one (show i - 1 < xs.length by omega) with ⟨_, g, _⟩ | ⟨_, g⟩
          · rw [g]; rfl
          · rw [(laid_deps g).2.2.2.1]; rfl
        rw [this]; simp
  · rw [List.all_eq_true]
    intro i hi
    have hi : i < xs.length := by simpa using hi
    unfold begunAt
    rcases h.one hi with ⟨h1, h2, h3⟩ | ⟨h1, h2⟩
    · rw [h2]; rfl
    · have hw : ∀ w : Nat, w < od.length → (nth xs (i : Int)).a = 4 * w → ((xs.take i).any (isBeg (nth xs (i : Int)).a)) = true := by
        intro w hw ha
        rw [List.any_eq_true]
        have hwx : w < xs.length := by omega
        refine ⟨xs[w], ?_, ?_⟩
        · exact List.mem_take_iff_getElem.2 ⟨w, by omega, rfl⟩
        · have := (h.beg w hw).1
          rw [nth_get hwx] at this
          rw [this, ha]; unfold isBeg begE; simp
      revert hw
      generalize nth xs (i : Int) = y at h2
      generalize fr.getD i 0 = f at h2
      intro hw
      cases h2 with
      | fence p s hp hs => rfl
      | load w hw' z => rw [hw w hw' rfl]; simp
      | store w hw' v z => rw [hw w hw' rfl]; simp
      | both w hw' v => rw [hw w hw' rfl]; simp
theorem Bld.fromOk {xs fr od} (h : Bld xs fr od) : fromOk xs fr = true := by
  unfold Ev.fromOk
  rw [Bool.and_eq_true]
  refine ⟨by simp [h.fl], ?_⟩
  rw [List.all_eq_true]
  intro i hi
  have hi : i < xs.length := by simpa using hi
  unfold fromAt
  rcases h.one hi with ⟨h1, h2, h3⟩ | ⟨h1, h2⟩
  · rw [h2, h3]; rfl
  · have hw : ∀ w : Nat, w < od.length → (nth xs (i : Int)).a = 4 * w → (nth xs (i : Int)).r = 0 → readOk xs (i : Int) (w : Int) = true := by
      intro w hw ha hr
      unfold readOk inB
      rw [(h.beg w hw).1, ha, hr]
      unfold begE
      have e1 : decide ((w : Int) < (xs.length : Int)) = true := decide_eq_true (by omega)
      have e2 : ((w : Int) == (i : Int)) = false := by rw [beq_eq_false_iff_ne]; omega
      have e3 : decide (0 ≤ (w : Int)) = true := decide_eq_true (by omega)
      rw [e1, e2, e3]; simp [stores]
    revert hw h2
    generalize nth xs (i : Int) = y
    generalize fr.getD i 0 = f
    intro h2 hw
    cases h2 with
    | fence p s hp hs => rfl
    | load w hw' z => rw [hw w hw' rfl rfl]; rfl
    | store w hw' v z => rfl
    | both w hw' v => rw [hw w hw' rfl rfl]; rfl
theorem Bld.begs {xs fr od} (h : Bld xs fr od) : Ev.beg xs = od.length := by
  unfold Ev.beg
  have e : xs = xs.take od.length ++ xs.drop od.length := (List.take_append_drop _ _).symm
  have h1 : (xs.take od.length).filter (fun e => e.k == 5) = xs.take od.length := by
    rw [List.filter_eq_self]
    intro y hy
    obtain ⟨i, hi, rfl⟩ := List.mem_take_iff_getElem.1 hy
    have hb := (h.beg i (by omega)).1
    rw [nth_get (by omega)] at hb
    rw [hb]; rfl
  have h2 : (xs.drop od.length).filter (fun e => e.k == 5) = [] := by
    rw [List.filter_eq_nil_iff]
    intro y hy
    obtain ⟨i, hi, rfl⟩ := List.mem_iff_getElem.1 hy
    rw [List.getElem_drop]
    have hlt : od.length + i < xs.length := by simp at hi; omega
    have hb := h.ev (od.length + i) (by omega) hlt
    rw [nth_get hlt] at hb
    simpa using (laid_deps hb).2.2.2.2
  rw [e, List.filter_append, h1, h2, List.append_nil, List.length_take]
  have := h.ol; omega
theorem Bld.orderOk {x : X} (h : Bld x.ev x.fr.l (x.od.map (·.l))) : orderOk x.ev x.od = true := by
  unfold Ev.orderOk
  rw [Bool.and_eq_true]
  refine ⟨by rw [h.begs]; simp, ?_⟩
  rw [List.all_eq_true]
  intro b hb
  have hb : b < x.od.length := by simpa using hb
  unfold orderAt
  rw [List.getElem?_eq_getElem hb]
  have hr := h.rows b (x.od[b]).l (by rw [List.getElem?_map, List.getElem?_eq_getElem hb]; rfl)
  have h0 := (h.beg b (by simpa using hb)).1
  show ((x.od[b]).l.length == cnt x.ev (nth x.ev (b : Int)).a && (x.od[b]).l.getD 0 0 == (b : Int) && onceOk x.ev (x.od[b]).l) = true
  rw [hr.hd, hr.len, h0]
  have ho : onceOk x.ev (x.od[b]).l = true := by
    unfold onceOk
    rw [Bool.and_eq_true, hr.hd]
    refine ⟨?_, decide_eq_true hr.nd⟩
    rw [List.all_eq_true]
    intro n hn
    obtain ⟨k, rfl, hk, g1, g2⟩ := hr.all n hn
    unfold onceAt inB
    rw [g1, g2, h0]
    have e1 : decide ((k : Int) < (x.ev.length : Int)) = true := decide_eq_true (by omega)
    have e3 : decide (0 ≤ (k : Int)) = true := decide_eq_true (by omega)
    rw [e1, e3]; unfold begE; simp
  rw [ho]; unfold begE; simp
/-- what is laid so may be -/
theorem Bld.check {x : X} (h : Bld x.ev x.fr.l (x.od.map (·.l))) (hl : x.ev.length ≤ 64) : check x = 0 := by
  unfold Ev.check
  rw [if_neg (by omega), if_neg (by rw [h.evsOk]; simp), if_neg (by rw [h.fromOk]; simp), if_neg (by rw [h.orderOk]; simp)]
end Ev
end Go.Proofs.Ytoicmhidmknfiaa
