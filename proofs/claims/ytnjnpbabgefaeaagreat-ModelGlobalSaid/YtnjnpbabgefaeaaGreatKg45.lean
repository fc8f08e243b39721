import Derived.Test.YtnjnpbabgefaeaaGreatKg43
import Derived.Test.YtnjnpbabgefaeaaGreatKg18
import Derived.Test.YtnjnpbabgefaeaaGreatKg27
import Derived.Test.YtnjnpbabgefaeaaGreatKg19
set_option linter.unusedVariables false
set_option linter.unusedSimpArgs false

section
namespace Go.Proofs.YtnjnpbabgefaeaaGreat
open Go.RowKit
namespace Ev
theorem chk_evs {x : X} (h : check x = 0) : evsOk x.ev = true := by
  unfold check at h
  split at h
  · cases h
  split at h
  · cases h
  · rename_i h1 h2; simpa using h2
structure EvOk (e : R) : Prop where
  k : 1 ≤ e.k ∧ e.k ≤ 5
  h5 : e.k = 5 → e.h = -1
  h0 : e.k ≠ 5 → 0 ≤ e.h
  p : 0 ≤ e.p ∧ e.p < 4
  s : 0 ≤ e.s ∧ e.s < 4
  z : e.z = true → e.k = 1 ∨ e.k = 2
theorem ev_ok {x : X} (hc : check x = 0) {i : Nat} (hi : i < x.ev.length) : EvOk (nth x.ev i) := by
  have h := evs_all (chk_evs hc) i hi
  unfold evAt at h
  simp only [Bool.and_eq_true] at h
  have hp := h.1.1
  generalize nth x.ev (i : Int) = e at hp
  unfold partsOk hartOk inB at hp
  simp only [Bool.and_eq_true, bne_iff_ne, Bool.not_eq_true', decide_eq_true_eq, beq_iff_eq] at hp
  obtain ⟨⟨⟨⟨⟨h1, h2⟩, h3⟩, h4⟩, h5⟩, h6⟩ := hp
  have hk : e.k = 1 ∨ e.k = 2 ∨ e.k = 3 ∨ e.k = 4 ∨ e.k = 5 := by
    apply Classical.byContradiction; intro hn
    exact h1 (parts_no (fun e => hn (.inl e)) (fun e => hn (.inr (.inl e))) (fun e => hn (.inr (.inr (.inl e)))) (fun e => hn (.inr (.inr (.inr (.inl e))))) (fun e => hn (.inr (.inr (.inr (.inr e))))))
  refine ⟨by omega, fun e5 => ?_, fun e5 => ?_, h5, h6, fun hz => ?_⟩
  · rw [if_pos e5] at h3; simpa using h3
  · rw [if_neg e5] at h3
    simp only [Bool.and_eq_true, decide_eq_true_eq] at h3
    exact h3.1
  · rcases hk with h | h | h | h | h
    · exact .inl h
    · exact .inr h
    · rw [extra3 h, hz] at h2; simp at h2
    · rw [extra4 h, hz] at h2; simp at h2
    · rw [extra5 h, hz] at h2; simp at h2
theorem hart_le {x : X} (hc : check x = 0) {i : Nat} : ∀ j : Nat, i ≤ j → j < x.ev.length → (nth x.ev i).h ≤ (nth x.ev j).h
  | 0, hij, hj => by rw [show i = 0 by omega]; exact Int.le_refl _
  | j + 1, hij, hj => by
    by_cases e : i = j + 1
    · rw [e]; exact Int.le_refl _
    · have ih := hart_le hc (i := i) j (by omega) (by omega)
      have h := evs_all (chk_evs hc) (j + 1) hj
      unfold evAt at h
      simp only [Bool.and_eq_true, Bool.or_eq_true] at h
      have hf : follow (nth x.ev (j : Int)) (nth x.ev ((j + 1 : Nat) : Int)) = true := by
        rcases h.2 with h | h
        · simp at h
        · rw [show (((j + 1 : Nat) : Int) - 1) = (j : Int) by omega] at h; exact h
      unfold follow at hf
      split at hf
      · rename_i h5
        have h1 := (ev_ok hc hj).h5 h5.1
        have h2 := (ev_ok hc (show j < x.ev.length by omega)).h5 h5.2
        rw [h1]; rw [h2] at ih; exact ih
      · have := of_decide_eq_true hf
        omega
theorem fr_ok {x : X} (hc : check x = 0) {b : Nat} (hb : b < x.ev.length) : (loads (nth x.ev b).k = true ∧ ∃ f : Nat, f < x.ev.length ∧ frAt x b = f ∧ stores (nth x.ev f).k = true) ∨ (loads (nth x.ev b).k = false ∧ frAt x b = -1) := by
  obtain ⟨_, h2, _⟩ := check_order hc
  unfold fromOk at h2
  simp only [Bool.and_eq_true, beq_iff_eq, List.all_eq_true] at h2
  have h := h2.2 b (List.mem_range.2 hb)
  unfold fromAt at h
  cases hl : loads (nth x.ev b).k with
  | true =>
    rw [if_pos hl] at h
    unfold readOk inB at h
    simp only [Bool.and_eq_true, decide_eq_true_eq] at h
    obtain ⟨⟨⟨⟨⟨h1, h2⟩, h3⟩, h4⟩, h5⟩, h6⟩ := h
    refine .inl ⟨rfl, (x.fr.l.getD b 0).toNat, by omega, by unfold frAt; omega, ?_⟩
    rw [show (((x.fr.l.getD b 0).toNat : Nat) : Int) = x.fr.l.getD b 0 by omega]; exact h4
  | false =>
    rw [if_neg (by rw [hl]; simp)] at h
    exact .inr ⟨rfl, by unfold frAt; simpa using h⟩
theorem pairGo_iff (xs : List R) (e : R) (a : Nat) : ∀ b : Nat, pairGo xs e b = (a : Int) ↔ (a < b ∧ (∀ m : Nat, a < m → m < b → (nth xs m).h = e.h ∧ (nth xs m).z = false) ∧ (nth xs a).h = e.h ∧ (nth xs a).z = true ∧ (nth xs a).k ≠ 2 ∧ (nth xs a).a = e.a)
  | 0 => by
    constructor
    · intro h; unfold pairGo at h; omega
    · intro h; omega
  | b + 1 => by
    have ih := pairGo_iff xs e a b
    unfold pairGo
    have no : ((-1 : Int) = (a : Int)) ↔ False := ⟨fun h => by omega, fun h => h.elim⟩
    have two : a < b + 1 → a = b ∨ a < b := fun h => by omega
    by_cases h1 : (nth xs b).h ≠ e.h
    · rw [if_pos h1, no]
      refine ⟨False.elim, fun h => ?_⟩
      rcases two h.1 with rfl | h2
      · exact h1 h.2.2.1
      · exact h1 (h.2.1 b h2 (by omega)).1
    rw [if_neg h1]
    have h1 : (nth xs b).h = e.h := Classical.not_not.1 h1
    by_cases h2 : ((nth xs b).z && (nth xs b).k == 2) = true
    · rw [if_pos h2, no]
      simp only [Bool.and_eq_true, beq_iff_eq] at h2
      refine ⟨False.elim, fun h => ?_⟩
      rcases two h.1 with rfl | h3
      · exact h.2.2.2.2.1 h2.2
      · have := (h.2.1 b h3 (Nat.lt_succ_self b)).2
        rw [h2.1] at this; cases this
    rw [if_neg h2]
    by_cases h3 : (nth xs b).z = true
    · rw [if_pos h3]
      have hk : (nth xs b).k ≠ 2 := fun e => h2 (by rw [h3, e]; rfl)
      by_cases h4 : (nth xs b).a = e.a
      · rw [if_pos h4]
        constructor
        · intro h
          obtain rfl : b = a := by omega
          exact ⟨by omega, fun m _ _ => by omega, h1, h3, hk, h4⟩
        · intro h
          rcases two h.1 with rfl | h5
          · rfl
          · have := (h.2.1 b h5 (by omega)).2
            rw [h3] at this; cases this
      · rw [if_neg h4, no]
        refine ⟨False.elim, fun h => ?_⟩
        rcases two h.1 with rfl | h5
        · exact h4 h.2.2.2.2.2
        · have := (h.2.1 b h5 (by omega)).2
          rw [h3] at this; cases this
    · rw [if_neg h3, ih]
      have h3 : (nth xs b).z = false := by simpa using h3
      constructor
      · intro h
        refine ⟨by omega, fun m hm1 hm2 => ?_, h.2.2⟩
        rcases Nat.lt_succ_iff_lt_or_eq.1 hm2 with h5 | rfl
        · exact h.2.1 m hm1 h5
        · exact ⟨h1, h3⟩
      · intro h
        refine ⟨?_, fun m hm1 hm2 => h.2.1 m hm1 (by omega), h.2.2⟩
        rcases two h.1 with rfl | h5
        · have := h.2.2.2.1; rw [h3] at this; cases this
        · exact h5
theorem paired_iff (x : X) (a b : Nat) : paired x b = (a : Int) ↔ ((nth x.ev b).k = 2 ∧ (nth x.ev b).z = true ∧ pairGo x.ev (nth x.ev b) b = (a : Int)) := by
  unfold paired
  by_cases h : ((nth x.ev b).k != 2 || !(nth x.ev b).z) = true
  · rw [if_pos h]
    simp only [Bool.or_eq_true, bne_iff_ne, Bool.not_eq_true'] at h
    constructor
    · intro h2; omega
    · rintro ⟨h1, h2, _⟩
      rcases h with h | h
      · exact absurd h1 h
      · rw [h2] at h; cases h
  · rw [if_neg h]
    have h : ((nth x.ev b).k != 2 || !(nth x.ev b).z) = false := by simpa using h
    simp only [Bool.or_eq_false_iff, bne_eq_false_iff_eq, Bool.not_eq_false'] at h
    exact ⟨fun h2 => ⟨h.1, h.2, h2⟩, fun h2 => h2.2.2⟩
theorem paired_lo (x : X) (b : Nat) : paired x b = -1 ∨ ∃ a : Nat, a < b ∧ paired x b = a := by
  unfold paired
  split
  · exact .inl rfl
  · have : ∀ n, pairGo x.ev (nth x.ev b) n = -1 ∨ ∃ a : Nat, a < n ∧ pairGo x.ev (nth x.ev b) n = a := by
      intro n
      induction n with
      | zero => exact .inl rfl
      | succ n ih =>
        unfold pairGo
        split
        · exact .inl rfl
        split
        · exact .inl rfl
        split
        · split
          · exact .inr ⟨n, by omega, rfl⟩
          · exact .inl rfl
        · rcases ih with h | ⟨a, h1, h2⟩
          · exact .inl h
          · exact .inr ⟨a, by omega, h2⟩
    exact this b
end Ev
namespace Or
open Ev
theorem ms_upTo (a b : Nat) : ms a b = upTo a b := rfl
structure Two (x : X) (a b : Nat) : Prop where
  lt : a < b
  h : (nth x.ev a).h = (nth x.ev b).h
  ka : (nth x.ev a).k = 1 ∨ (nth x.ev a).k = 2 ∨ (nth x.ev a).k = 3
  kb : (nth x.ev b).k = 1 ∨ (nth x.ev b).k = 2 ∨ (nth x.ev b).k = 3
theorem acc_iff {e : Ev.R} (h : EvOk e) : acc e = true ↔ (e.k = 1 ∨ e.k = 2 ∨ e.k = 3) := by
  have hk := h.k
  have : e.k = 1 ∨ e.k = 2 ∨ e.k = 3 ∨ e.k = 4 ∨ e.k = 5 := by omega
  unfold acc loads stores
  rcases this with h | h | h | h | h <;> rw [h] <;> decide
theorem two_of {x : X} (hc : check x = 0) {a b : Nat} (ha : a < x.ev.length) (hb : b < x.ev.length) (h : kept x a b = true) : Two x a b := by
  unfold kept at h
  simp only [Bool.and_eq_true, decide_eq_true_eq, beq_iff_eq] at h
  exact ⟨h.1.1.1, h.1.1.2, (acc_iff (ev_ok hc ha)).1 h.1.2, (acc_iff (ev_ok hc hb)).1 h.2⟩
theorem kept_of {x : X} (hc : check x = 0) {a b : Nat} (ha : a < x.ev.length) (hb : b < x.ev.length) (h1 : isPo x a b = true) (h2 : (nth x.ev a).k ≠ 4) (h3 : (nth x.ev b).k ≠ 4) : kept x a b = true := by
  unfold isPo at h1
  simp only [Bool.and_eq_true, decide_eq_true_eq, beq_iff_eq] at h1
  have ea := ev_ok hc ha; have eb := ev_ok hc hb
  have n5 : (nth x.ev a).k ≠ 5 := fun e => by have := ea.h5 e; omega
  have m5 : (nth x.ev b).k ≠ 5 := fun e => by have := eb.h5 e; omega
  have ka := ea.k; have kb := eb.k
  unfold kept
  rw [(acc_iff ea).2 (by omega), (acc_iff eb).2 (by omega)]
  simp [h1.1.1, h1.2]
theorem Two.po {x : X} (hc : check x = 0) {a b : Nat} (ha : a < x.ev.length) (h : Two x a b) : isPo x a b = true ∧ (nth x.ev a).k ≠ 4 ∧ (nth x.ev b).k ≠ 4 := by
  have h0 := (ev_ok hc ha).h0 (by have := h.ka; omega)
  refine ⟨?_, by have := h.ka; omega, by have := h.kb; omega⟩
  unfold isPo
  rw [← h.h]
  simp [h.lt, h0]
theorem Two.mid {x : X} (hc : check x = 0) {a b m : Nat} (hb : b < x.ev.length) (h : Two x a b) (h1 : a < m) (h2 : m < b) : (nth x.ev m).h = (nth x.ev b).h := by
  have e1 := hart_le hc (i := a) m (by omega) (by omega)
  have e2 := hart_le hc (i := m) b (by omega) hb
  have := h.h
  omega
theorem isIn_eq {n : Int} {e : Ev.R} (h : 0 ≤ n ∧ n < 4) : isIn n e = inSet n e := by
  have : n = 0 ∨ n = 1 ∨ n = 2 ∨ n = 3 := by omega
  unfold isIn inSet
  rcases this with rfl | rfl | rfl | rfl
  · rw [show (bits .and .i64 0 1 != 0) = false by decide, show (bits .and .i64 0 2 != 0) = false by decide, show ((0 : Int).tmod 2 == 1) = false by decide, show decide ((2 : Int) ≤ 0) = false by decide]
  · rw [show (bits .and .i64 1 1 != 0) = true by decide, show (bits .and .i64 1 2 != 0) = false by decide, show ((1 : Int).tmod 2 == 1) = true by decide, show decide ((2 : Int) ≤ 1) = false by decide]
  · rw [show (bits .and .i64 2 1 != 0) = false by decide, show (bits .and .i64 2 2 != 0) = true by decide, show ((2 : Int).tmod 2 == 1) = false by decide, show decide ((2 : Int) ≤ 2) = true by decide]
  · rw [show (bits .and .i64 3 1 != 0) = true by decide, show (bits .and .i64 3 2 != 0) = true by decide, show ((3 : Int).tmod 2 == 1) = true by decide, show decide ((2 : Int) ≤ 3) = true by decide]
theorem any_congr {α : Type} {l : List α} {p q : α → Bool} (h : ∀ m ∈ l, p m = q m) : l.any p = l.any q := by
  induction l with
  | nil => rfl
  | cons a r ih => rw [List.any_cons, List.any_cons, h a List.mem_cons_self, ih fun m hm => h m (List.mem_cons_of_mem _ hm)]
theorem any_and {α : Type} {l : List α} {c : Bool} {p : α → Bool} : (c && l.any p) = l.any fun m => c && p m := by
  cases c
  · simp
  · simp
theorem ms_lt {a b m : Nat} (h : m ∈ ms a b) : a < m ∧ m < b := ms_mem.1 h
theorem eq1 (x : X) (a b : Nat) : r1 x a b = ruleOf x 1 a b := by
  show (stores (nth x.ev b).k && (nth x.ev a).a == (nth x.ev b).a) = ((nth x.ev a).a == (nth x.ev b).a && stores (nth x.ev b).k)
  exact Bool.and_comm _ _
theorem eq2 (x : X) (a b : Nat) : r2 x a b = ruleOf x 2 a b := by
  rw [rule2_is]
  unfold r2 oneW
  congr 1
  rw [ms_upTo, List.not_any_eq_all_not]
  congr 1
  funext m
  unfold p2 cl oneW
  congr 2
  rw [Bool.eq_iff_iff]; simp only [beq_iff_eq]; exact ⟨Eq.symm, Eq.symm⟩
theorem eq3 {x : X} (hc : check x = 0) {a b : Nat} (ha : a < x.ev.length) (hb : b < x.ev.length) (h : Two x a b) : r3 x a b = ruleOf x 3 a b := by
  show (atom (nth x.ev a) && frAt x b == (a : Int)) = (((nth x.ev a).k == 3 || ((nth x.ev a).k == 2 && (nth x.ev a).z)) && frAt x b == (a : Int))
  unfold atom
  cases hf : frAt x b == (a : Int) with
  | false => simp
  | true =>
    have hf : frAt x b = (a : Int) := by simpa using hf
    rcases fr_ok hc hb with ⟨_, f, hfl, e, hs⟩ | ⟨_, e⟩
    · obtain rfl : f = a := by omega
      have hk : (nth x.ev f).k = 2 ∨ (nth x.ev f).k = 3 := by
        rcases h.ka with k | k | k
        · rw [k] at hs; cases hs
        · exact .inl k
        · exact .inr k
      rcases hk with k | k <;> rw [k] <;> simp
    · omega
theorem eq4 {x : X} (hc : check x = 0) {a b : Nat} (hb : b < x.ev.length) : r4 x a b = ruleOf x 4 a b := by
  rw [rule4_is]
  unfold r4
  rw [ms_upTo]
  refine any_congr fun m hm => ?_
  have hm := ms_lt hm
  have em := ev_ok hc (show m < x.ev.length by omega)
  show p4 x a b m = ((nth x.ev m).k == 4 && inSet (nth x.ev m).p (nth x.ev a) && inSet (nth x.ev m).s (nth x.ev b))
  unfold p4
  rw [isIn_eq em.p, isIn_eq em.s]
theorem eq7 (x : X) (a b : Nat) : r7 x a b = ruleOf x 7 a b := by
  show (mark (nth x.ev a) && mark (nth x.ev b)) = (strong (nth x.ev a) && strong (nth x.ev b))
  have : ∀ e : Ev.R, mark e = strong e := fun e => by unfold mark strong atom; exact Bool.and_comm _ _
  rw [this, this]
theorem eq8 {x : X} (hc : check x = 0) {a b : Nat} (ha : a < x.ev.length) (hb : b < x.ev.length) (h : Two x a b) : r8 x a b = ruleOf x 8 a b := by
  show r8 x a b = (paired x b == (a : Int))
  rw [Bool.eq_iff_iff, beq_iff_eq, paired_iff, pairGo_iff]
  unfold r8 oneW
  simp only [Bool.and_eq_true, beq_iff_eq, Bool.not_eq_true', List.any_eq_false]
  have ea := ev_ok hc ha; have eb := ev_ok hc hb
  constructor
  · rintro ⟨⟨⟨⟨⟨h1, h2⟩, h3⟩, h4⟩, h5⟩, h6⟩
    refine ⟨?_, h3, h.lt, fun m hm1 hm2 => ⟨h.mid hc hb hm1 hm2, ?_⟩, h.h, h1, ?_, h5⟩
    · rcases eb.z h3 with k | k
      · rw [k] at h4; cases h4
      · exact k
    · have := h6 m (ms_mem.2 ⟨hm1, hm2⟩)
      simpa [p8] using this
    · intro k; rw [k] at h2; cases h2
  · rintro ⟨h1, h2, h3, h4, h5, h6, h7, h8⟩
    refine ⟨⟨⟨⟨⟨h6, ?_⟩, h2⟩, by rw [h1]; rfl⟩, h8⟩, fun m hm => ?_⟩
    · rcases ea.z h6 with k | k
      · rw [k]; rfl
      · exact absurd k h7
    · have hm := ms_lt hm
      have := (h4 m hm.1 hm.2).2
      unfold p8; rw [this]; simp
theorem eq12 {x : X} (hc : check x = 0) {a b : Nat} (hb : b < x.ev.length) : r12 x a b = ruleOf x 12 a b := by
  rw [rule12_is]
  unfold r12
  rw [ms_upTo]
  refine any_congr fun m hm => ?_
  have hm := ms_lt hm
  show (frAt x b == (m : Int) && (r9 x a m || r10 x a m)) = (loads (nth x.ev b).k && stores (nth x.ev m).k && frAt x b == (m : Int) && (decide (0 ≤ at_ (nth x.ev m).d1.l (a : Int)) || decide (0 ≤ at_ (nth x.ev m).d2.l (a : Int))))
  cases hf : frAt x b == (m : Int) with
  | false => simp
  | true =>
    have hf : frAt x b = (m : Int) := by simpa using hf
    rcases fr_ok hc hb with ⟨hl, f, hfl, e, hs⟩ | ⟨_, e⟩
    · obtain rfl : f = m := by omega
      rw [hl, hs]; rfl
    · omega
theorem eq13 (x : X) (a b : Nat) : r13 x a b = ruleOf x 13 a b := by
  rw [rule13_is]
  unfold r13
  rw [any_and, ms_upTo]
  rfl
theorem rule_eq {x : X} (hc : check x = 0) {a b : Nat} (ha : a < x.ev.length) (hb : b < x.ev.length) (i : Nat) (h1 : 1 ≤ i) (h2 : i ≤ 13) : (kept x a b && R x i a b) = rule x (i : Int) a b := by
  cases hk : kept x a b with
  | false =>
    have : rule x (i : Int) a b = false := by
      unfold rule
      by_cases hno : isPo x a b = false ∨ (nth x.ev a).k = 4 ∨ (nth x.ev b).k = 4
      · rw [if_pos hno]
      · have hp : isPo x a b = true := by
          cases h : isPo x a b with
          | true => rfl
          | false => exact absurd (.inl h) hno
        have := kept_of hc ha hb hp (fun h => hno (.inr (.inl h))) (fun h => hno (.inr (.inr h)))
        rw [hk] at this; cases this
    rw [this]; rfl
  | true =>
    have h := two_of hc ha hb hk
    obtain ⟨p1, p2, p3⟩ := h.po hc ha
    have hr : rule x (i : Int) a b = ruleOf x (i : Int) a b := by
      unfold rule; rw [if_neg]; rintro (h | h | h)
      · rw [p1] at h; cases h
      · exact p2 h
      · exact p3 h
    rw [hr, Bool.true_and]
    match i, h1, h2 with
    | 1, _, _ => exact eq1 x a b
    | 2, _, _ => exact eq2 x a b
    | 3, _, _ => exact eq3 hc ha hb h
    | 4, _, _ => exact eq4 hc hb
    | 5, _, _ => rfl
    | 6, _, _ => rfl
    | 7, _, _ => exact eq7 x a b
    | 8, _, _ => exact eq8 hc ha hb h
    | 9, _, _ => rfl
    | 10, _, _ => rfl
    | 11, _, _ => rfl
    | 12, _, _ => exact eq12 hc hb
    | 13, _, _ => exact eq13 x a b
    | i + 14, _, h => exact absurd h (by omega)
theorem hold_eq {x : X} (hc : check x = 0) {a b : Nat} (ha : a < x.ev.length) (hb : b < x.ev.length) : hold x a b = (List.range 14).filter fun (i : Nat) => decide (1 ≤ i) && rule x (i : Int) a b := by
  unfold hold holdTo
  cases hk : kept x a b with
  | false =>
    rw [if_neg (by simp)]
    refine (List.filter_eq_nil_iff.2 fun i hi => ?_).symm
    have hi := List.mem_range.1 hi
    by_cases h1 : 1 ≤ i
    · have := rule_eq hc ha hb i h1 (by omega)
      rw [hk] at this
      rw [← this]; simp
    · simp [h1]
  | true =>
    rw [if_pos rfl]
    refine List.filter_congr fun i hi => ?_
    have hi := List.mem_range.1 hi
    by_cases h1 : 1 ≤ i
    · have := rule_eq hc ha hb i h1 (by omega)
      rw [hk, Bool.true_and] at this
      rw [this]
    · simp [h1]
theorem pairsWith_none {x : X} {b : Nat} : ∀ {n a : Nat}, (∀ c, a ≤ c → c < a + n → (kept x c b && R x 8 c b) = false) → pairsWith x b n a = none
  | 0, a, _ => rfl
  | n + 1, a, h => by
    rw [pairs_succ, h a (Nat.le_refl _) (by omega)]
    exact pairsWith_none fun c h1 h2 => h c (by omega) (by omega)
theorem pairsWith_some {x : X} {b c : Nat} (hc : (kept x c b && R x 8 c b) = true) : ∀ {n a : Nat}, a ≤ c → c < a + n → (∀ d, a ≤ d → d < c → (kept x d b && R x 8 d b) = false) → pairsWith x b n a = some c
  | 0, a, h1, h2, _ => by omega
  | n + 1, a, h1, h2, h => by
    rw [pairs_succ]
    by_cases e : a = c
    · subst e; rw [if_pos hc]
    · rw [h a (Nat.le_refl _) (by omega)]
      exact pairsWith_some hc (by omega) (by omega) fun d h3 h4 => h d (by omega) h4
theorem rule8_iff {x : X} (hc : check x = 0) {a b : Nat} (ha : a < x.ev.length) (hb : b < x.ev.length) : (kept x a b && R x 8 a b) = true ↔ paired x b = (a : Int) := by
  have e := rule_eq hc ha hb 8 (by decide) (by decide)
  rw [e]
  constructor
  · intro h
    unfold rule at h
    split at h
    · cases h
    · have h : (paired x b == (a : Int)) = true := h
      simpa using h
  · intro h
    have hp := (paired_iff x a b).1 h
    have hg := (pairGo_iff x.ev (nth x.ev b) a b).1 hp.2.2
    have eb := ev_ok hc hb; have ea := ev_ok hc ha
    have hb0 := eb.h0 (by rw [hp.1]; decide)
    have ka : (nth x.ev a).k = 1 := by
      rcases ea.z hg.2.2.2.1 with k | k
      · exact k
      · exact absurd k hg.2.2.2.2.1
    have hpo : isPo x a b = true := by
      unfold isPo
      rw [hg.2.2.1]
      simp [hg.1, hb0]
    unfold rule
    rw [if_neg]
    · show (paired x b == (a : Int)) = true
      simpa using h
    · rintro (h | h | h)
      · rw [hpo] at h; cases h
      · rw [ka] at h; cases h
      · rw [hp.1] at h; cases h
theorem pairOf_eq {x : X} (hc : check x = 0) {b : Nat} (hb : b < x.ev.length) : (paired x b = -1 ∧ pairOf x b = none) ∨ (∃ a : Nat, paired x b = a ∧ pairOf x b = some a) := by
  rcases paired_lo x b with h | ⟨a, h1, h2⟩
  · refine .inl ⟨h, pairsWith_none fun c _ h2 => ?_⟩
    cases hh : kept x c b && R x 8 c b with
    | false => rfl
    | true => have := (rule8_iff hc (show c < x.ev.length by omega) hb).1 hh; omega
  · refine .inr ⟨a, h2, pairsWith_some ((rule8_iff hc (by omega) hb).2 h2) (Nat.zero_le _) (by omega) fun d _ h4 => ?_⟩
    cases hh : kept x d b && R x 8 d b with
    | false => rfl
    | true => have := (rule8_iff hc (show d < x.ev.length by omega) hb).1 hh; omega
theorem pl_congr {p q : Nat → Nat → Bool} {n : Nat} : ∀ {k : Nat}, (∀ a b, a < k → b < n → p a b = q a b) → pl p n k = pl q n k
  | 0, _ => rfl
  | k + 1, h => by
    rw [pl_succ, pl_succ, pl_congr fun a b ha hb => h a b (by omega) hb]
    congr 1
    unfold rowL
    rw [List.filter_congr fun b hb => h k b (by omega) (List.mem_range.1 hb)]
end Or
end Go.Proofs.YtnjnpbabgefaeaaGreat
end

section
namespace Go.Proofs.YtnjnpbabgefaeaaGreat
open Go.RowKit Go.Maps Go.WideElems
set_option maxRecDepth 100000 in
set_option maxHeartbeats 4000000 in
theorem only_any (a : Option Addr) (c : Nat) (ps : List (Nat × Nat)) (G : FuncId) (caps : Array Value) (f : Nat × Nat → Bool) (w : World) (hin : Ev.PairsIn w a c ps) (hlen : ps.length ≤ 8192) (hE : Ev.Enters G)
    (hF : ∀ W, Below w.heap.size w W → ∀ p ∈ ps, Calls Tryz.prog G (#[Md.pkV p] ++ caps) W fun e w' => e = .returned (.bool (f p)) ∧ Below W.heap.size W w') :
    Calls Tryz.prog 56 #[.slice a ps.length c, .func (.func G) #[] caps] w fun e w' => ∃ a' c', e = .returned (.slice a' (ps.filter f).length c') ∧ Ev.PairsIn w' a' c' (ps.filter f) ∧ Below w.heap.size w w' := by
  have hmax := hin.max; have hle := hin.le
  have HIN := Lib.hid hin; have HF := Lib.hid hF; have HE := Lib.hid hE; clear hin hF hE
  obtain ⟨i0, hi, hz0, hz1, hz2⟩ := info_pair
  have HI := Lib.hid hi; have HZ0 := Lib.hid hz0; have HZ1 := Lib.hid hz1; have HZ2 := Lib.hid hz2
  clear hi hz0 hz1 hz2
  go_enter Tryz.func56, Tryz.ntmps56
  go_wp2
  go_loopw [5, 7, 10] (fun v _ i wr => ∃ k : Nat, k ≤ ps.length ∧ i = .int .i64 (k : Int) ∧ wr.ownsRow w.heap.size 72 2 v ((ps.take k).filter f).length (((ps.take k).filter f).flatMap Ev.pv) ∧ Below w.heap.size w wr) (fun _ _ i _ => ps.length - (intOf i).toNat)
  case atStart =>
    exact ⟨0, Nat.zero_le _, rfl, World.ownsRow_nil _ _ _ _, Below.refl _ _⟩
  case round =>
    obtain ⟨k, hk, rfl, hrow, hbr⟩ := hrel
    have HROW := Lib.hid hrow; have HBR := Lib.hid hbr
    clear hrow hbr
    by_cases hlt : k < ps.length
    · obtain ⟨p, hp⟩ : ∃ p, ps[k]? = some p := ⟨_, List.getElem?_eq_getElem hlt⟩
      obtain ⟨g2, o2, ea2, hc2⟩ := Md.PairsIn.at_ (Md.PairsIn.kp HIN.out (Ev.kp_below HBR.out)) hp
      have HPM := Lib.hid (List.mem_of_getElem? hp)
      have HTS := Lib.hid (Md.take_snoc' hp)
      have HC2 := Lib.hid hc2
      have hki : (k : Int) < (ps.length : Int) := by omega
      have hfl : ((ps.take k).filter f).length ≤ k := Nat.le_trans (List.length_filter_le _ _) (List.length_take_le _ _)
      have HFL := Lib.hid hfl
      have hcf := HE.out
      unfold Ev.Enters at hcf
      clear hp hc2 hfl
      rw [ea2]; clear ea2
      go_wp2_with (first
        | ((with_reducible show wpList _ _ _ (Oper.mk (some 13) _ _ _ _ _ :: _) _ _); refine wpList_load_at rfl 72 (.tmp 12) rfl g2 (o2 + k * 2) (by kernel_rfl) [.int .i64 (p.1 : Int), .int .i64 (p.2 : Int)] _ HC2.out Tryz.underlying72 rfl (by kernel_rfl) ?_)
        | ((with_reducible show wpList _ _ _ (Oper.mk none (Op.store 72 _ _) _ _ _ _ :: _) _ _); refine wpList_store_own rfl 72 (.tmp 7) (.tmp 13) rfl wr.heap.size #[.int .i64 (p.1 : Int), .int .i64 (p.2 : Int)] rfl rfl 72 #[.int .i64 0, .int .i64 0] (heap_alloc_new _ _) (by kernel_rfl) (by kernel_rfl) (by kernel_rfl) ?_
           intro W1 HW1
           have B1 := Lib.hid (((Below.refl wr.heap.size wr).alloc (Nat.le_refl _) _).trans HW1.below)
           have RW1 := Lib.hid HW1.row
           clear HW1)
        | ((with_reducible show wpList _ _ _ (Oper.mk (some 15) _ _ _ _ _ :: _) _ _); refine wpList_load_row rfl 72 (.tmp 7) rfl wr.heap.size (by kernel_rfl) 72 #[.int .i64 (p.1 : Int), .int .i64 (p.2 : Int)] (0, 0) _ RW1.out Tryz.underlying72 rfl (by kernel_rfl) ?_))
      clear hcf
      obtain ⟨b, hb⟩ : ∃ b, f p = b := ⟨_, rfl⟩
      have HFP := HF.out W1 (HBR.out.trans (B1.out.mono HBR.out.size)) p HPM.out
      rw [hb] at HFP
      refine HFP.mono ?_
      clear HFP
      rintro e W2 ⟨rfl, hb2⟩
      have HB2 := Lib.hid ((HBR.out.trans (B1.out.mono HBR.out.size)).trans (hb2.mono (Nat.le_trans HBR.out.size B1.out.size)))
      have RW2 := Lib.hid ((hb2.block wr.heap.size (Array.getElem?_eq_some_iff.1 RW1.out).1).trans RW1.out)
      have HR2 := Lib.hid (Ev.row_below (Ev.row_below HROW.out B1.out) hb2)
      have HSZ := Lib.hid (show wr.heap.size < W2.heap.size from (Array.getElem?_eq_some_iff.1 RW2.out).1)
      have HWS := Lib.hid (show w.heap.size ≤ wr.heap.size from HBR.out.size)
      have HB := Lib.hid hb
      clear hb hb2
      cases b
      · have HTF := Lib.hid (show (ps.take (k + 1)).filter f = (ps.take k).filter f by rw [HTS.out, List.filter_append]; simp [HB.out])
        go_wp2_with fail
        go_roundw
        case rel => exact ⟨k + 1, by omega, by go_num, by rw [HTF.out]; exact HR2.out, HB2.out⟩
        case measure => simp [intOf]; omega
      · have HTF := Lib.hid (show (ps.take (k + 1)).filter f = (ps.take k).filter f ++ [p] by rw [HTS.out, List.filter_append]; simp [HB.out])
        obtain ⟨L, hL⟩ : ∃ L, L = (ps.take k).filter f := ⟨_, rfl⟩
        have HL := Lib.hid hL
        have HR3 := Lib.hid (show W2.ownsRow w.heap.size 72 2 u5 L.length (L.flatMap Ev.pv) by rw [hL]; exact HR2.out)
        have hLn : L.length ≤ 8192 := by rw [hL]; have := HFL.out; omega
        clear hL HR2
        go_wp2_with (first
          | ((with_reducible show wpList _ _ _ (Oper.mk (some 18) _ _ _ _ _ :: _) _ _); refine wpList_load_row rfl 72 (.tmp 7) rfl wr.heap.size (by kernel_rfl) 72 #[.int .i64 (p.1 : Int), .int .i64 (p.2 : Int)] (0, 0) _ RW2.out Tryz.underlying72 rfl (by kernel_rfl) ?_)
          | ((with_reducible show wpList _ _ _ (Oper.mk (some 20) _ _ _ _ _ :: _) _ _); refine wpList_append_own _ rfl (.tmp 17) (.tmp 19) 37 rfl w.heap.size 72 i0 (.agg #[.int .i64 0, .int .i64 0]) 2 16 Tryz.underlying37 HI.out HZ0.out HZ1.out HZ2.out rfl (by decide) _ _ _ rfl (HR3.out.alloc _) ⟨W2.heap.size, 0, none⟩ 1 1 (Ev.pv p) rfl rfl (fun j u hu => World.news_of_block (heap_alloc_new W2 _) j u hu) (Ev.pv_one _) (by unfold maxLen; omega) (by omega) (by have := HB2.out.size; simp only [World.size_alloc]; omega) ?_
             intro v' w3 hown hgrow _
             have HOWN := Lib.hid hown; have HGR := Lib.hid hgrow; clear hown hgrow))
        have HB5 := Lib.hid (Below.grown (HB2.out.alloc HB2.out.size _) HGR.out (by have := HB2.out.size; simp only [World.size_alloc]; omega) (fun k hk => Ev.own_ge HR3.out hk))
        go_roundw
        case rel =>
          refine ⟨k + 1, by omega, by go_num, ?_, HB5.out⟩
          rw [HTF.out, ← HL.out, List.length_append, List.flatMap_append]
          simpa using HOWN.out
        case measure => simp [intOf]; omega
    · have hki : ¬ (k : Int) < (ps.length : Int) := by omega
      have hrow := HROW.out
      rw [show k = ps.length by omega, List.take_length] at hrow
      obtain ⟨A, c', hv, hp⟩ := Ev.pairs_of_row hrow
      have HP := Lib.hid hp
      subst hv
      clear hrow hp hlt
      go_wp2
      go_ret
      exact ⟨A, c', rfl, HP.out, HBR.out⟩
set_option maxRecDepth 100000 in
set_option maxHeartbeats 4000000 in
theorem lead_any (b n : Nat) (S : List (Nat × Nat)) (p q : Nat) (hp : p < 64) (hq : q < 64) (w : World) (hin : Md.PSet w b n S) :
    Calls Tryz.prog 69 #[.map (some b), .int .i64 (p : Int), .int .i64 (q : Int)] w fun e w' => e = .returned (.bool (decide ((p, q) ∈ S))) ∧ Below w.heap.size w w' := by
  obtain ⟨D, ho, hD⟩ := hin.ex
  have HO := Lib.hid ho
  have HKEY := Lib.hid (Md.key_mk (p := (p, q)) ⟨hp, hq⟩)
  obtain ⟨r, hr⟩ : ∃ r, decide ((p, q) ∈ S) = r := ⟨_, rfl⟩
  have HH := Lib.hid ((hD.1 (p, q) ⟨hp, hq⟩).trans hr)
  rw [hr]
  clear hr ho hD hin
  go_enter Tryz.func69, Tryz.ntmps69
  go_wp2_with (at_lookup; refine wpList_lookup_own_unit _ rfl _ _ 77 rfl 72 94 Md.law_pair Tryz.underlying77 (zero_unit _) b n D rfl HO.out _ _ rfl HKEY.out ?_; rw [HH.out])
  go_ret
  exact ⟨rfl, (Below.refl _ _).alloc (Nat.le_refl _) _⟩
end Go.Proofs.YtnjnpbabgefaeaaGreat
end
