import Derived.Test.YtecnnkidalkmfaaGreatKc52
import Derived.Test.YtecnnkidalkmfaaGreatKc32
import Derived.Test.YtecnnkidalkmfaaGreatKc34
import Derived.Test.YtecnnkidalkmfaaGreatKc35
set_option linter.unusedVariables false
set_option linter.unusedSimpArgs false

section
namespace Go.Proofs.YtecnnkidalkmfaaGreat
open Go.RowKit
namespace Md
open Ev
def exe (x : X) : Exe where
  n := x.ev.length
  ac := fun a => a < x.ev.length ∧ (nth x.ev a).k ≠ 4
  st := fun a => a < x.ev.length ∧ stores (nth x.ev a).k = true
  ld := fun a => a < x.ev.length ∧ loads (nth x.ev a).k = true
  h := fun a => (nth x.ev a).h
  ad := fun a => (nth x.ev a).a
  pl := fun a => place x a
  rf := fun a => (frAt x a).toNat
  ppo := fun a b => a < x.ev.length ∧ b < x.ev.length ∧ isPpo x a b = true
theorem k_some {k : Int} (h : 1 ≤ k ∧ k ≤ 5) (h4 : k ≠ 4) : stores k = true ∨ loads k = true := by
  have : k = 1 ∨ k = 2 ∨ k = 3 ∨ k = 5 := by omega
  rcases this with rfl | rfl | rfl | rfl
  · exact .inr rfl
  · exact .inl rfl
  · exact .inl rfl
  · exact .inl rfl
theorem from_ok {x : X} (hc : check x = 0) {a : Nat} (ha : a < x.ev.length) (hl : loads (nth x.ev a).k = true) :
    ∃ f : Nat, f < x.ev.length ∧ frAt x a = f ∧ stores (nth x.ev f).k = true ∧ (nth x.ev f).a = (nth x.ev a).a ∧ f ≠ a ∧ (nth x.ev f).v = (nth x.ev a).r := by
  obtain ⟨_, h2, _⟩ := check_order hc
  unfold fromOk at h2
  simp only [Bool.and_eq_true, beq_iff_eq, List.all_eq_true] at h2
  have h := h2.2 a (List.mem_range.2 ha)
  unfold fromAt at h
  rw [if_pos hl] at h
  unfold readOk inB at h
  simp only [Bool.and_eq_true, decide_eq_true_eq, beq_iff_eq, Bool.not_eq_true', beq_eq_false_iff_ne, bne_iff_ne] at h
  obtain ⟨⟨⟨⟨⟨h1, h2⟩, h3⟩, h4⟩, h5⟩, h6⟩ := h
  have e : (((x.fr.l.getD a 0).toNat : Nat) : Int) = x.fr.l.getD a 0 := by omega
  refine ⟨(x.fr.l.getD a 0).toNat, by omega, by unfold frAt; omega, by rw [e]; exact h4, by rw [e]; first | exact h5 | exact h5.symm, fun e2 => ?_, by rw [e]; first | exact h6 | exact h6.symm⟩
  apply h3
  omega
theorem rule_1 {x : X} {a b : Nat} (hp : isPo x a b = true) (h4 : (nth x.ev a).k ≠ 4) (hs : stores (nth x.ev b).k = true) (he : (nth x.ev a).a = (nth x.ev b).a) : isPpo x a b = true := by
  unfold isPpo
  refine List.any_eq_true.2 ⟨0, by decide, ?_⟩
  unfold rule
  rw [if_neg]
  · show ((nth x.ev a).a == (nth x.ev b).a && stores (nth x.ev b).k) = true
    rw [hs, he]; simp
  · rintro (h | h | h)
    · rw [hp] at h; cases h
    · exact h4 h
    · rw [h] at hs; cases hs
theorem rule_2 {x : X} {a b : Nat} (hp : isPo x a b = true) (ha : loads (nth x.ev a).k = true) (hb : loads (nth x.ev b).k = true) (he : (nth x.ev a).a = (nth x.ev b).a) (hf : frAt x a ≠ frAt x b)
    (hm : ∀ m : Nat, a < m → m < b → ¬ (stores (nth x.ev m).k = true ∧ (nth x.ev m).a = (nth x.ev a).a)) : isPpo x a b = true := by
  unfold isPpo
  refine List.any_eq_true.2 ⟨1, by decide, ?_⟩
  unfold rule
  rw [if_neg]
  · show ruleOf x 2 a b = true
    rw [rule2_is, ha, hb, he]
    simp only [beq_self_eq_true, Bool.true_and, Bool.and_eq_true, Bool.not_eq_true', beq_eq_false_iff_ne, List.all_eq_true]
    refine ⟨hf, fun m hmm => ?_⟩
    have h2 : a < m ∧ m < b := by
      unfold upTo at hmm
      obtain ⟨i, hi, rfl⟩ := List.mem_map.1 hmm
      have := List.mem_range.1 hi
      omega
    have h3 := hm m h2.1 h2.2
    unfold cl
    cases hs : stores (nth x.ev m).k
    · rfl
    · have : ((nth x.ev m).a == (nth x.ev a).a) = false := by rw [beq_eq_false_iff_ne]; exact fun e => h3 ⟨hs, e⟩
      rw [this]; rfl
  · rintro (h | h | h)
    · rw [hp] at h; cases h
    · rw [h] at ha; cases ha
    · rw [h] at hb; cases hb
theorem ppo_parts {x : X} {a b : Nat} (h : isPpo x a b = true) : isPo x a b = true ∧ (nth x.ev a).k ≠ 4 ∧ (nth x.ev b).k ≠ 4 := by
  unfold isPpo at h
  obtain ⟨i, _, hi⟩ := List.any_eq_true.1 h
  unfold rule at hi
  by_cases hno : isPo x a b = false ∨ (nth x.ev a).k = 4 ∨ (nth x.ev b).k = 4
  · rw [if_pos hno] at hi; cases hi
  · refine ⟨?_, fun e => hno (.inr (.inl e)), fun e => hno (.inr (.inr e))⟩
    cases hp : isPo x a b
    · exact absurd (.inl hp) hno
    · rfl
theorem po_iff {x : X} {a b : Nat} : isPo x a b = true ↔ (exe x).po a b := by
  unfold isPo Exe.po exe
  simp only [Bool.and_eq_true, decide_eq_true_eq, beq_iff_eq]
  exact ⟨fun h => ⟨h.1.1, h.1.2, h.2⟩, fun h => ⟨⟨h.1, h.2.1⟩, h.2.2⟩⟩
theorem beg_place {x : X} (hc : check x = 0) {b m : Nat} (hb : b < x.ev.length) (hm : m < x.ev.length) (h5 : (nth x.ev b).k = 5) (hs : stores (nth x.ev m).k = true) (he : (nth x.ev m).a = (nth x.ev b).a) (hne : m ≠ b) : place x b < place x m := by
  have hv := ev_all hc
  have hsb : stores (nth x.ev b).k = true := by rw [h5]; rfl
  obtain ⟨i, s, v, h1, h2, h3, h4, hp⟩ := place_at hc hb hsb
  obtain ⟨j, t, u, k1, k2, k3, k4, kp⟩ := place_at hc hm hs
  have hbb := five_lt hv hb h5
  have hib : i = b := beg_inj hv h2 hbb h3
  have hji : j = i := beg_inj hv k2 h2 (by rw [k3, h3, he])
  subst hib
  subst hji
  rw [h1] at k1
  obtain rfl : s = t := Option.some.inj k1
  have hrow : s.l[0]? = some (j : Int) := by
    obtain ⟨ho, _, _⟩ := check_order hc
    unfold orderOk at ho
    simp only [Bool.and_eq_true, List.all_eq_true] at ho
    have := ho.2 j (List.mem_range.2 (List.getElem?_eq_some_iff.1 h1).1)
    unfold orderAt at this
    rw [h1] at this
    simp only [Bool.and_eq_true, beq_iff_eq] at this
    have h0 := this.1.2
    have hpos : 0 < s.l.length := by have := (List.getElem?_eq_some_iff.1 h4).1; omega
    rw [List.getElem?_eq_getElem hpos]
    rw [List.getD_eq_getElem?_getD, List.getElem?_eq_getElem hpos] at h0
    simpa using h0
  obtain ⟨_, _, hd, _⟩ := od_at hc h1
  have hv0 : v = 0 := ((List.getElem?_inj (List.getElem?_eq_some_iff.1 h4).1 hd).1 (h4.trans hrow.symm))
  have hu0 : u ≠ 0 := fun e => by
    rw [e, hrow] at k4
    have := Option.some.inj k4
    omega
  rw [hp, kp]; omega
theorem exe_ok {x : X} (hc : check x = 0) : (exe x).Ok where
  stac := fun {a} h => ⟨h.1, fun e => by have := h.2; rw [e] at this; cases this⟩
  ldac := fun {a} h => ⟨h.1, fun e => by have := h.2; rw [e] at this; cases this⟩
  some_ := fun {a} h => (k_some (ev_ok hc h.1).k h.2).imp (fun e => ⟨h.1, e⟩) (fun e => ⟨h.1, e⟩)
  lt := fun h => h.1
  inj := fun {a b} ha hb he hp => place_inj hc ha.1 hb.1 ha.2 hb.2 he hp
  rfst := fun {a} h => by
    obtain ⟨f, hf, e, hs, hae, hne, _⟩ := from_ok hc h.1 h.2
    have : (exe x).rf a = f := by show (frAt x a).toNat = f; omega
    rw [this]
    exact ⟨⟨hf, hs⟩, hae, hne⟩
  beg0 := fun {b m} hb hh hm he hne => by
    have h5 : (nth x.ev b).k = 5 := by
      apply Classical.byContradiction; intro h5
      have := (ev_ok hc hb.1).h0 h5
      have hh : (nth x.ev b).h < 0 := hh
      omega
    exact beg_place hc hb.1 hm.1 h5 hm.2 he hne
  ldh := fun {a} h => (ev_ok hc h.1).h0 (fun e => by have := h.2; rw [e] at this; cases this)
  mid := fun {a b m} h1 h2 h3 hh => by
    have h3 : b < x.ev.length := h3
    have hh : (nth x.ev a).h = (nth x.ev b).h := hh
    have e1 := hart_le hc (i := a) m (by omega) (by omega)
    have e2 := hart_le hc (i := m) b (by omega) h3
    show (nth x.ev m).h = (nth x.ev a).h
    omega
  ppo_po := fun {a b} h => by
    obtain ⟨h1, h2, h3⟩ := ppo_parts h.2.2
    exact ⟨po_iff.1 h1, ⟨h.1, h2⟩, ⟨h.2.1, h3⟩⟩
  r1 := fun {a b} hp ha hb he => ⟨ha.1, hb.1, rule_1 (po_iff.2 hp) ha.2 hb.2 he⟩
  r2 := fun {a b} hp ha hb he hf hm => ⟨ha.1, hb.1, rule_2 (po_iff.2 hp) ha.2 hb.2 he (fun e => hf (by show (frAt x a).toNat = (frAt x b).toNat; rw [e])) fun m h1 h2 h3 => hm m h1 h2 ⟨⟨by have := hb.1; omega, h3.1⟩, h3.2⟩⟩
end Md
end Go.Proofs.YtecnnkidalkmfaaGreat
end

section
namespace Go.Proofs.YtecnnkidalkmfaaGreat
open Go.RowKit
namespace Md
open Ev
def less (c1 c2 c3 : Bool) (e : R) : R := { e with q := !c1 && e.q, l := !c2 && e.l, p := if (c3 && e.k == 4) = true then 0 else e.p }
def lessX (c1 c2 c3 : Bool) (x : X) (a : Option Addr) (c : Nat) : X := ⟨a, c, x.ev.map (less c1 c2 c3), x.fr, x.ao, x.co, x.od⟩
variable {c1 c2 c3 : Bool}
theorem less_R0 : less c1 c2 c3 R0 = R0 := by
  unfold less R0
  cases c1 <;> cases c2 <;> cases c3 <;> rfl
theorem nth_less (xs : List R) (i : Int) : nth (xs.map (less c1 c2 c3)) i = less c1 c2 c3 (nth xs i) := by
  unfold nth
  rw [List.getD_eq_getElem?_getD, List.getD_eq_getElem?_getD, List.getElem?_map]
  cases xs[i.toNat]? with
  | none => exact less_R0.symm
  | some e => rfl
theorem parts_less {e : R} (h : partsOk e = true) : partsOk (less c1 c2 c3 e) = true := by
  rw [parts_bare] at h ⊢
  obtain ⟨eh, k, a, v, r, q, l, p, s, z, d1, d2, d3⟩ := e
  unfold less
  unfold bare bareK inB at *
  have hp : (if (c3 && k == 4) = true then (0 : Int) else p) = p ∨ ((if (c3 && k == 4) = true then (0 : Int) else p) = 0) := by
    split
    · exact .inr rfl
    · exact .inl rfl
  generalize (if (c3 && k == 4) = true then (0 : Int) else p) = p' at hp
  rcases hp with rfl | rfl <;> cases c1 <;> cases c2 <;> cases q <;> cases l <;> simp_all <;> grind
theorem hang_less (xs : List R) (n h : Int) : ∀ (ds : List Int) (last : Int), hangGo (xs.map (less c1 c2 c3)) n h last ds = hangGo xs n h last ds
  | [], _ => rfl
  | d :: ds, last => by
    unfold hangGo
    rw [nth_less, hang_less xs n h ds d]; rfl
theorem filter_less {f : R → Bool} (hf : ∀ e, f (less c1 c2 c3 e) = f e) (xs : List R) : ((xs.map (less c1 c2 c3)).filter f).length = (xs.filter f).length := by
  rw [List.filter_map, List.length_map]
  congr 2
  funext e; exact hf e
theorem any_less {f : R → Bool} (hf : ∀ e, f (less c1 c2 c3 e) = f e) (xs : List R) : (xs.map (less c1 c2 c3)).any f = xs.any f := by
  rw [List.any_map]
  congr 1
  funext e; exact hf e
theorem less_check {x : X} (hc : check x = 0) (a : Option Addr) (c : Nat) : check (lessX c1 c2 c3 x a c) = 0 := by
  obtain ⟨h1, h2, h3⟩ := check_order hc
  have h0 := chk_evs hc
  have e0 : evsOk (x.ev.map (less c1 c2 c3)) = true := by
    unfold evsOk at h0 ⊢
    simp only [Bool.and_eq_true, List.all_eq_true, List.mem_range, List.length_map] at h0 ⊢
    refine ⟨fun i hi => ?_, ?_⟩
    · have h := h0.1 i hi
      unfold evAt at h ⊢
      simp only [Bool.and_eq_true, nth_less] at h ⊢
      refine ⟨⟨parts_less h.1.1, ?_⟩, ?_⟩
      · have hd := h.1.2
        unfold depsOk deps at hd ⊢
        rw [nth_less]
        simp only [List.all_cons, List.all_nil, hang_less] at hd ⊢
        exact hd
      · exact h.2
    · have h := h0.2
      unfold Ev.begun at h ⊢
      simp only [List.all_eq_true, List.mem_range, List.length_map] at h ⊢
      intro i hi
      have h := h i hi
      unfold begunAt at h ⊢
      rw [nth_less, ← List.map_take, any_less (fun e => rfl)]
      exact h
  have e1 : fromOk (x.ev.map (less c1 c2 c3)) x.fr.l = true := by
    unfold fromOk at h2 ⊢
    simp only [Bool.and_eq_true, List.all_eq_true, List.mem_range, List.length_map] at h2 ⊢
    refine ⟨h2.1, fun i hi => ?_⟩
    have h := h2.2 i hi
    unfold fromAt readOk at h ⊢
    simp only [nth_less, List.length_map] at h ⊢
    exact h
  have e2 : orderOk (x.ev.map (less c1 c2 c3)) x.od = true := by
    unfold orderOk beg at h1 ⊢
    rw [filter_less (fun e => rfl)]
    simp only [Bool.and_eq_true, List.all_eq_true, List.mem_range] at h1 ⊢
    refine ⟨h1.1, fun i hi => ?_⟩
    have h := h1.2 i hi
    unfold orderAt cnt onceOk onceAt at h ⊢
    simp only [nth_less, List.length_map] at h ⊢
    cases hs : x.od[i]? with
    | none => rw [hs] at h; cases h
    | some s =>
      rw [hs] at h
      simp only at h ⊢
      rw [filter_less (fun e => rfl)]
      exact h
  unfold check lessX
  simp only [List.length_map]
  rw [if_neg (by omega), if_neg (by rw [e0]; simp), if_neg (by rw [e1]; simp), if_neg (by rw [e2]; simp)]
section
variable {x : X} {a' : Option Addr} {c : Nat}
theorem less_nth (i : Int) : nth (lessX c1 c2 c3 x a' c).ev i = less c1 c2 c3 (nth x.ev i) := nth_less _ _
theorem less_po (a b : Nat) : isPo (lessX c1 c2 c3 x a' c) a b = isPo x a b := by
  unfold isPo; rw [less_nth, less_nth]; rfl
theorem less_co (a b : Int) : isCo (lessX c1 c2 c3 x a' c) a b = isCo x a b := by
  unfold isCo; rw [less_nth, less_nth]; rfl
theorem pairGo_less (xs : List R) (e : R) : ∀ n : Nat, pairGo (xs.map (less c1 c2 c3)) (less c1 c2 c3 e) n = pairGo xs e n
  | 0 => rfl
  | n + 1 => by
    unfold pairGo
    rw [nth_less, pairGo_less xs e n]; rfl
theorem less_paired (b : Nat) : paired (lessX c1 c2 c3 x a' c) b = paired x b := by
  unfold paired
  rw [less_nth]
  show (if _ then _ else pairGo (x.ev.map (less c1 c2 c3)) (less c1 c2 c3 (nth x.ev b)) b) = _
  rw [pairGo_less]; rfl
theorem strong_less {e : R} (h : strong (less c1 c2 c3 e) = true) : strong e = true := by
  unfold strong less at *
  cases c1 <;> cases c2 <;> simp_all
theorem inSet_less {g e : R} (h : inSet (less c1 c2 c3 g).p (less c1 c2 c3 e) = true) : inSet g.p e = true := by
  unfold inSet less at *
  simp only at h
  by_cases hk : (c3 && g.k == 4) = true
  · rw [if_pos hk] at h; simp at h
  · rw [if_neg hk] at h; exact h
theorem less_ruleOf {r : Int} {a b : Nat} (h : ruleOf (lessX c1 c2 c3 x a' c) r a b = true) : ruleOf x r a b = true := by
  unfold ruleOf at h ⊢
  simp only [less_nth, less_paired] at h ⊢
  by_cases h1 : r = 1
  · rw [if_pos h1] at h ⊢; exact h
  rw [if_neg h1] at h ⊢
  by_cases h3 : r = 3
  · rw [if_pos h3] at h ⊢; exact h
  rw [if_neg h3] at h ⊢
  by_cases h5 : r = 5
  · rw [if_pos h5] at h ⊢
    have h : (!c1 && (nth x.ev (a : Int)).q) = true := h
    rw [Bool.and_eq_true] at h; exact h.2
  rw [if_neg h5] at h ⊢
  by_cases h6 : r = 6
  · rw [if_pos h6] at h ⊢
    have h : (!c2 && (nth x.ev (b : Int)).l) = true := h
    rw [Bool.and_eq_true] at h; exact h.2
  rw [if_neg h6] at h ⊢
  by_cases h7 : r = 7
  · rw [if_pos h7] at h ⊢
    rw [Bool.and_eq_true] at h ⊢; exact ⟨strong_less h.1, strong_less h.2⟩
  rw [if_neg h7] at h ⊢
  by_cases h8 : r = 8
  · rw [if_pos h8] at h ⊢; exact h
  rw [if_neg h8] at h ⊢
  by_cases h9 : r = 9
  · rw [if_pos h9] at h ⊢; exact h
  rw [if_neg h9] at h ⊢
  by_cases h10 : r = 10
  · rw [if_pos h10] at h ⊢; exact h
  rw [if_neg h10] at h ⊢
  by_cases h11 : r = 11
  · rw [if_pos h11] at h ⊢; exact h
  rw [if_neg h11] at h ⊢
  by_cases h2 : r = 2
  · rw [if_pos h2] at h ⊢; exact h
  rw [if_neg h2] at h ⊢
  rw [List.any_eq_true] at h ⊢
  obtain ⟨m, hm, h⟩ := h
  refine ⟨m, hm, ?_⟩
  rw [Bool.or_eq_true, Bool.or_eq_true] at h ⊢
  rcases h with (h | h) | h
  · simp only [Bool.and_eq_true] at h
    refine .inl (.inl ?_)
    simp only [Bool.and_eq_true]
    exact ⟨⟨h.1.1, inSet_less h.1.2⟩, by
      have := h.2
      unfold inSet at this ⊢; exact this⟩
  · exact .inl (.inr h)
  · exact .inr h
theorem less_k (e : R) : (less c1 c2 c3 e).k = e.k := rfl
theorem less_ppo {a b : Nat} (h : isPpo (lessX c1 c2 c3 x a' c) a b = true) : isPpo x a b = true := by
  unfold isPpo at h ⊢
  rw [List.any_eq_true] at h ⊢
  obtain ⟨i, hi, h⟩ := h
  refine ⟨i, hi, ?_⟩
  unfold rule at h ⊢
  rw [less_po, less_nth, less_nth, less_k, less_k] at h
  by_cases hn : isPo x a b = false ∨ (nth x.ev a).k = 4 ∨ (nth x.ev b).k = 4
  · rw [if_pos hn] at h; cases h
  · rw [if_neg hn] at h ⊢; exact less_ruleOf h
theorem less_G {a b : Nat} (h : (exe (lessX c1 c2 c3 x a' c)).G a b) : (exe x).G a b := by
  have hl : (lessX c1 c2 c3 x a' c).ev.length = x.ev.length := List.length_map _
  have hst : ∀ a, (exe (lessX c1 c2 c3 x a' c)).st a ↔ (exe x).st a := fun a => by
    show (a < (lessX c1 c2 c3 x a' c).ev.length ∧ stores (nth (lessX c1 c2 c3 x a' c).ev a).k = true) ↔ _
    rw [hl, less_nth]; exact Iff.rfl
  have hld : ∀ a, (exe (lessX c1 c2 c3 x a' c)).ld a ↔ (exe x).ld a := fun a => by
    show (a < (lessX c1 c2 c3 x a' c).ev.length ∧ loads (nth (lessX c1 c2 c3 x a' c).ev a).k = true) ↔ _
    rw [hl, less_nth]; exact Iff.rfl
  have hh : ∀ a, (exe (lessX c1 c2 c3 x a' c)).h a = (exe x).h a := fun a => by
    show (nth (lessX c1 c2 c3 x a' c).ev a).h = _
    rw [less_nth]; rfl
  have had : ∀ a, (exe (lessX c1 c2 c3 x a' c)).ad a = (exe x).ad a := fun a => by
    show (nth (lessX c1 c2 c3 x a' c).ev a).a = _
    rw [less_nth]; rfl
  have hco : ∀ a b, (exe (lessX c1 c2 c3 x a' c)).co a b ↔ (exe x).co a b := fun a b => by
    unfold Exe.co
    rw [hst, hst, had, had]; exact Iff.rfl
  rcases h with h | h | h | h
  · exact .inl ⟨hl ▸ h.1, hl ▸ h.2.1, less_ppo h.2.2⟩
  · refine .inr (.inl ⟨(hld _).1 h.1, h.2.1, ?_⟩)
    rw [← hh, ← hh]; exact h.2.2
  · exact .inr (.inr (.inl ((hco _ _).1 h)))
  · exact .inr (.inr (.inr ⟨h.1, (hld _).1 h.2.1, (hco _ _).1 h.2.2⟩))
theorem less_C {a b : Nat} (h : (exe (lessX c1 c2 c3 x a' c)).C a b) : (exe x).C a b := by
  have hl : (lessX c1 c2 c3 x a' c).ev.length = x.ev.length := List.length_map _
  have hst : ∀ a, (exe (lessX c1 c2 c3 x a' c)).st a ↔ (exe x).st a := fun a => by
    show (a < (lessX c1 c2 c3 x a' c).ev.length ∧ stores (nth (lessX c1 c2 c3 x a' c).ev a).k = true) ↔ _
    rw [hl, less_nth]; exact Iff.rfl
  have hld : ∀ a, (exe (lessX c1 c2 c3 x a' c)).ld a ↔ (exe x).ld a := fun a => by
    show (a < (lessX c1 c2 c3 x a' c).ev.length ∧ loads (nth (lessX c1 c2 c3 x a' c).ev a).k = true) ↔ _
    rw [hl, less_nth]; exact Iff.rfl
  have hh : ∀ a, (exe (lessX c1 c2 c3 x a' c)).h a = (exe x).h a := fun a => by
    show (nth (lessX c1 c2 c3 x a' c).ev a).h = _
    rw [less_nth]; rfl
  have had : ∀ a, (exe (lessX c1 c2 c3 x a' c)).ad a = (exe x).ad a := fun a => by
    show (nth (lessX c1 c2 c3 x a' c).ev a).a = _
    rw [less_nth]; rfl
  have hco : ∀ a b, (exe (lessX c1 c2 c3 x a' c)).co a b ↔ (exe x).co a b := fun a b => by
    unfold Exe.co
    rw [hst, hst, had, had]; exact Iff.rfl
  have hac : ∀ a, (exe (lessX c1 c2 c3 x a' c)).ac a ↔ (exe x).ac a := fun a => by
    show (a < (lessX c1 c2 c3 x a' c).ev.length ∧ (nth (lessX c1 c2 c3 x a' c).ev a).k ≠ 4) ↔ _
    rw [hl, less_nth]; exact Iff.rfl
  rcases h with h | h | h | h
  · refine .inl ⟨?_, (hac _).1 h.2.1, (hac _).1 h.2.2.1, ?_⟩
    · have hp := h.1
      unfold Exe.po at hp ⊢
      rw [hh, hh] at hp; exact hp
    · rw [← had, ← had]; exact h.2.2.2
  · exact .inr (.inl ⟨(hld _).1 h.1, h.2⟩)
  · exact .inr (.inr (.inl ((hco _ _).1 h)))
  · exact .inr (.inr (.inr ⟨h.1, (hld _).1 h.2.1, (hco _ _).1 h.2.2⟩))
end
end Md
end Go.Proofs.YtecnnkidalkmfaaGreat
end

section
namespace Go.Proofs.YtecnnkidalkmfaaGreat
open Go.RowKit
namespace Md
open Ev
def lastGo (p : Nat → Nat → Bool) : List Nat → Nat → Int → Int
  | [], _, v => v
  | m :: r, i, v => lastGo p r (i + 1) (if p m i = true then (m : Int) else v)
def cI (l : List Nat) : List Int := l.map fun a : Nat => (a : Int)
def seen (x : X) (at' : Int) (n m i : Nat) : Bool := !(decide (m = n)) && stores (nth x.ev m).k && (nth x.ev m).a == (nth x.ev n).a && (decide ((i : Int) < at') || isPo x m n)
def sees (x : X) (l : List Nat) (n : Nat) : Int := lastGo (seen x (at_ (cI l) n) n) l 0 (-1)
theorem co_iff {x : X} {a b : Nat} (ha : a < x.ev.length) (hb : b < x.ev.length) : isCo x (a : Int) (b : Int) = true ↔ (exe x).co a b := by
  unfold isCo Exe.co exe
  simp only [Bool.and_eq_true, decide_eq_true_eq, beq_iff_eq]
  exact ⟨fun h => ⟨⟨ha, h.1.1.1⟩, ⟨hb, h.1.1.2⟩, h.1.2, h.2⟩, fun h => ⟨⟨⟨h.1.2, h.2.1.2⟩, h.2.2.1⟩, h.2.2.2⟩⟩
end Md
end Go.Proofs.YtecnnkidalkmfaaGreat
end

section
namespace Go.Proofs.YtecnnkidalkmfaaGreat
open Go.RowKit
namespace Md
open Ev
def Allow (x : X) : Prop := atomB x = true ∧ (∃ gr : Nat → Int, ∀ a b, (exe x).G a b → gr a < gr b) ∧ (∃ gc : Nat → Int, ∀ a b, (exe x).C a b → gc a < gc b)
theorem atom_less {c1 c2 c3 : Bool} {x : X} {a : Option Addr} {c : Nat} : atomB (lessX c1 c2 c3 x a c) = atomB x := by
  unfold atomB
  simp only [less_nth, less_co, less_paired, less_k]
  rw [show (lessX c1 c2 c3 x a c).ev.length = x.ev.length from List.length_map _]
  rfl
theorem allow_less {c1 c2 c3 : Bool} {x : X} {a : Option Addr} {c : Nat} (h : Allow x) : Allow (lessX c1 c2 c3 x a c) := by
  obtain ⟨h1, ⟨gr, h2⟩, ⟨gc, h3⟩⟩ := h
  exact ⟨by rw [atom_less]; exact h1, ⟨gr, fun p q h => h2 p q (less_G h)⟩, ⟨gc, fun p q h => h3 p q (less_C h)⟩⟩
end Md
end Go.Proofs.YtecnnkidalkmfaaGreat
end
