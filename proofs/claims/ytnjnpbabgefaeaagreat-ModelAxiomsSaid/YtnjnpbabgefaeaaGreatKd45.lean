import Derived.Test.YtnjnpbabgefaeaaGreatKd44
import Derived.Test.YtnjnpbabgefaeaaGreatKd18
import Derived.RangeFuncBox
import Derived.Deep.AppendLies
import Derived.Test.YtnjnpbabgefaeaaGreatKd43
import Derived.StillTailTactics
import Derived.Shelf.SlSortCmp.NoneTotal
set_option linter.unusedVariables false
set_option linter.unusedSimpArgs false

section
namespace Go.Proofs.YtnjnpbabgefaeaaGreat
open Go.RowKit
namespace Md
open Ev
theorem len_le_of_sub : ∀ {l m : List Nat}, l.Nodup → (∀ a ∈ l, a ∈ m) → l.length ≤ m.length
  | [], m, _, _ => Nat.zero_le _
  | a :: r, m, hd, hs => by
    have ha := hs a List.mem_cons_self
    have h := List.nodup_cons.1 hd
    have h1 := len_le_of_sub (m := m.erase a) h.2 fun b hb => (List.mem_erase_of_ne (show b ≠ a from fun e => h.1 (e ▸ hb))).2 (hs b (List.mem_cons_of_mem _ hb))
    rw [List.length_erase_of_mem ha] at h1
    have h2 : 0 < m.length := List.length_pos_of_mem ha
    rw [List.length_cons]; omega
theorem all_of_len {l m : List Nat} (hd : l.Nodup) (hs : ∀ a ∈ l, a ∈ m) (he : m.length ≤ l.length) : ∀ a ∈ m, a ∈ l := fun a ha => by
  by_cases h : a ∈ l
  · exact h
  · have := len_le_of_sub (l := a :: l) (m := m) (List.nodup_cons.2 ⟨h, hd⟩) (fun b hb => by
      rcases List.mem_cons.1 hb with rfl | hb
      · exact ha
      · exact hs b hb)
    rw [List.length_cons] at this; omega
def lastGo (p : Nat → Nat → Bool) : List Nat → Nat → Int → Int
  | [], _, v => v
  | m :: r, i, v => lastGo p r (i + 1) (if p m i = true then (m : Int) else v)
theorem lastGo_iff {p : Nat → Nat → Bool} {f : Nat} : ∀ {l : List Nat} {i : Nat} {v : Int}, lastGo p l i v = (f : Int) ↔
    ((∃ k, l[k]? = some f ∧ p f (i + k) = true ∧ ∀ j m, k < j → l[j]? = some m → p m (i + j) = false) ∨ (v = f ∧ ∀ j m, l[j]? = some m → p m (i + j) = false))
  | [], i, v => by
    unfold lastGo
    constructor
    · intro h; exact .inr ⟨h, fun j m h => by simp at h⟩
    · rintro (⟨k, h, _⟩ | ⟨h, _⟩)
      · simp at h
      · exact h
  | m :: r, i, v => by
    unfold lastGo
    rw [lastGo_iff]
    constructor
    · rintro (⟨k, h1, h2, h3⟩ | ⟨h1, h2⟩)
      · refine .inl ⟨k + 1, by simpa using h1, by rw [show i + (k + 1) = i + 1 + k by omega]; exact h2, fun j m' hj hm => ?_⟩
        match j, hj, hm with
        | j + 1, hj, hm => rw [show i + (j + 1) = i + 1 + j by omega]; exact h3 j m' (by omega) (by simpa using hm)
      · cases hp : p m i with
        | true =>
          rw [hp, if_pos rfl] at h1
          have e : m = f := by omega
          refine .inl ⟨0, by rw [e]; rfl, by rw [← e]; exact hp, fun j m' hj hm => ?_⟩
          match j, hj, hm with
          | j + 1, hj, hm => rw [show i + (j + 1) = i + 1 + j by omega]; exact h2 j m' (by simpa using hm)
        | false =>
          rw [hp, if_neg (by simp)] at h1
          refine .inr ⟨h1, fun j m' hm => ?_⟩
          match j, hm with
          | 0, hm =>
            obtain rfl : m = m' := by simpa using hm
            exact hp
          | j + 1, hm => rw [show i + (j + 1) = i + 1 + j by omega]; exact h2 j m' (by simpa using hm)
    · rintro (⟨k, h1, h2, h3⟩ | ⟨h1, h2⟩)
      · match k, h1, h2, h3 with
        | 0, h1, h2, h3 =>
          have e : m = f := by simpa using h1
          refine .inr ⟨by rw [Nat.add_zero] at h2; rw [e, if_pos h2], fun j m' hm => ?_⟩
          rw [show i + 1 + j = i + (j + 1) by omega]; exact h3 (j + 1) m' (by omega) (by simpa using hm)
        | k + 1, h1, h2, h3 =>
          refine .inl ⟨k, by simpa using h1, by rw [show i + 1 + k = i + (k + 1) by omega]; exact h2, fun j m' hj hm => ?_⟩
          rw [show i + 1 + j = i + (j + 1) by omega]; exact h3 (j + 1) m' (by omega) (by simpa using hm)
      · refine .inr ⟨?_, fun j m' hm => ?_⟩
        · rw [if_neg (by have := h2 0 m rfl; simp only [Nat.add_zero] at this; rw [this]; simp)]; exact h1
        · rw [show i + 1 + j = i + (j + 1) by omega]; exact h2 (j + 1) m' (by simpa using hm)
def cI (l : List Nat) : List Int := l.map fun a : Nat => (a : Int)
def seen (x : X) (at' : Int) (n m i : Nat) : Bool := !(decide (m = n)) && stores (nth x.ev m).k && (nth x.ev m).a == (nth x.ev n).a && (decide ((i : Int) < at') || isPo x m n)
def sees (x : X) (l : List Nat) (n : Nat) : Int := lastGo (seen x (at_ (cI l) n) n) l 0 (-1)
def rightB (x : X) (l : List Nat) : Bool := (List.range l.length).all fun i =>
  ((List.range l.length).all fun k => !(decide (i < k)) || !(isPpo x (l.getD k 0) (l.getD i 0) || isCo x (l.getD k 0 : Nat) (l.getD i 0 : Nat))) && (!(loads (nth x.ev (l.getD i 0 : Nat)).k) || sees x l (l.getD i 0) == frAt x (l.getD i 0))
def accs (x : X) : List Nat := (List.range x.ev.length).filter fun a : Nat => !((nth x.ev a).k == 4)
def begs (x : X) : List Nat := (List.range x.ev.length).filter fun a : Nat => (nth x.ev a).k == 5
def byOrd (x : X) : Bool := someGo (rightB x) (accs x) ((accs x).length - (begs x).length) (begs x)
theorem mem_accs {x : X} {a : Nat} : a ∈ accs x ↔ (exe x).ac a := by
  unfold accs exe
  simp only [List.mem_filter, List.mem_range, Bool.not_eq_true', beq_eq_false_iff_ne]
theorem mem_begs {x : X} {a : Nat} : a ∈ begs x ↔ a < x.ev.length ∧ (nth x.ev a).k = 5 := by
  unfold begs
  simp only [List.mem_filter, List.mem_range, beq_iff_eq]
theorem co_iff {x : X} {a b : Nat} (ha : a < x.ev.length) (hb : b < x.ev.length) : isCo x (a : Int) (b : Int) = true ↔ (exe x).co a b := by
  unfold isCo Exe.co exe
  simp only [Bool.and_eq_true, decide_eq_true_eq, beq_iff_eq]
  exact ⟨fun h => ⟨⟨ha, h.1.1.1⟩, ⟨hb, h.1.1.2⟩, h.1.2, h.2⟩, fun h => ⟨⟨⟨h.1.2, h.2.1.2⟩, h.2.2.1⟩, h.2.2.2⟩⟩
theorem getD_of {l : List Nat} {i a : Nat} (h : l[i]? = some a) : l.getD i 0 = a := by
  rw [List.getD_eq_getElem?_getD, h]; rfl
theorem at_cI {l : List Nat} (hd : l.Nodup) {n : Nat} (hn : n ∈ l) : at_ (cI l) n = (l.idxOf n : Nat) := by
  refine at_at ?_ ?_
  · unfold cI
    exact List.pairwise_map.2 (hd.imp fun h e => h (by omega))
  · unfold cI
    rw [List.getElem?_map, at_idx hn]; rfl
theorem seen_iff {x : X} {l : List Nat} (hd : l.Nodup) (hm : ∀ a, a ∈ l ↔ (exe x).ac a) {n m i : Nat} (hn : n ∈ l) (hi : l[i]? = some m) : seen x (at_ (cI l) n) n m i = true ↔ candAt (exe x) l n i := by
  unfold seen candAt
  rw [at_cI hd hn]
  simp only [Bool.and_eq_true, Bool.not_eq_true', decide_eq_false_iff_not, beq_iff_eq, Bool.or_eq_true, decide_eq_true_eq]
  have hml := ((hm m).1 (List.mem_of_getElem? hi)).1
  constructor
  · rintro ⟨⟨⟨h1, h2⟩, h3⟩, h4⟩
    exact ⟨m, hi, h1, ⟨hml, h2⟩, h3, h4.imp (fun h => by omega) po_iff.1⟩
  · rintro ⟨m', h0, h1, h2, h3, h4⟩
    rw [hi] at h0
    obtain rfl := Option.some.inj h0
    exact ⟨⟨⟨h1, h2.2⟩, h3⟩, h4.imp (fun h => by omega) po_iff.2⟩
theorem rightB_iff {x : X} (hc : check x = 0) {l : List Nat} (hd : l.Nodup) (hm : ∀ a, a ∈ l ↔ (exe x).ac a) : rightB x l = true ↔ LRight (exe x) l := by
  have hin : ∀ {i a : Nat}, l[i]? = some a → a < x.ev.length := fun h => ((hm _).1 (List.mem_of_getElem? h)).1
  have hsee : ∀ {n : Nat}, n ∈ l → (exe x).ld n → (sees x l n = frAt x n ↔ ∃ i, candAt (exe x) l n i ∧ l[i]? = some ((exe x).rf n) ∧ ∀ j, i < j → ¬ candAt (exe x) l n j) := fun {n} hn hl => by
    obtain ⟨f, hf, e, hs, hae, hne, _⟩ := from_ok hc hl.1 hl.2
    have hrf : (exe x).rf n = f := by show (frAt x n).toNat = f; omega
    rw [e, hrf]
    unfold sees
    rw [lastGo_iff]
    constructor
    · rintro (⟨k, h1, h2, h3⟩ | ⟨h, _⟩)
      · rw [Nat.zero_add] at h2
        refine ⟨k, (seen_iff hd hm hn h1).1 h2, h1, fun j hj hcd => ?_⟩
        obtain ⟨m, hm', _⟩ := id hcd
        have := h3 j m hj hm'
        rw [Nat.zero_add] at this
        rw [(seen_iff hd hm hn hm').2 hcd] at this; cases this
      · omega
    · rintro ⟨i, h1, h2, h3⟩
      refine .inl ⟨i, h2, by rw [Nat.zero_add]; exact (seen_iff hd hm hn h2).2 h1, fun j m hj hjm => ?_⟩
      rw [Nat.zero_add]
      cases hp : seen x (at_ (cI l) n) n m j with
      | false => rfl
      | true => exact absurd ((seen_iff hd hm hn hjm).1 hp) (h3 j hj)
  unfold rightB
  simp only [List.all_eq_true, List.mem_range, Bool.and_eq_true, Bool.or_eq_true, Bool.not_eq_true', decide_eq_false_iff_not, Bool.or_eq_false_iff, beq_iff_eq]
  constructor
  · intro h
    refine ⟨fun i k a b hik ha hb => ?_, fun n hn hl => ?_⟩
    · have hi := (List.getElem?_eq_some_iff.1 ha).1; have hk := (List.getElem?_eq_some_iff.1 hb).1
      have h1 := (h i hi).1 k hk
      rw [getD_of ha, getD_of hb] at h1
      rcases h1 with h1 | h1
      · exact absurd hik h1
      · refine ⟨fun hp => ?_, fun hp => ?_⟩
        · rw [hp.2.2] at h1; cases h1.1
        · rw [(co_iff (hin hb) (hin ha)).2 hp] at h1; cases h1.2
    · have ha := at_idx hn
      have hi := (List.getElem?_eq_some_iff.1 ha).1
      have h1 := (h _ hi).2
      rw [getD_of ha] at h1
      rcases h1 with h1 | h1
      · rw [hl.2] at h1; cases h1
      · exact (hsee hn hl).1 h1
  · intro R i hi
    have ha : l[i]? = some l[i] := List.getElem?_eq_getElem hi
    rw [getD_of ha]
    refine ⟨fun k hk => ?_, ?_⟩
    · have hb : l[k]? = some l[k] := List.getElem?_eq_getElem hk
      rw [getD_of hb]
      by_cases hik : i < k
      · obtain ⟨h1, h2⟩ := R.up i k _ _ hik ha hb
        refine .inr ⟨?_, ?_⟩
        · cases hp : isPpo x l[k] l[i] with
          | false => rfl
          | true => exact absurd ⟨hin hb, hin ha, hp⟩ h1
        · cases hp : isCo x ((l[k] : Nat) : Int) ((l[i] : Nat) : Int) with
          | false => rfl
          | true => exact absurd ((co_iff (hin hb) (hin ha)).1 hp) h2
      · exact .inl hik
    · cases hl : loads (nth x.ev ((l[i] : Nat) : Int)).k with
      | false => exact .inl rfl
      | true =>
        have hld : (exe x).ld l[i] := ⟨hin ha, hl⟩
        exact .inr ((hsee (List.getElem_mem hi) hld).2 (R.sees _ (List.getElem_mem hi) hld))
theorem nodup_accs (x : X) : (accs x).Nodup := List.Pairwise.filter _ List.nodup_range
theorem nodup_begs (x : X) : (begs x).Nodup := List.Pairwise.filter _ List.nodup_range
theorem begs_accs {x : X} {a : Nat} (h : a ∈ begs x) : a ∈ accs x := by
  have := mem_begs.1 h
  exact mem_accs.2 ⟨this.1, by rw [this.2]; decide⟩
theorem beg_h {x : X} (hc : check x = 0) {a : Nat} (h : (exe x).ac a) : a ∈ begs x ↔ (exe x).h a < 0 := by
  rw [mem_begs]
  have e := ev_ok hc h.1
  constructor
  · rintro ⟨_, h5⟩
    have := e.h5 h5
    show (nth x.ev a).h < 0; omega
  · intro hh
    have hh : (nth x.ev a).h < 0 := hh
    refine ⟨h.1, ?_⟩
    apply Classical.byContradiction; intro h5
    have := e.h0 h5; omega
theorem byOrd_iff {x : X} (hc : check x = 0) : byOrd x = true ↔ (∃ gr : Nat → Int, ∀ a b, (exe x).G a b → gr a < gr b) ∧ (∃ gc : Nat → Int, ∀ a b, (exe x).C a b → gc a < gc b) := by
  have H := exe_ok hc
  unfold byOrd
  rw [someGo_iff]
  constructor
  · rintro ⟨r, h1, h2, h3, h4⟩
    have hd : (begs x ++ r).Nodup := List.nodup_append.2 ⟨nodup_begs x, h2, fun a ha b hb e => (h3 b hb).2 (e ▸ ha)⟩
    have hs : ∀ a ∈ begs x ++ r, a ∈ accs x := fun a ha => (List.mem_append.1 ha).elim begs_accs fun h => (h3 a h).1
    have hle := len_le_of_sub (nodup_begs x) (fun a => begs_accs (x := x) (a := a))
    have hcov := all_of_len hd hs (by rw [List.length_append]; omega)
    have hm : ∀ a, a ∈ begs x ++ r ↔ (exe x).ac a := fun a => ⟨fun h => mem_accs.1 (hs a h), fun h => hcov a (mem_accs.2 h)⟩
    have R := (right_iff H hd hm).1 ((rightB_iff hc hd hm).1 h4)
    refine ⟨⟨fun a => ((begs x ++ r).idxOf a : Nat), fun a b h => by
      have h9 : (begs x ++ r).idxOf a < (begs x ++ r).idxOf b := Right.G H R h
      show (((begs x ++ r).idxOf a : Nat) : Int) < (((begs x ++ r).idxOf b : Nat) : Int)
      omega⟩, ⟨fun a => wt (exe x) a * ((x.ev.length : Int) + 1) + min a x.ev.length, fun a b h => ?_⟩⟩
    have ab : a < x.ev.length ∧ b < x.ev.length := by
      rcases h with h | h | h | h
      · exact ⟨h.2.1.1, h.2.2.1.1⟩
      · obtain ⟨hl, rfl⟩ := h
        exact ⟨(H.rfst hl).1.1, hl.1⟩
      · exact ⟨h.1.1, h.2.1.1⟩
      · exact ⟨h.2.1.1, h.2.2.2.1.1⟩
    have hb := ab.2; have ha := ab.1
    simp only
    rcases Right.C H R h with h | ⟨h, h'⟩
    · have h5 : (wt (exe x) a + 1) * ((x.ev.length : Int) + 1) ≤ wt (exe x) b * ((x.ev.length : Int) + 1) := Int.mul_le_mul_of_nonneg_right (by omega) (by omega)
      rw [Int.add_mul] at h5
      omega
    · rw [h]; omega
  · rintro ⟨⟨gr, hG⟩, ⟨gc, hC⟩⟩
    let le : Nat → Nat → Bool := fun a b => decide (gr a ≤ gr b)
    let rest := (accs x).filter fun a => !((begs x).contains a)
    let s := rest.mergeSort le
    have hsp : s.Perm rest := List.mergeSort_perm _ _
    have hsd : s.Nodup := hsp.nodup_iff.2 (List.Pairwise.filter _ (nodup_accs x))
    have hmem : ∀ a, a ∈ s ↔ a ∈ accs x ∧ a ∉ begs x := fun a => by
      rw [hsp.mem_iff]; simp only [rest, List.mem_filter, List.contains_eq_mem, Bool.not_eq_true', decide_eq_false_iff_not]
    have hpw : s.Pairwise fun a b => gr a ≤ gr b := by
      have := List.pairwise_mergeSort (le := le) (fun a b c h1 h2 => by simp only [le, decide_eq_true_eq] at *; omega) (fun a b => by simp only [le, Bool.or_eq_true, decide_eq_true_eq]; omega) rest
      exact this.imp fun h => of_decide_eq_true h
    have hd : (begs x ++ s).Nodup := List.nodup_append.2 ⟨nodup_begs x, hsd, fun a ha b hb e => ((hmem b).1 hb).2 (e ▸ ha)⟩
    have hm : ∀ a, a ∈ begs x ++ s ↔ (exe x).ac a := fun a => by
      rw [List.mem_append, hmem, ← mem_accs]
      by_cases h : a ∈ begs x
      · exact ⟨fun _ => begs_accs h, fun _ => .inl h⟩
      · exact ⟨fun hh => hh.elim (fun h' => absurd h' h) (·.1), fun hh => .inr ⟨hh, h⟩⟩
    have hlen : s.length = (accs x).length - (begs x).length := by
      have e1 := len_le_of_sub hd (fun a ha => mem_accs.2 ((hm a).1 ha))
      have e2 := len_le_of_sub (nodup_accs x) (fun a ha => (hm a).2 (mem_accs.1 ha))
      rw [List.length_append] at e1 e2; omega
    refine ⟨s, hlen, hsd, fun e he => (hmem e).1 he, (rightB_iff hc hd hm).2 ((right_iff H hd hm).2 ?_)⟩
    have idx : ∀ a, (begs x ++ s).idxOf a = if a ∈ begs x then (begs x).idxOf a else s.idxOf a + (begs x).length := fun a => List.idxOf_append
    refine right_of H hG hC (fun {a b} ha hb h => ?_) (fun {a b} ha hb h1 h2 => ?_) (fun {a b} ha hb h1 h2 h => ?_)
    · have e1 := at_idx ((hm a).2 ha); have e2 := at_idx ((hm b).2 hb)
      have h' : (begs x ++ s).idxOf a = (begs x ++ s).idxOf b := h
      rw [h', e2] at e1; exact (Option.some.inj e1).symm
    · have b1 := (beg_h hc ha).2 h1
      have b2 : b ∉ begs x := fun hh => by have := (beg_h hc hb).1 hh; omega
      show (begs x ++ s).idxOf a < (begs x ++ s).idxOf b
      rw [idx, idx, if_pos b1, if_neg b2]
      have := List.idxOf_lt_length_iff.2 b1; omega
    · have b1 : a ∉ begs x := fun hh => by have := (beg_h hc ha).1 hh; omega
      have b2 : b ∉ begs x := fun hh => by have := (beg_h hc hb).1 hh; omega
      show (begs x ++ s).idxOf a < (begs x ++ s).idxOf b
      rw [idx, idx, if_neg b1, if_neg b2]
      have ma : a ∈ s := (hmem a).2 ⟨mem_accs.2 ha, b1⟩
      have mb : b ∈ s := (hmem b).2 ⟨mem_accs.2 hb, b2⟩
      rcases Nat.lt_trichotomy (s.idxOf a) (s.idxOf b) with k | k | k
      · omega
      · have e1 := at_idx ma; have e2 := at_idx mb
        rw [k, e2] at e1
        have := Option.some.inj e1; subst this; omega
      · have l1 := List.idxOf_lt_length_iff.2 ma; have l2 := List.idxOf_lt_length_iff.2 mb
        have := List.pairwise_iff_getElem.1 hpw _ _ l2 l1 k
        rw [List.getElem_idxOf l2, List.getElem_idxOf l1] at this; omega
end Md
end Go.Proofs.YtnjnpbabgefaeaaGreat
end

section
namespace Go.Proofs.YtnjnpbabgefaeaaGreat
open Go.RowKit
namespace Md
open Ev
variable {c1 c2 c3 : Bool}
section
variable {x : X} {a' : Option Addr} {c : Nat}
end
end Md
end Go.Proofs.YtnjnpbabgefaeaaGreat
end

section
namespace Go.Proofs.YtnjnpbabgefaeaaGreat
open Go.RowKit
attribute [local go_sem] or_store_func
attribute [local go_sem] Oper.semAt_some
theorem Md.wpListIn_load_row {F : Fence} {n : Nat} {P : Program} {ops : Array Oper} {rest : List Oper} {o : Oper} {a : Act} {w : World} {Q : Exit → Act → World → Prop} (hgd : o.guard = none) (ty : TypeId) (x : Operand) (ho : o.op = .load ty x)
    (g : Nat) (hx : a.eval x = .pointer (some ⟨g, 0, none⟩)) (t : TypeId) (cs : Array Value) (fr : Nat × Nat) (d : TypeDesc) (hg : w.heap[g]? = some (.cells cs t fr))
    (hu : P.underlying ty = some d) (hd : (match d with | .struct _ | .array _ _ => true | _ => false) = true) (hi : (P.info? ty).map (·.size) = some cs.size)
    (h : wpListIn F n P ops Q rest (a.put o.dst (.agg cs)) w) : wpListIn F n P ops Q (o :: rest) a w := by
  refine wpListIn_plain hgd fun K' hK' => ?_
  unfold Oper.wpIn
  refine ⟨by simp [Oper.about, ho], ?_⟩
  rw [Oper.semAt_plain F _ _ (by rw [ho]; intro c hc'; cases hc')]
  unfold execOp
  simp only [ho, hx, Instr.loadAt, Instr.sureAddr, Sem.run_bind, Sem.run_pure, Result.andThen_ok, run_loadVar_row w g t ty cs fr d hg hu hd hi]
  exact hK' _ _ h
theorem Or.Acc.grown {w : World} {B : Nat} {T E : TypeId} {sz k : Nat} {xs : List Value} {W W' : World} (h : Or.Acc w B T E sz k xs W) {r : Nat} {o : Obj} (hr : w.heap.size ≤ r) (ho : W.heap[r]? = some o) (hc : o.isCells = false) (hg : W.grownBy W' (some r)) : Or.Acc w B T E sz k xs W' := by
  obtain ⟨v, h1, h2⟩ := h.out
  refine ⟨h.bel.grown hg h.bel.size (fun j hj => by cases hj; exact hr), v, (hg.block B h1.lt (fun e => ?_)).trans h1, h2.kept hg ?_⟩
  · cases e; rw [show W.heap[B]? = _ from h1] at ho; cases ho; cases hc
  · rcases h2.2 with ⟨rfl, _⟩ | ⟨g, cap, cur, rfl, _, hh, _⟩
    · exact .inl rfl
    · refine .inr fun e => ?_
      have : g = r := by simpa [Value.ownBlock] using e
      subst this; rw [hh] at ho; cases ho; cases hc
set_option maxRecDepth 100000 in
set_option maxHeartbeats 8000000 in
theorem pappendSeq_any (G : FuncId) (caps : Array Value) (R : World → Prop) (S : List (Nat × Nat)) (hS : S.length ≤ 65536) (w : World) (hE : ∀ args w, (callFunc G args).run Tryz.prog w = .ok (.enter G args) w) (hR : ∀ (ss : List (Nat × Nat)) (W : World), Below w.heap.size w W → R W)
    (hit : Og.IterS Fence.wide 4 Tryz.prog G caps R (fun p : Nat × Nat => #[Md.pkV p]) (Md.kst S) [] (Md.kfin S)) :
    Calls Tryz.prog 113 #[.slice none 0 0, .func (.func G) #[] caps] w fun r w' => ∃ v ss, r = .returned v ∧ Md.kfin S ss ∧ w'.ownsRow w.heap.size 72 2 v ss.length (ss.flatMap Ev.pv) ∧ Below w.heap.size w w' := by
  obtain ⟨W0, hW0⟩ : ∃ W0, w.alloc (.cells #[.slice none 0 0] 37) = W0 := ⟨_, rfl⟩
  have hsz : W0.heap.size = w.heap.size + 1 := by rw [← hW0]; simp
  have hA : Or.Acc w w.heap.size 37 72 2 0 [] W0 := by
    rw [← hW0]; exact ⟨(Below.refl _ w).alloc (Nat.le_refl _) _, _, Boxed.new w _ _, World.ownsRow_nil _ _ _ _⟩
  have HA := Lib.hid hA; have HSZ := Lib.hid hsz; have HW0 := Lib.hid hW0; have HR := Lib.hid hR
  have HIT := Lib.hid hit; have HE := Lib.hid hE
  obtain ⟨i0, hi, hz0, hz1, hz2⟩ := info_pair
  have HI := Lib.hid hi; have HZ0 := Lib.hid hz0; have HZ1 := Lib.hid hz1; have HZ2 := Lib.hid hz2
  clear hA hsz hW0 hit hR hE hi hz0 hz1 hz2
  refine (callsIn_wide (n := 5)).1 ?_
  refine callsIn_of_wp_marks Tryz.func113 rfl trivial ?_ rfl
  simp only [Tryz.ntmps113, List.size_toArray, List.length_cons, List.length_nil, Nat.reduceAdd, Nat.reduceSub, Array.replicate_succ, Array.replicate_zero, List.push_toArray, List.append_toArray, List.nil_append, List.cons_append]
  refine wpIn_wide.2 ?_
  go_wp2_with fail
  rw [HW0.out]
  clear HW0
  refine (wpIn_wide (n := 5)).1 ?_
  refine Og.wpIn_rangeFunc_sts (α := Nat × Nat) (σ := List (Nat × Nat)) rfl (by decide) (gf := G) (lb := caps) rfl trivial HE.out
    HIT.out (fun _ => rfl)
    (fun ss W => Or.Acc w w.heap.size 37 72 2 ss.length (ss.flatMap Ev.pv) W) (fun c W => False)
    (fun k A A' h hb => h.kp hb) (fun k A l o o' h hl ho hc => h.putObj o' (by have := HSZ.out; omega) ho hc)
    (fun k A A' r o h hr ho hc hg => h.grown (by have := HSZ.out; omega) ho hc hg) (fun c A A' r o h _ _ _ _ => h) (fun c A l o o' h hl ho hc => h)
    (fun k A h => HR.out k A h.bel) HA.out
    (fun p U => { tmps := #[.slice none 0 0, .func (.func G) #[] caps, .pointer (some ⟨w.heap.size, 0, none⟩), undef, .slice none 0 0, .pointer (some ⟨U.heap.size, 0, none⟩), .func (.func G) #[] caps, Md.pkV p, undef, undef, undef, undef, undef], defers := [] })
    (fun p U => U.alloc (.cells #[.int .i64 (p.1 : Int), .int .i64 (p.2 : Int)] 72)) (fun p U => (Below.refl _ _).alloc (Nat.le_refl _) _) ?assign ?body ?done ?stop
  case assign =>
    rintro l m W K hK
    have HK := Lib.hid hK; clear hK
    unfold Md.pkV
    gi_wp2_with fail
    exact HK.out
  case body =>
    rintro l ss ss2 p U W hs hAU hA hcl hsz
    obtain ⟨hp, hn, hnd, hsub, rfl⟩ := hs
    have hlen : ss.length ≤ 65536 := Nat.le_trans (Ev.nodup_le hnd hsub) hS
    have RWP := Lib.hid (hcl U.heap.size _ (heap_alloc_new _ _) rfl)
    obtain ⟨ad, cc, hv, hr⟩ := hA.form
    have c2 := hv.cell
    have HV := Lib.hid hv; have HRR := Lib.hid hr; have HB := Lib.hid hA.bel
    clear hA hAU hv hr hp hn hnd hsub hcl hsz
    unfold Md.pkV
    gi_wp2_with (first
      | ((with_reducible show wpListIn _ _ _ _ _ (Oper.mk (some 9) _ _ _ _ _ :: _) _ _); refine Md.wpListIn_load_row rfl 72 (.tmp 5) rfl U.heap.size (by kernel_rfl) 72 #[.int .i64 (p.1 : Int), .int .i64 (p.2 : Int)] (0, 0) _ RWP.out Tryz.underlying72 rfl (by kernel_rfl) ?_)
      | ((with_reducible show wpListIn _ _ _ _ _ (Oper.mk (some 11) _ _ _ _ _ :: _) _ _); refine wpListIn_append_own (W.alloc (.cells #[.int .i64 (p.1 : Int), .int .i64 (p.2 : Int)] 72)) rfl (.tmp 8) (.tmp 10) 37 rfl w.heap.size 72 i0 (.agg #[.int .i64 0, .int .i64 0]) 2 16 Tryz.underlying37 HI.out HZ0.out HZ1.out HZ2.out rfl (by decide) _ _ _ rfl (HRR.out.alloc _) ⟨W.heap.size, 0, none⟩ 1 1 (Ev.pv p) rfl rfl (fun j u hu => World.news_of_block (heap_alloc_new W _) j u hu) (Ev.pv_one _) (by unfold maxLen; omega) (by omega) (by have := HB.out.size; simp only [World.size_alloc]; omega) ?_
         intro v' w3 hown hgrow _
         obtain ⟨gb, cp', rfl⟩ := Or.row_succ hown
         obtain ⟨f1, f2, f3, f4, f5⟩ := Boxed.appended HV.out (by decide) HRR.out HB.out.size (Nat.le_refl _) hown hgrow
         have hf1 := f1.cell; have hf2 := f1.frozen
         have F4 := Lib.hid f4; have F5 := Lib.hid (HB.out.trans f5)
         have FA := Lib.hid (And.intro f2 f3)
         clear f1 f2 f3 f4 f5 hown hgrow c2))
    refine ⟨F4.out, F5.out, _, FA.out.1, ?_⟩
    have h := FA.out.2
    rw [List.length_append, List.flatMap_append]
    simpa using h
  case done =>
    rintro D ss W hD hf hA hK
    obtain ⟨ad, cc, hv, hr⟩ := hA.form
    have c2 := hv.cell
    have HRR := Lib.hid hr; have HB := Lib.hid hA.bel; have HK := Lib.hid hK; have HDD := Lib.hid hD; have HAA := Lib.hid hA; have HF := Lib.hid hf
    clear hv hr hA hK hD hf
    go_wp2_with fail
    refine ⟨by simp, .inl ⟨_, _, rfl, run_takeDeferred HK.out, ?_⟩⟩
    refine ⟨_, results_tmp (fn := Tryz.f113) rfl _ _ _, ⟨_, ss, rfl, HF.out, ?_, Or.below_putObj HB.out (by have := HDD.out; have := HSZ.out; omega)⟩⟩
    have hr := HRR.out
    have hk : ∀ (j : Nat) (x : Obj), W.heap[j]? = some x → x.isCells = true → (W.putObj D (.deferred none)).heap[j]? = some x := fun j x hx hxc => (World.putObj_heap_other (fun e => by subst e; rw [HK.out] at hx; cases hx; cases hxc)).trans hx
    exact ⟨hr.1, hr.2.imp id fun ⟨g, cap, cur, e1, e2, e3, r⟩ => ⟨g, cap, cur, e1, e2, hk g _ e3 rfl, r⟩⟩
  case stop =>
    rintro D c W hD h hK
    exact h.elim
end Go.Proofs.YtnjnpbabgefaeaaGreat
end

section
namespace Go.Proofs.YtnjnpbabgefaeaaGreat
open Go.RowKit
namespace Md
open Ev
def Allow (x : X) : Prop := atomB x = true ∧ (∃ gr : Nat → Int, ∀ a b, (exe x).G a b → gr a < gr b) ∧ (∃ gc : Nat → Int, ∀ a b, (exe x).C a b → gc a < gc b)
theorem allow_ax {x : X} (hc : check x = 0) : Allow x ↔ (atomB x && byOrd x) = true := by
  unfold Allow
  rw [Bool.and_eq_true, byOrd_iff hc]
end Md
end Go.Proofs.YtnjnpbabgefaeaaGreat
end

section
namespace Go.Proofs.YtnjnpbabgefaeaaGreat
open Go.RowKit
def Md.cmpI (a b : Int) : Int := if a < b then -1 else if b < a then 1 else 0
def Md.orI (a b : Int) : Int := if a = 0 then b else a
def Md.cmpP (p q : Nat × Nat) : Int := Md.orI (Md.cmpI (p.1 : Int) (q.1 : Int)) (Md.cmpI (p.2 : Int) (q.2 : Int))
theorem isNaN_any (a : Int) (w : World) : Calls Tryz.prog 90 #[.int .i64 a] w fun e w' => e = .returned (.bool false) ∧ w = w' := by
  go_enter Tryz.func90, Tryz.ntmps90
  go_wp2
  go_ret
  exact ⟨rfl, rfl⟩
set_option maxHeartbeats 1000000 in
theorem compare_any (a b : Int) (w : World) : Calls Tryz.prog 64 #[.int .i64 a, .int .i64 b] w fun e w' => e = .returned (.int .i64 (Md.cmpI a b)) ∧ w = w' := by
  obtain ⟨r, hr⟩ : ∃ r, Md.cmpI a b = r := ⟨_, rfl⟩
  have HR := Lib.hid hr
  rw [hr]
  clear hr
  have hc : a < b ∨ (¬ a < b ∧ b < a) ∨ (¬ a < b ∧ ¬ b < a) := by omega
  rcases hc with h | ⟨h1, h2⟩ | ⟨h1, h2⟩
  · have HV := Lib.hid (show r = -1 by rw [← HR.out]; unfold Md.cmpI; rw [if_pos h])
    go_enter Tryz.func64, Tryz.ntmps64
    go_wp2_with (go_at_call 90; refine (isNaN_any _ _).mono ?_; rintro e w' ⟨rfl, rfl⟩)
    go_ret
    exact ⟨by rw [HV.out]; rfl, rfl⟩
  · have HV := Lib.hid (show r = 1 by rw [← HR.out]; unfold Md.cmpI; rw [if_neg h1, if_pos h2])
    go_enter Tryz.func64, Tryz.ntmps64
    go_wp2_with (go_at_call 90; refine (isNaN_any _ _).mono ?_; rintro e w' ⟨rfl, rfl⟩)
    go_ret
    exact ⟨by rw [HV.out]; rfl, rfl⟩
  · have HV := Lib.hid (show r = 0 by rw [← HR.out]; unfold Md.cmpI; rw [if_neg h1, if_neg h2])
    go_enter Tryz.func64, Tryz.ntmps64
    go_wp2_with (go_at_call 90; refine (isNaN_any _ _).mono ?_; rintro e w' ⟨rfl, rfl⟩)
    go_ret
    exact ⟨by rw [HV.out]; rfl, rfl⟩
set_option maxHeartbeats 1000000 in
theorem cmpOr_any (g : Nat) (a b : Int) (w : World) (h0 : w.cell? ⟨g, 0, none⟩ = some (.int .i64 a)) (h1 : w.cell? ⟨g, 1, none⟩ = some (.int .i64 b)) :
    Calls Tryz.prog 63 #[.slice (some ⟨g, 0, none⟩) 2 2] w fun e w' => e = .returned (.int .i64 (Md.orI a b)) ∧ w = w' := by
  obtain ⟨r, hr⟩ : ∃ r, Md.orI a b = r := ⟨_, rfl⟩
  have HR := Lib.hid hr
  rw [hr]
  clear hr
  by_cases ha : a = 0
  · subst ha
    by_cases hb : b = 0
    · subst hb
      have HV := Lib.hid (show r = 0 by rw [← HR.out]; rfl)
      go_enter Tryz.func63, Tryz.ntmps63
      go_wp2
      refine wp_loop_rounds 3 ?_
      rw [rounds_succ]
      go_wp2
      rw [rounds_succ]
      go_wp2
      rw [rounds_succ]
      go_wp2
      go_ret
      exact ⟨by rw [HV.out]; rfl, rfl⟩
    · have HV := Lib.hid (show r = b by rw [← HR.out]; rfl)
      have hb' : (b != 0) = true := by simpa using hb
      go_enter Tryz.func63, Tryz.ntmps63
      go_wp2
      refine wp_loop_rounds 3 ?_
      rw [rounds_succ]
      go_wp2
      rw [rounds_succ]
      go_wp2
      go_ret
      exact ⟨by rw [HV.out]; rfl, rfl⟩
  · have HV := Lib.hid (show r = a by rw [← HR.out]; unfold Md.orI; rw [if_neg ha])
    have ha' : (a != 0) = true := by simpa using ha
    go_enter Tryz.func63, Tryz.ntmps63
    go_wp2
    refine wp_loop_rounds 3 ?_
    rw [rounds_succ]
    go_wp2
    go_ret
    exact ⟨by rw [HV.out]; rfl, rfl⟩
theorem Md.grow3 (w : World) (a b c : Obj) : World.alloc { (w.alloc a).alloc b with drawn := ((w.alloc a).alloc b).drawn + 1 } c = Sort.grow (w.drewN 1) #[a, b, c] := by
  have h : ((w.heap.push a).push b).push c = w.heap ++ #[a, b, c] := by apply Array.ext'; simp
  unfold Sort.grow World.drewN
  rw [← h]
  rfl
set_option maxRecDepth 100000 in
set_option maxHeartbeats 2000000 in
theorem cmpP_any (p q : Nat × Nat) (w : World) : Calls Tryz.prog 62 #[Md.pkV p, Md.pkV q] w fun e w' => e = .returned (.int .i64 (Md.cmpP p q)) ∧ ∃ n os', w' = Sort.grow (w.drewN n) os' := by
  unfold Md.pkV
  obtain ⟨r, hr⟩ : ∃ r, Md.cmpP p q = r := ⟨_, rfl⟩
  have HR := Lib.hid hr
  rw [hr]
  clear hr
  go_enter Tryz.func62, Tryz.ntmps62
  go_wp2
  obtain ⟨B, hB⟩ : ∃ B, B = (w.alloc (.cells #[.int .i64 (p.1 : Int), .int .i64 (p.2 : Int)] 72)).alloc (.cells #[.int .i64 (q.1 : Int), .int .i64 (q.2 : Int)] 72) := ⟨_, rfl⟩
  rw [← hB]
  obtain ⟨V, hV⟩ : ∃ V : World, V = { B with drawn := B.drawn + 1 } := ⟨_, rfl⟩
  have r0 : V.heap[w.heap.size]? = some (.cells #[.int .i64 (p.1 : Int), .int .i64 (p.2 : Int)] 72 (0, 0)) := by
    rw [hV, hB]; exact (((Below.refl _ _).alloc (Nat.le_refl _) _).block _ (by simp)).trans (heap_alloc_new w _)
  have r1 : V.heap[w.heap.size + 1]? = some (.cells #[.int .i64 (q.1 : Int), .int .i64 (q.2 : Int)] 72 (0, 0)) := by
    rw [hV, hB]; have h := heap_alloc_new (w.alloc (.cells #[.int .i64 (p.1 : Int), .int .i64 (p.2 : Int)] 72)) (.cells #[.int .i64 (q.1 : Int), .int .i64 (q.2 : Int)] 72); rw [World.size_alloc] at h; exact h
  have c0 : V.cell? ⟨w.heap.size, 0, none⟩ = some (.int .i64 (p.1 : Int)) := by rw [cell_of_row _ _ _ _ _ _ r0]; rfl
  have c1 : V.cell? ⟨w.heap.size, 1, none⟩ = some (.int .i64 (p.2 : Int)) := by rw [cell_of_row _ _ _ _ _ _ r0]; rfl
  have c2 : V.cell? ⟨w.heap.size + 1, 0, none⟩ = some (.int .i64 (q.1 : Int)) := by rw [cell_of_row _ _ _ _ _ _ r1]; rfl
  have c3 : V.cell? ⟨w.heap.size + 1, 1, none⟩ = some (.int .i64 (q.2 : Int)) := by rw [cell_of_row _ _ _ _ _ _ r1]; rfl
  have HB := Lib.hid hB; have HV := Lib.hid hV; clear hB r0 r1
  refine wp_region_still_tail 10 (by kernel_rfl) (by kernel_rfl) ?_
  rw [← hV]
  clear hV
  simp only [List.take_succ_cons, List.take_zero, List.drop_succ_cons, List.drop_zero]
  still_step
  still_step
  still_step
  still_step
  still_call ((compare_any _ _ _).mono fun _ _ h => ⟨h.1, h.2.symm⟩)
  still_step
  still_step
  still_step
  still_step
  still_call ((compare_any _ _ _).mono fun _ _ h => ⟨h.1, h.2.symm⟩)
  refine wpStill_nil ?_
  clear c0 c1 c2 c3
  obtain ⟨d1, hd1⟩ : ∃ d, Md.cmpI (p.1 : Int) (q.1 : Int) = d := ⟨_, rfl⟩
  obtain ⟨d2, hd2⟩ : ∃ d, Md.cmpI (p.2 : Int) (q.2 : Int) = d := ⟨_, rfl⟩
  rw [hd1, hd2]
  have HD1 := Lib.hid hd1; have HD2 := Lib.hid hd2
  clear hd1 hd2
  go_wp2_with (go_at_call 63; refine (cmpOr_any V.heap.size d1 d2 _ (by rw [cell_of_row _ _ _ _ _ _ (heap_alloc_new V _)]; rfl) (by rw [cell_of_row _ _ _ _ _ _ (heap_alloc_new V _)]; rfl)).mono ?_; rintro e w' ⟨rfl, rfl⟩)
  go_ret
  refine ⟨?_, 1, #[.cells #[.int .i64 (p.1 : Int), .int .i64 (p.2 : Int)] 72, .cells #[.int .i64 (q.1 : Int), .int .i64 (q.2 : Int)] 72, .cells #[.int .i64 d1, .int .i64 d2] 3], ?_⟩
  · rw [← HR.out, ← HD1.out, ← HD2.out]; rfl
  · rw [HV.out, HB.out]
    exact Md.grow3 w _ _ _
end Go.Proofs.YtnjnpbabgefaeaaGreat
end
