import Derived.Test.YtecnnkidalkmfaaGreatKc53
import Derived.Test.YtecnnkidalkmfaaGreatKc35
import Derived.Test.YtecnnkidalkmfaaGreatKc52
set_option linter.unusedVariables false
set_option linter.unusedSimpArgs false

section
namespace Go.Proofs.YtecnnkidalkmfaaGreat
open Go.RowKit
namespace Md
open Ev
theorem fr_iff {x : X} (hc : check x = 0) {a b : Nat} (ha : a < x.ev.length) (hb : b < x.ev.length) : isFr x a b = true ↔ (exe x).fr a b := by
  unfold isFr Exe.fr
  simp only [Bool.and_eq_true, Bool.not_eq_true', decide_eq_false_iff_not]
  constructor
  · rintro ⟨⟨h1, h2⟩, h3⟩
    obtain ⟨f, hf, e, _⟩ := from_ok hc ha h2
    have hrf : (exe x).rf a = f := by show (frAt x a).toNat = f; omega
    rw [e] at h3
    exact ⟨h1, ⟨ha, h2⟩, by rw [hrf]; exact (co_iff hf hb).1 h3⟩
  · rintro ⟨h1, h2, h3⟩
    obtain ⟨f, hf, e, _⟩ := from_ok hc ha h2.2
    have hrf : (exe x).rf a = f := by show (frAt x a).toNat = f; omega
    rw [hrf] at h3
    exact ⟨⟨h1, h2.2⟩, by rw [e]; exact (co_iff hf hb).2 h3⟩
theorem rf_iff {x : X} (hc : check x = 0) {a b : Nat} (hb : b < x.ev.length) : isRf x a b = true ↔ (exe x).ld b ∧ (exe x).rf b = a := by
  unfold isRf
  simp only [Bool.and_eq_true, beq_iff_eq]
  constructor
  · rintro ⟨h1, h2⟩
    exact ⟨⟨hb, h1⟩, by show (frAt x b).toNat = a; omega⟩
  · rintro ⟨h1, h2⟩
    obtain ⟨f, hf, e, _⟩ := from_ok hc hb h1.2
    have hrf : (exe x).rf b = f := by show (frAt x b).toNat = f; omega
    exact ⟨h1.2, by omega⟩
theorem G_iff {x : X} (hc : check x = 0) {a b : Nat} (ha : a < x.ev.length) (hb : b < x.ev.length) : isG6 x a b = true ↔ (exe x).G a b := by
  unfold isG6 Exe.G
  simp only [Bool.or_eq_true, Bool.and_eq_true, bne_iff_ne]
  rw [co_iff ha hb, fr_iff hc ha hb, rf_iff hc hb]
  constructor
  · rintro (((h | h) | h) | h)
    · exact .inl ⟨ha, hb, h⟩
    · exact .inr (.inr (.inl h))
    · exact .inr (.inr (.inr h))
    · exact .inr (.inl ⟨h.1.1, h.1.2, h.2⟩)
  · rintro (h | h | h | h)
    · exact .inl (.inl (.inl h.2.2))
    · exact .inr ⟨⟨h.1, h.2.1⟩, h.2.2⟩
    · exact .inl (.inl (.inr h))
    · exact .inl (.inr h)
theorem G_in {x : X} (hc : check x = 0) {a b : Nat} (h : (exe x).G a b) : a < x.ev.length ∧ b < x.ev.length := by
  have H := exe_ok hc
  rcases h with h | h | h | h
  · exact ⟨h.1, h.2.1⟩
  · obtain ⟨hl, rfl, _⟩ := h
    exact ⟨(H.rfst hl).1.1, hl.1⟩
  · exact ⟨h.1.1, h.2.1.1⟩
  · exact ⟨h.2.1.1, h.2.2.2.1.1⟩
theorem C_in {x : X} (hc : check x = 0) {a b : Nat} (h : (exe x).C a b) : a < x.ev.length ∧ b < x.ev.length := by
  have H := exe_ok hc
  rcases h with h | h | h | h
  · exact ⟨h.2.1.1, h.2.2.1.1⟩
  · obtain ⟨hl, rfl⟩ := h
    exact ⟨(H.rfst hl).1.1, hl.1⟩
  · exact ⟨h.1.1, h.2.1.1⟩
  · exact ⟨h.2.1.1, h.2.2.2.1.1⟩
theorem rk_G {x : X} (hc : check x = 0) : Rk (gI (pl (isG6 x) x.ev.length x.ev.length)) ↔ ∃ gr : Nat → Int, ∀ a b, (exe x).G a b → gr a < gr b := by
  rw [rk_gI]
  constructor
  · rintro ⟨gr, h⟩
    exact ⟨gr, fun a b k => h (a, b) (mem_pl.2 ⟨(G_in hc k).1, (G_in hc k).2, (G_iff hc (G_in hc k).1 (G_in hc k).2).2 k⟩)⟩
  · rintro ⟨gr, h⟩
    refine ⟨gr, fun p hp => ?_⟩
    obtain ⟨h1, h2, h3⟩ := mem_pl.1 (show (p.1, p.2) ∈ _ from hp)
    exact h _ _ ((G_iff hc h1 h2).1 h3)
theorem mem_cohL {x : X} (hc : check x = 0) {a b : Nat} : (a, b) ∈ cohL x ↔ (exe x).C a b := by
  unfold cohL
  simp only [List.mem_append, List.mem_filter, mem_pl]
  constructor
  · rintro (((⟨h1, h2, h⟩ | ⟨h1, h2, h⟩) | ⟨h1, h2, h⟩) | ⟨⟨h1, h2, h⟩, h'⟩)
    · exact .inr (.inl ((rf_iff hc h2).1 h))
    · exact .inr (.inr (.inl ((co_iff h1 h2).1 h)))
    · exact .inr (.inr (.inr ((fr_iff hc h1 h2).1 h)))
    · unfold oneA at h'
      simp only [Bool.and_eq_true, Bool.not_eq_true', beq_eq_false_iff_ne, beq_iff_eq] at h'
      exact .inl ⟨po_iff.1 h, ⟨h1, h'.1.1⟩, ⟨h2, h'.1.2⟩, h'.2⟩
  · intro h
    obtain ⟨h1, h2⟩ := C_in hc h
    rcases h with h | h | h | h
    · refine .inr ⟨⟨h1, h2, po_iff.2 h.1⟩, ?_⟩
      unfold oneA
      simp only [Bool.and_eq_true, Bool.not_eq_true', beq_eq_false_iff_ne, beq_iff_eq]
      exact ⟨⟨h.2.1.2, h.2.2.1.2⟩, h.2.2.2⟩
    · exact .inl (.inl (.inl ⟨h1, h2, (rf_iff hc h2).2 h⟩))
    · exact .inl (.inl (.inr ⟨h1, h2, (co_iff h1 h2).2 h⟩))
    · exact .inl (.inr ⟨h1, h2, (fr_iff hc h1 h2).2 h⟩)
theorem rk_C {x : X} (hc : check x = 0) : Rk (gI (cohL x)) ↔ ∃ gc : Nat → Int, ∀ a b, (exe x).C a b → gc a < gc b := by
  rw [rk_gI]
  constructor
  · rintro ⟨gr, h⟩
    exact ⟨gr, fun a b k => h (a, b) ((mem_cohL hc).2 k)⟩
  · rintro ⟨gr, h⟩
    exact ⟨gr, fun p hp => h _ _ ((mem_cohL hc).1 (show (p.1, p.2) ∈ _ from hp))⟩
end Md
end Go.Proofs.YtecnnkidalkmfaaGreat
end

section
namespace Go.Proofs.YtecnnkidalkmfaaGreat
open Go.RowKit
namespace Md
open Ev
def EvRow (W : World) (base : Nat) (a : Option Addr) (c : Nat) (xs : List R) : Prop := W.ownsRow base 48 13 (.slice a xs.length c) xs.length (xs.map cells).flatten
theorem cells_len (y : R) : (cells y).length = 13 := rfl
theorem evflat_len (xs : List R) : ((xs.map cells).flatten).length = xs.length * 13 := by
  induction xs with
  | nil => rfl
  | cons a l ih => rw [List.map_cons, List.flatten_cons, List.length_append, ih, cells_len, List.length_cons]; omega
theorem flat_at (xs : List R) : ∀ (k : Nat) (y : R) (i : Nat) (c : Value), xs[k]? = some y → (cells y)[i]? = some c → ((xs.map cells).flatten)[k * 13 + i]? = some c := by
  induction xs with
  | nil => intro k y i c h; simp at h
  | cons a l ih =>
    intro k y i c hk hi
    have hil : i < 13 := by have := (List.getElem?_eq_some_iff.1 hi).1; rwa [cells_len] at this
    rw [List.map_cons, List.flatten_cons]
    cases k with
    | zero =>
      obtain rfl : a = y := by simpa using hk
      rw [List.getElem?_append_left (by rw [cells_len]; omega)]
      simpa using hi
    | succ k =>
      rw [List.getElem?_append_right (by rw [cells_len]; omega)]
      have := ih k y i c (by simpa using hk) hi
      rw [show (k + 1) * 13 + i - (cells a).length = k * 13 + i by rw [cells_len]; omega]
      exact this
theorem flat_set (xs : List R) : ∀ (k i : Nat) (y y' : R) (c : Value), xs[k]? = some y → i < 13 → cells y' = (cells y).set i c → ((xs.map cells).flatten).set (k * 13 + i) c = ((xs.set k y').map cells).flatten := by
  induction xs with
  | nil => intro k i y y' c h; simp at h
  | cons a l ih =>
    intro k i y y' c hk hi hy
    cases k with
    | zero =>
      obtain rfl : a = y := by simpa using hk
      rw [List.map_cons, List.flatten_cons, List.set_cons_zero, List.map_cons, List.flatten_cons, hy, Nat.zero_mul, Nat.zero_add, List.set_append_left _ _ (by rw [cells_len]; omega)]
    | succ k =>
      rw [List.map_cons, List.flatten_cons, List.set_cons_succ, List.map_cons, List.flatten_cons, List.set_append_right _ _ (by rw [cells_len]; omega)]
      rw [show (k + 1) * 13 + i - (cells a).length = k * 13 + i by rw [cells_len]; omega]
      rw [ih k i y y' c (by simpa using hk) hi hy]
theorem row_put {W : World} {base g n cap j : Nat} {e : TypeId} {sz : Nat} {ys : List Value} (c : Value) (h : W.ownsRow base e sz (.slice (some ⟨g, 0, none⟩) n cap) n ys) : (W.setCell ⟨g, j, none⟩ c).ownsRow base e sz (.slice (some ⟨g, 0, none⟩) n cap) n (ys.set j c) := by
  refine ⟨by rw [List.length_set]; exact h.1, ?_⟩
  rcases h.2 with ⟨e1, _⟩ | ⟨g', cap', cur, e1, hb, hh, hnc, hcm, hcs, ht⟩
  · simp at e1
  · obtain ⟨rfl, rfl⟩ : g = g' ∧ cap = cap' := by simpa using e1
    refine .inr ⟨g, cap, cur.setIfInBounds j c, rfl, hb, ?_, hnc, hcm, by simpa using hcs, ?_⟩
    · obtain ⟨hlt, hk⟩ := Array.getElem?_eq_some_iff.1 hh
      show (W.heap.modify g _)[g]? = _
      rw [Array.getElem?_eq_getElem (by rw [Array.size_modify]; exact hlt), Array.getElem_modify_self, hk]
      rfl
    · rw [Array.toList_setIfInBounds, List.take_set, ht]
theorem box_put {W : World} {b : Nat} {v u p q : Value} {t : TypeId} (h : W.heap[b]? = some (.cells #[u, p, q] t (0, 0))) : (W.setCell ⟨b, 0, none⟩ v).heap[b]? = some (.cells #[v, p, q] t (0, 0)) := by
  obtain ⟨hlt, hk⟩ := Array.getElem?_eq_some_iff.1 h
  show (W.heap.modify b _)[b]? = _
  rw [Array.getElem?_eq_getElem (by rw [Array.size_modify]; exact hlt), Array.getElem_modify_self, hk]
  rfl
theorem EvRow.form {W : World} {base : Nat} {a : Option Addr} {c : Nat} {xs : List R} (h : EvRow W base a c xs) (hp : 0 < xs.length) : ∃ g cur, a = some ⟨g, 0, none⟩ ∧ base ≤ g ∧ W.heap[g]? = some (.cells cur 48 (0, 0)) ∧ xs.length ≤ c ∧ c ≤ 9223372036854775807 := by
  rcases h.2 with ⟨e, hn⟩ | ⟨g, cap, cur, e, hb, hh, hnc, hcm, hcs, ht⟩
  · omega
  · obtain ⟨rfl, rfl⟩ : a = some ⟨g, 0, none⟩ ∧ c = cap := by simpa using e
    exact ⟨g, cur, rfl, hb, hh, hnc, by unfold maxLen at hcm; exact hcm⟩
theorem EvRow.cell {W : World} {base g : Nat} {c : Nat} {xs : List R} (h : EvRow W base (some ⟨g, 0, none⟩) c xs) {k i : Nat} {y : R} {v : Value} (hk : xs[k]? = some y) (hi : (cells y)[i]? = some v) : W.cell? ⟨g, k * 13 + i, none⟩ = some v := by
  have h1 := World.ownsRow.cells (g := g) h rfl (k * 13 + i) v (flat_at xs k y i v hk hi)
  have e : (⟨g, 0, none⟩ : Addr).add (k * 13 + i) = ⟨g, k * 13 + i, none⟩ := by unfold Addr.add; split <;> simp_all
  rw [e] at h1; exact h1
theorem EvRow.thaw {W : World} {base g : Nat} {c : Nat} {xs : List R} (h : EvRow W base (some ⟨g, 0, none⟩) c xs) (j : Nat) : W.frozen? ⟨g, j, none⟩ = false := by
  rcases h.2 with ⟨e, hn⟩ | ⟨g', cap, cur, e, hb, hh, _⟩
  · simp at e
  · obtain ⟨rfl, _⟩ : g = g' ∧ c = cap := by simpa using e
    simp [World.frozen?, hh]
theorem EvRow.put {W : World} {base g : Nat} {c : Nat} {xs : List R} (h : EvRow W base (some ⟨g, 0, none⟩) c xs) {k i : Nat} {y y' : R} {v : Value} (hk : xs[k]? = some y) (hi : i < 13) (hy : cells y' = (cells y).set i v) :
    EvRow (W.setCell ⟨g, k * 13 + i, none⟩ v) base (some ⟨g, 0, none⟩) c (xs.set k y') := by
  unfold EvRow at h ⊢
  rw [List.length_set, ← flat_set xs k i y y' v hk hi hy]
  exact row_put v h
theorem put_below {w W : World} {g j : Nat} {v : Value} (h : Below w.heap.size w W) (hg : w.heap.size ≤ g) : Below w.heap.size w (W.setCell ⟨g, j, none⟩ v) :=
  ⟨h.os, h.tape, h.output, Nat.le_trans h.size (KeepsWalks.setCell W _ v).size, fun k hk => (Below.heap_setCell _ _ _ k (fun e => by simp at e; omega)).trans (h.block k hk)⟩
theorem put_else {W : World} {g j b : Nat} {v : Value} {o : Obj} (h : W.heap[b]? = some o) (hb : b ≠ g) : (W.setCell ⟨g, j, none⟩ v).heap[b]? = some o :=
  (Below.heap_setCell _ _ _ b (fun e => hb e)).trans h
def cur (f : R → R) (xs : List R) (k : Nat) : List R := (xs.take k).map f ++ xs.drop k
theorem cur_zero (f : R → R) (xs : List R) : cur f xs 0 = xs := by simp [cur]
theorem cur_all (f : R → R) (xs : List R) : cur f xs xs.length = xs.map f := by simp [cur]
theorem cur_len (f : R → R) (xs : List R) {k : Nat} (hk : k ≤ xs.length) : (cur f xs k).length = xs.length := by
  unfold cur; rw [List.length_append, List.length_map, List.length_take, List.length_drop]; omega
theorem cur_at (f : R → R) {xs : List R} {k : Nat} {y : R} (hk : xs[k]? = some y) : (cur f xs k)[k]? = some y := by
  have hl := (List.getElem?_eq_some_iff.1 hk).1
  unfold cur
  rw [List.getElem?_append_right (by simp; omega)]
  simp [Nat.min_eq_left (Nat.le_of_lt hl), hk]
theorem cur_set (f : R → R) {xs : List R} {k : Nat} {y : R} (hk : xs[k]? = some y) : (cur f xs k).set k (f y) = cur f xs (k + 1) := by
  obtain ⟨hl, he⟩ := List.getElem?_eq_some_iff.1 hk
  unfold cur
  have hm : ((xs.take k).map f).length = k := by simp; omega
  rw [List.set_append_right _ _ (by omega), hm, Nat.sub_self, List.drop_eq_getElem_cons hl, List.set_cons_zero, List.take_add_one, hk]
  simp
end Md
set_option maxRecDepth 100000 in
theorem info_ev : ∃ i, Tryz.prog.info? 48 = some i ∧ i.zero = some (.agg (Ev.cells Ev.R0).toArray) ∧ i.size = 13 ∧ i.bytes = 128 := ⟨_, rfl, by kernel_rfl, by kernel_rfl, by kernel_rfl⟩
theorem append_nils {P : Program} {w : World} {ops : Array Oper} {rest : List Oper} {o : Oper} {a : Act} {Q : Exit → Act → World → Prop} (hgd : o.guard = none) (s x : Operand) (t : TypeId)
    (ho : o.op = .call { callee := .builtin .append, args := #[s, x], argTypes := #[t, t] }) (e : TypeId) (i : TypeInfo) (ht : P.underlying t = some (.slice e)) (hi : P.info? e = some i) (c : Nat)
    (hs : a.eval s = .slice none 0 0) (hx : a.eval x = .slice none 0 c)
    (h : wpList P ops Q rest (a.put o.dst (.slice none 0 0)) w) : wpList P ops Q (o :: rest) a w := by
  refine wpList_plain hgd fun K hK => ?_
  unfold Oper.wp
  simp [execOp, ho, resolve, invoke, builtin, hs, hx, Builtin.append_, run_underlying ht, sizeOf, typeInfo, hi, Builtin.lenOf, Builtin.firstCells, loadCells, loadCellsFrom, Result.andThen]
  exact hK _ _ h
set_option maxRecDepth 100000 in
theorem Md.copyEv {ops : Array Oper} {rest : List Oper} {o : Oper} {a : Act} {w : World} {Q : Exit → Act → World → Prop} (hgd : o.guard = none) (s x : Operand)
    (ho : o.op = .call { callee := .builtin .append, args := #[s, x], argTypes := #[22, 22] }) (base : Nat) (hs : a.eval s = .slice none 0 0)
    (ae : Option Addr) (ce : Nat) (xs : List Ev.R) (hx : a.eval x = .slice ae xs.length ce) (hin : Ev.EvsIn w ae ce xs) (hlen : xs.length ≤ 1000) (hbase : base ≤ w.heap.size)
    (h : ∀ a' c' w', Md.EvRow w' base a' c' xs → w.grownBy w' none → wpList Tryz.prog ops Q rest (a.put o.dst (.slice a' xs.length c')) w') : wpList Tryz.prog ops Q (o :: rest) a w := by
  obtain ⟨i0, hi, hz0, hz1, hz2⟩ := info_ev
  have hnil : w.ownsRow base 48 13 (.slice none 0 0) 0 [] := World.ownsRow_nil _ _ _ _
  cases ae with
  | none =>
    have hl : xs = [] := by
      cases xs with
      | nil => rfl
      | cons p l => obtain ⟨_, _, e, _⟩ := hin.rows (by simp); cases e
    subst hl
    exact append_nils hgd s x 22 ho 48 i0 Tryz.underlying22 hi ce hs hx (h none 0 w hnil ⟨rfl, rfl, rfl, Nat.le_refl _, fun _ _ _ => rfl⟩)
  | some ad =>
    have hnews : ∀ (j : Nat) (u : Value), ((xs.map Ev.cells).flatten)[j]? = some u → w.cell? (ad.add j) = some u := by
      by_cases hz : 0 < xs.length
      · obtain ⟨g, o, e, hc⟩ := hin.rows (by simpa using hz)
        obtain rfl := Option.some.inj e
        intro j u hu
        have hj := (List.getElem?_eq_some_iff.1 hu).1
        rw [Md.evflat_len] at hj
        have hq : j / 13 < xs.length := by omega
        obtain ⟨y, hy⟩ : ∃ y, xs[j / 13]? = some y := ⟨_, List.getElem?_eq_getElem hq⟩
        obtain ⟨c, hcc⟩ : ∃ c, (Ev.cells y)[j % 13]? = some c := ⟨_, List.getElem?_eq_getElem (by rw [Md.cells_len]; omega)⟩
        have h1 := Md.flat_at xs (j / 13) y (j % 13) c hy hcc
        rw [show j / 13 * 13 + j % 13 = j by omega, hu] at h1
        obtain rfl := Option.some.inj h1
        have h2 := hc (j / 13) (Ev.cells y) (by rw [List.getElem?_map, hy]; rfl) (j % 13) u hcc
        rw [show o + j / 13 * 13 + j % 13 = o + j by omega] at h2
        have hadd : (⟨g, o, none⟩ : Addr).add j = ⟨g, o + j, none⟩ := by unfold Addr.add; split <;> simp_all
        rw [hadd]; exact h2
      · have : xs = [] := List.length_eq_zero_iff.1 (by omega)
        subst this
        intro j u hu; simp at hu
    have hone : ∀ u ∈ (xs.map Ev.cells).flatten, u.oneCell' = true := by
      intro u hu
      obtain ⟨l, hl, hu⟩ := List.mem_flatten.1 hu
      obtain ⟨y, _, rfl⟩ := List.mem_map.1 hl
      simp only [Ev.cells, List.mem_cons, List.not_mem_nil, or_false] at hu
      rcases hu with rfl | rfl | rfl | rfl | rfl | rfl | rfl | rfl | rfl | rfl | rfl | rfl | rfl <;> rfl
    refine wpList_append_own _ hgd s x 22 ho base 48 i0 (.agg (Ev.cells Ev.R0).toArray) 13 128 Tryz.underlying22 hi hz0 hz1 hz2 rfl (by decide) (.slice none 0 0) 0 [] hs hnil ad xs.length ce ((xs.map Ev.cells).flatten) hx (Md.evflat_len xs) hnews hone (by unfold maxLen; omega) (by omega) hbase (fun v' w' h1 h2 _ => ?_)
    rw [Nat.zero_add, List.nil_append] at h1
    have hf : ∃ a c, v' = .slice a xs.length c := by
      rcases h1.2 with ⟨e1, e2⟩ | ⟨g, cap, cur, e1, _⟩
      · exact ⟨none, 0, by rw [e1, e2]⟩
      · exact ⟨_, _, e1⟩
    obtain ⟨a', c', rfl⟩ := hf
    exact h a' c' w' h1 h2
namespace Md
open Ev
theorem EvRow.re {W : World} {base g c k i : Nat} {L : List R} {y y' : R} {v : Value} (hk : k < L.length) (h : EvRow W base (some ⟨g, 0, none⟩) c (L.set k y)) (hi : i < 13) (hy : cells y' = (cells y).set i v) :
    EvRow (W.setCell ⟨g, k * 13 + i, none⟩ v) base (some ⟨g, 0, none⟩) c (L.set k y') := by
  have := EvRow.put h (k := k) (i := i) (y := y) (y' := y') (v := v) (by rw [List.getElem?_set_self hk]) hi hy
  rwa [List.set_set] at this
theorem EvRow.re_cell {W : World} {base g c k i : Nat} {L : List R} {y : R} {v : Value} (hk : k < L.length) (h : EvRow W base (some ⟨g, 0, none⟩) c (L.set k y)) (hi : (cells y)[i]? = some v) : W.cell? ⟨g, k * 13 + i, none⟩ = some v :=
  EvRow.cell h (List.getElem?_set_self hk) hi
theorem EvRow.start {W : World} {base g c k : Nat} {L : List R} {y : R} (hy : L[k]? = some y) (h : EvRow W base (some ⟨g, 0, none⟩) c L) : EvRow W base (some ⟨g, 0, none⟩) c (L.set k y) := by
  have e : L.set k y = L := by
    obtain ⟨hl, he⟩ := List.getElem?_eq_some_iff.1 hy
    rw [← he]; exact List.set_getElem_self hl
  rw [e]; exact h
theorem EvRow.else {W : World} {base b i c : Nat} {a : Option Addr} {L : List R} {v : Value} (h : EvRow W base a c L) (hb : b < base) : EvRow (W.setCell ⟨b, i, none⟩ v) base a c L := by
  refine ⟨h.1, ?_⟩
  rcases h.2 with hn | ⟨g, cap, cur, e, hbg, hg, rest⟩
  · exact .inl hn
  · exact .inr ⟨g, cap, cur, e, hbg, put_else hg (by omega), rest⟩
theorem EvRow.kp {W W' : World} {base c : Nat} {a : Option Addr} {L : List R} (h : EvRow W base a c L) (hb : Below W.heap.size W W') : EvRow W' base a c L := by
  refine ⟨h.1, ?_⟩
  rcases h.2 with hn | ⟨g, cap, cur, e, hbg, hg, rest⟩
  · exact .inl hn
  · exact .inr ⟨g, cap, cur, e, hbg, (hb.block g (Array.getElem?_eq_some_iff.1 hg).1).trans hg, rest⟩
theorem EvRow.evs {W : World} {base c : Nat} {a : Option Addr} {L : List R} (h : EvRow W base a c L) (hok : ∀ y ∈ L, ROk W y) : EvsIn W a c L := by
  refine ⟨?_, hok, ?_, ?_⟩
  · intro hp
    have hp : 0 < L.length := by simpa using hp
    obtain ⟨g, cur, rfl, _⟩ := h.form hp
    refine ⟨g, 0, rfl, fun j v hv i c hi => ?_⟩
    rw [List.getElem?_map] at hv
    cases hj : L[j]? with
    | none => rw [hj] at hv; cases hv
    | some y =>
      rw [hj] at hv
      obtain rfl : cells y = v := by simpa using hv
      have := EvRow.cell h hj hi
      simpa using this
  · rcases h.2 with ⟨e, hn⟩ | ⟨g, cap, cur, e, _, _, hnc, _⟩
    · omega
    · obtain ⟨_, rfl⟩ : a = some ⟨g, 0, none⟩ ∧ c = cap := by simpa using e
      exact hnc
  · rcases h.2 with ⟨e, hn⟩ | ⟨g, cap, cur, e, _, _, _, hcm, _⟩
    · have : c = 0 := by simp at e; exact e.2.2
      omega
    · obtain ⟨_, rfl⟩ : a = some ⟨g, 0, none⟩ ∧ c = cap := by simpa using e
      unfold maxLen at hcm; exact hcm
theorem rok_less {W : World} {c1 c2 c3 : Bool} {y : R} (h : ROk W y) : ROk W (less c1 c2 c3 y) := by
  refine ⟨h.h, h.k, h.a, h.v, h.r, ?_, h.s, h.d1, h.d2, h.d3⟩
  show i64B (if (c3 && y.k == 4) = true then 0 else y.p)
  split
  · unfold i64B; omega
  · exact h.p
theorem lessX_in {W : World} {c1 c2 c3 : Bool} {x : X} {base c : Nat} {a : Option Addr} (hin : XIn W x) (h : EvRow W base a c (x.ev.map (less c1 c2 c3))) : XIn W (lessX c1 c2 c3 x a c) :=
  ⟨EvRow.evs h (fun y hy => by obtain ⟨z, hz, rfl⟩ := List.mem_map.1 hy; exact rok_less (hin.ev.ok z hz)), hin.fr, hin.od⟩
theorem all3_allow {x : X} (hc : check x = 0) : All3 x ↔ Allow x := by
  unfold All3 Allow
  rw [rk_C hc, rk_G hc, atom_eq hc]
  exact ⟨fun h => ⟨h.2.2, h.2.1, h.1⟩, fun h => ⟨h.2.2, h.2.1, h.1⟩⟩
theorem less_imp {c1 c2 c3 : Bool} {x : X} {a : Option Addr} {c : Nat} (hc : check x = 0) {b b' : Bool} (h : b = true ↔ All3 x) (h' : b' = true ↔ All3 (lessX c1 c2 c3 x a c)) (hb : b = true) : b' = true :=
  h'.2 ((all3_allow (less_check hc a c)).2 (allow_less ((all3_allow hc).1 (h.1 hb))))
end Md
set_option maxRecDepth 100000 in
theorem allowed_less {c1 c2 c3 : Bool} (x : Ev.X) (a : Option Addr) (c : Nat) (hc : Ev.check x = 0) (w : World) (hin : Ev.XIn w (Md.lessX c1 c2 c3 x a c)) :
    Calls Tryz.prog 15 #[.agg #[.slice a x.ev.length c, .slice x.fr.a x.fr.l.length x.fr.c, .slice x.ao x.od.length x.co]] w fun e w' => Below w.heap.size w w' ∧ ∃ b : Bool, e = .returned (.tuple #[.bool b, .int .i64 0]) ∧ (b = true ↔ Md.All3 (Md.lessX c1 c2 c3 x a c)) := by
  have h := allowed_any (Md.lessX c1 c2 c3 x a c) w hin
  have hl : (Md.lessX c1 c2 c3 x a c).ev.length = x.ev.length := List.length_map _
  unfold Ev.xcells at h
  rw [hl] at h
  refine Calls.mono h fun e w' ⟨hb, hr⟩ => ⟨hb, ?_⟩
  rcases hr with ⟨h1, _⟩ | ⟨_, b, he, hb⟩
  · exact absurd (Md.less_check hc a c) h1
  · exact ⟨b, he, hb⟩
end Go.Proofs.YtecnnkidalkmfaaGreat
end
