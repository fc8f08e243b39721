/-
  A list of messages is cut, and others are put behind it.
-/
import Derived.Test.YtnfpcklpmfemiaaNtMem
import Derived.Deep.Upon
namespace Go.Proofs.Ytnfpcklpmfemiaa
open Go.RowKit
set_option linter.unusedVariables false
set_option linter.unusedSimpArgs false
namespace Nt
theorem flat_get {l : List E} (hok : ∀ e ∈ l, Ok e) {j : Nat} {u : Value} (h : (flat l)[j]? = some u) : ∃ e, l[j / 20]? = some e ∧ (cells e)[j % 20]? = some u := by
  have hlt := (List.getElem?_eq_some_iff.1 h).1
  rw [flat_len hok] at hlt
  have hk : j / 20 < l.length := by omega
  refine ⟨l[j / 20], List.getElem?_eq_getElem hk, ?_⟩
  have hl := (hok _ (List.getElem_mem hk)).len
  have hi : j % 20 < (cells l[j / 20]).length := by rw [hl]; omega
  have h1 := flat_at hok (List.getElem?_eq_getElem hk) (List.getElem?_eq_getElem hi)
  rw [show j / 20 * 20 + j % 20 = j by omega] at h1
  rw [List.getElem?_eq_getElem hi, ← h1, h]
theorem flat_one_cells {l : List E} : ∀ u ∈ flat l, u.oneCell' = true := by
  intro u hu
  unfold flat at hu
  obtain ⟨r, hr, hu⟩ := List.mem_flatten.1 hu
  obtain ⟨e, _, rfl⟩ := List.mem_map.1 hr
  exact cells_one e u hu
theorem LsIn.news {w : World} {g o c : Nat} {l : List E} (h : LsIn w (some ⟨g, o, none⟩) c l) : ∀ j u, (flat l)[j]? = some u → w.cell? ((⟨g, o, none⟩ : Addr).add j) = some u := by
  intro j u hj
  obtain ⟨e, he, hi⟩ := flat_get h.ok hj
  obtain ⟨g', o', e1, hc⟩ := h.at_ he
  obtain ⟨rfl, rfl⟩ : g = g' ∧ o = o' := by injection e1 with e1; injection e1 with e1 e2; exact ⟨e1, e2⟩
  have := hc _ _ hi
  rw [show o + j / 20 * 20 + j % 20 = o + j by omega] at this
  rw [Go.WideShapes.add_plain]
  exact this
theorem src_ls {w : World} {a : Option Addr} {c : Nat} {l : List E} (h : LsIn w a c l) : Src Try.prog 20 68 (.slice a l.length c) l.length (flat l) w := by
  cases a with
  | none =>
    have : l = [] := by
      cases l with
      | nil => rfl
      | cons x l =>
        obtain ⟨g, o, e, _⟩ := h.at_ (k := 0) (e := x) rfl
        cases e
    subst this
    exact Src.ofNil w Try.underlying68 c
  | some ad =>
    refine Src.ofSlice w Try.underlying68 ad _ c _ (flat_len h.ok) ?_ flat_one_cells
    cases l with
    | nil => intro j u hj; simp [flat] at hj
    | cons x l =>
      obtain ⟨g, o, e, _⟩ := h.at_ (k := 0) (e := x) rfl
      obtain rfl : ad = ⟨g, o, none⟩ := by injection e
      exact h.news
/-- a list that is cut, and has no room behind it -/
theorem Own.cut {w : World} {F : Nat → Prop} {a c l} (h : Own w F a c l) (hok : ∀ e ∈ l, Ok e) {k : Nat} (hk : k ≤ l.length) : Own w F a k (l.take k) := by
  rcases h with ⟨rfl, rfl⟩ | ⟨g, cur, rfl, hf, hg, h1, h2, h3, h4⟩
  · exact .inl ⟨by simp, by simpa using hk⟩
  · refine .inr ⟨g, cur, rfl, hf, hg, by rw [List.length_take]; omega, by omega, by omega, ?_⟩
    have h6 : (flat (l.take k)).length = k * 20 := by rw [flat_len (fun e he => hok e (List.mem_of_mem_take he)), List.length_take, Nat.min_eq_left hk]
    have h5 : flat l = flat (l.take k) ++ flat (l.drop k) := by rw [← flat_app, List.take_append_drop]
    rw [List.length_take, Nat.min_eq_left hk]
    have h7 : cur.toList.take (k * 20) = (cur.toList.take (l.length * 20)).take (k * 20) := by rw [List.take_take, Nat.min_eq_left (by omega)]
    rw [h7, h4, h5, ← h6, List.take_left]
theorem Fr.grown {F : Nat → Prop} {w w' : World} {r : Option Nat} (h : w.grownBy w' r) (hF : ∀ k, r = some k → k < w.heap.size → F k) : Fr F w w' :=
  ⟨h.os, h.tape, h.output, h.size, fun k hk hf => h.block k hk (fun e => hf (hF k e.symm hk))⟩
set_option maxRecDepth 100000 in
/-- messages are put behind a list of one's own -/
theorem append_any {w : World} {F : Nat → Prop} {a c l} (h : Own w F a c l) (hok : ∀ e ∈ l, Ok e) {a2 : Option Addr} {c2 : Nat} {xs : List E} (h2 : LsIn w a2 c2 xs) (hl : l.length + xs.length ≤ 4096) :
    ∃ (a' : Option Addr) (c' : Nat) (w' : World), (Builtin.append_ #[68, 68] 68 #[.slice a l.length c, .slice a2 xs.length c2]).run Try.prog w = .ok (.slice a' (l ++ xs).length c') w' ∧
      Own w' (fun k => F k ∨ k = w.heap.size) a' c' (l ++ xs) ∧ Fr F w w' := by
  obtain ⟨i0, hi, hz0, hz1, hz2⟩ := info_msg
  have HS := src_ls h2
  have hlx : (flat xs).length = xs.length * 20 := flat_len h2.ok
  have hll : (flat l).length = l.length * 20 := flat_len hok
  rw [List.length_append]
  rcases h with ⟨rfl, rfl⟩ | ⟨g, cur, rfl, hf, hg, h1, h3, h4, h5⟩
  · cases xs with
    | nil =>
      refine ⟨a, 0, w, ?_, .inl ⟨rfl, rfl⟩, Fr.refl _ _⟩
      exact run_append_nothing w 68 68 68 57 i0 Try.underlying68 hi a 0 0 (Nat.le_refl _) _ (by rw [hz1]; exact HS)
    | cons x xs =>
      have hr := run_append_grow_src (P := Try.prog) w 68 68 68 57 i0 (EV E0) Try.underlying68 hi hz0 a 0 0 [] (by
        cases a with
        | none => exact run_firstCells_none _ _ _ _ _
        | some ad => exact run_firstCells_some _ _ _ _ _ _ [] (by simp) (fun j v hj => by simp at hj)) _ _ _ (by rw [hz1]; exact HS) (by simp) (by simp only [List.length_nil] at hl; omega) (growslice_fits (by simp) (by simp only [List.length_nil] at hl; rw [hz2]; omega))
      have hge := grownCap_ge w (0 + (x :: xs).length) 0 57
      have hcm := grownCap_le_maxLen w (0 + (x :: xs).length) 0 57 (by unfold maxLen; simp only [List.length_nil] at hl; omega)
      refine ⟨_, _, _, hr, .inr ⟨w.heap.size, _, rfl, .inr rfl, heap_alloc_new w.drew _, by simp only [List.nil_append]; omega, hcm, ?_, ?_⟩, Fr.grown (r := none) ⟨rfl, rfl, rfl, by simp, fun k hk _ => Below.heap_alloc w.drew _ k hk⟩ (fun k hk => by cases hk)⟩
      · simp only [Array.size_append, List.size_toArray, size_zeroCells, List.nil_append]
        rw [hlx, show (EV E0).cells.size = 20 from by kernel_rfl]
        omega
      · simp only [Array.toList_append, List.nil_append]
        rw [← hlx]; exact List.take_left
  · by_cases hroom : l.length + xs.length ≤ c
    · cases xs with
      | nil =>
        refine ⟨some ⟨g, 0, none⟩, c, w, ?_, ?_, Fr.refl _ _⟩
        · exact run_append_nothing w 68 68 68 57 i0 Try.underlying68 hi _ l.length c h1 _ (by rw [hz1]; exact HS)
        · rw [List.append_nil]
          exact .inr ⟨g, cur, rfl, .inl hf, hg, h1, h3, h4, h5⟩
      | cons x xs =>
        obtain ⟨g2, o2, e2, _⟩ := h2.at_ (k := 0) (e := x) rfl
        subst e2
        have hfit : l.length * 20 + (flat (x :: xs)).length ≤ cur.size := by rw [hlx]; omega
        have hr := run_append_room (P := Try.prog) w 68 68 57 i0 Try.underlying68 hi g l.length c cur hg ⟨g2, o2, none⟩ (x :: xs).length c2 (flat (x :: xs)) (by rw [hz1]; exact hlx) h2.news flat_one_cells hroom (by rw [hz1]; exact hfit)
        rw [hz1] at hr
        refine ⟨_, _, _, hr, .inr ⟨g, _, rfl, .inl hf, setRow_heap w g cur _ 57 _ hg, by rw [List.length_append]; exact hroom, h3, ?_, ?_⟩, Fr.grown (r := some g) ⟨rfl, rfl, rfl, by simp, fun k _ hk => setRow_other w g k _ (fun e => hk (by rw [e]))⟩ (fun k hk _ => by injection hk with hk; exact hk ▸ hf)⟩
        · simp only [List.size_toArray, List.length_append, List.length_take, List.length_drop, Array.length_toList]
          omega
        · rw [h5, List.length_append, Nat.add_mul, ← hll, ← hlx, ← List.length_append, flat_app]
          exact List.take_left
    · have hold : (Builtin.firstCells i0.size l.length (.slice (some ⟨g, 0, none⟩) l.length c)).run Try.prog w.drew = .ok (flat l).toArray w.drew := by
        refine run_firstCells_some w.drew _ _ _ _ _ (flat l) (by rw [hz1]; exact hll) (fun j u hj => ?_)
        have h6 := take_at h5 hj
        show w.cell? _ = _
        rw [Go.WideShapes.add_plain, Nat.zero_add, cell_of_row _ _ _ _ _ _ hg]
        simpa using h6
      have hr := run_append_grow_src (P := Try.prog) w 68 68 68 57 i0 (EV E0) Try.underlying68 hi hz0 (some ⟨g, 0, none⟩) l.length c (flat l) hold _ _ _ (by rw [hz1]; exact HS) (by omega) (by omega) (growslice_fits (by omega) (by rw [hz2]; omega))
      have hge := grownCap_ge w (l.length + xs.length) c 57
      have hcm := grownCap_le_maxLen w (l.length + xs.length) c 57 (by unfold maxLen; omega)
      refine ⟨_, _, _, hr, .inr ⟨w.heap.size, _, rfl, .inr rfl, heap_alloc_new w.drew _, by rw [List.length_append]; omega, hcm, ?_, ?_⟩, Fr.grown (r := none) ⟨rfl, rfl, rfl, by simp, fun k hk _ => Below.heap_alloc w.drew _ k hk⟩ (fun k hk => by cases hk)⟩
      · simp only [Array.size_append, List.size_toArray, size_zeroCells, List.length_append]
        rw [hlx, hll, show (EV E0).cells.size = 20 from by kernel_rfl]
        omega
      · simp only [Array.toList_append]
        rw [flat_app, List.length_append, Nat.add_mul, ← hll, ← hlx, ← List.length_append]; exact List.take_left
end Nt
end Go.Proofs.Ytnfpcklpmfemiaa
