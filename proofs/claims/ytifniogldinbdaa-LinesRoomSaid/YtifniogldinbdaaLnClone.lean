/-
  slices.Clone of lines.
-/
import Derived.Test.YtifniogldinbdaaLnLen
import Derived.Lib.SliceRun
namespace Go.Proofs.Ytifniogldinbdaa
open Go.RowKit
set_option linter.unusedVariables false
set_option linter.unusedSimpArgs false
namespace Ln
structure Stop (p : Prop) : Prop where
  out : p
theorem own_mono {W : World} {base b' : Nat} {e : TypeId} {sz n : Nat} {v : Value} {xs : List Value} (h : W.ownsRow base e sz v n xs) (hb : b' ≤ base) : W.ownsRow b' e sz v n xs := by
  refine ⟨h.1, ?_⟩
  rcases h.2 with hn | ⟨g, cap, cur, e1, h1, rest⟩
  · exact .inl hn
  · exact .inr ⟨g, cap, cur, e1, Nat.le_trans hb h1, rest⟩
theorem LsIn.news {w : World} {a : Addr} {c : Nat} {l : List E} (h : LsIn w (some a) c l) : ∀ j u, (flat l)[j]? = some u → w.cell? (a.add j) = some u := by
  intro j u hu
  have hj := (List.getElem?_eq_some_iff.1 hu).1
  rw [flat_len h.ok] at hj
  have hk : j / 18 < l.length := by omega
  have he : l[j / 18]? = some l[j / 18] := List.getElem?_eq_getElem hk
  obtain ⟨g, o, e1, hc⟩ := h.at_ he
  obtain rfl : a = ⟨g, o, none⟩ := Option.some.inj e1
  have hlen := (h.ok_ he).len
  have hm : j % 18 < (cells l[j / 18]).length := by omega
  have h2 := flat_at h.ok he (List.getElem?_eq_getElem hm)
  rw [show j / 18 * 18 + j % 18 = j by omega, hu] at h2
  have h3 := hc (j % 18) u (by rw [List.getElem?_eq_getElem hm]; exact h2.symm)
  rw [Addr.add_lit, show o + j = o + j / 18 * 18 + j % 18 by omega]
  exact h3
theorem flat_one' (l : List E) : ∀ u ∈ flat l, u.oneCell' = true := by
  intro u hu
  unfold flat at hu
  obtain ⟨c, hc, huc⟩ := List.mem_flatten.1 hu
  obtain ⟨e, _, rfl⟩ := List.mem_map.1 hc
  exact cells_one e u huc
end Ln
set_option maxRecDepth 100000 in
set_option maxHeartbeats 2000000 in
theorem clone_any (a : Option Addr) (c : Nat) (l : List Ln.E) (hl : l.length ≤ 1000) (w : World) (h : Ln.LsIn w a c l) :
    Calls Try.prog 39 #[.slice a l.length c] w fun e w' => ∃ a' c', e = .returned (.slice a' l.length c') ∧ w'.ownsRow w.heap.size 30 18 (.slice a' l.length c') l.length (Ln.flat l) ∧ Below w.heap.size w w' := by
  obtain ⟨i0, hi, hz0, hz1, hz2⟩ := Ln.info_line
  have HI := Lib.hid hi; have HZ0 := Lib.hid hz0; have HZ1 := Lib.hid hz1; have HZ2 := Lib.hid hz2
  clear hi hz0 hz1 hz2
  have H := Lib.hid h
  cases a with
  | none =>
    have hn : l = [] := by
      cases l with
      | nil => rfl
      | cons x l => obtain ⟨g, o, e, _⟩ := h.rows (by simp); cases e
    subst hn
    clear h
    have heq : (binOp .eql 38 (.slice none ([] : List Ln.E).length c) (.slice none 0 0)).run Try.prog w = .ok (.bool true) w := Go.Lib.run_eql_slice_nil w 38 30 none _ c 0 0 Try.underlying38
    simp only [List.length_nil] at heq
    go_enter Try.func39, Try.ntmps39
    go_wp2
    go_ret
    exact ⟨none, 0, rfl, World.ownsRow_nil _ _ _ _, Below.refl _ _⟩
  | some a =>
    clear h
    have heq : (binOp .eql 38 (.slice (some a) l.length c) (.slice none 0 0)).run Try.prog w = .ok (.bool false) w := Go.Lib.run_eql_slice_nil w 38 30 (some a) _ c 0 0 Try.underlying38
    go_enter Try.func39, Try.ntmps39
    go_wp2_with ((with_reducible show wpList _ _ _ (Oper.mk (some 7) _ _ _ _ _ :: _) _ _); refine Ln.Stop.out ?_)
    refine ⟨?_⟩
    · refine wpList_append_own (w.alloc (.cells #[] 30)) rfl (.tmp 5) (.tmp 6) 38 rfl w.heap.size 30 i0 (Ln.EV Ln.E0) 18 32 Try.underlying38 HI.out HZ0.out HZ1.out HZ2.out rfl (by decide) (.slice (some ⟨w.heap.size, 0, none⟩) 0 0) 0 [] rfl (World.ownsRow_made (base := w.heap.size) (e := 30) (size := 18) w #[] 0 (Nat.le_refl _) (by unfold maxLen; omega) rfl) a l.length c (Ln.flat l) rfl (by rw [Ln.flat_len H.out.ok]) ((H.out.kp (Ev.kp_below ((Below.refl w.heap.size w).alloc (Nat.le_refl _) _))).news) (Ln.flat_one' l) (by unfold maxLen; omega) (by omega) (by simp) ?_
      intro v' w3 hown hgrow _
      rw [Nat.zero_add, List.nil_append] at hown
      obtain ⟨a', c', rfl⟩ := Ln.own_form hown
      have HO := Lib.hid hown
      have HG := Lib.hid hgrow
      clear hown hgrow
      go_wp2_with fail
      go_ret
      exact ⟨a', c', rfl, HO.out, ((Below.refl w.heap.size w).alloc (Nat.le_refl _) _).grown HG.out (by simp) (fun k hk => by cases hk; exact Nat.le_refl _)⟩
end Go.Proofs.Ytifniogldinbdaa
