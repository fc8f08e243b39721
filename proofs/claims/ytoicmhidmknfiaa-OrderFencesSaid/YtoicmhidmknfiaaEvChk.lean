/-
  The contract of Check.
-/
import Derived.Test.YtoicmhidmknfiaaEvMay
import Derived.Test.YtoicmhidmknfiaaEvFrom
import Derived.Test.YtoicmhidmknfiaaEvOrdB
import Derived.WalkMore
import Derived.ScopeJumps
namespace Go.Proofs.Ytoicmhidmknfiaa
open Go.RowKit
set_option linter.unusedVariables false
set_option linter.unusedSimpArgs false
namespace Ev
theorem nth_get {xs : List R} {k : Nat} (h : k < xs.length) : nth xs k = xs[k] := nth_some (List.getElem?_eq_getElem h)
/-- begins stand first -/
theorem five_back {xs : List R} (h : ∀ j, j < xs.length → evAt xs j = true) : ∀ j, j < xs.length → (nth xs j).k = 5 → ∀ i, i ≤ j → (nth xs i).k = 5 := by
  intro j
  induction j with
  | zero => intro _ h5 i hi; obtain rfl : i = 0 := by omega
            exact h5
  | succ j ih =>
    intro hj h5 i hi
    by_cases hij : i = j + 1
    · subst hij; exact h5
    · have h1 := h (j + 1) hj
      have h0 := h j (by omega)
      have e : ((j + 1 : Nat) : Int) - 1 = (j : Int) := by omega
      unfold evAt at h1 h0
      rw [e] at h1
      simp only [Bool.and_eq_true, Bool.or_eq_true] at h1 h0
      have hf := h1.2.resolve_left (by simp)
      have hp : (nth xs (j : Int)).k = 5 := by
        apply Classical.byContradiction
        intro hne
        unfold follow at hf
        rw [if_neg (fun e => hne e.2)] at hf
        have ha := h1.1.1
        have hb := h0.1.1
        unfold partsOk at ha hb
        simp only [Bool.and_eq_true] at ha hb
        have ha := ha.1.1.1.2
        have hb := hb.1.1.1.2
        unfold hartOk at ha hb
        rw [if_pos h5] at ha
        rw [if_neg hne] at hb
        unfold inB at hb
        simp at ha hb hf
        omega
      exact ih (by omega) hp i (by omega)
theorem beg_zero {xs : List R} (h : ∀ x ∈ xs, x.k ≠ 5) : beg xs = 0 := by
  unfold beg
  rw [List.length_eq_zero_iff, List.filter_eq_nil_iff]
  intro x hx; simpa using h x hx
theorem beg_pre {xs : List R} (h : ∀ j, j < xs.length → evAt xs j = true) (b : Nat) (hb : b < beg xs) : ∃ x, xs[b]? = some x ∧ x.k = 5 := by
  have hlen : b < xs.length := Nat.lt_of_lt_of_le hb (beg_le xs)
  refine ⟨xs[b], List.getElem?_eq_getElem hlen, ?_⟩
  apply Classical.byContradiction
  intro hne
  have h1 : beg xs = beg (xs.take b) + beg (xs.drop b) := by unfold beg; rw [← List.length_append, ← List.filter_append, List.take_append_drop]
  have h2 : beg (xs.drop b) = 0 := beg_zero fun x hx h5 => by
    obtain ⟨i, hi⟩ := List.mem_iff_getElem?.1 hx
    rw [List.getElem?_drop] at hi
    have hl := (List.getElem?_eq_some_iff.1 hi).1
    have := five_back h (b + i) hl (by rw [nth_some hi]; exact h5) b (by omega)
    rw [nth_get hlen] at this
    exact hne this
  have h3 := beg_le (xs.take b)
  rw [List.length_take] at h3
  omega
theorem evs_all {xs : List R} (h : evsOk xs = true) : ∀ j, j < xs.length → evAt xs j = true := by
  unfold evsOk at h
  rw [Bool.and_eq_true, List.all_eq_true] at h
  exact fun j hj => h.1 j (List.mem_range.2 hj)
def check (x : X) : Int := if 64 < x.ev.length then 3 else if evsOk x.ev = false then 160 else if fromOk x.ev x.fr.l = false then 161 else if orderOk x.ev x.od = false then 162 else 0
end Ev
theorem jump_ret {l : Nat} {J : Act → World → Prop} {Q : Exit → Act → World → Prop} {a : Act} {w : World} : Exit.jump l J Q .ret a w = Q .ret a w := rfl
/-- a scope out of which the run jumps ahead to its label, once at most -/
theorem scope_ahead {P : Program} {a : Act} {w : World} {Q : Exit → Act → World → Prop} {c rest : Code} (l : Nat) (hf : findLabel c l = some rest)
    (h : c.wp P (Exit.jump l (fun a w => rest.wp P (Exit.jump l (fun _ _ => False) Q) a w) Q) a w) : (Code.scope c).wp P Q a w :=
  wp_scope_jumps l (fun a w => rest.wp P (Exit.jump l (fun _ _ => False) Q) a w) (fun _ _ => 0) hf h (fun a w hJ => Code.wp_mono (fun e a' w' hq => by
    cases e with
    | goto l' => exact ⟨hq.1, hq.2.elim⟩
    | normal => exact hq
    | exit id => exact hq
    | ret => exact hq
    | panic ch => exact hq
    | outgrown => exact hq) hJ)
set_option maxRecDepth 100000 in
set_option maxHeartbeats 2000000 in
theorem check_any (x : Ev.X) (w : World) (hin : Ev.XIn w x) :
    Calls Try.prog 15 #[Ev.exV x] w fun e w' => e = .returned (.int .i64 (Ev.check x)) ∧ Below w.heap.size w w' := by
  have HIN := Lib.hid hin
  have hle := hin.ev.le; have hmax := hin.ev.max
  clear hin
  have R0 := Lib.hid (heap_alloc_new w (.cells (Ev.xcells x).toArray 26))
  have B0 := Lib.hid ((Below.refl w.heap.size w).alloc (Nat.le_refl _) (.cells (Ev.xcells x).toArray 26))
  unfold Ev.exV Ev.xcells
  by_cases hl : 64 < x.ev.length
  · have e : Ev.check x = 3 := by unfold Ev.check; rw [if_pos hl]
    have hi : (64 : Int) < (x.ev.length : Int) := by omega
    rw [e]; clear e hl
    go_enter Try.func15, Try.ntmps15
    go_wp2
    refine scope_ahead 0 rfl ?_
    go_wp2
    go_step3
    refine ⟨rfl, ?_⟩
    go_wp2
    try rw [jump_ret]
    go_ret
    exact ⟨rfl, B0.out⟩
  have hi : ¬ (64 : Int) < (x.ev.length : Int) := by omega
  have R1 : ∀ W, Below (w.heap.size + 1) (w.alloc (.cells (Ev.xcells x).toArray 26)) W → W.heap[w.heap.size]? = some (.cells (Ev.xcells x).toArray 26 (0, 0)) := fun W h => (h.block w.heap.size (by omega)).trans R0.out
  have RR := Lib.hid R1; clear R1
  obtain ⟨b1, hb1⟩ : ∃ b, Ev.evsOk x.ev = b := ⟨_, rfl⟩
  have H1 := Lib.hid hb1
  obtain ⟨b2, hb2⟩ : ∃ b, Ev.fromOk x.ev x.fr.l = b := ⟨_, rfl⟩
  have H2 := Lib.hid hb2
  obtain ⟨b3, hb3⟩ : ∃ b, Ev.orderOk x.ev x.od = b := ⟨_, rfl⟩
  have H3 := Lib.hid hb3
  have HRES := Lib.hid (show Ev.check x = if b1 = false then 160 else if b2 = false then 161 else if b3 = false then 162 else 0 by unfold Ev.check; rw [if_neg hl, hb1, hb2, hb3])
  clear hb1 hb2 hb3 hl
  have hsz : (w.alloc (.cells (Ev.xcells x).toArray 26)).heap.size = w.heap.size + 1 := by simp only [World.size_alloc]
  have HSZ := Lib.hid hsz; clear hsz
  have KW := Lib.hid (Ev.kp_below B0.out)
  go_enter Try.func15, Try.ntmps15
  go_wp2
  refine scope_ahead 0 rfl ?_
  go_wp2_with fail
  refine (evs_any x.ae x.ce x.ev _ (HIN.out.ev.kp KW.out)).mono ?_
  rintro e W1 ⟨rfl, hb⟩
  have B1 := Lib.hid (show Below (w.heap.size + 1) (w.alloc (.cells (Ev.xcells x).toArray 26)) W1 by rw [← HSZ.out]; exact hb)
  clear hb
  rw [H1.out]
  cases b1
  · go_wp2
    go_step3
    refine ⟨rfl, ?_⟩
    go_wp2
    try rw [jump_ret]
    go_ret
    exact ⟨by rw [HRES.out]; rfl, B0.out.trans (B1.out.mono (Nat.le_succ _))⟩
  have c0 : W1.cell? ⟨w.heap.size, 0, none⟩ = some (.slice x.ae x.ev.length x.ce) := by rw [cell_of_row _ _ _ _ _ _ (RR.out W1 B1.out)]; rfl
  have c1 : W1.cell? ⟨w.heap.size, 1, none⟩ = some (.slice x.fr.a x.fr.l.length x.fr.c) := by rw [cell_of_row _ _ _ _ _ _ (RR.out W1 B1.out)]; rfl
  have K1 := Lib.hid (KW.out.trans (Ev.kp_of B1.out (Nat.le_of_eq HSZ.out)))
  go_wp2_with fail
  refine (from_any x.ae x.ce x.ev x.fr _ (HIN.out.ev.kp K1.out) (HIN.out.fr.kp K1.out)).mono ?_
  rintro e W2 ⟨rfl, hb⟩
  have B2 := Lib.hid (B1.out.trans (hb.mono (by have := B1.out.size; rw [HSZ.out] at this; exact this)))
  clear hb c0 c1
  rw [H2.out]
  cases b2
  · go_wp2
    go_step3
    refine ⟨rfl, ?_⟩
    go_wp2
    try rw [jump_ret]
    go_ret
    exact ⟨by rw [HRES.out]; rfl, B0.out.trans (B2.out.mono (Nat.le_succ _))⟩
  have c0 : W2.cell? ⟨w.heap.size, 0, none⟩ = some (.slice x.ae x.ev.length x.ce) := by rw [cell_of_row _ _ _ _ _ _ (RR.out W2 B2.out)]; rfl
  have c1 : W2.cell? ⟨w.heap.size, 2, none⟩ = some (.slice x.ao x.od.length x.co) := by rw [cell_of_row _ _ _ _ _ _ (RR.out W2 B2.out)]; rfl
  have K2 := Lib.hid (KW.out.trans (Ev.kp_of B2.out (Nat.le_of_eq HSZ.out)))
  go_wp2_with fail
  refine (order_any x.ae x.ce x.ev x.ao x.co x.od (Ev.beg_pre (Ev.evs_all H1.out)) _ (HIN.out.ev.kp K2.out) (HIN.out.od.kp K2.out)).mono ?_
  rintro e W3 ⟨rfl, hb⟩
  have B3 := Lib.hid (B2.out.trans (hb.mono (by have := B2.out.size; rw [HSZ.out] at this; exact this)))
  clear hb c0 c1
  rw [H3.out]
  cases b3
  · go_wp2
    go_step3
    refine ⟨rfl, ?_⟩
    go_wp2
    try rw [jump_ret]
    go_ret
    exact ⟨by rw [HRES.out]; rfl, B0.out.trans (B3.out.mono (Nat.le_succ _))⟩
  · go_wp2
    try rw [jump_ret]
    go_ret
    exact ⟨by rw [HRES.out]; rfl, B0.out.trans (B3.out.mono (Nat.le_succ _))⟩
end Go.Proofs.Ytoicmhidmknfiaa
