/-
  The document's own bare tells whether an event is zero but for what its kind names.
-/
import Derived.Test.YtoicmhidmknfiaaEvBareA
import Derived.Test.YtoicmhidmknfiaaEvBareB
import Derived.Test.YtoicmhidmknfiaaEvBareC
import Derived.Test.YtoicmhidmknfiaaEvBareD
namespace Go.Proofs.Ytoicmhidmknfiaa
open Go.RowKit
set_option linter.unusedVariables false
set_option linter.unusedSimpArgs false
namespace Ev
def bareK (x : R) : Bool := (x.k == 4 || (x.p == 0 && x.s == 0)) && (!(x.k == 4 || x.k == 5) || (!x.q && !x.l)) && (x.k == 1 || x.k == 2 || !x.z) && (stores x.k || x.v == 0) && (loads x.k || x.r == 0) && (x.k != 4 || x.a == 0) && (x.k == 2 || x.k == 3 || x.d2.l.isEmpty) && (decide (x.k < 4) || x.d1.l.isEmpty) && (decide (x.k < 5) || (x.d3.l.isEmpty && x.h == -1))
def bare (x : R) : Bool := decide (1 ≤ x.k) && decide (x.k ≤ 5) && inB x.p 4 && inB x.s 4 && bareK x
end Ev
theorem rbare_any (x : Ev.R) (w : World) : Calls Try.prog 38 #[Ev.evV x] w fun e w' => e = .returned (.bool (Ev.bare x)) ∧ Below w.heap.size w w' := by
  obtain ⟨h, k, a, v, r, q, l, p, s, z, d1, d2, d3⟩ := x
  have key : ∀ b : Bool, Ev.bare ⟨h, k, a, v, r, q, l, p, s, z, d1, d2, d3⟩ = b → (Calls Try.prog 38 #[Ev.evV ⟨h, k, a, v, r, q, l, p, s, z, d1, d2, d3⟩] w fun e w' => e = .returned (.bool b) ∧ Below w.heap.size w w') → Calls Try.prog 38 #[Ev.evV ⟨h, k, a, v, r, q, l, p, s, z, d1, d2, d3⟩] w fun e w' => e = .returned (.bool (Ev.bare ⟨h, k, a, v, r, q, l, p, s, z, d1, d2, d3⟩)) ∧ Below w.heap.size w w' := fun b e hc => e ▸ hc
  by_cases k0 : k < 1
  · exact key false (by simp [Ev.bare, show ¬ 1 ≤ k by omega]) (bare_k0 w h k a v r q l p s z d1 d2 d3 (decide_eq_true k0))
  have f0 : decide (k < 1) = false := decide_eq_false k0
  by_cases k6 : 5 < k
  · exact key false (by simp [Ev.bare, show ¬ k ≤ 5 by omega]) (bare_k6 w h k a v r q l p s z d1 d2 d3 f0 (decide_eq_true k6))
  have f1 : decide (5 < k) = false := decide_eq_false k6
  by_cases p0 : p < 0
  · exact key false (by simp [Ev.bare, Ev.inB, show ¬ 0 ≤ p by omega]) (bare_p0 w h k a v r q l p s z d1 d2 d3 f0 f1 (decide_eq_true p0))
  have f2 : decide (p < 0) = false := decide_eq_false p0
  by_cases p4 : 3 < p
  · exact key false (by simp [Ev.bare, Ev.inB, show ¬ p < 4 by omega]) (bare_p4 w h k a v r q l p s z d1 d2 d3 f0 f1 f2 (decide_eq_true p4))
  have f3 : decide (3 < p) = false := decide_eq_false p4
  by_cases s0 : s < 0
  · exact key false (by simp [Ev.bare, Ev.inB, show ¬ 0 ≤ s by omega]) (bare_s0 w h k a v r q l p s z d1 d2 d3 f0 f1 f2 f3 (decide_eq_true s0))
  have f4 : decide (s < 0) = false := decide_eq_false s0
  by_cases s4 : 3 < s
  · exact key false (by simp [Ev.bare, Ev.inB, show ¬ s < 4 by omega]) (bare_s4 w h k a v r q l p s z d1 d2 d3 f0 f1 f2 f3 f4 (decide_eq_true s4))
  have f5 : decide (3 < s) = false := decide_eq_false s4
  have hp : Ev.inB p 4 = true := by unfold Ev.inB; simp; omega
  have hs : Ev.inB s 4 = true := by unfold Ev.inB; simp; omega
  have hk : k = 1 ∨ k = 2 ∨ k = 3 ∨ k = 4 ∨ k = 5 := by omega
  rcases hk with rfl | rfl | rfl | rfl | rfl
  · by_cases t : p = 0
    case neg => exact key false (by simp [Ev.bare, Ev.bareK, hp, hs, Ev.stores, Ev.loads, t]) (bare1_p w h a v r q l p s z d1 d2 d3 f2 f3 f4 f5 (by simpa using t))
    subst t
    by_cases t : s = 0
    case neg => exact key false (by simp [Ev.bare, Ev.bareK, hp, hs, Ev.stores, Ev.loads, t]) (bare1_s w h a v r q l s z d1 d2 d3 f4 f5 (by simpa using t))
    subst t
    by_cases t : v = 0
    case neg => exact key false (by simp [Ev.bare, Ev.bareK, hp, hs, Ev.stores, Ev.loads, t]) (bare1_v w h a v r q l z d1 d2 d3 (by simpa using t))
    subst t
    obtain ⟨d2a, d2c, d2l⟩ := d2
    rcases d2l with _ | ⟨y, ys⟩
    case cons => exact key false (by simp [Ev.bare, Ev.bareK, hp, hs, Ev.stores, Ev.loads]) (bare1_d2 w h a r q l z d1 ⟨d2a, d2c, y :: ys⟩ d3 (by simp only [List.length_cons]; rw [beq_eq_false_iff_ne]; omega))
    exact key true (by simp [Ev.bare, Ev.bareK, hp, hs, Ev.stores, Ev.loads]) (bare1_ok w h a r q l z d1 d2a d2c d3)
  · by_cases t : p = 0
    case neg => exact key false (by simp [Ev.bare, Ev.bareK, hp, hs, Ev.stores, Ev.loads, t]) (bare2_p w h a v r q l p s z d1 d2 d3 f2 f3 f4 f5 (by simpa using t))
    subst t
    by_cases t : s = 0
    case neg => exact key false (by simp [Ev.bare, Ev.bareK, hp, hs, Ev.stores, Ev.loads, t]) (bare2_s w h a v r q l s z d1 d2 d3 f4 f5 (by simpa using t))
    subst t
    by_cases t : r = 0
    case neg => exact key false (by simp [Ev.bare, Ev.bareK, hp, hs, Ev.stores, Ev.loads, t]) (bare2_r w h a v r q l z d1 d2 d3 (by simpa using t))
    subst t
    exact key true (by simp [Ev.bare, Ev.bareK, hp, hs, Ev.stores, Ev.loads]) (bare2_ok w h a v q l z d1 d2 d3)
  · by_cases t : p = 0
    case neg => exact key false (by simp [Ev.bare, Ev.bareK, hp, hs, Ev.stores, Ev.loads, t]) (bare3_p w h a v r q l p s z d1 d2 d3 f2 f3 f4 f5 (by simpa using t))
    subst t
    by_cases t : s = 0
    case neg => exact key false (by simp [Ev.bare, Ev.bareK, hp, hs, Ev.stores, Ev.loads, t]) (bare3_s w h a v r q l s z d1 d2 d3 f4 f5 (by simpa using t))
    subst t
    by_cases t : z = true
    · subst t; exact key false (by simp [Ev.bare, Ev.bareK, hp, hs, Ev.stores, Ev.loads]) (bare3_z w h a v r q l d1 d2 d3)
    obtain rfl : z = false := by simpa using t
    clear t
    exact key true (by simp [Ev.bare, Ev.bareK, hp, hs, Ev.stores, Ev.loads]) (bare3_ok w h a v r q l d1 d2 d3)
  · by_cases t : q = true
    · subst t; exact key false (by simp [Ev.bare, Ev.bareK, hp, hs, Ev.stores, Ev.loads]) (bare4_q w h a v r l p s z d1 d2 d3 f2 f3 f4 f5)
    obtain rfl : q = false := by simpa using t
    clear t
    by_cases t : l = true
    · subst t; exact key false (by simp [Ev.bare, Ev.bareK, hp, hs, Ev.stores, Ev.loads]) (bare4_l w h a v r p s z d1 d2 d3 f2 f3 f4 f5)
    obtain rfl : l = false := by simpa using t
    clear t
    by_cases t : z = true
    · subst t; exact key false (by simp [Ev.bare, Ev.bareK, hp, hs, Ev.stores, Ev.loads]) (bare4_z w h a v r p s d1 d2 d3 f2 f3 f4 f5)
    obtain rfl : z = false := by simpa using t
    clear t
    by_cases t : v = 0
    case neg => exact key false (by simp [Ev.bare, Ev.bareK, hp, hs, Ev.stores, Ev.loads, t]) (bare4_v w h a v r p s d1 d2 d3 f2 f3 f4 f5 (by simpa using t))
    subst t
    by_cases t : r = 0
    case neg => exact key false (by simp [Ev.bare, Ev.bareK, hp, hs, Ev.stores, Ev.loads, t]) (bare4_r w h a r p s d1 d2 d3 f2 f3 f4 f5 (by simpa using t))
    subst t
    by_cases t : a = 0
    case neg => exact key false (by simp [Ev.bare, Ev.bareK, hp, hs, Ev.stores, Ev.loads, t]) (bare4_a w h a p s d1 d2 d3 f2 f3 f4 f5 (by simpa using t))
    subst t
    obtain ⟨d2a, d2c, d2l⟩ := d2
    rcases d2l with _ | ⟨y, ys⟩
    case cons => exact key false (by simp [Ev.bare, Ev.bareK, hp, hs, Ev.stores, Ev.loads]) (bare4_d2 w h p s d1 ⟨d2a, d2c, y :: ys⟩ d3 f2 f3 f4 f5 (by simp only [List.length_cons]; rw [beq_eq_false_iff_ne]; omega))
    obtain ⟨d1a, d1c, d1l⟩ := d1
    rcases d1l with _ | ⟨y, ys⟩
    case cons => exact key false (by simp [Ev.bare, Ev.bareK, hp, hs, Ev.stores, Ev.loads]) (bare4_d1 w h p s ⟨d1a, d1c, y :: ys⟩ d2a d2c d3 f2 f3 f4 f5 (by simp only [List.length_cons]; rw [beq_eq_false_iff_ne]; omega))
    exact key true (by simp [Ev.bare, Ev.bareK, hp, hs, Ev.stores, Ev.loads]) (bare4_ok w h p s d1a d1c d2a d2c d3 f2 f3 f4 f5)
  · by_cases t : p = 0
    case neg => exact key false (by simp [Ev.bare, Ev.bareK, hp, hs, Ev.stores, Ev.loads, t]) (bare5_p w h a v r q l p s z d1 d2 d3 f2 f3 f4 f5 (by simpa using t))
    subst t
    by_cases t : s = 0
    case neg => exact key false (by simp [Ev.bare, Ev.bareK, hp, hs, Ev.stores, Ev.loads, t]) (bare5_s w h a v r q l s z d1 d2 d3 f4 f5 (by simpa using t))
    subst t
    by_cases t : q = true
    · subst t; exact key false (by simp [Ev.bare, Ev.bareK, hp, hs, Ev.stores, Ev.loads]) (bare5_q w h a v r l z d1 d2 d3)
    obtain rfl : q = false := by simpa using t
    clear t
    by_cases t : l = true
    · subst t; exact key false (by simp [Ev.bare, Ev.bareK, hp, hs, Ev.stores, Ev.loads]) (bare5_l w h a v r z d1 d2 d3)
    obtain rfl : l = false := by simpa using t
    clear t
    by_cases t : z = true
    · subst t; exact key false (by simp [Ev.bare, Ev.bareK, hp, hs, Ev.stores, Ev.loads]) (bare5_z w h a v r d1 d2 d3)
    obtain rfl : z = false := by simpa using t
    clear t
    by_cases t : r = 0
    case neg => exact key false (by simp [Ev.bare, Ev.bareK, hp, hs, Ev.stores, Ev.loads, t]) (bare5_r w h a v r d1 d2 d3 (by simpa using t))
    subst t
    obtain ⟨d2a, d2c, d2l⟩ := d2
    rcases d2l with _ | ⟨y, ys⟩
    case cons => exact key false (by simp [Ev.bare, Ev.bareK, hp, hs, Ev.stores, Ev.loads]) (bare5_d2 w h a v d1 ⟨d2a, d2c, y :: ys⟩ d3 (by simp only [List.length_cons]; rw [beq_eq_false_iff_ne]; omega))
    obtain ⟨d1a, d1c, d1l⟩ := d1
    rcases d1l with _ | ⟨y, ys⟩
    case cons => exact key false (by simp [Ev.bare, Ev.bareK, hp, hs, Ev.stores, Ev.loads]) (bare5_d1 w h a v ⟨d1a, d1c, y :: ys⟩ d2a d2c d3 (by simp only [List.length_cons]; rw [beq_eq_false_iff_ne]; omega))
    obtain ⟨d3a, d3c, d3l⟩ := d3
    rcases d3l with _ | ⟨y, ys⟩
    case cons => exact key false (by simp [Ev.bare, Ev.bareK, hp, hs, Ev.stores, Ev.loads]) (bare5_d3 w h a v d1a d1c d2a d2c ⟨d3a, d3c, y :: ys⟩ (by simp only [List.length_cons]; rw [beq_eq_false_iff_ne]; omega))
    by_cases t : h = -1
    case neg => exact key false (by simp [Ev.bare, Ev.bareK, hp, hs, Ev.stores, Ev.loads, t]) (bare5_h w h a v d1a d1c d2a d2c d3a d3c (by simpa using t))
    subst t
    exact key true (by simp [Ev.bare, Ev.bareK, hp, hs, Ev.stores, Ev.loads]) (bare5_ok w a v d1a d1c d2a d2c d3a d3c)
end Go.Proofs.Ytoicmhidmknfiaa
