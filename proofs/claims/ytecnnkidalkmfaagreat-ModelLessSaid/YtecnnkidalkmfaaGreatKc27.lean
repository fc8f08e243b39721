import Derived.Test.YtecnnkidalkmfaaGreatKc23
import Derived.Test.YtecnnkidalkmfaaGreatKc24
import Derived.Test.YtecnnkidalkmfaaGreatKc25
import Derived.Test.YtecnnkidalkmfaaGreatKc26
import Derived.Test.YtecnnkidalkmfaaGreatKc10
set_option linter.unusedVariables false
set_option linter.unusedSimpArgs false

section
namespace Go.Proofs.YtecnnkidalkmfaaGreat
open Go.RowKit
namespace Ev
def bareK (x : R) : Bool := (x.k == 4 || (x.p == 0 && x.s == 0)) && (!(x.k == 4 || x.k == 5) || (!x.q && !x.l)) && (x.k == 1 || x.k == 2 || !x.z) && (stores x.k || x.v == 0) && (loads x.k || x.r == 0) && (x.k != 4 || x.a == 0) && (x.k == 2 || x.k == 3 || x.d2.l.isEmpty) && (decide (x.k < 4) || x.d1.l.isEmpty) && (decide (x.k < 5) || (x.d3.l.isEmpty && x.h == -1))
def bare (x : R) : Bool := decide (1 ≤ x.k) && decide (x.k ≤ 5) && inB x.p 4 && inB x.s 4 && bareK x
end Ev
theorem rbare_any (x : Ev.R) (w : World) : Calls Tryz.prog 29 #[Ev.evV x] w fun e w' => e = .returned (.bool (Ev.bare x)) ∧ Below w.heap.size w w' := by
  obtain ⟨h, k, a, v, r, q, l, p, s, z, d1, d2, d3⟩ := x
  have key : ∀ b : Bool, Ev.bare ⟨h, k, a, v, r, q, l, p, s, z, d1, d2, d3⟩ = b → (Calls Tryz.prog 29 #[Ev.evV ⟨h, k, a, v, r, q, l, p, s, z, d1, d2, d3⟩] w fun e w' => e = .returned (.bool b) ∧ Below w.heap.size w w') → Calls Tryz.prog 29 #[Ev.evV ⟨h, k, a, v, r, q, l, p, s, z, d1, d2, d3⟩] w fun e w' => e = .returned (.bool (Ev.bare ⟨h, k, a, v, r, q, l, p, s, z, d1, d2, d3⟩)) ∧ Below w.heap.size w w' := fun b e hc => e ▸ hc
  by_cases k0 : k < 1
  · exact key false (by simp [Ev.bare, show ¬ 1 ≤ k by omega]) (bare_k0 w h k a v r q l p s z d1 d2 d3 (decide_eq_true k0))
  have f0 : decide (k < 1) = false := decide_eq_false k0
  by_cases k6 : 5 < k
  · exact key false (by simp [Ev.bare, show ¬ k ≤ 5 by omega]) (bare_k6 w h k a v r q l p s z d1 d2 d3 f0 (decide_eq_true k6))
  have f1 : decide (5 < k) = false := decide_eq_false k6
  by_cases p0 : p < 0
  · exact key false (by simp [Ev.bare, Ev.inB, show ¬ 0 ≤ p by omega]) (bare_p0 w h k a v r q l p s z d1 d2 d3 f0 f1 (decide_eq_true p0))
  have f2 : decide (p < 0) = false := decide_eq_false p0
  by_cases p4 : 3 < p
  · exact key false (by simp [Ev.bare, Ev.inB, show ¬ p < 4 by omega]) (bare_p4 w h k a v r q l p s z d1 d2 d3 f0 f1 f2 (decide_eq_true p4))
  have f3 : decide (3 < p) = false := decide_eq_false p4
  by_cases s0 : s < 0
  · exact key false (by simp [Ev.bare, Ev.inB, show ¬ 0 ≤ s by omega]) (bare_s0 w h k a v r q l p s z d1 d2 d3 f0 f1 f2 f3 (decide_eq_true s0))
  have f4 : decide (s < 0) = false := decide_eq_false s0
  by_cases s4 : 3 < s
  · exact key false (by simp [Ev.bare, Ev.inB, show ¬ s < 4 by omega]) (bare_s4 w h k a v r q l p s z d1 d2 d3 f0 f1 f2 f3 f4 (decide_eq_true s4))
  have f5 : decide (3 < s) = false := decide_eq_false s4
  have hp : Ev.inB p 4 = true := by unfold Ev.inB; simp; omega
  have hs : Ev.inB s 4 = true := by unfold Ev.inB; simp; omega
  have hk : k = 1 ∨ k = 2 ∨ k = 3 ∨ k = 4 ∨ k = 5 := by omega
  rcases hk with rfl | rfl | rfl | rfl | rfl
  · by_cases t : p = 0
    case neg => exact key false (by simp [Ev.bare, Ev.bareK, hp, hs, Ev.stores, Ev.loads, t]) (bare1_p w h a v r q l p s z d1 d2 d3 f2 f3 f4 f5 (by simpa using t))
    subst t
    by_cases t : s = 0
    case neg => exact key false (by simp [Ev.bare, Ev.bareK, hp, hs, Ev.stores, Ev.loads, t]) (bare1_s w h a v r q l s z d1 d2 d3 f4 f5 (by simpa using t))
    subst t
    by_cases t : v = 0
    case neg => exact key false (by simp [Ev.bare, Ev.bareK, hp, hs, Ev.stores, Ev.loads, t]) (bare1_v w h a v r q l z d1 d2 d3 (by simpa using t))
    subst t
    obtain ⟨d2a, d2c, d2l⟩ := d2
    rcases d2l with _ | ⟨y, ys⟩
    case cons => exact key false (by simp [Ev.bare, Ev.bareK, hp, hs, Ev.stores, Ev.loads]) (bare1_d2 w h a r q l z d1 ⟨d2a, d2c, y :: ys⟩ d3 (by simp only [List.length_cons]; rw [beq_eq_false_iff_ne]; omega))
    exact key true (by simp [Ev.bare, Ev.bareK, hp, hs, Ev.stores, Ev.loads]) (bare1_ok w h a r q l z d1 d2a d2c d3)
  · by_cases t : p = 0
    case neg => exact key false (by simp [Ev.bare, Ev.bareK, hp, hs, Ev.stores, Ev.loads, t]) (bare2_p w h a v r q l p s z d1 d2 d3 f2 f3 f4 f5 (by simpa using t))
    subst t
    by_cases t : s = 0
    case neg => exact key false (by simp [Ev.bare, Ev.bareK, hp, hs, Ev.stores, Ev.loads, t]) (bare2_s w h a v r q l s z d1 d2 d3 f4 f5 (by simpa using t))
    subst t
    by_cases t : r = 0
    case neg => exact key false (by simp [Ev.bare, Ev.bareK, hp, hs, Ev.stores, Ev.loads, t]) (bare2_r w h a v r q l z d1 d2 d3 (by simpa using t))
    subst t
    exact key true (by simp [Ev.bare, Ev.bareK, hp, hs, Ev.stores, Ev.loads]) (bare2_ok w h a v q l z d1 d2 d3)
  · by_cases t : p = 0
    case neg => exact key false (by simp [Ev.bare, Ev.bareK, hp, hs, Ev.stores, Ev.loads, t]) (bare3_p w h a v r q l p s z d1 d2 d3 f2 f3 f4 f5 (by simpa using t))
    subst t
    by_cases t : s = 0
    case neg => exact key false (by simp [Ev.bare, Ev.bareK, hp, hs, Ev.stores, Ev.loads, t]) (bare3_s w h a v r q l s z d1 d2 d3 f4 f5 (by simpa using t))
    subst t
    by_cases t : z = true
    · subst t; exact key false (by simp [Ev.bare, Ev.bareK, hp, hs, Ev.stores, Ev.loads]) (bare3_z w h a v r q l d1 d2 d3)
    obtain rfl : z = false := by simpa using t
    clear t
    exact key true (by simp [Ev.bare, Ev.bareK, hp, hs, Ev.stores, Ev.loads]) (bare3_ok w h a v r q l d1 d2 d3)
  · by_cases t : q = true
    · subst t; exact key false (by simp [Ev.bare, Ev.bareK, hp, hs, Ev.stores, Ev.loads]) (bare4_q w h a v r l p s z d1 d2 d3 f2 f3 f4 f5)
    obtain rfl : q = false := by simpa using t
    clear t
    by_cases t : l = true
    · subst t; exact key false (by simp [Ev.bare, Ev.bareK, hp, hs, Ev.stores, Ev.loads]) (bare4_l w h a v r p s z d1 d2 d3 f2 f3 f4 f5)
    obtain rfl : l = false := by simpa using t
    clear t
    by_cases t : z = true
    · subst t; exact key false (by simp [Ev.bare, Ev.bareK, hp, hs, Ev.stores, Ev.loads]) (bare4_z w h a v r p s d1 d2 d3 f2 f3 f4 f5)
    obtain rfl : z = false := by simpa using t
    clear t
    by_cases t : v = 0
    case neg => exact key false (by simp [Ev.bare, Ev.bareK, hp, hs, Ev.stores, Ev.loads, t]) (bare4_v w h a v r p s d1 d2 d3 f2 f3 f4 f5 (by simpa using t))
    subst t
    by_cases t : r = 0
    case neg => exact key false (by simp [Ev.bare, Ev.bareK, hp, hs, Ev.stores, Ev.loads, t]) (bare4_r w h a r p s d1 d2 d3 f2 f3 f4 f5 (by simpa using t))
    subst t
    by_cases t : a = 0
    case neg => exact key false (by simp [Ev.bare, Ev.bareK, hp, hs, Ev.stores, Ev.loads, t]) (bare4_a w h a p s d1 d2 d3 f2 f3 f4 f5 (by simpa using t))
    subst t
    obtain ⟨d2a, d2c, d2l⟩ := d2
    rcases d2l with _ | ⟨y, ys⟩
    case cons => exact key false (by simp [Ev.bare, Ev.bareK, hp, hs, Ev.stores, Ev.loads]) (bare4_d2 w h p s d1 ⟨d2a, d2c, y :: ys⟩ d3 f2 f3 f4 f5 (by simp only [List.length_cons]; rw [beq_eq_false_iff_ne]; omega))
    obtain ⟨d1a, d1c, d1l⟩ := d1
    rcases d1l with _ | ⟨y, ys⟩
    case cons => exact key false (by simp [Ev.bare, Ev.bareK, hp, hs, Ev.stores, Ev.loads]) (bare4_d1 w h p s ⟨d1a, d1c, y :: ys⟩ d2a d2c d3 f2 f3 f4 f5 (by simp only [List.length_cons]; rw [beq_eq_false_iff_ne]; omega))
    exact key true (by simp [Ev.bare, Ev.bareK, hp, hs, Ev.stores, Ev.loads]) (bare4_ok w h p s d1a d1c d2a d2c d3 f2 f3 f4 f5)
  · by_cases t : p = 0
    case neg => exact key false (by simp [Ev.bare, Ev.bareK, hp, hs, Ev.stores, Ev.loads, t]) (bare5_p w h a v r q l p s z d1 d2 d3 f2 f3 f4 f5 (by simpa using t))
    subst t
    by_cases t : s = 0
    case neg => exact key false (by simp [Ev.bare, Ev.bareK, hp, hs, Ev.stores, Ev.loads, t]) (bare5_s w h a v r q l s z d1 d2 d3 f4 f5 (by simpa using t))
    subst t
    by_cases t : q = true
    · subst t; exact key false (by simp [Ev.bare, Ev.bareK, hp, hs, Ev.stores, Ev.loads]) (bare5_q w h a v r l z d1 d2 d3)
    obtain rfl : q = false := by simpa using t
    clear t
    by_cases t : l = true
    · subst t; exact key false (by simp [Ev.bare, Ev.bareK, hp, hs, Ev.stores, Ev.loads]) (bare5_l w h a v r z d1 d2 d3)
    obtain rfl : l = false := by simpa using t
    clear t
    by_cases t : z = true
    · subst t; exact key false (by simp [Ev.bare, Ev.bareK, hp, hs, Ev.stores, Ev.loads]) (bare5_z w h a v r d1 d2 d3)
    obtain rfl : z = false := by simpa using t
    clear t
    by_cases t : r = 0
    case neg => exact key false (by simp [Ev.bare, Ev.bareK, hp, hs, Ev.stores, Ev.loads, t]) (bare5_r w h a v r d1 d2 d3 (by simpa using t))
    subst t
    obtain ⟨d2a, d2c, d2l⟩ := d2
    rcases d2l with _ | ⟨y, ys⟩
    case cons => exact key false (by simp [Ev.bare, Ev.bareK, hp, hs, Ev.stores, Ev.loads]) (bare5_d2 w h a v d1 ⟨d2a, d2c, y :: ys⟩ d3 (by simp only [List.length_cons]; rw [beq_eq_false_iff_ne]; omega))
    obtain ⟨d1a, d1c, d1l⟩ := d1
    rcases d1l with _ | ⟨y, ys⟩
    case cons => exact key false (by simp [Ev.bare, Ev.bareK, hp, hs, Ev.stores, Ev.loads]) (bare5_d1 w h a v ⟨d1a, d1c, y :: ys⟩ d2a d2c d3 (by simp only [List.length_cons]; rw [beq_eq_false_iff_ne]; omega))
    obtain ⟨d3a, d3c, d3l⟩ := d3
    rcases d3l with _ | ⟨y, ys⟩
    case cons => exact key false (by simp [Ev.bare, Ev.bareK, hp, hs, Ev.stores, Ev.loads]) (bare5_d3 w h a v d1a d1c d2a d2c ⟨d3a, d3c, y :: ys⟩ (by simp only [List.length_cons]; rw [beq_eq_false_iff_ne]; omega))
    by_cases t : h = -1
    case neg => exact key false (by simp [Ev.bare, Ev.bareK, hp, hs, Ev.stores, Ev.loads, t]) (bare5_h w h a v d1a d1c d2a d2c d3a d3c (by simpa using t))
    subst t
    exact key true (by simp [Ev.bare, Ev.bareK, hp, hs, Ev.stores, Ev.loads]) (bare5_ok w a v d1a d1c d2a d2c d3a d3c)
end Go.Proofs.YtecnnkidalkmfaaGreat
end

section
namespace Go.Proofs.YtecnnkidalkmfaaGreat
open Go.RowKit
namespace Ev
structure Addrs (xs : List R) (l : List Int) : Prop where
  up : l.Pairwise (· < ·)
  mem : ∀ y, y ∈ l ↔ ∃ e ∈ xs, e.k ≠ 4 ∧ e.a = y
def rAt (xs : List R) (l : List Int) (i : Nat) : Bool :=
  bare (nth xs i) && (nth xs i).a % 4 == 0 && depsOk xs i && ((nth xs i).k == 5) == decide (i < l.length) && (!((nth xs i).k == 5) || (nth xs i).a == l.getD i 0) && ((nth xs i).k == 5 || (decide (0 ≤ (nth xs i).h) && decide ((nth xs i).h ≤ 3) && (!(decide (l.length < i)) || !(decide ((nth xs i).h < (nth xs ((i : Int) - 1)).h)))))
theorem ext1 : ∀ (b0 b1 b2 b3 b4 b5 b6 b7 b8 b9 b10 : Bool), (bits .andNot .i64 ((([(1, b0), (2, b1), (4, b2), (8, b3), (16, b4), (32, b5), (64, b6), (128, b7), (256, b8), (512, b9), (1024, b10)] : List (Nat × Bool)).foldl (fun m y => m ||| bit y.2 y.1) 0 : Nat) : Int) 1437 != 0) = (b1 || b5 || b6 || b9) := by decide +kernel
theorem ext2 : ∀ (b0 b1 b2 b3 b4 b5 b6 b7 b8 b9 b10 : Bool), (bits .andNot .i64 ((([(1, b0), (2, b1), (4, b2), (8, b3), (16, b4), (32, b5), (64, b6), (128, b7), (256, b8), (512, b9), (1024, b10)] : List (Nat × Bool)).foldl (fun m y => m ||| bit y.2 y.1) 0 : Nat) : Int) 1947 != 0) = (b2 || b5 || b6) := by decide +kernel
theorem ext3 : ∀ (b0 b1 b2 b3 b4 b5 b6 b7 b8 b9 b10 : Bool), (bits .andNot .i64 ((([(1, b0), (2, b1), (4, b2), (8, b3), (16, b4), (32, b5), (64, b6), (128, b7), (256, b8), (512, b9), (1024, b10)] : List (Nat × Bool)).foldl (fun m y => m ||| bit y.2 y.1) 0 : Nat) : Int) 1823 != 0) = (b5 || b6 || b7) := by decide +kernel
theorem ext4 : ∀ (b0 b1 b2 b3 b4 b5 b6 b7 b8 b9 b10 : Bool), (bits .andNot .i64 ((([(1, b0), (2, b1), (4, b2), (8, b3), (16, b4), (32, b5), (64, b6), (128, b7), (256, b8), (512, b9), (1024, b10)] : List (Nat × Bool)).foldl (fun m y => m ||| bit y.2 y.1) 0 : Nat) : Int) 1120 != 0) = (b0 || b1 || b2 || b3 || b4 || b7 || b8 || b9) := by decide +kernel
theorem ext5 : ∀ (b0 b1 b2 b3 b4 b5 b6 b7 b8 b9 b10 : Bool), (bits .andNot .i64 ((([(1, b0), (2, b1), (4, b2), (8, b3), (16, b4), (32, b5), (64, b6), (128, b7), (256, b8), (512, b9), (1024, b10)] : List (Nat × Bool)).foldl (fun m y => m ||| bit y.2 y.1) 0 : Nat) : Int) 3 != 0) = (b2 || b3 || b4 || b5 || b6 || b7 || b8 || b9 || b10) := by decide +kernel
theorem len_bne (l : List Int) : ((l.length : Int) != 0) = !l.isEmpty := by cases l <;> simp <;> omega
theorem extra1 {x : R} (h : x.k = 1) : extra x = ((x.v != 0) || (x.p != 0) || (x.s != 0) || !x.d2.l.isEmpty) := by
  unfold extra filled fl; rw [h]; rw [show parts 1 = 1437 from rfl, ext1, len_bne]
theorem extra2 {x : R} (h : x.k = 2) : extra x = ((x.r != 0) || (x.p != 0) || (x.s != 0)) := by
  unfold extra filled fl; rw [h]; rw [show parts 2 = 1947 from rfl, ext2]
theorem extra3 {x : R} (h : x.k = 3) : extra x = ((x.p != 0) || (x.s != 0) || x.z) := by
  unfold extra filled fl; rw [h]; rw [show parts 3 = 1823 from rfl, ext3]
theorem extra4 {x : R} (h : x.k = 4) : extra x = ((x.a != 0) || (x.v != 0) || (x.r != 0) || x.q || x.l || x.z || !x.d1.l.isEmpty || !x.d2.l.isEmpty) := by
  unfold extra filled fl; rw [h]; rw [show parts 4 = 1120 from rfl, ext4, len_bne, len_bne]
theorem extra5 {x : R} (h : x.k = 5) : extra x = ((x.r != 0) || x.q || x.l || (x.p != 0) || (x.s != 0) || x.z || !x.d1.l.isEmpty || !x.d2.l.isEmpty || !x.d3.l.isEmpty) := by
  unfold extra filled fl; rw [h]; rw [show parts 5 = 3 from rfl, ext5, len_bne, len_bne, len_bne]
theorem parts_no {k : Int} (h1 : k ≠ 1) (h2 : k ≠ 2) (h3 : k ≠ 3) (h4 : k ≠ 4) (h5 : k ≠ 5) : parts k = 0 := by unfold parts; rw [if_neg h1, if_neg h2, if_neg h3, if_neg h4, if_neg h5]
theorem parts_bare (x : R) : partsOk x = (bare x && (x.k == 5 || inB x.h 4) && x.a % 4 == 0) := by
  by_cases h1 : x.k = 1
  · unfold partsOk bare bareK hartOk; rw [extra1 h1]; simp only [h1, bne, stores, loads]
    generalize (x.v == 0) = bv; generalize (x.r == 0) = br; generalize (x.a == 0) = ba; generalize (x.p == 0) = bp; generalize (x.s == 0) = bs
    generalize x.d1.l.isEmpty = e1; generalize x.d2.l.isEmpty = e2; generalize x.d3.l.isEmpty = e3; generalize (x.a % 4 == 0) = bm; generalize (x.h == -1) = bh
    generalize inB x.h 4 = ih; generalize inB x.p 4 = ip; generalize inB x.s 4 = js; generalize x.q = xq; generalize x.l = xl; generalize x.z = xz
    clear h1
    revert bv br ba bp bs e1 e2 e3 bm bh ih ip js xq xl xz
    decide +kernel
  by_cases h2 : x.k = 2
  · unfold partsOk bare bareK hartOk; rw [extra2 h2]; simp only [h2, bne, stores, loads]
    generalize (x.v == 0) = bv; generalize (x.r == 0) = br; generalize (x.a == 0) = ba; generalize (x.p == 0) = bp; generalize (x.s == 0) = bs
    generalize x.d1.l.isEmpty = e1; generalize x.d2.l.isEmpty = e2; generalize x.d3.l.isEmpty = e3; generalize (x.a % 4 == 0) = bm; generalize (x.h == -1) = bh
    generalize inB x.h 4 = ih; generalize inB x.p 4 = ip; generalize inB x.s 4 = js; generalize x.q = xq; generalize x.l = xl; generalize x.z = xz
    clear h1 h2
    revert bv br ba bp bs e1 e2 e3 bm bh ih ip js xq xl xz
    decide +kernel
  by_cases h3 : x.k = 3
  · unfold partsOk bare bareK hartOk; rw [extra3 h3]; simp only [h3, bne, stores, loads]
    generalize (x.v == 0) = bv; generalize (x.r == 0) = br; generalize (x.a == 0) = ba; generalize (x.p == 0) = bp; generalize (x.s == 0) = bs
    generalize x.d1.l.isEmpty = e1; generalize x.d2.l.isEmpty = e2; generalize x.d3.l.isEmpty = e3; generalize (x.a % 4 == 0) = bm; generalize (x.h == -1) = bh
    generalize inB x.h 4 = ih; generalize inB x.p 4 = ip; generalize inB x.s 4 = js; generalize x.q = xq; generalize x.l = xl; generalize x.z = xz
    clear h1 h2 h3
    revert bv br ba bp bs e1 e2 e3 bm bh ih ip js xq xl xz
    decide +kernel
  by_cases h4 : x.k = 4
  · unfold partsOk bare bareK hartOk; rw [extra4 h4]; simp only [h4, bne, stores, loads]
    generalize (x.v == 0) = bv; generalize (x.r == 0) = br; generalize (x.a == 0) = ba; generalize (x.p == 0) = bp; generalize (x.s == 0) = bs
    generalize x.d1.l.isEmpty = e1; generalize x.d2.l.isEmpty = e2; generalize x.d3.l.isEmpty = e3; generalize (x.a % 4 == 0) = bm; generalize (x.h == -1) = bh
    generalize inB x.h 4 = ih; generalize inB x.p 4 = ip; generalize inB x.s 4 = js; generalize x.q = xq; generalize x.l = xl; generalize x.z = xz
    clear h1 h2 h3 h4
    revert bv br ba bp bs e1 e2 e3 bm bh ih ip js xq xl xz
    decide +kernel
  by_cases h5 : x.k = 5
  · unfold partsOk bare bareK hartOk; rw [extra5 h5]; simp only [h5, bne, stores, loads]
    generalize (x.v == 0) = bv; generalize (x.r == 0) = br; generalize (x.a == 0) = ba; generalize (x.p == 0) = bp; generalize (x.s == 0) = bs
    generalize x.d1.l.isEmpty = e1; generalize x.d2.l.isEmpty = e2; generalize x.d3.l.isEmpty = e3; generalize (x.a % 4 == 0) = bm; generalize (x.h == -1) = bh
    generalize inB x.h 4 = ih; generalize inB x.p 4 = ip; generalize inB x.s 4 = js; generalize x.q = xq; generalize x.l = xl; generalize x.z = xz
    clear h1 h2 h3 h4 h5
    revert bv br ba bp bs e1 e2 e3 bm bh ih ip js xq xl xz
    decide +kernel
  have hb : bare x = false := by
    unfold bare
    have : ¬ (1 ≤ x.k ∧ x.k ≤ 5) := by omega
    by_cases h : 1 ≤ x.k
    · rw [show decide (x.k ≤ 5) = false from decide_eq_false (by omega)]; simp
    · rw [show decide (1 ≤ x.k) = false from decide_eq_false h]; simp
  rw [hb]
  unfold partsOk; rw [parts_no h1 h2 h3 h4 h5]; simp
end Ev
end Go.Proofs.YtecnnkidalkmfaaGreat
end
