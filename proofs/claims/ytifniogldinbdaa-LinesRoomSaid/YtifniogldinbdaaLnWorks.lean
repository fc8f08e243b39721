/-
  The contract of the laws' works.
-/
import Derived.Test.YtifniogldinbdaaLnAll
namespace Go.Proofs.Ytifniogldinbdaa
open Go.RowKit
set_option linter.unusedVariables false
set_option linter.unusedSimpArgs false
namespace Ln
/-- a cache of one's own, in a world that is as it was but for what is new -/
structure St (w W : World) (F : Nat → Prop) (p ways : Nat) (Q : List (List E)) : Prop where
  cache : Cache W F p ways Q
  bel : Below w.heap.size w W
  lo : ∀ k, F k → w.heap.size ≤ k
theorem St.kp {w W W' : World} {F p ways Q} (h : St w W F p ways Q) (hb : Below W.heap.size W W') : St w W' F p ways Q := ⟨h.cache.kp hb, h.bel.trans (hb.mono h.bel.size), h.lo⟩
theorem St.turn {w W W' : World} {F p ways Q Q'} (h : St w W F p ways Q) (ht : Turns F W W' p ways Q') : ∃ F', St w W' F' p ways Q' ∧ Fr F W W' ∧ ∀ k, F' k → F k ∨ W.heap.size ≤ k := by
  obtain ⟨F', h1, h2, h3⟩ := ht
  refine ⟨F', ⟨h1, Fr.below h.bel h2 h.lo (Nat.le_refl _), fun k hk => ?_⟩, h2, h3⟩
  rcases h3 k hk with h4 | h4
  · exact h.lo k h4
  · have := h.bel.size; omega
def e4 : E := ⟨4, 1, E0.b⟩
def e6 : E := ⟨6, 3, E0.b⟩
def e8 : E := ⟨8, 2, E0.b⟩
theorem e4_ok : Ok e4 := ⟨by unfold Ev.u32B e4; decide, by unfold Ev.i64B e4; decide, rfl⟩
theorem e6_ok : Ok e6 := ⟨by unfold Ev.u32B e6; decide, by unfold Ev.i64B e6; decide, rfl⟩
theorem e8_ok : Ok e8 := ⟨by unfold Ev.u32B e8; decide, by unfold Ev.i64B e8; decide, rfl⟩
end Ln
theorem works_p1 (w W : World) (F : Nat → Prop) (p : Nat) (h : Ln.St w W F p 2 [[], []]) :
    Calls Try.prog 14 #[.pointer (some ⟨p, 0, none⟩), .agg #[.int .u32 4, .int .i64 1, .int .u8 0, .int .u8 0, .int .u8 0, .int .u8 0, .int .u8 0, .int .u8 0, .int .u8 0, .int .u8 0, .int .u8 0, .int .u8 0, .int .u8 0, .int .u8 0, .int .u8 0, .int .u8 0, .int .u8 0, .int .u8 0]] W fun e w' => e = .returned (.int .i64 0) ∧ ∃ F', Ln.St w w' F' p 2 [[Ln.e4], []] := by
  have h1 := put_any Ln.e4 Ln.e4_ok W h.cache
  rw [show Ln.putE 2 [[], []] Ln.e4 = 0 from by kernel_rfl, show Ln.putQ 2 [[], []] Ln.e4 = [[Ln.e4], []] from by kernel_rfl, show Ln.EV Ln.e4 = .agg #[.int .u32 4, .int .i64 1, .int .u8 0, .int .u8 0, .int .u8 0, .int .u8 0, .int .u8 0, .int .u8 0, .int .u8 0, .int .u8 0, .int .u8 0, .int .u8 0, .int .u8 0, .int .u8 0, .int .u8 0, .int .u8 0, .int .u8 0, .int .u8 0] from by kernel_rfl] at h1
  refine h1.mono ?_
  rintro e w' ⟨he, ht⟩
  obtain ⟨F', s, _, _⟩ := h.turn ht
  exact ⟨he, F', s⟩
theorem works_p2 (w W : World) (F : Nat → Prop) (p : Nat) (h : Ln.St w W F p 2 [[Ln.e4], []]) :
    Calls Try.prog 14 #[.pointer (some ⟨p, 0, none⟩), .agg #[.int .u32 6, .int .i64 3, .int .u8 0, .int .u8 0, .int .u8 0, .int .u8 0, .int .u8 0, .int .u8 0, .int .u8 0, .int .u8 0, .int .u8 0, .int .u8 0, .int .u8 0, .int .u8 0, .int .u8 0, .int .u8 0, .int .u8 0, .int .u8 0]] W fun e w' => e = .returned (.int .i64 0) ∧ ∃ F', Ln.St w w' F' p 2 [[Ln.e4, Ln.e6], []] := by
  have h1 := put_any Ln.e6 Ln.e6_ok W h.cache
  rw [show Ln.putE 2 [[Ln.e4], []] Ln.e6 = 0 from by kernel_rfl, show Ln.putQ 2 [[Ln.e4], []] Ln.e6 = [[Ln.e4, Ln.e6], []] from by kernel_rfl, show Ln.EV Ln.e6 = .agg #[.int .u32 6, .int .i64 3, .int .u8 0, .int .u8 0, .int .u8 0, .int .u8 0, .int .u8 0, .int .u8 0, .int .u8 0, .int .u8 0, .int .u8 0, .int .u8 0, .int .u8 0, .int .u8 0, .int .u8 0, .int .u8 0, .int .u8 0, .int .u8 0] from by kernel_rfl] at h1
  refine h1.mono ?_
  rintro e w' ⟨he, ht⟩
  obtain ⟨F', s, _, _⟩ := h.turn ht
  exact ⟨he, F', s⟩
theorem works_p3 (w W : World) (F : Nat → Prop) (p : Nat) (h : Ln.St w W F p 2 [[Ln.e4, Ln.e6], []]) :
    Calls Try.prog 14 #[.pointer (some ⟨p, 0, none⟩), .agg #[.int .u32 8, .int .i64 2, .int .u8 0, .int .u8 0, .int .u8 0, .int .u8 0, .int .u8 0, .int .u8 0, .int .u8 0, .int .u8 0, .int .u8 0, .int .u8 0, .int .u8 0, .int .u8 0, .int .u8 0, .int .u8 0, .int .u8 0, .int .u8 0]] W fun e w' => e = .returned (.int .i64 200) ∧ ∃ F', Ln.St w w' F' p 2 [[Ln.e4, Ln.e6], []] := by
  have h1 := put_any Ln.e8 Ln.e8_ok W h.cache
  rw [show Ln.putE 2 [[Ln.e4, Ln.e6], []] Ln.e8 = 200 from by kernel_rfl, show Ln.putQ 2 [[Ln.e4, Ln.e6], []] Ln.e8 = [[Ln.e4, Ln.e6], []] from by kernel_rfl, show Ln.EV Ln.e8 = .agg #[.int .u32 8, .int .i64 2, .int .u8 0, .int .u8 0, .int .u8 0, .int .u8 0, .int .u8 0, .int .u8 0, .int .u8 0, .int .u8 0, .int .u8 0, .int .u8 0, .int .u8 0, .int .u8 0, .int .u8 0, .int .u8 0, .int .u8 0, .int .u8 0] from by kernel_rfl] at h1
  refine h1.mono ?_
  rintro e w' ⟨he, ht⟩
  obtain ⟨F', s, _, _⟩ := h.turn ht
  exact ⟨he, F', s⟩
theorem works_p4 (w W : World) (F : Nat → Prop) (p : Nat) (h : Ln.St w W F p 2 [[Ln.e6], []]) :
    Calls Try.prog 14 #[.pointer (some ⟨p, 0, none⟩), .agg #[.int .u32 8, .int .i64 2, .int .u8 0, .int .u8 0, .int .u8 0, .int .u8 0, .int .u8 0, .int .u8 0, .int .u8 0, .int .u8 0, .int .u8 0, .int .u8 0, .int .u8 0, .int .u8 0, .int .u8 0, .int .u8 0, .int .u8 0, .int .u8 0]] W fun e w' => e = .returned (.int .i64 0) ∧ ∃ F', Ln.St w w' F' p 2 [[Ln.e6, Ln.e8], []] := by
  have h1 := put_any Ln.e8 Ln.e8_ok W h.cache
  rw [show Ln.putE 2 [[Ln.e6], []] Ln.e8 = 0 from by kernel_rfl, show Ln.putQ 2 [[Ln.e6], []] Ln.e8 = [[Ln.e6, Ln.e8], []] from by kernel_rfl, show Ln.EV Ln.e8 = .agg #[.int .u32 8, .int .i64 2, .int .u8 0, .int .u8 0, .int .u8 0, .int .u8 0, .int .u8 0, .int .u8 0, .int .u8 0, .int .u8 0, .int .u8 0, .int .u8 0, .int .u8 0, .int .u8 0, .int .u8 0, .int .u8 0, .int .u8 0, .int .u8 0] from by kernel_rfl] at h1
  refine h1.mono ?_
  rintro e w' ⟨he, ht⟩
  obtain ⟨F', s, _, _⟩ := h.turn ht
  exact ⟨he, F', s⟩
theorem works_v (w W : World) (F : Nat → Prop) (p : Nat) (h : Ln.St w W F p 2 [[Ln.e4, Ln.e6], []]) :
    Calls Try.prog 12 #[.pointer (some ⟨p, 0, none⟩), .int .u32 8, .int .i64 (-1)] W fun e w' => e = .returned (.tuple #[.agg #[.int .u32 6, .int .i64 3, .int .u8 0, .int .u8 0, .int .u8 0, .int .u8 0, .int .u8 0, .int .u8 0, .int .u8 0, .int .u8 0, .int .u8 0, .int .u8 0, .int .u8 0, .int .u8 0, .int .u8 0, .int .u8 0, .int .u8 0, .int .u8 0], .bool true]) ∧ Ln.St w w' F p 2 [[Ln.e4, Ln.e6], []] := by
  have h1 := victim_any 8 (-1) (by unfold Ev.u32B; decide) (by unfold Ev.i64B; decide) W h.cache
  rw [show Ln.vic 2 [[Ln.e4, Ln.e6], []] 8 (-1) = some Ln.e6 from by kernel_rfl, show Ln.optV (some Ln.e6) = .tuple #[.agg #[.int .u32 6, .int .i64 3, .int .u8 0, .int .u8 0, .int .u8 0, .int .u8 0, .int .u8 0, .int .u8 0, .int .u8 0, .int .u8 0, .int .u8 0, .int .u8 0, .int .u8 0, .int .u8 0, .int .u8 0, .int .u8 0, .int .u8 0, .int .u8 0], .bool true] from by kernel_rfl] at h1
  exact h1.mono fun e w' ⟨he, hb⟩ => ⟨he, h.kp hb⟩
theorem works_d1 (w W : World) (F : Nat → Prop) (p : Nat) (h : Ln.St w W F p 2 [[Ln.e4, Ln.e6], []]) :
    Calls Try.prog 15 #[.pointer (some ⟨p, 0, none⟩), .int .u32 4] W fun e w' => e = .returned (.bool true) ∧ ∃ F', Ln.St w w' F' p 2 [[Ln.e6], []] := by
  have h1 := drop_any 4 (by unfold Ev.u32B; decide) W h.cache
  rw [show decide (0 ≤ Ln.ix (Ln.rowQ [[Ln.e4, Ln.e6], []] 4) 4 0) = true from by kernel_rfl, show Ln.dropQ [[Ln.e4, Ln.e6], []] 4 = [[Ln.e6], []] from by kernel_rfl] at h1
  refine h1.mono ?_
  rintro e w' ⟨he, ht⟩
  obtain ⟨F', s, _, _⟩ := h.turn ht
  exact ⟨he, F', s⟩
theorem works_d2 (w W : World) (F : Nat → Prop) (p : Nat) (h : Ln.St w W F p 2 [[Ln.e6], []]) :
    Calls Try.prog 15 #[.pointer (some ⟨p, 0, none⟩), .int .u32 4] W fun e w' => e = .returned (.bool false) ∧ ∃ F', Ln.St w w' F' p 2 [[Ln.e6], []] := by
  have h1 := drop_any 4 (by unfold Ev.u32B; decide) W h.cache
  rw [show decide (0 ≤ Ln.ix (Ln.rowQ [[Ln.e6], []] 4) 4 0) = false from by kernel_rfl, show Ln.dropQ [[Ln.e6], []] 4 = [[Ln.e6], []] from by kernel_rfl] at h1
  refine h1.mono ?_
  rintro e w' ⟨he, ht⟩
  obtain ⟨F', s, _, _⟩ := h.turn ht
  exact ⟨he, F', s⟩
theorem works_n (w W : World) (F : Nat → Prop) (p : Nat) (h : Ln.St w W F p 2 [[Ln.e6, Ln.e8], []]) :
    Calls Try.prog 16 #[.pointer (some ⟨p, 0, none⟩)] W fun e w' => e = .returned (.int .i64 2) ∧ Below w.heap.size w w' :=
  (len_any W h.cache).mono fun e w' ⟨he, hb⟩ => ⟨he, h.bel.trans (hb.mono h.bel.size)⟩
set_option maxRecDepth 100000 in
set_option maxHeartbeats 8000000 in
theorem works_any (w : World) : Calls Try.prog 21 #[] w fun e w' => e = .returned (.bool true) ∧ Below w.heap.size w w' := by
  have HN := Lib.hid (new_yes 2 2 (by decide) w)
  go_enter Try.func21, Try.ntmps21
  go_wp2_with (first
    | (go_at_call 10; refine HN.out.mono ?_; rintro e W1 ⟨p, rfl, hb1, F1, hc1, hf1⟩
       have S1 := Lib.hid (⟨hc1, hb1, hf1⟩ : Ln.St w W1 F1 p 2 [[], []])
       clear hb1 hc1 hf1)
    | (go_at_call 14; (with_reducible refine (works_p1 w W1 F1 p S1.out).mono ?_); rintro e W2 ⟨rfl, F2, s2⟩
       have S2 := Lib.hid s2
       clear s2)
    | (go_at_call 14; (with_reducible refine (works_p2 w W2 F2 p S2.out).mono ?_); rintro e W3 ⟨rfl, F3, s3⟩
       have S3 := Lib.hid s3
       clear s3)
    | (go_at_call 14; (with_reducible refine (works_p3 w W3 F3 p S3.out).mono ?_); rintro e W4 ⟨rfl, F4, s4⟩
       have S4 := Lib.hid s4
       clear s4)
    | (go_at_call 12; refine (works_v w W4 F4 p S4.out).mono ?_; rintro e W5 ⟨rfl, s5⟩
       have S5 := Lib.hid s5
       clear s5)
    | (go_at_call 13; (with_reducible refine (num_any _ _).mono ?_); rintro e W7 ⟨rfl, hw⟩; subst hw)
    | (go_at_call 15; (with_reducible refine (works_d1 w _ F4 p (S5.out.kp ((Below.refl _ _).alloc (Nat.le_refl _) _))).mono ?_); rintro e W6 ⟨rfl, F6, s6⟩
       have S6 := Lib.hid s6
       clear s6)
    | (go_at_call 15; (with_reducible refine (works_d2 w W6 F6 p S6.out).mono ?_); rintro e W7 ⟨rfl, F7, s7⟩
       have S7 := Lib.hid s7
       clear s7)
    | (go_at_call 14; (with_reducible refine (works_p4 w W7 F7 p S7.out).mono ?_); rintro e W8 ⟨rfl, F8, s8⟩
       have S8 := Lib.hid s8
       clear s8)
    | (go_at_call 16; (with_reducible refine (works_n w W8 F8 p S8.out).mono ?_); rintro e W9 ⟨rfl, hb9⟩
       have B9 := Lib.hid hb9
       clear hb9))
  go_ret
  exact ⟨rfl, B9.out⟩
end Go.Proofs.Ytifniogldinbdaa
