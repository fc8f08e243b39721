/-
  Two events that differ in a part are not the same.
-/
import Derived.Test.YtnlfdepeimjliaaEvSame
namespace Go.Proofs.Ytnlfdepeimjliaa
open Go.RowKit
set_option linter.unusedVariables false
set_option linter.unusedSimpArgs false
set_option maxRecDepth 100000 in
set_option maxHeartbeats 8000000 in
theorem sameyes (x y : Ev.R) (w : World) (hx : Ev.ROk w x) (hy : Ev.ROk w y) (eh : x.h = y.h) (ek : x.k = y.k) (ea : x.a = y.a) (ev : x.v = y.v) (er : x.r = y.r) (eq : x.q = y.q) (el : x.l = y.l) (ez : x.z = y.z) (ep : x.p = y.p) (es : x.s = y.s) : Calls Try.prog 48 #[Ev.evV x, Ev.evV y] w fun e w' => e = .returned (.bool (Ev.sameR x y)) ∧ Below w.heap.size w w' := by
  have HX := Lib.hid hx; have HY := Lib.hid hy
  have e : Ev.sameR x y = (decide (x.d1.l = y.d1.l) && decide (x.d2.l = y.d2.l) && decide (x.d3.l = y.d3.l)) := by unfold Ev.sameR; simp [eh, ek, ea, ev, er, eq, el, ez, ep, es]
  have bh : (x.h == y.h) = true := by simpa using eh
  have bk : (x.k == y.k) = true := by simpa using ek
  have ba : (x.a == y.a) = true := by simpa using ea
  have bv : (x.v == y.v) = true := by simpa using ev
  have br : (x.r == y.r) = true := by simpa using er
  have bq : (x.q == y.q) = true := by simpa using eq
  have bl : (x.l == y.l) = true := by simpa using el
  have bz : (x.z == y.z) = true := by simpa using ez
  have bp : (x.p == y.p) = true := by simpa using ep
  have bs : (x.s == y.s) = true := by simpa using es
  rw [e]; clear e hx hy eh ek ea ev er eq el ez ep es
  obtain ⟨b1, hb1⟩ : ∃ b, decide (x.d1.l = y.d1.l) = b := ⟨_, rfl⟩
  obtain ⟨b2, hb2⟩ : ∃ b, decide (x.d2.l = y.d2.l) = b := ⟨_, rfl⟩
  obtain ⟨b3, hb3⟩ : ∃ b, decide (x.d3.l = y.d3.l) = b := ⟨_, rfl⟩
  have H1 := Lib.hid hb1; have H2 := Lib.hid hb2; have H3 := Lib.hid hb3
  rw [hb1, hb2, hb3]; clear hb1 hb2 hb3
  unfold Ev.evV Ev.cells
  go_enter Try.func48, Try.ntmps48
  go_wp2_with fail
  refine (equal_any x.d1 y.d1 _ (HX.out.d1.kp (Ev.kp_below (((Below.refl _ _).alloc (Nat.le_refl _) _).alloc (by simp only [World.size_alloc]; omega) _))) (HY.out.d1.kp (Ev.kp_below (((Below.refl _ _).alloc (Nat.le_refl _) _).alloc (by simp only [World.size_alloc]; omega) _)))).mono ?_
  rintro e W1 ⟨rfl, n1, rfl⟩
  rw [H1.out]
  cases b1
  · go_wp2_with fail
    go_ret
    exact ⟨rfl, below_drewN (((Below.refl _ _).alloc (Nat.le_refl _) _).alloc (by simp only [World.size_alloc]; omega) _) _⟩
  go_wp2_with fail
  refine (equal_any x.d2 y.d2 _ (HX.out.d2.kp (Ev.kp_below (below_drewN (((Below.refl _ _).alloc (Nat.le_refl _) _).alloc (by simp only [World.size_alloc]; omega) _) _))) (HY.out.d2.kp (Ev.kp_below (below_drewN (((Below.refl _ _).alloc (Nat.le_refl _) _).alloc (by simp only [World.size_alloc]; omega) _) _)))).mono ?_
  rintro e W2 ⟨rfl, n2, rfl⟩
  rw [H2.out]
  cases b2
  · go_wp2_with fail
    go_ret
    exact ⟨rfl, below_drewN (((Below.refl _ _).alloc (Nat.le_refl _) _).alloc (by simp only [World.size_alloc]; omega) _) _⟩
  go_wp2_with fail
  refine (equal_any x.d3 y.d3 _ (HX.out.d3.kp (Ev.kp_below (below_drewN (((Below.refl _ _).alloc (Nat.le_refl _) _).alloc (by simp only [World.size_alloc]; omega) _) _))) (HY.out.d3.kp (Ev.kp_below (below_drewN (((Below.refl _ _).alloc (Nat.le_refl _) _).alloc (by simp only [World.size_alloc]; omega) _) _)))).mono ?_
  rintro e W3 ⟨rfl, n3, rfl⟩
  rw [H3.out]
  go_wp2_with fail
  go_ret
  exact ⟨rfl, below_drewN (((Below.refl _ _).alloc (Nat.le_refl _) _).alloc (by simp only [World.size_alloc]; omega) _) _⟩
end Go.Proofs.Ytnlfdepeimjliaa
