/-
  Two events that differ in a part are not the same.
-/
import Derived.Test.YtnlfdepeimjliaaEvSame
namespace Go.Proofs.Ytnlfdepeimjliaa
open Go.RowKit
set_option linter.unusedVariables false
set_option linter.unusedSimpArgs false
set_option maxRecDepth 100000 in
set_option maxHeartbeats 8000000 in
theorem sameno_q (x y : Ev.R) (w : World) (eh : x.h = y.h) (ek : x.k = y.k) (ea : x.a = y.a) (ev : x.v = y.v) (er : x.r = y.r) (t : ¬ x.q = y.q) : Calls Try.prog 48 #[Ev.evV x, Ev.evV y] w fun e w' => e = .returned (.bool (Ev.sameR x y)) ∧ Below w.heap.size w w' := by
  have e : Ev.sameR x y = false := by unfold Ev.sameR; simp [t]
  have bh : (x.h == y.h) = true := by simpa using eh
  have bk : (x.k == y.k) = true := by simpa using ek
  have ba : (x.a == y.a) = true := by simpa using ea
  have bv : (x.v == y.v) = true := by simpa using ev
  have br : (x.r == y.r) = true := by simpa using er
  have bq : (x.q == y.q) = false := by simpa using t
  rw [e]; clear e t eh ek ea ev er
  unfold Ev.evV Ev.cells
  go_enter Try.func48, Try.ntmps48
  go_wp2
  go_ret
  exact ⟨rfl, ((Below.refl _ _).alloc (Nat.le_refl _) _).alloc (by simp only [World.size_alloc]; omega) _⟩
set_option maxRecDepth 100000 in
set_option maxHeartbeats 8000000 in
theorem sameno_l (x y : Ev.R) (w : World) (eh : x.h = y.h) (ek : x.k = y.k) (ea : x.a = y.a) (ev : x.v = y.v) (er : x.r = y.r) (eq : x.q = y.q) (t : ¬ x.l = y.l) : Calls Try.prog 48 #[Ev.evV x, Ev.evV y] w fun e w' => e = .returned (.bool (Ev.sameR x y)) ∧ Below w.heap.size w w' := by
  have e : Ev.sameR x y = false := by unfold Ev.sameR; simp [t]
  have bh : (x.h == y.h) = true := by simpa using eh
  have bk : (x.k == y.k) = true := by simpa using ek
  have ba : (x.a == y.a) = true := by simpa using ea
  have bv : (x.v == y.v) = true := by simpa using ev
  have br : (x.r == y.r) = true := by simpa using er
  have bq : (x.q == y.q) = true := by simpa using eq
  have bl : (x.l == y.l) = false := by simpa using t
  rw [e]; clear e t eh ek ea ev er eq
  unfold Ev.evV Ev.cells
  go_enter Try.func48, Try.ntmps48
  go_wp2
  go_ret
  exact ⟨rfl, ((Below.refl _ _).alloc (Nat.le_refl _) _).alloc (by simp only [World.size_alloc]; omega) _⟩
set_option maxRecDepth 100000 in
set_option maxHeartbeats 8000000 in
theorem sameno_z (x y : Ev.R) (w : World) (eh : x.h = y.h) (ek : x.k = y.k) (ea : x.a = y.a) (ev : x.v = y.v) (er : x.r = y.r) (eq : x.q = y.q) (el : x.l = y.l) (t : ¬ x.z = y.z) : Calls Try.prog 48 #[Ev.evV x, Ev.evV y] w fun e w' => e = .returned (.bool (Ev.sameR x y)) ∧ Below w.heap.size w w' := by
  have e : Ev.sameR x y = false := by unfold Ev.sameR; simp [t]
  have bh : (x.h == y.h) = true := by simpa using eh
  have bk : (x.k == y.k) = true := by simpa using ek
  have ba : (x.a == y.a) = true := by simpa using ea
  have bv : (x.v == y.v) = true := by simpa using ev
  have br : (x.r == y.r) = true := by simpa using er
  have bq : (x.q == y.q) = true := by simpa using eq
  have bl : (x.l == y.l) = true := by simpa using el
  have bz : (x.z == y.z) = false := by simpa using t
  rw [e]; clear e t eh ek ea ev er eq el
  unfold Ev.evV Ev.cells
  go_enter Try.func48, Try.ntmps48
  go_wp2
  go_ret
  exact ⟨rfl, ((Below.refl _ _).alloc (Nat.le_refl _) _).alloc (by simp only [World.size_alloc]; omega) _⟩
end Go.Proofs.Ytnlfdepeimjliaa
