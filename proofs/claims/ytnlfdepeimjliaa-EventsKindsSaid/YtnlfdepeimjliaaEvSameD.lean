/-
  Two events that differ in a part are not the same.
-/
import Derived.Test.YtnlfdepeimjliaaEvSame
namespace Go.Proofs.Ytnlfdepeimjliaa
open Go.RowKit
set_option linter.unusedVariables false
set_option linter.unusedSimpArgs false
set_option maxRecDepth 100000 in
set_option maxHeartbeats 8000000 in
theorem sameno_p (x y : Ev.R) (w : World) (eh : x.h = y.h) (ek : x.k = y.k) (ea : x.a = y.a) (ev : x.v = y.v) (er : x.r = y.r) (eq : x.q = y.q) (el : x.l = y.l) (ez : x.z = y.z) (t : ¬ x.p = y.p) : Calls Try.prog 48 #[Ev.evV x, Ev.evV y] w fun e w' => e = .returned (.bool (Ev.sameR x y)) ∧ Below w.heap.size w w' := by
  have e : Ev.sameR x y = false := by unfold Ev.sameR; simp [t]
  have bh : (x.h == y.h) = true := by simpa using eh
  have bk : (x.k == y.k) = true := by simpa using ek
  have ba : (x.a == y.a) = true := by simpa using ea
  have bv : (x.v == y.v) = true := by simpa using ev
  have br : (x.r == y.r) = true := by simpa using er
  have bq : (x.q == y.q) = true := by simpa using eq
  have bl : (x.l == y.l) = true := by simpa using el
  have bz : (x.z == y.z) = true := by simpa using ez
  have bp : (x.p == y.p) = false := by simpa using t
  rw [e]; clear e t eh ek ea ev er eq el ez
  unfold Ev.evV Ev.cells
  go_enter Try.func48, Try.ntmps48
  go_wp2
  go_ret
  exact ⟨rfl, ((Below.refl _ _).alloc (Nat.le_refl _) _).alloc (by simp only [World.size_alloc]; omega) _⟩
set_option maxRecDepth 100000 in
set_option maxHeartbeats 8000000 in
theorem sameno_s (x y : Ev.R) (w : World) (eh : x.h = y.h) (ek : x.k = y.k) (ea : x.a = y.a) (ev : x.v = y.v) (er : x.r = y.r) (eq : x.q = y.q) (el : x.l = y.l) (ez : x.z = y.z) (ep : x.p = y.p) (t : ¬ x.s = y.s) : Calls Try.prog 48 #[Ev.evV x, Ev.evV y] w fun e w' => e = .returned (.bool (Ev.sameR x y)) ∧ Below w.heap.size w w' := by
  have e : Ev.sameR x y = false := by unfold Ev.sameR; simp [t]
  have bh : (x.h == y.h) = true := by simpa using eh
  have bk : (x.k == y.k) = true := by simpa using ek
  have ba : (x.a == y.a) = true := by simpa using ea
  have bv : (x.v == y.v) = true := by simpa using ev
  have br : (x.r == y.r) = true := by simpa using er
  have bq : (x.q == y.q) = true := by simpa using eq
  have bl : (x.l == y.l) = true := by simpa using el
  have bz : (x.z == y.z) = true := by simpa using ez
  have bp : (x.p == y.p) = true := by simpa using ep
  have bs : (x.s == y.s) = false := by simpa using t
  rw [e]; clear e t eh ek ea ev er eq el ez ep
  unfold Ev.evV Ev.cells
  go_enter Try.func48, Try.ntmps48
  go_wp2
  go_ret
  exact ⟨rfl, ((Below.refl _ _).alloc (Nat.le_refl _) _).alloc (by simp only [World.size_alloc]; omega) _⟩
end Go.Proofs.Ytnlfdepeimjliaa
