/-
  Two events that differ in a part are not the same.
-/
import Derived.Test.YtnlfdepeimjliaaEvSame
namespace Go.Proofs.Ytnlfdepeimjliaa
open Go.RowKit
set_option linter.unusedVariables false
set_option linter.unusedSimpArgs false
set_option maxRecDepth 100000 in
set_option maxHeartbeats 8000000 in
theorem sameno_h (x y : Ev.R) (w : World)  (t : ¬ x.h = y.h) : Calls Try.prog 48 #[Ev.evV x, Ev.evV y] w fun e w' => e = .returned (.bool (Ev.sameR x y)) ∧ Below w.heap.size w w' := by
  have e : Ev.sameR x y = false := by unfold Ev.sameR; simp [t]

  have bh : (x.h == y.h) = false := by simpa using t
  rw [e]; clear e t 
  unfold Ev.evV Ev.cells
  go_enter Try.func48, Try.ntmps48
  go_wp2
  go_ret
  exact ⟨rfl, ((Below.refl _ _).alloc (Nat.le_refl _) _).alloc (by simp only [World.size_alloc]; omega) _⟩
set_option maxRecDepth 100000 in
set_option maxHeartbeats 8000000 in
theorem sameno_k (x y : Ev.R) (w : World) (eh : x.h = y.h) (t : ¬ x.k = y.k) : Calls Try.prog 48 #[Ev.evV x, Ev.evV y] w fun e w' => e = .returned (.bool (Ev.sameR x y)) ∧ Below w.heap.size w w' := by
  have e : Ev.sameR x y = false := by unfold Ev.sameR; simp [t]
  have bh : (x.h == y.h) = true := by simpa using eh
  have bk : (x.k == y.k) = false := by simpa using t
  rw [e]; clear e t eh
  unfold Ev.evV Ev.cells
  go_enter Try.func48, Try.ntmps48
  go_wp2
  go_ret
  exact ⟨rfl, ((Below.refl _ _).alloc (Nat.le_refl _) _).alloc (by simp only [World.size_alloc]; omega) _⟩
set_option maxRecDepth 100000 in
set_option maxHeartbeats 8000000 in
theorem sameno_a (x y : Ev.R) (w : World) (eh : x.h = y.h) (ek : x.k = y.k) (t : ¬ x.a = y.a) : Calls Try.prog 48 #[Ev.evV x, Ev.evV y] w fun e w' => e = .returned (.bool (Ev.sameR x y)) ∧ Below w.heap.size w w' := by
  have e : Ev.sameR x y = false := by unfold Ev.sameR; simp [t]
  have bh : (x.h == y.h) = true := by simpa using eh
  have bk : (x.k == y.k) = true := by simpa using ek
  have ba : (x.a == y.a) = false := by simpa using t
  rw [e]; clear e t eh ek
  unfold Ev.evV Ev.cells
  go_enter Try.func48, Try.ntmps48
  go_wp2
  go_ret
  exact ⟨rfl, ((Below.refl _ _).alloc (Nat.le_refl _) _).alloc (by simp only [World.size_alloc]; omega) _⟩
end Go.Proofs.Ytnlfdepeimjliaa
