/-
  What the document says of events' kinds; when two events are the same.
-/
import Derived.Test.YtoicmhidmknfiaaEvEqB
import Derived.Test.YtoicmhidmknfiaaEvLow
import Derived.BigGuardPart
namespace Go.Proofs.Ytoicmhidmknfiaa
open Go.RowKit
set_option linter.unusedVariables false
set_option linter.unusedSimpArgs false
set_option maxHeartbeats 1000000
theorem rstores_any (x : Ev.R) (w : World) : Calls Try.prog 41 #[Ev.evV x] w fun e w' => e = .returned (.bool (Ev.stores x.k)) ∧ Below w.heap.size w w' := by
  unfold Ev.evV Ev.cells
  by_cases h2 : x.k = 2
  · have e : Ev.stores x.k = true := by rw [h2]; rfl
    have t2 : (x.k == 2) = true := by simp [h2]
    rw [e]; clear e h2
    go_enter Try.func41, Try.ntmps41
    go_wp2
    go_ret
    exact ⟨rfl, (Below.refl _ _).alloc (Nat.le_refl _) _⟩
  have n2 : (x.k == 2) = false := by simpa using h2
  by_cases h3 : x.k = 3
  · have e : Ev.stores x.k = true := by rw [h3]; rfl
    have t2 : (x.k == 3) = true := by simp [h3]
    rw [e]; clear e h2 h3
    go_enter Try.func41, Try.ntmps41
    go_wp2
    go_ret
    exact ⟨rfl, (Below.refl _ _).alloc (Nat.le_refl _) _⟩
  have n3 : (x.k == 3) = false := by simpa using h3
  by_cases h5 : x.k = 5
  · have e : Ev.stores x.k = true := by rw [h5]; rfl
    have t2 : (x.k == 5) = true := by simp [h5]
    rw [e]; clear e h2 h3 h5
    go_enter Try.func41, Try.ntmps41
    go_wp2
    go_ret
    exact ⟨rfl, (Below.refl _ _).alloc (Nat.le_refl _) _⟩
  have n5 : (x.k == 5) = false := by simpa using h5
  have e : Ev.stores x.k = false := by unfold Ev.stores; simp [n2, n3, n5]
  rw [e]; clear e h2 h3 h5
  go_enter Try.func41, Try.ntmps41
  go_wp2
  go_ret
  exact ⟨rfl, (Below.refl _ _).alloc (Nat.le_refl _) _⟩
theorem rloads_any (x : Ev.R) (w : World) : Calls Try.prog 40 #[Ev.evV x] w fun e w' => e = .returned (.bool (Ev.loads x.k)) ∧ Below w.heap.size w w' := by
  unfold Ev.evV Ev.cells
  by_cases h2 : x.k = 1
  · have e : Ev.loads x.k = true := by rw [h2]; rfl
    have t2 : (x.k == 1) = true := by simp [h2]
    rw [e]; clear e h2
    go_enter Try.func40, Try.ntmps40
    go_wp2
    go_ret
    exact ⟨rfl, (Below.refl _ _).alloc (Nat.le_refl _) _⟩
  have n2 : (x.k == 1) = false := by simpa using h2
  by_cases h3 : x.k = 3
  · have e : Ev.loads x.k = true := by rw [h3]; rfl
    have t2 : (x.k == 3) = true := by simp [h3]
    rw [e]; clear e h2 h3
    go_enter Try.func40, Try.ntmps40
    go_wp2
    go_ret
    exact ⟨rfl, (Below.refl _ _).alloc (Nat.le_refl _) _⟩
  have n3 : (x.k == 3) = false := by simpa using h3
  have e : Ev.loads x.k = false := by unfold Ev.loads; simp [n2, n3]
  rw [e]; clear e h2 h3
  go_enter Try.func40, Try.ntmps40
  go_wp2
  go_ret
  exact ⟨rfl, (Below.refl _ _).alloc (Nat.le_refl _) _⟩
namespace Ev
def sameR (x y : R) : Bool := decide (x.h = y.h) && decide (x.k = y.k) && decide (x.a = y.a) && decide (x.v = y.v) && decide (x.r = y.r) && decide (x.q = y.q) && decide (x.l = y.l) && decide (x.z = y.z) && decide (x.p = y.p) && decide (x.s = y.s) && decide (x.d1.l = y.d1.l) && decide (x.d2.l = y.d2.l) && decide (x.d3.l = y.d3.l)
end Ev
end Go.Proofs.Ytoicmhidmknfiaa
