/-
  The contracts of the program's smallest functions of layer 6: Stores, Loads, isNumber, bondIf, partsOf, hartMayBe, mayFollow.
-/
import Derived.Test.YtoicmhidmknfiaaEvMem
namespace Go.Proofs.Ytoicmhidmknfiaa
open Go.RowKit
set_option linter.unusedVariables false
set_option linter.unusedSimpArgs false
set_option maxHeartbeats 1000000
theorem stores_any (x : Ev.R) (w : World) : Calls Try.prog 65 #[Ev.evV x] w fun e w' => e = .returned (.bool (Ev.stores x.k)) ∧ Below w.heap.size w w' := by
  unfold Ev.evV Ev.cells
  by_cases h2 : x.k = 2
  · have e : Ev.stores x.k = true := by rw [h2]; rfl
    have t2 : (x.k == 2) = true := by simp [h2]
    rw [e]; clear e h2
    go_enter Try.func65, Try.ntmps65
    go_wp2
    go_ret
    exact ⟨rfl, (Below.refl _ _).alloc (Nat.le_refl _) _⟩
  have n2 : (x.k == 2) = false := by simpa using h2
  by_cases h3 : x.k = 3
  · have e : Ev.stores x.k = true := by rw [h3]; rfl
    have t2 : (x.k == 3) = true := by simp [h3]
    rw [e]; clear e h2 h3
    go_enter Try.func65, Try.ntmps65
    go_wp2
    go_ret
    exact ⟨rfl, (Below.refl _ _).alloc (Nat.le_refl _) _⟩
  have n3 : (x.k == 3) = false := by simpa using h3
  by_cases h5 : x.k = 5
  · have e : Ev.stores x.k = true := by rw [h5]; rfl
    have t2 : (x.k == 5) = true := by simp [h5]
    rw [e]; clear e h2 h3 h5
    go_enter Try.func65, Try.ntmps65
    go_wp2
    go_ret
    exact ⟨rfl, (Below.refl _ _).alloc (Nat.le_refl _) _⟩
  have n5 : (x.k == 5) = false := by simpa using h5
  have e : Ev.stores x.k = false := by unfold Ev.stores; simp [n2, n3, n5]
  rw [e]; clear e h2 h3 h5
  go_enter Try.func65, Try.ntmps65
  go_wp2
  go_ret
  exact ⟨rfl, (Below.refl _ _).alloc (Nat.le_refl _) _⟩
theorem loads_any (x : Ev.R) (w : World) : Calls Try.prog 63 #[Ev.evV x] w fun e w' => e = .returned (.bool (Ev.loads x.k)) ∧ Below w.heap.size w w' := by
  unfold Ev.evV Ev.cells
  by_cases h2 : x.k = 1
  · have e : Ev.loads x.k = true := by rw [h2]; rfl
    have t2 : (x.k == 1) = true := by simp [h2]
    rw [e]; clear e h2
    go_enter Try.func63, Try.ntmps63
    go_wp2
    go_ret
    exact ⟨rfl, (Below.refl _ _).alloc (Nat.le_refl _) _⟩
  have n2 : (x.k == 1) = false := by simpa using h2
  by_cases h3 : x.k = 3
  · have e : Ev.loads x.k = true := by rw [h3]; rfl
    have t2 : (x.k == 3) = true := by simp [h3]
    rw [e]; clear e h2 h3
    go_enter Try.func63, Try.ntmps63
    go_wp2
    go_ret
    exact ⟨rfl, (Below.refl _ _).alloc (Nat.le_refl _) _⟩
  have n3 : (x.k == 3) = false := by simpa using h3
  have e : Ev.loads x.k = false := by unfold Ev.loads; simp [n2, n3]
  rw [e]; clear e h2 h3
  go_enter Try.func63, Try.ntmps63
  go_wp2
  go_ret
  exact ⟨rfl, (Below.refl _ _).alloc (Nat.le_refl _) _⟩
theorem inB_any (n m : Int) (w : World) : Calls Try.prog 57 #[.int .i64 n, .int .i64 m] w fun e w' => e = .returned (.bool (Ev.inB n m)) ∧ w = w' := by
  by_cases h : 0 ≤ n
  · have e : Ev.inB n m = decide (n < m) := by unfold Ev.inB; simp [h]
    rw [e]; clear e
    go_enter Try.func57, Try.ntmps57
    go_wp2
    go_ret
    exact ⟨by first | rfl | simp, rfl⟩
  · have e : Ev.inB n m = false := by unfold Ev.inB; simp [h]
    rw [e]; clear e
    go_enter Try.func57, Try.ntmps57
    go_wp2
    go_ret
    exact ⟨rfl, rfl⟩
theorem bond_any (b : Bool) (w : World) : Calls Try.prog 73 #[.bool b] w fun e w' => e = .returned (.int .i64 (if b then 1 else 0)) ∧ w = w' := by
  cases b
  · go_enter Try.func73, Try.ntmps73
    go_wp2
    go_ret
    exact ⟨rfl, rfl⟩
  · go_enter Try.func73, Try.ntmps73
    go_wp2
    go_ret
    exact ⟨rfl, rfl⟩
theorem parts_any (k : Int) (w : World) : Calls Try.prog 76 #[.int .i64 k] w fun e w' => e = .returned (.int .i64 (Ev.parts k)) ∧ w = w' := by
  by_cases h1 : k = 1
  · subst h1; go_enter Try.func76, Try.ntmps76; go_wp2; go_ret; exact ⟨rfl, rfl⟩
  by_cases h2 : k = 2
  · subst h2; go_enter Try.func76, Try.ntmps76; go_wp2; go_ret; exact ⟨rfl, rfl⟩
  by_cases h3 : k = 3
  · subst h3; go_enter Try.func76, Try.ntmps76; go_wp2; go_ret; exact ⟨rfl, rfl⟩
  by_cases h4 : k = 4
  · subst h4; go_enter Try.func76, Try.ntmps76; go_wp2; go_ret; exact ⟨rfl, rfl⟩
  by_cases h5 : k = 5
  · subst h5; go_enter Try.func76, Try.ntmps76; go_wp2; go_ret; exact ⟨rfl, rfl⟩
  have e : Ev.parts k = 0 := by unfold Ev.parts; simp [h1, h2, h3, h4, h5]
  rw [e]
  have n1 : (k == 1) = false := by simpa using h1
  have n2 : (k == 2) = false := by simpa using h2
  have n3 : (k == 3) = false := by simpa using h3
  have n4 : (k == 4) = false := by simpa using h4
  have n5 : (k == 5) = false := by simpa using h5
  clear h1 h2 h3 h4 h5 e
  go_enter Try.func76, Try.ntmps76
  go_wp2
  go_ret
  exact ⟨rfl, rfl⟩
namespace Ev
def hartOk (x : R) : Bool := if x.k = 5 then x.h == -1 else inB x.h 4
def follow (x y : R) : Bool := if y.k = 5 ∧ x.k = 5 then decide (x.a < y.a) else decide (x.h ≤ y.h)
end Ev
theorem hart_any (x : Ev.R) (w : World) : Calls Try.prog 78 #[Ev.evV x] w fun e w' => e = .returned (.bool (Ev.hartOk x)) ∧ Below w.heap.size w w' := by
  unfold Ev.evV Ev.cells
  by_cases h5 : x.k = 5
  · have e : Ev.hartOk x = (x.h == -1) := by unfold Ev.hartOk; rw [if_pos h5]
    have t2 : (x.k == 5) = true := by simp [h5]
    rw [e]; clear e h5
    go_enter Try.func78, Try.ntmps78
    go_wp2
    go_ret
    exact ⟨rfl, (Below.refl _ _).alloc (Nat.le_refl _) _⟩
  · have e : Ev.hartOk x = Ev.inB x.h 4 := by unfold Ev.hartOk; rw [if_neg h5]
    have t2 : (x.k == 5) = false := by simpa using h5
    rw [e]; clear e h5
    go_enter Try.func78, Try.ntmps78
    go_wp2_with (go_at_call 57; refine (inB_any _ _ _).mono ?_; rintro e w' ⟨rfl, rfl⟩)
    go_ret
    exact ⟨rfl, (Below.refl _ _).alloc (Nat.le_refl _) _⟩
theorem follow_any (x y : Ev.R) (w : World) : Calls Try.prog 61 #[Ev.evV x, Ev.evV y] w fun e w' => e = .returned (.bool (Ev.follow x y)) ∧ Below w.heap.size w w' := by
  unfold Ev.evV Ev.cells
  have two : ∀ A B : Obj, Below w.heap.size w ((w.alloc A).alloc B) := fun A B => ((Below.refl _ _).alloc (Nat.le_refl _) _).alloc (by simp only [World.size_alloc]; omega) _
  by_cases h5 : y.k = 5
  · have t2 : (y.k == 5) = true := by simp [h5]
    by_cases h6 : x.k = 5
    · have t3 : (x.k == 5) = true := by simp [h6]
      have e : Ev.follow x y = decide (x.a < y.a) := by unfold Ev.follow; rw [if_pos ⟨h5, h6⟩]
      rw [e]; clear e h5 h6
      go_enter Try.func61, Try.ntmps61
      go_wp2
      go_ret
      exact ⟨rfl, two _ _⟩
    · have t3 : (x.k == 5) = false := by simpa using h6
      have e : Ev.follow x y = decide (x.h ≤ y.h) := by unfold Ev.follow; rw [if_neg (fun h => h6 h.2)]
      rw [e]; clear e h5 h6
      go_enter Try.func61, Try.ntmps61
      go_wp2
      go_ret
      exact ⟨rfl, two _ _⟩
  · have t2 : (y.k == 5) = false := by simpa using h5
    have e : Ev.follow x y = decide (x.h ≤ y.h) := by unfold Ev.follow; rw [if_neg (fun h => h5 h.1)]
    rw [e]; clear e h5
    go_enter Try.func61, Try.ntmps61
    go_wp2
    go_ret
    exact ⟨rfl, two _ _⟩
end Go.Proofs.Ytoicmhidmknfiaa
