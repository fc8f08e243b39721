/-
  Whether a hart may be: the program's own answer.
-/
import Derived.Test.YtccacgknmddanaaGreatDoorHtMeans
namespace Go.Proofs.YtccacgknmddanaaGreatDoor
open Go.RowKit Ht
set_option linter.unusedVariables false
namespace Ht
/-- may a hart be? -/
def may (h : H) : Bool := decide (0 ≤ h.id) && decide (h.id < 4) && (h.R 0 == 0) && decide (0 ≤ h.cause) && decide (h.cause ≤ 4)
end Ht
set_option maxRecDepth 100000 in
set_option maxHeartbeats 1000000 in
theorem check_any (h : H) (w : World) :
    Calls Tryz.prog 21 #[hartV h] w fun e w' => e = .returned (.int .i64 (if may h then 0 else 2)) ∧ Below w.heap.size w w' := by
  have key : ∀ (b : Bool), may h = b → Calls Tryz.prog 21 #[hartV h] w fun e w' => e = .returned (.int .i64 (if b then 0 else 2)) ∧ Below w.heap.size w w' := by
    intro b hb
    unfold may at hb
    unfold hartV hcells
    obtain ⟨id, pc, R, cause⟩ := h
    simp only at hb ⊢
    by_cases h1 : id < 0
    · obtain rfl : b = false := by rw [← hb]; simp; omega
      clear hb
      go_enter Tryz.func21, Tryz.ntmps21
      go_wp2
      go_ret
      exact ⟨rfl, (Below.refl _ _).alloc (Nat.le_refl _) _⟩
    by_cases h2 : 4 ≤ id
    · obtain rfl : b = false := by rw [← hb]; simp; omega
      clear hb
      go_enter Tryz.func21, Tryz.ntmps21
      go_wp2
      go_ret
      exact ⟨rfl, (Below.refl _ _).alloc (Nat.le_refl _) _⟩
    generalize R 0 = r0 at hb ⊢
    by_cases h3 : r0 = 0
    · have h3' : (r0 != 0) = false := by simpa using h3
      by_cases h4 : cause < 0
      · obtain rfl : b = false := by rw [← hb]; simp; omega
        clear hb h3
        go_enter Tryz.func21, Tryz.ntmps21
        go_wp2
        go_ret
        exact ⟨rfl, (Below.refl _ _).alloc (Nat.le_refl _) _⟩
      by_cases h5 : 4 < cause
      · obtain rfl : b = false := by rw [← hb]; simp; omega
        clear hb h3
        go_enter Tryz.func21, Tryz.ntmps21
        go_wp2
        go_ret
        exact ⟨rfl, (Below.refl _ _).alloc (Nat.le_refl _) _⟩
      obtain rfl : b = true := by rw [← hb]; simp [h3]; omega
      clear hb h3
      go_enter Tryz.func21, Tryz.ntmps21
      go_wp2
      go_ret
      exact ⟨rfl, (Below.refl _ _).alloc (Nat.le_refl _) _⟩
    · have h3' : (r0 != 0) = true := by simpa using h3
      obtain rfl : b = false := by rw [← hb]; simp [h3]
      clear hb h3
      go_enter Tryz.func21, Tryz.ntmps21
      go_wp2
      go_ret
      exact ⟨rfl, (Below.refl _ _).alloc (Nat.le_refl _) _⟩
  exact key _ rfl
end Go.Proofs.YtccacgknmddanaaGreatDoor
