/-
  The contract of partsMayBe.
-/
import Derived.Test.YtoicmhidmknfiaaEvParts
namespace Go.Proofs.Ytoicmhidmknfiaa
open Go.RowKit
set_option linter.unusedVariables false
set_option linter.unusedSimpArgs false
namespace Ev
/-- has it a part that its kind does not name? -/
def extra (x : R) : Bool := bits .andNot .i64 ((filled x : Nat) : Int) (parts x.k) != 0
def partsOk (x : R) : Bool := parts x.k != 0 && !(extra x) && hartOk x && x.a % 4 == 0 && inB x.p 4 && inB x.s 4
end Ev
set_option maxRecDepth 100000 in
set_option maxHeartbeats 4000000 in
theorem partsOk_any (x : Ev.R) (w : World) (ha : Ev.u32B x.a) : Calls Try.prog 59 #[Ev.evV x] w fun e w' => e = .returned (.bool (Ev.partsOk x)) ∧ Below w.heap.size w w' := by
  have R0 := Lib.hid (heap_alloc_new w (.cells (Ev.cells x).toArray 54))
  have B0 := Lib.hid ((Below.refl w.heap.size w).alloc (Nat.le_refl _) (.cells (Ev.cells x).toArray 54))
  have hm : x.a.tmod 4 = x.a % 4 := Int.tmod_eq_emod_of_nonneg ha.1
  have HU := Lib.hid ha; clear ha
  by_cases h0 : (Ev.parts x.k == 0) = true
  · have e : Ev.partsOk x = false := by unfold Ev.partsOk; simp at h0; simp [h0]
    rw [e]; clear e
    unfold Ev.evV Ev.cells
    go_enter Try.func59, Try.ntmps59
    go_wp2_with fail
    refine (parts_any _ _).mono ?_
    rintro e w' ⟨rfl, rfl⟩
    go_wp2_with fail
    go_ret
    exact ⟨rfl, B0.out⟩
  have h0 : (Ev.parts x.k == 0) = false := by simpa using h0
  have n0 : (Ev.parts x.k != 0) = true := by simpa using h0
  by_cases h1 : Ev.extra x = true
  · have e : Ev.partsOk x = false := by unfold Ev.partsOk; simp [h1]
    have h1' : (bits .andNot .i64 ((Ev.filled x : Nat) : Int) (Ev.parts x.k) != 0) = true := h1
    rw [e]; clear e h1 n0
    unfold Ev.evV Ev.cells
    go_enter Try.func59, Try.ntmps59
    go_wp2_with fail
    refine (parts_any _ _).mono ?_
    rintro e w' ⟨rfl, rfl⟩
    go_wp2_with (show wpList _ _ _ (Oper.mk (some 10) _ _ _ _ _ :: _) _ _; refine wpList_load_row rfl 54 (.tmp 1) rfl w.heap.size rfl 54 (Ev.cells x).toArray (0, 0) _ R0.out Try.underlying54 rfl (by kernel_rfl) ?_)
    refine (filled_any x _).mono ?_
    rintro e w2 ⟨rfl, hlt, hb⟩
    have HB := Lib.hid (B0.out.trans (hb.mono (by simp only [World.size_alloc]; omega))); clear hb
    go_wp2_with fail
    go_ret
    exact ⟨rfl, HB.out⟩
  have h1 : Ev.extra x = false := by simpa using h1
  have h1' : (bits .andNot .i64 ((Ev.filled x : Nat) : Int) (Ev.parts x.k) != 0) = false := h1
  have eq : Ev.partsOk x = (Ev.hartOk x && x.a % 4 == 0 && Ev.inB x.p 4 && Ev.inB x.s 4) := by unfold Ev.partsOk; rw [h1, n0]; simp
  rw [eq]; clear eq n0 h1
  obtain ⟨b1, hb1⟩ : ∃ b, b = Ev.hartOk x := ⟨_, rfl⟩
  obtain ⟨b3, hb3⟩ : ∃ b, b = Ev.inB x.p 4 := ⟨_, rfl⟩
  obtain ⟨b4, hb4⟩ : ∃ b, b = Ev.inB x.s 4 := ⟨_, rfl⟩
  rw [← hb1, ← hb3, ← hb4]
  have HB1 := Lib.hid hb1; have HB3 := Lib.hid hb3; have HB4 := Lib.hid hb4; clear hb1 hb3 hb4
  have main : ∀ b2 : Bool, (x.a % 4 == 0) = b2 → Calls Try.prog 59 #[Ev.evV x] w fun e w' => e = .returned (.bool (b1 && b2 && b3 && b4)) ∧ Below w.heap.size w w' := by
    intro b2 h2
    have h2t : (x.a.tmod 4 == 0) = b2 := by rw [hm]; exact h2
    unfold Ev.evV Ev.cells
    clear hm
    cases b1 <;> cases b2 <;> cases b3 <;> cases b4
    all_goals
      go_enter Try.func59, Try.ntmps59
      go_wp2_with fail
      refine (parts_any _ _).mono ?_
      rintro e w' ⟨rfl, rfl⟩
      go_wp2_with (show wpList _ _ _ (Oper.mk (some 10) _ _ _ _ _ :: _) _ _; refine wpList_load_row rfl 54 (.tmp 1) rfl w.heap.size rfl 54 (Ev.cells x).toArray (0, 0) _ R0.out Try.underlying54 rfl (by kernel_rfl) ?_)
      refine (filled_any x _).mono ?_
      rintro e w2 ⟨rfl, hlt, hb⟩
      have R2 := Lib.hid ((hb.block w.heap.size (by simp only [World.size_alloc]; omega)).trans R0.out)
      have HB := Lib.hid (B0.out.trans (hb.mono (by simp only [World.size_alloc]; omega))); clear hb
      go_wp2_with (show wpList _ _ _ (Oper.mk (some 16) _ _ _ _ _ :: _) _ _; refine wpList_load_row rfl 54 (.tmp 1) rfl w.heap.size rfl 54 (Ev.cells x).toArray (0, 0) _ R2.out Try.underlying54 rfl (by kernel_rfl) ?_)
      refine (hart_any x _).mono ?_
      rintro e w3 ⟨rfl, hb⟩
      have R3 := (hb.block w.heap.size (Array.getElem?_eq_some_iff.1 R2.out).1).trans R2.out
      have c2 : w3.cell? ⟨w.heap.size, 2, none⟩ = some (.int .u32 x.a) := by rw [cell_of_row _ _ _ _ _ _ R3]; rfl
      have c7 : w3.cell? ⟨w.heap.size, 7, none⟩ = some (.int .i64 x.p) := by rw [cell_of_row _ _ _ _ _ _ R3]; rfl
      have c8 : w3.cell? ⟨w.heap.size, 8, none⟩ = some (.int .i64 x.s) := by rw [cell_of_row _ _ _ _ _ _ R3]; rfl
      have HBB := Lib.hid (HB.out.trans (hb.mono HB.out.size)); clear hb R3
      rw [← HB1.out]
      go_wp2_with (first
        | (go_at_call 57; refine (inB_any _ _ _).mono ?_; rintro e w' ⟨rfl, rfl⟩; (first | rw [← HB3.out] | rw [← HB4.out])))
      go_ret
      exact ⟨by first | rfl | simp, HBB.out⟩
  exact main _ rfl
end Go.Proofs.Ytoicmhidmknfiaa
