/-
  The document's own answer: an instruction that may be, form by form.
-/
import Derived.Test.YtianojbdabeoeaaDoorIsPure
import Derived.Test.YtianojbdabeoeaaDoorIsForm
import Derived.BigGuardPart
namespace Go.Proofs.YtianojbdabeoeaaDoor
open Go.RowKit
set_option linter.unusedVariables false
set_option linter.unusedSimpArgs false

set_option maxRecDepth 100000 in
set_option maxHeartbeats 20000000 in
theorem rmayT10 (op : Nat) (h : 1 ≤ op ∧ op ≤ 59) (hk : Is.fm op = 10) (rd rs1 rs2 imm : Int) (aq rl : Bool) (hi : Is.Wd 0)   (w : World) :
    Calls Tryd.prog 6 #[inst op 0 0 0 0 false false] w fun e w' => e = .returned (.bool true) ∧ Below w.heap.size w w' := by
  have HF := Lib.hid (show Is.fb (Is.fm op) = 101 by rw [hk]; rfl)
  have HI := Lib.hid hi
  unfold Is.Wd at hi
  clear hk
  unfold inst
  go_enter Tryd.func6, Tryd.ntmps6
  go_wp2_with (first
    | (go_at_call 13; refine (rform_yes op h _).mono ?_; rw [HF.out]; rintro e w' ⟨rfl, rfl⟩)
    | (go_at_call 14; refine (rsigned_any 0 HI.out _).mono ?_; rintro e w' ⟨rfl, rfl⟩))
  all_goals go_ret
  all_goals exact ⟨rfl, (Below.refl _ _).alloc (Nat.le_refl _) _⟩

set_option maxRecDepth 100000 in
set_option maxHeartbeats 20000000 in
theorem rmayT11 (op : Nat) (h : 1 ≤ op ∧ op ≤ 59) (hk : Is.fm op = 11) (rd rs1 rs2 imm : Int) (aq rl : Bool) (hi : Is.Wd 0) (brd : 0 ≤ rd ∧ rd ≤ 31) (brs1 : 0 ≤ rs1 ∧ rs1 ≤ 31) (brs2 : 0 ≤ rs2 ∧ rs2 ≤ 31)  (w : World) :
    Calls Tryd.prog 6 #[inst op rd rs1 rs2 0 aq rl] w fun e w' => e = .returned (.bool true) ∧ Below w.heap.size w w' := by
  have HF := Lib.hid (show Is.fb (Is.fm op) = 97 by rw [hk]; rfl)
  have HI := Lib.hid hi
  unfold Is.Wd at hi
  clear hk
  unfold inst
  go_enter Tryd.func6, Tryd.ntmps6
  go_wp2_with (first
    | (go_at_call 13; refine (rform_yes op h _).mono ?_; rw [HF.out]; rintro e w' ⟨rfl, rfl⟩)
    | (go_at_call 14; refine (rsigned_any 0 HI.out _).mono ?_; rintro e w' ⟨rfl, rfl⟩))
  all_goals go_ret
  all_goals exact ⟨rfl, (Below.refl _ _).alloc (Nat.le_refl _) _⟩

set_option maxRecDepth 100000 in
set_option maxHeartbeats 20000000 in
theorem rmayT12 (op : Nat) (h : 1 ≤ op ∧ op ≤ 59) (hk : Is.fm op = 12) (rd rs1 rs2 imm : Int) (aq rl : Bool) (hi : Is.Wd 0) (brd : 0 ≤ rd ∧ rd ≤ 31) (brs1 : 0 ≤ rs1 ∧ rs1 ≤ 31)  (w : World) :
    Calls Tryd.prog 6 #[inst op rd rs1 0 0 aq rl] w fun e w' => e = .returned (.bool true) ∧ Below w.heap.size w w' := by
  have HF := Lib.hid (show Is.fb (Is.fm op) = 113 by rw [hk]; rfl)
  have HI := Lib.hid hi
  unfold Is.Wd at hi
  clear hk
  unfold inst
  go_enter Tryd.func6, Tryd.ntmps6
  go_wp2_with (first
    | (go_at_call 13; refine (rform_yes op h _).mono ?_; rw [HF.out]; rintro e w' ⟨rfl, rfl⟩)
    | (go_at_call 14; refine (rsigned_any 0 HI.out _).mono ?_; rintro e w' ⟨rfl, rfl⟩))
  all_goals go_ret
  all_goals exact ⟨rfl, (Below.refl _ _).alloc (Nat.le_refl _) _⟩

set_option maxRecDepth 100000 in
set_option maxHeartbeats 20000000 in
theorem rmayT13 (op : Nat) (h : 1 ≤ op ∧ op ≤ 59) (hk : Is.fm op = 13) (rd rs1 rs2 imm : Int) (aq rl : Bool) (hi : Is.Wd 0) (brd : 0 ≤ rd ∧ rd ≤ 31)  (w : World) :
    Calls Tryd.prog 6 #[inst op rd 0 0 0 false false] w fun e w' => e = .returned (.bool true) ∧ Below w.heap.size w w' := by
  have HF := Lib.hid (show Is.fb (Is.fm op) = 99 by rw [hk]; rfl)
  have HI := Lib.hid hi
  unfold Is.Wd at hi
  clear hk
  unfold inst
  go_enter Tryd.func6, Tryd.ntmps6
  go_wp2_with (first
    | (go_at_call 13; refine (rform_yes op h _).mono ?_; rw [HF.out]; rintro e w' ⟨rfl, rfl⟩)
    | (go_at_call 14; refine (rsigned_any 0 HI.out _).mono ?_; rintro e w' ⟨rfl, rfl⟩))
  all_goals go_ret
  all_goals exact ⟨rfl, (Below.refl _ _).alloc (Nat.le_refl _) _⟩
end Go.Proofs.YtianojbdabeoeaaDoor
