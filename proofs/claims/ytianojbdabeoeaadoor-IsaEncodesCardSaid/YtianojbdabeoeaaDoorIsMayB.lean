/-
  The document's own answer: an instruction that may be, form by form.
-/
import Derived.Test.YtianojbdabeoeaaDoorIsPure
import Derived.Test.YtianojbdabeoeaaDoorIsForm
import Derived.BigGuardPart
namespace Go.Proofs.YtianojbdabeoeaaDoor
open Go.RowKit
set_option linter.unusedVariables false
set_option linter.unusedSimpArgs false

set_option maxRecDepth 100000 in
set_option maxHeartbeats 20000000 in
theorem rmayT5 (op : Nat) (h : 1 ≤ op ∧ op ≤ 59) (hk : Is.fm op = 5) (rd rs1 rs2 imm : Int) (aq rl : Bool) (hi : Is.Wd imm) (brd : 0 ≤ rd ∧ rd ≤ 31) (brs1 : 0 ≤ rs1 ∧ rs1 ≤ 31) (hm : imm ≤ 31) (w : World) :
    Calls Tryd.prog 6 #[inst op rd rs1 0 imm false false] w fun e w' => e = .returned (.bool true) ∧ Below w.heap.size w w' := by
  have HF := Lib.hid (show Is.fb (Is.fm op) = 104 by rw [hk]; rfl)
  have HI := Lib.hid hi
  unfold Is.Wd at hi
  clear hk
  have t1 : 0 ≤ Is.sg imm ∧ Is.sg imm ≤ 31 := by unfold Is.sg; split <;> omega
  clear hm
  unfold inst
  go_enter Tryd.func6, Tryd.ntmps6
  go_wp2_with (first
    | (go_at_call 13; refine (rform_yes op h _).mono ?_; rw [HF.out]; rintro e w' ⟨rfl, rfl⟩)
    | (go_at_call 14; refine (rsigned_any imm HI.out _).mono ?_; rintro e w' ⟨rfl, rfl⟩))
  go_ret
  exact ⟨rfl, (Below.refl _ _).alloc (Nat.le_refl _) _⟩

set_option maxRecDepth 100000 in
set_option maxHeartbeats 20000000 in
theorem rmayT6 (op : Nat) (h : 1 ≤ op ∧ op ≤ 59) (hk : Is.fm op = 6) (rd rs1 rs2 imm : Int) (aq rl : Bool) (hi : Is.Wd imm) (brs1 : 0 ≤ rs1 ∧ rs1 ≤ 31) (brs2 : 0 ≤ rs2 ∧ rs2 ≤ 31) (hm : imm % 2 = 0 ∧ (imm ≤ 4094 ∨ 4294963200 ≤ imm)) (w : World) :
    Calls Tryd.prog 6 #[inst op 0 rs1 rs2 imm false false] w fun e w' => e = .returned (.bool true) ∧ Below w.heap.size w w' := by
  have HF := Lib.hid (show Is.fb (Is.fm op) = 98 by rw [hk]; rfl)
  have HI := Lib.hid hi
  unfold Is.Wd at hi
  clear hk
  have t1 : -4096 ≤ Is.sg imm ∧ Is.sg imm ≤ 4094 := by unfold Is.sg; split <;> omega
  have t2 : ((Is.sg imm).tmod 2 == 0) = true := by
    have e : (Is.sg imm) % 2 = 0 := by unfold Is.sg; split <;> omega
    rw [Int.tmod_eq_emod]; simp [e]; try omega
  clear hm
  unfold inst
  go_enter Tryd.func6, Tryd.ntmps6
  go_wp2_with (first
    | (go_at_call 13; refine (rform_yes op h _).mono ?_; rw [HF.out]; rintro e w' ⟨rfl, rfl⟩)
    | (go_at_call 14; refine (rsigned_any imm HI.out _).mono ?_; rintro e w' ⟨rfl, rfl⟩))
  go_ret
  exact ⟨rfl, (Below.refl _ _).alloc (Nat.le_refl _) _⟩

set_option maxRecDepth 100000 in
set_option maxHeartbeats 20000000 in
theorem rmayT7 (op : Nat) (h : 1 ≤ op ∧ op ≤ 59) (hk : Is.fm op = 7) (rd rs1 rs2 imm : Int) (aq rl : Bool) (hi : Is.Wd imm) (brs1 : 0 ≤ rs1 ∧ rs1 ≤ 31) (brs2 : 0 ≤ rs2 ∧ rs2 ≤ 31) (hm : imm ≤ 2047 ∨ 4294965248 ≤ imm) (w : World) :
    Calls Tryd.prog 6 #[inst op 0 rs1 rs2 imm false false] w fun e w' => e = .returned (.bool true) ∧ Below w.heap.size w w' := by
  have HF := Lib.hid (show Is.fb (Is.fm op) = 115 by rw [hk]; rfl)
  have HI := Lib.hid hi
  unfold Is.Wd at hi
  clear hk
  have t1 : -2048 ≤ Is.sg imm ∧ Is.sg imm ≤ 2047 := by unfold Is.sg; split <;> omega
  clear hm
  unfold inst
  go_enter Tryd.func6, Tryd.ntmps6
  go_wp2_with (first
    | (go_at_call 13; refine (rform_yes op h _).mono ?_; rw [HF.out]; rintro e w' ⟨rfl, rfl⟩)
    | (go_at_call 14; refine (rsigned_any imm HI.out _).mono ?_; rintro e w' ⟨rfl, rfl⟩))
  go_ret
  exact ⟨rfl, (Below.refl _ _).alloc (Nat.le_refl _) _⟩

set_option maxRecDepth 100000 in
set_option maxHeartbeats 20000000 in
theorem rmayT8 (op : Nat) (h : 1 ≤ op ∧ op ≤ 59) (hk : Is.fm op = 8) (rd rs1 rs2 imm : Int) (aq rl : Bool) (hi : Is.Wd 0) (brd : 0 ≤ rd ∧ rd ≤ 31) (brs1 : 0 ≤ rs1 ∧ rs1 ≤ 31) (brs2 : 0 ≤ rs2 ∧ rs2 ≤ 31)  (w : World) :
    Calls Tryd.prog 6 #[inst op rd rs1 rs2 0 false false] w fun e w' => e = .returned (.bool true) ∧ Below w.heap.size w w' := by
  have HF := Lib.hid (show Is.fb (Is.fm op) = 114 by rw [hk]; rfl)
  have HI := Lib.hid hi
  unfold Is.Wd at hi
  clear hk
  unfold inst
  go_enter Tryd.func6, Tryd.ntmps6
  go_wp2_with (first
    | (go_at_call 13; refine (rform_yes op h _).mono ?_; rw [HF.out]; rintro e w' ⟨rfl, rfl⟩)
    | (go_at_call 14; refine (rsigned_any 0 HI.out _).mono ?_; rintro e w' ⟨rfl, rfl⟩))
  go_ret
  exact ⟨rfl, (Below.refl _ _).alloc (Nat.le_refl _) _⟩

set_option maxRecDepth 100000 in
set_option maxHeartbeats 20000000 in
theorem rmayT9 (op : Nat) (h : 1 ≤ op ∧ op ≤ 59) (hk : Is.fm op = 9) (rd rs1 rs2 imm : Int) (aq rl : Bool) (hi : Is.Wd imm)  (hm : imm ≤ 255) (w : World) :
    Calls Tryd.prog 6 #[inst op 0 0 0 imm false false] w fun e w' => e = .returned (.bool true) ∧ Below w.heap.size w w' := by
  have HF := Lib.hid (show Is.fb (Is.fm op) = 102 by rw [hk]; rfl)
  have HI := Lib.hid hi
  unfold Is.Wd at hi
  clear hk
  have t1 : 0 ≤ Is.sg imm ∧ Is.sg imm ≤ 255 := by unfold Is.sg; split <;> omega
  clear hm
  unfold inst
  go_enter Tryd.func6, Tryd.ntmps6
  go_wp2_with (first
    | (go_at_call 13; refine (rform_yes op h _).mono ?_; rw [HF.out]; rintro e w' ⟨rfl, rfl⟩)
    | (go_at_call 14; refine (rsigned_any imm HI.out _).mono ?_; rintro e w' ⟨rfl, rfl⟩))
  go_ret
  exact ⟨rfl, (Below.refl _ _).alloc (Nat.le_refl _) _⟩
end Go.Proofs.YtianojbdabeoeaaDoor
