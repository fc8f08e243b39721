/-
  What each form's instructions have, as plain numbers; an instruction as a value.
-/
import Derived.Test.YtianojbdabeoeaaGreatDoorIsTab
import Derived.Test.YtianojbdabeoeaaGreatDoorIsMath
namespace Go.Proofs.YtianojbdabeoeaaGreatDoor
set_option linter.unusedVariables false
/-- an instruction as the program has it -/
def inst (op rd rs1 rs2 imm : Int) (aq rl : Bool) : Value := .agg #[.int .i64 op, .int .i64 rd, .int .i64 rs1, .int .i64 rs2, .int .u32 imm, .bool aq, .bool rl]
namespace Is
def hasRd (k : Nat) : Bool := !(k == 6 || k == 7 || k == 9 || k == 10)
def hasRs1 (k : Nat) : Bool := !(k == 1 || k == 2 || k == 9 || k == 10 || k == 13)
def hasRs2 (k : Nat) : Bool := k == 6 || k == 7 || k == 8 || k == 11
def hasOrd (k : Nat) : Bool := k == 11 || k == 12
def immO (k : Nat) (x : Int) : Int := match k with
  | 1 => upperImm x | 2 => jumpImm x | 3 => shortImm x | 4 => shortImm x | 5 => shiftImm x | 6 => branchImm x | 7 => storeImm x | 9 => fenceImm x | _ => 0
def placeO (k : Nat) (x : Int) : Int := match k with
  | 1 => upperImm x | 2 => jumpPlace x | 3 => shortPlace x | 4 => shortPlace x | 5 => shiftPlace x | 6 => branchPlace x | 7 => storePlace x | 9 => fencePlace x | _ => 0
def rdO (k : Nat) (x : Int) : Int := if hasRd k then x / 128 % 32 else 0
def rs1O (k : Nat) (x : Int) : Int := if hasRs1 k then x / 32768 % 32 else 0
def rs2O (k : Nat) (x : Int) : Int := if hasRs2 k then x / 1048576 % 32 else 0
def aqO (k : Nat) (x : Int) : Bool := hasOrd k && (x / 67108864 % 2 == 1)
def rlO (k : Nat) (x : Int) : Bool := hasOrd k && (x / 33554432 % 2 == 1)
def b01 (b : Bool) : Int := if b then 1 else 0
/-- a word with the parts, as far as they have room, and nothing else -/
def layO (k : Nat) (rd rs1 rs2 imm : Int) (aq rl : Bool) : Int :=
  placeO k imm + (if hasRd k then rd % 32 * 128 else 0) + (if hasRs1 k then rs1 % 32 * 32768 else 0) + (if hasRs2 k then rs2 % 32 * 1048576 else 0) + (if hasOrd k then b01 aq * 67108864 + b01 rl * 33554432 else 0)
theorem b01_26 (b : Bool) : b01 b * 67108864 % 4294967296 = b01 b * 67108864 := by cases b <;> rfl
theorem b01_25 (b : Bool) : b01 b * 33554432 % 4294967296 = b01 b * 33554432 := by cases b <;> rfl
theorem bd_11_7 (x : Int) : 0 ≤ bt x 11 7 ∧ bt x 11 7 ≤ 31 := by rw [bt_11_7]; omega
theorem bd_19_15 (x : Int) : 0 ≤ bt x 19 15 ∧ bt x 19 15 ≤ 31 := by rw [bt_19_15]; omega
theorem bd_24_20 (x : Int) : 0 ≤ bt x 24 20 ∧ bt x 24 20 ≤ 31 := by rw [bt_24_20]; omega
end Is
end Go.Proofs.YtianojbdabeoeaaGreatDoor
