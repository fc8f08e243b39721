/-
  take and lay of any form; the row of an Op, if it is one; what is true of the table.
-/
import Derived.Test.YtianojbdabeoeaaGreatDoorIsTakeA
import Derived.Test.YtianojbdabeoeaaGreatDoorIsTakeB
import Derived.Test.YtianojbdabeoeaaGreatDoorIsTakeC
import Derived.Test.YtianojbdabeoeaaGreatDoorIsLayA
import Derived.Test.YtianojbdabeoeaaGreatDoorIsLayB
import Derived.Test.YtianojbdabeoeaaGreatDoorIsLayC
import Derived.Test.YtianojbdabeoeaaGreatDoorOgL
namespace Go.Proofs.YtianojbdabeoeaaGreatDoor
open Go.RowKit Go.Maps
set_option linter.unusedVariables false
set_option linter.unusedSimpArgs false

theorem take_any (k : Nat) (hk : 1 ≤ k ∧ k ≤ 13) (x : Int) (hx : Is.Wd x) (w : World) :
    Calls Tryz.prog 103 #[fo k, .int .u32 x] w fun e w' => e = .returned (inst 0 (Is.rdO k x) (Is.rs1O k x) (Is.rs2O k x) (Is.immO k x) (Is.aqO k x) (Is.rlO k x)) ∧ Below w.heap.size w w' := by
  rcases (show k = 1 ∨ k = 2 ∨ k = 3 ∨ k = 4 ∨ k = 5 ∨ k = 6 ∨ k = 7 ∨ k = 8 ∨ k = 9 ∨ k = 10 ∨ k = 11 ∨ k = 12 ∨ k = 13 by omega) with rfl | rfl | rfl | rfl | rfl | rfl | rfl | rfl | rfl | rfl | rfl | rfl | rfl
  · exact take1 x hx w
  · exact take2 x hx w
  · exact take3 x hx w
  · exact take4 x hx w
  · exact take5 x hx w
  · exact take6 x hx w
  · exact take7 x hx w
  · exact take8 x hx w
  · exact take9 x hx w
  · exact take10 x hx w
  · exact take11 x hx w
  · exact take12 x hx w
  · exact take13 x hx w
theorem lay_any (k : Nat) (hk : 1 ≤ k ∧ k ≤ 13) (op rd rs1 rs2 imm : Int) (aq rl : Bool) (h1 : -9223372036854775808 ≤ rd ∧ rd ≤ 9223372036854775807) (h2 : -9223372036854775808 ≤ rs1 ∧ rs1 ≤ 9223372036854775807) (h3 : -9223372036854775808 ≤ rs2 ∧ rs2 ≤ 9223372036854775807) (hi : Is.Wd imm) (w : World) :
    Calls Tryz.prog 104 #[fo k, inst op rd rs1 rs2 imm aq rl] w fun e w' => e = .returned (.int .u32 (Is.layO k rd rs1 rs2 imm aq rl)) ∧ Below w.heap.size w w' := by
  rcases (show k = 1 ∨ k = 2 ∨ k = 3 ∨ k = 4 ∨ k = 5 ∨ k = 6 ∨ k = 7 ∨ k = 8 ∨ k = 9 ∨ k = 10 ∨ k = 11 ∨ k = 12 ∨ k = 13 by omega) with rfl | rfl | rfl | rfl | rfl | rfl | rfl | rfl | rfl | rfl | rfl | rfl | rfl
  · exact lay1 op rd rs1 rs2 imm aq rl h1 h2 h3 hi w
  · exact lay2 op rd rs1 rs2 imm aq rl h1 h2 h3 hi w
  · exact lay3 op rd rs1 rs2 imm aq rl h1 h2 h3 hi w
  · exact lay4 op rd rs1 rs2 imm aq rl h1 h2 h3 hi w
  · exact lay5 op rd rs1 rs2 imm aq rl h1 h2 h3 hi w
  · exact lay6 op rd rs1 rs2 imm aq rl h1 h2 h3 hi w
  · exact lay7 op rd rs1 rs2 imm aq rl h1 h2 h3 hi w
  · exact lay8 op rd rs1 rs2 imm aq rl h1 h2 h3 hi w
  · exact lay9 op rd rs1 rs2 imm aq rl h1 h2 h3 hi w
  · exact lay10 op rd rs1 rs2 imm aq rl h1 h2 h3 hi w
  · exact lay11 op rd rs1 rs2 imm aq rl h1 h2 h3 hi w
  · exact lay12 op rd rs1 rs2 imm aq rl h1 h2 h3 hi w
  · exact lay13 op rd rs1 rs2 imm aq rl h1 h2 h3 hi w

end Go.Proofs.YtianojbdabeoeaaGreatDoor
