/-
  How the statements' arguments of layer 4 read as data; a world in which the library's listed tables lie as the program's text lays them.
-/
import Derived.Test.YtianojbdabeoeaaGreatDoorCards
import Derived.Test.YtianojbdabeoeaaGreatDoorTie
import Derived.Test.YtianojbdabeoeaaGreatDoorHtMath
import Derived.ProofKit
import Derived.OpenShut
import Derived.Lib.SmallJoins
import Derived.Carry
import Derived.LaidMore
import Derived.Deep.DeepHandedRow
namespace Go.Proofs.YtianojbdabeoeaaGreatDoor
open Go.ChangeShapes Go.WideShapes Go.ChangeAt Go.RowKit
set_option linter.unusedVariables false
theorem own : ownKnob Tryz.prog.godebug = none := by kernel_rfl
theorem laidOut : laidOutB Tryz.prog = true := by kernel_rfl
noncomputable def laidWorld (os : Os) : World := World.doorLaid Tryz.prog 200 os
theorem wf_i64 {n : Int} (h : (Lit.int .i64 n).wf = true) : -9223372036854775808 ≤ n ∧ n ≤ 9223372036854775807 := by
  simp [Lit.wf, IntKind.bits, IntKind.signed, IntKind.min, IntKind.max] at h; omega
theorem wf_u32 {n : Int} (h : (Lit.int .u32 n).wf = true) : Ar.Wd n := by
  unfold Ar.Wd
  simp [Lit.wf, IntKind.bits, IntKind.signed, IntKind.min, IntKind.max] at h; omega
end Go.Proofs.YtianojbdabeoeaaGreatDoor
