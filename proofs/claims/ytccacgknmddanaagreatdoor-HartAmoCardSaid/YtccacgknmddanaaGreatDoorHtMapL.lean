/-
  Maps of meanings.
-/
import Derived.Test.YtccacgknmddanaaGreatDoorIsForms
namespace Go.Proofs.YtccacgknmddanaaGreatDoor
open Go.RowKit Go.Maps
set_option linter.unusedVariables false
theorem lawOp : Keyed Tryz.prog 28 := int_keyed Tryz.underlying28
end Go.Proofs.YtccacgknmddanaaGreatDoor
