/-
  What the laws on nets share.
-/
import Derived.Test.YtnfpcklpmfemiaaNtPlayed
import Derived.Test.YtnfpcklpmfemiaaNtSame
namespace Go.Proofs.Ytnfpcklpmfemiaa
open Go.RowKit
set_option linter.unusedVariables false
set_option linter.unusedSimpArgs false
namespace Nt
theorem may_nat {a : Int} (h1 : 1 ≤ a) (h2 : a ≤ 1024) : ∃ k : Nat, a = (k : Int) ∧ 1 ≤ k ∧ k ≤ 1024 := ⟨a.toNat, by omega, by omega, by omega⟩
end Nt
end Go.Proofs.Ytnfpcklpmfemiaa
