/-
  The document's own bare, way by way.
-/
import Derived.Test.YtoicmhidmknfiaaEvSame
import Derived.Deep.QuietTactic
import Derived.Laws.Rows
namespace Go.Proofs.Ytoicmhidmknfiaa
open Go.RowKit
set_option linter.unusedVariables false
set_option linter.unusedSimpArgs false
theorem rstores_is {x : Ev.R} {b : Bool} (h : Ev.stores x.k = b) (w : World) : Calls Try.prog 41 #[.agg (Ev.cells x).toArray] w fun e w' => e = .returned (.bool b) ∧ Below w.heap.size w w' := h ▸ rstores_any x w
theorem rloads_is {x : Ev.R} {b : Bool} (h : Ev.loads x.k = b) (w : World) : Calls Try.prog 40 #[.agg (Ev.cells x).toArray] w fun e w' => e = .returned (.bool b) ∧ Below w.heap.size w w' := h ▸ rloads_any x w
end Go.Proofs.Ytoicmhidmknfiaa
