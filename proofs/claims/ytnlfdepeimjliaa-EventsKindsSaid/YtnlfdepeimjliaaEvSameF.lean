/-
  The program's sameEvent tells whether two events are the same.
-/
import Derived.Test.YtnlfdepeimjliaaEvSameA
import Derived.Test.YtnlfdepeimjliaaEvSameB
import Derived.Test.YtnlfdepeimjliaaEvSameC
import Derived.Test.YtnlfdepeimjliaaEvSameD
import Derived.Test.YtnlfdepeimjliaaEvSameE
namespace Go.Proofs.Ytnlfdepeimjliaa
open Go.RowKit
set_option linter.unusedVariables false
set_option linter.unusedSimpArgs false
theorem sameEvent_any (x y : Ev.R) (w : World) (hx : Ev.ROk w x) (hy : Ev.ROk w y) : Calls Try.prog 48 #[Ev.evV x, Ev.evV y] w fun e w' => e = .returned (.bool (Ev.sameR x y)) ∧ Below w.heap.size w w' := by
  by_cases eh : x.h = y.h
  case neg => exact sameno_h x y w  eh
  by_cases ek : x.k = y.k
  case neg => exact sameno_k x y w eh ek
  by_cases ea : x.a = y.a
  case neg => exact sameno_a x y w eh ek ea
  by_cases ev : x.v = y.v
  case neg => exact sameno_v x y w eh ek ea ev
  by_cases er : x.r = y.r
  case neg => exact sameno_r x y w eh ek ea ev er
  by_cases eq : x.q = y.q
  case neg => exact sameno_q x y w eh ek ea ev er eq
  by_cases el : x.l = y.l
  case neg => exact sameno_l x y w eh ek ea ev er eq el
  by_cases ez : x.z = y.z
  case neg => exact sameno_z x y w eh ek ea ev er eq el ez
  by_cases ep : x.p = y.p
  case neg => exact sameno_p x y w eh ek ea ev er eq el ez ep
  by_cases es : x.s = y.s
  case neg => exact sameno_s x y w eh ek ea ev er eq el ez ep es
  exact sameyes x y w hx hy eh ek ea ev er eq el ez ep es
end Go.Proofs.Ytnlfdepeimjliaa
