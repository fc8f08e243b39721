/-
  The cuts' words beside the net's.
-/
import Derived.Test.YtnfpcklpmfemiaaNtAl
import Derived.Deep.CutRange
