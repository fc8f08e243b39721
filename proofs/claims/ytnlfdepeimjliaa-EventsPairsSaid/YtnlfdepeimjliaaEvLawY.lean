/-
  What the laws of relations stand on.
-/
import Derived.Test.YtnlfdepeimjliaaEvLawX
import Derived.Test.YtnlfdepeimjliaaEvDEq2
import Derived.Test.YtnlfdepeimjliaaOg3
