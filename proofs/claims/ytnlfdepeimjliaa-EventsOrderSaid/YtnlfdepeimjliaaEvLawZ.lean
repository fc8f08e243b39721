/-
  What the law of orders stands on.
-/
import Derived.Test.YtnlfdepeimjliaaEvMat
import Derived.Test.YtnlfdepeimjliaaEvWide
import Derived.Test.YtnlfdepeimjliaaEvOpenX
import Derived.Test.YtnlfdepeimjliaaEvKnown
import Derived.Test.YtnlfdepeimjliaaOg3
