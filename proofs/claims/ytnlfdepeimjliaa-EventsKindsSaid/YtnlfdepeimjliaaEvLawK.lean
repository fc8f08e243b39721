/-
  What the law of kinds stands on.
-/
import Derived.Test.YtnlfdepeimjliaaEvRsame
import Derived.Test.YtnlfdepeimjliaaEvWide
import Derived.Test.YtnlfdepeimjliaaEvOpenX
import Derived.Test.YtnlfdepeimjliaaEvKnown
