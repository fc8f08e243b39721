/-
  What the laws of executions stand on.
-/
import Derived.Test.YtnlfdepeimjliaaEvRchk
import Derived.Test.YtnlfdepeimjliaaEvWide
import Derived.Test.YtnlfdepeimjliaaEvOpenX
import Derived.Test.YtnlfdepeimjliaaEvKnown
