/-
  All that the laws of layer 4 lean on, so far.
-/
import Derived.Test.YtaokpphlfhnleaaGreatDoorHlOpen
import Derived.Test.YtaokpphlfhnleaaGreatDoorHtDoM
import Derived.Test.YtaokpphlfhnleaaGreatDoorHrAmo
