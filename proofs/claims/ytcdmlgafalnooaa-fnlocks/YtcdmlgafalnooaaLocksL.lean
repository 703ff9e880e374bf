/-
  The program's locks: all five.
-/
import Derived.Test.YtcdmlgafalnooaaLockAskL
import Derived.Test.YtcdmlgafalnooaaLocksMath
