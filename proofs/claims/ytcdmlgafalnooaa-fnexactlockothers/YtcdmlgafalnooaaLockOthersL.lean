/-
  LockOthers: both sides.
-/
import Derived.Test.YtcdmlgafalnooaaLockModeL
