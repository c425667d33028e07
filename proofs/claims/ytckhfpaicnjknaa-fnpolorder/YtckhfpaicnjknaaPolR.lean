/-
  Blocks that hold structs, beside sums.
-/
import Derived.Test.YtckhfpaicnjknaaPolF
import Derived.Test.YtckhfpaicnjknaaRecR
