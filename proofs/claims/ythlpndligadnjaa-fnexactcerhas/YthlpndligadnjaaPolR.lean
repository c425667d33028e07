/-
  Blocks that hold structs, beside sums.
-/
import Derived.Test.YthlpndligadnjaaPolF
import Derived.Test.YthlpndligadnjaaRecR
