/-
  Blocks that hold structs, beside sums.
-/
import Derived.Test.YtlgpnogeoaoidaaPolF
import Derived.Test.YtlgpnogeoaoidaaRecR
