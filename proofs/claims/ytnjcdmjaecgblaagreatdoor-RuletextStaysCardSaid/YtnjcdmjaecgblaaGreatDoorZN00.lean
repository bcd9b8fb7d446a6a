/-
  The reference of rules, as the laws ask it: Same, Validate.
-/
import Derived.Test.YtnjcdmjaecgblaaGreatDoorZI03
namespace Go.Proofs.YtnjcdmjaecgblaaGreatDoor
section
open Go.RowKit Go.Lib
theorem rval_have : RValP := fun su sw st r n W hR hu hw ht e => r9val_b su sw st r n W hR hu hw ht e
end

end Go.Proofs.YtnjcdmjaecgblaaGreatDoor
