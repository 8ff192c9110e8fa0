/-
  What nat.limb and nat.trim do.
-/
import Derived.Test.YtkgapklhgkngnaaDoorProg
import Derived.Test.YtkgapklhgkngnaaDoorEMem
namespace Go.Proofs.YtkgapklhgkngnaaDoor
open Go.RowKit

end Go.Proofs.YtkgapklhgkngnaaDoor
