/-
  What math/bits.Len64 does, walked through the library's own text.
-/
import Derived.Test.YtionbkmbhhlmjaaGreatDoorProg
import Derived.Lib.Strings
import Derived.Lib.Slices
import Derived.Lib.Small
import Derived.Lib.Walk
import Derived.Lib.BitFns
namespace Go.Proofs.YtionbkmbhhlmjaaGreatDoor

end Go.Proofs.YtionbkmbhhlmjaaGreatDoor
