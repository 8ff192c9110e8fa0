/-
  What the reference's Mul, Add and Cmp of whole numbers do.
  What the reference's Small and Pow do of 5.
  What the reference's Small and Pow do of 10.
  What the reference's times does: a number times 10, and a digit more.
  What the reference's Of does: the number of a row of digits.
  What quipuref05's Of and at do: a whole number times a power of 10.
  What the reference's Shl does.
-/
import Derived.Test.YtobloamnaemfnaaGreatDoorVB20
import Derived.Test.YtobloamnaemfnaaGreatDoorVB5
import Derived.Test.YtobloamnaemfnaaGreatDoorVB8
import Derived.Test.YtobloamnaemfnaaGreatDoorVB2
import Derived.Test.YtobloamnaemfnaaGreatDoorVB6
namespace Go.Proofs.YtobloamnaemfnaaGreatDoor
open Go.RowKit

end Go.Proofs.YtobloamnaemfnaaGreatDoor

namespace Go.Proofs.YtobloamnaemfnaaGreatDoor
open Go.RowKit

end Go.Proofs.YtobloamnaemfnaaGreatDoor

namespace Go.Proofs.YtobloamnaemfnaaGreatDoor
open Go.RowKit

end Go.Proofs.YtobloamnaemfnaaGreatDoor

namespace Go.Proofs.YtobloamnaemfnaaGreatDoor
open Go.RowKit

end Go.Proofs.YtobloamnaemfnaaGreatDoor

namespace Go.Proofs.YtobloamnaemfnaaGreatDoor
open Go.RowKit

end Go.Proofs.YtobloamnaemfnaaGreatDoor

namespace Go.Proofs.YtobloamnaemfnaaGreatDoor
open Go.RowKit

end Go.Proofs.YtobloamnaemfnaaGreatDoor

namespace Go.Proofs.YtobloamnaemfnaaGreatDoor
open Go.RowKit

end Go.Proofs.YtobloamnaemfnaaGreatDoor
