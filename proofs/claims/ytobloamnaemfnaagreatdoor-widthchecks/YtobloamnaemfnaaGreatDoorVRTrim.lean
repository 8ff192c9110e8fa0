/-
  What the reference's trim does.
-/
import Derived.Test.YtobloamnaemfnaaGreatDoorVOwn
namespace Go.Proofs.YtobloamnaemfnaaGreatDoor
open Go.RowKit

end Go.Proofs.YtobloamnaemfnaaGreatDoor
