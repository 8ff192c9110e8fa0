/-
  math/bits.Add64 and Sub64 as the model has them, and the closures of nat.Add, nat.Sub and nat.addBack, which call them.
-/
import Derived.Test.YtbfegnbaleclfaaGreatDoorAEach
import Derived.Test.YtbfegnbaleclfaaGreatDoorARow
import Derived.Laws.Externs
import Derived.RegionTactic
import Derived.BigRegion
namespace Go.Proofs.YtbfegnbaleclfaaGreatDoor
open Go.RowKit

def B64 : Nat := 18446744073709551616

end Go.Proofs.YtbfegnbaleclfaaGreatDoor
