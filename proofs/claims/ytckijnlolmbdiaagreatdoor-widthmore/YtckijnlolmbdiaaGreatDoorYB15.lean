/-
  What dec's Mul does.
  What dec's sums and products of numbers that may be are.
  Plain mathematics: ranks, places and bytes tell how two numbers stand.
  What cmp.Or, dec's cmpAmounts and Cmp do.
  quipulaw06's less; RoundOrder where At refuses the number.
  quipulaw06's away: the amount of a difference.
-/
import Derived.Test.YtckijnlolmbdiaaGreatDoorYB14
import Derived.Test.YtckijnlolmbdiaaGreatDoorYB2
import Derived.Lib.Small
import Derived.Test.YtckijnlolmbdiaaGreatDoorYB4
import Derived.Deep.RegionHeld3
import Derived.Test.YtckijnlolmbdiaaGreatDoorYB12
namespace Go.Proofs.YtckijnlolmbdiaaGreatDoor
open Go.RowKit

end Go.Proofs.YtckijnlolmbdiaaGreatDoor

namespace Go.Proofs.YtckijnlolmbdiaaGreatDoor
open Go.RowKit

end Go.Proofs.YtckijnlolmbdiaaGreatDoor

namespace Go.Proofs.YtckijnlolmbdiaaGreatDoor

end Go.Proofs.YtckijnlolmbdiaaGreatDoor

namespace Go.Proofs.YtckijnlolmbdiaaGreatDoor
open Go.RowKit

end Go.Proofs.YtckijnlolmbdiaaGreatDoor

namespace Go.Proofs.YtckijnlolmbdiaaGreatDoor
open Go.RowKit

end Go.Proofs.YtckijnlolmbdiaaGreatDoor

namespace Go.Proofs.YtckijnlolmbdiaaGreatDoor
open Go.RowKit

end Go.Proofs.YtckijnlolmbdiaaGreatDoor
