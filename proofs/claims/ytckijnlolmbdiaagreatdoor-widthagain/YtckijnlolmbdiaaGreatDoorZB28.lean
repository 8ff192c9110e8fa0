/-
  What dec's sum does.
  What dec's product does.
  What dec's Add does.
  What dec's Mul does.
  What dec's sums and products of numbers that may be are.
  Plain mathematics: ranks, places and bytes tell how two numbers stand.
  What cmp.Or, dec's cmpAmounts and Cmp do.
  quipulaw06's less; RoundOrder where At refuses the number.
-/
import Derived.Test.YtckijnlolmbdiaaGreatDoorZB23
import Derived.Test.YtckijnlolmbdiaaGreatDoorZB24
import Derived.Test.YtckijnlolmbdiaaGreatDoorZB25
import Derived.Deep.CutRange
import Derived.Test.YtckijnlolmbdiaaGreatDoorZB1
import Derived.Lib.Small
import Derived.Deep.RegionHeld3
import Derived.Test.YtckijnlolmbdiaaGreatDoorZB27
namespace Go.Proofs.YtckijnlolmbdiaaGreatDoor
open Go.RowKit

end Go.Proofs.YtckijnlolmbdiaaGreatDoor

namespace Go.Proofs.YtckijnlolmbdiaaGreatDoor
open Go.RowKit

end Go.Proofs.YtckijnlolmbdiaaGreatDoor

namespace Go.Proofs.YtckijnlolmbdiaaGreatDoor
open Go.RowKit

end Go.Proofs.YtckijnlolmbdiaaGreatDoor

namespace Go.Proofs.YtckijnlolmbdiaaGreatDoor
open Go.RowKit

end Go.Proofs.YtckijnlolmbdiaaGreatDoor

namespace Go.Proofs.YtckijnlolmbdiaaGreatDoor
open Go.RowKit

end Go.Proofs.YtckijnlolmbdiaaGreatDoor

namespace Go.Proofs.YtckijnlolmbdiaaGreatDoor

end Go.Proofs.YtckijnlolmbdiaaGreatDoor

namespace Go.Proofs.YtckijnlolmbdiaaGreatDoor
open Go.RowKit

end Go.Proofs.YtckijnlolmbdiaaGreatDoor

namespace Go.Proofs.YtckijnlolmbdiaaGreatDoor
open Go.RowKit

end Go.Proofs.YtckijnlolmbdiaaGreatDoor
