/-
  What nat.eachPair does with whatever function it is handed: round by round, over the limbs of both lists.
-/
import Derived.Test.YtionbkmbhhlmjaaGreatDoorSTrim
namespace Go.Proofs.YtionbkmbhhlmjaaGreatDoor
open Go.RowKit

end Go.Proofs.YtionbkmbhhlmjaaGreatDoor
