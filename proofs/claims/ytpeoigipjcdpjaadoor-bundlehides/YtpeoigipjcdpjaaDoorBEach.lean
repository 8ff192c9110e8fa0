/-
  What nat.eachPair does with whatever function it is handed: round by round, over the limbs of both lists.
-/
import Derived.Test.YtpeoigipjcdpjaaDoorBTrim
namespace Go.Proofs.YtpeoigipjcdpjaaDoor
open Go.RowKit

end Go.Proofs.YtpeoigipjcdpjaaDoor
