/-
  What nat.Add does: the sum, in memory of its own.
-/
import Derived.Test.YtpeoigipjcdpjaaDoorAB1
import Derived.Test.YtpeoigipjcdpjaaDoorACmp
namespace Go.Proofs.YtpeoigipjcdpjaaDoor
open Go.RowKit

end Go.Proofs.YtpeoigipjcdpjaaDoor
