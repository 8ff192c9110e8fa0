/-
  What nat.Add does: the sum, in memory of its own.
-/
import Derived.Test.YtpeoigipjcdpjaaDoorBB1
import Derived.Test.YtpeoigipjcdpjaaDoorBCmp
namespace Go.Proofs.YtpeoigipjcdpjaaDoor
open Go.RowKit

end Go.Proofs.YtpeoigipjcdpjaaDoor
