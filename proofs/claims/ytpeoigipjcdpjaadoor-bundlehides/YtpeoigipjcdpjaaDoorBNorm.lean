/-
  What nat.Norm, nat.Of, nat.Uint and nat.Bits do.
-/
import Derived.Test.YtpeoigipjcdpjaaDoorBAdd
import Derived.Test.YtpeoigipjcdpjaaDoorBBits
import Derived.Laws.CopyOwn
namespace Go.Proofs.YtpeoigipjcdpjaaDoor
open Go.RowKit

end Go.Proofs.YtpeoigipjcdpjaaDoor
