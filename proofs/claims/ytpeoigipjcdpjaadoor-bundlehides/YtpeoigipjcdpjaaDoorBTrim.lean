/-
  What nat.limb and nat.trim do.
-/
import Derived.Test.YtpeoigipjcdpjaaDoorProg
import Derived.Test.YtpeoigipjcdpjaaDoorBMem
namespace Go.Proofs.YtpeoigipjcdpjaaDoor
open Go.RowKit

end Go.Proofs.YtpeoigipjcdpjaaDoor
