/-
  What nat.Cmp does.
-/
import Derived.Test.YtpeoigipjcdpjaaDoorBEach
namespace Go.Proofs.YtpeoigipjcdpjaaDoor
open Go.RowKit

end Go.Proofs.YtpeoigipjcdpjaaDoor
