/-
  What nat.Cmp does.
-/
import Derived.Test.YtpeoigipjcdpjaaDoorAEach
namespace Go.Proofs.YtpeoigipjcdpjaaDoor
open Go.RowKit

end Go.Proofs.YtpeoigipjcdpjaaDoor
