/-
  What nat.Add does: the sum, in memory of its own.
-/
import Derived.Test.YtdbbdclhfcakdaaYB1
import Derived.Test.YtdbbdclhfcakdaaYCmp
namespace Go.Proofs.Ytdbbdclhfcakdaa
open Go.RowKit

end Go.Proofs.Ytdbbdclhfcakdaa
