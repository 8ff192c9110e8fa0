/-
  What nat.Add does: the sum, in memory of its own.
-/
import Derived.Test.YtdbbdclhfcakdaaWB1
import Derived.Test.YtdbbdclhfcakdaaWCmp
namespace Go.Proofs.Ytdbbdclhfcakdaa
open Go.RowKit

end Go.Proofs.Ytdbbdclhfcakdaa
