/-
  What nat.Add does: the sum, in memory of its own.
-/
import Derived.Test.YtdbbdclhfcakdaaVB1
import Derived.Test.YtdbbdclhfcakdaaVCmp
namespace Go.Proofs.Ytdbbdclhfcakdaa
open Go.RowKit

end Go.Proofs.Ytdbbdclhfcakdaa
