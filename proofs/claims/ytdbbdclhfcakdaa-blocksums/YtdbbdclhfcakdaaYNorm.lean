/-
  What nat.Norm, nat.Of, nat.Uint and nat.Bits do.
-/
import Derived.Test.YtdbbdclhfcakdaaYAdd
import Derived.Test.YtdbbdclhfcakdaaYBits
import Derived.Laws.CopyOwn
namespace Go.Proofs.Ytdbbdclhfcakdaa
open Go.RowKit

end Go.Proofs.Ytdbbdclhfcakdaa
