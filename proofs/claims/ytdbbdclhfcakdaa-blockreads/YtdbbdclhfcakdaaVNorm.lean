/-
  What nat.Norm, nat.Of, nat.Uint and nat.Bits do.
-/
import Derived.Test.YtdbbdclhfcakdaaVAdd
import Derived.Test.YtdbbdclhfcakdaaVBits
import Derived.Laws.CopyOwn
namespace Go.Proofs.Ytdbbdclhfcakdaa
open Go.RowKit

end Go.Proofs.Ytdbbdclhfcakdaa
