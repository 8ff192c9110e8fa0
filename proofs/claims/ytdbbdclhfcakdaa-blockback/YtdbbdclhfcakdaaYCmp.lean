/-
  What nat.Cmp does.
-/
import Derived.Test.YtdbbdclhfcakdaaYEach
namespace Go.Proofs.Ytdbbdclhfcakdaa
open Go.RowKit

end Go.Proofs.Ytdbbdclhfcakdaa
