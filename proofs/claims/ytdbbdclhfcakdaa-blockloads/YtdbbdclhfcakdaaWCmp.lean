/-
  What nat.Cmp does.
-/
import Derived.Test.YtdbbdclhfcakdaaWEach
namespace Go.Proofs.Ytdbbdclhfcakdaa
open Go.RowKit

end Go.Proofs.Ytdbbdclhfcakdaa
