/-
  What nat.Cmp does.
-/
import Derived.Test.YtdbbdclhfcakdaaVEach
namespace Go.Proofs.Ytdbbdclhfcakdaa
open Go.RowKit

end Go.Proofs.Ytdbbdclhfcakdaa
