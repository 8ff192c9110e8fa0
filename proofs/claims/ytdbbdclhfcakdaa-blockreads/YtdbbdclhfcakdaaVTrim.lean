/-
  What nat.limb and nat.trim do.
-/
import Derived.Test.YtdbbdclhfcakdaaProg
import Derived.Test.YtdbbdclhfcakdaaVMem
namespace Go.Proofs.Ytdbbdclhfcakdaa
open Go.RowKit

end Go.Proofs.Ytdbbdclhfcakdaa
