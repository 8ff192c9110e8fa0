/-
  What nat.Norm, nat.Of, nat.Uint and nat.Bits do.
-/
import Derived.Test.YthknmkebdlnahaaDoorCAdd
import Derived.Test.YthknmkebdlnahaaDoorCBits
import Derived.Laws.CopyOwn
namespace Go.Proofs.YthknmkebdlnahaaDoor
open Go.RowKit

end Go.Proofs.YthknmkebdlnahaaDoor
