/-
  What nat.Norm, nat.Of, nat.Uint and nat.Bits do.
-/
import Derived.Test.YthknmkebdlnahaaDoorBAdd
import Derived.Test.YthknmkebdlnahaaDoorBBits
import Derived.Laws.CopyOwn
namespace Go.Proofs.YthknmkebdlnahaaDoor
open Go.RowKit

end Go.Proofs.YthknmkebdlnahaaDoor
