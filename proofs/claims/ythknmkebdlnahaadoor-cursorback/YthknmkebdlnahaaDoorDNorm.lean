/-
  What nat.Norm, nat.Of, nat.Uint and nat.Bits do.
-/
import Derived.Test.YthknmkebdlnahaaDoorDAdd
import Derived.Test.YthknmkebdlnahaaDoorDBits
import Derived.Laws.CopyOwn
namespace Go.Proofs.YthknmkebdlnahaaDoor
open Go.RowKit

end Go.Proofs.YthknmkebdlnahaaDoor
