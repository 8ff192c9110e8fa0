/-
  What nat.Norm, nat.Of, nat.Uint and nat.Bits do.
-/
import Derived.Test.YthknmkebdlnahaaDoorAAdd
import Derived.Test.YthknmkebdlnahaaDoorABits
import Derived.Laws.CopyOwn
namespace Go.Proofs.YthknmkebdlnahaaDoor
open Go.RowKit

end Go.Proofs.YthknmkebdlnahaaDoor
