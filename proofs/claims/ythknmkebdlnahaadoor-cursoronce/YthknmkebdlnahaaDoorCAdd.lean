/-
  What nat.Add does: the sum, in memory of its own.
-/
import Derived.Test.YthknmkebdlnahaaDoorCB1
import Derived.Test.YthknmkebdlnahaaDoorCCmp
namespace Go.Proofs.YthknmkebdlnahaaDoor
open Go.RowKit

end Go.Proofs.YthknmkebdlnahaaDoor
