/-
  What nat.Add does: the sum, in memory of its own.
-/
import Derived.Test.YthknmkebdlnahaaDoorBB1
import Derived.Test.YthknmkebdlnahaaDoorBCmp
namespace Go.Proofs.YthknmkebdlnahaaDoor
open Go.RowKit

end Go.Proofs.YthknmkebdlnahaaDoor
