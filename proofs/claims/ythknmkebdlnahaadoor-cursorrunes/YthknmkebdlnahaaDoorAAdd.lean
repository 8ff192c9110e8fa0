/-
  What nat.Add does: the sum, in memory of its own.
-/
import Derived.Test.YthknmkebdlnahaaDoorAB1
import Derived.Test.YthknmkebdlnahaaDoorACmp
namespace Go.Proofs.YthknmkebdlnahaaDoor
open Go.RowKit

end Go.Proofs.YthknmkebdlnahaaDoor
