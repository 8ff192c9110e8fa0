/-
  What nat.Add does: the sum, in memory of its own.
-/
import Derived.Test.YthknmkebdlnahaaDoorDB1
import Derived.Test.YthknmkebdlnahaaDoorDCmp
namespace Go.Proofs.YthknmkebdlnahaaDoor
open Go.RowKit

end Go.Proofs.YthknmkebdlnahaaDoor
