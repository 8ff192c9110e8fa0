/-
  What nat.Cmp does.
-/
import Derived.Test.YthknmkebdlnahaaDoorDEach
namespace Go.Proofs.YthknmkebdlnahaaDoor
open Go.RowKit

end Go.Proofs.YthknmkebdlnahaaDoor
