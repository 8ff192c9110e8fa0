/-
  What nat.Cmp does.
-/
import Derived.Test.YthknmkebdlnahaaDoorCEach
namespace Go.Proofs.YthknmkebdlnahaaDoor
open Go.RowKit

end Go.Proofs.YthknmkebdlnahaaDoor
