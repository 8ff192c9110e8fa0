/-
  What nat.Cmp does.
-/
import Derived.Test.YthknmkebdlnahaaDoorBEach
namespace Go.Proofs.YthknmkebdlnahaaDoor
open Go.RowKit

end Go.Proofs.YthknmkebdlnahaaDoor
