/-
  What nat.Cmp does.
-/
import Derived.Test.YthknmkebdlnahaaDoorAEach
namespace Go.Proofs.YthknmkebdlnahaaDoor
open Go.RowKit

end Go.Proofs.YthknmkebdlnahaaDoor
