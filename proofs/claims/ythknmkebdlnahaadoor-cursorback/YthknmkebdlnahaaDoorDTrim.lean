/-
  What nat.limb and nat.trim do.
-/
import Derived.Test.YthknmkebdlnahaaDoorProg
import Derived.Test.YthknmkebdlnahaaDoorDMem
namespace Go.Proofs.YthknmkebdlnahaaDoor
open Go.RowKit

end Go.Proofs.YthknmkebdlnahaaDoor
