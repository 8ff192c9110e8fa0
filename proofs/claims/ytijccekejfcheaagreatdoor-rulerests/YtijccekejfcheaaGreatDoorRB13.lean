/-
  What width's noughts, split, whole, fraction and digits do, out of what they call.
  What width's split, whole, fraction and digits answer, by the document's words.
  What width's areShown, mayShown and Value do.
-/
import Derived.Test.YtijccekejfcheaaGreatDoorRB10
import Derived.Test.YtijccekejfcheaaGreatDoorRB12
import Derived.Deep.RegionHeld3
import Derived.Test.YtijccekejfcheaaGreatDoorRB11
import Derived.Shelf.Strings.SlTrimAscii
namespace Go.Proofs.YtijccekejfcheaaGreatDoor
open Go.RowKit

end Go.Proofs.YtijccekejfcheaaGreatDoor

namespace Go.Proofs.YtijccekejfcheaaGreatDoor
open Go.RowKit

end Go.Proofs.YtijccekejfcheaaGreatDoor

namespace Go.Proofs.YtijccekejfcheaaGreatDoor
open Go.RowKit

end Go.Proofs.YtijccekejfcheaaGreatDoor
