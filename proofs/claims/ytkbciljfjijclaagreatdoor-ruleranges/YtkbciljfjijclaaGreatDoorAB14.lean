/-
  What width's areShown, mayShown and Value do.
  What operand's hasOperands and Of do.
-/
import Derived.Test.YtkbciljfjijclaaGreatDoorAB11
import Derived.Test.YtkbciljfjijclaaGreatDoorAB13
import Derived.Shelf.Strings.SlTrimAscii
import Derived.Deep.RegionHeld3
import Derived.Test.YtkbciljfjijclaaGreatDoorAB12
namespace Go.Proofs.YtkbciljfjijclaaGreatDoor
open Go.RowKit

end Go.Proofs.YtkbciljfjijclaaGreatDoor

namespace Go.Proofs.YtkbciljfjijclaaGreatDoor
open Go.RowKit

abbrev opV (i : ByteArray) (v z : Int) (f t : ByteArray) (e : Int) : Value := .agg #[.string i, .int .i64 v, .int .i64 z, .string f, .string t, .int .i64 e]
end Go.Proofs.YtkbciljfjijclaaGreatDoor
