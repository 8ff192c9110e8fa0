/-
  strconv.FormatUint to the base 10 at this dump: the number's decimal digits.
  What dec's amountText and Print do.
  What whole.Pow5 and whole.Pow10 do.
  What shortest's binary64, binary32, split, amount and powerOfTwo do.
  What nat.divLong does: the walk.
  nat.DivMod by nought and by one limb, whatever the dividend; literal lists, and what the numbers in them are.
  What nat.DivMod does, whatever the two numbers.
  Digits that a function gives.
  Plain mathematics of the reference's shifts.
  Plain mathematics of dividing bit by bit, with digits to the base 65536.
  Lists of limbs that are being built by append.
  What whole.cut does: the number's digits to the base 10^19.
  (*strings.Builder).WriteString at this dump: what it leaves in a builder.
-/
import Derived.Test.YtkbciljfjijclaaGreatDoorAShelf
import Derived.Test.YtkbciljfjijclaaGreatDoorAOwn
import Derived.Lib.AppendIntMem
import Derived.Laws.IdiomStrings
import Derived.Test.YtkbciljfjijclaaGreatDoorAB2
import Derived.Test.YtkbciljfjijclaaGreatDoorAB5
import Derived.Deep.RegionHeld3
import Derived.Test.YtkbciljfjijclaaGreatDoorAB4
import Derived.Test.YtkbciljfjijclaaGreatDoorADown
import Derived.Laws.BitsLemmas
import Derived.Test.YtkbciljfjijclaaGreatDoorASub
import Derived.Test.YtkbciljfjijclaaGreatDoorASame
import Derived.Test.YtkbciljfjijclaaGreatDoorAB1
import Derived.Deep.AppendLies
import Derived.Test.YtkbciljfjijclaaGreatDoorAUintF
import Derived.Lib.Builder
import Derived.Lib.AppendStr
import Derived.Lib.UnsafeStr
import Derived.Laws.Externs
namespace Go.Proofs.YtkbciljfjijclaaGreatDoor
open Go.RowKit Go.Sort Go.Lib

end Go.Proofs.YtkbciljfjijclaaGreatDoor

namespace Go.Proofs.YtkbciljfjijclaaGreatDoor
open Go.RowKit

end Go.Proofs.YtkbciljfjijclaaGreatDoor

namespace Go.Proofs.YtkbciljfjijclaaGreatDoor
open Go.RowKit

end Go.Proofs.YtkbciljfjijclaaGreatDoor

namespace Go.Proofs.YtkbciljfjijclaaGreatDoor
open Go.RowKit

end Go.Proofs.YtkbciljfjijclaaGreatDoor

namespace Go.Proofs.YtkbciljfjijclaaGreatDoor
open Go.RowKit

end Go.Proofs.YtkbciljfjijclaaGreatDoor

namespace Go.Proofs.YtkbciljfjijclaaGreatDoor
open Go.RowKit

end Go.Proofs.YtkbciljfjijclaaGreatDoor

namespace Go.Proofs.YtkbciljfjijclaaGreatDoor
open Go.RowKit

end Go.Proofs.YtkbciljfjijclaaGreatDoor

namespace Go.Proofs.YtkbciljfjijclaaGreatDoor

end Go.Proofs.YtkbciljfjijclaaGreatDoor

namespace Go.Proofs.YtkbciljfjijclaaGreatDoor

end Go.Proofs.YtkbciljfjijclaaGreatDoor

namespace Go.Proofs.YtkbciljfjijclaaGreatDoor

end Go.Proofs.YtkbciljfjijclaaGreatDoor

namespace Go.Proofs.YtkbciljfjijclaaGreatDoor
open Go.RowKit

end Go.Proofs.YtkbciljfjijclaaGreatDoor

namespace Go.Proofs.YtkbciljfjijclaaGreatDoor
open Go.RowKit

end Go.Proofs.YtkbciljfjijclaaGreatDoor

namespace Go.Proofs.YtkbciljfjijclaaGreatDoor
open Go.RowKit

end Go.Proofs.YtkbciljfjijclaaGreatDoor
