/-
  What whole.DivMod does.
  What quipulaw02.same does of two numbers that are the same.
  whole's functions in the words of the numbers themselves.
  What whole.areDigits, whole.chunkOf and whole.Parse do.
-/
import Derived.Test.YtionbkmbhhlmjaaGreatDoorSB9
import Derived.Test.YtionbkmbhhlmjaaGreatDoorSB7
import Derived.Deep.RegionHeld3
import Derived.Test.YtionbkmbhhlmjaaGreatDoorSB8
import Derived.Test.YtionbkmbhhlmjaaGreatDoorSSame
import Derived.Test.YtionbkmbhhlmjaaGreatDoorSB4
import Derived.Test.YtionbkmbhhlmjaaGreatDoorSB5
import Derived.Test.YtionbkmbhhlmjaaGreatDoorSDown
import Derived.Test.YtionbkmbhhlmjaaGreatDoorSB2
namespace Go.Proofs.YtionbkmbhhlmjaaGreatDoor
open Go.RowKit

end Go.Proofs.YtionbkmbhhlmjaaGreatDoor

namespace Go.Proofs.YtionbkmbhhlmjaaGreatDoor
open Go.RowKit

end Go.Proofs.YtionbkmbhhlmjaaGreatDoor

namespace Go.Proofs.YtionbkmbhhlmjaaGreatDoor
open Go.RowKit

def NV (s : Bool) (x : List Nat) (z : Int) : Prop := Ok B64 x ∧ zv s (num B64 x) = z
section
variable (s t : Bool) (ao bo : Option Addr) (la ca lb cb : Nat) (xs ys : List Nat) (w : World) (hla : la ≤ ca) (hlb : lb ≤ cb) (hx : xs.length = la) (hy : ys.length = lb) (hax : At .u64 w ao xs) (hay : At .u64 w bo ys) (z u : Int) (hz : Hid (NV s xs z)) (hu : Hid (NV t ys u))
include hla hlb hx hy hax hay hz hu
end

end Go.Proofs.YtionbkmbhhlmjaaGreatDoor

namespace Go.Proofs.YtionbkmbhhlmjaaGreatDoor
open Go.RowKit

end Go.Proofs.YtionbkmbhhlmjaaGreatDoor
