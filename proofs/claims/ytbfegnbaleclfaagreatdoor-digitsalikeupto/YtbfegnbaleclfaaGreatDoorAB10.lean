/-
  What whole.DivMod does.
  What quipulaw02.same does of two numbers that are the same.
  whole's functions in the words of the numbers themselves.
  What whole.areDigits, whole.chunkOf and whole.Parse do.
-/
import Derived.Test.YtbfegnbaleclfaaGreatDoorAB9
import Derived.Test.YtbfegnbaleclfaaGreatDoorAB7
import Derived.Deep.RegionHeld3
import Derived.Test.YtbfegnbaleclfaaGreatDoorAB8
import Derived.Test.YtbfegnbaleclfaaGreatDoorASame
import Derived.Test.YtbfegnbaleclfaaGreatDoorAB4
import Derived.Test.YtbfegnbaleclfaaGreatDoorAB5
import Derived.Test.YtbfegnbaleclfaaGreatDoorADown
import Derived.Test.YtbfegnbaleclfaaGreatDoorAB2
namespace Go.Proofs.YtbfegnbaleclfaaGreatDoor
open Go.RowKit

end Go.Proofs.YtbfegnbaleclfaaGreatDoor

namespace Go.Proofs.YtbfegnbaleclfaaGreatDoor
open Go.RowKit

end Go.Proofs.YtbfegnbaleclfaaGreatDoor

namespace Go.Proofs.YtbfegnbaleclfaaGreatDoor
open Go.RowKit

def NV (s : Bool) (x : List Nat) (z : Int) : Prop := Ok B64 x ∧ zv s (num B64 x) = z
section
variable (s t : Bool) (ao bo : Option Addr) (la ca lb cb : Nat) (xs ys : List Nat) (w : World) (hla : la ≤ ca) (hlb : lb ≤ cb) (hx : xs.length = la) (hy : ys.length = lb) (hax : At .u64 w ao xs) (hay : At .u64 w bo ys) (z u : Int) (hz : Hid (NV s xs z)) (hu : Hid (NV t ys u))
include hla hlb hx hy hax hay hz hu
end

end Go.Proofs.YtbfegnbaleclfaaGreatDoor

namespace Go.Proofs.YtbfegnbaleclfaaGreatDoor
open Go.RowKit

end Go.Proofs.YtbfegnbaleclfaaGreatDoor
