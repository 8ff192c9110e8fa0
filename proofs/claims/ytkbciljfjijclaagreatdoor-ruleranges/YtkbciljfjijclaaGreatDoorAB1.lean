/-
  From what a row of the given statements hands over (readings of the arguments, the bound on their bulk) to the words of the walks.
  Plain mathematics of adding and taking away with a carry, digit by digit.
-/
import Derived.Test.YtkbciljfjijclaaGreatDoorRows
import Derived.Test.YtkbciljfjijclaaGreatDoorAOwn
import Derived.ProofKit
import Derived.OpenShut
import Derived.JoinedCond
namespace Go.Proofs.YtkbciljfjijclaaGreatDoor
open Go.ChangeShapes Go.WideShapes Go.ChangeAt Go.RowKit

theorem Tryz.own : ownKnob Tryz.prog.godebug = none := by kernel_rfl
end Go.Proofs.YtkbciljfjijclaaGreatDoor

namespace Go.Proofs.YtkbciljfjijclaaGreatDoor

end Go.Proofs.YtkbciljfjijclaaGreatDoor
