/-
  From what a row of the given statements hands over (readings of the arguments, the bound on their bulk) to the words of the walks.
  Plain mathematics of adding and taking away with a carry, digit by digit.
-/
import Derived.Test.YtkgapklhgkngnaaDoorRows
import Derived.Test.YtkgapklhgkngnaaDoorBOwn
import Derived.ProofKit
import Derived.OpenShut
import Derived.JoinedCond
namespace Go.Proofs.YtkgapklhgkngnaaDoor
open Go.ChangeShapes Go.WideShapes Go.ChangeAt Go.RowKit

theorem Tryd.own : ownKnob Tryd.prog.godebug = none := by kernel_rfl
theorem Tryd.laidOut : laidOutB Tryd.prog = true := by kernel_rfl
end Go.Proofs.YtkgapklhgkngnaaDoor

namespace Go.Proofs.YtkgapklhgkngnaaDoor

end Go.Proofs.YtkgapklhgkngnaaDoor
