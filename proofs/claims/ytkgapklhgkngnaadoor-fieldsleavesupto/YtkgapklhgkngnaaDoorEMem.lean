/-
  What is meant by 'the numbers xs lie at the address ao': the words that the walks of package nat and of its reference are stated in.
-/
import Derived.WalkKit
import Derived.WalkSpells
namespace Go.Proofs.YtkgapklhgkngnaaDoor
open Go.RowKit

theorem hide {p : Prop} (h : p) : Hid p := h

end Go.Proofs.YtkgapklhgkngnaaDoor
