/-
  RoundDigits answers true, whatever it is handed.
-/
import Derived.Test.YtcclbcnmkaobpaaGreatDoorZB27
import Derived.Test.YtcclbcnmkaobpaaGreatDoorZB32
namespace Go.Proofs.YtcclbcnmkaobpaaGreatDoor
open Go.RowKit

theorem rdigits_walk (w : World) (htab : Tab w) (ca : Int) (na : Bool) (ta : ByteArray) (ea : Int) (n m : Int) : Calls Tryz.prog 4 #[dcV ca na ta ea, .int .i64 n, .int .i64 m] w fun e w' => e = .returned (.bool true) ∧ Below w.heap.size w w' :=
  roundDigits_gen ca na ta ea n m _ _ _ _ _ w htab (fun W hT => Digits_any ca na ta ea n m W hT) (fun W => rDigits_any ca na ta ea n m W)

end Go.Proofs.YtcclbcnmkaobpaaGreatDoor
