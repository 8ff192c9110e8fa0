/-
  The reference's Build.
-/
import Derived.Test.YtkgapklhgkngnaaDoorDB12
import Derived.Test.YtkgapklhgkngnaaDoorDB7
import Derived.Lib.AppendStr
namespace Go.Proofs.YtkgapklhgkngnaaDoor
open Go.RowKit

theorem rput_put (x : Sp) : ∀ l : List Sp, rputL x l = putS x l
  | [] => rfl
  | y :: l => by
    unfold rputL putS
    have e : ahdB x y = true ↔ ¬ LtS y x := by
      unfold ahdB LtS
      simp only [Bool.or_eq_true, Bool.and_eq_true, decide_eq_true_eq]
      omega
    by_cases h : LtS y x
    · rw [if_pos h, if_neg (fun q => e.1 q h), rput_put x l]
    · rw [if_neg h, if_pos (e.2 h)]
end Go.Proofs.YtkgapklhgkngnaaDoor
