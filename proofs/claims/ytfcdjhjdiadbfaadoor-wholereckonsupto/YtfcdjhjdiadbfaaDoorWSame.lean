/-
  What quipulaw02.same does of two numbers that are the same.
-/
import Derived.Test.YtfcdjhjdiadbfaaDoorZWhole
import Derived.Test.YtfcdjhjdiadbfaaDoorSame
namespace Go.Proofs.YtfcdjhjdiadbfaaDoor
open Go.RowKit

set_option maxHeartbeats 1000000 in
theorem samew_true (n : Bool) (ao bo : Option Addr) (la ca cb : Nat) (xs : List Nat) (w : World) (hla : la ≤ 1000000000000) (hx : xs.length = la) (hax : At .u64 w ao xs) (hay : At .u64 w bo xs) :
    Calls Tryd.prog 22 #[.agg #[.bool n, .slice ao la ca], .agg #[.bool n, .slice bo la cb]] w fun e w' => e = .returned (.bool true) ∧ Below w.heap.size w w' := by
  have hb0 : Below w.heap.size w ((w.alloc (Obj.cells #[Value.bool n, Value.slice ao la ca] 24)).alloc (Obj.cells #[Value.bool n, Value.slice bo la cb] 24)) := ((Below.refl _ _).alloc (Nat.le_refl _) _).alloc (by simp) _
  have ax0 := (hax.alloc (Obj.cells #[Value.bool n, Value.slice ao la ca] 24)).alloc (Obj.cells #[Value.bool n, Value.slice bo la cb] 24)
  have ay0 := (hay.alloc (Obj.cells #[Value.bool n, Value.slice ao la ca] 24)).alloc (Obj.cells #[Value.bool n, Value.slice bo la cb] 24)
  clear hax hay
  cases n
  all_goals
    go_enter Tryd.func22, Tryd.ntmps22
    go_wp2_with fail
    refine (same_any ao bo la ca la cb xs xs _ hla hx hx ax0 ay0).mono ?_
    rintro e w1 ⟨rfl, hb⟩
    rw [show decide (xs = xs) = true from decide_eq_true rfl]
    go_wp2
    go_ret
    exact ⟨rfl, hb0.trans (hb.mono hb0.size)⟩

end Go.Proofs.YtfcdjhjdiadbfaaDoor
