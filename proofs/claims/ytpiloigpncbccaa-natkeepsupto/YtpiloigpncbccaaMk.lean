/-
  Digits that a function gives.
-/
import Derived.Test.YtpiloigpncbccaaAddM
namespace Go.Proofs.Ytpiloigpncbccaa

/-- The first n digits that a function gives. -/
def mk (D : Nat → Nat) (n : Nat) : List Nat := (List.range n).map D
theorem mk_len (D : Nat → Nat) (n : Nat) : (mk D n).length = n := by simp [mk]
theorem mk_succ (D : Nat → Nat) (n : Nat) : mk D (n + 1) = mk D n ++ [D n] := by simp [mk, List.range_succ]
theorem dg_mk (D : Nat → Nat) (n j : Nat) (h : j < n) : dg (mk D n) j = D j := by simp [dg, mk, h]

theorem new_cell (w : World) (v : Value) (t : TypeId) : ∀ (j : Nat) (u : Value), [v][j]? = some u → (w.alloc (Obj.cells #[v] t)).cell? ((⟨w.heap.size, 0, none⟩ : Addr).add j) = some u := by
  intro j u hj
  match j, hj with
  | 0, hj =>
    simp at hj
    subst hj
    simp [Addr.add]

theorem one_one (k : IntKind) (n : Int) : ∀ u ∈ [Value.int k n], u.oneCell' = true := by
  intro u hu; simp at hu; subst hu; rfl

end Go.Proofs.Ytpiloigpncbccaa
