/-
  What quipulaw01's kept does, of a list that is as it was.
-/
import Derived.Test.YtpiloigpncbccaaKOwn
import Derived.Test.YtpiloigpncbccaaSame
namespace Go.Proofs.Ytpiloigpncbccaa
open Go.RowKit

set_option maxRecDepth 100000 in
set_option maxHeartbeats 1000000 in
theorem kept_any (g la cap ca : Nat) (ao : Option Addr) (xs : List Nat) (w : World) (hla : la ≤ 2000000) (hcap : la + 1 ≤ cap) (hx : xs.length = la) (hg : At .u64 w (some ⟨g, 0, none⟩) (xs ++ [77])) (hax : At .u64 w ao xs) :
    Calls Try.prog 14 #[.slice (some ⟨g, 0, none⟩) la cap, .slice ao la ca] w fun e w' => e = .returned (.bool true) ∧ Below w.heap.size w w' := by
  have hgx : At .u64 w (some ⟨g, 0, none⟩) xs := by
    have h := hg.take la
    rwa [List.take_left' hx] at h
  have hc77 : ∀ w' : World, Below w.heap.size w w' → w'.cell? ⟨g, la, none⟩ = some (.int .u64 77) := by
    intro w' hb
    rcases hg with h | ⟨b, o, h1, h2, h3⟩
    · simp at h
    · simp only [Option.some.injEq, Addr.mk.injEq] at h1
      obtain ⟨rfl, rfl, _⟩ := h1
      have h4 := h3 la (by simp [hx])
      rw [hb.cell h2]
      simpa [← hx] using h4
  have HC := hide hc77
  clear hg hc77
  go_enter Try.func14, Try.ntmps14
  go_wp2_with fail
  refine (same_any (some ⟨g, 0, none⟩) ao la cap la ca xs xs _ (by omega) hx hx hgx hax).mono ?_
  rintro e w1 ⟨rfl, hb⟩
  rw [show decide (xs = xs) = true from decide_eq_true rfl]
  have c7 := HC.out w1 hb
  have HB := hide hb
  have t1 : (la : Int) < ((la + 1 : Nat) : Int) := by omega
  clear hgx hax hb
  go_wp2
  go_ret
  exact ⟨rfl, HB.out⟩

end Go.Proofs.Ytpiloigpncbccaa
