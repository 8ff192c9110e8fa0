/-
  What nat.Uint does.
-/
import Derived.Test.YtobloamnaemfnaaGreatDoorVUint
namespace Go.Proofs.YtobloamnaemfnaaGreatDoor
open Go.RowKit

def UintPost (w : World) (m n : Nat) (e : Ending) (w' : World) : Prop :=
  e = .returned (.tuple #[.int .u64 ((if m ≤ 1 then n else 0 : Nat) : Int), .bool (decide (m ≤ 1))]) ∧ w = w'

set_option maxHeartbeats 1000000 in
theorem uint_any (ao : Option Addr) (la ca : Nat) (xs : List Nat) (w : World) (hla : la ≤ ca) (hca : ca ≤ 1000000000000) (hx : xs.length = la) (hax : At .u64 w ao xs) :
    Calls Tryz.prog 195 #[.slice ao la ca] w (UintPost w (trimmed xs).length (num B64 xs)) := by
  obtain ⟨m, hm⟩ : ∃ m, m = (trimmed xs).length := ⟨_, rfl⟩
  have hml : m ≤ la := by rw [hm, ← hx]; exact length_trimmed_le xs
  have T1 : Hid ((trimmed xs).length = m) := hm.symm
  clear hm
  by_cases h : m ≤ 1
  · have h' : ¬ (1 : Int) < (m : Int) := by omega
    go_enter Tryz.func195, Tryz.ntmps195
    go_wp2_with fail
    refine (trim_to ao la ca m xs _ hla (by omega) hx hax T1.out).mono ?_
    rintro e w' ⟨rfl, rfl⟩
    go_wp2_with fail
    refine (limb_any ao la ca 0 (dg xs 0) _ (by omega) (by omega) (by rw [← hx]; exact hax.limb 0)).mono ?_
    rintro e w' ⟨rfl, rfl⟩
    go_wp2
    go_ret2
    refine ⟨?_, rfl⟩
    rw [T1.out, if_pos h, num_small (by rw [T1.out]; exact h), decide_eq_true h]
    rfl
  · have h' : (1 : Int) < (m : Int) := by omega
    go_enter Tryz.func195, Tryz.ntmps195
    go_wp2_with fail
    refine (trim_to ao la ca m xs _ hla (by omega) hx hax T1.out).mono ?_
    rintro e w' ⟨rfl, rfl⟩
    go_wp2
    go_ret2
    refine ⟨?_, rfl⟩
    rw [T1.out, if_neg h, decide_eq_false h]
    rfl

end Go.Proofs.YtobloamnaemfnaaGreatDoor
