/-
  What the reference's trim does.
-/
import Derived.Test.YtionbkmbhhlmjaaGreatDoorXOwn
namespace Go.Proofs.YtionbkmbhhlmjaaGreatDoor
open Go.RowKit

set_option maxHeartbeats 400000 in
theorem rtrim_nil (ao : Option Addr) (cap : Nat) (w : World) :
    Calls Tryz.prog 49 #[.slice ao 0 cap] w fun e w' => e = .returned (.slice ao 0 cap) ∧ w' = w := by
  go_enter Tryz.func49, Tryz.ntmps49
  go_wp2
  refine wp_loop_rounds 1 ?_
  rw [rounds_succ]
  go_wp2
  go_ret
  exact ⟨rfl, rfl⟩

set_option maxHeartbeats 400000 in
theorem rtrim_at (b o len cap : Nat) (xs : List Nat) (w : World) (hcap : len ≤ cap) (_hc : len ≤ 1000000000000) (hlen : xs.length = len)
    (hcell : ∀ i, i < xs.length → w.cell? ⟨b, o + i, none⟩ = some (.int .u32 ((xs[i]?.getD 0 : Nat) : Int))) :
    Calls Tryz.prog 49 #[.slice (some ⟨b, o, none⟩) len cap] w fun e w' => e = .returned (.slice (some ⟨b, o, none⟩) (tops xs len) cap) ∧ w' = w := by
  go_enter Tryz.func49, Tryz.ntmps49
  go_wp2
  go_loop [3] (fun n => ∃ k : Nat, k ≤ len ∧ n = .int .i64 k ∧ tops xs len = tops xs k) (fun n => (intOf n).toNat)
  case atStart => exact ⟨len, Nat.le_refl _, rfl, rfl⟩
  case round =>
    obtain ⟨k, hk, rfl, ht⟩ := hrel
    have HT : Hid (tops xs len = tops xs k) := ht
    clear ht
    have htl := tops_le xs k
    rcases k with _ | k
    · go_wp2
      go_ret
      exact ⟨by rw [HT.out]; rfl, rfl⟩
    · have hck := hcell k (by omega)
      have hpos : (0 : Int) < ((k + 1 : Nat) : Int) := by omega
      by_cases hz : xs[k]?.getD 0 = 0
      · rw [hz] at hck
        go_wp2
        go_round
        case rel => exact ⟨k, by omega, by go_num, by rw [HT.out]; simp [tops, hz]⟩
        case measure => simp [intOf]
      · go_wp2
        go_ret
        exact ⟨by rw [HT.out]; simp [tops, hz], rfl⟩

theorem rtrim_any (ao : Option Addr) (len cap : Nat) (xs : List Nat) (w : World) (hcap : len ≤ cap) (hc : len ≤ 1000000000000) (hlen : xs.length = len) (hat : At .u32 w ao xs) :
    Calls Tryz.prog 49 #[.slice ao len cap] w fun e w' => e = .returned (.slice ao (tops xs len) cap) ∧ w' = w := by
  rcases hat with rfl | ⟨b, o, rfl, _, h3⟩
  · obtain rfl : len = 0 := hlen.symm
    exact rtrim_nil ao cap w
  · exact rtrim_at b o len cap xs w hcap hc hlen h3

theorem rtrim_to (ao : Option Addr) (len cap n : Nat) (xs : List Nat) (w : World) (hcap : len ≤ cap) (hc : len ≤ 1000000000000) (hlen : xs.length = len) (hat : At .u32 w ao xs) (hn : (trimmed xs).length = n) :
    Calls Tryz.prog 49 #[.slice ao len cap] w fun e w' => e = .returned (.slice ao n cap) ∧ w = w' := by
  refine (rtrim_any ao len cap xs w hcap hc hlen hat).mono ?_
  rintro e w' ⟨rfl, rfl⟩
  subst hlen
  rw [length_trimmed] at hn
  rw [hn]
  exact ⟨rfl, rfl⟩

theorem Tryz.infoD : (Tryz.prog.info? 96).map (fun i => (i.zero, i.size, i.bytes)) = some (some (.int .u32 0), 1, 4) := by kernel_rfl

end Go.Proofs.YtionbkmbhhlmjaaGreatDoor
