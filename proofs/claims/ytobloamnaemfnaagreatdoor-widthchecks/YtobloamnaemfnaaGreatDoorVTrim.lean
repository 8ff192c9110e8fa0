/-
  What nat.limb and nat.trim do.
-/
import Derived.Test.YtobloamnaemfnaaGreatDoorProg
import Derived.Test.YtobloamnaemfnaaGreatDoorVMem
namespace Go.Proofs.YtobloamnaemfnaaGreatDoor
open Go.RowKit

set_option maxHeartbeats 400000 in
theorem limb_in (b o len cap i : Nat) (n : Int) (w : World) (hi : i < len) (_hl : len ≤ 1000000000000)
    (hc : w.cell? ⟨b, o + i, none⟩ = some (.int .u64 n)) :
    Calls Tryz.prog 228 #[.slice (some ⟨b, o, none⟩) len cap, .int .i64 i] w fun e w' => e = .returned (.int .u64 n) ∧ w' = w := by
  have hlt : (i : Int) < (len : Int) := by omega
  go_enter Tryz.func228, Tryz.ntmps228
  go_wp2
  go_ret
  exact ⟨rfl, rfl⟩

set_option maxHeartbeats 400000 in
theorem limb_out (ao : Option Addr) (len cap i : Nat) (w : World) (hi : len ≤ i) (_hl : i ≤ 1000000000000) :
    Calls Tryz.prog 228 #[.slice ao len cap, .int .i64 i] w fun e w' => e = .returned (.int .u64 0) ∧ w' = w := by
  have hlt : (len : Int) ≤ (i : Int) := by omega
  go_enter Tryz.func228, Tryz.ntmps228
  go_wp2
  go_ret
  exact ⟨rfl, rfl⟩


set_option maxHeartbeats 400000 in
theorem trim_nil (ao : Option Addr) (cap : Nat) (w : World) (_hc : 0 ≤ 1000000000000 ∧ cap ≤ 9223372036854775807) :
    Calls Tryz.prog 159 #[.slice ao 0 cap] w fun e w' => e = .returned (.slice ao 0 cap) ∧ w' = w := by
  go_enter Tryz.func159, Tryz.ntmps159
  go_wp2
  refine wp_loop_rounds 1 ?_
  rw [rounds_succ]
  go_wp2
  go_ret
  exact ⟨rfl, rfl⟩

set_option maxHeartbeats 400000 in
theorem trim_at (b o len cap : Nat) (xs : List Nat) (w : World) (hcap : len ≤ cap) (_hc : len ≤ 1000000000000 ∧ cap ≤ 9223372036854775807) (hlen : xs.length = len)
    (hcell : ∀ i, i < xs.length → w.cell? ⟨b, o + i, none⟩ = some (.int .u64 ((xs[i]?.getD 0 : Nat) : Int))) :
    Calls Tryz.prog 159 #[.slice (some ⟨b, o, none⟩) len cap] w fun e w' => e = .returned (.slice (some ⟨b, o, none⟩) (tops xs len) cap) ∧ w' = w := by
  go_enter Tryz.func159, Tryz.ntmps159
  go_wp2
  go_loop [3] (fun n => ∃ k : Nat, k ≤ len ∧ n = .int .i64 k ∧ tops xs len = tops xs k) (fun n => (intOf n).toNat)
  case atStart => exact ⟨len, Nat.le_refl _, rfl, rfl⟩
  case round =>
    obtain ⟨k, hk, rfl, ht⟩ := hrel
    have HT : Hid (tops xs len = tops xs k) := ht
    clear ht
    have htl := tops_le xs k
    rcases k with _ | k
    · go_wp2
      go_ret
      exact ⟨by rw [HT.out]; rfl, rfl⟩
    · have hck := hcell k (by omega)
      have hpos : (0 : Int) < ((k + 1 : Nat) : Int) := by omega
      by_cases hz : xs[k]?.getD 0 = 0
      · rw [hz] at hck
        go_wp2
        go_round
        case rel => exact ⟨k, by omega, by go_num, by rw [HT.out]; simp [tops, hz]⟩
        case measure => simp [intOf]
      · go_wp2
        go_ret
        exact ⟨by rw [HT.out]; simp [tops, hz], rfl⟩
theorem trim_any (ao : Option Addr) (len cap : Nat) (xs : List Nat) (w : World) (hcap : len ≤ cap) (hc : len ≤ 1000000000000 ∧ cap ≤ 9223372036854775807) (hlen : xs.length = len) (hat : At .u64 w ao xs) :
    Calls Tryz.prog 159 #[.slice ao len cap] w fun e w' => e = .returned (.slice ao (tops xs len) cap) ∧ w' = w := by
  rcases hat with rfl | ⟨b, o, rfl, _, h3⟩
  · obtain rfl : len = 0 := hlen.symm
    exact trim_nil ao cap w hc
  · exact trim_at b o len cap xs w hcap hc hlen h3

end Go.Proofs.YtobloamnaemfnaaGreatDoor
