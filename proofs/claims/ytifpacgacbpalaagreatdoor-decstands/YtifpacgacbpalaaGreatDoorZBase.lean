/-
  What is meant by 'the numbers xs lie at the address ao': the words that the walks of package nat and of its reference are stated in.
  What nat.limb and nat.trim do.
  What nat.eachPair does with whatever function it is handed: round by round, over the limbs of both lists.
-/
import Derived.WalkKit
import Derived.WalkSpells
import Derived.Test.YtifpacgacbpalaaGreatDoorProg
namespace Go.Proofs.YtifpacgacbpalaaGreatDoor
open Go.RowKit

/-- The numbers xs, of kind k, lie one behind the other at the address ao. -/
def At (k : IntKind) (w : World) (ao : Option Addr) (xs : List Nat) : Prop :=
  xs = [] ∨ ∃ b o, ao = some ⟨b, o, none⟩ ∧ b < w.heap.size ∧ ∀ i, i < xs.length → w.cell? ⟨b, o + i, none⟩ = some (.int k ((xs[i]?.getD 0 : Nat) : Int))

theorem At.nil (k : IntKind) (w : World) (ao : Option Addr) : At k w ao [] := .inl rfl

theorem At.below {k : IntKind} {w w' : World} {ao : Option Addr} {xs : List Nat} (h : At k w ao xs) (hb : Below w.heap.size w w') : At k w' ao xs := by
  rcases h with h | ⟨b, o, h1, h2, h3⟩
  · exact .inl h
  · exact .inr ⟨b, o, h1, Nat.lt_of_lt_of_le h2 hb.size, fun i hi => (hb.cell h2).trans (h3 i hi)⟩

theorem At.take {k : IntKind} {w : World} {ao : Option Addr} {xs : List Nat} (h : At k w ao xs) (n : Nat) : At k w ao (xs.take n) := by
  rcases h with h | ⟨b, o, h1, h2, h3⟩
  · left; simp [h]
  · refine .inr ⟨b, o, h1, h2, fun i hi => ?_⟩
    simp only [List.length_take] at hi
    rw [h3 i (by omega), List.getElem?_take_of_lt (by omega)]

/-- The number without noughts on top: how many limbs stay. -/
def tops (xs : List Nat) : Nat → Nat
  | 0 => 0
  | n + 1 => if xs[n]?.getD 0 = 0 then tops xs n else n + 1

theorem tops_le (xs : List Nat) (n : Nat) : tops xs n ≤ n := by
  induction n with
  | zero => simp [tops]
  | succ n ih => simp only [tops]; split <;> omega

def trimmed (xs : List Nat) : List Nat := xs.take (tops xs xs.length)

theorem length_trimmed (xs : List Nat) : (trimmed xs).length = tops xs xs.length := by
  have := tops_le xs xs.length
  simp [trimmed]; omega

end Go.Proofs.YtifpacgacbpalaaGreatDoor

namespace Go.Proofs.YtifpacgacbpalaaGreatDoor
open Go.RowKit

set_option maxHeartbeats 400000 in
theorem limb_in (b o len cap i : Nat) (n : Int) (w : World) (hi : i < len) (_hl : len ≤ 1000000000000)
    (hc : w.cell? ⟨b, o + i, none⟩ = some (.int .u64 n)) :
    Calls Tryz.prog 155 #[.slice (some ⟨b, o, none⟩) len cap, .int .i64 i] w fun e w' => e = .returned (.int .u64 n) ∧ w' = w := by
  have hlt : (i : Int) < (len : Int) := by omega
  go_enter Tryz.func155, Tryz.ntmps155
  go_wp2
  go_ret
  exact ⟨rfl, rfl⟩

set_option maxHeartbeats 400000 in
theorem limb_out (ao : Option Addr) (len cap i : Nat) (w : World) (hi : len ≤ i) (_hl : i ≤ 1000000000000) :
    Calls Tryz.prog 155 #[.slice ao len cap, .int .i64 i] w fun e w' => e = .returned (.int .u64 0) ∧ w' = w := by
  have hlt : (len : Int) ≤ (i : Int) := by omega
  go_enter Tryz.func155, Tryz.ntmps155
  go_wp2
  go_ret
  exact ⟨rfl, rfl⟩


set_option maxHeartbeats 400000 in
theorem trim_nil (ao : Option Addr) (cap : Nat) (w : World) (_hc : 0 ≤ 1000000000000 ∧ cap ≤ 9223372036854775807) :
    Calls Tryz.prog 100 #[.slice ao 0 cap] w fun e w' => e = .returned (.slice ao 0 cap) ∧ w' = w := by
  go_enter Tryz.func100, Tryz.ntmps100
  go_wp2
  refine wp_loop_rounds 1 ?_
  rw [rounds_succ]
  go_wp2
  go_ret
  exact ⟨rfl, rfl⟩

set_option maxHeartbeats 400000 in
theorem trim_at (b o len cap : Nat) (xs : List Nat) (w : World) (hcap : len ≤ cap) (_hc : len ≤ 1000000000000 ∧ cap ≤ 9223372036854775807) (hlen : xs.length = len)
    (hcell : ∀ i, i < xs.length → w.cell? ⟨b, o + i, none⟩ = some (.int .u64 ((xs[i]?.getD 0 : Nat) : Int))) :
    Calls Tryz.prog 100 #[.slice (some ⟨b, o, none⟩) len cap] w fun e w' => e = .returned (.slice (some ⟨b, o, none⟩) (tops xs len) cap) ∧ w' = w := by
  go_enter Tryz.func100, Tryz.ntmps100
  go_wp2
  go_loop [3] (fun n => ∃ k : Nat, k ≤ len ∧ n = .int .i64 k ∧ tops xs len = tops xs k) (fun n => (intOf n).toNat)
  case atStart => exact ⟨len, Nat.le_refl _, rfl, rfl⟩
  case round =>
    obtain ⟨k, hk, rfl, ht⟩ := hrel
    have HT : Hid (tops xs len = tops xs k) := ht
    clear ht
    have htl := tops_le xs k
    rcases k with _ | k
    · go_wp2
      go_ret
      exact ⟨by rw [HT.out]; rfl, rfl⟩
    · have hck := hcell k (by omega)
      have hpos : (0 : Int) < ((k + 1 : Nat) : Int) := by omega
      by_cases hz : xs[k]?.getD 0 = 0
      · rw [hz] at hck
        go_wp2
        go_round
        case rel => exact ⟨k, by omega, by go_num, by rw [HT.out]; simp [tops, hz]⟩
        case measure => simp [intOf]
      · go_wp2
        go_ret
        exact ⟨by rw [HT.out]; simp [tops, hz], rfl⟩
/-- nat.trim: the same memory, as many limbs as stay. -/
theorem trim_any (ao : Option Addr) (len cap : Nat) (xs : List Nat) (w : World) (hcap : len ≤ cap) (hc : len ≤ 1000000000000 ∧ cap ≤ 9223372036854775807) (hlen : xs.length = len) (hat : At .u64 w ao xs) :
    Calls Tryz.prog 100 #[.slice ao len cap] w fun e w' => e = .returned (.slice ao (tops xs len) cap) ∧ w' = w := by
  rcases hat with rfl | ⟨b, o, rfl, _, h3⟩
  · obtain rfl : len = 0 := hlen.symm
    exact trim_nil ao cap w hc
  · exact trim_at b o len cap xs w hcap hc hlen h3

end Go.Proofs.YtifpacgacbpalaaGreatDoor

namespace Go.Proofs.YtifpacgacbpalaaGreatDoor
open Go.RowKit

/-- The i-th limb of a list that lies at ao, in the world w: x, or nought behind its end. -/
def LimbAt (w : World) (ao : Option Addr) (len i x : Nat) : Prop :=
  (i < len → ∃ b o, ao = some ⟨b, o, none⟩ ∧ w.cell? ⟨b, o + i, none⟩ = some (.int .u64 (x : Int))) ∧ (len ≤ i → x = 0)

theorem limb_any (ao : Option Addr) (len cap i x : Nat) (w : World) (hl : len ≤ 1000000000000) (hi : i ≤ 1000000000000) (h : LimbAt w ao len i x) :
    Calls Tryz.prog 155 #[.slice ao len cap, .int .i64 i] w fun e w' => e = .returned (.int .u64 x) ∧ w = w' := by
  by_cases hlt : i < len
  · obtain ⟨b, o, rfl, hc⟩ := h.1 hlt
    exact (limb_in b o len cap i x w hlt hl hc).mono (fun e w' ⟨h1, h2⟩ => ⟨h1, h2.symm⟩)
  · obtain rfl := h.2 (by omega)
    exact (limb_out ao len cap i w (by omega) hi).mono (fun e w' ⟨h1, h2⟩ => ⟨h1, h2.symm⟩)

set_option maxHeartbeats 1000000 in
theorem each_any (ao bo : Option Addr) (la ca lb cb : Nat) (f : Nat) (cs : Array Value) (x y : Nat → Nat) (I : Nat → World → Prop) (w : World)
    (hla : la ≤ 1000000000000) (hlb : lb ≤ 1000000000000) (hf : ∀ args w, (callFunc f args).run Tryz.prog w = .ok (.enter f args) w)
    (hx : ∀ i w, i < max la lb → I i w → LimbAt w ao la i (x i)) (hy : ∀ i w, i < max la lb → I i w → LimbAt w bo lb i (y i))
    (hdo : ∀ i w, i < max la lb → I i w → Calls Tryz.prog f (#[.int .i64 i, .int .u64 (x i : Int), .int .u64 (y i : Int)] ++ cs) w fun e w' => e = .returned (.tuple #[]) ∧ I (i + 1) w')
    (h0 : I 0 w) :
    Calls Tryz.prog 133 #[.slice ao la ca, .slice bo lb cb, .func (.func f) #[] cs] w fun e w' => e = .returned (.tuple #[]) ∧ I (max la lb) w' := by
  obtain ⟨n, hn⟩ : ∃ n, n = max la lb := ⟨_, rfl⟩
  rw [← hn] at hx hy hdo ⊢
  have hn1 : n ≤ 1000000000000 := by omega
  have Hx := hx
  have HX : Hid (∀ i w, i < n → I i w → LimbAt w ao la i (x i)) := hx
  have HY : Hid (∀ i w, i < n → I i w → LimbAt w bo lb i (y i)) := hy
  have HD : Hid (∀ i w, i < n → I i w → Calls Tryz.prog f (#[.int .i64 i, .int .u64 (x i : Int), .int .u64 (y i : Int)] ++ cs) w fun e w' => e = .returned (.tuple #[]) ∧ I (i + 1) w') := hdo
  have H0 : Hid (I 0 w) := h0
  have HN : Hid (n = max la lb) := hn
  have hmax : ∀ (w : World) (ts : Array TypeId) (t : TypeId), (Builtin.max_ ts t #[.int .i64 (la : Int), .int .i64 (lb : Int)]).run Tryz.prog w = .ok (.int .i64 (n : Int)) w := by
    intro w ts t
    rw [run_max_int2, hn]
    congr 2
    split <;> omega
  clear hx hy hdo h0 Hx hn
  go_enter Tryz.func133, Tryz.ntmps133
  go_wp2
  go_loopw [6, 12] (fun _ i wr => ∃ k : Nat, k ≤ n ∧ i = .int .i64 k ∧ I k wr) (fun _ i _ => n - (intOf i).toNat)
  case atStart => exact ⟨0, Nat.zero_le _, rfl, H0.out⟩
  case round =>
    obtain ⟨k, hk, rfl, hI⟩ := hrel
    by_cases hlt : k < n
    · have hlt' : (k : Int) < (n : Int) := by omega
      go_wp2_with fail
      refine (limb_any ao la ca k (x k) _ hla (by omega) (HX.out k wr hlt hI)).mono ?_
      rintro e w' ⟨rfl, rfl⟩
      go_wp2_with fail
      refine (limb_any bo lb cb k (y k) _ hlb (by omega) (HY.out k wr hlt hI)).mono ?_
      rintro e w' ⟨rfl, rfl⟩
      go_wp2_with fail
      refine (HD.out k wr hlt hI).mono ?_
      rintro e w' ⟨rfl, hI'⟩
      go_wp2
      go_roundw
      case rel => exact ⟨k + 1, by omega, by go_num, hI'⟩
      case measure => simp [intOf]; omega
    · have hge : (n : Int) ≤ (k : Int) := by omega
      go_wp2
      go_end0
      obtain rfl : k = n := by omega
      exact ⟨rfl, hI⟩

end Go.Proofs.YtifpacgacbpalaaGreatDoor
