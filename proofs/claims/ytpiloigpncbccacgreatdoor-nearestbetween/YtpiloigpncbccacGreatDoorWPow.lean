/-
  What whole.Pow5 and whole.Pow10 do.
-/
import Derived.Test.YtpiloigpncbccacGreatDoorZMul
import Derived.Test.YtpiloigpncbccacGreatDoorDown
import Derived.Test.YtpiloigpncbccacGreatDoorZLong
import Derived.Laws.BitsLemmas
namespace Go.Proofs.YtpiloigpncbccacGreatDoor
open Go.RowKit

theorem i64_and1 (n : Int) : bits .and .i64 n 1 = n % 2 := by
  have h1 : (BitVec.ofInt 64 1).toNat = 2 ^ 1 - 1 := by decide
  have key : (BitVec.ofInt 64 n &&& BitVec.ofInt 64 1).toNat = (n % ((2 ^ 64 : Nat) : Int)).toNat % 2 ^ 1 := by
    rw [BitVec.toNat_and, BitVec.toNat_ofInt, h1, Nat.and_two_pow_sub_one_eq_mod]
  show IntKind.i64.wrap ((BitVec.ofInt 64 n &&& BitVec.ofInt 64 1).toNat : Nat) = n % 2
  rw [key, IntKind.wrap_i64]
  omega

set_option maxHeartbeats 400000 in
theorem blen_any (n : Nat) (w : World) (hn : n < 18446744073709551616) :
    Calls Tryz.prog 93 #[.int .u64 (n : Int)] w fun e w' => e = .returned (.int .i64 (bitsN n : Int)) ∧ w = w' := by
  have e : Lib.bitLen n = bitsN n := bitLen_bits n (by rw [show (2 : Nat) ^ 64 = 18446744073709551616 by decide +kernel]; exact hn)
  have L := len64 n
  rw [e] at L
  have HL := hide L
  clear L e
  go_enter Tryz.func93, Tryz.ntmps93
  go_wp2_with fail
  refine (HL.out _ hn).mono ?_
  rintro e w' ⟨rfl, rfl⟩
  go_wp2
  go_ret
  exact ⟨rfl, rfl⟩

theorem five_small : (5 : Nat) ^ 8192 < B64 ^ 400 := by decide +kernel

theorem five_len {r : List Nat} {e : Nat} (h : Is B64 r (5 ^ e)) (he : e ≤ 8192) : r.length ≤ 400 := by
  have h1 := Nat.pow_le_pow_right (show 0 < 5 by omega) he
  have h2 := five_small
  have h3 := trimmed_small (xs := r) (t := 400) (by rw [h.2.2]; omega)
  rw [trimmed_of_top h.2.1] at h3
  exact h3

/-- At the head of Pow5's loop, k bits of n being left. -/
structure PowInv (w : World) (n k : Nat) (v : Value) (wr : World) : Prop where
  bel : Below w.heap.size w wr
  own : ∃ r, Own .u64 22 wr w.heap.size 1000 v r ∧ Is B64 r (5 ^ (n / 2 ^ k))

theorem pow_bits (n k : Nat) : n / 2 ^ k = 2 * (n / 2 ^ (k + 1)) + n / 2 ^ k % 2 := by
  rw [Nat.pow_succ, ← Nat.div_div_eq_div_mul]; omega

set_option maxRecDepth 100000 in
set_option maxHeartbeats 1000000 in
theorem pow5_in (n : Nat) (w : World) (hn : n ≤ 8192) :
    Calls Tryz.prog 64 #[.int .i64 (n : Int)] w (ShPost w 1000 (5 ^ n) 0) := by
  have h0 : ¬ (n : Int) < 0 := by omega
  have h1 : ¬ 8192 < (n : Int) := by omega
  obtain ⟨m, hm⟩ : ∃ m, m = bitsN n := ⟨_, rfl⟩
  have hml : m ≤ 64 := by rw [hm]; exact bitsN_le (by show n < 18446744073709551616; omega)
  have HM : Hid (n / 2 ^ m = 0) := by
    show n / 2 ^ m = 0
    by_cases h : n = 0
    · subst h; exact Nat.zero_div _
    · obtain ⟨k, hk, _, h2⟩ := bitsN_spec h
      rw [hm, hk]; exact Nat.div_eq_of_lt h2
  have bl := fun w => blen_any n w (by omega)
  rw [← hm] at bl
  have BL := hide bl
  clear hm bl
  go_enter Tryz.func64, Tryz.ntmps64
  go_wp2_with fail
  refine (of_any 5 _ (by decide)).mono ?_
  rintro e w1 ⟨v, r5, rfl, ho5, io5, hb1⟩
  go_wp2_with fail
  refine (of_any 1 _ (by decide)).mono ?_
  rintro e w2 ⟨v2, r1, rfl, ho1, io1, hb2⟩
  have hb12 := hb1.trans (hb2.mono hb1.size)
  obtain ⟨o5, c5, rfl, hl5, hm5, at5⟩ := ho5.shape
  have at5' := at5.below hb2
  have hs1 : ∀ k, n / 2 ^ k = 0 → PowInv w n k v2 w2 := fun k hk => ⟨hb12, r1, ho1.mono hb1.size (by omega), by rw [hk]; exact io1⟩
  have HS1 := hide hs1
  have hsz := hb12.size
  have l5 : r5.length ≤ 1 := by omega
  clear hs1 ho5 ho1 at5 hb1 hb2
  go_wp2_with fail
  refine (BL.out _).mono ?_
  rintro e w' ⟨rfl, rfl⟩
  go_wp2
  go_loopw [5, 6] (fun v i wr => ∃ k : Nat, k ≤ 64 ∧ i = .int .i64 ((k : Int) - 1) ∧ PowInv w n k v wr ∧ At .u64 wr o5 r5) (fun _ i _ => (intOf i + 1).toNat)
  case atStart => exact ⟨m, hml, congrArg (Value.int IntKind.i64) (by omega), HS1.out _ HM.out, at5'⟩
  case round =>
    clear hb12 HS1 at5'
    obtain ⟨k, hk, rfl, hinv, hat5⟩ := hrel
    obtain ⟨r, hown, his⟩ := hinv.own
    have hbr := hinv.bel
    obtain ⟨op, cp, rfl, hlp, hmp, atp⟩ := hown.shape
    rcases k with _ | k
    · rw [Nat.pow_zero, Nat.div_one] at his
      clear hinv
      go_wp2
      go_ret2
      exact ⟨_, r, rfl, hown, his, hbr⟩
    · have hle : n / 2 ^ (k + 1) ≤ 8192 := Nat.le_trans (Nat.div_le_self _ _) hn
      have hrl := five_len his hle
      have pb := pow_bits n k
      have hlek : n / 2 ^ k ≤ 8192 := Nat.le_trans (Nat.div_le_self _ _) hn
      obtain ⟨u, hu⟩ : ∃ u, u = n / 2 ^ k := ⟨_, rfl⟩
      have m0 : (n : Int) / 2 ^ k = (u : Int) := by rw [hu]; push_cast; rfl
      have m1 : bits .and .i64 (u : Int) 1 = ((u % 2 : Nat) : Int) := by rw [i64_and1]; omega
      have hpw : ∀ (wr' : World) (v : Value) (r' : List Nat), Below wr.heap.size wr wr' → Own .u64 22 wr' wr.heap.size 1000 v r' → Is B64 r' (5 ^ u) → PowInv w n k v wr' := fun wr' v r' h1 h2 h3 =>
        ⟨hbr.trans (h1.mono hbr.size), r', h2.mono hbr.size (Nat.le_refl _), by rw [← hu]; exact h3⟩
      rw [← hu] at pb hlek
      have HPW := hide hpw
      have HPB : Hid (u = 2 * (n / 2 ^ (k + 1)) + u % 2) := pb
      have HU : Hid (u ≤ 8192) := hlek
      have hk63 : k ≤ 63 := by omega
      have h5k : 5 ^ (2 * (n / 2 ^ (k + 1))) = 5 ^ (n / 2 ^ (k + 1)) * 5 ^ (n / 2 ^ (k + 1)) := by rw [← Nat.pow_add]; congr 1; omega
      have H5 := hide h5k
      clear hinv hown hpw pb hu hlek h5k
      go_wp2_with fail
      refine (mul_any op op _ cp _ cp r r _ hlp (by omega) hlp (by omega) rfl rfl atp atp his.1 his.1).mono ?_
      rintro e w3 ⟨v3, r3, rfl, ho3, is3, hb3⟩
      rw [his.2.2, ← H5.out] at is3
      have hat3 := hat5.below hb3
      obtain ⟨o3, c3, rfl, hl3, hm3, at3⟩ := ho3.shape
      have hu2 : u % 2 = 0 ∨ u % 2 = 1 := by omega
      rcases hu2 with hu2 | hu2
      · rw [hu2] at m1
        have is3' : Is B64 r3 (5 ^ u) := by rw [HPB.out, hu2, Nat.add_zero]; exact is3
        have hst := HPW.out _ _ _ hb3 (ho3.mono (Nat.le_refl _) (by omega)) is3'
        have HST := hide hst
        have HAT := hide hat3
        clear hst hat3 hat5 at3 atp is3 is3' ho3 hb3 his hu2
        go_wp2
        go_roundw
        case rel => exact ⟨k, by omega, by go_num, HST.out, HAT.out⟩
        case measure => simp [intOf]
      · rw [hu2] at m1
        have hrl3 := five_len is3 (by have := HPB.out; have := HU.out; omega)
        clear hat5 atp his
        go_wp2_with fail
        refine (mul_any o3 o5 _ c3 _ c5 r3 r5 _ hl3 (by omega) hl5 (by omega) rfl rfl at3 hat3 is3.1 io5.1).mono ?_
        rintro e w4 ⟨v4, r4, rfl, ho4, is4, hb4⟩
        have is4' : Is B64 r4 (5 ^ u) := by
          rw [is3.2.2, io5.2.2, ← Nat.pow_succ] at is4
          rw [HPB.out, hu2]; exact is4
        have hst := HPW.out _ _ _ (hb3.trans (hb4.mono hb3.size)) (ho4.mono hb3.size (by omega)) is4'
        have HST := hide hst
        have HAT := hide (hat3.below hb4)
        clear hst hat3 at3 is3 is4 is4' ho3 ho4 hb3 hb4 hu2
        go_wp2
        go_roundw
        case rel => exact ⟨k, by omega, by go_num, HST.out, HAT.out⟩
        case measure => simp [intOf]

set_option maxHeartbeats 400000 in
theorem pow5_bad (n : Int) (w : World) (hn : n < 0 ∨ 8192 < n) :
    Calls Tryz.prog 64 #[.int .i64 n] w (ShPost w 0 0 23) := by
  rcases hn with hn | hn
  · go_enter Tryz.func64, Tryz.ntmps64
    go_wp2
    go_ret2
    exact ⟨_, [], rfl, .inl ⟨rfl, rfl⟩, Is.none (by decide), Below.refl _ _⟩
  · have h0 : ¬ n < 0 := by omega
    go_enter Tryz.func64, Tryz.ntmps64
    go_wp2
    go_ret2
    exact ⟨_, [], rfl, .inl ⟨rfl, rfl⟩, Is.none (by decide), Below.refl _ _⟩

set_option maxHeartbeats 400000 in
theorem pow10_in (n : Nat) (w : World) (hn : n ≤ 8192) :
    Calls Tryz.prog 38 #[.int .i64 (n : Int)] w (ShPost w 3000 (10 ^ n) 0) := by
  go_enter Tryz.func38, Tryz.ntmps38
  go_wp2_with fail
  refine (pow5_in n _ hn).mono ?_
  rintro e w1 ⟨v, r, rfl, hown, his, hb⟩
  have hrl := five_len his hn
  obtain ⟨o, c, rfl, hl, hm, hat⟩ := hown.shape
  clear hown
  go_wp2_with fail
  refine (shl_any o _ c n r _ (by omega) hl (by omega) rfl hat his.1).mono ?_
  rintro e w2 ⟨v2, r2, rfl, hown2, his2, hb2⟩
  have h10 : 5 ^ n * 2 ^ n = 10 ^ n := by rw [← Nat.mul_pow]
  rw [his.2.2, h10] at his2
  have hbw := hb.trans (hb2.mono hb.size)
  have hsz := hb.size
  clear hb hb2 his hat h10
  go_wp2
  go_ret2
  exact ⟨_, r2, rfl, hown2.mono hsz (by omega), his2, hbw⟩

set_option maxHeartbeats 400000 in
theorem pow10_bad (n : Int) (w : World) (hn : n < 0 ∨ 8192 < n) :
    Calls Tryz.prog 38 #[.int .i64 n] w (ShPost w 0 0 23) := by
  have P := fun w => pow5_bad n w hn
  have HP := hide P
  clear P hn
  go_enter Tryz.func38, Tryz.ntmps38
  go_wp2_with fail
  refine (HP.out _).mono ?_
  rintro e w1 ⟨v, r, rfl, hown, his, hb⟩
  obtain ⟨o, c, rfl, hl, hm, hat⟩ := hown.shape
  clear hown hat
  go_wp2
  go_ret2
  exact ⟨_, [], rfl, .inl ⟨rfl, rfl⟩, Is.none (by decide), hb⟩

end Go.Proofs.YtpiloigpncbccacGreatDoor
