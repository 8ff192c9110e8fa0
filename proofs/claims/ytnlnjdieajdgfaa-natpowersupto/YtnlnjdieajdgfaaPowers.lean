/-
  The walk of quipulaw01.NatPowers: whatever two lists and number of bits are handed in, it answers true, and leaves what was there as it was.
-/
import Derived.Test.YtnlnjdieajdgfaaAwake
import Derived.Test.YtnlnjdieajdgfaaDivAny
import Derived.Test.YtnlnjdieajdgfaaIsSame
namespace Go.Proofs.Ytnlnjdieajdgfaa
open Go.RowKit

theorem bitsN_of {n x : Nat} (h1 : 2 ^ n ≤ x) (h2 : x < 2 ^ (n + 1)) : bitsN x = n + 1 := by
  obtain ⟨k, hk, h3, h4⟩ := bitsN_spec (show x ≠ 0 by have := Nat.two_pow_pos n; omega)
  rw [hk]
  have a1 : n < k + 1 := by
    rcases Nat.lt_or_ge n (k + 1) with e | e
    · exact e
    · have := Nat.pow_le_pow_right (show 0 < 2 by omega) e; omega
  have a2 : k < n + 1 := by
    rcases Nat.lt_or_ge k (n + 1) with e | e
    · exact e
    · have := Nat.pow_le_pow_right (show 0 < 2 by omega) e; omega
  omega

theorem bitsN_pow (n : Nat) : bitsN (2 ^ n) = n + 1 := bitsN_of (Nat.le_refl _) (Nat.pow_lt_pow_right (by omega) (by omega))

theorem bitsN_mul {a b : Nat} (ha : a ≠ 0) (hb : b ≠ 0) : bitsN (a * b) = bitsN a + bitsN b ∨ bitsN (a * b) + 1 = bitsN a + bitsN b := by
  obtain ⟨i, hi, h1, h2⟩ := bitsN_spec ha
  obtain ⟨j, hj, h3, h4⟩ := bitsN_spec hb
  rw [hi, hj]
  have lo : 2 ^ (i + j) ≤ a * b := by rw [Nat.pow_add]; exact Nat.mul_le_mul h1 h3
  have up : a * b < 2 ^ (i + j + 2) := by
    rw [show i + j + 2 = (i + 1) + (j + 1) by omega, Nat.pow_add]
    exact Nat.mul_lt_mul'' h2 h4
  by_cases h : a * b < 2 ^ (i + j + 1)
  · right; rw [bitsN_of lo h]; omega
  · left; rw [bitsN_of (n := i + j + 1) (by omega) up]; omega

theorem bitsN_big {xs : List Nat} (ox : Ok B64 xs) (hl : xs.length ≤ 1048576) : bitsN (num B64 xs) ≤ 100000000 := by
  by_cases h : num B64 xs = 0
  · rw [h]; simp [bitsN]
  · obtain ⟨k, hk, h1, _⟩ := bitsN_spec h
    have h2 := num_lt ox
    have h3 : B64 ^ xs.length = 2 ^ (64 * xs.length) := by rw [show B64 = 2 ^ 64 from B64_pow, ← Nat.pow_mul]
    rw [h3] at h2
    have : k < 64 * xs.length := by
      rcases Nat.lt_or_ge k (64 * xs.length) with e | e
      · exact e
      · have := Nat.pow_le_pow_right (show 0 < 2 by omega) e; omega
    omega

set_option maxHeartbeats 2000000 in
theorem powers_neg (oa ob : Option Addr) (la ca lb cb : Nat) (w : World) (n : Int) (hn : n < 0) :
    Calls Try.prog 5 #[.slice oa la ca, .slice ob lb cb, .int .i64 n] w fun e w' => e = .returned (.bool true) ∧ Below w.heap.size w w' := by
  go_enter Try.func5, Try.ntmps5
  have hbw : Below w.heap.size w w := Below.refl _ _
  go_wp2_with fail
  refine (awake_true _).mono ?_
  rintro e w1 ⟨rfl, hbel⟩
  replace hbw := hbw.trans (hbel.mono hbw.size)
  clear hbel
  go_wp2
  go_ret
  exact ⟨rfl, hbw⟩

set_option maxHeartbeats 2000000 in
theorem powers_more (oa ob : Option Addr) (la ca lb cb : Nat) (w : World) (n : Int) (h0 : ¬ n < 0) (hn : 65536 < n) :
    Calls Try.prog 5 #[.slice oa la ca, .slice ob lb cb, .int .i64 n] w fun e w' => e = .returned (.bool true) ∧ Below w.heap.size w w' := by
  go_enter Try.func5, Try.ntmps5
  have hbw : Below w.heap.size w w := Below.refl _ _
  go_wp2_with fail
  refine (awake_true _).mono ?_
  rintro e w1 ⟨rfl, hbel⟩
  replace hbw := hbw.trans (hbel.mono hbw.size)
  clear hbel
  go_wp2
  go_ret
  exact ⟨rfl, hbw⟩

set_option maxRecDepth 100000 in
set_option maxHeartbeats 2000000 in
theorem powers_A (oa ob : Option Addr) (la ca lb cb : Nat) (xa xb : List Nat) (w : World) (hla : la ≤ ca) (hca : ca ≤ 1048576) (hlb : lb ≤ cb) (hcb : cb ≤ 1048576)
    (hxa : xa.length = la) (hxb : xb.length = lb) (ata : At .u64 w oa xa) (atb : At .u64 w ob xb) (oka : Ok B64 xa) (okb : Ok B64 xb) (n Y : Nat) (hn : n ≤ 65536) (h0 : ¬ (n : Int) < 0) (_h65 : ¬ 65536 < (n : Int))
    (hP : Hid (bitsN (2 ^ n) = n + 1)) (hX : Hid (bitsN (num B64 xa) = 0)) (hY : Hid (bitsN (num B64 xb) = Y)) (hZ : Hid (bitsN (num B64 xa * num B64 xb) = 0)) :
    Calls Try.prog 5 #[.slice oa la ca, .slice ob lb cb, .int .i64 (n : Int)] w fun e w' => e = .returned (.bool true) ∧ Below w.heap.size w w' := by
  go_enter Try.func5, Try.ntmps5
  have hbw : Below w.heap.size w w := Below.refl _ _
  go_wp2_with fail
  refine (awake_true _).mono ?_
  rintro e w1 ⟨rfl, hbel⟩
  replace ata := ata.below hbel
  replace atb := atb.below hbel
  replace hbw := hbw.trans (hbel.mono hbw.size)
  clear hbel
  go_wp2_with fail
  replace ata := ata.alloc (Obj.cells #[Value.int IntKind.u64 1] 41)
  replace atb := atb.alloc (Obj.cells #[Value.int IntKind.u64 1] 41)
  have atL : At .u64 (w1.alloc (Obj.cells #[Value.int IntKind.u64 1] 41)) (some ⟨w1.heap.size, 0, none⟩) [1] := lit_new _ _ rfl [1]
  replace hbw := hbw.alloc hbw.size (Obj.cells #[Value.int IntKind.u64 1] 41)
  refine (shl_any (some ⟨w1.heap.size, 0, none⟩) 1 1 n [1] _ hn (Nat.le_refl _) (by omega) rfl atL (ok_of (by decide +kernel) : Ok B64 [1])).mono ?_
  rintro e w2 ⟨v, r1, rfl, hown1, is1, hbel⟩
  obtain ⟨o1, c1, rfl, hl1, hm1, at1⟩ := hown1.shape
  clear hown1
  replace ata := ata.below hbel
  replace atb := atb.below hbel
  replace atL := atL.below hbel
  replace hbw := hbw.trans (hbel.mono hbw.size)
  clear hbel
  clear atL
  rw [show num B64 [1] = 1 from rfl, Nat.one_mul] at is1
  go_wp2_with fail
  refine (shl_any oa la ca n xa _ hn hla (by omega) hxa ata oka).mono ?_
  rintro e w3 ⟨v, r2, rfl, hown2, is2, hbel⟩
  obtain ⟨o2, c2, rfl, hl2, hm2, at2⟩ := hown2.shape
  clear hown2
  replace ata := ata.below hbel
  replace atb := atb.below hbel
  replace at1 := at1.below hbel
  replace hbw := hbw.trans (hbel.mono hbw.size)
  clear hbel
  go_wp2_with fail
  refine (shr_any o2 r2.length c2 n r2 _ (by omega) hl2 (by omega) rfl at2 is2.1).mono ?_
  rintro e w4 ⟨v, r3, rfl, hown3, is3, hbel⟩
  obtain ⟨o3, c3, rfl, hl3, hm3, at3⟩ := hown3.shape
  clear hown3
  replace ata := ata.below hbel
  replace atb := atb.below hbel
  replace at1 := at1.below hbel
  replace at2 := at2.below hbel
  replace hbw := hbw.trans (hbel.mono hbw.size)
  clear hbel
  go_wp2_with fail
  refine (mul_any oa o1 la ca r1.length c1 xa r1 _ hla (by omega) hl1 (by omega) hxa rfl ata at1 oka is1.1).mono ?_
  rintro e w5 ⟨v, r4, rfl, hown4, is4, hbel⟩
  obtain ⟨o4, c4, rfl, hl4, hm4, at4⟩ := hown4.shape
  clear hown4
  replace ata := ata.below hbel
  replace atb := atb.below hbel
  replace at1 := at1.below hbel
  replace at2 := at2.below hbel
  replace at3 := at3.below hbel
  replace hbw := hbw.trans (hbel.mono hbw.size)
  clear hbel
  have eq : Hid (r2 = r4) := is2.same is4 (by rw [is1.2.2])
  go_wp2_with fail
  refine (same_any o2 o4 r2.length c2 r4.length c4 r2 r4 _ (by omega) rfl rfl at2 at4).mono ?_
  rintro e w6 ⟨rfl, hbel⟩
  rw [show decide (r2 = r4) = true from decide_eq_true eq.out]
  replace ata := ata.below hbel
  replace atb := atb.below hbel
  replace at1 := at1.below hbel
  replace at2 := at2.below hbel
  replace at3 := at3.below hbel
  replace at4 := at4.below hbel
  replace hbw := hbw.trans (hbel.mono hbw.size)
  clear hbel
  clear eq
  clear at4
  clear is4 hl4 hm4
  go_wp2_with fail
  refine (norm_any oa la ca xa _ hla (by omega) hxa ata oka).mono ?_
  rintro e w7 ⟨v, r5, rfl, hown5, is5, hbel⟩
  obtain ⟨o5, c5, rfl, hl5, hm5, at5⟩ := hown5.shape
  clear hown5
  replace ata := ata.below hbel
  replace atb := atb.below hbel
  replace at1 := at1.below hbel
  replace at2 := at2.below hbel
  replace at3 := at3.below hbel
  replace hbw := hbw.trans (hbel.mono hbw.size)
  clear hbel
  have eq : Hid (r3 = r5) := is3.same is5 (by rw [is2.2.2]; exact Nat.mul_div_cancel _ (Nat.two_pow_pos n))
  go_wp2_with fail
  refine (same_any o3 o5 r3.length c3 r5.length c5 r3 r5 _ (by omega) rfl rfl at3 at5).mono ?_
  rintro e w8 ⟨rfl, hbel⟩
  rw [show decide (r3 = r5) = true from decide_eq_true eq.out]
  replace ata := ata.below hbel
  replace atb := atb.below hbel
  replace at1 := at1.below hbel
  replace at2 := at2.below hbel
  replace at3 := at3.below hbel
  replace at5 := at5.below hbel
  replace hbw := hbw.trans (hbel.mono hbw.size)
  clear hbel
  clear eq
  clear at5
  clear is5 hl5 hm5
  clear at3
  clear is3 hl3 hm3
  clear at2
  clear is2 hl2 hm2
  go_wp2_with fail
  refine (bits_any o1 r1.length c1 r1 _ hl1 (by omega) rfl at1 is1.1).mono ?_
  rintro e w' ⟨rfl, rfl⟩
  rw [is1.2.2, hP.out]
  go_wp2_with fail
  refine (shr_any oa la ca n xa _ (by omega) hla (by omega) hxa ata oka).mono ?_
  rintro e w9 ⟨v, r6, rfl, hown6, is6, hbel⟩
  obtain ⟨o6, c6, rfl, hl6, hm6, at6⟩ := hown6.shape
  clear hown6
  replace ata := ata.below hbel
  replace atb := atb.below hbel
  replace at1 := at1.below hbel
  replace hbw := hbw.trans (hbel.mono hbw.size)
  clear hbel
  go_wp2_with fail
  refine (divmod_any oa o1 la ca r1.length c1 xa r1 _ hla (by omega) hl1 (by omega) hxa rfl ata at1 oka is1.1 (by rw [is1.2.2]; have := Nat.two_pow_pos n; omega)).mono ?_
  rintro e w10 ⟨v1, r7, v2, r8, rfl, hown7, hown8, is7, is8, hbel, _⟩
  obtain ⟨o7, c7, rfl, hl7, hm7, at7⟩ := hown7.shape
  clear hown7
  obtain ⟨o8, c8, rfl, hl8, hm8, at8⟩ := hown8.shape
  clear hown8
  replace ata := ata.below hbel
  replace atb := atb.below hbel
  replace at1 := at1.below hbel
  replace at6 := at6.below hbel
  replace hbw := hbw.trans (hbel.mono hbw.size)
  clear hbel
  have eq : Hid (r6 = r7) := is6.same is7 (by rw [is1.2.2])
  go_wp2_with fail
  refine (same_any o6 o7 r6.length c6 r7.length c7 r6 r7 _ (by omega) rfl rfl at6 at7).mono ?_
  rintro e w11 ⟨rfl, hbel⟩
  rw [show decide (r6 = r7) = true from decide_eq_true eq.out]
  replace ata := ata.below hbel
  replace atb := atb.below hbel
  replace at1 := at1.below hbel
  replace at6 := at6.below hbel
  replace at7 := at7.below hbel
  replace at8 := at8.below hbel
  replace hbw := hbw.trans (hbel.mono hbw.size)
  clear hbel
  clear eq
  clear at6
  clear is6 hl6 hm6
  clear at7
  clear is7 hl7 hm7
  clear at8
  clear is8 hl8 hm8
  clear at1
  clear is1 hl1 hm1
  go_wp2_with fail
  refine (bits_any oa la ca xa _ hla (by omega) hxa ata oka).mono ?_
  rintro e w' ⟨rfl, rfl⟩
  rw [hX.out]
  go_wp2_with fail
  refine (bits_any ob lb cb xb _ hlb (by omega) hxb atb okb).mono ?_
  rintro e w' ⟨rfl, rfl⟩
  rw [hY.out]
  go_wp2_with fail
  refine (mul_any oa ob la ca lb cb xa xb _ hla (by omega) hlb (by omega) hxa hxb ata atb oka okb).mono ?_
  rintro e w12 ⟨v, r9, rfl, hown9, is9, hbel⟩
  obtain ⟨o9, c9, rfl, hl9, hm9, at9⟩ := hown9.shape
  clear hown9
  replace ata := ata.below hbel
  replace atb := atb.below hbel
  replace hbw := hbw.trans (hbel.mono hbw.size)
  clear hbel
  go_wp2_with fail
  refine (bits_any o9 r9.length c9 r9 _ hl9 (by omega) rfl at9 is9.1).mono ?_
  rintro e w' ⟨rfl, rfl⟩
  rw [is9.2.2, hZ.out]
  go_wp2
  go_ret
  exact ⟨rfl, hbw⟩

set_option maxRecDepth 100000 in
set_option maxHeartbeats 2000000 in
theorem powers_B (oa ob : Option Addr) (la ca lb cb : Nat) (xa xb : List Nat) (w : World) (hla : la ≤ ca) (hca : ca ≤ 1048576) (hlb : lb ≤ cb) (hcb : cb ≤ 1048576)
    (hxa : xa.length = la) (hxb : xb.length = lb) (ata : At .u64 w oa xa) (atb : At .u64 w ob xb) (oka : Ok B64 xa) (okb : Ok B64 xb) (n X : Nat) (hn : n ≤ 65536) (h0 : ¬ (n : Int) < 0) (_h65 : ¬ 65536 < (n : Int))
    (hP : Hid (bitsN (2 ^ n) = n + 1)) (hX : Hid (bitsN (num B64 xa) = X)) (hY : Hid (bitsN (num B64 xb) = 0)) (hZ : Hid (bitsN (num B64 xa * num B64 xb) = 0)) (h1 : ((X : Int) == 0) = false) (_hXb : X ≤ 1000000000) :
    Calls Try.prog 5 #[.slice oa la ca, .slice ob lb cb, .int .i64 (n : Int)] w fun e w' => e = .returned (.bool true) ∧ Below w.heap.size w w' := by
  go_enter Try.func5, Try.ntmps5
  have hbw : Below w.heap.size w w := Below.refl _ _
  go_wp2_with fail
  refine (awake_true _).mono ?_
  rintro e w1 ⟨rfl, hbel⟩
  replace ata := ata.below hbel
  replace atb := atb.below hbel
  replace hbw := hbw.trans (hbel.mono hbw.size)
  clear hbel
  go_wp2_with fail
  replace ata := ata.alloc (Obj.cells #[Value.int IntKind.u64 1] 41)
  replace atb := atb.alloc (Obj.cells #[Value.int IntKind.u64 1] 41)
  have atL : At .u64 (w1.alloc (Obj.cells #[Value.int IntKind.u64 1] 41)) (some ⟨w1.heap.size, 0, none⟩) [1] := lit_new _ _ rfl [1]
  replace hbw := hbw.alloc hbw.size (Obj.cells #[Value.int IntKind.u64 1] 41)
  refine (shl_any (some ⟨w1.heap.size, 0, none⟩) 1 1 n [1] _ hn (Nat.le_refl _) (by omega) rfl atL (ok_of (by decide +kernel) : Ok B64 [1])).mono ?_
  rintro e w2 ⟨v, r1, rfl, hown1, is1, hbel⟩
  obtain ⟨o1, c1, rfl, hl1, hm1, at1⟩ := hown1.shape
  clear hown1
  replace ata := ata.below hbel
  replace atb := atb.below hbel
  replace atL := atL.below hbel
  replace hbw := hbw.trans (hbel.mono hbw.size)
  clear hbel
  clear atL
  rw [show num B64 [1] = 1 from rfl, Nat.one_mul] at is1
  go_wp2_with fail
  refine (shl_any oa la ca n xa _ hn hla (by omega) hxa ata oka).mono ?_
  rintro e w3 ⟨v, r2, rfl, hown2, is2, hbel⟩
  obtain ⟨o2, c2, rfl, hl2, hm2, at2⟩ := hown2.shape
  clear hown2
  replace ata := ata.below hbel
  replace atb := atb.below hbel
  replace at1 := at1.below hbel
  replace hbw := hbw.trans (hbel.mono hbw.size)
  clear hbel
  go_wp2_with fail
  refine (shr_any o2 r2.length c2 n r2 _ (by omega) hl2 (by omega) rfl at2 is2.1).mono ?_
  rintro e w4 ⟨v, r3, rfl, hown3, is3, hbel⟩
  obtain ⟨o3, c3, rfl, hl3, hm3, at3⟩ := hown3.shape
  clear hown3
  replace ata := ata.below hbel
  replace atb := atb.below hbel
  replace at1 := at1.below hbel
  replace at2 := at2.below hbel
  replace hbw := hbw.trans (hbel.mono hbw.size)
  clear hbel
  go_wp2_with fail
  refine (mul_any oa o1 la ca r1.length c1 xa r1 _ hla (by omega) hl1 (by omega) hxa rfl ata at1 oka is1.1).mono ?_
  rintro e w5 ⟨v, r4, rfl, hown4, is4, hbel⟩
  obtain ⟨o4, c4, rfl, hl4, hm4, at4⟩ := hown4.shape
  clear hown4
  replace ata := ata.below hbel
  replace atb := atb.below hbel
  replace at1 := at1.below hbel
  replace at2 := at2.below hbel
  replace at3 := at3.below hbel
  replace hbw := hbw.trans (hbel.mono hbw.size)
  clear hbel
  have eq : Hid (r2 = r4) := is2.same is4 (by rw [is1.2.2])
  go_wp2_with fail
  refine (same_any o2 o4 r2.length c2 r4.length c4 r2 r4 _ (by omega) rfl rfl at2 at4).mono ?_
  rintro e w6 ⟨rfl, hbel⟩
  rw [show decide (r2 = r4) = true from decide_eq_true eq.out]
  replace ata := ata.below hbel
  replace atb := atb.below hbel
  replace at1 := at1.below hbel
  replace at2 := at2.below hbel
  replace at3 := at3.below hbel
  replace at4 := at4.below hbel
  replace hbw := hbw.trans (hbel.mono hbw.size)
  clear hbel
  clear eq
  clear at4
  clear is4 hl4 hm4
  go_wp2_with fail
  refine (norm_any oa la ca xa _ hla (by omega) hxa ata oka).mono ?_
  rintro e w7 ⟨v, r5, rfl, hown5, is5, hbel⟩
  obtain ⟨o5, c5, rfl, hl5, hm5, at5⟩ := hown5.shape
  clear hown5
  replace ata := ata.below hbel
  replace atb := atb.below hbel
  replace at1 := at1.below hbel
  replace at2 := at2.below hbel
  replace at3 := at3.below hbel
  replace hbw := hbw.trans (hbel.mono hbw.size)
  clear hbel
  have eq : Hid (r3 = r5) := is3.same is5 (by rw [is2.2.2]; exact Nat.mul_div_cancel _ (Nat.two_pow_pos n))
  go_wp2_with fail
  refine (same_any o3 o5 r3.length c3 r5.length c5 r3 r5 _ (by omega) rfl rfl at3 at5).mono ?_
  rintro e w8 ⟨rfl, hbel⟩
  rw [show decide (r3 = r5) = true from decide_eq_true eq.out]
  replace ata := ata.below hbel
  replace atb := atb.below hbel
  replace at1 := at1.below hbel
  replace at2 := at2.below hbel
  replace at3 := at3.below hbel
  replace at5 := at5.below hbel
  replace hbw := hbw.trans (hbel.mono hbw.size)
  clear hbel
  clear eq
  clear at5
  clear is5 hl5 hm5
  clear at3
  clear is3 hl3 hm3
  clear at2
  clear is2 hl2 hm2
  go_wp2_with fail
  refine (bits_any o1 r1.length c1 r1 _ hl1 (by omega) rfl at1 is1.1).mono ?_
  rintro e w' ⟨rfl, rfl⟩
  rw [is1.2.2, hP.out]
  go_wp2_with fail
  refine (shr_any oa la ca n xa _ (by omega) hla (by omega) hxa ata oka).mono ?_
  rintro e w9 ⟨v, r6, rfl, hown6, is6, hbel⟩
  obtain ⟨o6, c6, rfl, hl6, hm6, at6⟩ := hown6.shape
  clear hown6
  replace ata := ata.below hbel
  replace atb := atb.below hbel
  replace at1 := at1.below hbel
  replace hbw := hbw.trans (hbel.mono hbw.size)
  clear hbel
  go_wp2_with fail
  refine (divmod_any oa o1 la ca r1.length c1 xa r1 _ hla (by omega) hl1 (by omega) hxa rfl ata at1 oka is1.1 (by rw [is1.2.2]; have := Nat.two_pow_pos n; omega)).mono ?_
  rintro e w10 ⟨v1, r7, v2, r8, rfl, hown7, hown8, is7, is8, hbel, _⟩
  obtain ⟨o7, c7, rfl, hl7, hm7, at7⟩ := hown7.shape
  clear hown7
  obtain ⟨o8, c8, rfl, hl8, hm8, at8⟩ := hown8.shape
  clear hown8
  replace ata := ata.below hbel
  replace atb := atb.below hbel
  replace at1 := at1.below hbel
  replace at6 := at6.below hbel
  replace hbw := hbw.trans (hbel.mono hbw.size)
  clear hbel
  have eq : Hid (r6 = r7) := is6.same is7 (by rw [is1.2.2])
  go_wp2_with fail
  refine (same_any o6 o7 r6.length c6 r7.length c7 r6 r7 _ (by omega) rfl rfl at6 at7).mono ?_
  rintro e w11 ⟨rfl, hbel⟩
  rw [show decide (r6 = r7) = true from decide_eq_true eq.out]
  replace ata := ata.below hbel
  replace atb := atb.below hbel
  replace at1 := at1.below hbel
  replace at6 := at6.below hbel
  replace at7 := at7.below hbel
  replace at8 := at8.below hbel
  replace hbw := hbw.trans (hbel.mono hbw.size)
  clear hbel
  clear eq
  clear at6
  clear is6 hl6 hm6
  clear at7
  clear is7 hl7 hm7
  clear at8
  clear is8 hl8 hm8
  clear at1
  clear is1 hl1 hm1
  go_wp2_with fail
  refine (bits_any oa la ca xa _ hla (by omega) hxa ata oka).mono ?_
  rintro e w' ⟨rfl, rfl⟩
  rw [hX.out]
  go_wp2_with fail
  refine (bits_any ob lb cb xb _ hlb (by omega) hxb atb okb).mono ?_
  rintro e w' ⟨rfl, rfl⟩
  rw [hY.out]
  go_wp2_with fail
  refine (mul_any oa ob la ca lb cb xa xb _ hla (by omega) hlb (by omega) hxa hxb ata atb oka okb).mono ?_
  rintro e w12 ⟨v, r9, rfl, hown9, is9, hbel⟩
  obtain ⟨o9, c9, rfl, hl9, hm9, at9⟩ := hown9.shape
  clear hown9
  replace ata := ata.below hbel
  replace atb := atb.below hbel
  replace hbw := hbw.trans (hbel.mono hbw.size)
  clear hbel
  go_wp2_with fail
  refine (bits_any o9 r9.length c9 r9 _ hl9 (by omega) rfl at9 is9.1).mono ?_
  rintro e w' ⟨rfl, rfl⟩
  rw [is9.2.2, hZ.out]
  go_wp2
  go_ret
  exact ⟨rfl, hbw⟩

set_option maxRecDepth 100000 in
set_option maxHeartbeats 2000000 in
theorem powers_C (oa ob : Option Addr) (la ca lb cb : Nat) (xa xb : List Nat) (w : World) (hla : la ≤ ca) (hca : ca ≤ 1048576) (hlb : lb ≤ cb) (hcb : cb ≤ 1048576)
    (hxa : xa.length = la) (hxb : xb.length = lb) (ata : At .u64 w oa xa) (atb : At .u64 w ob xb) (oka : Ok B64 xa) (okb : Ok B64 xb) (n X Y : Nat) (hn : n ≤ 65536) (h0 : ¬ (n : Int) < 0) (_h65 : ¬ 65536 < (n : Int))
    (hP : Hid (bitsN (2 ^ n) = n + 1)) (hX : Hid (bitsN (num B64 xa) = X)) (hY : Hid (bitsN (num B64 xb) = Y)) (hZ : Hid (bitsN (num B64 xa * num B64 xb) = (X + Y))) (h1 : ((X : Int) == 0) = false) (h2 : ((Y : Int) == 0) = false) (_hXb : X ≤ 1000000000) (_hYb : Y ≤ 1000000000) :
    Calls Try.prog 5 #[.slice oa la ca, .slice ob lb cb, .int .i64 (n : Int)] w fun e w' => e = .returned (.bool true) ∧ Below w.heap.size w w' := by
  go_enter Try.func5, Try.ntmps5
  have hbw : Below w.heap.size w w := Below.refl _ _
  go_wp2_with fail
  refine (awake_true _).mono ?_
  rintro e w1 ⟨rfl, hbel⟩
  replace ata := ata.below hbel
  replace atb := atb.below hbel
  replace hbw := hbw.trans (hbel.mono hbw.size)
  clear hbel
  go_wp2_with fail
  replace ata := ata.alloc (Obj.cells #[Value.int IntKind.u64 1] 41)
  replace atb := atb.alloc (Obj.cells #[Value.int IntKind.u64 1] 41)
  have atL : At .u64 (w1.alloc (Obj.cells #[Value.int IntKind.u64 1] 41)) (some ⟨w1.heap.size, 0, none⟩) [1] := lit_new _ _ rfl [1]
  replace hbw := hbw.alloc hbw.size (Obj.cells #[Value.int IntKind.u64 1] 41)
  refine (shl_any (some ⟨w1.heap.size, 0, none⟩) 1 1 n [1] _ hn (Nat.le_refl _) (by omega) rfl atL (ok_of (by decide +kernel) : Ok B64 [1])).mono ?_
  rintro e w2 ⟨v, r1, rfl, hown1, is1, hbel⟩
  obtain ⟨o1, c1, rfl, hl1, hm1, at1⟩ := hown1.shape
  clear hown1
  replace ata := ata.below hbel
  replace atb := atb.below hbel
  replace atL := atL.below hbel
  replace hbw := hbw.trans (hbel.mono hbw.size)
  clear hbel
  clear atL
  rw [show num B64 [1] = 1 from rfl, Nat.one_mul] at is1
  go_wp2_with fail
  refine (shl_any oa la ca n xa _ hn hla (by omega) hxa ata oka).mono ?_
  rintro e w3 ⟨v, r2, rfl, hown2, is2, hbel⟩
  obtain ⟨o2, c2, rfl, hl2, hm2, at2⟩ := hown2.shape
  clear hown2
  replace ata := ata.below hbel
  replace atb := atb.below hbel
  replace at1 := at1.below hbel
  replace hbw := hbw.trans (hbel.mono hbw.size)
  clear hbel
  go_wp2_with fail
  refine (shr_any o2 r2.length c2 n r2 _ (by omega) hl2 (by omega) rfl at2 is2.1).mono ?_
  rintro e w4 ⟨v, r3, rfl, hown3, is3, hbel⟩
  obtain ⟨o3, c3, rfl, hl3, hm3, at3⟩ := hown3.shape
  clear hown3
  replace ata := ata.below hbel
  replace atb := atb.below hbel
  replace at1 := at1.below hbel
  replace at2 := at2.below hbel
  replace hbw := hbw.trans (hbel.mono hbw.size)
  clear hbel
  go_wp2_with fail
  refine (mul_any oa o1 la ca r1.length c1 xa r1 _ hla (by omega) hl1 (by omega) hxa rfl ata at1 oka is1.1).mono ?_
  rintro e w5 ⟨v, r4, rfl, hown4, is4, hbel⟩
  obtain ⟨o4, c4, rfl, hl4, hm4, at4⟩ := hown4.shape
  clear hown4
  replace ata := ata.below hbel
  replace atb := atb.below hbel
  replace at1 := at1.below hbel
  replace at2 := at2.below hbel
  replace at3 := at3.below hbel
  replace hbw := hbw.trans (hbel.mono hbw.size)
  clear hbel
  have eq : Hid (r2 = r4) := is2.same is4 (by rw [is1.2.2])
  go_wp2_with fail
  refine (same_any o2 o4 r2.length c2 r4.length c4 r2 r4 _ (by omega) rfl rfl at2 at4).mono ?_
  rintro e w6 ⟨rfl, hbel⟩
  rw [show decide (r2 = r4) = true from decide_eq_true eq.out]
  replace ata := ata.below hbel
  replace atb := atb.below hbel
  replace at1 := at1.below hbel
  replace at2 := at2.below hbel
  replace at3 := at3.below hbel
  replace at4 := at4.below hbel
  replace hbw := hbw.trans (hbel.mono hbw.size)
  clear hbel
  clear eq
  clear at4
  clear is4 hl4 hm4
  go_wp2_with fail
  refine (norm_any oa la ca xa _ hla (by omega) hxa ata oka).mono ?_
  rintro e w7 ⟨v, r5, rfl, hown5, is5, hbel⟩
  obtain ⟨o5, c5, rfl, hl5, hm5, at5⟩ := hown5.shape
  clear hown5
  replace ata := ata.below hbel
  replace atb := atb.below hbel
  replace at1 := at1.below hbel
  replace at2 := at2.below hbel
  replace at3 := at3.below hbel
  replace hbw := hbw.trans (hbel.mono hbw.size)
  clear hbel
  have eq : Hid (r3 = r5) := is3.same is5 (by rw [is2.2.2]; exact Nat.mul_div_cancel _ (Nat.two_pow_pos n))
  go_wp2_with fail
  refine (same_any o3 o5 r3.length c3 r5.length c5 r3 r5 _ (by omega) rfl rfl at3 at5).mono ?_
  rintro e w8 ⟨rfl, hbel⟩
  rw [show decide (r3 = r5) = true from decide_eq_true eq.out]
  replace ata := ata.below hbel
  replace atb := atb.below hbel
  replace at1 := at1.below hbel
  replace at2 := at2.below hbel
  replace at3 := at3.below hbel
  replace at5 := at5.below hbel
  replace hbw := hbw.trans (hbel.mono hbw.size)
  clear hbel
  clear eq
  clear at5
  clear is5 hl5 hm5
  clear at3
  clear is3 hl3 hm3
  clear at2
  clear is2 hl2 hm2
  go_wp2_with fail
  refine (bits_any o1 r1.length c1 r1 _ hl1 (by omega) rfl at1 is1.1).mono ?_
  rintro e w' ⟨rfl, rfl⟩
  rw [is1.2.2, hP.out]
  go_wp2_with fail
  refine (shr_any oa la ca n xa _ (by omega) hla (by omega) hxa ata oka).mono ?_
  rintro e w9 ⟨v, r6, rfl, hown6, is6, hbel⟩
  obtain ⟨o6, c6, rfl, hl6, hm6, at6⟩ := hown6.shape
  clear hown6
  replace ata := ata.below hbel
  replace atb := atb.below hbel
  replace at1 := at1.below hbel
  replace hbw := hbw.trans (hbel.mono hbw.size)
  clear hbel
  go_wp2_with fail
  refine (divmod_any oa o1 la ca r1.length c1 xa r1 _ hla (by omega) hl1 (by omega) hxa rfl ata at1 oka is1.1 (by rw [is1.2.2]; have := Nat.two_pow_pos n; omega)).mono ?_
  rintro e w10 ⟨v1, r7, v2, r8, rfl, hown7, hown8, is7, is8, hbel, _⟩
  obtain ⟨o7, c7, rfl, hl7, hm7, at7⟩ := hown7.shape
  clear hown7
  obtain ⟨o8, c8, rfl, hl8, hm8, at8⟩ := hown8.shape
  clear hown8
  replace ata := ata.below hbel
  replace atb := atb.below hbel
  replace at1 := at1.below hbel
  replace at6 := at6.below hbel
  replace hbw := hbw.trans (hbel.mono hbw.size)
  clear hbel
  have eq : Hid (r6 = r7) := is6.same is7 (by rw [is1.2.2])
  go_wp2_with fail
  refine (same_any o6 o7 r6.length c6 r7.length c7 r6 r7 _ (by omega) rfl rfl at6 at7).mono ?_
  rintro e w11 ⟨rfl, hbel⟩
  rw [show decide (r6 = r7) = true from decide_eq_true eq.out]
  replace ata := ata.below hbel
  replace atb := atb.below hbel
  replace at1 := at1.below hbel
  replace at6 := at6.below hbel
  replace at7 := at7.below hbel
  replace at8 := at8.below hbel
  replace hbw := hbw.trans (hbel.mono hbw.size)
  clear hbel
  clear eq
  clear at6
  clear is6 hl6 hm6
  clear at7
  clear is7 hl7 hm7
  clear at8
  clear is8 hl8 hm8
  clear at1
  clear is1 hl1 hm1
  go_wp2_with fail
  refine (bits_any oa la ca xa _ hla (by omega) hxa ata oka).mono ?_
  rintro e w' ⟨rfl, rfl⟩
  rw [hX.out]
  go_wp2_with fail
  refine (bits_any ob lb cb xb _ hlb (by omega) hxb atb okb).mono ?_
  rintro e w' ⟨rfl, rfl⟩
  rw [hY.out]
  go_wp2_with fail
  refine (mul_any oa ob la ca lb cb xa xb _ hla (by omega) hlb (by omega) hxa hxb ata atb oka okb).mono ?_
  rintro e w12 ⟨v, r9, rfl, hown9, is9, hbel⟩
  obtain ⟨o9, c9, rfl, hl9, hm9, at9⟩ := hown9.shape
  clear hown9
  replace ata := ata.below hbel
  replace atb := atb.below hbel
  replace hbw := hbw.trans (hbel.mono hbw.size)
  clear hbel
  go_wp2_with fail
  refine (bits_any o9 r9.length c9 r9 _ hl9 (by omega) rfl at9 is9.1).mono ?_
  rintro e w' ⟨rfl, rfl⟩
  rw [is9.2.2, hZ.out]
  go_wp2
  go_ret
  exact ⟨rfl, hbw⟩

set_option maxRecDepth 100000 in
set_option maxHeartbeats 2000000 in
theorem powers_D (oa ob : Option Addr) (la ca lb cb : Nat) (xa xb : List Nat) (w : World) (hla : la ≤ ca) (hca : ca ≤ 1048576) (hlb : lb ≤ cb) (hcb : cb ≤ 1048576)
    (hxa : xa.length = la) (hxb : xb.length = lb) (ata : At .u64 w oa xa) (atb : At .u64 w ob xb) (oka : Ok B64 xa) (okb : Ok B64 xb) (n X Y Z : Nat) (hn : n ≤ 65536) (h0 : ¬ (n : Int) < 0) (_h65 : ¬ 65536 < (n : Int))
    (hP : Hid (bitsN (2 ^ n) = n + 1)) (hX : Hid (bitsN (num B64 xa) = X)) (hY : Hid (bitsN (num B64 xb) = Y)) (hZ : Hid (bitsN (num B64 xa * num B64 xb) = Z)) (h1 : ((X : Int) == 0) = false) (h2 : ((Y : Int) == 0) = false) (h3 : ((Z : Int) == (X : Int) + (Y : Int)) = false) (h4 : (X : Int) + (Y : Int) - 1 = (Z : Int)) (_hZb : Z ≤ 1000000000) (_hXb : X ≤ 1000000000) (_hYb : Y ≤ 1000000000) :
    Calls Try.prog 5 #[.slice oa la ca, .slice ob lb cb, .int .i64 (n : Int)] w fun e w' => e = .returned (.bool true) ∧ Below w.heap.size w w' := by
  go_enter Try.func5, Try.ntmps5
  have hbw : Below w.heap.size w w := Below.refl _ _
  go_wp2_with fail
  refine (awake_true _).mono ?_
  rintro e w1 ⟨rfl, hbel⟩
  replace ata := ata.below hbel
  replace atb := atb.below hbel
  replace hbw := hbw.trans (hbel.mono hbw.size)
  clear hbel
  go_wp2_with fail
  replace ata := ata.alloc (Obj.cells #[Value.int IntKind.u64 1] 41)
  replace atb := atb.alloc (Obj.cells #[Value.int IntKind.u64 1] 41)
  have atL : At .u64 (w1.alloc (Obj.cells #[Value.int IntKind.u64 1] 41)) (some ⟨w1.heap.size, 0, none⟩) [1] := lit_new _ _ rfl [1]
  replace hbw := hbw.alloc hbw.size (Obj.cells #[Value.int IntKind.u64 1] 41)
  refine (shl_any (some ⟨w1.heap.size, 0, none⟩) 1 1 n [1] _ hn (Nat.le_refl _) (by omega) rfl atL (ok_of (by decide +kernel) : Ok B64 [1])).mono ?_
  rintro e w2 ⟨v, r1, rfl, hown1, is1, hbel⟩
  obtain ⟨o1, c1, rfl, hl1, hm1, at1⟩ := hown1.shape
  clear hown1
  replace ata := ata.below hbel
  replace atb := atb.below hbel
  replace atL := atL.below hbel
  replace hbw := hbw.trans (hbel.mono hbw.size)
  clear hbel
  clear atL
  rw [show num B64 [1] = 1 from rfl, Nat.one_mul] at is1
  go_wp2_with fail
  refine (shl_any oa la ca n xa _ hn hla (by omega) hxa ata oka).mono ?_
  rintro e w3 ⟨v, r2, rfl, hown2, is2, hbel⟩
  obtain ⟨o2, c2, rfl, hl2, hm2, at2⟩ := hown2.shape
  clear hown2
  replace ata := ata.below hbel
  replace atb := atb.below hbel
  replace at1 := at1.below hbel
  replace hbw := hbw.trans (hbel.mono hbw.size)
  clear hbel
  go_wp2_with fail
  refine (shr_any o2 r2.length c2 n r2 _ (by omega) hl2 (by omega) rfl at2 is2.1).mono ?_
  rintro e w4 ⟨v, r3, rfl, hown3, is3, hbel⟩
  obtain ⟨o3, c3, rfl, hl3, hm3, at3⟩ := hown3.shape
  clear hown3
  replace ata := ata.below hbel
  replace atb := atb.below hbel
  replace at1 := at1.below hbel
  replace at2 := at2.below hbel
  replace hbw := hbw.trans (hbel.mono hbw.size)
  clear hbel
  go_wp2_with fail
  refine (mul_any oa o1 la ca r1.length c1 xa r1 _ hla (by omega) hl1 (by omega) hxa rfl ata at1 oka is1.1).mono ?_
  rintro e w5 ⟨v, r4, rfl, hown4, is4, hbel⟩
  obtain ⟨o4, c4, rfl, hl4, hm4, at4⟩ := hown4.shape
  clear hown4
  replace ata := ata.below hbel
  replace atb := atb.below hbel
  replace at1 := at1.below hbel
  replace at2 := at2.below hbel
  replace at3 := at3.below hbel
  replace hbw := hbw.trans (hbel.mono hbw.size)
  clear hbel
  have eq : Hid (r2 = r4) := is2.same is4 (by rw [is1.2.2])
  go_wp2_with fail
  refine (same_any o2 o4 r2.length c2 r4.length c4 r2 r4 _ (by omega) rfl rfl at2 at4).mono ?_
  rintro e w6 ⟨rfl, hbel⟩
  rw [show decide (r2 = r4) = true from decide_eq_true eq.out]
  replace ata := ata.below hbel
  replace atb := atb.below hbel
  replace at1 := at1.below hbel
  replace at2 := at2.below hbel
  replace at3 := at3.below hbel
  replace at4 := at4.below hbel
  replace hbw := hbw.trans (hbel.mono hbw.size)
  clear hbel
  clear eq
  clear at4
  clear is4 hl4 hm4
  go_wp2_with fail
  refine (norm_any oa la ca xa _ hla (by omega) hxa ata oka).mono ?_
  rintro e w7 ⟨v, r5, rfl, hown5, is5, hbel⟩
  obtain ⟨o5, c5, rfl, hl5, hm5, at5⟩ := hown5.shape
  clear hown5
  replace ata := ata.below hbel
  replace atb := atb.below hbel
  replace at1 := at1.below hbel
  replace at2 := at2.below hbel
  replace at3 := at3.below hbel
  replace hbw := hbw.trans (hbel.mono hbw.size)
  clear hbel
  have eq : Hid (r3 = r5) := is3.same is5 (by rw [is2.2.2]; exact Nat.mul_div_cancel _ (Nat.two_pow_pos n))
  go_wp2_with fail
  refine (same_any o3 o5 r3.length c3 r5.length c5 r3 r5 _ (by omega) rfl rfl at3 at5).mono ?_
  rintro e w8 ⟨rfl, hbel⟩
  rw [show decide (r3 = r5) = true from decide_eq_true eq.out]
  replace ata := ata.below hbel
  replace atb := atb.below hbel
  replace at1 := at1.below hbel
  replace at2 := at2.below hbel
  replace at3 := at3.below hbel
  replace at5 := at5.below hbel
  replace hbw := hbw.trans (hbel.mono hbw.size)
  clear hbel
  clear eq
  clear at5
  clear is5 hl5 hm5
  clear at3
  clear is3 hl3 hm3
  clear at2
  clear is2 hl2 hm2
  go_wp2_with fail
  refine (bits_any o1 r1.length c1 r1 _ hl1 (by omega) rfl at1 is1.1).mono ?_
  rintro e w' ⟨rfl, rfl⟩
  rw [is1.2.2, hP.out]
  go_wp2_with fail
  refine (shr_any oa la ca n xa _ (by omega) hla (by omega) hxa ata oka).mono ?_
  rintro e w9 ⟨v, r6, rfl, hown6, is6, hbel⟩
  obtain ⟨o6, c6, rfl, hl6, hm6, at6⟩ := hown6.shape
  clear hown6
  replace ata := ata.below hbel
  replace atb := atb.below hbel
  replace at1 := at1.below hbel
  replace hbw := hbw.trans (hbel.mono hbw.size)
  clear hbel
  go_wp2_with fail
  refine (divmod_any oa o1 la ca r1.length c1 xa r1 _ hla (by omega) hl1 (by omega) hxa rfl ata at1 oka is1.1 (by rw [is1.2.2]; have := Nat.two_pow_pos n; omega)).mono ?_
  rintro e w10 ⟨v1, r7, v2, r8, rfl, hown7, hown8, is7, is8, hbel, _⟩
  obtain ⟨o7, c7, rfl, hl7, hm7, at7⟩ := hown7.shape
  clear hown7
  obtain ⟨o8, c8, rfl, hl8, hm8, at8⟩ := hown8.shape
  clear hown8
  replace ata := ata.below hbel
  replace atb := atb.below hbel
  replace at1 := at1.below hbel
  replace at6 := at6.below hbel
  replace hbw := hbw.trans (hbel.mono hbw.size)
  clear hbel
  have eq : Hid (r6 = r7) := is6.same is7 (by rw [is1.2.2])
  go_wp2_with fail
  refine (same_any o6 o7 r6.length c6 r7.length c7 r6 r7 _ (by omega) rfl rfl at6 at7).mono ?_
  rintro e w11 ⟨rfl, hbel⟩
  rw [show decide (r6 = r7) = true from decide_eq_true eq.out]
  replace ata := ata.below hbel
  replace atb := atb.below hbel
  replace at1 := at1.below hbel
  replace at6 := at6.below hbel
  replace at7 := at7.below hbel
  replace at8 := at8.below hbel
  replace hbw := hbw.trans (hbel.mono hbw.size)
  clear hbel
  clear eq
  clear at6
  clear is6 hl6 hm6
  clear at7
  clear is7 hl7 hm7
  clear at8
  clear is8 hl8 hm8
  clear at1
  clear is1 hl1 hm1
  go_wp2_with fail
  refine (bits_any oa la ca xa _ hla (by omega) hxa ata oka).mono ?_
  rintro e w' ⟨rfl, rfl⟩
  rw [hX.out]
  go_wp2_with fail
  refine (bits_any ob lb cb xb _ hlb (by omega) hxb atb okb).mono ?_
  rintro e w' ⟨rfl, rfl⟩
  rw [hY.out]
  go_wp2_with fail
  refine (mul_any oa ob la ca lb cb xa xb _ hla (by omega) hlb (by omega) hxa hxb ata atb oka okb).mono ?_
  rintro e w12 ⟨v, r9, rfl, hown9, is9, hbel⟩
  obtain ⟨o9, c9, rfl, hl9, hm9, at9⟩ := hown9.shape
  clear hown9
  replace ata := ata.below hbel
  replace atb := atb.below hbel
  replace hbw := hbw.trans (hbel.mono hbw.size)
  clear hbel
  go_wp2_with fail
  refine (bits_any o9 r9.length c9 r9 _ hl9 (by omega) rfl at9 is9.1).mono ?_
  rintro e w' ⟨rfl, rfl⟩
  rw [is9.2.2, hZ.out]
  go_wp2
  go_ret
  exact ⟨rfl, hbw⟩

theorem powers_walk (w : World) (oa : Option Addr) (la ca : Nat) (xa : List Nat) (hla : la ≤ ca) (hca : ca ≤ 1048576) (hxa : xa.length = la) (ata : At .u64 w oa xa) (oka : Ok B64 xa)
    (ob : Option Addr) (lb cb : Nat) (xb : List Nat) (hlb : lb ≤ cb) (hcb : cb ≤ 1048576) (hxb : xb.length = lb) (atb : At .u64 w ob xb) (okb : Ok B64 xb) (nc : Int) (_wfc : (Lit.int .i64 nc).wf = true) :
    Calls Try.prog 5 #[.slice oa la ca, .slice ob lb cb, .int .i64 nc] w fun e w' => e = .returned (.bool true) ∧ Below w.heap.size w w' := by
  have z0 : bitsN 0 = 0 := rfl
  have bx := bitsN_big oka (by omega)
  have bY := bitsN_big okb (by omega)
  by_cases h : nc < 0
  · exact powers_neg oa ob la ca lb cb w nc h
  · obtain ⟨n, rfl⟩ := Int.eq_ofNat_of_zero_le (show 0 ≤ nc by omega)
    by_cases h1 : 65536 < (n : Int)
    · exact powers_more oa ob la ca lb cb w n h h1
    · have hP := bitsN_pow n
      have pos : ∀ {x : Nat}, x ≠ 0 → ((bitsN x : Int) == 0) = false := by
        intro x hx
        obtain ⟨k, hk, _⟩ := bitsN_spec hx
        rw [beq_eq_false_iff_ne]; omega
      by_cases ha : num B64 xa = 0
      · exact powers_A oa ob la ca lb cb xa xb w hla hca hlb hcb hxa hxb ata atb oka okb n _ (by omega) h h1 hP (by rw [ha]; exact z0) rfl (by rw [ha, Nat.zero_mul]; exact z0)
      · by_cases hb : num B64 xb = 0
        · exact powers_B oa ob la ca lb cb xa xb w hla hca hlb hcb hxa hxb ata atb oka okb n _ (by omega) h h1 hP rfl (by rw [hb]; exact z0) (by rw [hb, Nat.mul_zero]; exact z0) (pos ha) (by omega)
        · rcases bitsN_mul ha hb with e | e
          · exact powers_C oa ob la ca lb cb xa xb w hla hca hlb hcb hxa hxb ata atb oka okb n _ _ (by omega) h h1 hP rfl rfl e (pos ha) (pos hb) (by omega) (by omega)
          · exact powers_D oa ob la ca lb cb xa xb w hla hca hlb hcb hxa hxb ata atb oka okb n _ _ _ (by omega) h h1 hP rfl rfl rfl (pos ha) (pos hb) (by rw [beq_eq_false_iff_ne]; omega) (by omega) (by omega) (by omega) (by omega)

end Go.Proofs.Ytnlnjdieajdgfaa
