/-
  The walk of quipulaw02.WholeGrows: whatever two numbers are handed in, it answers true, and leaves what was there as it was.
-/
import Derived.Test.YtnlnjdieajdgfacDoorWAwake
import Derived.Test.YtnlnjdieajdgfacDoorIsSame
namespace Go.Proofs.YtnlnjdieajdgfacDoor
open Go.RowKit

theorem dd_pow (n : Nat) : Lib.decDigits (10 ^ n) = 49 :: List.replicate n (48 : UInt8) := by
  have h := dd_append n 1 0 (by omega) (Nat.pow_pos (by omega))
  rw [Nat.one_mul, Nat.add_zero, padD_zero, Lib.decDigits_one (i := 1) (by omega)] at h
  rw [h]; rfl

set_option maxRecDepth 100000 in
set_option maxHeartbeats 2000000 in
theorem wgrows_n (w : World) (tab : Tab w) (n m : Int) (hn : n < 0) :
    Calls Tryd.prog 3 #[.int .i64 n, .int .i64 m] w fun e w' => e = .returned (.bool true) ∧ Below w.heap.size w w' := by
  go_enter Tryd.func3, Tryd.ntmps3
  have hbw : Below w.heap.size w w := Below.refl _ _
  go_wp2_with fail
  refine (wawake_true _ tab).mono ?_
  rintro e w1 ⟨rfl, hbel⟩
  replace tab := tab.below hbel
  replace hbw := hbw.trans (hbel.mono hbw.size)
  clear hbel
  go_wp2
  go_ret
  exact ⟨rfl, hbw⟩

set_option maxRecDepth 100000 in
set_option maxHeartbeats 2000000 in
theorem wgrows_m (w : World) (tab : Tab w) (n m : Int) (hn : ¬ n < 0) (hm : m < 0) :
    Calls Tryd.prog 3 #[.int .i64 n, .int .i64 m] w fun e w' => e = .returned (.bool true) ∧ Below w.heap.size w w' := by
  go_enter Tryd.func3, Tryd.ntmps3
  have hbw : Below w.heap.size w w := Below.refl _ _
  go_wp2_with fail
  refine (wawake_true _ tab).mono ?_
  rintro e w1 ⟨rfl, hbel⟩
  replace tab := tab.below hbel
  replace hbw := hbw.trans (hbel.mono hbw.size)
  clear hbel
  go_wp2
  go_ret
  exact ⟨rfl, hbw⟩

set_option maxRecDepth 100000 in
set_option maxHeartbeats 2000000 in
theorem wgrows_N (w : World) (tab : Tab w) (n m : Int) (hn : ¬ n < 0) (hm : ¬ m < 0) (hN : 4096 < n) :
    Calls Tryd.prog 3 #[.int .i64 n, .int .i64 m] w fun e w' => e = .returned (.bool true) ∧ Below w.heap.size w w' := by
  go_enter Tryd.func3, Tryd.ntmps3
  have hbw : Below w.heap.size w w := Below.refl _ _
  go_wp2_with fail
  refine (wawake_true _ tab).mono ?_
  rintro e w1 ⟨rfl, hbel⟩
  replace tab := tab.below hbel
  replace hbw := hbw.trans (hbel.mono hbw.size)
  clear hbel
  go_wp2
  go_ret
  exact ⟨rfl, hbw⟩

set_option maxRecDepth 100000 in
set_option maxHeartbeats 2000000 in
theorem wgrows_M (w : World) (tab : Tab w) (n m : Int) (hn : ¬ n < 0) (hm : ¬ m < 0) (hN : ¬ 4096 < n) (hM : 4096 < m) :
    Calls Tryd.prog 3 #[.int .i64 n, .int .i64 m] w fun e w' => e = .returned (.bool true) ∧ Below w.heap.size w w' := by
  go_enter Tryd.func3, Tryd.ntmps3
  have hbw : Below w.heap.size w w := Below.refl _ _
  go_wp2_with fail
  refine (wawake_true _ tab).mono ?_
  rintro e w1 ⟨rfl, hbel⟩
  replace tab := tab.below hbel
  replace hbw := hbw.trans (hbel.mono hbw.size)
  clear hbel
  go_wp2
  go_ret
  exact ⟨rfl, hbw⟩

set_option maxRecDepth 100000 in
set_option maxHeartbeats 2000000 in
theorem wgrows_in (w : World) (tab : Tab w) (n m : Nat) (hn : n ≤ 4096) (hm : m ≤ 4096) (ds : ByteArray) (hds : Hid (ds = ⟨(Lib.decDigits (10 ^ n)).toArray⟩)) (hdsz : ds.size = n + 1) (hd0 : byt (bys ds) 0 = 49) (hdk : ∀ k, 1 ≤ k → k < n + 1 → byt (bys ds) k = 48) :
    Calls Tryd.prog 3 #[.int .i64 (n : Int), .int .i64 (m : Int)] w fun e w' => e = .returned (.bool true) ∧ Below w.heap.size w w' := by
  go_enter Tryd.func3, Tryd.ntmps3
  have hbw : Below w.heap.size w w := Below.refl _ _
  go_wp2_with fail
  refine (wawake_true _ tab).mono ?_
  rintro e w1 ⟨rfl, hbel⟩
  replace tab := tab.below hbel
  replace hbw := hbw.trans (hbel.mono hbw.size)
  clear hbel
  go_wp2_with fail
  refine (pow5_in n _ (by omega)).mono ?_
  rintro e w2 ⟨v, r1, rfl, hown1, is1, hbel⟩
  obtain ⟨o1, c1, rfl, hl1, hm1, at1⟩ := hown1.shape
  clear hown1
  replace tab := tab.below hbel
  replace hbw := hbw.trans (hbel.mono hbw.size)
  clear hbel
  go_wp2_with fail
  refine (pow5_in m _ (by omega)).mono ?_
  rintro e w3 ⟨v, r2, rfl, hown2, is2, hbel⟩
  obtain ⟨o2, c2, rfl, hl2, hm2, at2⟩ := hown2.shape
  clear hown2
  replace at1 := at1.below hbel
  replace tab := tab.below hbel
  replace hbw := hbw.trans (hbel.mono hbw.size)
  clear hbel
  go_wp2_with fail
  refine (pow5_in (n + m) _ (by omega)).mono ?_
  rintro e w4 ⟨v, r3, rfl, hown3, is3, hbel⟩
  obtain ⟨o3, c3, rfl, hl3, hm3, at3⟩ := hown3.shape
  clear hown3
  replace at1 := at1.below hbel
  replace at2 := at2.below hbel
  replace tab := tab.below hbel
  replace hbw := hbw.trans (hbel.mono hbw.size)
  clear hbel
  go_wp2_with fail
  refine (pow10_in n _ (by omega)).mono ?_
  rintro e w5 ⟨v, r4, rfl, hown4, is4, hbel⟩
  obtain ⟨o4, c4, rfl, hl4, hm4, at4⟩ := hown4.shape
  clear hown4
  replace at1 := at1.below hbel
  replace at2 := at2.below hbel
  replace at3 := at3.below hbel
  replace tab := tab.below hbel
  replace hbw := hbw.trans (hbel.mono hbw.size)
  clear hbel
  go_wp2_with fail
  refine (shl_any o1 r1.length c1 n r1 _ (by omega) hl1 (by omega) rfl at1 is1.1).mono ?_
  rintro e w6 ⟨v, r5, rfl, hown5, is5, hbel⟩
  obtain ⟨o5, c5, rfl, hl5, hm5, at5⟩ := hown5.shape
  clear hown5
  replace at1 := at1.below hbel
  replace at2 := at2.below hbel
  replace at3 := at3.below hbel
  replace at4 := at4.below hbel
  replace tab := tab.below hbel
  replace hbw := hbw.trans (hbel.mono hbw.size)
  clear hbel
  go_wp2_with fail
  refine (mul_any o1 o2 r1.length c1 r2.length c2 r1 r2 _ hl1 (by omega) hl2 (by omega) rfl rfl at1 at2 is1.1 is2.1).mono ?_
  rintro e w7 ⟨v, r6, rfl, hown6, is6, hbel⟩
  obtain ⟨o6, c6, rfl, hl6, hm6, at6⟩ := hown6.shape
  clear hown6
  replace at1 := at1.below hbel
  replace at2 := at2.below hbel
  replace at3 := at3.below hbel
  replace at4 := at4.below hbel
  replace at5 := at5.below hbel
  replace tab := tab.below hbel
  replace hbw := hbw.trans (hbel.mono hbw.size)
  clear hbel
  have eq : Hid (r3 = r6) := is3.same is6 (by rw [is1.2.2, is2.2.2, Nat.pow_add])
  go_wp2_with fail
  refine (same_any o3 o6 r3.length c3 r6.length c6 r3 r6 _ (by omega) rfl rfl at3 at6).mono ?_
  rintro e w8 ⟨rfl, hbel⟩
  rw [show decide (r3 = r6) = true from decide_eq_true eq.out]
  replace at1 := at1.below hbel
  replace at2 := at2.below hbel
  replace at3 := at3.below hbel
  replace at4 := at4.below hbel
  replace at5 := at5.below hbel
  replace at6 := at6.below hbel
  replace tab := tab.below hbel
  replace hbw := hbw.trans (hbel.mono hbw.size)
  clear hbel
  clear eq
  clear at3
  clear at6
  clear is3 is6 hl3 hm3 hl6 hm6
  have eq : Hid (r4 = r5) := is4.same is5 (by rw [is1.2.2, ← Nat.mul_pow])
  go_wp2_with fail
  refine (same_any o4 o5 r4.length c4 r5.length c5 r4 r5 _ (by omega) rfl rfl at4 at5).mono ?_
  rintro e w9 ⟨rfl, hbel⟩
  rw [show decide (r4 = r5) = true from decide_eq_true eq.out]
  replace at1 := at1.below hbel
  replace at2 := at2.below hbel
  replace at4 := at4.below hbel
  replace at5 := at5.below hbel
  replace tab := tab.below hbel
  replace hbw := hbw.trans (hbel.mono hbw.size)
  clear hbel
  clear eq
  clear at5
  clear at1
  clear at2
  clear is5 hl5 hm5 is1 is2 hl1 hm1 hl2 hm2
  go_wp2_with fail
  refine (text_any o4 r4.length c4 r4 _ hl4 (by omega) rfl at4 is4.1 tab).mono ?_
  rintro e w10 ⟨rfl, hbel⟩
  rw [is4.2.2, ← hds.out]
  replace at4 := at4.below hbel
  replace tab := tab.below hbel
  replace hbw := hbw.trans (hbel.mono hbw.size)
  clear hbel
  clear at4
  clear is4 hl4 hm4 tab
  have hsz := hdsz
  have hpos : 0 < ds.size := by omega
  have hb0 : ∀ h : 0 < ds.size, ds[0].toNat = 49 := fun h => by rw [byt_get ds 0 h]; exact hd0
  go_wp2
  go_loopw [16] (fun i wr => ∃ k : Nat, 1 ≤ k ∧ k ≤ n + 1 ∧ i = .int .i64 (k : Int) ∧ wr = w10) (fun i _ => n + 1 - (intOf i).toNat)
  case atStart => exact ⟨1, Nat.le_refl _, by omega, rfl, rfl⟩
  case round =>
    obtain ⟨k, hk1, hk, rfl, rfl⟩ := hrel
    by_cases hlt : k < n + 1
    · have hlt' : (k : Int) < (ds.size : Int) := by omega
      have hks : k < ds.size := by omega
      have hbk : ∀ h : k < ds.size, ds[k].toNat = 48 := fun h => by rw [byt_get ds k h]; exact hdk k hk1 hlt
      go_wp2
      exact ⟨⟨k + 1, by omega, by omega, by go_num, trivial⟩, by simp [intOf]; omega⟩
    · have hkk : k = n + 1 := by omega
      have hlt' : ¬ (k : Int) < (ds.size : Int) := by omega
      have hq : (ds.size : Int) = (n : Int) + 1 := by omega
      go_wp2
      go_ret
      exact ⟨rfl, hbw⟩

theorem wgrows_walk (w : World) (tab : Tab w) (n m : Int) :
    Calls Tryd.prog 3 #[.int .i64 n, .int .i64 m] w fun e w' => e = .returned (.bool true) ∧ Below w.heap.size w w' := by
  by_cases hn : n < 0
  · exact wgrows_n w tab n m hn
  · by_cases hm : m < 0
    · exact wgrows_m w tab n m hn hm
    · by_cases hN : 4096 < n
      · exact wgrows_N w tab n m hn hm hN
      · by_cases hM : 4096 < m
        · exact wgrows_M w tab n m hn hm hN hM
        · obtain ⟨a, rfl⟩ := Int.eq_ofNat_of_zero_le (show 0 ≤ n by omega)
          obtain ⟨b, rfl⟩ := Int.eq_ofNat_of_zero_le (show 0 ≤ m by omega)
          refine wgrows_in w tab a b (by omega) (by omega) ⟨(Lib.decDigits (10 ^ a)).toArray⟩ rfl ?_ ?_ ?_
          · show (Lib.decDigits (10 ^ a)).length = a + 1
            rw [dd_pow]; simp
          · show byt (Lib.decDigits (10 ^ a)) 0 = 49
            rw [dd_pow]; rfl
          · intro k h1 h2
            show byt (Lib.decDigits (10 ^ a)) k = 48
            rw [dd_pow]
            obtain ⟨j, rfl⟩ : ∃ j, k = j + 1 := ⟨k - 1, by omega⟩
            unfold byt
            rw [List.getElem?_cons_succ, List.getElem?_replicate, if_pos (by omega)]
            rfl

end Go.Proofs.YtnlnjdieajdgfacDoor
