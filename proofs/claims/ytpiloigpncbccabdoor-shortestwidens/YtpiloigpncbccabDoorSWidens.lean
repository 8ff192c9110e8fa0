/-
  The walk of ShortestWidens.
-/
import Derived.Test.YtpiloigpncbccabDoorZSD
import Derived.Test.YtpiloigpncbccabDoorSWidM
namespace Go.Proofs.YtpiloigpncbccabDoor
open Go.RowKit

/-- The float64 of a float32's fields. -/
def wideOf (s x m : Nat) : Nat := s * 9223372036854775808 + (x + 896) * 4503599627370496 + m * 536870912

theorem wide_fields {s x m : Nat} (hs : s ≤ 1) (hx : x < 255) (hm : m < 8388608) : wideOf s x m < 18446744073709551616 ∧ wideOf s x m / 2 ^ 52 % 2 ^ 11 = x + 896 ∧ wideOf s x m % 2 ^ 52 = m * 536870912 ∧ wideOf s x m / 2 ^ 52 / 2 ^ 11 = s := by
  have e1 : (2 : Nat) ^ 52 = 4503599627370496 := by decide
  have e2 : (2 : Nat) ^ 11 = 2048 := by decide
  unfold wideOf
  rw [e1, e2]
  omega

theorem wid_num {x m : Nat} (h0 : x ≠ 0) : fNum 52 (x + 896) (m * 536870912) = fNum 23 x m * 2 ^ 29 := by
  have e1 : (2 : Nat) ^ 52 = 4503599627370496 := by decide
  have e2 : (2 : Nat) ^ 23 = 8388608 := by decide
  have e3 : (2 : Nat) ^ 29 = 536870912 := by decide
  unfold fNum
  rw [if_neg (by omega), if_neg h0, e1, e2, e3]; omega

theorem wid_pow {x : Nat} (h0 : x ≠ 0) : fPow 1074 (x + 896) = fPow 149 x - ((29 : Nat) : Int) := by
  unfold fPow
  rw [if_neg (by omega), if_neg h0]; omega

theorem wid_exact (neg : Bool) {x m : Nat} (h0 : x ≠ 0) : decA neg (allD 52 1074 (x + 896) (m * 536870912)).1 (allD 52 1074 (x + 896) (m * 536870912)).2 = decA neg (allD 23 149 x m).1 (allD 23 149 x m).2 := by
  obtain ⟨j, h1, h2⟩ := p2_shift (fPow 149 x) 29
  have hn : fNum 23 x m ≠ 0 := by unfold fNum; rw [if_neg h0]; have := Nat.pow_pos (n := 23) (show 0 < 2 by omega); omega
  have hp := p2N_pos (fPow 149 x)
  unfold allD
  simp only
  rw [wid_num h0, wid_pow h0, Nat.mul_assoc, h1, ← Nat.mul_assoc, decA_tens (Nat.mul_ne_zero hn (by omega)), h2]

theorem wid_len (neg : Bool) {x m : Nat} (h0 : x ≠ 0) (hm : m < 8388608) : (decA neg (fewD 23 149 x m).1 (fewD 23 149 x m).2).dig.length ≤ (decA neg (fewD 52 1074 (x + 896) (m * 536870912)).1 (fewD 52 1074 (x + 896) (m * 536870912)).2).dig.length := by
  have e2 : (2 : Nat) ^ 23 = 8388608 := by decide
  have e1 : (2 : Nat) ^ 52 = 4503599627370496 := by decide
  obtain ⟨j, h1, _⟩ := p2_shift (fPow 149 x - 2) 29
  have hn : fNum 23 x m ≠ 0 := by unfold fNum; rw [if_neg h0]; have := Nat.pow_pos (n := 23) (show 0 < 2 by omega); omega
  have hp := p2N_pos (fPow 149 x - 2)
  have hp' := p2N_pos (fPow 149 x - 2 - ((29 : Nat) : Int))
  have e4 : fPow 1074 (x + 896) - 2 = fPow 149 x - 2 - ((29 : Nat) : Int) := by rw [wid_pow h0]; omega
  have e3 : (2 : Nat) ^ 29 = 536870912 := by decide
  have hr0 : (nearOf 23 149 x m).amt ≠ 0 := Nat.mul_ne_zero (by omega) (by omega)
  have ha : (nearOf 52 1074 (x + 896) (m * 536870912)).amt = (nearOf 23 149 x m).amt * 10 ^ j := by
    show p2N (fPow 1074 (x + 896) - 2) * (fNum 52 (x + 896) (m * 536870912) * 4) = p2N (fPow 149 x - 2) * (fNum 23 x m * 4) * 10 ^ j
    rw [e4, wid_num h0, Nat.mul_right_comm (p2N (fPow 149 x - 2)), ← h1]
    generalize p2N (fPow 149 x - 2 - ((29 : Nat) : Int)) = P
    generalize fNum 23 x m = Q
    generalize (2 : Nat) ^ 29 = Z
    simp only [Nat.mul_comm, Nat.mul_left_comm, Nat.mul_assoc]
  have hq : p2N (fPow 149 x - 2) * 10 ^ j = 536870912 * p2N (fPow 149 x - 2 - ((29 : Nat) : Int)) := by rw [← h1, e3]
  have hl : (nearOf 52 1074 (x + 896) (m * 536870912)).lo < (nearOf 23 149 x m).lo * 10 ^ j := by
    show (if m * 536870912 = 0 ∧ 1 < x + 896 then p2N (fPow 1074 (x + 896) - 2) else p2N (fPow 1074 (x + 896) - 2) * 2) < (if m = 0 ∧ 1 < x then p2N (fPow 149 x - 2) else p2N (fPow 149 x - 2) * 2) * 10 ^ j
    rw [e4]
    split <;> split
    · rw [hq]; omega
    · rw [Nat.mul_right_comm, hq]; omega
    · rw [hq]; omega
    · rw [Nat.mul_right_comm, hq]; omega
  have hh : (nearOf 52 1074 (x + 896) (m * 536870912)).hi < (nearOf 23 149 x m).hi * 10 ^ j := by
    show p2N (fPow 1074 (x + 896) - 2) * 2 < p2N (fPow 149 x - 2) * 2 * 10 ^ j
    rw [e4, Nat.mul_right_comm, hq]; omega
  have gr := nearOf_good (B := 149) (x := x) (F := 23) (m := m) (by omega) (by rw [e2]; exact hm)
  have gs := nearOf_good (B := 1074) (x := x + 896) (F := 52) (m := m * 536870912) (by omega) (by rw [e1]; omega)
  rcases hf : fewN (nearOf 23 149 x m) (sizeN (nearOf 23 149 x m).amt) with ⟨v, p⟩
  rcases hf' : fewN (nearOf 52 1074 (x + 896) (m * 536870912)) (sizeN (nearOf 52 1074 (x + 896) (m * 536870912)).amt) with ⟨v', p'⟩
  have := len_within gr gs hr0 ha hl hh hf hf' neg (fewD 23 149 x m).2 (fewD 52 1074 (x + 896) (m * 536870912)).2
  have d1 : (fewD 23 149 x m).1 = v := by unfold fewD; rw [hf]
  have d2 : (fewD 52 1074 (x + 896) (m * 536870912)).1 = v' := by unfold fewD; rw [hf']
  rw [d1, d2]
  exact this

set_option maxRecDepth 100000 in
theorem wid_or {s x m : Nat} (hs : s ≤ 1) (hx : x < 255) (hm : m < 8388608) : bits .or .u64 (bits .or .u64 ((s * 9223372036854775808 : Nat) : Int) (((x + 896) * 4503599627370496 : Nat) : Int)) ((m * 536870912 : Nat) : Int) = ((wideOf s x m : Nat) : Int) := by
  have a1 := bits_or_u64_nat (s * 9223372036854775808) ((x + 896) * 4503599627370496) (by omega) (by omega)
  have o1 := or_low (y := (x + 896) * 4503599627370496) (a := s) (s := 63) (by rw [show (2 : Nat) ^ 63 = 9223372036854775808 by decide]; omega)
  rw [show (2 : Nat) ^ 63 = 9223372036854775808 by decide, Nat.or_comm] at o1
  rw [o1] at a1
  rw [a1]
  have a2 := bits_or_u64_nat ((x + 896) * 4503599627370496 + s * 9223372036854775808) (m * 536870912) (by omega) (by omega)
  have o2 := or_low (y := m * 536870912) (a := x + 896 + s * 2048) (s := 52) (by rw [show (2 : Nat) ^ 52 = 4503599627370496 by decide]; omega)
  rw [show (2 : Nat) ^ 52 = 4503599627370496 by decide, Nat.or_comm, show (x + 896 + s * 2048) * 4503599627370496 = (x + 896) * 4503599627370496 + s * 9223372036854775808 by omega] at o2
  rw [o2] at a2
  rw [a2]
  unfold wideOf
  rw [Nat.add_comm (s * 9223372036854775808), Nat.add_comm (m * 536870912)]

set_option maxRecDepth 100000 in
theorem field_dig (c : Int) (n : Bool) (t : ByteArray) (e : Int) (W : World) : (Instr.field 27 (.agg #[.int .i64 c, .bool n, .string t, .int .i64 e]) 2).run Tryd.prog W = .ok (.string t) W := by
  first | kernel_rfl | simp [go_sem, Tryd.underlying27] | simp [Instr.field, go_sem, Tryd.underlying27]

set_option maxHeartbeats 1000000 in
theorem widens_trivial (b x m : Nat) (w : World) (htab : Tab w) (mx : bits .and .u32 ((b : Int) / 8388608) 255 = (x : Int)) (mm : bits .and .u32 (b : Int) 8388607 = (m : Int)) (hx : (x : Int) = 255 ∨ (x : Int) = 0) (hm : m < 8388608) :
    Calls Tryd.prog 3 #[.int .u32 (b : Int)] w fun e w' => e = .returned (.bool true) ∧ Below w.heap.size w w' := by
  have AW := hide (awake_any w htab)
  clear htab
  rcases hx with hx | hx
  · go_enter Tryd.func3, Tryd.ntmps3
    go_wp2_with fail
    refine AW.out.mono ?_
    rintro e w1 ⟨rfl, hb1⟩
    have HB1 := hide hb1
    clear hb1 AW
    go_wp2
    go_ret
    exact ⟨rfl, HB1.out⟩
  · go_enter Tryd.func3, Tryd.ntmps3
    go_wp2_with fail
    refine AW.out.mono ?_
    rintro e w1 ⟨rfl, hb1⟩
    have HB1 := hide hb1
    clear hb1 AW
    go_wp2
    go_ret
    exact ⟨rfl, HB1.out⟩

set_option maxRecDepth 100000 in
set_option maxHeartbeats 2000000 in
theorem widens_some (b s x m : Nat) (w : World) (htab : Tab w) (hb : b < 4294967296) (mx : bits .and .u32 ((b : Int) / 8388608) 255 = (x : Int)) (mm : bits .and .u32 (b : Int) 8388607 = (m : Int)) (hs : s ≤ 1) (ms : (b : Int) / 2147483648 = (s : Int)) (hx : x < 255) (hx0 : x ≠ 0) (hm : m < 8388608)
    (d1 : ex32D b = ex64D (wideOf s x m)) (d2 : (of32D b).dig.length ≤ (of64D (wideOf s x m)).dig.length) (d3 : (of64D (wideOf s x m)).dig.length ≤ 2000) :
    Calls Tryd.prog 3 #[.int .u32 (b : Int)] w fun e w' => e = .returned (.bool true) ∧ Below w.heap.size w w' := by
  have AW := hide (awake_any w htab)
  have HT := hide htab
  have wf := wide_fields hs hx hm
  have WO := hide (wid_or hs hx hm)
  obtain ⟨W, hW⟩ : ∃ W, W = wideOf s x m := ⟨_, rfl⟩
  rw [← hW] at d1 d2 d3 wf WO
  have E1 := hide (fun w => exact32_any b w hb)
  have E2 := hide (fun w => exact64_any W w wf.1)
  have F1 := hide (fun w => of32_any b w hb)
  have F2 := hide (fun w => of64_any W w wf.1)
  rw [d1] at E1
  obtain ⟨de, hde⟩ : ∃ d, d = ex64D W := ⟨_, rfl⟩
  obtain ⟨d3', hd3⟩ : ∃ d, d = of32D b := ⟨_, rfl⟩
  obtain ⟨d6, hd6⟩ : ∃ d, d = of64D W := ⟨_, rfl⟩
  rw [← hde] at E1 E2
  rw [← hd3] at F1 d2
  rw [← hd6] at F2 d2 d3
  have FE : Hid (decVal de = .agg #[.int .i64 (de.cls : Int), .bool de.neg, .string ⟨de.dig.toArray⟩, .int .i64 de.exp]) := rfl
  have F3 : Hid (decVal d3' = .agg #[.int .i64 (d3'.cls : Int), .bool d3'.neg, .string ⟨d3'.dig.toArray⟩, .int .i64 d3'.exp]) := rfl
  have F6 : Hid (decVal d6 = .agg #[.int .i64 (d6.cls : Int), .bool d6.neg, .string ⟨d6.dig.toArray⟩, .int .i64 d6.exp]) := rfl
  obtain ⟨ce, hce⟩ : ∃ z : Int, z = (de.cls : Int) := ⟨_, rfl⟩
  obtain ⟨ne, hne⟩ : ∃ z, z = de.neg := ⟨_, rfl⟩
  obtain ⟨te, hte⟩ : ∃ z : ByteArray, z = ⟨de.dig.toArray⟩ := ⟨_, rfl⟩
  obtain ⟨ee, hee⟩ : ∃ z, z = de.exp := ⟨_, rfl⟩
  obtain ⟨t3, ht3⟩ : ∃ z : ByteArray, z = ⟨d3'.dig.toArray⟩ := ⟨_, rfl⟩
  obtain ⟨t6, ht6⟩ : ∃ z : ByteArray, z = ⟨d6.dig.toArray⟩ := ⟨_, rfl⟩
  have hle : t3.size ≤ t6.size := by rw [ht3, ht6]; simpa [ByteArray.size] using d2
  have hl6 : t6.size ≤ 2000 := by rw [ht6]; simpa [ByteArray.size] using d3
  rw [← hce, ← hne, ← hte, ← hee] at FE
  rw [← ht3] at F3
  rw [← ht6] at F6
  rw [FE.out] at E1 E2
  rw [F3.out] at F1
  rw [F6.out] at F2
  have hle' : (t3.size : Int) ≤ (t6.size : Int) := by omega
  have WZ : Hid (bits .or .u64 (bits .or .u64 ((s : Int) * 9223372036854775808) (((x : Int) + 896) * 4503599627370496)) ((m : Int) * 536870912) = (W : Int)) := by
    have h := WO.out
    rw [show ((s * 9223372036854775808 : Nat) : Int) = (s : Int) * 9223372036854775808 by omega, show (((x + 896) * 4503599627370496 : Nat) : Int) = ((x : Int) + 896) * 4503599627370496 by omega, show ((m * 536870912 : Nat) : Int) = (m : Int) * 536870912 by omega] at h
    exact h
  clear WO
  have hf3 : ∀ W, (Instr.field 27 (.agg #[.int .i64 (d3'.cls : Int), .bool d3'.neg, .string t3, .int .i64 d3'.exp]) 2).run Tryd.prog W = .ok (.string t3) W := fun W => field_dig _ _ _ _ W
  have hf6 : ∀ W, (Instr.field 27 (.agg #[.int .i64 (d6.cls : Int), .bool d6.neg, .string t6, .int .i64 d6.exp]) 2).run Tryd.prog W = .ok (.string t6) W := fun W => field_dig _ _ _ _ W
  have hx1 : ((x : Int) == 255) = false := by
    have : ¬ (x : Int) = 255 := by omega
    simpa using this
  have hx2 : ((x : Int) == 0) = false := by
    have : ¬ (x : Int) = 0 := by omega
    simpa using this
  clear htab FE F3 F6 hde hd3 hd6 hce hne hte hee ht3 ht6 d1 d2 d3 hW hx0 wf hb
  go_enter Tryd.func3, Tryd.ntmps3
  go_wp2_with fail
  refine AW.out.mono ?_
  rintro e w1 ⟨rfl, hb1⟩
  have HB1 := hide hb1
  clear hb1 AW
  go_wp2_with fail
  refine (E1.out _ (HT.out.below HB1.out)).mono ?_
  rintro e w2 ⟨rfl, hb2⟩
  have HB2 := hide (HB1.out.trans (hb2.mono HB1.out.size))
  clear hb2 HB1 E1
  go_wp2_with fail
  rw [WZ.out]
  refine (E2.out _ (HT.out.below HB2.out)).mono ?_
  rintro e w3 ⟨rfl, hb3⟩
  have HB3 := hide (HB2.out.trans (hb3.mono HB2.out.size))
  clear hb3 HB2 E2
  go_wp2_with fail
  refine (F1.out _ (HT.out.below HB3.out)).mono ?_
  rintro e w4 ⟨rfl, hb4⟩
  have HB4 := hide (HB3.out.trans (hb4.mono HB3.out.size))
  clear hb4 HB3 F1
  go_wp2_with fail
  refine (F2.out _ (HT.out.below HB4.out)).mono ?_
  rintro e w5 ⟨rfl, hb5⟩
  have HB5 := hide (HB4.out.trans (hb5.mono HB4.out.size))
  clear hb5 HB4 F2
  go_wp2
  go_ret
  exact ⟨rfl, HB5.out⟩

theorem mask32 (k n a : Nat) (hk : n + 1 = 2 ^ k) (ha : a < 4294967296) (hn : n < 4294967296) : bits .and .u32 (a : Int) (n : Int) = ((a % (n + 1) : Nat) : Int) := by
  have h := u32_and_nat a n ha hn
  rw [show n = 2 ^ k - 1 by omega, Nat.and_two_pow_sub_one_eq_mod a k, ← hk] at h
  rw [← h, Nat.add_sub_cancel]

theorem widens_walk (w : World) (htab : Tab w) (b : Nat) (hb : b < 4294967296) :
    Calls Tryd.prog 3 #[.int .u32 (b : Int)] w fun e w' => e = .returned (.bool true) ∧ Below w.heap.size w w' := by
  have e1 : (2 : Nat) ^ 23 = 8388608 := by decide
  have e2 : (2 : Nat) ^ 8 = 256 := by decide
  obtain ⟨x, hx⟩ : ∃ x, x = b / 8388608 % 256 := ⟨_, rfl⟩
  obtain ⟨m, hm⟩ : ∃ m, m = b % 8388608 := ⟨_, rfl⟩
  obtain ⟨s, hs⟩ : ∃ s, s = b / 2147483648 := ⟨_, rfl⟩
  have hml : m < 8388608 := by omega
  have mx : bits .and .u32 ((b : Int) / 8388608) 255 = (x : Int) := by
    have h := mask32 8 255 (b / 8388608) (by decide) (by omega) (by omega)
    rw [hx, show (b : Int) / 8388608 = ((b / 8388608 : Nat) : Int) by omega]
    exact h
  have mm : bits .and .u32 (b : Int) 8388607 = (m : Int) := by
    have h := mask32 23 8388607 b (by decide) hb (by omega)
    rw [hm]
    exact h
  by_cases h1 : x = 255 ∨ x = 0
  · exact widens_trivial b x m w htab mx mm (by omega) hml
  · have hx0 : x ≠ 0 := by omega
    have hx1 : x < 255 := by omega
    have hs1 : s ≤ 1 := by omega
    obtain ⟨g1, g2, g3, g4⟩ := wide_fields hs1 hx1 hml
    have hsg : (decide (b / 2 ^ 23 / 2 ^ 8 ≠ 0)) = decide (s ≠ 0) := by
      rw [e1, e2, show b / 8388608 / 256 = s by omega]
    have D3 : ∀ tell, decOf 23 8 tell b = decA (decide (s ≠ 0)) (tell x m).1 (tell x m).2 := fun tell => by
      unfold decOf
      rw [hsg, e1, e2, ← hx, ← hm, if_neg (by omega), if_neg (by omega)]
    have D6 : ∀ tell, decOf 52 11 tell (wideOf s x m) = decA (decide (s ≠ 0)) (tell (x + 896) (m * 536870912)).1 (tell (x + 896) (m * 536870912)).2 := fun tell => by
      unfold decOf
      rw [g2, g3, g4, if_neg (by rw [show (2 : Nat) ^ 11 = 2048 by decide]; omega), if_neg (by omega)]
    have F6 := (fewD_formed (decide (s ≠ 0)) (F := 52) (B := 1074) (x := x + 896) (m := m * 536870912) (by omega) (by rw [show (2 : Nat) ^ 52 = 4503599627370496 by decide]; omega) (by omega) (by unfold fPow; rw [if_neg (by omega)]; omega) (by unfold fPow; rw [if_neg (by omega)]; omega)).1.len
    refine widens_some b s x m w htab hb mx mm hs1 (by omega) hx1 hx0 hml ?_ ?_ ?_
    · rw [show ex32D b = _ from D3 _, show ex64D (wideOf s x m) = _ from D6 _, wid_exact _ hx0]
    · rw [show of32D b = _ from D3 _, show of64D (wideOf s x m) = _ from D6 _]
      exact wid_len _ hx0 hml
    · rw [show of64D (wideOf s x m) = _ from D6 _]
      omega

end Go.Proofs.YtpiloigpncbccabDoor
