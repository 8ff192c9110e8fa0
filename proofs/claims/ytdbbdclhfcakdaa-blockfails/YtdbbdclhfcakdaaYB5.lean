/-
  BlockTurned answers true.
-/
import Derived.Test.YtdbbdclhfcakdaaYB4
namespace Go.Proofs.Ytdbbdclhfcakdaa
open Go.RowKit

def plc (n : Int) (m : Nat) : Nat := (n % (m : Int)).toNat
theorem plc_lt (n : Int) {m : Nat} (h : 0 < m) : plc n m < m := by
  unfold plc
  have h1 := Int.emod_nonneg n (show (m : Int) ≠ 0 by omega)
  have h2 := Int.emod_lt_of_pos n (show (0 : Int) < (m : Int) by omega)
  omega

set_option maxHeartbeats 1000000 in
theorem place_any (n : Int) (m : Nat) (w : World) (h0 : 0 < m) (hm : m ≤ 1000000) : Calls Try.prog 24 #[.int .i64 n, .int .i64 (m : Int)] w fun e w' => e = .returned (.int .i64 (plc n m : Int)) ∧ w = w' := by
  have hz : ((m : Int) == 0) = false := beq_eq_false_iff_ne.2 (by omega)
  have hp : (plc n m : Int) = n % (m : Int) := by
    unfold plc
    have := Int.emod_nonneg n (show (m : Int) ≠ 0 by omega)
    omega
  have ht : n.tmod (m : Int) = if 0 ≤ n ∨ (m : Int) ∣ n then n % (m : Int) else n % (m : Int) - (m : Int) := by
    have := Int.tmod_eq_emod (a := n) (b := (m : Int))
    rw [this]
    by_cases h : 0 ≤ n ∨ (m : Int) ∣ n
    · rw [if_pos h, if_pos h]; omega
    · rw [if_neg h, if_neg h]; omega
  obtain ⟨t, htt⟩ : ∃ t, t = n.tmod (m : Int) := ⟨_, rfl⟩
  have hl := Int.emod_lt_of_pos n (show (0 : Int) < (m : Int) by omega)
  have hg := Int.emod_nonneg n (show (m : Int) ≠ 0 by omega)
  rw [← htt] at ht
  have htm := htt.symm
  clear htt
  by_cases hneg : t < 0
  · have e : (plc n m : Int) = t + (m : Int) := by
      rw [hp]
      by_cases h : 0 ≤ n ∨ (m : Int) ∣ n
      · rw [if_pos h] at ht; omega
      · rw [if_neg h] at ht; omega
    have hb : -1000000 ≤ t := by
      by_cases h : 0 ≤ n ∨ (m : Int) ∣ n
      · rw [if_pos h] at ht; omega
      · rw [if_neg h] at ht; omega
    have E := hide e
    clear ht hp e hl hg
    go_enter Try.func24, Try.ntmps24
    go_wp2
    go_ret
    exact ⟨by rw [E.out]; rfl, rfl⟩
  · have e : (plc n m : Int) = t := by
      rw [hp]
      by_cases h : 0 ≤ n ∨ (m : Int) ∣ n
      · rw [if_pos h] at ht; omega
      · rw [if_neg h] at ht; omega
    have E := hide e
    clear ht hp e hl hg
    go_enter Try.func24, Try.ntmps24
    go_wp2
    go_ret
    exact ⟨by rw [E.out]; rfl, rfl⟩

theorem may_one (f : Flt) : mayAllF [f] = mayF f := by
  simp [mayAllF, okTo, okN, nth, findF, Flt.zero]

theorem flip_cat (l : List UInt8) {p k : Nat} (hp : p < l.length) : l.take p ++ [UInt8.ofNat (byt l p ^^^ 2 ^ k)] ++ l.drop (p + 1) = flipB l p k := by
  unfold flipB
  rw [List.set_eq_take_append_cons_drop, if_pos hp, List.append_assoc]
  rfl

theorem turned_cat (S : ByteArray) {p k : Nat} (hp : p < S.size) : S.extract 0 p ++ ⟨#[UInt8.ofNat (byt (bys S) p ^^^ 2 ^ k)]⟩ ++ S.extract (p + 1) S.size = ⟨(flipB (bys S) p k).toArray⟩ := by
  rw [← mk_bysB (S.extract 0 p ++ ⟨#[UInt8.ofNat (byt (bys S) p ^^^ 2 ^ k)]⟩ ++ S.extract (p + 1) S.size), bys_append, bys_append, bys_toB, bys_fromB _ _ _ (Nat.le_refl _), show bys ⟨#[UInt8.ofNat (byt (bys S) p ^^^ 2 ^ k)]⟩ = [UInt8.ofNat (byt (bys S) p ^^^ 2 ^ k)] from rfl, flip_cat _ (by rw [bys_len]; exact hp)]

theorem conv1 (q k : Nat) (hq : q < 256) (hk : k ≤ 7) (w : World) : (convert 52 9 (.slice (some ⟨w.heap.size, 0, none⟩) 1 1)).run Try.prog (w.alloc (.cells #[.int .u8 ((q ^^^ 2 ^ k : Nat) : Int)] 5)) = .ok (.string ⟨#[UInt8.ofNat (q ^^^ 2 ^ k)]⟩) (w.alloc (.cells #[.int .u8 ((q ^^^ 2 ^ k : Nat) : Int)] 5)) := by
  have B := Blk.newAt w w.heap.size rfl #[.int .u8 ((q ^^^ 2 ^ k : Nat) : Int)] 5
  refine convB_at (l := [UInt8.ofNat (q ^^^ 2 ^ k)]) fun i hi => ?_
  have h2 : 2 ^ k < 256 := Nat.lt_of_le_of_lt (Nat.pow_le_pow_right (by decide) hk) (by decide)
  obtain rfl : i = 0 := by simpa using hi
  rw [Nat.zero_add, B.cell 0]
  show some (Value.int .u8 ((q ^^^ 2 ^ k : Nat) : Int)) = some (Value.int .u8 (((UInt8.ofNat (q ^^^ 2 ^ k)).toNat : Nat) : Int))
  rw [UInt8.toNat_ofNat', Nat.mod_eq_of_lt (Nat.xor_lt_two_pow (n := 8) hq h2)]

theorem xor_bit {q k : Nat} (hq : q < 256) (hk : k ≤ 7) : bits .xor .u8 (q : Int) (2 ^ k % 256) = ((q ^^^ 2 ^ k : Nat) : Int) := by
  have h2 : 2 ^ k < 256 := Nat.lt_of_le_of_lt (Nat.pow_le_pow_right (by decide) hk) (by decide)
  have := u8_xor_nat q (2 ^ k) hq h2
  have e : ((2 : Int) ^ k) = ((2 ^ k : Nat) : Int) := (Int.natCast_pow 2 k).symm
  have e2 : (((2 ^ k : Nat) : Int) % 256) = ((2 ^ k : Nat) : Int) := Int.emod_eq_of_lt (Int.natCast_nonneg _) (Int.ofNat_lt.2 h2)
  rw [e, e2]
  exact this

set_option maxRecDepth 100000 in
set_option maxHeartbeats 2000000 in
theorem turned_row (w : World) (s : ByteArray) (hs : s.size ≤ 140737488355328) (at_ : Int) (_ : -9223372036854775808 ≤ at_ ∧ at_ ≤ 9223372036854775807) (bit : Int) (_ : -9223372036854775808 ≤ bit ∧ bit ≤ 9223372036854775807) : Calls Try.prog 7 #[.string s, .int .i64 at_, .int .i64 bit] w fun e w' => e = .returned (.bool true) ∧ Below w.heap.size w w' := by
  have K5 := hide (fun X => fixed_any X)
  by_cases h65 : s.size ≤ 65536
  · have K1 := hide (fun X => Seal_ok s X h65)
    obtain ⟨S, hS⟩ : ∃ S : ByteArray, S = ⟨(sealL (bys s)).toArray⟩ := ⟨_, rfl⟩
    have hSz : S.size = s.size + 16 := by rw [hS, size_mkL, seal_len, bys_len]; omega
    have hq1 : ((S.size : Int) != (s.size : Int) + 16) = false := by rw [hSz]; simp
    have hSb : S.size ≤ 65552 := by omega
    rw [← hS] at K1
    have hbs : bys S = sealL (bys s) := by rw [hS, bys_mkL (sealL (bys s))]
    have P1 := hide (fun X => place_any at_ S.size X (by omega) (by omega))
    have P2 := hide (fun X => place_any bit 8 X (by omega) (by omega))
    have hpl := plc_lt at_ (m := S.size) (by omega)
    have hkl := plc_lt bit (m := 8) (by omega)
    generalize plc at_ S.size = p at *
    generalize plc bit 8 = k at *
    obtain ⟨q, hq⟩ : ∃ q, q = byt (bys S) p := ⟨_, rfl⟩
    have hgq : ∀ h : p < S.size, S[p].toNat = q := fun h => by rw [hq]; exact byt_get S p h
    have hql : q < 256 := by rw [hq]; exact byt_lt _ _
    have HX := hide (xor_bit hql (show k ≤ 7 by omega))
    have HCV : Hid (∀ X : World, (convert 52 9 (.slice (some ⟨X.heap.size, 0, none⟩) 1 1)).run Try.prog (X.alloc (.cells #[.int .u8 ((q ^^^ 2 ^ k : Nat) : Int)] 5)).drew = .ok (.string ⟨#[UInt8.ofNat (q ^^^ 2 ^ k)]⟩) (X.alloc (.cells #[.int .u8 ((q ^^^ 2 ^ k : Nat) : Int)] 5)).drew) := hide (fun X => conv1 q k hql (by omega) X.drew)
    have hcat := turned_cat S (k := k) hpl
    rw [← hq] at hcat
    obtain ⟨Tn, hTn⟩ : ∃ T : ByteArray, T = ⟨(flipB (bys S) p k).toArray⟩ := ⟨_, rfl⟩
    rw [← hTn] at hcat
    have hTs : Tn.size = S.size := by rw [hTn, size_mkL, flip_len, bys_len]
    have hbT : bys Tn = flipB (sealL (bys s)) p k := by rw [hTn, bys_mkL (flipB (bys S) p k), hbs]
    have L1 := load_turned (img := Tn) (fs := []) (b := bys s) (p := p) (k := k) (by rw [bys_len]; exact h65) (by rw [hTs, bys_len]; omega) (by rw [bys_len]; omega) (by omega) (by rw [← hbT]; exact vir_none _ _)
    have L2 := load_turned (img := S) (fs := [⟨((p / 64 : Nat) : Int), 3, ((p % 64 : Nat) : Int), (k : Int)⟩]) (b := bys s) (p := p) (k := k) (by rw [bys_len]; exact h65) (by rw [bys_len]; omega) (by rw [bys_len]; omega) (by omega) (by rw [← hbs]; exact vir_flip hpl)
    obtain ⟨B1, hB1⟩ : ∃ B : ByteArray, B = ⟨#[UInt8.ofNat (q ^^^ 2 ^ k)]⟩ := ⟨_, rfl⟩
    have hB1s : B1.size = 1 := by rw [hB1]; rfl
    rw [← hB1] at HCV hcat
    generalize q ^^^ 2 ^ k = qq at *
    have HCAT := hide hcat
    have z1 : (S.extract 0 p).size = p := by rw [ByteArray.size_extract]; omega
    have z2 : (S.extract 0 p ++ B1).size = p + 1 := by rw [ByteArray.size_append, z1, hB1s]
    have z3 : (S.extract (p + 1) S.size).size = S.size - (p + 1) := by rw [ByteArray.size_extract]; omega
    have y1 : ¬ 9223372036854775807 < p + 1 := by omega
    have y2 : ¬ 9223372036854775807 < p + 1 + (S.size - (p + 1)) := by omega
    have hpi : (p : Int) < (S.size : Int) := by omega
    have hpi2 : (p : Int) ≤ (S.size : Int) := by omega
    have hpi3 : (p : Int) + 1 ≤ (S.size : Int) := by omega
    have hwp : IntKind.i64.wrap ((p : Int) + 1) = (p : Int) + 1 := by rw [IntKind.wrap_i64]; omega
    have htn : ((p : Int) + 1).toNat = p + 1 := by omega
    have hk7 : k ≤ 7 := by omega
    obtain ⟨E, hE⟩ : ∃ E : Int, E = if p < 16 then 105 else 104 := ⟨_, rfl⟩
    rw [← hE] at L1 L2
    have HE := hide hE
    clear hE
    have HTs := hide hTs
    have HL1 := hide L1
    have FE : (⟨((p / 64 : Nat) : Int), 3, ((p % 64 : Nat) : Int), (k : Int)⟩ : Flt) = ⟨(p : Int) / 64, 3, (p : Int) % 64, (k : Int)⟩ := by rw [Int.natCast_ediv, Int.natCast_emod]; rfl
    rw [FE] at L2
    have HL2 := hide L2
    have K2 := hide (fun X => New_load (w := X) Tn (by omega) (nil_arg X) (by decide))
    have hmay : mayAllF [⟨((p / 64 : Nat) : Int), 3, ((p % 64 : Nat) : Int), (k : Int)⟩] = true := by
      rw [may_one]
      exact decide_eq_true (by dsimp only; omega)
    rw [FE] at hmay
    have HMY := hide hmay
    clear FE
    have HSb := hide hSb
    have HPL := hide hpl
    have hx := HX.out
    clear hS hSz hq hcat hTn hTs hbT L1 L2 hbs h65 hB1 hmay hkl hql
    go_enter Try.func7, Try.ntmps7
    go_wp2_with fail
    refine (K1.out _).mono ?_
    rintro e w1 ⟨rfl, hb⟩
    have HB1 := hide hb
    clear hb
    go_wp2_with fail
    refine (P1.out _).mono ?_
    rintro e w1' ⟨rfl, rfl⟩
    go_wp2_with fail
    refine (P2.out _).mono ?_
    rintro e w1' ⟨rfl, rfl⟩
    have hcv := HCV.out w1
    go_wp2_with fail
    go_region
    rw [HCAT.out]
    obtain ⟨w2, hw2⟩ : ∃ x, x = (w1.alloc (Obj.cells #[Value.int .u8 (qq : Int)] 5)).drew := ⟨_, rfl⟩
    have HB2 : Hid (Below w.heap.size w w2) := hide (by rw [hw2]; exact (HB1.out.alloc HB1.out.size _).drew)
    rw [← hw2]
    clear hw2 hcv HCV HB1 hx HX P1 P2 K1 z1 z2 z3 y1 y2 hpi hpi2 hpi3 hwp htn hgq hB1s
    go_wp2_with fail
    refine (K2.out _).mono ?_
    rintro e w3 ⟨D1, rfl, hdd, hb⟩
    obtain ⟨hD1, hD1', u1, hds1, hlo1, _⟩ := hdd
    have HB3 := hide (HB2.out.trans (hb.mono HB2.out.size))
    have HDS1 := hide hds1
    have HLO1 := hide hlo1
    have FA := hide (fault_one w3 ⟨(p : Int) / 64, 3, (p : Int) % 64, (k : Int)⟩)
    have K3 := hide (New_load S HSb.out FA.out HMY.out)
    have hD1w : w.heap.size ≤ D1 := Nat.le_trans HB2.out.size hD1
    have HB3a := hide (HB3.out.alloc HB3.out.size (.cells #[.int .i64 ((p : Int) / 64), .int .i64 3, .int .i64 ((p : Int) % 64), .int .i64 (k : Int)] 40))
    have HA3 : Hid (Below w3.heap.size w3 (w3.alloc (.cells #[.int .i64 ((p : Int) / 64), .int .i64 3, .int .i64 ((p : Int) % 64), .int .i64 (k : Int)] 40))) := (Below.refl _ _).alloc (Nat.le_refl _) _
    clear hb hds1 hlo1 K2 FA HMY
    go_wp2_with fail
    refine K3.out.mono ?_
    rintro e w4 ⟨D2, rfl, hdd, hb⟩
    obtain ⟨hD2, hD2', u2, hds2, hlo2, hoff2⟩ := hdd
    have HB4 := hide (HB3a.out.trans (hb.mono HB3a.out.size))
    have hA3s := HA3.out.size
    have HDS2 := hide hds2
    have HLO2 := hide hlo2
    have HOFF := hide (hoff2 D1 (by omega))
    have b34 : Below w3.heap.size w3 w4 := HA3.out.trans (hb.mono HA3.out.size)
    have K6 := hide (Load_any Tn [] 0 D1 u1 w4 (HDS1.out.below b34) (by rw [HTs.out]; exact HSb.out) (by omega) (fun b o l c e => Nat.lt_of_lt_of_le (HLO1.out b o l c e) b34.size))
    have hD2w : w.heap.size ≤ D2 := by have := HB3.out.size; omega
    have hD12 : D2 ≠ D1 := by omega
    rw [HL1.out.1, HL1.out.2] at K6
    clear hb hds2 hlo2 hoff2 b34 K3 HDS1 HLO1 HA3 HB3 HB3a HB2 hA3s HL1
    go_wp2_with fail
    refine K6.out.mono ?_
    rintro e w5 ⟨rfl, hbu, _⟩
    have HB5 := hide (HB4.out.trans (hbu.to_below HB4.out.size hD1w))
    have K7 := hide (Load_any S [⟨(p : Int) / 64, 3, (p : Int) % 64, (k : Int)⟩] 0 D2 u2 w5 (HDS2.out.but hbu hD12 HOFF.out) HSb.out (by omega) (fun b o l c e => Nat.lt_of_lt_of_le (HLO2.out b o l c e) hbu.size))
    rw [HL2.out.1, HL2.out.2] at K7
    clear hbu K6 HDS2 HLO2 HOFF HB4 HL2
    go_wp2_with fail
    refine K7.out.mono ?_
    rintro e w6 ⟨rfl, hbu, _⟩
    have HB6 := hide (HB5.out.trans (hbu.to_below HB5.out.size hD2w))
    clear hbu K7 HB5 hD1 hD1' hD2 hD2' hD12 hSb hs hq1
    by_cases h16 : p < 16
    · have h16' : (p : Int) < 16 := by omega
      obtain rfl : E = 105 := by rw [HE.out, if_pos h16]
      go_wp2_with fail
      refine (K5.out _).mono ?_
      rintro e w7 ⟨rfl, hb⟩
      have HB7 := hide (HB6.out.trans (hb.mono HB6.out.size))
      clear hb
      go_wp2
      go_ret
      exact ⟨rfl, HB7.out⟩
    · have h16' : (16 : Int) ≤ (p : Int) := by omega
      obtain rfl : E = 104 := by rw [HE.out, if_neg h16]
      go_wp2_with fail
      refine (K5.out _).mono ?_
      rintro e w7 ⟨rfl, hb⟩
      have HB7 := hide (HB6.out.trans (hb.mono HB6.out.size))
      clear hb
      go_wp2
      go_ret
      exact ⟨rfl, HB7.out⟩
  · have K1 := hide (fun X => Seal_long s X (by omega))
    have h' : (65536 : Int) < (s.size : Int) := by omega
    go_enter Try.func7, Try.ntmps7
    go_wp2_with fail
    refine (K1.out _).mono ?_
    rintro e w1 ⟨rfl, hb⟩
    have HB1 := hide hb
    clear hb
    go_wp2_with fail
    refine (K5.out _).mono ?_
    rintro e w4 ⟨rfl, hb⟩
    have HB3 := hide (HB1.out.trans (hb.mono HB1.out.size))
    clear hb
    go_wp2
    go_ret
    exact ⟨rfl, HB3.out⟩

end Go.Proofs.Ytdbbdclhfcakdaa
