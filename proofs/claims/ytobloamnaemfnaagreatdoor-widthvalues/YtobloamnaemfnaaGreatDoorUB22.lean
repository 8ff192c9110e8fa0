/-
  What quipuref05's Num.Dec does: a whole number times a power of 10, as a Dec that may be or not.
  What quipuref05's told and Sum do.
  What quipuref06's told does.
-/
import Derived.Test.YtobloamnaemfnaaGreatDoorUB2
import Derived.Test.YtobloamnaemfnaaGreatDoorUB16
import Derived.Test.YtobloamnaemfnaaGreatDoorUB21
import Derived.Test.YtobloamnaemfnaaGreatDoorUB20
import Derived.Test.YtobloamnaemfnaaGreatDoorUB18
namespace Go.Proofs.YtobloamnaemfnaaGreatDoor
open Go.RowKit

theorem rtextI (o : Option Addr) (l c n m : Nat) (w : World) (h : Rl w o l c n m) (hm : m ≤ 10000) : Calls Tryz.prog 98 #[.slice o l c] w fun e w' => e = .returned (.string (strN n)) ∧ Below w.heap.size w w' := by
  obtain ⟨r, h1, h2, h3, h4, h5⟩ := h
  exact rtext_any o l c n r w (by omega) h1 h4 h5

set_option maxRecDepth 100000 in
set_option maxHeartbeats 2000000 in
theorem rndec_zero (s : Bool) (oa : Option Addr) (la ca : Nat) (E : Int) (ng : Bool) (m : Nat) (w : World) (hz : Rl w oa la ca 0 m) (hm : m ≤ 10000) : Calls Tryz.prog 48 #[.agg #[.bool s, .slice oa la ca, .int .i64 E], .bool ng] w fun e w' => e = .returned (.tuple #[.agg #[.int .i64 0, .bool ng, .string ⟨#[]⟩, .int .i64 0], .bool true]) ∧ Below w.heap.size w w' := by
  have hq : ((strN 0).toList == [48]) = true := by rw [strN, ByteArray.toList_eq, Lib.decDigits_one (by omega)]; rfl
  obtain ⟨t, ht⟩ : ∃ t, t = strN 0 := ⟨_, rfl⟩
  have TX : Hid (∀ X, Below w.heap.size w X → Calls Tryz.prog 98 #[.slice oa la ca] X fun e w' => e = .returned (.string t) ∧ Below X.heap.size X w') := fun X hb => by rw [ht]; exact rtextI oa la ca 0 m X (hz.below hb) hm
  rw [← ht] at hq
  clear hz ht
  have Ba0 := hide ((Blk.newAt w (w.heap.size) (rfl) #[.bool s, .slice oa la ca, .int .i64 E] 85).alloc (.cells #[.int .i64 0, .bool false, .string ⟨#[]⟩, .int .i64 0] 23))
  have Br0 := hide (Blk.newAt (w.alloc (.cells #[.bool s, .slice oa la ca, .int .i64 E] 85)) (w.heap.size + 1) (by simp) #[.int .i64 0, .bool false, .string ⟨#[]⟩, .int .i64 0] 23)
  have HB0 : Hid (Below w.heap.size w ((w.alloc (.cells #[.bool s, .slice oa la ca, .int .i64 E] 85)).alloc (.cells #[.int .i64 0, .bool false, .string ⟨#[]⟩, .int .i64 0] 23))) := (((Below.refl _ _).alloc (Nat.le_refl _) _).alloc (by simp <;> omega) _)
  go_enter Tryz.func48, Tryz.ntmps48
  go_wp2_with fail
  refine (TX.out _ HB0.out).mono ?_
  rintro e w1 ⟨rfl, hb⟩
  have Ba1 := hide (Ba0.out.below hb Ba0.out.lt)
  have Br1 := hide (Br0.out.below hb Br0.out.lt)
  have HB1 := hide (HB0.out.trans (hb.mono HB0.out.size))
  clear hb Ba0 Br0 HB0 
  have ya0 : w1.cell? ⟨w.heap.size, 0, none⟩ = some (.bool s) := Ba1.out.cell 0
  have ya1 : w1.cell? ⟨w.heap.size, 1, none⟩ = some (.slice oa la ca) := Ba1.out.cell 1
  have ya2 : w1.cell? ⟨w.heap.size, 2, none⟩ = some (.int .i64 E) := Ba1.out.cell 2
  obtain ⟨yr0, yr1, yr2, yr3⟩ := Br1.out.four
  have fr0 := Br1.out.free 0
  have fr1 := Br1.out.free 1
  have fr2 := Br1.out.free 2
  have fr3 := Br1.out.free 3
  go_wp2
  refine bodyPost_ret (results_dec2 rfl _ _ _ _ _ _ _ rfl (Br1.out.put4 _ _ _ _)) rfl ?_
  exact ⟨rfl, below_put4 (HB1.out) (by omega) _ _ _ _⟩

set_option maxRecDepth 100000 in
set_option maxHeartbeats 4000000 in
theorem rndec_yes (s : Bool) (oa : Option Addr) (la ca : Nat) (E : Int) (ng : Bool) (N m : Nat) (w : World) (hz : Rl w oa la ca N m) (hm : m ≤ 10000) (h0 : N ≠ 0) (hs : sizeN N ≤ 20000) (h1 : -10000 ≤ E) (h2 : E ≤ 10000) (hmay : May (decA s N E)) : Calls Tryz.prog 48 #[.agg #[.bool s, .slice oa la ca, .int .i64 E], .bool ng] w fun e w' => e = .returned (.tuple #[decVal (decA s N E), .bool true]) ∧ Below w.heap.size w w' := by
  obtain ⟨M, k, hN, hM, hD⟩ := decA_form s E h0
  have hM0 : M ≠ 0 := by omega
  have hk0 : ∀ i, M * 10 ^ i ≠ 0 := fun i => Nat.mul_ne_zero hM0 (by have := Nat.pow_pos (n := i) (show 0 < 10 by omega); omega)
  have hsz : ∀ i, sizeN (M * 10 ^ i) = sizeN M + i := by
    intro i
    induction i with
    | zero => simp
    | succ i ih => rw [Nat.pow_succ, ← Nat.mul_assoc, sizeN_ten (hk0 i), ih]; omega
  have hkl : sizeN M + k ≤ 20000 := by rw [← hsz, ← hN]; exact hs
  have hMp := sizeN_pos M
  have hq : ((strN (M * 10 ^ k)).toList == [48]) = false := by
    have : Lib.decDigits (M * 10 ^ k) ≠ [48] := fun e => hk0 k (dd_zero e)
    rw [strN, ByteArray.toList_eq]
    simpa using this
  have HSZ := hide hsz
  have HK0 := hide hk0
  have HL : Hid (byt (Lib.decDigits M) (sizeN M - 1) ≠ 48) := dd_last hM
  obtain ⟨t, ht⟩ : ∃ t, t = strN (M * 10 ^ k) := ⟨_, rfl⟩
  have TX : Hid (∀ X, Below w.heap.size w X → Calls Tryz.prog 98 #[.slice oa la ca] X fun e w' => e = .returned (.string t) ∧ Below X.heap.size X w') := fun X hb => by rw [ht, ← hN]; exact rtextI oa la ca N m X (hz.below hb) hm
  rw [← ht] at hq
  have HTT := hide ht
  rw [hD] at hmay ⊢
  obtain ⟨TM, hTM⟩ : ∃ T, T = strN M := ⟨_, rfl⟩
  have hmay' : MayD 0 s (bys TM) (E + (k : Int)) := by rw [hTM, strN_bys]; exact hmay
  have FIN : Hid (decVal ⟨0, s, Lib.decDigits M, E + (k : Int)⟩ = .agg #[.int .i64 0, .bool s, .string TM, .int .i64 (E + (k : Int))]) := by rw [hTM]; exact rfl
  have MY := hide (fun W => rmay_yes 0 s TM (E + (k : Int)) W hmay')
  have HTM := hide hTM
  clear hN hD hM hM0 hsz hk0 hs h0 hz hmay hmay' hTM ht
  rw [FIN.out]
  have Ba0 := hide ((Blk.newAt w (w.heap.size) (rfl) #[.bool s, .slice oa la ca, .int .i64 E] 85).alloc (.cells #[.int .i64 0, .bool false, .string ⟨#[]⟩, .int .i64 0] 23))
  have Br0 := hide (Blk.newAt (w.alloc (.cells #[.bool s, .slice oa la ca, .int .i64 E] 85)) (w.heap.size + 1) (by simp) #[.int .i64 0, .bool false, .string ⟨#[]⟩, .int .i64 0] 23)
  have HB0 : Hid (Below w.heap.size w ((w.alloc (.cells #[.bool s, .slice oa la ca, .int .i64 E] 85)).alloc (.cells #[.int .i64 0, .bool false, .string ⟨#[]⟩, .int .i64 0] 23))) := (((Below.refl _ _).alloc (Nat.le_refl _) _).alloc (by simp <;> omega) _)
  go_enter Tryz.func48, Tryz.ntmps48
  go_wp2_with fail
  refine (TX.out _ HB0.out).mono ?_
  rintro e w1 ⟨rfl, hb⟩
  have Ba1 := hide (Ba0.out.below hb Ba0.out.lt)
  have Br1 := hide (Br0.out.below hb Br0.out.lt)
  have HB1 := hide (HB0.out.trans (hb.mono HB0.out.size))
  clear hb Ba0 Br0 HB0 
  have ya0 : w1.cell? ⟨w.heap.size, 0, none⟩ = some (.bool s) := Ba1.out.cell 0
  have ya1 : w1.cell? ⟨w.heap.size, 1, none⟩ = some (.slice oa la ca) := Ba1.out.cell 1
  have ya2 : w1.cell? ⟨w.heap.size, 2, none⟩ = some (.int .i64 E) := Ba1.out.cell 2
  obtain ⟨yr0, yr1, yr2, yr3⟩ := Br1.out.four
  go_wp2
  have fr0 := Br1.out.free 0
  have fr1 := Br1.out.free 1
  have fr2 := Br1.out.free 2
  have fr3 := Br1.out.free 3
  go_loopw [6, 7] (fun vs ve wr => ∃ (i j : Nat) (x : ByteArray), i + j = k ∧ Hid (x = strN (M * 10 ^ i)) ∧ vs = .string x ∧ ve = .int .i64 (E + (j : Int)) ∧ w1 = wr) (fun vs _ _ => Lib.strSize vs)
  case atStart => exact ⟨k, 0, t, rfl, HTT.out, rfl, by simp, rfl⟩
  case round =>
    clear hq HTT
    obtain ⟨i, j, x, hij, hs, rfl, rfl, rfl⟩ := hrel
    have hss : x.size = sizeN M + i := by rw [hs.out, strN_size, HSZ.out]
    obtain ⟨q, hqq⟩ : ∃ q, q = sizeN M + i - 1 := ⟨_, rfl⟩
    have hsq : x.size = q + 1 := by omega
    have hg : ∀ h : q < x.size, x[q].toNat = byt (bys x) q := fun h => byt_get x q h
    have hlt : q < x.size := by omega
    have hlt' : (q : Int) < (x.size : Int) := by omega
    have hqb : q ≤ 20000 := by omega
    rcases i with _ | i
    · obtain ⟨a, ha⟩ : ∃ a, a = byt (bys x) q := ⟨_, rfl⟩
      rw [← ha] at hg
      have hne : ((a : Int) == 48) = false := by
        have h1 := HL.out
        have e1 : bys x = Lib.decDigits M := by rw [hs.out, Nat.pow_zero, Nat.mul_one, strN_bys]
        rw [e1, hqq, Nat.add_zero] at ha
        rw [← ha] at h1
        have : ¬ (a : Int) = 48 := by omega
        simpa using this
      obtain rfl : x = TM := by rw [hs.out, HTM.out]; simp
      obtain rfl : j = k := by omega
      clear ha hs hij hss hqq
      have Ba2 := hide ((Ba1.out.alloc (.cells #[.int .i64 0, .bool s, .string x, .int .i64 (E + (j : Int))] 23)))
      have Br2 := hide ((Br1.out.alloc (.cells #[.int .i64 0, .bool s, .string x, .int .i64 (E + (j : Int))] 23)))
      have Bd2 := hide ((Blk.newAt w1 (w1.heap.size) (rfl) #[.int .i64 0, .bool s, .string x, .int .i64 (E + (j : Int))] 23))
      have HB2 : Hid (Below w.heap.size w (w1.alloc (.cells #[.int .i64 0, .bool s, .string x, .int .i64 (E + (j : Int))] 23))) := (HB1.out.alloc HB1.out.size _)
      clear Ba1 Br1 HB1 
      have ya0 : (w1.alloc (.cells #[.int .i64 0, .bool s, .string x, .int .i64 (E + (j : Int))] 23)).cell? ⟨w.heap.size, 0, none⟩ = some (.bool s) := Ba2.out.cell 0
      have ya1 : (w1.alloc (.cells #[.int .i64 0, .bool s, .string x, .int .i64 (E + (j : Int))] 23)).cell? ⟨w.heap.size, 1, none⟩ = some (.slice oa la ca) := Ba2.out.cell 1
      have ya2 : (w1.alloc (.cells #[.int .i64 0, .bool s, .string x, .int .i64 (E + (j : Int))] 23)).cell? ⟨w.heap.size, 2, none⟩ = some (.int .i64 E) := Ba2.out.cell 2
      obtain ⟨yr0, yr1, yr2, yr3⟩ := Br2.out.four
      obtain ⟨yd0, yd1, yd2, yd3⟩ := Bd2.out.four
      go_wp2_with fail
      refine (MY.out _).mono ?_
      rintro e w3 ⟨rfl, hb⟩
      have Ba3 := hide (Ba2.out.below hb Ba2.out.lt)
      have Br3 := hide (Br2.out.below hb Br2.out.lt)
      have Bd3 := hide (Bd2.out.below hb Bd2.out.lt)
      have HB3 := hide (HB2.out.trans (hb.mono HB2.out.size))
      clear hb Ba2 Br2 Bd2 HB2 ya0 ya1 ya2 yr0 yr1 yr2 yr3 yd0 yd1 yd2 yd3
      have ya0 : w3.cell? ⟨w.heap.size, 0, none⟩ = some (.bool s) := Ba3.out.cell 0
      have ya1 : w3.cell? ⟨w.heap.size, 1, none⟩ = some (.slice oa la ca) := Ba3.out.cell 1
      have ya2 : w3.cell? ⟨w.heap.size, 2, none⟩ = some (.int .i64 E) := Ba3.out.cell 2
      obtain ⟨yr0, yr1, yr2, yr3⟩ := Br3.out.four
      obtain ⟨yd0, yd1, yd2, yd3⟩ := Bd3.out.four
      have fr0 := Br3.out.free 0
      have fr1 := Br3.out.free 1
      have fr2 := Br3.out.free 2
      have fr3 := Br3.out.free 3
      go_wp2
      refine bodyPost_ret (results_dec2 rfl _ _ _ _ _ _ _ rfl (Br3.out.put4 _ _ _ _)) rfl ?_
      exact ⟨rfl, below_put4 (HB3.out) (by omega) _ _ _ _⟩
    · have hb : byt (bys x) q = 48 := by
        rw [hs.out, strN_bys, Nat.pow_succ, ← Nat.mul_assoc, dd_ten (HK0.out i), show q = (Lib.decDigits (M * 10 ^ i)).length by have := HSZ.out i; unfold sizeN at this; rw [this]; unfold sizeN at hqq; omega, byt_last]
        rfl
      rw [hb] at hg
      have hcut : x.extract 0 q = strN (M * 10 ^ i) := by
        have h := strN_cut (HK0.out i)
        rw [HSZ.out i] at h
        rw [hs.out, Nat.pow_succ, ← Nat.mul_assoc, hqq]
        exact h
      have hsl : ∀ W, (Instr.slice 9 (.string x) none (some (.int .i64 (q : Int))) none).run Tryz.prog W = .ok (.string (x.extract 0 q)) W := fun W => by
        simp [go_sem, Tryz.underlying9]; omega
      have HC := hide hcut
      have hsx : (x.extract 0 q).size = q := by rw [hcut, strN_size, HSZ.out]; omega
      clear hb hcut hs hss hqq
      go_wp2
      refine ⟨⟨i, j + 1, x.extract 0 q, by omega, HC.out, rfl, congrArg (Value.int IntKind.i64) (by omega), trivial⟩, ?_⟩
      rw [Lib.strSize_string, Lib.strSize_string]; omega

set_option maxRecDepth 100000 in
set_option maxHeartbeats 4000000 in
theorem rndec_no (s : Bool) (oa : Option Addr) (la ca : Nat) (E : Int) (ng : Bool) (N m : Nat) (w : World) (hz : Rl w oa la ca N m) (hm : m ≤ 10000) (h0 : N ≠ 0) (hs : sizeN N ≤ 20000) (h1 : -10000 ≤ E) (h2 : E ≤ 10000) (hmay : ¬ May (decA s N E)) : Calls Tryz.prog 48 #[.agg #[.bool s, .slice oa la ca, .int .i64 E], .bool ng] w fun e w' => e = .returned (.tuple #[.agg #[.int .i64 0, .bool false, .string ⟨#[]⟩, .int .i64 0], .bool false]) ∧ Below w.heap.size w w' := by
  obtain ⟨M, k, hN, hM, hD⟩ := decA_form s E h0
  have hM0 : M ≠ 0 := by omega
  have hk0 : ∀ i, M * 10 ^ i ≠ 0 := fun i => Nat.mul_ne_zero hM0 (by have := Nat.pow_pos (n := i) (show 0 < 10 by omega); omega)
  have hsz : ∀ i, sizeN (M * 10 ^ i) = sizeN M + i := by
    intro i
    induction i with
    | zero => simp
    | succ i ih => rw [Nat.pow_succ, ← Nat.mul_assoc, sizeN_ten (hk0 i), ih]; omega
  have hkl : sizeN M + k ≤ 20000 := by rw [← hsz, ← hN]; exact hs
  have hMp := sizeN_pos M
  have hq : ((strN (M * 10 ^ k)).toList == [48]) = false := by
    have : Lib.decDigits (M * 10 ^ k) ≠ [48] := fun e => hk0 k (dd_zero e)
    rw [strN, ByteArray.toList_eq]
    simpa using this
  have HSZ := hide hsz
  have HK0 := hide hk0
  have HL : Hid (byt (Lib.decDigits M) (sizeN M - 1) ≠ 48) := dd_last hM
  obtain ⟨t, ht⟩ : ∃ t, t = strN (M * 10 ^ k) := ⟨_, rfl⟩
  have TX : Hid (∀ X, Below w.heap.size w X → Calls Tryz.prog 98 #[.slice oa la ca] X fun e w' => e = .returned (.string t) ∧ Below X.heap.size X w') := fun X hb => by rw [ht, ← hN]; exact rtextI oa la ca N m X (hz.below hb) hm
  rw [← ht] at hq
  have HTT := hide ht
  rw [hD] at hmay
  obtain ⟨TM, hTM⟩ : ∃ T, T = strN M := ⟨_, rfl⟩
  have hmay' : ¬ MayD 0 s (bys TM) (E + (k : Int)) := by rw [hTM, strN_bys]; exact hmay
  have FIN : Hid (decVal ⟨0, s, Lib.decDigits M, E + (k : Int)⟩ = .agg #[.int .i64 0, .bool s, .string TM, .int .i64 (E + (k : Int))]) := by rw [hTM]; exact rfl
  have MY := hide (fun W => rmay_no 0 s TM (E + (k : Int)) W hmay')
  have HTM := hide hTM
  clear hN hD hM hM0 hsz hk0 hs h0 hz hmay hmay' hTM ht
  have Ba0 := hide ((Blk.newAt w (w.heap.size) (rfl) #[.bool s, .slice oa la ca, .int .i64 E] 85).alloc (.cells #[.int .i64 0, .bool false, .string ⟨#[]⟩, .int .i64 0] 23))
  have Br0 := hide (Blk.newAt (w.alloc (.cells #[.bool s, .slice oa la ca, .int .i64 E] 85)) (w.heap.size + 1) (by simp) #[.int .i64 0, .bool false, .string ⟨#[]⟩, .int .i64 0] 23)
  have HB0 : Hid (Below w.heap.size w ((w.alloc (.cells #[.bool s, .slice oa la ca, .int .i64 E] 85)).alloc (.cells #[.int .i64 0, .bool false, .string ⟨#[]⟩, .int .i64 0] 23))) := (((Below.refl _ _).alloc (Nat.le_refl _) _).alloc (by simp <;> omega) _)
  go_enter Tryz.func48, Tryz.ntmps48
  go_wp2_with fail
  refine (TX.out _ HB0.out).mono ?_
  rintro e w1 ⟨rfl, hb⟩
  have Ba1 := hide (Ba0.out.below hb Ba0.out.lt)
  have Br1 := hide (Br0.out.below hb Br0.out.lt)
  have HB1 := hide (HB0.out.trans (hb.mono HB0.out.size))
  clear hb Ba0 Br0 HB0 
  have ya0 : w1.cell? ⟨w.heap.size, 0, none⟩ = some (.bool s) := Ba1.out.cell 0
  have ya1 : w1.cell? ⟨w.heap.size, 1, none⟩ = some (.slice oa la ca) := Ba1.out.cell 1
  have ya2 : w1.cell? ⟨w.heap.size, 2, none⟩ = some (.int .i64 E) := Ba1.out.cell 2
  obtain ⟨yr0, yr1, yr2, yr3⟩ := Br1.out.four
  go_wp2
  have fr0 := Br1.out.free 0
  have fr1 := Br1.out.free 1
  have fr2 := Br1.out.free 2
  have fr3 := Br1.out.free 3
  go_loopw [6, 7] (fun vs ve wr => ∃ (i j : Nat) (x : ByteArray), i + j = k ∧ Hid (x = strN (M * 10 ^ i)) ∧ vs = .string x ∧ ve = .int .i64 (E + (j : Int)) ∧ w1 = wr) (fun vs _ _ => Lib.strSize vs)
  case atStart => exact ⟨k, 0, t, rfl, HTT.out, rfl, by simp, rfl⟩
  case round =>
    clear hq HTT
    obtain ⟨i, j, x, hij, hs, rfl, rfl, rfl⟩ := hrel
    have hss : x.size = sizeN M + i := by rw [hs.out, strN_size, HSZ.out]
    obtain ⟨q, hqq⟩ : ∃ q, q = sizeN M + i - 1 := ⟨_, rfl⟩
    have hsq : x.size = q + 1 := by omega
    have hg : ∀ h : q < x.size, x[q].toNat = byt (bys x) q := fun h => byt_get x q h
    have hlt : q < x.size := by omega
    have hlt' : (q : Int) < (x.size : Int) := by omega
    have hqb : q ≤ 20000 := by omega
    rcases i with _ | i
    · obtain ⟨a, ha⟩ : ∃ a, a = byt (bys x) q := ⟨_, rfl⟩
      rw [← ha] at hg
      have hne : ((a : Int) == 48) = false := by
        have h1 := HL.out
        have e1 : bys x = Lib.decDigits M := by rw [hs.out, Nat.pow_zero, Nat.mul_one, strN_bys]
        rw [e1, hqq, Nat.add_zero] at ha
        rw [← ha] at h1
        have : ¬ (a : Int) = 48 := by omega
        simpa using this
      obtain rfl : x = TM := by rw [hs.out, HTM.out]; simp
      obtain rfl : j = k := by omega
      clear ha hs hij hss hqq
      have Ba2 := hide ((Ba1.out.alloc (.cells #[.int .i64 0, .bool s, .string x, .int .i64 (E + (j : Int))] 23)))
      have Br2 := hide ((Br1.out.alloc (.cells #[.int .i64 0, .bool s, .string x, .int .i64 (E + (j : Int))] 23)))
      have Bd2 := hide ((Blk.newAt w1 (w1.heap.size) (rfl) #[.int .i64 0, .bool s, .string x, .int .i64 (E + (j : Int))] 23))
      have HB2 : Hid (Below w.heap.size w (w1.alloc (.cells #[.int .i64 0, .bool s, .string x, .int .i64 (E + (j : Int))] 23))) := (HB1.out.alloc HB1.out.size _)
      clear Ba1 Br1 HB1 
      have ya0 : (w1.alloc (.cells #[.int .i64 0, .bool s, .string x, .int .i64 (E + (j : Int))] 23)).cell? ⟨w.heap.size, 0, none⟩ = some (.bool s) := Ba2.out.cell 0
      have ya1 : (w1.alloc (.cells #[.int .i64 0, .bool s, .string x, .int .i64 (E + (j : Int))] 23)).cell? ⟨w.heap.size, 1, none⟩ = some (.slice oa la ca) := Ba2.out.cell 1
      have ya2 : (w1.alloc (.cells #[.int .i64 0, .bool s, .string x, .int .i64 (E + (j : Int))] 23)).cell? ⟨w.heap.size, 2, none⟩ = some (.int .i64 E) := Ba2.out.cell 2
      obtain ⟨yr0, yr1, yr2, yr3⟩ := Br2.out.four
      obtain ⟨yd0, yd1, yd2, yd3⟩ := Bd2.out.four
      go_wp2_with fail
      refine (MY.out _).mono ?_
      rintro e w3 ⟨rfl, hb⟩
      have Ba3 := hide (Ba2.out.below hb Ba2.out.lt)
      have Br3 := hide (Br2.out.below hb Br2.out.lt)
      have Bd3 := hide (Bd2.out.below hb Bd2.out.lt)
      have HB3 := hide (HB2.out.trans (hb.mono HB2.out.size))
      clear hb Ba2 Br2 Bd2 HB2 ya0 ya1 ya2 yr0 yr1 yr2 yr3 yd0 yd1 yd2 yd3
      have ya0 : w3.cell? ⟨w.heap.size, 0, none⟩ = some (.bool s) := Ba3.out.cell 0
      have ya1 : w3.cell? ⟨w.heap.size, 1, none⟩ = some (.slice oa la ca) := Ba3.out.cell 1
      have ya2 : w3.cell? ⟨w.heap.size, 2, none⟩ = some (.int .i64 E) := Ba3.out.cell 2
      obtain ⟨yr0, yr1, yr2, yr3⟩ := Br3.out.four
      obtain ⟨yd0, yd1, yd2, yd3⟩ := Bd3.out.four
      have fr0 := Br3.out.free 0
      have fr1 := Br3.out.free 1
      have fr2 := Br3.out.free 2
      have fr3 := Br3.out.free 3
      go_wp2
      refine bodyPost_ret (results_dec2 rfl _ _ _ _ _ _ _ rfl (Br3.out.put4 _ _ _ _)) rfl ?_
      exact ⟨rfl, below_put4 (HB3.out) (by omega) _ _ _ _⟩
    · have hb : byt (bys x) q = 48 := by
        rw [hs.out, strN_bys, Nat.pow_succ, ← Nat.mul_assoc, dd_ten (HK0.out i), show q = (Lib.decDigits (M * 10 ^ i)).length by have := HSZ.out i; unfold sizeN at this; rw [this]; unfold sizeN at hqq; omega, byt_last]
        rfl
      rw [hb] at hg
      have hcut : x.extract 0 q = strN (M * 10 ^ i) := by
        have h := strN_cut (HK0.out i)
        rw [HSZ.out i] at h
        rw [hs.out, Nat.pow_succ, ← Nat.mul_assoc, hqq]
        exact h
      have hsl : ∀ W, (Instr.slice 9 (.string x) none (some (.int .i64 (q : Int))) none).run Tryz.prog W = .ok (.string (x.extract 0 q)) W := fun W => by
        simp [go_sem, Tryz.underlying9]; omega
      have HC := hide hcut
      have hsx : (x.extract 0 q).size = q := by rw [hcut, strN_size, HSZ.out]; omega
      clear hb hcut hs hss hqq
      go_wp2
      refine ⟨⟨i, j + 1, x.extract 0 q, by omega, HC.out, rfl, congrArg (Value.int IntKind.i64) (by omega), trivial⟩, ?_⟩
      rw [Lib.strSize_string, Lib.strSize_string]; omega

end Go.Proofs.YtobloamnaemfnaaGreatDoor

namespace Go.Proofs.YtobloamnaemfnaaGreatDoor
open Go.RowKit

end Go.Proofs.YtobloamnaemfnaaGreatDoor

namespace Go.Proofs.YtobloamnaemfnaaGreatDoor
open Go.RowKit

structure CutV (W : World) (cs : Array Value) (er : Value) (v u : Value) (W' : World) : Prop where
  ex : ∃ H : Nat, v = .pointer (some ⟨H, 0, none⟩) ∧ u = er ∧ Blk W' H cs 23 ∧ W.heap.size ≤ H ∧ Below W.heap.size W W'

theorem cutv_old {W w3 : World} {H : Nat} {x0 x1 x2 x3 y0 y1 y2 y3 : Value} {er : Value} (hb : Below W.heap.size W w3) (q : Blk w3 H #[x0, x1, x2, x3] 23) (hH : W.heap.size ≤ H) :
    CutV W #[y0, y1, y2, y3] er (.pointer (some ⟨H, 0, none⟩)) er ((((w3.setCell ⟨H, 0, none⟩ y0).setCell ⟨H, 1, none⟩ y1).setCell ⟨H, 2, none⟩ y2).setCell ⟨H, 3, none⟩ y3) :=
  ⟨H, rfl, rfl, q.put4 _ _ _ _, hH, below_put4 hb hH _ _ _ _⟩

theorem cutv_new {W w3 : World} {cs : Array Value} {er : Value} (hb : Below W.heap.size W w3) :
    CutV W cs er (.pointer (some ⟨w3.heap.size, 0, none⟩)) er (w3.alloc (.cells cs 23)) :=
  ⟨w3.heap.size, rfl, rfl, Blk.new _ _ _, hb.size, hb.alloc hb.size _⟩

end Go.Proofs.YtobloamnaemfnaaGreatDoor
