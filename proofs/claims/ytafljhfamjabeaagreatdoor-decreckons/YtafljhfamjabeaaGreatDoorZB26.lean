/-
  What quipuref05's Num.Dec does: a whole number times a power of 10, as a Dec that may be or not.
  What quipuref05's told and Sum do.
  A variable's cells, all at once; a variable behind what was laid and called.
  Where the ways through a region meet that calls quipuref05's Of twice and lays both answers in variables.
  What quipuref05's Mul does with two finite ones.
  What quipuref05's Mul does where one is not finite, or may not be.
  What the reference's Cmp of whole numbers does.
  Plain mathematics: ranks, places and bytes tell how two numbers stand.
  What quipuref05's rank, Order and Cmp do.
  What quipuref05's Cmp does, by cases.
  What quipuref05's Add does with two finite ones.
-/
import Derived.Test.YtafljhfamjabeaaGreatDoorZB24
import Derived.Test.YtafljhfamjabeaaGreatDoorZB25
import Derived.Test.YtafljhfamjabeaaGreatDoorZB9
import Derived.Test.YtafljhfamjabeaaGreatDoorZB2
import Derived.Test.YtafljhfamjabeaaGreatDoorZB5
import Derived.Deep.CutRange
import Derived.Test.YtafljhfamjabeaaGreatDoorZB4
import Derived.Lib.Small
namespace Go.Proofs.YtafljhfamjabeaaGreatDoor
open Go.RowKit

theorem rtextI (o : Option Addr) (l c n m : Nat) (w : World) (h : Rl w o l c n m) (hm : m ≤ 10000) : Calls Tryz.prog 61 #[.slice o l c] w fun e w' => e = .returned (.string (strN n)) ∧ Below w.heap.size w w' := by
  obtain ⟨r, h1, h2, h3, h4, h5⟩ := h
  exact rtext_any o l c n r w (by omega) h1 h4 h5

set_option maxRecDepth 100000 in
set_option maxHeartbeats 2000000 in
theorem rndec_zero (s : Bool) (oa : Option Addr) (la ca : Nat) (E : Int) (ng : Bool) (m : Nat) (w : World) (hz : Rl w oa la ca 0 m) (hm : m ≤ 10000) : Calls Tryz.prog 74 #[.agg #[.bool s, .slice oa la ca, .int .i64 E], .bool ng] w fun e w' => e = .returned (.tuple #[.agg #[.int .i64 0, .bool ng, .string ⟨#[]⟩, .int .i64 0], .bool true]) ∧ Below w.heap.size w w' := by
  have hq : ((strN 0).toList == [48]) = true := by rw [strN, ByteArray.toList_eq, Lib.decDigits_one (by omega)]; rfl
  obtain ⟨t, ht⟩ : ∃ t, t = strN 0 := ⟨_, rfl⟩
  have TX : Hid (∀ X, Below w.heap.size w X → Calls Tryz.prog 61 #[.slice oa la ca] X fun e w' => e = .returned (.string t) ∧ Below X.heap.size X w') := fun X hb => by rw [ht]; exact rtextI oa la ca 0 m X (hz.below hb) hm
  rw [← ht] at hq
  clear hz ht
  have Ba0 := hide ((Blk.newAt w (w.heap.size) (rfl) #[.bool s, .slice oa la ca, .int .i64 E] 60).alloc (.cells #[.int .i64 0, .bool false, .string ⟨#[]⟩, .int .i64 0] 23))
  have Br0 := hide (Blk.newAt (w.alloc (.cells #[.bool s, .slice oa la ca, .int .i64 E] 60)) (w.heap.size + 1) (by simp) #[.int .i64 0, .bool false, .string ⟨#[]⟩, .int .i64 0] 23)
  have HB0 : Hid (Below w.heap.size w ((w.alloc (.cells #[.bool s, .slice oa la ca, .int .i64 E] 60)).alloc (.cells #[.int .i64 0, .bool false, .string ⟨#[]⟩, .int .i64 0] 23))) := (((Below.refl _ _).alloc (Nat.le_refl _) _).alloc (by simp <;> omega) _)
  go_enter Tryz.func74, Tryz.ntmps74
  go_wp2_with fail
  refine (TX.out _ HB0.out).mono ?_
  rintro e w1 ⟨rfl, hb⟩
  have Ba1 := hide (Ba0.out.below hb Ba0.out.lt)
  have Br1 := hide (Br0.out.below hb Br0.out.lt)
  have HB1 := hide (HB0.out.trans (hb.mono HB0.out.size))
  clear hb Ba0 Br0 HB0 
  have ya0 : w1.cell? ⟨w.heap.size, 0, none⟩ = some (.bool s) := Ba1.out.cell 0
  have ya1 : w1.cell? ⟨w.heap.size, 1, none⟩ = some (.slice oa la ca) := Ba1.out.cell 1
  have ya2 : w1.cell? ⟨w.heap.size, 2, none⟩ = some (.int .i64 E) := Ba1.out.cell 2
  have yr0 : w1.cell? ⟨w.heap.size + 1, 0, none⟩ = some (.int .i64 0) := Br1.out.cell 0
  have yr1 : w1.cell? ⟨w.heap.size + 1, 1, none⟩ = some (.bool false) := Br1.out.cell 1
  have yr2 : w1.cell? ⟨w.heap.size + 1, 2, none⟩ = some (.string ⟨#[]⟩) := Br1.out.cell 2
  have yr3 : w1.cell? ⟨w.heap.size + 1, 3, none⟩ = some (.int .i64 0) := Br1.out.cell 3
  have fr0 := Br1.out.free 0
  have fr1 := Br1.out.free 1
  have fr2 := Br1.out.free 2
  have fr3 := Br1.out.free 3
  go_wp2
  refine bodyPost_ret (results_dec2 rfl _ _ _ _ _ _ _ rfl (Br1.out.put4 _ _ _ _)) rfl ?_
  exact ⟨rfl, below_put4 (HB1.out) (by omega) _ _ _ _⟩

set_option maxRecDepth 100000 in
set_option maxHeartbeats 4000000 in
theorem rndec_yes (s : Bool) (oa : Option Addr) (la ca : Nat) (E : Int) (ng : Bool) (N m : Nat) (w : World) (hz : Rl w oa la ca N m) (hm : m ≤ 10000) (h0 : N ≠ 0) (hs : sizeN N ≤ 20000) (h1 : -10000 ≤ E) (h2 : E ≤ 10000) (hmay : May (decA s N E)) : Calls Tryz.prog 74 #[.agg #[.bool s, .slice oa la ca, .int .i64 E], .bool ng] w fun e w' => e = .returned (.tuple #[decVal (decA s N E), .bool true]) ∧ Below w.heap.size w w' := by
  obtain ⟨M, k, hN, hM, hD⟩ := decA_form s E h0
  have hM0 : M ≠ 0 := by omega
  have hk0 : ∀ i, M * 10 ^ i ≠ 0 := fun i => Nat.mul_ne_zero hM0 (by have := Nat.pow_pos (n := i) (show 0 < 10 by omega); omega)
  have hsz : ∀ i, sizeN (M * 10 ^ i) = sizeN M + i := by
    intro i
    induction i with
    | zero => simp
    | succ i ih => rw [Nat.pow_succ, ← Nat.mul_assoc, sizeN_ten (hk0 i), ih]; omega
  have hkl : sizeN M + k ≤ 20000 := by rw [← hsz, ← hN]; exact hs
  have hMp := sizeN_pos M
  have hq : ((strN (M * 10 ^ k)).toList == [48]) = false := by
    have : Lib.decDigits (M * 10 ^ k) ≠ [48] := fun e => hk0 k (dd_zero e)
    rw [strN, ByteArray.toList_eq]
    simpa using this
  have HSZ := hide hsz
  have HK0 := hide hk0
  have HL : Hid (byt (Lib.decDigits M) (sizeN M - 1) ≠ 48) := dd_last hM
  obtain ⟨t, ht⟩ : ∃ t, t = strN (M * 10 ^ k) := ⟨_, rfl⟩
  have TX : Hid (∀ X, Below w.heap.size w X → Calls Tryz.prog 61 #[.slice oa la ca] X fun e w' => e = .returned (.string t) ∧ Below X.heap.size X w') := fun X hb => by rw [ht, ← hN]; exact rtextI oa la ca N m X (hz.below hb) hm
  rw [← ht] at hq
  have HTT := hide ht
  rw [hD] at hmay ⊢
  obtain ⟨TM, hTM⟩ : ∃ T, T = strN M := ⟨_, rfl⟩
  have hmay' : MayD 0 s (bys TM) (E + (k : Int)) := by rw [hTM, strN_bys]; exact hmay
  have FIN : Hid (decVal ⟨0, s, Lib.decDigits M, E + (k : Int)⟩ = .agg #[.int .i64 0, .bool s, .string TM, .int .i64 (E + (k : Int))]) := by rw [hTM]; exact rfl
  have MY := hide (fun W => rmay_yes 0 s TM (E + (k : Int)) W hmay')
  have HTM := hide hTM
  clear hN hD hM hM0 hsz hk0 hs h0 hz hmay hmay' hTM ht
  rw [FIN.out]
  have Ba0 := hide ((Blk.newAt w (w.heap.size) (rfl) #[.bool s, .slice oa la ca, .int .i64 E] 60).alloc (.cells #[.int .i64 0, .bool false, .string ⟨#[]⟩, .int .i64 0] 23))
  have Br0 := hide (Blk.newAt (w.alloc (.cells #[.bool s, .slice oa la ca, .int .i64 E] 60)) (w.heap.size + 1) (by simp) #[.int .i64 0, .bool false, .string ⟨#[]⟩, .int .i64 0] 23)
  have HB0 : Hid (Below w.heap.size w ((w.alloc (.cells #[.bool s, .slice oa la ca, .int .i64 E] 60)).alloc (.cells #[.int .i64 0, .bool false, .string ⟨#[]⟩, .int .i64 0] 23))) := (((Below.refl _ _).alloc (Nat.le_refl _) _).alloc (by simp <;> omega) _)
  go_enter Tryz.func74, Tryz.ntmps74
  go_wp2_with fail
  refine (TX.out _ HB0.out).mono ?_
  rintro e w1 ⟨rfl, hb⟩
  have Ba1 := hide (Ba0.out.below hb Ba0.out.lt)
  have Br1 := hide (Br0.out.below hb Br0.out.lt)
  have HB1 := hide (HB0.out.trans (hb.mono HB0.out.size))
  clear hb Ba0 Br0 HB0 
  have ya0 : w1.cell? ⟨w.heap.size, 0, none⟩ = some (.bool s) := Ba1.out.cell 0
  have ya1 : w1.cell? ⟨w.heap.size, 1, none⟩ = some (.slice oa la ca) := Ba1.out.cell 1
  have ya2 : w1.cell? ⟨w.heap.size, 2, none⟩ = some (.int .i64 E) := Ba1.out.cell 2
  have yr0 : w1.cell? ⟨w.heap.size + 1, 0, none⟩ = some (.int .i64 0) := Br1.out.cell 0
  have yr1 : w1.cell? ⟨w.heap.size + 1, 1, none⟩ = some (.bool false) := Br1.out.cell 1
  have yr2 : w1.cell? ⟨w.heap.size + 1, 2, none⟩ = some (.string ⟨#[]⟩) := Br1.out.cell 2
  have yr3 : w1.cell? ⟨w.heap.size + 1, 3, none⟩ = some (.int .i64 0) := Br1.out.cell 3
  go_wp2
  have fr0 := Br1.out.free 0
  have fr1 := Br1.out.free 1
  have fr2 := Br1.out.free 2
  have fr3 := Br1.out.free 3
  go_loopw [6, 7] (fun vs ve wr => ∃ (i j : Nat) (x : ByteArray), i + j = k ∧ Hid (x = strN (M * 10 ^ i)) ∧ vs = .string x ∧ ve = .int .i64 (E + (j : Int)) ∧ w1 = wr) (fun vs _ _ => Lib.strSize vs)
  case atStart => exact ⟨k, 0, t, rfl, HTT.out, rfl, by simp, rfl⟩
  case round =>
    clear hq HTT
    obtain ⟨i, j, x, hij, hs, rfl, rfl, rfl⟩ := hrel
    have hss : x.size = sizeN M + i := by rw [hs.out, strN_size, HSZ.out]
    obtain ⟨q, hqq⟩ : ∃ q, q = sizeN M + i - 1 := ⟨_, rfl⟩
    have hsq : x.size = q + 1 := by omega
    have hg : ∀ h : q < x.size, x[q].toNat = byt (bys x) q := fun h => byt_get x q h
    have hlt : q < x.size := by omega
    have hlt' : (q : Int) < (x.size : Int) := by omega
    have hqb : q ≤ 20000 := by omega
    rcases i with _ | i
    · obtain ⟨a, ha⟩ : ∃ a, a = byt (bys x) q := ⟨_, rfl⟩
      rw [← ha] at hg
      have hne : ((a : Int) == 48) = false := by
        have h1 := HL.out
        have e1 : bys x = Lib.decDigits M := by rw [hs.out, Nat.pow_zero, Nat.mul_one, strN_bys]
        rw [e1, hqq, Nat.add_zero] at ha
        rw [← ha] at h1
        have : ¬ (a : Int) = 48 := by omega
        simpa using this
      obtain rfl : x = TM := by rw [hs.out, HTM.out]; simp
      obtain rfl : j = k := by omega
      clear ha hs hij hss hqq
      have Ba2 := hide ((Ba1.out.alloc (.cells #[.int .i64 0, .bool s, .string x, .int .i64 (E + (j : Int))] 23)))
      have Br2 := hide ((Br1.out.alloc (.cells #[.int .i64 0, .bool s, .string x, .int .i64 (E + (j : Int))] 23)))
      have Bd2 := hide ((Blk.newAt w1 (w1.heap.size) (rfl) #[.int .i64 0, .bool s, .string x, .int .i64 (E + (j : Int))] 23))
      have HB2 : Hid (Below w.heap.size w (w1.alloc (.cells #[.int .i64 0, .bool s, .string x, .int .i64 (E + (j : Int))] 23))) := (HB1.out.alloc HB1.out.size _)
      clear Ba1 Br1 HB1 
      have ya0 : (w1.alloc (.cells #[.int .i64 0, .bool s, .string x, .int .i64 (E + (j : Int))] 23)).cell? ⟨w.heap.size, 0, none⟩ = some (.bool s) := Ba2.out.cell 0
      have ya1 : (w1.alloc (.cells #[.int .i64 0, .bool s, .string x, .int .i64 (E + (j : Int))] 23)).cell? ⟨w.heap.size, 1, none⟩ = some (.slice oa la ca) := Ba2.out.cell 1
      have ya2 : (w1.alloc (.cells #[.int .i64 0, .bool s, .string x, .int .i64 (E + (j : Int))] 23)).cell? ⟨w.heap.size, 2, none⟩ = some (.int .i64 E) := Ba2.out.cell 2
      have yr0 : (w1.alloc (.cells #[.int .i64 0, .bool s, .string x, .int .i64 (E + (j : Int))] 23)).cell? ⟨w.heap.size + 1, 0, none⟩ = some (.int .i64 0) := Br2.out.cell 0
      have yr1 : (w1.alloc (.cells #[.int .i64 0, .bool s, .string x, .int .i64 (E + (j : Int))] 23)).cell? ⟨w.heap.size + 1, 1, none⟩ = some (.bool false) := Br2.out.cell 1
      have yr2 : (w1.alloc (.cells #[.int .i64 0, .bool s, .string x, .int .i64 (E + (j : Int))] 23)).cell? ⟨w.heap.size + 1, 2, none⟩ = some (.string ⟨#[]⟩) := Br2.out.cell 2
      have yr3 : (w1.alloc (.cells #[.int .i64 0, .bool s, .string x, .int .i64 (E + (j : Int))] 23)).cell? ⟨w.heap.size + 1, 3, none⟩ = some (.int .i64 0) := Br2.out.cell 3
      have yd0 : (w1.alloc (.cells #[.int .i64 0, .bool s, .string x, .int .i64 (E + (j : Int))] 23)).cell? ⟨w1.heap.size, 0, none⟩ = some (.int .i64 0) := Bd2.out.cell 0
      have yd1 : (w1.alloc (.cells #[.int .i64 0, .bool s, .string x, .int .i64 (E + (j : Int))] 23)).cell? ⟨w1.heap.size, 1, none⟩ = some (.bool s) := Bd2.out.cell 1
      have yd2 : (w1.alloc (.cells #[.int .i64 0, .bool s, .string x, .int .i64 (E + (j : Int))] 23)).cell? ⟨w1.heap.size, 2, none⟩ = some (.string x) := Bd2.out.cell 2
      have yd3 : (w1.alloc (.cells #[.int .i64 0, .bool s, .string x, .int .i64 (E + (j : Int))] 23)).cell? ⟨w1.heap.size, 3, none⟩ = some (.int .i64 (E + (j : Int))) := Bd2.out.cell 3
      go_wp2_with fail
      refine (MY.out _).mono ?_
      rintro e w3 ⟨rfl, hb⟩
      have Ba3 := hide (Ba2.out.below hb Ba2.out.lt)
      have Br3 := hide (Br2.out.below hb Br2.out.lt)
      have Bd3 := hide (Bd2.out.below hb Bd2.out.lt)
      have HB3 := hide (HB2.out.trans (hb.mono HB2.out.size))
      clear hb Ba2 Br2 Bd2 HB2 ya0 ya1 ya2 yr0 yr1 yr2 yr3 yd0 yd1 yd2 yd3
      have ya0 : w3.cell? ⟨w.heap.size, 0, none⟩ = some (.bool s) := Ba3.out.cell 0
      have ya1 : w3.cell? ⟨w.heap.size, 1, none⟩ = some (.slice oa la ca) := Ba3.out.cell 1
      have ya2 : w3.cell? ⟨w.heap.size, 2, none⟩ = some (.int .i64 E) := Ba3.out.cell 2
      have yr0 : w3.cell? ⟨w.heap.size + 1, 0, none⟩ = some (.int .i64 0) := Br3.out.cell 0
      have yr1 : w3.cell? ⟨w.heap.size + 1, 1, none⟩ = some (.bool false) := Br3.out.cell 1
      have yr2 : w3.cell? ⟨w.heap.size + 1, 2, none⟩ = some (.string ⟨#[]⟩) := Br3.out.cell 2
      have yr3 : w3.cell? ⟨w.heap.size + 1, 3, none⟩ = some (.int .i64 0) := Br3.out.cell 3
      have yd0 : w3.cell? ⟨w1.heap.size, 0, none⟩ = some (.int .i64 0) := Bd3.out.cell 0
      have yd1 : w3.cell? ⟨w1.heap.size, 1, none⟩ = some (.bool s) := Bd3.out.cell 1
      have yd2 : w3.cell? ⟨w1.heap.size, 2, none⟩ = some (.string x) := Bd3.out.cell 2
      have yd3 : w3.cell? ⟨w1.heap.size, 3, none⟩ = some (.int .i64 (E + (j : Int))) := Bd3.out.cell 3
      have fr0 := Br3.out.free 0
      have fr1 := Br3.out.free 1
      have fr2 := Br3.out.free 2
      have fr3 := Br3.out.free 3
      go_wp2
      refine bodyPost_ret (results_dec2 rfl _ _ _ _ _ _ _ rfl (Br3.out.put4 _ _ _ _)) rfl ?_
      exact ⟨rfl, below_put4 (HB3.out) (by omega) _ _ _ _⟩
    · have hb : byt (bys x) q = 48 := by
        rw [hs.out, strN_bys, Nat.pow_succ, ← Nat.mul_assoc, dd_ten (HK0.out i), show q = (Lib.decDigits (M * 10 ^ i)).length by have := HSZ.out i; unfold sizeN at this; rw [this]; unfold sizeN at hqq; omega, byt_last]
        rfl
      rw [hb] at hg
      have hcut : x.extract 0 q = strN (M * 10 ^ i) := by
        have h := strN_cut (HK0.out i)
        rw [HSZ.out i] at h
        rw [hs.out, Nat.pow_succ, ← Nat.mul_assoc, hqq]
        exact h
      have hsl : ∀ W, (Instr.slice 9 (.string x) none (some (.int .i64 (q : Int))) none).run Tryz.prog W = .ok (.string (x.extract 0 q)) W := fun W => by
        simp [go_sem, Tryz.underlying9]; omega
      have HC := hide hcut
      have hsx : (x.extract 0 q).size = q := by rw [hcut, strN_size, HSZ.out]; omega
      clear hb hcut hs hss hqq
      go_wp2
      refine ⟨⟨i, j + 1, x.extract 0 q, by omega, HC.out, rfl, congrArg (Value.int IntKind.i64) (by omega), trivial⟩, ?_⟩
      rw [Lib.strSize_string, Lib.strSize_string]; omega

set_option maxRecDepth 100000 in
set_option maxHeartbeats 4000000 in
theorem rndec_no (s : Bool) (oa : Option Addr) (la ca : Nat) (E : Int) (ng : Bool) (N m : Nat) (w : World) (hz : Rl w oa la ca N m) (hm : m ≤ 10000) (h0 : N ≠ 0) (hs : sizeN N ≤ 20000) (h1 : -10000 ≤ E) (h2 : E ≤ 10000) (hmay : ¬ May (decA s N E)) : Calls Tryz.prog 74 #[.agg #[.bool s, .slice oa la ca, .int .i64 E], .bool ng] w fun e w' => e = .returned (.tuple #[.agg #[.int .i64 0, .bool false, .string ⟨#[]⟩, .int .i64 0], .bool false]) ∧ Below w.heap.size w w' := by
  obtain ⟨M, k, hN, hM, hD⟩ := decA_form s E h0
  have hM0 : M ≠ 0 := by omega
  have hk0 : ∀ i, M * 10 ^ i ≠ 0 := fun i => Nat.mul_ne_zero hM0 (by have := Nat.pow_pos (n := i) (show 0 < 10 by omega); omega)
  have hsz : ∀ i, sizeN (M * 10 ^ i) = sizeN M + i := by
    intro i
    induction i with
    | zero => simp
    | succ i ih => rw [Nat.pow_succ, ← Nat.mul_assoc, sizeN_ten (hk0 i), ih]; omega
  have hkl : sizeN M + k ≤ 20000 := by rw [← hsz, ← hN]; exact hs
  have hMp := sizeN_pos M
  have hq : ((strN (M * 10 ^ k)).toList == [48]) = false := by
    have : Lib.decDigits (M * 10 ^ k) ≠ [48] := fun e => hk0 k (dd_zero e)
    rw [strN, ByteArray.toList_eq]
    simpa using this
  have HSZ := hide hsz
  have HK0 := hide hk0
  have HL : Hid (byt (Lib.decDigits M) (sizeN M - 1) ≠ 48) := dd_last hM
  obtain ⟨t, ht⟩ : ∃ t, t = strN (M * 10 ^ k) := ⟨_, rfl⟩
  have TX : Hid (∀ X, Below w.heap.size w X → Calls Tryz.prog 61 #[.slice oa la ca] X fun e w' => e = .returned (.string t) ∧ Below X.heap.size X w') := fun X hb => by rw [ht, ← hN]; exact rtextI oa la ca N m X (hz.below hb) hm
  rw [← ht] at hq
  have HTT := hide ht
  rw [hD] at hmay
  obtain ⟨TM, hTM⟩ : ∃ T, T = strN M := ⟨_, rfl⟩
  have hmay' : ¬ MayD 0 s (bys TM) (E + (k : Int)) := by rw [hTM, strN_bys]; exact hmay
  have FIN : Hid (decVal ⟨0, s, Lib.decDigits M, E + (k : Int)⟩ = .agg #[.int .i64 0, .bool s, .string TM, .int .i64 (E + (k : Int))]) := by rw [hTM]; exact rfl
  have MY := hide (fun W => rmay_no 0 s TM (E + (k : Int)) W hmay')
  have HTM := hide hTM
  clear hN hD hM hM0 hsz hk0 hs h0 hz hmay hmay' hTM ht
  have Ba0 := hide ((Blk.newAt w (w.heap.size) (rfl) #[.bool s, .slice oa la ca, .int .i64 E] 60).alloc (.cells #[.int .i64 0, .bool false, .string ⟨#[]⟩, .int .i64 0] 23))
  have Br0 := hide (Blk.newAt (w.alloc (.cells #[.bool s, .slice oa la ca, .int .i64 E] 60)) (w.heap.size + 1) (by simp) #[.int .i64 0, .bool false, .string ⟨#[]⟩, .int .i64 0] 23)
  have HB0 : Hid (Below w.heap.size w ((w.alloc (.cells #[.bool s, .slice oa la ca, .int .i64 E] 60)).alloc (.cells #[.int .i64 0, .bool false, .string ⟨#[]⟩, .int .i64 0] 23))) := (((Below.refl _ _).alloc (Nat.le_refl _) _).alloc (by simp <;> omega) _)
  go_enter Tryz.func74, Tryz.ntmps74
  go_wp2_with fail
  refine (TX.out _ HB0.out).mono ?_
  rintro e w1 ⟨rfl, hb⟩
  have Ba1 := hide (Ba0.out.below hb Ba0.out.lt)
  have Br1 := hide (Br0.out.below hb Br0.out.lt)
  have HB1 := hide (HB0.out.trans (hb.mono HB0.out.size))
  clear hb Ba0 Br0 HB0 
  have ya0 : w1.cell? ⟨w.heap.size, 0, none⟩ = some (.bool s) := Ba1.out.cell 0
  have ya1 : w1.cell? ⟨w.heap.size, 1, none⟩ = some (.slice oa la ca) := Ba1.out.cell 1
  have ya2 : w1.cell? ⟨w.heap.size, 2, none⟩ = some (.int .i64 E) := Ba1.out.cell 2
  have yr0 : w1.cell? ⟨w.heap.size + 1, 0, none⟩ = some (.int .i64 0) := Br1.out.cell 0
  have yr1 : w1.cell? ⟨w.heap.size + 1, 1, none⟩ = some (.bool false) := Br1.out.cell 1
  have yr2 : w1.cell? ⟨w.heap.size + 1, 2, none⟩ = some (.string ⟨#[]⟩) := Br1.out.cell 2
  have yr3 : w1.cell? ⟨w.heap.size + 1, 3, none⟩ = some (.int .i64 0) := Br1.out.cell 3
  go_wp2
  have fr0 := Br1.out.free 0
  have fr1 := Br1.out.free 1
  have fr2 := Br1.out.free 2
  have fr3 := Br1.out.free 3
  go_loopw [6, 7] (fun vs ve wr => ∃ (i j : Nat) (x : ByteArray), i + j = k ∧ Hid (x = strN (M * 10 ^ i)) ∧ vs = .string x ∧ ve = .int .i64 (E + (j : Int)) ∧ w1 = wr) (fun vs _ _ => Lib.strSize vs)
  case atStart => exact ⟨k, 0, t, rfl, HTT.out, rfl, by simp, rfl⟩
  case round =>
    clear hq HTT
    obtain ⟨i, j, x, hij, hs, rfl, rfl, rfl⟩ := hrel
    have hss : x.size = sizeN M + i := by rw [hs.out, strN_size, HSZ.out]
    obtain ⟨q, hqq⟩ : ∃ q, q = sizeN M + i - 1 := ⟨_, rfl⟩
    have hsq : x.size = q + 1 := by omega
    have hg : ∀ h : q < x.size, x[q].toNat = byt (bys x) q := fun h => byt_get x q h
    have hlt : q < x.size := by omega
    have hlt' : (q : Int) < (x.size : Int) := by omega
    have hqb : q ≤ 20000 := by omega
    rcases i with _ | i
    · obtain ⟨a, ha⟩ : ∃ a, a = byt (bys x) q := ⟨_, rfl⟩
      rw [← ha] at hg
      have hne : ((a : Int) == 48) = false := by
        have h1 := HL.out
        have e1 : bys x = Lib.decDigits M := by rw [hs.out, Nat.pow_zero, Nat.mul_one, strN_bys]
        rw [e1, hqq, Nat.add_zero] at ha
        rw [← ha] at h1
        have : ¬ (a : Int) = 48 := by omega
        simpa using this
      obtain rfl : x = TM := by rw [hs.out, HTM.out]; simp
      obtain rfl : j = k := by omega
      clear ha hs hij hss hqq
      have Ba2 := hide ((Ba1.out.alloc (.cells #[.int .i64 0, .bool s, .string x, .int .i64 (E + (j : Int))] 23)))
      have Br2 := hide ((Br1.out.alloc (.cells #[.int .i64 0, .bool s, .string x, .int .i64 (E + (j : Int))] 23)))
      have Bd2 := hide ((Blk.newAt w1 (w1.heap.size) (rfl) #[.int .i64 0, .bool s, .string x, .int .i64 (E + (j : Int))] 23))
      have HB2 : Hid (Below w.heap.size w (w1.alloc (.cells #[.int .i64 0, .bool s, .string x, .int .i64 (E + (j : Int))] 23))) := (HB1.out.alloc HB1.out.size _)
      clear Ba1 Br1 HB1 
      have ya0 : (w1.alloc (.cells #[.int .i64 0, .bool s, .string x, .int .i64 (E + (j : Int))] 23)).cell? ⟨w.heap.size, 0, none⟩ = some (.bool s) := Ba2.out.cell 0
      have ya1 : (w1.alloc (.cells #[.int .i64 0, .bool s, .string x, .int .i64 (E + (j : Int))] 23)).cell? ⟨w.heap.size, 1, none⟩ = some (.slice oa la ca) := Ba2.out.cell 1
      have ya2 : (w1.alloc (.cells #[.int .i64 0, .bool s, .string x, .int .i64 (E + (j : Int))] 23)).cell? ⟨w.heap.size, 2, none⟩ = some (.int .i64 E) := Ba2.out.cell 2
      have yr0 : (w1.alloc (.cells #[.int .i64 0, .bool s, .string x, .int .i64 (E + (j : Int))] 23)).cell? ⟨w.heap.size + 1, 0, none⟩ = some (.int .i64 0) := Br2.out.cell 0
      have yr1 : (w1.alloc (.cells #[.int .i64 0, .bool s, .string x, .int .i64 (E + (j : Int))] 23)).cell? ⟨w.heap.size + 1, 1, none⟩ = some (.bool false) := Br2.out.cell 1
      have yr2 : (w1.alloc (.cells #[.int .i64 0, .bool s, .string x, .int .i64 (E + (j : Int))] 23)).cell? ⟨w.heap.size + 1, 2, none⟩ = some (.string ⟨#[]⟩) := Br2.out.cell 2
      have yr3 : (w1.alloc (.cells #[.int .i64 0, .bool s, .string x, .int .i64 (E + (j : Int))] 23)).cell? ⟨w.heap.size + 1, 3, none⟩ = some (.int .i64 0) := Br2.out.cell 3
      have yd0 : (w1.alloc (.cells #[.int .i64 0, .bool s, .string x, .int .i64 (E + (j : Int))] 23)).cell? ⟨w1.heap.size, 0, none⟩ = some (.int .i64 0) := Bd2.out.cell 0
      have yd1 : (w1.alloc (.cells #[.int .i64 0, .bool s, .string x, .int .i64 (E + (j : Int))] 23)).cell? ⟨w1.heap.size, 1, none⟩ = some (.bool s) := Bd2.out.cell 1
      have yd2 : (w1.alloc (.cells #[.int .i64 0, .bool s, .string x, .int .i64 (E + (j : Int))] 23)).cell? ⟨w1.heap.size, 2, none⟩ = some (.string x) := Bd2.out.cell 2
      have yd3 : (w1.alloc (.cells #[.int .i64 0, .bool s, .string x, .int .i64 (E + (j : Int))] 23)).cell? ⟨w1.heap.size, 3, none⟩ = some (.int .i64 (E + (j : Int))) := Bd2.out.cell 3
      go_wp2_with fail
      refine (MY.out _).mono ?_
      rintro e w3 ⟨rfl, hb⟩
      have Ba3 := hide (Ba2.out.below hb Ba2.out.lt)
      have Br3 := hide (Br2.out.below hb Br2.out.lt)
      have Bd3 := hide (Bd2.out.below hb Bd2.out.lt)
      have HB3 := hide (HB2.out.trans (hb.mono HB2.out.size))
      clear hb Ba2 Br2 Bd2 HB2 ya0 ya1 ya2 yr0 yr1 yr2 yr3 yd0 yd1 yd2 yd3
      have ya0 : w3.cell? ⟨w.heap.size, 0, none⟩ = some (.bool s) := Ba3.out.cell 0
      have ya1 : w3.cell? ⟨w.heap.size, 1, none⟩ = some (.slice oa la ca) := Ba3.out.cell 1
      have ya2 : w3.cell? ⟨w.heap.size, 2, none⟩ = some (.int .i64 E) := Ba3.out.cell 2
      have yr0 : w3.cell? ⟨w.heap.size + 1, 0, none⟩ = some (.int .i64 0) := Br3.out.cell 0
      have yr1 : w3.cell? ⟨w.heap.size + 1, 1, none⟩ = some (.bool false) := Br3.out.cell 1
      have yr2 : w3.cell? ⟨w.heap.size + 1, 2, none⟩ = some (.string ⟨#[]⟩) := Br3.out.cell 2
      have yr3 : w3.cell? ⟨w.heap.size + 1, 3, none⟩ = some (.int .i64 0) := Br3.out.cell 3
      have yd0 : w3.cell? ⟨w1.heap.size, 0, none⟩ = some (.int .i64 0) := Bd3.out.cell 0
      have yd1 : w3.cell? ⟨w1.heap.size, 1, none⟩ = some (.bool s) := Bd3.out.cell 1
      have yd2 : w3.cell? ⟨w1.heap.size, 2, none⟩ = some (.string x) := Bd3.out.cell 2
      have yd3 : w3.cell? ⟨w1.heap.size, 3, none⟩ = some (.int .i64 (E + (j : Int))) := Bd3.out.cell 3
      have fr0 := Br3.out.free 0
      have fr1 := Br3.out.free 1
      have fr2 := Br3.out.free 2
      have fr3 := Br3.out.free 3
      go_wp2
      refine bodyPost_ret (results_dec2 rfl _ _ _ _ _ _ _ rfl (Br3.out.put4 _ _ _ _)) rfl ?_
      exact ⟨rfl, below_put4 (HB3.out) (by omega) _ _ _ _⟩
    · have hb : byt (bys x) q = 48 := by
        rw [hs.out, strN_bys, Nat.pow_succ, ← Nat.mul_assoc, dd_ten (HK0.out i), show q = (Lib.decDigits (M * 10 ^ i)).length by have := HSZ.out i; unfold sizeN at this; rw [this]; unfold sizeN at hqq; omega, byt_last]
        rfl
      rw [hb] at hg
      have hcut : x.extract 0 q = strN (M * 10 ^ i) := by
        have h := strN_cut (HK0.out i)
        rw [HSZ.out i] at h
        rw [hs.out, Nat.pow_succ, ← Nat.mul_assoc, hqq]
        exact h
      have hsl : ∀ W, (Instr.slice 9 (.string x) none (some (.int .i64 (q : Int))) none).run Tryz.prog W = .ok (.string (x.extract 0 q)) W := fun W => by
        simp [go_sem, Tryz.underlying9]; omega
      have HC := hide hcut
      have hsx : (x.extract 0 q).size = q := by rw [hcut, strN_size, HSZ.out]; omega
      clear hb hcut hs hss hqq
      go_wp2
      refine ⟨⟨i, j + 1, x.extract 0 q, by omega, HC.out, rfl, congrArg (Value.int IntKind.i64) (by omega), trivial⟩, ?_⟩
      rw [Lib.strSize_string, Lib.strSize_string]; omega

end Go.Proofs.YtafljhfamjabeaaGreatDoor

namespace Go.Proofs.YtafljhfamjabeaaGreatDoor
open Go.RowKit

theorem raddI (s1 : Bool) (o1 : Option Addr) (l1 c1 : Nat) (s2 : Bool) (o2 : Option Addr) (l2 c2 : Nat) (z u : Int) (w : World) (h1 : RI w s1 o1 l1 c1 z 4001 0) (h2 : RI w s2 o2 l2 c2 u 4001 0) :
    Calls Tryz.prog 75 #[.agg #[.bool s1, .slice o1 l1 c1], .agg #[.bool s2, .slice o2 l2 c2]] w fun e w' => (∃ s o l c, e = .returned (.agg #[.bool s, .slice o l c]) ∧ RI w' s o l c (z + u) 4003 w.heap.size) ∧ Below w.heap.size w w' := by
  obtain ⟨x, g1, g2, g3, g4, g5, g6⟩ := h1
  obtain ⟨y, f1, f2, f3, f4, f5, f6⟩ := h2
  refine (raddz s1 s2 o1 o2 l1 c1 l2 c2 x y w (by omega) (by omega) g2 f2 g1 f1 g5.1 f5.1 z u ⟨g4, g6⟩ ⟨f4, f6⟩).mono ?_
  rintro e w' ⟨s, o', c', r', hs, rfl, hle, hres, his, hlen, hb⟩
  exact ⟨⟨s, o', r'.length, c', rfl, r', rfl, hle, by omega, hs.out, hres, his⟩, hb⟩

theorem rmulI (s1 : Bool) (o1 : Option Addr) (l1 c1 : Nat) (s2 : Bool) (o2 : Option Addr) (l2 c2 : Nat) (z u : Int) (w : World) (h1 : RI w s1 o1 l1 c1 z 1002 0) (h2 : RI w s2 o2 l2 c2 u 1002 0) :
    Calls Tryz.prog 51 #[.agg #[.bool s1, .slice o1 l1 c1], .agg #[.bool s2, .slice o2 l2 c2]] w fun e w' => (∃ s o l c, e = .returned (.agg #[.bool s, .slice o l c]) ∧ RI w' s o l c (z * u) 2005 w.heap.size) ∧ Below w.heap.size w w' := by
  obtain ⟨x, g1, g2, g3, g4, g5, g6⟩ := h1
  obtain ⟨y, f1, f2, f3, f4, f5, f6⟩ := h2
  refine (rmulz s1 s2 o1 o2 l1 c1 l2 c2 x y w (by omega) (by omega) g2 f2 g1 f1 g5.1 f5.1 z u (NI32.nv ⟨g4, g6⟩) (NI32.nv ⟨f4, f6⟩)).mono ?_
  rintro e w' ⟨s, o', c', r', hs, rfl, hle, hres, his, hlen, hb⟩
  exact ⟨⟨s, o', r'.length, c', rfl, r', rfl, hle, by omega, hs.out, hres, his⟩, hb⟩

set_option maxRecDepth 100000 in
set_option maxHeartbeats 2000000 in
theorem rtold_yes (s : Bool) (oa : Option Addr) (la ca : Nat) (E : Int) (ng : Bool) (cd : Int) (nd : Bool) (td : ByteArray) (ed : Int) (w : World) (hd : ∀ X, Below w.heap.size w X → Calls Tryz.prog 74 #[.agg #[.bool s, .slice oa la ca, .int .i64 E], .bool ng] X fun e w' => e = .returned (.tuple #[.agg #[.int .i64 cd, .bool nd, .string td, .int .i64 ed], .bool true]) ∧ Below X.heap.size X w') : Calls Tryz.prog 47 #[.agg #[.bool s, .slice oa la ca, .int .i64 E], .bool ng] w fun e w' => e = .returned (.tuple #[.agg #[.int .i64 cd, .bool nd, .string td, .int .i64 ed], .int .i64 0]) ∧ Below w.heap.size w w' := by
  have DD := hide hd
  clear hd
  have Ba0 := hide ((Blk.newAt w (w.heap.size) (rfl) #[.bool s, .slice oa la ca, .int .i64 E] 60).alloc (.cells #[.int .i64 0, .bool false, .string ⟨#[]⟩, .int .i64 0] 23))
  have Br0 := hide (Blk.newAt (w.alloc (.cells #[.bool s, .slice oa la ca, .int .i64 E] 60)) (w.heap.size + 1) (by simp) #[.int .i64 0, .bool false, .string ⟨#[]⟩, .int .i64 0] 23)
  have HB0 : Hid (Below w.heap.size w ((w.alloc (.cells #[.bool s, .slice oa la ca, .int .i64 E] 60)).alloc (.cells #[.int .i64 0, .bool false, .string ⟨#[]⟩, .int .i64 0] 23))) := (((Below.refl _ _).alloc (Nat.le_refl _) _).alloc (by simp <;> omega) _)
  go_enter Tryz.func47, Tryz.ntmps47
  go_wp2_with fail
  refine (DD.out _ HB0.out).mono ?_
  rintro e w1 ⟨rfl, hb⟩
  have Ba1 := hide (Ba0.out.below hb Ba0.out.lt)
  have Br1 := hide (Br0.out.below hb Br0.out.lt)
  have HB1 := hide (HB0.out.trans (hb.mono HB0.out.size))
  clear hb Ba0 Br0 HB0 
  have ya0 : w1.cell? ⟨w.heap.size, 0, none⟩ = some (.bool s) := Ba1.out.cell 0
  have ya1 : w1.cell? ⟨w.heap.size, 1, none⟩ = some (.slice oa la ca) := Ba1.out.cell 1
  have ya2 : w1.cell? ⟨w.heap.size, 2, none⟩ = some (.int .i64 E) := Ba1.out.cell 2
  have yr0 : w1.cell? ⟨w.heap.size + 1, 0, none⟩ = some (.int .i64 0) := Br1.out.cell 0
  have yr1 : w1.cell? ⟨w.heap.size + 1, 1, none⟩ = some (.bool false) := Br1.out.cell 1
  have yr2 : w1.cell? ⟨w.heap.size + 1, 2, none⟩ = some (.string ⟨#[]⟩) := Br1.out.cell 2
  have yr3 : w1.cell? ⟨w.heap.size + 1, 3, none⟩ = some (.int .i64 0) := Br1.out.cell 3
  have Ba2 := hide ((Ba1.out.alloc (.cells #[.int .i64 cd, .bool nd, .string td, .int .i64 ed] 23)))
  have Br2 := hide ((Br1.out.alloc (.cells #[.int .i64 cd, .bool nd, .string td, .int .i64 ed] 23)))
  have Bd2 := hide ((Blk.newAt w1 (w1.heap.size) (rfl) #[.int .i64 cd, .bool nd, .string td, .int .i64 ed] 23))
  have HB2 : Hid (Below w.heap.size w (w1.alloc (.cells #[.int .i64 cd, .bool nd, .string td, .int .i64 ed] 23))) := (HB1.out.alloc HB1.out.size _)
  clear Ba1 Br1 HB1 ya0 ya1 ya2 yr0 yr1 yr2 yr3
  have ya0 : (w1.alloc (.cells #[.int .i64 cd, .bool nd, .string td, .int .i64 ed] 23)).cell? ⟨w.heap.size, 0, none⟩ = some (.bool s) := Ba2.out.cell 0
  have ya1 : (w1.alloc (.cells #[.int .i64 cd, .bool nd, .string td, .int .i64 ed] 23)).cell? ⟨w.heap.size, 1, none⟩ = some (.slice oa la ca) := Ba2.out.cell 1
  have ya2 : (w1.alloc (.cells #[.int .i64 cd, .bool nd, .string td, .int .i64 ed] 23)).cell? ⟨w.heap.size, 2, none⟩ = some (.int .i64 E) := Ba2.out.cell 2
  have yr0 : (w1.alloc (.cells #[.int .i64 cd, .bool nd, .string td, .int .i64 ed] 23)).cell? ⟨w.heap.size + 1, 0, none⟩ = some (.int .i64 0) := Br2.out.cell 0
  have yr1 : (w1.alloc (.cells #[.int .i64 cd, .bool nd, .string td, .int .i64 ed] 23)).cell? ⟨w.heap.size + 1, 1, none⟩ = some (.bool false) := Br2.out.cell 1
  have yr2 : (w1.alloc (.cells #[.int .i64 cd, .bool nd, .string td, .int .i64 ed] 23)).cell? ⟨w.heap.size + 1, 2, none⟩ = some (.string ⟨#[]⟩) := Br2.out.cell 2
  have yr3 : (w1.alloc (.cells #[.int .i64 cd, .bool nd, .string td, .int .i64 ed] 23)).cell? ⟨w.heap.size + 1, 3, none⟩ = some (.int .i64 0) := Br2.out.cell 3
  have yd0 : (w1.alloc (.cells #[.int .i64 cd, .bool nd, .string td, .int .i64 ed] 23)).cell? ⟨w1.heap.size, 0, none⟩ = some (.int .i64 cd) := Bd2.out.cell 0
  have yd1 : (w1.alloc (.cells #[.int .i64 cd, .bool nd, .string td, .int .i64 ed] 23)).cell? ⟨w1.heap.size, 1, none⟩ = some (.bool nd) := Bd2.out.cell 1
  have yd2 : (w1.alloc (.cells #[.int .i64 cd, .bool nd, .string td, .int .i64 ed] 23)).cell? ⟨w1.heap.size, 2, none⟩ = some (.string td) := Bd2.out.cell 2
  have yd3 : (w1.alloc (.cells #[.int .i64 cd, .bool nd, .string td, .int .i64 ed] 23)).cell? ⟨w1.heap.size, 3, none⟩ = some (.int .i64 ed) := Bd2.out.cell 3
  have fr0 := Br2.out.free 0
  have fr1 := Br2.out.free 1
  have fr2 := Br2.out.free 2
  have fr3 := Br2.out.free 3
  go_wp2
  refine bodyPost_ret (results_dec2 rfl _ _ _ _ _ _ _ rfl (Br2.out.put4 _ _ _ _)) rfl ?_
  exact ⟨rfl, below_put4 (HB2.out) (by omega) _ _ _ _⟩

set_option maxRecDepth 100000 in
set_option maxHeartbeats 2000000 in
theorem rtold_no (s : Bool) (oa : Option Addr) (la ca : Nat) (E : Int) (ng : Bool) (w : World) (hd : ∀ X, Below w.heap.size w X → Calls Tryz.prog 74 #[.agg #[.bool s, .slice oa la ca, .int .i64 E], .bool ng] X fun e w' => e = .returned (.tuple #[.agg #[.int .i64 0, .bool false, .string ⟨#[]⟩, .int .i64 0], .bool false]) ∧ Below X.heap.size X w') : Calls Tryz.prog 47 #[.agg #[.bool s, .slice oa la ca, .int .i64 E], .bool ng] w fun e w' => e = .returned (.tuple #[.agg #[.int .i64 0, .bool false, .string ⟨#[]⟩, .int .i64 0], .int .i64 51]) ∧ Below w.heap.size w w' := by
  have DD := hide hd
  clear hd
  have Ba0 := hide ((Blk.newAt w (w.heap.size) (rfl) #[.bool s, .slice oa la ca, .int .i64 E] 60).alloc (.cells #[.int .i64 0, .bool false, .string ⟨#[]⟩, .int .i64 0] 23))
  have Br0 := hide (Blk.newAt (w.alloc (.cells #[.bool s, .slice oa la ca, .int .i64 E] 60)) (w.heap.size + 1) (by simp) #[.int .i64 0, .bool false, .string ⟨#[]⟩, .int .i64 0] 23)
  have HB0 : Hid (Below w.heap.size w ((w.alloc (.cells #[.bool s, .slice oa la ca, .int .i64 E] 60)).alloc (.cells #[.int .i64 0, .bool false, .string ⟨#[]⟩, .int .i64 0] 23))) := (((Below.refl _ _).alloc (Nat.le_refl _) _).alloc (by simp <;> omega) _)
  go_enter Tryz.func47, Tryz.ntmps47
  go_wp2_with fail
  refine (DD.out _ HB0.out).mono ?_
  rintro e w1 ⟨rfl, hb⟩
  have Ba1 := hide (Ba0.out.below hb Ba0.out.lt)
  have Br1 := hide (Br0.out.below hb Br0.out.lt)
  have HB1 := hide (HB0.out.trans (hb.mono HB0.out.size))
  clear hb Ba0 Br0 HB0 
  have ya0 : w1.cell? ⟨w.heap.size, 0, none⟩ = some (.bool s) := Ba1.out.cell 0
  have ya1 : w1.cell? ⟨w.heap.size, 1, none⟩ = some (.slice oa la ca) := Ba1.out.cell 1
  have ya2 : w1.cell? ⟨w.heap.size, 2, none⟩ = some (.int .i64 E) := Ba1.out.cell 2
  have yr0 : w1.cell? ⟨w.heap.size + 1, 0, none⟩ = some (.int .i64 0) := Br1.out.cell 0
  have yr1 : w1.cell? ⟨w.heap.size + 1, 1, none⟩ = some (.bool false) := Br1.out.cell 1
  have yr2 : w1.cell? ⟨w.heap.size + 1, 2, none⟩ = some (.string ⟨#[]⟩) := Br1.out.cell 2
  have yr3 : w1.cell? ⟨w.heap.size + 1, 3, none⟩ = some (.int .i64 0) := Br1.out.cell 3
  have Ba2 := hide ((Ba1.out.alloc (.cells #[.int .i64 0, .bool false, .string ⟨#[]⟩, .int .i64 0] 23)))
  have Br2 := hide ((Br1.out.alloc (.cells #[.int .i64 0, .bool false, .string ⟨#[]⟩, .int .i64 0] 23)))
  have Bd2 := hide ((Blk.newAt w1 (w1.heap.size) (rfl) #[.int .i64 0, .bool false, .string ⟨#[]⟩, .int .i64 0] 23))
  have HB2 : Hid (Below w.heap.size w (w1.alloc (.cells #[.int .i64 0, .bool false, .string ⟨#[]⟩, .int .i64 0] 23))) := (HB1.out.alloc HB1.out.size _)
  clear Ba1 Br1 HB1 ya0 ya1 ya2 yr0 yr1 yr2 yr3
  have ya0 : (w1.alloc (.cells #[.int .i64 0, .bool false, .string ⟨#[]⟩, .int .i64 0] 23)).cell? ⟨w.heap.size, 0, none⟩ = some (.bool s) := Ba2.out.cell 0
  have ya1 : (w1.alloc (.cells #[.int .i64 0, .bool false, .string ⟨#[]⟩, .int .i64 0] 23)).cell? ⟨w.heap.size, 1, none⟩ = some (.slice oa la ca) := Ba2.out.cell 1
  have ya2 : (w1.alloc (.cells #[.int .i64 0, .bool false, .string ⟨#[]⟩, .int .i64 0] 23)).cell? ⟨w.heap.size, 2, none⟩ = some (.int .i64 E) := Ba2.out.cell 2
  have yr0 : (w1.alloc (.cells #[.int .i64 0, .bool false, .string ⟨#[]⟩, .int .i64 0] 23)).cell? ⟨w.heap.size + 1, 0, none⟩ = some (.int .i64 0) := Br2.out.cell 0
  have yr1 : (w1.alloc (.cells #[.int .i64 0, .bool false, .string ⟨#[]⟩, .int .i64 0] 23)).cell? ⟨w.heap.size + 1, 1, none⟩ = some (.bool false) := Br2.out.cell 1
  have yr2 : (w1.alloc (.cells #[.int .i64 0, .bool false, .string ⟨#[]⟩, .int .i64 0] 23)).cell? ⟨w.heap.size + 1, 2, none⟩ = some (.string ⟨#[]⟩) := Br2.out.cell 2
  have yr3 : (w1.alloc (.cells #[.int .i64 0, .bool false, .string ⟨#[]⟩, .int .i64 0] 23)).cell? ⟨w.heap.size + 1, 3, none⟩ = some (.int .i64 0) := Br2.out.cell 3
  have yd0 : (w1.alloc (.cells #[.int .i64 0, .bool false, .string ⟨#[]⟩, .int .i64 0] 23)).cell? ⟨w1.heap.size, 0, none⟩ = some (.int .i64 0) := Bd2.out.cell 0
  have yd1 : (w1.alloc (.cells #[.int .i64 0, .bool false, .string ⟨#[]⟩, .int .i64 0] 23)).cell? ⟨w1.heap.size, 1, none⟩ = some (.bool false) := Bd2.out.cell 1
  have yd2 : (w1.alloc (.cells #[.int .i64 0, .bool false, .string ⟨#[]⟩, .int .i64 0] 23)).cell? ⟨w1.heap.size, 2, none⟩ = some (.string ⟨#[]⟩) := Bd2.out.cell 2
  have yd3 : (w1.alloc (.cells #[.int .i64 0, .bool false, .string ⟨#[]⟩, .int .i64 0] 23)).cell? ⟨w1.heap.size, 3, none⟩ = some (.int .i64 0) := Bd2.out.cell 3
  have fr0 := Br2.out.free 0
  have fr1 := Br2.out.free 1
  have fr2 := Br2.out.free 2
  have fr3 := Br2.out.free 3
  go_wp2
  refine bodyPost_ret (results_dec2 rfl _ _ _ _ _ _ _ rfl (Br2.out.put4 _ _ _ _)) rfl ?_
  exact ⟨rfl, below_put4 (HB2.out) (by omega) _ _ _ _⟩

/-- A whole number times a power of 10, as an answer. -/
theorem rtold_any (s : Bool) (oa : Option Addr) (la ca : Nat) (E : Int) (ng : Bool) (z : Int) (m lo : Nat) (w : World) (hz : RI w s oa la ca z m lo) (hm : m ≤ 10000) (hs : sizeN z.natAbs ≤ 20000) (h1 : -10000 ≤ E) (h2 : E ≤ 10000) :
    Calls Tryz.prog 47 #[.agg #[.bool s, .slice oa la ca, .int .i64 E], .bool ng] w fun e w' => e = .returned (decErr (tellF (if z = 0 then ng else decide (z < 0)) z.natAbs E)) ∧ Below w.heap.size w w' := by
  by_cases h0 : z = 0
  · subst h0
    rw [if_pos rfl]
    have e : tellF ng (0 : Int).natAbs E = (⟨0, ng, [], 0⟩, 0) := tellF_yes (may_zero ng)
    rw [e]
    exact rtold_yes s oa la ca E ng 0 ng ⟨#[]⟩ 0 w (fun X hb => rndec_zero s oa la ca E ng m X (hz.abs.below hb) hm)
  · have hn : z.natAbs ≠ 0 := by omega
    have hsg : s = decide (z < 0) := by obtain ⟨_, _, _, _, g, _⟩ := hz; exact g
    rw [if_neg h0, ← hsg]
    have ef : finD s z.natAbs E = decA s z.natAbs E := by unfold finD; rw [if_neg hn]
    by_cases hmay : May (decA s z.natAbs E)
    · rw [tellF_yes (by rw [ef]; exact hmay), ef]
      exact rtold_yes s oa la ca E ng _ _ _ _ w (fun X hb => rndec_yes s oa la ca E ng z.natAbs m X (hz.abs.below hb) hm hn hs h1 h2 hmay)
    · rw [tellF_no (by rw [ef]; exact hmay)]
      exact rtold_no s oa la ca E ng w (fun X hb => rndec_no s oa la ca E ng z.natAbs m X (hz.abs.below hb) hm hn hs h1 h2 hmay)

set_option maxRecDepth 100000 in
set_option maxHeartbeats 4000000 in
theorem rsum_any (sa : Bool) (oa : Option Addr) (la ca : Nat) (ea za : Int) (ka : Nat) (sb : Bool) (ob : Option Addr) (lb cb : Nat) (eb zb : Int) (kb lo : Nat) (w : World) (hka : ea - min ea eb = (ka : Int)) (hkb : eb - min ea eb = (kb : Int)) (hka2 : ka ≤ 8192) (hkb2 : kb ≤ 8192) (hza : RI w sa oa la ca za 1002 lo) (hzb : RI w sb ob lb cb zb 1002 lo) : Calls Tryz.prog 48 #[.agg #[.bool sa, .slice oa la ca, .int .i64 ea], .agg #[.bool sb, .slice ob lb cb, .int .i64 eb]] w fun e w' => (∃ s o l c, e = .returned (.agg #[.bool s, .slice o l c, .int .i64 (min ea eb)]) ∧ RI w' s o l c ((zv sa (za.natAbs * 10 ^ ka)) + (zv sb (zb.natAbs * 10 ^ kb))) 4003 0) ∧ Below w.heap.size w w' := by
  obtain ⟨M, hM⟩ : ∃ M, M = min ea eb := ⟨_, rfl⟩
  rw [← hM] at hka hkb ⊢
  have HM := hide hM
  clear hM
  have HZA := hide hza
  have HZB := hide hzb
  have KA := hide hka
  have KB := hide hkb
  have KA2 := hide hka2
  have KB2 := hide hkb2
  clear hza hzb hka hkb hka2 hkb2
  have Ba0 := hide (((Blk.newAt w (w.heap.size) (rfl) #[.bool sa, .slice oa la ca, .int .i64 ea] 60).alloc (.cells #[.bool sb, .slice ob lb cb, .int .i64 eb] 60)).alloc (.cells #[.bool false, .slice none 0 0, .int .i64 0] 60))
  have Bb0 := hide ((Blk.newAt (w.alloc (.cells #[.bool sa, .slice oa la ca, .int .i64 ea] 60)) (w.heap.size + 1) (by simp) #[.bool sb, .slice ob lb cb, .int .i64 eb] 60).alloc (.cells #[.bool false, .slice none 0 0, .int .i64 0] 60))
  have Br0 := hide (Blk.newAt ((w.alloc (.cells #[.bool sa, .slice oa la ca, .int .i64 ea] 60)).alloc (.cells #[.bool sb, .slice ob lb cb, .int .i64 eb] 60)) (w.heap.size + 1 + 1) (by simp) #[.bool false, .slice none 0 0, .int .i64 0] 60)
  have HB0 : Hid (Below w.heap.size w (((w.alloc (.cells #[.bool sa, .slice oa la ca, .int .i64 ea] 60)).alloc (.cells #[.bool sb, .slice ob lb cb, .int .i64 eb] 60)).alloc (.cells #[.bool false, .slice none 0 0, .int .i64 0] 60))) := ((((Below.refl _ _).alloc (Nat.le_refl _) _).alloc (by simp <;> omega) _).alloc (by simp <;> omega) _)
  have HAW := hide (HZA.out.below ((((Below.refl _ _).alloc (Nat.le_refl _) _).alloc (by simp) _).alloc (by simp; omega) _ : Below w.heap.size w (((w.alloc (.cells #[.bool sa, .slice oa la ca, .int .i64 ea] 60)).alloc (.cells #[.bool sb, .slice ob lb cb, .int .i64 eb] 60)).alloc (.cells #[.bool false, .slice none 0 0, .int .i64 0] 60))))
  have HBW := hide (HZB.out.below ((((Below.refl _ _).alloc (Nat.le_refl _) _).alloc (by simp) _).alloc (by simp; omega) _ : Below w.heap.size w (((w.alloc (.cells #[.bool sa, .slice oa la ca, .int .i64 ea] 60)).alloc (.cells #[.bool sb, .slice ob lb cb, .int .i64 eb] 60)).alloc (.cells #[.bool false, .slice none 0 0, .int .i64 0] 60))))
  obtain ⟨W, hW⟩ : ∃ W, W = (((w.alloc (.cells #[.bool sa, .slice oa la ca, .int .i64 ea] 60)).alloc (.cells #[.bool sb, .slice ob lb cb, .int .i64 eb] 60)).alloc (.cells #[.bool false, .slice none 0 0, .int .i64 0] 60)) := ⟨_, rfl⟩
  rw [← hW] at HB0 Ba0 Bb0 Br0 HAW HBW
  have HW := hide hW
  clear hW
  have ya0 : W.cell? ⟨w.heap.size, 0, none⟩ = some (.bool sa) := Ba0.out.cell 0
  have ya1 : W.cell? ⟨w.heap.size, 1, none⟩ = some (.slice oa la ca) := Ba0.out.cell 1
  have ya2 : W.cell? ⟨w.heap.size, 2, none⟩ = some (.int .i64 ea) := Ba0.out.cell 2
  have yb0 : W.cell? ⟨w.heap.size + 1, 0, none⟩ = some (.bool sb) := Bb0.out.cell 0
  have yb1 : W.cell? ⟨w.heap.size + 1, 1, none⟩ = some (.slice ob lb cb) := Bb0.out.cell 1
  have yb2 : W.cell? ⟨w.heap.size + 1, 2, none⟩ = some (.int .i64 eb) := Bb0.out.cell 2
  have yr0 : W.cell? ⟨w.heap.size + 1 + 1, 0, none⟩ = some (.bool false) := Br0.out.cell 0
  have yr1 : W.cell? ⟨w.heap.size + 1 + 1, 1, none⟩ = some (.slice none 0 0) := Br0.out.cell 1
  have yr2 : W.cell? ⟨w.heap.size + 1 + 1, 2, none⟩ = some (.int .i64 0) := Br0.out.cell 2
  obtain ⟨G, hG⟩ : ∃ G, G = w.heap.size + 1 + 1 := ⟨_, rfl⟩
  have gn0 : ¬ G = w.heap.size := by omega
  have gn1 : ¬ w.heap.size = G := by omega
  have gn2 : ¬ G = w.heap.size + 1 := by omega
  have gn3 : ¬ w.heap.size + 1 = G := by omega
  have gle : w.heap.size ≤ G := by omega
  rw [← hG] at Br0 yr0 yr1 yr2
  have HG := hide hG
  have HLT : Hid (G < W.heap.size) := Br0.out.lt
  clear hG yr0 yr1 yr2 HZA HZB
  go_enter Tryz.func48, Tryz.ntmps48
  have C0 : Hid (∀ X, Hid (Below W.heap.size W X) → Calls Tryz.prog 68 #[.agg #[.bool sa, .slice oa la ca, .int .i64 ea], .int .i64 M] X fun e w' => (∃ s o l c, e = .returned (.agg #[.bool s, .slice o l c]) ∧ Hid (RI w' s o l c (zv sa (za.natAbs * 10 ^ ka)) 4001 0)) ∧ Hid (Below X.heap.size X w') ∧ Hid (Below W.heap.size W w') ∧ w'.cell? ⟨w.heap.size, 0, none⟩ = some (.bool sa) ∧ w'.cell? ⟨w.heap.size, 1, none⟩ = some (.slice oa la ca) ∧ w'.cell? ⟨w.heap.size, 2, none⟩ = some (.int .i64 ea) ∧ w'.cell? ⟨w.heap.size + 1, 0, none⟩ = some (.bool sb) ∧ w'.cell? ⟨w.heap.size + 1, 1, none⟩ = some (.slice ob lb cb) ∧ w'.cell? ⟨w.heap.size + 1, 2, none⟩ = some (.int .i64 eb)) := by
    intro X bX
    refine (rnat sa oa la ca ea M za ka lo X KA.out KA2.out (HAW.out.below bX.out)).mono ?_
    rintro e w' ⟨⟨s, o, l, c, rfl, hz⟩, hb⟩
    have bb := bX.out.trans (hb.mono bX.out.size)
    have Baq := Ba0.out.below bb Ba0.out.lt
    have Bbq := Bb0.out.below bb Bb0.out.lt
    exact ⟨⟨s, o, l, c, rfl, hz.lo (Nat.zero_le _) (Nat.le_refl _)⟩, hb, bb, Baq.cell 0, Baq.cell 1, Baq.cell 2, Bbq.cell 0, Bbq.cell 1, Bbq.cell 2⟩
  have C1 : Hid (∀ X, Hid (Below W.heap.size W X) → Calls Tryz.prog 68 #[.agg #[.bool sb, .slice ob lb cb, .int .i64 eb], .int .i64 M] X fun e w' => (∃ s o l c, e = .returned (.agg #[.bool s, .slice o l c]) ∧ Hid (RI w' s o l c (zv sb (zb.natAbs * 10 ^ kb)) 4001 0)) ∧ Hid (Below X.heap.size X w') ∧ Hid (Below W.heap.size W w') ∧ w'.cell? ⟨w.heap.size, 0, none⟩ = some (.bool sa) ∧ w'.cell? ⟨w.heap.size, 1, none⟩ = some (.slice oa la ca) ∧ w'.cell? ⟨w.heap.size, 2, none⟩ = some (.int .i64 ea) ∧ w'.cell? ⟨w.heap.size + 1, 0, none⟩ = some (.bool sb) ∧ w'.cell? ⟨w.heap.size + 1, 1, none⟩ = some (.slice ob lb cb) ∧ w'.cell? ⟨w.heap.size + 1, 2, none⟩ = some (.int .i64 eb)) := by
    intro X bX
    refine (rnat sb ob lb cb eb M zb kb lo X KB.out KB2.out (HBW.out.below bX.out)).mono ?_
    rintro e w' ⟨⟨s, o, l, c, rfl, hz⟩, hb⟩
    have bb := bX.out.trans (hb.mono bX.out.size)
    have Baq := Ba0.out.below bb Ba0.out.lt
    have Bbq := Bb0.out.below bb Bb0.out.lt
    exact ⟨⟨s, o, l, c, rfl, hz.lo (Nat.zero_le _) (Nat.le_refl _)⟩, hb, bb, Baq.cell 0, Baq.cell 1, Baq.cell 2, Bbq.cell 0, Bbq.cell 1, Bbq.cell 2⟩
  have C2 : Hid (∀ X s1 o1 l1 c1 s2 o2 l2 c2, Hid (Below W.heap.size W X) → Hid (RI X s1 o1 l1 c1 (zv sa (za.natAbs * 10 ^ ka)) 4001 0) → Hid (RI X s2 o2 l2 c2 (zv sb (zb.natAbs * 10 ^ kb)) 4001 0) → Calls Tryz.prog 75 #[.agg #[.bool s1, .slice o1 l1 c1], .agg #[.bool s2, .slice o2 l2 c2]] X fun e w' => (∃ s o l c, e = .returned (.agg #[.bool s, .slice o l c]) ∧ Hid (RI w' s o l c ((zv sa (za.natAbs * 10 ^ ka)) + (zv sb (zb.natAbs * 10 ^ kb))) 4003 W.heap.size)) ∧ Hid (Below W.heap.size W w') ∧ w'.cell? ⟨w.heap.size, 0, none⟩ = some (.bool sa) ∧ w'.cell? ⟨w.heap.size, 1, none⟩ = some (.slice oa la ca) ∧ w'.cell? ⟨w.heap.size, 2, none⟩ = some (.int .i64 ea) ∧ w'.cell? ⟨w.heap.size + 1, 0, none⟩ = some (.bool sb) ∧ w'.cell? ⟨w.heap.size + 1, 1, none⟩ = some (.slice ob lb cb) ∧ w'.cell? ⟨w.heap.size + 1, 2, none⟩ = some (.int .i64 eb)) := by
    intro X s1 o1 l1 c1 s2 o2 l2 c2 bX h1 h2
    refine (raddI s1 o1 l1 c1 s2 o2 l2 c2 _ _ X h1.out h2.out).mono ?_
    rintro e w' ⟨⟨s, o, l, c, rfl, hz⟩, hb⟩
    have bb := bX.out.trans (hb.mono bX.out.size)
    have Baq := Ba0.out.below bb Ba0.out.lt
    have Bbq := Bb0.out.below bb Bb0.out.lt
    exact ⟨⟨s, o, l, c, rfl, hz.lo bX.out.size (Nat.le_refl _)⟩, bb, Baq.cell 0, Baq.cell 1, Baq.cell 2, Bbq.cell 0, Bbq.cell 1, Bbq.cell 2⟩
  have b0 : Hid (Below W.heap.size W W.drew) := bdrewD W
  clear HAW HBW KA KB KA2 KB2
  go_wp2_with fail
  simp only [← HW.out, ← HM.out]
  simp only [← HG.out]
  have mk0 : True := trivial
  go_region_held3 (fun w' => w'.cell? ⟨w.heap.size, 0, none⟩ = some (.bool sa) ∧ w'.cell? ⟨w.heap.size, 1, none⟩ = some (.slice oa la ca) ∧ w'.cell? ⟨w.heap.size, 2, none⟩ = some (.int .i64 ea) ∧ w'.cell? ⟨w.heap.size + 1, 0, none⟩ = some (.bool sb) ∧ w'.cell? ⟨w.heap.size + 1, 1, none⟩ = some (.slice ob lb cb) ∧ w'.cell? ⟨w.heap.size + 1, 2, none⟩ = some (.int .i64 eb)) (go_keep) (first
    | (clear mk0; go_at_call 68; refine (C0.out _ b0).mono ?_; rintro e w1 ⟨⟨s1, o1, l1, c1, rfl, Z1⟩, R1, b1, q0_0, q0_1, q0_2, q0_3, q0_4, q0_5⟩; have mk1 : True := trivial)
    | (clear mk1; go_at_call 68; refine (C1.out _ b1).mono ?_; rintro e w2 ⟨⟨s2, o2, l2, c2, rfl, Z2⟩, R2, b2, q1_0, q1_1, q1_2, q1_3, q1_4, q1_5⟩; have Y1 := hide (Z1.out.below R2.out); clear Z1; have mk2 : True := trivial)
    | (clear mk2; go_at_call 75; refine (C2.out _ _ _ _ _ _ _ _ _ b2 Y1 Z2).mono ?_; rintro e w3 ⟨⟨s3, o3, l3, c3, rfl, Z3⟩, b3, q2_0, q2_1, q2_2, q2_3, q2_4, q2_5⟩; have Brq := hide (Br0.out.below b3.out Br0.out.lt); have fr0 := Brq.out.free 0; have fr1 := Brq.out.free 1; have fr2 := Brq.out.free 2; have gr0 : w3.cell? ⟨G, 0, none⟩ = some (.bool false) := Brq.out.cell 0; have gr1 : w3.cell? ⟨G, 1, none⟩ = some (.slice none 0 0) := Brq.out.cell 1; have gr2 : w3.cell? ⟨G, 2, none⟩ = some (.int .i64 0) := Brq.out.cell 2; have mk3 : True := trivial))
  have HBq := hide (HB0.out.trans (b3.out.mono HB0.out.size))
  go_wp2
  refine bodyPost_ret (results_num rfl _ _ _ _ _ _ rfl (Brq.out.put3 _ _ _)) rfl ?_
  exact ⟨⟨_, _, _, _, rfl, ((Z3.out.set HLT.out _).set HLT.out _).set HLT.out _ |>.lo (Nat.zero_le _) (Nat.le_refl _)⟩, ((HBq.out.setCell gle _).setCell gle _).setCell gle _⟩

end Go.Proofs.YtafljhfamjabeaaGreatDoor

namespace Go.Proofs.YtafljhfamjabeaaGreatDoor
open Go.RowKit

theorem Blk.four {w : World} {b : Nat} {x0 x1 x2 x3 : Value} {t : TypeId} (h : Blk w b #[x0, x1, x2, x3] t) : w.cell? ⟨b, 0, none⟩ = some x0 ∧ w.cell? ⟨b, 1, none⟩ = some x1 ∧ w.cell? ⟨b, 2, none⟩ = some x2 ∧ w.cell? ⟨b, 3, none⟩ = some x3 := ⟨h.cell 0, h.cell 1, h.cell 2, h.cell 3⟩
theorem Blk.two {w : World} {b : Nat} {x0 x1 : Value} {t : TypeId} (h : Blk w b #[x0, x1] t) : w.cell? ⟨b, 0, none⟩ = some x0 ∧ w.cell? ⟨b, 1, none⟩ = some x1 := ⟨h.cell 0, h.cell 1⟩
theorem Blk.on {w w' : World} {b : Nat} {cs : Array Value} {t : TypeId} (h : Hid (Blk w b cs t)) (hb : Below w.heap.size w w') : Hid (Blk w' b cs t) := h.out.below hb h.out.lt
theorem Blk.up {w : World} {b : Nat} {cs : Array Value} {t : TypeId} (h : Hid (Blk w b cs t)) (o : Obj) : Hid (Blk (w.alloc o) b cs t) := h.out.alloc o

end Go.Proofs.YtafljhfamjabeaaGreatDoor

namespace Go.Proofs.YtafljhfamjabeaaGreatDoor
open Go.RowKit

/-- A whole number of the reference, in blocks from lo on and below hi. -/
def RJ (W : World) (s : Bool) (o : Option Addr) (l c : Nat) (z : Int) (m lo hi : Nat) : Prop := ∃ r : List Nat, r.length = l ∧ l ≤ c ∧ l ≤ m ∧ s = decide (z < 0) ∧ Res .u32 W o r lo hi ∧ Is 65536 r z.natAbs

theorem RJ.below {W W' : World} {s : Bool} {o : Option Addr} {l c m lo hi : Nat} {z : Int} (h : RJ W s o l c z m lo hi) (hb : Below W.heap.size W W') : RJ W' s o l c z m lo hi := by
  obtain ⟨r, h1, h2, h3, h4, h5, h6⟩ := h
  exact ⟨r, h1, h2, h3, h4, h5.below hb, h6⟩
theorem RJ.set {W : World} {s : Bool} {o : Option Addr} {l c m lo hi H i : Nat} {z : Int} (h : RJ W s o l c z m lo hi) (hH : H < lo ∨ hi ≤ H) (v : Value) : RJ (W.setCell ⟨H, i, none⟩ v) s o l c z m lo hi := by
  obtain ⟨r, h1, h2, h3, h4, h5, h6⟩ := h
  exact ⟨r, h1, h2, h3, h4, h5.set hH v, h6⟩
theorem RJ.al {W : World} {s : Bool} {o : Option Addr} {l c m lo hi : Nat} {z : Int} (h : RJ W s o l c z m lo hi) (ob : Obj) : RJ (W.alloc ob) s o l c z m lo hi := h.below ((Below.refl _ _).alloc (Nat.le_refl _) _)
theorem RJ.ri {W : World} {s : Bool} {o : Option Addr} {l c m lo hi : Nat} {z : Int} (h : RJ W s o l c z m lo hi) (hh : hi ≤ W.heap.size) : RI W s o l c z m 0 := by
  obtain ⟨r, h1, h2, h3, h4, h5, h6⟩ := h
  exact ⟨r, h1, h2, h3, h4, h5.mono (Nat.zero_le _) hh, h6⟩
theorem RI.rj {W : World} {s : Bool} {o : Option Addr} {l c m lo lo' : Nat} {z : Int} (h : RI W s o l c z m lo) (hl : lo' ≤ lo) : RJ W s o l c z m lo' W.heap.size := by
  obtain ⟨r, h1, h2, h3, h4, h5, h6⟩ := h
  exact ⟨r, h1, h2, h3, h4, h5.mono hl (Nat.le_refl _), h6⟩

structure CutN (W : World) (z1 e1 z2 e2 : Int) (v u : Value) (W' : World) : Prop where
  ex : ∃ (H K : Nat) (s1 : Bool) (o1 : Option Addr) (l1 c1 : Nat) (s2 : Bool) (o2 : Option Addr) (l2 c2 : Nat), v = .pointer (some ⟨H, 0, none⟩) ∧ u = .pointer (some ⟨K, 0, none⟩) ∧
    Blk W' H #[.bool s1, .slice o1 l1 c1, .int .i64 e1] 60 ∧ Blk W' K #[.bool s2, .slice o2 l2 c2, .int .i64 e2] 60 ∧ W.heap.size ≤ H ∧ W.heap.size ≤ K ∧ RI W' s1 o1 l1 c1 z1 1002 0 ∧ RI W' s2 o2 l2 c2 z2 1002 0 ∧ Below W.heap.size W W'

section
variable {W V : World} {H K : Nat} {z1 e1 z2 e2 : Int} {s1 s2 : Bool} {o1 o2 : Option Addr} {l1 c1 l2 c2 lo1 hi1 lo2 hi2 : Nat} {a b c a' b' c' : Value}

theorem cutn_oo (hb : Below W.heap.size W V) (p1 : Blk V H #[a, b, c] 60) (p2 : Blk V K #[a', b', c'] 60) (hH : W.heap.size ≤ H) (hK : W.heap.size ≤ K) (hne : H ≠ K) (f1 : RJ V s1 o1 l1 c1 z1 1002 lo1 hi1) (f2 : RJ V s2 o2 l2 c2 z2 1002 lo2 hi2)
    (x1 : H < lo1 ∨ hi1 ≤ H) (x2 : K < lo1 ∨ hi1 ≤ K) (x3 : H < lo2 ∨ hi2 ≤ H) (x4 : K < lo2 ∨ hi2 ≤ K) (g1 : hi1 ≤ V.heap.size) (g2 : hi2 ≤ V.heap.size) :
    CutN W z1 e1 z2 e2 (.pointer (some ⟨H, 0, none⟩)) (.pointer (some ⟨K, 0, none⟩)) ((((((V.setCell ⟨H, 0, none⟩ (.bool s1)).setCell ⟨H, 1, none⟩ (.slice o1 l1 c1)).setCell ⟨H, 2, none⟩ (.int .i64 e1)).setCell ⟨K, 0, none⟩ (.bool s2)).setCell ⟨K, 1, none⟩ (.slice o2 l2 c2)).setCell ⟨K, 2, none⟩ (.int .i64 e2)) := by
  refine ⟨H, K, s1, o1, l1, c1, s2, o2, l2, c2, rfl, rfl, ?_, ?_, hH, hK, ?_, ?_, ?_⟩
  · exact (((p1.put3 _ _ _).other (by exact hne.symm) _).other (by exact hne.symm) _).other (by exact hne.symm) _
  · exact (((p2.other (by exact hne) _).other (by exact hne) _).other (by exact hne) _).put3 _ _ _
  · exact RJ.ri ((((((f1.set x1 _).set x1 _).set x1 _).set x2 _).set x2 _).set x2 _) (by simpa [World.setCell] using g1)
  · exact RJ.ri ((((((f2.set x3 _).set x3 _).set x3 _).set x4 _).set x4 _).set x4 _) (by simpa [World.setCell] using g2)
  · exact (((((hb.setCell hH _).setCell hH _).setCell hH _).setCell hK _).setCell hK _).setCell hK _

theorem cutn_on (hb : Below W.heap.size W V) (p1 : Blk V H #[a, b, c] 60) (hH : W.heap.size ≤ H) (f1 : RJ V s1 o1 l1 c1 z1 1002 lo1 hi1) (f2 : RJ V s2 o2 l2 c2 z2 1002 lo2 hi2)
    (x1 : H < lo1 ∨ hi1 ≤ H) (x3 : H < lo2 ∨ hi2 ≤ H) (g1 : hi1 ≤ V.heap.size) (g2 : hi2 ≤ V.heap.size) :
    CutN W z1 e1 z2 e2 (.pointer (some ⟨H, 0, none⟩)) (.pointer (some ⟨V.heap.size, 0, none⟩)) ((((V.setCell ⟨H, 0, none⟩ (.bool s1)).setCell ⟨H, 1, none⟩ (.slice o1 l1 c1)).setCell ⟨H, 2, none⟩ (.int .i64 e1)).alloc (.cells #[.bool s2, .slice o2 l2 c2, .int .i64 e2] 60)) := by
  have hb' := ((hb.setCell (show W.heap.size ≤ (⟨H, 0, none⟩ : Addr).block from hH) (.bool s1)).setCell (show W.heap.size ≤ (⟨H, 1, none⟩ : Addr).block from hH) (.slice o1 l1 c1)).setCell (show W.heap.size ≤ (⟨H, 2, none⟩ : Addr).block from hH) (.int .i64 e1)
  refine ⟨H, V.heap.size, s1, o1, l1, c1, s2, o2, l2, c2, rfl, rfl, (p1.put3 _ _ _).alloc _, Blk.newAt _ _ (by simp [World.setCell]) _ _, hH, hb.size, ?_, ?_, hb'.alloc hb'.size _⟩
  · exact RJ.ri ((((f1.set x1 _).set x1 _).set x1 _).al _) (by simp [World.setCell]; omega)
  · exact RJ.ri ((((f2.set x3 _).set x3 _).set x3 _).al _) (by simp [World.setCell]; omega)

theorem cutn_no (hb : Below W.heap.size W V) (p1 : Blk V K #[a, b, c] 60) (hH : W.heap.size ≤ K) (f1 : RJ V s1 o1 l1 c1 z1 1002 lo1 hi1) (f2 : RJ V s2 o2 l2 c2 z2 1002 lo2 hi2)
    (x1 : K < lo1 ∨ hi1 ≤ K) (x3 : K < lo2 ∨ hi2 ≤ K) (g1 : hi1 ≤ V.heap.size) (g2 : hi2 ≤ V.heap.size) :
    CutN W z1 e1 z2 e2 (.pointer (some ⟨V.heap.size, 0, none⟩)) (.pointer (some ⟨K, 0, none⟩)) ((((V.setCell ⟨K, 0, none⟩ (.bool s2)).setCell ⟨K, 1, none⟩ (.slice o2 l2 c2)).setCell ⟨K, 2, none⟩ (.int .i64 e2)).alloc (.cells #[.bool s1, .slice o1 l1 c1, .int .i64 e1] 60)) := by
  obtain ⟨⟨H', K', _, _, _, _, _, _, _, _, h1, h2, h3, h4, h5, h6, h7, h8, h9⟩⟩ := cutn_on (e1 := e2) (e2 := e1) hb p1 hH f2 f1 x3 x1 g2 g1
  cases h1; cases h2
  exact ⟨V.heap.size, K, s1, o1, l1, c1, s2, o2, l2, c2, rfl, rfl, Blk.newAt _ _ (by simp [World.setCell]) _ _, (p1.put3 _ _ _).alloc _, h6, h5, RJ.ri ((((f1.set x1 _).set x1 _).set x1 _).al _) (by simp [World.setCell]; omega), RJ.ri ((((f2.set x3 _).set x3 _).set x3 _).al _) (by simp [World.setCell]; omega), h9⟩

theorem cutn_nn (hb : Below W.heap.size W V) (f1 : RJ V s1 o1 l1 c1 z1 1002 lo1 hi1) (f2 : RJ V s2 o2 l2 c2 z2 1002 lo2 hi2) (g1 : hi1 ≤ V.heap.size) (g2 : hi2 ≤ V.heap.size) :
    CutN W z1 e1 z2 e2 (.pointer (some ⟨V.heap.size, 0, none⟩)) (.pointer (some ⟨V.heap.size + 1, 0, none⟩)) ((V.alloc (.cells #[.bool s1, .slice o1 l1 c1, .int .i64 e1] 60)).alloc (.cells #[.bool s2, .slice o2 l2 c2, .int .i64 e2] 60)) := by
  have hb1 := hb.alloc hb.size (.cells #[.bool s1, .slice o1 l1 c1, .int .i64 e1] 60)
  exact ⟨V.heap.size, V.heap.size + 1, s1, o1, l1, c1, s2, o2, l2, c2, rfl, rfl, (Blk.new _ _ _).alloc _, Blk.newAt _ _ (by simp) _ _, hb.size, Nat.le_succ_of_le hb.size, RJ.ri ((f1.al _).al _) (by simp; omega), RJ.ri ((f2.al _).al _) (by simp; omega), hb1.alloc hb1.size _⟩

theorem cutn_mm (hb : Below W.heap.size W V) (f1 : RJ V s1 o1 l1 c1 z1 1002 lo1 hi1) (f2 : RJ V s2 o2 l2 c2 z2 1002 lo2 hi2) (g1 : hi1 ≤ V.heap.size) (g2 : hi2 ≤ V.heap.size) :
    CutN W z1 e1 z2 e2 (.pointer (some ⟨V.heap.size + 1, 0, none⟩)) (.pointer (some ⟨V.heap.size, 0, none⟩)) ((V.alloc (.cells #[.bool s2, .slice o2 l2 c2, .int .i64 e2] 60)).alloc (.cells #[.bool s1, .slice o1 l1 c1, .int .i64 e1] 60)) := by
  have hb1 := hb.alloc hb.size (.cells #[.bool s2, .slice o2 l2 c2, .int .i64 e2] 60)
  exact ⟨V.heap.size + 1, V.heap.size, s1, o1, l1, c1, s2, o2, l2, c2, rfl, rfl, Blk.newAt _ _ (by simp) _ _, (Blk.new _ _ _).alloc _, Nat.le_succ_of_le hb.size, hb.size, RJ.ri ((f1.al _).al _) (by simp; omega), RJ.ri ((f2.al _).al _) (by simp; omega), hb1.alloc hb1.size _⟩
end

end Go.Proofs.YtafljhfamjabeaaGreatDoor

namespace Go.Proofs.YtafljhfamjabeaaGreatDoor
open Go.RowKit

set_option maxRecDepth 100000 in
set_option maxHeartbeats 8000000 in
theorem rmul_fin (na nb : Bool) (ta : ByteArray) (tb : ByteArray) (ea eb : Int) (w : World) (ma : ∀ W, Calls Tryz.prog 15 #[.agg #[.int .i64 0, .bool na, .string ta, .int .i64 ea]] W fun e w' => e = .returned (.bool true) ∧ Below W.heap.size W w') (mb : ∀ W, Calls Tryz.prog 15 #[.agg #[.int .i64 0, .bool nb, .string tb, .int .i64 eb]] W fun e w' => e = .returned (.bool true) ∧ Below W.heap.size W w') (ha1 : (ta : ByteArray).size ≤ 1000) (hb1 : (tb : ByteArray).size ≤ 1000) (da : DigB (bys ta)) (db : DigB (bys tb)) (hE : -5000 ≤ ea ∧ ea ≤ 5000 ∧ -5000 ≤ eb ∧ eb ≤ 5000) (hsz : sizeN ((zv na (decV (bys ta))) * (zv nb (decV (bys tb)))).natAbs ≤ 20000) : Calls Tryz.prog 31 #[.agg #[.int .i64 0, .bool na, .string ta, .int .i64 ea], .agg #[.int .i64 0, .bool nb, .string tb, .int .i64 eb]] w fun e w' => e = .returned (decErr (tellF (if (zv na (decV (bys ta))) * (zv nb (decV (bys tb))) = 0 then (!(na == nb)) else decide ((zv na (decV (bys ta))) * (zv nb (decV (bys tb))) < 0)) ((zv na (decV (bys ta))) * (zv nb (decV (bys tb)))).natAbs (ea + eb))) ∧ Below w.heap.size w w' := by
  have MA := hide ma
  have MB := hide mb
  have DA := hide da
  have DB := hide db
  have HA := hide ha1
  have HB := hide hb1
  have HSZ := hide hsz
  have HE := hide hE
  have hw : IntKind.i64.wrap (ea + eb) = ea + eb := by rw [IntKind.wrap_i64]; omega
  obtain ⟨z, hz⟩ : ∃ z, z = zv na (decV (bys ta)) * zv nb (decV (bys tb)) := ⟨_, rfl⟩
  rw [← hz] at HSZ ⊢
  have HZ := hide hz
  rcases hTF : tellF (if z = 0 then (!(na == nb)) else decide (z < 0)) z.natAbs (ea + eb) with ⟨⟨cc, nn, ll, ee⟩, er⟩
  obtain ⟨D, hD⟩ : ∃ D : ByteArray, D = ⟨ll.toArray⟩ := ⟨_, rfl⟩
  have HTF := hide hTF
  have EQ : Hid (Ending.returned (.tuple #[.agg #[.int .i64 (cc : Int), .bool nn, .string D, .int .i64 ee], .int .i64 er]) = Ending.returned (decErr (⟨cc, nn, ll, ee⟩, er))) := by show _ = _; rw [hD]; rfl
  clear ma mb da db ha1 hb1 hsz hE hz hTF hD
  have Ba0 := hide (((Blk.newAt w (w.heap.size) (rfl) #[.int .i64 0, .bool na, .string ta, .int .i64 ea] 23).alloc (.cells #[.int .i64 0, .bool nb, .string tb, .int .i64 eb] 23)).alloc (.cells #[.int .i64 0, .bool false, .string ⟨#[]⟩, .int .i64 0] 23))
  have Bb0 := hide ((Blk.newAt (w.alloc (.cells #[.int .i64 0, .bool na, .string ta, .int .i64 ea] 23)) (w.heap.size + 1) (by simp) #[.int .i64 0, .bool nb, .string tb, .int .i64 eb] 23).alloc (.cells #[.int .i64 0, .bool false, .string ⟨#[]⟩, .int .i64 0] 23))
  have Br0 := hide (Blk.newAt ((w.alloc (.cells #[.int .i64 0, .bool na, .string ta, .int .i64 ea] 23)).alloc (.cells #[.int .i64 0, .bool nb, .string tb, .int .i64 eb] 23)) (w.heap.size + 1 + 1) (by simp) #[.int .i64 0, .bool false, .string ⟨#[]⟩, .int .i64 0] 23)
  have HB0 : Hid (Below w.heap.size w (((w.alloc (.cells #[.int .i64 0, .bool na, .string ta, .int .i64 ea] 23)).alloc (.cells #[.int .i64 0, .bool nb, .string tb, .int .i64 eb] 23)).alloc (.cells #[.int .i64 0, .bool false, .string ⟨#[]⟩, .int .i64 0] 23))) := ((((Below.refl _ _).alloc (Nat.le_refl _) _).alloc (by simp <;> omega) _).alloc (by simp <;> omega) _)
  go_enter Tryz.func31, Tryz.ntmps31
  go_wp2_with fail
  all_goals (
    skip
    refine (MA.out _).mono ?_
    rintro e w1 ⟨rfl, hb⟩
    have Ba1 := Blk.on Ba0 hb
    have Bb1 := Blk.on Bb0 hb
    have Br1 := Blk.on Br0 hb
    have HB1 := hide (HB0.out.trans (hb.mono HB0.out.size))
    clear hb Ba0 Bb0 Br0 HB0 
    obtain ⟨ya0, ya1, ya2, ya3⟩ := Ba1.out.four
    obtain ⟨yb0, yb1, yb2, yb3⟩ := Bb1.out.four
    obtain ⟨yr0, yr1, yr2, yr3⟩ := Br1.out.four
    go_wp2_with fail
    refine (MB.out _).mono ?_
    rintro e w2 ⟨rfl, hb⟩
    have Ba2 := Blk.on Ba1 hb
    have Bb2 := Blk.on Bb1 hb
    have Br2 := Blk.on Br1 hb
    have HB2 := hide (HB1.out.trans (hb.mono HB1.out.size))
    clear hb Ba1 Bb1 Br1 HB1 ya0 ya1 ya2 ya3 yb0 yb1 yb2 yb3 yr0 yr1 yr2 yr3
    obtain ⟨ya0, ya1, ya2, ya3⟩ := Ba2.out.four
    obtain ⟨yb0, yb1, yb2, yb3⟩ := Bb2.out.four
    obtain ⟨yr0, yr1, yr2, yr3⟩ := Br2.out.four
    obtain ⟨W2, hW2⟩ : ∃ x, x = w2 := ⟨_, rfl⟩
    subst hW2
    have HL : Hid (w.heap.size < W2.heap.size ∧ w.heap.size + 1 < W2.heap.size) := ⟨Ba2.out.lt, Bb2.out.lt⟩
    go_wp2_with fail
    go_cut [8, 9] (fun vp vq wx => CutN W2 (zv na (decV (bys ta))) ea (zv nb (decV (bys tb))) eb vp vq wx)
    case first =>
      have C0 : Hid (∀ X, Hid (Below W2.heap.size W2 X) → Calls Tryz.prog 45 #[.agg #[.int .i64 0, .bool na, .string ta, .int .i64 ea]] X fun e w' => (∃ s o l c, e = .returned (.agg #[.bool s, .slice o l c, .int .i64 ea]) ∧ Hid (RJ w' s o l c (zv na (decV (bys ta))) 1002 X.heap.size w'.heap.size)) ∧ Hid (Below X.heap.size X w') ∧ Hid (Below W2.heap.size W2 w') ∧ w'.cell? ⟨w.heap.size, 0, none⟩ = some (.int .i64 0) ∧ w'.cell? ⟨w.heap.size, 1, none⟩ = some (.bool na) ∧ w'.cell? ⟨w.heap.size, 2, none⟩ = some (.string ta) ∧ w'.cell? ⟨w.heap.size, 3, none⟩ = some (.int .i64 ea) ∧ w'.cell? ⟨w.heap.size + 1, 0, none⟩ = some (.int .i64 0) ∧ w'.cell? ⟨w.heap.size + 1, 1, none⟩ = some (.bool nb) ∧ w'.cell? ⟨w.heap.size + 1, 2, none⟩ = some (.string tb) ∧ w'.cell? ⟨w.heap.size + 1, 3, none⟩ = some (.int .i64 eb)) := by
        intro X bX
        refine (rnof 0 na ta ea X HA.out DA.out).mono ?_
        rintro e w' ⟨⟨s, o, l, c, rfl, hz⟩, hb⟩
        have bb := bX.out.trans (hb.mono bX.out.size)
        have Baq := Ba2.out.below bb Ba2.out.lt
        have Bbq := Bb2.out.below bb Bb2.out.lt
        exact ⟨⟨s, o, l, c, rfl, hz.rj (Nat.le_succ _)⟩, hb, bb, Baq.cell 0, Baq.cell 1, Baq.cell 2, Baq.cell 3, Bbq.cell 0, Bbq.cell 1, Bbq.cell 2, Bbq.cell 3⟩
      have C1 : Hid (∀ X, Hid (Below W2.heap.size W2 X) → Calls Tryz.prog 45 #[.agg #[.int .i64 0, .bool nb, .string tb, .int .i64 eb]] X fun e w' => (∃ s o l c, e = .returned (.agg #[.bool s, .slice o l c, .int .i64 eb]) ∧ Hid (RJ w' s o l c (zv nb (decV (bys tb))) 1002 X.heap.size w'.heap.size)) ∧ Hid (Below X.heap.size X w') ∧ Hid (Below W2.heap.size W2 w') ∧ w'.cell? ⟨w.heap.size, 0, none⟩ = some (.int .i64 0) ∧ w'.cell? ⟨w.heap.size, 1, none⟩ = some (.bool na) ∧ w'.cell? ⟨w.heap.size, 2, none⟩ = some (.string ta) ∧ w'.cell? ⟨w.heap.size, 3, none⟩ = some (.int .i64 ea) ∧ w'.cell? ⟨w.heap.size + 1, 0, none⟩ = some (.int .i64 0) ∧ w'.cell? ⟨w.heap.size + 1, 1, none⟩ = some (.bool nb) ∧ w'.cell? ⟨w.heap.size + 1, 2, none⟩ = some (.string tb) ∧ w'.cell? ⟨w.heap.size + 1, 3, none⟩ = some (.int .i64 eb)) := by
        intro X bX
        refine (rnof 0 nb tb eb X HB.out DB.out).mono ?_
        rintro e w' ⟨⟨s, o, l, c, rfl, hz⟩, hb⟩
        have bb := bX.out.trans (hb.mono bX.out.size)
        have Baq := Ba2.out.below bb Ba2.out.lt
        have Bbq := Bb2.out.below bb Bb2.out.lt
        exact ⟨⟨s, o, l, c, rfl, hz.rj (Nat.le_succ _)⟩, hb, bb, Baq.cell 0, Baq.cell 1, Baq.cell 2, Baq.cell 3, Bbq.cell 0, Bbq.cell 1, Bbq.cell 2, Bbq.cell 3⟩
      have b0 : Hid (Below W2.heap.size W2 W2.drew) := bdrewD W2
      have naW20 : ¬ w.heap.size = W2.heap.size := (by have := HL.out; omega)
      have maW20 : ¬ W2.heap.size = w.heap.size := (by have := HL.out; omega)
      have nbW20 : ¬ w.heap.size + 1 = W2.heap.size := (by have := HL.out; omega)
      have mbW20 : ¬ W2.heap.size = w.heap.size + 1 := (by have := HL.out; omega)
      have naW21 : ¬ w.heap.size = W2.heap.size + 1 := (by have := HL.out; omega)
      have maW21 : ¬ W2.heap.size + 1 = w.heap.size := (by have := HL.out; omega)
      have nbW21 : ¬ w.heap.size + 1 = W2.heap.size + 1 := (by have := HL.out; omega)
      have mbW21 : ¬ W2.heap.size + 1 = w.heap.size + 1 := (by have := HL.out; omega)
      clear DA DB HA HB HSZ HE HZ HTF EQ MA MB
      have mk0 : True := trivial
      go_region_held3 (fun w' => w'.cell? ⟨w.heap.size, 0, none⟩ = some (.int .i64 0) ∧ w'.cell? ⟨w.heap.size, 1, none⟩ = some (.bool na) ∧ w'.cell? ⟨w.heap.size, 2, none⟩ = some (.string ta) ∧ w'.cell? ⟨w.heap.size, 3, none⟩ = some (.int .i64 ea) ∧ w'.cell? ⟨w.heap.size + 1, 0, none⟩ = some (.int .i64 0) ∧ w'.cell? ⟨w.heap.size + 1, 1, none⟩ = some (.bool nb) ∧ w'.cell? ⟨w.heap.size + 1, 2, none⟩ = some (.string tb) ∧ w'.cell? ⟨w.heap.size + 1, 3, none⟩ = some (.int .i64 eb)) (go_keep) (first
          | (clear mk0; go_at_call 45; refine (C0.out _ b0).mono ?_; rintro e v1 ⟨⟨s1, o1, l1, c1, rfl, Z1⟩, R1, b1, q0_0, q0_1, q0_2, q0_3, q0_4, q0_5, q0_6, q0_7⟩; have sz1 : Hid (W2.heap.size + 0 ≤ v1.heap.size) := (by have h := R1.out.size; simpa [Hid] using h); have nav10 : ¬ w.heap.size = v1.heap.size := (by have := HL.out; have := b1.out.size; omega); have mav10 : ¬ v1.heap.size = w.heap.size := (by have := HL.out; have := b1.out.size; omega); have nbv10 : ¬ w.heap.size + 1 = v1.heap.size := (by have := HL.out; have := b1.out.size; omega); have mbv10 : ¬ v1.heap.size = w.heap.size + 1 := (by have := HL.out; have := b1.out.size; omega); have nav11 : ¬ w.heap.size = v1.heap.size + 1 := (by have := HL.out; have := b1.out.size; omega); have mav11 : ¬ v1.heap.size + 1 = w.heap.size := (by have := HL.out; have := b1.out.size; omega); have nbv11 : ¬ w.heap.size + 1 = v1.heap.size + 1 := (by have := HL.out; have := b1.out.size; omega); have mbv11 : ¬ v1.heap.size + 1 = w.heap.size + 1 := (by have := HL.out; have := b1.out.size; omega); have ck0 : True := trivial)
          | (clear mk0; go_at_call 45; refine (C0.out _ (bal b0 (Obj.cells #[Value.bool false, Value.slice none 0 0, Value.int .i64 0] 60))).mono ?_; rintro e v1 ⟨⟨s1, o1, l1, c1, rfl, Z1⟩, R1, b1, q0_0, q0_1, q0_2, q0_3, q0_4, q0_5, q0_6, q0_7⟩; have g0 := (Blk.newAt W2.drew (W2.heap.size) (by simp) #[.bool false, .slice none 0 0, .int .i64 0] 60); have Q0 := g0.below R1.out g0.lt; clear g0; have Q0c0 : v1.cell? ⟨W2.heap.size, 0, none⟩ = some (.bool false) := Q0.cell 0; have Q0c1 : v1.cell? ⟨W2.heap.size, 1, none⟩ = some (.slice none 0 0) := Q0.cell 1; have Q0c2 : v1.cell? ⟨W2.heap.size, 2, none⟩ = some (.int .i64 0) := Q0.cell 2; have Q0f0 := Q0.free 0; have Q0f1 := Q0.free 1; have Q0f2 := Q0.free 2; have lq0 : W2.heap.size < v1.heap.size := Q0.lt; have HQ0 := hide Q0; clear Q0; have sz1 : Hid (W2.heap.size + 1 ≤ v1.heap.size) := (by have h := R1.out.size; simpa [Hid] using h); have nav10 : ¬ w.heap.size = v1.heap.size := (by have := HL.out; have := b1.out.size; omega); have mav10 : ¬ v1.heap.size = w.heap.size := (by have := HL.out; have := b1.out.size; omega); have nbv10 : ¬ w.heap.size + 1 = v1.heap.size := (by have := HL.out; have := b1.out.size; omega); have mbv10 : ¬ v1.heap.size = w.heap.size + 1 := (by have := HL.out; have := b1.out.size; omega); have ck1 : True := trivial)
          | (clear mk0; go_at_call 45; refine (C0.out _ (bal (bal b0 (Obj.cells #[Value.bool false, Value.slice none 0 0, Value.int .i64 0] 60)) (Obj.cells #[Value.bool false, Value.slice none 0 0, Value.int .i64 0] 60))).mono ?_; rintro e v1 ⟨⟨s1, o1, l1, c1, rfl, Z1⟩, R1, b1, q0_0, q0_1, q0_2, q0_3, q0_4, q0_5, q0_6, q0_7⟩; have g0 := ((Blk.newAt W2.drew (W2.heap.size) (by simp) #[.bool false, .slice none 0 0, .int .i64 0] 60).alloc (Obj.cells #[Value.bool false, Value.slice none 0 0, Value.int .i64 0] 60)); have Q0 := g0.below R1.out g0.lt; clear g0; have Q0c0 : v1.cell? ⟨W2.heap.size, 0, none⟩ = some (.bool false) := Q0.cell 0; have Q0c1 : v1.cell? ⟨W2.heap.size, 1, none⟩ = some (.slice none 0 0) := Q0.cell 1; have Q0c2 : v1.cell? ⟨W2.heap.size, 2, none⟩ = some (.int .i64 0) := Q0.cell 2; have Q0f0 := Q0.free 0; have Q0f1 := Q0.free 1; have Q0f2 := Q0.free 2; have lq0 : W2.heap.size < v1.heap.size := Q0.lt; have HQ0 := hide Q0; clear Q0; have g1 := (Blk.newAt (W2.drew.alloc (Obj.cells #[Value.bool false, Value.slice none 0 0, Value.int .i64 0] 60)) (W2.heap.size + 1) (by simp) #[.bool false, .slice none 0 0, .int .i64 0] 60); have Q1 := g1.below R1.out g1.lt; clear g1; have Q1c0 : v1.cell? ⟨W2.heap.size + 1, 0, none⟩ = some (.bool false) := Q1.cell 0; have Q1c1 : v1.cell? ⟨W2.heap.size + 1, 1, none⟩ = some (.slice none 0 0) := Q1.cell 1; have Q1c2 : v1.cell? ⟨W2.heap.size + 1, 2, none⟩ = some (.int .i64 0) := Q1.cell 2; have Q1f0 := Q1.free 0; have Q1f1 := Q1.free 1; have Q1f2 := Q1.free 2; have lq1 : W2.heap.size + 1 < v1.heap.size := Q1.lt; have HQ1 := hide Q1; clear Q1; have sz1 : Hid (W2.heap.size + 2 ≤ v1.heap.size) := (by have h := R1.out.size; simpa [Hid] using h); have ck2 : True := trivial)
          | (clear ck0; go_at_call 45; refine (C1.out _ b1).mono ?_; rintro e v2 ⟨⟨s2, o2, l2, c2, rfl, Z2⟩, R2, b2, q1_0, q1_1, q1_2, q1_3, q1_4, q1_5, q1_6, q1_7⟩; have Y1 := hide (Z1.out.below R2.out); clear Z1; have sz2 : Hid (v1.heap.size + 0 ≤ v2.heap.size) := (by have h := R2.out.size; simpa [Hid] using h); have lo1 : Hid ((W2.drew).heap.size = W2.heap.size + 0) := (by simp [Hid]); have lo2 : Hid ((v1).heap.size = v1.heap.size + 0) := (by simp [Hid]); have nav20 : ¬ w.heap.size = v2.heap.size := (by have := HL.out; have := b2.out.size; omega); have mav20 : ¬ v2.heap.size = w.heap.size := (by have := HL.out; have := b2.out.size; omega); have nbv20 : ¬ w.heap.size + 1 = v2.heap.size := (by have := HL.out; have := b2.out.size; omega); have mbv20 : ¬ v2.heap.size = w.heap.size + 1 := (by have := HL.out; have := b2.out.size; omega); have nav21 : ¬ w.heap.size = v2.heap.size + 1 := (by have := HL.out; have := b2.out.size; omega); have mav21 : ¬ v2.heap.size + 1 = w.heap.size := (by have := HL.out; have := b2.out.size; omega); have nbv21 : ¬ w.heap.size + 1 = v2.heap.size + 1 := (by have := HL.out; have := b2.out.size; omega); have mbv21 : ¬ v2.heap.size + 1 = w.heap.size + 1 := (by have := HL.out; have := b2.out.size; omega); have dk00 : True := trivial)
          | (clear ck0; go_at_call 45; refine (C1.out _ (bal b1 (Obj.cells #[Value.bool false, Value.slice none 0 0, Value.int .i64 0] 60))).mono ?_; rintro e v2 ⟨⟨s2, o2, l2, c2, rfl, Z2⟩, R2, b2, q1_0, q1_1, q1_2, q1_3, q1_4, q1_5, q1_6, q1_7⟩; have Y1 := hide ((Z1.out.al (Obj.cells #[Value.bool false, Value.slice none 0 0, Value.int .i64 0] 60)).below R2.out); clear Z1; have g0 := (Blk.newAt v1 (v1.heap.size) (by simp) #[.bool false, .slice none 0 0, .int .i64 0] 60); have P0 := g0.below R2.out g0.lt; clear g0; have P0c0 : v2.cell? ⟨v1.heap.size, 0, none⟩ = some (.bool false) := P0.cell 0; have P0c1 : v2.cell? ⟨v1.heap.size, 1, none⟩ = some (.slice none 0 0) := P0.cell 1; have P0c2 : v2.cell? ⟨v1.heap.size, 2, none⟩ = some (.int .i64 0) := P0.cell 2; have P0f0 := P0.free 0; have P0f1 := P0.free 1; have P0f2 := P0.free 2; have lp0 : v1.heap.size < v2.heap.size := P0.lt; have HP0 := hide P0; clear P0; have sz2 : Hid (v1.heap.size + 1 ≤ v2.heap.size) := (by have h := R2.out.size; simpa [Hid] using h); have lo1 : Hid ((W2.drew).heap.size = W2.heap.size + 0) := (by simp [Hid]); have lo2 : Hid (((v1.alloc (Obj.cells #[Value.bool false, Value.slice none 0 0, Value.int .i64 0] 60))).heap.size = v1.heap.size + 1) := (by simp [Hid]); have nav20 : ¬ w.heap.size = v2.heap.size := (by have := HL.out; have := b2.out.size; omega); have mav20 : ¬ v2.heap.size = w.heap.size := (by have := HL.out; have := b2.out.size; omega); have nbv20 : ¬ w.heap.size + 1 = v2.heap.size := (by have := HL.out; have := b2.out.size; omega); have mbv20 : ¬ v2.heap.size = w.heap.size + 1 := (by have := HL.out; have := b2.out.size; omega); have dk01 : True := trivial)
          | (clear ck0; go_at_call 45; refine (C1.out _ (bal (bal b1 (Obj.cells #[Value.bool false, Value.slice none 0 0, Value.int .i64 0] 60)) (Obj.cells #[Value.bool false, Value.slice none 0 0, Value.int .i64 0] 60))).mono ?_; rintro e v2 ⟨⟨s2, o2, l2, c2, rfl, Z2⟩, R2, b2, q1_0, q1_1, q1_2, q1_3, q1_4, q1_5, q1_6, q1_7⟩; have Y1 := hide (((Z1.out.al (Obj.cells #[Value.bool false, Value.slice none 0 0, Value.int .i64 0] 60)).al (Obj.cells #[Value.bool false, Value.slice none 0 0, Value.int .i64 0] 60)).below R2.out); clear Z1; have g0 := ((Blk.newAt v1 (v1.heap.size) (by simp) #[.bool false, .slice none 0 0, .int .i64 0] 60).alloc (Obj.cells #[Value.bool false, Value.slice none 0 0, Value.int .i64 0] 60)); have P0 := g0.below R2.out g0.lt; clear g0; have P0c0 : v2.cell? ⟨v1.heap.size, 0, none⟩ = some (.bool false) := P0.cell 0; have P0c1 : v2.cell? ⟨v1.heap.size, 1, none⟩ = some (.slice none 0 0) := P0.cell 1; have P0c2 : v2.cell? ⟨v1.heap.size, 2, none⟩ = some (.int .i64 0) := P0.cell 2; have P0f0 := P0.free 0; have P0f1 := P0.free 1; have P0f2 := P0.free 2; have lp0 : v1.heap.size < v2.heap.size := P0.lt; have HP0 := hide P0; clear P0; have g1 := (Blk.newAt (v1.alloc (Obj.cells #[Value.bool false, Value.slice none 0 0, Value.int .i64 0] 60)) (v1.heap.size + 1) (by simp) #[.bool false, .slice none 0 0, .int .i64 0] 60); have P1 := g1.below R2.out g1.lt; clear g1; have P1c0 : v2.cell? ⟨v1.heap.size + 1, 0, none⟩ = some (.bool false) := P1.cell 0; have P1c1 : v2.cell? ⟨v1.heap.size + 1, 1, none⟩ = some (.slice none 0 0) := P1.cell 1; have P1c2 : v2.cell? ⟨v1.heap.size + 1, 2, none⟩ = some (.int .i64 0) := P1.cell 2; have P1f0 := P1.free 0; have P1f1 := P1.free 1; have P1f2 := P1.free 2; have lp1 : v1.heap.size + 1 < v2.heap.size := P1.lt; have HP1 := hide P1; clear P1; have sz2 : Hid (v1.heap.size + 2 ≤ v2.heap.size) := (by have h := R2.out.size; simpa [Hid] using h); have lo1 : Hid ((W2.drew).heap.size = W2.heap.size + 0) := (by simp [Hid]); have lo2 : Hid ((((v1.alloc (Obj.cells #[Value.bool false, Value.slice none 0 0, Value.int .i64 0] 60)).alloc (Obj.cells #[Value.bool false, Value.slice none 0 0, Value.int .i64 0] 60))).heap.size = v1.heap.size + 2) := (by simp [Hid]); have dk02 : True := trivial)
          | (clear ck1; go_at_call 45; refine (C1.out _ b1).mono ?_; rintro e v2 ⟨⟨s2, o2, l2, c2, rfl, Z2⟩, R2, b2, q1_0, q1_1, q1_2, q1_3, q1_4, q1_5, q1_6, q1_7⟩; have Y1 := hide (Z1.out.below R2.out); clear Z1; clear Q0c0 Q0f0 Q0c1 Q0f1 Q0c2 Q0f2; have g0 := HQ0.out; have Q0 := g0.below R2.out g0.lt; clear g0 HQ0; have Q0c0 : v2.cell? ⟨W2.heap.size, 0, none⟩ = some (.bool false) := Q0.cell 0; have Q0c1 : v2.cell? ⟨W2.heap.size, 1, none⟩ = some (.slice none 0 0) := Q0.cell 1; have Q0c2 : v2.cell? ⟨W2.heap.size, 2, none⟩ = some (.int .i64 0) := Q0.cell 2; have Q0f0 := Q0.free 0; have Q0f1 := Q0.free 1; have Q0f2 := Q0.free 2; have lr0 : W2.heap.size < v2.heap.size := Q0.lt; have HQ0 := hide Q0; clear Q0; have sz2 : Hid (v1.heap.size + 0 ≤ v2.heap.size) := (by have h := R2.out.size; simpa [Hid] using h); have lo1 : Hid (((W2.drew.alloc (Obj.cells #[Value.bool false, Value.slice none 0 0, Value.int .i64 0] 60))).heap.size = W2.heap.size + 1) := (by simp [Hid]); have lo2 : Hid ((v1).heap.size = v1.heap.size + 0) := (by simp [Hid]); have nav20 : ¬ w.heap.size = v2.heap.size := (by have := HL.out; have := b2.out.size; omega); have mav20 : ¬ v2.heap.size = w.heap.size := (by have := HL.out; have := b2.out.size; omega); have nbv20 : ¬ w.heap.size + 1 = v2.heap.size := (by have := HL.out; have := b2.out.size; omega); have mbv20 : ¬ v2.heap.size = w.heap.size + 1 := (by have := HL.out; have := b2.out.size; omega); have dk10 : True := trivial)
          | (clear ck1; go_at_call 45; refine (C1.out _ (bal b1 (Obj.cells #[Value.bool false, Value.slice none 0 0, Value.int .i64 0] 60))).mono ?_; rintro e v2 ⟨⟨s2, o2, l2, c2, rfl, Z2⟩, R2, b2, q1_0, q1_1, q1_2, q1_3, q1_4, q1_5, q1_6, q1_7⟩; have Y1 := hide ((Z1.out.al (Obj.cells #[Value.bool false, Value.slice none 0 0, Value.int .i64 0] 60)).below R2.out); clear Z1; clear Q0c0 Q0f0 Q0c1 Q0f1 Q0c2 Q0f2; have g0 := (HQ0.out.alloc (Obj.cells #[Value.bool false, Value.slice none 0 0, Value.int .i64 0] 60)); have Q0 := g0.below R2.out g0.lt; clear g0 HQ0; have Q0c0 : v2.cell? ⟨W2.heap.size, 0, none⟩ = some (.bool false) := Q0.cell 0; have Q0c1 : v2.cell? ⟨W2.heap.size, 1, none⟩ = some (.slice none 0 0) := Q0.cell 1; have Q0c2 : v2.cell? ⟨W2.heap.size, 2, none⟩ = some (.int .i64 0) := Q0.cell 2; have Q0f0 := Q0.free 0; have Q0f1 := Q0.free 1; have Q0f2 := Q0.free 2; have lr0 : W2.heap.size < v2.heap.size := Q0.lt; have HQ0 := hide Q0; clear Q0; have g0 := (Blk.newAt v1 (v1.heap.size) (by simp) #[.bool false, .slice none 0 0, .int .i64 0] 60); have P0 := g0.below R2.out g0.lt; clear g0; have P0c0 : v2.cell? ⟨v1.heap.size, 0, none⟩ = some (.bool false) := P0.cell 0; have P0c1 : v2.cell? ⟨v1.heap.size, 1, none⟩ = some (.slice none 0 0) := P0.cell 1; have P0c2 : v2.cell? ⟨v1.heap.size, 2, none⟩ = some (.int .i64 0) := P0.cell 2; have P0f0 := P0.free 0; have P0f1 := P0.free 1; have P0f2 := P0.free 2; have lp0 : v1.heap.size < v2.heap.size := P0.lt; have HP0 := hide P0; clear P0; have sz2 : Hid (v1.heap.size + 1 ≤ v2.heap.size) := (by have h := R2.out.size; simpa [Hid] using h); have lo1 : Hid (((W2.drew.alloc (Obj.cells #[Value.bool false, Value.slice none 0 0, Value.int .i64 0] 60))).heap.size = W2.heap.size + 1) := (by simp [Hid]); have lo2 : Hid (((v1.alloc (Obj.cells #[Value.bool false, Value.slice none 0 0, Value.int .i64 0] 60))).heap.size = v1.heap.size + 1) := (by simp [Hid]); have e100 : ¬ W2.heap.size = v1.heap.size := (by have := sz1.out; omega); have e200 : ¬ v1.heap.size = W2.heap.size := (by have := sz1.out; omega); have dk11 : True := trivial)
          | (clear ck2; go_at_call 45; refine (C1.out _ b1).mono ?_; rintro e v2 ⟨⟨s2, o2, l2, c2, rfl, Z2⟩, R2, b2, q1_0, q1_1, q1_2, q1_3, q1_4, q1_5, q1_6, q1_7⟩; have Y1 := hide (Z1.out.below R2.out); clear Z1; clear Q0c0 Q0f0 Q0c1 Q0f1 Q0c2 Q0f2; have g0 := HQ0.out; have Q0 := g0.below R2.out g0.lt; clear g0 HQ0; have Q0c0 : v2.cell? ⟨W2.heap.size, 0, none⟩ = some (.bool false) := Q0.cell 0; have Q0c1 : v2.cell? ⟨W2.heap.size, 1, none⟩ = some (.slice none 0 0) := Q0.cell 1; have Q0c2 : v2.cell? ⟨W2.heap.size, 2, none⟩ = some (.int .i64 0) := Q0.cell 2; have Q0f0 := Q0.free 0; have Q0f1 := Q0.free 1; have Q0f2 := Q0.free 2; have lr0 : W2.heap.size < v2.heap.size := Q0.lt; have HQ0 := hide Q0; clear Q0; clear Q1c0 Q1f0 Q1c1 Q1f1 Q1c2 Q1f2; have g1 := HQ1.out; have Q1 := g1.below R2.out g1.lt; clear g1 HQ1; have Q1c0 : v2.cell? ⟨W2.heap.size + 1, 0, none⟩ = some (.bool false) := Q1.cell 0; have Q1c1 : v2.cell? ⟨W2.heap.size + 1, 1, none⟩ = some (.slice none 0 0) := Q1.cell 1; have Q1c2 : v2.cell? ⟨W2.heap.size + 1, 2, none⟩ = some (.int .i64 0) := Q1.cell 2; have Q1f0 := Q1.free 0; have Q1f1 := Q1.free 1; have Q1f2 := Q1.free 2; have lr1 : W2.heap.size + 1 < v2.heap.size := Q1.lt; have HQ1 := hide Q1; clear Q1; have sz2 : Hid (v1.heap.size + 0 ≤ v2.heap.size) := (by have h := R2.out.size; simpa [Hid] using h); have lo1 : Hid ((((W2.drew.alloc (Obj.cells #[Value.bool false, Value.slice none 0 0, Value.int .i64 0] 60)).alloc (Obj.cells #[Value.bool false, Value.slice none 0 0, Value.int .i64 0] 60))).heap.size = W2.heap.size + 2) := (by simp [Hid]); have lo2 : Hid ((v1).heap.size = v1.heap.size + 0) := (by simp [Hid]); have dk20 : True := trivial))
      all_goals (go_wp2_with fail; go_meet)
      all_goals (first
          | (clear dk00; exact cutn_nn b2.out Y1.out Z2.out (by have := sz1.out; have := sz2.out; have := lo1.out; have := lo2.out; omega) (by have := sz1.out; have := sz2.out; have := lo1.out; have := lo2.out; omega))
          | (clear dk00; exact cutn_mm b2.out Y1.out Z2.out (by have := sz1.out; have := sz2.out; have := lo1.out; have := lo2.out; omega) (by have := sz1.out; have := sz2.out; have := lo1.out; have := lo2.out; omega))
          | (clear dk01; exact cutn_on b2.out HP0.out (by have := sz1.out; have := sz2.out; have := lo1.out; have := lo2.out; omega) Y1.out Z2.out (by have := sz1.out; have := sz2.out; have := lo1.out; have := lo2.out; omega) (by have := sz1.out; have := sz2.out; have := lo1.out; have := lo2.out; omega) (by have := sz1.out; have := sz2.out; have := lo1.out; have := lo2.out; omega) (by have := sz1.out; have := sz2.out; have := lo1.out; have := lo2.out; omega))
          | (clear dk01; exact cutn_no b2.out HP0.out (by have := sz1.out; have := sz2.out; have := lo1.out; have := lo2.out; omega) Y1.out Z2.out (by have := sz1.out; have := sz2.out; have := lo1.out; have := lo2.out; omega) (by have := sz1.out; have := sz2.out; have := lo1.out; have := lo2.out; omega) (by have := sz1.out; have := sz2.out; have := lo1.out; have := lo2.out; omega) (by have := sz1.out; have := sz2.out; have := lo1.out; have := lo2.out; omega))
          | (clear dk02; exact cutn_oo b2.out HP0.out HP1.out (by have := sz1.out; have := sz2.out; have := lo1.out; have := lo2.out; omega) (by have := sz1.out; have := sz2.out; have := lo1.out; have := lo2.out; omega) (by have := sz1.out; have := sz2.out; have := lo1.out; have := lo2.out; omega) Y1.out Z2.out (by have := sz1.out; have := sz2.out; have := lo1.out; have := lo2.out; omega) (by have := sz1.out; have := sz2.out; have := lo1.out; have := lo2.out; omega) (by have := sz1.out; have := sz2.out; have := lo1.out; have := lo2.out; omega) (by have := sz1.out; have := sz2.out; have := lo1.out; have := lo2.out; omega) (by have := sz1.out; have := sz2.out; have := lo1.out; have := lo2.out; omega) (by have := sz1.out; have := sz2.out; have := lo1.out; have := lo2.out; omega))
          | (clear dk02; exact cutn_oo b2.out HP1.out HP0.out (by have := sz1.out; have := sz2.out; have := lo1.out; have := lo2.out; omega) (by have := sz1.out; have := sz2.out; have := lo1.out; have := lo2.out; omega) (by have := sz1.out; have := sz2.out; have := lo1.out; have := lo2.out; omega) Y1.out Z2.out (by have := sz1.out; have := sz2.out; have := lo1.out; have := lo2.out; omega) (by have := sz1.out; have := sz2.out; have := lo1.out; have := lo2.out; omega) (by have := sz1.out; have := sz2.out; have := lo1.out; have := lo2.out; omega) (by have := sz1.out; have := sz2.out; have := lo1.out; have := lo2.out; omega) (by have := sz1.out; have := sz2.out; have := lo1.out; have := lo2.out; omega) (by have := sz1.out; have := sz2.out; have := lo1.out; have := lo2.out; omega))
          | (clear dk10; exact cutn_on b2.out HQ0.out (by have := sz1.out; have := sz2.out; have := lo1.out; have := lo2.out; omega) Y1.out Z2.out (by have := sz1.out; have := sz2.out; have := lo1.out; have := lo2.out; omega) (by have := sz1.out; have := sz2.out; have := lo1.out; have := lo2.out; omega) (by have := sz1.out; have := sz2.out; have := lo1.out; have := lo2.out; omega) (by have := sz1.out; have := sz2.out; have := lo1.out; have := lo2.out; omega))
          | (clear dk10; exact cutn_no b2.out HQ0.out (by have := sz1.out; have := sz2.out; have := lo1.out; have := lo2.out; omega) Y1.out Z2.out (by have := sz1.out; have := sz2.out; have := lo1.out; have := lo2.out; omega) (by have := sz1.out; have := sz2.out; have := lo1.out; have := lo2.out; omega) (by have := sz1.out; have := sz2.out; have := lo1.out; have := lo2.out; omega) (by have := sz1.out; have := sz2.out; have := lo1.out; have := lo2.out; omega))
          | (clear dk11; exact cutn_oo b2.out HQ0.out HP0.out (by have := sz1.out; have := sz2.out; have := lo1.out; have := lo2.out; omega) (by have := sz1.out; have := sz2.out; have := lo1.out; have := lo2.out; omega) (by have := sz1.out; have := sz2.out; have := lo1.out; have := lo2.out; omega) Y1.out Z2.out (by have := sz1.out; have := sz2.out; have := lo1.out; have := lo2.out; omega) (by have := sz1.out; have := sz2.out; have := lo1.out; have := lo2.out; omega) (by have := sz1.out; have := sz2.out; have := lo1.out; have := lo2.out; omega) (by have := sz1.out; have := sz2.out; have := lo1.out; have := lo2.out; omega) (by have := sz1.out; have := sz2.out; have := lo1.out; have := lo2.out; omega) (by have := sz1.out; have := sz2.out; have := lo1.out; have := lo2.out; omega))
          | (clear dk11; exact cutn_oo b2.out HP0.out HQ0.out (by have := sz1.out; have := sz2.out; have := lo1.out; have := lo2.out; omega) (by have := sz1.out; have := sz2.out; have := lo1.out; have := lo2.out; omega) (by have := sz1.out; have := sz2.out; have := lo1.out; have := lo2.out; omega) Y1.out Z2.out (by have := sz1.out; have := sz2.out; have := lo1.out; have := lo2.out; omega) (by have := sz1.out; have := sz2.out; have := lo1.out; have := lo2.out; omega) (by have := sz1.out; have := sz2.out; have := lo1.out; have := lo2.out; omega) (by have := sz1.out; have := sz2.out; have := lo1.out; have := lo2.out; omega) (by have := sz1.out; have := sz2.out; have := lo1.out; have := lo2.out; omega) (by have := sz1.out; have := sz2.out; have := lo1.out; have := lo2.out; omega))
          | (clear dk20; exact cutn_oo b2.out HQ0.out HQ1.out (by have := sz1.out; have := sz2.out; have := lo1.out; have := lo2.out; omega) (by have := sz1.out; have := sz2.out; have := lo1.out; have := lo2.out; omega) (by have := sz1.out; have := sz2.out; have := lo1.out; have := lo2.out; omega) Y1.out Z2.out (by have := sz1.out; have := sz2.out; have := lo1.out; have := lo2.out; omega) (by have := sz1.out; have := sz2.out; have := lo1.out; have := lo2.out; omega) (by have := sz1.out; have := sz2.out; have := lo1.out; have := lo2.out; omega) (by have := sz1.out; have := sz2.out; have := lo1.out; have := lo2.out; omega) (by have := sz1.out; have := sz2.out; have := lo1.out; have := lo2.out; omega) (by have := sz1.out; have := sz2.out; have := lo1.out; have := lo2.out; omega))
          | (clear dk20; exact cutn_oo b2.out HQ1.out HQ0.out (by have := sz1.out; have := sz2.out; have := lo1.out; have := lo2.out; omega) (by have := sz1.out; have := sz2.out; have := lo1.out; have := lo2.out; omega) (by have := sz1.out; have := sz2.out; have := lo1.out; have := lo2.out; omega) Y1.out Z2.out (by have := sz1.out; have := sz2.out; have := lo1.out; have := lo2.out; omega) (by have := sz1.out; have := sz2.out; have := lo1.out; have := lo2.out; omega) (by have := sz1.out; have := sz2.out; have := lo1.out; have := lo2.out; omega) (by have := sz1.out; have := sz2.out; have := lo1.out; have := lo2.out; omega) (by have := sz1.out; have := sz2.out; have := lo1.out; have := lo2.out; omega) (by have := sz1.out; have := sz2.out; have := lo1.out; have := lo2.out; omega)))
    obtain ⟨⟨Hx, Hy, s1, o1, l1, c1, s2, o2, l2, c2, rfl, rfl, hq, hr, hH, hK, Z1, Z2, hbc⟩⟩ := hcut
    obtain ⟨w3, hwk⟩ : ∃ x, x = wc := ⟨_, rfl⟩
    subst hwk
    have Ba3 := hide (Ba2.out.below hbc Ba2.out.lt)
    have Bb3 := hide (Bb2.out.below hbc Bb2.out.lt)
    have Br3 := hide (Br2.out.below hbc Br2.out.lt)
    have Bx3 := hide hq
    have By3 := hide hr
    have HB3 := hide (HB2.out.trans (hbc.mono HB2.out.size))
    have ZZ1 := hide Z1
    have ZZ2 := hide Z2
    have HXY := hide (show w.heap.size + 1 + 1 < Hx ∧ w.heap.size + 1 + 1 < Hy from ⟨Nat.lt_of_lt_of_le Br2.out.lt hH, Nat.lt_of_lt_of_le Br2.out.lt hK⟩)
    clear HL hq hr hH hK hbc Z1 Z2 Ba2 Bb2 Br2 HB2 DA DB HA HB MA MB ya0 ya1 ya2 ya3 yb0 yb1 yb2 yb3 yr0 yr1 yr2 yr3
    obtain ⟨G, hG⟩ : ∃ G, G = w.heap.size + 1 + 1 := ⟨_, rfl⟩
    have gn0 : ¬ G = Hx := by have := HXY.out; omega
    have gn1 : ¬ Hx = G := by have := HXY.out; omega
    have gn2 : ¬ G = Hy := by have := HXY.out; omega
    have gn3 : ¬ Hy = G := by have := HXY.out; omega
    have gle : w.heap.size ≤ G := by omega
    have HG := hide hG
    rw [← hG] at Br3
    clear hG HXY
    have d0 : w3.cell? ⟨Hx, 0, none⟩ = some (.bool s1) := Bx3.out.cell 0
    have d1 : w3.cell? ⟨Hx, 1, none⟩ = some (.slice o1 l1 c1) := Bx3.out.cell 1
    have d2 : w3.cell? ⟨Hx, 2, none⟩ = some (.int .i64 ea) := Bx3.out.cell 2
    have d3 : w3.cell? ⟨Hy, 0, none⟩ = some (.bool s2) := By3.out.cell 0
    have d4 : w3.cell? ⟨Hy, 1, none⟩ = some (.slice o2 l2 c2) := By3.out.cell 1
    have d5 : w3.cell? ⟨Hy, 2, none⟩ = some (.int .i64 eb) := By3.out.cell 2
    have HC : Hid (∀ w', Below w3.heap.size w3 w' → w'.cell? ⟨Hx, 0, none⟩ = some (.bool s1) ∧ w'.cell? ⟨Hx, 1, none⟩ = some (.slice o1 l1 c1) ∧ w'.cell? ⟨Hx, 2, none⟩ = some (.int .i64 ea) ∧ w'.cell? ⟨Hy, 0, none⟩ = some (.bool s2) ∧ w'.cell? ⟨Hy, 1, none⟩ = some (.slice o2 l2 c2) ∧ w'.cell? ⟨Hy, 2, none⟩ = some (.int .i64 eb) ∧ w'.cell? ⟨G, 0, none⟩ = some (.int .i64 0) ∧ w'.cell? ⟨G, 1, none⟩ = some (.bool false) ∧ w'.cell? ⟨G, 2, none⟩ = some (.string ⟨#[]⟩) ∧ w'.cell? ⟨G, 3, none⟩ = some (.int .i64 0) ∧ w'.frozen? ⟨G, 0, none⟩ = false ∧ w'.frozen? ⟨G, 1, none⟩ = false ∧ w'.frozen? ⟨G, 2, none⟩ = false ∧ w'.frozen? ⟨G, 3, none⟩ = false) := by
      intro w' hb
      have Bx3q := Bx3.out.below hb Bx3.out.lt
      have By3q := By3.out.below hb By3.out.lt
      have Br3q := Br3.out.below hb Br3.out.lt
      exact ⟨Bx3q.cell 0, Bx3q.cell 1, Bx3q.cell 2, By3q.cell 0, By3q.cell 1, By3q.cell 2, Br3q.cell 0, Br3q.cell 1, Br3q.cell 2, Br3q.cell 3, Br3q.free 0, Br3q.free 1, Br3q.free 2, Br3q.free 3⟩
    have b0 : Hid (Below w3.heap.size w3 w3.drew) := bdrewD w3
    have C0 : Hid (∀ X, Hid (Below w3.heap.size w3 X) → Calls Tryz.prog 51 #[.agg #[.bool s1, .slice o1 l1 c1], .agg #[.bool s2, .slice o2 l2 c2]] X fun e w' => (∃ s o l c, e = .returned (.agg #[.bool s, .slice o l c]) ∧ Hid (RI w' s o l c z 2005 0)) ∧ Hid (Below w3.heap.size w3 w') ∧ w'.cell? ⟨Hx, 0, none⟩ = some (.bool s1) ∧ w'.cell? ⟨Hx, 1, none⟩ = some (.slice o1 l1 c1) ∧ w'.cell? ⟨Hx, 2, none⟩ = some (.int .i64 ea) ∧ w'.cell? ⟨Hy, 0, none⟩ = some (.bool s2) ∧ w'.cell? ⟨Hy, 1, none⟩ = some (.slice o2 l2 c2) ∧ w'.cell? ⟨Hy, 2, none⟩ = some (.int .i64 eb) ∧ w'.cell? ⟨G, 0, none⟩ = some (.int .i64 0) ∧ w'.cell? ⟨G, 1, none⟩ = some (.bool false) ∧ w'.cell? ⟨G, 2, none⟩ = some (.string ⟨#[]⟩) ∧ w'.cell? ⟨G, 3, none⟩ = some (.int .i64 0) ∧ w'.frozen? ⟨G, 0, none⟩ = false ∧ w'.frozen? ⟨G, 1, none⟩ = false ∧ w'.frozen? ⟨G, 2, none⟩ = false ∧ w'.frozen? ⟨G, 3, none⟩ = false) := by
      intro X bX
      have g := rmulI s1 o1 l1 c1 s2 o2 l2 c2 _ _ X (ZZ1.out.below bX.out) (ZZ2.out.below bX.out)
      rw [← HZ.out] at g
      refine g.mono ?_
      rintro e w' ⟨⟨s, o, l, c, rfl, hz⟩, hb⟩
      have bb := bX.out.trans (hb.mono bX.out.size)
      exact ⟨⟨s, o, l, c, rfl, hz.lo (Nat.zero_le _) (Nat.le_refl _)⟩, bb, HC.out _ bb⟩
    have C1 : Hid (∀ X (s : Bool) (o : Option Addr) (l c : Nat), Hid (Below w3.heap.size w3 X) → Hid (RI X s o l c z 2005 0) → Calls Tryz.prog 47 #[.agg #[.bool s, .slice o l c, .int .i64 (ea + eb)], .bool (!(na == nb))] X fun e w' => e = .returned (.tuple #[.agg #[.int .i64 (cc : Int), .bool nn, .string D, .int .i64 ee], .int .i64 er]) ∧ Hid (Below w3.heap.size w3 w') ∧ w'.cell? ⟨Hx, 0, none⟩ = some (.bool s1) ∧ w'.cell? ⟨Hx, 1, none⟩ = some (.slice o1 l1 c1) ∧ w'.cell? ⟨Hx, 2, none⟩ = some (.int .i64 ea) ∧ w'.cell? ⟨Hy, 0, none⟩ = some (.bool s2) ∧ w'.cell? ⟨Hy, 1, none⟩ = some (.slice o2 l2 c2) ∧ w'.cell? ⟨Hy, 2, none⟩ = some (.int .i64 eb) ∧ w'.cell? ⟨G, 0, none⟩ = some (.int .i64 0) ∧ w'.cell? ⟨G, 1, none⟩ = some (.bool false) ∧ w'.cell? ⟨G, 2, none⟩ = some (.string ⟨#[]⟩) ∧ w'.cell? ⟨G, 3, none⟩ = some (.int .i64 0) ∧ w'.frozen? ⟨G, 0, none⟩ = false ∧ w'.frozen? ⟨G, 1, none⟩ = false ∧ w'.frozen? ⟨G, 2, none⟩ = false ∧ w'.frozen? ⟨G, 3, none⟩ = false) := by
      intro X s o l c bX h1
      have g := rtold_any s o l c (ea + eb) (!(na == nb)) z 2005 0 X h1.out (by omega) HSZ.out (by have := HE.out; omega) (by have := HE.out; omega)
      rw [HTF.out, ← EQ.out] at g
      refine g.mono ?_
      rintro e w' ⟨rfl, hb⟩
      have bb := bX.out.trans (hb.mono bX.out.size)
      exact ⟨rfl, bb, HC.out _ bb⟩
    have BRF : Hid (∀ w', Below w3.heap.size w3 w' → Below w.heap.size w w' ∧ Blk w' G #[.int .i64 0, .bool false, .string ⟨#[]⟩, .int .i64 0] 23) := fun w' hb => ⟨HB3.out.trans (hb.mono HB3.out.size), Br3.out.below hb Br3.out.lt⟩
    clear HC ZZ1 ZZ2 HZ HTF HSZ HE Ba3 Bb3 Br3 Bx3 By3 HB3
    go_wp2_with fail
    simp only [← HG.out]
    have mk0 : True := trivial
    go_region_held3 (fun w' => w'.cell? ⟨Hx, 0, none⟩ = some (.bool s1) ∧ w'.cell? ⟨Hx, 1, none⟩ = some (.slice o1 l1 c1) ∧ w'.cell? ⟨Hx, 2, none⟩ = some (.int .i64 ea) ∧ w'.cell? ⟨Hy, 0, none⟩ = some (.bool s2) ∧ w'.cell? ⟨Hy, 1, none⟩ = some (.slice o2 l2 c2) ∧ w'.cell? ⟨Hy, 2, none⟩ = some (.int .i64 eb)) (go_keep) (first
      | (clear mk0; go_at_call 51; refine (C0.out _ b0).mono ?_; rintro e u1 ⟨⟨s3, o3, l3, c3, rfl, Z3⟩, b1, q0_0, q0_1, q0_2, q0_3, q0_4, q0_5, q0_6, q0_7, q0_8, q0_9, q0_10, q0_11, q0_12, q0_13⟩; have mk1 : True := trivial)
      | (clear mk1; go_at_call 47; refine (C1.out _ _ _ _ _ b1 Z3).mono ?_; rintro e u2 ⟨rfl, b2, q1_0, q1_1, q1_2, q1_3, q1_4, q1_5, q1_6, q1_7, q1_8, q1_9, q1_10, q1_11, q1_12, q1_13⟩; have mk2 : True := trivial))
    obtain ⟨hbel, hblk⟩ := BRF.out _ b2.out
    have HBL := hide hbel
    have QR := hide hblk
    clear hbel hblk BRF b0 b1 b2 C0 C1
    repeat (first | go_values | go_skip | go_guarded | go_step | go_upon)
    refine bodyPost_ret (results_dec2 rfl _ _ _ _ _ _ _ rfl (QR.out.put4 _ _ _ _)) rfl ?_
    exact ⟨EQ.out, below_put4 HBL.out gle _ _ _ _⟩
  )

end Go.Proofs.YtafljhfamjabeaaGreatDoor

namespace Go.Proofs.YtafljhfamjabeaaGreatDoor
open Go.RowKit

set_option maxRecDepth 100000 in
set_option maxHeartbeats 4000000 in
theorem rmul_no1 (ca : Int) (cb : Int) (na nb : Bool) (ta : ByteArray) (tb : ByteArray) (ea eb : Int) (w : World) (ma : ∀ W, Calls Tryz.prog 15 #[.agg #[.int .i64 ca, .bool na, .string ta, .int .i64 ea]] W fun e w' => e = .returned (.bool false) ∧ Below W.heap.size W w')  : Calls Tryz.prog 31 #[.agg #[.int .i64 ca, .bool na, .string ta, .int .i64 ea], .agg #[.int .i64 cb, .bool nb, .string tb, .int .i64 eb]] w fun e w' => e = .returned (.tuple #[.agg #[.int .i64 0, .bool false, .string ⟨#[]⟩, .int .i64 0], .int .i64 52]) ∧ Below w.heap.size w w' := by
  have MA := hide ma
  clear ma
  have Ba0 := hide (((Blk.newAt w (w.heap.size) (rfl) #[.int .i64 ca, .bool na, .string ta, .int .i64 ea] 23).alloc (.cells #[.int .i64 cb, .bool nb, .string tb, .int .i64 eb] 23)).alloc (.cells #[.int .i64 0, .bool false, .string ⟨#[]⟩, .int .i64 0] 23))
  have Bb0 := hide ((Blk.newAt (w.alloc (.cells #[.int .i64 ca, .bool na, .string ta, .int .i64 ea] 23)) (w.heap.size + 1) (by simp) #[.int .i64 cb, .bool nb, .string tb, .int .i64 eb] 23).alloc (.cells #[.int .i64 0, .bool false, .string ⟨#[]⟩, .int .i64 0] 23))
  have Br0 := hide (Blk.newAt ((w.alloc (.cells #[.int .i64 ca, .bool na, .string ta, .int .i64 ea] 23)).alloc (.cells #[.int .i64 cb, .bool nb, .string tb, .int .i64 eb] 23)) (w.heap.size + 1 + 1) (by simp) #[.int .i64 0, .bool false, .string ⟨#[]⟩, .int .i64 0] 23)
  have HB0 : Hid (Below w.heap.size w (((w.alloc (.cells #[.int .i64 ca, .bool na, .string ta, .int .i64 ea] 23)).alloc (.cells #[.int .i64 cb, .bool nb, .string tb, .int .i64 eb] 23)).alloc (.cells #[.int .i64 0, .bool false, .string ⟨#[]⟩, .int .i64 0] 23))) := ((((Below.refl _ _).alloc (Nat.le_refl _) _).alloc (by simp <;> omega) _).alloc (by simp <;> omega) _)
  go_enter Tryz.func31, Tryz.ntmps31
  go_wp2_with fail
  all_goals try subst ‹ca = 0›
  all_goals try subst ‹cb = 0›
  all_goals (
    skip
    refine (MA.out _).mono ?_
    rintro e w1 ⟨rfl, hb⟩
    have Ba1 := Blk.on Ba0 hb
    have Bb1 := Blk.on Bb0 hb
    have Br1 := Blk.on Br0 hb
    have HB1 := hide (HB0.out.trans (hb.mono HB0.out.size))
    clear hb Ba0 Bb0 Br0 HB0 
    obtain ⟨ya0, ya1, ya2, ya3⟩ := Ba1.out.four
    obtain ⟨yb0, yb1, yb2, yb3⟩ := Bb1.out.four
    obtain ⟨yr0, yr1, yr2, yr3⟩ := Br1.out.four
    have fr0 := Br1.out.free 0
    have fr1 := Br1.out.free 1
    have fr2 := Br1.out.free 2
    have fr3 := Br1.out.free 3
    go_wp2
    refine bodyPost_ret (results_dec2 rfl _ _ _ _ _ _ _ rfl (Br1.out.put4 _ _ _ _)) rfl ?_
    exact ⟨rfl, below_put4 (HB1.out) (by omega) _ _ _ _⟩
  )

set_option maxRecDepth 100000 in
set_option maxHeartbeats 4000000 in
theorem rmul_no2 (ca : Int) (cb : Int) (na nb : Bool) (ta : ByteArray) (tb : ByteArray) (ea eb : Int) (w : World) (ma : ∀ W, Calls Tryz.prog 15 #[.agg #[.int .i64 ca, .bool na, .string ta, .int .i64 ea]] W fun e w' => e = .returned (.bool true) ∧ Below W.heap.size W w') (mb : ∀ W, Calls Tryz.prog 15 #[.agg #[.int .i64 cb, .bool nb, .string tb, .int .i64 eb]] W fun e w' => e = .returned (.bool false) ∧ Below W.heap.size W w')  : Calls Tryz.prog 31 #[.agg #[.int .i64 ca, .bool na, .string ta, .int .i64 ea], .agg #[.int .i64 cb, .bool nb, .string tb, .int .i64 eb]] w fun e w' => e = .returned (.tuple #[.agg #[.int .i64 0, .bool false, .string ⟨#[]⟩, .int .i64 0], .int .i64 52]) ∧ Below w.heap.size w w' := by
  have MA := hide ma
  clear ma
  have MB := hide mb
  clear mb
  have Ba0 := hide (((Blk.newAt w (w.heap.size) (rfl) #[.int .i64 ca, .bool na, .string ta, .int .i64 ea] 23).alloc (.cells #[.int .i64 cb, .bool nb, .string tb, .int .i64 eb] 23)).alloc (.cells #[.int .i64 0, .bool false, .string ⟨#[]⟩, .int .i64 0] 23))
  have Bb0 := hide ((Blk.newAt (w.alloc (.cells #[.int .i64 ca, .bool na, .string ta, .int .i64 ea] 23)) (w.heap.size + 1) (by simp) #[.int .i64 cb, .bool nb, .string tb, .int .i64 eb] 23).alloc (.cells #[.int .i64 0, .bool false, .string ⟨#[]⟩, .int .i64 0] 23))
  have Br0 := hide (Blk.newAt ((w.alloc (.cells #[.int .i64 ca, .bool na, .string ta, .int .i64 ea] 23)).alloc (.cells #[.int .i64 cb, .bool nb, .string tb, .int .i64 eb] 23)) (w.heap.size + 1 + 1) (by simp) #[.int .i64 0, .bool false, .string ⟨#[]⟩, .int .i64 0] 23)
  have HB0 : Hid (Below w.heap.size w (((w.alloc (.cells #[.int .i64 ca, .bool na, .string ta, .int .i64 ea] 23)).alloc (.cells #[.int .i64 cb, .bool nb, .string tb, .int .i64 eb] 23)).alloc (.cells #[.int .i64 0, .bool false, .string ⟨#[]⟩, .int .i64 0] 23))) := ((((Below.refl _ _).alloc (Nat.le_refl _) _).alloc (by simp <;> omega) _).alloc (by simp <;> omega) _)
  go_enter Tryz.func31, Tryz.ntmps31
  go_wp2_with fail
  all_goals try subst ‹ca = 0›
  all_goals try subst ‹cb = 0›
  all_goals (
    skip
    refine (MA.out _).mono ?_
    rintro e w1 ⟨rfl, hb⟩
    have Ba1 := Blk.on Ba0 hb
    have Bb1 := Blk.on Bb0 hb
    have Br1 := Blk.on Br0 hb
    have HB1 := hide (HB0.out.trans (hb.mono HB0.out.size))
    clear hb Ba0 Bb0 Br0 HB0 
    obtain ⟨ya0, ya1, ya2, ya3⟩ := Ba1.out.four
    obtain ⟨yb0, yb1, yb2, yb3⟩ := Bb1.out.four
    obtain ⟨yr0, yr1, yr2, yr3⟩ := Br1.out.four
    go_wp2_with fail
    refine (MB.out _).mono ?_
    rintro e w2 ⟨rfl, hb⟩
    have Ba2 := Blk.on Ba1 hb
    have Bb2 := Blk.on Bb1 hb
    have Br2 := Blk.on Br1 hb
    have HB2 := hide (HB1.out.trans (hb.mono HB1.out.size))
    clear hb Ba1 Bb1 Br1 HB1 ya0 ya1 ya2 ya3 yb0 yb1 yb2 yb3 yr0 yr1 yr2 yr3
    obtain ⟨ya0, ya1, ya2, ya3⟩ := Ba2.out.four
    obtain ⟨yb0, yb1, yb2, yb3⟩ := Bb2.out.four
    obtain ⟨yr0, yr1, yr2, yr3⟩ := Br2.out.four
    have fr0 := Br2.out.free 0
    have fr1 := Br2.out.free 1
    have fr2 := Br2.out.free 2
    have fr3 := Br2.out.free 3
    go_wp2
    refine bodyPost_ret (results_dec2 rfl _ _ _ _ _ _ _ rfl (Br2.out.put4 _ _ _ _)) rfl ?_
    exact ⟨rfl, below_put4 (HB2.out) (by omega) _ _ _ _⟩
  )

set_option maxRecDepth 100000 in
set_option maxHeartbeats 4000000 in
theorem rmul_nan1 (cb : Int) (na nb : Bool) (ta : ByteArray) (tb : ByteArray) (ea eb : Int) (w : World) (ma : ∀ W, Calls Tryz.prog 15 #[.agg #[.int .i64 2, .bool na, .string ta, .int .i64 ea]] W fun e w' => e = .returned (.bool true) ∧ Below W.heap.size W w') (mb : ∀ W, Calls Tryz.prog 15 #[.agg #[.int .i64 cb, .bool nb, .string tb, .int .i64 eb]] W fun e w' => e = .returned (.bool true) ∧ Below W.heap.size W w')  : Calls Tryz.prog 31 #[.agg #[.int .i64 2, .bool na, .string ta, .int .i64 ea], .agg #[.int .i64 cb, .bool nb, .string tb, .int .i64 eb]] w fun e w' => e = .returned (.tuple #[.agg #[.int .i64 2, .bool false, .string ⟨#[]⟩, .int .i64 0], .int .i64 0]) ∧ Below w.heap.size w w' := by
  have MA := hide ma
  clear ma
  have MB := hide mb
  clear mb
  have Ba0 := hide (((Blk.newAt w (w.heap.size) (rfl) #[.int .i64 2, .bool na, .string ta, .int .i64 ea] 23).alloc (.cells #[.int .i64 cb, .bool nb, .string tb, .int .i64 eb] 23)).alloc (.cells #[.int .i64 0, .bool false, .string ⟨#[]⟩, .int .i64 0] 23))
  have Bb0 := hide ((Blk.newAt (w.alloc (.cells #[.int .i64 2, .bool na, .string ta, .int .i64 ea] 23)) (w.heap.size + 1) (by simp) #[.int .i64 cb, .bool nb, .string tb, .int .i64 eb] 23).alloc (.cells #[.int .i64 0, .bool false, .string ⟨#[]⟩, .int .i64 0] 23))
  have Br0 := hide (Blk.newAt ((w.alloc (.cells #[.int .i64 2, .bool na, .string ta, .int .i64 ea] 23)).alloc (.cells #[.int .i64 cb, .bool nb, .string tb, .int .i64 eb] 23)) (w.heap.size + 1 + 1) (by simp) #[.int .i64 0, .bool false, .string ⟨#[]⟩, .int .i64 0] 23)
  have HB0 : Hid (Below w.heap.size w (((w.alloc (.cells #[.int .i64 2, .bool na, .string ta, .int .i64 ea] 23)).alloc (.cells #[.int .i64 cb, .bool nb, .string tb, .int .i64 eb] 23)).alloc (.cells #[.int .i64 0, .bool false, .string ⟨#[]⟩, .int .i64 0] 23))) := ((((Below.refl _ _).alloc (Nat.le_refl _) _).alloc (by simp <;> omega) _).alloc (by simp <;> omega) _)
  go_enter Tryz.func31, Tryz.ntmps31
  go_wp2_with fail
  all_goals try subst ‹ca = 0›
  all_goals try subst ‹cb = 0›
  all_goals (
    skip
    refine (MA.out _).mono ?_
    rintro e w1 ⟨rfl, hb⟩
    have Ba1 := Blk.on Ba0 hb
    have Bb1 := Blk.on Bb0 hb
    have Br1 := Blk.on Br0 hb
    have HB1 := hide (HB0.out.trans (hb.mono HB0.out.size))
    clear hb Ba0 Bb0 Br0 HB0 
    obtain ⟨ya0, ya1, ya2, ya3⟩ := Ba1.out.four
    obtain ⟨yb0, yb1, yb2, yb3⟩ := Bb1.out.four
    obtain ⟨yr0, yr1, yr2, yr3⟩ := Br1.out.four
    go_wp2_with fail
    refine (MB.out _).mono ?_
    rintro e w2 ⟨rfl, hb⟩
    have Ba2 := Blk.on Ba1 hb
    have Bb2 := Blk.on Bb1 hb
    have Br2 := Blk.on Br1 hb
    have HB2 := hide (HB1.out.trans (hb.mono HB1.out.size))
    clear hb Ba1 Bb1 Br1 HB1 ya0 ya1 ya2 ya3 yb0 yb1 yb2 yb3 yr0 yr1 yr2 yr3
    obtain ⟨ya0, ya1, ya2, ya3⟩ := Ba2.out.four
    obtain ⟨yb0, yb1, yb2, yb3⟩ := Bb2.out.four
    obtain ⟨yr0, yr1, yr2, yr3⟩ := Br2.out.four
    have fr0 := Br2.out.free 0
    have fr1 := Br2.out.free 1
    have fr2 := Br2.out.free 2
    have fr3 := Br2.out.free 3
    go_wp2
    refine bodyPost_ret (results_dec2 rfl _ _ _ _ _ _ _ rfl (Br2.out.put4 _ _ _ _)) rfl ?_
    exact ⟨rfl, below_put4 (HB2.out) (by omega) _ _ _ _⟩
  )

set_option maxRecDepth 100000 in
set_option maxHeartbeats 4000000 in
theorem rmul_nan2 (ca : Int) (na nb : Bool) (ta : ByteArray) (tb : ByteArray) (ea eb : Int) (w : World) (ma : ∀ W, Calls Tryz.prog 15 #[.agg #[.int .i64 ca, .bool na, .string ta, .int .i64 ea]] W fun e w' => e = .returned (.bool true) ∧ Below W.heap.size W w') (mb : ∀ W, Calls Tryz.prog 15 #[.agg #[.int .i64 2, .bool nb, .string tb, .int .i64 eb]] W fun e w' => e = .returned (.bool true) ∧ Below W.heap.size W w') (h : (ca == 2) = false) : Calls Tryz.prog 31 #[.agg #[.int .i64 ca, .bool na, .string ta, .int .i64 ea], .agg #[.int .i64 2, .bool nb, .string tb, .int .i64 eb]] w fun e w' => e = .returned (.tuple #[.agg #[.int .i64 2, .bool false, .string ⟨#[]⟩, .int .i64 0], .int .i64 0]) ∧ Below w.heap.size w w' := by
  have MA := hide ma
  clear ma
  have MB := hide mb
  clear mb
  have Ba0 := hide (((Blk.newAt w (w.heap.size) (rfl) #[.int .i64 ca, .bool na, .string ta, .int .i64 ea] 23).alloc (.cells #[.int .i64 2, .bool nb, .string tb, .int .i64 eb] 23)).alloc (.cells #[.int .i64 0, .bool false, .string ⟨#[]⟩, .int .i64 0] 23))
  have Bb0 := hide ((Blk.newAt (w.alloc (.cells #[.int .i64 ca, .bool na, .string ta, .int .i64 ea] 23)) (w.heap.size + 1) (by simp) #[.int .i64 2, .bool nb, .string tb, .int .i64 eb] 23).alloc (.cells #[.int .i64 0, .bool false, .string ⟨#[]⟩, .int .i64 0] 23))
  have Br0 := hide (Blk.newAt ((w.alloc (.cells #[.int .i64 ca, .bool na, .string ta, .int .i64 ea] 23)).alloc (.cells #[.int .i64 2, .bool nb, .string tb, .int .i64 eb] 23)) (w.heap.size + 1 + 1) (by simp) #[.int .i64 0, .bool false, .string ⟨#[]⟩, .int .i64 0] 23)
  have HB0 : Hid (Below w.heap.size w (((w.alloc (.cells #[.int .i64 ca, .bool na, .string ta, .int .i64 ea] 23)).alloc (.cells #[.int .i64 2, .bool nb, .string tb, .int .i64 eb] 23)).alloc (.cells #[.int .i64 0, .bool false, .string ⟨#[]⟩, .int .i64 0] 23))) := ((((Below.refl _ _).alloc (Nat.le_refl _) _).alloc (by simp <;> omega) _).alloc (by simp <;> omega) _)
  go_enter Tryz.func31, Tryz.ntmps31
  go_wp2_with fail
  all_goals try subst ‹ca = 0›
  all_goals try subst ‹cb = 0›
  all_goals (
    skip
    refine (MA.out _).mono ?_
    rintro e w1 ⟨rfl, hb⟩
    have Ba1 := Blk.on Ba0 hb
    have Bb1 := Blk.on Bb0 hb
    have Br1 := Blk.on Br0 hb
    have HB1 := hide (HB0.out.trans (hb.mono HB0.out.size))
    clear hb Ba0 Bb0 Br0 HB0 
    obtain ⟨ya0, ya1, ya2, ya3⟩ := Ba1.out.four
    obtain ⟨yb0, yb1, yb2, yb3⟩ := Bb1.out.four
    obtain ⟨yr0, yr1, yr2, yr3⟩ := Br1.out.four
    go_wp2_with fail
    refine (MB.out _).mono ?_
    rintro e w2 ⟨rfl, hb⟩
    have Ba2 := Blk.on Ba1 hb
    have Bb2 := Blk.on Bb1 hb
    have Br2 := Blk.on Br1 hb
    have HB2 := hide (HB1.out.trans (hb.mono HB1.out.size))
    clear hb Ba1 Bb1 Br1 HB1 ya0 ya1 ya2 ya3 yb0 yb1 yb2 yb3 yr0 yr1 yr2 yr3
    obtain ⟨ya0, ya1, ya2, ya3⟩ := Ba2.out.four
    obtain ⟨yb0, yb1, yb2, yb3⟩ := Bb2.out.four
    obtain ⟨yr0, yr1, yr2, yr3⟩ := Br2.out.four
    have fr0 := Br2.out.free 0
    have fr1 := Br2.out.free 1
    have fr2 := Br2.out.free 2
    have fr3 := Br2.out.free 3
    go_wp2
    refine bodyPost_ret (results_dec2 rfl _ _ _ _ _ _ _ rfl (Br2.out.put4 _ _ _ _)) rfl ?_
    exact ⟨rfl, below_put4 (HB2.out) (by omega) _ _ _ _⟩
  )

set_option maxRecDepth 100000 in
set_option maxHeartbeats 4000000 in
theorem rmul_inf (na nb : Bool) (ta : ByteArray) (tb : ByteArray) (ea eb : Int) (w : World) (ma : ∀ W, Calls Tryz.prog 15 #[.agg #[.int .i64 1, .bool na, .string ta, .int .i64 ea]] W fun e w' => e = .returned (.bool true) ∧ Below W.heap.size W w') (mb : ∀ W, Calls Tryz.prog 15 #[.agg #[.int .i64 1, .bool nb, .string tb, .int .i64 eb]] W fun e w' => e = .returned (.bool true) ∧ Below W.heap.size W w')  : Calls Tryz.prog 31 #[.agg #[.int .i64 1, .bool na, .string ta, .int .i64 ea], .agg #[.int .i64 1, .bool nb, .string tb, .int .i64 eb]] w fun e w' => e = .returned (.tuple #[.agg #[.int .i64 1, .bool (na != nb), .string ⟨#[]⟩, .int .i64 0], .int .i64 0]) ∧ Below w.heap.size w w' := by
  have MA := hide ma
  clear ma
  have MB := hide mb
  clear mb
  have Ba0 := hide (((Blk.newAt w (w.heap.size) (rfl) #[.int .i64 1, .bool na, .string ta, .int .i64 ea] 23).alloc (.cells #[.int .i64 1, .bool nb, .string tb, .int .i64 eb] 23)).alloc (.cells #[.int .i64 0, .bool false, .string ⟨#[]⟩, .int .i64 0] 23))
  have Bb0 := hide ((Blk.newAt (w.alloc (.cells #[.int .i64 1, .bool na, .string ta, .int .i64 ea] 23)) (w.heap.size + 1) (by simp) #[.int .i64 1, .bool nb, .string tb, .int .i64 eb] 23).alloc (.cells #[.int .i64 0, .bool false, .string ⟨#[]⟩, .int .i64 0] 23))
  have Br0 := hide (Blk.newAt ((w.alloc (.cells #[.int .i64 1, .bool na, .string ta, .int .i64 ea] 23)).alloc (.cells #[.int .i64 1, .bool nb, .string tb, .int .i64 eb] 23)) (w.heap.size + 1 + 1) (by simp) #[.int .i64 0, .bool false, .string ⟨#[]⟩, .int .i64 0] 23)
  have HB0 : Hid (Below w.heap.size w (((w.alloc (.cells #[.int .i64 1, .bool na, .string ta, .int .i64 ea] 23)).alloc (.cells #[.int .i64 1, .bool nb, .string tb, .int .i64 eb] 23)).alloc (.cells #[.int .i64 0, .bool false, .string ⟨#[]⟩, .int .i64 0] 23))) := ((((Below.refl _ _).alloc (Nat.le_refl _) _).alloc (by simp <;> omega) _).alloc (by simp <;> omega) _)
  go_enter Tryz.func31, Tryz.ntmps31
  go_wp2_with fail
  all_goals try subst ‹ca = 0›
  all_goals try subst ‹cb = 0›
  all_goals (
    skip
    refine (MA.out _).mono ?_
    rintro e w1 ⟨rfl, hb⟩
    have Ba1 := Blk.on Ba0 hb
    have Bb1 := Blk.on Bb0 hb
    have Br1 := Blk.on Br0 hb
    have HB1 := hide (HB0.out.trans (hb.mono HB0.out.size))
    clear hb Ba0 Bb0 Br0 HB0 
    obtain ⟨ya0, ya1, ya2, ya3⟩ := Ba1.out.four
    obtain ⟨yb0, yb1, yb2, yb3⟩ := Bb1.out.four
    obtain ⟨yr0, yr1, yr2, yr3⟩ := Br1.out.four
    go_wp2_with fail
    refine (MB.out _).mono ?_
    rintro e w2 ⟨rfl, hb⟩
    have Ba2 := Blk.on Ba1 hb
    have Bb2 := Blk.on Bb1 hb
    have Br2 := Blk.on Br1 hb
    have HB2 := hide (HB1.out.trans (hb.mono HB1.out.size))
    clear hb Ba1 Bb1 Br1 HB1 ya0 ya1 ya2 ya3 yb0 yb1 yb2 yb3 yr0 yr1 yr2 yr3
    obtain ⟨ya0, ya1, ya2, ya3⟩ := Ba2.out.four
    obtain ⟨yb0, yb1, yb2, yb3⟩ := Bb2.out.four
    obtain ⟨yr0, yr1, yr2, yr3⟩ := Br2.out.four
    have fr0 := Br2.out.free 0
    have fr1 := Br2.out.free 1
    have fr2 := Br2.out.free 2
    have fr3 := Br2.out.free 3
    go_wp2
    refine bodyPost_ret (results_dec2 rfl _ _ _ _ _ _ _ rfl (Br2.out.put4 _ _ _ _)) rfl ?_
    exact ⟨rfl, below_put4 (HB2.out) (by omega) _ _ _ _⟩
  )

set_option maxRecDepth 100000 in
set_option maxHeartbeats 4000000 in
theorem rmul_1z (na nb : Bool) (ta : ByteArray) (ea eb : Int) (w : World) (ma : ∀ W, Calls Tryz.prog 15 #[.agg #[.int .i64 1, .bool na, .string ta, .int .i64 ea]] W fun e w' => e = .returned (.bool true) ∧ Below W.heap.size W w') (mb : ∀ W, Calls Tryz.prog 15 #[.agg #[.int .i64 0, .bool nb, .string ⟨#[]⟩, .int .i64 eb]] W fun e w' => e = .returned (.bool true) ∧ Below W.heap.size W w')  : Calls Tryz.prog 31 #[.agg #[.int .i64 1, .bool na, .string ta, .int .i64 ea], .agg #[.int .i64 0, .bool nb, .string ⟨#[]⟩, .int .i64 eb]] w fun e w' => e = .returned (.tuple #[.agg #[.int .i64 2, .bool false, .string ⟨#[]⟩, .int .i64 0], .int .i64 0]) ∧ Below w.heap.size w w' := by
  have MA := hide ma
  clear ma
  have MB := hide mb
  clear mb
  have Ba0 := hide (((Blk.newAt w (w.heap.size) (rfl) #[.int .i64 1, .bool na, .string ta, .int .i64 ea] 23).alloc (.cells #[.int .i64 0, .bool nb, .string ⟨#[]⟩, .int .i64 eb] 23)).alloc (.cells #[.int .i64 0, .bool false, .string ⟨#[]⟩, .int .i64 0] 23))
  have Bb0 := hide ((Blk.newAt (w.alloc (.cells #[.int .i64 1, .bool na, .string ta, .int .i64 ea] 23)) (w.heap.size + 1) (by simp) #[.int .i64 0, .bool nb, .string ⟨#[]⟩, .int .i64 eb] 23).alloc (.cells #[.int .i64 0, .bool false, .string ⟨#[]⟩, .int .i64 0] 23))
  have Br0 := hide (Blk.newAt ((w.alloc (.cells #[.int .i64 1, .bool na, .string ta, .int .i64 ea] 23)).alloc (.cells #[.int .i64 0, .bool nb, .string ⟨#[]⟩, .int .i64 eb] 23)) (w.heap.size + 1 + 1) (by simp) #[.int .i64 0, .bool false, .string ⟨#[]⟩, .int .i64 0] 23)
  have HB0 : Hid (Below w.heap.size w (((w.alloc (.cells #[.int .i64 1, .bool na, .string ta, .int .i64 ea] 23)).alloc (.cells #[.int .i64 0, .bool nb, .string ⟨#[]⟩, .int .i64 eb] 23)).alloc (.cells #[.int .i64 0, .bool false, .string ⟨#[]⟩, .int .i64 0] 23))) := ((((Below.refl _ _).alloc (Nat.le_refl _) _).alloc (by simp <;> omega) _).alloc (by simp <;> omega) _)
  go_enter Tryz.func31, Tryz.ntmps31
  go_wp2_with fail
  all_goals try subst ‹ca = 0›
  all_goals try subst ‹cb = 0›
  all_goals (
    skip
    refine (MA.out _).mono ?_
    rintro e w1 ⟨rfl, hb⟩
    have Ba1 := Blk.on Ba0 hb
    have Bb1 := Blk.on Bb0 hb
    have Br1 := Blk.on Br0 hb
    have HB1 := hide (HB0.out.trans (hb.mono HB0.out.size))
    clear hb Ba0 Bb0 Br0 HB0 
    obtain ⟨ya0, ya1, ya2, ya3⟩ := Ba1.out.four
    obtain ⟨yb0, yb1, yb2, yb3⟩ := Bb1.out.four
    obtain ⟨yr0, yr1, yr2, yr3⟩ := Br1.out.four
    go_wp2_with fail
    refine (MB.out _).mono ?_
    rintro e w2 ⟨rfl, hb⟩
    have Ba2 := Blk.on Ba1 hb
    have Bb2 := Blk.on Bb1 hb
    have Br2 := Blk.on Br1 hb
    have HB2 := hide (HB1.out.trans (hb.mono HB1.out.size))
    clear hb Ba1 Bb1 Br1 HB1 ya0 ya1 ya2 ya3 yb0 yb1 yb2 yb3 yr0 yr1 yr2 yr3
    obtain ⟨ya0, ya1, ya2, ya3⟩ := Ba2.out.four
    obtain ⟨yb0, yb1, yb2, yb3⟩ := Bb2.out.four
    obtain ⟨yr0, yr1, yr2, yr3⟩ := Br2.out.four
    have fr0 := Br2.out.free 0
    have fr1 := Br2.out.free 1
    have fr2 := Br2.out.free 2
    have fr3 := Br2.out.free 3
    go_wp2
    refine bodyPost_ret (results_dec2 rfl _ _ _ _ _ _ _ rfl (Br2.out.put4 _ _ _ _)) rfl ?_
    exact ⟨rfl, below_put4 (HB2.out) (by omega) _ _ _ _⟩
  )

set_option maxRecDepth 100000 in
set_option maxHeartbeats 4000000 in
theorem rmul_z1 (na nb : Bool) (tb : ByteArray) (ea eb : Int) (w : World) (ma : ∀ W, Calls Tryz.prog 15 #[.agg #[.int .i64 0, .bool na, .string ⟨#[]⟩, .int .i64 ea]] W fun e w' => e = .returned (.bool true) ∧ Below W.heap.size W w') (mb : ∀ W, Calls Tryz.prog 15 #[.agg #[.int .i64 1, .bool nb, .string tb, .int .i64 eb]] W fun e w' => e = .returned (.bool true) ∧ Below W.heap.size W w')  : Calls Tryz.prog 31 #[.agg #[.int .i64 0, .bool na, .string ⟨#[]⟩, .int .i64 ea], .agg #[.int .i64 1, .bool nb, .string tb, .int .i64 eb]] w fun e w' => e = .returned (.tuple #[.agg #[.int .i64 2, .bool false, .string ⟨#[]⟩, .int .i64 0], .int .i64 0]) ∧ Below w.heap.size w w' := by
  have MA := hide ma
  clear ma
  have MB := hide mb
  clear mb
  have Ba0 := hide (((Blk.newAt w (w.heap.size) (rfl) #[.int .i64 0, .bool na, .string ⟨#[]⟩, .int .i64 ea] 23).alloc (.cells #[.int .i64 1, .bool nb, .string tb, .int .i64 eb] 23)).alloc (.cells #[.int .i64 0, .bool false, .string ⟨#[]⟩, .int .i64 0] 23))
  have Bb0 := hide ((Blk.newAt (w.alloc (.cells #[.int .i64 0, .bool na, .string ⟨#[]⟩, .int .i64 ea] 23)) (w.heap.size + 1) (by simp) #[.int .i64 1, .bool nb, .string tb, .int .i64 eb] 23).alloc (.cells #[.int .i64 0, .bool false, .string ⟨#[]⟩, .int .i64 0] 23))
  have Br0 := hide (Blk.newAt ((w.alloc (.cells #[.int .i64 0, .bool na, .string ⟨#[]⟩, .int .i64 ea] 23)).alloc (.cells #[.int .i64 1, .bool nb, .string tb, .int .i64 eb] 23)) (w.heap.size + 1 + 1) (by simp) #[.int .i64 0, .bool false, .string ⟨#[]⟩, .int .i64 0] 23)
  have HB0 : Hid (Below w.heap.size w (((w.alloc (.cells #[.int .i64 0, .bool na, .string ⟨#[]⟩, .int .i64 ea] 23)).alloc (.cells #[.int .i64 1, .bool nb, .string tb, .int .i64 eb] 23)).alloc (.cells #[.int .i64 0, .bool false, .string ⟨#[]⟩, .int .i64 0] 23))) := ((((Below.refl _ _).alloc (Nat.le_refl _) _).alloc (by simp <;> omega) _).alloc (by simp <;> omega) _)
  go_enter Tryz.func31, Tryz.ntmps31
  go_wp2_with fail
  all_goals try subst ‹ca = 0›
  all_goals try subst ‹cb = 0›
  all_goals (
    skip
    refine (MA.out _).mono ?_
    rintro e w1 ⟨rfl, hb⟩
    have Ba1 := Blk.on Ba0 hb
    have Bb1 := Blk.on Bb0 hb
    have Br1 := Blk.on Br0 hb
    have HB1 := hide (HB0.out.trans (hb.mono HB0.out.size))
    clear hb Ba0 Bb0 Br0 HB0 
    obtain ⟨ya0, ya1, ya2, ya3⟩ := Ba1.out.four
    obtain ⟨yb0, yb1, yb2, yb3⟩ := Bb1.out.four
    obtain ⟨yr0, yr1, yr2, yr3⟩ := Br1.out.four
    go_wp2_with fail
    refine (MB.out _).mono ?_
    rintro e w2 ⟨rfl, hb⟩
    have Ba2 := Blk.on Ba1 hb
    have Bb2 := Blk.on Bb1 hb
    have Br2 := Blk.on Br1 hb
    have HB2 := hide (HB1.out.trans (hb.mono HB1.out.size))
    clear hb Ba1 Bb1 Br1 HB1 ya0 ya1 ya2 ya3 yb0 yb1 yb2 yb3 yr0 yr1 yr2 yr3
    obtain ⟨ya0, ya1, ya2, ya3⟩ := Ba2.out.four
    obtain ⟨yb0, yb1, yb2, yb3⟩ := Bb2.out.four
    obtain ⟨yr0, yr1, yr2, yr3⟩ := Br2.out.four
    have fr0 := Br2.out.free 0
    have fr1 := Br2.out.free 1
    have fr2 := Br2.out.free 2
    have fr3 := Br2.out.free 3
    go_wp2
    refine bodyPost_ret (results_dec2 rfl _ _ _ _ _ _ _ rfl (Br2.out.put4 _ _ _ _)) rfl ?_
    exact ⟨rfl, below_put4 (HB2.out) (by omega) _ _ _ _⟩
  )

set_option maxRecDepth 100000 in
set_option maxHeartbeats 4000000 in
theorem rmul_1f (na nb : Bool) (ta : ByteArray) (tb : ByteArray) (ea eb : Int) (w : World) (ma : ∀ W, Calls Tryz.prog 15 #[.agg #[.int .i64 1, .bool na, .string ta, .int .i64 ea]] W fun e w' => e = .returned (.bool true) ∧ Below W.heap.size W w') (mb : ∀ W, Calls Tryz.prog 15 #[.agg #[.int .i64 0, .bool nb, .string tb, .int .i64 eb]] W fun e w' => e = .returned (.bool true) ∧ Below W.heap.size W w') (h : tb.size ≠ 0) : Calls Tryz.prog 31 #[.agg #[.int .i64 1, .bool na, .string ta, .int .i64 ea], .agg #[.int .i64 0, .bool nb, .string tb, .int .i64 eb]] w fun e w' => e = .returned (.tuple #[.agg #[.int .i64 1, .bool (na != nb), .string ⟨#[]⟩, .int .i64 0], .int .i64 0]) ∧ Below w.heap.size w w' := by
  have MA := hide ma
  clear ma
  have MB := hide mb
  clear mb
  have h2 := toList_ne h
  clear h
  have Ba0 := hide (((Blk.newAt w (w.heap.size) (rfl) #[.int .i64 1, .bool na, .string ta, .int .i64 ea] 23).alloc (.cells #[.int .i64 0, .bool nb, .string tb, .int .i64 eb] 23)).alloc (.cells #[.int .i64 0, .bool false, .string ⟨#[]⟩, .int .i64 0] 23))
  have Bb0 := hide ((Blk.newAt (w.alloc (.cells #[.int .i64 1, .bool na, .string ta, .int .i64 ea] 23)) (w.heap.size + 1) (by simp) #[.int .i64 0, .bool nb, .string tb, .int .i64 eb] 23).alloc (.cells #[.int .i64 0, .bool false, .string ⟨#[]⟩, .int .i64 0] 23))
  have Br0 := hide (Blk.newAt ((w.alloc (.cells #[.int .i64 1, .bool na, .string ta, .int .i64 ea] 23)).alloc (.cells #[.int .i64 0, .bool nb, .string tb, .int .i64 eb] 23)) (w.heap.size + 1 + 1) (by simp) #[.int .i64 0, .bool false, .string ⟨#[]⟩, .int .i64 0] 23)
  have HB0 : Hid (Below w.heap.size w (((w.alloc (.cells #[.int .i64 1, .bool na, .string ta, .int .i64 ea] 23)).alloc (.cells #[.int .i64 0, .bool nb, .string tb, .int .i64 eb] 23)).alloc (.cells #[.int .i64 0, .bool false, .string ⟨#[]⟩, .int .i64 0] 23))) := ((((Below.refl _ _).alloc (Nat.le_refl _) _).alloc (by simp <;> omega) _).alloc (by simp <;> omega) _)
  go_enter Tryz.func31, Tryz.ntmps31
  go_wp2_with fail
  all_goals try subst ‹ca = 0›
  all_goals try subst ‹cb = 0›
  all_goals (
    skip
    refine (MA.out _).mono ?_
    rintro e w1 ⟨rfl, hb⟩
    have Ba1 := Blk.on Ba0 hb
    have Bb1 := Blk.on Bb0 hb
    have Br1 := Blk.on Br0 hb
    have HB1 := hide (HB0.out.trans (hb.mono HB0.out.size))
    clear hb Ba0 Bb0 Br0 HB0 
    obtain ⟨ya0, ya1, ya2, ya3⟩ := Ba1.out.four
    obtain ⟨yb0, yb1, yb2, yb3⟩ := Bb1.out.four
    obtain ⟨yr0, yr1, yr2, yr3⟩ := Br1.out.four
    go_wp2_with fail
    refine (MB.out _).mono ?_
    rintro e w2 ⟨rfl, hb⟩
    have Ba2 := Blk.on Ba1 hb
    have Bb2 := Blk.on Bb1 hb
    have Br2 := Blk.on Br1 hb
    have HB2 := hide (HB1.out.trans (hb.mono HB1.out.size))
    clear hb Ba1 Bb1 Br1 HB1 ya0 ya1 ya2 ya3 yb0 yb1 yb2 yb3 yr0 yr1 yr2 yr3
    obtain ⟨ya0, ya1, ya2, ya3⟩ := Ba2.out.four
    obtain ⟨yb0, yb1, yb2, yb3⟩ := Bb2.out.four
    obtain ⟨yr0, yr1, yr2, yr3⟩ := Br2.out.four
    have fr0 := Br2.out.free 0
    have fr1 := Br2.out.free 1
    have fr2 := Br2.out.free 2
    have fr3 := Br2.out.free 3
    go_wp2
    refine bodyPost_ret (results_dec2 rfl _ _ _ _ _ _ _ rfl (Br2.out.put4 _ _ _ _)) rfl ?_
    exact ⟨rfl, below_put4 (HB2.out) (by omega) _ _ _ _⟩
  )

set_option maxRecDepth 100000 in
set_option maxHeartbeats 4000000 in
theorem rmul_f1 (na nb : Bool) (ta : ByteArray) (tb : ByteArray) (ea eb : Int) (w : World) (ma : ∀ W, Calls Tryz.prog 15 #[.agg #[.int .i64 0, .bool na, .string ta, .int .i64 ea]] W fun e w' => e = .returned (.bool true) ∧ Below W.heap.size W w') (mb : ∀ W, Calls Tryz.prog 15 #[.agg #[.int .i64 1, .bool nb, .string tb, .int .i64 eb]] W fun e w' => e = .returned (.bool true) ∧ Below W.heap.size W w') (h : ta.size ≠ 0) : Calls Tryz.prog 31 #[.agg #[.int .i64 0, .bool na, .string ta, .int .i64 ea], .agg #[.int .i64 1, .bool nb, .string tb, .int .i64 eb]] w fun e w' => e = .returned (.tuple #[.agg #[.int .i64 1, .bool (na != nb), .string ⟨#[]⟩, .int .i64 0], .int .i64 0]) ∧ Below w.heap.size w w' := by
  have MA := hide ma
  clear ma
  have MB := hide mb
  clear mb
  have h2 := toList_ne h
  clear h
  have Ba0 := hide (((Blk.newAt w (w.heap.size) (rfl) #[.int .i64 0, .bool na, .string ta, .int .i64 ea] 23).alloc (.cells #[.int .i64 1, .bool nb, .string tb, .int .i64 eb] 23)).alloc (.cells #[.int .i64 0, .bool false, .string ⟨#[]⟩, .int .i64 0] 23))
  have Bb0 := hide ((Blk.newAt (w.alloc (.cells #[.int .i64 0, .bool na, .string ta, .int .i64 ea] 23)) (w.heap.size + 1) (by simp) #[.int .i64 1, .bool nb, .string tb, .int .i64 eb] 23).alloc (.cells #[.int .i64 0, .bool false, .string ⟨#[]⟩, .int .i64 0] 23))
  have Br0 := hide (Blk.newAt ((w.alloc (.cells #[.int .i64 0, .bool na, .string ta, .int .i64 ea] 23)).alloc (.cells #[.int .i64 1, .bool nb, .string tb, .int .i64 eb] 23)) (w.heap.size + 1 + 1) (by simp) #[.int .i64 0, .bool false, .string ⟨#[]⟩, .int .i64 0] 23)
  have HB0 : Hid (Below w.heap.size w (((w.alloc (.cells #[.int .i64 0, .bool na, .string ta, .int .i64 ea] 23)).alloc (.cells #[.int .i64 1, .bool nb, .string tb, .int .i64 eb] 23)).alloc (.cells #[.int .i64 0, .bool false, .string ⟨#[]⟩, .int .i64 0] 23))) := ((((Below.refl _ _).alloc (Nat.le_refl _) _).alloc (by simp <;> omega) _).alloc (by simp <;> omega) _)
  go_enter Tryz.func31, Tryz.ntmps31
  go_wp2_with fail
  all_goals try subst ‹ca = 0›
  all_goals try subst ‹cb = 0›
  all_goals (
    skip
    refine (MA.out _).mono ?_
    rintro e w1 ⟨rfl, hb⟩
    have Ba1 := Blk.on Ba0 hb
    have Bb1 := Blk.on Bb0 hb
    have Br1 := Blk.on Br0 hb
    have HB1 := hide (HB0.out.trans (hb.mono HB0.out.size))
    clear hb Ba0 Bb0 Br0 HB0 
    obtain ⟨ya0, ya1, ya2, ya3⟩ := Ba1.out.four
    obtain ⟨yb0, yb1, yb2, yb3⟩ := Bb1.out.four
    obtain ⟨yr0, yr1, yr2, yr3⟩ := Br1.out.four
    go_wp2_with fail
    refine (MB.out _).mono ?_
    rintro e w2 ⟨rfl, hb⟩
    have Ba2 := Blk.on Ba1 hb
    have Bb2 := Blk.on Bb1 hb
    have Br2 := Blk.on Br1 hb
    have HB2 := hide (HB1.out.trans (hb.mono HB1.out.size))
    clear hb Ba1 Bb1 Br1 HB1 ya0 ya1 ya2 ya3 yb0 yb1 yb2 yb3 yr0 yr1 yr2 yr3
    obtain ⟨ya0, ya1, ya2, ya3⟩ := Ba2.out.four
    obtain ⟨yb0, yb1, yb2, yb3⟩ := Bb2.out.four
    obtain ⟨yr0, yr1, yr2, yr3⟩ := Br2.out.four
    have fr0 := Br2.out.free 0
    have fr1 := Br2.out.free 1
    have fr2 := Br2.out.free 2
    have fr3 := Br2.out.free 3
    go_wp2
    refine bodyPost_ret (results_dec2 rfl _ _ _ _ _ _ _ rfl (Br2.out.put4 _ _ _ _)) rfl ?_
    exact ⟨rfl, below_put4 (HB2.out) (by omega) _ _ _ _⟩
  )

end Go.Proofs.YtafljhfamjabeaaGreatDoor

namespace Go.Proofs.YtafljhfamjabeaaGreatDoor
open Go.RowKit

end Go.Proofs.YtafljhfamjabeaaGreatDoor

namespace Go.Proofs.YtafljhfamjabeaaGreatDoor

/-- The first of two that is not 0. -/
def orI (x y : Int) : Int := if x = 0 then y else x

/-- What rank answers. -/
def rankI (d : DecT) : Int := if d.cls = 2 then 3 else if d.cls = 1 then (if d.neg then -2 else 2) else if d.dig = [] then 0 else if d.neg then -1 else 1

theorem cmpI_lt {x y : Int} (h : x < y) : cmpI x y = -1 := by unfold cmpI; rw [if_pos h]
theorem cmpI_gt {x y : Int} (h : y < x) : cmpI x y = 1 := by unfold cmpI; rw [if_neg (by omega), if_pos h]
theorem cmpI_self (x : Int) : cmpI x x = 0 := by unfold cmpI; rw [if_neg (by omega), if_neg (by omega)]
theorem cI_lt {x y : Int} (h : x < y) : Lib.compareInt x y = -1 := by unfold Lib.compareInt; rw [if_pos h]
theorem cI_gt {x y : Int} (h : y < x) : Lib.compareInt x y = 1 := by unfold Lib.compareInt; rw [if_neg (by omega), if_pos (by omega)]
theorem cI_eq {x y : Int} (h : x = y) : Lib.compareInt x y = 0 := by unfold Lib.compareInt; rw [if_neg (by omega), if_neg (by omega)]

theorem fin_cmp {a b : DecT} (ha : Fin a) (hb : Fin b) : orI (Lib.compareInt ((a.dig.length : Int) + a.exp) ((b.dig.length : Int) + b.exp)) (Lib.compareBytes a.dig b.dig) = cmpI (amt a.dig a.exp : Int) (amt b.dig b.exp : Int) := by
  have far : ∀ {x y : DecT}, Fin x → Fin y → (x.dig.length : Int) + x.exp < (y.dig.length : Int) + y.exp → amt x.dig x.exp < amt y.dig y.exp := by
    intro x y hx hy h
    refine Nat.lt_of_lt_of_le hx.amt_lt (Nat.le_trans ?_ hy.amt_ge)
    have := hx.lo
    exact Nat.pow_le_pow_right (by omega) (by omega)
  rcases Int.lt_trichotomy ((a.dig.length : Int) + a.exp) ((b.dig.length : Int) + b.exp) with h | h | h
  · have := far ha hb h
    rw [cI_lt h, cmpI_lt (by omega)]; rfl
  · rw [cI_eq h, show orI 0 (Lib.compareBytes a.dig b.dig) = Lib.compareBytes a.dig b.dig from rfl]
    rw [cmp_bytes a.dig b.dig 1000 ha.dig hb.dig (fun _ => ha.last) (fun _ => hb.last) ha.len hb.len]
    have la := ha.len
    have lb := hb.len
    have lo := ha.lo
    have ea : amt a.dig a.exp = decV a.dig * 10 ^ (1000 - a.dig.length) * 10 ^ ((a.dig.length : Int) + a.exp + 8000).toNat := by
      unfold amt
      rw [Nat.mul_assoc, ← Nat.pow_add]
      congr 2; omega
    have eb : amt b.dig b.exp = decV b.dig * 10 ^ (1000 - b.dig.length) * 10 ^ ((a.dig.length : Int) + a.exp + 8000).toNat := by
      unfold amt
      rw [Nat.mul_assoc, ← Nat.pow_add]
      congr 2; omega
    rw [ea, eb, Int.natCast_mul (decV a.dig * 10 ^ (1000 - a.dig.length)), Int.natCast_mul (decV b.dig * 10 ^ (1000 - b.dig.length)), cmpI_mul _ _ (Nat.pow_pos (by omega))]
  · have := far hb ha h
    rw [cI_gt h, cmpI_gt (by omega)]; rfl

/-- Where a Dec stands, by its rank. -/
theorem rank_w {d : DecT} (h : May d) : (rankI d = 3 ∧ wD d = (topNN : Int)) ∨ (rankI d = 2 ∧ wD d = (topN : Int)) ∨ (rankI d = -2 ∧ wD d = -(topN : Int)) ∨ (rankI d = 0 ∧ wD d = 0) ∨ (rankI d = 1 ∧ 0 < wD d ∧ wD d < (topN : Int)) ∨ (rankI d = -1 ∧ -(topN : Int) < wD d ∧ wD d < 0) := by
  rcases may_cases h with ⟨n, rfl⟩ | h | ⟨n, rfl⟩ | rfl
  · refine .inr (.inr (.inr (.inl ⟨by simp [rankI], ?_⟩)))
    simp only [wD, vD, amt, decV, List.foldl_nil, Nat.zero_mul, zD_zero]
    simp
  · have h1 := h.amt_pos
    have h2 := h.amt_top
    have hw : wD d = zD d.neg (amt d.dig d.exp) := by unfold wD vD; rw [h.cls]; simp
    cases hn : d.neg
    · rw [hn] at hw
      refine .inr (.inr (.inr (.inr (.inl ⟨by simp [rankI, h.cls, h.ne, hn], ?_⟩))))
      rw [hw]; simp only [zD]; simp; omega
    · rw [hn] at hw
      refine .inr (.inr (.inr (.inr (.inr ⟨by simp [rankI, h.cls, h.ne, hn], ?_⟩))))
      rw [hw]; simp only [zD]; simp; omega
  · cases n
    · exact .inr (.inl ⟨by simp [rankI], by simp [wD, zD]⟩)
    · exact .inr (.inr (.inl ⟨by simp [rankI], by simp [wD, zD]⟩))
  · exact .inl ⟨by simp [rankI], by simp [wD]⟩

theorem top_pos : 0 < topN := by decide +kernel

theorem rank_lt {a b : DecT} (ha : May a) (hb : May b) (h : rankI a < rankI b) : wD a < wD b := by
  have h1 := rank_w ha
  have h2 := rank_w hb
  have t1 := top_lt
  have t2 := top_pos
  generalize rankI a = ra at *
  generalize rankI b = rb at *
  generalize wD a = x at *
  generalize wD b = y at *
  generalize topN = T at *
  generalize topNN = U at *
  omega

theorem rank_cmp {a b : DecT} (ha : May a) (hb : May b) (h : Lib.compareInt (rankI a) (rankI b) ≠ 0) : Lib.compareInt (rankI a) (rankI b) = cmpI (wD a) (wD b) := by
  rcases Int.lt_trichotomy (rankI a) (rankI b) with e | e | e
  · rw [cI_lt e, cmpI_lt (rank_lt ha hb e)]
  · exact absurd (cI_eq e) h
  · rw [cI_gt e, cmpI_gt (rank_lt hb ha e)]

theorem rank_same {a b : DecT} (h : Lib.compareInt (rankI a) (rankI b) = 0) : rankI a = rankI b := by
  rcases Int.lt_trichotomy (rankI a) (rankI b) with e | e | e
  · rw [cI_lt e] at h; cases h
  · exact e
  · rw [cI_gt e] at h; cases h

/-- What cmpAmounts answers. -/
def amtI (a b : DecT) : Int := orI (Lib.compareInt ((a.dig.length : Int) + a.exp) ((b.dig.length : Int) + b.exp)) (Lib.compareBytes a.dig b.dig)

theorem same_cmp {a b : DecT} (ha : May a) (hb : May b) (h : rankI a = rankI b) : (if a.neg then amtI b a else amtI a b) = cmpI (wD a) (wD b) := by
  have nil : ∀ {x : DecT}, May x → ¬ Fin x → x.dig = [] ∧ x.exp = 0 := by
    intro x hx hn
    rcases may_cases hx with ⟨n, rfl⟩ | h | ⟨n, rfl⟩ | rfl
    · exact ⟨rfl, rfl⟩
    · exact absurd h hn
    · exact ⟨rfl, rfl⟩
    · exact ⟨rfl, rfl⟩
  have fr : ∀ {x : DecT}, Fin x → rankI x = if x.neg then -1 else 1 := by
    intro x hx; simp [rankI, hx.cls, hx.ne]
  have nr : ∀ {x : DecT}, May x → ¬ Fin x → rankI x ≠ 1 ∧ rankI x ≠ -1 := by
    intro x hx hn
    rcases may_cases hx with ⟨n, rfl⟩ | h | ⟨n, rfl⟩ | rfl
    · simp [rankI]
    · exact absurd h hn
    · cases n <;> simp [rankI]
    · simp [rankI]
  by_cases fa : Fin a
  · by_cases fb : Fin b
    · rw [fr fa, fr fb] at h
      have wa : wD a = zD a.neg (amt a.dig a.exp) := by unfold wD vD; rw [fa.cls]; simp
      have wb : wD b = zD b.neg (amt b.dig b.exp) := by unfold wD vD; rw [fb.cls]; simp
      cases hn : a.neg <;> cases hm : b.neg <;> rw [hn, hm] at h
      · rw [wa, wb, hn, hm]
        exact fin_cmp fa fb
      · simp at h
      · simp at h
      · rw [wa, wb, hn, hm]
        simp only [if_true, zD]
        rw [cmpI_neg]
        exact fin_cmp fb fa
    · have h1 := nr hb fb
      rw [fr fa] at h
      cases hn : a.neg <;> rw [hn] at h <;> simp at h <;> omega
  · by_cases fb : Fin b
    · have h1 := nr ha fa
      rw [fr fb] at h
      cases hn : b.neg <;> rw [hn] at h <;> simp at h <;> omega
    · obtain ⟨e1, e2⟩ := nil ha fa
      obtain ⟨e3, e4⟩ := nil hb fb
      have hw : wD a = wD b := by
        have h1 := rank_w ha
        have h2 := rank_w hb
        have h3 := nr ha fa
        have h4 := nr hb fb
        generalize rankI a = ra at *
        generalize rankI b = rb at *
        omega
      rw [hw, cmpI_self]
      unfold amtI
      rw [e1, e2, e3, e4]
      simp [orI, Lib.compareInt, Lib.compareBytes]

end Go.Proofs.YtafljhfamjabeaaGreatDoor

namespace Go.Proofs.YtafljhfamjabeaaGreatDoor
open Go.RowKit

end Go.Proofs.YtafljhfamjabeaaGreatDoor

namespace Go.Proofs.YtafljhfamjabeaaGreatDoor
open Go.RowKit

theorem zv_mul10 (z : Int) (k : Nat) : zv (decide (z < 0)) (z.natAbs * 10 ^ k) = z * ((10 ^ k : Nat) : Int) := by
  unfold zv
  by_cases h : z < 0
  · rw [decide_eq_true h, if_pos rfl, Int.natCast_mul, show ((z.natAbs : Nat) : Int) = -z by omega, Int.neg_mul, Int.neg_neg]
  · rw [decide_eq_false h, if_neg (by simp), Int.natCast_mul, show ((z.natAbs : Nat) : Int) = z by omega]

end Go.Proofs.YtafljhfamjabeaaGreatDoor

namespace Go.Proofs.YtafljhfamjabeaaGreatDoor
open Go.RowKit

set_option maxRecDepth 100000 in
set_option maxHeartbeats 4000000 in
theorem radd_fin_true (nb : Bool) (ta tb : ByteArray) (ea eb : Int) (ka kb : Nat) (z : Int) (w : World) (ma : ∀ W, Calls Tryz.prog 15 #[.agg #[.int .i64 0, .bool true, .string ta, .int .i64 ea]] W fun e w' => e = .returned (.bool true) ∧ Below W.heap.size W w') (mb : ∀ W, Calls Tryz.prog 15 #[.agg #[.int .i64 0, .bool nb, .string tb, .int .i64 eb]] W fun e w' => e = .returned (.bool true) ∧ Below W.heap.size W w') (ha1 : ta.size ≤ 1000) (hb1 : tb.size ≤ 1000) (da : DigB (bys ta)) (db : DigB (bys tb)) (hE : -3000 ≤ min ea eb ∧ min ea eb ≤ 3000) (hka : ea - min ea eb = (ka : Int)) (hkb : eb - min ea eb = (kb : Int)) (hka2 : ka ≤ 8192) (hkb2 : kb ≤ 8192) (hz : (zv true (decV (bys ta))) * ((10 ^ ka : Nat) : Int) + (zv nb (decV (bys tb))) * ((10 ^ kb : Nat) : Int) = z) (hsz : sizeN z.natAbs ≤ 20000) : Calls Tryz.prog 29 #[.agg #[.int .i64 0, .bool true, .string ta, .int .i64 ea], .agg #[.int .i64 0, .bool nb, .string tb, .int .i64 eb]] w fun e w' => e = .returned (decErr (tellF (if z = 0 then nb else decide (z < 0)) z.natAbs (min ea eb))) ∧ Below w.heap.size w w' := by
  have MA := hide ma
  have MB := hide mb
  have DA := hide da
  have DB := hide db
  have HA := hide ha1
  have HB := hide hb1
  have KA := hide hka
  have KB := hide hkb
  have KA2 := hide hka2
  have KB2 := hide hkb2
  have HZ := hide hz
  have HSZ := hide hsz
  have hEE : -3000 ≤ min ea eb ∧ min ea eb ≤ 3000 := hE
  have HE := hide hEE
  obtain ⟨M, hM⟩ : ∃ M, M = min ea eb := ⟨_, rfl⟩
  rw [← hM]
  rcases hTF : tellF (if z = 0 then nb else decide (z < 0)) z.natAbs M with ⟨⟨cc, nn, ll, ee⟩, er⟩
  obtain ⟨D, hD⟩ : ∃ D : ByteArray, D = ⟨ll.toArray⟩ := ⟨_, rfl⟩
  have HTF := hide hTF
  have HD := hide hD
  have HM := hide hM
  have EQ : Hid (Ending.returned (.tuple #[.agg #[.int .i64 (cc : Int), .bool nn, .string D, .int .i64 ee], .int .i64 er]) = Ending.returned (decErr (⟨cc, nn, ll, ee⟩, er))) := by show _ = _; rw [hD]; rfl
  clear ma mb da db ha1 hb1 hka hkb hka2 hkb2 hz hsz hE hEE hM hTF hD
  have Ba0 := hide (((Blk.newAt w (w.heap.size) (rfl) #[.int .i64 0, .bool true, .string ta, .int .i64 ea] 23).alloc (.cells #[.int .i64 0, .bool nb, .string tb, .int .i64 eb] 23)).alloc (.cells #[.int .i64 0, .bool false, .string ⟨#[]⟩, .int .i64 0] 23))
  have Bb0 := hide ((Blk.newAt (w.alloc (.cells #[.int .i64 0, .bool true, .string ta, .int .i64 ea] 23)) (w.heap.size + 1) (by simp) #[.int .i64 0, .bool nb, .string tb, .int .i64 eb] 23).alloc (.cells #[.int .i64 0, .bool false, .string ⟨#[]⟩, .int .i64 0] 23))
  have Br0 := hide (Blk.newAt ((w.alloc (.cells #[.int .i64 0, .bool true, .string ta, .int .i64 ea] 23)).alloc (.cells #[.int .i64 0, .bool nb, .string tb, .int .i64 eb] 23)) (w.heap.size + 1 + 1) (by simp) #[.int .i64 0, .bool false, .string ⟨#[]⟩, .int .i64 0] 23)
  have HB0 : Hid (Below w.heap.size w (((w.alloc (.cells #[.int .i64 0, .bool true, .string ta, .int .i64 ea] 23)).alloc (.cells #[.int .i64 0, .bool nb, .string tb, .int .i64 eb] 23)).alloc (.cells #[.int .i64 0, .bool false, .string ⟨#[]⟩, .int .i64 0] 23))) := ((((Below.refl _ _).alloc (Nat.le_refl _) _).alloc (by simp <;> omega) _).alloc (by simp <;> omega) _)
  go_enter Tryz.func29, Tryz.ntmps29
  go_wp2_with fail
  refine (MA.out _).mono ?_
  rintro e w1 ⟨rfl, hb⟩
  have Ba1 := hide (Ba0.out.below hb Ba0.out.lt)
  have Bb1 := hide (Bb0.out.below hb Bb0.out.lt)
  have Br1 := hide (Br0.out.below hb Br0.out.lt)
  have HB1 := hide (HB0.out.trans (hb.mono HB0.out.size))
  clear hb Ba0 Bb0 Br0 HB0 
  have ya0 : w1.cell? ⟨w.heap.size, 0, none⟩ = some (.int .i64 0) := Ba1.out.cell 0
  have ya1 : w1.cell? ⟨w.heap.size, 1, none⟩ = some (.bool true) := Ba1.out.cell 1
  have ya2 : w1.cell? ⟨w.heap.size, 2, none⟩ = some (.string ta) := Ba1.out.cell 2
  have ya3 : w1.cell? ⟨w.heap.size, 3, none⟩ = some (.int .i64 ea) := Ba1.out.cell 3
  have yb0 : w1.cell? ⟨w.heap.size + 1, 0, none⟩ = some (.int .i64 0) := Bb1.out.cell 0
  have yb1 : w1.cell? ⟨w.heap.size + 1, 1, none⟩ = some (.bool nb) := Bb1.out.cell 1
  have yb2 : w1.cell? ⟨w.heap.size + 1, 2, none⟩ = some (.string tb) := Bb1.out.cell 2
  have yb3 : w1.cell? ⟨w.heap.size + 1, 3, none⟩ = some (.int .i64 eb) := Bb1.out.cell 3
  have yr0 : w1.cell? ⟨w.heap.size + 1 + 1, 0, none⟩ = some (.int .i64 0) := Br1.out.cell 0
  have yr1 : w1.cell? ⟨w.heap.size + 1 + 1, 1, none⟩ = some (.bool false) := Br1.out.cell 1
  have yr2 : w1.cell? ⟨w.heap.size + 1 + 1, 2, none⟩ = some (.string ⟨#[]⟩) := Br1.out.cell 2
  have yr3 : w1.cell? ⟨w.heap.size + 1 + 1, 3, none⟩ = some (.int .i64 0) := Br1.out.cell 3
  go_wp2_with fail
  refine (MB.out _).mono ?_
  rintro e w2 ⟨rfl, hb⟩
  have Ba2 := hide (Ba1.out.below hb Ba1.out.lt)
  have Bb2 := hide (Bb1.out.below hb Bb1.out.lt)
  have Br2 := hide (Br1.out.below hb Br1.out.lt)
  have HB2 := hide (HB1.out.trans (hb.mono HB1.out.size))
  clear hb Ba1 Bb1 Br1 HB1 ya0 ya1 ya2 ya3 yb0 yb1 yb2 yb3 yr0 yr1 yr2 yr3
  have ya0 : w2.cell? ⟨w.heap.size, 0, none⟩ = some (.int .i64 0) := Ba2.out.cell 0
  have ya1 : w2.cell? ⟨w.heap.size, 1, none⟩ = some (.bool true) := Ba2.out.cell 1
  have ya2 : w2.cell? ⟨w.heap.size, 2, none⟩ = some (.string ta) := Ba2.out.cell 2
  have ya3 : w2.cell? ⟨w.heap.size, 3, none⟩ = some (.int .i64 ea) := Ba2.out.cell 3
  have yb0 : w2.cell? ⟨w.heap.size + 1, 0, none⟩ = some (.int .i64 0) := Bb2.out.cell 0
  have yb1 : w2.cell? ⟨w.heap.size + 1, 1, none⟩ = some (.bool nb) := Bb2.out.cell 1
  have yb2 : w2.cell? ⟨w.heap.size + 1, 2, none⟩ = some (.string tb) := Bb2.out.cell 2
  have yb3 : w2.cell? ⟨w.heap.size + 1, 3, none⟩ = some (.int .i64 eb) := Bb2.out.cell 3
  have yr0 : w2.cell? ⟨w.heap.size + 1 + 1, 0, none⟩ = some (.int .i64 0) := Br2.out.cell 0
  have yr1 : w2.cell? ⟨w.heap.size + 1 + 1, 1, none⟩ = some (.bool false) := Br2.out.cell 1
  have yr2 : w2.cell? ⟨w.heap.size + 1 + 1, 2, none⟩ = some (.string ⟨#[]⟩) := Br2.out.cell 2
  have yr3 : w2.cell? ⟨w.heap.size + 1 + 1, 3, none⟩ = some (.int .i64 0) := Br2.out.cell 3
  obtain ⟨G, hG⟩ : ∃ G, G = w.heap.size + 1 + 1 := ⟨_, rfl⟩
  have gn0 : ¬ G = w.heap.size := by omega
  have gn1 : ¬ w.heap.size = G := by omega
  have gn2 : ¬ G = w.heap.size + 1 := by omega
  have gn3 : ¬ w.heap.size + 1 = G := by omega
  have gle : w.heap.size ≤ G := by omega
  rw [← hG] at Br2 yr0 yr1 yr2 yr3
  have HG := hide hG
  clear hG yr0 yr1 yr2 yr3
  have HC : Hid (∀ w', Below w2.heap.size w2 w' → w'.cell? ⟨w.heap.size, 0, none⟩ = some (.int .i64 0) ∧ w'.cell? ⟨w.heap.size, 1, none⟩ = some (.bool true) ∧ w'.cell? ⟨w.heap.size, 2, none⟩ = some (.string ta) ∧ w'.cell? ⟨w.heap.size, 3, none⟩ = some (.int .i64 ea) ∧ w'.cell? ⟨w.heap.size + 1, 0, none⟩ = some (.int .i64 0) ∧ w'.cell? ⟨w.heap.size + 1, 1, none⟩ = some (.bool nb) ∧ w'.cell? ⟨w.heap.size + 1, 2, none⟩ = some (.string tb) ∧ w'.cell? ⟨w.heap.size + 1, 3, none⟩ = some (.int .i64 eb) ∧ w'.cell? ⟨G, 0, none⟩ = some (.int .i64 0) ∧ w'.cell? ⟨G, 1, none⟩ = some (.bool false) ∧ w'.cell? ⟨G, 2, none⟩ = some (.string ⟨#[]⟩) ∧ w'.cell? ⟨G, 3, none⟩ = some (.int .i64 0) ∧ w'.frozen? ⟨G, 0, none⟩ = false ∧ w'.frozen? ⟨G, 1, none⟩ = false ∧ w'.frozen? ⟨G, 2, none⟩ = false ∧ w'.frozen? ⟨G, 3, none⟩ = false) := by
    intro w' hb
    have Baq := Ba2.out.below hb Ba2.out.lt
    have Bbq := Bb2.out.below hb Bb2.out.lt
    have Brq := Br2.out.below hb Br2.out.lt
    exact ⟨Baq.cell 0, Baq.cell 1, Baq.cell 2, Baq.cell 3, Bbq.cell 0, Bbq.cell 1, Bbq.cell 2, Bbq.cell 3, Brq.cell 0, Brq.cell 1, Brq.cell 2, Brq.cell 3, Brq.free 0, Brq.free 1, Brq.free 2, Brq.free 3⟩
  have C0 : Hid (∀ X, Hid (Below w2.heap.size w2 X) → Calls Tryz.prog 45 #[.agg #[.int .i64 0, .bool true, .string ta, .int .i64 ea]] X fun e w' => (∃ s o l c, e = .returned (.agg #[.bool s, .slice o l c, .int .i64 ea]) ∧ Hid (RI w' s o l c (zv true (decV (bys ta))) 1002 0)) ∧ Hid (Below X.heap.size X w') ∧ Hid (Below w2.heap.size w2 w') ∧ w'.cell? ⟨w.heap.size, 0, none⟩ = some (.int .i64 0) ∧ w'.cell? ⟨w.heap.size, 1, none⟩ = some (.bool true) ∧ w'.cell? ⟨w.heap.size, 2, none⟩ = some (.string ta) ∧ w'.cell? ⟨w.heap.size, 3, none⟩ = some (.int .i64 ea) ∧ w'.cell? ⟨w.heap.size + 1, 0, none⟩ = some (.int .i64 0) ∧ w'.cell? ⟨w.heap.size + 1, 1, none⟩ = some (.bool nb) ∧ w'.cell? ⟨w.heap.size + 1, 2, none⟩ = some (.string tb) ∧ w'.cell? ⟨w.heap.size + 1, 3, none⟩ = some (.int .i64 eb) ∧ w'.cell? ⟨G, 0, none⟩ = some (.int .i64 0) ∧ w'.cell? ⟨G, 1, none⟩ = some (.bool false) ∧ w'.cell? ⟨G, 2, none⟩ = some (.string ⟨#[]⟩) ∧ w'.cell? ⟨G, 3, none⟩ = some (.int .i64 0) ∧ w'.frozen? ⟨G, 0, none⟩ = false ∧ w'.frozen? ⟨G, 1, none⟩ = false ∧ w'.frozen? ⟨G, 2, none⟩ = false ∧ w'.frozen? ⟨G, 3, none⟩ = false) := by
    intro X bX
    refine (rnof 0 true ta ea X HA.out DA.out).mono ?_
    rintro e w' ⟨⟨s, o, l, c, rfl, hz⟩, hb⟩
    have bb := bX.out.trans (hb.mono bX.out.size)
    exact ⟨⟨s, o, l, c, rfl, hz.lo (Nat.zero_le _) (Nat.le_refl _)⟩, hb, bb, HC.out _ bb⟩
  have C1 : Hid (∀ X, Hid (Below w2.heap.size w2 X) → Calls Tryz.prog 45 #[.agg #[.int .i64 0, .bool nb, .string tb, .int .i64 eb]] X fun e w' => (∃ s o l c, e = .returned (.agg #[.bool s, .slice o l c, .int .i64 eb]) ∧ Hid (RI w' s o l c (zv nb (decV (bys tb))) 1002 0)) ∧ Hid (Below X.heap.size X w') ∧ Hid (Below w2.heap.size w2 w') ∧ w'.cell? ⟨w.heap.size, 0, none⟩ = some (.int .i64 0) ∧ w'.cell? ⟨w.heap.size, 1, none⟩ = some (.bool true) ∧ w'.cell? ⟨w.heap.size, 2, none⟩ = some (.string ta) ∧ w'.cell? ⟨w.heap.size, 3, none⟩ = some (.int .i64 ea) ∧ w'.cell? ⟨w.heap.size + 1, 0, none⟩ = some (.int .i64 0) ∧ w'.cell? ⟨w.heap.size + 1, 1, none⟩ = some (.bool nb) ∧ w'.cell? ⟨w.heap.size + 1, 2, none⟩ = some (.string tb) ∧ w'.cell? ⟨w.heap.size + 1, 3, none⟩ = some (.int .i64 eb) ∧ w'.cell? ⟨G, 0, none⟩ = some (.int .i64 0) ∧ w'.cell? ⟨G, 1, none⟩ = some (.bool false) ∧ w'.cell? ⟨G, 2, none⟩ = some (.string ⟨#[]⟩) ∧ w'.cell? ⟨G, 3, none⟩ = some (.int .i64 0) ∧ w'.frozen? ⟨G, 0, none⟩ = false ∧ w'.frozen? ⟨G, 1, none⟩ = false ∧ w'.frozen? ⟨G, 2, none⟩ = false ∧ w'.frozen? ⟨G, 3, none⟩ = false) := by
    intro X bX
    refine (rnof 0 nb tb eb X HB.out DB.out).mono ?_
    rintro e w' ⟨⟨s, o, l, c, rfl, hz⟩, hb⟩
    have bb := bX.out.trans (hb.mono bX.out.size)
    exact ⟨⟨s, o, l, c, rfl, hz.lo (Nat.zero_le _) (Nat.le_refl _)⟩, hb, bb, HC.out _ bb⟩
  have C2 : Hid (∀ X s1 o1 l1 c1 s2 o2 l2 c2, Hid (Below w2.heap.size w2 X) → Hid (RI X s1 o1 l1 c1 (zv true (decV (bys ta))) 1002 0) → Hid (RI X s2 o2 l2 c2 (zv nb (decV (bys tb))) 1002 0) → Calls Tryz.prog 48 #[.agg #[.bool s1, .slice o1 l1 c1, .int .i64 ea], .agg #[.bool s2, .slice o2 l2 c2, .int .i64 eb]] X fun e w' => (∃ s o l c, e = .returned (.agg #[.bool s, .slice o l c, .int .i64 M]) ∧ Hid (RI w' s o l c z 4003 0)) ∧ Hid (Below w2.heap.size w2 w') ∧ w'.cell? ⟨w.heap.size, 0, none⟩ = some (.int .i64 0) ∧ w'.cell? ⟨w.heap.size, 1, none⟩ = some (.bool true) ∧ w'.cell? ⟨w.heap.size, 2, none⟩ = some (.string ta) ∧ w'.cell? ⟨w.heap.size, 3, none⟩ = some (.int .i64 ea) ∧ w'.cell? ⟨w.heap.size + 1, 0, none⟩ = some (.int .i64 0) ∧ w'.cell? ⟨w.heap.size + 1, 1, none⟩ = some (.bool nb) ∧ w'.cell? ⟨w.heap.size + 1, 2, none⟩ = some (.string tb) ∧ w'.cell? ⟨w.heap.size + 1, 3, none⟩ = some (.int .i64 eb) ∧ w'.cell? ⟨G, 0, none⟩ = some (.int .i64 0) ∧ w'.cell? ⟨G, 1, none⟩ = some (.bool false) ∧ w'.cell? ⟨G, 2, none⟩ = some (.string ⟨#[]⟩) ∧ w'.cell? ⟨G, 3, none⟩ = some (.int .i64 0) ∧ w'.frozen? ⟨G, 0, none⟩ = false ∧ w'.frozen? ⟨G, 1, none⟩ = false ∧ w'.frozen? ⟨G, 2, none⟩ = false ∧ w'.frozen? ⟨G, 3, none⟩ = false) := by
    intro X s1 o1 l1 c1 s2 o2 l2 c2 bX h1 h2
    have g1 : s1 = decide ((zv true (decV (bys ta))) < 0) := by obtain ⟨_, _, _, _, g, _⟩ := h1.out; exact g
    have g2 : s2 = decide ((zv nb (decV (bys tb))) < 0) := by obtain ⟨_, _, _, _, g, _⟩ := h2.out; exact g
    have g := rsum_any s1 o1 l1 c1 ea _ ka s2 o2 l2 c2 eb _ kb 0 X KA.out KB.out KA2.out KB2.out h1.out h2.out
    rw [g1, g2, zv_mul10, zv_mul10, HZ.out, ← g1, ← g2, ← HM.out] at g
    refine g.mono ?_
    rintro e w' ⟨⟨s, o, l, c, rfl, hz⟩, hb⟩
    have bb := bX.out.trans (hb.mono bX.out.size)
    exact ⟨⟨s, o, l, c, rfl, hz⟩, bb, HC.out _ bb⟩
  have C3 : Hid (∀ X s o l c, Hid (Below w2.heap.size w2 X) → Hid (RI X s o l c z 4003 0) → Calls Tryz.prog 47 #[.agg #[.bool s, .slice o l c, .int .i64 M], .bool nb] X fun e w' => e = .returned (.tuple #[.agg #[.int .i64 (cc : Int), .bool nn, .string D, .int .i64 ee], .int .i64 er]) ∧ Hid (Below w2.heap.size w2 w') ∧ w'.cell? ⟨w.heap.size, 0, none⟩ = some (.int .i64 0) ∧ w'.cell? ⟨w.heap.size, 1, none⟩ = some (.bool true) ∧ w'.cell? ⟨w.heap.size, 2, none⟩ = some (.string ta) ∧ w'.cell? ⟨w.heap.size, 3, none⟩ = some (.int .i64 ea) ∧ w'.cell? ⟨w.heap.size + 1, 0, none⟩ = some (.int .i64 0) ∧ w'.cell? ⟨w.heap.size + 1, 1, none⟩ = some (.bool nb) ∧ w'.cell? ⟨w.heap.size + 1, 2, none⟩ = some (.string tb) ∧ w'.cell? ⟨w.heap.size + 1, 3, none⟩ = some (.int .i64 eb) ∧ w'.cell? ⟨G, 0, none⟩ = some (.int .i64 0) ∧ w'.cell? ⟨G, 1, none⟩ = some (.bool false) ∧ w'.cell? ⟨G, 2, none⟩ = some (.string ⟨#[]⟩) ∧ w'.cell? ⟨G, 3, none⟩ = some (.int .i64 0) ∧ w'.frozen? ⟨G, 0, none⟩ = false ∧ w'.frozen? ⟨G, 1, none⟩ = false ∧ w'.frozen? ⟨G, 2, none⟩ = false ∧ w'.frozen? ⟨G, 3, none⟩ = false) := by
    intro X s o l c bX h1
    have g := rtold_any s o l c M nb z 4003 0 X h1.out (by omega) HSZ.out (by have := HE.out; have := HM.out; omega) (by have := HE.out; have := HM.out; omega)
    rw [HTF.out, ← EQ.out] at g
    refine g.mono ?_
    rintro e w' ⟨rfl, hb⟩
    have bb := bX.out.trans (hb.mono bX.out.size)
    exact ⟨rfl, bb, HC.out _ bb⟩
  have BRF : Hid (∀ w', Below w2.heap.size w2 w' → Below w.heap.size w w' ∧ Blk w' G #[.int .i64 0, .bool false, .string ⟨#[]⟩, .int .i64 0] 23) := fun w' hb => ⟨HB2.out.trans (hb.mono HB2.out.size), Br2.out.below hb Br2.out.lt⟩
  have b0 : Hid (Below w2.heap.size w2 w2.drew) := bdrewD w2
  clear DA DB HA HB KA KB KA2 KB2 HZ HSZ HE HM HTF HD MA MB HC Ba2 Bb2 Br2 HB2
  go_wp2_with fail
  simp only [← HG.out]
  have mk0 : True := trivial
  go_region_held3 (fun w' => w'.cell? ⟨w.heap.size, 0, none⟩ = some (.int .i64 0) ∧ w'.cell? ⟨w.heap.size, 1, none⟩ = some (.bool true) ∧ w'.cell? ⟨w.heap.size, 2, none⟩ = some (.string ta) ∧ w'.cell? ⟨w.heap.size, 3, none⟩ = some (.int .i64 ea) ∧ w'.cell? ⟨w.heap.size + 1, 0, none⟩ = some (.int .i64 0) ∧ w'.cell? ⟨w.heap.size + 1, 1, none⟩ = some (.bool nb) ∧ w'.cell? ⟨w.heap.size + 1, 2, none⟩ = some (.string tb) ∧ w'.cell? ⟨w.heap.size + 1, 3, none⟩ = some (.int .i64 eb)) (go_keep) (first
    | (clear mk0; go_at_call 45; refine (C0.out _ b0).mono ?_; rintro e wa ⟨⟨s1, o1, l1, c1, rfl, Z1⟩, R1, b1, q0_0, q0_1, q0_2, q0_3, q0_4, q0_5, q0_6, q0_7, q0_8, q0_9, q0_10, q0_11, q0_12, q0_13, q0_14, q0_15⟩; have mk1 : True := trivial)
    | (clear mk1; go_at_call 45; refine (C1.out _ b1).mono ?_; rintro e wb ⟨⟨s2, o2, l2, c2, rfl, Z2⟩, R2, b2, q1_0, q1_1, q1_2, q1_3, q1_4, q1_5, q1_6, q1_7, q1_8, q1_9, q1_10, q1_11, q1_12, q1_13, q1_14, q1_15⟩; have Y1 := hide (Z1.out.below R2.out); clear Z1; have mk2 : True := trivial)
    | (clear mk2; go_at_call 48; refine (C2.out _ _ _ _ _ _ _ _ _ b2 Y1 Z2).mono ?_; rintro e wc ⟨⟨s3, o3, l3, c3, rfl, Z3⟩, b3, q2_0, q2_1, q2_2, q2_3, q2_4, q2_5, q2_6, q2_7, q2_8, q2_9, q2_10, q2_11, q2_12, q2_13, q2_14, q2_15⟩; have mk3 : True := trivial)
    | (clear mk3; go_at_call 47; refine (C3.out _ _ _ _ _ b3 Z3).mono ?_; rintro e wd ⟨rfl, b4, q3_0, q3_1, q3_2, q3_3, q3_4, q3_5, q3_6, q3_7, q3_8, q3_9, q3_10, q3_11, q3_12, q3_13, q3_14, q3_15⟩; have mk4 : True := trivial))
  obtain ⟨hbel, hblk⟩ := BRF.out _ b4.out
  have HBL := hide hbel
  have QR := hide hblk
  clear hbel hblk BRF b0 b1 b2 b3 b4 C0 C1 C2 C3
  repeat (first | go_values | go_skip | go_guarded | go_step | go_upon)
  refine bodyPost_ret (results_dec2 rfl _ _ _ _ _ _ _ rfl (QR.out.put4 _ _ _ _)) rfl ?_
  exact ⟨EQ.out, below_put4 HBL.out gle _ _ _ _⟩

set_option maxRecDepth 100000 in
set_option maxHeartbeats 4000000 in
theorem radd_fin_false (nb : Bool) (ta tb : ByteArray) (ea eb : Int) (ka kb : Nat) (z : Int) (w : World) (ma : ∀ W, Calls Tryz.prog 15 #[.agg #[.int .i64 0, .bool false, .string ta, .int .i64 ea]] W fun e w' => e = .returned (.bool true) ∧ Below W.heap.size W w') (mb : ∀ W, Calls Tryz.prog 15 #[.agg #[.int .i64 0, .bool nb, .string tb, .int .i64 eb]] W fun e w' => e = .returned (.bool true) ∧ Below W.heap.size W w') (ha1 : ta.size ≤ 1000) (hb1 : tb.size ≤ 1000) (da : DigB (bys ta)) (db : DigB (bys tb)) (hE : -3000 ≤ min ea eb ∧ min ea eb ≤ 3000) (hka : ea - min ea eb = (ka : Int)) (hkb : eb - min ea eb = (kb : Int)) (hka2 : ka ≤ 8192) (hkb2 : kb ≤ 8192) (hz : (zv false (decV (bys ta))) * ((10 ^ ka : Nat) : Int) + (zv nb (decV (bys tb))) * ((10 ^ kb : Nat) : Int) = z) (hsz : sizeN z.natAbs ≤ 20000) : Calls Tryz.prog 29 #[.agg #[.int .i64 0, .bool false, .string ta, .int .i64 ea], .agg #[.int .i64 0, .bool nb, .string tb, .int .i64 eb]] w fun e w' => e = .returned (decErr (tellF (if z = 0 then false else decide (z < 0)) z.natAbs (min ea eb))) ∧ Below w.heap.size w w' := by
  have MA := hide ma
  have MB := hide mb
  have DA := hide da
  have DB := hide db
  have HA := hide ha1
  have HB := hide hb1
  have KA := hide hka
  have KB := hide hkb
  have KA2 := hide hka2
  have KB2 := hide hkb2
  have HZ := hide hz
  have HSZ := hide hsz
  have hEE : -3000 ≤ min ea eb ∧ min ea eb ≤ 3000 := hE
  have HE := hide hEE
  obtain ⟨M, hM⟩ : ∃ M, M = min ea eb := ⟨_, rfl⟩
  rw [← hM]
  rcases hTF : tellF (if z = 0 then false else decide (z < 0)) z.natAbs M with ⟨⟨cc, nn, ll, ee⟩, er⟩
  obtain ⟨D, hD⟩ : ∃ D : ByteArray, D = ⟨ll.toArray⟩ := ⟨_, rfl⟩
  have HTF := hide hTF
  have HD := hide hD
  have HM := hide hM
  have EQ : Hid (Ending.returned (.tuple #[.agg #[.int .i64 (cc : Int), .bool nn, .string D, .int .i64 ee], .int .i64 er]) = Ending.returned (decErr (⟨cc, nn, ll, ee⟩, er))) := by show _ = _; rw [hD]; rfl
  clear ma mb da db ha1 hb1 hka hkb hka2 hkb2 hz hsz hE hEE hM hTF hD
  have Ba0 := hide (((Blk.newAt w (w.heap.size) (rfl) #[.int .i64 0, .bool false, .string ta, .int .i64 ea] 23).alloc (.cells #[.int .i64 0, .bool nb, .string tb, .int .i64 eb] 23)).alloc (.cells #[.int .i64 0, .bool false, .string ⟨#[]⟩, .int .i64 0] 23))
  have Bb0 := hide ((Blk.newAt (w.alloc (.cells #[.int .i64 0, .bool false, .string ta, .int .i64 ea] 23)) (w.heap.size + 1) (by simp) #[.int .i64 0, .bool nb, .string tb, .int .i64 eb] 23).alloc (.cells #[.int .i64 0, .bool false, .string ⟨#[]⟩, .int .i64 0] 23))
  have Br0 := hide (Blk.newAt ((w.alloc (.cells #[.int .i64 0, .bool false, .string ta, .int .i64 ea] 23)).alloc (.cells #[.int .i64 0, .bool nb, .string tb, .int .i64 eb] 23)) (w.heap.size + 1 + 1) (by simp) #[.int .i64 0, .bool false, .string ⟨#[]⟩, .int .i64 0] 23)
  have HB0 : Hid (Below w.heap.size w (((w.alloc (.cells #[.int .i64 0, .bool false, .string ta, .int .i64 ea] 23)).alloc (.cells #[.int .i64 0, .bool nb, .string tb, .int .i64 eb] 23)).alloc (.cells #[.int .i64 0, .bool false, .string ⟨#[]⟩, .int .i64 0] 23))) := ((((Below.refl _ _).alloc (Nat.le_refl _) _).alloc (by simp <;> omega) _).alloc (by simp <;> omega) _)
  go_enter Tryz.func29, Tryz.ntmps29
  go_wp2_with fail
  refine (MA.out _).mono ?_
  rintro e w1 ⟨rfl, hb⟩
  have Ba1 := hide (Ba0.out.below hb Ba0.out.lt)
  have Bb1 := hide (Bb0.out.below hb Bb0.out.lt)
  have Br1 := hide (Br0.out.below hb Br0.out.lt)
  have HB1 := hide (HB0.out.trans (hb.mono HB0.out.size))
  clear hb Ba0 Bb0 Br0 HB0 
  have ya0 : w1.cell? ⟨w.heap.size, 0, none⟩ = some (.int .i64 0) := Ba1.out.cell 0
  have ya1 : w1.cell? ⟨w.heap.size, 1, none⟩ = some (.bool false) := Ba1.out.cell 1
  have ya2 : w1.cell? ⟨w.heap.size, 2, none⟩ = some (.string ta) := Ba1.out.cell 2
  have ya3 : w1.cell? ⟨w.heap.size, 3, none⟩ = some (.int .i64 ea) := Ba1.out.cell 3
  have yb0 : w1.cell? ⟨w.heap.size + 1, 0, none⟩ = some (.int .i64 0) := Bb1.out.cell 0
  have yb1 : w1.cell? ⟨w.heap.size + 1, 1, none⟩ = some (.bool nb) := Bb1.out.cell 1
  have yb2 : w1.cell? ⟨w.heap.size + 1, 2, none⟩ = some (.string tb) := Bb1.out.cell 2
  have yb3 : w1.cell? ⟨w.heap.size + 1, 3, none⟩ = some (.int .i64 eb) := Bb1.out.cell 3
  have yr0 : w1.cell? ⟨w.heap.size + 1 + 1, 0, none⟩ = some (.int .i64 0) := Br1.out.cell 0
  have yr1 : w1.cell? ⟨w.heap.size + 1 + 1, 1, none⟩ = some (.bool false) := Br1.out.cell 1
  have yr2 : w1.cell? ⟨w.heap.size + 1 + 1, 2, none⟩ = some (.string ⟨#[]⟩) := Br1.out.cell 2
  have yr3 : w1.cell? ⟨w.heap.size + 1 + 1, 3, none⟩ = some (.int .i64 0) := Br1.out.cell 3
  go_wp2_with fail
  refine (MB.out _).mono ?_
  rintro e w2 ⟨rfl, hb⟩
  have Ba2 := hide (Ba1.out.below hb Ba1.out.lt)
  have Bb2 := hide (Bb1.out.below hb Bb1.out.lt)
  have Br2 := hide (Br1.out.below hb Br1.out.lt)
  have HB2 := hide (HB1.out.trans (hb.mono HB1.out.size))
  clear hb Ba1 Bb1 Br1 HB1 ya0 ya1 ya2 ya3 yb0 yb1 yb2 yb3 yr0 yr1 yr2 yr3
  have ya0 : w2.cell? ⟨w.heap.size, 0, none⟩ = some (.int .i64 0) := Ba2.out.cell 0
  have ya1 : w2.cell? ⟨w.heap.size, 1, none⟩ = some (.bool false) := Ba2.out.cell 1
  have ya2 : w2.cell? ⟨w.heap.size, 2, none⟩ = some (.string ta) := Ba2.out.cell 2
  have ya3 : w2.cell? ⟨w.heap.size, 3, none⟩ = some (.int .i64 ea) := Ba2.out.cell 3
  have yb0 : w2.cell? ⟨w.heap.size + 1, 0, none⟩ = some (.int .i64 0) := Bb2.out.cell 0
  have yb1 : w2.cell? ⟨w.heap.size + 1, 1, none⟩ = some (.bool nb) := Bb2.out.cell 1
  have yb2 : w2.cell? ⟨w.heap.size + 1, 2, none⟩ = some (.string tb) := Bb2.out.cell 2
  have yb3 : w2.cell? ⟨w.heap.size + 1, 3, none⟩ = some (.int .i64 eb) := Bb2.out.cell 3
  have yr0 : w2.cell? ⟨w.heap.size + 1 + 1, 0, none⟩ = some (.int .i64 0) := Br2.out.cell 0
  have yr1 : w2.cell? ⟨w.heap.size + 1 + 1, 1, none⟩ = some (.bool false) := Br2.out.cell 1
  have yr2 : w2.cell? ⟨w.heap.size + 1 + 1, 2, none⟩ = some (.string ⟨#[]⟩) := Br2.out.cell 2
  have yr3 : w2.cell? ⟨w.heap.size + 1 + 1, 3, none⟩ = some (.int .i64 0) := Br2.out.cell 3
  obtain ⟨G, hG⟩ : ∃ G, G = w.heap.size + 1 + 1 := ⟨_, rfl⟩
  have gn0 : ¬ G = w.heap.size := by omega
  have gn1 : ¬ w.heap.size = G := by omega
  have gn2 : ¬ G = w.heap.size + 1 := by omega
  have gn3 : ¬ w.heap.size + 1 = G := by omega
  have gle : w.heap.size ≤ G := by omega
  rw [← hG] at Br2 yr0 yr1 yr2 yr3
  have HG := hide hG
  clear hG yr0 yr1 yr2 yr3
  have HC : Hid (∀ w', Below w2.heap.size w2 w' → w'.cell? ⟨w.heap.size, 0, none⟩ = some (.int .i64 0) ∧ w'.cell? ⟨w.heap.size, 1, none⟩ = some (.bool false) ∧ w'.cell? ⟨w.heap.size, 2, none⟩ = some (.string ta) ∧ w'.cell? ⟨w.heap.size, 3, none⟩ = some (.int .i64 ea) ∧ w'.cell? ⟨w.heap.size + 1, 0, none⟩ = some (.int .i64 0) ∧ w'.cell? ⟨w.heap.size + 1, 1, none⟩ = some (.bool nb) ∧ w'.cell? ⟨w.heap.size + 1, 2, none⟩ = some (.string tb) ∧ w'.cell? ⟨w.heap.size + 1, 3, none⟩ = some (.int .i64 eb) ∧ w'.cell? ⟨G, 0, none⟩ = some (.int .i64 0) ∧ w'.cell? ⟨G, 1, none⟩ = some (.bool false) ∧ w'.cell? ⟨G, 2, none⟩ = some (.string ⟨#[]⟩) ∧ w'.cell? ⟨G, 3, none⟩ = some (.int .i64 0) ∧ w'.frozen? ⟨G, 0, none⟩ = false ∧ w'.frozen? ⟨G, 1, none⟩ = false ∧ w'.frozen? ⟨G, 2, none⟩ = false ∧ w'.frozen? ⟨G, 3, none⟩ = false) := by
    intro w' hb
    have Baq := Ba2.out.below hb Ba2.out.lt
    have Bbq := Bb2.out.below hb Bb2.out.lt
    have Brq := Br2.out.below hb Br2.out.lt
    exact ⟨Baq.cell 0, Baq.cell 1, Baq.cell 2, Baq.cell 3, Bbq.cell 0, Bbq.cell 1, Bbq.cell 2, Bbq.cell 3, Brq.cell 0, Brq.cell 1, Brq.cell 2, Brq.cell 3, Brq.free 0, Brq.free 1, Brq.free 2, Brq.free 3⟩
  have C0 : Hid (∀ X, Hid (Below w2.heap.size w2 X) → Calls Tryz.prog 45 #[.agg #[.int .i64 0, .bool false, .string ta, .int .i64 ea]] X fun e w' => (∃ s o l c, e = .returned (.agg #[.bool s, .slice o l c, .int .i64 ea]) ∧ Hid (RI w' s o l c (zv false (decV (bys ta))) 1002 0)) ∧ Hid (Below X.heap.size X w') ∧ Hid (Below w2.heap.size w2 w') ∧ w'.cell? ⟨w.heap.size, 0, none⟩ = some (.int .i64 0) ∧ w'.cell? ⟨w.heap.size, 1, none⟩ = some (.bool false) ∧ w'.cell? ⟨w.heap.size, 2, none⟩ = some (.string ta) ∧ w'.cell? ⟨w.heap.size, 3, none⟩ = some (.int .i64 ea) ∧ w'.cell? ⟨w.heap.size + 1, 0, none⟩ = some (.int .i64 0) ∧ w'.cell? ⟨w.heap.size + 1, 1, none⟩ = some (.bool nb) ∧ w'.cell? ⟨w.heap.size + 1, 2, none⟩ = some (.string tb) ∧ w'.cell? ⟨w.heap.size + 1, 3, none⟩ = some (.int .i64 eb) ∧ w'.cell? ⟨G, 0, none⟩ = some (.int .i64 0) ∧ w'.cell? ⟨G, 1, none⟩ = some (.bool false) ∧ w'.cell? ⟨G, 2, none⟩ = some (.string ⟨#[]⟩) ∧ w'.cell? ⟨G, 3, none⟩ = some (.int .i64 0) ∧ w'.frozen? ⟨G, 0, none⟩ = false ∧ w'.frozen? ⟨G, 1, none⟩ = false ∧ w'.frozen? ⟨G, 2, none⟩ = false ∧ w'.frozen? ⟨G, 3, none⟩ = false) := by
    intro X bX
    refine (rnof 0 false ta ea X HA.out DA.out).mono ?_
    rintro e w' ⟨⟨s, o, l, c, rfl, hz⟩, hb⟩
    have bb := bX.out.trans (hb.mono bX.out.size)
    exact ⟨⟨s, o, l, c, rfl, hz.lo (Nat.zero_le _) (Nat.le_refl _)⟩, hb, bb, HC.out _ bb⟩
  have C1 : Hid (∀ X, Hid (Below w2.heap.size w2 X) → Calls Tryz.prog 45 #[.agg #[.int .i64 0, .bool nb, .string tb, .int .i64 eb]] X fun e w' => (∃ s o l c, e = .returned (.agg #[.bool s, .slice o l c, .int .i64 eb]) ∧ Hid (RI w' s o l c (zv nb (decV (bys tb))) 1002 0)) ∧ Hid (Below X.heap.size X w') ∧ Hid (Below w2.heap.size w2 w') ∧ w'.cell? ⟨w.heap.size, 0, none⟩ = some (.int .i64 0) ∧ w'.cell? ⟨w.heap.size, 1, none⟩ = some (.bool false) ∧ w'.cell? ⟨w.heap.size, 2, none⟩ = some (.string ta) ∧ w'.cell? ⟨w.heap.size, 3, none⟩ = some (.int .i64 ea) ∧ w'.cell? ⟨w.heap.size + 1, 0, none⟩ = some (.int .i64 0) ∧ w'.cell? ⟨w.heap.size + 1, 1, none⟩ = some (.bool nb) ∧ w'.cell? ⟨w.heap.size + 1, 2, none⟩ = some (.string tb) ∧ w'.cell? ⟨w.heap.size + 1, 3, none⟩ = some (.int .i64 eb) ∧ w'.cell? ⟨G, 0, none⟩ = some (.int .i64 0) ∧ w'.cell? ⟨G, 1, none⟩ = some (.bool false) ∧ w'.cell? ⟨G, 2, none⟩ = some (.string ⟨#[]⟩) ∧ w'.cell? ⟨G, 3, none⟩ = some (.int .i64 0) ∧ w'.frozen? ⟨G, 0, none⟩ = false ∧ w'.frozen? ⟨G, 1, none⟩ = false ∧ w'.frozen? ⟨G, 2, none⟩ = false ∧ w'.frozen? ⟨G, 3, none⟩ = false) := by
    intro X bX
    refine (rnof 0 nb tb eb X HB.out DB.out).mono ?_
    rintro e w' ⟨⟨s, o, l, c, rfl, hz⟩, hb⟩
    have bb := bX.out.trans (hb.mono bX.out.size)
    exact ⟨⟨s, o, l, c, rfl, hz.lo (Nat.zero_le _) (Nat.le_refl _)⟩, hb, bb, HC.out _ bb⟩
  have C2 : Hid (∀ X s1 o1 l1 c1 s2 o2 l2 c2, Hid (Below w2.heap.size w2 X) → Hid (RI X s1 o1 l1 c1 (zv false (decV (bys ta))) 1002 0) → Hid (RI X s2 o2 l2 c2 (zv nb (decV (bys tb))) 1002 0) → Calls Tryz.prog 48 #[.agg #[.bool s1, .slice o1 l1 c1, .int .i64 ea], .agg #[.bool s2, .slice o2 l2 c2, .int .i64 eb]] X fun e w' => (∃ s o l c, e = .returned (.agg #[.bool s, .slice o l c, .int .i64 M]) ∧ Hid (RI w' s o l c z 4003 0)) ∧ Hid (Below w2.heap.size w2 w') ∧ w'.cell? ⟨w.heap.size, 0, none⟩ = some (.int .i64 0) ∧ w'.cell? ⟨w.heap.size, 1, none⟩ = some (.bool false) ∧ w'.cell? ⟨w.heap.size, 2, none⟩ = some (.string ta) ∧ w'.cell? ⟨w.heap.size, 3, none⟩ = some (.int .i64 ea) ∧ w'.cell? ⟨w.heap.size + 1, 0, none⟩ = some (.int .i64 0) ∧ w'.cell? ⟨w.heap.size + 1, 1, none⟩ = some (.bool nb) ∧ w'.cell? ⟨w.heap.size + 1, 2, none⟩ = some (.string tb) ∧ w'.cell? ⟨w.heap.size + 1, 3, none⟩ = some (.int .i64 eb) ∧ w'.cell? ⟨G, 0, none⟩ = some (.int .i64 0) ∧ w'.cell? ⟨G, 1, none⟩ = some (.bool false) ∧ w'.cell? ⟨G, 2, none⟩ = some (.string ⟨#[]⟩) ∧ w'.cell? ⟨G, 3, none⟩ = some (.int .i64 0) ∧ w'.frozen? ⟨G, 0, none⟩ = false ∧ w'.frozen? ⟨G, 1, none⟩ = false ∧ w'.frozen? ⟨G, 2, none⟩ = false ∧ w'.frozen? ⟨G, 3, none⟩ = false) := by
    intro X s1 o1 l1 c1 s2 o2 l2 c2 bX h1 h2
    have g1 : s1 = decide ((zv false (decV (bys ta))) < 0) := by obtain ⟨_, _, _, _, g, _⟩ := h1.out; exact g
    have g2 : s2 = decide ((zv nb (decV (bys tb))) < 0) := by obtain ⟨_, _, _, _, g, _⟩ := h2.out; exact g
    have g := rsum_any s1 o1 l1 c1 ea _ ka s2 o2 l2 c2 eb _ kb 0 X KA.out KB.out KA2.out KB2.out h1.out h2.out
    rw [g1, g2, zv_mul10, zv_mul10, HZ.out, ← g1, ← g2, ← HM.out] at g
    refine g.mono ?_
    rintro e w' ⟨⟨s, o, l, c, rfl, hz⟩, hb⟩
    have bb := bX.out.trans (hb.mono bX.out.size)
    exact ⟨⟨s, o, l, c, rfl, hz⟩, bb, HC.out _ bb⟩
  have C3 : Hid (∀ X s o l c, Hid (Below w2.heap.size w2 X) → Hid (RI X s o l c z 4003 0) → Calls Tryz.prog 47 #[.agg #[.bool s, .slice o l c, .int .i64 M], .bool false] X fun e w' => e = .returned (.tuple #[.agg #[.int .i64 (cc : Int), .bool nn, .string D, .int .i64 ee], .int .i64 er]) ∧ Hid (Below w2.heap.size w2 w') ∧ w'.cell? ⟨w.heap.size, 0, none⟩ = some (.int .i64 0) ∧ w'.cell? ⟨w.heap.size, 1, none⟩ = some (.bool false) ∧ w'.cell? ⟨w.heap.size, 2, none⟩ = some (.string ta) ∧ w'.cell? ⟨w.heap.size, 3, none⟩ = some (.int .i64 ea) ∧ w'.cell? ⟨w.heap.size + 1, 0, none⟩ = some (.int .i64 0) ∧ w'.cell? ⟨w.heap.size + 1, 1, none⟩ = some (.bool nb) ∧ w'.cell? ⟨w.heap.size + 1, 2, none⟩ = some (.string tb) ∧ w'.cell? ⟨w.heap.size + 1, 3, none⟩ = some (.int .i64 eb) ∧ w'.cell? ⟨G, 0, none⟩ = some (.int .i64 0) ∧ w'.cell? ⟨G, 1, none⟩ = some (.bool false) ∧ w'.cell? ⟨G, 2, none⟩ = some (.string ⟨#[]⟩) ∧ w'.cell? ⟨G, 3, none⟩ = some (.int .i64 0) ∧ w'.frozen? ⟨G, 0, none⟩ = false ∧ w'.frozen? ⟨G, 1, none⟩ = false ∧ w'.frozen? ⟨G, 2, none⟩ = false ∧ w'.frozen? ⟨G, 3, none⟩ = false) := by
    intro X s o l c bX h1
    have g := rtold_any s o l c M false z 4003 0 X h1.out (by omega) HSZ.out (by have := HE.out; have := HM.out; omega) (by have := HE.out; have := HM.out; omega)
    rw [HTF.out, ← EQ.out] at g
    refine g.mono ?_
    rintro e w' ⟨rfl, hb⟩
    have bb := bX.out.trans (hb.mono bX.out.size)
    exact ⟨rfl, bb, HC.out _ bb⟩
  have BRF : Hid (∀ w', Below w2.heap.size w2 w' → Below w.heap.size w w' ∧ Blk w' G #[.int .i64 0, .bool false, .string ⟨#[]⟩, .int .i64 0] 23) := fun w' hb => ⟨HB2.out.trans (hb.mono HB2.out.size), Br2.out.below hb Br2.out.lt⟩
  have b0 : Hid (Below w2.heap.size w2 w2.drew) := bdrewD w2
  clear DA DB HA HB KA KB KA2 KB2 HZ HSZ HE HM HTF HD MA MB HC Ba2 Bb2 Br2 HB2
  go_wp2_with fail
  simp only [← HG.out]
  refine wp_region_held_drew (S := (fun w' => w'.cell? ⟨w.heap.size, 0, none⟩ = some (.int .i64 0) ∧ w'.cell? ⟨w.heap.size, 1, none⟩ = some (.bool false) ∧ w'.cell? ⟨w.heap.size, 2, none⟩ = some (.string ta) ∧ w'.cell? ⟨w.heap.size, 3, none⟩ = some (.int .i64 ea) ∧ w'.cell? ⟨w.heap.size + 1, 0, none⟩ = some (.int .i64 0) ∧ w'.cell? ⟨w.heap.size + 1, 1, none⟩ = some (.bool nb) ∧ w'.cell? ⟨w.heap.size + 1, 2, none⟩ = some (.string tb) ∧ w'.cell? ⟨w.heap.size + 1, 3, none⟩ = some (.int .i64 eb))) (by kernel_rfl) ?_ (fun hHeld => ?_)
  · (try dsimp only)
    go_keep
  refine wpAnyH_take (i := 0) (oi := Oper.mk (some 53) _ _ _ _ _) (v := .agg #[.int .i64 0, .bool false, .string ta, .int .i64 ea]) rfl (by kernel_rfl) (by kernel_rfl) (by kernel_rfl) (fun _ _ _ h => h) (Or.inl ⟨by rfl, ?_⟩) (by assumption) ?_
  · intro wX hSw
    (try dsimp only at hSw)
    go_simp
  simp only [Act.put, List.setIfInBounds_toArray, List.set_cons_succ, List.set_cons_zero]
  refine wpAnyH_take (i := 2) (oi := Oper.mk (some 55) _ _ _ _ _) (v := .agg #[.int .i64 0, .bool nb, .string tb, .int .i64 eb]) rfl (by kernel_rfl) (by kernel_rfl) (by kernel_rfl) (fun _ _ _ h => h) (Or.inl ⟨by rfl, ?_⟩) (by assumption) ?_
  · intro wX hSw
    (try dsimp only at hSw)
    go_simp
  simp only [Act.put, List.setIfInBounds_toArray, List.set_cons_succ, List.set_cons_zero]
  refine wpAnyH_take (i := 5) (oi := Oper.mk (some 58) _ _ _ _ _) (v := .pointer (some ⟨w.heap.size, 1, none⟩)) rfl (by kernel_rfl) (by kernel_rfl) (by kernel_rfl) (fun _ _ _ h => h) (Or.inl ⟨by rfl, ?_⟩) (by assumption) ?_
  · intro wX hSw
    (try dsimp only at hSw)
    go_simp
  simp only [Act.put, List.setIfInBounds_toArray, List.set_cons_succ, List.set_cons_zero]
  refine wpAnyH_take (i := 6) (oi := Oper.mk (some 59) _ _ _ _ _) (v := .bool false) rfl (by kernel_rfl) (by kernel_rfl) (by kernel_rfl) (fun _ _ _ h => h) (Or.inl ⟨by rfl, ?_⟩) (by assumption) ?_
  · intro wX hSw
    (try dsimp only at hSw)
    go_simp
  simp only [Act.put, List.setIfInBounds_toArray, List.set_cons_succ, List.set_cons_zero]
  refine wpAnyH_ready (rs := [1]) (by kernel_rfl) (by simp) ?_
  refine AllReadyH.cons (o := Oper.mk (some 54) _ _ _ _ _) rfl (fun K hK => ?_) AllReadyH.nil
  go_simp
  refine (C0.out _ b0).mono ?_
  rintro e wa ⟨⟨s1, o1, l1, c1, rfl, Z1⟩, R1, b1, q0_0, q0_1, q0_2, q0_3, q0_4, q0_5, q0_6, q0_7, q0_8, q0_9, q0_10, q0_11, q0_12, q0_13, q0_14, q0_15⟩
  try simp only []
  refine hK.out _ _ ?_ (fun hHeld => ?_)
  · (try dsimp only)
    go_keep
  clear hK K
  refine wpAnyH_ready (rs := [3]) (by kernel_rfl) (by simp) ?_
  refine AllReadyH.cons (o := Oper.mk (some 56) _ _ _ _ _) rfl (fun K hK => ?_) AllReadyH.nil
  go_simp
  refine (C1.out _ b1).mono ?_
  rintro e wb ⟨⟨s2, o2, l2, c2, rfl, Z2⟩, R2, b2, q1_0, q1_1, q1_2, q1_3, q1_4, q1_5, q1_6, q1_7, q1_8, q1_9, q1_10, q1_11, q1_12, q1_13, q1_14, q1_15⟩
  have Y1 := hide (Z1.out.below R2.out)
  clear Z1
  try simp only []
  refine hK.out _ _ ?_ (fun hHeld => ?_)
  · (try dsimp only)
    go_keep
  clear hK K
  refine wpAnyH_ready (rs := [4]) (by kernel_rfl) (by simp) ?_
  refine AllReadyH.cons (o := Oper.mk (some 57) _ _ _ _ _) rfl (fun K hK => ?_) AllReadyH.nil
  go_simp
  refine (C2.out _ _ _ _ _ _ _ _ _ b2 Y1 Z2).mono ?_
  rintro e wc ⟨⟨s3, o3, l3, c3, rfl, Z3⟩, b3, q2_0, q2_1, q2_2, q2_3, q2_4, q2_5, q2_6, q2_7, q2_8, q2_9, q2_10, q2_11, q2_12, q2_13, q2_14, q2_15⟩
  try simp only []
  refine hK.out _ _ ?_ (fun hHeld => ?_)
  · (try dsimp only)
    go_keep
  clear hK K
  refine wpAnyH_take (i := 7) (oi := Oper.mk (some 60) _ _ _ _ _) (v := .bool false) rfl (by kernel_rfl) (by kernel_rfl) (by kernel_rfl) (fun _ _ _ h => h) (Or.inl ⟨by rfl, ?_⟩) (by assumption) ?_
  · intro wX hSw
    (try dsimp only at hSw)
    go_simp
  simp only [Act.put, List.setIfInBounds_toArray, List.set_cons_succ, List.set_cons_zero]
  refine wpAnyH_take (i := 8) (oi := Oper.mk (some 61) _ _ _ _ _) (v := undef) rfl (by kernel_rfl) (by kernel_rfl) (by kernel_rfl) (fun _ _ _ h => h) (Or.inr ⟨by rfl, rfl⟩) (by assumption) ?_
  simp only [Act.put, List.setIfInBounds_toArray, List.set_cons_succ, List.set_cons_zero]
  refine wpAnyH_take (i := 9) (oi := Oper.mk (some 62) _ _ _ _ _) (v := undef) rfl (by kernel_rfl) (by kernel_rfl) (by kernel_rfl) (fun _ _ _ h => h) (Or.inr ⟨by rfl, rfl⟩) (by assumption) ?_
  simp only [Act.put, List.setIfInBounds_toArray, List.set_cons_succ, List.set_cons_zero]
  refine wpAnyH_take (i := 10) (oi := Oper.mk (some 63) _ _ _ _ _) (v := .bool false) rfl (by kernel_rfl) (by kernel_rfl) (by kernel_rfl) (fun _ _ _ h => h) (Or.inl ⟨by rfl, ?_⟩) (by assumption) ?_
  · intro wX hSw
    (try dsimp only at hSw)
    go_simp
  simp only [Act.put, List.setIfInBounds_toArray, List.set_cons_succ, List.set_cons_zero]
  refine wpAnyH_ready (rs := [11]) (by kernel_rfl) (by simp) ?_
  refine AllReadyH.cons (o := Oper.mk (some 64) _ _ _ _ _) rfl (fun K hK => ?_) AllReadyH.nil
  go_simp
  refine (C3.out _ _ _ _ _ b3 Z3).mono ?_
  rintro e wd ⟨rfl, b4, q3_0, q3_1, q3_2, q3_3, q3_4, q3_5, q3_6, q3_7, q3_8, q3_9, q3_10, q3_11, q3_12, q3_13, q3_14, q3_15⟩
  try simp only []
  refine hK.out _ _ ?_ (fun hHeld => ?_)
  · (try dsimp only)
    go_keep
  clear hK K
  refine wpAnyH_take (i := 12) (oi := Oper.mk (some 65) _ _ _ _ _) (v := .agg #[.int .i64 (cc : Int), .bool nn, .string D, .int .i64 ee]) rfl (by kernel_rfl) (by kernel_rfl) (by kernel_rfl) (fun _ _ _ h => h) (Or.inl ⟨by rfl, ?_⟩) (by assumption) ?_
  · intro wX hSw
    (try dsimp only at hSw)
    go_simp
  simp only [Act.put, List.setIfInBounds_toArray, List.set_cons_succ, List.set_cons_zero]
  refine wpAnyH_take (i := 13) (oi := Oper.mk (some 66) _ _ _ _ _) (v := .int .i64 er) rfl (by kernel_rfl) (by kernel_rfl) (by kernel_rfl) (fun _ _ _ h => h) (Or.inl ⟨by rfl, ?_⟩) (by assumption) ?_
  · intro wX hSw
    (try dsimp only at hSw)
    go_simp
  simp only [Act.put, List.setIfInBounds_toArray, List.set_cons_succ, List.set_cons_zero]
  refine wpAnyH_ready (rs := [14]) (by kernel_rfl) (by simp) ?_
  refine AllReadyH.cons (o := Oper.mk none _ _ _ _ _) rfl (fun K hK => ?_) AllReadyH.nil
  go_simp
  refine hK.out _ _ ?_ (fun hHeld => ?_)
  · (try dsimp only)
    go_keep
  clear hK K
  refine wpAnyH_take (i := 15) (oi := Oper.mk (some 5) _ _ _ _ _) (v := .int .i64 er) rfl (by kernel_rfl) (by kernel_rfl) (by kernel_rfl) (fun _ _ _ h => h) (Or.inl ⟨by rfl, ?_⟩) (by assumption) ?_
  · intro wX hSw
    (try dsimp only at hSw)
    go_simp
  simp only [Act.put, List.setIfInBounds_toArray, List.set_cons_succ, List.set_cons_zero]
  refine wpAnyH_done (by kernel_rfl) ?_ _
  obtain ⟨hbel, hblk⟩ := BRF.out _ b4.out
  have HBL := hide hbel
  have QR := hide hblk
  clear hbel hblk BRF b0 b1 b2 b3 b4 C0 C1 C2 C3
  repeat (first | go_values | go_skip | go_guarded | go_step | go_upon)
  refine bodyPost_ret (results_dec2 rfl _ _ _ _ _ _ _ rfl (QR.out.put4 _ _ _ _)) rfl ?_
  exact ⟨EQ.out, below_put4 HBL.out gle _ _ _ _⟩

end Go.Proofs.YtafljhfamjabeaaGreatDoor
