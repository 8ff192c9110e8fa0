/-
  What quipulaw04's cut does, and the walk of NearestFewest.
  Plain mathematics: what NearestFewest asks of the fewest digits, cut by one.
  The walk of NearestFewest.
-/
import Derived.Test.YtpiloigpncbccacGreatDoorZNT
import Derived.Test.YtpiloigpncbccacGreatDoorZNM
import Derived.Test.YtpiloigpncbccacGreatDoorZSR
import Derived.Test.YtpiloigpncbccacGreatDoorROf
import Derived.Test.YtpiloigpncbccacGreatDoorZSC
namespace Go.Proofs.YtpiloigpncbccacGreatDoor
open Go.RowKit

theorem frow_one32 (w : World) : Nr (w.alloc (.cells #[.int .u32 1] 50)) (.slice (some ⟨w.heap.size, 0, none⟩) 1 1) 1 := by
  refine ⟨_, _, [1], rfl, Nat.le_refl _, Row.at (k := .u32) (e := 50) (heap_alloc_new w _), ?_, ?_, rfl⟩
  · intro i
    rcases i with _ | i
    · decide
    · simp [dg]
  · intro n hn
    simp at hn
    subst hn; decide

set_option maxRecDepth 100000 in
set_option maxHeartbeats 1000000 in
theorem cut_false (neg : Bool) (t s : ByteArray) (n : Nat) (ex : Int) (w : World) (ht : t.size = n + 1) (hn : n ≤ 100) (hs : t.extract 0 n = s) (hd : DigB (bys s)) (hl : (bys s).length ≤ 100) (h1 : -4000 ≤ ex) (h2 : ex ≤ 4000) :
    Calls Tryz.prog 8 #[dcV 0 neg t ex, .int .i64 (n : Int), .bool false] w fun e w' => e = .returned (decVal (decZ neg (decV (bys s)) (ex + 1))) ∧ Below w.heap.size w w' := by
  have hV := decV_lt _ (bys s) rfl hd
  obtain ⟨j, hj⟩ : ∃ j, j = (bys s).length := ⟨_, rfl⟩
  rw [← hj] at hV hl
  have hV1 : decV (bys s) < 10 ^ (j + 1) := by rw [Nat.pow_succ]; have : 0 < 10 ^ j := Nat.pow_pos (by omega); omega
  have OFC : Hid (∀ W', Calls Tryz.prog 13 #[.string s] W' (NrPost W' (decV (bys s)))) := fun W' => (rof_any s W' (by rw [← bys_len]; omega) hd).mono fun e w' hh => NrPost.of hh
  have SV : Hid (Sm (decV (bys s)) ∧ Sm 1 ∧ Sm (decV (bys s)) ∧ sizeN (decV (bys s)) ≤ 5000) := ⟨Sm.of hV (by omega), Sm.of (k := 1) (by omega) (by omega), Sm.of hV1 (by omega), size_bound hV1 (by omega) (by omega)⟩
  obtain ⟨d, hdd⟩ : ∃ d, d = decZ neg (decV (bys s)) (ex + 1) := ⟨_, rfl⟩
  rw [← hdd]
  have RDC : Hid (∀ (W' : World) (o : Option Addr) (l c : Nat) (z : Int), z = ex + 1 → Nr W' (.slice o l c) (decV (bys s)) → Calls Tryz.prog 20 #[.bool neg, .slice o l c, .int .i64 z] W' fun e w' => e = .returned (decVal d) ∧ Below W'.heap.size W' w') := fun W' o l c z hz hN => by
    rw [hdd, hz]
    exact rdec_any neg o l c _ _ W' hN SV.out.2.2.2 SV.out.2.2.1 (by omega) (by omega)
  have FIN : Hid (decVal d = .agg #[.int .i64 (d.cls : Int), .bool d.neg, .string ⟨d.dig.toArray⟩, .int .i64 d.exp]) := rfl
  have blk := (Blk.new w #[.int .i64 0, .bool neg, .string t, .int .i64 ex] 24).alloc (.cells #[.int .i64 0, .bool false, .string ⟨#[]⟩, .int .i64 0] 24)
  have blkz := Blk.newAt (w.alloc (.cells #[.int .i64 0, .bool neg, .string t, .int .i64 ex] 24)) (w.heap.size + 1) (by simp) #[.int .i64 0, .bool false, .string ⟨#[]⟩, .int .i64 0] 24
  obtain ⟨W, hW⟩ : ∃ W, W = (w.alloc (.cells #[.int .i64 0, .bool neg, .string t, .int .i64 ex] 24)).alloc (.cells #[.int .i64 0, .bool false, .string ⟨#[]⟩, .int .i64 0] 24) := ⟨_, rfl⟩
  rw [← hW] at blk blkz
  have HBW : Hid (Below w.heap.size w W) := by rw [hW]; exact ((Below.refl _ _).alloc (Nat.le_refl _) _).alloc (by simp) _
  have BLK := hide blk
  have BLZ := hide blkz
  have c2 : W.cell? ⟨w.heap.size, 2, none⟩ = some (.string t) := blk.cell 2
  have hsz : (n : Int) ≤ (t.size : Int) := by omega
  have hn0 : (0 : Int) ≤ (n : Int) := by omega
  have HW := hide hW
  have HS := hide hs
  clear blk blkz hW hdd hj hV hV1 hd hl hs
  go_enter Tryz.func8, Tryz.ntmps8
  go_wp2_with fail
  simp only [← HW.out]
  simp only [HS.out]
  refine (OFC.out _).mono ?_
  rintro e w1 ⟨o1, c1, l1, rfl, n1, b1⟩
  have N1 := hide n1
  have T1 := hide b1
  clear n1 b1 c2 OFC
  obtain ⟨wz, hwz⟩ : ∃ x, x = w1 := ⟨_, rfl⟩
  rw [← hwz] at N1 T1 ⊢
  have NZ := hide N1.out
  have TZ := hide T1.out
  clear N1 T1 hwz
  have q := BLK.out.below TZ.out BLK.out.lt
  have qz := BLZ.out.below TZ.out BLZ.out.lt
  have a1 : wz.cell? ⟨w.heap.size, 1, none⟩ = some (.bool neg) := q.cell 1
  have a2 : wz.cell? ⟨w.heap.size, 2, none⟩ = some (.string t) := q.cell 2
  have a3 : wz.cell? ⟨w.heap.size, 3, none⟩ = some (.int .i64 ex) := q.cell 3
  have BZ := hide qz
  have HBZ := hide (HBW.out.trans (TZ.out.mono HBW.out.size))
  clear q qz BLK BLZ HBW TZ
  go_wp2_with fail
  refine (RDC.out _ _ _ _ _ (by omega) NZ.out).mono ?_
  rintro e w9 ⟨rfl, hb9⟩
  have HB9 := hide (HBZ.out.trans (hb9.mono HBZ.out.size))
  have B9 := BZ.out.below hb9 BZ.out.lt
  have k0 : w9.cell? ⟨w.heap.size + 1, 0, none⟩ = some (.int .i64 0) := B9.cell 0
  have k1 : w9.cell? ⟨w.heap.size + 1, 1, none⟩ = some (.bool false) := B9.cell 1
  have k2 : w9.cell? ⟨w.heap.size + 1, 2, none⟩ = some (.string ⟨#[]⟩) := B9.cell 2
  have k3 : w9.cell? ⟨w.heap.size + 1, 3, none⟩ = some (.int .i64 0) := B9.cell 3
  have f0 := B9.free 0
  have f1 := B9.free 1
  have f2 := B9.free 2
  have f3 := B9.free 3
  have BL9 := hide B9
  clear B9 hb9 BZ HBZ RDC NZ a1 a2 a3
  rw [FIN.out]
  simp only []
  repeat (first | go_values | go_skip | go_guarded | go_step | go_upon)
  refine bodyPost_ret (results_dec rfl _ _ _ _ _ _ _ rfl (BL9.out.put4 _ _ _ _)) rfl ?_
  exact ⟨rfl, below_put4 HB9.out (by omega) _ _ _ _⟩

set_option maxRecDepth 100000 in
set_option maxHeartbeats 1000000 in
theorem cut_true (neg : Bool) (t s : ByteArray) (n : Nat) (ex : Int) (w : World) (ht : t.size = n + 1) (hn : n ≤ 100) (hs : t.extract 0 n = s) (hd : DigB (bys s)) (hl : (bys s).length ≤ 100) (h1 : -4000 ≤ ex) (h2 : ex ≤ 4000) :
    Calls Tryz.prog 8 #[dcV 0 neg t ex, .int .i64 (n : Int), .bool true] w fun e w' => e = .returned (decVal (decZ neg (decV (bys s) + 1) (ex + 1))) ∧ Below w.heap.size w w' := by
  have hV := decV_lt _ (bys s) rfl hd
  obtain ⟨j, hj⟩ : ∃ j, j = (bys s).length := ⟨_, rfl⟩
  rw [← hj] at hV hl
  have hV1 : decV (bys s) + 1 < 10 ^ (j + 1) := by rw [Nat.pow_succ]; have : 0 < 10 ^ j := Nat.pow_pos (by omega); omega
  have OFC : Hid (∀ W', Calls Tryz.prog 13 #[.string s] W' (NrPost W' (decV (bys s)))) := fun W' => (rof_any s W' (by rw [← bys_len]; omega) hd).mono fun e w' hh => NrPost.of hh
  have SV : Hid (Sm (decV (bys s)) ∧ Sm 1 ∧ Sm (decV (bys s) + 1) ∧ sizeN (decV (bys s) + 1) ≤ 5000) := ⟨Sm.of hV (by omega), Sm.of (k := 1) (by omega) (by omega), Sm.of hV1 (by omega), size_bound hV1 (by omega) (by omega)⟩
  obtain ⟨d, hdd⟩ : ∃ d, d = decZ neg (decV (bys s) + 1) (ex + 1) := ⟨_, rfl⟩
  rw [← hdd]
  have RDC : Hid (∀ (W' : World) (o : Option Addr) (l c : Nat) (z : Int), z = ex + 1 → Nr W' (.slice o l c) (decV (bys s) + 1) → Calls Tryz.prog 20 #[.bool neg, .slice o l c, .int .i64 z] W' fun e w' => e = .returned (decVal d) ∧ Below W'.heap.size W' w') := fun W' o l c z hz hN => by
    rw [hdd, hz]
    exact rdec_any neg o l c _ _ W' hN SV.out.2.2.2 SV.out.2.2.1 (by omega) (by omega)
  have FIN : Hid (decVal d = .agg #[.int .i64 (d.cls : Int), .bool d.neg, .string ⟨d.dig.toArray⟩, .int .i64 d.exp]) := rfl
  have blk := (Blk.new w #[.int .i64 0, .bool neg, .string t, .int .i64 ex] 24).alloc (.cells #[.int .i64 0, .bool false, .string ⟨#[]⟩, .int .i64 0] 24)
  have blkz := Blk.newAt (w.alloc (.cells #[.int .i64 0, .bool neg, .string t, .int .i64 ex] 24)) (w.heap.size + 1) (by simp) #[.int .i64 0, .bool false, .string ⟨#[]⟩, .int .i64 0] 24
  obtain ⟨W, hW⟩ : ∃ W, W = (w.alloc (.cells #[.int .i64 0, .bool neg, .string t, .int .i64 ex] 24)).alloc (.cells #[.int .i64 0, .bool false, .string ⟨#[]⟩, .int .i64 0] 24) := ⟨_, rfl⟩
  rw [← hW] at blk blkz
  have HBW : Hid (Below w.heap.size w W) := by rw [hW]; exact ((Below.refl _ _).alloc (Nat.le_refl _) _).alloc (by simp) _
  have BLK := hide blk
  have BLZ := hide blkz
  have c2 : W.cell? ⟨w.heap.size, 2, none⟩ = some (.string t) := blk.cell 2
  have hsz : (n : Int) ≤ (t.size : Int) := by omega
  have hn0 : (0 : Int) ≤ (n : Int) := by omega
  have HW := hide hW
  have HS := hide hs
  clear blk blkz hW hdd hj hV hV1 hd hl hs
  go_enter Tryz.func8, Tryz.ntmps8
  go_wp2_with fail
  simp only [← HW.out]
  simp only [HS.out]
  refine (OFC.out _).mono ?_
  rintro e w1 ⟨o1, c1, l1, rfl, n1, b1⟩
  have N1 := hide n1
  have T1 := hide b1
  clear n1 b1 c2 OFC
  have AL : Hid (Below w1.heap.size w1 (w1.alloc (.cells #[.int .u32 1] 50))) := (Below.refl _ _).alloc (Nat.le_refl _) _
  have AD := hide (nr_add _ _ (decV (bys s)) 1 _ (N1.out.below AL.out) (frow_one32 w1) SV.out.1 SV.out.2.1)
  go_wp2_with fail
  refine AD.out.mono ?_
  rintro e wz ⟨o2, c2, l2, rfl, n2, b2⟩
  have NZ := hide n2
  have TZ := hide (T1.out.trans ((AL.out.trans (b2.mono AL.out.size)).mono T1.out.size))
  clear n2 b2 AD AL N1 T1
  have q := BLK.out.below TZ.out BLK.out.lt
  have qz := BLZ.out.below TZ.out BLZ.out.lt
  have a1 : wz.cell? ⟨w.heap.size, 1, none⟩ = some (.bool neg) := q.cell 1
  have a2 : wz.cell? ⟨w.heap.size, 2, none⟩ = some (.string t) := q.cell 2
  have a3 : wz.cell? ⟨w.heap.size, 3, none⟩ = some (.int .i64 ex) := q.cell 3
  have BZ := hide qz
  have HBZ := hide (HBW.out.trans (TZ.out.mono HBW.out.size))
  clear q qz BLK BLZ HBW TZ
  go_wp2_with fail
  refine (RDC.out _ _ _ _ _ (by omega) NZ.out).mono ?_
  rintro e w9 ⟨rfl, hb9⟩
  have HB9 := hide (HBZ.out.trans (hb9.mono HBZ.out.size))
  have B9 := BZ.out.below hb9 BZ.out.lt
  have k0 : w9.cell? ⟨w.heap.size + 1, 0, none⟩ = some (.int .i64 0) := B9.cell 0
  have k1 : w9.cell? ⟨w.heap.size + 1, 1, none⟩ = some (.bool false) := B9.cell 1
  have k2 : w9.cell? ⟨w.heap.size + 1, 2, none⟩ = some (.string ⟨#[]⟩) := B9.cell 2
  have k3 : w9.cell? ⟨w.heap.size + 1, 3, none⟩ = some (.int .i64 0) := B9.cell 3
  have f0 := B9.free 0
  have f1 := B9.free 1
  have f2 := B9.free 2
  have f3 := B9.free 3
  have BL9 := hide B9
  clear B9 hb9 BZ HBZ RDC NZ a1 a2 a3
  rw [FIN.out]
  simp only []
  repeat (first | go_values | go_skip | go_guarded | go_step | go_upon)
  refine bodyPost_ret (results_dec rfl _ _ _ _ _ _ _ rfl (BL9.out.put4 _ _ _ _)) rfl ?_
  exact ⟨rfl, below_put4 HB9.out (by omega) _ _ _ _⟩

end Go.Proofs.YtpiloigpncbccacGreatDoor

namespace Go.Proofs.YtpiloigpncbccacGreatDoor

theorem may_decA (neg : Bool) {N j : Nat} {e : Int} (h : N ≠ 0) (hj : N < 10 ^ j) (h1 : j ≤ 1000) (h2 : -2001 ≤ e) (h3 : e + j ≤ 2000) : May (decA neg N e) := by
  obtain ⟨M, k, e1, e2, e3⟩ := decA_form neg e h
  have hM : M ≠ 0 := fun e => by rw [e] at e2; exact e2 rfl
  rw [e3]
  have hk : k < j := by
    rcases Nat.lt_or_ge k j with h4 | h4
    · exact h4
    · exfalso
      have h5 := Nat.pow_le_pow_right (show 0 < 10 by omega) h4
      have h6 : 1 * 10 ^ k ≤ M * 10 ^ k := Nat.mul_le_mul_right _ (by omega)
      omega
  have hl : sizeN M ≤ j - k := by
    refine sizeN_le ?_ (by omega)
    have h5 : M * 10 ^ k < 10 ^ (j - k) * 10 ^ k := by rw [← Nat.pow_add, show j - k + k = j by omega, ← e1]; exact hj
    exact Nat.lt_of_mul_lt_mul_right h5
  have hp := sizeN_pos M
  unfold sizeN at hl hp
  refine .inl ⟨rfl, .inr ⟨dd_ne M, ?_, ?_, ?_, dd_first hM, dd_last e2, (dd_okT M).2.2⟩⟩
  · show (Lib.decDigits M).length ≤ 1000
    omega
  · show -2000 ≤ e + k + ((Lib.decDigits M).length : Int)
    omega
  · show e + k + ((Lib.decDigits M).length : Int) ≤ 2000
    omega

theorem strN_cut1 {M : Nat} (h : 10 ≤ M) : (strN M).extract 0 (sizeN (M / 10)) = strN (M / 10) ∧ (strN M).size = sizeN (M / 10) + 1 := by
  have hd : Lib.decDigits M = Lib.decDigits (M / 10) ++ [UInt8.ofNat (48 + M % 10)] := dd_big (by omega)
  constructor
  · unfold strN sizeN
    rw [hd]
    apply ByteArray.ext
    rw [ByteArray.data_extract]
    apply Array.toList_inj.1
    simp
  · rw [strN_size]
    unfold sizeN
    rw [hd, List.length_append, List.length_singleton]

theorem lies_val {F I b B T : Nat} {d : DecT} (hT : powT 2 B * (4 * T) = powT 10 1100) (hT0 : 0 < T) (he : -1100 ≤ d.exp) (h : Lies F I b (dOver d * 2 ^ B) (dUnder d)) : Lies F I b (valD d) (4 * T) :=
  h.ratio (Nat.pos_of_ne_zero (dUnder_ne _)) (by omega) (dec_ratio hT he)

theorem fewest_data {b : Nat} (hcls : (of64D b).cls = 0) (hlen : 2 ≤ (of64D b).dig.length) :
    ∃ (neg : Bool) (M : Nat) (ex : Int), of64D b = ⟨0, neg, Lib.decDigits M, ex⟩ ∧ 10 ≤ M ∧ M ≤ 10 ^ 17 ∧ -1100 ≤ ex ∧ ex ≤ 1500 ∧
      ∀ Z, Z ≠ 0 → Z < 10 ^ 18 → May (decA neg Z (ex + 1)) ∧ (b < 18446744073709551616 → toD 52 11 1074 (decA neg Z (ex + 1)) ≠ b) := by
  have e1 : (2 : Nat) ^ 52 = 4503599627370496 := by decide
  have e2 : (2 : Nat) ^ 11 = 2048 := by decide
  by_cases hx : b / 4503599627370496 % 2048 = 2047
  · exfalso
    have : (of64D b).cls ≠ 0 := by
      show (decOf 52 11 _ b).cls ≠ 0
      unfold decOf; rw [e1, e2, if_pos hx]; split <;> simp
    exact this hcls
  · obtain ⟨a, ha⟩ : ∃ a, a = b % 9223372036854775808 := ⟨_, rfl⟩
    have ha2 : a < 9218868437227405312 := by omega
    have h0 : a ≠ 0 := by
      intro h0
      have : of64D b = ⟨0, decide (b / 4503599627370496 / 2048 ≠ 0), [], 0⟩ := by
        show decOf 52 11 _ b = _
        unfold decOf; rw [e1, e2, if_neg (by omega), if_pos (by omega)]
      rw [this] at hlen
      simp at hlen
    obtain ⟨neg, hneg⟩ : ∃ n, n = decide (b / 4503599627370496 / 2048 ≠ 0) := ⟨_, rfl⟩
    have hd : of64D b = decA neg (fewD 52 1074 (a / 2 ^ 52) (a % 2 ^ 52)).1 (fewD 52 1074 (a / 2 ^ 52) (a % 2 ^ 52)).2 := by
      show decOf 52 11 _ b = _
      unfold decOf
      rw [hneg, e1, e2, if_neg (by omega), if_neg (by omega), show b / 4503599627370496 % 2048 = a / 4503599627370496 by omega, show b % 4503599627370496 = a % 4503599627370496 by omega]
    have hm2 : a % 2 ^ 52 < 2 ^ 52 := Nat.mod_lt _ (by omega)
    have g := nearOf_good (F := 52) (B := 1074) (x := a / 2 ^ 52) (m := a % 2 ^ 52) (by omega) hm2
    have hnum := fNum_pos h0
    have hb1 := fPow_bounds ha2
    have hA0 : (nearOf 52 1074 (a / 2 ^ 52) (a % 2 ^ 52)).amt ≠ 0 := by
      have := p2N_pos (fPow 1074 (a / 2 ^ 52) - 2)
      exact Nat.mul_ne_zero (by omega) (by omega)
    rcases hf : fewN (nearOf 52 1074 (a / 2 ^ 52) (a % 2 ^ 52)) (sizeN (nearOf 52 1074 (a / 2 ^ 52) (a % 2 ^ 52)).amt) with ⟨v, p⟩
    have hfd : fewD 52 1074 (a / 2 ^ 52) (a % 2 ^ 52) = (v, p2E (fPow 1074 (a / 2 ^ 52) - 2) + (p : Nat)) := by unfold fewD; rw [hf]
    obtain ⟨f1, f2, f3, _, _, _, _⟩ := few_bound g hA0 hf
    rw [hfd] at hd
    obtain ⟨M, k, m1, m2, m3⟩ := decA_form neg (N := v) (p2E (fPow 1074 (a / 2 ^ 52) - 2) + (p : Nat)) (by omega)
    rw [m3] at hd
    have h17 : (10 : Nat) ^ 17 = 100000000000000000 := by decide
    have hk10 : 0 < 10 ^ k := Nat.pow_pos (by omega)
    have hMv : M ≤ v := by rw [m1]; exact Nat.le_mul_of_pos_right _ hk10
    have hM10 : 10 ≤ M := by
      rcases Nat.lt_or_ge M 10 with h3 | h3
      · exfalso
        rw [hd] at hlen
        simp only [Lib.decDigits_one h3] at hlen
        simp at hlen
      · exact h3
    have hk17 : k ≤ 17 := by
      rcases Nat.lt_or_ge 17 k with h3 | h3
      · exfalso
        have h4 := Nat.pow_le_pow_right (show 0 < 10 by omega) (show 18 ≤ k from h3)
        have h5 : 1 * 10 ^ k ≤ M * 10 ^ k := Nat.mul_le_mul_right _ (by omega)
        have h18 : (10 : Nat) ^ 18 = 1000000000000000000 := by decide
        omega
      · exact h3
    have hsz : sizeN (nearOf 52 1074 (a / 2 ^ 52) (a % 2 ^ 52)).amt ≤ 1200 := by
      obtain ⟨j, hj⟩ : ∃ j : Nat, j = 1081 := ⟨_, rfl⟩
      exact size_bound (j := j + 17) (mul_lt10 (p2N_lt (by omega) (by omega)) (fNum_lt17 (by omega) hm2)) (by omega) (by omega)
    have hE1 : -1076 ≤ p2E (fPow 1074 (a / 2 ^ 52) - 2) := by unfold p2E; split <;> omega
    have hE2 : p2E (fPow 1074 (a / 2 ^ 52) - 2) ≤ 0 := by unfold p2E; split <;> omega
    refine ⟨neg, M, _, hd, hM10, by omega, by omega, by omega, fun Z hZ hZ2 => ⟨may_decA neg (j := 18) hZ hZ2 (by omega) (by omega) (by omega), fun hb64 heq => ?_⟩⟩
    have hex : p2E (fPow 1074 (a / 2 ^ 52) - 2) + (p : Nat) + (k : Nat) + 1 = p2E (fPow 1074 (a / 2 ^ 52) - 2) + (p + k + 1 : Nat) := by omega
    rw [hex] at heq
    refine few_apart ha2 h0 hf m1 m2 hM10 hZ ?_
    obtain ⟨d1, d2, d3, d4, d5⟩ := decA_dig (neg := neg) (e := p2E (fPow 1074 (a / 2 ^ 52) - 2) + (p + k + 1 : Nat)) hZ
    have hv : valD (decA neg Z (p2E (fPow 1074 (a / 2 ^ 52) - 2) + (p + k + 1 : Nat))) = valD (decA false Z (p2E (fPow 1074 (a / 2 ^ 52) - 2) + (p + k + 1 : Nat))) := rfl
    have hto : toD 52 11 1074 (decA neg Z (p2E (fPow 1074 (a / 2 ^ 52) - 2) + (p + k + 1 : Nat))) = bitsOf 52 1074 (infN 52 11) (dOver (decA neg Z (p2E (fPow 1074 (a / 2 ^ 52) - 2) + (p + k + 1 : Nat)))) (dUnder (decA neg Z (p2E (fPow 1074 (a / 2 ^ 52) - 2) + (p + k + 1 : Nat)))) + sigN 52 11 neg := by
      unfold toD
      rw [if_neg (by omega), if_neg (by omega), if_neg d1, d5]
    have hs : sigN 52 11 neg = b / 9223372036854775808 * 9223372036854775808 := by
      unfold sigN
      by_cases hz : b / 4503599627370496 / 2048 = 0
      · rw [hneg, decide_eq_false (by omega)]; simp; omega
      · rw [hneg, decide_eq_true hz, if_pos rfl, show (2 : Nat) ^ (11 + 52) = 9223372036854775808 by decide]; omega
    rw [hto, hs] at heq
    have hba : bitsOf 52 1074 (infN 52 11) (dOver (decA neg Z (p2E (fPow 1074 (a / 2 ^ 52) - 2) + (p + k + 1 : Nat)))) (dUnder (decA neg Z (p2E (fPow 1074 (a / 2 ^ 52) - 2) + (p + k + 1 : Nat)))) = a := by omega
    have hl := bitsOf_lies (F := 52) (B := 1074) (I := infN 52 11) (by omega) (by rw [inf64]) d2 (dUnder_ne (decA neg Z (p2E (fPow 1074 (a / 2 ^ 52) - 2) + (p + k + 1 : Nat))))
    rw [hba] at hl
    rw [← hv]
    exact lies_val t0_ten T0_pos (by omega) hl

end Go.Proofs.YtpiloigpncbccacGreatDoor

namespace Go.Proofs.YtpiloigpncbccacGreatDoor
open Go.RowKit

theorem ne_bool {a b : Nat} (h : a ≠ b) : ((a : Int) != (b : Int)) = true := by
  have : ¬ (a : Int) = (b : Int) := by omega
  simpa using this

set_option maxRecDepth 100000 in
set_option maxHeartbeats 1000000 in
theorem fewest_idle (b : Nat) (w : World) (hb : b < 18446744073709551616) (htab : Tab w) (c ex : Int) (neg : Bool) (t : ByteArray) (hd : decVal (of64D b) = dcV c neg t ex) (h : ¬ c = 0 ∨ c = 0 ∧ t.size < 2) :
    Calls Tryz.prog 3 #[.int .u64 (b : Int)] w fun e w' => e = .returned (.bool true) ∧ Below w.heap.size w w' := by
  have OF := hide (of64_any b w hb htab)
  rw [hd] at OF
  have AW := hide (fun W => nawake_any W)
  have HT := hide htab
  clear htab hd
  go_enter Tryz.func3, Tryz.ntmps3
  go_wp2_with fail
  refine OF.out.mono ?_
  rintro e w1 ⟨rfl, b1⟩
  have AL : Hid (Below w1.heap.size w1 (w1.alloc (.cells #[.int .i64 c, .bool neg, .string t, .int .i64 ex] 24))) := (Below.refl _ _).alloc (Nat.le_refl _) _
  have BK := hide (Blk.new w1 #[.int .i64 c, .bool neg, .string t, .int .i64 ex] 24)
  have HB1 := hide (b1.trans (AL.out.mono b1.size))
  clear b1 OF AL
  go_wp2_with fail
  refine (AW.out _ (HT.out.below HB1.out)).mono ?_
  rintro e w2 ⟨rfl, b2⟩
  have HB2 := hide (HB1.out.trans (b2.mono HB1.out.size))
  have q := BK.out.below b2 BK.out.lt
  have y0 : w2.cell? ⟨w1.heap.size, 0, none⟩ = some (.int .i64 c) := q.cell 0
  have y2 : w2.cell? ⟨w1.heap.size, 2, none⟩ = some (.string t) := q.cell 2
  clear b2 q BK HB1 AW
  rcases h with h | ⟨rfl, h⟩
  · have hc : (c != 0) = true := by simpa using h
    go_wp2
    go_ret
    exact ⟨rfl, HB2.out⟩
  · have h2 : (t.size : Int) < 2 := by omega
    go_wp2
    go_ret
    exact ⟨rfl, HB2.out⟩

set_option maxRecDepth 100000 in
set_option maxHeartbeats 2000000 in
theorem fewest_busy (b : Nat) (w : World) (hb : b < 18446744073709551616) (htab : Tab w) (ex : Int) (neg : Bool) (t s : ByteArray) (n : Nat) (hd : decVal (of64D b) = dcV 0 neg t ex) (ht : t.size = n + 1) (hn1 : 1 ≤ n) (hn : n ≤ 100) (hs : t.extract 0 n = s) (hds : DigB (bys s)) (hl : (bys s).length ≤ 100) (h1 : -4000 ≤ ex) (h2 : ex ≤ 4000)
    (m1 : May (decZ neg (decV (bys s)) (ex + 1))) (m2 : May (decZ neg (decV (bys s) + 1) (ex + 1))) (n1 : toD 52 11 1074 (decZ neg (decV (bys s)) (ex + 1)) ≠ b) (n2 : toD 52 11 1074 (decZ neg (decV (bys s) + 1) (ex + 1)) ≠ b) :
    Calls Tryz.prog 3 #[.int .u64 (b : Int)] w fun e w' => e = .returned (.bool true) ∧ Below w.heap.size w w' := by
  have OF := hide (of64_any b w hb htab)
  rw [hd] at OF
  have AW := hide (fun W => nawake_any W)
  have HT := hide htab
  have C1 := hide (fun W => cut_false neg t s n ex W ht hn hs hds hl h1 h2)
  have C2 := hide (fun W => cut_true neg t s n ex W ht hn hs hds hl h1 h2)
  have T1 := hide (fun W => to64_dec (decZ neg (decV (bys s)) (ex + 1)) W m1)
  have T2 := hide (fun W => to64_dec (decZ neg (decV (bys s) + 1) (ex + 1)) W m2)
  obtain ⟨r1, hr1⟩ : ∃ r, r = toD 52 11 1074 (decZ neg (decV (bys s)) (ex + 1)) := ⟨_, rfl⟩
  obtain ⟨r2, hr2⟩ : ∃ r, r = toD 52 11 1074 (decZ neg (decV (bys s) + 1) (ex + 1)) := ⟨_, rfl⟩
  rw [← hr1] at T1 n1
  rw [← hr2] at T2 n2
  obtain ⟨d1, hd1⟩ : ∃ d, d = decZ neg (decV (bys s)) (ex + 1) := ⟨_, rfl⟩
  obtain ⟨d2, hd2⟩ : ∃ d, d = decZ neg (decV (bys s) + 1) (ex + 1) := ⟨_, rfl⟩
  rw [← hd1] at T1 C1
  rw [← hd2] at T2 C2
  have F1 : Hid (decVal d1 = .agg #[.int .i64 (d1.cls : Int), .bool d1.neg, .string ⟨d1.dig.toArray⟩, .int .i64 d1.exp]) := rfl
  have F2 : Hid (decVal d2 = .agg #[.int .i64 (d2.cls : Int), .bool d2.neg, .string ⟨d2.dig.toArray⟩, .int .i64 d2.exp]) := rfl
  rw [F1.out] at T1 C1
  rw [F2.out] at T2 C2
  have e1 := ne_bool n1
  have e2 := ne_bool n2
  have hsz : ¬ (t.size : Int) < 2 := by omega
  have hsn : (t.size : Int) = (n : Int) + 1 := by omega
  clear htab hd hr1 hr2 hd1 hd2 F1 F2 n1 n2 m1 m2 hds hl hs h1 h2
  go_enter Tryz.func3, Tryz.ntmps3
  go_wp2_with fail
  refine OF.out.mono ?_
  rintro e w1 ⟨rfl, b1⟩
  have AL : Hid (Below w1.heap.size w1 (w1.alloc (.cells #[.int .i64 0, .bool neg, .string t, .int .i64 ex] 24))) := (Below.refl _ _).alloc (Nat.le_refl _) _
  have BK := hide (Blk.new w1 #[.int .i64 0, .bool neg, .string t, .int .i64 ex] 24)
  have HB1 := hide (b1.trans (AL.out.mono b1.size))
  obtain ⟨H, hH⟩ : ∃ H, H = w1.heap.size := ⟨_, rfl⟩
  rw [← hH] at BK
  have HHH := hide hH
  clear b1 OF AL hH
  go_wp2_with fail
  simp only [← HHH.out]
  refine (AW.out _ (HT.out.below HB1.out)).mono ?_
  rintro e w2 ⟨rfl, b2⟩
  have HB2 := hide (HB1.out.trans (b2.mono HB1.out.size))
  have BK2 := hide (BK.out.below b2 BK.out.lt)
  have y0 : w2.cell? ⟨H, 0, none⟩ = some (.int .i64 0) := BK2.out.cell 0
  have y1 : w2.cell? ⟨H, 1, none⟩ = some (.bool neg) := BK2.out.cell 1
  have y2 : w2.cell? ⟨H, 2, none⟩ = some (.string t) := BK2.out.cell 2
  have y3 : w2.cell? ⟨H, 3, none⟩ = some (.int .i64 ex) := BK2.out.cell 3
  clear b2 BK HB1 AW
  go_wp2_with fail
  refine (C1.out _).mono ?_
  rintro e w3 ⟨rfl, b3⟩
  have HB3 := hide (HB2.out.trans (b3.mono HB2.out.size))
  have BK3 := hide (BK2.out.below b3 BK2.out.lt)
  have AL3 : Hid (Below w3.heap.size w3 (w3.alloc (.cells #[.int .i64 (d1.cls : Int), .bool d1.neg, .string ⟨d1.dig.toArray⟩, .int .i64 d1.exp] 24))) := (Below.refl _ _).alloc (Nat.le_refl _) _
  have UB := hide (BK3.out.alloc (.cells #[.int .i64 (d1.cls : Int), .bool d1.neg, .string ⟨d1.dig.toArray⟩, .int .i64 d1.exp] 24))
  have u0 : (w3.alloc (.cells #[.int .i64 (d1.cls : Int), .bool d1.neg, .string ⟨d1.dig.toArray⟩, .int .i64 d1.exp] 24)).cell? ⟨H, 0, none⟩ = some (.int .i64 0) := UB.out.cell 0
  have u1 : (w3.alloc (.cells #[.int .i64 (d1.cls : Int), .bool d1.neg, .string ⟨d1.dig.toArray⟩, .int .i64 d1.exp] 24)).cell? ⟨H, 1, none⟩ = some (.bool neg) := UB.out.cell 1
  have u2 : (w3.alloc (.cells #[.int .i64 (d1.cls : Int), .bool d1.neg, .string ⟨d1.dig.toArray⟩, .int .i64 d1.exp] 24)).cell? ⟨H, 2, none⟩ = some (.string t) := UB.out.cell 2
  have u3 : (w3.alloc (.cells #[.int .i64 (d1.cls : Int), .bool d1.neg, .string ⟨d1.dig.toArray⟩, .int .i64 d1.exp] 24)).cell? ⟨H, 3, none⟩ = some (.int .i64 ex) := UB.out.cell 3
  have G1 := hide (Blk.new w3 #[.int .i64 (d1.cls : Int), .bool d1.neg, .string ⟨d1.dig.toArray⟩, .int .i64 d1.exp] 24)
  clear b3 HB2 BK2 C1 y0 y1 y2 y3
  go_wp2_with fail
  refine (C2.out _).mono ?_
  rintro e w4 ⟨rfl, b4⟩
  have T4 := hide (AL3.out.trans (b4.mono AL3.out.size))
  have HB4 := hide (HB3.out.trans (T4.out.mono HB3.out.size))
  have AL4 : Hid (Below w4.heap.size w4 (w4.alloc (.cells #[.int .i64 (d2.cls : Int), .bool d2.neg, .string ⟨d2.dig.toArray⟩, .int .i64 d2.exp] 24))) := (Below.refl _ _).alloc (Nat.le_refl _) _
  have G4 := hide (G1.out.below b4 G1.out.lt)
  have VB := hide (G4.out.alloc (.cells #[.int .i64 (d2.cls : Int), .bool d2.neg, .string ⟨d2.dig.toArray⟩, .int .i64 d2.exp] 24))
  have v0 : (w4.alloc (.cells #[.int .i64 (d2.cls : Int), .bool d2.neg, .string ⟨d2.dig.toArray⟩, .int .i64 d2.exp] 24)).cell? ⟨w3.heap.size, 0, none⟩ = some (.int .i64 (d1.cls : Int)) := VB.out.cell 0
  have v1 : (w4.alloc (.cells #[.int .i64 (d2.cls : Int), .bool d2.neg, .string ⟨d2.dig.toArray⟩, .int .i64 d2.exp] 24)).cell? ⟨w3.heap.size, 1, none⟩ = some (.bool d1.neg) := VB.out.cell 1
  have v2 : (w4.alloc (.cells #[.int .i64 (d2.cls : Int), .bool d2.neg, .string ⟨d2.dig.toArray⟩, .int .i64 d2.exp] 24)).cell? ⟨w3.heap.size, 2, none⟩ = some (.string ⟨d1.dig.toArray⟩) := VB.out.cell 2
  have v3 : (w4.alloc (.cells #[.int .i64 (d2.cls : Int), .bool d2.neg, .string ⟨d2.dig.toArray⟩, .int .i64 d2.exp] 24)).cell? ⟨w3.heap.size, 3, none⟩ = some (.int .i64 d1.exp) := VB.out.cell 3
  have G2 := hide (Blk.new w4 #[.int .i64 (d2.cls : Int), .bool d2.neg, .string ⟨d2.dig.toArray⟩, .int .i64 d2.exp] 24)
  clear b4 HB3 BK3 C2 u0 u1 u2 u3 UB G1 T4 AL3 G4
  go_wp2_with fail
  refine (T1.out _).mono ?_
  rintro e w5 ⟨rfl, b5⟩
  have HB5 := hide (HB4.out.trans ((AL4.out.trans (b5.mono AL4.out.size)).mono HB4.out.size))
  have ZB := hide (G2.out.below b5 G2.out.lt)
  have z0 : w5.cell? ⟨w4.heap.size, 0, none⟩ = some (.int .i64 (d2.cls : Int)) := ZB.out.cell 0
  have z1 : w5.cell? ⟨w4.heap.size, 1, none⟩ = some (.bool d2.neg) := ZB.out.cell 1
  have z2 : w5.cell? ⟨w4.heap.size, 2, none⟩ = some (.string ⟨d2.dig.toArray⟩) := ZB.out.cell 2
  have z3 : w5.cell? ⟨w4.heap.size, 3, none⟩ = some (.int .i64 d2.exp) := ZB.out.cell 3
  clear b5 HB4 AL4 VB G2 v0 v1 v2 v3 T1
  go_wp2_with fail
  refine (T2.out _).mono ?_
  rintro e w6 ⟨rfl, b6⟩
  have HB6 := hide (HB5.out.trans (b6.mono HB5.out.size))
  clear b6 HB5 T2 ZB z0 z1 z2 z3
  go_wp2
  go_ret
  exact ⟨rfl, HB6.out⟩

theorem fewest_walk (w : World) (htab : Tab w) (b : Nat) (hb : b < 18446744073709551616) :
    Calls Tryz.prog 3 #[.int .u64 (b : Int)] w fun e w' => e = .returned (.bool true) ∧ Below w.heap.size w w' := by
  by_cases hc : (of64D b).cls = 0
  · rcases Nat.lt_or_ge (of64D b).dig.length 2 with hl | hl
    · exact fewest_idle b w hb htab _ _ _ _ rfl (.inr ⟨by rw [hc]; rfl, by simpa [ByteArray.size] using hl⟩)
    · obtain ⟨neg, M, ex, hd, hM, hM2, h1, h2, hZ⟩ := fewest_data hc hl
      have h17 : (10 : Nat) ^ 17 = 100000000000000000 := by decide
      have h18 : (10 : Nat) ^ 18 = 1000000000000000000 := by decide
      obtain ⟨s1, s2⟩ := strN_cut1 hM
      have hv : decV (bys (strN (M / 10))) = M / 10 := by rw [strN_bys, dd_val]
      have hz1 : M / 10 ≠ 0 := by omega
      have hsz : sizeN (M / 10) ≤ 18 := sizeN_le (by omega) (by omega)
      have hp := sizeN_pos (M / 10)
      have e1 : ∀ Z, Z ≠ 0 → decZ neg Z (ex + 1) = decA neg Z (ex + 1) := fun Z h => if_neg h
      refine fewest_busy b w hb htab ex neg (strN M) (strN (M / 10)) (sizeN (M / 10)) (by rw [hd]; rfl) s2 (by omega) (by omega) s1 (by rw [strN_bys]; exact (dd_okT _).2.2) (by rw [strN_bys]; unfold sizeN at hsz; omega) (by omega) (by omega) ?_ ?_ ?_ ?_
      · rw [hv, e1 _ hz1]; exact (hZ _ hz1 (by omega)).1
      · rw [hv, e1 _ (by omega)]; exact (hZ _ (by omega) (by omega)).1
      · rw [hv, e1 _ hz1]; exact (hZ _ hz1 (by omega)).2 hb
      · rw [hv, e1 _ (by omega)]; exact (hZ _ (by omega) (by omega)).2 hb
  · exact fewest_idle b w hb htab _ _ _ _ rfl (.inl (by omega))

end Go.Proofs.YtpiloigpncbccacGreatDoor
