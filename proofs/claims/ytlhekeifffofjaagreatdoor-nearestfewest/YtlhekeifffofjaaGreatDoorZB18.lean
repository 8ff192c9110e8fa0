/-
  What quipulaw04's cut does, and the walk of NearestFewest.
  The walk of NearestFewest.
-/
import Derived.Test.YtlhekeifffofjaaGreatDoorZB6
import Derived.Test.YtlhekeifffofjaaGreatDoorZB17
import Derived.Test.YtlhekeifffofjaaGreatDoorZB9
namespace Go.Proofs.YtlhekeifffofjaaGreatDoor
open Go.RowKit

theorem frow_one32 (w : World) : Nr (w.alloc (.cells #[.int .u32 1] 34)) (.slice (some ⟨w.heap.size, 0, none⟩) 1 1) 1 := by
  refine ⟨_, _, [1], rfl, Nat.le_refl _, Row.at (k := .u32) (e := 34) (heap_alloc_new w _), ?_, ?_, rfl⟩
  · intro i
    rcases i with _ | i
    · decide
    · simp [dg]
  · intro n hn
    simp at hn
    subst hn; decide

set_option maxRecDepth 100000 in
set_option maxHeartbeats 1000000 in
theorem cut_false (neg : Bool) (t s : ByteArray) (n : Nat) (ex : Int) (w : World) (ht : t.size = n + 1) (hn : n ≤ 100) (hs : t.extract 0 n = s) (hd : DigB (bys s)) (hl : (bys s).length ≤ 100) (h1 : -4000 ≤ ex) (h2 : ex ≤ 4000) :
    Calls Tryz.prog 25 #[dcV 0 neg t ex, .int .i64 (n : Int), .bool false] w fun e w' => e = .returned (decVal (decZ neg (decV (bys s)) (ex + 1))) ∧ Below w.heap.size w w' := by
  have hV := decV_lt _ (bys s) rfl hd
  obtain ⟨j, hj⟩ : ∃ j, j = (bys s).length := ⟨_, rfl⟩
  rw [← hj] at hV hl
  have hV1 : decV (bys s) < 10 ^ (j + 1) := by rw [Nat.pow_succ]; have : 0 < 10 ^ j := Nat.pow_pos (by omega); omega
  have OFC : Hid (∀ W', Calls Tryz.prog 28 #[.string s] W' (NrPost W' (decV (bys s)))) := fun W' => (rof_any s W' (by rw [← bys_len]; omega) hd).mono fun e w' hh => NrPost.of hh
  have SV : Hid (Sm (decV (bys s)) ∧ Sm 1 ∧ Sm (decV (bys s)) ∧ sizeN (decV (bys s)) ≤ 5000) := ⟨Sm.of hV (by omega), Sm.of (k := 1) (by omega) (by omega), Sm.of hV1 (by omega), size_bound hV1 (by omega) (by omega)⟩
  obtain ⟨d, hdd⟩ : ∃ d, d = decZ neg (decV (bys s)) (ex + 1) := ⟨_, rfl⟩
  rw [← hdd]
  have RDC : Hid (∀ (W' : World) (o : Option Addr) (l c : Nat) (z : Int), z = ex + 1 → Nr W' (.slice o l c) (decV (bys s)) → Calls Tryz.prog 34 #[.bool neg, .slice o l c, .int .i64 z] W' fun e w' => e = .returned (decVal d) ∧ Below W'.heap.size W' w') := fun W' o l c z hz hN => by
    rw [hdd, hz]
    exact rdec_any neg o l c _ _ W' hN SV.out.2.2.2 SV.out.2.2.1 (by omega) (by omega)
  have FIN : Hid (decVal d = .agg #[.int .i64 (d.cls : Int), .bool d.neg, .string ⟨d.dig.toArray⟩, .int .i64 d.exp]) := rfl
  have blk := (Blk.new w #[.int .i64 0, .bool neg, .string t, .int .i64 ex] 23).alloc (.cells #[.int .i64 0, .bool false, .string ⟨#[]⟩, .int .i64 0] 23)
  have blkz := Blk.newAt (w.alloc (.cells #[.int .i64 0, .bool neg, .string t, .int .i64 ex] 23)) (w.heap.size + 1) (by simp) #[.int .i64 0, .bool false, .string ⟨#[]⟩, .int .i64 0] 23
  obtain ⟨W, hW⟩ : ∃ W, W = (w.alloc (.cells #[.int .i64 0, .bool neg, .string t, .int .i64 ex] 23)).alloc (.cells #[.int .i64 0, .bool false, .string ⟨#[]⟩, .int .i64 0] 23) := ⟨_, rfl⟩
  rw [← hW] at blk blkz
  have HBW : Hid (Below w.heap.size w W) := by rw [hW]; exact ((Below.refl _ _).alloc (Nat.le_refl _) _).alloc (by simp) _
  have BLK := hide blk
  have BLZ := hide blkz
  have c2 : W.cell? ⟨w.heap.size, 2, none⟩ = some (.string t) := blk.cell 2
  have hsz : (n : Int) ≤ (t.size : Int) := by omega
  have hn0 : (0 : Int) ≤ (n : Int) := by omega
  have HW := hide hW
  have HS := hide hs
  clear blk blkz hW hdd hj hV hV1 hd hl hs
  go_enter Tryz.func25, Tryz.ntmps25
  go_wp2_with fail
  simp only [← HW.out]
  simp only [HS.out]
  refine (OFC.out _).mono ?_
  rintro e w1 ⟨o1, c1, l1, rfl, n1, b1⟩
  have N1 := hide n1
  have T1 := hide b1
  clear n1 b1 c2 OFC
  obtain ⟨wz, hwz⟩ : ∃ x, x = w1 := ⟨_, rfl⟩
  rw [← hwz] at N1 T1 ⊢
  have NZ := hide N1.out
  have TZ := hide T1.out
  clear N1 T1 hwz
  have q := BLK.out.below TZ.out BLK.out.lt
  have qz := BLZ.out.below TZ.out BLZ.out.lt
  have a1 : wz.cell? ⟨w.heap.size, 1, none⟩ = some (.bool neg) := q.cell 1
  have a2 : wz.cell? ⟨w.heap.size, 2, none⟩ = some (.string t) := q.cell 2
  have a3 : wz.cell? ⟨w.heap.size, 3, none⟩ = some (.int .i64 ex) := q.cell 3
  have BZ := hide qz
  have HBZ := hide (HBW.out.trans (TZ.out.mono HBW.out.size))
  clear q qz BLK BLZ HBW TZ
  go_wp2_with fail
  refine (RDC.out _ _ _ _ _ (by omega) NZ.out).mono ?_
  rintro e w9 ⟨rfl, hb9⟩
  have HB9 := hide (HBZ.out.trans (hb9.mono HBZ.out.size))
  have B9 := BZ.out.below hb9 BZ.out.lt
  have k0 : w9.cell? ⟨w.heap.size + 1, 0, none⟩ = some (.int .i64 0) := B9.cell 0
  have k1 : w9.cell? ⟨w.heap.size + 1, 1, none⟩ = some (.bool false) := B9.cell 1
  have k2 : w9.cell? ⟨w.heap.size + 1, 2, none⟩ = some (.string ⟨#[]⟩) := B9.cell 2
  have k3 : w9.cell? ⟨w.heap.size + 1, 3, none⟩ = some (.int .i64 0) := B9.cell 3
  have f0 := B9.free 0
  have f1 := B9.free 1
  have f2 := B9.free 2
  have f3 := B9.free 3
  have BL9 := hide B9
  clear B9 hb9 BZ HBZ RDC NZ a1 a2 a3
  rw [FIN.out]
  simp only []
  repeat (first | go_values | go_skip | go_guarded | go_step | go_upon)
  refine bodyPost_ret (results_dec rfl _ _ _ _ _ _ _ rfl (BL9.out.put4 _ _ _ _)) rfl ?_
  exact ⟨rfl, below_put4 HB9.out (by omega) _ _ _ _⟩

set_option maxRecDepth 100000 in
set_option maxHeartbeats 1000000 in
theorem cut_true (neg : Bool) (t s : ByteArray) (n : Nat) (ex : Int) (w : World) (ht : t.size = n + 1) (hn : n ≤ 100) (hs : t.extract 0 n = s) (hd : DigB (bys s)) (hl : (bys s).length ≤ 100) (h1 : -4000 ≤ ex) (h2 : ex ≤ 4000) :
    Calls Tryz.prog 25 #[dcV 0 neg t ex, .int .i64 (n : Int), .bool true] w fun e w' => e = .returned (decVal (decZ neg (decV (bys s) + 1) (ex + 1))) ∧ Below w.heap.size w w' := by
  have hV := decV_lt _ (bys s) rfl hd
  obtain ⟨j, hj⟩ : ∃ j, j = (bys s).length := ⟨_, rfl⟩
  rw [← hj] at hV hl
  have hV1 : decV (bys s) + 1 < 10 ^ (j + 1) := by rw [Nat.pow_succ]; have : 0 < 10 ^ j := Nat.pow_pos (by omega); omega
  have OFC : Hid (∀ W', Calls Tryz.prog 28 #[.string s] W' (NrPost W' (decV (bys s)))) := fun W' => (rof_any s W' (by rw [← bys_len]; omega) hd).mono fun e w' hh => NrPost.of hh
  have SV : Hid (Sm (decV (bys s)) ∧ Sm 1 ∧ Sm (decV (bys s) + 1) ∧ sizeN (decV (bys s) + 1) ≤ 5000) := ⟨Sm.of hV (by omega), Sm.of (k := 1) (by omega) (by omega), Sm.of hV1 (by omega), size_bound hV1 (by omega) (by omega)⟩
  obtain ⟨d, hdd⟩ : ∃ d, d = decZ neg (decV (bys s) + 1) (ex + 1) := ⟨_, rfl⟩
  rw [← hdd]
  have RDC : Hid (∀ (W' : World) (o : Option Addr) (l c : Nat) (z : Int), z = ex + 1 → Nr W' (.slice o l c) (decV (bys s) + 1) → Calls Tryz.prog 34 #[.bool neg, .slice o l c, .int .i64 z] W' fun e w' => e = .returned (decVal d) ∧ Below W'.heap.size W' w') := fun W' o l c z hz hN => by
    rw [hdd, hz]
    exact rdec_any neg o l c _ _ W' hN SV.out.2.2.2 SV.out.2.2.1 (by omega) (by omega)
  have FIN : Hid (decVal d = .agg #[.int .i64 (d.cls : Int), .bool d.neg, .string ⟨d.dig.toArray⟩, .int .i64 d.exp]) := rfl
  have blk := (Blk.new w #[.int .i64 0, .bool neg, .string t, .int .i64 ex] 23).alloc (.cells #[.int .i64 0, .bool false, .string ⟨#[]⟩, .int .i64 0] 23)
  have blkz := Blk.newAt (w.alloc (.cells #[.int .i64 0, .bool neg, .string t, .int .i64 ex] 23)) (w.heap.size + 1) (by simp) #[.int .i64 0, .bool false, .string ⟨#[]⟩, .int .i64 0] 23
  obtain ⟨W, hW⟩ : ∃ W, W = (w.alloc (.cells #[.int .i64 0, .bool neg, .string t, .int .i64 ex] 23)).alloc (.cells #[.int .i64 0, .bool false, .string ⟨#[]⟩, .int .i64 0] 23) := ⟨_, rfl⟩
  rw [← hW] at blk blkz
  have HBW : Hid (Below w.heap.size w W) := by rw [hW]; exact ((Below.refl _ _).alloc (Nat.le_refl _) _).alloc (by simp) _
  have BLK := hide blk
  have BLZ := hide blkz
  have c2 : W.cell? ⟨w.heap.size, 2, none⟩ = some (.string t) := blk.cell 2
  have hsz : (n : Int) ≤ (t.size : Int) := by omega
  have hn0 : (0 : Int) ≤ (n : Int) := by omega
  have HW := hide hW
  have HS := hide hs
  clear blk blkz hW hdd hj hV hV1 hd hl hs
  go_enter Tryz.func25, Tryz.ntmps25
  go_wp2_with fail
  simp only [← HW.out]
  simp only [HS.out]
  refine (OFC.out _).mono ?_
  rintro e w1 ⟨o1, c1, l1, rfl, n1, b1⟩
  have N1 := hide n1
  have T1 := hide b1
  clear n1 b1 c2 OFC
  have AL : Hid (Below w1.heap.size w1 (w1.alloc (.cells #[.int .u32 1] 34))) := (Below.refl _ _).alloc (Nat.le_refl _) _
  have AD := hide (nr_add _ _ (decV (bys s)) 1 _ (N1.out.below AL.out) (frow_one32 w1) SV.out.1 SV.out.2.1)
  go_wp2_with fail
  refine AD.out.mono ?_
  rintro e wz ⟨o2, c2, l2, rfl, n2, b2⟩
  have NZ := hide n2
  have TZ := hide (T1.out.trans ((AL.out.trans (b2.mono AL.out.size)).mono T1.out.size))
  clear n2 b2 AD AL N1 T1
  have q := BLK.out.below TZ.out BLK.out.lt
  have qz := BLZ.out.below TZ.out BLZ.out.lt
  have a1 : wz.cell? ⟨w.heap.size, 1, none⟩ = some (.bool neg) := q.cell 1
  have a2 : wz.cell? ⟨w.heap.size, 2, none⟩ = some (.string t) := q.cell 2
  have a3 : wz.cell? ⟨w.heap.size, 3, none⟩ = some (.int .i64 ex) := q.cell 3
  have BZ := hide qz
  have HBZ := hide (HBW.out.trans (TZ.out.mono HBW.out.size))
  clear q qz BLK BLZ HBW TZ
  go_wp2_with fail
  refine (RDC.out _ _ _ _ _ (by omega) NZ.out).mono ?_
  rintro e w9 ⟨rfl, hb9⟩
  have HB9 := hide (HBZ.out.trans (hb9.mono HBZ.out.size))
  have B9 := BZ.out.below hb9 BZ.out.lt
  have k0 : w9.cell? ⟨w.heap.size + 1, 0, none⟩ = some (.int .i64 0) := B9.cell 0
  have k1 : w9.cell? ⟨w.heap.size + 1, 1, none⟩ = some (.bool false) := B9.cell 1
  have k2 : w9.cell? ⟨w.heap.size + 1, 2, none⟩ = some (.string ⟨#[]⟩) := B9.cell 2
  have k3 : w9.cell? ⟨w.heap.size + 1, 3, none⟩ = some (.int .i64 0) := B9.cell 3
  have f0 := B9.free 0
  have f1 := B9.free 1
  have f2 := B9.free 2
  have f3 := B9.free 3
  have BL9 := hide B9
  clear B9 hb9 BZ HBZ RDC NZ a1 a2 a3
  rw [FIN.out]
  simp only []
  repeat (first | go_values | go_skip | go_guarded | go_step | go_upon)
  refine bodyPost_ret (results_dec rfl _ _ _ _ _ _ _ rfl (BL9.out.put4 _ _ _ _)) rfl ?_
  exact ⟨rfl, below_put4 HB9.out (by omega) _ _ _ _⟩

end Go.Proofs.YtlhekeifffofjaaGreatDoor

namespace Go.Proofs.YtlhekeifffofjaaGreatDoor
open Go.RowKit

theorem ne_bool {a b : Nat} (h : a ≠ b) : ((a : Int) != (b : Int)) = true := by
  have : ¬ (a : Int) = (b : Int) := by omega
  simpa using this

set_option maxRecDepth 100000 in
set_option maxHeartbeats 1000000 in
theorem fewest_idle (b : Nat) (w : World) (hb : b < 18446744073709551616) (htab : Tab w) (c ex : Int) (neg : Bool) (t : ByteArray) (hd : decVal (of64D b) = dcV c neg t ex) (h : ¬ c = 0 ∨ c = 0 ∧ t.size < 2) :
    Calls Tryz.prog 7 #[.int .u64 (b : Int)] w fun e w' => e = .returned (.bool true) ∧ Below w.heap.size w w' := by
  have OF := hide (of64_any b w hb htab)
  rw [hd] at OF
  have AW := hide (fun W => nawake_any W)
  have HT := hide htab
  clear htab hd
  go_enter Tryz.func7, Tryz.ntmps7
  go_wp2_with fail
  refine OF.out.mono ?_
  rintro e w1 ⟨rfl, b1⟩
  have AL : Hid (Below w1.heap.size w1 (w1.alloc (.cells #[.int .i64 c, .bool neg, .string t, .int .i64 ex] 23))) := (Below.refl _ _).alloc (Nat.le_refl _) _
  have BK := hide (Blk.new w1 #[.int .i64 c, .bool neg, .string t, .int .i64 ex] 23)
  have HB1 := hide (b1.trans (AL.out.mono b1.size))
  clear b1 OF AL
  go_wp2_with fail
  refine (AW.out _ (HT.out.below HB1.out)).mono ?_
  rintro e w2 ⟨rfl, b2⟩
  have HB2 := hide (HB1.out.trans (b2.mono HB1.out.size))
  have q := BK.out.below b2 BK.out.lt
  have y0 : w2.cell? ⟨w1.heap.size, 0, none⟩ = some (.int .i64 c) := q.cell 0
  have y2 : w2.cell? ⟨w1.heap.size, 2, none⟩ = some (.string t) := q.cell 2
  clear b2 q BK HB1 AW
  rcases h with h | ⟨rfl, h⟩
  · have hc : (c != 0) = true := by simpa using h
    go_wp2
    go_ret
    exact ⟨rfl, HB2.out⟩
  · have h2 : (t.size : Int) < 2 := by omega
    go_wp2
    go_ret
    exact ⟨rfl, HB2.out⟩

set_option maxRecDepth 100000 in
set_option maxHeartbeats 2000000 in
theorem fewest_busy (b : Nat) (w : World) (hb : b < 18446744073709551616) (htab : Tab w) (ex : Int) (neg : Bool) (t s : ByteArray) (n : Nat) (hd : decVal (of64D b) = dcV 0 neg t ex) (ht : t.size = n + 1) (hn1 : 1 ≤ n) (hn : n ≤ 100) (hs : t.extract 0 n = s) (hds : DigB (bys s)) (hl : (bys s).length ≤ 100) (h1 : -4000 ≤ ex) (h2 : ex ≤ 4000)
    (m1 : May (decZ neg (decV (bys s)) (ex + 1))) (m2 : May (decZ neg (decV (bys s) + 1) (ex + 1))) (n1 : toD 52 11 1074 (decZ neg (decV (bys s)) (ex + 1)) ≠ b) (n2 : toD 52 11 1074 (decZ neg (decV (bys s) + 1) (ex + 1)) ≠ b) :
    Calls Tryz.prog 7 #[.int .u64 (b : Int)] w fun e w' => e = .returned (.bool true) ∧ Below w.heap.size w w' := by
  have OF := hide (of64_any b w hb htab)
  rw [hd] at OF
  have AW := hide (fun W => nawake_any W)
  have HT := hide htab
  have C1 := hide (fun W => cut_false neg t s n ex W ht hn hs hds hl h1 h2)
  have C2 := hide (fun W => cut_true neg t s n ex W ht hn hs hds hl h1 h2)
  have T1 := hide (fun W => to64_dec (decZ neg (decV (bys s)) (ex + 1)) W m1)
  have T2 := hide (fun W => to64_dec (decZ neg (decV (bys s) + 1) (ex + 1)) W m2)
  obtain ⟨r1, hr1⟩ : ∃ r, r = toD 52 11 1074 (decZ neg (decV (bys s)) (ex + 1)) := ⟨_, rfl⟩
  obtain ⟨r2, hr2⟩ : ∃ r, r = toD 52 11 1074 (decZ neg (decV (bys s) + 1) (ex + 1)) := ⟨_, rfl⟩
  rw [← hr1] at T1 n1
  rw [← hr2] at T2 n2
  obtain ⟨d1, hd1⟩ : ∃ d, d = decZ neg (decV (bys s)) (ex + 1) := ⟨_, rfl⟩
  obtain ⟨d2, hd2⟩ : ∃ d, d = decZ neg (decV (bys s) + 1) (ex + 1) := ⟨_, rfl⟩
  rw [← hd1] at T1 C1
  rw [← hd2] at T2 C2
  have F1 : Hid (decVal d1 = .agg #[.int .i64 (d1.cls : Int), .bool d1.neg, .string ⟨d1.dig.toArray⟩, .int .i64 d1.exp]) := rfl
  have F2 : Hid (decVal d2 = .agg #[.int .i64 (d2.cls : Int), .bool d2.neg, .string ⟨d2.dig.toArray⟩, .int .i64 d2.exp]) := rfl
  rw [F1.out] at T1 C1
  rw [F2.out] at T2 C2
  have e1 := ne_bool n1
  have e2 := ne_bool n2
  have hsz : ¬ (t.size : Int) < 2 := by omega
  have hsn : (t.size : Int) = (n : Int) + 1 := by omega
  clear htab hd hr1 hr2 hd1 hd2 F1 F2 n1 n2 m1 m2 hds hl hs h1 h2
  go_enter Tryz.func7, Tryz.ntmps7
  go_wp2_with fail
  refine OF.out.mono ?_
  rintro e w1 ⟨rfl, b1⟩
  have AL : Hid (Below w1.heap.size w1 (w1.alloc (.cells #[.int .i64 0, .bool neg, .string t, .int .i64 ex] 23))) := (Below.refl _ _).alloc (Nat.le_refl _) _
  have BK := hide (Blk.new w1 #[.int .i64 0, .bool neg, .string t, .int .i64 ex] 23)
  have HB1 := hide (b1.trans (AL.out.mono b1.size))
  obtain ⟨H, hH⟩ : ∃ H, H = w1.heap.size := ⟨_, rfl⟩
  rw [← hH] at BK
  have HHH := hide hH
  clear b1 OF AL hH
  go_wp2_with fail
  simp only [← HHH.out]
  refine (AW.out _ (HT.out.below HB1.out)).mono ?_
  rintro e w2 ⟨rfl, b2⟩
  have HB2 := hide (HB1.out.trans (b2.mono HB1.out.size))
  have BK2 := hide (BK.out.below b2 BK.out.lt)
  have y0 : w2.cell? ⟨H, 0, none⟩ = some (.int .i64 0) := BK2.out.cell 0
  have y1 : w2.cell? ⟨H, 1, none⟩ = some (.bool neg) := BK2.out.cell 1
  have y2 : w2.cell? ⟨H, 2, none⟩ = some (.string t) := BK2.out.cell 2
  have y3 : w2.cell? ⟨H, 3, none⟩ = some (.int .i64 ex) := BK2.out.cell 3
  clear b2 BK HB1 AW
  go_wp2_with fail
  refine (C1.out _).mono ?_
  rintro e w3 ⟨rfl, b3⟩
  have HB3 := hide (HB2.out.trans (b3.mono HB2.out.size))
  have BK3 := hide (BK2.out.below b3 BK2.out.lt)
  have AL3 : Hid (Below w3.heap.size w3 (w3.alloc (.cells #[.int .i64 (d1.cls : Int), .bool d1.neg, .string ⟨d1.dig.toArray⟩, .int .i64 d1.exp] 23))) := (Below.refl _ _).alloc (Nat.le_refl _) _
  have UB := hide (BK3.out.alloc (.cells #[.int .i64 (d1.cls : Int), .bool d1.neg, .string ⟨d1.dig.toArray⟩, .int .i64 d1.exp] 23))
  have u0 : (w3.alloc (.cells #[.int .i64 (d1.cls : Int), .bool d1.neg, .string ⟨d1.dig.toArray⟩, .int .i64 d1.exp] 23)).cell? ⟨H, 0, none⟩ = some (.int .i64 0) := UB.out.cell 0
  have u1 : (w3.alloc (.cells #[.int .i64 (d1.cls : Int), .bool d1.neg, .string ⟨d1.dig.toArray⟩, .int .i64 d1.exp] 23)).cell? ⟨H, 1, none⟩ = some (.bool neg) := UB.out.cell 1
  have u2 : (w3.alloc (.cells #[.int .i64 (d1.cls : Int), .bool d1.neg, .string ⟨d1.dig.toArray⟩, .int .i64 d1.exp] 23)).cell? ⟨H, 2, none⟩ = some (.string t) := UB.out.cell 2
  have u3 : (w3.alloc (.cells #[.int .i64 (d1.cls : Int), .bool d1.neg, .string ⟨d1.dig.toArray⟩, .int .i64 d1.exp] 23)).cell? ⟨H, 3, none⟩ = some (.int .i64 ex) := UB.out.cell 3
  have G1 := hide (Blk.new w3 #[.int .i64 (d1.cls : Int), .bool d1.neg, .string ⟨d1.dig.toArray⟩, .int .i64 d1.exp] 23)
  clear b3 HB2 BK2 C1 y0 y1 y2 y3
  go_wp2_with fail
  refine (C2.out _).mono ?_
  rintro e w4 ⟨rfl, b4⟩
  have T4 := hide (AL3.out.trans (b4.mono AL3.out.size))
  have HB4 := hide (HB3.out.trans (T4.out.mono HB3.out.size))
  have AL4 : Hid (Below w4.heap.size w4 (w4.alloc (.cells #[.int .i64 (d2.cls : Int), .bool d2.neg, .string ⟨d2.dig.toArray⟩, .int .i64 d2.exp] 23))) := (Below.refl _ _).alloc (Nat.le_refl _) _
  have G4 := hide (G1.out.below b4 G1.out.lt)
  have VB := hide (G4.out.alloc (.cells #[.int .i64 (d2.cls : Int), .bool d2.neg, .string ⟨d2.dig.toArray⟩, .int .i64 d2.exp] 23))
  have v0 : (w4.alloc (.cells #[.int .i64 (d2.cls : Int), .bool d2.neg, .string ⟨d2.dig.toArray⟩, .int .i64 d2.exp] 23)).cell? ⟨w3.heap.size, 0, none⟩ = some (.int .i64 (d1.cls : Int)) := VB.out.cell 0
  have v1 : (w4.alloc (.cells #[.int .i64 (d2.cls : Int), .bool d2.neg, .string ⟨d2.dig.toArray⟩, .int .i64 d2.exp] 23)).cell? ⟨w3.heap.size, 1, none⟩ = some (.bool d1.neg) := VB.out.cell 1
  have v2 : (w4.alloc (.cells #[.int .i64 (d2.cls : Int), .bool d2.neg, .string ⟨d2.dig.toArray⟩, .int .i64 d2.exp] 23)).cell? ⟨w3.heap.size, 2, none⟩ = some (.string ⟨d1.dig.toArray⟩) := VB.out.cell 2
  have v3 : (w4.alloc (.cells #[.int .i64 (d2.cls : Int), .bool d2.neg, .string ⟨d2.dig.toArray⟩, .int .i64 d2.exp] 23)).cell? ⟨w3.heap.size, 3, none⟩ = some (.int .i64 d1.exp) := VB.out.cell 3
  have G2 := hide (Blk.new w4 #[.int .i64 (d2.cls : Int), .bool d2.neg, .string ⟨d2.dig.toArray⟩, .int .i64 d2.exp] 23)
  clear b4 HB3 BK3 C2 u0 u1 u2 u3 UB G1 T4 AL3 G4
  go_wp2_with fail
  refine (T1.out _).mono ?_
  rintro e w5 ⟨rfl, b5⟩
  have HB5 := hide (HB4.out.trans ((AL4.out.trans (b5.mono AL4.out.size)).mono HB4.out.size))
  have ZB := hide (G2.out.below b5 G2.out.lt)
  have z0 : w5.cell? ⟨w4.heap.size, 0, none⟩ = some (.int .i64 (d2.cls : Int)) := ZB.out.cell 0
  have z1 : w5.cell? ⟨w4.heap.size, 1, none⟩ = some (.bool d2.neg) := ZB.out.cell 1
  have z2 : w5.cell? ⟨w4.heap.size, 2, none⟩ = some (.string ⟨d2.dig.toArray⟩) := ZB.out.cell 2
  have z3 : w5.cell? ⟨w4.heap.size, 3, none⟩ = some (.int .i64 d2.exp) := ZB.out.cell 3
  clear b5 HB4 AL4 VB G2 v0 v1 v2 v3 T1
  go_wp2_with fail
  refine (T2.out _).mono ?_
  rintro e w6 ⟨rfl, b6⟩
  have HB6 := hide (HB5.out.trans (b6.mono HB5.out.size))
  clear b6 HB5 T2 ZB z0 z1 z2 z3
  go_wp2
  go_ret
  exact ⟨rfl, HB6.out⟩

theorem fewest_walk (w : World) (htab : Tab w) (b : Nat) (hb : b < 18446744073709551616) :
    Calls Tryz.prog 7 #[.int .u64 (b : Int)] w fun e w' => e = .returned (.bool true) ∧ Below w.heap.size w w' := by
  by_cases hc : (of64D b).cls = 0
  · rcases Nat.lt_or_ge (of64D b).dig.length 2 with hl | hl
    · exact fewest_idle b w hb htab _ _ _ _ rfl (.inr ⟨by rw [hc]; rfl, by simpa [ByteArray.size] using hl⟩)
    · obtain ⟨neg, M, ex, hd, hM, hM2, h1, h2, hZ⟩ := fewest_data hc hl
      have h17 : (10 : Nat) ^ 17 = 100000000000000000 := by decide
      have h18 : (10 : Nat) ^ 18 = 1000000000000000000 := by decide
      obtain ⟨s1, s2⟩ := strN_cut1 hM
      have hv : decV (bys (strN (M / 10))) = M / 10 := by rw [strN_bys, dd_val]
      have hz1 : M / 10 ≠ 0 := by omega
      have hsz : sizeN (M / 10) ≤ 18 := sizeN_le (by omega) (by omega)
      have hp := sizeN_pos (M / 10)
      have e1 : ∀ Z, Z ≠ 0 → decZ neg Z (ex + 1) = decA neg Z (ex + 1) := fun Z h => if_neg h
      refine fewest_busy b w hb htab ex neg (strN M) (strN (M / 10)) (sizeN (M / 10)) (by rw [hd]; rfl) s2 (by omega) (by omega) s1 (by rw [strN_bys]; exact (dd_okT _).2.2) (by rw [strN_bys]; unfold sizeN at hsz; omega) (by omega) (by omega) ?_ ?_ ?_ ?_
      · rw [hv, e1 _ hz1]; exact (hZ _ hz1 (by omega)).1
      · rw [hv, e1 _ (by omega)]; exact (hZ _ (by omega) (by omega)).1
      · rw [hv, e1 _ hz1]; exact (hZ _ hz1 (by omega)).2 hb
      · rw [hv, e1 _ (by omega)]; exact (hZ _ (by omega) (by omega)).2 hb
  · exact fewest_idle b w hb htab _ _ _ _ rfl (.inl (by omega))

end Go.Proofs.YtlhekeifffofjaaGreatDoor
