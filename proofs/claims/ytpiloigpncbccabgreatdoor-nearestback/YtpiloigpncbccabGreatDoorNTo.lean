/-
  What nearest's fractionOf does.
-/
import Derived.Test.YtpiloigpncbccabGreatDoorNNear
import Derived.Test.YtpiloigpncbccabGreatDoorNMay
namespace Go.Proofs.YtpiloigpncbccabGreatDoor
open Go.RowKit

theorem fit_pow (k : Nat) (hk : k ≤ 3000) : Fit (10 ^ k) := by
  have h1 : (10 : Nat) ^ k ≤ powT 10 3000 := powT_ge (by omega) hk
  have h2 : powT 10 3000 < powT 2 30000 := by decide +kernel
  exact Nat.lt_of_le_of_lt h1 h2

theorem fit_lt {n k : Nat} (h : n < 10 ^ k) (hk : k ≤ 3000) : Fit n := Nat.lt_trans h (fit_pow k hk)

/-- The numbers of a Dec that may be, and has digits. -/
structure Nums (dig : List UInt8) (e : Int) (o u : Nat) : Prop where
  over : o = decV dig * 10 ^ e.toNat
  under : u = 10 ^ (-e).toNat
  fo : Fit o
  fu : Fit u
  o0 : o ≠ 0
  u0 : u ≠ 0

theorem Nums.of {dig : List UInt8} {e : Int} (h : DigD dig e) : Nums dig e (decV dig * 10 ^ e.toNat) (10 ^ (-e).toNat) := by
  obtain ⟨h0, h1, h2, h3, h4, _, h6⟩ := h
  have hv := decV_lt _ dig rfl h6
  have hn := decV_ne h0 h4 h6
  have hp : ∀ k, 0 < 10 ^ k := fun k => Nat.pow_pos (by omega)
  refine ⟨rfl, rfl, fit_lt (k := dig.length + e.toNat) ?_ (by omega), fit_pow _ (by omega), Nat.mul_ne_zero hn (by have := hp e.toNat; omega), by have := hp (-e).toNat; omega⟩
  rw [Nat.pow_add]
  exact Nat.mul_lt_mul_of_pos_right hv (hp _)

set_option maxHeartbeats 1000000 in
theorem frac64_neg (neg : Bool) (t : ByteArray) (n : Nat) (w : World) (h : DigD (bys t) (-(n : Int))) (hn : -(n : Int) < 0) :
    Calls Tryz.prog 64 #[w64, .agg #[.int .i64 0, .bool neg, .string t, .int .i64 (-(n : Int))]] w (FrPost w 52 11 (-1074) (decV (bys t)) (10 ^ n)) := by
  obtain ⟨h0, h1, h2, h3, h4, h5, h6⟩ := h
  rw [bys_len] at h1 h2 h3
  have hok : OkT (bys t) := ⟨h0, fun e => absurd e h4, h6⟩
  have hnl : n ≤ 3000 := by omega
  have PA := hide (fun W => nt_parse t W (by omega) hok)
  have PW := hide (fun W => nt_pow10 (n : Int) n W rfl (by omega))
  clear h0 h1 h2 h3 h4 h5 h6 hok
  obtain ⟨ex, hex⟩ : ∃ e : Int, e = -(n : Int) := ⟨_, rfl⟩
  rw [← hex] at hn
  have hen : -ex = (n : Int) := by omega
  have HEX := hide hex
  rw [← hex]
  clear hex
  have blkd := ((Blk.newAt (w.alloc (.cells #[.int .i64 52, .int .i64 11, .int .i64 (-1074)] 60)) (w.heap.size + 1) (by simp) #[.int .i64 0, .bool neg, .string t, .int .i64 ex] 25).alloc (.cells #[.int .i64 0, .int .i64 0, .int .i64 0, .slice none 0 0, .slice none 0 0] 94))
  have blkw := ((Blk.new w #[.int .i64 52, .int .i64 11, .int .i64 (-1074)] 60).alloc (.cells #[.int .i64 0, .bool neg, .string t, .int .i64 ex] 25)).alloc (.cells #[.int .i64 0, .int .i64 0, .int .i64 0, .slice none 0 0, .slice none 0 0] 94)
  have blkz := Blk.newAt ((w.alloc (.cells #[.int .i64 52, .int .i64 11, .int .i64 (-1074)] 60)).alloc (.cells #[.int .i64 0, .bool neg, .string t, .int .i64 ex] 25)) (w.heap.size + 1 + 1) (by simp) #[.int .i64 0, .int .i64 0, .int .i64 0, .slice none 0 0, .slice none 0 0] 94
  obtain ⟨W, hW⟩ : ∃ W, W = ((w.alloc (.cells #[.int .i64 52, .int .i64 11, .int .i64 (-1074)] 60)).alloc (.cells #[.int .i64 0, .bool neg, .string t, .int .i64 ex] 25)).alloc (.cells #[.int .i64 0, .int .i64 0, .int .i64 0, .slice none 0 0, .slice none 0 0] 94) := ⟨_, rfl⟩
  rw [← hW] at blkd blkw blkz
  have HBW : Hid (Below w.heap.size w W) := by rw [hW]; exact (((Below.refl _ _).alloc (Nat.le_refl _) _).alloc (by simp) _).alloc (by simp; omega) _
  have BLD := hide blkd
  have BLW := hide blkw
  have BLZ := hide blkz
  have c2 : W.cell? ⟨w.heap.size + 1, 2, none⟩ = some (.string t) := blkd.cell 2
  have HW := hide hW
  clear blkd blkw blkz hW
  go_enter Tryz.func64, Tryz.ntmps64
  go_wp2_with fail
  simp only [← HW.out]
  refine (PA.out _).mono ?_
  rintro e w1 ⟨v1, rfl, n1, b1, f1⟩
  obtain ⟨o1, p1, x1, rfl, _⟩ := id n1
  have N1 := hide n1
  have F1 := hide (f1.mono (i := w.heap.size + 3) (by have := BLZ.out.lt; omega))
  have BD1 := hide (BLD.out.below b1 BLD.out.lt)
  have BW1 := hide (BLW.out.below b1 BLW.out.lt)
  have BZ1 := hide (BLZ.out.below b1 BLZ.out.lt)
  have HB1 := hide (HBW.out.trans (b1.mono HBW.out.size))
  have d3 : w1.cell? ⟨w.heap.size + 1, 3, none⟩ = some (.int .i64 ex) := BD1.out.cell 3
  clear n1 b1 f1 BLD BLW BLZ HBW PA c2
  go_wp2_with fail
  refine (PW.out _).mono ?_
  rintro e w2 ⟨v2, rfl, n2, b2, f2⟩
  obtain ⟨o2, p2, x2, rfl, _⟩ := id n2
  have q := BW1.out.below b2 BW1.out.lt
  have qz := BZ1.out.below b2 BZ1.out.lt
  have a0 : w2.cell? ⟨w.heap.size, 0, none⟩ = some (.int .i64 52) := q.cell 0
  have a1 : w2.cell? ⟨w.heap.size, 1, none⟩ = some (.int .i64 11) := q.cell 1
  have a2 : w2.cell? ⟨w.heap.size, 2, none⟩ = some (.int .i64 (-1074)) := q.cell 2
  have k0 : w2.cell? ⟨w.heap.size + 1 + 1, 0, none⟩ = some (.int .i64 0) := qz.cell 0
  have k1 : w2.cell? ⟨w.heap.size + 1 + 1, 1, none⟩ = some (.int .i64 0) := qz.cell 1
  have k2 : w2.cell? ⟨w.heap.size + 1 + 1, 2, none⟩ = some (.int .i64 0) := qz.cell 2
  have k3 : w2.cell? ⟨w.heap.size + 1 + 1, 3, none⟩ = some (.slice none 0 0) := qz.cell 3
  have k4 : w2.cell? ⟨w.heap.size + 1 + 1, 4, none⟩ = some (.slice none 0 0) := qz.cell 4
  have g0 := qz.free 0
  have g1 := qz.free 1
  have g2 := qz.free 2
  have g3 := qz.free 3
  have g4 := qz.free 4
  have QZ := hide qz
  have HB2 := hide (HB1.out.trans (b2.mono HB1.out.size))
  have N12 := hide (N1.out.below b2)
  have N2 := hide n2
  have F2 := hide (f2.mono (i := w.heap.size + 3) (by have := BZ1.out.lt; omega))
  clear n2 b2 f2 q qz BD1 BW1 BZ1 HB1 N1 PW d3
  simp only []
  repeat (first | go_values | go_skip | go_guarded | go_step | go_upon)
  refine bodyPost_ret (results_frac rfl _ _ _ _ _ _ _ _ rfl (QZ.out.put5 _ _ _ _ _)) rfl ?_
  exact ⟨o1, x1.length, p1, o2, x2.length, p2, rfl, N12.out.put5 F1.out (by omega) _ _ _ _ _, N2.out.put5 F2.out (by omega) _ _ _ _ _, below_put5 HB2.out (by omega) _ _ _ _ _⟩

set_option maxRecDepth 100000 in
set_option maxHeartbeats 2000000 in
theorem frac64_pos (neg : Bool) (t : ByteArray) (n : Nat) (w : World) (h : DigD (bys t) (n : Int)) (hn : ¬ (n : Int) < 0) :
    Calls Tryz.prog 64 #[w64, .agg #[.int .i64 0, .bool neg, .string t, .int .i64 (n : Int)]] w (FrPost w 52 11 (-1074) (decV (bys t) * 10 ^ n) 1) := by
  have NS := Nums.of h
  have s1 : Sm (decV (bys t)) := by
    obtain ⟨h0, h1, h2, h3, h4, h5, h6⟩ := h
    exact Sm.of (decV_lt _ _ rfl h6) (by omega)
  obtain ⟨h0, h1, h2, h3, h4, h5, h6⟩ := h
  rw [bys_len] at h1 h2 h3
  have hok : OkT (bys t) := ⟨h0, fun e => absurd e h4, h6⟩
  have hnl : n ≤ 3000 := by omega
  have SS : Hid (Sm (decV (bys t)) ∧ Sm (10 ^ n)) := ⟨s1, (fit_pow n hnl).sm0⟩
  have PA := hide (fun W => nt_parse t W (by omega) hok)
  have PW := hide (fun W => nt_pow10 (n : Int) n W rfl (by omega))
  clear h0 h1 h2 h3 h4 h5 h6 hok NS s1
  obtain ⟨ex, hex⟩ : ∃ e : Int, e = (n : Int) := ⟨_, rfl⟩
  rw [← hex] at hn PW
  have HEX := hide hex
  rw [← hex]
  clear hex
  have blkd := ((Blk.newAt (w.alloc (.cells #[.int .i64 52, .int .i64 11, .int .i64 (-1074)] 60)) (w.heap.size + 1) (by simp) #[.int .i64 0, .bool neg, .string t, .int .i64 ex] 25).alloc (.cells #[.int .i64 0, .int .i64 0, .int .i64 0, .slice none 0 0, .slice none 0 0] 94))
  have blkw := ((Blk.new w #[.int .i64 52, .int .i64 11, .int .i64 (-1074)] 60).alloc (.cells #[.int .i64 0, .bool neg, .string t, .int .i64 ex] 25)).alloc (.cells #[.int .i64 0, .int .i64 0, .int .i64 0, .slice none 0 0, .slice none 0 0] 94)
  have blkz := Blk.newAt ((w.alloc (.cells #[.int .i64 52, .int .i64 11, .int .i64 (-1074)] 60)).alloc (.cells #[.int .i64 0, .bool neg, .string t, .int .i64 ex] 25)) (w.heap.size + 1 + 1) (by simp) #[.int .i64 0, .int .i64 0, .int .i64 0, .slice none 0 0, .slice none 0 0] 94
  obtain ⟨W, hW⟩ : ∃ W, W = ((w.alloc (.cells #[.int .i64 52, .int .i64 11, .int .i64 (-1074)] 60)).alloc (.cells #[.int .i64 0, .bool neg, .string t, .int .i64 ex] 25)).alloc (.cells #[.int .i64 0, .int .i64 0, .int .i64 0, .slice none 0 0, .slice none 0 0] 94) := ⟨_, rfl⟩
  rw [← hW] at blkd blkw blkz
  have HBW : Hid (Below w.heap.size w W) := by rw [hW]; exact (((Below.refl _ _).alloc (Nat.le_refl _) _).alloc (by simp) _).alloc (by simp; omega) _
  have BLD := hide blkd
  have BLW := hide blkw
  have BLZ := hide blkz
  have c2 : W.cell? ⟨w.heap.size + 1, 2, none⟩ = some (.string t) := blkd.cell 2
  have HW := hide hW
  clear blkd blkw blkz hW
  go_enter Tryz.func64, Tryz.ntmps64
  go_wp2_with fail
  simp only [← HW.out]
  refine (PA.out _).mono ?_
  rintro e w1 ⟨v1, rfl, n1, b1, f1⟩
  obtain ⟨o1, p1, x1, rfl, _⟩ := id n1
  have N1 := hide n1
  have BD1 := hide (BLD.out.below b1 BLD.out.lt)
  have BW1 := hide (BLW.out.below b1 BLW.out.lt)
  have BZ1 := hide (BLZ.out.below b1 BLZ.out.lt)
  have HB1 := hide (HBW.out.trans (b1.mono HBW.out.size))
  have d3 : w1.cell? ⟨w.heap.size + 1, 3, none⟩ = some (.int .i64 ex) := BD1.out.cell 3
  clear n1 b1 f1 BLD BLW BLZ HBW PA c2
  go_wp2_with fail
  refine (PW.out _).mono ?_
  rintro e w2 ⟨v2, rfl, n2, b2, f2⟩
  obtain ⟨o2, p2, x2, rfl, _⟩ := id n2
  have BW2 := hide (BW1.out.below b2 BW1.out.lt)
  have BZ2 := hide (BZ1.out.below b2 BZ1.out.lt)
  have HB2 := hide (HB1.out.trans (b2.mono HB1.out.size))
  have N12 := hide (N1.out.below b2)
  have N2 := hide n2
  have hlt := BZ2.out.lt
  obtain ⟨G, hG⟩ : ∃ G, G = w.heap.size + 1 + 1 := ⟨_, rfl⟩
  rw [← hG] at BZ2 hlt
  have ne1 : ¬ G = w.heap.size := by omega
  have ne2 : ¬ w.heap.size = G := by omega
  have hG3 : G < w.heap.size + 3 := by omega
  have hG2 : w.heap.size ≤ G := by omega
  have HG := hide hG
  clear hG
  have HC : Hid (∀ w', Below w2.heap.size w2 w' → w'.cell? ⟨w.heap.size, 0, none⟩ = some (.int .i64 52) ∧ w'.cell? ⟨w.heap.size, 1, none⟩ = some (.int .i64 11) ∧ w'.cell? ⟨w.heap.size, 2, none⟩ = some (.int .i64 (-1074)) ∧ w'.cell? ⟨G, 0, none⟩ = some (.int .i64 0) ∧ w'.cell? ⟨G, 1, none⟩ = some (.int .i64 0) ∧ w'.cell? ⟨G, 2, none⟩ = some (.int .i64 0) ∧ w'.cell? ⟨G, 3, none⟩ = some (.slice none 0 0) ∧ w'.cell? ⟨G, 4, none⟩ = some (.slice none 0 0) ∧ w'.frozen? ⟨G, 0, none⟩ = false ∧ w'.frozen? ⟨G, 1, none⟩ = false ∧ w'.frozen? ⟨G, 2, none⟩ = false ∧ w'.frozen? ⟨G, 3, none⟩ = false ∧ w'.frozen? ⟨G, 4, none⟩ = false) := fun w' hb => by
    have q := BW2.out.below hb BW2.out.lt
    have qz := BZ2.out.below hb BZ2.out.lt
    exact ⟨q.cell 0, q.cell 1, q.cell 2, qz.cell 0, qz.cell 1, qz.cell 2, qz.cell 3, qz.cell 4, qz.free 0, qz.free 1, qz.free 2, qz.free 3, qz.free 4⟩
  obtain ⟨c0, c1, c2, c3, c4, c5, c6, c7, c8, c9, c10, c11, c12⟩ := HC.out w2 (Below.refl _ _)
  have b0 : Hid (Below w2.heap.size w2 w2.drew) := bdrew' w2
  have MUL : Hid (∀ w', Hid (Below w2.heap.size w2 w') → Calls Tryz.prog 58 #[.slice o1 x1.length p1, .slice o2 x2.length p2] w' fun e w'' => ∃ oa la ca, e = .returned (.slice oa la ca) ∧ Hid (Nt w'' (.slice oa la ca) (decV (bys t) * 10 ^ n) ∧ Far (w.heap.size + 3) (.slice oa la ca) ∧ Below w'.heap.size w' w'') ∧ Hid (Below w2.heap.size w2 w'') ∧ w''.cell? ⟨w.heap.size, 0, none⟩ = some (.int .i64 52) ∧ w''.cell? ⟨w.heap.size, 1, none⟩ = some (.int .i64 11) ∧ w''.cell? ⟨w.heap.size, 2, none⟩ = some (.int .i64 (-1074)) ∧ w''.cell? ⟨G, 0, none⟩ = some (.int .i64 0) ∧ w''.cell? ⟨G, 1, none⟩ = some (.int .i64 0) ∧ w''.cell? ⟨G, 2, none⟩ = some (.int .i64 0) ∧ w''.cell? ⟨G, 3, none⟩ = some (.slice none 0 0) ∧ w''.cell? ⟨G, 4, none⟩ = some (.slice none 0 0) ∧ w''.frozen? ⟨G, 0, none⟩ = false ∧ w''.frozen? ⟨G, 1, none⟩ = false ∧ w''.frozen? ⟨G, 2, none⟩ = false ∧ w''.frozen? ⟨G, 3, none⟩ = false ∧ w''.frozen? ⟨G, 4, none⟩ = false) := by
    intro w' hw'
    refine (nt_mul _ _ _ _ w' (N12.out.below hw'.out) (N2.out.below hw'.out) SS.out.1 SS.out.2).mono ?_
    rintro e w'' ⟨v, rfl, nv, hb, fv⟩
    obtain ⟨oa, ca, xa, rfl, _⟩ := id nv
    have hbb := hw'.out.trans (hb.mono hw'.out.size)
    exact ⟨_, _, _, rfl, ⟨nv, fv.mono (by have := hw'.out.size; have := HG.out; omega), hb⟩, hbb, HC.out _ hbb⟩
  have OFF : Hid (∀ w', Hid (Below w2.heap.size w2 w') → Calls Tryz.prog 55 #[.int .u64 1] w' fun e w'' => ∃ oa la ca, e = .returned (.slice oa la ca) ∧ Hid (Nt w'' (.slice oa la ca) 1 ∧ Far (w.heap.size + 3) (.slice oa la ca) ∧ Below w'.heap.size w' w'') ∧ Hid (Below w2.heap.size w2 w'') ∧ w''.cell? ⟨w.heap.size, 0, none⟩ = some (.int .i64 52) ∧ w''.cell? ⟨w.heap.size, 1, none⟩ = some (.int .i64 11) ∧ w''.cell? ⟨w.heap.size, 2, none⟩ = some (.int .i64 (-1074)) ∧ w''.cell? ⟨G, 0, none⟩ = some (.int .i64 0) ∧ w''.cell? ⟨G, 1, none⟩ = some (.int .i64 0) ∧ w''.cell? ⟨G, 2, none⟩ = some (.int .i64 0) ∧ w''.cell? ⟨G, 3, none⟩ = some (.slice none 0 0) ∧ w''.cell? ⟨G, 4, none⟩ = some (.slice none 0 0) ∧ w''.frozen? ⟨G, 0, none⟩ = false ∧ w''.frozen? ⟨G, 1, none⟩ = false ∧ w''.frozen? ⟨G, 2, none⟩ = false ∧ w''.frozen? ⟨G, 3, none⟩ = false ∧ w''.frozen? ⟨G, 4, none⟩ = false) := by
    intro w' hw'
    refine (nt_of 1 w' (by decide)).mono ?_
    rintro e w'' ⟨v, rfl, nv, hb, fv⟩
    obtain ⟨oa, ca, xa, rfl, _⟩ := id nv
    have hbb := hw'.out.trans (hb.mono hw'.out.size)
    exact ⟨_, _, _, rfl, ⟨nv, fv.mono (by have := hw'.out.size; have := HG.out; omega), hb⟩, hbb, HC.out _ hbb⟩
  have BZF : Hid (∀ w', Below w2.heap.size w2 w' → Below w.heap.size w w' ∧ Blk w' G #[.int .i64 0, .int .i64 0, .int .i64 0, .slice none 0 0, .slice none 0 0] 94) := fun w' hb => ⟨HB2.out.trans (hb.mono HB2.out.size), BZ2.out.below hb BZ2.out.lt⟩
  clear n2 b2 f2 BD1 BW1 BZ1 HB1 N1 PW d3 N12 N2 HC BW2 BZ2 HB2 SS hlt
  go_wp2_with fail
  simp only [← HG.out]
  have mk0 : True := trivial
  go_region_held3 (fun w' => w'.cell? ⟨w.heap.size, 0, none⟩ = some (.int .i64 52) ∧ w'.cell? ⟨w.heap.size, 1, none⟩ = some (.int .i64 11) ∧ w'.cell? ⟨w.heap.size, 2, none⟩ = some (.int .i64 (-1074))) (go_keep) (first
    | (clear mk0; go_at_call 58; refine (MUL.out _ b0).mono ?_; rintro e w3 ⟨oa, la, ca, rfl, na, b3, r0, r1, r2, r3, r4, r5, r6, r7, r8, r9, r10, r11, r12⟩; have mkM : True := trivial)
    | (clear mkM; go_at_call 55; refine (OFF.out _ b3).mono ?_; rintro e w4 ⟨ob, lb, cb, rfl, nb, b4, y0, y1, y2, y3, y4, y5, y6, y7, y8, y9, y10, y11, y12⟩; have FIN : Hid ((Nt w4 (.slice oa la ca) (decV (bys t) * 10 ^ n) ∧ Far (w.heap.size + 3) (.slice oa la ca)) ∧ (Nt w4 (.slice ob lb cb) 1 ∧ Far (w.heap.size + 3) (.slice ob lb cb)) ∧ Below w2.heap.size w2 w4) := ⟨⟨na.out.1.below nb.out.2.2, na.out.2.1⟩, ⟨nb.out.1, nb.out.2.1⟩, b4.out⟩; have mk2 : True := trivial)
    | (clear mk0; go_at_call 55; refine (OFF.out _ b0).mono ?_; rintro e w3 ⟨ob, lb, cb, rfl, nb, b3, r0, r1, r2, r3, r4, r5, r6, r7, r8, r9, r10, r11, r12⟩; have mkO : True := trivial)
    | (clear mkO; go_at_call 58; refine (MUL.out _ b3).mono ?_; rintro e w4 ⟨oa, la, ca, rfl, na, b4, y0, y1, y2, y3, y4, y5, y6, y7, y8, y9, y10, y11, y12⟩; have FIN : Hid ((Nt w4 (.slice oa la ca) (decV (bys t) * 10 ^ n) ∧ Far (w.heap.size + 3) (.slice oa la ca)) ∧ (Nt w4 (.slice ob lb cb) 1 ∧ Far (w.heap.size + 3) (.slice ob lb cb)) ∧ Below w2.heap.size w2 w4) := ⟨⟨na.out.1, na.out.2.1⟩, ⟨nb.out.1.below na.out.2.2, nb.out.2.1⟩, b4.out⟩; have mk2 : True := trivial))
  all_goals (
    obtain ⟨hbel, hblk⟩ := BZF.out _ FIN.out.2.2
    have HBL := hide hbel
    have QZ := hide hblk
    clear hbel hblk BZF na nb b3 b4 MUL OFF
    repeat (first | go_values | go_skip | go_guarded | go_step | go_upon)
    refine bodyPost_ret (results_frac rfl _ _ _ _ _ _ _ _ rfl (QZ.out.put5 _ _ _ _ _)) rfl ?_
    exact ⟨oa, la, ca, ob, lb, cb, rfl, FIN.out.1.1.put5 FIN.out.1.2 hG3 _ _ _ _ _, FIN.out.2.1.1.put5 FIN.out.2.1.2 hG3 _ _ _ _ _, below_put5 HBL.out hG2 _ _ _ _ _⟩)

set_option maxHeartbeats 1000000 in
theorem frac32_neg (neg : Bool) (t : ByteArray) (n : Nat) (w : World) (h : DigD (bys t) (-(n : Int))) (hn : -(n : Int) < 0) :
    Calls Tryz.prog 64 #[w32, .agg #[.int .i64 0, .bool neg, .string t, .int .i64 (-(n : Int))]] w (FrPost w 23 8 (-149) (decV (bys t)) (10 ^ n)) := by
  obtain ⟨h0, h1, h2, h3, h4, h5, h6⟩ := h
  rw [bys_len] at h1 h2 h3
  have hok : OkT (bys t) := ⟨h0, fun e => absurd e h4, h6⟩
  have hnl : n ≤ 3000 := by omega
  have PA := hide (fun W => nt_parse t W (by omega) hok)
  have PW := hide (fun W => nt_pow10 (n : Int) n W rfl (by omega))
  clear h0 h1 h2 h3 h4 h5 h6 hok
  obtain ⟨ex, hex⟩ : ∃ e : Int, e = -(n : Int) := ⟨_, rfl⟩
  rw [← hex] at hn
  have hen : -ex = (n : Int) := by omega
  have HEX := hide hex
  rw [← hex]
  clear hex
  have blkd := ((Blk.newAt (w.alloc (.cells #[.int .i64 23, .int .i64 8, .int .i64 (-149)] 60)) (w.heap.size + 1) (by simp) #[.int .i64 0, .bool neg, .string t, .int .i64 ex] 25).alloc (.cells #[.int .i64 0, .int .i64 0, .int .i64 0, .slice none 0 0, .slice none 0 0] 94))
  have blkw := ((Blk.new w #[.int .i64 23, .int .i64 8, .int .i64 (-149)] 60).alloc (.cells #[.int .i64 0, .bool neg, .string t, .int .i64 ex] 25)).alloc (.cells #[.int .i64 0, .int .i64 0, .int .i64 0, .slice none 0 0, .slice none 0 0] 94)
  have blkz := Blk.newAt ((w.alloc (.cells #[.int .i64 23, .int .i64 8, .int .i64 (-149)] 60)).alloc (.cells #[.int .i64 0, .bool neg, .string t, .int .i64 ex] 25)) (w.heap.size + 1 + 1) (by simp) #[.int .i64 0, .int .i64 0, .int .i64 0, .slice none 0 0, .slice none 0 0] 94
  obtain ⟨W, hW⟩ : ∃ W, W = ((w.alloc (.cells #[.int .i64 23, .int .i64 8, .int .i64 (-149)] 60)).alloc (.cells #[.int .i64 0, .bool neg, .string t, .int .i64 ex] 25)).alloc (.cells #[.int .i64 0, .int .i64 0, .int .i64 0, .slice none 0 0, .slice none 0 0] 94) := ⟨_, rfl⟩
  rw [← hW] at blkd blkw blkz
  have HBW : Hid (Below w.heap.size w W) := by rw [hW]; exact (((Below.refl _ _).alloc (Nat.le_refl _) _).alloc (by simp) _).alloc (by simp; omega) _
  have BLD := hide blkd
  have BLW := hide blkw
  have BLZ := hide blkz
  have c2 : W.cell? ⟨w.heap.size + 1, 2, none⟩ = some (.string t) := blkd.cell 2
  have HW := hide hW
  clear blkd blkw blkz hW
  go_enter Tryz.func64, Tryz.ntmps64
  go_wp2_with fail
  simp only [← HW.out]
  refine (PA.out _).mono ?_
  rintro e w1 ⟨v1, rfl, n1, b1, f1⟩
  obtain ⟨o1, p1, x1, rfl, _⟩ := id n1
  have N1 := hide n1
  have F1 := hide (f1.mono (i := w.heap.size + 3) (by have := BLZ.out.lt; omega))
  have BD1 := hide (BLD.out.below b1 BLD.out.lt)
  have BW1 := hide (BLW.out.below b1 BLW.out.lt)
  have BZ1 := hide (BLZ.out.below b1 BLZ.out.lt)
  have HB1 := hide (HBW.out.trans (b1.mono HBW.out.size))
  have d3 : w1.cell? ⟨w.heap.size + 1, 3, none⟩ = some (.int .i64 ex) := BD1.out.cell 3
  clear n1 b1 f1 BLD BLW BLZ HBW PA c2
  go_wp2_with fail
  refine (PW.out _).mono ?_
  rintro e w2 ⟨v2, rfl, n2, b2, f2⟩
  obtain ⟨o2, p2, x2, rfl, _⟩ := id n2
  have q := BW1.out.below b2 BW1.out.lt
  have qz := BZ1.out.below b2 BZ1.out.lt
  have a0 : w2.cell? ⟨w.heap.size, 0, none⟩ = some (.int .i64 23) := q.cell 0
  have a1 : w2.cell? ⟨w.heap.size, 1, none⟩ = some (.int .i64 8) := q.cell 1
  have a2 : w2.cell? ⟨w.heap.size, 2, none⟩ = some (.int .i64 (-149)) := q.cell 2
  have k0 : w2.cell? ⟨w.heap.size + 1 + 1, 0, none⟩ = some (.int .i64 0) := qz.cell 0
  have k1 : w2.cell? ⟨w.heap.size + 1 + 1, 1, none⟩ = some (.int .i64 0) := qz.cell 1
  have k2 : w2.cell? ⟨w.heap.size + 1 + 1, 2, none⟩ = some (.int .i64 0) := qz.cell 2
  have k3 : w2.cell? ⟨w.heap.size + 1 + 1, 3, none⟩ = some (.slice none 0 0) := qz.cell 3
  have k4 : w2.cell? ⟨w.heap.size + 1 + 1, 4, none⟩ = some (.slice none 0 0) := qz.cell 4
  have g0 := qz.free 0
  have g1 := qz.free 1
  have g2 := qz.free 2
  have g3 := qz.free 3
  have g4 := qz.free 4
  have QZ := hide qz
  have HB2 := hide (HB1.out.trans (b2.mono HB1.out.size))
  have N12 := hide (N1.out.below b2)
  have N2 := hide n2
  have F2 := hide (f2.mono (i := w.heap.size + 3) (by have := BZ1.out.lt; omega))
  clear n2 b2 f2 q qz BD1 BW1 BZ1 HB1 N1 PW d3
  simp only []
  repeat (first | go_values | go_skip | go_guarded | go_step | go_upon)
  refine bodyPost_ret (results_frac rfl _ _ _ _ _ _ _ _ rfl (QZ.out.put5 _ _ _ _ _)) rfl ?_
  exact ⟨o1, x1.length, p1, o2, x2.length, p2, rfl, N12.out.put5 F1.out (by omega) _ _ _ _ _, N2.out.put5 F2.out (by omega) _ _ _ _ _, below_put5 HB2.out (by omega) _ _ _ _ _⟩

set_option maxRecDepth 100000 in
set_option maxHeartbeats 2000000 in
theorem frac32_pos (neg : Bool) (t : ByteArray) (n : Nat) (w : World) (h : DigD (bys t) (n : Int)) (hn : ¬ (n : Int) < 0) :
    Calls Tryz.prog 64 #[w32, .agg #[.int .i64 0, .bool neg, .string t, .int .i64 (n : Int)]] w (FrPost w 23 8 (-149) (decV (bys t) * 10 ^ n) 1) := by
  have NS := Nums.of h
  have s1 : Sm (decV (bys t)) := by
    obtain ⟨h0, h1, h2, h3, h4, h5, h6⟩ := h
    exact Sm.of (decV_lt _ _ rfl h6) (by omega)
  obtain ⟨h0, h1, h2, h3, h4, h5, h6⟩ := h
  rw [bys_len] at h1 h2 h3
  have hok : OkT (bys t) := ⟨h0, fun e => absurd e h4, h6⟩
  have hnl : n ≤ 3000 := by omega
  have SS : Hid (Sm (decV (bys t)) ∧ Sm (10 ^ n)) := ⟨s1, (fit_pow n hnl).sm0⟩
  have PA := hide (fun W => nt_parse t W (by omega) hok)
  have PW := hide (fun W => nt_pow10 (n : Int) n W rfl (by omega))
  clear h0 h1 h2 h3 h4 h5 h6 hok NS s1
  obtain ⟨ex, hex⟩ : ∃ e : Int, e = (n : Int) := ⟨_, rfl⟩
  rw [← hex] at hn PW
  have HEX := hide hex
  rw [← hex]
  clear hex
  have blkd := ((Blk.newAt (w.alloc (.cells #[.int .i64 23, .int .i64 8, .int .i64 (-149)] 60)) (w.heap.size + 1) (by simp) #[.int .i64 0, .bool neg, .string t, .int .i64 ex] 25).alloc (.cells #[.int .i64 0, .int .i64 0, .int .i64 0, .slice none 0 0, .slice none 0 0] 94))
  have blkw := ((Blk.new w #[.int .i64 23, .int .i64 8, .int .i64 (-149)] 60).alloc (.cells #[.int .i64 0, .bool neg, .string t, .int .i64 ex] 25)).alloc (.cells #[.int .i64 0, .int .i64 0, .int .i64 0, .slice none 0 0, .slice none 0 0] 94)
  have blkz := Blk.newAt ((w.alloc (.cells #[.int .i64 23, .int .i64 8, .int .i64 (-149)] 60)).alloc (.cells #[.int .i64 0, .bool neg, .string t, .int .i64 ex] 25)) (w.heap.size + 1 + 1) (by simp) #[.int .i64 0, .int .i64 0, .int .i64 0, .slice none 0 0, .slice none 0 0] 94
  obtain ⟨W, hW⟩ : ∃ W, W = ((w.alloc (.cells #[.int .i64 23, .int .i64 8, .int .i64 (-149)] 60)).alloc (.cells #[.int .i64 0, .bool neg, .string t, .int .i64 ex] 25)).alloc (.cells #[.int .i64 0, .int .i64 0, .int .i64 0, .slice none 0 0, .slice none 0 0] 94) := ⟨_, rfl⟩
  rw [← hW] at blkd blkw blkz
  have HBW : Hid (Below w.heap.size w W) := by rw [hW]; exact (((Below.refl _ _).alloc (Nat.le_refl _) _).alloc (by simp) _).alloc (by simp; omega) _
  have BLD := hide blkd
  have BLW := hide blkw
  have BLZ := hide blkz
  have c2 : W.cell? ⟨w.heap.size + 1, 2, none⟩ = some (.string t) := blkd.cell 2
  have HW := hide hW
  clear blkd blkw blkz hW
  go_enter Tryz.func64, Tryz.ntmps64
  go_wp2_with fail
  simp only [← HW.out]
  refine (PA.out _).mono ?_
  rintro e w1 ⟨v1, rfl, n1, b1, f1⟩
  obtain ⟨o1, p1, x1, rfl, _⟩ := id n1
  have N1 := hide n1
  have BD1 := hide (BLD.out.below b1 BLD.out.lt)
  have BW1 := hide (BLW.out.below b1 BLW.out.lt)
  have BZ1 := hide (BLZ.out.below b1 BLZ.out.lt)
  have HB1 := hide (HBW.out.trans (b1.mono HBW.out.size))
  have d3 : w1.cell? ⟨w.heap.size + 1, 3, none⟩ = some (.int .i64 ex) := BD1.out.cell 3
  clear n1 b1 f1 BLD BLW BLZ HBW PA c2
  go_wp2_with fail
  refine (PW.out _).mono ?_
  rintro e w2 ⟨v2, rfl, n2, b2, f2⟩
  obtain ⟨o2, p2, x2, rfl, _⟩ := id n2
  have BW2 := hide (BW1.out.below b2 BW1.out.lt)
  have BZ2 := hide (BZ1.out.below b2 BZ1.out.lt)
  have HB2 := hide (HB1.out.trans (b2.mono HB1.out.size))
  have N12 := hide (N1.out.below b2)
  have N2 := hide n2
  have hlt := BZ2.out.lt
  obtain ⟨G, hG⟩ : ∃ G, G = w.heap.size + 1 + 1 := ⟨_, rfl⟩
  rw [← hG] at BZ2 hlt
  have ne1 : ¬ G = w.heap.size := by omega
  have ne2 : ¬ w.heap.size = G := by omega
  have hG3 : G < w.heap.size + 3 := by omega
  have hG2 : w.heap.size ≤ G := by omega
  have HG := hide hG
  clear hG
  have HC : Hid (∀ w', Below w2.heap.size w2 w' → w'.cell? ⟨w.heap.size, 0, none⟩ = some (.int .i64 23) ∧ w'.cell? ⟨w.heap.size, 1, none⟩ = some (.int .i64 8) ∧ w'.cell? ⟨w.heap.size, 2, none⟩ = some (.int .i64 (-149)) ∧ w'.cell? ⟨G, 0, none⟩ = some (.int .i64 0) ∧ w'.cell? ⟨G, 1, none⟩ = some (.int .i64 0) ∧ w'.cell? ⟨G, 2, none⟩ = some (.int .i64 0) ∧ w'.cell? ⟨G, 3, none⟩ = some (.slice none 0 0) ∧ w'.cell? ⟨G, 4, none⟩ = some (.slice none 0 0) ∧ w'.frozen? ⟨G, 0, none⟩ = false ∧ w'.frozen? ⟨G, 1, none⟩ = false ∧ w'.frozen? ⟨G, 2, none⟩ = false ∧ w'.frozen? ⟨G, 3, none⟩ = false ∧ w'.frozen? ⟨G, 4, none⟩ = false) := fun w' hb => by
    have q := BW2.out.below hb BW2.out.lt
    have qz := BZ2.out.below hb BZ2.out.lt
    exact ⟨q.cell 0, q.cell 1, q.cell 2, qz.cell 0, qz.cell 1, qz.cell 2, qz.cell 3, qz.cell 4, qz.free 0, qz.free 1, qz.free 2, qz.free 3, qz.free 4⟩
  obtain ⟨c0, c1, c2, c3, c4, c5, c6, c7, c8, c9, c10, c11, c12⟩ := HC.out w2 (Below.refl _ _)
  have b0 : Hid (Below w2.heap.size w2 w2.drew) := bdrew' w2
  have MUL : Hid (∀ w', Hid (Below w2.heap.size w2 w') → Calls Tryz.prog 58 #[.slice o1 x1.length p1, .slice o2 x2.length p2] w' fun e w'' => ∃ oa la ca, e = .returned (.slice oa la ca) ∧ Hid (Nt w'' (.slice oa la ca) (decV (bys t) * 10 ^ n) ∧ Far (w.heap.size + 3) (.slice oa la ca) ∧ Below w'.heap.size w' w'') ∧ Hid (Below w2.heap.size w2 w'') ∧ w''.cell? ⟨w.heap.size, 0, none⟩ = some (.int .i64 23) ∧ w''.cell? ⟨w.heap.size, 1, none⟩ = some (.int .i64 8) ∧ w''.cell? ⟨w.heap.size, 2, none⟩ = some (.int .i64 (-149)) ∧ w''.cell? ⟨G, 0, none⟩ = some (.int .i64 0) ∧ w''.cell? ⟨G, 1, none⟩ = some (.int .i64 0) ∧ w''.cell? ⟨G, 2, none⟩ = some (.int .i64 0) ∧ w''.cell? ⟨G, 3, none⟩ = some (.slice none 0 0) ∧ w''.cell? ⟨G, 4, none⟩ = some (.slice none 0 0) ∧ w''.frozen? ⟨G, 0, none⟩ = false ∧ w''.frozen? ⟨G, 1, none⟩ = false ∧ w''.frozen? ⟨G, 2, none⟩ = false ∧ w''.frozen? ⟨G, 3, none⟩ = false ∧ w''.frozen? ⟨G, 4, none⟩ = false) := by
    intro w' hw'
    refine (nt_mul _ _ _ _ w' (N12.out.below hw'.out) (N2.out.below hw'.out) SS.out.1 SS.out.2).mono ?_
    rintro e w'' ⟨v, rfl, nv, hb, fv⟩
    obtain ⟨oa, ca, xa, rfl, _⟩ := id nv
    have hbb := hw'.out.trans (hb.mono hw'.out.size)
    exact ⟨_, _, _, rfl, ⟨nv, fv.mono (by have := hw'.out.size; have := HG.out; omega), hb⟩, hbb, HC.out _ hbb⟩
  have OFF : Hid (∀ w', Hid (Below w2.heap.size w2 w') → Calls Tryz.prog 55 #[.int .u64 1] w' fun e w'' => ∃ oa la ca, e = .returned (.slice oa la ca) ∧ Hid (Nt w'' (.slice oa la ca) 1 ∧ Far (w.heap.size + 3) (.slice oa la ca) ∧ Below w'.heap.size w' w'') ∧ Hid (Below w2.heap.size w2 w'') ∧ w''.cell? ⟨w.heap.size, 0, none⟩ = some (.int .i64 23) ∧ w''.cell? ⟨w.heap.size, 1, none⟩ = some (.int .i64 8) ∧ w''.cell? ⟨w.heap.size, 2, none⟩ = some (.int .i64 (-149)) ∧ w''.cell? ⟨G, 0, none⟩ = some (.int .i64 0) ∧ w''.cell? ⟨G, 1, none⟩ = some (.int .i64 0) ∧ w''.cell? ⟨G, 2, none⟩ = some (.int .i64 0) ∧ w''.cell? ⟨G, 3, none⟩ = some (.slice none 0 0) ∧ w''.cell? ⟨G, 4, none⟩ = some (.slice none 0 0) ∧ w''.frozen? ⟨G, 0, none⟩ = false ∧ w''.frozen? ⟨G, 1, none⟩ = false ∧ w''.frozen? ⟨G, 2, none⟩ = false ∧ w''.frozen? ⟨G, 3, none⟩ = false ∧ w''.frozen? ⟨G, 4, none⟩ = false) := by
    intro w' hw'
    refine (nt_of 1 w' (by decide)).mono ?_
    rintro e w'' ⟨v, rfl, nv, hb, fv⟩
    obtain ⟨oa, ca, xa, rfl, _⟩ := id nv
    have hbb := hw'.out.trans (hb.mono hw'.out.size)
    exact ⟨_, _, _, rfl, ⟨nv, fv.mono (by have := hw'.out.size; have := HG.out; omega), hb⟩, hbb, HC.out _ hbb⟩
  have BZF : Hid (∀ w', Below w2.heap.size w2 w' → Below w.heap.size w w' ∧ Blk w' G #[.int .i64 0, .int .i64 0, .int .i64 0, .slice none 0 0, .slice none 0 0] 94) := fun w' hb => ⟨HB2.out.trans (hb.mono HB2.out.size), BZ2.out.below hb BZ2.out.lt⟩
  clear n2 b2 f2 BD1 BW1 BZ1 HB1 N1 PW d3 N12 N2 HC BW2 BZ2 HB2 SS hlt
  go_wp2_with fail
  simp only [← HG.out]
  have mk0 : True := trivial
  go_region_held3 (fun w' => w'.cell? ⟨w.heap.size, 0, none⟩ = some (.int .i64 23) ∧ w'.cell? ⟨w.heap.size, 1, none⟩ = some (.int .i64 8) ∧ w'.cell? ⟨w.heap.size, 2, none⟩ = some (.int .i64 (-149))) (go_keep) (first
    | (clear mk0; go_at_call 58; refine (MUL.out _ b0).mono ?_; rintro e w3 ⟨oa, la, ca, rfl, na, b3, r0, r1, r2, r3, r4, r5, r6, r7, r8, r9, r10, r11, r12⟩; have mkM : True := trivial)
    | (clear mkM; go_at_call 55; refine (OFF.out _ b3).mono ?_; rintro e w4 ⟨ob, lb, cb, rfl, nb, b4, y0, y1, y2, y3, y4, y5, y6, y7, y8, y9, y10, y11, y12⟩; have FIN : Hid ((Nt w4 (.slice oa la ca) (decV (bys t) * 10 ^ n) ∧ Far (w.heap.size + 3) (.slice oa la ca)) ∧ (Nt w4 (.slice ob lb cb) 1 ∧ Far (w.heap.size + 3) (.slice ob lb cb)) ∧ Below w2.heap.size w2 w4) := ⟨⟨na.out.1.below nb.out.2.2, na.out.2.1⟩, ⟨nb.out.1, nb.out.2.1⟩, b4.out⟩; have mk2 : True := trivial)
    | (clear mk0; go_at_call 55; refine (OFF.out _ b0).mono ?_; rintro e w3 ⟨ob, lb, cb, rfl, nb, b3, r0, r1, r2, r3, r4, r5, r6, r7, r8, r9, r10, r11, r12⟩; have mkO : True := trivial)
    | (clear mkO; go_at_call 58; refine (MUL.out _ b3).mono ?_; rintro e w4 ⟨oa, la, ca, rfl, na, b4, y0, y1, y2, y3, y4, y5, y6, y7, y8, y9, y10, y11, y12⟩; have FIN : Hid ((Nt w4 (.slice oa la ca) (decV (bys t) * 10 ^ n) ∧ Far (w.heap.size + 3) (.slice oa la ca)) ∧ (Nt w4 (.slice ob lb cb) 1 ∧ Far (w.heap.size + 3) (.slice ob lb cb)) ∧ Below w2.heap.size w2 w4) := ⟨⟨na.out.1, na.out.2.1⟩, ⟨nb.out.1.below na.out.2.2, nb.out.2.1⟩, b4.out⟩; have mk2 : True := trivial))
  all_goals (
    obtain ⟨hbel, hblk⟩ := BZF.out _ FIN.out.2.2
    have HBL := hide hbel
    have QZ := hide hblk
    clear hbel hblk BZF na nb b3 b4 MUL OFF
    repeat (first | go_values | go_skip | go_guarded | go_step | go_upon)
    refine bodyPost_ret (results_frac rfl _ _ _ _ _ _ _ _ rfl (QZ.out.put5 _ _ _ _ _)) rfl ?_
    exact ⟨oa, la, ca, ob, lb, cb, rfl, FIN.out.1.1.put5 FIN.out.1.2 hG3 _ _ _ _ _, FIN.out.2.1.1.put5 FIN.out.2.1.2 hG3 _ _ _ _ _, below_put5 HBL.out hG2 _ _ _ _ _⟩)

end Go.Proofs.YtpiloigpncbccabGreatDoor
