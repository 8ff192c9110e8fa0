/-
  What nearest's fractionOf does.
  What nearest's float, To64 and To32 do: the bits of the nearest float of a Dec that may be, or the error.
  What nearest's Narrow and Widen do, and quipulaw04's awake: the calls answer what the document fixes.
-/
import Derived.Test.YtpiloigpncbccacGreatDoorZNC
import Derived.Laws.BitsAllLaws
import Derived.Test.YtpiloigpncbccacGreatDoorZSD
import Derived.Test.YtpiloigpncbccacGreatDoorZSM
namespace Go.Proofs.YtpiloigpncbccacGreatDoor
open Go.RowKit

theorem fit_pow (k : Nat) (hk : k ≤ 3000) : Fit (10 ^ k) := by
  have h1 : (10 : Nat) ^ k ≤ powT 10 3000 := powT_ge (by omega) hk
  have h2 : powT 10 3000 < powT 2 30000 := by decide +kernel
  exact Nat.lt_of_le_of_lt h1 h2

theorem fit_lt {n k : Nat} (h : n < 10 ^ k) (hk : k ≤ 3000) : Fit n := Nat.lt_trans h (fit_pow k hk)

/-- The numbers of a Dec that may be, and has digits. -/
structure Nums (dig : List UInt8) (e : Int) (o u : Nat) : Prop where
  over : o = decV dig * 10 ^ e.toNat
  under : u = 10 ^ (-e).toNat
  fo : Fit o
  fu : Fit u
  o0 : o ≠ 0
  u0 : u ≠ 0

theorem Nums.of {dig : List UInt8} {e : Int} (h : DigD dig e) : Nums dig e (decV dig * 10 ^ e.toNat) (10 ^ (-e).toNat) := by
  obtain ⟨h0, h1, h2, h3, h4, _, h6⟩ := h
  have hv := decV_lt _ dig rfl h6
  have hn := decV_ne h0 h4 h6
  have hp : ∀ k, 0 < 10 ^ k := fun k => Nat.pow_pos (by omega)
  refine ⟨rfl, rfl, fit_lt (k := dig.length + e.toNat) ?_ (by omega), fit_pow _ (by omega), Nat.mul_ne_zero hn (by have := hp e.toNat; omega), by have := hp (-e).toNat; omega⟩
  rw [Nat.pow_add]
  exact Nat.mul_lt_mul_of_pos_right hv (hp _)

set_option maxHeartbeats 1000000 in
theorem frac64_neg (neg : Bool) (t : ByteArray) (n : Nat) (w : World) (h : DigD (bys t) (-(n : Int))) (hn : -(n : Int) < 0) :
    Calls Tryz.prog 49 #[w64, .agg #[.int .i64 0, .bool neg, .string t, .int .i64 (-(n : Int))]] w (FrPost w 52 11 (-1074) (decV (bys t)) (10 ^ n)) := by
  obtain ⟨h0, h1, h2, h3, h4, h5, h6⟩ := h
  rw [bys_len] at h1 h2 h3
  have hok : OkT (bys t) := ⟨h0, fun e => absurd e h4, h6⟩
  have hnl : n ≤ 3000 := by omega
  have PA := hide (fun W => nt_parse t W (by omega) hok)
  have PW := hide (fun W => nt_pow10 (n : Int) n W rfl (by omega))
  clear h0 h1 h2 h3 h4 h5 h6 hok
  obtain ⟨ex, hex⟩ : ∃ e : Int, e = -(n : Int) := ⟨_, rfl⟩
  rw [← hex] at hn
  have hen : -ex = (n : Int) := by omega
  have HEX := hide hex
  rw [← hex]
  clear hex
  have blkd := ((Blk.newAt (w.alloc (.cells #[.int .i64 52, .int .i64 11, .int .i64 (-1074)] 56)) (w.heap.size + 1) (by simp) #[.int .i64 0, .bool neg, .string t, .int .i64 ex] 24).alloc (.cells #[.int .i64 0, .int .i64 0, .int .i64 0, .slice none 0 0, .slice none 0 0] 85))
  have blkw := ((Blk.new w #[.int .i64 52, .int .i64 11, .int .i64 (-1074)] 56).alloc (.cells #[.int .i64 0, .bool neg, .string t, .int .i64 ex] 24)).alloc (.cells #[.int .i64 0, .int .i64 0, .int .i64 0, .slice none 0 0, .slice none 0 0] 85)
  have blkz := Blk.newAt ((w.alloc (.cells #[.int .i64 52, .int .i64 11, .int .i64 (-1074)] 56)).alloc (.cells #[.int .i64 0, .bool neg, .string t, .int .i64 ex] 24)) (w.heap.size + 1 + 1) (by simp) #[.int .i64 0, .int .i64 0, .int .i64 0, .slice none 0 0, .slice none 0 0] 85
  obtain ⟨W, hW⟩ : ∃ W, W = ((w.alloc (.cells #[.int .i64 52, .int .i64 11, .int .i64 (-1074)] 56)).alloc (.cells #[.int .i64 0, .bool neg, .string t, .int .i64 ex] 24)).alloc (.cells #[.int .i64 0, .int .i64 0, .int .i64 0, .slice none 0 0, .slice none 0 0] 85) := ⟨_, rfl⟩
  rw [← hW] at blkd blkw blkz
  have HBW : Hid (Below w.heap.size w W) := by rw [hW]; exact (((Below.refl _ _).alloc (Nat.le_refl _) _).alloc (by simp) _).alloc (by simp; omega) _
  have BLD := hide blkd
  have BLW := hide blkw
  have BLZ := hide blkz
  have c2 : W.cell? ⟨w.heap.size + 1, 2, none⟩ = some (.string t) := blkd.cell 2
  have HW := hide hW
  clear blkd blkw blkz hW
  go_enter Tryz.func49, Tryz.ntmps49
  go_wp2_with fail
  simp only [← HW.out]
  refine (PA.out _).mono ?_
  rintro e w1 ⟨v1, rfl, n1, b1, f1⟩
  obtain ⟨o1, p1, x1, rfl, _⟩ := id n1
  have N1 := hide n1
  have F1 := hide (f1.mono (i := w.heap.size + 3) (by have := BLZ.out.lt; omega))
  have BD1 := hide (BLD.out.below b1 BLD.out.lt)
  have BW1 := hide (BLW.out.below b1 BLW.out.lt)
  have BZ1 := hide (BLZ.out.below b1 BLZ.out.lt)
  have HB1 := hide (HBW.out.trans (b1.mono HBW.out.size))
  have d3 : w1.cell? ⟨w.heap.size + 1, 3, none⟩ = some (.int .i64 ex) := BD1.out.cell 3
  clear n1 b1 f1 BLD BLW BLZ HBW PA c2
  go_wp2_with fail
  refine (PW.out _).mono ?_
  rintro e w2 ⟨v2, rfl, n2, b2, f2⟩
  obtain ⟨o2, p2, x2, rfl, _⟩ := id n2
  have q := BW1.out.below b2 BW1.out.lt
  have qz := BZ1.out.below b2 BZ1.out.lt
  have a0 : w2.cell? ⟨w.heap.size, 0, none⟩ = some (.int .i64 52) := q.cell 0
  have a1 : w2.cell? ⟨w.heap.size, 1, none⟩ = some (.int .i64 11) := q.cell 1
  have a2 : w2.cell? ⟨w.heap.size, 2, none⟩ = some (.int .i64 (-1074)) := q.cell 2
  have k0 : w2.cell? ⟨w.heap.size + 1 + 1, 0, none⟩ = some (.int .i64 0) := qz.cell 0
  have k1 : w2.cell? ⟨w.heap.size + 1 + 1, 1, none⟩ = some (.int .i64 0) := qz.cell 1
  have k2 : w2.cell? ⟨w.heap.size + 1 + 1, 2, none⟩ = some (.int .i64 0) := qz.cell 2
  have k3 : w2.cell? ⟨w.heap.size + 1 + 1, 3, none⟩ = some (.slice none 0 0) := qz.cell 3
  have k4 : w2.cell? ⟨w.heap.size + 1 + 1, 4, none⟩ = some (.slice none 0 0) := qz.cell 4
  have g0 := qz.free 0
  have g1 := qz.free 1
  have g2 := qz.free 2
  have g3 := qz.free 3
  have g4 := qz.free 4
  have QZ := hide qz
  have HB2 := hide (HB1.out.trans (b2.mono HB1.out.size))
  have N12 := hide (N1.out.below b2)
  have N2 := hide n2
  have F2 := hide (f2.mono (i := w.heap.size + 3) (by have := BZ1.out.lt; omega))
  clear n2 b2 f2 q qz BD1 BW1 BZ1 HB1 N1 PW d3
  simp only []
  repeat (first | go_values | go_skip | go_guarded | go_step | go_upon)
  refine bodyPost_ret (results_frac rfl _ _ _ _ _ _ _ _ rfl (QZ.out.put5 _ _ _ _ _)) rfl ?_
  exact ⟨o1, x1.length, p1, o2, x2.length, p2, rfl, N12.out.put5 F1.out (by omega) _ _ _ _ _, N2.out.put5 F2.out (by omega) _ _ _ _ _, below_put5 HB2.out (by omega) _ _ _ _ _⟩

set_option maxRecDepth 100000 in
set_option maxHeartbeats 2000000 in
theorem frac64_pos (neg : Bool) (t : ByteArray) (n : Nat) (w : World) (h : DigD (bys t) (n : Int)) (hn : ¬ (n : Int) < 0) :
    Calls Tryz.prog 49 #[w64, .agg #[.int .i64 0, .bool neg, .string t, .int .i64 (n : Int)]] w (FrPost w 52 11 (-1074) (decV (bys t) * 10 ^ n) 1) := by
  have NS := Nums.of h
  have s1 : Sm (decV (bys t)) := by
    obtain ⟨h0, h1, h2, h3, h4, h5, h6⟩ := h
    exact Sm.of (decV_lt _ _ rfl h6) (by omega)
  obtain ⟨h0, h1, h2, h3, h4, h5, h6⟩ := h
  rw [bys_len] at h1 h2 h3
  have hok : OkT (bys t) := ⟨h0, fun e => absurd e h4, h6⟩
  have hnl : n ≤ 3000 := by omega
  have SS : Hid (Sm (decV (bys t)) ∧ Sm (10 ^ n)) := ⟨s1, (fit_pow n hnl).sm0⟩
  have PA := hide (fun W => nt_parse t W (by omega) hok)
  have PW := hide (fun W => nt_pow10 (n : Int) n W rfl (by omega))
  clear h0 h1 h2 h3 h4 h5 h6 hok NS s1
  obtain ⟨ex, hex⟩ : ∃ e : Int, e = (n : Int) := ⟨_, rfl⟩
  rw [← hex] at hn PW
  have HEX := hide hex
  rw [← hex]
  clear hex
  have blkd := ((Blk.newAt (w.alloc (.cells #[.int .i64 52, .int .i64 11, .int .i64 (-1074)] 56)) (w.heap.size + 1) (by simp) #[.int .i64 0, .bool neg, .string t, .int .i64 ex] 24).alloc (.cells #[.int .i64 0, .int .i64 0, .int .i64 0, .slice none 0 0, .slice none 0 0] 85))
  have blkw := ((Blk.new w #[.int .i64 52, .int .i64 11, .int .i64 (-1074)] 56).alloc (.cells #[.int .i64 0, .bool neg, .string t, .int .i64 ex] 24)).alloc (.cells #[.int .i64 0, .int .i64 0, .int .i64 0, .slice none 0 0, .slice none 0 0] 85)
  have blkz := Blk.newAt ((w.alloc (.cells #[.int .i64 52, .int .i64 11, .int .i64 (-1074)] 56)).alloc (.cells #[.int .i64 0, .bool neg, .string t, .int .i64 ex] 24)) (w.heap.size + 1 + 1) (by simp) #[.int .i64 0, .int .i64 0, .int .i64 0, .slice none 0 0, .slice none 0 0] 85
  obtain ⟨W, hW⟩ : ∃ W, W = ((w.alloc (.cells #[.int .i64 52, .int .i64 11, .int .i64 (-1074)] 56)).alloc (.cells #[.int .i64 0, .bool neg, .string t, .int .i64 ex] 24)).alloc (.cells #[.int .i64 0, .int .i64 0, .int .i64 0, .slice none 0 0, .slice none 0 0] 85) := ⟨_, rfl⟩
  rw [← hW] at blkd blkw blkz
  have HBW : Hid (Below w.heap.size w W) := by rw [hW]; exact (((Below.refl _ _).alloc (Nat.le_refl _) _).alloc (by simp) _).alloc (by simp; omega) _
  have BLD := hide blkd
  have BLW := hide blkw
  have BLZ := hide blkz
  have c2 : W.cell? ⟨w.heap.size + 1, 2, none⟩ = some (.string t) := blkd.cell 2
  have HW := hide hW
  clear blkd blkw blkz hW
  go_enter Tryz.func49, Tryz.ntmps49
  go_wp2_with fail
  simp only [← HW.out]
  refine (PA.out _).mono ?_
  rintro e w1 ⟨v1, rfl, n1, b1, f1⟩
  obtain ⟨o1, p1, x1, rfl, _⟩ := id n1
  have N1 := hide n1
  have BD1 := hide (BLD.out.below b1 BLD.out.lt)
  have BW1 := hide (BLW.out.below b1 BLW.out.lt)
  have BZ1 := hide (BLZ.out.below b1 BLZ.out.lt)
  have HB1 := hide (HBW.out.trans (b1.mono HBW.out.size))
  have d3 : w1.cell? ⟨w.heap.size + 1, 3, none⟩ = some (.int .i64 ex) := BD1.out.cell 3
  clear n1 b1 f1 BLD BLW BLZ HBW PA c2
  go_wp2_with fail
  refine (PW.out _).mono ?_
  rintro e w2 ⟨v2, rfl, n2, b2, f2⟩
  obtain ⟨o2, p2, x2, rfl, _⟩ := id n2
  have BW2 := hide (BW1.out.below b2 BW1.out.lt)
  have BZ2 := hide (BZ1.out.below b2 BZ1.out.lt)
  have HB2 := hide (HB1.out.trans (b2.mono HB1.out.size))
  have N12 := hide (N1.out.below b2)
  have N2 := hide n2
  have hlt := BZ2.out.lt
  obtain ⟨G, hG⟩ : ∃ G, G = w.heap.size + 1 + 1 := ⟨_, rfl⟩
  rw [← hG] at BZ2 hlt
  have ne1 : ¬ G = w.heap.size := by omega
  have ne2 : ¬ w.heap.size = G := by omega
  have hG3 : G < w.heap.size + 3 := by omega
  have hG2 : w.heap.size ≤ G := by omega
  have HG := hide hG
  clear hG
  have HC : Hid (∀ w', Below w2.heap.size w2 w' → w'.cell? ⟨w.heap.size, 0, none⟩ = some (.int .i64 52) ∧ w'.cell? ⟨w.heap.size, 1, none⟩ = some (.int .i64 11) ∧ w'.cell? ⟨w.heap.size, 2, none⟩ = some (.int .i64 (-1074)) ∧ w'.cell? ⟨G, 0, none⟩ = some (.int .i64 0) ∧ w'.cell? ⟨G, 1, none⟩ = some (.int .i64 0) ∧ w'.cell? ⟨G, 2, none⟩ = some (.int .i64 0) ∧ w'.cell? ⟨G, 3, none⟩ = some (.slice none 0 0) ∧ w'.cell? ⟨G, 4, none⟩ = some (.slice none 0 0) ∧ w'.frozen? ⟨G, 0, none⟩ = false ∧ w'.frozen? ⟨G, 1, none⟩ = false ∧ w'.frozen? ⟨G, 2, none⟩ = false ∧ w'.frozen? ⟨G, 3, none⟩ = false ∧ w'.frozen? ⟨G, 4, none⟩ = false) := fun w' hb => by
    have q := BW2.out.below hb BW2.out.lt
    have qz := BZ2.out.below hb BZ2.out.lt
    exact ⟨q.cell 0, q.cell 1, q.cell 2, qz.cell 0, qz.cell 1, qz.cell 2, qz.cell 3, qz.cell 4, qz.free 0, qz.free 1, qz.free 2, qz.free 3, qz.free 4⟩
  obtain ⟨c0, c1, c2, c3, c4, c5, c6, c7, c8, c9, c10, c11, c12⟩ := HC.out w2 (Below.refl _ _)
  have b0 : Hid (Below w2.heap.size w2 w2.drew) := bdrew' w2
  have MUL : Hid (∀ w', Hid (Below w2.heap.size w2 w') → Calls Tryz.prog 54 #[.slice o1 x1.length p1, .slice o2 x2.length p2] w' fun e w'' => ∃ oa la ca, e = .returned (.slice oa la ca) ∧ Hid (Nt w'' (.slice oa la ca) (decV (bys t) * 10 ^ n) ∧ Far (w.heap.size + 3) (.slice oa la ca) ∧ Below w'.heap.size w' w'') ∧ Hid (Below w2.heap.size w2 w'') ∧ w''.cell? ⟨w.heap.size, 0, none⟩ = some (.int .i64 52) ∧ w''.cell? ⟨w.heap.size, 1, none⟩ = some (.int .i64 11) ∧ w''.cell? ⟨w.heap.size, 2, none⟩ = some (.int .i64 (-1074)) ∧ w''.cell? ⟨G, 0, none⟩ = some (.int .i64 0) ∧ w''.cell? ⟨G, 1, none⟩ = some (.int .i64 0) ∧ w''.cell? ⟨G, 2, none⟩ = some (.int .i64 0) ∧ w''.cell? ⟨G, 3, none⟩ = some (.slice none 0 0) ∧ w''.cell? ⟨G, 4, none⟩ = some (.slice none 0 0) ∧ w''.frozen? ⟨G, 0, none⟩ = false ∧ w''.frozen? ⟨G, 1, none⟩ = false ∧ w''.frozen? ⟨G, 2, none⟩ = false ∧ w''.frozen? ⟨G, 3, none⟩ = false ∧ w''.frozen? ⟨G, 4, none⟩ = false) := by
    intro w' hw'
    refine (nt_mul _ _ _ _ w' (N12.out.below hw'.out) (N2.out.below hw'.out) SS.out.1 SS.out.2).mono ?_
    rintro e w'' ⟨v, rfl, nv, hb, fv⟩
    obtain ⟨oa, ca, xa, rfl, _⟩ := id nv
    have hbb := hw'.out.trans (hb.mono hw'.out.size)
    exact ⟨_, _, _, rfl, ⟨nv, fv.mono (by have := hw'.out.size; have := HG.out; omega), hb⟩, hbb, HC.out _ hbb⟩
  have OFF : Hid (∀ w', Hid (Below w2.heap.size w2 w') → Calls Tryz.prog 43 #[.int .u64 1] w' fun e w'' => ∃ oa la ca, e = .returned (.slice oa la ca) ∧ Hid (Nt w'' (.slice oa la ca) 1 ∧ Far (w.heap.size + 3) (.slice oa la ca) ∧ Below w'.heap.size w' w'') ∧ Hid (Below w2.heap.size w2 w'') ∧ w''.cell? ⟨w.heap.size, 0, none⟩ = some (.int .i64 52) ∧ w''.cell? ⟨w.heap.size, 1, none⟩ = some (.int .i64 11) ∧ w''.cell? ⟨w.heap.size, 2, none⟩ = some (.int .i64 (-1074)) ∧ w''.cell? ⟨G, 0, none⟩ = some (.int .i64 0) ∧ w''.cell? ⟨G, 1, none⟩ = some (.int .i64 0) ∧ w''.cell? ⟨G, 2, none⟩ = some (.int .i64 0) ∧ w''.cell? ⟨G, 3, none⟩ = some (.slice none 0 0) ∧ w''.cell? ⟨G, 4, none⟩ = some (.slice none 0 0) ∧ w''.frozen? ⟨G, 0, none⟩ = false ∧ w''.frozen? ⟨G, 1, none⟩ = false ∧ w''.frozen? ⟨G, 2, none⟩ = false ∧ w''.frozen? ⟨G, 3, none⟩ = false ∧ w''.frozen? ⟨G, 4, none⟩ = false) := by
    intro w' hw'
    refine (nt_of 1 w' (by decide)).mono ?_
    rintro e w'' ⟨v, rfl, nv, hb, fv⟩
    obtain ⟨oa, ca, xa, rfl, _⟩ := id nv
    have hbb := hw'.out.trans (hb.mono hw'.out.size)
    exact ⟨_, _, _, rfl, ⟨nv, fv.mono (by have := hw'.out.size; have := HG.out; omega), hb⟩, hbb, HC.out _ hbb⟩
  have BZF : Hid (∀ w', Below w2.heap.size w2 w' → Below w.heap.size w w' ∧ Blk w' G #[.int .i64 0, .int .i64 0, .int .i64 0, .slice none 0 0, .slice none 0 0] 85) := fun w' hb => ⟨HB2.out.trans (hb.mono HB2.out.size), BZ2.out.below hb BZ2.out.lt⟩
  clear n2 b2 f2 BD1 BW1 BZ1 HB1 N1 PW d3 N12 N2 HC BW2 BZ2 HB2 SS hlt
  go_wp2_with fail
  simp only [← HG.out]
  have mk0 : True := trivial
  go_region_held3 (fun w' => w'.cell? ⟨w.heap.size, 0, none⟩ = some (.int .i64 52) ∧ w'.cell? ⟨w.heap.size, 1, none⟩ = some (.int .i64 11) ∧ w'.cell? ⟨w.heap.size, 2, none⟩ = some (.int .i64 (-1074))) (go_keep) (first
    | (clear mk0; go_at_call 54; refine (MUL.out _ b0).mono ?_; rintro e w3 ⟨oa, la, ca, rfl, na, b3, r0, r1, r2, r3, r4, r5, r6, r7, r8, r9, r10, r11, r12⟩; have mkM : True := trivial)
    | (clear mkM; go_at_call 43; refine (OFF.out _ b3).mono ?_; rintro e w4 ⟨ob, lb, cb, rfl, nb, b4, y0, y1, y2, y3, y4, y5, y6, y7, y8, y9, y10, y11, y12⟩; have FIN : Hid ((Nt w4 (.slice oa la ca) (decV (bys t) * 10 ^ n) ∧ Far (w.heap.size + 3) (.slice oa la ca)) ∧ (Nt w4 (.slice ob lb cb) 1 ∧ Far (w.heap.size + 3) (.slice ob lb cb)) ∧ Below w2.heap.size w2 w4) := ⟨⟨na.out.1.below nb.out.2.2, na.out.2.1⟩, ⟨nb.out.1, nb.out.2.1⟩, b4.out⟩; have mk2 : True := trivial)
    | (clear mk0; go_at_call 43; refine (OFF.out _ b0).mono ?_; rintro e w3 ⟨ob, lb, cb, rfl, nb, b3, r0, r1, r2, r3, r4, r5, r6, r7, r8, r9, r10, r11, r12⟩; have mkO : True := trivial)
    | (clear mkO; go_at_call 54; refine (MUL.out _ b3).mono ?_; rintro e w4 ⟨oa, la, ca, rfl, na, b4, y0, y1, y2, y3, y4, y5, y6, y7, y8, y9, y10, y11, y12⟩; have FIN : Hid ((Nt w4 (.slice oa la ca) (decV (bys t) * 10 ^ n) ∧ Far (w.heap.size + 3) (.slice oa la ca)) ∧ (Nt w4 (.slice ob lb cb) 1 ∧ Far (w.heap.size + 3) (.slice ob lb cb)) ∧ Below w2.heap.size w2 w4) := ⟨⟨na.out.1, na.out.2.1⟩, ⟨nb.out.1.below na.out.2.2, nb.out.2.1⟩, b4.out⟩; have mk2 : True := trivial))
  all_goals (
    obtain ⟨hbel, hblk⟩ := BZF.out _ FIN.out.2.2
    have HBL := hide hbel
    have QZ := hide hblk
    clear hbel hblk BZF na nb b3 b4 MUL OFF
    repeat (first | go_values | go_skip | go_guarded | go_step | go_upon)
    refine bodyPost_ret (results_frac rfl _ _ _ _ _ _ _ _ rfl (QZ.out.put5 _ _ _ _ _)) rfl ?_
    exact ⟨oa, la, ca, ob, lb, cb, rfl, FIN.out.1.1.put5 FIN.out.1.2 hG3 _ _ _ _ _, FIN.out.2.1.1.put5 FIN.out.2.1.2 hG3 _ _ _ _ _, below_put5 HBL.out hG2 _ _ _ _ _⟩)

set_option maxHeartbeats 1000000 in
theorem frac32_neg (neg : Bool) (t : ByteArray) (n : Nat) (w : World) (h : DigD (bys t) (-(n : Int))) (hn : -(n : Int) < 0) :
    Calls Tryz.prog 49 #[w32, .agg #[.int .i64 0, .bool neg, .string t, .int .i64 (-(n : Int))]] w (FrPost w 23 8 (-149) (decV (bys t)) (10 ^ n)) := by
  obtain ⟨h0, h1, h2, h3, h4, h5, h6⟩ := h
  rw [bys_len] at h1 h2 h3
  have hok : OkT (bys t) := ⟨h0, fun e => absurd e h4, h6⟩
  have hnl : n ≤ 3000 := by omega
  have PA := hide (fun W => nt_parse t W (by omega) hok)
  have PW := hide (fun W => nt_pow10 (n : Int) n W rfl (by omega))
  clear h0 h1 h2 h3 h4 h5 h6 hok
  obtain ⟨ex, hex⟩ : ∃ e : Int, e = -(n : Int) := ⟨_, rfl⟩
  rw [← hex] at hn
  have hen : -ex = (n : Int) := by omega
  have HEX := hide hex
  rw [← hex]
  clear hex
  have blkd := ((Blk.newAt (w.alloc (.cells #[.int .i64 23, .int .i64 8, .int .i64 (-149)] 56)) (w.heap.size + 1) (by simp) #[.int .i64 0, .bool neg, .string t, .int .i64 ex] 24).alloc (.cells #[.int .i64 0, .int .i64 0, .int .i64 0, .slice none 0 0, .slice none 0 0] 85))
  have blkw := ((Blk.new w #[.int .i64 23, .int .i64 8, .int .i64 (-149)] 56).alloc (.cells #[.int .i64 0, .bool neg, .string t, .int .i64 ex] 24)).alloc (.cells #[.int .i64 0, .int .i64 0, .int .i64 0, .slice none 0 0, .slice none 0 0] 85)
  have blkz := Blk.newAt ((w.alloc (.cells #[.int .i64 23, .int .i64 8, .int .i64 (-149)] 56)).alloc (.cells #[.int .i64 0, .bool neg, .string t, .int .i64 ex] 24)) (w.heap.size + 1 + 1) (by simp) #[.int .i64 0, .int .i64 0, .int .i64 0, .slice none 0 0, .slice none 0 0] 85
  obtain ⟨W, hW⟩ : ∃ W, W = ((w.alloc (.cells #[.int .i64 23, .int .i64 8, .int .i64 (-149)] 56)).alloc (.cells #[.int .i64 0, .bool neg, .string t, .int .i64 ex] 24)).alloc (.cells #[.int .i64 0, .int .i64 0, .int .i64 0, .slice none 0 0, .slice none 0 0] 85) := ⟨_, rfl⟩
  rw [← hW] at blkd blkw blkz
  have HBW : Hid (Below w.heap.size w W) := by rw [hW]; exact (((Below.refl _ _).alloc (Nat.le_refl _) _).alloc (by simp) _).alloc (by simp; omega) _
  have BLD := hide blkd
  have BLW := hide blkw
  have BLZ := hide blkz
  have c2 : W.cell? ⟨w.heap.size + 1, 2, none⟩ = some (.string t) := blkd.cell 2
  have HW := hide hW
  clear blkd blkw blkz hW
  go_enter Tryz.func49, Tryz.ntmps49
  go_wp2_with fail
  simp only [← HW.out]
  refine (PA.out _).mono ?_
  rintro e w1 ⟨v1, rfl, n1, b1, f1⟩
  obtain ⟨o1, p1, x1, rfl, _⟩ := id n1
  have N1 := hide n1
  have F1 := hide (f1.mono (i := w.heap.size + 3) (by have := BLZ.out.lt; omega))
  have BD1 := hide (BLD.out.below b1 BLD.out.lt)
  have BW1 := hide (BLW.out.below b1 BLW.out.lt)
  have BZ1 := hide (BLZ.out.below b1 BLZ.out.lt)
  have HB1 := hide (HBW.out.trans (b1.mono HBW.out.size))
  have d3 : w1.cell? ⟨w.heap.size + 1, 3, none⟩ = some (.int .i64 ex) := BD1.out.cell 3
  clear n1 b1 f1 BLD BLW BLZ HBW PA c2
  go_wp2_with fail
  refine (PW.out _).mono ?_
  rintro e w2 ⟨v2, rfl, n2, b2, f2⟩
  obtain ⟨o2, p2, x2, rfl, _⟩ := id n2
  have q := BW1.out.below b2 BW1.out.lt
  have qz := BZ1.out.below b2 BZ1.out.lt
  have a0 : w2.cell? ⟨w.heap.size, 0, none⟩ = some (.int .i64 23) := q.cell 0
  have a1 : w2.cell? ⟨w.heap.size, 1, none⟩ = some (.int .i64 8) := q.cell 1
  have a2 : w2.cell? ⟨w.heap.size, 2, none⟩ = some (.int .i64 (-149)) := q.cell 2
  have k0 : w2.cell? ⟨w.heap.size + 1 + 1, 0, none⟩ = some (.int .i64 0) := qz.cell 0
  have k1 : w2.cell? ⟨w.heap.size + 1 + 1, 1, none⟩ = some (.int .i64 0) := qz.cell 1
  have k2 : w2.cell? ⟨w.heap.size + 1 + 1, 2, none⟩ = some (.int .i64 0) := qz.cell 2
  have k3 : w2.cell? ⟨w.heap.size + 1 + 1, 3, none⟩ = some (.slice none 0 0) := qz.cell 3
  have k4 : w2.cell? ⟨w.heap.size + 1 + 1, 4, none⟩ = some (.slice none 0 0) := qz.cell 4
  have g0 := qz.free 0
  have g1 := qz.free 1
  have g2 := qz.free 2
  have g3 := qz.free 3
  have g4 := qz.free 4
  have QZ := hide qz
  have HB2 := hide (HB1.out.trans (b2.mono HB1.out.size))
  have N12 := hide (N1.out.below b2)
  have N2 := hide n2
  have F2 := hide (f2.mono (i := w.heap.size + 3) (by have := BZ1.out.lt; omega))
  clear n2 b2 f2 q qz BD1 BW1 BZ1 HB1 N1 PW d3
  simp only []
  repeat (first | go_values | go_skip | go_guarded | go_step | go_upon)
  refine bodyPost_ret (results_frac rfl _ _ _ _ _ _ _ _ rfl (QZ.out.put5 _ _ _ _ _)) rfl ?_
  exact ⟨o1, x1.length, p1, o2, x2.length, p2, rfl, N12.out.put5 F1.out (by omega) _ _ _ _ _, N2.out.put5 F2.out (by omega) _ _ _ _ _, below_put5 HB2.out (by omega) _ _ _ _ _⟩

set_option maxRecDepth 100000 in
set_option maxHeartbeats 2000000 in
theorem frac32_pos (neg : Bool) (t : ByteArray) (n : Nat) (w : World) (h : DigD (bys t) (n : Int)) (hn : ¬ (n : Int) < 0) :
    Calls Tryz.prog 49 #[w32, .agg #[.int .i64 0, .bool neg, .string t, .int .i64 (n : Int)]] w (FrPost w 23 8 (-149) (decV (bys t) * 10 ^ n) 1) := by
  have NS := Nums.of h
  have s1 : Sm (decV (bys t)) := by
    obtain ⟨h0, h1, h2, h3, h4, h5, h6⟩ := h
    exact Sm.of (decV_lt _ _ rfl h6) (by omega)
  obtain ⟨h0, h1, h2, h3, h4, h5, h6⟩ := h
  rw [bys_len] at h1 h2 h3
  have hok : OkT (bys t) := ⟨h0, fun e => absurd e h4, h6⟩
  have hnl : n ≤ 3000 := by omega
  have SS : Hid (Sm (decV (bys t)) ∧ Sm (10 ^ n)) := ⟨s1, (fit_pow n hnl).sm0⟩
  have PA := hide (fun W => nt_parse t W (by omega) hok)
  have PW := hide (fun W => nt_pow10 (n : Int) n W rfl (by omega))
  clear h0 h1 h2 h3 h4 h5 h6 hok NS s1
  obtain ⟨ex, hex⟩ : ∃ e : Int, e = (n : Int) := ⟨_, rfl⟩
  rw [← hex] at hn PW
  have HEX := hide hex
  rw [← hex]
  clear hex
  have blkd := ((Blk.newAt (w.alloc (.cells #[.int .i64 23, .int .i64 8, .int .i64 (-149)] 56)) (w.heap.size + 1) (by simp) #[.int .i64 0, .bool neg, .string t, .int .i64 ex] 24).alloc (.cells #[.int .i64 0, .int .i64 0, .int .i64 0, .slice none 0 0, .slice none 0 0] 85))
  have blkw := ((Blk.new w #[.int .i64 23, .int .i64 8, .int .i64 (-149)] 56).alloc (.cells #[.int .i64 0, .bool neg, .string t, .int .i64 ex] 24)).alloc (.cells #[.int .i64 0, .int .i64 0, .int .i64 0, .slice none 0 0, .slice none 0 0] 85)
  have blkz := Blk.newAt ((w.alloc (.cells #[.int .i64 23, .int .i64 8, .int .i64 (-149)] 56)).alloc (.cells #[.int .i64 0, .bool neg, .string t, .int .i64 ex] 24)) (w.heap.size + 1 + 1) (by simp) #[.int .i64 0, .int .i64 0, .int .i64 0, .slice none 0 0, .slice none 0 0] 85
  obtain ⟨W, hW⟩ : ∃ W, W = ((w.alloc (.cells #[.int .i64 23, .int .i64 8, .int .i64 (-149)] 56)).alloc (.cells #[.int .i64 0, .bool neg, .string t, .int .i64 ex] 24)).alloc (.cells #[.int .i64 0, .int .i64 0, .int .i64 0, .slice none 0 0, .slice none 0 0] 85) := ⟨_, rfl⟩
  rw [← hW] at blkd blkw blkz
  have HBW : Hid (Below w.heap.size w W) := by rw [hW]; exact (((Below.refl _ _).alloc (Nat.le_refl _) _).alloc (by simp) _).alloc (by simp; omega) _
  have BLD := hide blkd
  have BLW := hide blkw
  have BLZ := hide blkz
  have c2 : W.cell? ⟨w.heap.size + 1, 2, none⟩ = some (.string t) := blkd.cell 2
  have HW := hide hW
  clear blkd blkw blkz hW
  go_enter Tryz.func49, Tryz.ntmps49
  go_wp2_with fail
  simp only [← HW.out]
  refine (PA.out _).mono ?_
  rintro e w1 ⟨v1, rfl, n1, b1, f1⟩
  obtain ⟨o1, p1, x1, rfl, _⟩ := id n1
  have N1 := hide n1
  have BD1 := hide (BLD.out.below b1 BLD.out.lt)
  have BW1 := hide (BLW.out.below b1 BLW.out.lt)
  have BZ1 := hide (BLZ.out.below b1 BLZ.out.lt)
  have HB1 := hide (HBW.out.trans (b1.mono HBW.out.size))
  have d3 : w1.cell? ⟨w.heap.size + 1, 3, none⟩ = some (.int .i64 ex) := BD1.out.cell 3
  clear n1 b1 f1 BLD BLW BLZ HBW PA c2
  go_wp2_with fail
  refine (PW.out _).mono ?_
  rintro e w2 ⟨v2, rfl, n2, b2, f2⟩
  obtain ⟨o2, p2, x2, rfl, _⟩ := id n2
  have BW2 := hide (BW1.out.below b2 BW1.out.lt)
  have BZ2 := hide (BZ1.out.below b2 BZ1.out.lt)
  have HB2 := hide (HB1.out.trans (b2.mono HB1.out.size))
  have N12 := hide (N1.out.below b2)
  have N2 := hide n2
  have hlt := BZ2.out.lt
  obtain ⟨G, hG⟩ : ∃ G, G = w.heap.size + 1 + 1 := ⟨_, rfl⟩
  rw [← hG] at BZ2 hlt
  have ne1 : ¬ G = w.heap.size := by omega
  have ne2 : ¬ w.heap.size = G := by omega
  have hG3 : G < w.heap.size + 3 := by omega
  have hG2 : w.heap.size ≤ G := by omega
  have HG := hide hG
  clear hG
  have HC : Hid (∀ w', Below w2.heap.size w2 w' → w'.cell? ⟨w.heap.size, 0, none⟩ = some (.int .i64 23) ∧ w'.cell? ⟨w.heap.size, 1, none⟩ = some (.int .i64 8) ∧ w'.cell? ⟨w.heap.size, 2, none⟩ = some (.int .i64 (-149)) ∧ w'.cell? ⟨G, 0, none⟩ = some (.int .i64 0) ∧ w'.cell? ⟨G, 1, none⟩ = some (.int .i64 0) ∧ w'.cell? ⟨G, 2, none⟩ = some (.int .i64 0) ∧ w'.cell? ⟨G, 3, none⟩ = some (.slice none 0 0) ∧ w'.cell? ⟨G, 4, none⟩ = some (.slice none 0 0) ∧ w'.frozen? ⟨G, 0, none⟩ = false ∧ w'.frozen? ⟨G, 1, none⟩ = false ∧ w'.frozen? ⟨G, 2, none⟩ = false ∧ w'.frozen? ⟨G, 3, none⟩ = false ∧ w'.frozen? ⟨G, 4, none⟩ = false) := fun w' hb => by
    have q := BW2.out.below hb BW2.out.lt
    have qz := BZ2.out.below hb BZ2.out.lt
    exact ⟨q.cell 0, q.cell 1, q.cell 2, qz.cell 0, qz.cell 1, qz.cell 2, qz.cell 3, qz.cell 4, qz.free 0, qz.free 1, qz.free 2, qz.free 3, qz.free 4⟩
  obtain ⟨c0, c1, c2, c3, c4, c5, c6, c7, c8, c9, c10, c11, c12⟩ := HC.out w2 (Below.refl _ _)
  have b0 : Hid (Below w2.heap.size w2 w2.drew) := bdrew' w2
  have MUL : Hid (∀ w', Hid (Below w2.heap.size w2 w') → Calls Tryz.prog 54 #[.slice o1 x1.length p1, .slice o2 x2.length p2] w' fun e w'' => ∃ oa la ca, e = .returned (.slice oa la ca) ∧ Hid (Nt w'' (.slice oa la ca) (decV (bys t) * 10 ^ n) ∧ Far (w.heap.size + 3) (.slice oa la ca) ∧ Below w'.heap.size w' w'') ∧ Hid (Below w2.heap.size w2 w'') ∧ w''.cell? ⟨w.heap.size, 0, none⟩ = some (.int .i64 23) ∧ w''.cell? ⟨w.heap.size, 1, none⟩ = some (.int .i64 8) ∧ w''.cell? ⟨w.heap.size, 2, none⟩ = some (.int .i64 (-149)) ∧ w''.cell? ⟨G, 0, none⟩ = some (.int .i64 0) ∧ w''.cell? ⟨G, 1, none⟩ = some (.int .i64 0) ∧ w''.cell? ⟨G, 2, none⟩ = some (.int .i64 0) ∧ w''.cell? ⟨G, 3, none⟩ = some (.slice none 0 0) ∧ w''.cell? ⟨G, 4, none⟩ = some (.slice none 0 0) ∧ w''.frozen? ⟨G, 0, none⟩ = false ∧ w''.frozen? ⟨G, 1, none⟩ = false ∧ w''.frozen? ⟨G, 2, none⟩ = false ∧ w''.frozen? ⟨G, 3, none⟩ = false ∧ w''.frozen? ⟨G, 4, none⟩ = false) := by
    intro w' hw'
    refine (nt_mul _ _ _ _ w' (N12.out.below hw'.out) (N2.out.below hw'.out) SS.out.1 SS.out.2).mono ?_
    rintro e w'' ⟨v, rfl, nv, hb, fv⟩
    obtain ⟨oa, ca, xa, rfl, _⟩ := id nv
    have hbb := hw'.out.trans (hb.mono hw'.out.size)
    exact ⟨_, _, _, rfl, ⟨nv, fv.mono (by have := hw'.out.size; have := HG.out; omega), hb⟩, hbb, HC.out _ hbb⟩
  have OFF : Hid (∀ w', Hid (Below w2.heap.size w2 w') → Calls Tryz.prog 43 #[.int .u64 1] w' fun e w'' => ∃ oa la ca, e = .returned (.slice oa la ca) ∧ Hid (Nt w'' (.slice oa la ca) 1 ∧ Far (w.heap.size + 3) (.slice oa la ca) ∧ Below w'.heap.size w' w'') ∧ Hid (Below w2.heap.size w2 w'') ∧ w''.cell? ⟨w.heap.size, 0, none⟩ = some (.int .i64 23) ∧ w''.cell? ⟨w.heap.size, 1, none⟩ = some (.int .i64 8) ∧ w''.cell? ⟨w.heap.size, 2, none⟩ = some (.int .i64 (-149)) ∧ w''.cell? ⟨G, 0, none⟩ = some (.int .i64 0) ∧ w''.cell? ⟨G, 1, none⟩ = some (.int .i64 0) ∧ w''.cell? ⟨G, 2, none⟩ = some (.int .i64 0) ∧ w''.cell? ⟨G, 3, none⟩ = some (.slice none 0 0) ∧ w''.cell? ⟨G, 4, none⟩ = some (.slice none 0 0) ∧ w''.frozen? ⟨G, 0, none⟩ = false ∧ w''.frozen? ⟨G, 1, none⟩ = false ∧ w''.frozen? ⟨G, 2, none⟩ = false ∧ w''.frozen? ⟨G, 3, none⟩ = false ∧ w''.frozen? ⟨G, 4, none⟩ = false) := by
    intro w' hw'
    refine (nt_of 1 w' (by decide)).mono ?_
    rintro e w'' ⟨v, rfl, nv, hb, fv⟩
    obtain ⟨oa, ca, xa, rfl, _⟩ := id nv
    have hbb := hw'.out.trans (hb.mono hw'.out.size)
    exact ⟨_, _, _, rfl, ⟨nv, fv.mono (by have := hw'.out.size; have := HG.out; omega), hb⟩, hbb, HC.out _ hbb⟩
  have BZF : Hid (∀ w', Below w2.heap.size w2 w' → Below w.heap.size w w' ∧ Blk w' G #[.int .i64 0, .int .i64 0, .int .i64 0, .slice none 0 0, .slice none 0 0] 85) := fun w' hb => ⟨HB2.out.trans (hb.mono HB2.out.size), BZ2.out.below hb BZ2.out.lt⟩
  clear n2 b2 f2 BD1 BW1 BZ1 HB1 N1 PW d3 N12 N2 HC BW2 BZ2 HB2 SS hlt
  go_wp2_with fail
  simp only [← HG.out]
  have mk0 : True := trivial
  go_region_held3 (fun w' => w'.cell? ⟨w.heap.size, 0, none⟩ = some (.int .i64 23) ∧ w'.cell? ⟨w.heap.size, 1, none⟩ = some (.int .i64 8) ∧ w'.cell? ⟨w.heap.size, 2, none⟩ = some (.int .i64 (-149))) (go_keep) (first
    | (clear mk0; go_at_call 54; refine (MUL.out _ b0).mono ?_; rintro e w3 ⟨oa, la, ca, rfl, na, b3, r0, r1, r2, r3, r4, r5, r6, r7, r8, r9, r10, r11, r12⟩; have mkM : True := trivial)
    | (clear mkM; go_at_call 43; refine (OFF.out _ b3).mono ?_; rintro e w4 ⟨ob, lb, cb, rfl, nb, b4, y0, y1, y2, y3, y4, y5, y6, y7, y8, y9, y10, y11, y12⟩; have FIN : Hid ((Nt w4 (.slice oa la ca) (decV (bys t) * 10 ^ n) ∧ Far (w.heap.size + 3) (.slice oa la ca)) ∧ (Nt w4 (.slice ob lb cb) 1 ∧ Far (w.heap.size + 3) (.slice ob lb cb)) ∧ Below w2.heap.size w2 w4) := ⟨⟨na.out.1.below nb.out.2.2, na.out.2.1⟩, ⟨nb.out.1, nb.out.2.1⟩, b4.out⟩; have mk2 : True := trivial)
    | (clear mk0; go_at_call 43; refine (OFF.out _ b0).mono ?_; rintro e w3 ⟨ob, lb, cb, rfl, nb, b3, r0, r1, r2, r3, r4, r5, r6, r7, r8, r9, r10, r11, r12⟩; have mkO : True := trivial)
    | (clear mkO; go_at_call 54; refine (MUL.out _ b3).mono ?_; rintro e w4 ⟨oa, la, ca, rfl, na, b4, y0, y1, y2, y3, y4, y5, y6, y7, y8, y9, y10, y11, y12⟩; have FIN : Hid ((Nt w4 (.slice oa la ca) (decV (bys t) * 10 ^ n) ∧ Far (w.heap.size + 3) (.slice oa la ca)) ∧ (Nt w4 (.slice ob lb cb) 1 ∧ Far (w.heap.size + 3) (.slice ob lb cb)) ∧ Below w2.heap.size w2 w4) := ⟨⟨na.out.1, na.out.2.1⟩, ⟨nb.out.1.below na.out.2.2, nb.out.2.1⟩, b4.out⟩; have mk2 : True := trivial))
  all_goals (
    obtain ⟨hbel, hblk⟩ := BZF.out _ FIN.out.2.2
    have HBL := hide hbel
    have QZ := hide hblk
    clear hbel hblk BZF na nb b3 b4 MUL OFF
    repeat (first | go_values | go_skip | go_guarded | go_step | go_upon)
    refine bodyPost_ret (results_frac rfl _ _ _ _ _ _ _ _ rfl (QZ.out.put5 _ _ _ _ _)) rfl ?_
    exact ⟨oa, la, ca, ob, lb, cb, rfl, FIN.out.1.1.put5 FIN.out.1.2 hG3 _ _ _ _ _, FIN.out.2.1.1.put5 FIN.out.2.1.2 hG3 _ _ _ _ _, below_put5 HBL.out hG2 _ _ _ _ _⟩)

end Go.Proofs.YtpiloigpncbccacGreatDoor

namespace Go.Proofs.YtpiloigpncbccacGreatDoor
open Go.RowKit

theorem or_top {a k : Nat} (n : Nat) (hn : n = 2 ^ k) (h : a < n) (hn2 : n < 18446744073709551616) : bits .or .u64 (a : Int) (n : Int) = ((a + n : Nat) : Int) := by
  have h1 := Nat.two_pow_add_eq_or_of_lt (b := a) (i := k) (by rw [← hn]; exact h) 1
  rw [Nat.mul_one, ← hn] at h1
  have h2 := bits_or_u64_nat a n (by omega) hn2
  rw [h2, Nat.or_comm, ← h1, Nat.add_comm]

theorem bitsOf_le (F B I o u : Nat) : bitsOf F B I o u ≤ I := Nat.min_le_right _ _

theorem frac64_any (neg : Bool) (t : ByteArray) (ex : Int) (w : World) (h : DigD (bys t) ex) :
    Calls Tryz.prog 49 #[w64, dcV 0 neg t ex] w (FrPost w 52 11 (-1074) (decV (bys t) * 10 ^ ex.toNat) (10 ^ (-ex).toNat)) := by
  by_cases hn : ex < 0
  · obtain ⟨n, rfl⟩ : ∃ n : Nat, ex = -(n : Int) := ⟨(-ex).toNat, by omega⟩
    rw [show (-(n : Int)).toNat = 0 by omega, show (- -(n : Int)).toNat = n by omega, Nat.pow_zero, Nat.mul_one]
    exact frac64_neg neg t n w h hn
  · obtain ⟨n, rfl⟩ : ∃ n : Nat, ex = (n : Int) := ⟨ex.toNat, by omega⟩
    rw [show (-(n : Int)).toNat = 0 by omega, show ((n : Int)).toNat = n by omega, Nat.pow_zero]
    exact frac64_pos neg t n w h hn

set_option maxHeartbeats 1000000 in
theorem float64_no (c : Int) (neg : Bool) (t : ByteArray) (ex : Int) (w : World) (h : ¬ MayD c neg (bys t) ex) : Calls Tryz.prog 28 #[w64, dcV c neg t ex] w fun e w' => e = .returned (.tuple #[.int .u64 0, .int .i64 40]) ∧ Below w.heap.size w w' := by
  have MY := hide (fun W => may_no c neg t ex W h)
  clear h
  have BLW := hide ((Blk.new w #[.int .i64 52, .int .i64 11, .int .i64 (-1074)] 56).alloc (.cells #[.int .i64 c, .bool neg, .string t, .int .i64 ex] 24))
  have BLD := hide (Blk.newAt (w.alloc (.cells #[.int .i64 52, .int .i64 11, .int .i64 (-1074)] 56)) (w.heap.size + 1) (by simp) #[.int .i64 c, .bool neg, .string t, .int .i64 ex] 24)
  have HB0 : Hid (Below w.heap.size w ((w.alloc (.cells #[.int .i64 52, .int .i64 11, .int .i64 (-1074)] 56)).alloc (.cells #[.int .i64 c, .bool neg, .string t, .int .i64 ex] 24))) := ((Below.refl _ _).alloc (Nat.le_refl _) _).alloc (by simp) _
  go_enter Tryz.func28, Tryz.ntmps28
  go_wp2_with fail
  refine (MY.out _).mono ?_
  rintro e w1 ⟨rfl, hb⟩
  have BW1 := hide (BLW.out.below hb BLW.out.lt)
  have BD1 := hide (BLD.out.below hb BLD.out.lt)
  have HB1 := hide (HB0.out.trans (hb.mono HB0.out.size))
  clear hb BLW BLD HB0
  have x0 : w1.cell? ⟨w.heap.size, 0, none⟩ = some (.int .i64 52) := BW1.out.cell 0
  have x1 : w1.cell? ⟨w.heap.size, 1, none⟩ = some (.int .i64 11) := BW1.out.cell 1
  have x2 : w1.cell? ⟨w.heap.size, 2, none⟩ = some (.int .i64 (-1074)) := BW1.out.cell 2
  have y0 : w1.cell? ⟨w.heap.size + 1, 0, none⟩ = some (.int .i64 c) := BD1.out.cell 0
  have y1 : w1.cell? ⟨w.heap.size + 1, 1, none⟩ = some (.bool neg) := BD1.out.cell 1
  have y2 : w1.cell? ⟨w.heap.size + 1, 2, none⟩ = some (.string t) := BD1.out.cell 2
  have y3 : w1.cell? ⟨w.heap.size + 1, 3, none⟩ = some (.int .i64 ex) := BD1.out.cell 3
  go_wp2
  go_ret2
  exact ⟨rfl, HB1.out⟩

set_option maxHeartbeats 1000000 in
theorem float64_nan (w : World) : Calls Tryz.prog 28 #[w64, dcV 2 false ⟨#[]⟩ 0] w fun e w' => e = .returned (.tuple #[.int .u64 9221120237041090561, .int .i64 0]) ∧ Below w.heap.size w w' := by
  have MY := hide (fun W => may2_yes W)
  have NN := hide (fun W => nnan64 W)
  have BLW := hide ((Blk.new w #[.int .i64 52, .int .i64 11, .int .i64 (-1074)] 56).alloc (.cells #[.int .i64 2, .bool false, .string ⟨#[]⟩, .int .i64 0] 24))
  have BLD := hide (Blk.newAt (w.alloc (.cells #[.int .i64 52, .int .i64 11, .int .i64 (-1074)] 56)) (w.heap.size + 1) (by simp) #[.int .i64 2, .bool false, .string ⟨#[]⟩, .int .i64 0] 24)
  have HB0 : Hid (Below w.heap.size w ((w.alloc (.cells #[.int .i64 52, .int .i64 11, .int .i64 (-1074)] 56)).alloc (.cells #[.int .i64 2, .bool false, .string ⟨#[]⟩, .int .i64 0] 24))) := ((Below.refl _ _).alloc (Nat.le_refl _) _).alloc (by simp) _
  go_enter Tryz.func28, Tryz.ntmps28
  go_wp2_with fail
  refine (MY.out _).mono ?_
  rintro e w1 ⟨rfl, hb⟩
  have BW1 := hide (BLW.out.below hb BLW.out.lt)
  have BD1 := hide (BLD.out.below hb BLD.out.lt)
  have HB1 := hide (HB0.out.trans (hb.mono HB0.out.size))
  clear hb BLW BLD HB0
  have x0 : w1.cell? ⟨w.heap.size, 0, none⟩ = some (.int .i64 52) := BW1.out.cell 0
  have x1 : w1.cell? ⟨w.heap.size, 1, none⟩ = some (.int .i64 11) := BW1.out.cell 1
  have x2 : w1.cell? ⟨w.heap.size, 2, none⟩ = some (.int .i64 (-1074)) := BW1.out.cell 2
  have y0 : w1.cell? ⟨w.heap.size + 1, 0, none⟩ = some (.int .i64 2) := BD1.out.cell 0
  have y1 : w1.cell? ⟨w.heap.size + 1, 1, none⟩ = some (.bool false) := BD1.out.cell 1
  have y2 : w1.cell? ⟨w.heap.size + 1, 2, none⟩ = some (.string ⟨#[]⟩) := BD1.out.cell 2
  have y3 : w1.cell? ⟨w.heap.size + 1, 3, none⟩ = some (.int .i64 0) := BD1.out.cell 3
  go_wp2_with fail
  refine (NN.out _).mono ?_
  rintro e w2 ⟨rfl, hb⟩
  have BW2 := hide (BW1.out.below hb BW1.out.lt)
  have BD2 := hide (BD1.out.below hb BD1.out.lt)
  have HB2 := hide (HB1.out.trans (hb.mono HB1.out.size))
  clear hb BW1 BD1 HB1 x0 x1 x2 y0 y1 y2 y3
  have x0 : w2.cell? ⟨w.heap.size, 0, none⟩ = some (.int .i64 52) := BW2.out.cell 0
  have x1 : w2.cell? ⟨w.heap.size, 1, none⟩ = some (.int .i64 11) := BW2.out.cell 1
  have x2 : w2.cell? ⟨w.heap.size, 2, none⟩ = some (.int .i64 (-1074)) := BW2.out.cell 2
  have y0 : w2.cell? ⟨w.heap.size + 1, 0, none⟩ = some (.int .i64 2) := BD2.out.cell 0
  have y1 : w2.cell? ⟨w.heap.size + 1, 1, none⟩ = some (.bool false) := BD2.out.cell 1
  have y2 : w2.cell? ⟨w.heap.size + 1, 2, none⟩ = some (.string ⟨#[]⟩) := BD2.out.cell 2
  have y3 : w2.cell? ⟨w.heap.size + 1, 3, none⟩ = some (.int .i64 0) := BD2.out.cell 3
  go_wp2
  go_ret2
  exact ⟨rfl, HB2.out⟩

set_option maxHeartbeats 1000000 in
theorem float64_inf_false (w : World) : Calls Tryz.prog 28 #[w64, dcV 1 false ⟨#[]⟩ 0] w fun e w' => e = .returned (.tuple #[.int .u64 9218868437227405312, .int .i64 0]) ∧ Below w.heap.size w w' := by
  have MY := hide (fun W => may1_yes false W)
  have IN := hide (fun W => ninf64 W)
  have BLW := hide ((Blk.new w #[.int .i64 52, .int .i64 11, .int .i64 (-1074)] 56).alloc (.cells #[.int .i64 1, .bool false, .string ⟨#[]⟩, .int .i64 0] 24))
  have BLD := hide (Blk.newAt (w.alloc (.cells #[.int .i64 52, .int .i64 11, .int .i64 (-1074)] 56)) (w.heap.size + 1) (by simp) #[.int .i64 1, .bool false, .string ⟨#[]⟩, .int .i64 0] 24)
  have HB0 : Hid (Below w.heap.size w ((w.alloc (.cells #[.int .i64 52, .int .i64 11, .int .i64 (-1074)] 56)).alloc (.cells #[.int .i64 1, .bool false, .string ⟨#[]⟩, .int .i64 0] 24))) := ((Below.refl _ _).alloc (Nat.le_refl _) _).alloc (by simp) _
  go_enter Tryz.func28, Tryz.ntmps28
  go_wp2_with fail
  refine (MY.out _).mono ?_
  rintro e w1 ⟨rfl, hb⟩
  have BW1 := hide (BLW.out.below hb BLW.out.lt)
  have BD1 := hide (BLD.out.below hb BLD.out.lt)
  have HB1 := hide (HB0.out.trans (hb.mono HB0.out.size))
  clear hb BLW BLD HB0
  have x0 : w1.cell? ⟨w.heap.size, 0, none⟩ = some (.int .i64 52) := BW1.out.cell 0
  have x1 : w1.cell? ⟨w.heap.size, 1, none⟩ = some (.int .i64 11) := BW1.out.cell 1
  have x2 : w1.cell? ⟨w.heap.size, 2, none⟩ = some (.int .i64 (-1074)) := BW1.out.cell 2
  have y0 : w1.cell? ⟨w.heap.size + 1, 0, none⟩ = some (.int .i64 1) := BD1.out.cell 0
  have y1 : w1.cell? ⟨w.heap.size + 1, 1, none⟩ = some (.bool false) := BD1.out.cell 1
  have y2 : w1.cell? ⟨w.heap.size + 1, 2, none⟩ = some (.string ⟨#[]⟩) := BD1.out.cell 2
  have y3 : w1.cell? ⟨w.heap.size + 1, 3, none⟩ = some (.int .i64 0) := BD1.out.cell 3
  go_wp2_with fail
  refine (IN.out _).mono ?_
  rintro e w2 ⟨rfl, hb⟩
  have BW2 := hide (BW1.out.below hb BW1.out.lt)
  have BD2 := hide (BD1.out.below hb BD1.out.lt)
  have HB2 := hide (HB1.out.trans (hb.mono HB1.out.size))
  clear hb BW1 BD1 HB1 x0 x1 x2 y0 y1 y2 y3
  have x0 : w2.cell? ⟨w.heap.size, 0, none⟩ = some (.int .i64 52) := BW2.out.cell 0
  have x1 : w2.cell? ⟨w.heap.size, 1, none⟩ = some (.int .i64 11) := BW2.out.cell 1
  have x2 : w2.cell? ⟨w.heap.size, 2, none⟩ = some (.int .i64 (-1074)) := BW2.out.cell 2
  have y0 : w2.cell? ⟨w.heap.size + 1, 0, none⟩ = some (.int .i64 1) := BD2.out.cell 0
  have y1 : w2.cell? ⟨w.heap.size + 1, 1, none⟩ = some (.bool false) := BD2.out.cell 1
  have y2 : w2.cell? ⟨w.heap.size + 1, 2, none⟩ = some (.string ⟨#[]⟩) := BD2.out.cell 2
  have y3 : w2.cell? ⟨w.heap.size + 1, 3, none⟩ = some (.int .i64 0) := BD2.out.cell 3
  go_wp2
  go_ret2
  exact ⟨rfl, HB2.out⟩

set_option maxHeartbeats 1000000 in
theorem float64_zero_false (w : World) : Calls Tryz.prog 28 #[w64, dcV 0 false ⟨#[]⟩ 0] w fun e w' => e = .returned (.tuple #[.int .u64 0, .int .i64 0]) ∧ Below w.heap.size w w' := by
  have MY := hide (fun W => may0_bare false W)
  have BLW := hide ((Blk.new w #[.int .i64 52, .int .i64 11, .int .i64 (-1074)] 56).alloc (.cells #[.int .i64 0, .bool false, .string ⟨#[]⟩, .int .i64 0] 24))
  have BLD := hide (Blk.newAt (w.alloc (.cells #[.int .i64 52, .int .i64 11, .int .i64 (-1074)] 56)) (w.heap.size + 1) (by simp) #[.int .i64 0, .bool false, .string ⟨#[]⟩, .int .i64 0] 24)
  have HB0 : Hid (Below w.heap.size w ((w.alloc (.cells #[.int .i64 52, .int .i64 11, .int .i64 (-1074)] 56)).alloc (.cells #[.int .i64 0, .bool false, .string ⟨#[]⟩, .int .i64 0] 24))) := ((Below.refl _ _).alloc (Nat.le_refl _) _).alloc (by simp) _
  go_enter Tryz.func28, Tryz.ntmps28
  go_wp2_with fail
  refine (MY.out _).mono ?_
  rintro e w1 ⟨rfl, hb⟩
  have BW1 := hide (BLW.out.below hb BLW.out.lt)
  have BD1 := hide (BLD.out.below hb BLD.out.lt)
  have HB1 := hide (HB0.out.trans (hb.mono HB0.out.size))
  clear hb BLW BLD HB0
  have x0 : w1.cell? ⟨w.heap.size, 0, none⟩ = some (.int .i64 52) := BW1.out.cell 0
  have x1 : w1.cell? ⟨w.heap.size, 1, none⟩ = some (.int .i64 11) := BW1.out.cell 1
  have x2 : w1.cell? ⟨w.heap.size, 2, none⟩ = some (.int .i64 (-1074)) := BW1.out.cell 2
  have y0 : w1.cell? ⟨w.heap.size + 1, 0, none⟩ = some (.int .i64 0) := BD1.out.cell 0
  have y1 : w1.cell? ⟨w.heap.size + 1, 1, none⟩ = some (.bool false) := BD1.out.cell 1
  have y2 : w1.cell? ⟨w.heap.size + 1, 2, none⟩ = some (.string ⟨#[]⟩) := BD1.out.cell 2
  have y3 : w1.cell? ⟨w.heap.size + 1, 3, none⟩ = some (.int .i64 0) := BD1.out.cell 3
  go_wp2
  go_ret2
  exact ⟨rfl, HB1.out⟩

set_option maxHeartbeats 1000000 in
theorem float64_fin_false (t : ByteArray) (ex : Int) (w : World) (h : DigD (bys t) ex) : Calls Tryz.prog 28 #[w64, dcV 0 false t ex] w fun e w' => e = .returned (.tuple #[.int .u64 ((bitsOf 52 1074 (infN 52 11) (decV (bys t) * 10 ^ ex.toNat) (10 ^ (-ex).toNat)) : Int), .int .i64 0]) ∧ Below w.heap.size w w' := by
  have NS := Nums.of h
  have hne : t.size ≠ 0 := fun e => h.1 (bys_nil.2 e)
  have MY := hide (fun W => may0_yes false t ex W (fun e => hne e.1) h)
  have FR := hide (fun W => frac64_any false t ex W h)
  obtain ⟨o, ho⟩ : ∃ o, o = decV (bys t) * 10 ^ ex.toNat := ⟨_, rfl⟩
  obtain ⟨u, hu⟩ : ∃ u, u = 10 ^ (-ex).toNat := ⟨_, rfl⟩
  rw [← ho, ← hu] at NS FR ⊢
  have NR := hide (fun oo lo co ou lu cu W a1 a2 => near64_any oo ou lo co lu cu o u W a1 a2 NS.fo NS.fu NS.o0 NS.u0)
  obtain ⟨r, hr⟩ : ∃ r, r = bitsOf 52 1074 (infN 52 11) o u := ⟨_, rfl⟩
  have hrl : r ≤ 9218868437227405312 := by rw [hr, ← inf64]; exact bitsOf_le _ _ _ _ _
  rw [← hr] at NR ⊢
  have ht := toList_ne hne
  clear h NS hne ho hu hr
  have BLW := hide ((Blk.new w #[.int .i64 52, .int .i64 11, .int .i64 (-1074)] 56).alloc (.cells #[.int .i64 0, .bool false, .string t, .int .i64 ex] 24))
  have BLD := hide (Blk.newAt (w.alloc (.cells #[.int .i64 52, .int .i64 11, .int .i64 (-1074)] 56)) (w.heap.size + 1) (by simp) #[.int .i64 0, .bool false, .string t, .int .i64 ex] 24)
  have HB0 : Hid (Below w.heap.size w ((w.alloc (.cells #[.int .i64 52, .int .i64 11, .int .i64 (-1074)] 56)).alloc (.cells #[.int .i64 0, .bool false, .string t, .int .i64 ex] 24))) := ((Below.refl _ _).alloc (Nat.le_refl _) _).alloc (by simp) _
  go_enter Tryz.func28, Tryz.ntmps28
  go_wp2_with fail
  refine (MY.out _).mono ?_
  rintro e w1 ⟨rfl, hb⟩
  have BW1 := hide (BLW.out.below hb BLW.out.lt)
  have BD1 := hide (BLD.out.below hb BLD.out.lt)
  have HB1 := hide (HB0.out.trans (hb.mono HB0.out.size))
  clear hb BLW BLD HB0
  have x0 : w1.cell? ⟨w.heap.size, 0, none⟩ = some (.int .i64 52) := BW1.out.cell 0
  have x1 : w1.cell? ⟨w.heap.size, 1, none⟩ = some (.int .i64 11) := BW1.out.cell 1
  have x2 : w1.cell? ⟨w.heap.size, 2, none⟩ = some (.int .i64 (-1074)) := BW1.out.cell 2
  have y0 : w1.cell? ⟨w.heap.size + 1, 0, none⟩ = some (.int .i64 0) := BD1.out.cell 0
  have y1 : w1.cell? ⟨w.heap.size + 1, 1, none⟩ = some (.bool false) := BD1.out.cell 1
  have y2 : w1.cell? ⟨w.heap.size + 1, 2, none⟩ = some (.string t) := BD1.out.cell 2
  have y3 : w1.cell? ⟨w.heap.size + 1, 3, none⟩ = some (.int .i64 ex) := BD1.out.cell 3
  go_wp2_with fail
  refine (FR.out _).mono ?_
  rintro e w2 ⟨oo, lo, co, ou, lu, cu, rfl, no, nu, hb⟩
  have BW2 := hide (BW1.out.below hb BW1.out.lt)
  have BD2 := hide (BD1.out.below hb BD1.out.lt)
  have HB2 := hide (HB1.out.trans (hb.mono HB1.out.size))
  have NO := hide no
  have NU := hide nu
  clear no nu
  clear hb BW1 BD1 HB1 x0 x1 x2 y0 y1 y2 y3
  have x0 : w2.cell? ⟨w.heap.size, 0, none⟩ = some (.int .i64 52) := BW2.out.cell 0
  have x1 : w2.cell? ⟨w.heap.size, 1, none⟩ = some (.int .i64 11) := BW2.out.cell 1
  have x2 : w2.cell? ⟨w.heap.size, 2, none⟩ = some (.int .i64 (-1074)) := BW2.out.cell 2
  have y0 : w2.cell? ⟨w.heap.size + 1, 0, none⟩ = some (.int .i64 0) := BD2.out.cell 0
  have y1 : w2.cell? ⟨w.heap.size + 1, 1, none⟩ = some (.bool false) := BD2.out.cell 1
  have y2 : w2.cell? ⟨w.heap.size + 1, 2, none⟩ = some (.string t) := BD2.out.cell 2
  have y3 : w2.cell? ⟨w.heap.size + 1, 3, none⟩ = some (.int .i64 ex) := BD2.out.cell 3
  go_wp2_with fail
  refine (NR.out _ _ _ _ _ _ _ NO.out NU.out).mono ?_
  rintro e w3 ⟨rfl, hb⟩
  have BW3 := hide (BW2.out.below hb BW2.out.lt)
  have BD3 := hide (BD2.out.below hb BD2.out.lt)
  have HB3 := hide (HB2.out.trans (hb.mono HB2.out.size))
  clear hb BW2 BD2 HB2 x0 x1 x2 y0 y1 y2 y3
  have x0 : w3.cell? ⟨w.heap.size, 0, none⟩ = some (.int .i64 52) := BW3.out.cell 0
  have x1 : w3.cell? ⟨w.heap.size, 1, none⟩ = some (.int .i64 11) := BW3.out.cell 1
  have x2 : w3.cell? ⟨w.heap.size, 2, none⟩ = some (.int .i64 (-1074)) := BW3.out.cell 2
  have y0 : w3.cell? ⟨w.heap.size + 1, 0, none⟩ = some (.int .i64 0) := BD3.out.cell 0
  have y1 : w3.cell? ⟨w.heap.size + 1, 1, none⟩ = some (.bool false) := BD3.out.cell 1
  have y2 : w3.cell? ⟨w.heap.size + 1, 2, none⟩ = some (.string t) := BD3.out.cell 2
  have y3 : w3.cell? ⟨w.heap.size + 1, 3, none⟩ = some (.int .i64 ex) := BD3.out.cell 3
  go_wp2
  go_ret2
  exact ⟨rfl, HB3.out⟩

set_option maxHeartbeats 1000000 in
theorem float64_inf_true (w : World) : Calls Tryz.prog 28 #[w64, dcV 1 true ⟨#[]⟩ 0] w fun e w' => e = .returned (.tuple #[.int .u64 18442240474082181120, .int .i64 0]) ∧ Below w.heap.size w w' := by
  have MY := hide (fun W => may1_yes true W)
  have IN := hide (fun W => ninf64 W)
  have SGN := hide (fun W => nsign64 W)
  have OR := hide (show bits .or .u64 9218868437227405312 9223372036854775808 = 18442240474082181120 by decide +kernel)
  have BLW := hide ((Blk.new w #[.int .i64 52, .int .i64 11, .int .i64 (-1074)] 56).alloc (.cells #[.int .i64 1, .bool true, .string ⟨#[]⟩, .int .i64 0] 24))
  have BLD := hide (Blk.newAt (w.alloc (.cells #[.int .i64 52, .int .i64 11, .int .i64 (-1074)] 56)) (w.heap.size + 1) (by simp) #[.int .i64 1, .bool true, .string ⟨#[]⟩, .int .i64 0] 24)
  have HB0 : Hid (Below w.heap.size w ((w.alloc (.cells #[.int .i64 52, .int .i64 11, .int .i64 (-1074)] 56)).alloc (.cells #[.int .i64 1, .bool true, .string ⟨#[]⟩, .int .i64 0] 24))) := ((Below.refl _ _).alloc (Nat.le_refl _) _).alloc (by simp) _
  go_enter Tryz.func28, Tryz.ntmps28
  go_wp2_with fail
  refine (MY.out _).mono ?_
  rintro e w1 ⟨rfl, hb⟩
  have BW1 := hide (BLW.out.below hb BLW.out.lt)
  have BD1 := hide (BLD.out.below hb BLD.out.lt)
  have HB1 := hide (HB0.out.trans (hb.mono HB0.out.size))
  clear hb BLW BLD HB0
  have x0 : w1.cell? ⟨w.heap.size, 0, none⟩ = some (.int .i64 52) := BW1.out.cell 0
  have x1 : w1.cell? ⟨w.heap.size, 1, none⟩ = some (.int .i64 11) := BW1.out.cell 1
  have x2 : w1.cell? ⟨w.heap.size, 2, none⟩ = some (.int .i64 (-1074)) := BW1.out.cell 2
  have y0 : w1.cell? ⟨w.heap.size + 1, 0, none⟩ = some (.int .i64 1) := BD1.out.cell 0
  have y1 : w1.cell? ⟨w.heap.size + 1, 1, none⟩ = some (.bool true) := BD1.out.cell 1
  have y2 : w1.cell? ⟨w.heap.size + 1, 2, none⟩ = some (.string ⟨#[]⟩) := BD1.out.cell 2
  have y3 : w1.cell? ⟨w.heap.size + 1, 3, none⟩ = some (.int .i64 0) := BD1.out.cell 3
  go_wp2_with fail
  refine (IN.out _).mono ?_
  rintro e w2 ⟨rfl, hb⟩
  have BW2 := hide (BW1.out.below hb BW1.out.lt)
  have BD2 := hide (BD1.out.below hb BD1.out.lt)
  have HB2 := hide (HB1.out.trans (hb.mono HB1.out.size))
  clear hb BW1 BD1 HB1 x0 x1 x2 y0 y1 y2 y3
  have x0 : w2.cell? ⟨w.heap.size, 0, none⟩ = some (.int .i64 52) := BW2.out.cell 0
  have x1 : w2.cell? ⟨w.heap.size, 1, none⟩ = some (.int .i64 11) := BW2.out.cell 1
  have x2 : w2.cell? ⟨w.heap.size, 2, none⟩ = some (.int .i64 (-1074)) := BW2.out.cell 2
  have y0 : w2.cell? ⟨w.heap.size + 1, 0, none⟩ = some (.int .i64 1) := BD2.out.cell 0
  have y1 : w2.cell? ⟨w.heap.size + 1, 1, none⟩ = some (.bool true) := BD2.out.cell 1
  have y2 : w2.cell? ⟨w.heap.size + 1, 2, none⟩ = some (.string ⟨#[]⟩) := BD2.out.cell 2
  have y3 : w2.cell? ⟨w.heap.size + 1, 3, none⟩ = some (.int .i64 0) := BD2.out.cell 3
  go_wp2_with fail
  refine (SGN.out _).mono ?_
  rintro e w3 ⟨rfl, hb⟩
  have BW3 := hide (BW2.out.below hb BW2.out.lt)
  have BD3 := hide (BD2.out.below hb BD2.out.lt)
  have HB3 := hide (HB2.out.trans (hb.mono HB2.out.size))
  clear hb BW2 BD2 HB2 x0 x1 x2 y0 y1 y2 y3
  have x0 : w3.cell? ⟨w.heap.size, 0, none⟩ = some (.int .i64 52) := BW3.out.cell 0
  have x1 : w3.cell? ⟨w.heap.size, 1, none⟩ = some (.int .i64 11) := BW3.out.cell 1
  have x2 : w3.cell? ⟨w.heap.size, 2, none⟩ = some (.int .i64 (-1074)) := BW3.out.cell 2
  have y0 : w3.cell? ⟨w.heap.size + 1, 0, none⟩ = some (.int .i64 1) := BD3.out.cell 0
  have y1 : w3.cell? ⟨w.heap.size + 1, 1, none⟩ = some (.bool true) := BD3.out.cell 1
  have y2 : w3.cell? ⟨w.heap.size + 1, 2, none⟩ = some (.string ⟨#[]⟩) := BD3.out.cell 2
  have y3 : w3.cell? ⟨w.heap.size + 1, 3, none⟩ = some (.int .i64 0) := BD3.out.cell 3
  go_wp2
  go_ret2
  refine ⟨?_, HB3.out⟩
  rw [← OR.out]
  rfl

set_option maxHeartbeats 1000000 in
theorem float64_zero_true (w : World) : Calls Tryz.prog 28 #[w64, dcV 0 true ⟨#[]⟩ 0] w fun e w' => e = .returned (.tuple #[.int .u64 9223372036854775808, .int .i64 0]) ∧ Below w.heap.size w w' := by
  have MY := hide (fun W => may0_bare true W)
  have SGN := hide (fun W => nsign64 W)
  have OR := hide (show bits .or .u64 0 9223372036854775808 = 9223372036854775808 by decide +kernel)
  have BLW := hide ((Blk.new w #[.int .i64 52, .int .i64 11, .int .i64 (-1074)] 56).alloc (.cells #[.int .i64 0, .bool true, .string ⟨#[]⟩, .int .i64 0] 24))
  have BLD := hide (Blk.newAt (w.alloc (.cells #[.int .i64 52, .int .i64 11, .int .i64 (-1074)] 56)) (w.heap.size + 1) (by simp) #[.int .i64 0, .bool true, .string ⟨#[]⟩, .int .i64 0] 24)
  have HB0 : Hid (Below w.heap.size w ((w.alloc (.cells #[.int .i64 52, .int .i64 11, .int .i64 (-1074)] 56)).alloc (.cells #[.int .i64 0, .bool true, .string ⟨#[]⟩, .int .i64 0] 24))) := ((Below.refl _ _).alloc (Nat.le_refl _) _).alloc (by simp) _
  go_enter Tryz.func28, Tryz.ntmps28
  go_wp2_with fail
  refine (MY.out _).mono ?_
  rintro e w1 ⟨rfl, hb⟩
  have BW1 := hide (BLW.out.below hb BLW.out.lt)
  have BD1 := hide (BLD.out.below hb BLD.out.lt)
  have HB1 := hide (HB0.out.trans (hb.mono HB0.out.size))
  clear hb BLW BLD HB0
  have x0 : w1.cell? ⟨w.heap.size, 0, none⟩ = some (.int .i64 52) := BW1.out.cell 0
  have x1 : w1.cell? ⟨w.heap.size, 1, none⟩ = some (.int .i64 11) := BW1.out.cell 1
  have x2 : w1.cell? ⟨w.heap.size, 2, none⟩ = some (.int .i64 (-1074)) := BW1.out.cell 2
  have y0 : w1.cell? ⟨w.heap.size + 1, 0, none⟩ = some (.int .i64 0) := BD1.out.cell 0
  have y1 : w1.cell? ⟨w.heap.size + 1, 1, none⟩ = some (.bool true) := BD1.out.cell 1
  have y2 : w1.cell? ⟨w.heap.size + 1, 2, none⟩ = some (.string ⟨#[]⟩) := BD1.out.cell 2
  have y3 : w1.cell? ⟨w.heap.size + 1, 3, none⟩ = some (.int .i64 0) := BD1.out.cell 3
  go_wp2_with fail
  refine (SGN.out _).mono ?_
  rintro e w2 ⟨rfl, hb⟩
  have BW2 := hide (BW1.out.below hb BW1.out.lt)
  have BD2 := hide (BD1.out.below hb BD1.out.lt)
  have HB2 := hide (HB1.out.trans (hb.mono HB1.out.size))
  clear hb BW1 BD1 HB1 x0 x1 x2 y0 y1 y2 y3
  have x0 : w2.cell? ⟨w.heap.size, 0, none⟩ = some (.int .i64 52) := BW2.out.cell 0
  have x1 : w2.cell? ⟨w.heap.size, 1, none⟩ = some (.int .i64 11) := BW2.out.cell 1
  have x2 : w2.cell? ⟨w.heap.size, 2, none⟩ = some (.int .i64 (-1074)) := BW2.out.cell 2
  have y0 : w2.cell? ⟨w.heap.size + 1, 0, none⟩ = some (.int .i64 0) := BD2.out.cell 0
  have y1 : w2.cell? ⟨w.heap.size + 1, 1, none⟩ = some (.bool true) := BD2.out.cell 1
  have y2 : w2.cell? ⟨w.heap.size + 1, 2, none⟩ = some (.string ⟨#[]⟩) := BD2.out.cell 2
  have y3 : w2.cell? ⟨w.heap.size + 1, 3, none⟩ = some (.int .i64 0) := BD2.out.cell 3
  go_wp2
  go_ret2
  refine ⟨?_, HB2.out⟩
  rw [← OR.out]
  rfl

set_option maxHeartbeats 1000000 in
theorem float64_fin_true (t : ByteArray) (ex : Int) (w : World) (h : DigD (bys t) ex) : Calls Tryz.prog 28 #[w64, dcV 0 true t ex] w fun e w' => e = .returned (.tuple #[.int .u64 (((bitsOf 52 1074 (infN 52 11) (decV (bys t) * 10 ^ ex.toNat) (10 ^ (-ex).toNat)) + 9223372036854775808 : Nat) : Int), .int .i64 0]) ∧ Below w.heap.size w w' := by
  have NS := Nums.of h
  have hne : t.size ≠ 0 := fun e => h.1 (bys_nil.2 e)
  have MY := hide (fun W => may0_yes true t ex W (fun e => hne e.1) h)
  have FR := hide (fun W => frac64_any true t ex W h)
  obtain ⟨o, ho⟩ : ∃ o, o = decV (bys t) * 10 ^ ex.toNat := ⟨_, rfl⟩
  obtain ⟨u, hu⟩ : ∃ u, u = 10 ^ (-ex).toNat := ⟨_, rfl⟩
  rw [← ho, ← hu] at NS FR ⊢
  have NR := hide (fun oo lo co ou lu cu W a1 a2 => near64_any oo ou lo co lu cu o u W a1 a2 NS.fo NS.fu NS.o0 NS.u0)
  obtain ⟨r, hr⟩ : ∃ r, r = bitsOf 52 1074 (infN 52 11) o u := ⟨_, rfl⟩
  have hrl : r ≤ 9218868437227405312 := by rw [hr, ← inf64]; exact bitsOf_le _ _ _ _ _
  rw [← hr] at NR ⊢
  have OR : Hid (bits .or .u64 (r : Int) 9223372036854775808 = ((r + 9223372036854775808 : Nat) : Int)) := or_top (k := 63) 9223372036854775808 (by decide) (by omega) (by omega)
  have SGN := hide (fun W => nsign64 W)
  have ht := toList_ne hne
  clear h NS hne ho hu hr
  have BLW := hide ((Blk.new w #[.int .i64 52, .int .i64 11, .int .i64 (-1074)] 56).alloc (.cells #[.int .i64 0, .bool true, .string t, .int .i64 ex] 24))
  have BLD := hide (Blk.newAt (w.alloc (.cells #[.int .i64 52, .int .i64 11, .int .i64 (-1074)] 56)) (w.heap.size + 1) (by simp) #[.int .i64 0, .bool true, .string t, .int .i64 ex] 24)
  have HB0 : Hid (Below w.heap.size w ((w.alloc (.cells #[.int .i64 52, .int .i64 11, .int .i64 (-1074)] 56)).alloc (.cells #[.int .i64 0, .bool true, .string t, .int .i64 ex] 24))) := ((Below.refl _ _).alloc (Nat.le_refl _) _).alloc (by simp) _
  go_enter Tryz.func28, Tryz.ntmps28
  go_wp2_with fail
  refine (MY.out _).mono ?_
  rintro e w1 ⟨rfl, hb⟩
  have BW1 := hide (BLW.out.below hb BLW.out.lt)
  have BD1 := hide (BLD.out.below hb BLD.out.lt)
  have HB1 := hide (HB0.out.trans (hb.mono HB0.out.size))
  clear hb BLW BLD HB0
  have x0 : w1.cell? ⟨w.heap.size, 0, none⟩ = some (.int .i64 52) := BW1.out.cell 0
  have x1 : w1.cell? ⟨w.heap.size, 1, none⟩ = some (.int .i64 11) := BW1.out.cell 1
  have x2 : w1.cell? ⟨w.heap.size, 2, none⟩ = some (.int .i64 (-1074)) := BW1.out.cell 2
  have y0 : w1.cell? ⟨w.heap.size + 1, 0, none⟩ = some (.int .i64 0) := BD1.out.cell 0
  have y1 : w1.cell? ⟨w.heap.size + 1, 1, none⟩ = some (.bool true) := BD1.out.cell 1
  have y2 : w1.cell? ⟨w.heap.size + 1, 2, none⟩ = some (.string t) := BD1.out.cell 2
  have y3 : w1.cell? ⟨w.heap.size + 1, 3, none⟩ = some (.int .i64 ex) := BD1.out.cell 3
  go_wp2_with fail
  refine (FR.out _).mono ?_
  rintro e w2 ⟨oo, lo, co, ou, lu, cu, rfl, no, nu, hb⟩
  have BW2 := hide (BW1.out.below hb BW1.out.lt)
  have BD2 := hide (BD1.out.below hb BD1.out.lt)
  have HB2 := hide (HB1.out.trans (hb.mono HB1.out.size))
  have NO := hide no
  have NU := hide nu
  clear no nu
  clear hb BW1 BD1 HB1 x0 x1 x2 y0 y1 y2 y3
  have x0 : w2.cell? ⟨w.heap.size, 0, none⟩ = some (.int .i64 52) := BW2.out.cell 0
  have x1 : w2.cell? ⟨w.heap.size, 1, none⟩ = some (.int .i64 11) := BW2.out.cell 1
  have x2 : w2.cell? ⟨w.heap.size, 2, none⟩ = some (.int .i64 (-1074)) := BW2.out.cell 2
  have y0 : w2.cell? ⟨w.heap.size + 1, 0, none⟩ = some (.int .i64 0) := BD2.out.cell 0
  have y1 : w2.cell? ⟨w.heap.size + 1, 1, none⟩ = some (.bool true) := BD2.out.cell 1
  have y2 : w2.cell? ⟨w.heap.size + 1, 2, none⟩ = some (.string t) := BD2.out.cell 2
  have y3 : w2.cell? ⟨w.heap.size + 1, 3, none⟩ = some (.int .i64 ex) := BD2.out.cell 3
  go_wp2_with fail
  refine (NR.out _ _ _ _ _ _ _ NO.out NU.out).mono ?_
  rintro e w3 ⟨rfl, hb⟩
  have BW3 := hide (BW2.out.below hb BW2.out.lt)
  have BD3 := hide (BD2.out.below hb BD2.out.lt)
  have HB3 := hide (HB2.out.trans (hb.mono HB2.out.size))
  clear hb BW2 BD2 HB2 x0 x1 x2 y0 y1 y2 y3
  have x0 : w3.cell? ⟨w.heap.size, 0, none⟩ = some (.int .i64 52) := BW3.out.cell 0
  have x1 : w3.cell? ⟨w.heap.size, 1, none⟩ = some (.int .i64 11) := BW3.out.cell 1
  have x2 : w3.cell? ⟨w.heap.size, 2, none⟩ = some (.int .i64 (-1074)) := BW3.out.cell 2
  have y0 : w3.cell? ⟨w.heap.size + 1, 0, none⟩ = some (.int .i64 0) := BD3.out.cell 0
  have y1 : w3.cell? ⟨w.heap.size + 1, 1, none⟩ = some (.bool true) := BD3.out.cell 1
  have y2 : w3.cell? ⟨w.heap.size + 1, 2, none⟩ = some (.string t) := BD3.out.cell 2
  have y3 : w3.cell? ⟨w.heap.size + 1, 3, none⟩ = some (.int .i64 ex) := BD3.out.cell 3
  go_wp2_with fail
  refine (SGN.out _).mono ?_
  rintro e w4 ⟨rfl, hb⟩
  have BW4 := hide (BW3.out.below hb BW3.out.lt)
  have BD4 := hide (BD3.out.below hb BD3.out.lt)
  have HB4 := hide (HB3.out.trans (hb.mono HB3.out.size))
  clear hb BW3 BD3 HB3 x0 x1 x2 y0 y1 y2 y3
  have x0 : w4.cell? ⟨w.heap.size, 0, none⟩ = some (.int .i64 52) := BW4.out.cell 0
  have x1 : w4.cell? ⟨w.heap.size, 1, none⟩ = some (.int .i64 11) := BW4.out.cell 1
  have x2 : w4.cell? ⟨w.heap.size, 2, none⟩ = some (.int .i64 (-1074)) := BW4.out.cell 2
  have y0 : w4.cell? ⟨w.heap.size + 1, 0, none⟩ = some (.int .i64 0) := BD4.out.cell 0
  have y1 : w4.cell? ⟨w.heap.size + 1, 1, none⟩ = some (.bool true) := BD4.out.cell 1
  have y2 : w4.cell? ⟨w.heap.size + 1, 2, none⟩ = some (.string t) := BD4.out.cell 2
  have y3 : w4.cell? ⟨w.heap.size + 1, 3, none⟩ = some (.int .i64 ex) := BD4.out.cell 3
  go_wp2
  go_ret2
  refine ⟨?_, HB4.out⟩
  rw [← OR.out]
  rfl

theorem sig64_f : sigN 52 11 false = 0 := rfl
theorem sig64_t : sigN 52 11 true = 9223372036854775808 := by decide

/-- A Dec that may be: its float's bits. -/
theorem float64_yes (c : Int) (neg : Bool) (t : ByteArray) (ex : Int) (w : World) (h : MayD c neg (bys t) ex) : Calls Tryz.prog 28 #[w64, dcV c neg t ex] w fun e w' => e = .returned (.tuple #[.int .u64 ((toD 52 11 1074 ⟨c.toNat, neg, bys t, ex⟩ : Nat) : Int), .int .i64 0]) ∧ Below w.heap.size w w' := by
  have h' := h
  rcases h with ⟨rfl, _⟩ | ⟨rfl, h1, rfl⟩ | ⟨rfl, rfl, h1, rfl⟩
  · rcases (mayD_0 neg t ex).1 h' with h1 | h1
    · obtain ⟨h1, rfl⟩ := h1
      rw [size_nil h1]
      have hd : toD 52 11 1074 ⟨(0 : Int).toNat, neg, bys ⟨#[]⟩, 0⟩ = sigN 52 11 neg := by
        unfold toD
        rw [if_neg (by simp), if_neg (by simp), if_pos (by simp [bys])]
      rw [hd]
      cases neg with
      | false =>
        rw [sig64_f]
        exact float64_zero_false w
      | true =>
        rw [sig64_t]
        exact float64_zero_true w
    · have hd : toD 52 11 1074 ⟨(0 : Int).toNat, neg, bys t, ex⟩ = bitsOf 52 1074 (infN 52 11) (decV (bys t) * 10 ^ ex.toNat) (10 ^ (-ex).toNat) + sigN 52 11 neg := by
        unfold toD
        rw [if_neg (by simp), if_neg (by simp), if_neg h1.1]
        rfl
      rw [hd]
      cases neg with
      | false =>
        rw [sig64_f, Nat.add_zero]
        exact float64_fin_false t ex w h1
      | true =>
        rw [sig64_t]
        exact float64_fin_true t ex w h1
  · rw [size_nil (bys_nil.1 h1)]
    have hd : toD 52 11 1074 ⟨(1 : Int).toNat, neg, bys ⟨#[]⟩, 0⟩ = infN 52 11 + sigN 52 11 neg := by
      unfold toD
      rw [if_neg (by simp), if_pos (by simp)]
    rw [hd, inf64]
    cases neg with
    | false =>
      rw [sig64_f, Nat.add_zero]
      exact float64_inf_false w
    | true =>
      rw [sig64_t, show 9218868437227405312 + 9223372036854775808 = 18442240474082181120 by decide]
      exact float64_inf_true w
  · rw [size_nil (bys_nil.1 h1)]
    have hd : toD 52 11 1074 ⟨(2 : Int).toNat, false, bys ⟨#[]⟩, 0⟩ = 9221120237041090561 := by
      unfold toD
      rw [if_pos (by simp), inf64]
    rw [hd]
    exact float64_nan w

set_option maxRecDepth 100000 in
set_option maxHeartbeats 1000000 in
theorem to64_of (c : Int) (neg : Bool) (t : ByteArray) (ex : Int) (r : Nat) (er : Int) (w : World)
    (FL : ∀ W, Calls Tryz.prog 28 #[w64, dcV c neg t ex] W fun e w' => e = .returned (.tuple #[.int .u64 (r : Int), .int .i64 er]) ∧ Below W.heap.size W w') :
    Calls Tryz.prog 9 #[dcV c neg t ex] w fun e w' => e = .returned (.tuple #[.int .u64 (r : Int), .int .i64 er]) ∧ Below w.heap.size w w' := by
  have FLH := hide FL
  have blk := Blk.new w #[.int .i64 c, .bool neg, .string t, .int .i64 ex] 24
  obtain ⟨W, hW⟩ : ∃ W, W = w.alloc (.cells #[.int .i64 c, .bool neg, .string t, .int .i64 ex] 24) := ⟨_, rfl⟩
  rw [← hW] at blk
  have HBW : Hid (Below w.heap.size w W) := by rw [hW]; exact (Below.refl _ _).alloc (Nat.le_refl _) _
  have BLK := hide blk
  have HW := hide hW
  have c0 : W.cell? ⟨w.heap.size, 0, none⟩ = some (.int .i64 c) := blk.cell 0
  have c1 : W.cell? ⟨w.heap.size, 1, none⟩ = some (.bool neg) := blk.cell 1
  have c2 : W.cell? ⟨w.heap.size, 2, none⟩ = some (.string t) := blk.cell 2
  have c3 : W.cell? ⟨w.heap.size, 3, none⟩ = some (.int .i64 ex) := blk.cell 3
  have b0 : Hid (Below W.heap.size W W.drew) := bdrew' W
  have C1 : Hid (Calls Tryz.prog 27 #[] W.drew fun e w' => e = .returned w64 ∧ Hid (Below W.heap.size W w') ∧ w'.cell? ⟨w.heap.size, 0, none⟩ = some (.int .i64 c) ∧ w'.cell? ⟨w.heap.size, 1, none⟩ = some (.bool neg) ∧ w'.cell? ⟨w.heap.size, 2, none⟩ = some (.string t) ∧ w'.cell? ⟨w.heap.size, 3, none⟩ = some (.int .i64 ex)) := by
    refine (nbinary64_any W.drew).mono ?_
    rintro e w' ⟨rfl, hb⟩
    have hbb := b0.out.trans (hb.mono b0.out.size)
    have q := BLK.out.below hbb BLK.out.lt
    exact ⟨rfl, hbb, q.cell 0, q.cell 1, q.cell 2, q.cell 3⟩
  have C2 : Hid (∀ w1, Hid (Below W.heap.size W w1) → Calls Tryz.prog 28 #[w64, .agg #[.int .i64 c, .bool neg, .string t, .int .i64 ex]] w1 fun e w' => e = .returned (.tuple #[.int .u64 (r : Int), .int .i64 er]) ∧ Hid (Below W.heap.size W w') ∧ w'.cell? ⟨w.heap.size, 0, none⟩ = some (.int .i64 c) ∧ w'.cell? ⟨w.heap.size, 1, none⟩ = some (.bool neg) ∧ w'.cell? ⟨w.heap.size, 2, none⟩ = some (.string t) ∧ w'.cell? ⟨w.heap.size, 3, none⟩ = some (.int .i64 ex)) := by
    intro w1 h1
    refine (FLH.out w1).mono ?_
    rintro e w' ⟨rfl, hb⟩
    have hbb := h1.out.trans (hb.mono h1.out.size)
    have q := BLK.out.below hbb BLK.out.lt
    exact ⟨rfl, hbb, q.cell 0, q.cell 1, q.cell 2, q.cell 3⟩
  clear FL blk hW FLH
  go_enter Tryz.func9, Tryz.ntmps9
  go_wp2_with fail
  simp only [← HW.out]
  have mk0 : True := trivial
  go_region_held3 (fun w' => w'.cell? ⟨w.heap.size, 0, none⟩ = some (.int .i64 c) ∧ w'.cell? ⟨w.heap.size, 1, none⟩ = some (.bool neg) ∧ w'.cell? ⟨w.heap.size, 2, none⟩ = some (.string t) ∧ w'.cell? ⟨w.heap.size, 3, none⟩ = some (.int .i64 ex)) (go_keep) (first
    | (clear mk0; go_at_call 27; refine C1.out.mono ?_; rintro e w1 ⟨rfl, b1, k0, k1, k2, k3⟩; have mk1 : True := trivial)
    | (clear mk1; go_at_call 28; refine (C2.out _ b1).mono ?_; rintro e w2 ⟨rfl, b2, m0, m1, m2, m3⟩; have mk2 : True := trivial))
  all_goals (
    have FIN := hide (HBW.out.trans (b2.out.mono HBW.out.size))
    clear b1 b2 C1 C2
    go_wp2
    go_ret2
    exact ⟨rfl, FIN.out⟩)

theorem to64_no (c : Int) (neg : Bool) (t : ByteArray) (ex : Int) (w : World) (h : ¬ MayD c neg (bys t) ex) : Calls Tryz.prog 9 #[dcV c neg t ex] w fun e w' => e = .returned (.tuple #[.int .u64 0, .int .i64 40]) ∧ Below w.heap.size w w' :=
  to64_of c neg t ex 0 40 w (fun W => float64_no c neg t ex W h)

theorem to64_yes (c : Int) (neg : Bool) (t : ByteArray) (ex : Int) (w : World) (h : MayD c neg (bys t) ex) : Calls Tryz.prog 9 #[dcV c neg t ex] w fun e w' => e = .returned (.tuple #[.int .u64 ((toD 52 11 1074 ⟨c.toNat, neg, bys t, ex⟩ : Nat) : Int), .int .i64 0]) ∧ Below w.heap.size w w' :=
  to64_of c neg t ex _ 0 w (fun W => float64_yes c neg t ex W h)

theorem frac32_any (neg : Bool) (t : ByteArray) (ex : Int) (w : World) (h : DigD (bys t) ex) :
    Calls Tryz.prog 49 #[w32, dcV 0 neg t ex] w (FrPost w 23 8 (-149) (decV (bys t) * 10 ^ ex.toNat) (10 ^ (-ex).toNat)) := by
  by_cases hn : ex < 0
  · obtain ⟨n, rfl⟩ : ∃ n : Nat, ex = -(n : Int) := ⟨(-ex).toNat, by omega⟩
    rw [show (-(n : Int)).toNat = 0 by omega, show (- -(n : Int)).toNat = n by omega, Nat.pow_zero, Nat.mul_one]
    exact frac32_neg neg t n w h hn
  · obtain ⟨n, rfl⟩ : ∃ n : Nat, ex = (n : Int) := ⟨ex.toNat, by omega⟩
    rw [show (-(n : Int)).toNat = 0 by omega, show ((n : Int)).toNat = n by omega, Nat.pow_zero]
    exact frac32_pos neg t n w h hn

set_option maxHeartbeats 1000000 in
theorem float32_no (c : Int) (neg : Bool) (t : ByteArray) (ex : Int) (w : World) (h : ¬ MayD c neg (bys t) ex) : Calls Tryz.prog 28 #[w32, dcV c neg t ex] w fun e w' => e = .returned (.tuple #[.int .u64 0, .int .i64 40]) ∧ Below w.heap.size w w' := by
  have MY := hide (fun W => may_no c neg t ex W h)
  clear h
  have BLW := hide ((Blk.new w #[.int .i64 23, .int .i64 8, .int .i64 (-149)] 56).alloc (.cells #[.int .i64 c, .bool neg, .string t, .int .i64 ex] 24))
  have BLD := hide (Blk.newAt (w.alloc (.cells #[.int .i64 23, .int .i64 8, .int .i64 (-149)] 56)) (w.heap.size + 1) (by simp) #[.int .i64 c, .bool neg, .string t, .int .i64 ex] 24)
  have HB0 : Hid (Below w.heap.size w ((w.alloc (.cells #[.int .i64 23, .int .i64 8, .int .i64 (-149)] 56)).alloc (.cells #[.int .i64 c, .bool neg, .string t, .int .i64 ex] 24))) := ((Below.refl _ _).alloc (Nat.le_refl _) _).alloc (by simp) _
  go_enter Tryz.func28, Tryz.ntmps28
  go_wp2_with fail
  refine (MY.out _).mono ?_
  rintro e w1 ⟨rfl, hb⟩
  have BW1 := hide (BLW.out.below hb BLW.out.lt)
  have BD1 := hide (BLD.out.below hb BLD.out.lt)
  have HB1 := hide (HB0.out.trans (hb.mono HB0.out.size))
  clear hb BLW BLD HB0
  have x0 : w1.cell? ⟨w.heap.size, 0, none⟩ = some (.int .i64 23) := BW1.out.cell 0
  have x1 : w1.cell? ⟨w.heap.size, 1, none⟩ = some (.int .i64 8) := BW1.out.cell 1
  have x2 : w1.cell? ⟨w.heap.size, 2, none⟩ = some (.int .i64 (-149)) := BW1.out.cell 2
  have y0 : w1.cell? ⟨w.heap.size + 1, 0, none⟩ = some (.int .i64 c) := BD1.out.cell 0
  have y1 : w1.cell? ⟨w.heap.size + 1, 1, none⟩ = some (.bool neg) := BD1.out.cell 1
  have y2 : w1.cell? ⟨w.heap.size + 1, 2, none⟩ = some (.string t) := BD1.out.cell 2
  have y3 : w1.cell? ⟨w.heap.size + 1, 3, none⟩ = some (.int .i64 ex) := BD1.out.cell 3
  go_wp2
  go_ret2
  exact ⟨rfl, HB1.out⟩

set_option maxHeartbeats 1000000 in
theorem float32_nan (w : World) : Calls Tryz.prog 28 #[w32, dcV 2 false ⟨#[]⟩ 0] w fun e w' => e = .returned (.tuple #[.int .u64 2143289345, .int .i64 0]) ∧ Below w.heap.size w w' := by
  have MY := hide (fun W => may2_yes W)
  have NN := hide (fun W => nnan32 W)
  have BLW := hide ((Blk.new w #[.int .i64 23, .int .i64 8, .int .i64 (-149)] 56).alloc (.cells #[.int .i64 2, .bool false, .string ⟨#[]⟩, .int .i64 0] 24))
  have BLD := hide (Blk.newAt (w.alloc (.cells #[.int .i64 23, .int .i64 8, .int .i64 (-149)] 56)) (w.heap.size + 1) (by simp) #[.int .i64 2, .bool false, .string ⟨#[]⟩, .int .i64 0] 24)
  have HB0 : Hid (Below w.heap.size w ((w.alloc (.cells #[.int .i64 23, .int .i64 8, .int .i64 (-149)] 56)).alloc (.cells #[.int .i64 2, .bool false, .string ⟨#[]⟩, .int .i64 0] 24))) := ((Below.refl _ _).alloc (Nat.le_refl _) _).alloc (by simp) _
  go_enter Tryz.func28, Tryz.ntmps28
  go_wp2_with fail
  refine (MY.out _).mono ?_
  rintro e w1 ⟨rfl, hb⟩
  have BW1 := hide (BLW.out.below hb BLW.out.lt)
  have BD1 := hide (BLD.out.below hb BLD.out.lt)
  have HB1 := hide (HB0.out.trans (hb.mono HB0.out.size))
  clear hb BLW BLD HB0
  have x0 : w1.cell? ⟨w.heap.size, 0, none⟩ = some (.int .i64 23) := BW1.out.cell 0
  have x1 : w1.cell? ⟨w.heap.size, 1, none⟩ = some (.int .i64 8) := BW1.out.cell 1
  have x2 : w1.cell? ⟨w.heap.size, 2, none⟩ = some (.int .i64 (-149)) := BW1.out.cell 2
  have y0 : w1.cell? ⟨w.heap.size + 1, 0, none⟩ = some (.int .i64 2) := BD1.out.cell 0
  have y1 : w1.cell? ⟨w.heap.size + 1, 1, none⟩ = some (.bool false) := BD1.out.cell 1
  have y2 : w1.cell? ⟨w.heap.size + 1, 2, none⟩ = some (.string ⟨#[]⟩) := BD1.out.cell 2
  have y3 : w1.cell? ⟨w.heap.size + 1, 3, none⟩ = some (.int .i64 0) := BD1.out.cell 3
  go_wp2_with fail
  refine (NN.out _).mono ?_
  rintro e w2 ⟨rfl, hb⟩
  have BW2 := hide (BW1.out.below hb BW1.out.lt)
  have BD2 := hide (BD1.out.below hb BD1.out.lt)
  have HB2 := hide (HB1.out.trans (hb.mono HB1.out.size))
  clear hb BW1 BD1 HB1 x0 x1 x2 y0 y1 y2 y3
  have x0 : w2.cell? ⟨w.heap.size, 0, none⟩ = some (.int .i64 23) := BW2.out.cell 0
  have x1 : w2.cell? ⟨w.heap.size, 1, none⟩ = some (.int .i64 8) := BW2.out.cell 1
  have x2 : w2.cell? ⟨w.heap.size, 2, none⟩ = some (.int .i64 (-149)) := BW2.out.cell 2
  have y0 : w2.cell? ⟨w.heap.size + 1, 0, none⟩ = some (.int .i64 2) := BD2.out.cell 0
  have y1 : w2.cell? ⟨w.heap.size + 1, 1, none⟩ = some (.bool false) := BD2.out.cell 1
  have y2 : w2.cell? ⟨w.heap.size + 1, 2, none⟩ = some (.string ⟨#[]⟩) := BD2.out.cell 2
  have y3 : w2.cell? ⟨w.heap.size + 1, 3, none⟩ = some (.int .i64 0) := BD2.out.cell 3
  go_wp2
  go_ret2
  exact ⟨rfl, HB2.out⟩

set_option maxHeartbeats 1000000 in
theorem float32_inf_false (w : World) : Calls Tryz.prog 28 #[w32, dcV 1 false ⟨#[]⟩ 0] w fun e w' => e = .returned (.tuple #[.int .u64 2139095040, .int .i64 0]) ∧ Below w.heap.size w w' := by
  have MY := hide (fun W => may1_yes false W)
  have IN := hide (fun W => ninf32 W)
  have BLW := hide ((Blk.new w #[.int .i64 23, .int .i64 8, .int .i64 (-149)] 56).alloc (.cells #[.int .i64 1, .bool false, .string ⟨#[]⟩, .int .i64 0] 24))
  have BLD := hide (Blk.newAt (w.alloc (.cells #[.int .i64 23, .int .i64 8, .int .i64 (-149)] 56)) (w.heap.size + 1) (by simp) #[.int .i64 1, .bool false, .string ⟨#[]⟩, .int .i64 0] 24)
  have HB0 : Hid (Below w.heap.size w ((w.alloc (.cells #[.int .i64 23, .int .i64 8, .int .i64 (-149)] 56)).alloc (.cells #[.int .i64 1, .bool false, .string ⟨#[]⟩, .int .i64 0] 24))) := ((Below.refl _ _).alloc (Nat.le_refl _) _).alloc (by simp) _
  go_enter Tryz.func28, Tryz.ntmps28
  go_wp2_with fail
  refine (MY.out _).mono ?_
  rintro e w1 ⟨rfl, hb⟩
  have BW1 := hide (BLW.out.below hb BLW.out.lt)
  have BD1 := hide (BLD.out.below hb BLD.out.lt)
  have HB1 := hide (HB0.out.trans (hb.mono HB0.out.size))
  clear hb BLW BLD HB0
  have x0 : w1.cell? ⟨w.heap.size, 0, none⟩ = some (.int .i64 23) := BW1.out.cell 0
  have x1 : w1.cell? ⟨w.heap.size, 1, none⟩ = some (.int .i64 8) := BW1.out.cell 1
  have x2 : w1.cell? ⟨w.heap.size, 2, none⟩ = some (.int .i64 (-149)) := BW1.out.cell 2
  have y0 : w1.cell? ⟨w.heap.size + 1, 0, none⟩ = some (.int .i64 1) := BD1.out.cell 0
  have y1 : w1.cell? ⟨w.heap.size + 1, 1, none⟩ = some (.bool false) := BD1.out.cell 1
  have y2 : w1.cell? ⟨w.heap.size + 1, 2, none⟩ = some (.string ⟨#[]⟩) := BD1.out.cell 2
  have y3 : w1.cell? ⟨w.heap.size + 1, 3, none⟩ = some (.int .i64 0) := BD1.out.cell 3
  go_wp2_with fail
  refine (IN.out _).mono ?_
  rintro e w2 ⟨rfl, hb⟩
  have BW2 := hide (BW1.out.below hb BW1.out.lt)
  have BD2 := hide (BD1.out.below hb BD1.out.lt)
  have HB2 := hide (HB1.out.trans (hb.mono HB1.out.size))
  clear hb BW1 BD1 HB1 x0 x1 x2 y0 y1 y2 y3
  have x0 : w2.cell? ⟨w.heap.size, 0, none⟩ = some (.int .i64 23) := BW2.out.cell 0
  have x1 : w2.cell? ⟨w.heap.size, 1, none⟩ = some (.int .i64 8) := BW2.out.cell 1
  have x2 : w2.cell? ⟨w.heap.size, 2, none⟩ = some (.int .i64 (-149)) := BW2.out.cell 2
  have y0 : w2.cell? ⟨w.heap.size + 1, 0, none⟩ = some (.int .i64 1) := BD2.out.cell 0
  have y1 : w2.cell? ⟨w.heap.size + 1, 1, none⟩ = some (.bool false) := BD2.out.cell 1
  have y2 : w2.cell? ⟨w.heap.size + 1, 2, none⟩ = some (.string ⟨#[]⟩) := BD2.out.cell 2
  have y3 : w2.cell? ⟨w.heap.size + 1, 3, none⟩ = some (.int .i64 0) := BD2.out.cell 3
  go_wp2
  go_ret2
  exact ⟨rfl, HB2.out⟩

set_option maxHeartbeats 1000000 in
theorem float32_zero_false (w : World) : Calls Tryz.prog 28 #[w32, dcV 0 false ⟨#[]⟩ 0] w fun e w' => e = .returned (.tuple #[.int .u64 0, .int .i64 0]) ∧ Below w.heap.size w w' := by
  have MY := hide (fun W => may0_bare false W)
  have BLW := hide ((Blk.new w #[.int .i64 23, .int .i64 8, .int .i64 (-149)] 56).alloc (.cells #[.int .i64 0, .bool false, .string ⟨#[]⟩, .int .i64 0] 24))
  have BLD := hide (Blk.newAt (w.alloc (.cells #[.int .i64 23, .int .i64 8, .int .i64 (-149)] 56)) (w.heap.size + 1) (by simp) #[.int .i64 0, .bool false, .string ⟨#[]⟩, .int .i64 0] 24)
  have HB0 : Hid (Below w.heap.size w ((w.alloc (.cells #[.int .i64 23, .int .i64 8, .int .i64 (-149)] 56)).alloc (.cells #[.int .i64 0, .bool false, .string ⟨#[]⟩, .int .i64 0] 24))) := ((Below.refl _ _).alloc (Nat.le_refl _) _).alloc (by simp) _
  go_enter Tryz.func28, Tryz.ntmps28
  go_wp2_with fail
  refine (MY.out _).mono ?_
  rintro e w1 ⟨rfl, hb⟩
  have BW1 := hide (BLW.out.below hb BLW.out.lt)
  have BD1 := hide (BLD.out.below hb BLD.out.lt)
  have HB1 := hide (HB0.out.trans (hb.mono HB0.out.size))
  clear hb BLW BLD HB0
  have x0 : w1.cell? ⟨w.heap.size, 0, none⟩ = some (.int .i64 23) := BW1.out.cell 0
  have x1 : w1.cell? ⟨w.heap.size, 1, none⟩ = some (.int .i64 8) := BW1.out.cell 1
  have x2 : w1.cell? ⟨w.heap.size, 2, none⟩ = some (.int .i64 (-149)) := BW1.out.cell 2
  have y0 : w1.cell? ⟨w.heap.size + 1, 0, none⟩ = some (.int .i64 0) := BD1.out.cell 0
  have y1 : w1.cell? ⟨w.heap.size + 1, 1, none⟩ = some (.bool false) := BD1.out.cell 1
  have y2 : w1.cell? ⟨w.heap.size + 1, 2, none⟩ = some (.string ⟨#[]⟩) := BD1.out.cell 2
  have y3 : w1.cell? ⟨w.heap.size + 1, 3, none⟩ = some (.int .i64 0) := BD1.out.cell 3
  go_wp2
  go_ret2
  exact ⟨rfl, HB1.out⟩

set_option maxHeartbeats 1000000 in
theorem float32_fin_false (t : ByteArray) (ex : Int) (w : World) (h : DigD (bys t) ex) : Calls Tryz.prog 28 #[w32, dcV 0 false t ex] w fun e w' => e = .returned (.tuple #[.int .u64 ((bitsOf 23 149 (infN 23 8) (decV (bys t) * 10 ^ ex.toNat) (10 ^ (-ex).toNat)) : Int), .int .i64 0]) ∧ Below w.heap.size w w' := by
  have NS := Nums.of h
  have hne : t.size ≠ 0 := fun e => h.1 (bys_nil.2 e)
  have MY := hide (fun W => may0_yes false t ex W (fun e => hne e.1) h)
  have FR := hide (fun W => frac32_any false t ex W h)
  obtain ⟨o, ho⟩ : ∃ o, o = decV (bys t) * 10 ^ ex.toNat := ⟨_, rfl⟩
  obtain ⟨u, hu⟩ : ∃ u, u = 10 ^ (-ex).toNat := ⟨_, rfl⟩
  rw [← ho, ← hu] at NS FR ⊢
  have NR := hide (fun oo lo co ou lu cu W a1 a2 => near32_any oo ou lo co lu cu o u W a1 a2 NS.fo NS.fu NS.o0 NS.u0)
  obtain ⟨r, hr⟩ : ∃ r, r = bitsOf 23 149 (infN 23 8) o u := ⟨_, rfl⟩
  have hrl : r ≤ 2139095040 := by rw [hr, ← inf32]; exact bitsOf_le _ _ _ _ _
  rw [← hr] at NR ⊢
  have ht := toList_ne hne
  clear h NS hne ho hu hr
  have BLW := hide ((Blk.new w #[.int .i64 23, .int .i64 8, .int .i64 (-149)] 56).alloc (.cells #[.int .i64 0, .bool false, .string t, .int .i64 ex] 24))
  have BLD := hide (Blk.newAt (w.alloc (.cells #[.int .i64 23, .int .i64 8, .int .i64 (-149)] 56)) (w.heap.size + 1) (by simp) #[.int .i64 0, .bool false, .string t, .int .i64 ex] 24)
  have HB0 : Hid (Below w.heap.size w ((w.alloc (.cells #[.int .i64 23, .int .i64 8, .int .i64 (-149)] 56)).alloc (.cells #[.int .i64 0, .bool false, .string t, .int .i64 ex] 24))) := ((Below.refl _ _).alloc (Nat.le_refl _) _).alloc (by simp) _
  go_enter Tryz.func28, Tryz.ntmps28
  go_wp2_with fail
  refine (MY.out _).mono ?_
  rintro e w1 ⟨rfl, hb⟩
  have BW1 := hide (BLW.out.below hb BLW.out.lt)
  have BD1 := hide (BLD.out.below hb BLD.out.lt)
  have HB1 := hide (HB0.out.trans (hb.mono HB0.out.size))
  clear hb BLW BLD HB0
  have x0 : w1.cell? ⟨w.heap.size, 0, none⟩ = some (.int .i64 23) := BW1.out.cell 0
  have x1 : w1.cell? ⟨w.heap.size, 1, none⟩ = some (.int .i64 8) := BW1.out.cell 1
  have x2 : w1.cell? ⟨w.heap.size, 2, none⟩ = some (.int .i64 (-149)) := BW1.out.cell 2
  have y0 : w1.cell? ⟨w.heap.size + 1, 0, none⟩ = some (.int .i64 0) := BD1.out.cell 0
  have y1 : w1.cell? ⟨w.heap.size + 1, 1, none⟩ = some (.bool false) := BD1.out.cell 1
  have y2 : w1.cell? ⟨w.heap.size + 1, 2, none⟩ = some (.string t) := BD1.out.cell 2
  have y3 : w1.cell? ⟨w.heap.size + 1, 3, none⟩ = some (.int .i64 ex) := BD1.out.cell 3
  go_wp2_with fail
  refine (FR.out _).mono ?_
  rintro e w2 ⟨oo, lo, co, ou, lu, cu, rfl, no, nu, hb⟩
  have BW2 := hide (BW1.out.below hb BW1.out.lt)
  have BD2 := hide (BD1.out.below hb BD1.out.lt)
  have HB2 := hide (HB1.out.trans (hb.mono HB1.out.size))
  have NO := hide no
  have NU := hide nu
  clear no nu
  clear hb BW1 BD1 HB1 x0 x1 x2 y0 y1 y2 y3
  have x0 : w2.cell? ⟨w.heap.size, 0, none⟩ = some (.int .i64 23) := BW2.out.cell 0
  have x1 : w2.cell? ⟨w.heap.size, 1, none⟩ = some (.int .i64 8) := BW2.out.cell 1
  have x2 : w2.cell? ⟨w.heap.size, 2, none⟩ = some (.int .i64 (-149)) := BW2.out.cell 2
  have y0 : w2.cell? ⟨w.heap.size + 1, 0, none⟩ = some (.int .i64 0) := BD2.out.cell 0
  have y1 : w2.cell? ⟨w.heap.size + 1, 1, none⟩ = some (.bool false) := BD2.out.cell 1
  have y2 : w2.cell? ⟨w.heap.size + 1, 2, none⟩ = some (.string t) := BD2.out.cell 2
  have y3 : w2.cell? ⟨w.heap.size + 1, 3, none⟩ = some (.int .i64 ex) := BD2.out.cell 3
  go_wp2_with fail
  refine (NR.out _ _ _ _ _ _ _ NO.out NU.out).mono ?_
  rintro e w3 ⟨rfl, hb⟩
  have BW3 := hide (BW2.out.below hb BW2.out.lt)
  have BD3 := hide (BD2.out.below hb BD2.out.lt)
  have HB3 := hide (HB2.out.trans (hb.mono HB2.out.size))
  clear hb BW2 BD2 HB2 x0 x1 x2 y0 y1 y2 y3
  have x0 : w3.cell? ⟨w.heap.size, 0, none⟩ = some (.int .i64 23) := BW3.out.cell 0
  have x1 : w3.cell? ⟨w.heap.size, 1, none⟩ = some (.int .i64 8) := BW3.out.cell 1
  have x2 : w3.cell? ⟨w.heap.size, 2, none⟩ = some (.int .i64 (-149)) := BW3.out.cell 2
  have y0 : w3.cell? ⟨w.heap.size + 1, 0, none⟩ = some (.int .i64 0) := BD3.out.cell 0
  have y1 : w3.cell? ⟨w.heap.size + 1, 1, none⟩ = some (.bool false) := BD3.out.cell 1
  have y2 : w3.cell? ⟨w.heap.size + 1, 2, none⟩ = some (.string t) := BD3.out.cell 2
  have y3 : w3.cell? ⟨w.heap.size + 1, 3, none⟩ = some (.int .i64 ex) := BD3.out.cell 3
  go_wp2
  go_ret2
  exact ⟨rfl, HB3.out⟩

set_option maxHeartbeats 1000000 in
theorem float32_inf_true (w : World) : Calls Tryz.prog 28 #[w32, dcV 1 true ⟨#[]⟩ 0] w fun e w' => e = .returned (.tuple #[.int .u64 4286578688, .int .i64 0]) ∧ Below w.heap.size w w' := by
  have MY := hide (fun W => may1_yes true W)
  have IN := hide (fun W => ninf32 W)
  have SGN := hide (fun W => nsign32 W)
  have OR := hide (show bits .or .u64 2139095040 2147483648 = 4286578688 by decide +kernel)
  have BLW := hide ((Blk.new w #[.int .i64 23, .int .i64 8, .int .i64 (-149)] 56).alloc (.cells #[.int .i64 1, .bool true, .string ⟨#[]⟩, .int .i64 0] 24))
  have BLD := hide (Blk.newAt (w.alloc (.cells #[.int .i64 23, .int .i64 8, .int .i64 (-149)] 56)) (w.heap.size + 1) (by simp) #[.int .i64 1, .bool true, .string ⟨#[]⟩, .int .i64 0] 24)
  have HB0 : Hid (Below w.heap.size w ((w.alloc (.cells #[.int .i64 23, .int .i64 8, .int .i64 (-149)] 56)).alloc (.cells #[.int .i64 1, .bool true, .string ⟨#[]⟩, .int .i64 0] 24))) := ((Below.refl _ _).alloc (Nat.le_refl _) _).alloc (by simp) _
  go_enter Tryz.func28, Tryz.ntmps28
  go_wp2_with fail
  refine (MY.out _).mono ?_
  rintro e w1 ⟨rfl, hb⟩
  have BW1 := hide (BLW.out.below hb BLW.out.lt)
  have BD1 := hide (BLD.out.below hb BLD.out.lt)
  have HB1 := hide (HB0.out.trans (hb.mono HB0.out.size))
  clear hb BLW BLD HB0
  have x0 : w1.cell? ⟨w.heap.size, 0, none⟩ = some (.int .i64 23) := BW1.out.cell 0
  have x1 : w1.cell? ⟨w.heap.size, 1, none⟩ = some (.int .i64 8) := BW1.out.cell 1
  have x2 : w1.cell? ⟨w.heap.size, 2, none⟩ = some (.int .i64 (-149)) := BW1.out.cell 2
  have y0 : w1.cell? ⟨w.heap.size + 1, 0, none⟩ = some (.int .i64 1) := BD1.out.cell 0
  have y1 : w1.cell? ⟨w.heap.size + 1, 1, none⟩ = some (.bool true) := BD1.out.cell 1
  have y2 : w1.cell? ⟨w.heap.size + 1, 2, none⟩ = some (.string ⟨#[]⟩) := BD1.out.cell 2
  have y3 : w1.cell? ⟨w.heap.size + 1, 3, none⟩ = some (.int .i64 0) := BD1.out.cell 3
  go_wp2_with fail
  refine (IN.out _).mono ?_
  rintro e w2 ⟨rfl, hb⟩
  have BW2 := hide (BW1.out.below hb BW1.out.lt)
  have BD2 := hide (BD1.out.below hb BD1.out.lt)
  have HB2 := hide (HB1.out.trans (hb.mono HB1.out.size))
  clear hb BW1 BD1 HB1 x0 x1 x2 y0 y1 y2 y3
  have x0 : w2.cell? ⟨w.heap.size, 0, none⟩ = some (.int .i64 23) := BW2.out.cell 0
  have x1 : w2.cell? ⟨w.heap.size, 1, none⟩ = some (.int .i64 8) := BW2.out.cell 1
  have x2 : w2.cell? ⟨w.heap.size, 2, none⟩ = some (.int .i64 (-149)) := BW2.out.cell 2
  have y0 : w2.cell? ⟨w.heap.size + 1, 0, none⟩ = some (.int .i64 1) := BD2.out.cell 0
  have y1 : w2.cell? ⟨w.heap.size + 1, 1, none⟩ = some (.bool true) := BD2.out.cell 1
  have y2 : w2.cell? ⟨w.heap.size + 1, 2, none⟩ = some (.string ⟨#[]⟩) := BD2.out.cell 2
  have y3 : w2.cell? ⟨w.heap.size + 1, 3, none⟩ = some (.int .i64 0) := BD2.out.cell 3
  go_wp2_with fail
  refine (SGN.out _).mono ?_
  rintro e w3 ⟨rfl, hb⟩
  have BW3 := hide (BW2.out.below hb BW2.out.lt)
  have BD3 := hide (BD2.out.below hb BD2.out.lt)
  have HB3 := hide (HB2.out.trans (hb.mono HB2.out.size))
  clear hb BW2 BD2 HB2 x0 x1 x2 y0 y1 y2 y3
  have x0 : w3.cell? ⟨w.heap.size, 0, none⟩ = some (.int .i64 23) := BW3.out.cell 0
  have x1 : w3.cell? ⟨w.heap.size, 1, none⟩ = some (.int .i64 8) := BW3.out.cell 1
  have x2 : w3.cell? ⟨w.heap.size, 2, none⟩ = some (.int .i64 (-149)) := BW3.out.cell 2
  have y0 : w3.cell? ⟨w.heap.size + 1, 0, none⟩ = some (.int .i64 1) := BD3.out.cell 0
  have y1 : w3.cell? ⟨w.heap.size + 1, 1, none⟩ = some (.bool true) := BD3.out.cell 1
  have y2 : w3.cell? ⟨w.heap.size + 1, 2, none⟩ = some (.string ⟨#[]⟩) := BD3.out.cell 2
  have y3 : w3.cell? ⟨w.heap.size + 1, 3, none⟩ = some (.int .i64 0) := BD3.out.cell 3
  go_wp2
  go_ret2
  refine ⟨?_, HB3.out⟩
  rw [← OR.out]
  rfl

set_option maxHeartbeats 1000000 in
theorem float32_zero_true (w : World) : Calls Tryz.prog 28 #[w32, dcV 0 true ⟨#[]⟩ 0] w fun e w' => e = .returned (.tuple #[.int .u64 2147483648, .int .i64 0]) ∧ Below w.heap.size w w' := by
  have MY := hide (fun W => may0_bare true W)
  have SGN := hide (fun W => nsign32 W)
  have OR := hide (show bits .or .u64 0 2147483648 = 2147483648 by decide +kernel)
  have BLW := hide ((Blk.new w #[.int .i64 23, .int .i64 8, .int .i64 (-149)] 56).alloc (.cells #[.int .i64 0, .bool true, .string ⟨#[]⟩, .int .i64 0] 24))
  have BLD := hide (Blk.newAt (w.alloc (.cells #[.int .i64 23, .int .i64 8, .int .i64 (-149)] 56)) (w.heap.size + 1) (by simp) #[.int .i64 0, .bool true, .string ⟨#[]⟩, .int .i64 0] 24)
  have HB0 : Hid (Below w.heap.size w ((w.alloc (.cells #[.int .i64 23, .int .i64 8, .int .i64 (-149)] 56)).alloc (.cells #[.int .i64 0, .bool true, .string ⟨#[]⟩, .int .i64 0] 24))) := ((Below.refl _ _).alloc (Nat.le_refl _) _).alloc (by simp) _
  go_enter Tryz.func28, Tryz.ntmps28
  go_wp2_with fail
  refine (MY.out _).mono ?_
  rintro e w1 ⟨rfl, hb⟩
  have BW1 := hide (BLW.out.below hb BLW.out.lt)
  have BD1 := hide (BLD.out.below hb BLD.out.lt)
  have HB1 := hide (HB0.out.trans (hb.mono HB0.out.size))
  clear hb BLW BLD HB0
  have x0 : w1.cell? ⟨w.heap.size, 0, none⟩ = some (.int .i64 23) := BW1.out.cell 0
  have x1 : w1.cell? ⟨w.heap.size, 1, none⟩ = some (.int .i64 8) := BW1.out.cell 1
  have x2 : w1.cell? ⟨w.heap.size, 2, none⟩ = some (.int .i64 (-149)) := BW1.out.cell 2
  have y0 : w1.cell? ⟨w.heap.size + 1, 0, none⟩ = some (.int .i64 0) := BD1.out.cell 0
  have y1 : w1.cell? ⟨w.heap.size + 1, 1, none⟩ = some (.bool true) := BD1.out.cell 1
  have y2 : w1.cell? ⟨w.heap.size + 1, 2, none⟩ = some (.string ⟨#[]⟩) := BD1.out.cell 2
  have y3 : w1.cell? ⟨w.heap.size + 1, 3, none⟩ = some (.int .i64 0) := BD1.out.cell 3
  go_wp2_with fail
  refine (SGN.out _).mono ?_
  rintro e w2 ⟨rfl, hb⟩
  have BW2 := hide (BW1.out.below hb BW1.out.lt)
  have BD2 := hide (BD1.out.below hb BD1.out.lt)
  have HB2 := hide (HB1.out.trans (hb.mono HB1.out.size))
  clear hb BW1 BD1 HB1 x0 x1 x2 y0 y1 y2 y3
  have x0 : w2.cell? ⟨w.heap.size, 0, none⟩ = some (.int .i64 23) := BW2.out.cell 0
  have x1 : w2.cell? ⟨w.heap.size, 1, none⟩ = some (.int .i64 8) := BW2.out.cell 1
  have x2 : w2.cell? ⟨w.heap.size, 2, none⟩ = some (.int .i64 (-149)) := BW2.out.cell 2
  have y0 : w2.cell? ⟨w.heap.size + 1, 0, none⟩ = some (.int .i64 0) := BD2.out.cell 0
  have y1 : w2.cell? ⟨w.heap.size + 1, 1, none⟩ = some (.bool true) := BD2.out.cell 1
  have y2 : w2.cell? ⟨w.heap.size + 1, 2, none⟩ = some (.string ⟨#[]⟩) := BD2.out.cell 2
  have y3 : w2.cell? ⟨w.heap.size + 1, 3, none⟩ = some (.int .i64 0) := BD2.out.cell 3
  go_wp2
  go_ret2
  refine ⟨?_, HB2.out⟩
  rw [← OR.out]
  rfl

set_option maxHeartbeats 1000000 in
theorem float32_fin_true (t : ByteArray) (ex : Int) (w : World) (h : DigD (bys t) ex) : Calls Tryz.prog 28 #[w32, dcV 0 true t ex] w fun e w' => e = .returned (.tuple #[.int .u64 (((bitsOf 23 149 (infN 23 8) (decV (bys t) * 10 ^ ex.toNat) (10 ^ (-ex).toNat)) + 2147483648 : Nat) : Int), .int .i64 0]) ∧ Below w.heap.size w w' := by
  have NS := Nums.of h
  have hne : t.size ≠ 0 := fun e => h.1 (bys_nil.2 e)
  have MY := hide (fun W => may0_yes true t ex W (fun e => hne e.1) h)
  have FR := hide (fun W => frac32_any true t ex W h)
  obtain ⟨o, ho⟩ : ∃ o, o = decV (bys t) * 10 ^ ex.toNat := ⟨_, rfl⟩
  obtain ⟨u, hu⟩ : ∃ u, u = 10 ^ (-ex).toNat := ⟨_, rfl⟩
  rw [← ho, ← hu] at NS FR ⊢
  have NR := hide (fun oo lo co ou lu cu W a1 a2 => near32_any oo ou lo co lu cu o u W a1 a2 NS.fo NS.fu NS.o0 NS.u0)
  obtain ⟨r, hr⟩ : ∃ r, r = bitsOf 23 149 (infN 23 8) o u := ⟨_, rfl⟩
  have hrl : r ≤ 2139095040 := by rw [hr, ← inf32]; exact bitsOf_le _ _ _ _ _
  rw [← hr] at NR ⊢
  have OR : Hid (bits .or .u64 (r : Int) 2147483648 = ((r + 2147483648 : Nat) : Int)) := or_top (k := 31) 2147483648 (by decide) (by omega) (by omega)
  have SGN := hide (fun W => nsign32 W)
  have ht := toList_ne hne
  clear h NS hne ho hu hr
  have BLW := hide ((Blk.new w #[.int .i64 23, .int .i64 8, .int .i64 (-149)] 56).alloc (.cells #[.int .i64 0, .bool true, .string t, .int .i64 ex] 24))
  have BLD := hide (Blk.newAt (w.alloc (.cells #[.int .i64 23, .int .i64 8, .int .i64 (-149)] 56)) (w.heap.size + 1) (by simp) #[.int .i64 0, .bool true, .string t, .int .i64 ex] 24)
  have HB0 : Hid (Below w.heap.size w ((w.alloc (.cells #[.int .i64 23, .int .i64 8, .int .i64 (-149)] 56)).alloc (.cells #[.int .i64 0, .bool true, .string t, .int .i64 ex] 24))) := ((Below.refl _ _).alloc (Nat.le_refl _) _).alloc (by simp) _
  go_enter Tryz.func28, Tryz.ntmps28
  go_wp2_with fail
  refine (MY.out _).mono ?_
  rintro e w1 ⟨rfl, hb⟩
  have BW1 := hide (BLW.out.below hb BLW.out.lt)
  have BD1 := hide (BLD.out.below hb BLD.out.lt)
  have HB1 := hide (HB0.out.trans (hb.mono HB0.out.size))
  clear hb BLW BLD HB0
  have x0 : w1.cell? ⟨w.heap.size, 0, none⟩ = some (.int .i64 23) := BW1.out.cell 0
  have x1 : w1.cell? ⟨w.heap.size, 1, none⟩ = some (.int .i64 8) := BW1.out.cell 1
  have x2 : w1.cell? ⟨w.heap.size, 2, none⟩ = some (.int .i64 (-149)) := BW1.out.cell 2
  have y0 : w1.cell? ⟨w.heap.size + 1, 0, none⟩ = some (.int .i64 0) := BD1.out.cell 0
  have y1 : w1.cell? ⟨w.heap.size + 1, 1, none⟩ = some (.bool true) := BD1.out.cell 1
  have y2 : w1.cell? ⟨w.heap.size + 1, 2, none⟩ = some (.string t) := BD1.out.cell 2
  have y3 : w1.cell? ⟨w.heap.size + 1, 3, none⟩ = some (.int .i64 ex) := BD1.out.cell 3
  go_wp2_with fail
  refine (FR.out _).mono ?_
  rintro e w2 ⟨oo, lo, co, ou, lu, cu, rfl, no, nu, hb⟩
  have BW2 := hide (BW1.out.below hb BW1.out.lt)
  have BD2 := hide (BD1.out.below hb BD1.out.lt)
  have HB2 := hide (HB1.out.trans (hb.mono HB1.out.size))
  have NO := hide no
  have NU := hide nu
  clear no nu
  clear hb BW1 BD1 HB1 x0 x1 x2 y0 y1 y2 y3
  have x0 : w2.cell? ⟨w.heap.size, 0, none⟩ = some (.int .i64 23) := BW2.out.cell 0
  have x1 : w2.cell? ⟨w.heap.size, 1, none⟩ = some (.int .i64 8) := BW2.out.cell 1
  have x2 : w2.cell? ⟨w.heap.size, 2, none⟩ = some (.int .i64 (-149)) := BW2.out.cell 2
  have y0 : w2.cell? ⟨w.heap.size + 1, 0, none⟩ = some (.int .i64 0) := BD2.out.cell 0
  have y1 : w2.cell? ⟨w.heap.size + 1, 1, none⟩ = some (.bool true) := BD2.out.cell 1
  have y2 : w2.cell? ⟨w.heap.size + 1, 2, none⟩ = some (.string t) := BD2.out.cell 2
  have y3 : w2.cell? ⟨w.heap.size + 1, 3, none⟩ = some (.int .i64 ex) := BD2.out.cell 3
  go_wp2_with fail
  refine (NR.out _ _ _ _ _ _ _ NO.out NU.out).mono ?_
  rintro e w3 ⟨rfl, hb⟩
  have BW3 := hide (BW2.out.below hb BW2.out.lt)
  have BD3 := hide (BD2.out.below hb BD2.out.lt)
  have HB3 := hide (HB2.out.trans (hb.mono HB2.out.size))
  clear hb BW2 BD2 HB2 x0 x1 x2 y0 y1 y2 y3
  have x0 : w3.cell? ⟨w.heap.size, 0, none⟩ = some (.int .i64 23) := BW3.out.cell 0
  have x1 : w3.cell? ⟨w.heap.size, 1, none⟩ = some (.int .i64 8) := BW3.out.cell 1
  have x2 : w3.cell? ⟨w.heap.size, 2, none⟩ = some (.int .i64 (-149)) := BW3.out.cell 2
  have y0 : w3.cell? ⟨w.heap.size + 1, 0, none⟩ = some (.int .i64 0) := BD3.out.cell 0
  have y1 : w3.cell? ⟨w.heap.size + 1, 1, none⟩ = some (.bool true) := BD3.out.cell 1
  have y2 : w3.cell? ⟨w.heap.size + 1, 2, none⟩ = some (.string t) := BD3.out.cell 2
  have y3 : w3.cell? ⟨w.heap.size + 1, 3, none⟩ = some (.int .i64 ex) := BD3.out.cell 3
  go_wp2_with fail
  refine (SGN.out _).mono ?_
  rintro e w4 ⟨rfl, hb⟩
  have BW4 := hide (BW3.out.below hb BW3.out.lt)
  have BD4 := hide (BD3.out.below hb BD3.out.lt)
  have HB4 := hide (HB3.out.trans (hb.mono HB3.out.size))
  clear hb BW3 BD3 HB3 x0 x1 x2 y0 y1 y2 y3
  have x0 : w4.cell? ⟨w.heap.size, 0, none⟩ = some (.int .i64 23) := BW4.out.cell 0
  have x1 : w4.cell? ⟨w.heap.size, 1, none⟩ = some (.int .i64 8) := BW4.out.cell 1
  have x2 : w4.cell? ⟨w.heap.size, 2, none⟩ = some (.int .i64 (-149)) := BW4.out.cell 2
  have y0 : w4.cell? ⟨w.heap.size + 1, 0, none⟩ = some (.int .i64 0) := BD4.out.cell 0
  have y1 : w4.cell? ⟨w.heap.size + 1, 1, none⟩ = some (.bool true) := BD4.out.cell 1
  have y2 : w4.cell? ⟨w.heap.size + 1, 2, none⟩ = some (.string t) := BD4.out.cell 2
  have y3 : w4.cell? ⟨w.heap.size + 1, 3, none⟩ = some (.int .i64 ex) := BD4.out.cell 3
  go_wp2
  go_ret2
  refine ⟨?_, HB4.out⟩
  rw [← OR.out]
  rfl

theorem sig32_f : sigN 23 8 false = 0 := rfl
theorem sig32_t : sigN 23 8 true = 2147483648 := by decide

/-- A Dec that may be: its float's bits. -/
theorem float32_yes (c : Int) (neg : Bool) (t : ByteArray) (ex : Int) (w : World) (h : MayD c neg (bys t) ex) : Calls Tryz.prog 28 #[w32, dcV c neg t ex] w fun e w' => e = .returned (.tuple #[.int .u64 ((toD 23 8 149 ⟨c.toNat, neg, bys t, ex⟩ : Nat) : Int), .int .i64 0]) ∧ Below w.heap.size w w' := by
  have h' := h
  rcases h with ⟨rfl, _⟩ | ⟨rfl, h1, rfl⟩ | ⟨rfl, rfl, h1, rfl⟩
  · rcases (mayD_0 neg t ex).1 h' with h1 | h1
    · obtain ⟨h1, rfl⟩ := h1
      rw [size_nil h1]
      have hd : toD 23 8 149 ⟨(0 : Int).toNat, neg, bys ⟨#[]⟩, 0⟩ = sigN 23 8 neg := by
        unfold toD
        rw [if_neg (by simp), if_neg (by simp), if_pos (by simp [bys])]
      rw [hd]
      cases neg with
      | false =>
        rw [sig32_f]
        exact float32_zero_false w
      | true =>
        rw [sig32_t]
        exact float32_zero_true w
    · have hd : toD 23 8 149 ⟨(0 : Int).toNat, neg, bys t, ex⟩ = bitsOf 23 149 (infN 23 8) (decV (bys t) * 10 ^ ex.toNat) (10 ^ (-ex).toNat) + sigN 23 8 neg := by
        unfold toD
        rw [if_neg (by simp), if_neg (by simp), if_neg h1.1]
        rfl
      rw [hd]
      cases neg with
      | false =>
        rw [sig32_f, Nat.add_zero]
        exact float32_fin_false t ex w h1
      | true =>
        rw [sig32_t]
        exact float32_fin_true t ex w h1
  · rw [size_nil (bys_nil.1 h1)]
    have hd : toD 23 8 149 ⟨(1 : Int).toNat, neg, bys ⟨#[]⟩, 0⟩ = infN 23 8 + sigN 23 8 neg := by
      unfold toD
      rw [if_neg (by simp), if_pos (by simp)]
    rw [hd, inf32]
    cases neg with
    | false =>
      rw [sig32_f, Nat.add_zero]
      exact float32_inf_false w
    | true =>
      rw [sig32_t, show 2139095040 + 2147483648 = 4286578688 by decide]
      exact float32_inf_true w
  · rw [size_nil (bys_nil.1 h1)]
    have hd : toD 23 8 149 ⟨(2 : Int).toNat, false, bys ⟨#[]⟩, 0⟩ = 2143289345 := by
      unfold toD
      rw [if_pos (by simp), inf32]
    rw [hd]
    exact float32_nan w

set_option maxRecDepth 100000 in
set_option maxHeartbeats 1000000 in
theorem to32_of (c : Int) (neg : Bool) (t : ByteArray) (ex : Int) (r : Nat) (er : Int) (w : World) (hr : (r : Int) < 4294967296)
    (FL : ∀ W, Calls Tryz.prog 28 #[w32, dcV c neg t ex] W fun e w' => e = .returned (.tuple #[.int .u64 (r : Int), .int .i64 er]) ∧ Below W.heap.size W w') :
    Calls Tryz.prog 24 #[dcV c neg t ex] w fun e w' => e = .returned (.tuple #[.int .u32 (r : Int), .int .i64 er]) ∧ Below w.heap.size w w' := by
  have FLH := hide FL
  have blk := Blk.new w #[.int .i64 c, .bool neg, .string t, .int .i64 ex] 24
  obtain ⟨W, hW⟩ : ∃ W, W = w.alloc (.cells #[.int .i64 c, .bool neg, .string t, .int .i64 ex] 24) := ⟨_, rfl⟩
  rw [← hW] at blk
  have HBW : Hid (Below w.heap.size w W) := by rw [hW]; exact (Below.refl _ _).alloc (Nat.le_refl _) _
  have BLK := hide blk
  have HW := hide hW
  have c0 : W.cell? ⟨w.heap.size, 0, none⟩ = some (.int .i64 c) := blk.cell 0
  have c1 : W.cell? ⟨w.heap.size, 1, none⟩ = some (.bool neg) := blk.cell 1
  have c2 : W.cell? ⟨w.heap.size, 2, none⟩ = some (.string t) := blk.cell 2
  have c3 : W.cell? ⟨w.heap.size, 3, none⟩ = some (.int .i64 ex) := blk.cell 3
  have b0 : Hid (Below W.heap.size W W.drew) := bdrew' W
  have C1 : Hid (Calls Tryz.prog 44 #[] W.drew fun e w' => e = .returned w32 ∧ Hid (Below W.heap.size W w') ∧ w'.cell? ⟨w.heap.size, 0, none⟩ = some (.int .i64 c) ∧ w'.cell? ⟨w.heap.size, 1, none⟩ = some (.bool neg) ∧ w'.cell? ⟨w.heap.size, 2, none⟩ = some (.string t) ∧ w'.cell? ⟨w.heap.size, 3, none⟩ = some (.int .i64 ex)) := by
    refine (nbinary32_any W.drew).mono ?_
    rintro e w' ⟨rfl, hb⟩
    have hbb := b0.out.trans (hb.mono b0.out.size)
    have q := BLK.out.below hbb BLK.out.lt
    exact ⟨rfl, hbb, q.cell 0, q.cell 1, q.cell 2, q.cell 3⟩
  have C2 : Hid (∀ w1, Hid (Below W.heap.size W w1) → Calls Tryz.prog 28 #[w32, .agg #[.int .i64 c, .bool neg, .string t, .int .i64 ex]] w1 fun e w' => e = .returned (.tuple #[.int .u64 (r : Int), .int .i64 er]) ∧ Hid (Below W.heap.size W w') ∧ w'.cell? ⟨w.heap.size, 0, none⟩ = some (.int .i64 c) ∧ w'.cell? ⟨w.heap.size, 1, none⟩ = some (.bool neg) ∧ w'.cell? ⟨w.heap.size, 2, none⟩ = some (.string t) ∧ w'.cell? ⟨w.heap.size, 3, none⟩ = some (.int .i64 ex)) := by
    intro w1 h1
    refine (FLH.out w1).mono ?_
    rintro e w' ⟨rfl, hb⟩
    have hbb := h1.out.trans (hb.mono h1.out.size)
    have q := BLK.out.below hbb BLK.out.lt
    exact ⟨rfl, hbb, q.cell 0, q.cell 1, q.cell 2, q.cell 3⟩
  clear FL blk hW FLH
  go_enter Tryz.func24, Tryz.ntmps24
  go_wp2_with fail
  simp only [← HW.out]
  have mk0 : True := trivial
  go_region_held3 (fun w' => w'.cell? ⟨w.heap.size, 0, none⟩ = some (.int .i64 c) ∧ w'.cell? ⟨w.heap.size, 1, none⟩ = some (.bool neg) ∧ w'.cell? ⟨w.heap.size, 2, none⟩ = some (.string t) ∧ w'.cell? ⟨w.heap.size, 3, none⟩ = some (.int .i64 ex)) (go_keep) (first
    | (clear mk0; go_at_call 44; refine C1.out.mono ?_; rintro e w1 ⟨rfl, b1, k0, k1, k2, k3⟩; have mk1 : True := trivial)
    | (clear mk1; go_at_call 28; refine (C2.out _ b1).mono ?_; rintro e w2 ⟨rfl, b2, m0, m1, m2, m3⟩; have mk2 : True := trivial))
  all_goals (
    have FIN := hide (HBW.out.trans (b2.out.mono HBW.out.size))
    clear b1 b2 C1 C2
    go_wp2
    go_ret2
    exact ⟨rfl, FIN.out⟩)

theorem to32_no (c : Int) (neg : Bool) (t : ByteArray) (ex : Int) (w : World) (h : ¬ MayD c neg (bys t) ex) : Calls Tryz.prog 24 #[dcV c neg t ex] w fun e w' => e = .returned (.tuple #[.int .u32 0, .int .i64 40]) ∧ Below w.heap.size w w' :=
  to32_of c neg t ex 0 40 w (by omega) (fun W => float32_no c neg t ex W h)

theorem toD_lt32 (d : DecT) : toD 23 8 149 d < 4294967296 := by
  have h1 := bitsOf_le 23 149 (infN 23 8) (dOver d) (dUnder d)
  have h2 : sigN 23 8 d.neg ≤ 2147483648 := by unfold sigN; split <;> decide
  unfold toD
  rw [inf32] at *
  split
  · decide
  · split
    · omega
    · split <;> omega

theorem to32_yes (c : Int) (neg : Bool) (t : ByteArray) (ex : Int) (w : World) (h : MayD c neg (bys t) ex) : Calls Tryz.prog 24 #[dcV c neg t ex] w fun e w' => e = .returned (.tuple #[.int .u32 ((toD 23 8 149 ⟨c.toNat, neg, bys t, ex⟩ : Nat) : Int), .int .i64 0]) ∧ Below w.heap.size w w' :=
  to32_of c neg t ex _ 0 w (by have := toD_lt32 ⟨c.toNat, neg, bys t, ex⟩; omega) (fun W => float32_yes c neg t ex W h)

end Go.Proofs.YtpiloigpncbccacGreatDoor

namespace Go.Proofs.YtpiloigpncbccacGreatDoor
open Go.RowKit

/-- May a Dec be? -/
def May (d : DecT) : Prop := MayD (d.cls : Int) d.neg d.dig d.exp

theorem may_formed {d : DecT} {most : Nat} (h : Formed d most) (hm : most ≤ 1000) : May d := by
  unfold May MayD
  rw [h.cls]
  refine .inl ⟨rfl, ?_⟩
  by_cases h0 : d.dig = []
  · exact .inl ⟨h0, h.nil h0⟩
  · obtain ⟨c1, c2, c3, c4⟩ := h.cons h0
    have hl := h.len
    have hp := List.length_pos_iff.2 h0
    exact .inr ⟨h0, by omega, by omega, by omega, c1, c2, h.dig⟩

theorem may_dec {F X : Nat} {tell : Nat → Nat → Nat × Int} {b most : Nat} (hm : most ≤ 1000)
    (hf : ∀ neg, ¬ (b / 2 ^ F % 2 ^ X = 0 ∧ b % 2 ^ F = 0) → b / 2 ^ F % 2 ^ X ≠ 2 ^ X - 1 → Formed (decA neg (tell (b / 2 ^ F % 2 ^ X) (b % 2 ^ F)).1 (tell (b / 2 ^ F % 2 ^ X) (b % 2 ^ F)).2) most) : May (decOf F X tell b) := by
  unfold decOf
  split
  · split
    · exact .inr (.inl ⟨rfl, rfl, rfl⟩)
    · exact .inr (.inr ⟨rfl, rfl, rfl, rfl⟩)
  · next h1 =>
    split
    · exact .inl ⟨rfl, .inl ⟨rfl, rfl⟩⟩
    · next h2 => exact may_formed (hf _ h2 h1) hm

theorem fp64 {b : Nat} (h : b / 2 ^ 52 % 2 ^ 11 ≠ 2 ^ 11 - 1) : -1074 ≤ fPow 1074 (b / 2 ^ 52 % 2 ^ 11) ∧ fPow 1074 (b / 2 ^ 52 % 2 ^ 11) ≤ 971 := by
  have e : (2 : Nat) ^ 11 = 2048 := by decide
  rw [e] at *
  have := Nat.mod_lt (b / 2 ^ 52) (show 0 < 2048 by omega)
  generalize b / 2 ^ 52 % 2048 = x at *
  unfold fPow; split <;> omega

theorem fp32 {b : Nat} (_h : b / 2 ^ 23 % 2 ^ 8 ≠ 2 ^ 8 - 1) : -1074 ≤ fPow 149 (b / 2 ^ 23 % 2 ^ 8) ∧ fPow 149 (b / 2 ^ 23 % 2 ^ 8) ≤ 971 := by
  have e : (2 : Nat) ^ 8 = 256 := by decide
  rw [e] at *
  have := Nat.mod_lt (b / 2 ^ 23) (show 0 < 256 by omega)
  generalize b / 2 ^ 23 % 256 = x at *
  unfold fPow; split <;> omega

theorem may_of64 (b : Nat) : May (of64D b) := may_dec (most := 17) (by omega) fun neg h0 h1 => (fewD_formed neg (by omega) (Nat.mod_lt _ (Nat.pow_pos (by omega))) h0 (fp64 h1).1 (fp64 h1).2).1
theorem may_ex64 (b : Nat) : May (ex64D b) := may_dec (most := 767) (by omega) fun neg h0 h1 => (allD_formed neg (by omega) (Nat.mod_lt _ (Nat.pow_pos (by omega))) h0 (fp64 h1).1 (fp64 h1).2).1
theorem may_of32 (b : Nat) : May (of32D b) := may_dec (most := 17) (by omega) fun neg h0 h1 => (fewD_formed neg (by omega) (Nat.mod_lt _ (Nat.pow_pos (by omega))) h0 (fp32 h1).1 (fp32 h1).2).1
theorem may_ex32 (b : Nat) : May (ex32D b) := may_dec (most := 767) (by omega) fun neg h0 h1 => (allD_formed neg (by omega) (Nat.mod_lt _ (Nat.pow_pos (by omega))) h0 (fp32 h1).1 (fp32 h1).2).1

theorem to64_dec (d : DecT) (w : World) (h : May d) : Calls Tryz.prog 9 #[decVal d] w fun e w' => e = .returned (.tuple #[.int .u64 ((toD 52 11 1074 d : Nat) : Int), .int .i64 0]) ∧ Below w.heap.size w w' := by
  have hb : bys ⟨d.dig.toArray⟩ = d.dig := by simp [bys]
  have g := to64_yes (d.cls : Int) d.neg ⟨d.dig.toArray⟩ d.exp w (by rw [hb]; exact h)
  rw [hb, Int.toNat_natCast] at g
  exact g

theorem to32_dec (d : DecT) (w : World) (h : May d) : Calls Tryz.prog 24 #[decVal d] w fun e w' => e = .returned (.tuple #[.int .u32 ((toD 23 8 149 d : Nat) : Int), .int .i64 0]) ∧ Below w.heap.size w w' := by
  have hb : bys ⟨d.dig.toArray⟩ = d.dig := by simp [bys]
  have g := to32_yes (d.cls : Int) d.neg ⟨d.dig.toArray⟩ d.exp w (by rw [hb]; exact h)
  rw [hb, Int.toNat_natCast] at g
  exact g

set_option maxHeartbeats 1000000 in
theorem narrow_call (b : Nat) (w : World) (hb : b < 18446744073709551616) (htab : Tab w) : Calls Tryz.prog 25 #[.int .u64 (b : Int)] w fun e w' => e = .returned (.int .u32 ((toD 23 8 149 (ex64D b) : Nat) : Int)) ∧ Below w.heap.size w w' := by
  have E := hide (exact64_any b w hb htab)
  have T := hide (fun W => to32_dec (ex64D b) W (may_ex64 b))
  obtain ⟨r, hr⟩ : ∃ r, r = toD 23 8 149 (ex64D b) := ⟨_, rfl⟩
  rw [← hr] at T ⊢
  clear hr htab
  go_enter Tryz.func25, Tryz.ntmps25
  go_wp2_with fail
  refine E.out.mono ?_
  rintro e w1 ⟨rfl, hb1⟩
  have HB1 := hide hb1
  clear hb1 E
  go_wp2_with fail
  refine (T.out _).mono ?_
  rintro e w2 ⟨rfl, hb2⟩
  have HB2 := hide (HB1.out.trans (hb2.mono HB1.out.size))
  clear hb2 HB1 T
  go_wp2
  go_ret
  exact ⟨rfl, HB2.out⟩

set_option maxHeartbeats 1000000 in
theorem widen_call (b : Nat) (w : World) (hb : b < 4294967296) (htab : Tab w) : Calls Tryz.prog 26 #[.int .u32 (b : Int)] w fun e w' => e = .returned (.int .u64 ((toD 52 11 1074 (ex32D b) : Nat) : Int)) ∧ Below w.heap.size w w' := by
  have E := hide (exact32_any b w hb htab)
  have T := hide (fun W => to64_dec (ex32D b) W (may_ex32 b))
  obtain ⟨r, hr⟩ : ∃ r, r = toD 52 11 1074 (ex32D b) := ⟨_, rfl⟩
  rw [← hr] at T ⊢
  clear hr htab
  go_enter Tryz.func26, Tryz.ntmps26
  go_wp2_with fail
  refine E.out.mono ?_
  rintro e w1 ⟨rfl, hb1⟩
  have HB1 := hide hb1
  clear hb1 E
  go_wp2_with fail
  refine (T.out _).mono ?_
  rintro e w2 ⟨rfl, hb2⟩
  have HB2 := hide (HB1.out.trans (hb2.mono HB1.out.size))
  clear hb2 HB1 T
  go_wp2
  go_ret
  exact ⟨rfl, HB2.out⟩

theorem one64 : ex64D 0x3ff0000000000000 = ⟨0, false, [49], 0⟩ := by
  have h : ex64D 0x3ff0000000000000 = decA false (allD 52 1074 1023 0).1 (allD 52 1074 1023 0).2 := by unfold ex64D decOf; rw [if_neg (by decide), if_neg (by decide)]; rfl
  have h2 : (allD 52 1074 1023 0).1 = 1 * 10 ^ 52 := by decide +kernel
  have h3 : (allD 52 1074 1023 0).2 = -52 := by decide +kernel
  rw [h, h2, h3, decA_tens (by decide), decA_digit (by decide) (by decide)]
  rfl

theorem one32 : ex32D 0x3f800000 = ⟨0, false, [49], 0⟩ := by
  have h : ex32D 0x3f800000 = decA false (allD 23 149 127 0).1 (allD 23 149 127 0).2 := by unfold ex32D decOf; rw [if_neg (by decide), if_neg (by decide)]; rfl
  have h2 : (allD 23 149 127 0).1 = 1 * 10 ^ 23 := by decide +kernel
  have h3 : (allD 23 149 127 0).2 = -23 := by decide +kernel
  rw [h, h2, h3, decA_tens (by decide), decA_digit (by decide) (by decide)]
  rfl

theorem nw1 (w : World) : Calls Tryz.prog 9 #[.agg #[.int .i64 0, .bool false, .string ⟨#[49]⟩, .int .i64 (-1)]] w fun e w' => e = .returned (.tuple #[.int .u64 4591870180066957722, .int .i64 0]) ∧ Below w.heap.size w w' := by
  have h := to64_dec (of64D 0x3fb999999999999a) w (may_of64 _)
  rw [back64_of _ (by omega), show same64 0x3fb999999999999a = 4591870180066957722 by decide, awk1] at h
  exact h

theorem nw2 (w : World) : Calls Tryz.prog 24 #[.agg #[.int .i64 0, .bool false, .string ⟨#[49]⟩, .int .i64 (-1)]] w fun e w' => e = .returned (.tuple #[.int .u32 1036831949, .int .i64 0]) ∧ Below w.heap.size w w' := by
  have h := to32_dec (of32D 0x3dcccccd) w (may_of32 _)
  rw [back32_of _ (by omega), show same32 0x3dcccccd = 1036831949 by decide, awk3] at h
  exact h

theorem nw3 (w : World) : Calls Tryz.prog 9 #[.agg #[.int .i64 0, .bool false, .string ⟨#[48, 49]⟩, .int .i64 0]] w fun e w' => e = .returned (.tuple #[.int .u64 0, .int .i64 40]) ∧ Below w.heap.size w w' :=
  to64_no 0 false ⟨#[48, 49]⟩ 0 w (by
    rw [mayD_0]
    rintro (⟨h, _⟩ | ⟨_, _, _, _, h, _⟩)
    · exact absurd h (by decide)
    · exact h rfl)

theorem nw4 (w : World) : Calls Tryz.prog 24 #[.agg #[.int .i64 2, .bool true, .string ⟨#[]⟩, .int .i64 0]] w fun e w' => e = .returned (.tuple #[.int .u32 0, .int .i64 40]) ∧ Below w.heap.size w w' :=
  to32_no 2 true ⟨#[]⟩ 0 w (by
    rintro (⟨h, _⟩ | ⟨h, _⟩ | ⟨_, h, _⟩)
    · omega
    · omega
    · cases h)

theorem one_val64 : toD 52 11 1074 ⟨0, false, [49], 0⟩ = 4607182418800017408 := by
  have h := back64_ex 0x3ff0000000000000 (by omega)
  rw [one64] at h
  rw [h]; decide
theorem one_val32 : toD 23 8 149 ⟨0, false, [49], 0⟩ = 1065353216 := by
  have h := back32_ex 0x3f800000 (by omega)
  rw [one32] at h
  rw [h]; decide

theorem nw5 (w : World) (htab : Tab w) : Calls Tryz.prog 25 #[.int .u64 4607182418800017408] w fun e w' => e = .returned (.int .u32 1065353216) ∧ Below w.heap.size w w' := by
  have h := narrow_call 4607182418800017408 w (by omega) htab
  rw [show ex64D 4607182418800017408 = _ from one64, one_val32] at h
  exact h

theorem nw6 (w : World) (htab : Tab w) : Calls Tryz.prog 26 #[.int .u32 1065353216] w fun e w' => e = .returned (.int .u64 4607182418800017408) ∧ Below w.heap.size w w' := by
  have h := widen_call 1065353216 w (by omega) htab
  rw [show ex32D 1065353216 = _ from one32, one_val64] at h
  exact h

set_option maxRecDepth 100000 in
set_option maxHeartbeats 2000000 in
theorem nawake_any (w : World) (htab : Tab w) : Calls Tryz.prog 7 #[] w fun e w' => e = .returned (.bool true) ∧ Below w.heap.size w w' := by
  have HT := hide htab
  clear htab
  go_enter Tryz.func7, Tryz.ntmps7
  go_wp2_with fail
  refine (nw1 _).mono ?_
  rintro e w1 ⟨rfl, hb⟩
  have HB1 := hide hb
  clear hb
  go_wp2_with fail
  refine (nw2 _).mono ?_
  rintro e w2 ⟨rfl, hb⟩
  have HB2 := hide (HB1.out.trans (hb.mono HB1.out.size))
  clear hb HB1
  go_wp2_with fail
  refine (nw3 _).mono ?_
  rintro e w3 ⟨rfl, hb⟩
  have HB3 := hide (HB2.out.trans (hb.mono HB2.out.size))
  clear hb HB2
  go_wp2_with fail
  refine (nw4 _).mono ?_
  rintro e w4 ⟨rfl, hb⟩
  have HB4 := hide (HB3.out.trans (hb.mono HB3.out.size))
  clear hb HB3
  go_wp2_with fail
  refine (nw5 _ (HT.out.below HB4.out)).mono ?_
  rintro e w5 ⟨rfl, hb⟩
  have HB5 := hide (HB4.out.trans (hb.mono HB4.out.size))
  clear hb HB4
  go_wp2_with fail
  refine (nw6 _ (HT.out.below HB5.out)).mono ?_
  rintro e w6 ⟨rfl, hb⟩
  have HB6 := hide (HB5.out.trans (hb.mono HB5.out.size))
  clear hb HB5
  go_wp2
  go_ret
  exact ⟨rfl, HB6.out⟩

end Go.Proofs.YtpiloigpncbccacGreatDoor
