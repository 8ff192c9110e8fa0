/-
  What width's noughts, split, whole, fraction and digits do, out of what they call.
  What width's split, whole, fraction and digits answer, by the document's words.
  What width.Show answers, whatever it is handed.
-/
import Derived.Test.YtobloamnaemfnaaGreatDoorVB10
import Derived.Test.YtobloamnaemfnaaGreatDoorVB11
import Derived.Deep.RegionHeld3
import Derived.Test.YtobloamnaemfnaaGreatDoorVB14
import Derived.Test.YtobloamnaemfnaaGreatDoorVB15
namespace Go.Proofs.YtobloamnaemfnaaGreatDoor
open Go.RowKit

theorem noughts_any (n : Int) (w : World) (h : n ≤ 100000) : Calls Tryz.prog 128 #[.int .i64 n] w fun e w' => e = .returned (.string ⟨(nought n).toArray⟩) ∧ Below w.heap.size w w' := by
  have RP := hide (fun W => repeat_any n.toNat W (by omega))
  rw [show ((n.toNat : Nat) : Int) = max 0 n by omega] at RP
  obtain ⟨N, hN⟩ : ∃ N : ByteArray, N = ⟨(List.replicate n.toNat (48 : UInt8)).toArray⟩ := ⟨_, rfl⟩
  unfold nought
  rw [← hN] at RP ⊢
  clear hN h
  go_enter Tryz.func128, Tryz.ntmps128
  go_wp2_with fail
  refine (RP.out _).mono ?_
  rintro e w1 ⟨rfl, hb⟩
  have HB := hide hb
  clear hb
  go_wp2
  go_ret
  exact ⟨rfl, HB.out⟩

set_option maxHeartbeats 1000000 in
theorem split_a (n : Bool) (t N : ByteArray) (x pl : Int) (w : World) (hP : ∀ W, Calls Tryz.prog 33 #[dcV 0 n t x] W fun e w' => e = .returned (.int .i64 pl) ∧ Below W.heap.size W w') (h1 : pl ≤ 0) (h2 : -100000 ≤ pl) (hN : ∀ W, Calls Tryz.prog 128 #[.int .i64 (-pl)] W fun e w' => e = .returned (.string N) ∧ Below W.heap.size W w') (hs : N.size + t.size ≤ 100000) : Calls Tryz.prog 88 #[dcV 0 n t x] w fun e w' => e = .returned (.tuple #[.string ⟨#[]⟩, .string (N ++ t)]) ∧ Below w.heap.size w w' := by
  have HP := hide hP
  have HN := hide hN
  have hw : IntKind.i64.wrap (-pl) = -pl := by rw [IntKind.wrap_i64]; omega
  have hs2 : ¬ 9223372036854775807 < N.size + t.size := by omega
  clear hP hN hs
  have Br0 := hide (Blk.newAt w (w.heap.size) (rfl) #[.int .i64 0, .bool n, .string t, .int .i64 x] 23)
  have HB0 : Hid (Below w.heap.size w (w.alloc (.cells #[.int .i64 0, .bool n, .string t, .int .i64 x] 23))) := ((Below.refl _ _).alloc (Nat.le_refl _) _)
  go_enter Tryz.func88, Tryz.ntmps88
  go_wp2_with fail
  refine (HP.out _).mono ?_
  rintro e w1 ⟨rfl, hb⟩
  have Br1 := Blk.on Br0 hb
  have HB1 := hide (HB0.out.trans (hb.mono HB0.out.size))
  clear hb Br0 HB0 
  obtain ⟨yr0, yr1, yr2, yr3⟩ := Br1.out.four
  have b0 : Hid (Below w1.heap.size w1 w1.drew) := bdrewD w1
  have C0 : Hid (∀ X, Hid (Below w1.heap.size w1 X) → Calls Tryz.prog 128 #[.int .i64 (-pl)] X fun e w' => e = .returned (.string N) ∧ Hid (Below w1.heap.size w1 w') ∧ w'.cell? ⟨w.heap.size, 2, none⟩ = some (.string t)) := by
    intro X bX
    refine (HN.out X).mono ?_
    rintro e w' ⟨rfl, hb⟩
    have bb := bX.out.trans (hb.mono bX.out.size)
    have Brq := Br1.out.below bb Br1.out.lt
    exact ⟨rfl, bb, Brq.cell 2⟩
  go_wp2_with fail
  have mk0 : True := trivial
  go_region_held3 (fun w' => w'.cell? ⟨w.heap.size, 2, none⟩ = some (.string t)) (go_keep) (first
    | (clear mk0; go_at_call 128; refine (C0.out _ b0).mono ?_; rintro e w2 ⟨rfl, b1, q0_0⟩; have mk1 : True := trivial))
  have Br2 := hide (Br1.out.below b1.out Br1.out.lt)
  have HB2 := hide (HB1.out.trans (b1.out.mono HB1.out.size))
  clear mk1 b0 b1 C0 q0_0 Br1 HB1 yr0 yr1 yr2 yr3
  obtain ⟨yr0, yr1, yr2, yr3⟩ := Br2.out.four
  go_wp2
  go_ret2
  exact ⟨rfl, HB2.out⟩

set_option maxHeartbeats 1000000 in
theorem split_b (n : Bool) (t N : ByteArray) (x pl : Int) (w : World) (hP : ∀ W, Calls Tryz.prog 33 #[dcV 0 n t x] W fun e w' => e = .returned (.int .i64 pl) ∧ Below W.heap.size W w') (h1 : 0 < pl) (h2 : 0 ≤ x) (hN : ∀ W, Calls Tryz.prog 128 #[.int .i64 x] W fun e w' => e = .returned (.string N) ∧ Below W.heap.size W w') (hs : t.size + N.size ≤ 100000) : Calls Tryz.prog 88 #[dcV 0 n t x] w fun e w' => e = .returned (.tuple #[.string (t ++ N), .string ⟨#[]⟩]) ∧ Below w.heap.size w w' := by
  have HP := hide hP
  have HN := hide hN
  have hs2 : ¬ 9223372036854775807 < t.size + N.size := by omega
  clear hP hN hs
  have Br0 := hide (Blk.newAt w (w.heap.size) (rfl) #[.int .i64 0, .bool n, .string t, .int .i64 x] 23)
  have HB0 : Hid (Below w.heap.size w (w.alloc (.cells #[.int .i64 0, .bool n, .string t, .int .i64 x] 23))) := ((Below.refl _ _).alloc (Nat.le_refl _) _)
  go_enter Tryz.func88, Tryz.ntmps88
  go_wp2_with fail
  refine (HP.out _).mono ?_
  rintro e w1 ⟨rfl, hb⟩
  have Br1 := Blk.on Br0 hb
  have HB1 := hide (HB0.out.trans (hb.mono HB0.out.size))
  clear hb Br0 HB0 
  obtain ⟨yr0, yr1, yr2, yr3⟩ := Br1.out.four
  have b0 : Hid (Below w1.heap.size w1 w1.drew) := bdrewD w1
  have C0 : Hid (∀ X, Hid (Below w1.heap.size w1 X) → Calls Tryz.prog 128 #[.int .i64 x] X fun e w' => e = .returned (.string N) ∧ Hid (Below w1.heap.size w1 w') ∧ w'.cell? ⟨w.heap.size, 2, none⟩ = some (.string t) ∧ w'.cell? ⟨w.heap.size, 3, none⟩ = some (.int .i64 x)) := by
    intro X bX
    refine (HN.out X).mono ?_
    rintro e w' ⟨rfl, hb⟩
    have bb := bX.out.trans (hb.mono bX.out.size)
    have Brq := Br1.out.below bb Br1.out.lt
    exact ⟨rfl, bb, Brq.cell 2, Brq.cell 3⟩
  go_wp2_with fail
  have mk0 : True := trivial
  go_region_held3 (fun w' => w'.cell? ⟨w.heap.size, 2, none⟩ = some (.string t) ∧ w'.cell? ⟨w.heap.size, 3, none⟩ = some (.int .i64 x)) (go_keep) (first
    | (clear mk0; go_at_call 128; refine (C0.out _ b0).mono ?_; rintro e w2 ⟨rfl, b1, q0_0, q0_1⟩; have mk1 : True := trivial))
  have Br2 := hide (Br1.out.below b1.out Br1.out.lt)
  have HB2 := hide (HB1.out.trans (b1.out.mono HB1.out.size))
  clear mk1 b0 b1 C0 q0_0 q0_1 Br1 HB1 yr0 yr1 yr2 yr3
  obtain ⟨yr0, yr1, yr2, yr3⟩ := Br2.out.four
  go_wp2
  go_ret2
  exact ⟨rfl, HB2.out⟩

set_option maxHeartbeats 1000000 in
theorem split_c (n : Bool) (t : ByteArray) (x : Int) (q : Nat) (w : World) (hP : ∀ W, Calls Tryz.prog 33 #[dcV 0 n t x] W fun e w' => e = .returned (.int .i64 (q : Int)) ∧ Below W.heap.size W w') (h1 : 0 < q) (h2 : x < 0) (h3 : q ≤ t.size) : Calls Tryz.prog 88 #[dcV 0 n t x] w fun e w' => e = .returned (.tuple #[.string (t.extract 0 q), .string (t.extract q t.size)]) ∧ Below w.heap.size w w' := by
  have HP := hide hP
  have h4 : (q : Int) ≤ (t.size : Int) := by omega
  have h5 : (0 : Int) < (q : Int) := by omega
  clear hP h1
  have Br0 := hide (Blk.newAt w (w.heap.size) (rfl) #[.int .i64 0, .bool n, .string t, .int .i64 x] 23)
  have HB0 : Hid (Below w.heap.size w (w.alloc (.cells #[.int .i64 0, .bool n, .string t, .int .i64 x] 23))) := ((Below.refl _ _).alloc (Nat.le_refl _) _)
  go_enter Tryz.func88, Tryz.ntmps88
  go_wp2_with fail
  refine (HP.out _).mono ?_
  rintro e w1 ⟨rfl, hb⟩
  have Br1 := Blk.on Br0 hb
  have HB1 := hide (HB0.out.trans (hb.mono HB0.out.size))
  clear hb Br0 HB0 
  obtain ⟨yr0, yr1, yr2, yr3⟩ := Br1.out.four
  go_wp2_with fail
  go_region
  go_wp2
  go_ret2
  exact ⟨rfl, HB1.out.drew⟩

set_option maxHeartbeats 1000000 in
theorem whole_z (k mf xf ms xs : Int) (st : Bool) (cs : Int) (ns : Bool) (ts : ByteArray) (es md : Int) (hd : Bool) (im : Int) (A N : ByteArray) (w : World) (hN : ∀ W, Calls Tryz.prog 128 #[.int .i64 (im - (A.size : Int))] W fun e w' => e = .returned (.string N) ∧ Below W.heap.size W w') (i1 : 0 ≤ im) (i2 : im ≤ 99) (hs : N.size + A.size ≤ 100000)  : Calls Tryz.prog 89 #[prV k mf xf ms xs st cs ns ts es md hd im 0, .string A] w fun e w' => e = .returned (.string (N ++ A)) ∧ Below w.heap.size w w' := by
  have HN := hide hN
  have hs2 : ¬ 9223372036854775807 < N.size + A.size := by omega
  have hs3 : (N ++ A).size = N.size + A.size := ByteArray.size_append
  have hs4 : ((N ++ A).size : Int) = (N.size : Int) + (A.size : Int) := by omega
  clear hN
  have Bp0 := hide (Blk.newAt w (w.heap.size) (rfl) #[.int .i64 k, .int .i64 mf, .int .i64 xf, .int .i64 ms, .int .i64 xs, .bool st, .int .i64 cs, .bool ns, .string ts, .int .i64 es, .int .i64 md, .bool hd, .int .i64 im, .int .i64 0] 61)
  have HB0 : Hid (Below w.heap.size w (w.alloc (.cells #[.int .i64 k, .int .i64 mf, .int .i64 xf, .int .i64 ms, .int .i64 xs, .bool st, .int .i64 cs, .bool ns, .string ts, .int .i64 es, .int .i64 md, .bool hd, .int .i64 im, .int .i64 0] 61))) := ((Below.refl _ _).alloc (Nat.le_refl _) _)
  go_enter Tryz.func89, Tryz.ntmps89
  go_wp2_with fail
  refine (HN.out _).mono ?_
  rintro e w1 ⟨rfl, hb⟩
  have Bp1 := Blk.on Bp0 hb
  have HB1 := hide (HB0.out.trans (hb.mono HB0.out.size))
  clear hb Bp0 HB0 
  obtain ⟨yp0, yp1, yp2, yp3, yp4, yp5, yp6, yp7, yp8, yp9, yp10, yp11, yp12, yp13⟩ := Bp1.out.fourteen
  go_wp2
  go_ret
  exact ⟨rfl, HB1.out⟩

set_option maxHeartbeats 1000000 in
theorem whole_n (k mf xf ms xs : Int) (st : Bool) (cs : Int) (ns : Bool) (ts : ByteArray) (es md : Int) (hd : Bool) (im ix : Int) (A N : ByteArray) (w : World) (hN : ∀ W, Calls Tryz.prog 128 #[.int .i64 (im - (A.size : Int))] W fun e w' => e = .returned (.string N) ∧ Below W.heap.size W w') (i1 : 0 ≤ im) (i2 : im ≤ 99) (hs : N.size + A.size ≤ 100000) (g1 : 0 < ix) (g2 : (N.size : Int) + (A.size : Int) ≤ ix) : Calls Tryz.prog 89 #[prV k mf xf ms xs st cs ns ts es md hd im ix, .string A] w fun e w' => e = .returned (.string (N ++ A)) ∧ Below w.heap.size w w' := by
  have HN := hide hN
  have hs2 : ¬ 9223372036854775807 < N.size + A.size := by omega
  have hs3 : (N ++ A).size = N.size + A.size := ByteArray.size_append
  have hs4 : ((N ++ A).size : Int) = (N.size : Int) + (A.size : Int) := by omega
  have g3 : ¬ ix < (N.size : Int) + (A.size : Int) := by omega
  have g4 : decide (ix < (N.size : Int) + (A.size : Int)) = false := decide_eq_false g3
  clear hN
  have Bp0 := hide (Blk.newAt w (w.heap.size) (rfl) #[.int .i64 k, .int .i64 mf, .int .i64 xf, .int .i64 ms, .int .i64 xs, .bool st, .int .i64 cs, .bool ns, .string ts, .int .i64 es, .int .i64 md, .bool hd, .int .i64 im, .int .i64 ix] 61)
  have HB0 : Hid (Below w.heap.size w (w.alloc (.cells #[.int .i64 k, .int .i64 mf, .int .i64 xf, .int .i64 ms, .int .i64 xs, .bool st, .int .i64 cs, .bool ns, .string ts, .int .i64 es, .int .i64 md, .bool hd, .int .i64 im, .int .i64 ix] 61))) := ((Below.refl _ _).alloc (Nat.le_refl _) _)
  go_enter Tryz.func89, Tryz.ntmps89
  go_wp2_with fail
  refine (HN.out _).mono ?_
  rintro e w1 ⟨rfl, hb⟩
  have Bp1 := Blk.on Bp0 hb
  have HB1 := hide (HB0.out.trans (hb.mono HB0.out.size))
  clear hb Bp0 HB0 
  obtain ⟨yp0, yp1, yp2, yp3, yp4, yp5, yp6, yp7, yp8, yp9, yp10, yp11, yp12, yp13⟩ := Bp1.out.fourteen
  go_wp2
  go_ret
  exact ⟨rfl, HB1.out⟩

set_option maxHeartbeats 1000000 in
theorem whole_c (k mf xf ms xs : Int) (st : Bool) (cs : Int) (ns : Bool) (ts : ByteArray) (es md : Int) (hd : Bool) (im ix : Int) (A N : ByteArray) (w : World) (hN : ∀ W, Calls Tryz.prog 128 #[.int .i64 (im - (A.size : Int))] W fun e w' => e = .returned (.string N) ∧ Below W.heap.size W w') (i1 : 0 ≤ im) (i2 : im ≤ 99) (hs : N.size + A.size ≤ 100000) (q : Nat) (g1 : 0 < ix) (g2 : ix + (q : Int) = (N.size : Int) + (A.size : Int)) (g3 : 0 < q) : Calls Tryz.prog 89 #[prV k mf xf ms xs st cs ns ts es md hd im ix, .string A] w fun e w' => e = .returned (.string ((N ++ A).extract q (N.size + A.size))) ∧ Below w.heap.size w w' := by
  have HN := hide hN
  have hs2 : ¬ 9223372036854775807 < N.size + A.size := by omega
  have hs3 : (N ++ A).size = N.size + A.size := ByteArray.size_append
  have hs4 : ((N ++ A).size : Int) = (N.size : Int) + (A.size : Int) := by omega
  have g4 : ix < (N.size : Int) + (A.size : Int) := by omega
  have g5 : (N.size : Int) + (A.size : Int) - ix = (q : Int) := by omega
  clear g2
  clear hN
  have Bp0 := hide (Blk.newAt w (w.heap.size) (rfl) #[.int .i64 k, .int .i64 mf, .int .i64 xf, .int .i64 ms, .int .i64 xs, .bool st, .int .i64 cs, .bool ns, .string ts, .int .i64 es, .int .i64 md, .bool hd, .int .i64 im, .int .i64 ix] 61)
  have HB0 : Hid (Below w.heap.size w (w.alloc (.cells #[.int .i64 k, .int .i64 mf, .int .i64 xf, .int .i64 ms, .int .i64 xs, .bool st, .int .i64 cs, .bool ns, .string ts, .int .i64 es, .int .i64 md, .bool hd, .int .i64 im, .int .i64 ix] 61))) := ((Below.refl _ _).alloc (Nat.le_refl _) _)
  go_enter Tryz.func89, Tryz.ntmps89
  go_wp2_with fail
  refine (HN.out _).mono ?_
  rintro e w1 ⟨rfl, hb⟩
  have Bp1 := Blk.on Bp0 hb
  have HB1 := hide (HB0.out.trans (hb.mono HB0.out.size))
  clear hb Bp0 HB0 
  obtain ⟨yp0, yp1, yp2, yp3, yp4, yp5, yp6, yp7, yp8, yp9, yp10, yp11, yp12, yp13⟩ := Bp1.out.fourteen
  go_wp2
  go_ret
  exact ⟨rfl, HB1.out⟩

set_option maxHeartbeats 1000000 in
theorem frac_h (k mf xf ms xs : Int) (st : Bool) (cs : Int) (ns : Bool) (ts : ByteArray) (es md im ix n : Int) (w : World) : Calls Tryz.prog 90 #[prV k mf xf ms xs st cs ns ts es md true im ix, .string ⟨#[]⟩, .int .i64 n] w fun e w' => e = .returned (.string ⟨#[]⟩) ∧ Below w.heap.size w w' := by
  have Bp0 := hide (Blk.newAt w (w.heap.size) (rfl) #[.int .i64 k, .int .i64 mf, .int .i64 xf, .int .i64 ms, .int .i64 xs, .bool st, .int .i64 cs, .bool ns, .string ts, .int .i64 es, .int .i64 md, .bool true, .int .i64 im, .int .i64 ix] 61)
  have HB0 : Hid (Below w.heap.size w (w.alloc (.cells #[.int .i64 k, .int .i64 mf, .int .i64 xf, .int .i64 ms, .int .i64 xs, .bool st, .int .i64 cs, .bool ns, .string ts, .int .i64 es, .int .i64 md, .bool true, .int .i64 im, .int .i64 ix] 61))) := ((Below.refl _ _).alloc (Nat.le_refl _) _)
  go_enter Tryz.func90, Tryz.ntmps90
  go_wp2
  go_ret
  exact ⟨rfl, HB0.out⟩

set_option maxHeartbeats 1000000 in
theorem frac_f (k mf xf ms xs : Int) (st : Bool) (cs : Int) (ns : Bool) (ts : ByteArray) (es md im ix : Int) (B N : ByteArray) (n : Int) (w : World) (hN : ∀ W, Calls Tryz.prog 128 #[.int .i64 (n - (B.size : Int))] W fun e w' => e = .returned (.string N) ∧ Below W.heap.size W w') (n1 : -100000 ≤ n) (n2 : n ≤ 100000) (hs : B.size + N.size ≤ 100000)  : Calls Tryz.prog 90 #[prV k mf xf ms xs st cs ns ts es md false im ix, .string B, .int .i64 n] w fun e w' => e = .returned (.string (B ++ N)) ∧ Below w.heap.size w w' := by
  have HN := hide hN
  have hs2 : ¬ 9223372036854775807 < B.size + N.size := by omega
  clear hN
  have Bp0 := hide (Blk.newAt w (w.heap.size) (rfl) #[.int .i64 k, .int .i64 mf, .int .i64 xf, .int .i64 ms, .int .i64 xs, .bool st, .int .i64 cs, .bool ns, .string ts, .int .i64 es, .int .i64 md, .bool false, .int .i64 im, .int .i64 ix] 61)
  have HB0 : Hid (Below w.heap.size w (w.alloc (.cells #[.int .i64 k, .int .i64 mf, .int .i64 xf, .int .i64 ms, .int .i64 xs, .bool st, .int .i64 cs, .bool ns, .string ts, .int .i64 es, .int .i64 md, .bool false, .int .i64 im, .int .i64 ix] 61))) := ((Below.refl _ _).alloc (Nat.le_refl _) _)
  go_enter Tryz.func90, Tryz.ntmps90
  go_wp2_with fail
  refine (HN.out _).mono ?_
  rintro e w1 ⟨rfl, hb⟩
  have Bp1 := Blk.on Bp0 hb
  have HB1 := hide (HB0.out.trans (hb.mono HB0.out.size))
  clear hb Bp0 HB0 
  obtain ⟨yp0, yp1, yp2, yp3, yp4, yp5, yp6, yp7, yp8, yp9, yp10, yp11, yp12, yp13⟩ := Bp1.out.fourteen
  go_wp2
  go_ret
  exact ⟨rfl, HB1.out⟩

set_option maxHeartbeats 1000000 in
theorem frac_b (k mf xf ms xs : Int) (st : Bool) (cs : Int) (ns : Bool) (ts : ByteArray) (es md im ix : Int) (B N : ByteArray) (n : Int) (w : World) (hN : ∀ W, Calls Tryz.prog 128 #[.int .i64 (n - (B.size : Int))] W fun e w' => e = .returned (.string N) ∧ Below W.heap.size W w') (n1 : -100000 ≤ n) (n2 : n ≤ 100000) (hs : B.size + N.size ≤ 100000) (h0 : B.size ≠ 0) : Calls Tryz.prog 90 #[prV k mf xf ms xs st cs ns ts es md true im ix, .string B, .int .i64 n] w fun e w' => e = .returned (.string (B ++ N)) ∧ Below w.heap.size w w' := by
  have HN := hide hN
  have hs2 : ¬ 9223372036854775807 < B.size + N.size := by omega
  clear hN
  have h3 := toList_ne h0
  clear h0
  have Bp0 := hide (Blk.newAt w (w.heap.size) (rfl) #[.int .i64 k, .int .i64 mf, .int .i64 xf, .int .i64 ms, .int .i64 xs, .bool st, .int .i64 cs, .bool ns, .string ts, .int .i64 es, .int .i64 md, .bool true, .int .i64 im, .int .i64 ix] 61)
  have HB0 : Hid (Below w.heap.size w (w.alloc (.cells #[.int .i64 k, .int .i64 mf, .int .i64 xf, .int .i64 ms, .int .i64 xs, .bool st, .int .i64 cs, .bool ns, .string ts, .int .i64 es, .int .i64 md, .bool true, .int .i64 im, .int .i64 ix] 61))) := ((Below.refl _ _).alloc (Nat.le_refl _) _)
  go_enter Tryz.func90, Tryz.ntmps90
  go_wp2_with fail
  refine (HN.out _).mono ?_
  rintro e w1 ⟨rfl, hb⟩
  have Bp1 := Blk.on Bp0 hb
  have HB1 := hide (HB0.out.trans (hb.mono HB0.out.size))
  clear hb Bp0 HB0 
  obtain ⟨yp0, yp1, yp2, yp3, yp4, yp5, yp6, yp7, yp8, yp9, yp10, yp11, yp12, yp13⟩ := Bp1.out.fourteen
  go_wp2
  go_ret
  exact ⟨rfl, HB1.out⟩

set_option maxHeartbeats 2000000 in
theorem digits_z (k mf xf ms xs : Int) (st : Bool) (cs : Int) (ns : Bool) (ts : ByteArray) (es md : Int) (hd : Bool) (im ix cr : Int) (nr : Bool) (tr : ByteArray) (er n : Int) (A B  : ByteArray) (w : World) (hS : ∀ W, Calls Tryz.prog 88 #[dcV cr nr tr er] W fun e w' => e = .returned (.tuple #[.string A, .string B]) ∧ Below W.heap.size W w') (hW : ∀ W, Calls Tryz.prog 89 #[prV k mf xf ms xs st cs ns ts es md hd im ix, .string A] W fun e w' => e = .returned (.string ⟨#[]⟩) ∧ Below W.heap.size W w') (hF : ∀ W, Calls Tryz.prog 90 #[prV k mf xf ms xs st cs ns ts es md hd im ix, .string B, .int .i64 n] W fun e w' => e = .returned (.string ⟨#[]⟩) ∧ Below W.heap.size W w')  : Calls Tryz.prog 38 #[prV k mf xf ms xs st cs ns ts es md hd im ix, dcV cr nr tr er, .int .i64 n] w fun e w' => e = .returned (.tuple #[.string ⟨#[48]⟩, .string ⟨#[]⟩]) ∧ Below w.heap.size w w' := by
  have HS := hide hS
  have HWh := hide hW
  have HFr := hide hF
  clear hS hW hF
  have Bp0 := hide ((Blk.newAt w (w.heap.size) (rfl) #[.int .i64 k, .int .i64 mf, .int .i64 xf, .int .i64 ms, .int .i64 xs, .bool st, .int .i64 cs, .bool ns, .string ts, .int .i64 es, .int .i64 md, .bool hd, .int .i64 im, .int .i64 ix] 61).alloc (.cells #[.int .i64 cr, .bool nr, .string tr, .int .i64 er] 23))
  have Br0 := hide (Blk.newAt (w.alloc (.cells #[.int .i64 k, .int .i64 mf, .int .i64 xf, .int .i64 ms, .int .i64 xs, .bool st, .int .i64 cs, .bool ns, .string ts, .int .i64 es, .int .i64 md, .bool hd, .int .i64 im, .int .i64 ix] 61)) (w.heap.size + 1) (by simp) #[.int .i64 cr, .bool nr, .string tr, .int .i64 er] 23)
  have HB0 : Hid (Below w.heap.size w ((w.alloc (.cells #[.int .i64 k, .int .i64 mf, .int .i64 xf, .int .i64 ms, .int .i64 xs, .bool st, .int .i64 cs, .bool ns, .string ts, .int .i64 es, .int .i64 md, .bool hd, .int .i64 im, .int .i64 ix] 61)).alloc (.cells #[.int .i64 cr, .bool nr, .string tr, .int .i64 er] 23))) := (((Below.refl _ _).alloc (Nat.le_refl _) _).alloc (by simp <;> omega) _)
  go_enter Tryz.func38, Tryz.ntmps38
  go_wp2_with fail
  refine (HS.out _).mono ?_
  rintro e w1 ⟨rfl, hb⟩
  have Bp1 := Blk.on Bp0 hb
  have Br1 := Blk.on Br0 hb
  have HB1 := hide (HB0.out.trans (hb.mono HB0.out.size))
  clear hb Bp0 Br0 HB0 
  obtain ⟨yp0, yp1, yp2, yp3, yp4, yp5, yp6, yp7, yp8, yp9, yp10, yp11, yp12, yp13⟩ := Bp1.out.fourteen
  obtain ⟨yr0, yr1, yr2, yr3⟩ := Br1.out.four
  have b0 : Hid (Below w1.heap.size w1 w1.drew) := bdrewD w1
  have HC : Hid (∀ w', Below w1.heap.size w1 w' → w'.cell? ⟨w.heap.size, 0, none⟩ = some (.int .i64 k) ∧ w'.cell? ⟨w.heap.size, 1, none⟩ = some (.int .i64 mf) ∧ w'.cell? ⟨w.heap.size, 2, none⟩ = some (.int .i64 xf) ∧ w'.cell? ⟨w.heap.size, 3, none⟩ = some (.int .i64 ms) ∧ w'.cell? ⟨w.heap.size, 4, none⟩ = some (.int .i64 xs) ∧ w'.cell? ⟨w.heap.size, 5, none⟩ = some (.bool st) ∧ w'.cell? ⟨w.heap.size, 6, none⟩ = some (.int .i64 cs) ∧ w'.cell? ⟨w.heap.size, 7, none⟩ = some (.bool ns) ∧ w'.cell? ⟨w.heap.size, 8, none⟩ = some (.string ts) ∧ w'.cell? ⟨w.heap.size, 9, none⟩ = some (.int .i64 es) ∧ w'.cell? ⟨w.heap.size, 10, none⟩ = some (.int .i64 md) ∧ w'.cell? ⟨w.heap.size, 11, none⟩ = some (.bool hd) ∧ w'.cell? ⟨w.heap.size, 12, none⟩ = some (.int .i64 im) ∧ w'.cell? ⟨w.heap.size, 13, none⟩ = some (.int .i64 ix)) := fun w' hb => (Bp1.out.below hb Bp1.out.lt).fourteen
  clear Bp1 Br1
  go_wp2_with fail
  have mk0 : True := trivial
  go_region_held3 (fun w' => w'.cell? ⟨w.heap.size, 0, none⟩ = some (.int .i64 k) ∧ w'.cell? ⟨w.heap.size, 1, none⟩ = some (.int .i64 mf) ∧ w'.cell? ⟨w.heap.size, 2, none⟩ = some (.int .i64 xf) ∧ w'.cell? ⟨w.heap.size, 3, none⟩ = some (.int .i64 ms) ∧ w'.cell? ⟨w.heap.size, 4, none⟩ = some (.int .i64 xs) ∧ w'.cell? ⟨w.heap.size, 5, none⟩ = some (.bool st) ∧ w'.cell? ⟨w.heap.size, 6, none⟩ = some (.int .i64 cs) ∧ w'.cell? ⟨w.heap.size, 7, none⟩ = some (.bool ns) ∧ w'.cell? ⟨w.heap.size, 8, none⟩ = some (.string ts) ∧ w'.cell? ⟨w.heap.size, 9, none⟩ = some (.int .i64 es) ∧ w'.cell? ⟨w.heap.size, 10, none⟩ = some (.int .i64 md) ∧ w'.cell? ⟨w.heap.size, 11, none⟩ = some (.bool hd) ∧ w'.cell? ⟨w.heap.size, 12, none⟩ = some (.int .i64 im) ∧ w'.cell? ⟨w.heap.size, 13, none⟩ = some (.int .i64 ix)) (go_keep) (first
    | (clear mk0; go_at_call 89; refine (HWh.out _).mono ?_; rintro e umkw ⟨rfl, hb⟩; have b1 := hide (b0.out.trans (hb.mono b0.out.size)); clear hb; obtain ⟨qmkw_0, qmkw_1, qmkw_2, qmkw_3, qmkw_4, qmkw_5, qmkw_6, qmkw_7, qmkw_8, qmkw_9, qmkw_10, qmkw_11, qmkw_12, qmkw_13⟩ := HC.out _ b1.out; have mkw : True := trivial)
    | (clear mk0; go_at_call 90; refine (HFr.out _).mono ?_; rintro e umkf ⟨rfl, hb⟩; have b1 := hide (b0.out.trans (hb.mono b0.out.size)); clear hb; obtain ⟨qmkf_0, qmkf_1, qmkf_2, qmkf_3, qmkf_4, qmkf_5, qmkf_6, qmkf_7, qmkf_8, qmkf_9, qmkf_10, qmkf_11, qmkf_12, qmkf_13⟩ := HC.out _ b1.out; have mkf : True := trivial)
    | (clear mkw; go_at_call 90; refine (HFr.out _).mono ?_; rintro e umkx ⟨rfl, hb⟩; have b2 := hide (b1.out.trans (hb.mono b1.out.size)); clear hb; obtain ⟨qmkx_0, qmkx_1, qmkx_2, qmkx_3, qmkx_4, qmkx_5, qmkx_6, qmkx_7, qmkx_8, qmkx_9, qmkx_10, qmkx_11, qmkx_12, qmkx_13⟩ := HC.out _ b2.out; have mkx : True := trivial)
    | (clear mkf; go_at_call 89; refine (HWh.out _).mono ?_; rintro e umkx ⟨rfl, hb⟩; have b2 := hide (b1.out.trans (hb.mono b1.out.size)); clear hb; obtain ⟨qmkx_0, qmkx_1, qmkx_2, qmkx_3, qmkx_4, qmkx_5, qmkx_6, qmkx_7, qmkx_8, qmkx_9, qmkx_10, qmkx_11, qmkx_12, qmkx_13⟩ := HC.out _ b2.out; have mkx : True := trivial))
  all_goals
    have HBE := hide (HB1.out.trans (b2.out.mono HB1.out.size))
    go_wp2
    go_ret2
    exact ⟨rfl, HBE.out⟩

set_option maxHeartbeats 2000000 in
theorem digits_i (k mf xf ms xs : Int) (st : Bool) (cs : Int) (ns : Bool) (ts : ByteArray) (es md : Int) (hd : Bool) (im ix cr : Int) (nr : Bool) (tr : ByteArray) (er n : Int) (A B I F : ByteArray) (w : World) (hS : ∀ W, Calls Tryz.prog 88 #[dcV cr nr tr er] W fun e w' => e = .returned (.tuple #[.string A, .string B]) ∧ Below W.heap.size W w') (hW : ∀ W, Calls Tryz.prog 89 #[prV k mf xf ms xs st cs ns ts es md hd im ix, .string A] W fun e w' => e = .returned (.string I) ∧ Below W.heap.size W w') (hF : ∀ W, Calls Tryz.prog 90 #[prV k mf xf ms xs st cs ns ts es md hd im ix, .string B, .int .i64 n] W fun e w' => e = .returned (.string F) ∧ Below W.heap.size W w') (h0 : I.size ≠ 0) : Calls Tryz.prog 38 #[prV k mf xf ms xs st cs ns ts es md hd im ix, dcV cr nr tr er, .int .i64 n] w fun e w' => e = .returned (.tuple #[.string I, .string F]) ∧ Below w.heap.size w w' := by
  have HS := hide hS
  have HWh := hide hW
  have HFr := hide hF
  clear hS hW hF
  have h3 := toList_ne h0
  clear h0
  have Bp0 := hide ((Blk.newAt w (w.heap.size) (rfl) #[.int .i64 k, .int .i64 mf, .int .i64 xf, .int .i64 ms, .int .i64 xs, .bool st, .int .i64 cs, .bool ns, .string ts, .int .i64 es, .int .i64 md, .bool hd, .int .i64 im, .int .i64 ix] 61).alloc (.cells #[.int .i64 cr, .bool nr, .string tr, .int .i64 er] 23))
  have Br0 := hide (Blk.newAt (w.alloc (.cells #[.int .i64 k, .int .i64 mf, .int .i64 xf, .int .i64 ms, .int .i64 xs, .bool st, .int .i64 cs, .bool ns, .string ts, .int .i64 es, .int .i64 md, .bool hd, .int .i64 im, .int .i64 ix] 61)) (w.heap.size + 1) (by simp) #[.int .i64 cr, .bool nr, .string tr, .int .i64 er] 23)
  have HB0 : Hid (Below w.heap.size w ((w.alloc (.cells #[.int .i64 k, .int .i64 mf, .int .i64 xf, .int .i64 ms, .int .i64 xs, .bool st, .int .i64 cs, .bool ns, .string ts, .int .i64 es, .int .i64 md, .bool hd, .int .i64 im, .int .i64 ix] 61)).alloc (.cells #[.int .i64 cr, .bool nr, .string tr, .int .i64 er] 23))) := (((Below.refl _ _).alloc (Nat.le_refl _) _).alloc (by simp <;> omega) _)
  go_enter Tryz.func38, Tryz.ntmps38
  go_wp2_with fail
  refine (HS.out _).mono ?_
  rintro e w1 ⟨rfl, hb⟩
  have Bp1 := Blk.on Bp0 hb
  have Br1 := Blk.on Br0 hb
  have HB1 := hide (HB0.out.trans (hb.mono HB0.out.size))
  clear hb Bp0 Br0 HB0 
  obtain ⟨yp0, yp1, yp2, yp3, yp4, yp5, yp6, yp7, yp8, yp9, yp10, yp11, yp12, yp13⟩ := Bp1.out.fourteen
  obtain ⟨yr0, yr1, yr2, yr3⟩ := Br1.out.four
  have b0 : Hid (Below w1.heap.size w1 w1.drew) := bdrewD w1
  have HC : Hid (∀ w', Below w1.heap.size w1 w' → w'.cell? ⟨w.heap.size, 0, none⟩ = some (.int .i64 k) ∧ w'.cell? ⟨w.heap.size, 1, none⟩ = some (.int .i64 mf) ∧ w'.cell? ⟨w.heap.size, 2, none⟩ = some (.int .i64 xf) ∧ w'.cell? ⟨w.heap.size, 3, none⟩ = some (.int .i64 ms) ∧ w'.cell? ⟨w.heap.size, 4, none⟩ = some (.int .i64 xs) ∧ w'.cell? ⟨w.heap.size, 5, none⟩ = some (.bool st) ∧ w'.cell? ⟨w.heap.size, 6, none⟩ = some (.int .i64 cs) ∧ w'.cell? ⟨w.heap.size, 7, none⟩ = some (.bool ns) ∧ w'.cell? ⟨w.heap.size, 8, none⟩ = some (.string ts) ∧ w'.cell? ⟨w.heap.size, 9, none⟩ = some (.int .i64 es) ∧ w'.cell? ⟨w.heap.size, 10, none⟩ = some (.int .i64 md) ∧ w'.cell? ⟨w.heap.size, 11, none⟩ = some (.bool hd) ∧ w'.cell? ⟨w.heap.size, 12, none⟩ = some (.int .i64 im) ∧ w'.cell? ⟨w.heap.size, 13, none⟩ = some (.int .i64 ix)) := fun w' hb => (Bp1.out.below hb Bp1.out.lt).fourteen
  clear Bp1 Br1
  go_wp2_with fail
  have mk0 : True := trivial
  go_region_held3 (fun w' => w'.cell? ⟨w.heap.size, 0, none⟩ = some (.int .i64 k) ∧ w'.cell? ⟨w.heap.size, 1, none⟩ = some (.int .i64 mf) ∧ w'.cell? ⟨w.heap.size, 2, none⟩ = some (.int .i64 xf) ∧ w'.cell? ⟨w.heap.size, 3, none⟩ = some (.int .i64 ms) ∧ w'.cell? ⟨w.heap.size, 4, none⟩ = some (.int .i64 xs) ∧ w'.cell? ⟨w.heap.size, 5, none⟩ = some (.bool st) ∧ w'.cell? ⟨w.heap.size, 6, none⟩ = some (.int .i64 cs) ∧ w'.cell? ⟨w.heap.size, 7, none⟩ = some (.bool ns) ∧ w'.cell? ⟨w.heap.size, 8, none⟩ = some (.string ts) ∧ w'.cell? ⟨w.heap.size, 9, none⟩ = some (.int .i64 es) ∧ w'.cell? ⟨w.heap.size, 10, none⟩ = some (.int .i64 md) ∧ w'.cell? ⟨w.heap.size, 11, none⟩ = some (.bool hd) ∧ w'.cell? ⟨w.heap.size, 12, none⟩ = some (.int .i64 im) ∧ w'.cell? ⟨w.heap.size, 13, none⟩ = some (.int .i64 ix)) (go_keep) (first
    | (clear mk0; go_at_call 89; refine (HWh.out _).mono ?_; rintro e umkw ⟨rfl, hb⟩; have b1 := hide (b0.out.trans (hb.mono b0.out.size)); clear hb; obtain ⟨qmkw_0, qmkw_1, qmkw_2, qmkw_3, qmkw_4, qmkw_5, qmkw_6, qmkw_7, qmkw_8, qmkw_9, qmkw_10, qmkw_11, qmkw_12, qmkw_13⟩ := HC.out _ b1.out; have mkw : True := trivial)
    | (clear mk0; go_at_call 90; refine (HFr.out _).mono ?_; rintro e umkf ⟨rfl, hb⟩; have b1 := hide (b0.out.trans (hb.mono b0.out.size)); clear hb; obtain ⟨qmkf_0, qmkf_1, qmkf_2, qmkf_3, qmkf_4, qmkf_5, qmkf_6, qmkf_7, qmkf_8, qmkf_9, qmkf_10, qmkf_11, qmkf_12, qmkf_13⟩ := HC.out _ b1.out; have mkf : True := trivial)
    | (clear mkw; go_at_call 90; refine (HFr.out _).mono ?_; rintro e umkx ⟨rfl, hb⟩; have b2 := hide (b1.out.trans (hb.mono b1.out.size)); clear hb; obtain ⟨qmkx_0, qmkx_1, qmkx_2, qmkx_3, qmkx_4, qmkx_5, qmkx_6, qmkx_7, qmkx_8, qmkx_9, qmkx_10, qmkx_11, qmkx_12, qmkx_13⟩ := HC.out _ b2.out; have mkx : True := trivial)
    | (clear mkf; go_at_call 89; refine (HWh.out _).mono ?_; rintro e umkx ⟨rfl, hb⟩; have b2 := hide (b1.out.trans (hb.mono b1.out.size)); clear hb; obtain ⟨qmkx_0, qmkx_1, qmkx_2, qmkx_3, qmkx_4, qmkx_5, qmkx_6, qmkx_7, qmkx_8, qmkx_9, qmkx_10, qmkx_11, qmkx_12, qmkx_13⟩ := HC.out _ b2.out; have mkx : True := trivial))
  all_goals
    have HBE := hide (HB1.out.trans (b2.out.mono HB1.out.size))
    go_wp2
    go_ret2
    exact ⟨rfl, HBE.out⟩

set_option maxHeartbeats 2000000 in
theorem digits_f (k mf xf ms xs : Int) (st : Bool) (cs : Int) (ns : Bool) (ts : ByteArray) (es md : Int) (hd : Bool) (im ix cr : Int) (nr : Bool) (tr : ByteArray) (er n : Int) (A B F : ByteArray) (w : World) (hS : ∀ W, Calls Tryz.prog 88 #[dcV cr nr tr er] W fun e w' => e = .returned (.tuple #[.string A, .string B]) ∧ Below W.heap.size W w') (hW : ∀ W, Calls Tryz.prog 89 #[prV k mf xf ms xs st cs ns ts es md hd im ix, .string A] W fun e w' => e = .returned (.string ⟨#[]⟩) ∧ Below W.heap.size W w') (hF : ∀ W, Calls Tryz.prog 90 #[prV k mf xf ms xs st cs ns ts es md hd im ix, .string B, .int .i64 n] W fun e w' => e = .returned (.string F) ∧ Below W.heap.size W w') (h0 : F.size ≠ 0) : Calls Tryz.prog 38 #[prV k mf xf ms xs st cs ns ts es md hd im ix, dcV cr nr tr er, .int .i64 n] w fun e w' => e = .returned (.tuple #[.string ⟨#[]⟩, .string F]) ∧ Below w.heap.size w w' := by
  have HS := hide hS
  have HWh := hide hW
  have HFr := hide hF
  clear hS hW hF
  have h3 := toList_ne h0
  clear h0
  have Bp0 := hide ((Blk.newAt w (w.heap.size) (rfl) #[.int .i64 k, .int .i64 mf, .int .i64 xf, .int .i64 ms, .int .i64 xs, .bool st, .int .i64 cs, .bool ns, .string ts, .int .i64 es, .int .i64 md, .bool hd, .int .i64 im, .int .i64 ix] 61).alloc (.cells #[.int .i64 cr, .bool nr, .string tr, .int .i64 er] 23))
  have Br0 := hide (Blk.newAt (w.alloc (.cells #[.int .i64 k, .int .i64 mf, .int .i64 xf, .int .i64 ms, .int .i64 xs, .bool st, .int .i64 cs, .bool ns, .string ts, .int .i64 es, .int .i64 md, .bool hd, .int .i64 im, .int .i64 ix] 61)) (w.heap.size + 1) (by simp) #[.int .i64 cr, .bool nr, .string tr, .int .i64 er] 23)
  have HB0 : Hid (Below w.heap.size w ((w.alloc (.cells #[.int .i64 k, .int .i64 mf, .int .i64 xf, .int .i64 ms, .int .i64 xs, .bool st, .int .i64 cs, .bool ns, .string ts, .int .i64 es, .int .i64 md, .bool hd, .int .i64 im, .int .i64 ix] 61)).alloc (.cells #[.int .i64 cr, .bool nr, .string tr, .int .i64 er] 23))) := (((Below.refl _ _).alloc (Nat.le_refl _) _).alloc (by simp <;> omega) _)
  go_enter Tryz.func38, Tryz.ntmps38
  go_wp2_with fail
  refine (HS.out _).mono ?_
  rintro e w1 ⟨rfl, hb⟩
  have Bp1 := Blk.on Bp0 hb
  have Br1 := Blk.on Br0 hb
  have HB1 := hide (HB0.out.trans (hb.mono HB0.out.size))
  clear hb Bp0 Br0 HB0 
  obtain ⟨yp0, yp1, yp2, yp3, yp4, yp5, yp6, yp7, yp8, yp9, yp10, yp11, yp12, yp13⟩ := Bp1.out.fourteen
  obtain ⟨yr0, yr1, yr2, yr3⟩ := Br1.out.four
  have b0 : Hid (Below w1.heap.size w1 w1.drew) := bdrewD w1
  have HC : Hid (∀ w', Below w1.heap.size w1 w' → w'.cell? ⟨w.heap.size, 0, none⟩ = some (.int .i64 k) ∧ w'.cell? ⟨w.heap.size, 1, none⟩ = some (.int .i64 mf) ∧ w'.cell? ⟨w.heap.size, 2, none⟩ = some (.int .i64 xf) ∧ w'.cell? ⟨w.heap.size, 3, none⟩ = some (.int .i64 ms) ∧ w'.cell? ⟨w.heap.size, 4, none⟩ = some (.int .i64 xs) ∧ w'.cell? ⟨w.heap.size, 5, none⟩ = some (.bool st) ∧ w'.cell? ⟨w.heap.size, 6, none⟩ = some (.int .i64 cs) ∧ w'.cell? ⟨w.heap.size, 7, none⟩ = some (.bool ns) ∧ w'.cell? ⟨w.heap.size, 8, none⟩ = some (.string ts) ∧ w'.cell? ⟨w.heap.size, 9, none⟩ = some (.int .i64 es) ∧ w'.cell? ⟨w.heap.size, 10, none⟩ = some (.int .i64 md) ∧ w'.cell? ⟨w.heap.size, 11, none⟩ = some (.bool hd) ∧ w'.cell? ⟨w.heap.size, 12, none⟩ = some (.int .i64 im) ∧ w'.cell? ⟨w.heap.size, 13, none⟩ = some (.int .i64 ix)) := fun w' hb => (Bp1.out.below hb Bp1.out.lt).fourteen
  clear Bp1 Br1
  go_wp2_with fail
  have mk0 : True := trivial
  go_region_held3 (fun w' => w'.cell? ⟨w.heap.size, 0, none⟩ = some (.int .i64 k) ∧ w'.cell? ⟨w.heap.size, 1, none⟩ = some (.int .i64 mf) ∧ w'.cell? ⟨w.heap.size, 2, none⟩ = some (.int .i64 xf) ∧ w'.cell? ⟨w.heap.size, 3, none⟩ = some (.int .i64 ms) ∧ w'.cell? ⟨w.heap.size, 4, none⟩ = some (.int .i64 xs) ∧ w'.cell? ⟨w.heap.size, 5, none⟩ = some (.bool st) ∧ w'.cell? ⟨w.heap.size, 6, none⟩ = some (.int .i64 cs) ∧ w'.cell? ⟨w.heap.size, 7, none⟩ = some (.bool ns) ∧ w'.cell? ⟨w.heap.size, 8, none⟩ = some (.string ts) ∧ w'.cell? ⟨w.heap.size, 9, none⟩ = some (.int .i64 es) ∧ w'.cell? ⟨w.heap.size, 10, none⟩ = some (.int .i64 md) ∧ w'.cell? ⟨w.heap.size, 11, none⟩ = some (.bool hd) ∧ w'.cell? ⟨w.heap.size, 12, none⟩ = some (.int .i64 im) ∧ w'.cell? ⟨w.heap.size, 13, none⟩ = some (.int .i64 ix)) (go_keep) (first
    | (clear mk0; go_at_call 89; refine (HWh.out _).mono ?_; rintro e umkw ⟨rfl, hb⟩; have b1 := hide (b0.out.trans (hb.mono b0.out.size)); clear hb; obtain ⟨qmkw_0, qmkw_1, qmkw_2, qmkw_3, qmkw_4, qmkw_5, qmkw_6, qmkw_7, qmkw_8, qmkw_9, qmkw_10, qmkw_11, qmkw_12, qmkw_13⟩ := HC.out _ b1.out; have mkw : True := trivial)
    | (clear mk0; go_at_call 90; refine (HFr.out _).mono ?_; rintro e umkf ⟨rfl, hb⟩; have b1 := hide (b0.out.trans (hb.mono b0.out.size)); clear hb; obtain ⟨qmkf_0, qmkf_1, qmkf_2, qmkf_3, qmkf_4, qmkf_5, qmkf_6, qmkf_7, qmkf_8, qmkf_9, qmkf_10, qmkf_11, qmkf_12, qmkf_13⟩ := HC.out _ b1.out; have mkf : True := trivial)
    | (clear mkw; go_at_call 90; refine (HFr.out _).mono ?_; rintro e umkx ⟨rfl, hb⟩; have b2 := hide (b1.out.trans (hb.mono b1.out.size)); clear hb; obtain ⟨qmkx_0, qmkx_1, qmkx_2, qmkx_3, qmkx_4, qmkx_5, qmkx_6, qmkx_7, qmkx_8, qmkx_9, qmkx_10, qmkx_11, qmkx_12, qmkx_13⟩ := HC.out _ b2.out; have mkx : True := trivial)
    | (clear mkf; go_at_call 89; refine (HWh.out _).mono ?_; rintro e umkx ⟨rfl, hb⟩; have b2 := hide (b1.out.trans (hb.mono b1.out.size)); clear hb; obtain ⟨qmkx_0, qmkx_1, qmkx_2, qmkx_3, qmkx_4, qmkx_5, qmkx_6, qmkx_7, qmkx_8, qmkx_9, qmkx_10, qmkx_11, qmkx_12, qmkx_13⟩ := HC.out _ b2.out; have mkx : True := trivial))
  all_goals
    have HBE := hide (HB1.out.trans (b2.out.mono HB1.out.size))
    go_wp2
    go_ret2
    exact ⟨rfl, HBE.out⟩

end Go.Proofs.YtobloamnaemfnaaGreatDoor

namespace Go.Proofs.YtobloamnaemfnaaGreatDoor
open Go.RowKit

theorem mk_app (a : List UInt8) (t : ByteArray) : (⟨a.toArray⟩ : ByteArray) ++ t = ⟨(a ++ bys t).toArray⟩ := by
  rw [← mk_bys (⟨a.toArray⟩ ++ t), bys_append, bys_mk a]
theorem app_mk (t : ByteArray) (a : List UInt8) : t ++ (⟨a.toArray⟩ : ByteArray) = ⟨(bys t ++ a).toArray⟩ := by
  rw [← mk_bys (t ++ ⟨a.toArray⟩), bys_append, bys_mk a]
theorem nought_len (n : Int) : (nought n).length = n.toNat := by unfold nought; rw [List.length_replicate]
theorem xsplit_any (n : Bool) (t : ByteArray) (x : Int) (w : World) (h : MayD 0 n (bys t) x) : Calls Tryz.prog 88 #[dcV 0 n t x] w fun e w' => e = .returned (.tuple #[.string ⟨(aheadD (bys t) x).toArray⟩, .string ⟨(behindD (bys t) x).toArray⟩]) ∧ Below w.heap.size w w' := by
  obtain ⟨b1, b2, b3, b4⟩ := may_place h
  have PL := fun W => Place_yes 0 n t x W h
  unfold aheadD behindD
  rw [bys_len]
  by_cases h1 : (t.size : Int) + x ≤ 0
  · rw [if_pos h1, if_pos h1]
    have g := split_a n t ⟨(nought (-((t.size : Int) + x))).toArray⟩ x ((t.size : Int) + x) w PL h1 (by omega) (fun W => noughts_any _ W (by omega)) (by rw [size_mk0 (nought _), nought_len]; omega)
    rw [mk_app] at g
    exact g
  · rw [if_neg h1, if_neg h1]
    by_cases h2 : 0 ≤ x
    · rw [if_pos h2, if_pos h2]
      have g := split_b n t ⟨(nought x).toArray⟩ x ((t.size : Int) + x) w PL (by omega) h2 (fun W => noughts_any _ W (by omega)) (by rw [size_mk0 (nought _), nought_len]; omega)
      rw [app_mk] at g
      exact g
    · rw [if_neg h2, if_neg h2]
      obtain ⟨q, hq⟩ : ∃ q : Nat, (t.size : Int) + x = (q : Int) := ⟨((t.size : Int) + x).toNat, by omega⟩
      rw [hq] at PL ⊢
      have g := split_c n t x q w PL (by omega) (by omega) (by omega)
      rw [← mk_bys (t.extract 0 q), ← mk_bys (t.extract q t.size), bys_to, bys_from _ _ _ (Nat.le_refl _)] at g
      exact g

theorem xwhole_any (k mf xf ms xs : Int) (st : Bool) (cs : Int) (ns : Bool) (ts : ByteArray) (es md : Int) (hd : Bool) (im ix : Int) (A : ByteArray) (w : World) (hA : A.size ≤ 50000) (h : IntOk ⟨k, mf, xf, ms, xs, st, cs, ns, bys ts, es, md, hd, im, ix⟩) : Calls Tryz.prog 89 #[prV k mf xf ms xs st cs ns ts es md hd im ix, .string A] w fun e w' => e = .returned (.string ⟨(wholeP ⟨k, mf, xf, ms, xs, st, cs, ns, bys ts, es, md, hd, im, ix⟩ (bys A)).toArray⟩) ∧ Below w.heap.size w w' := by
  obtain ⟨⟨h1, h2⟩, h3⟩ := h
  simp only at h1 h2 h3
  obtain ⟨N, hN⟩ : ∃ N : ByteArray, N = ⟨(nought (im - (A.size : Int))).toArray⟩ := ⟨_, rfl⟩
  have NG : ∀ W, Calls Tryz.prog 128 #[.int .i64 (im - (A.size : Int))] W fun e w' => e = .returned (.string N) ∧ Below W.heap.size W w' := by rw [hN]; exact fun W => noughts_any _ W (by omega)
  have hNs : N.size = (im - (A.size : Int)).toNat := by rw [hN, size_mk0, nought_len]
  have hf : bys (N ++ A) = fillI ⟨k, mf, xf, ms, xs, st, cs, ns, bys ts, es, md, hd, im, ix⟩ (bys A) := by rw [bys_append, hN, bys_mk]; unfold fillI; rw [bys_len]
  have hl : (fillI ⟨k, mf, xf, ms, xs, st, cs, ns, bys ts, es, md, hd, im, ix⟩ (bys A)).length = N.size + A.size := by rw [← hf, bys_len, ByteArray.size_append]
  unfold wholeP
  rw [hl, ← hf]
  simp only
  by_cases h4 : ix = 0
  · subst h4
    rw [if_neg (by omega), mk_bys]
    exact whole_z k mf xf ms xs st cs ns ts es md hd im A N w NG h1 h2 (by omega)
  · by_cases h5 : 0 < ix ∧ ix < ((N.size + A.size : Nat) : Int)
    · rw [if_pos h5]
      obtain ⟨q, hq⟩ : ∃ q : Nat, (((N.size + A.size : Nat) : Int) - ix) = (q : Int) := ⟨(((N.size + A.size : Nat) : Int) - ix).toNat, by omega⟩
      rw [hq]
      have g := whole_c k mf xf ms xs st cs ns ts es md hd im ix A N w NG h1 h2 (by omega) q h5.1 (by omega) (by omega)
      rw [← mk_bys ((N ++ A).extract q (N.size + A.size)), bys_from _ _ _ (by rw [ByteArray.size_append]; exact Nat.le_refl _)] at g
      exact g
    · rw [if_neg h5, mk_bys]
      exact whole_n k mf xf ms xs st cs ns ts es md hd im ix A N w NG h1 h2 (by omega) (by omega) (by omega)

theorem xfraction_any (k mf xf ms xs : Int) (st : Bool) (cs : Int) (ns : Bool) (ts : ByteArray) (es md : Int) (hd : Bool) (im ix : Int) (B : ByteArray) (n : Int) (w : World) (hB : B.size ≤ 50000) (n1 : -10000 ≤ n) (n2 : n ≤ 10000) : Calls Tryz.prog 90 #[prV k mf xf ms xs st cs ns ts es md hd im ix, .string B, .int .i64 n] w fun e w' => e = .returned (.string ⟨(fracP ⟨k, mf, xf, ms, xs, st, cs, ns, bys ts, es, md, hd, im, ix⟩ (bys B) n).toArray⟩) ∧ Below w.heap.size w w' := by
  obtain ⟨N, hN⟩ : ∃ N : ByteArray, N = ⟨(nought (n - (B.size : Int))).toArray⟩ := ⟨_, rfl⟩
  have NG : ∀ W, Calls Tryz.prog 128 #[.int .i64 (n - (B.size : Int))] W fun e w' => e = .returned (.string N) ∧ Below W.heap.size W w' := by rw [hN]; exact fun W => noughts_any _ W (by omega)
  have hNs : N.size = (n - (B.size : Int)).toNat := by rw [hN, size_mk0, nought_len]
  have hf : (⟨(bys B ++ nought (n - (B.size : Int))).toArray⟩ : ByteArray) = B ++ N := by rw [hN, app_mk]
  unfold fracP
  simp only
  rw [bys_len]
  by_cases h1 : hd = true ∧ bys B = []
  · rw [if_pos h1]
    obtain ⟨h1, h2⟩ := h1
    subst h1
    obtain rfl : B = ⟨#[]⟩ := by rw [← mk_bys B, h2]
    exact frac_h k mf xf ms xs st cs ns ts es md im ix n w
  · rw [if_neg h1, hf]
    cases hd
    · exact frac_f k mf xf ms xs st cs ns ts es md im ix B N n w NG (by omega) (by omega) (by omega)
    · exact frac_b k mf xf ms xs st cs ns ts es md im ix B N n w NG (by omega) (by omega) (by omega) (fun e => h1 ⟨rfl, bys_nil.2 e⟩)

theorem ahead_len {n : Bool} {t : ByteArray} {x : Int} (h : MayD 0 n (bys t) x) : (aheadD (bys t) x).length ≤ 4000 ∧ (behindD (bys t) x).length ≤ 4000 := by
  obtain ⟨b1, b2, b3, b4⟩ := may_place h
  unfold aheadD behindD
  rw [bys_len]
  by_cases h1 : (t.size : Int) + x ≤ 0
  · rw [if_pos h1, if_pos h1]
    simp only [List.length_append, List.length_nil, nought_len, bys_len]
    omega
  · rw [if_neg h1, if_neg h1]
    by_cases h2 : 0 ≤ x
    · rw [if_pos h2, if_pos h2]
      simp only [List.length_append, List.length_nil, nought_len, bys_len]
      omega
    · rw [if_neg h2, if_neg h2]
      simp only [List.length_take, List.length_drop, bys_len]
      omega

theorem xdigits_any (k mf xf ms xs : Int) (st : Bool) (cs : Int) (ns : Bool) (ts : ByteArray) (es md : Int) (hd : Bool) (im ix : Int) (nr : Bool) (tr : ByteArray) (er n : Int) (w : World) (hr : MayD 0 nr (bys tr) er) (h : IntOk ⟨k, mf, xf, ms, xs, st, cs, ns, bys ts, es, md, hd, im, ix⟩) (n1 : -10000 ≤ n) (n2 : n ≤ 10000) : Calls Tryz.prog 38 #[prV k mf xf ms xs st cs ns ts es md hd im ix, dcV 0 nr tr er, .int .i64 n] w fun e w' => e = .returned (.tuple #[.string ⟨(digitsP ⟨k, mf, xf, ms, xs, st, cs, ns, bys ts, es, md, hd, im, ix⟩ ⟨0, nr, bys tr, er⟩ n).1.toArray⟩, .string ⟨(digitsP ⟨k, mf, xf, ms, xs, st, cs, ns, bys ts, es, md, hd, im, ix⟩ ⟨0, nr, bys tr, er⟩ n).2.toArray⟩]) ∧ Below w.heap.size w w' := by
  obtain ⟨l1, l2⟩ := ahead_len hr
  obtain ⟨A, hA⟩ : ∃ A : ByteArray, A = ⟨(aheadD (bys tr) er).toArray⟩ := ⟨_, rfl⟩
  obtain ⟨B, hB⟩ : ∃ B : ByteArray, B = ⟨(behindD (bys tr) er).toArray⟩ := ⟨_, rfl⟩
  have SP := fun W => xsplit_any nr tr er W hr
  rw [← hA, ← hB] at SP
  have hA1 : bys A = aheadD (bys tr) er := by rw [hA, bys_mk]
  have hB1 : bys B = behindD (bys tr) er := by rw [hB, bys_mk]
  have hA2 : A.size ≤ 4000 := by rw [hA, size_mk0]; exact l1
  have hB2 : B.size ≤ 4000 := by rw [hB, size_mk0]; exact l2
  have WH := fun W => xwhole_any k mf xf ms xs st cs ns ts es md hd im ix A W (by omega) h
  have FR := fun W => xfraction_any k mf xf ms xs st cs ns ts es md hd im ix B n W (by omega) n1 n2
  unfold digitsP
  simp only
  rw [← hA1, ← hB1]
  by_cases h1 : wholeP ⟨k, mf, xf, ms, xs, st, cs, ns, bys ts, es, md, hd, im, ix⟩ (bys A) = []
  · rw [h1] at WH
    by_cases h2 : fracP ⟨k, mf, xf, ms, xs, st, cs, ns, bys ts, es, md, hd, im, ix⟩ (bys B) n = []
    · rw [h2] at FR
      rw [if_pos ⟨h1, h2⟩]
      exact digits_z k mf xf ms xs st cs ns ts es md hd im ix 0 nr tr er n A B w SP WH FR
    · rw [if_neg (fun g => h2 g.2), h1]
      exact digits_f k mf xf ms xs st cs ns ts es md hd im ix 0 nr tr er n A B _ w SP WH FR (by rw [size_mk0]; exact fun e => h2 (List.length_eq_zero_iff.1 e))
  · rw [if_neg (fun g => h1 g.1)]
    exact digits_i k mf xf ms xs st cs ns ts es md hd im ix 0 nr tr er n A B _ _ w SP WH FR (by rw [size_mk0]; exact fun e => h1 (List.length_eq_zero_iff.1 e))

end Go.Proofs.YtobloamnaemfnaaGreatDoor

namespace Go.Proofs.YtobloamnaemfnaaGreatDoor
open Go.RowKit

def shVal (s : ShownT) : Value := .agg #[.int .i64 s.cls, .bool s.neg, .string ⟨s.int.toArray⟩, .string ⟨s.frac.toArray⟩, .int .i64 s.exp, .bool s.compact]
def shErr (r : ShownT × Int) : Value := .tuple #[shVal r.1, .int .i64 r.2]

theorem rnd_k1 (mf xf ms xs : Int) (st : Bool) (cs : Int) (ns : Bool) (ts : ByteArray) (es md : Int) (hd : Bool) (im ix ca : Int) (na : Bool) (ta : ByteArray) (ea : Int) (w : World) (htab : Tab w) (_h : MayD ca na (bys ta) ea) (g1 : 0 ≤ xf) (g2 : xf ≤ 99) : Calls Tryz.prog 78 #[prV 1 mf xf ms xs st cs ns ts es md hd im ix, dcV ca na ta ea] w fun e w' => e = .returned (decErr (roundP ⟨1, mf, xf, ms, xs, st, cs, ns, bys ts, es, md, hd, im, ix⟩ ca na (bys ta) ea)) ∧ Below w.heap.size w w' := by
  rw [roundP_1 rfl]
  exact atFrac_g 1 mf xf ms xs st cs ns ts es md hd im ix ca na ta ea _ _ _ _ _ w htab (fun W hW => At_any ca na ta ea (-xf) md W hW) g1 g2

theorem least_k1 (mf xf ms xs : Int) (st : Bool) (cs : Int) (ns : Bool) (ts : ByteArray) (es md : Int) (hd : Bool) (im ix : Int) (nr : Bool) (tr : ByteArray) (er : Int) (w : World) (_h : MayD 0 nr (bys tr) er)  : Calls Tryz.prog 79 #[prV 1 mf xf ms xs st cs ns ts es md hd im ix, dcV 0 nr tr er] w fun e w' => e = .returned (.int .i64 (leastP ⟨1, mf, xf, ms, xs, st, cs, ns, bys ts, es, md, hd, im, ix⟩ ⟨0, nr, bys tr, er⟩)) ∧ Below w.heap.size w w' := by
  rw [show leastP ⟨1, mf, xf, ms, xs, st, cs, ns, bys ts, es, md, hd, im, ix⟩ ⟨0, nr, bys tr, er⟩ = mf by unfold leastP; simp]
  exact minFrac_any 1 mf xf ms xs st cs ns ts es md hd im ix 0 nr tr er w

theorem Show_k1 (ca : Int) (na : Bool) (ta : ByteArray) (ea mf xf ms xs : Int) (st : Bool) (cs : Int) (ns : Bool) (ts : ByteArray) (es md : Int) (hd : Bool) (im ix : Int) (w : World) (htab : Tab w) (h : MayD ca na (bys ta) ea) (hp : MayP ⟨1, mf, xf, ms, xs, st, cs, ns, bys ts, es, md, hd, im, ix⟩) : Calls Tryz.prog 14 #[dcV ca na ta ea, prV 1 mf xf ms xs st cs ns ts es md hd im ix] w fun e w' => e = .returned (shErr (showP ca na (bys ta) ea ⟨1, mf, xf, ms, xs, st, cs, ns, bys ts, es, md, hd, im, ix⟩)) ∧ Below w.heap.size w w' := by
  obtain ⟨⟨⟨q1, q2⟩, q3⟩, _⟩ := mayP_1 hp rfl
  simp only at q1 q2 q3
  have hm := roundP_may hp h
  have RN := fun W hW => rnd_k1 mf xf ms xs st cs ns ts es md hd im ix ca na ta ea W hW h (by omega) q3
  have e1 := fun q => showP_err h hp q
  have e2 := fun q => showP_in h hp q
  have lp := leastP_in hp hm
  generalize roundP ⟨1, mf, xf, ms, xs, st, cs, ns, bys ts, es, md, hd, im, ix⟩ ca na (bys ta) ea = r at hm RN e1 e2 lp
  obtain ⟨⟨c, n, l, e⟩, er⟩ := r
  simp only at hm e1 e2 lp
  have hz : c = 0 → MayD 0 n (bys ⟨l.toArray⟩) e := by rintro rfl; rw [bys_mk]; exact hm
  refine show_k1 ca na ta ea mf xf ms xs st cs ns ts es md hd im ix (c : Int) n ⟨l.toArray⟩ e er (leastP ⟨1, mf, xf, ms, xs, st, cs, ns, bys ts, es, md, hd, im, ix⟩ ⟨c, n, l, e⟩) ⟨(digitsP ⟨1, mf, xf, ms, xs, st, cs, ns, bys ts, es, md, hd, im, ix⟩ ⟨c, n, l, e⟩ (leastP ⟨1, mf, xf, ms, xs, st, cs, ns, bys ts, es, md, hd, im, ix⟩ ⟨c, n, l, e⟩)).1.toArray⟩ ⟨(digitsP ⟨1, mf, xf, ms, xs, st, cs, ns, bys ts, es, md, hd, im, ix⟩ ⟨c, n, l, e⟩ (leastP ⟨1, mf, xf, ms, xs, st, cs, ns, bys ts, es, md, hd, im, ix⟩ ⟨c, n, l, e⟩)).2.toArray⟩ _ w htab h (fun W hW => check_tP 1 mf xf ms xs st cs ns ts es md hd im ix W hW hp) RN ?_ ?_ ?_ ?_ ?_
  · intro _ hc W
    have hc : c = 0 := by omega
    subst hc
    have g := least_k1 mf xf ms xs st cs ns ts es md hd im ix n ⟨l.toArray⟩ e W (hz rfl)
    rw [bys_mk] at g
    exact g
  · intro _ hc W
    have hc : c = 0 := by omega
    subst hc
    have g := xdigits_any 1 mf xf ms xs st cs ns ts es md hd im ix n ⟨l.toArray⟩ e (leastP ⟨1, mf, xf, ms, xs, st, cs, ns, bys ts, es, md, hd, im, ix⟩ ⟨0, n, l, e⟩) W (hz rfl) hp.2.1 (by omega) (by omega)
    rw [bys_mk] at g
    exact g
  · intro q
    rw [e1 q]; rfl
  · intro q hc
    rw [e2 q]
    unfold shownP
    rw [if_neg (by simp only; omega)]
    rfl
  · intro q hc
    have hc : c = 0 := by omega
    subst hc
    rw [e2 q]
    rfl

end Go.Proofs.YtobloamnaemfnaaGreatDoor
