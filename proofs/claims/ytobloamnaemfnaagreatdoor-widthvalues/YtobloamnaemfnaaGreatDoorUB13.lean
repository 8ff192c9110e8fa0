/-
  What width's noughts, split, whole, fraction and digits do, out of what they call.
  What width's split, whole, fraction and digits answer, by the document's words.
  What width's areShown, mayShown and Value do.
  What quipuref07's digits does.
-/
import Derived.Test.YtobloamnaemfnaaGreatDoorUB10
import Derived.Test.YtobloamnaemfnaaGreatDoorUB12
import Derived.Deep.RegionHeld3
import Derived.Test.YtobloamnaemfnaaGreatDoorUB11
import Derived.Shelf.Strings.SlTrimAscii
namespace Go.Proofs.YtobloamnaemfnaaGreatDoor
open Go.RowKit

theorem noughts_any (n : Int) (w : World) (h : n ≤ 100000) : Calls Tryz.prog 128 #[.int .i64 n] w fun e w' => e = .returned (.string ⟨(nought n).toArray⟩) ∧ Below w.heap.size w w' := by
  have RP := hide (fun W => repeat_any n.toNat W (by omega))
  rw [show ((n.toNat : Nat) : Int) = max 0 n by omega] at RP
  obtain ⟨N, hN⟩ : ∃ N : ByteArray, N = ⟨(List.replicate n.toNat (48 : UInt8)).toArray⟩ := ⟨_, rfl⟩
  unfold nought
  rw [← hN] at RP ⊢
  clear hN h
  go_enter Tryz.func128, Tryz.ntmps128
  go_wp2_with fail
  refine (RP.out _).mono ?_
  rintro e w1 ⟨rfl, hb⟩
  have HB := hide hb
  clear hb
  go_wp2
  go_ret
  exact ⟨rfl, HB.out⟩

set_option maxHeartbeats 1000000 in
theorem split_a (n : Bool) (t N : ByteArray) (x pl : Int) (w : World) (hP : ∀ W, Calls Tryz.prog 33 #[dcV 0 n t x] W fun e w' => e = .returned (.int .i64 pl) ∧ Below W.heap.size W w') (h1 : pl ≤ 0) (h2 : -100000 ≤ pl) (hN : ∀ W, Calls Tryz.prog 128 #[.int .i64 (-pl)] W fun e w' => e = .returned (.string N) ∧ Below W.heap.size W w') (hs : N.size + t.size ≤ 100000) : Calls Tryz.prog 88 #[dcV 0 n t x] w fun e w' => e = .returned (.tuple #[.string ⟨#[]⟩, .string (N ++ t)]) ∧ Below w.heap.size w w' := by
  have HP := hide hP
  have HN := hide hN
  have hw : IntKind.i64.wrap (-pl) = -pl := by rw [IntKind.wrap_i64]; omega
  have hs2 : ¬ 9223372036854775807 < N.size + t.size := by omega
  clear hP hN hs
  have Br0 := hide (Blk.newAt w (w.heap.size) (rfl) #[.int .i64 0, .bool n, .string t, .int .i64 x] 23)
  have HB0 : Hid (Below w.heap.size w (w.alloc (.cells #[.int .i64 0, .bool n, .string t, .int .i64 x] 23))) := ((Below.refl _ _).alloc (Nat.le_refl _) _)
  go_enter Tryz.func88, Tryz.ntmps88
  go_wp2_with fail
  refine (HP.out _).mono ?_
  rintro e w1 ⟨rfl, hb⟩
  have Br1 := Blk.on Br0 hb
  have HB1 := hide (HB0.out.trans (hb.mono HB0.out.size))
  clear hb Br0 HB0 
  obtain ⟨yr0, yr1, yr2, yr3⟩ := Br1.out.four
  have b0 : Hid (Below w1.heap.size w1 w1.drew) := bdrewD w1
  have C0 : Hid (∀ X, Hid (Below w1.heap.size w1 X) → Calls Tryz.prog 128 #[.int .i64 (-pl)] X fun e w' => e = .returned (.string N) ∧ Hid (Below w1.heap.size w1 w') ∧ w'.cell? ⟨w.heap.size, 2, none⟩ = some (.string t)) := by
    intro X bX
    refine (HN.out X).mono ?_
    rintro e w' ⟨rfl, hb⟩
    have bb := bX.out.trans (hb.mono bX.out.size)
    have Brq := Br1.out.below bb Br1.out.lt
    exact ⟨rfl, bb, Brq.cell 2⟩
  go_wp2_with fail
  have mk0 : True := trivial
  go_region_held3 (fun w' => w'.cell? ⟨w.heap.size, 2, none⟩ = some (.string t)) (go_keep) (first
    | (clear mk0; go_at_call 128; refine (C0.out _ b0).mono ?_; rintro e w2 ⟨rfl, b1, q0_0⟩; have mk1 : True := trivial))
  have Br2 := hide (Br1.out.below b1.out Br1.out.lt)
  have HB2 := hide (HB1.out.trans (b1.out.mono HB1.out.size))
  clear mk1 b0 b1 C0 q0_0 Br1 HB1 yr0 yr1 yr2 yr3
  obtain ⟨yr0, yr1, yr2, yr3⟩ := Br2.out.four
  go_wp2
  go_ret2
  exact ⟨rfl, HB2.out⟩

set_option maxHeartbeats 1000000 in
theorem split_b (n : Bool) (t N : ByteArray) (x pl : Int) (w : World) (hP : ∀ W, Calls Tryz.prog 33 #[dcV 0 n t x] W fun e w' => e = .returned (.int .i64 pl) ∧ Below W.heap.size W w') (h1 : 0 < pl) (h2 : 0 ≤ x) (hN : ∀ W, Calls Tryz.prog 128 #[.int .i64 x] W fun e w' => e = .returned (.string N) ∧ Below W.heap.size W w') (hs : t.size + N.size ≤ 100000) : Calls Tryz.prog 88 #[dcV 0 n t x] w fun e w' => e = .returned (.tuple #[.string (t ++ N), .string ⟨#[]⟩]) ∧ Below w.heap.size w w' := by
  have HP := hide hP
  have HN := hide hN
  have hs2 : ¬ 9223372036854775807 < t.size + N.size := by omega
  clear hP hN hs
  have Br0 := hide (Blk.newAt w (w.heap.size) (rfl) #[.int .i64 0, .bool n, .string t, .int .i64 x] 23)
  have HB0 : Hid (Below w.heap.size w (w.alloc (.cells #[.int .i64 0, .bool n, .string t, .int .i64 x] 23))) := ((Below.refl _ _).alloc (Nat.le_refl _) _)
  go_enter Tryz.func88, Tryz.ntmps88
  go_wp2_with fail
  refine (HP.out _).mono ?_
  rintro e w1 ⟨rfl, hb⟩
  have Br1 := Blk.on Br0 hb
  have HB1 := hide (HB0.out.trans (hb.mono HB0.out.size))
  clear hb Br0 HB0 
  obtain ⟨yr0, yr1, yr2, yr3⟩ := Br1.out.four
  have b0 : Hid (Below w1.heap.size w1 w1.drew) := bdrewD w1
  have C0 : Hid (∀ X, Hid (Below w1.heap.size w1 X) → Calls Tryz.prog 128 #[.int .i64 x] X fun e w' => e = .returned (.string N) ∧ Hid (Below w1.heap.size w1 w') ∧ w'.cell? ⟨w.heap.size, 2, none⟩ = some (.string t) ∧ w'.cell? ⟨w.heap.size, 3, none⟩ = some (.int .i64 x)) := by
    intro X bX
    refine (HN.out X).mono ?_
    rintro e w' ⟨rfl, hb⟩
    have bb := bX.out.trans (hb.mono bX.out.size)
    have Brq := Br1.out.below bb Br1.out.lt
    exact ⟨rfl, bb, Brq.cell 2, Brq.cell 3⟩
  go_wp2_with fail
  have mk0 : True := trivial
  go_region_held3 (fun w' => w'.cell? ⟨w.heap.size, 2, none⟩ = some (.string t) ∧ w'.cell? ⟨w.heap.size, 3, none⟩ = some (.int .i64 x)) (go_keep) (first
    | (clear mk0; go_at_call 128; refine (C0.out _ b0).mono ?_; rintro e w2 ⟨rfl, b1, q0_0, q0_1⟩; have mk1 : True := trivial))
  have Br2 := hide (Br1.out.below b1.out Br1.out.lt)
  have HB2 := hide (HB1.out.trans (b1.out.mono HB1.out.size))
  clear mk1 b0 b1 C0 q0_0 q0_1 Br1 HB1 yr0 yr1 yr2 yr3
  obtain ⟨yr0, yr1, yr2, yr3⟩ := Br2.out.four
  go_wp2
  go_ret2
  exact ⟨rfl, HB2.out⟩

set_option maxHeartbeats 1000000 in
theorem split_c (n : Bool) (t : ByteArray) (x : Int) (q : Nat) (w : World) (hP : ∀ W, Calls Tryz.prog 33 #[dcV 0 n t x] W fun e w' => e = .returned (.int .i64 (q : Int)) ∧ Below W.heap.size W w') (h1 : 0 < q) (h2 : x < 0) (h3 : q ≤ t.size) : Calls Tryz.prog 88 #[dcV 0 n t x] w fun e w' => e = .returned (.tuple #[.string (t.extract 0 q), .string (t.extract q t.size)]) ∧ Below w.heap.size w w' := by
  have HP := hide hP
  have h4 : (q : Int) ≤ (t.size : Int) := by omega
  have h5 : (0 : Int) < (q : Int) := by omega
  clear hP h1
  have Br0 := hide (Blk.newAt w (w.heap.size) (rfl) #[.int .i64 0, .bool n, .string t, .int .i64 x] 23)
  have HB0 : Hid (Below w.heap.size w (w.alloc (.cells #[.int .i64 0, .bool n, .string t, .int .i64 x] 23))) := ((Below.refl _ _).alloc (Nat.le_refl _) _)
  go_enter Tryz.func88, Tryz.ntmps88
  go_wp2_with fail
  refine (HP.out _).mono ?_
  rintro e w1 ⟨rfl, hb⟩
  have Br1 := Blk.on Br0 hb
  have HB1 := hide (HB0.out.trans (hb.mono HB0.out.size))
  clear hb Br0 HB0 
  obtain ⟨yr0, yr1, yr2, yr3⟩ := Br1.out.four
  go_wp2_with fail
  go_region
  go_wp2
  go_ret2
  exact ⟨rfl, HB1.out.drew⟩

set_option maxHeartbeats 1000000 in
theorem whole_z (k mf xf ms xs : Int) (st : Bool) (cs : Int) (ns : Bool) (ts : ByteArray) (es md : Int) (hd : Bool) (im : Int) (A N : ByteArray) (w : World) (hN : ∀ W, Calls Tryz.prog 128 #[.int .i64 (im - (A.size : Int))] W fun e w' => e = .returned (.string N) ∧ Below W.heap.size W w') (i1 : 0 ≤ im) (i2 : im ≤ 99) (hs : N.size + A.size ≤ 100000)  : Calls Tryz.prog 89 #[prV k mf xf ms xs st cs ns ts es md hd im 0, .string A] w fun e w' => e = .returned (.string (N ++ A)) ∧ Below w.heap.size w w' := by
  have HN := hide hN
  have hs2 : ¬ 9223372036854775807 < N.size + A.size := by omega
  have hs3 : (N ++ A).size = N.size + A.size := ByteArray.size_append
  have hs4 : ((N ++ A).size : Int) = (N.size : Int) + (A.size : Int) := by omega
  clear hN
  have Bp0 := hide (Blk.newAt w (w.heap.size) (rfl) #[.int .i64 k, .int .i64 mf, .int .i64 xf, .int .i64 ms, .int .i64 xs, .bool st, .int .i64 cs, .bool ns, .string ts, .int .i64 es, .int .i64 md, .bool hd, .int .i64 im, .int .i64 0] 61)
  have HB0 : Hid (Below w.heap.size w (w.alloc (.cells #[.int .i64 k, .int .i64 mf, .int .i64 xf, .int .i64 ms, .int .i64 xs, .bool st, .int .i64 cs, .bool ns, .string ts, .int .i64 es, .int .i64 md, .bool hd, .int .i64 im, .int .i64 0] 61))) := ((Below.refl _ _).alloc (Nat.le_refl _) _)
  go_enter Tryz.func89, Tryz.ntmps89
  go_wp2_with fail
  refine (HN.out _).mono ?_
  rintro e w1 ⟨rfl, hb⟩
  have Bp1 := Blk.on Bp0 hb
  have HB1 := hide (HB0.out.trans (hb.mono HB0.out.size))
  clear hb Bp0 HB0 
  obtain ⟨yp0, yp1, yp2, yp3, yp4, yp5, yp6, yp7, yp8, yp9, yp10, yp11, yp12, yp13⟩ := Bp1.out.fourteen
  go_wp2
  go_ret
  exact ⟨rfl, HB1.out⟩

set_option maxHeartbeats 1000000 in
theorem whole_n (k mf xf ms xs : Int) (st : Bool) (cs : Int) (ns : Bool) (ts : ByteArray) (es md : Int) (hd : Bool) (im ix : Int) (A N : ByteArray) (w : World) (hN : ∀ W, Calls Tryz.prog 128 #[.int .i64 (im - (A.size : Int))] W fun e w' => e = .returned (.string N) ∧ Below W.heap.size W w') (i1 : 0 ≤ im) (i2 : im ≤ 99) (hs : N.size + A.size ≤ 100000) (g1 : 0 < ix) (g2 : (N.size : Int) + (A.size : Int) ≤ ix) : Calls Tryz.prog 89 #[prV k mf xf ms xs st cs ns ts es md hd im ix, .string A] w fun e w' => e = .returned (.string (N ++ A)) ∧ Below w.heap.size w w' := by
  have HN := hide hN
  have hs2 : ¬ 9223372036854775807 < N.size + A.size := by omega
  have hs3 : (N ++ A).size = N.size + A.size := ByteArray.size_append
  have hs4 : ((N ++ A).size : Int) = (N.size : Int) + (A.size : Int) := by omega
  have g3 : ¬ ix < (N.size : Int) + (A.size : Int) := by omega
  have g4 : decide (ix < (N.size : Int) + (A.size : Int)) = false := decide_eq_false g3
  clear hN
  have Bp0 := hide (Blk.newAt w (w.heap.size) (rfl) #[.int .i64 k, .int .i64 mf, .int .i64 xf, .int .i64 ms, .int .i64 xs, .bool st, .int .i64 cs, .bool ns, .string ts, .int .i64 es, .int .i64 md, .bool hd, .int .i64 im, .int .i64 ix] 61)
  have HB0 : Hid (Below w.heap.size w (w.alloc (.cells #[.int .i64 k, .int .i64 mf, .int .i64 xf, .int .i64 ms, .int .i64 xs, .bool st, .int .i64 cs, .bool ns, .string ts, .int .i64 es, .int .i64 md, .bool hd, .int .i64 im, .int .i64 ix] 61))) := ((Below.refl _ _).alloc (Nat.le_refl _) _)
  go_enter Tryz.func89, Tryz.ntmps89
  go_wp2_with fail
  refine (HN.out _).mono ?_
  rintro e w1 ⟨rfl, hb⟩
  have Bp1 := Blk.on Bp0 hb
  have HB1 := hide (HB0.out.trans (hb.mono HB0.out.size))
  clear hb Bp0 HB0 
  obtain ⟨yp0, yp1, yp2, yp3, yp4, yp5, yp6, yp7, yp8, yp9, yp10, yp11, yp12, yp13⟩ := Bp1.out.fourteen
  go_wp2
  go_ret
  exact ⟨rfl, HB1.out⟩

set_option maxHeartbeats 1000000 in
theorem whole_c (k mf xf ms xs : Int) (st : Bool) (cs : Int) (ns : Bool) (ts : ByteArray) (es md : Int) (hd : Bool) (im ix : Int) (A N : ByteArray) (w : World) (hN : ∀ W, Calls Tryz.prog 128 #[.int .i64 (im - (A.size : Int))] W fun e w' => e = .returned (.string N) ∧ Below W.heap.size W w') (i1 : 0 ≤ im) (i2 : im ≤ 99) (hs : N.size + A.size ≤ 100000) (q : Nat) (g1 : 0 < ix) (g2 : ix + (q : Int) = (N.size : Int) + (A.size : Int)) (g3 : 0 < q) : Calls Tryz.prog 89 #[prV k mf xf ms xs st cs ns ts es md hd im ix, .string A] w fun e w' => e = .returned (.string ((N ++ A).extract q (N.size + A.size))) ∧ Below w.heap.size w w' := by
  have HN := hide hN
  have hs2 : ¬ 9223372036854775807 < N.size + A.size := by omega
  have hs3 : (N ++ A).size = N.size + A.size := ByteArray.size_append
  have hs4 : ((N ++ A).size : Int) = (N.size : Int) + (A.size : Int) := by omega
  have g4 : ix < (N.size : Int) + (A.size : Int) := by omega
  have g5 : (N.size : Int) + (A.size : Int) - ix = (q : Int) := by omega
  clear g2
  clear hN
  have Bp0 := hide (Blk.newAt w (w.heap.size) (rfl) #[.int .i64 k, .int .i64 mf, .int .i64 xf, .int .i64 ms, .int .i64 xs, .bool st, .int .i64 cs, .bool ns, .string ts, .int .i64 es, .int .i64 md, .bool hd, .int .i64 im, .int .i64 ix] 61)
  have HB0 : Hid (Below w.heap.size w (w.alloc (.cells #[.int .i64 k, .int .i64 mf, .int .i64 xf, .int .i64 ms, .int .i64 xs, .bool st, .int .i64 cs, .bool ns, .string ts, .int .i64 es, .int .i64 md, .bool hd, .int .i64 im, .int .i64 ix] 61))) := ((Below.refl _ _).alloc (Nat.le_refl _) _)
  go_enter Tryz.func89, Tryz.ntmps89
  go_wp2_with fail
  refine (HN.out _).mono ?_
  rintro e w1 ⟨rfl, hb⟩
  have Bp1 := Blk.on Bp0 hb
  have HB1 := hide (HB0.out.trans (hb.mono HB0.out.size))
  clear hb Bp0 HB0 
  obtain ⟨yp0, yp1, yp2, yp3, yp4, yp5, yp6, yp7, yp8, yp9, yp10, yp11, yp12, yp13⟩ := Bp1.out.fourteen
  go_wp2
  go_ret
  exact ⟨rfl, HB1.out⟩

set_option maxHeartbeats 1000000 in
theorem frac_h (k mf xf ms xs : Int) (st : Bool) (cs : Int) (ns : Bool) (ts : ByteArray) (es md im ix n : Int) (w : World) : Calls Tryz.prog 90 #[prV k mf xf ms xs st cs ns ts es md true im ix, .string ⟨#[]⟩, .int .i64 n] w fun e w' => e = .returned (.string ⟨#[]⟩) ∧ Below w.heap.size w w' := by
  have Bp0 := hide (Blk.newAt w (w.heap.size) (rfl) #[.int .i64 k, .int .i64 mf, .int .i64 xf, .int .i64 ms, .int .i64 xs, .bool st, .int .i64 cs, .bool ns, .string ts, .int .i64 es, .int .i64 md, .bool true, .int .i64 im, .int .i64 ix] 61)
  have HB0 : Hid (Below w.heap.size w (w.alloc (.cells #[.int .i64 k, .int .i64 mf, .int .i64 xf, .int .i64 ms, .int .i64 xs, .bool st, .int .i64 cs, .bool ns, .string ts, .int .i64 es, .int .i64 md, .bool true, .int .i64 im, .int .i64 ix] 61))) := ((Below.refl _ _).alloc (Nat.le_refl _) _)
  go_enter Tryz.func90, Tryz.ntmps90
  go_wp2
  go_ret
  exact ⟨rfl, HB0.out⟩

set_option maxHeartbeats 1000000 in
theorem frac_f (k mf xf ms xs : Int) (st : Bool) (cs : Int) (ns : Bool) (ts : ByteArray) (es md im ix : Int) (B N : ByteArray) (n : Int) (w : World) (hN : ∀ W, Calls Tryz.prog 128 #[.int .i64 (n - (B.size : Int))] W fun e w' => e = .returned (.string N) ∧ Below W.heap.size W w') (n1 : -100000 ≤ n) (n2 : n ≤ 100000) (hs : B.size + N.size ≤ 100000)  : Calls Tryz.prog 90 #[prV k mf xf ms xs st cs ns ts es md false im ix, .string B, .int .i64 n] w fun e w' => e = .returned (.string (B ++ N)) ∧ Below w.heap.size w w' := by
  have HN := hide hN
  have hs2 : ¬ 9223372036854775807 < B.size + N.size := by omega
  clear hN
  have Bp0 := hide (Blk.newAt w (w.heap.size) (rfl) #[.int .i64 k, .int .i64 mf, .int .i64 xf, .int .i64 ms, .int .i64 xs, .bool st, .int .i64 cs, .bool ns, .string ts, .int .i64 es, .int .i64 md, .bool false, .int .i64 im, .int .i64 ix] 61)
  have HB0 : Hid (Below w.heap.size w (w.alloc (.cells #[.int .i64 k, .int .i64 mf, .int .i64 xf, .int .i64 ms, .int .i64 xs, .bool st, .int .i64 cs, .bool ns, .string ts, .int .i64 es, .int .i64 md, .bool false, .int .i64 im, .int .i64 ix] 61))) := ((Below.refl _ _).alloc (Nat.le_refl _) _)
  go_enter Tryz.func90, Tryz.ntmps90
  go_wp2_with fail
  refine (HN.out _).mono ?_
  rintro e w1 ⟨rfl, hb⟩
  have Bp1 := Blk.on Bp0 hb
  have HB1 := hide (HB0.out.trans (hb.mono HB0.out.size))
  clear hb Bp0 HB0 
  obtain ⟨yp0, yp1, yp2, yp3, yp4, yp5, yp6, yp7, yp8, yp9, yp10, yp11, yp12, yp13⟩ := Bp1.out.fourteen
  go_wp2
  go_ret
  exact ⟨rfl, HB1.out⟩

set_option maxHeartbeats 1000000 in
theorem frac_b (k mf xf ms xs : Int) (st : Bool) (cs : Int) (ns : Bool) (ts : ByteArray) (es md im ix : Int) (B N : ByteArray) (n : Int) (w : World) (hN : ∀ W, Calls Tryz.prog 128 #[.int .i64 (n - (B.size : Int))] W fun e w' => e = .returned (.string N) ∧ Below W.heap.size W w') (n1 : -100000 ≤ n) (n2 : n ≤ 100000) (hs : B.size + N.size ≤ 100000) (h0 : B.size ≠ 0) : Calls Tryz.prog 90 #[prV k mf xf ms xs st cs ns ts es md true im ix, .string B, .int .i64 n] w fun e w' => e = .returned (.string (B ++ N)) ∧ Below w.heap.size w w' := by
  have HN := hide hN
  have hs2 : ¬ 9223372036854775807 < B.size + N.size := by omega
  clear hN
  have h3 := toList_ne h0
  clear h0
  have Bp0 := hide (Blk.newAt w (w.heap.size) (rfl) #[.int .i64 k, .int .i64 mf, .int .i64 xf, .int .i64 ms, .int .i64 xs, .bool st, .int .i64 cs, .bool ns, .string ts, .int .i64 es, .int .i64 md, .bool true, .int .i64 im, .int .i64 ix] 61)
  have HB0 : Hid (Below w.heap.size w (w.alloc (.cells #[.int .i64 k, .int .i64 mf, .int .i64 xf, .int .i64 ms, .int .i64 xs, .bool st, .int .i64 cs, .bool ns, .string ts, .int .i64 es, .int .i64 md, .bool true, .int .i64 im, .int .i64 ix] 61))) := ((Below.refl _ _).alloc (Nat.le_refl _) _)
  go_enter Tryz.func90, Tryz.ntmps90
  go_wp2_with fail
  refine (HN.out _).mono ?_
  rintro e w1 ⟨rfl, hb⟩
  have Bp1 := Blk.on Bp0 hb
  have HB1 := hide (HB0.out.trans (hb.mono HB0.out.size))
  clear hb Bp0 HB0 
  obtain ⟨yp0, yp1, yp2, yp3, yp4, yp5, yp6, yp7, yp8, yp9, yp10, yp11, yp12, yp13⟩ := Bp1.out.fourteen
  go_wp2
  go_ret
  exact ⟨rfl, HB1.out⟩

set_option maxHeartbeats 2000000 in
theorem digits_z (k mf xf ms xs : Int) (st : Bool) (cs : Int) (ns : Bool) (ts : ByteArray) (es md : Int) (hd : Bool) (im ix cr : Int) (nr : Bool) (tr : ByteArray) (er n : Int) (A B  : ByteArray) (w : World) (hS : ∀ W, Calls Tryz.prog 88 #[dcV cr nr tr er] W fun e w' => e = .returned (.tuple #[.string A, .string B]) ∧ Below W.heap.size W w') (hW : ∀ W, Calls Tryz.prog 89 #[prV k mf xf ms xs st cs ns ts es md hd im ix, .string A] W fun e w' => e = .returned (.string ⟨#[]⟩) ∧ Below W.heap.size W w') (hF : ∀ W, Calls Tryz.prog 90 #[prV k mf xf ms xs st cs ns ts es md hd im ix, .string B, .int .i64 n] W fun e w' => e = .returned (.string ⟨#[]⟩) ∧ Below W.heap.size W w')  : Calls Tryz.prog 38 #[prV k mf xf ms xs st cs ns ts es md hd im ix, dcV cr nr tr er, .int .i64 n] w fun e w' => e = .returned (.tuple #[.string ⟨#[48]⟩, .string ⟨#[]⟩]) ∧ Below w.heap.size w w' := by
  have HS := hide hS
  have HWh := hide hW
  have HFr := hide hF
  clear hS hW hF
  have Bp0 := hide ((Blk.newAt w (w.heap.size) (rfl) #[.int .i64 k, .int .i64 mf, .int .i64 xf, .int .i64 ms, .int .i64 xs, .bool st, .int .i64 cs, .bool ns, .string ts, .int .i64 es, .int .i64 md, .bool hd, .int .i64 im, .int .i64 ix] 61).alloc (.cells #[.int .i64 cr, .bool nr, .string tr, .int .i64 er] 23))
  have Br0 := hide (Blk.newAt (w.alloc (.cells #[.int .i64 k, .int .i64 mf, .int .i64 xf, .int .i64 ms, .int .i64 xs, .bool st, .int .i64 cs, .bool ns, .string ts, .int .i64 es, .int .i64 md, .bool hd, .int .i64 im, .int .i64 ix] 61)) (w.heap.size + 1) (by simp) #[.int .i64 cr, .bool nr, .string tr, .int .i64 er] 23)
  have HB0 : Hid (Below w.heap.size w ((w.alloc (.cells #[.int .i64 k, .int .i64 mf, .int .i64 xf, .int .i64 ms, .int .i64 xs, .bool st, .int .i64 cs, .bool ns, .string ts, .int .i64 es, .int .i64 md, .bool hd, .int .i64 im, .int .i64 ix] 61)).alloc (.cells #[.int .i64 cr, .bool nr, .string tr, .int .i64 er] 23))) := (((Below.refl _ _).alloc (Nat.le_refl _) _).alloc (by simp <;> omega) _)
  go_enter Tryz.func38, Tryz.ntmps38
  go_wp2_with fail
  refine (HS.out _).mono ?_
  rintro e w1 ⟨rfl, hb⟩
  have Bp1 := Blk.on Bp0 hb
  have Br1 := Blk.on Br0 hb
  have HB1 := hide (HB0.out.trans (hb.mono HB0.out.size))
  clear hb Bp0 Br0 HB0 
  obtain ⟨yp0, yp1, yp2, yp3, yp4, yp5, yp6, yp7, yp8, yp9, yp10, yp11, yp12, yp13⟩ := Bp1.out.fourteen
  obtain ⟨yr0, yr1, yr2, yr3⟩ := Br1.out.four
  have b0 : Hid (Below w1.heap.size w1 w1.drew) := bdrewD w1
  have HC : Hid (∀ w', Below w1.heap.size w1 w' → w'.cell? ⟨w.heap.size, 0, none⟩ = some (.int .i64 k) ∧ w'.cell? ⟨w.heap.size, 1, none⟩ = some (.int .i64 mf) ∧ w'.cell? ⟨w.heap.size, 2, none⟩ = some (.int .i64 xf) ∧ w'.cell? ⟨w.heap.size, 3, none⟩ = some (.int .i64 ms) ∧ w'.cell? ⟨w.heap.size, 4, none⟩ = some (.int .i64 xs) ∧ w'.cell? ⟨w.heap.size, 5, none⟩ = some (.bool st) ∧ w'.cell? ⟨w.heap.size, 6, none⟩ = some (.int .i64 cs) ∧ w'.cell? ⟨w.heap.size, 7, none⟩ = some (.bool ns) ∧ w'.cell? ⟨w.heap.size, 8, none⟩ = some (.string ts) ∧ w'.cell? ⟨w.heap.size, 9, none⟩ = some (.int .i64 es) ∧ w'.cell? ⟨w.heap.size, 10, none⟩ = some (.int .i64 md) ∧ w'.cell? ⟨w.heap.size, 11, none⟩ = some (.bool hd) ∧ w'.cell? ⟨w.heap.size, 12, none⟩ = some (.int .i64 im) ∧ w'.cell? ⟨w.heap.size, 13, none⟩ = some (.int .i64 ix)) := fun w' hb => (Bp1.out.below hb Bp1.out.lt).fourteen
  clear Bp1 Br1
  go_wp2_with fail
  have mk0 : True := trivial
  go_region_held3 (fun w' => w'.cell? ⟨w.heap.size, 0, none⟩ = some (.int .i64 k) ∧ w'.cell? ⟨w.heap.size, 1, none⟩ = some (.int .i64 mf) ∧ w'.cell? ⟨w.heap.size, 2, none⟩ = some (.int .i64 xf) ∧ w'.cell? ⟨w.heap.size, 3, none⟩ = some (.int .i64 ms) ∧ w'.cell? ⟨w.heap.size, 4, none⟩ = some (.int .i64 xs) ∧ w'.cell? ⟨w.heap.size, 5, none⟩ = some (.bool st) ∧ w'.cell? ⟨w.heap.size, 6, none⟩ = some (.int .i64 cs) ∧ w'.cell? ⟨w.heap.size, 7, none⟩ = some (.bool ns) ∧ w'.cell? ⟨w.heap.size, 8, none⟩ = some (.string ts) ∧ w'.cell? ⟨w.heap.size, 9, none⟩ = some (.int .i64 es) ∧ w'.cell? ⟨w.heap.size, 10, none⟩ = some (.int .i64 md) ∧ w'.cell? ⟨w.heap.size, 11, none⟩ = some (.bool hd) ∧ w'.cell? ⟨w.heap.size, 12, none⟩ = some (.int .i64 im) ∧ w'.cell? ⟨w.heap.size, 13, none⟩ = some (.int .i64 ix)) (go_keep) (first
    | (clear mk0; go_at_call 89; refine (HWh.out _).mono ?_; rintro e umkw ⟨rfl, hb⟩; have b1 := hide (b0.out.trans (hb.mono b0.out.size)); clear hb; obtain ⟨qmkw_0, qmkw_1, qmkw_2, qmkw_3, qmkw_4, qmkw_5, qmkw_6, qmkw_7, qmkw_8, qmkw_9, qmkw_10, qmkw_11, qmkw_12, qmkw_13⟩ := HC.out _ b1.out; have mkw : True := trivial)
    | (clear mk0; go_at_call 90; refine (HFr.out _).mono ?_; rintro e umkf ⟨rfl, hb⟩; have b1 := hide (b0.out.trans (hb.mono b0.out.size)); clear hb; obtain ⟨qmkf_0, qmkf_1, qmkf_2, qmkf_3, qmkf_4, qmkf_5, qmkf_6, qmkf_7, qmkf_8, qmkf_9, qmkf_10, qmkf_11, qmkf_12, qmkf_13⟩ := HC.out _ b1.out; have mkf : True := trivial)
    | (clear mkw; go_at_call 90; refine (HFr.out _).mono ?_; rintro e umkx ⟨rfl, hb⟩; have b2 := hide (b1.out.trans (hb.mono b1.out.size)); clear hb; obtain ⟨qmkx_0, qmkx_1, qmkx_2, qmkx_3, qmkx_4, qmkx_5, qmkx_6, qmkx_7, qmkx_8, qmkx_9, qmkx_10, qmkx_11, qmkx_12, qmkx_13⟩ := HC.out _ b2.out; have mkx : True := trivial)
    | (clear mkf; go_at_call 89; refine (HWh.out _).mono ?_; rintro e umkx ⟨rfl, hb⟩; have b2 := hide (b1.out.trans (hb.mono b1.out.size)); clear hb; obtain ⟨qmkx_0, qmkx_1, qmkx_2, qmkx_3, qmkx_4, qmkx_5, qmkx_6, qmkx_7, qmkx_8, qmkx_9, qmkx_10, qmkx_11, qmkx_12, qmkx_13⟩ := HC.out _ b2.out; have mkx : True := trivial))
  all_goals
    have HBE := hide (HB1.out.trans (b2.out.mono HB1.out.size))
    go_wp2
    go_ret2
    exact ⟨rfl, HBE.out⟩

set_option maxHeartbeats 2000000 in
theorem digits_i (k mf xf ms xs : Int) (st : Bool) (cs : Int) (ns : Bool) (ts : ByteArray) (es md : Int) (hd : Bool) (im ix cr : Int) (nr : Bool) (tr : ByteArray) (er n : Int) (A B I F : ByteArray) (w : World) (hS : ∀ W, Calls Tryz.prog 88 #[dcV cr nr tr er] W fun e w' => e = .returned (.tuple #[.string A, .string B]) ∧ Below W.heap.size W w') (hW : ∀ W, Calls Tryz.prog 89 #[prV k mf xf ms xs st cs ns ts es md hd im ix, .string A] W fun e w' => e = .returned (.string I) ∧ Below W.heap.size W w') (hF : ∀ W, Calls Tryz.prog 90 #[prV k mf xf ms xs st cs ns ts es md hd im ix, .string B, .int .i64 n] W fun e w' => e = .returned (.string F) ∧ Below W.heap.size W w') (h0 : I.size ≠ 0) : Calls Tryz.prog 38 #[prV k mf xf ms xs st cs ns ts es md hd im ix, dcV cr nr tr er, .int .i64 n] w fun e w' => e = .returned (.tuple #[.string I, .string F]) ∧ Below w.heap.size w w' := by
  have HS := hide hS
  have HWh := hide hW
  have HFr := hide hF
  clear hS hW hF
  have h3 := toList_ne h0
  clear h0
  have Bp0 := hide ((Blk.newAt w (w.heap.size) (rfl) #[.int .i64 k, .int .i64 mf, .int .i64 xf, .int .i64 ms, .int .i64 xs, .bool st, .int .i64 cs, .bool ns, .string ts, .int .i64 es, .int .i64 md, .bool hd, .int .i64 im, .int .i64 ix] 61).alloc (.cells #[.int .i64 cr, .bool nr, .string tr, .int .i64 er] 23))
  have Br0 := hide (Blk.newAt (w.alloc (.cells #[.int .i64 k, .int .i64 mf, .int .i64 xf, .int .i64 ms, .int .i64 xs, .bool st, .int .i64 cs, .bool ns, .string ts, .int .i64 es, .int .i64 md, .bool hd, .int .i64 im, .int .i64 ix] 61)) (w.heap.size + 1) (by simp) #[.int .i64 cr, .bool nr, .string tr, .int .i64 er] 23)
  have HB0 : Hid (Below w.heap.size w ((w.alloc (.cells #[.int .i64 k, .int .i64 mf, .int .i64 xf, .int .i64 ms, .int .i64 xs, .bool st, .int .i64 cs, .bool ns, .string ts, .int .i64 es, .int .i64 md, .bool hd, .int .i64 im, .int .i64 ix] 61)).alloc (.cells #[.int .i64 cr, .bool nr, .string tr, .int .i64 er] 23))) := (((Below.refl _ _).alloc (Nat.le_refl _) _).alloc (by simp <;> omega) _)
  go_enter Tryz.func38, Tryz.ntmps38
  go_wp2_with fail
  refine (HS.out _).mono ?_
  rintro e w1 ⟨rfl, hb⟩
  have Bp1 := Blk.on Bp0 hb
  have Br1 := Blk.on Br0 hb
  have HB1 := hide (HB0.out.trans (hb.mono HB0.out.size))
  clear hb Bp0 Br0 HB0 
  obtain ⟨yp0, yp1, yp2, yp3, yp4, yp5, yp6, yp7, yp8, yp9, yp10, yp11, yp12, yp13⟩ := Bp1.out.fourteen
  obtain ⟨yr0, yr1, yr2, yr3⟩ := Br1.out.four
  have b0 : Hid (Below w1.heap.size w1 w1.drew) := bdrewD w1
  have HC : Hid (∀ w', Below w1.heap.size w1 w' → w'.cell? ⟨w.heap.size, 0, none⟩ = some (.int .i64 k) ∧ w'.cell? ⟨w.heap.size, 1, none⟩ = some (.int .i64 mf) ∧ w'.cell? ⟨w.heap.size, 2, none⟩ = some (.int .i64 xf) ∧ w'.cell? ⟨w.heap.size, 3, none⟩ = some (.int .i64 ms) ∧ w'.cell? ⟨w.heap.size, 4, none⟩ = some (.int .i64 xs) ∧ w'.cell? ⟨w.heap.size, 5, none⟩ = some (.bool st) ∧ w'.cell? ⟨w.heap.size, 6, none⟩ = some (.int .i64 cs) ∧ w'.cell? ⟨w.heap.size, 7, none⟩ = some (.bool ns) ∧ w'.cell? ⟨w.heap.size, 8, none⟩ = some (.string ts) ∧ w'.cell? ⟨w.heap.size, 9, none⟩ = some (.int .i64 es) ∧ w'.cell? ⟨w.heap.size, 10, none⟩ = some (.int .i64 md) ∧ w'.cell? ⟨w.heap.size, 11, none⟩ = some (.bool hd) ∧ w'.cell? ⟨w.heap.size, 12, none⟩ = some (.int .i64 im) ∧ w'.cell? ⟨w.heap.size, 13, none⟩ = some (.int .i64 ix)) := fun w' hb => (Bp1.out.below hb Bp1.out.lt).fourteen
  clear Bp1 Br1
  go_wp2_with fail
  have mk0 : True := trivial
  go_region_held3 (fun w' => w'.cell? ⟨w.heap.size, 0, none⟩ = some (.int .i64 k) ∧ w'.cell? ⟨w.heap.size, 1, none⟩ = some (.int .i64 mf) ∧ w'.cell? ⟨w.heap.size, 2, none⟩ = some (.int .i64 xf) ∧ w'.cell? ⟨w.heap.size, 3, none⟩ = some (.int .i64 ms) ∧ w'.cell? ⟨w.heap.size, 4, none⟩ = some (.int .i64 xs) ∧ w'.cell? ⟨w.heap.size, 5, none⟩ = some (.bool st) ∧ w'.cell? ⟨w.heap.size, 6, none⟩ = some (.int .i64 cs) ∧ w'.cell? ⟨w.heap.size, 7, none⟩ = some (.bool ns) ∧ w'.cell? ⟨w.heap.size, 8, none⟩ = some (.string ts) ∧ w'.cell? ⟨w.heap.size, 9, none⟩ = some (.int .i64 es) ∧ w'.cell? ⟨w.heap.size, 10, none⟩ = some (.int .i64 md) ∧ w'.cell? ⟨w.heap.size, 11, none⟩ = some (.bool hd) ∧ w'.cell? ⟨w.heap.size, 12, none⟩ = some (.int .i64 im) ∧ w'.cell? ⟨w.heap.size, 13, none⟩ = some (.int .i64 ix)) (go_keep) (first
    | (clear mk0; go_at_call 89; refine (HWh.out _).mono ?_; rintro e umkw ⟨rfl, hb⟩; have b1 := hide (b0.out.trans (hb.mono b0.out.size)); clear hb; obtain ⟨qmkw_0, qmkw_1, qmkw_2, qmkw_3, qmkw_4, qmkw_5, qmkw_6, qmkw_7, qmkw_8, qmkw_9, qmkw_10, qmkw_11, qmkw_12, qmkw_13⟩ := HC.out _ b1.out; have mkw : True := trivial)
    | (clear mk0; go_at_call 90; refine (HFr.out _).mono ?_; rintro e umkf ⟨rfl, hb⟩; have b1 := hide (b0.out.trans (hb.mono b0.out.size)); clear hb; obtain ⟨qmkf_0, qmkf_1, qmkf_2, qmkf_3, qmkf_4, qmkf_5, qmkf_6, qmkf_7, qmkf_8, qmkf_9, qmkf_10, qmkf_11, qmkf_12, qmkf_13⟩ := HC.out _ b1.out; have mkf : True := trivial)
    | (clear mkw; go_at_call 90; refine (HFr.out _).mono ?_; rintro e umkx ⟨rfl, hb⟩; have b2 := hide (b1.out.trans (hb.mono b1.out.size)); clear hb; obtain ⟨qmkx_0, qmkx_1, qmkx_2, qmkx_3, qmkx_4, qmkx_5, qmkx_6, qmkx_7, qmkx_8, qmkx_9, qmkx_10, qmkx_11, qmkx_12, qmkx_13⟩ := HC.out _ b2.out; have mkx : True := trivial)
    | (clear mkf; go_at_call 89; refine (HWh.out _).mono ?_; rintro e umkx ⟨rfl, hb⟩; have b2 := hide (b1.out.trans (hb.mono b1.out.size)); clear hb; obtain ⟨qmkx_0, qmkx_1, qmkx_2, qmkx_3, qmkx_4, qmkx_5, qmkx_6, qmkx_7, qmkx_8, qmkx_9, qmkx_10, qmkx_11, qmkx_12, qmkx_13⟩ := HC.out _ b2.out; have mkx : True := trivial))
  all_goals
    have HBE := hide (HB1.out.trans (b2.out.mono HB1.out.size))
    go_wp2
    go_ret2
    exact ⟨rfl, HBE.out⟩

set_option maxHeartbeats 2000000 in
theorem digits_f (k mf xf ms xs : Int) (st : Bool) (cs : Int) (ns : Bool) (ts : ByteArray) (es md : Int) (hd : Bool) (im ix cr : Int) (nr : Bool) (tr : ByteArray) (er n : Int) (A B F : ByteArray) (w : World) (hS : ∀ W, Calls Tryz.prog 88 #[dcV cr nr tr er] W fun e w' => e = .returned (.tuple #[.string A, .string B]) ∧ Below W.heap.size W w') (hW : ∀ W, Calls Tryz.prog 89 #[prV k mf xf ms xs st cs ns ts es md hd im ix, .string A] W fun e w' => e = .returned (.string ⟨#[]⟩) ∧ Below W.heap.size W w') (hF : ∀ W, Calls Tryz.prog 90 #[prV k mf xf ms xs st cs ns ts es md hd im ix, .string B, .int .i64 n] W fun e w' => e = .returned (.string F) ∧ Below W.heap.size W w') (h0 : F.size ≠ 0) : Calls Tryz.prog 38 #[prV k mf xf ms xs st cs ns ts es md hd im ix, dcV cr nr tr er, .int .i64 n] w fun e w' => e = .returned (.tuple #[.string ⟨#[]⟩, .string F]) ∧ Below w.heap.size w w' := by
  have HS := hide hS
  have HWh := hide hW
  have HFr := hide hF
  clear hS hW hF
  have h3 := toList_ne h0
  clear h0
  have Bp0 := hide ((Blk.newAt w (w.heap.size) (rfl) #[.int .i64 k, .int .i64 mf, .int .i64 xf, .int .i64 ms, .int .i64 xs, .bool st, .int .i64 cs, .bool ns, .string ts, .int .i64 es, .int .i64 md, .bool hd, .int .i64 im, .int .i64 ix] 61).alloc (.cells #[.int .i64 cr, .bool nr, .string tr, .int .i64 er] 23))
  have Br0 := hide (Blk.newAt (w.alloc (.cells #[.int .i64 k, .int .i64 mf, .int .i64 xf, .int .i64 ms, .int .i64 xs, .bool st, .int .i64 cs, .bool ns, .string ts, .int .i64 es, .int .i64 md, .bool hd, .int .i64 im, .int .i64 ix] 61)) (w.heap.size + 1) (by simp) #[.int .i64 cr, .bool nr, .string tr, .int .i64 er] 23)
  have HB0 : Hid (Below w.heap.size w ((w.alloc (.cells #[.int .i64 k, .int .i64 mf, .int .i64 xf, .int .i64 ms, .int .i64 xs, .bool st, .int .i64 cs, .bool ns, .string ts, .int .i64 es, .int .i64 md, .bool hd, .int .i64 im, .int .i64 ix] 61)).alloc (.cells #[.int .i64 cr, .bool nr, .string tr, .int .i64 er] 23))) := (((Below.refl _ _).alloc (Nat.le_refl _) _).alloc (by simp <;> omega) _)
  go_enter Tryz.func38, Tryz.ntmps38
  go_wp2_with fail
  refine (HS.out _).mono ?_
  rintro e w1 ⟨rfl, hb⟩
  have Bp1 := Blk.on Bp0 hb
  have Br1 := Blk.on Br0 hb
  have HB1 := hide (HB0.out.trans (hb.mono HB0.out.size))
  clear hb Bp0 Br0 HB0 
  obtain ⟨yp0, yp1, yp2, yp3, yp4, yp5, yp6, yp7, yp8, yp9, yp10, yp11, yp12, yp13⟩ := Bp1.out.fourteen
  obtain ⟨yr0, yr1, yr2, yr3⟩ := Br1.out.four
  have b0 : Hid (Below w1.heap.size w1 w1.drew) := bdrewD w1
  have HC : Hid (∀ w', Below w1.heap.size w1 w' → w'.cell? ⟨w.heap.size, 0, none⟩ = some (.int .i64 k) ∧ w'.cell? ⟨w.heap.size, 1, none⟩ = some (.int .i64 mf) ∧ w'.cell? ⟨w.heap.size, 2, none⟩ = some (.int .i64 xf) ∧ w'.cell? ⟨w.heap.size, 3, none⟩ = some (.int .i64 ms) ∧ w'.cell? ⟨w.heap.size, 4, none⟩ = some (.int .i64 xs) ∧ w'.cell? ⟨w.heap.size, 5, none⟩ = some (.bool st) ∧ w'.cell? ⟨w.heap.size, 6, none⟩ = some (.int .i64 cs) ∧ w'.cell? ⟨w.heap.size, 7, none⟩ = some (.bool ns) ∧ w'.cell? ⟨w.heap.size, 8, none⟩ = some (.string ts) ∧ w'.cell? ⟨w.heap.size, 9, none⟩ = some (.int .i64 es) ∧ w'.cell? ⟨w.heap.size, 10, none⟩ = some (.int .i64 md) ∧ w'.cell? ⟨w.heap.size, 11, none⟩ = some (.bool hd) ∧ w'.cell? ⟨w.heap.size, 12, none⟩ = some (.int .i64 im) ∧ w'.cell? ⟨w.heap.size, 13, none⟩ = some (.int .i64 ix)) := fun w' hb => (Bp1.out.below hb Bp1.out.lt).fourteen
  clear Bp1 Br1
  go_wp2_with fail
  have mk0 : True := trivial
  go_region_held3 (fun w' => w'.cell? ⟨w.heap.size, 0, none⟩ = some (.int .i64 k) ∧ w'.cell? ⟨w.heap.size, 1, none⟩ = some (.int .i64 mf) ∧ w'.cell? ⟨w.heap.size, 2, none⟩ = some (.int .i64 xf) ∧ w'.cell? ⟨w.heap.size, 3, none⟩ = some (.int .i64 ms) ∧ w'.cell? ⟨w.heap.size, 4, none⟩ = some (.int .i64 xs) ∧ w'.cell? ⟨w.heap.size, 5, none⟩ = some (.bool st) ∧ w'.cell? ⟨w.heap.size, 6, none⟩ = some (.int .i64 cs) ∧ w'.cell? ⟨w.heap.size, 7, none⟩ = some (.bool ns) ∧ w'.cell? ⟨w.heap.size, 8, none⟩ = some (.string ts) ∧ w'.cell? ⟨w.heap.size, 9, none⟩ = some (.int .i64 es) ∧ w'.cell? ⟨w.heap.size, 10, none⟩ = some (.int .i64 md) ∧ w'.cell? ⟨w.heap.size, 11, none⟩ = some (.bool hd) ∧ w'.cell? ⟨w.heap.size, 12, none⟩ = some (.int .i64 im) ∧ w'.cell? ⟨w.heap.size, 13, none⟩ = some (.int .i64 ix)) (go_keep) (first
    | (clear mk0; go_at_call 89; refine (HWh.out _).mono ?_; rintro e umkw ⟨rfl, hb⟩; have b1 := hide (b0.out.trans (hb.mono b0.out.size)); clear hb; obtain ⟨qmkw_0, qmkw_1, qmkw_2, qmkw_3, qmkw_4, qmkw_5, qmkw_6, qmkw_7, qmkw_8, qmkw_9, qmkw_10, qmkw_11, qmkw_12, qmkw_13⟩ := HC.out _ b1.out; have mkw : True := trivial)
    | (clear mk0; go_at_call 90; refine (HFr.out _).mono ?_; rintro e umkf ⟨rfl, hb⟩; have b1 := hide (b0.out.trans (hb.mono b0.out.size)); clear hb; obtain ⟨qmkf_0, qmkf_1, qmkf_2, qmkf_3, qmkf_4, qmkf_5, qmkf_6, qmkf_7, qmkf_8, qmkf_9, qmkf_10, qmkf_11, qmkf_12, qmkf_13⟩ := HC.out _ b1.out; have mkf : True := trivial)
    | (clear mkw; go_at_call 90; refine (HFr.out _).mono ?_; rintro e umkx ⟨rfl, hb⟩; have b2 := hide (b1.out.trans (hb.mono b1.out.size)); clear hb; obtain ⟨qmkx_0, qmkx_1, qmkx_2, qmkx_3, qmkx_4, qmkx_5, qmkx_6, qmkx_7, qmkx_8, qmkx_9, qmkx_10, qmkx_11, qmkx_12, qmkx_13⟩ := HC.out _ b2.out; have mkx : True := trivial)
    | (clear mkf; go_at_call 89; refine (HWh.out _).mono ?_; rintro e umkx ⟨rfl, hb⟩; have b2 := hide (b1.out.trans (hb.mono b1.out.size)); clear hb; obtain ⟨qmkx_0, qmkx_1, qmkx_2, qmkx_3, qmkx_4, qmkx_5, qmkx_6, qmkx_7, qmkx_8, qmkx_9, qmkx_10, qmkx_11, qmkx_12, qmkx_13⟩ := HC.out _ b2.out; have mkx : True := trivial))
  all_goals
    have HBE := hide (HB1.out.trans (b2.out.mono HB1.out.size))
    go_wp2
    go_ret2
    exact ⟨rfl, HBE.out⟩

end Go.Proofs.YtobloamnaemfnaaGreatDoor

namespace Go.Proofs.YtobloamnaemfnaaGreatDoor
open Go.RowKit

theorem mk_app (a : List UInt8) (t : ByteArray) : (⟨a.toArray⟩ : ByteArray) ++ t = ⟨(a ++ bys t).toArray⟩ := by
  rw [← mk_bys (⟨a.toArray⟩ ++ t), bys_append, bys_mk a]
theorem app_mk (t : ByteArray) (a : List UInt8) : t ++ (⟨a.toArray⟩ : ByteArray) = ⟨(bys t ++ a).toArray⟩ := by
  rw [← mk_bys (t ++ ⟨a.toArray⟩), bys_append, bys_mk a]
theorem nought_len (n : Int) : (nought n).length = n.toNat := by unfold nought; rw [List.length_replicate]
theorem xsplit_any (n : Bool) (t : ByteArray) (x : Int) (w : World) (h : MayD 0 n (bys t) x) : Calls Tryz.prog 88 #[dcV 0 n t x] w fun e w' => e = .returned (.tuple #[.string ⟨(aheadD (bys t) x).toArray⟩, .string ⟨(behindD (bys t) x).toArray⟩]) ∧ Below w.heap.size w w' := by
  obtain ⟨b1, b2, b3, b4⟩ := may_place h
  have PL := fun W => Place_yes 0 n t x W h
  unfold aheadD behindD
  rw [bys_len]
  by_cases h1 : (t.size : Int) + x ≤ 0
  · rw [if_pos h1, if_pos h1]
    have g := split_a n t ⟨(nought (-((t.size : Int) + x))).toArray⟩ x ((t.size : Int) + x) w PL h1 (by omega) (fun W => noughts_any _ W (by omega)) (by rw [size_mk0 (nought _), nought_len]; omega)
    rw [mk_app] at g
    exact g
  · rw [if_neg h1, if_neg h1]
    by_cases h2 : 0 ≤ x
    · rw [if_pos h2, if_pos h2]
      have g := split_b n t ⟨(nought x).toArray⟩ x ((t.size : Int) + x) w PL (by omega) h2 (fun W => noughts_any _ W (by omega)) (by rw [size_mk0 (nought _), nought_len]; omega)
      rw [app_mk] at g
      exact g
    · rw [if_neg h2, if_neg h2]
      obtain ⟨q, hq⟩ : ∃ q : Nat, (t.size : Int) + x = (q : Int) := ⟨((t.size : Int) + x).toNat, by omega⟩
      rw [hq] at PL ⊢
      have g := split_c n t x q w PL (by omega) (by omega) (by omega)
      rw [← mk_bys (t.extract 0 q), ← mk_bys (t.extract q t.size), bys_to, bys_from _ _ _ (Nat.le_refl _)] at g
      exact g

theorem xwhole_any (k mf xf ms xs : Int) (st : Bool) (cs : Int) (ns : Bool) (ts : ByteArray) (es md : Int) (hd : Bool) (im ix : Int) (A : ByteArray) (w : World) (hA : A.size ≤ 50000) (h : IntOk ⟨k, mf, xf, ms, xs, st, cs, ns, bys ts, es, md, hd, im, ix⟩) : Calls Tryz.prog 89 #[prV k mf xf ms xs st cs ns ts es md hd im ix, .string A] w fun e w' => e = .returned (.string ⟨(wholeP ⟨k, mf, xf, ms, xs, st, cs, ns, bys ts, es, md, hd, im, ix⟩ (bys A)).toArray⟩) ∧ Below w.heap.size w w' := by
  obtain ⟨⟨h1, h2⟩, h3⟩ := h
  simp only at h1 h2 h3
  obtain ⟨N, hN⟩ : ∃ N : ByteArray, N = ⟨(nought (im - (A.size : Int))).toArray⟩ := ⟨_, rfl⟩
  have NG : ∀ W, Calls Tryz.prog 128 #[.int .i64 (im - (A.size : Int))] W fun e w' => e = .returned (.string N) ∧ Below W.heap.size W w' := by rw [hN]; exact fun W => noughts_any _ W (by omega)
  have hNs : N.size = (im - (A.size : Int)).toNat := by rw [hN, size_mk0, nought_len]
  have hf : bys (N ++ A) = fillI ⟨k, mf, xf, ms, xs, st, cs, ns, bys ts, es, md, hd, im, ix⟩ (bys A) := by rw [bys_append, hN, bys_mk]; unfold fillI; rw [bys_len]
  have hl : (fillI ⟨k, mf, xf, ms, xs, st, cs, ns, bys ts, es, md, hd, im, ix⟩ (bys A)).length = N.size + A.size := by rw [← hf, bys_len, ByteArray.size_append]
  unfold wholeP
  rw [hl, ← hf]
  simp only
  by_cases h4 : ix = 0
  · subst h4
    rw [if_neg (by omega), mk_bys]
    exact whole_z k mf xf ms xs st cs ns ts es md hd im A N w NG h1 h2 (by omega)
  · by_cases h5 : 0 < ix ∧ ix < ((N.size + A.size : Nat) : Int)
    · rw [if_pos h5]
      obtain ⟨q, hq⟩ : ∃ q : Nat, (((N.size + A.size : Nat) : Int) - ix) = (q : Int) := ⟨(((N.size + A.size : Nat) : Int) - ix).toNat, by omega⟩
      rw [hq]
      have g := whole_c k mf xf ms xs st cs ns ts es md hd im ix A N w NG h1 h2 (by omega) q h5.1 (by omega) (by omega)
      rw [← mk_bys ((N ++ A).extract q (N.size + A.size)), bys_from _ _ _ (by rw [ByteArray.size_append]; exact Nat.le_refl _)] at g
      exact g
    · rw [if_neg h5, mk_bys]
      exact whole_n k mf xf ms xs st cs ns ts es md hd im ix A N w NG h1 h2 (by omega) (by omega) (by omega)

theorem xfraction_any (k mf xf ms xs : Int) (st : Bool) (cs : Int) (ns : Bool) (ts : ByteArray) (es md : Int) (hd : Bool) (im ix : Int) (B : ByteArray) (n : Int) (w : World) (hB : B.size ≤ 50000) (n1 : -10000 ≤ n) (n2 : n ≤ 10000) : Calls Tryz.prog 90 #[prV k mf xf ms xs st cs ns ts es md hd im ix, .string B, .int .i64 n] w fun e w' => e = .returned (.string ⟨(fracP ⟨k, mf, xf, ms, xs, st, cs, ns, bys ts, es, md, hd, im, ix⟩ (bys B) n).toArray⟩) ∧ Below w.heap.size w w' := by
  obtain ⟨N, hN⟩ : ∃ N : ByteArray, N = ⟨(nought (n - (B.size : Int))).toArray⟩ := ⟨_, rfl⟩
  have NG : ∀ W, Calls Tryz.prog 128 #[.int .i64 (n - (B.size : Int))] W fun e w' => e = .returned (.string N) ∧ Below W.heap.size W w' := by rw [hN]; exact fun W => noughts_any _ W (by omega)
  have hNs : N.size = (n - (B.size : Int)).toNat := by rw [hN, size_mk0, nought_len]
  have hf : (⟨(bys B ++ nought (n - (B.size : Int))).toArray⟩ : ByteArray) = B ++ N := by rw [hN, app_mk]
  unfold fracP
  simp only
  rw [bys_len]
  by_cases h1 : hd = true ∧ bys B = []
  · rw [if_pos h1]
    obtain ⟨h1, h2⟩ := h1
    subst h1
    obtain rfl : B = ⟨#[]⟩ := by rw [← mk_bys B, h2]
    exact frac_h k mf xf ms xs st cs ns ts es md im ix n w
  · rw [if_neg h1, hf]
    cases hd
    · exact frac_f k mf xf ms xs st cs ns ts es md im ix B N n w NG (by omega) (by omega) (by omega)
    · exact frac_b k mf xf ms xs st cs ns ts es md im ix B N n w NG (by omega) (by omega) (by omega) (fun e => h1 ⟨rfl, bys_nil.2 e⟩)

theorem ahead_len {n : Bool} {t : ByteArray} {x : Int} (h : MayD 0 n (bys t) x) : (aheadD (bys t) x).length ≤ 4000 ∧ (behindD (bys t) x).length ≤ 4000 := by
  obtain ⟨b1, b2, b3, b4⟩ := may_place h
  unfold aheadD behindD
  rw [bys_len]
  by_cases h1 : (t.size : Int) + x ≤ 0
  · rw [if_pos h1, if_pos h1]
    simp only [List.length_append, List.length_nil, nought_len, bys_len]
    omega
  · rw [if_neg h1, if_neg h1]
    by_cases h2 : 0 ≤ x
    · rw [if_pos h2, if_pos h2]
      simp only [List.length_append, List.length_nil, nought_len, bys_len]
      omega
    · rw [if_neg h2, if_neg h2]
      simp only [List.length_take, List.length_drop, bys_len]
      omega

theorem xdigits_any (k mf xf ms xs : Int) (st : Bool) (cs : Int) (ns : Bool) (ts : ByteArray) (es md : Int) (hd : Bool) (im ix : Int) (nr : Bool) (tr : ByteArray) (er n : Int) (w : World) (hr : MayD 0 nr (bys tr) er) (h : IntOk ⟨k, mf, xf, ms, xs, st, cs, ns, bys ts, es, md, hd, im, ix⟩) (n1 : -10000 ≤ n) (n2 : n ≤ 10000) : Calls Tryz.prog 38 #[prV k mf xf ms xs st cs ns ts es md hd im ix, dcV 0 nr tr er, .int .i64 n] w fun e w' => e = .returned (.tuple #[.string ⟨(digitsP ⟨k, mf, xf, ms, xs, st, cs, ns, bys ts, es, md, hd, im, ix⟩ ⟨0, nr, bys tr, er⟩ n).1.toArray⟩, .string ⟨(digitsP ⟨k, mf, xf, ms, xs, st, cs, ns, bys ts, es, md, hd, im, ix⟩ ⟨0, nr, bys tr, er⟩ n).2.toArray⟩]) ∧ Below w.heap.size w w' := by
  obtain ⟨l1, l2⟩ := ahead_len hr
  obtain ⟨A, hA⟩ : ∃ A : ByteArray, A = ⟨(aheadD (bys tr) er).toArray⟩ := ⟨_, rfl⟩
  obtain ⟨B, hB⟩ : ∃ B : ByteArray, B = ⟨(behindD (bys tr) er).toArray⟩ := ⟨_, rfl⟩
  have SP := fun W => xsplit_any nr tr er W hr
  rw [← hA, ← hB] at SP
  have hA1 : bys A = aheadD (bys tr) er := by rw [hA, bys_mk]
  have hB1 : bys B = behindD (bys tr) er := by rw [hB, bys_mk]
  have hA2 : A.size ≤ 4000 := by rw [hA, size_mk0]; exact l1
  have hB2 : B.size ≤ 4000 := by rw [hB, size_mk0]; exact l2
  have WH := fun W => xwhole_any k mf xf ms xs st cs ns ts es md hd im ix A W (by omega) h
  have FR := fun W => xfraction_any k mf xf ms xs st cs ns ts es md hd im ix B n W (by omega) n1 n2
  unfold digitsP
  simp only
  rw [← hA1, ← hB1]
  by_cases h1 : wholeP ⟨k, mf, xf, ms, xs, st, cs, ns, bys ts, es, md, hd, im, ix⟩ (bys A) = []
  · rw [h1] at WH
    by_cases h2 : fracP ⟨k, mf, xf, ms, xs, st, cs, ns, bys ts, es, md, hd, im, ix⟩ (bys B) n = []
    · rw [h2] at FR
      rw [if_pos ⟨h1, h2⟩]
      exact digits_z k mf xf ms xs st cs ns ts es md hd im ix 0 nr tr er n A B w SP WH FR
    · rw [if_neg (fun g => h2 g.2), h1]
      exact digits_f k mf xf ms xs st cs ns ts es md hd im ix 0 nr tr er n A B _ w SP WH FR (by rw [size_mk0]; exact fun e => h2 (List.length_eq_zero_iff.1 e))
  · rw [if_neg (fun g => h1 g.1)]
    exact digits_i k mf xf ms xs st cs ns ts es md hd im ix 0 nr tr er n A B _ _ w SP WH FR (by rw [size_mk0]; exact fun e => h1 (List.length_eq_zero_iff.1 e))

end Go.Proofs.YtobloamnaemfnaaGreatDoor

namespace Go.Proofs.YtobloamnaemfnaaGreatDoor
open Go.RowKit

abbrev shV (c : Int) (n : Bool) (ti tf : ByteArray) (x : Int) (cm : Bool) : Value := .agg #[.int .i64 c, .bool n, .string ti, .string tf, .int .i64 x, .bool cm]

theorem trim_ten (t : ByteArray) (w : World) (h : t.size ≤ 4096) : Calls Tryz.prog 131 #[.string t, .string ⟨#[48, 49, 50, 51, 52, 53, 54, 55, 56, 57]⟩] w fun e w' => e = .returned (.string ⟨(Lib.trimS (bys t) tenD).toArray⟩) ∧ Below w.heap.size w w' :=
  Any.strings_Trim_laid Tryz.lays160 (by kernel_rfl) t ⟨#[48, 49, 50, 51, 52, 53, 54, 55, 56, 57]⟩ w (by omega) (by decide) (ascii_of_all (by decide))

set_option maxHeartbeats 1000000 in
theorem areShown_long (t : ByteArray) (w : World) (h : 4096 < t.size) : Calls Tryz.prog 93 #[.string t] w fun e w' => e = .returned (.bool false) ∧ Below w.heap.size w w' := by
  have h2 : decide ((t.size : Int) ≤ 4096) = false := decide_eq_false (by omega)
  clear h
  go_enter Tryz.func93, Tryz.ntmps93
  go_wp2
  go_ret
  exact ⟨rfl, Below.refl _ _⟩

set_option maxHeartbeats 1000000 in
theorem areShown_t (t : ByteArray) (w : World) (h : t.size ≤ 4096) (g : Lib.trimS (bys t) tenD = []) : Calls Tryz.prog 93 #[.string t] w fun e w' => e = .returned (.bool true) ∧ Below w.heap.size w w' := by
  have TR := hide (fun W => trim_ten t W h)
  have h2 : decide ((t.size : Int) ≤ 4096) = true := decide_eq_true (by omega)
  obtain ⟨D, hD⟩ : ∃ D : ByteArray, D = ⟨(Lib.trimS (bys t) tenD).toArray⟩ := ⟨_, rfl⟩
  rw [← hD] at TR
  obtain rfl : D = ⟨#[]⟩ := by rw [hD, g]
  clear hD g h
  go_enter Tryz.func93, Tryz.ntmps93
  go_wp2_with fail
  refine (TR.out _).mono ?_
  rintro e w1 ⟨rfl, hb⟩
  have HB := hide hb
  clear hb
  go_wp2
  go_ret
  exact ⟨rfl, HB.out⟩

set_option maxHeartbeats 1000000 in
theorem areShown_f (t : ByteArray) (w : World) (h : t.size ≤ 4096) (g : Lib.trimS (bys t) tenD ≠ []) : Calls Tryz.prog 93 #[.string t] w fun e w' => e = .returned (.bool false) ∧ Below w.heap.size w w' := by
  have TR := hide (fun W => trim_ten t W h)
  have h2 : decide ((t.size : Int) ≤ 4096) = true := decide_eq_true (by omega)
  obtain ⟨D, hD⟩ : ∃ D : ByteArray, D = ⟨(Lib.trimS (bys t) tenD).toArray⟩ := ⟨_, rfl⟩
  rw [← hD] at TR
  have hn := toList_ne (t := D) (by rw [hD, size_mk0]; exact fun e => g (List.length_eq_zero_iff.1 e))
  clear hD g h
  go_enter Tryz.func93, Tryz.ntmps93
  go_wp2_with fail
  refine (TR.out _).mono ?_
  rintro e w1 ⟨rfl, hb⟩
  have HB := hide hb
  clear hb
  go_wp2
  go_ret
  exact ⟨rfl, HB.out⟩

theorem areShown_T (t : ByteArray) (w : World) (h : (bys t).length ≤ 4096 ∧ DigB (bys t)) : Calls Tryz.prog 93 #[.string t] w fun e w' => e = .returned (.bool true) ∧ Below w.heap.size w w' :=
  areShown_t t w (by have := h.1; rwa [bys_len] at this) (trim_digB.2 h.2)
theorem areShown_F (t : ByteArray) (w : World) (h : ¬ ((bys t).length ≤ 4096 ∧ DigB (bys t))) : Calls Tryz.prog 93 #[.string t] w fun e w' => e = .returned (.bool false) ∧ Below w.heap.size w w' := by
  rw [bys_len] at h
  by_cases h1 : t.size ≤ 4096
  · exact areShown_f t w h1 (fun g => h ⟨h1, trim_digB.1 g⟩)
  · exact areShown_long t w (by omega)

set_option maxHeartbeats 1000000 in
theorem mayShown_x (c : Int) (n : Bool) (ti tf : ByteArray) (x : Int) (cm : Bool) (w : World) (h : ¬ (-2001 ≤ x ∧ x ≤ 2001)) : Calls Tryz.prog 43 #[shV c n ti tf x cm] w fun e w' => e = .returned (.bool false) ∧ Below w.heap.size w w' := by
  have C0 := hide (fun W => within_f x (-2001) 2001 W h)
  clear h
  have Bs0 := hide (Blk.newAt w (w.heap.size) (rfl) #[.int .i64 c, .bool n, .string ti, .string tf, .int .i64 x, .bool cm] 34)
  have HB0 : Hid (Below w.heap.size w (w.alloc (.cells #[.int .i64 c, .bool n, .string ti, .string tf, .int .i64 x, .bool cm] 34))) := ((Below.refl _ _).alloc (Nat.le_refl _) _)
  go_enter Tryz.func43, Tryz.ntmps43
  go_wp2_with fail
  refine (C0.out _).mono ?_
  rintro e w1 ⟨rfl, hb⟩
  have Bs1 := Blk.on Bs0 hb
  have HB1 := hide (HB0.out.trans (hb.mono HB0.out.size))
  clear hb Bs0 HB0 
  obtain ⟨ys0, ys1, ys2, ys3, ys4, ys5⟩ := Bs1.out.six
  go_wp2
  go_ret
  exact ⟨rfl, HB1.out⟩

set_option maxHeartbeats 1000000 in
theorem mayShown_0z (n : Bool) (x : Int) (cm : Bool) (w : World) (x1 : -2001 ≤ x) (x2 : x ≤ 2001) : Calls Tryz.prog 43 #[shV 0 n ⟨#[]⟩ ⟨#[]⟩ x cm] w fun e w' => e = .returned (.bool false) ∧ Below w.heap.size w w' := by
  have C0 := hide (fun W => within_t x (-2001) 2001 W x1 x2)
  clear x1 x2
  have Bs0 := hide (Blk.newAt w (w.heap.size) (rfl) #[.int .i64 0, .bool n, .string ⟨#[]⟩, .string ⟨#[]⟩, .int .i64 x, .bool cm] 34)
  have HB0 : Hid (Below w.heap.size w (w.alloc (.cells #[.int .i64 0, .bool n, .string ⟨#[]⟩, .string ⟨#[]⟩, .int .i64 x, .bool cm] 34))) := ((Below.refl _ _).alloc (Nat.le_refl _) _)
  go_enter Tryz.func43, Tryz.ntmps43
  go_wp2_with fail
  refine (C0.out _).mono ?_
  rintro e w1 ⟨rfl, hb⟩
  have Bs1 := Blk.on Bs0 hb
  have HB1 := hide (HB0.out.trans (hb.mono HB0.out.size))
  clear hb Bs0 HB0 
  obtain ⟨ys0, ys1, ys2, ys3, ys4, ys5⟩ := Bs1.out.six
  go_wp2
  go_ret
  exact ⟨rfl, HB1.out⟩

set_option maxHeartbeats 1000000 in
theorem mayShown_0if (n : Bool) (ti tf : ByteArray) (x : Int) (cm : Bool) (w : World) (x1 : -2001 ≤ x) (x2 : x ≤ 2001) (h : ti.size ≠ 0) (g : ¬ ((bys ti).length ≤ 4096 ∧ DigB (bys ti))) : Calls Tryz.prog 43 #[shV 0 n ti tf x cm] w fun e w' => e = .returned (.bool false) ∧ Below w.heap.size w w' := by
  have C0 := hide (fun W => within_t x (-2001) 2001 W x1 x2)
  have C1 := hide (fun W => areShown_F ti W g)
  have hn := toList_ne h
  clear x1 x2 h g
  have Bs0 := hide (Blk.newAt w (w.heap.size) (rfl) #[.int .i64 0, .bool n, .string ti, .string tf, .int .i64 x, .bool cm] 34)
  have HB0 : Hid (Below w.heap.size w (w.alloc (.cells #[.int .i64 0, .bool n, .string ti, .string tf, .int .i64 x, .bool cm] 34))) := ((Below.refl _ _).alloc (Nat.le_refl _) _)
  go_enter Tryz.func43, Tryz.ntmps43
  go_wp2_with fail
  refine (C0.out _).mono ?_
  rintro e w1 ⟨rfl, hb⟩
  have Bs1 := Blk.on Bs0 hb
  have HB1 := hide (HB0.out.trans (hb.mono HB0.out.size))
  clear hb Bs0 HB0 
  obtain ⟨ys0, ys1, ys2, ys3, ys4, ys5⟩ := Bs1.out.six
  go_wp2_with fail
  refine (C1.out _).mono ?_
  rintro e w2 ⟨rfl, hb⟩
  have Bs2 := Blk.on Bs1 hb
  have HB2 := hide (HB1.out.trans (hb.mono HB1.out.size))
  clear hb Bs1 HB1 ys0 ys1 ys2 ys3 ys4 ys5
  obtain ⟨ys0, ys1, ys2, ys3, ys4, ys5⟩ := Bs2.out.six
  go_wp2
  go_ret
  exact ⟨rfl, HB2.out⟩

set_option maxHeartbeats 1000000 in
theorem mayShown_0it (n : Bool) (ti tf : ByteArray) (x : Int) (cm : Bool) (w : World) (x1 : -2001 ≤ x) (x2 : x ≤ 2001) (h : ti.size ≠ 0) (g : (bys ti).length ≤ 4096 ∧ DigB (bys ti)) (b : Bool) (hb : ∀ W, Calls Tryz.prog 93 #[.string tf] W fun e w' => e = .returned (.bool b) ∧ Below W.heap.size W w') : Calls Tryz.prog 43 #[shV 0 n ti tf x cm] w fun e w' => e = .returned (.bool b) ∧ Below w.heap.size w w' := by
  have C0 := hide (fun W => within_t x (-2001) 2001 W x1 x2)
  have C1 := hide (fun W => areShown_T ti W g)
  have C2 := hide (fun W => hb W)
  have hn := toList_ne h
  clear x1 x2 h g hb
  have Bs0 := hide (Blk.newAt w (w.heap.size) (rfl) #[.int .i64 0, .bool n, .string ti, .string tf, .int .i64 x, .bool cm] 34)
  have HB0 : Hid (Below w.heap.size w (w.alloc (.cells #[.int .i64 0, .bool n, .string ti, .string tf, .int .i64 x, .bool cm] 34))) := ((Below.refl _ _).alloc (Nat.le_refl _) _)
  go_enter Tryz.func43, Tryz.ntmps43
  go_wp2_with fail
  refine (C0.out _).mono ?_
  rintro e w1 ⟨rfl, hb⟩
  have Bs1 := Blk.on Bs0 hb
  have HB1 := hide (HB0.out.trans (hb.mono HB0.out.size))
  clear hb Bs0 HB0 
  obtain ⟨ys0, ys1, ys2, ys3, ys4, ys5⟩ := Bs1.out.six
  go_wp2_with fail
  refine (C1.out _).mono ?_
  rintro e w2 ⟨rfl, hb⟩
  have Bs2 := Blk.on Bs1 hb
  have HB2 := hide (HB1.out.trans (hb.mono HB1.out.size))
  clear hb Bs1 HB1 ys0 ys1 ys2 ys3 ys4 ys5
  obtain ⟨ys0, ys1, ys2, ys3, ys4, ys5⟩ := Bs2.out.six
  go_wp2_with fail
  refine (C2.out _).mono ?_
  rintro e w3 ⟨rfl, hb⟩
  have Bs3 := Blk.on Bs2 hb
  have HB3 := hide (HB2.out.trans (hb.mono HB2.out.size))
  clear hb Bs2 HB2 ys0 ys1 ys2 ys3 ys4 ys5
  obtain ⟨ys0, ys1, ys2, ys3, ys4, ys5⟩ := Bs3.out.six
  go_wp2
  go_ret
  exact ⟨rfl, HB3.out⟩

set_option maxHeartbeats 1000000 in
theorem mayShown_0f (n : Bool) (tf : ByteArray) (x : Int) (cm : Bool) (w : World) (x1 : -2001 ≤ x) (x2 : x ≤ 2001) (h : tf.size ≠ 0) (b : Bool) (hb : ∀ W, Calls Tryz.prog 93 #[.string tf] W fun e w' => e = .returned (.bool b) ∧ Below W.heap.size W w') : Calls Tryz.prog 43 #[shV 0 n ⟨#[]⟩ tf x cm] w fun e w' => e = .returned (.bool b) ∧ Below w.heap.size w w' := by
  have C0 := hide (fun W => within_t x (-2001) 2001 W x1 x2)
  have C1 := hide (fun W => areShown_T ⟨#[]⟩ W ⟨by decide, fun k hk => absurd hk (by simp [bys])⟩)
  have C2 := hide (fun W => hb W)
  have hn := toList_ne h
  clear x1 x2 h hb
  have Bs0 := hide (Blk.newAt w (w.heap.size) (rfl) #[.int .i64 0, .bool n, .string ⟨#[]⟩, .string tf, .int .i64 x, .bool cm] 34)
  have HB0 : Hid (Below w.heap.size w (w.alloc (.cells #[.int .i64 0, .bool n, .string ⟨#[]⟩, .string tf, .int .i64 x, .bool cm] 34))) := ((Below.refl _ _).alloc (Nat.le_refl _) _)
  go_enter Tryz.func43, Tryz.ntmps43
  go_wp2_with fail
  refine (C0.out _).mono ?_
  rintro e w1 ⟨rfl, hb⟩
  have Bs1 := Blk.on Bs0 hb
  have HB1 := hide (HB0.out.trans (hb.mono HB0.out.size))
  clear hb Bs0 HB0 
  obtain ⟨ys0, ys1, ys2, ys3, ys4, ys5⟩ := Bs1.out.six
  go_wp2_with fail
  refine (C1.out _).mono ?_
  rintro e w2 ⟨rfl, hb⟩
  have Bs2 := Blk.on Bs1 hb
  have HB2 := hide (HB1.out.trans (hb.mono HB1.out.size))
  clear hb Bs1 HB1 ys0 ys1 ys2 ys3 ys4 ys5
  obtain ⟨ys0, ys1, ys2, ys3, ys4, ys5⟩ := Bs2.out.six
  go_wp2_with fail
  refine (C2.out _).mono ?_
  rintro e w3 ⟨rfl, hb⟩
  have Bs3 := Blk.on Bs2 hb
  have HB3 := hide (HB2.out.trans (hb.mono HB2.out.size))
  clear hb Bs2 HB2 ys0 ys1 ys2 ys3 ys4 ys5
  obtain ⟨ys0, ys1, ys2, ys3, ys4, ys5⟩ := Bs3.out.six
  go_wp2
  go_ret
  exact ⟨rfl, HB3.out⟩

set_option maxHeartbeats 1000000 in
theorem mayShown_1i (n : Bool) (ti tf : ByteArray) (x : Int) (cm : Bool) (w : World) (x1 : -2001 ≤ x) (x2 : x ≤ 2001) (h : ti.size ≠ 0) : Calls Tryz.prog 43 #[shV 1 n ti tf x cm] w fun e w' => e = .returned (.bool false) ∧ Below w.heap.size w w' := by
  have C0 := hide (fun W => within_t x (-2001) 2001 W x1 x2)
  have hn := toList_ne h
  clear x1 x2 h
  have Bs0 := hide (Blk.newAt w (w.heap.size) (rfl) #[.int .i64 1, .bool n, .string ti, .string tf, .int .i64 x, .bool cm] 34)
  have HB0 : Hid (Below w.heap.size w (w.alloc (.cells #[.int .i64 1, .bool n, .string ti, .string tf, .int .i64 x, .bool cm] 34))) := ((Below.refl _ _).alloc (Nat.le_refl _) _)
  go_enter Tryz.func43, Tryz.ntmps43
  go_wp2_with fail
  refine (C0.out _).mono ?_
  rintro e w1 ⟨rfl, hb⟩
  have Bs1 := Blk.on Bs0 hb
  have HB1 := hide (HB0.out.trans (hb.mono HB0.out.size))
  clear hb Bs0 HB0 
  obtain ⟨ys0, ys1, ys2, ys3, ys4, ys5⟩ := Bs1.out.six
  go_wp2
  go_ret
  exact ⟨rfl, HB1.out⟩

set_option maxHeartbeats 1000000 in
theorem mayShown_1f (n : Bool) (tf : ByteArray) (x : Int) (cm : Bool) (w : World) (x1 : -2001 ≤ x) (x2 : x ≤ 2001) (h : tf.size ≠ 0) : Calls Tryz.prog 43 #[shV 1 n ⟨#[]⟩ tf x cm] w fun e w' => e = .returned (.bool false) ∧ Below w.heap.size w w' := by
  have C0 := hide (fun W => within_t x (-2001) 2001 W x1 x2)
  have hn := toList_ne h
  clear x1 x2 h
  have Bs0 := hide (Blk.newAt w (w.heap.size) (rfl) #[.int .i64 1, .bool n, .string ⟨#[]⟩, .string tf, .int .i64 x, .bool cm] 34)
  have HB0 : Hid (Below w.heap.size w (w.alloc (.cells #[.int .i64 1, .bool n, .string ⟨#[]⟩, .string tf, .int .i64 x, .bool cm] 34))) := ((Below.refl _ _).alloc (Nat.le_refl _) _)
  go_enter Tryz.func43, Tryz.ntmps43
  go_wp2_with fail
  refine (C0.out _).mono ?_
  rintro e w1 ⟨rfl, hb⟩
  have Bs1 := Blk.on Bs0 hb
  have HB1 := hide (HB0.out.trans (hb.mono HB0.out.size))
  clear hb Bs0 HB0 
  obtain ⟨ys0, ys1, ys2, ys3, ys4, ys5⟩ := Bs1.out.six
  go_wp2
  go_ret
  exact ⟨rfl, HB1.out⟩

set_option maxHeartbeats 1000000 in
theorem mayShown_2i (n : Bool) (ti tf : ByteArray) (x : Int) (cm : Bool) (w : World) (x1 : -2001 ≤ x) (x2 : x ≤ 2001) (h : ti.size ≠ 0) : Calls Tryz.prog 43 #[shV 2 n ti tf x cm] w fun e w' => e = .returned (.bool false) ∧ Below w.heap.size w w' := by
  have C0 := hide (fun W => within_t x (-2001) 2001 W x1 x2)
  have hn := toList_ne h
  clear x1 x2 h
  have Bs0 := hide (Blk.newAt w (w.heap.size) (rfl) #[.int .i64 2, .bool n, .string ti, .string tf, .int .i64 x, .bool cm] 34)
  have HB0 : Hid (Below w.heap.size w (w.alloc (.cells #[.int .i64 2, .bool n, .string ti, .string tf, .int .i64 x, .bool cm] 34))) := ((Below.refl _ _).alloc (Nat.le_refl _) _)
  go_enter Tryz.func43, Tryz.ntmps43
  go_wp2_with fail
  refine (C0.out _).mono ?_
  rintro e w1 ⟨rfl, hb⟩
  have Bs1 := Blk.on Bs0 hb
  have HB1 := hide (HB0.out.trans (hb.mono HB0.out.size))
  clear hb Bs0 HB0 
  obtain ⟨ys0, ys1, ys2, ys3, ys4, ys5⟩ := Bs1.out.six
  go_wp2
  go_ret
  exact ⟨rfl, HB1.out⟩

set_option maxHeartbeats 1000000 in
theorem mayShown_2f (n : Bool) (tf : ByteArray) (x : Int) (cm : Bool) (w : World) (x1 : -2001 ≤ x) (x2 : x ≤ 2001) (h : tf.size ≠ 0) : Calls Tryz.prog 43 #[shV 2 n ⟨#[]⟩ tf x cm] w fun e w' => e = .returned (.bool false) ∧ Below w.heap.size w w' := by
  have C0 := hide (fun W => within_t x (-2001) 2001 W x1 x2)
  have hn := toList_ne h
  clear x1 x2 h
  have Bs0 := hide (Blk.newAt w (w.heap.size) (rfl) #[.int .i64 2, .bool n, .string ⟨#[]⟩, .string tf, .int .i64 x, .bool cm] 34)
  have HB0 : Hid (Below w.heap.size w (w.alloc (.cells #[.int .i64 2, .bool n, .string ⟨#[]⟩, .string tf, .int .i64 x, .bool cm] 34))) := ((Below.refl _ _).alloc (Nat.le_refl _) _)
  go_enter Tryz.func43, Tryz.ntmps43
  go_wp2_with fail
  refine (C0.out _).mono ?_
  rintro e w1 ⟨rfl, hb⟩
  have Bs1 := Blk.on Bs0 hb
  have HB1 := hide (HB0.out.trans (hb.mono HB0.out.size))
  clear hb Bs0 HB0 
  obtain ⟨ys0, ys1, ys2, ys3, ys4, ys5⟩ := Bs1.out.six
  go_wp2
  go_ret
  exact ⟨rfl, HB1.out⟩

set_option maxHeartbeats 1000000 in
theorem mayShown_1t (n : Bool) (x : Int) (cm : Bool) (w : World) (x1 : -2001 ≤ x) (x2 : x ≤ 2001) : Calls Tryz.prog 43 #[shV 1 n ⟨#[]⟩ ⟨#[]⟩ x cm] w fun e w' => e = .returned (.bool true) ∧ Below w.heap.size w w' := by
  have C0 := hide (fun W => within_t x (-2001) 2001 W x1 x2)
  clear x1 x2
  have Bs0 := hide (Blk.newAt w (w.heap.size) (rfl) #[.int .i64 1, .bool n, .string ⟨#[]⟩, .string ⟨#[]⟩, .int .i64 x, .bool cm] 34)
  have HB0 : Hid (Below w.heap.size w (w.alloc (.cells #[.int .i64 1, .bool n, .string ⟨#[]⟩, .string ⟨#[]⟩, .int .i64 x, .bool cm] 34))) := ((Below.refl _ _).alloc (Nat.le_refl _) _)
  go_enter Tryz.func43, Tryz.ntmps43
  go_wp2_with fail
  refine (C0.out _).mono ?_
  rintro e w1 ⟨rfl, hb⟩
  have Bs1 := Blk.on Bs0 hb
  have HB1 := hide (HB0.out.trans (hb.mono HB0.out.size))
  clear hb Bs0 HB0 
  obtain ⟨ys0, ys1, ys2, ys3, ys4, ys5⟩ := Bs1.out.six
  go_wp2
  go_ret
  exact ⟨rfl, HB1.out⟩

set_option maxHeartbeats 1000000 in
theorem mayShown_2t (x : Int) (cm : Bool) (w : World) (x1 : -2001 ≤ x) (x2 : x ≤ 2001) : Calls Tryz.prog 43 #[shV 2 false ⟨#[]⟩ ⟨#[]⟩ x cm] w fun e w' => e = .returned (.bool true) ∧ Below w.heap.size w w' := by
  have C0 := hide (fun W => within_t x (-2001) 2001 W x1 x2)
  clear x1 x2
  have Bs0 := hide (Blk.newAt w (w.heap.size) (rfl) #[.int .i64 2, .bool false, .string ⟨#[]⟩, .string ⟨#[]⟩, .int .i64 x, .bool cm] 34)
  have HB0 : Hid (Below w.heap.size w (w.alloc (.cells #[.int .i64 2, .bool false, .string ⟨#[]⟩, .string ⟨#[]⟩, .int .i64 x, .bool cm] 34))) := ((Below.refl _ _).alloc (Nat.le_refl _) _)
  go_enter Tryz.func43, Tryz.ntmps43
  go_wp2_with fail
  refine (C0.out _).mono ?_
  rintro e w1 ⟨rfl, hb⟩
  have Bs1 := Blk.on Bs0 hb
  have HB1 := hide (HB0.out.trans (hb.mono HB0.out.size))
  clear hb Bs0 HB0 
  obtain ⟨ys0, ys1, ys2, ys3, ys4, ys5⟩ := Bs1.out.six
  go_wp2
  go_ret
  exact ⟨rfl, HB1.out⟩

set_option maxHeartbeats 1000000 in
theorem mayShown_2n (x : Int) (cm : Bool) (w : World) (x1 : -2001 ≤ x) (x2 : x ≤ 2001) : Calls Tryz.prog 43 #[shV 2 true ⟨#[]⟩ ⟨#[]⟩ x cm] w fun e w' => e = .returned (.bool false) ∧ Below w.heap.size w w' := by
  have C0 := hide (fun W => within_t x (-2001) 2001 W x1 x2)
  clear x1 x2
  have Bs0 := hide (Blk.newAt w (w.heap.size) (rfl) #[.int .i64 2, .bool true, .string ⟨#[]⟩, .string ⟨#[]⟩, .int .i64 x, .bool cm] 34)
  have HB0 : Hid (Below w.heap.size w (w.alloc (.cells #[.int .i64 2, .bool true, .string ⟨#[]⟩, .string ⟨#[]⟩, .int .i64 x, .bool cm] 34))) := ((Below.refl _ _).alloc (Nat.le_refl _) _)
  go_enter Tryz.func43, Tryz.ntmps43
  go_wp2_with fail
  refine (C0.out _).mono ?_
  rintro e w1 ⟨rfl, hb⟩
  have Bs1 := Blk.on Bs0 hb
  have HB1 := hide (HB0.out.trans (hb.mono HB0.out.size))
  clear hb Bs0 HB0 
  obtain ⟨ys0, ys1, ys2, ys3, ys4, ys5⟩ := Bs1.out.six
  go_wp2
  go_ret
  exact ⟨rfl, HB1.out⟩

set_option maxHeartbeats 1000000 in
theorem mayShown_3 (c : Int) (n : Bool) (ti tf : ByteArray) (x : Int) (cm : Bool) (w : World) (x1 : -2001 ≤ x) (x2 : x ≤ 2001) (h0 : ¬ c = 0) (h1 : ¬ c = 1) (h2 : ¬ c = 2) : Calls Tryz.prog 43 #[shV c n ti tf x cm] w fun e w' => e = .returned (.bool false) ∧ Below w.heap.size w w' := by
  have C0 := hide (fun W => within_t x (-2001) 2001 W x1 x2)
  clear x1 x2
  have Bs0 := hide (Blk.newAt w (w.heap.size) (rfl) #[.int .i64 c, .bool n, .string ti, .string tf, .int .i64 x, .bool cm] 34)
  have HB0 : Hid (Below w.heap.size w (w.alloc (.cells #[.int .i64 c, .bool n, .string ti, .string tf, .int .i64 x, .bool cm] 34))) := ((Below.refl _ _).alloc (Nat.le_refl _) _)
  go_enter Tryz.func43, Tryz.ntmps43
  go_wp2_with fail
  refine (C0.out _).mono ?_
  rintro e w1 ⟨rfl, hb⟩
  have Bs1 := Blk.on Bs0 hb
  have HB1 := hide (HB0.out.trans (hb.mono HB0.out.size))
  clear hb Bs0 HB0 
  obtain ⟨ys0, ys1, ys2, ys3, ys4, ys5⟩ := Bs1.out.six
  go_wp2
  go_ret
  exact ⟨rfl, HB1.out⟩

theorem bys_ne {t : ByteArray} (h : bys t ≠ []) : t.size ≠ 0 := fun e => h (bys_nil.2 e)

theorem mayShown_T (c : Int) (n : Bool) (ti tf : ByteArray) (x : Int) (cm : Bool) (w : World) (h : MayS ⟨c, n, bys ti, bys tf, x, cm⟩) : Calls Tryz.prog 43 #[shV c n ti tf x cm] w fun e w' => e = .returned (.bool true) ∧ Below w.heap.size w w' := by
  obtain ⟨⟨x1, x2⟩, h⟩ := h
  simp only at x1 x2
  rcases h with ⟨h1, h2, h3, h4⟩ | ⟨h1, h2, h3⟩ | ⟨h1, h2, h3, h4⟩
  · simp only at h1 h2 h3 h4
    subst h1
    by_cases hi : bys ti = []
    · obtain rfl := nil_bys hi
      have hf : bys tf ≠ [] := h2.resolve_left (fun g => g hi)
      exact mayShown_0f n tf x cm w x1 x2 (bys_ne hf) true (fun W => areShown_T tf W h4)
    · exact mayShown_0it n ti tf x cm w x1 x2 (bys_ne hi) h3 true (fun W => areShown_T tf W h4)
  · simp only at h1 h2 h3
    obtain rfl := nil_bys h2
    obtain rfl := nil_bys h3
    subst h1
    exact mayShown_1t n x cm w x1 x2
  · simp only at h1 h2 h3 h4
    obtain rfl := nil_bys h2
    obtain rfl := nil_bys h3
    subst h1 h4
    exact mayShown_2t x cm w x1 x2

theorem mayShown_F (c : Int) (n : Bool) (ti tf : ByteArray) (x : Int) (cm : Bool) (w : World) (h : ¬ MayS ⟨c, n, bys ti, bys tf, x, cm⟩) : Calls Tryz.prog 43 #[shV c n ti tf x cm] w fun e w' => e = .returned (.bool false) ∧ Below w.heap.size w w' := by
  by_cases hx : -2001 ≤ x ∧ x ≤ 2001
  rotate_left
  · exact mayShown_x c n ti tf x cm w hx
  obtain ⟨x1, x2⟩ := hx
  by_cases h0 : c = 0
  · subst h0
    by_cases hi : bys ti = []
    · obtain rfl := nil_bys hi
      by_cases hf : bys tf = []
      · obtain rfl := nil_bys hf
        exact mayShown_0z n x cm w x1 x2
      · exact mayShown_0f n tf x cm w x1 x2 (bys_ne hf) false (fun W => areShown_F tf W (fun g => h ⟨⟨x1, x2⟩, .inl ⟨rfl, .inr hf, ⟨show (bys ⟨#[]⟩).length ≤ 4096 from by decide, fun k hk => absurd hk (by simp [bys])⟩, g⟩⟩))
    · by_cases g1 : (bys ti).length ≤ 4096 ∧ DigB (bys ti)
      · exact mayShown_0it n ti tf x cm w x1 x2 (bys_ne hi) g1 false (fun W => areShown_F tf W (fun g => h ⟨⟨x1, x2⟩, .inl ⟨rfl, .inl hi, g1, g⟩⟩))
      · exact mayShown_0if n ti tf x cm w x1 x2 (bys_ne hi) g1
  by_cases h1 : c = 1
  · subst h1
    by_cases hi : bys ti = []
    · obtain rfl := nil_bys hi
      by_cases hf : bys tf = []
      · exact absurd ⟨⟨x1, x2⟩, .inr (.inl ⟨rfl, hi, hf⟩)⟩ h
      · exact mayShown_1f n tf x cm w x1 x2 (bys_ne hf)
    · exact mayShown_1i n ti tf x cm w x1 x2 (bys_ne hi)
  by_cases h2 : c = 2
  · subst h2
    by_cases hi : bys ti = []
    · obtain rfl := nil_bys hi
      by_cases hf : bys tf = []
      · obtain rfl := nil_bys hf
        cases n
        · exact absurd ⟨⟨x1, x2⟩, .inr (.inr ⟨rfl, hi, hf, rfl⟩)⟩ h
        · exact mayShown_2n x cm w x1 x2
      · exact mayShown_2f n tf x cm w x1 x2 (bys_ne hf)
    · exact mayShown_2i n ti tf x cm w x1 x2 (bys_ne hi)
  · exact mayShown_3 c n ti tf x cm w x1 x2 h0 h1 h2

set_option maxHeartbeats 1000000 in
theorem value_no (c : Int) (n : Bool) (ti tf : ByteArray) (x : Int) (cm : Bool) (w : World) (h : ¬ MayS ⟨c, n, bys ti, bys tf, x, cm⟩) : Calls Tryz.prog 16 #[shV c n ti tf x cm] w fun e w' => e = .returned (.tuple #[dcV 0 false ⟨#[]⟩ 0, .int .i64 71]) ∧ Below w.heap.size w w' := by
  have MS := hide (fun W => mayShown_F c n ti tf x cm W h)
  clear h
  have Bs0 := hide ((Blk.newAt w (w.heap.size) (rfl) #[.int .i64 c, .bool n, .string ti, .string tf, .int .i64 x, .bool cm] 34).alloc (.cells #[.int .i64 0, .bool false, .string ⟨#[]⟩, .int .i64 0] 23))
  have Br0 := hide (Blk.newAt (w.alloc (.cells #[.int .i64 c, .bool n, .string ti, .string tf, .int .i64 x, .bool cm] 34)) (w.heap.size + 1) (by simp) #[.int .i64 0, .bool false, .string ⟨#[]⟩, .int .i64 0] 23)
  have HB0 : Hid (Below w.heap.size w ((w.alloc (.cells #[.int .i64 c, .bool n, .string ti, .string tf, .int .i64 x, .bool cm] 34)).alloc (.cells #[.int .i64 0, .bool false, .string ⟨#[]⟩, .int .i64 0] 23))) := (((Below.refl _ _).alloc (Nat.le_refl _) _).alloc (by simp <;> omega) _)
  go_enter Tryz.func16, Tryz.ntmps16
  go_wp2_with fail
  refine (MS.out _).mono ?_
  rintro e w1 ⟨rfl, hb⟩
  have Bs1 := Blk.on Bs0 hb
  have Br1 := Blk.on Br0 hb
  have HB1 := hide (HB0.out.trans (hb.mono HB0.out.size))
  clear hb Bs0 Br0 HB0 
  obtain ⟨ys0, ys1, ys2, ys3, ys4, ys5⟩ := Bs1.out.six
  obtain ⟨yr0, yr1, yr2, yr3⟩ := Br1.out.four
  have fr0 := Br1.out.free 0
  have fr1 := Br1.out.free 1
  have fr2 := Br1.out.free 2
  have fr3 := Br1.out.free 3
  go_wp2
  refine bodyPost_ret (results_dec2 rfl _ _ _ _ _ _ _ rfl (Br1.out.put4 _ _ _ _)) rfl ?_
  exact ⟨rfl, below_put4 (HB1.out) (by omega) _ _ _ _⟩

set_option maxHeartbeats 1000000 in
theorem value_cls (c : Int) (n : Bool) (ti tf : ByteArray) (x : Int) (cm : Bool) (w : World) (h : MayS ⟨c, n, bys ti, bys tf, x, cm⟩) (h0 : ¬ c = 0) : Calls Tryz.prog 16 #[shV c n ti tf x cm] w fun e w' => e = .returned (.tuple #[dcV c n ⟨#[]⟩ 0, .int .i64 0]) ∧ Below w.heap.size w w' := by
  have MS := hide (fun W => mayShown_T c n ti tf x cm W h)
  clear h
  have Bs0 := hide ((Blk.newAt w (w.heap.size) (rfl) #[.int .i64 c, .bool n, .string ti, .string tf, .int .i64 x, .bool cm] 34).alloc (.cells #[.int .i64 0, .bool false, .string ⟨#[]⟩, .int .i64 0] 23))
  have Br0 := hide (Blk.newAt (w.alloc (.cells #[.int .i64 c, .bool n, .string ti, .string tf, .int .i64 x, .bool cm] 34)) (w.heap.size + 1) (by simp) #[.int .i64 0, .bool false, .string ⟨#[]⟩, .int .i64 0] 23)
  have HB0 : Hid (Below w.heap.size w ((w.alloc (.cells #[.int .i64 c, .bool n, .string ti, .string tf, .int .i64 x, .bool cm] 34)).alloc (.cells #[.int .i64 0, .bool false, .string ⟨#[]⟩, .int .i64 0] 23))) := (((Below.refl _ _).alloc (Nat.le_refl _) _).alloc (by simp <;> omega) _)
  go_enter Tryz.func16, Tryz.ntmps16
  go_wp2_with fail
  refine (MS.out _).mono ?_
  rintro e w1 ⟨rfl, hb⟩
  have Bs1 := Blk.on Bs0 hb
  have Br1 := Blk.on Br0 hb
  have HB1 := hide (HB0.out.trans (hb.mono HB0.out.size))
  clear hb Bs0 Br0 HB0 
  obtain ⟨ys0, ys1, ys2, ys3, ys4, ys5⟩ := Bs1.out.six
  obtain ⟨yr0, yr1, yr2, yr3⟩ := Br1.out.four
  have fr0 := Br1.out.free 0
  have fr1 := Br1.out.free 1
  have fr2 := Br1.out.free 2
  have fr3 := Br1.out.free 3
  go_wp2
  refine bodyPost_ret (results_dec2 rfl _ _ _ _ _ _ _ rfl (Br1.out.put4 _ _ _ _)) rfl ?_
  exact ⟨rfl, below_put4 (HB1.out) (by omega) _ _ _ _⟩

set_option maxHeartbeats 2000000 in
theorem value_true (ti tf : ByteArray) (x : Int) (cm : Bool) (J : ByteArray) (cx : Int) (nx : Bool) (tx : ByteArray) (ex rx : Int) (w : World) (htab : Tab w) (h : MayS ⟨0, true, bys ti, bys tf, x, cm⟩) (hJ : ∀ W, Tab W → Calls Tryz.prog 44 #[.int .i64 x] W fun e w' => e = .returned (.string J) ∧ Below W.heap.size W w') (hP : ∀ W, Calls Tryz.prog 8 #[.string (⟨#[45]⟩ ++ (ti ++ ⟨#[46]⟩ ++ tf ++ ⟨#[101]⟩ ++ J))] W fun e w' => e = .returned (.tuple #[.agg #[.int .i64 cx, .bool nx, .string tx, .int .i64 ex], .int .i64 rx]) ∧ Below W.heap.size W w') (z1 : ti.size ≤ 4096) (z2 : tf.size ≤ 4096) (z3 : J.size ≤ 10) : Calls Tryz.prog 16 #[shV 0 true ti tf x cm] w fun e w' => e = .returned (.tuple #[.agg #[.int .i64 cx, .bool nx, .string tx, .int .i64 ex], .int .i64 rx]) ∧ Below w.heap.size w w' := by
  have MS := hide (fun W => mayShown_T 0 true ti tf x cm W h)
  have IT := hide hJ
  have PA := hide hP
  have HT := hide htab
  have s1 : ¬ 9223372036854775807 < ti.size + 1 := by omega
  have s2 : ¬ 9223372036854775807 < ti.size + 1 + tf.size := by omega
  have s3 : ¬ 9223372036854775807 < ti.size + 1 + tf.size + 1 := by omega
  have s4 : ¬ 9223372036854775807 < ti.size + 1 + tf.size + 1 + J.size := by omega
  have s5 : ¬ 9223372036854775807 < 1 + (ti.size + 1 + tf.size + 1 + J.size) := by omega
  have e1 : (ti ++ ⟨#[46]⟩ : ByteArray).size = ti.size + 1 := by rw [ByteArray.size_append]; rfl
  have e2 : (ti ++ ⟨#[46]⟩ ++ tf : ByteArray).size = ti.size + 1 + tf.size := by rw [ByteArray.size_append, e1]
  have e3 : (ti ++ ⟨#[46]⟩ ++ tf ++ ⟨#[101]⟩ : ByteArray).size = ti.size + 1 + tf.size + 1 := by rw [ByteArray.size_append, e2]; rfl
  have e4 : (ti ++ ⟨#[46]⟩ ++ tf ++ ⟨#[101]⟩ ++ J : ByteArray).size = ti.size + 1 + tf.size + 1 + J.size := by rw [ByteArray.size_append, e3]
  clear h hJ hP htab z1 z2 z3
  have Bs0 := hide ((Blk.newAt w (w.heap.size) (rfl) #[.int .i64 0, .bool true, .string ti, .string tf, .int .i64 x, .bool cm] 34).alloc (.cells #[.int .i64 0, .bool false, .string ⟨#[]⟩, .int .i64 0] 23))
  have Br0 := hide (Blk.newAt (w.alloc (.cells #[.int .i64 0, .bool true, .string ti, .string tf, .int .i64 x, .bool cm] 34)) (w.heap.size + 1) (by simp) #[.int .i64 0, .bool false, .string ⟨#[]⟩, .int .i64 0] 23)
  have HB0 : Hid (Below w.heap.size w ((w.alloc (.cells #[.int .i64 0, .bool true, .string ti, .string tf, .int .i64 x, .bool cm] 34)).alloc (.cells #[.int .i64 0, .bool false, .string ⟨#[]⟩, .int .i64 0] 23))) := (((Below.refl _ _).alloc (Nat.le_refl _) _).alloc (by simp <;> omega) _)
  go_enter Tryz.func16, Tryz.ntmps16
  go_wp2_with fail
  refine (MS.out _).mono ?_
  rintro e w1 ⟨rfl, hb⟩
  have Bs1 := Blk.on Bs0 hb
  have Br1 := Blk.on Br0 hb
  have HB1 := hide (HB0.out.trans (hb.mono HB0.out.size))
  clear hb Bs0 Br0 HB0 
  obtain ⟨ys0, ys1, ys2, ys3, ys4, ys5⟩ := Bs1.out.six
  obtain ⟨yr0, yr1, yr2, yr3⟩ := Br1.out.four
  have HTW := hide (HT.out.below HB1.out)
  have b0 : Hid (Below w1.heap.size w1 w1.drew) := bdrewD w1
  have C0 : Hid (∀ X, Hid (Below w1.heap.size w1 X) → Calls Tryz.prog 44 #[.int .i64 x] X fun e w' => e = .returned (.string J) ∧ Hid (Below w1.heap.size w1 w') ∧ w'.cell? ⟨w.heap.size, 2, none⟩ = some (.string ti) ∧ w'.cell? ⟨w.heap.size, 3, none⟩ = some (.string tf) ∧ w'.cell? ⟨w.heap.size, 4, none⟩ = some (.int .i64 x)) := by
    intro X bX
    refine (IT.out X (HTW.out.below bX.out)).mono ?_
    rintro e w' ⟨rfl, hb⟩
    have bb := bX.out.trans (hb.mono bX.out.size)
    have Bsq := Bs1.out.below bb Bs1.out.lt
    exact ⟨rfl, bb, Bsq.cell 2, Bsq.cell 3, Bsq.cell 4⟩
  go_wp2_with fail
  have mk0 : True := trivial
  go_region_held3 (fun w' => w'.cell? ⟨w.heap.size, 2, none⟩ = some (.string ti) ∧ w'.cell? ⟨w.heap.size, 3, none⟩ = some (.string tf) ∧ w'.cell? ⟨w.heap.size, 4, none⟩ = some (.int .i64 x)) (go_keep) (first
    | (clear mk0; go_at_call 44; refine (C0.out _ b0).mono ?_; rintro e w2 ⟨rfl, b1, q0_0, q0_1, q0_2⟩; have mk1 : True := trivial))
  have Bs2 := hide (Bs1.out.below b1.out Bs1.out.lt)
  have Br2 := hide (Br1.out.below b1.out Br1.out.lt)
  have HB2 := hide (HB1.out.trans (b1.out.mono HB1.out.size))
  clear mk1 b0 b1 C0 q0_0 q0_1 q0_2 Bs1 Br1 HB1 ys0 ys1 ys2 ys3 ys4 ys5 yr0 yr1 yr2 yr3
  obtain ⟨ys0, ys1, ys2, ys3, ys4, ys5⟩ := Bs2.out.six
  obtain ⟨yr0, yr1, yr2, yr3⟩ := Br2.out.four
  go_wp2_with fail
  refine (PA.out _).mono ?_
  rintro e w3 ⟨rfl, hb⟩
  have Bs3 := Blk.on Bs2 hb
  have Br3 := Blk.on Br2 hb
  have HB3 := hide (HB2.out.trans (hb.mono HB2.out.size))
  clear hb Bs2 Br2 HB2 ys0 ys1 ys2 ys3 ys4 ys5 yr0 yr1 yr2 yr3
  obtain ⟨ys0, ys1, ys2, ys3, ys4, ys5⟩ := Bs3.out.six
  obtain ⟨yr0, yr1, yr2, yr3⟩ := Br3.out.four
  have fr0 := Br3.out.free 0
  have fr1 := Br3.out.free 1
  have fr2 := Br3.out.free 2
  have fr3 := Br3.out.free 3
  go_wp2
  refine bodyPost_ret (results_dec2 rfl _ _ _ _ _ _ _ rfl (Br3.out.put4 _ _ _ _)) rfl ?_
  exact ⟨rfl, below_put4 (HB3.out) (by omega) _ _ _ _⟩

set_option maxHeartbeats 2000000 in
theorem value_false (ti tf : ByteArray) (x : Int) (cm : Bool) (J : ByteArray) (cx : Int) (nx : Bool) (tx : ByteArray) (ex rx : Int) (w : World) (htab : Tab w) (h : MayS ⟨0, false, bys ti, bys tf, x, cm⟩) (hJ : ∀ W, Tab W → Calls Tryz.prog 44 #[.int .i64 x] W fun e w' => e = .returned (.string J) ∧ Below W.heap.size W w') (hP : ∀ W, Calls Tryz.prog 8 #[.string (ti ++ ⟨#[46]⟩ ++ tf ++ ⟨#[101]⟩ ++ J)] W fun e w' => e = .returned (.tuple #[.agg #[.int .i64 cx, .bool nx, .string tx, .int .i64 ex], .int .i64 rx]) ∧ Below W.heap.size W w') (z1 : ti.size ≤ 4096) (z2 : tf.size ≤ 4096) (z3 : J.size ≤ 10) : Calls Tryz.prog 16 #[shV 0 false ti tf x cm] w fun e w' => e = .returned (.tuple #[.agg #[.int .i64 cx, .bool nx, .string tx, .int .i64 ex], .int .i64 rx]) ∧ Below w.heap.size w w' := by
  have MS := hide (fun W => mayShown_T 0 false ti tf x cm W h)
  have IT := hide hJ
  have PA := hide hP
  have HT := hide htab
  have s1 : ¬ 9223372036854775807 < ti.size + 1 := by omega
  have s2 : ¬ 9223372036854775807 < ti.size + 1 + tf.size := by omega
  have s3 : ¬ 9223372036854775807 < ti.size + 1 + tf.size + 1 := by omega
  have s4 : ¬ 9223372036854775807 < ti.size + 1 + tf.size + 1 + J.size := by omega
  have s5 : ¬ 9223372036854775807 < 1 + (ti.size + 1 + tf.size + 1 + J.size) := by omega
  have e1 : (ti ++ ⟨#[46]⟩ : ByteArray).size = ti.size + 1 := by rw [ByteArray.size_append]; rfl
  have e2 : (ti ++ ⟨#[46]⟩ ++ tf : ByteArray).size = ti.size + 1 + tf.size := by rw [ByteArray.size_append, e1]
  have e3 : (ti ++ ⟨#[46]⟩ ++ tf ++ ⟨#[101]⟩ : ByteArray).size = ti.size + 1 + tf.size + 1 := by rw [ByteArray.size_append, e2]; rfl
  have e4 : (ti ++ ⟨#[46]⟩ ++ tf ++ ⟨#[101]⟩ ++ J : ByteArray).size = ti.size + 1 + tf.size + 1 + J.size := by rw [ByteArray.size_append, e3]
  clear h hJ hP htab z1 z2 z3
  have Bs0 := hide ((Blk.newAt w (w.heap.size) (rfl) #[.int .i64 0, .bool false, .string ti, .string tf, .int .i64 x, .bool cm] 34).alloc (.cells #[.int .i64 0, .bool false, .string ⟨#[]⟩, .int .i64 0] 23))
  have Br0 := hide (Blk.newAt (w.alloc (.cells #[.int .i64 0, .bool false, .string ti, .string tf, .int .i64 x, .bool cm] 34)) (w.heap.size + 1) (by simp) #[.int .i64 0, .bool false, .string ⟨#[]⟩, .int .i64 0] 23)
  have HB0 : Hid (Below w.heap.size w ((w.alloc (.cells #[.int .i64 0, .bool false, .string ti, .string tf, .int .i64 x, .bool cm] 34)).alloc (.cells #[.int .i64 0, .bool false, .string ⟨#[]⟩, .int .i64 0] 23))) := (((Below.refl _ _).alloc (Nat.le_refl _) _).alloc (by simp <;> omega) _)
  go_enter Tryz.func16, Tryz.ntmps16
  go_wp2_with fail
  refine (MS.out _).mono ?_
  rintro e w1 ⟨rfl, hb⟩
  have Bs1 := Blk.on Bs0 hb
  have Br1 := Blk.on Br0 hb
  have HB1 := hide (HB0.out.trans (hb.mono HB0.out.size))
  clear hb Bs0 Br0 HB0 
  obtain ⟨ys0, ys1, ys2, ys3, ys4, ys5⟩ := Bs1.out.six
  obtain ⟨yr0, yr1, yr2, yr3⟩ := Br1.out.four
  have HTW := hide (HT.out.below HB1.out)
  have b0 : Hid (Below w1.heap.size w1 w1.drew) := bdrewD w1
  have C0 : Hid (∀ X, Hid (Below w1.heap.size w1 X) → Calls Tryz.prog 44 #[.int .i64 x] X fun e w' => e = .returned (.string J) ∧ Hid (Below w1.heap.size w1 w') ∧ w'.cell? ⟨w.heap.size, 2, none⟩ = some (.string ti) ∧ w'.cell? ⟨w.heap.size, 3, none⟩ = some (.string tf) ∧ w'.cell? ⟨w.heap.size, 4, none⟩ = some (.int .i64 x)) := by
    intro X bX
    refine (IT.out X (HTW.out.below bX.out)).mono ?_
    rintro e w' ⟨rfl, hb⟩
    have bb := bX.out.trans (hb.mono bX.out.size)
    have Bsq := Bs1.out.below bb Bs1.out.lt
    exact ⟨rfl, bb, Bsq.cell 2, Bsq.cell 3, Bsq.cell 4⟩
  go_wp2_with fail
  have mk0 : True := trivial
  go_region_held3 (fun w' => w'.cell? ⟨w.heap.size, 2, none⟩ = some (.string ti) ∧ w'.cell? ⟨w.heap.size, 3, none⟩ = some (.string tf) ∧ w'.cell? ⟨w.heap.size, 4, none⟩ = some (.int .i64 x)) (go_keep) (first
    | (clear mk0; go_at_call 44; refine (C0.out _ b0).mono ?_; rintro e w2 ⟨rfl, b1, q0_0, q0_1, q0_2⟩; have mk1 : True := trivial))
  have Bs2 := hide (Bs1.out.below b1.out Bs1.out.lt)
  have Br2 := hide (Br1.out.below b1.out Br1.out.lt)
  have HB2 := hide (HB1.out.trans (b1.out.mono HB1.out.size))
  clear mk1 b0 b1 C0 q0_0 q0_1 q0_2 Bs1 Br1 HB1 ys0 ys1 ys2 ys3 ys4 ys5 yr0 yr1 yr2 yr3
  obtain ⟨ys0, ys1, ys2, ys3, ys4, ys5⟩ := Bs2.out.six
  obtain ⟨yr0, yr1, yr2, yr3⟩ := Br2.out.four
  go_wp2_with fail
  refine (PA.out _).mono ?_
  rintro e w3 ⟨rfl, hb⟩
  have Bs3 := Blk.on Bs2 hb
  have Br3 := Blk.on Br2 hb
  have HB3 := hide (HB2.out.trans (hb.mono HB2.out.size))
  clear hb Bs2 Br2 HB2 ys0 ys1 ys2 ys3 ys4 ys5 yr0 yr1 yr2 yr3
  obtain ⟨ys0, ys1, ys2, ys3, ys4, ys5⟩ := Bs3.out.six
  obtain ⟨yr0, yr1, yr2, yr3⟩ := Br3.out.four
  have fr0 := Br3.out.free 0
  have fr1 := Br3.out.free 1
  have fr2 := Br3.out.free 2
  have fr3 := Br3.out.free 3
  go_wp2
  refine bodyPost_ret (results_dec2 rfl _ _ _ _ _ _ _ rfl (Br3.out.put4 _ _ _ _)) rfl ?_
  exact ⟨rfl, below_put4 (HB3.out) (by omega) _ _ _ _⟩

theorem Value_any (c : Int) (n : Bool) (ti tf : ByteArray) (x : Int) (cm : Bool) (w : World) (htab : Tab w) : Calls Tryz.prog 16 #[shV c n ti tf x cm] w fun e w' => e = .returned (decErr (valueS ⟨c, n, bys ti, bys tf, x, cm⟩)) ∧ Below w.heap.size w w' := by
  unfold valueS
  by_cases h : MayS ⟨c, n, bys ti, bys tf, x, cm⟩
  · rw [if_neg (fun g => g h)]
    by_cases h0 : c = 0
    · subst h0
      rw [if_neg (fun g => g rfl)]
      obtain ⟨⟨x1, x2⟩, h2⟩ := id h
      simp only at x1 x2
      rcases h2 with ⟨_, h2, ⟨h3, h4⟩, ⟨h5, h6⟩⟩ | ⟨h1, _⟩ | ⟨h1, _⟩
      · simp only at h2 h3 h4 h5 h6
        have P := parse_shown n h4 h6 (fun g => h2.elim (fun q => q g.1) (fun q => q g.2)) (show -10000 ≤ x by omega) (by omega)
        rw [bys_len] at h3 h5
        have il := itoa_len (e := x) (by omega) (by omega)
        have T1 : bys (ti ++ ⟨#[46]⟩ ++ tf ++ ⟨#[101]⟩ ++ ⟨(Lib.itoa x).toArray⟩) = shownT false (bys ti) (bys tf) x := by
          rw [bys_append, bys_append, bys_append, bys_append, bys_mk (Lib.itoa x)]
          unfold shownT
          simp only [Bool.false_eq_true, if_false, List.nil_append, List.append_assoc]
          rfl
        have Z1 : ((ti ++ ⟨#[46]⟩ ++ tf ++ ⟨#[101]⟩ ++ ⟨(Lib.itoa x).toArray⟩)).size ≤ 100000 := by
          rw [← bys_len, T1]
          unfold shownT
          simp only [Bool.false_eq_true, if_false, List.nil_append, List.length_append, List.length_cons, bys_len]
          omega
        rw [← P]
        cases n
        · have PS := fun W => Parse_any (ti ++ ⟨#[46]⟩ ++ tf ++ ⟨#[101]⟩ ++ ⟨(Lib.itoa x).toArray⟩) W (by omega)
          rw [T1] at PS
          exact value_false ti tf x cm ⟨(Lib.itoa x).toArray⟩ _ _ _ _ _ w htab h (fun W hW => itoa_any x W (by omega) (by omega) hW) PS h3 h5 (by rw [size_mk0]; omega)
        · have T2 : bys (⟨#[45]⟩ ++ (ti ++ ⟨#[46]⟩ ++ tf ++ ⟨#[101]⟩ ++ ⟨(Lib.itoa x).toArray⟩)) = shownT true (bys ti) (bys tf) x := by rw [bys_append, T1]; rfl
          have PS := fun W => Parse_any (⟨#[45]⟩ ++ (ti ++ ⟨#[46]⟩ ++ tf ++ ⟨#[101]⟩ ++ ⟨(Lib.itoa x).toArray⟩)) W (by rw [ByteArray.size_append]; have : (⟨#[45]⟩ : ByteArray).size = 1 := rfl; omega)
          rw [T2] at PS
          exact value_true ti tf x cm ⟨(Lib.itoa x).toArray⟩ _ _ _ _ _ w htab h (fun W hW => itoa_any x W (by omega) (by omega) hW) PS h3 h5 (by rw [size_mk0]; omega)
      · exact absurd (show (0 : Int) = 1 from h1) (by decide)
      · exact absurd (show (0 : Int) = 2 from h1) (by decide)
    · rw [if_pos h0]
      have hc : c = ((c.toNat : Nat) : Int) := by
        obtain ⟨_, h2⟩ := h
        rcases h2 with ⟨h1, _⟩ | ⟨h1, _⟩ | ⟨h1, _⟩ <;> simp only at h1 <;> omega
      have g := value_cls c n ti tf x cm w h h0
      unfold decErr decVal
      simp only
      rw [← hc]
      exact g
  · rw [if_pos h]
    exact value_no c n ti tf x cm w h

end Go.Proofs.YtobloamnaemfnaaGreatDoor

namespace Go.Proofs.YtobloamnaemfnaaGreatDoor
open Go.RowKit

set_option maxHeartbeats 1000000 in
theorem rdig_t (s : ByteArray) (w : World) (hs : s.size ≤ 281474976710656) (hd : DigB (bys s)) (hl : s.size ≤ 4096) : Calls Tryz.prog 95 #[.string s] w fun e w' => e = .returned (.bool true) ∧ Below w.heap.size w w' := by
  have HD : Hid (∀ k, k < s.size → (48 ≤ byt (bys s) k ∧ byt (bys s) k ≤ 57) ∧ ∀ h : k < s.size, s[k].toNat = byt (bys s) k) := fun k hk => ⟨hd k (by first | exact hk | (rw [bys_len]; omega)), fun h => byt_get s k h⟩
  clear hd
  go_enter Tryz.func95, Tryz.ntmps95
  go_wp2
  go_loopw [3] (fun i wr => ∃ k : Nat, k ≤ s.size ∧ i = .int .i64 (k : Int) ∧ wr = w) (fun i _ => s.size - (intOf i).toNat)
  case atStart => exact ⟨0, Nat.zero_le _, rfl, rfl⟩
  case round =>
    obtain ⟨k, hk, rfl, rfl⟩ := hrel
    by_cases hlt : k < s.size
    · have hlt' : (k : Int) < (s.size : Int) := by omega
      have hks : k < s.size := by omega
      obtain ⟨hb, hg⟩ := HD.out k hlt
      obtain ⟨b, hbb⟩ : ∃ b, b = byt (bys s) k := ⟨_, rfl⟩
      rw [← hbb] at hg hb
      have h1' : ¬ (b : Int) < 48 := by omega
      have h2' : ¬ 57 < (b : Int) := by omega
      have h3' : decide ((b : Int) < 48) = false := decide_eq_false h1'
      have h4' : decide (57 < (b : Int)) = false := decide_eq_false h2'
      clear hbb HD
      go_wp2
      exact ⟨⟨k + 1, by omega, by go_num, trivial⟩, by simp [intOf]; omega⟩
    · have hlt' : ¬ (k : Int) < (s.size : Int) := by omega
      have hl2 : decide ((s.size : Int) ≤ 4096) = true := decide_eq_true (by omega)
      clear HD hlt hk
      go_wp2
      go_ret
      first | exact ⟨rfl, Below.refl _ _⟩ | exact ⟨congrArg (fun b => Ending.returned (Value.bool b)) hl2, Below.refl _ _⟩

set_option maxHeartbeats 1000000 in
theorem rdig_l (s : ByteArray) (w : World) (hs : s.size ≤ 281474976710656) (hd : DigB (bys s)) (hl : 4096 < s.size) : Calls Tryz.prog 95 #[.string s] w fun e w' => e = .returned (.bool false) ∧ Below w.heap.size w w' := by
  have HD : Hid (∀ k, k < s.size → (48 ≤ byt (bys s) k ∧ byt (bys s) k ≤ 57) ∧ ∀ h : k < s.size, s[k].toNat = byt (bys s) k) := fun k hk => ⟨hd k (by first | exact hk | (rw [bys_len]; omega)), fun h => byt_get s k h⟩
  clear hd
  go_enter Tryz.func95, Tryz.ntmps95
  go_wp2
  go_loopw [3] (fun i wr => ∃ k : Nat, k ≤ s.size ∧ i = .int .i64 (k : Int) ∧ wr = w) (fun i _ => s.size - (intOf i).toNat)
  case atStart => exact ⟨0, Nat.zero_le _, rfl, rfl⟩
  case round =>
    obtain ⟨k, hk, rfl, rfl⟩ := hrel
    by_cases hlt : k < s.size
    · have hlt' : (k : Int) < (s.size : Int) := by omega
      have hks : k < s.size := by omega
      obtain ⟨hb, hg⟩ := HD.out k hlt
      obtain ⟨b, hbb⟩ : ∃ b, b = byt (bys s) k := ⟨_, rfl⟩
      rw [← hbb] at hg hb
      have h1' : ¬ (b : Int) < 48 := by omega
      have h2' : ¬ 57 < (b : Int) := by omega
      have h3' : decide ((b : Int) < 48) = false := decide_eq_false h1'
      have h4' : decide (57 < (b : Int)) = false := decide_eq_false h2'
      clear hbb HD
      go_wp2
      exact ⟨⟨k + 1, by omega, by go_num, trivial⟩, by simp [intOf]; omega⟩
    · have hlt' : ¬ (k : Int) < (s.size : Int) := by omega
      have hl2 : decide ((s.size : Int) ≤ 4096) = false := decide_eq_false (by omega)
      clear HD hlt hk
      go_wp2
      go_ret
      first | exact ⟨rfl, Below.refl _ _⟩ | exact ⟨congrArg (fun b => Ending.returned (Value.bool b)) hl2, Below.refl _ _⟩

set_option maxHeartbeats 1000000 in
theorem rdig_x (s : ByteArray) (n : Nat) (w : World) (hs : s.size ≤ 281474976710656) (hn : n < s.size) (hd : ∀ k, k < n → 48 ≤ byt (bys s) k ∧ byt (bys s) k ≤ 57) (hx : ¬ (48 ≤ byt (bys s) n ∧ byt (bys s) n ≤ 57)) : Calls Tryz.prog 95 #[.string s] w fun e w' => e = .returned (.bool false) ∧ Below w.heap.size w w' := by
  have HD : Hid (∀ k, k < n → (48 ≤ byt (bys s) k ∧ byt (bys s) k ≤ 57) ∧ ∀ h : k < s.size, s[k].toNat = byt (bys s) k) := fun k hk => ⟨hd k (by first | exact hk | (rw [bys_len]; omega)), fun h => byt_get s k h⟩
  clear hd
  go_enter Tryz.func95, Tryz.ntmps95
  go_wp2
  go_loopw [3] (fun i wr => ∃ k : Nat, k ≤ n ∧ i = .int .i64 (k : Int) ∧ wr = w) (fun i _ => n - (intOf i).toNat)
  case atStart => exact ⟨0, Nat.zero_le _, rfl, rfl⟩
  case round =>
    obtain ⟨k, hk, rfl, rfl⟩ := hrel
    by_cases hlt : k < n
    · have hlt' : (k : Int) < (s.size : Int) := by omega
      have hks : k < s.size := by omega
      obtain ⟨hb, hg⟩ := HD.out k hlt
      obtain ⟨b, hbb⟩ : ∃ b, b = byt (bys s) k := ⟨_, rfl⟩
      rw [← hbb] at hg hb
      have h1' : ¬ (b : Int) < 48 := by omega
      have h2' : ¬ 57 < (b : Int) := by omega
      have h3' : decide ((b : Int) < 48) = false := decide_eq_false h1'
      have h4' : decide (57 < (b : Int)) = false := decide_eq_false h2'
      clear hbb HD
      go_wp2
      exact ⟨⟨k + 1, by omega, by go_num, trivial⟩, by simp [intOf]; omega⟩
    · obtain rfl : k = n := by omega
      have hlt' : (k : Int) < (s.size : Int) := by omega
      have hg : ∀ h : k < s.size, s[k].toNat = byt (bys s) k := fun h => byt_get s k h
      obtain ⟨b, hbb⟩ : ∃ b, b = byt (bys s) k := ⟨_, rfl⟩
      rw [← hbb] at hg hx
      clear hbb HD hlt hk
      by_cases h1 : (b : Int) < 48
      · have h3' : decide ((b : Int) < 48) = true := decide_eq_true h1
        go_wp2
        go_ret
        exact ⟨rfl, Below.refl _ _⟩
      · have h3' : decide ((b : Int) < 48) = false := decide_eq_false h1
        have h2 : 57 < (b : Int) := by omega
        have h4' : decide (57 < (b : Int)) = true := decide_eq_true h2
        go_wp2
        go_ret
        exact ⟨rfl, Below.refl _ _⟩

theorem rdig_T (s : ByteArray) (w : World) (hs : s.size ≤ 281474976710656) (h : (bys s).length ≤ 4096 ∧ DigB (bys s)) : Calls Tryz.prog 95 #[.string s] w fun e w' => e = .returned (.bool true) ∧ Below w.heap.size w w' :=
  rdig_t s w hs h.2 (by have := h.1; rwa [bys_len] at this)

theorem rdig_F (s : ByteArray) (w : World) (hs : s.size ≤ 281474976710656) (h : ¬ ((bys s).length ≤ 4096 ∧ DigB (bys s))) : Calls Tryz.prog 95 #[.string s] w fun e w' => e = .returned (.bool false) ∧ Below w.heap.size w w' := by
  by_cases hd : DigB (bys s)
  · exact rdig_l s w hs hd (by rw [bys_len] at h; exact Nat.lt_of_not_le fun g => h ⟨g, hd⟩)
  · have hlt : (dgs (bys s)).length < (bys s).length := by
      have h1 := dgs_len (bys s)
      rcases Nat.lt_or_ge (dgs (bys s)).length (bys s).length with g | g
      · exact g
      · exfalso
        apply hd
        have h2 := dgs_take (bys s)
        rw [show (dgs (bys s)).length = (bys s).length by omega, List.take_length] at h2
        rw [h2]
        exact dgs_digB _
    exact rdig_x s (dgs (bys s)).length w hs (by rw [bys_len] at hlt; exact hlt) (fun k hk => dgs_at (bys s) hk) (dgs_stop (bys s) hlt)

end Go.Proofs.YtobloamnaemfnaaGreatDoor
