/-
  What nearest's float, To64 and To32 do: the bits of the nearest float of a Dec that may be, or the error.
-/
import Derived.Test.YtpiloigpncbccabGreatDoorNTo
import Derived.Laws.BitsAllLaws
namespace Go.Proofs.YtpiloigpncbccabGreatDoor
open Go.RowKit

theorem or_top {a k : Nat} (n : Nat) (hn : n = 2 ^ k) (h : a < n) (hn2 : n < 18446744073709551616) : bits .or .u64 (a : Int) (n : Int) = ((a + n : Nat) : Int) := by
  have h1 := Nat.two_pow_add_eq_or_of_lt (b := a) (i := k) (by rw [← hn]; exact h) 1
  rw [Nat.mul_one, ← hn] at h1
  have h2 := bits_or_u64_nat a n (by omega) hn2
  rw [h2, Nat.or_comm, ← h1, Nat.add_comm]

theorem bitsOf_le (F B I o u : Nat) : bitsOf F B I o u ≤ I := Nat.min_le_right _ _

theorem frac64_any (neg : Bool) (t : ByteArray) (ex : Int) (w : World) (h : DigD (bys t) ex) :
    Calls Tryz.prog 64 #[w64, dcV 0 neg t ex] w (FrPost w 52 11 (-1074) (decV (bys t) * 10 ^ ex.toNat) (10 ^ (-ex).toNat)) := by
  by_cases hn : ex < 0
  · obtain ⟨n, rfl⟩ : ∃ n : Nat, ex = -(n : Int) := ⟨(-ex).toNat, by omega⟩
    rw [show (-(n : Int)).toNat = 0 by omega, show (- -(n : Int)).toNat = n by omega, Nat.pow_zero, Nat.mul_one]
    exact frac64_neg neg t n w h hn
  · obtain ⟨n, rfl⟩ : ∃ n : Nat, ex = (n : Int) := ⟨ex.toNat, by omega⟩
    rw [show (-(n : Int)).toNat = 0 by omega, show ((n : Int)).toNat = n by omega, Nat.pow_zero]
    exact frac64_pos neg t n w h hn

set_option maxHeartbeats 1000000 in
theorem float64_no (c : Int) (neg : Bool) (t : ByteArray) (ex : Int) (w : World) (h : ¬ MayD c neg (bys t) ex) : Calls Tryz.prog 38 #[w64, dcV c neg t ex] w fun e w' => e = .returned (.tuple #[.int .u64 0, .int .i64 40]) ∧ Below w.heap.size w w' := by
  have MY := hide (fun W => may_no c neg t ex W h)
  clear h
  have BLW := hide ((Blk.new w #[.int .i64 52, .int .i64 11, .int .i64 (-1074)] 60).alloc (.cells #[.int .i64 c, .bool neg, .string t, .int .i64 ex] 25))
  have BLD := hide (Blk.newAt (w.alloc (.cells #[.int .i64 52, .int .i64 11, .int .i64 (-1074)] 60)) (w.heap.size + 1) (by simp) #[.int .i64 c, .bool neg, .string t, .int .i64 ex] 25)
  have HB0 : Hid (Below w.heap.size w ((w.alloc (.cells #[.int .i64 52, .int .i64 11, .int .i64 (-1074)] 60)).alloc (.cells #[.int .i64 c, .bool neg, .string t, .int .i64 ex] 25))) := ((Below.refl _ _).alloc (Nat.le_refl _) _).alloc (by simp) _
  go_enter Tryz.func38, Tryz.ntmps38
  go_wp2_with fail
  refine (MY.out _).mono ?_
  rintro e w1 ⟨rfl, hb⟩
  have BW1 := hide (BLW.out.below hb BLW.out.lt)
  have BD1 := hide (BLD.out.below hb BLD.out.lt)
  have HB1 := hide (HB0.out.trans (hb.mono HB0.out.size))
  clear hb BLW BLD HB0
  have x0 : w1.cell? ⟨w.heap.size, 0, none⟩ = some (.int .i64 52) := BW1.out.cell 0
  have x1 : w1.cell? ⟨w.heap.size, 1, none⟩ = some (.int .i64 11) := BW1.out.cell 1
  have x2 : w1.cell? ⟨w.heap.size, 2, none⟩ = some (.int .i64 (-1074)) := BW1.out.cell 2
  have y0 : w1.cell? ⟨w.heap.size + 1, 0, none⟩ = some (.int .i64 c) := BD1.out.cell 0
  have y1 : w1.cell? ⟨w.heap.size + 1, 1, none⟩ = some (.bool neg) := BD1.out.cell 1
  have y2 : w1.cell? ⟨w.heap.size + 1, 2, none⟩ = some (.string t) := BD1.out.cell 2
  have y3 : w1.cell? ⟨w.heap.size + 1, 3, none⟩ = some (.int .i64 ex) := BD1.out.cell 3
  go_wp2
  go_ret2
  exact ⟨rfl, HB1.out⟩

set_option maxHeartbeats 1000000 in
theorem float64_nan (w : World) : Calls Tryz.prog 38 #[w64, dcV 2 false ⟨#[]⟩ 0] w fun e w' => e = .returned (.tuple #[.int .u64 9221120237041090561, .int .i64 0]) ∧ Below w.heap.size w w' := by
  have MY := hide (fun W => may2_yes W)
  have NN := hide (fun W => nnan64 W)
  have BLW := hide ((Blk.new w #[.int .i64 52, .int .i64 11, .int .i64 (-1074)] 60).alloc (.cells #[.int .i64 2, .bool false, .string ⟨#[]⟩, .int .i64 0] 25))
  have BLD := hide (Blk.newAt (w.alloc (.cells #[.int .i64 52, .int .i64 11, .int .i64 (-1074)] 60)) (w.heap.size + 1) (by simp) #[.int .i64 2, .bool false, .string ⟨#[]⟩, .int .i64 0] 25)
  have HB0 : Hid (Below w.heap.size w ((w.alloc (.cells #[.int .i64 52, .int .i64 11, .int .i64 (-1074)] 60)).alloc (.cells #[.int .i64 2, .bool false, .string ⟨#[]⟩, .int .i64 0] 25))) := ((Below.refl _ _).alloc (Nat.le_refl _) _).alloc (by simp) _
  go_enter Tryz.func38, Tryz.ntmps38
  go_wp2_with fail
  refine (MY.out _).mono ?_
  rintro e w1 ⟨rfl, hb⟩
  have BW1 := hide (BLW.out.below hb BLW.out.lt)
  have BD1 := hide (BLD.out.below hb BLD.out.lt)
  have HB1 := hide (HB0.out.trans (hb.mono HB0.out.size))
  clear hb BLW BLD HB0
  have x0 : w1.cell? ⟨w.heap.size, 0, none⟩ = some (.int .i64 52) := BW1.out.cell 0
  have x1 : w1.cell? ⟨w.heap.size, 1, none⟩ = some (.int .i64 11) := BW1.out.cell 1
  have x2 : w1.cell? ⟨w.heap.size, 2, none⟩ = some (.int .i64 (-1074)) := BW1.out.cell 2
  have y0 : w1.cell? ⟨w.heap.size + 1, 0, none⟩ = some (.int .i64 2) := BD1.out.cell 0
  have y1 : w1.cell? ⟨w.heap.size + 1, 1, none⟩ = some (.bool false) := BD1.out.cell 1
  have y2 : w1.cell? ⟨w.heap.size + 1, 2, none⟩ = some (.string ⟨#[]⟩) := BD1.out.cell 2
  have y3 : w1.cell? ⟨w.heap.size + 1, 3, none⟩ = some (.int .i64 0) := BD1.out.cell 3
  go_wp2_with fail
  refine (NN.out _).mono ?_
  rintro e w2 ⟨rfl, hb⟩
  have BW2 := hide (BW1.out.below hb BW1.out.lt)
  have BD2 := hide (BD1.out.below hb BD1.out.lt)
  have HB2 := hide (HB1.out.trans (hb.mono HB1.out.size))
  clear hb BW1 BD1 HB1 x0 x1 x2 y0 y1 y2 y3
  have x0 : w2.cell? ⟨w.heap.size, 0, none⟩ = some (.int .i64 52) := BW2.out.cell 0
  have x1 : w2.cell? ⟨w.heap.size, 1, none⟩ = some (.int .i64 11) := BW2.out.cell 1
  have x2 : w2.cell? ⟨w.heap.size, 2, none⟩ = some (.int .i64 (-1074)) := BW2.out.cell 2
  have y0 : w2.cell? ⟨w.heap.size + 1, 0, none⟩ = some (.int .i64 2) := BD2.out.cell 0
  have y1 : w2.cell? ⟨w.heap.size + 1, 1, none⟩ = some (.bool false) := BD2.out.cell 1
  have y2 : w2.cell? ⟨w.heap.size + 1, 2, none⟩ = some (.string ⟨#[]⟩) := BD2.out.cell 2
  have y3 : w2.cell? ⟨w.heap.size + 1, 3, none⟩ = some (.int .i64 0) := BD2.out.cell 3
  go_wp2
  go_ret2
  exact ⟨rfl, HB2.out⟩

set_option maxHeartbeats 1000000 in
theorem float64_inf_false (w : World) : Calls Tryz.prog 38 #[w64, dcV 1 false ⟨#[]⟩ 0] w fun e w' => e = .returned (.tuple #[.int .u64 9218868437227405312, .int .i64 0]) ∧ Below w.heap.size w w' := by
  have MY := hide (fun W => may1_yes false W)
  have IN := hide (fun W => ninf64 W)
  have BLW := hide ((Blk.new w #[.int .i64 52, .int .i64 11, .int .i64 (-1074)] 60).alloc (.cells #[.int .i64 1, .bool false, .string ⟨#[]⟩, .int .i64 0] 25))
  have BLD := hide (Blk.newAt (w.alloc (.cells #[.int .i64 52, .int .i64 11, .int .i64 (-1074)] 60)) (w.heap.size + 1) (by simp) #[.int .i64 1, .bool false, .string ⟨#[]⟩, .int .i64 0] 25)
  have HB0 : Hid (Below w.heap.size w ((w.alloc (.cells #[.int .i64 52, .int .i64 11, .int .i64 (-1074)] 60)).alloc (.cells #[.int .i64 1, .bool false, .string ⟨#[]⟩, .int .i64 0] 25))) := ((Below.refl _ _).alloc (Nat.le_refl _) _).alloc (by simp) _
  go_enter Tryz.func38, Tryz.ntmps38
  go_wp2_with fail
  refine (MY.out _).mono ?_
  rintro e w1 ⟨rfl, hb⟩
  have BW1 := hide (BLW.out.below hb BLW.out.lt)
  have BD1 := hide (BLD.out.below hb BLD.out.lt)
  have HB1 := hide (HB0.out.trans (hb.mono HB0.out.size))
  clear hb BLW BLD HB0
  have x0 : w1.cell? ⟨w.heap.size, 0, none⟩ = some (.int .i64 52) := BW1.out.cell 0
  have x1 : w1.cell? ⟨w.heap.size, 1, none⟩ = some (.int .i64 11) := BW1.out.cell 1
  have x2 : w1.cell? ⟨w.heap.size, 2, none⟩ = some (.int .i64 (-1074)) := BW1.out.cell 2
  have y0 : w1.cell? ⟨w.heap.size + 1, 0, none⟩ = some (.int .i64 1) := BD1.out.cell 0
  have y1 : w1.cell? ⟨w.heap.size + 1, 1, none⟩ = some (.bool false) := BD1.out.cell 1
  have y2 : w1.cell? ⟨w.heap.size + 1, 2, none⟩ = some (.string ⟨#[]⟩) := BD1.out.cell 2
  have y3 : w1.cell? ⟨w.heap.size + 1, 3, none⟩ = some (.int .i64 0) := BD1.out.cell 3
  go_wp2_with fail
  refine (IN.out _).mono ?_
  rintro e w2 ⟨rfl, hb⟩
  have BW2 := hide (BW1.out.below hb BW1.out.lt)
  have BD2 := hide (BD1.out.below hb BD1.out.lt)
  have HB2 := hide (HB1.out.trans (hb.mono HB1.out.size))
  clear hb BW1 BD1 HB1 x0 x1 x2 y0 y1 y2 y3
  have x0 : w2.cell? ⟨w.heap.size, 0, none⟩ = some (.int .i64 52) := BW2.out.cell 0
  have x1 : w2.cell? ⟨w.heap.size, 1, none⟩ = some (.int .i64 11) := BW2.out.cell 1
  have x2 : w2.cell? ⟨w.heap.size, 2, none⟩ = some (.int .i64 (-1074)) := BW2.out.cell 2
  have y0 : w2.cell? ⟨w.heap.size + 1, 0, none⟩ = some (.int .i64 1) := BD2.out.cell 0
  have y1 : w2.cell? ⟨w.heap.size + 1, 1, none⟩ = some (.bool false) := BD2.out.cell 1
  have y2 : w2.cell? ⟨w.heap.size + 1, 2, none⟩ = some (.string ⟨#[]⟩) := BD2.out.cell 2
  have y3 : w2.cell? ⟨w.heap.size + 1, 3, none⟩ = some (.int .i64 0) := BD2.out.cell 3
  go_wp2
  go_ret2
  exact ⟨rfl, HB2.out⟩

set_option maxHeartbeats 1000000 in
theorem float64_zero_false (w : World) : Calls Tryz.prog 38 #[w64, dcV 0 false ⟨#[]⟩ 0] w fun e w' => e = .returned (.tuple #[.int .u64 0, .int .i64 0]) ∧ Below w.heap.size w w' := by
  have MY := hide (fun W => may0_bare false W)
  have BLW := hide ((Blk.new w #[.int .i64 52, .int .i64 11, .int .i64 (-1074)] 60).alloc (.cells #[.int .i64 0, .bool false, .string ⟨#[]⟩, .int .i64 0] 25))
  have BLD := hide (Blk.newAt (w.alloc (.cells #[.int .i64 52, .int .i64 11, .int .i64 (-1074)] 60)) (w.heap.size + 1) (by simp) #[.int .i64 0, .bool false, .string ⟨#[]⟩, .int .i64 0] 25)
  have HB0 : Hid (Below w.heap.size w ((w.alloc (.cells #[.int .i64 52, .int .i64 11, .int .i64 (-1074)] 60)).alloc (.cells #[.int .i64 0, .bool false, .string ⟨#[]⟩, .int .i64 0] 25))) := ((Below.refl _ _).alloc (Nat.le_refl _) _).alloc (by simp) _
  go_enter Tryz.func38, Tryz.ntmps38
  go_wp2_with fail
  refine (MY.out _).mono ?_
  rintro e w1 ⟨rfl, hb⟩
  have BW1 := hide (BLW.out.below hb BLW.out.lt)
  have BD1 := hide (BLD.out.below hb BLD.out.lt)
  have HB1 := hide (HB0.out.trans (hb.mono HB0.out.size))
  clear hb BLW BLD HB0
  have x0 : w1.cell? ⟨w.heap.size, 0, none⟩ = some (.int .i64 52) := BW1.out.cell 0
  have x1 : w1.cell? ⟨w.heap.size, 1, none⟩ = some (.int .i64 11) := BW1.out.cell 1
  have x2 : w1.cell? ⟨w.heap.size, 2, none⟩ = some (.int .i64 (-1074)) := BW1.out.cell 2
  have y0 : w1.cell? ⟨w.heap.size + 1, 0, none⟩ = some (.int .i64 0) := BD1.out.cell 0
  have y1 : w1.cell? ⟨w.heap.size + 1, 1, none⟩ = some (.bool false) := BD1.out.cell 1
  have y2 : w1.cell? ⟨w.heap.size + 1, 2, none⟩ = some (.string ⟨#[]⟩) := BD1.out.cell 2
  have y3 : w1.cell? ⟨w.heap.size + 1, 3, none⟩ = some (.int .i64 0) := BD1.out.cell 3
  go_wp2
  go_ret2
  exact ⟨rfl, HB1.out⟩

set_option maxHeartbeats 1000000 in
theorem float64_fin_false (t : ByteArray) (ex : Int) (w : World) (h : DigD (bys t) ex) : Calls Tryz.prog 38 #[w64, dcV 0 false t ex] w fun e w' => e = .returned (.tuple #[.int .u64 ((bitsOf 52 1074 (infN 52 11) (decV (bys t) * 10 ^ ex.toNat) (10 ^ (-ex).toNat)) : Int), .int .i64 0]) ∧ Below w.heap.size w w' := by
  have NS := Nums.of h
  have hne : t.size ≠ 0 := fun e => h.1 (bys_nil.2 e)
  have MY := hide (fun W => may0_yes false t ex W (fun e => hne e.1) h)
  have FR := hide (fun W => frac64_any false t ex W h)
  obtain ⟨o, ho⟩ : ∃ o, o = decV (bys t) * 10 ^ ex.toNat := ⟨_, rfl⟩
  obtain ⟨u, hu⟩ : ∃ u, u = 10 ^ (-ex).toNat := ⟨_, rfl⟩
  rw [← ho, ← hu] at NS FR ⊢
  have NR := hide (fun oo lo co ou lu cu W a1 a2 => near64_any oo ou lo co lu cu o u W a1 a2 NS.fo NS.fu NS.o0 NS.u0)
  obtain ⟨r, hr⟩ : ∃ r, r = bitsOf 52 1074 (infN 52 11) o u := ⟨_, rfl⟩
  have hrl : r ≤ 9218868437227405312 := by rw [hr, ← inf64]; exact bitsOf_le _ _ _ _ _
  rw [← hr] at NR ⊢
  have ht := toList_ne hne
  clear h NS hne ho hu hr
  have BLW := hide ((Blk.new w #[.int .i64 52, .int .i64 11, .int .i64 (-1074)] 60).alloc (.cells #[.int .i64 0, .bool false, .string t, .int .i64 ex] 25))
  have BLD := hide (Blk.newAt (w.alloc (.cells #[.int .i64 52, .int .i64 11, .int .i64 (-1074)] 60)) (w.heap.size + 1) (by simp) #[.int .i64 0, .bool false, .string t, .int .i64 ex] 25)
  have HB0 : Hid (Below w.heap.size w ((w.alloc (.cells #[.int .i64 52, .int .i64 11, .int .i64 (-1074)] 60)).alloc (.cells #[.int .i64 0, .bool false, .string t, .int .i64 ex] 25))) := ((Below.refl _ _).alloc (Nat.le_refl _) _).alloc (by simp) _
  go_enter Tryz.func38, Tryz.ntmps38
  go_wp2_with fail
  refine (MY.out _).mono ?_
  rintro e w1 ⟨rfl, hb⟩
  have BW1 := hide (BLW.out.below hb BLW.out.lt)
  have BD1 := hide (BLD.out.below hb BLD.out.lt)
  have HB1 := hide (HB0.out.trans (hb.mono HB0.out.size))
  clear hb BLW BLD HB0
  have x0 : w1.cell? ⟨w.heap.size, 0, none⟩ = some (.int .i64 52) := BW1.out.cell 0
  have x1 : w1.cell? ⟨w.heap.size, 1, none⟩ = some (.int .i64 11) := BW1.out.cell 1
  have x2 : w1.cell? ⟨w.heap.size, 2, none⟩ = some (.int .i64 (-1074)) := BW1.out.cell 2
  have y0 : w1.cell? ⟨w.heap.size + 1, 0, none⟩ = some (.int .i64 0) := BD1.out.cell 0
  have y1 : w1.cell? ⟨w.heap.size + 1, 1, none⟩ = some (.bool false) := BD1.out.cell 1
  have y2 : w1.cell? ⟨w.heap.size + 1, 2, none⟩ = some (.string t) := BD1.out.cell 2
  have y3 : w1.cell? ⟨w.heap.size + 1, 3, none⟩ = some (.int .i64 ex) := BD1.out.cell 3
  go_wp2_with fail
  refine (FR.out _).mono ?_
  rintro e w2 ⟨oo, lo, co, ou, lu, cu, rfl, no, nu, hb⟩
  have BW2 := hide (BW1.out.below hb BW1.out.lt)
  have BD2 := hide (BD1.out.below hb BD1.out.lt)
  have HB2 := hide (HB1.out.trans (hb.mono HB1.out.size))
  have NO := hide no
  have NU := hide nu
  clear no nu
  clear hb BW1 BD1 HB1 x0 x1 x2 y0 y1 y2 y3
  have x0 : w2.cell? ⟨w.heap.size, 0, none⟩ = some (.int .i64 52) := BW2.out.cell 0
  have x1 : w2.cell? ⟨w.heap.size, 1, none⟩ = some (.int .i64 11) := BW2.out.cell 1
  have x2 : w2.cell? ⟨w.heap.size, 2, none⟩ = some (.int .i64 (-1074)) := BW2.out.cell 2
  have y0 : w2.cell? ⟨w.heap.size + 1, 0, none⟩ = some (.int .i64 0) := BD2.out.cell 0
  have y1 : w2.cell? ⟨w.heap.size + 1, 1, none⟩ = some (.bool false) := BD2.out.cell 1
  have y2 : w2.cell? ⟨w.heap.size + 1, 2, none⟩ = some (.string t) := BD2.out.cell 2
  have y3 : w2.cell? ⟨w.heap.size + 1, 3, none⟩ = some (.int .i64 ex) := BD2.out.cell 3
  go_wp2_with fail
  refine (NR.out _ _ _ _ _ _ _ NO.out NU.out).mono ?_
  rintro e w3 ⟨rfl, hb⟩
  have BW3 := hide (BW2.out.below hb BW2.out.lt)
  have BD3 := hide (BD2.out.below hb BD2.out.lt)
  have HB3 := hide (HB2.out.trans (hb.mono HB2.out.size))
  clear hb BW2 BD2 HB2 x0 x1 x2 y0 y1 y2 y3
  have x0 : w3.cell? ⟨w.heap.size, 0, none⟩ = some (.int .i64 52) := BW3.out.cell 0
  have x1 : w3.cell? ⟨w.heap.size, 1, none⟩ = some (.int .i64 11) := BW3.out.cell 1
  have x2 : w3.cell? ⟨w.heap.size, 2, none⟩ = some (.int .i64 (-1074)) := BW3.out.cell 2
  have y0 : w3.cell? ⟨w.heap.size + 1, 0, none⟩ = some (.int .i64 0) := BD3.out.cell 0
  have y1 : w3.cell? ⟨w.heap.size + 1, 1, none⟩ = some (.bool false) := BD3.out.cell 1
  have y2 : w3.cell? ⟨w.heap.size + 1, 2, none⟩ = some (.string t) := BD3.out.cell 2
  have y3 : w3.cell? ⟨w.heap.size + 1, 3, none⟩ = some (.int .i64 ex) := BD3.out.cell 3
  go_wp2
  go_ret2
  exact ⟨rfl, HB3.out⟩

set_option maxHeartbeats 1000000 in
theorem float64_inf_true (w : World) : Calls Tryz.prog 38 #[w64, dcV 1 true ⟨#[]⟩ 0] w fun e w' => e = .returned (.tuple #[.int .u64 18442240474082181120, .int .i64 0]) ∧ Below w.heap.size w w' := by
  have MY := hide (fun W => may1_yes true W)
  have IN := hide (fun W => ninf64 W)
  have SGN := hide (fun W => nsign64 W)
  have OR := hide (show bits .or .u64 9218868437227405312 9223372036854775808 = 18442240474082181120 by decide +kernel)
  have BLW := hide ((Blk.new w #[.int .i64 52, .int .i64 11, .int .i64 (-1074)] 60).alloc (.cells #[.int .i64 1, .bool true, .string ⟨#[]⟩, .int .i64 0] 25))
  have BLD := hide (Blk.newAt (w.alloc (.cells #[.int .i64 52, .int .i64 11, .int .i64 (-1074)] 60)) (w.heap.size + 1) (by simp) #[.int .i64 1, .bool true, .string ⟨#[]⟩, .int .i64 0] 25)
  have HB0 : Hid (Below w.heap.size w ((w.alloc (.cells #[.int .i64 52, .int .i64 11, .int .i64 (-1074)] 60)).alloc (.cells #[.int .i64 1, .bool true, .string ⟨#[]⟩, .int .i64 0] 25))) := ((Below.refl _ _).alloc (Nat.le_refl _) _).alloc (by simp) _
  go_enter Tryz.func38, Tryz.ntmps38
  go_wp2_with fail
  refine (MY.out _).mono ?_
  rintro e w1 ⟨rfl, hb⟩
  have BW1 := hide (BLW.out.below hb BLW.out.lt)
  have BD1 := hide (BLD.out.below hb BLD.out.lt)
  have HB1 := hide (HB0.out.trans (hb.mono HB0.out.size))
  clear hb BLW BLD HB0
  have x0 : w1.cell? ⟨w.heap.size, 0, none⟩ = some (.int .i64 52) := BW1.out.cell 0
  have x1 : w1.cell? ⟨w.heap.size, 1, none⟩ = some (.int .i64 11) := BW1.out.cell 1
  have x2 : w1.cell? ⟨w.heap.size, 2, none⟩ = some (.int .i64 (-1074)) := BW1.out.cell 2
  have y0 : w1.cell? ⟨w.heap.size + 1, 0, none⟩ = some (.int .i64 1) := BD1.out.cell 0
  have y1 : w1.cell? ⟨w.heap.size + 1, 1, none⟩ = some (.bool true) := BD1.out.cell 1
  have y2 : w1.cell? ⟨w.heap.size + 1, 2, none⟩ = some (.string ⟨#[]⟩) := BD1.out.cell 2
  have y3 : w1.cell? ⟨w.heap.size + 1, 3, none⟩ = some (.int .i64 0) := BD1.out.cell 3
  go_wp2_with fail
  refine (IN.out _).mono ?_
  rintro e w2 ⟨rfl, hb⟩
  have BW2 := hide (BW1.out.below hb BW1.out.lt)
  have BD2 := hide (BD1.out.below hb BD1.out.lt)
  have HB2 := hide (HB1.out.trans (hb.mono HB1.out.size))
  clear hb BW1 BD1 HB1 x0 x1 x2 y0 y1 y2 y3
  have x0 : w2.cell? ⟨w.heap.size, 0, none⟩ = some (.int .i64 52) := BW2.out.cell 0
  have x1 : w2.cell? ⟨w.heap.size, 1, none⟩ = some (.int .i64 11) := BW2.out.cell 1
  have x2 : w2.cell? ⟨w.heap.size, 2, none⟩ = some (.int .i64 (-1074)) := BW2.out.cell 2
  have y0 : w2.cell? ⟨w.heap.size + 1, 0, none⟩ = some (.int .i64 1) := BD2.out.cell 0
  have y1 : w2.cell? ⟨w.heap.size + 1, 1, none⟩ = some (.bool true) := BD2.out.cell 1
  have y2 : w2.cell? ⟨w.heap.size + 1, 2, none⟩ = some (.string ⟨#[]⟩) := BD2.out.cell 2
  have y3 : w2.cell? ⟨w.heap.size + 1, 3, none⟩ = some (.int .i64 0) := BD2.out.cell 3
  go_wp2_with fail
  refine (SGN.out _).mono ?_
  rintro e w3 ⟨rfl, hb⟩
  have BW3 := hide (BW2.out.below hb BW2.out.lt)
  have BD3 := hide (BD2.out.below hb BD2.out.lt)
  have HB3 := hide (HB2.out.trans (hb.mono HB2.out.size))
  clear hb BW2 BD2 HB2 x0 x1 x2 y0 y1 y2 y3
  have x0 : w3.cell? ⟨w.heap.size, 0, none⟩ = some (.int .i64 52) := BW3.out.cell 0
  have x1 : w3.cell? ⟨w.heap.size, 1, none⟩ = some (.int .i64 11) := BW3.out.cell 1
  have x2 : w3.cell? ⟨w.heap.size, 2, none⟩ = some (.int .i64 (-1074)) := BW3.out.cell 2
  have y0 : w3.cell? ⟨w.heap.size + 1, 0, none⟩ = some (.int .i64 1) := BD3.out.cell 0
  have y1 : w3.cell? ⟨w.heap.size + 1, 1, none⟩ = some (.bool true) := BD3.out.cell 1
  have y2 : w3.cell? ⟨w.heap.size + 1, 2, none⟩ = some (.string ⟨#[]⟩) := BD3.out.cell 2
  have y3 : w3.cell? ⟨w.heap.size + 1, 3, none⟩ = some (.int .i64 0) := BD3.out.cell 3
  go_wp2
  go_ret2
  refine ⟨?_, HB3.out⟩
  rw [← OR.out]
  rfl

set_option maxHeartbeats 1000000 in
theorem float64_zero_true (w : World) : Calls Tryz.prog 38 #[w64, dcV 0 true ⟨#[]⟩ 0] w fun e w' => e = .returned (.tuple #[.int .u64 9223372036854775808, .int .i64 0]) ∧ Below w.heap.size w w' := by
  have MY := hide (fun W => may0_bare true W)
  have SGN := hide (fun W => nsign64 W)
  have OR := hide (show bits .or .u64 0 9223372036854775808 = 9223372036854775808 by decide +kernel)
  have BLW := hide ((Blk.new w #[.int .i64 52, .int .i64 11, .int .i64 (-1074)] 60).alloc (.cells #[.int .i64 0, .bool true, .string ⟨#[]⟩, .int .i64 0] 25))
  have BLD := hide (Blk.newAt (w.alloc (.cells #[.int .i64 52, .int .i64 11, .int .i64 (-1074)] 60)) (w.heap.size + 1) (by simp) #[.int .i64 0, .bool true, .string ⟨#[]⟩, .int .i64 0] 25)
  have HB0 : Hid (Below w.heap.size w ((w.alloc (.cells #[.int .i64 52, .int .i64 11, .int .i64 (-1074)] 60)).alloc (.cells #[.int .i64 0, .bool true, .string ⟨#[]⟩, .int .i64 0] 25))) := ((Below.refl _ _).alloc (Nat.le_refl _) _).alloc (by simp) _
  go_enter Tryz.func38, Tryz.ntmps38
  go_wp2_with fail
  refine (MY.out _).mono ?_
  rintro e w1 ⟨rfl, hb⟩
  have BW1 := hide (BLW.out.below hb BLW.out.lt)
  have BD1 := hide (BLD.out.below hb BLD.out.lt)
  have HB1 := hide (HB0.out.trans (hb.mono HB0.out.size))
  clear hb BLW BLD HB0
  have x0 : w1.cell? ⟨w.heap.size, 0, none⟩ = some (.int .i64 52) := BW1.out.cell 0
  have x1 : w1.cell? ⟨w.heap.size, 1, none⟩ = some (.int .i64 11) := BW1.out.cell 1
  have x2 : w1.cell? ⟨w.heap.size, 2, none⟩ = some (.int .i64 (-1074)) := BW1.out.cell 2
  have y0 : w1.cell? ⟨w.heap.size + 1, 0, none⟩ = some (.int .i64 0) := BD1.out.cell 0
  have y1 : w1.cell? ⟨w.heap.size + 1, 1, none⟩ = some (.bool true) := BD1.out.cell 1
  have y2 : w1.cell? ⟨w.heap.size + 1, 2, none⟩ = some (.string ⟨#[]⟩) := BD1.out.cell 2
  have y3 : w1.cell? ⟨w.heap.size + 1, 3, none⟩ = some (.int .i64 0) := BD1.out.cell 3
  go_wp2_with fail
  refine (SGN.out _).mono ?_
  rintro e w2 ⟨rfl, hb⟩
  have BW2 := hide (BW1.out.below hb BW1.out.lt)
  have BD2 := hide (BD1.out.below hb BD1.out.lt)
  have HB2 := hide (HB1.out.trans (hb.mono HB1.out.size))
  clear hb BW1 BD1 HB1 x0 x1 x2 y0 y1 y2 y3
  have x0 : w2.cell? ⟨w.heap.size, 0, none⟩ = some (.int .i64 52) := BW2.out.cell 0
  have x1 : w2.cell? ⟨w.heap.size, 1, none⟩ = some (.int .i64 11) := BW2.out.cell 1
  have x2 : w2.cell? ⟨w.heap.size, 2, none⟩ = some (.int .i64 (-1074)) := BW2.out.cell 2
  have y0 : w2.cell? ⟨w.heap.size + 1, 0, none⟩ = some (.int .i64 0) := BD2.out.cell 0
  have y1 : w2.cell? ⟨w.heap.size + 1, 1, none⟩ = some (.bool true) := BD2.out.cell 1
  have y2 : w2.cell? ⟨w.heap.size + 1, 2, none⟩ = some (.string ⟨#[]⟩) := BD2.out.cell 2
  have y3 : w2.cell? ⟨w.heap.size + 1, 3, none⟩ = some (.int .i64 0) := BD2.out.cell 3
  go_wp2
  go_ret2
  refine ⟨?_, HB2.out⟩
  rw [← OR.out]
  rfl

set_option maxHeartbeats 1000000 in
theorem float64_fin_true (t : ByteArray) (ex : Int) (w : World) (h : DigD (bys t) ex) : Calls Tryz.prog 38 #[w64, dcV 0 true t ex] w fun e w' => e = .returned (.tuple #[.int .u64 (((bitsOf 52 1074 (infN 52 11) (decV (bys t) * 10 ^ ex.toNat) (10 ^ (-ex).toNat)) + 9223372036854775808 : Nat) : Int), .int .i64 0]) ∧ Below w.heap.size w w' := by
  have NS := Nums.of h
  have hne : t.size ≠ 0 := fun e => h.1 (bys_nil.2 e)
  have MY := hide (fun W => may0_yes true t ex W (fun e => hne e.1) h)
  have FR := hide (fun W => frac64_any true t ex W h)
  obtain ⟨o, ho⟩ : ∃ o, o = decV (bys t) * 10 ^ ex.toNat := ⟨_, rfl⟩
  obtain ⟨u, hu⟩ : ∃ u, u = 10 ^ (-ex).toNat := ⟨_, rfl⟩
  rw [← ho, ← hu] at NS FR ⊢
  have NR := hide (fun oo lo co ou lu cu W a1 a2 => near64_any oo ou lo co lu cu o u W a1 a2 NS.fo NS.fu NS.o0 NS.u0)
  obtain ⟨r, hr⟩ : ∃ r, r = bitsOf 52 1074 (infN 52 11) o u := ⟨_, rfl⟩
  have hrl : r ≤ 9218868437227405312 := by rw [hr, ← inf64]; exact bitsOf_le _ _ _ _ _
  rw [← hr] at NR ⊢
  have OR : Hid (bits .or .u64 (r : Int) 9223372036854775808 = ((r + 9223372036854775808 : Nat) : Int)) := or_top (k := 63) 9223372036854775808 (by decide) (by omega) (by omega)
  have SGN := hide (fun W => nsign64 W)
  have ht := toList_ne hne
  clear h NS hne ho hu hr
  have BLW := hide ((Blk.new w #[.int .i64 52, .int .i64 11, .int .i64 (-1074)] 60).alloc (.cells #[.int .i64 0, .bool true, .string t, .int .i64 ex] 25))
  have BLD := hide (Blk.newAt (w.alloc (.cells #[.int .i64 52, .int .i64 11, .int .i64 (-1074)] 60)) (w.heap.size + 1) (by simp) #[.int .i64 0, .bool true, .string t, .int .i64 ex] 25)
  have HB0 : Hid (Below w.heap.size w ((w.alloc (.cells #[.int .i64 52, .int .i64 11, .int .i64 (-1074)] 60)).alloc (.cells #[.int .i64 0, .bool true, .string t, .int .i64 ex] 25))) := ((Below.refl _ _).alloc (Nat.le_refl _) _).alloc (by simp) _
  go_enter Tryz.func38, Tryz.ntmps38
  go_wp2_with fail
  refine (MY.out _).mono ?_
  rintro e w1 ⟨rfl, hb⟩
  have BW1 := hide (BLW.out.below hb BLW.out.lt)
  have BD1 := hide (BLD.out.below hb BLD.out.lt)
  have HB1 := hide (HB0.out.trans (hb.mono HB0.out.size))
  clear hb BLW BLD HB0
  have x0 : w1.cell? ⟨w.heap.size, 0, none⟩ = some (.int .i64 52) := BW1.out.cell 0
  have x1 : w1.cell? ⟨w.heap.size, 1, none⟩ = some (.int .i64 11) := BW1.out.cell 1
  have x2 : w1.cell? ⟨w.heap.size, 2, none⟩ = some (.int .i64 (-1074)) := BW1.out.cell 2
  have y0 : w1.cell? ⟨w.heap.size + 1, 0, none⟩ = some (.int .i64 0) := BD1.out.cell 0
  have y1 : w1.cell? ⟨w.heap.size + 1, 1, none⟩ = some (.bool true) := BD1.out.cell 1
  have y2 : w1.cell? ⟨w.heap.size + 1, 2, none⟩ = some (.string t) := BD1.out.cell 2
  have y3 : w1.cell? ⟨w.heap.size + 1, 3, none⟩ = some (.int .i64 ex) := BD1.out.cell 3
  go_wp2_with fail
  refine (FR.out _).mono ?_
  rintro e w2 ⟨oo, lo, co, ou, lu, cu, rfl, no, nu, hb⟩
  have BW2 := hide (BW1.out.below hb BW1.out.lt)
  have BD2 := hide (BD1.out.below hb BD1.out.lt)
  have HB2 := hide (HB1.out.trans (hb.mono HB1.out.size))
  have NO := hide no
  have NU := hide nu
  clear no nu
  clear hb BW1 BD1 HB1 x0 x1 x2 y0 y1 y2 y3
  have x0 : w2.cell? ⟨w.heap.size, 0, none⟩ = some (.int .i64 52) := BW2.out.cell 0
  have x1 : w2.cell? ⟨w.heap.size, 1, none⟩ = some (.int .i64 11) := BW2.out.cell 1
  have x2 : w2.cell? ⟨w.heap.size, 2, none⟩ = some (.int .i64 (-1074)) := BW2.out.cell 2
  have y0 : w2.cell? ⟨w.heap.size + 1, 0, none⟩ = some (.int .i64 0) := BD2.out.cell 0
  have y1 : w2.cell? ⟨w.heap.size + 1, 1, none⟩ = some (.bool true) := BD2.out.cell 1
  have y2 : w2.cell? ⟨w.heap.size + 1, 2, none⟩ = some (.string t) := BD2.out.cell 2
  have y3 : w2.cell? ⟨w.heap.size + 1, 3, none⟩ = some (.int .i64 ex) := BD2.out.cell 3
  go_wp2_with fail
  refine (NR.out _ _ _ _ _ _ _ NO.out NU.out).mono ?_
  rintro e w3 ⟨rfl, hb⟩
  have BW3 := hide (BW2.out.below hb BW2.out.lt)
  have BD3 := hide (BD2.out.below hb BD2.out.lt)
  have HB3 := hide (HB2.out.trans (hb.mono HB2.out.size))
  clear hb BW2 BD2 HB2 x0 x1 x2 y0 y1 y2 y3
  have x0 : w3.cell? ⟨w.heap.size, 0, none⟩ = some (.int .i64 52) := BW3.out.cell 0
  have x1 : w3.cell? ⟨w.heap.size, 1, none⟩ = some (.int .i64 11) := BW3.out.cell 1
  have x2 : w3.cell? ⟨w.heap.size, 2, none⟩ = some (.int .i64 (-1074)) := BW3.out.cell 2
  have y0 : w3.cell? ⟨w.heap.size + 1, 0, none⟩ = some (.int .i64 0) := BD3.out.cell 0
  have y1 : w3.cell? ⟨w.heap.size + 1, 1, none⟩ = some (.bool true) := BD3.out.cell 1
  have y2 : w3.cell? ⟨w.heap.size + 1, 2, none⟩ = some (.string t) := BD3.out.cell 2
  have y3 : w3.cell? ⟨w.heap.size + 1, 3, none⟩ = some (.int .i64 ex) := BD3.out.cell 3
  go_wp2_with fail
  refine (SGN.out _).mono ?_
  rintro e w4 ⟨rfl, hb⟩
  have BW4 := hide (BW3.out.below hb BW3.out.lt)
  have BD4 := hide (BD3.out.below hb BD3.out.lt)
  have HB4 := hide (HB3.out.trans (hb.mono HB3.out.size))
  clear hb BW3 BD3 HB3 x0 x1 x2 y0 y1 y2 y3
  have x0 : w4.cell? ⟨w.heap.size, 0, none⟩ = some (.int .i64 52) := BW4.out.cell 0
  have x1 : w4.cell? ⟨w.heap.size, 1, none⟩ = some (.int .i64 11) := BW4.out.cell 1
  have x2 : w4.cell? ⟨w.heap.size, 2, none⟩ = some (.int .i64 (-1074)) := BW4.out.cell 2
  have y0 : w4.cell? ⟨w.heap.size + 1, 0, none⟩ = some (.int .i64 0) := BD4.out.cell 0
  have y1 : w4.cell? ⟨w.heap.size + 1, 1, none⟩ = some (.bool true) := BD4.out.cell 1
  have y2 : w4.cell? ⟨w.heap.size + 1, 2, none⟩ = some (.string t) := BD4.out.cell 2
  have y3 : w4.cell? ⟨w.heap.size + 1, 3, none⟩ = some (.int .i64 ex) := BD4.out.cell 3
  go_wp2
  go_ret2
  refine ⟨?_, HB4.out⟩
  rw [← OR.out]
  rfl

theorem sig64_f : sigN 52 11 false = 0 := rfl
theorem sig64_t : sigN 52 11 true = 9223372036854775808 := by decide

/-- A Dec that may be: its float's bits. -/
theorem float64_yes (c : Int) (neg : Bool) (t : ByteArray) (ex : Int) (w : World) (h : MayD c neg (bys t) ex) : Calls Tryz.prog 38 #[w64, dcV c neg t ex] w fun e w' => e = .returned (.tuple #[.int .u64 ((toD 52 11 1074 ⟨c.toNat, neg, bys t, ex⟩ : Nat) : Int), .int .i64 0]) ∧ Below w.heap.size w w' := by
  have h' := h
  rcases h with ⟨rfl, _⟩ | ⟨rfl, h1, rfl⟩ | ⟨rfl, rfl, h1, rfl⟩
  · rcases (mayD_0 neg t ex).1 h' with h1 | h1
    · obtain ⟨h1, rfl⟩ := h1
      rw [size_nil h1]
      have hd : toD 52 11 1074 ⟨(0 : Int).toNat, neg, bys ⟨#[]⟩, 0⟩ = sigN 52 11 neg := by
        unfold toD
        rw [if_neg (by simp), if_neg (by simp), if_pos (by simp [bys])]
      rw [hd]
      cases neg with
      | false =>
        rw [sig64_f]
        exact float64_zero_false w
      | true =>
        rw [sig64_t]
        exact float64_zero_true w
    · have hd : toD 52 11 1074 ⟨(0 : Int).toNat, neg, bys t, ex⟩ = bitsOf 52 1074 (infN 52 11) (decV (bys t) * 10 ^ ex.toNat) (10 ^ (-ex).toNat) + sigN 52 11 neg := by
        unfold toD
        rw [if_neg (by simp), if_neg (by simp), if_neg h1.1]
        rfl
      rw [hd]
      cases neg with
      | false =>
        rw [sig64_f, Nat.add_zero]
        exact float64_fin_false t ex w h1
      | true =>
        rw [sig64_t]
        exact float64_fin_true t ex w h1
  · rw [size_nil (bys_nil.1 h1)]
    have hd : toD 52 11 1074 ⟨(1 : Int).toNat, neg, bys ⟨#[]⟩, 0⟩ = infN 52 11 + sigN 52 11 neg := by
      unfold toD
      rw [if_neg (by simp), if_pos (by simp)]
    rw [hd, inf64]
    cases neg with
    | false =>
      rw [sig64_f, Nat.add_zero]
      exact float64_inf_false w
    | true =>
      rw [sig64_t, show 9218868437227405312 + 9223372036854775808 = 18442240474082181120 by decide]
      exact float64_inf_true w
  · rw [size_nil (bys_nil.1 h1)]
    have hd : toD 52 11 1074 ⟨(2 : Int).toNat, false, bys ⟨#[]⟩, 0⟩ = 9221120237041090561 := by
      unfold toD
      rw [if_pos (by simp), inf64]
    rw [hd]
    exact float64_nan w

set_option maxRecDepth 100000 in
set_option maxHeartbeats 1000000 in
theorem to64_of (c : Int) (neg : Bool) (t : ByteArray) (ex : Int) (r : Nat) (er : Int) (w : World)
    (FL : ∀ W, Calls Tryz.prog 38 #[w64, dcV c neg t ex] W fun e w' => e = .returned (.tuple #[.int .u64 (r : Int), .int .i64 er]) ∧ Below W.heap.size W w') :
    Calls Tryz.prog 15 #[dcV c neg t ex] w fun e w' => e = .returned (.tuple #[.int .u64 (r : Int), .int .i64 er]) ∧ Below w.heap.size w w' := by
  have FLH := hide FL
  have blk := Blk.new w #[.int .i64 c, .bool neg, .string t, .int .i64 ex] 25
  obtain ⟨W, hW⟩ : ∃ W, W = w.alloc (.cells #[.int .i64 c, .bool neg, .string t, .int .i64 ex] 25) := ⟨_, rfl⟩
  rw [← hW] at blk
  have HBW : Hid (Below w.heap.size w W) := by rw [hW]; exact (Below.refl _ _).alloc (Nat.le_refl _) _
  have BLK := hide blk
  have HW := hide hW
  have c0 : W.cell? ⟨w.heap.size, 0, none⟩ = some (.int .i64 c) := blk.cell 0
  have c1 : W.cell? ⟨w.heap.size, 1, none⟩ = some (.bool neg) := blk.cell 1
  have c2 : W.cell? ⟨w.heap.size, 2, none⟩ = some (.string t) := blk.cell 2
  have c3 : W.cell? ⟨w.heap.size, 3, none⟩ = some (.int .i64 ex) := blk.cell 3
  have b0 : Hid (Below W.heap.size W W.drew) := bdrew' W
  have C1 : Hid (Calls Tryz.prog 37 #[] W.drew fun e w' => e = .returned w64 ∧ Hid (Below W.heap.size W w') ∧ w'.cell? ⟨w.heap.size, 0, none⟩ = some (.int .i64 c) ∧ w'.cell? ⟨w.heap.size, 1, none⟩ = some (.bool neg) ∧ w'.cell? ⟨w.heap.size, 2, none⟩ = some (.string t) ∧ w'.cell? ⟨w.heap.size, 3, none⟩ = some (.int .i64 ex)) := by
    refine (nbinary64_any W.drew).mono ?_
    rintro e w' ⟨rfl, hb⟩
    have hbb := b0.out.trans (hb.mono b0.out.size)
    have q := BLK.out.below hbb BLK.out.lt
    exact ⟨rfl, hbb, q.cell 0, q.cell 1, q.cell 2, q.cell 3⟩
  have C2 : Hid (∀ w1, Hid (Below W.heap.size W w1) → Calls Tryz.prog 38 #[w64, .agg #[.int .i64 c, .bool neg, .string t, .int .i64 ex]] w1 fun e w' => e = .returned (.tuple #[.int .u64 (r : Int), .int .i64 er]) ∧ Hid (Below W.heap.size W w') ∧ w'.cell? ⟨w.heap.size, 0, none⟩ = some (.int .i64 c) ∧ w'.cell? ⟨w.heap.size, 1, none⟩ = some (.bool neg) ∧ w'.cell? ⟨w.heap.size, 2, none⟩ = some (.string t) ∧ w'.cell? ⟨w.heap.size, 3, none⟩ = some (.int .i64 ex)) := by
    intro w1 h1
    refine (FLH.out w1).mono ?_
    rintro e w' ⟨rfl, hb⟩
    have hbb := h1.out.trans (hb.mono h1.out.size)
    have q := BLK.out.below hbb BLK.out.lt
    exact ⟨rfl, hbb, q.cell 0, q.cell 1, q.cell 2, q.cell 3⟩
  clear FL blk hW FLH
  go_enter Tryz.func15, Tryz.ntmps15
  go_wp2_with fail
  simp only [← HW.out]
  have mk0 : True := trivial
  go_region_held3 (fun w' => w'.cell? ⟨w.heap.size, 0, none⟩ = some (.int .i64 c) ∧ w'.cell? ⟨w.heap.size, 1, none⟩ = some (.bool neg) ∧ w'.cell? ⟨w.heap.size, 2, none⟩ = some (.string t) ∧ w'.cell? ⟨w.heap.size, 3, none⟩ = some (.int .i64 ex)) (go_keep) (first
    | (clear mk0; go_at_call 37; refine C1.out.mono ?_; rintro e w1 ⟨rfl, b1, k0, k1, k2, k3⟩; have mk1 : True := trivial)
    | (clear mk1; go_at_call 38; refine (C2.out _ b1).mono ?_; rintro e w2 ⟨rfl, b2, m0, m1, m2, m3⟩; have mk2 : True := trivial))
  all_goals (
    have FIN := hide (HBW.out.trans (b2.out.mono HBW.out.size))
    clear b1 b2 C1 C2
    go_wp2
    go_ret2
    exact ⟨rfl, FIN.out⟩)

theorem to64_no (c : Int) (neg : Bool) (t : ByteArray) (ex : Int) (w : World) (h : ¬ MayD c neg (bys t) ex) : Calls Tryz.prog 15 #[dcV c neg t ex] w fun e w' => e = .returned (.tuple #[.int .u64 0, .int .i64 40]) ∧ Below w.heap.size w w' :=
  to64_of c neg t ex 0 40 w (fun W => float64_no c neg t ex W h)

theorem to64_yes (c : Int) (neg : Bool) (t : ByteArray) (ex : Int) (w : World) (h : MayD c neg (bys t) ex) : Calls Tryz.prog 15 #[dcV c neg t ex] w fun e w' => e = .returned (.tuple #[.int .u64 ((toD 52 11 1074 ⟨c.toNat, neg, bys t, ex⟩ : Nat) : Int), .int .i64 0]) ∧ Below w.heap.size w w' :=
  to64_of c neg t ex _ 0 w (fun W => float64_yes c neg t ex W h)

theorem frac32_any (neg : Bool) (t : ByteArray) (ex : Int) (w : World) (h : DigD (bys t) ex) :
    Calls Tryz.prog 64 #[w32, dcV 0 neg t ex] w (FrPost w 23 8 (-149) (decV (bys t) * 10 ^ ex.toNat) (10 ^ (-ex).toNat)) := by
  by_cases hn : ex < 0
  · obtain ⟨n, rfl⟩ : ∃ n : Nat, ex = -(n : Int) := ⟨(-ex).toNat, by omega⟩
    rw [show (-(n : Int)).toNat = 0 by omega, show (- -(n : Int)).toNat = n by omega, Nat.pow_zero, Nat.mul_one]
    exact frac32_neg neg t n w h hn
  · obtain ⟨n, rfl⟩ : ∃ n : Nat, ex = (n : Int) := ⟨ex.toNat, by omega⟩
    rw [show (-(n : Int)).toNat = 0 by omega, show ((n : Int)).toNat = n by omega, Nat.pow_zero]
    exact frac32_pos neg t n w h hn

set_option maxHeartbeats 1000000 in
theorem float32_no (c : Int) (neg : Bool) (t : ByteArray) (ex : Int) (w : World) (h : ¬ MayD c neg (bys t) ex) : Calls Tryz.prog 38 #[w32, dcV c neg t ex] w fun e w' => e = .returned (.tuple #[.int .u64 0, .int .i64 40]) ∧ Below w.heap.size w w' := by
  have MY := hide (fun W => may_no c neg t ex W h)
  clear h
  have BLW := hide ((Blk.new w #[.int .i64 23, .int .i64 8, .int .i64 (-149)] 60).alloc (.cells #[.int .i64 c, .bool neg, .string t, .int .i64 ex] 25))
  have BLD := hide (Blk.newAt (w.alloc (.cells #[.int .i64 23, .int .i64 8, .int .i64 (-149)] 60)) (w.heap.size + 1) (by simp) #[.int .i64 c, .bool neg, .string t, .int .i64 ex] 25)
  have HB0 : Hid (Below w.heap.size w ((w.alloc (.cells #[.int .i64 23, .int .i64 8, .int .i64 (-149)] 60)).alloc (.cells #[.int .i64 c, .bool neg, .string t, .int .i64 ex] 25))) := ((Below.refl _ _).alloc (Nat.le_refl _) _).alloc (by simp) _
  go_enter Tryz.func38, Tryz.ntmps38
  go_wp2_with fail
  refine (MY.out _).mono ?_
  rintro e w1 ⟨rfl, hb⟩
  have BW1 := hide (BLW.out.below hb BLW.out.lt)
  have BD1 := hide (BLD.out.below hb BLD.out.lt)
  have HB1 := hide (HB0.out.trans (hb.mono HB0.out.size))
  clear hb BLW BLD HB0
  have x0 : w1.cell? ⟨w.heap.size, 0, none⟩ = some (.int .i64 23) := BW1.out.cell 0
  have x1 : w1.cell? ⟨w.heap.size, 1, none⟩ = some (.int .i64 8) := BW1.out.cell 1
  have x2 : w1.cell? ⟨w.heap.size, 2, none⟩ = some (.int .i64 (-149)) := BW1.out.cell 2
  have y0 : w1.cell? ⟨w.heap.size + 1, 0, none⟩ = some (.int .i64 c) := BD1.out.cell 0
  have y1 : w1.cell? ⟨w.heap.size + 1, 1, none⟩ = some (.bool neg) := BD1.out.cell 1
  have y2 : w1.cell? ⟨w.heap.size + 1, 2, none⟩ = some (.string t) := BD1.out.cell 2
  have y3 : w1.cell? ⟨w.heap.size + 1, 3, none⟩ = some (.int .i64 ex) := BD1.out.cell 3
  go_wp2
  go_ret2
  exact ⟨rfl, HB1.out⟩

set_option maxHeartbeats 1000000 in
theorem float32_nan (w : World) : Calls Tryz.prog 38 #[w32, dcV 2 false ⟨#[]⟩ 0] w fun e w' => e = .returned (.tuple #[.int .u64 2143289345, .int .i64 0]) ∧ Below w.heap.size w w' := by
  have MY := hide (fun W => may2_yes W)
  have NN := hide (fun W => nnan32 W)
  have BLW := hide ((Blk.new w #[.int .i64 23, .int .i64 8, .int .i64 (-149)] 60).alloc (.cells #[.int .i64 2, .bool false, .string ⟨#[]⟩, .int .i64 0] 25))
  have BLD := hide (Blk.newAt (w.alloc (.cells #[.int .i64 23, .int .i64 8, .int .i64 (-149)] 60)) (w.heap.size + 1) (by simp) #[.int .i64 2, .bool false, .string ⟨#[]⟩, .int .i64 0] 25)
  have HB0 : Hid (Below w.heap.size w ((w.alloc (.cells #[.int .i64 23, .int .i64 8, .int .i64 (-149)] 60)).alloc (.cells #[.int .i64 2, .bool false, .string ⟨#[]⟩, .int .i64 0] 25))) := ((Below.refl _ _).alloc (Nat.le_refl _) _).alloc (by simp) _
  go_enter Tryz.func38, Tryz.ntmps38
  go_wp2_with fail
  refine (MY.out _).mono ?_
  rintro e w1 ⟨rfl, hb⟩
  have BW1 := hide (BLW.out.below hb BLW.out.lt)
  have BD1 := hide (BLD.out.below hb BLD.out.lt)
  have HB1 := hide (HB0.out.trans (hb.mono HB0.out.size))
  clear hb BLW BLD HB0
  have x0 : w1.cell? ⟨w.heap.size, 0, none⟩ = some (.int .i64 23) := BW1.out.cell 0
  have x1 : w1.cell? ⟨w.heap.size, 1, none⟩ = some (.int .i64 8) := BW1.out.cell 1
  have x2 : w1.cell? ⟨w.heap.size, 2, none⟩ = some (.int .i64 (-149)) := BW1.out.cell 2
  have y0 : w1.cell? ⟨w.heap.size + 1, 0, none⟩ = some (.int .i64 2) := BD1.out.cell 0
  have y1 : w1.cell? ⟨w.heap.size + 1, 1, none⟩ = some (.bool false) := BD1.out.cell 1
  have y2 : w1.cell? ⟨w.heap.size + 1, 2, none⟩ = some (.string ⟨#[]⟩) := BD1.out.cell 2
  have y3 : w1.cell? ⟨w.heap.size + 1, 3, none⟩ = some (.int .i64 0) := BD1.out.cell 3
  go_wp2_with fail
  refine (NN.out _).mono ?_
  rintro e w2 ⟨rfl, hb⟩
  have BW2 := hide (BW1.out.below hb BW1.out.lt)
  have BD2 := hide (BD1.out.below hb BD1.out.lt)
  have HB2 := hide (HB1.out.trans (hb.mono HB1.out.size))
  clear hb BW1 BD1 HB1 x0 x1 x2 y0 y1 y2 y3
  have x0 : w2.cell? ⟨w.heap.size, 0, none⟩ = some (.int .i64 23) := BW2.out.cell 0
  have x1 : w2.cell? ⟨w.heap.size, 1, none⟩ = some (.int .i64 8) := BW2.out.cell 1
  have x2 : w2.cell? ⟨w.heap.size, 2, none⟩ = some (.int .i64 (-149)) := BW2.out.cell 2
  have y0 : w2.cell? ⟨w.heap.size + 1, 0, none⟩ = some (.int .i64 2) := BD2.out.cell 0
  have y1 : w2.cell? ⟨w.heap.size + 1, 1, none⟩ = some (.bool false) := BD2.out.cell 1
  have y2 : w2.cell? ⟨w.heap.size + 1, 2, none⟩ = some (.string ⟨#[]⟩) := BD2.out.cell 2
  have y3 : w2.cell? ⟨w.heap.size + 1, 3, none⟩ = some (.int .i64 0) := BD2.out.cell 3
  go_wp2
  go_ret2
  exact ⟨rfl, HB2.out⟩

set_option maxHeartbeats 1000000 in
theorem float32_inf_false (w : World) : Calls Tryz.prog 38 #[w32, dcV 1 false ⟨#[]⟩ 0] w fun e w' => e = .returned (.tuple #[.int .u64 2139095040, .int .i64 0]) ∧ Below w.heap.size w w' := by
  have MY := hide (fun W => may1_yes false W)
  have IN := hide (fun W => ninf32 W)
  have BLW := hide ((Blk.new w #[.int .i64 23, .int .i64 8, .int .i64 (-149)] 60).alloc (.cells #[.int .i64 1, .bool false, .string ⟨#[]⟩, .int .i64 0] 25))
  have BLD := hide (Blk.newAt (w.alloc (.cells #[.int .i64 23, .int .i64 8, .int .i64 (-149)] 60)) (w.heap.size + 1) (by simp) #[.int .i64 1, .bool false, .string ⟨#[]⟩, .int .i64 0] 25)
  have HB0 : Hid (Below w.heap.size w ((w.alloc (.cells #[.int .i64 23, .int .i64 8, .int .i64 (-149)] 60)).alloc (.cells #[.int .i64 1, .bool false, .string ⟨#[]⟩, .int .i64 0] 25))) := ((Below.refl _ _).alloc (Nat.le_refl _) _).alloc (by simp) _
  go_enter Tryz.func38, Tryz.ntmps38
  go_wp2_with fail
  refine (MY.out _).mono ?_
  rintro e w1 ⟨rfl, hb⟩
  have BW1 := hide (BLW.out.below hb BLW.out.lt)
  have BD1 := hide (BLD.out.below hb BLD.out.lt)
  have HB1 := hide (HB0.out.trans (hb.mono HB0.out.size))
  clear hb BLW BLD HB0
  have x0 : w1.cell? ⟨w.heap.size, 0, none⟩ = some (.int .i64 23) := BW1.out.cell 0
  have x1 : w1.cell? ⟨w.heap.size, 1, none⟩ = some (.int .i64 8) := BW1.out.cell 1
  have x2 : w1.cell? ⟨w.heap.size, 2, none⟩ = some (.int .i64 (-149)) := BW1.out.cell 2
  have y0 : w1.cell? ⟨w.heap.size + 1, 0, none⟩ = some (.int .i64 1) := BD1.out.cell 0
  have y1 : w1.cell? ⟨w.heap.size + 1, 1, none⟩ = some (.bool false) := BD1.out.cell 1
  have y2 : w1.cell? ⟨w.heap.size + 1, 2, none⟩ = some (.string ⟨#[]⟩) := BD1.out.cell 2
  have y3 : w1.cell? ⟨w.heap.size + 1, 3, none⟩ = some (.int .i64 0) := BD1.out.cell 3
  go_wp2_with fail
  refine (IN.out _).mono ?_
  rintro e w2 ⟨rfl, hb⟩
  have BW2 := hide (BW1.out.below hb BW1.out.lt)
  have BD2 := hide (BD1.out.below hb BD1.out.lt)
  have HB2 := hide (HB1.out.trans (hb.mono HB1.out.size))
  clear hb BW1 BD1 HB1 x0 x1 x2 y0 y1 y2 y3
  have x0 : w2.cell? ⟨w.heap.size, 0, none⟩ = some (.int .i64 23) := BW2.out.cell 0
  have x1 : w2.cell? ⟨w.heap.size, 1, none⟩ = some (.int .i64 8) := BW2.out.cell 1
  have x2 : w2.cell? ⟨w.heap.size, 2, none⟩ = some (.int .i64 (-149)) := BW2.out.cell 2
  have y0 : w2.cell? ⟨w.heap.size + 1, 0, none⟩ = some (.int .i64 1) := BD2.out.cell 0
  have y1 : w2.cell? ⟨w.heap.size + 1, 1, none⟩ = some (.bool false) := BD2.out.cell 1
  have y2 : w2.cell? ⟨w.heap.size + 1, 2, none⟩ = some (.string ⟨#[]⟩) := BD2.out.cell 2
  have y3 : w2.cell? ⟨w.heap.size + 1, 3, none⟩ = some (.int .i64 0) := BD2.out.cell 3
  go_wp2
  go_ret2
  exact ⟨rfl, HB2.out⟩

set_option maxHeartbeats 1000000 in
theorem float32_zero_false (w : World) : Calls Tryz.prog 38 #[w32, dcV 0 false ⟨#[]⟩ 0] w fun e w' => e = .returned (.tuple #[.int .u64 0, .int .i64 0]) ∧ Below w.heap.size w w' := by
  have MY := hide (fun W => may0_bare false W)
  have BLW := hide ((Blk.new w #[.int .i64 23, .int .i64 8, .int .i64 (-149)] 60).alloc (.cells #[.int .i64 0, .bool false, .string ⟨#[]⟩, .int .i64 0] 25))
  have BLD := hide (Blk.newAt (w.alloc (.cells #[.int .i64 23, .int .i64 8, .int .i64 (-149)] 60)) (w.heap.size + 1) (by simp) #[.int .i64 0, .bool false, .string ⟨#[]⟩, .int .i64 0] 25)
  have HB0 : Hid (Below w.heap.size w ((w.alloc (.cells #[.int .i64 23, .int .i64 8, .int .i64 (-149)] 60)).alloc (.cells #[.int .i64 0, .bool false, .string ⟨#[]⟩, .int .i64 0] 25))) := ((Below.refl _ _).alloc (Nat.le_refl _) _).alloc (by simp) _
  go_enter Tryz.func38, Tryz.ntmps38
  go_wp2_with fail
  refine (MY.out _).mono ?_
  rintro e w1 ⟨rfl, hb⟩
  have BW1 := hide (BLW.out.below hb BLW.out.lt)
  have BD1 := hide (BLD.out.below hb BLD.out.lt)
  have HB1 := hide (HB0.out.trans (hb.mono HB0.out.size))
  clear hb BLW BLD HB0
  have x0 : w1.cell? ⟨w.heap.size, 0, none⟩ = some (.int .i64 23) := BW1.out.cell 0
  have x1 : w1.cell? ⟨w.heap.size, 1, none⟩ = some (.int .i64 8) := BW1.out.cell 1
  have x2 : w1.cell? ⟨w.heap.size, 2, none⟩ = some (.int .i64 (-149)) := BW1.out.cell 2
  have y0 : w1.cell? ⟨w.heap.size + 1, 0, none⟩ = some (.int .i64 0) := BD1.out.cell 0
  have y1 : w1.cell? ⟨w.heap.size + 1, 1, none⟩ = some (.bool false) := BD1.out.cell 1
  have y2 : w1.cell? ⟨w.heap.size + 1, 2, none⟩ = some (.string ⟨#[]⟩) := BD1.out.cell 2
  have y3 : w1.cell? ⟨w.heap.size + 1, 3, none⟩ = some (.int .i64 0) := BD1.out.cell 3
  go_wp2
  go_ret2
  exact ⟨rfl, HB1.out⟩

set_option maxHeartbeats 1000000 in
theorem float32_fin_false (t : ByteArray) (ex : Int) (w : World) (h : DigD (bys t) ex) : Calls Tryz.prog 38 #[w32, dcV 0 false t ex] w fun e w' => e = .returned (.tuple #[.int .u64 ((bitsOf 23 149 (infN 23 8) (decV (bys t) * 10 ^ ex.toNat) (10 ^ (-ex).toNat)) : Int), .int .i64 0]) ∧ Below w.heap.size w w' := by
  have NS := Nums.of h
  have hne : t.size ≠ 0 := fun e => h.1 (bys_nil.2 e)
  have MY := hide (fun W => may0_yes false t ex W (fun e => hne e.1) h)
  have FR := hide (fun W => frac32_any false t ex W h)
  obtain ⟨o, ho⟩ : ∃ o, o = decV (bys t) * 10 ^ ex.toNat := ⟨_, rfl⟩
  obtain ⟨u, hu⟩ : ∃ u, u = 10 ^ (-ex).toNat := ⟨_, rfl⟩
  rw [← ho, ← hu] at NS FR ⊢
  have NR := hide (fun oo lo co ou lu cu W a1 a2 => near32_any oo ou lo co lu cu o u W a1 a2 NS.fo NS.fu NS.o0 NS.u0)
  obtain ⟨r, hr⟩ : ∃ r, r = bitsOf 23 149 (infN 23 8) o u := ⟨_, rfl⟩
  have hrl : r ≤ 2139095040 := by rw [hr, ← inf32]; exact bitsOf_le _ _ _ _ _
  rw [← hr] at NR ⊢
  have ht := toList_ne hne
  clear h NS hne ho hu hr
  have BLW := hide ((Blk.new w #[.int .i64 23, .int .i64 8, .int .i64 (-149)] 60).alloc (.cells #[.int .i64 0, .bool false, .string t, .int .i64 ex] 25))
  have BLD := hide (Blk.newAt (w.alloc (.cells #[.int .i64 23, .int .i64 8, .int .i64 (-149)] 60)) (w.heap.size + 1) (by simp) #[.int .i64 0, .bool false, .string t, .int .i64 ex] 25)
  have HB0 : Hid (Below w.heap.size w ((w.alloc (.cells #[.int .i64 23, .int .i64 8, .int .i64 (-149)] 60)).alloc (.cells #[.int .i64 0, .bool false, .string t, .int .i64 ex] 25))) := ((Below.refl _ _).alloc (Nat.le_refl _) _).alloc (by simp) _
  go_enter Tryz.func38, Tryz.ntmps38
  go_wp2_with fail
  refine (MY.out _).mono ?_
  rintro e w1 ⟨rfl, hb⟩
  have BW1 := hide (BLW.out.below hb BLW.out.lt)
  have BD1 := hide (BLD.out.below hb BLD.out.lt)
  have HB1 := hide (HB0.out.trans (hb.mono HB0.out.size))
  clear hb BLW BLD HB0
  have x0 : w1.cell? ⟨w.heap.size, 0, none⟩ = some (.int .i64 23) := BW1.out.cell 0
  have x1 : w1.cell? ⟨w.heap.size, 1, none⟩ = some (.int .i64 8) := BW1.out.cell 1
  have x2 : w1.cell? ⟨w.heap.size, 2, none⟩ = some (.int .i64 (-149)) := BW1.out.cell 2
  have y0 : w1.cell? ⟨w.heap.size + 1, 0, none⟩ = some (.int .i64 0) := BD1.out.cell 0
  have y1 : w1.cell? ⟨w.heap.size + 1, 1, none⟩ = some (.bool false) := BD1.out.cell 1
  have y2 : w1.cell? ⟨w.heap.size + 1, 2, none⟩ = some (.string t) := BD1.out.cell 2
  have y3 : w1.cell? ⟨w.heap.size + 1, 3, none⟩ = some (.int .i64 ex) := BD1.out.cell 3
  go_wp2_with fail
  refine (FR.out _).mono ?_
  rintro e w2 ⟨oo, lo, co, ou, lu, cu, rfl, no, nu, hb⟩
  have BW2 := hide (BW1.out.below hb BW1.out.lt)
  have BD2 := hide (BD1.out.below hb BD1.out.lt)
  have HB2 := hide (HB1.out.trans (hb.mono HB1.out.size))
  have NO := hide no
  have NU := hide nu
  clear no nu
  clear hb BW1 BD1 HB1 x0 x1 x2 y0 y1 y2 y3
  have x0 : w2.cell? ⟨w.heap.size, 0, none⟩ = some (.int .i64 23) := BW2.out.cell 0
  have x1 : w2.cell? ⟨w.heap.size, 1, none⟩ = some (.int .i64 8) := BW2.out.cell 1
  have x2 : w2.cell? ⟨w.heap.size, 2, none⟩ = some (.int .i64 (-149)) := BW2.out.cell 2
  have y0 : w2.cell? ⟨w.heap.size + 1, 0, none⟩ = some (.int .i64 0) := BD2.out.cell 0
  have y1 : w2.cell? ⟨w.heap.size + 1, 1, none⟩ = some (.bool false) := BD2.out.cell 1
  have y2 : w2.cell? ⟨w.heap.size + 1, 2, none⟩ = some (.string t) := BD2.out.cell 2
  have y3 : w2.cell? ⟨w.heap.size + 1, 3, none⟩ = some (.int .i64 ex) := BD2.out.cell 3
  go_wp2_with fail
  refine (NR.out _ _ _ _ _ _ _ NO.out NU.out).mono ?_
  rintro e w3 ⟨rfl, hb⟩
  have BW3 := hide (BW2.out.below hb BW2.out.lt)
  have BD3 := hide (BD2.out.below hb BD2.out.lt)
  have HB3 := hide (HB2.out.trans (hb.mono HB2.out.size))
  clear hb BW2 BD2 HB2 x0 x1 x2 y0 y1 y2 y3
  have x0 : w3.cell? ⟨w.heap.size, 0, none⟩ = some (.int .i64 23) := BW3.out.cell 0
  have x1 : w3.cell? ⟨w.heap.size, 1, none⟩ = some (.int .i64 8) := BW3.out.cell 1
  have x2 : w3.cell? ⟨w.heap.size, 2, none⟩ = some (.int .i64 (-149)) := BW3.out.cell 2
  have y0 : w3.cell? ⟨w.heap.size + 1, 0, none⟩ = some (.int .i64 0) := BD3.out.cell 0
  have y1 : w3.cell? ⟨w.heap.size + 1, 1, none⟩ = some (.bool false) := BD3.out.cell 1
  have y2 : w3.cell? ⟨w.heap.size + 1, 2, none⟩ = some (.string t) := BD3.out.cell 2
  have y3 : w3.cell? ⟨w.heap.size + 1, 3, none⟩ = some (.int .i64 ex) := BD3.out.cell 3
  go_wp2
  go_ret2
  exact ⟨rfl, HB3.out⟩

set_option maxHeartbeats 1000000 in
theorem float32_inf_true (w : World) : Calls Tryz.prog 38 #[w32, dcV 1 true ⟨#[]⟩ 0] w fun e w' => e = .returned (.tuple #[.int .u64 4286578688, .int .i64 0]) ∧ Below w.heap.size w w' := by
  have MY := hide (fun W => may1_yes true W)
  have IN := hide (fun W => ninf32 W)
  have SGN := hide (fun W => nsign32 W)
  have OR := hide (show bits .or .u64 2139095040 2147483648 = 4286578688 by decide +kernel)
  have BLW := hide ((Blk.new w #[.int .i64 23, .int .i64 8, .int .i64 (-149)] 60).alloc (.cells #[.int .i64 1, .bool true, .string ⟨#[]⟩, .int .i64 0] 25))
  have BLD := hide (Blk.newAt (w.alloc (.cells #[.int .i64 23, .int .i64 8, .int .i64 (-149)] 60)) (w.heap.size + 1) (by simp) #[.int .i64 1, .bool true, .string ⟨#[]⟩, .int .i64 0] 25)
  have HB0 : Hid (Below w.heap.size w ((w.alloc (.cells #[.int .i64 23, .int .i64 8, .int .i64 (-149)] 60)).alloc (.cells #[.int .i64 1, .bool true, .string ⟨#[]⟩, .int .i64 0] 25))) := ((Below.refl _ _).alloc (Nat.le_refl _) _).alloc (by simp) _
  go_enter Tryz.func38, Tryz.ntmps38
  go_wp2_with fail
  refine (MY.out _).mono ?_
  rintro e w1 ⟨rfl, hb⟩
  have BW1 := hide (BLW.out.below hb BLW.out.lt)
  have BD1 := hide (BLD.out.below hb BLD.out.lt)
  have HB1 := hide (HB0.out.trans (hb.mono HB0.out.size))
  clear hb BLW BLD HB0
  have x0 : w1.cell? ⟨w.heap.size, 0, none⟩ = some (.int .i64 23) := BW1.out.cell 0
  have x1 : w1.cell? ⟨w.heap.size, 1, none⟩ = some (.int .i64 8) := BW1.out.cell 1
  have x2 : w1.cell? ⟨w.heap.size, 2, none⟩ = some (.int .i64 (-149)) := BW1.out.cell 2
  have y0 : w1.cell? ⟨w.heap.size + 1, 0, none⟩ = some (.int .i64 1) := BD1.out.cell 0
  have y1 : w1.cell? ⟨w.heap.size + 1, 1, none⟩ = some (.bool true) := BD1.out.cell 1
  have y2 : w1.cell? ⟨w.heap.size + 1, 2, none⟩ = some (.string ⟨#[]⟩) := BD1.out.cell 2
  have y3 : w1.cell? ⟨w.heap.size + 1, 3, none⟩ = some (.int .i64 0) := BD1.out.cell 3
  go_wp2_with fail
  refine (IN.out _).mono ?_
  rintro e w2 ⟨rfl, hb⟩
  have BW2 := hide (BW1.out.below hb BW1.out.lt)
  have BD2 := hide (BD1.out.below hb BD1.out.lt)
  have HB2 := hide (HB1.out.trans (hb.mono HB1.out.size))
  clear hb BW1 BD1 HB1 x0 x1 x2 y0 y1 y2 y3
  have x0 : w2.cell? ⟨w.heap.size, 0, none⟩ = some (.int .i64 23) := BW2.out.cell 0
  have x1 : w2.cell? ⟨w.heap.size, 1, none⟩ = some (.int .i64 8) := BW2.out.cell 1
  have x2 : w2.cell? ⟨w.heap.size, 2, none⟩ = some (.int .i64 (-149)) := BW2.out.cell 2
  have y0 : w2.cell? ⟨w.heap.size + 1, 0, none⟩ = some (.int .i64 1) := BD2.out.cell 0
  have y1 : w2.cell? ⟨w.heap.size + 1, 1, none⟩ = some (.bool true) := BD2.out.cell 1
  have y2 : w2.cell? ⟨w.heap.size + 1, 2, none⟩ = some (.string ⟨#[]⟩) := BD2.out.cell 2
  have y3 : w2.cell? ⟨w.heap.size + 1, 3, none⟩ = some (.int .i64 0) := BD2.out.cell 3
  go_wp2_with fail
  refine (SGN.out _).mono ?_
  rintro e w3 ⟨rfl, hb⟩
  have BW3 := hide (BW2.out.below hb BW2.out.lt)
  have BD3 := hide (BD2.out.below hb BD2.out.lt)
  have HB3 := hide (HB2.out.trans (hb.mono HB2.out.size))
  clear hb BW2 BD2 HB2 x0 x1 x2 y0 y1 y2 y3
  have x0 : w3.cell? ⟨w.heap.size, 0, none⟩ = some (.int .i64 23) := BW3.out.cell 0
  have x1 : w3.cell? ⟨w.heap.size, 1, none⟩ = some (.int .i64 8) := BW3.out.cell 1
  have x2 : w3.cell? ⟨w.heap.size, 2, none⟩ = some (.int .i64 (-149)) := BW3.out.cell 2
  have y0 : w3.cell? ⟨w.heap.size + 1, 0, none⟩ = some (.int .i64 1) := BD3.out.cell 0
  have y1 : w3.cell? ⟨w.heap.size + 1, 1, none⟩ = some (.bool true) := BD3.out.cell 1
  have y2 : w3.cell? ⟨w.heap.size + 1, 2, none⟩ = some (.string ⟨#[]⟩) := BD3.out.cell 2
  have y3 : w3.cell? ⟨w.heap.size + 1, 3, none⟩ = some (.int .i64 0) := BD3.out.cell 3
  go_wp2
  go_ret2
  refine ⟨?_, HB3.out⟩
  rw [← OR.out]
  rfl

set_option maxHeartbeats 1000000 in
theorem float32_zero_true (w : World) : Calls Tryz.prog 38 #[w32, dcV 0 true ⟨#[]⟩ 0] w fun e w' => e = .returned (.tuple #[.int .u64 2147483648, .int .i64 0]) ∧ Below w.heap.size w w' := by
  have MY := hide (fun W => may0_bare true W)
  have SGN := hide (fun W => nsign32 W)
  have OR := hide (show bits .or .u64 0 2147483648 = 2147483648 by decide +kernel)
  have BLW := hide ((Blk.new w #[.int .i64 23, .int .i64 8, .int .i64 (-149)] 60).alloc (.cells #[.int .i64 0, .bool true, .string ⟨#[]⟩, .int .i64 0] 25))
  have BLD := hide (Blk.newAt (w.alloc (.cells #[.int .i64 23, .int .i64 8, .int .i64 (-149)] 60)) (w.heap.size + 1) (by simp) #[.int .i64 0, .bool true, .string ⟨#[]⟩, .int .i64 0] 25)
  have HB0 : Hid (Below w.heap.size w ((w.alloc (.cells #[.int .i64 23, .int .i64 8, .int .i64 (-149)] 60)).alloc (.cells #[.int .i64 0, .bool true, .string ⟨#[]⟩, .int .i64 0] 25))) := ((Below.refl _ _).alloc (Nat.le_refl _) _).alloc (by simp) _
  go_enter Tryz.func38, Tryz.ntmps38
  go_wp2_with fail
  refine (MY.out _).mono ?_
  rintro e w1 ⟨rfl, hb⟩
  have BW1 := hide (BLW.out.below hb BLW.out.lt)
  have BD1 := hide (BLD.out.below hb BLD.out.lt)
  have HB1 := hide (HB0.out.trans (hb.mono HB0.out.size))
  clear hb BLW BLD HB0
  have x0 : w1.cell? ⟨w.heap.size, 0, none⟩ = some (.int .i64 23) := BW1.out.cell 0
  have x1 : w1.cell? ⟨w.heap.size, 1, none⟩ = some (.int .i64 8) := BW1.out.cell 1
  have x2 : w1.cell? ⟨w.heap.size, 2, none⟩ = some (.int .i64 (-149)) := BW1.out.cell 2
  have y0 : w1.cell? ⟨w.heap.size + 1, 0, none⟩ = some (.int .i64 0) := BD1.out.cell 0
  have y1 : w1.cell? ⟨w.heap.size + 1, 1, none⟩ = some (.bool true) := BD1.out.cell 1
  have y2 : w1.cell? ⟨w.heap.size + 1, 2, none⟩ = some (.string ⟨#[]⟩) := BD1.out.cell 2
  have y3 : w1.cell? ⟨w.heap.size + 1, 3, none⟩ = some (.int .i64 0) := BD1.out.cell 3
  go_wp2_with fail
  refine (SGN.out _).mono ?_
  rintro e w2 ⟨rfl, hb⟩
  have BW2 := hide (BW1.out.below hb BW1.out.lt)
  have BD2 := hide (BD1.out.below hb BD1.out.lt)
  have HB2 := hide (HB1.out.trans (hb.mono HB1.out.size))
  clear hb BW1 BD1 HB1 x0 x1 x2 y0 y1 y2 y3
  have x0 : w2.cell? ⟨w.heap.size, 0, none⟩ = some (.int .i64 23) := BW2.out.cell 0
  have x1 : w2.cell? ⟨w.heap.size, 1, none⟩ = some (.int .i64 8) := BW2.out.cell 1
  have x2 : w2.cell? ⟨w.heap.size, 2, none⟩ = some (.int .i64 (-149)) := BW2.out.cell 2
  have y0 : w2.cell? ⟨w.heap.size + 1, 0, none⟩ = some (.int .i64 0) := BD2.out.cell 0
  have y1 : w2.cell? ⟨w.heap.size + 1, 1, none⟩ = some (.bool true) := BD2.out.cell 1
  have y2 : w2.cell? ⟨w.heap.size + 1, 2, none⟩ = some (.string ⟨#[]⟩) := BD2.out.cell 2
  have y3 : w2.cell? ⟨w.heap.size + 1, 3, none⟩ = some (.int .i64 0) := BD2.out.cell 3
  go_wp2
  go_ret2
  refine ⟨?_, HB2.out⟩
  rw [← OR.out]
  rfl

set_option maxHeartbeats 1000000 in
theorem float32_fin_true (t : ByteArray) (ex : Int) (w : World) (h : DigD (bys t) ex) : Calls Tryz.prog 38 #[w32, dcV 0 true t ex] w fun e w' => e = .returned (.tuple #[.int .u64 (((bitsOf 23 149 (infN 23 8) (decV (bys t) * 10 ^ ex.toNat) (10 ^ (-ex).toNat)) + 2147483648 : Nat) : Int), .int .i64 0]) ∧ Below w.heap.size w w' := by
  have NS := Nums.of h
  have hne : t.size ≠ 0 := fun e => h.1 (bys_nil.2 e)
  have MY := hide (fun W => may0_yes true t ex W (fun e => hne e.1) h)
  have FR := hide (fun W => frac32_any true t ex W h)
  obtain ⟨o, ho⟩ : ∃ o, o = decV (bys t) * 10 ^ ex.toNat := ⟨_, rfl⟩
  obtain ⟨u, hu⟩ : ∃ u, u = 10 ^ (-ex).toNat := ⟨_, rfl⟩
  rw [← ho, ← hu] at NS FR ⊢
  have NR := hide (fun oo lo co ou lu cu W a1 a2 => near32_any oo ou lo co lu cu o u W a1 a2 NS.fo NS.fu NS.o0 NS.u0)
  obtain ⟨r, hr⟩ : ∃ r, r = bitsOf 23 149 (infN 23 8) o u := ⟨_, rfl⟩
  have hrl : r ≤ 2139095040 := by rw [hr, ← inf32]; exact bitsOf_le _ _ _ _ _
  rw [← hr] at NR ⊢
  have OR : Hid (bits .or .u64 (r : Int) 2147483648 = ((r + 2147483648 : Nat) : Int)) := or_top (k := 31) 2147483648 (by decide) (by omega) (by omega)
  have SGN := hide (fun W => nsign32 W)
  have ht := toList_ne hne
  clear h NS hne ho hu hr
  have BLW := hide ((Blk.new w #[.int .i64 23, .int .i64 8, .int .i64 (-149)] 60).alloc (.cells #[.int .i64 0, .bool true, .string t, .int .i64 ex] 25))
  have BLD := hide (Blk.newAt (w.alloc (.cells #[.int .i64 23, .int .i64 8, .int .i64 (-149)] 60)) (w.heap.size + 1) (by simp) #[.int .i64 0, .bool true, .string t, .int .i64 ex] 25)
  have HB0 : Hid (Below w.heap.size w ((w.alloc (.cells #[.int .i64 23, .int .i64 8, .int .i64 (-149)] 60)).alloc (.cells #[.int .i64 0, .bool true, .string t, .int .i64 ex] 25))) := ((Below.refl _ _).alloc (Nat.le_refl _) _).alloc (by simp) _
  go_enter Tryz.func38, Tryz.ntmps38
  go_wp2_with fail
  refine (MY.out _).mono ?_
  rintro e w1 ⟨rfl, hb⟩
  have BW1 := hide (BLW.out.below hb BLW.out.lt)
  have BD1 := hide (BLD.out.below hb BLD.out.lt)
  have HB1 := hide (HB0.out.trans (hb.mono HB0.out.size))
  clear hb BLW BLD HB0
  have x0 : w1.cell? ⟨w.heap.size, 0, none⟩ = some (.int .i64 23) := BW1.out.cell 0
  have x1 : w1.cell? ⟨w.heap.size, 1, none⟩ = some (.int .i64 8) := BW1.out.cell 1
  have x2 : w1.cell? ⟨w.heap.size, 2, none⟩ = some (.int .i64 (-149)) := BW1.out.cell 2
  have y0 : w1.cell? ⟨w.heap.size + 1, 0, none⟩ = some (.int .i64 0) := BD1.out.cell 0
  have y1 : w1.cell? ⟨w.heap.size + 1, 1, none⟩ = some (.bool true) := BD1.out.cell 1
  have y2 : w1.cell? ⟨w.heap.size + 1, 2, none⟩ = some (.string t) := BD1.out.cell 2
  have y3 : w1.cell? ⟨w.heap.size + 1, 3, none⟩ = some (.int .i64 ex) := BD1.out.cell 3
  go_wp2_with fail
  refine (FR.out _).mono ?_
  rintro e w2 ⟨oo, lo, co, ou, lu, cu, rfl, no, nu, hb⟩
  have BW2 := hide (BW1.out.below hb BW1.out.lt)
  have BD2 := hide (BD1.out.below hb BD1.out.lt)
  have HB2 := hide (HB1.out.trans (hb.mono HB1.out.size))
  have NO := hide no
  have NU := hide nu
  clear no nu
  clear hb BW1 BD1 HB1 x0 x1 x2 y0 y1 y2 y3
  have x0 : w2.cell? ⟨w.heap.size, 0, none⟩ = some (.int .i64 23) := BW2.out.cell 0
  have x1 : w2.cell? ⟨w.heap.size, 1, none⟩ = some (.int .i64 8) := BW2.out.cell 1
  have x2 : w2.cell? ⟨w.heap.size, 2, none⟩ = some (.int .i64 (-149)) := BW2.out.cell 2
  have y0 : w2.cell? ⟨w.heap.size + 1, 0, none⟩ = some (.int .i64 0) := BD2.out.cell 0
  have y1 : w2.cell? ⟨w.heap.size + 1, 1, none⟩ = some (.bool true) := BD2.out.cell 1
  have y2 : w2.cell? ⟨w.heap.size + 1, 2, none⟩ = some (.string t) := BD2.out.cell 2
  have y3 : w2.cell? ⟨w.heap.size + 1, 3, none⟩ = some (.int .i64 ex) := BD2.out.cell 3
  go_wp2_with fail
  refine (NR.out _ _ _ _ _ _ _ NO.out NU.out).mono ?_
  rintro e w3 ⟨rfl, hb⟩
  have BW3 := hide (BW2.out.below hb BW2.out.lt)
  have BD3 := hide (BD2.out.below hb BD2.out.lt)
  have HB3 := hide (HB2.out.trans (hb.mono HB2.out.size))
  clear hb BW2 BD2 HB2 x0 x1 x2 y0 y1 y2 y3
  have x0 : w3.cell? ⟨w.heap.size, 0, none⟩ = some (.int .i64 23) := BW3.out.cell 0
  have x1 : w3.cell? ⟨w.heap.size, 1, none⟩ = some (.int .i64 8) := BW3.out.cell 1
  have x2 : w3.cell? ⟨w.heap.size, 2, none⟩ = some (.int .i64 (-149)) := BW3.out.cell 2
  have y0 : w3.cell? ⟨w.heap.size + 1, 0, none⟩ = some (.int .i64 0) := BD3.out.cell 0
  have y1 : w3.cell? ⟨w.heap.size + 1, 1, none⟩ = some (.bool true) := BD3.out.cell 1
  have y2 : w3.cell? ⟨w.heap.size + 1, 2, none⟩ = some (.string t) := BD3.out.cell 2
  have y3 : w3.cell? ⟨w.heap.size + 1, 3, none⟩ = some (.int .i64 ex) := BD3.out.cell 3
  go_wp2_with fail
  refine (SGN.out _).mono ?_
  rintro e w4 ⟨rfl, hb⟩
  have BW4 := hide (BW3.out.below hb BW3.out.lt)
  have BD4 := hide (BD3.out.below hb BD3.out.lt)
  have HB4 := hide (HB3.out.trans (hb.mono HB3.out.size))
  clear hb BW3 BD3 HB3 x0 x1 x2 y0 y1 y2 y3
  have x0 : w4.cell? ⟨w.heap.size, 0, none⟩ = some (.int .i64 23) := BW4.out.cell 0
  have x1 : w4.cell? ⟨w.heap.size, 1, none⟩ = some (.int .i64 8) := BW4.out.cell 1
  have x2 : w4.cell? ⟨w.heap.size, 2, none⟩ = some (.int .i64 (-149)) := BW4.out.cell 2
  have y0 : w4.cell? ⟨w.heap.size + 1, 0, none⟩ = some (.int .i64 0) := BD4.out.cell 0
  have y1 : w4.cell? ⟨w.heap.size + 1, 1, none⟩ = some (.bool true) := BD4.out.cell 1
  have y2 : w4.cell? ⟨w.heap.size + 1, 2, none⟩ = some (.string t) := BD4.out.cell 2
  have y3 : w4.cell? ⟨w.heap.size + 1, 3, none⟩ = some (.int .i64 ex) := BD4.out.cell 3
  go_wp2
  go_ret2
  refine ⟨?_, HB4.out⟩
  rw [← OR.out]
  rfl

theorem sig32_f : sigN 23 8 false = 0 := rfl
theorem sig32_t : sigN 23 8 true = 2147483648 := by decide

/-- A Dec that may be: its float's bits. -/
theorem float32_yes (c : Int) (neg : Bool) (t : ByteArray) (ex : Int) (w : World) (h : MayD c neg (bys t) ex) : Calls Tryz.prog 38 #[w32, dcV c neg t ex] w fun e w' => e = .returned (.tuple #[.int .u64 ((toD 23 8 149 ⟨c.toNat, neg, bys t, ex⟩ : Nat) : Int), .int .i64 0]) ∧ Below w.heap.size w w' := by
  have h' := h
  rcases h with ⟨rfl, _⟩ | ⟨rfl, h1, rfl⟩ | ⟨rfl, rfl, h1, rfl⟩
  · rcases (mayD_0 neg t ex).1 h' with h1 | h1
    · obtain ⟨h1, rfl⟩ := h1
      rw [size_nil h1]
      have hd : toD 23 8 149 ⟨(0 : Int).toNat, neg, bys ⟨#[]⟩, 0⟩ = sigN 23 8 neg := by
        unfold toD
        rw [if_neg (by simp), if_neg (by simp), if_pos (by simp [bys])]
      rw [hd]
      cases neg with
      | false =>
        rw [sig32_f]
        exact float32_zero_false w
      | true =>
        rw [sig32_t]
        exact float32_zero_true w
    · have hd : toD 23 8 149 ⟨(0 : Int).toNat, neg, bys t, ex⟩ = bitsOf 23 149 (infN 23 8) (decV (bys t) * 10 ^ ex.toNat) (10 ^ (-ex).toNat) + sigN 23 8 neg := by
        unfold toD
        rw [if_neg (by simp), if_neg (by simp), if_neg h1.1]
        rfl
      rw [hd]
      cases neg with
      | false =>
        rw [sig32_f, Nat.add_zero]
        exact float32_fin_false t ex w h1
      | true =>
        rw [sig32_t]
        exact float32_fin_true t ex w h1
  · rw [size_nil (bys_nil.1 h1)]
    have hd : toD 23 8 149 ⟨(1 : Int).toNat, neg, bys ⟨#[]⟩, 0⟩ = infN 23 8 + sigN 23 8 neg := by
      unfold toD
      rw [if_neg (by simp), if_pos (by simp)]
    rw [hd, inf32]
    cases neg with
    | false =>
      rw [sig32_f, Nat.add_zero]
      exact float32_inf_false w
    | true =>
      rw [sig32_t, show 2139095040 + 2147483648 = 4286578688 by decide]
      exact float32_inf_true w
  · rw [size_nil (bys_nil.1 h1)]
    have hd : toD 23 8 149 ⟨(2 : Int).toNat, false, bys ⟨#[]⟩, 0⟩ = 2143289345 := by
      unfold toD
      rw [if_pos (by simp), inf32]
    rw [hd]
    exact float32_nan w

set_option maxRecDepth 100000 in
set_option maxHeartbeats 1000000 in
theorem to32_of (c : Int) (neg : Bool) (t : ByteArray) (ex : Int) (r : Nat) (er : Int) (w : World) (hr : (r : Int) < 4294967296)
    (FL : ∀ W, Calls Tryz.prog 38 #[w32, dcV c neg t ex] W fun e w' => e = .returned (.tuple #[.int .u64 (r : Int), .int .i64 er]) ∧ Below W.heap.size W w') :
    Calls Tryz.prog 20 #[dcV c neg t ex] w fun e w' => e = .returned (.tuple #[.int .u32 (r : Int), .int .i64 er]) ∧ Below w.heap.size w w' := by
  have FLH := hide FL
  have blk := Blk.new w #[.int .i64 c, .bool neg, .string t, .int .i64 ex] 25
  obtain ⟨W, hW⟩ : ∃ W, W = w.alloc (.cells #[.int .i64 c, .bool neg, .string t, .int .i64 ex] 25) := ⟨_, rfl⟩
  rw [← hW] at blk
  have HBW : Hid (Below w.heap.size w W) := by rw [hW]; exact (Below.refl _ _).alloc (Nat.le_refl _) _
  have BLK := hide blk
  have HW := hide hW
  have c0 : W.cell? ⟨w.heap.size, 0, none⟩ = some (.int .i64 c) := blk.cell 0
  have c1 : W.cell? ⟨w.heap.size, 1, none⟩ = some (.bool neg) := blk.cell 1
  have c2 : W.cell? ⟨w.heap.size, 2, none⟩ = some (.string t) := blk.cell 2
  have c3 : W.cell? ⟨w.heap.size, 3, none⟩ = some (.int .i64 ex) := blk.cell 3
  have b0 : Hid (Below W.heap.size W W.drew) := bdrew' W
  have C1 : Hid (Calls Tryz.prog 43 #[] W.drew fun e w' => e = .returned w32 ∧ Hid (Below W.heap.size W w') ∧ w'.cell? ⟨w.heap.size, 0, none⟩ = some (.int .i64 c) ∧ w'.cell? ⟨w.heap.size, 1, none⟩ = some (.bool neg) ∧ w'.cell? ⟨w.heap.size, 2, none⟩ = some (.string t) ∧ w'.cell? ⟨w.heap.size, 3, none⟩ = some (.int .i64 ex)) := by
    refine (nbinary32_any W.drew).mono ?_
    rintro e w' ⟨rfl, hb⟩
    have hbb := b0.out.trans (hb.mono b0.out.size)
    have q := BLK.out.below hbb BLK.out.lt
    exact ⟨rfl, hbb, q.cell 0, q.cell 1, q.cell 2, q.cell 3⟩
  have C2 : Hid (∀ w1, Hid (Below W.heap.size W w1) → Calls Tryz.prog 38 #[w32, .agg #[.int .i64 c, .bool neg, .string t, .int .i64 ex]] w1 fun e w' => e = .returned (.tuple #[.int .u64 (r : Int), .int .i64 er]) ∧ Hid (Below W.heap.size W w') ∧ w'.cell? ⟨w.heap.size, 0, none⟩ = some (.int .i64 c) ∧ w'.cell? ⟨w.heap.size, 1, none⟩ = some (.bool neg) ∧ w'.cell? ⟨w.heap.size, 2, none⟩ = some (.string t) ∧ w'.cell? ⟨w.heap.size, 3, none⟩ = some (.int .i64 ex)) := by
    intro w1 h1
    refine (FLH.out w1).mono ?_
    rintro e w' ⟨rfl, hb⟩
    have hbb := h1.out.trans (hb.mono h1.out.size)
    have q := BLK.out.below hbb BLK.out.lt
    exact ⟨rfl, hbb, q.cell 0, q.cell 1, q.cell 2, q.cell 3⟩
  clear FL blk hW FLH
  go_enter Tryz.func20, Tryz.ntmps20
  go_wp2_with fail
  simp only [← HW.out]
  have mk0 : True := trivial
  go_region_held3 (fun w' => w'.cell? ⟨w.heap.size, 0, none⟩ = some (.int .i64 c) ∧ w'.cell? ⟨w.heap.size, 1, none⟩ = some (.bool neg) ∧ w'.cell? ⟨w.heap.size, 2, none⟩ = some (.string t) ∧ w'.cell? ⟨w.heap.size, 3, none⟩ = some (.int .i64 ex)) (go_keep) (first
    | (clear mk0; go_at_call 43; refine C1.out.mono ?_; rintro e w1 ⟨rfl, b1, k0, k1, k2, k3⟩; have mk1 : True := trivial)
    | (clear mk1; go_at_call 38; refine (C2.out _ b1).mono ?_; rintro e w2 ⟨rfl, b2, m0, m1, m2, m3⟩; have mk2 : True := trivial))
  all_goals (
    have FIN := hide (HBW.out.trans (b2.out.mono HBW.out.size))
    clear b1 b2 C1 C2
    go_wp2
    go_ret2
    exact ⟨rfl, FIN.out⟩)

theorem to32_no (c : Int) (neg : Bool) (t : ByteArray) (ex : Int) (w : World) (h : ¬ MayD c neg (bys t) ex) : Calls Tryz.prog 20 #[dcV c neg t ex] w fun e w' => e = .returned (.tuple #[.int .u32 0, .int .i64 40]) ∧ Below w.heap.size w w' :=
  to32_of c neg t ex 0 40 w (by omega) (fun W => float32_no c neg t ex W h)

theorem toD_lt32 (d : DecT) : toD 23 8 149 d < 4294967296 := by
  have h1 := bitsOf_le 23 149 (infN 23 8) (dOver d) (dUnder d)
  have h2 : sigN 23 8 d.neg ≤ 2147483648 := by unfold sigN; split <;> decide
  unfold toD
  rw [inf32] at *
  split
  · decide
  · split
    · omega
    · split <;> omega

theorem to32_yes (c : Int) (neg : Bool) (t : ByteArray) (ex : Int) (w : World) (h : MayD c neg (bys t) ex) : Calls Tryz.prog 20 #[dcV c neg t ex] w fun e w' => e = .returned (.tuple #[.int .u32 ((toD 23 8 149 ⟨c.toNat, neg, bys t, ex⟩ : Nat) : Int), .int .i64 0]) ∧ Below w.heap.size w w' :=
  to32_of c neg t ex _ 0 w (by have := toD_lt32 ⟨c.toNat, neg, bys t, ex⟩; omega) (fun W => float32_yes c neg t ex W h)

end Go.Proofs.YtpiloigpncbccabGreatDoor
