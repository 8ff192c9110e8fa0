/-
  quipulaw06's away: the amount of a difference.
  The walk of RoundSigns.
  RoundSigns: what the calls answer of a number and of the one with the other sign.
  Plain mathematics, and what follows for dec's Add, Mul, Cmp and Neg of any two Decs: sums and products are worth what they say.
-/
import Derived.Test.YtcclbcnmkaobpaaGreatDoorZB6
import Derived.Test.YtcclbcnmkaobpaaGreatDoorZB24
import Derived.Test.YtcclbcnmkaobpaaGreatDoorZB20
import Derived.Test.YtcclbcnmkaobpaaGreatDoorZB9
import Derived.Test.YtcclbcnmkaobpaaGreatDoorZB11
namespace Go.Proofs.YtcclbcnmkaobpaaGreatDoor
open Go.RowKit

set_option maxHeartbeats 2000000 in
theorem away_f_yes (ca : Int) (na : Bool) (ta : ByteArray) (ea : Int) (cb : Int) (nb : Bool) (tb : ByteArray) (eb : Int) (cn : Int) (nn : Bool) (tn : ByteArray) (en : Int) (cs : Int) (ts : ByteArray) (es : Int) (k : Int) (w : World) (htab : Tab w) (g0 : ∀ W, Calls Tryz.prog 22 #[dcV cb nb tb eb] W fun e w' => e = .returned (.tuple #[.agg #[.int .i64 cn, .bool nn, .string tn, .int .i64 en], .int .i64 k]) ∧ Below W.heap.size W w') (g1 : ∀ W, Tab W → Calls Tryz.prog 19 #[dcV ca na ta ea, .agg #[.int .i64 cn, .bool nn, .string tn, .int .i64 en]] W fun e w' => e = .returned (.tuple #[.agg #[.int .i64 cs, .bool false, .string ts, .int .i64 es], .int .i64 0]) ∧ Below W.heap.size W w') : Calls Tryz.prog 18 #[dcV ca na ta ea, dcV cb nb tb eb] w fun e w' => e = .returned (.tuple #[.agg #[.int .i64 cs, .bool false, .string ts, .int .i64 es], .bool true]) ∧ Below w.heap.size w w' := by
  have H0 := hide g0
  have H1 := hide g1
  have HT := hide htab
  clear htab g0 g1
  have Ba0 := hide (((Blk.newAt w (w.heap.size) (rfl) #[.int .i64 ca, .bool na, .string ta, .int .i64 ea] 23).alloc (.cells #[.int .i64 cb, .bool nb, .string tb, .int .i64 eb] 23)).alloc (.cells #[.int .i64 0, .bool false, .string ⟨#[]⟩, .int .i64 0] 23))
  have Bb0 := hide ((Blk.newAt (w.alloc (.cells #[.int .i64 ca, .bool na, .string ta, .int .i64 ea] 23)) (w.heap.size + 1) (by simp) #[.int .i64 cb, .bool nb, .string tb, .int .i64 eb] 23).alloc (.cells #[.int .i64 0, .bool false, .string ⟨#[]⟩, .int .i64 0] 23))
  have Br0 := hide (Blk.newAt ((w.alloc (.cells #[.int .i64 ca, .bool na, .string ta, .int .i64 ea] 23)).alloc (.cells #[.int .i64 cb, .bool nb, .string tb, .int .i64 eb] 23)) (w.heap.size + 1 + 1) (by simp) #[.int .i64 0, .bool false, .string ⟨#[]⟩, .int .i64 0] 23)
  have HB0 : Hid (Below w.heap.size w (((w.alloc (.cells #[.int .i64 ca, .bool na, .string ta, .int .i64 ea] 23)).alloc (.cells #[.int .i64 cb, .bool nb, .string tb, .int .i64 eb] 23)).alloc (.cells #[.int .i64 0, .bool false, .string ⟨#[]⟩, .int .i64 0] 23))) := ((((Below.refl _ _).alloc (Nat.le_refl _) _).alloc (by simp <;> omega) _).alloc (by simp <;> omega) _)
  go_enter Tryz.func18, Tryz.ntmps18
  go_wp2_with fail
  refine (H0.out _).mono ?_
  rintro e w1 ⟨rfl, hb⟩
  have Ba1 := Blk.on Ba0 hb
  have Bb1 := Blk.on Bb0 hb
  have Br1 := Blk.on Br0 hb
  have HB1 := hide (HB0.out.trans (hb.mono HB0.out.size))
  clear hb Ba0 Bb0 Br0 HB0 
  obtain ⟨ya0, ya1, ya2, ya3⟩ := Ba1.out.four
  obtain ⟨yb0, yb1, yb2, yb3⟩ := Bb1.out.four
  obtain ⟨yr0, yr1, yr2, yr3⟩ := Br1.out.four
  have Ba2 := Blk.up Ba1 (.cells #[.int .i64 cn, .bool nn, .string tn, .int .i64 en] 23)
  have Bb2 := Blk.up Bb1 (.cells #[.int .i64 cn, .bool nn, .string tn, .int .i64 en] 23)
  have Br2 := Blk.up Br1 (.cells #[.int .i64 cn, .bool nn, .string tn, .int .i64 en] 23)
  have Bn2 := hide ((Blk.newAt w1 (w1.heap.size) (rfl) #[.int .i64 cn, .bool nn, .string tn, .int .i64 en] 23))
  have HB2 : Hid (Below w.heap.size w (w1.alloc (.cells #[.int .i64 cn, .bool nn, .string tn, .int .i64 en] 23))) := (HB1.out.alloc HB1.out.size _)
  clear Ba1 Bb1 Br1 HB1 ya0 ya1 ya2 ya3 yb0 yb1 yb2 yb3 yr0 yr1 yr2 yr3
  obtain ⟨ya0, ya1, ya2, ya3⟩ := Ba2.out.four
  obtain ⟨yb0, yb1, yb2, yb3⟩ := Bb2.out.four
  obtain ⟨yr0, yr1, yr2, yr3⟩ := Br2.out.four
  obtain ⟨yn0, yn1, yn2, yn3⟩ := Bn2.out.four
  go_wp2_with fail
  refine (H1.out _ (HT.out.below HB2.out)).mono ?_
  rintro e w3 ⟨rfl, hb⟩
  have Ba3 := Blk.on Ba2 hb
  have Bb3 := Blk.on Bb2 hb
  have Br3 := Blk.on Br2 hb
  have Bn3 := Blk.on Bn2 hb
  have HB3 := hide (HB2.out.trans (hb.mono HB2.out.size))
  clear hb Ba2 Bb2 Br2 Bn2 HB2 ya0 ya1 ya2 ya3 yb0 yb1 yb2 yb3 yr0 yr1 yr2 yr3 yn0 yn1 yn2 yn3
  obtain ⟨ya0, ya1, ya2, ya3⟩ := Ba3.out.four
  obtain ⟨yb0, yb1, yb2, yb3⟩ := Bb3.out.four
  obtain ⟨yr0, yr1, yr2, yr3⟩ := Br3.out.four
  obtain ⟨yn0, yn1, yn2, yn3⟩ := Bn3.out.four
  have ns1 : ¬ w3.heap.size = w.heap.size + 1 + 1 := by have := Br3.out.lt; omega
  have ns2 : ¬ w.heap.size + 1 + 1 = w3.heap.size := by have := Br3.out.lt; omega
  have nle : w.heap.size ≤ w3.heap.size := by have := Br3.out.lt; omega
  have Ba4 := Blk.up Ba3 (.cells #[.int .i64 cs, .bool false, .string ts, .int .i64 es] 23)
  have Bb4 := Blk.up Bb3 (.cells #[.int .i64 cs, .bool false, .string ts, .int .i64 es] 23)
  have Br4 := Blk.up Br3 (.cells #[.int .i64 cs, .bool false, .string ts, .int .i64 es] 23)
  have Bn4 := Blk.up Bn3 (.cells #[.int .i64 cs, .bool false, .string ts, .int .i64 es] 23)
  have Bs4 := hide ((Blk.newAt w3 (w3.heap.size) (rfl) #[.int .i64 cs, .bool false, .string ts, .int .i64 es] 23))
  have HB4 : Hid (Below w.heap.size w (w3.alloc (.cells #[.int .i64 cs, .bool false, .string ts, .int .i64 es] 23))) := (HB3.out.alloc HB3.out.size _)
  clear Ba3 Bb3 Br3 Bn3 HB3 ya0 ya1 ya2 ya3 yb0 yb1 yb2 yb3 yr0 yr1 yr2 yr3 yn0 yn1 yn2 yn3
  obtain ⟨ya0, ya1, ya2, ya3⟩ := Ba4.out.four
  obtain ⟨yb0, yb1, yb2, yb3⟩ := Bb4.out.four
  obtain ⟨yr0, yr1, yr2, yr3⟩ := Br4.out.four
  obtain ⟨yn0, yn1, yn2, yn3⟩ := Bn4.out.four
  obtain ⟨ys0, ys1, ys2, ys3⟩ := Bs4.out.four
  have fr0 := Br4.out.free 0
  have fr1 := Br4.out.free 1
  have fr2 := Br4.out.free 2
  have fr3 := Br4.out.free 3
  go_wp2
  refine bodyPost_ret (results_dec2 rfl _ _ _ _ _ _ _ rfl (Br4.out.put4 _ _ _ _)) rfl ?_
  exact ⟨rfl, below_put4 (HB4.out) (by omega) _ _ _ _⟩

set_option maxHeartbeats 2000000 in
theorem away_f_no (ca : Int) (na : Bool) (ta : ByteArray) (ea : Int) (cb : Int) (nb : Bool) (tb : ByteArray) (eb : Int) (cn : Int) (nn : Bool) (tn : ByteArray) (en : Int) (cs : Int) (ts : ByteArray) (es : Int) (er : Int) (k : Int) (w : World) (htab : Tab w) (he : ¬ er = 0) (g0 : ∀ W, Calls Tryz.prog 22 #[dcV cb nb tb eb] W fun e w' => e = .returned (.tuple #[.agg #[.int .i64 cn, .bool nn, .string tn, .int .i64 en], .int .i64 k]) ∧ Below W.heap.size W w') (g1 : ∀ W, Tab W → Calls Tryz.prog 19 #[dcV ca na ta ea, .agg #[.int .i64 cn, .bool nn, .string tn, .int .i64 en]] W fun e w' => e = .returned (.tuple #[.agg #[.int .i64 cs, .bool false, .string ts, .int .i64 es], .int .i64 er]) ∧ Below W.heap.size W w') : Calls Tryz.prog 18 #[dcV ca na ta ea, dcV cb nb tb eb] w fun e w' => e = .returned (.tuple #[.agg #[.int .i64 cs, .bool false, .string ts, .int .i64 es], .bool false]) ∧ Below w.heap.size w w' := by
  have H0 := hide g0
  have H1 := hide g1
  have q0 : (er == 0) = false := by simpa using he
  clear he
  have HT := hide htab
  clear htab g0 g1
  have Ba0 := hide (((Blk.newAt w (w.heap.size) (rfl) #[.int .i64 ca, .bool na, .string ta, .int .i64 ea] 23).alloc (.cells #[.int .i64 cb, .bool nb, .string tb, .int .i64 eb] 23)).alloc (.cells #[.int .i64 0, .bool false, .string ⟨#[]⟩, .int .i64 0] 23))
  have Bb0 := hide ((Blk.newAt (w.alloc (.cells #[.int .i64 ca, .bool na, .string ta, .int .i64 ea] 23)) (w.heap.size + 1) (by simp) #[.int .i64 cb, .bool nb, .string tb, .int .i64 eb] 23).alloc (.cells #[.int .i64 0, .bool false, .string ⟨#[]⟩, .int .i64 0] 23))
  have Br0 := hide (Blk.newAt ((w.alloc (.cells #[.int .i64 ca, .bool na, .string ta, .int .i64 ea] 23)).alloc (.cells #[.int .i64 cb, .bool nb, .string tb, .int .i64 eb] 23)) (w.heap.size + 1 + 1) (by simp) #[.int .i64 0, .bool false, .string ⟨#[]⟩, .int .i64 0] 23)
  have HB0 : Hid (Below w.heap.size w (((w.alloc (.cells #[.int .i64 ca, .bool na, .string ta, .int .i64 ea] 23)).alloc (.cells #[.int .i64 cb, .bool nb, .string tb, .int .i64 eb] 23)).alloc (.cells #[.int .i64 0, .bool false, .string ⟨#[]⟩, .int .i64 0] 23))) := ((((Below.refl _ _).alloc (Nat.le_refl _) _).alloc (by simp <;> omega) _).alloc (by simp <;> omega) _)
  go_enter Tryz.func18, Tryz.ntmps18
  go_wp2_with fail
  refine (H0.out _).mono ?_
  rintro e w1 ⟨rfl, hb⟩
  have Ba1 := Blk.on Ba0 hb
  have Bb1 := Blk.on Bb0 hb
  have Br1 := Blk.on Br0 hb
  have HB1 := hide (HB0.out.trans (hb.mono HB0.out.size))
  clear hb Ba0 Bb0 Br0 HB0 
  obtain ⟨ya0, ya1, ya2, ya3⟩ := Ba1.out.four
  obtain ⟨yb0, yb1, yb2, yb3⟩ := Bb1.out.four
  obtain ⟨yr0, yr1, yr2, yr3⟩ := Br1.out.four
  have Ba2 := Blk.up Ba1 (.cells #[.int .i64 cn, .bool nn, .string tn, .int .i64 en] 23)
  have Bb2 := Blk.up Bb1 (.cells #[.int .i64 cn, .bool nn, .string tn, .int .i64 en] 23)
  have Br2 := Blk.up Br1 (.cells #[.int .i64 cn, .bool nn, .string tn, .int .i64 en] 23)
  have Bn2 := hide ((Blk.newAt w1 (w1.heap.size) (rfl) #[.int .i64 cn, .bool nn, .string tn, .int .i64 en] 23))
  have HB2 : Hid (Below w.heap.size w (w1.alloc (.cells #[.int .i64 cn, .bool nn, .string tn, .int .i64 en] 23))) := (HB1.out.alloc HB1.out.size _)
  clear Ba1 Bb1 Br1 HB1 ya0 ya1 ya2 ya3 yb0 yb1 yb2 yb3 yr0 yr1 yr2 yr3
  obtain ⟨ya0, ya1, ya2, ya3⟩ := Ba2.out.four
  obtain ⟨yb0, yb1, yb2, yb3⟩ := Bb2.out.four
  obtain ⟨yr0, yr1, yr2, yr3⟩ := Br2.out.four
  obtain ⟨yn0, yn1, yn2, yn3⟩ := Bn2.out.four
  go_wp2_with fail
  refine (H1.out _ (HT.out.below HB2.out)).mono ?_
  rintro e w3 ⟨rfl, hb⟩
  have Ba3 := Blk.on Ba2 hb
  have Bb3 := Blk.on Bb2 hb
  have Br3 := Blk.on Br2 hb
  have Bn3 := Blk.on Bn2 hb
  have HB3 := hide (HB2.out.trans (hb.mono HB2.out.size))
  clear hb Ba2 Bb2 Br2 Bn2 HB2 ya0 ya1 ya2 ya3 yb0 yb1 yb2 yb3 yr0 yr1 yr2 yr3 yn0 yn1 yn2 yn3
  obtain ⟨ya0, ya1, ya2, ya3⟩ := Ba3.out.four
  obtain ⟨yb0, yb1, yb2, yb3⟩ := Bb3.out.four
  obtain ⟨yr0, yr1, yr2, yr3⟩ := Br3.out.four
  obtain ⟨yn0, yn1, yn2, yn3⟩ := Bn3.out.four
  have ns1 : ¬ w3.heap.size = w.heap.size + 1 + 1 := by have := Br3.out.lt; omega
  have ns2 : ¬ w.heap.size + 1 + 1 = w3.heap.size := by have := Br3.out.lt; omega
  have nle : w.heap.size ≤ w3.heap.size := by have := Br3.out.lt; omega
  have Ba4 := Blk.up Ba3 (.cells #[.int .i64 cs, .bool false, .string ts, .int .i64 es] 23)
  have Bb4 := Blk.up Bb3 (.cells #[.int .i64 cs, .bool false, .string ts, .int .i64 es] 23)
  have Br4 := Blk.up Br3 (.cells #[.int .i64 cs, .bool false, .string ts, .int .i64 es] 23)
  have Bn4 := Blk.up Bn3 (.cells #[.int .i64 cs, .bool false, .string ts, .int .i64 es] 23)
  have Bs4 := hide ((Blk.newAt w3 (w3.heap.size) (rfl) #[.int .i64 cs, .bool false, .string ts, .int .i64 es] 23))
  have HB4 : Hid (Below w.heap.size w (w3.alloc (.cells #[.int .i64 cs, .bool false, .string ts, .int .i64 es] 23))) := (HB3.out.alloc HB3.out.size _)
  clear Ba3 Bb3 Br3 Bn3 HB3 ya0 ya1 ya2 ya3 yb0 yb1 yb2 yb3 yr0 yr1 yr2 yr3 yn0 yn1 yn2 yn3
  obtain ⟨ya0, ya1, ya2, ya3⟩ := Ba4.out.four
  obtain ⟨yb0, yb1, yb2, yb3⟩ := Bb4.out.four
  obtain ⟨yr0, yr1, yr2, yr3⟩ := Br4.out.four
  obtain ⟨yn0, yn1, yn2, yn3⟩ := Bn4.out.four
  obtain ⟨ys0, ys1, ys2, ys3⟩ := Bs4.out.four
  have fr0 := Br4.out.free 0
  have fr1 := Br4.out.free 1
  have fr2 := Br4.out.free 2
  have fr3 := Br4.out.free 3
  go_wp2
  refine bodyPost_ret (results_dec2 rfl _ _ _ _ _ _ _ rfl (Br4.out.put4 _ _ _ _)) rfl ?_
  exact ⟨rfl, below_put4 (HB4.out) (by omega) _ _ _ _⟩

set_option maxHeartbeats 2000000 in
theorem away_t_yes (ca : Int) (na : Bool) (ta : ByteArray) (ea : Int) (cb : Int) (nb : Bool) (tb : ByteArray) (eb : Int) (cn : Int) (nn : Bool) (tn : ByteArray) (en : Int) (cs : Int) (ts : ByteArray) (es : Int) (cz : Int) (nz : Bool) (tz : ByteArray) (ez : Int) (j : Int) (k : Int) (w : World) (htab : Tab w) (g0 : ∀ W, Calls Tryz.prog 22 #[dcV cb nb tb eb] W fun e w' => e = .returned (.tuple #[.agg #[.int .i64 cn, .bool nn, .string tn, .int .i64 en], .int .i64 k]) ∧ Below W.heap.size W w') (g1 : ∀ W, Tab W → Calls Tryz.prog 19 #[dcV ca na ta ea, .agg #[.int .i64 cn, .bool nn, .string tn, .int .i64 en]] W fun e w' => e = .returned (.tuple #[.agg #[.int .i64 cs, .bool true, .string ts, .int .i64 es], .int .i64 0]) ∧ Below W.heap.size W w') (g2 : ∀ W, Calls Tryz.prog 22 #[.agg #[.int .i64 cs, .bool true, .string ts, .int .i64 es]] W fun e w' => e = .returned (.tuple #[.agg #[.int .i64 cz, .bool nz, .string tz, .int .i64 ez], .int .i64 j]) ∧ Below W.heap.size W w') : Calls Tryz.prog 18 #[dcV ca na ta ea, dcV cb nb tb eb] w fun e w' => e = .returned (.tuple #[.agg #[.int .i64 cz, .bool nz, .string tz, .int .i64 ez], .bool true]) ∧ Below w.heap.size w w' := by
  have H0 := hide g0
  have H1 := hide g1
  have H2 := hide g2
  have HT := hide htab
  clear htab g0 g1 g2
  have Ba0 := hide (((Blk.newAt w (w.heap.size) (rfl) #[.int .i64 ca, .bool na, .string ta, .int .i64 ea] 23).alloc (.cells #[.int .i64 cb, .bool nb, .string tb, .int .i64 eb] 23)).alloc (.cells #[.int .i64 0, .bool false, .string ⟨#[]⟩, .int .i64 0] 23))
  have Bb0 := hide ((Blk.newAt (w.alloc (.cells #[.int .i64 ca, .bool na, .string ta, .int .i64 ea] 23)) (w.heap.size + 1) (by simp) #[.int .i64 cb, .bool nb, .string tb, .int .i64 eb] 23).alloc (.cells #[.int .i64 0, .bool false, .string ⟨#[]⟩, .int .i64 0] 23))
  have Br0 := hide (Blk.newAt ((w.alloc (.cells #[.int .i64 ca, .bool na, .string ta, .int .i64 ea] 23)).alloc (.cells #[.int .i64 cb, .bool nb, .string tb, .int .i64 eb] 23)) (w.heap.size + 1 + 1) (by simp) #[.int .i64 0, .bool false, .string ⟨#[]⟩, .int .i64 0] 23)
  have HB0 : Hid (Below w.heap.size w (((w.alloc (.cells #[.int .i64 ca, .bool na, .string ta, .int .i64 ea] 23)).alloc (.cells #[.int .i64 cb, .bool nb, .string tb, .int .i64 eb] 23)).alloc (.cells #[.int .i64 0, .bool false, .string ⟨#[]⟩, .int .i64 0] 23))) := ((((Below.refl _ _).alloc (Nat.le_refl _) _).alloc (by simp <;> omega) _).alloc (by simp <;> omega) _)
  go_enter Tryz.func18, Tryz.ntmps18
  go_wp2_with fail
  refine (H0.out _).mono ?_
  rintro e w1 ⟨rfl, hb⟩
  have Ba1 := Blk.on Ba0 hb
  have Bb1 := Blk.on Bb0 hb
  have Br1 := Blk.on Br0 hb
  have HB1 := hide (HB0.out.trans (hb.mono HB0.out.size))
  clear hb Ba0 Bb0 Br0 HB0 
  obtain ⟨ya0, ya1, ya2, ya3⟩ := Ba1.out.four
  obtain ⟨yb0, yb1, yb2, yb3⟩ := Bb1.out.four
  obtain ⟨yr0, yr1, yr2, yr3⟩ := Br1.out.four
  have Ba2 := Blk.up Ba1 (.cells #[.int .i64 cn, .bool nn, .string tn, .int .i64 en] 23)
  have Bb2 := Blk.up Bb1 (.cells #[.int .i64 cn, .bool nn, .string tn, .int .i64 en] 23)
  have Br2 := Blk.up Br1 (.cells #[.int .i64 cn, .bool nn, .string tn, .int .i64 en] 23)
  have Bn2 := hide ((Blk.newAt w1 (w1.heap.size) (rfl) #[.int .i64 cn, .bool nn, .string tn, .int .i64 en] 23))
  have HB2 : Hid (Below w.heap.size w (w1.alloc (.cells #[.int .i64 cn, .bool nn, .string tn, .int .i64 en] 23))) := (HB1.out.alloc HB1.out.size _)
  clear Ba1 Bb1 Br1 HB1 ya0 ya1 ya2 ya3 yb0 yb1 yb2 yb3 yr0 yr1 yr2 yr3
  obtain ⟨ya0, ya1, ya2, ya3⟩ := Ba2.out.four
  obtain ⟨yb0, yb1, yb2, yb3⟩ := Bb2.out.four
  obtain ⟨yr0, yr1, yr2, yr3⟩ := Br2.out.four
  obtain ⟨yn0, yn1, yn2, yn3⟩ := Bn2.out.four
  go_wp2_with fail
  refine (H1.out _ (HT.out.below HB2.out)).mono ?_
  rintro e w3 ⟨rfl, hb⟩
  have Ba3 := Blk.on Ba2 hb
  have Bb3 := Blk.on Bb2 hb
  have Br3 := Blk.on Br2 hb
  have Bn3 := Blk.on Bn2 hb
  have HB3 := hide (HB2.out.trans (hb.mono HB2.out.size))
  clear hb Ba2 Bb2 Br2 Bn2 HB2 ya0 ya1 ya2 ya3 yb0 yb1 yb2 yb3 yr0 yr1 yr2 yr3 yn0 yn1 yn2 yn3
  obtain ⟨ya0, ya1, ya2, ya3⟩ := Ba3.out.four
  obtain ⟨yb0, yb1, yb2, yb3⟩ := Bb3.out.four
  obtain ⟨yr0, yr1, yr2, yr3⟩ := Br3.out.four
  obtain ⟨yn0, yn1, yn2, yn3⟩ := Bn3.out.four
  have ns1 : ¬ w3.heap.size = w.heap.size + 1 + 1 := by have := Br3.out.lt; omega
  have ns2 : ¬ w.heap.size + 1 + 1 = w3.heap.size := by have := Br3.out.lt; omega
  have nle : w.heap.size ≤ w3.heap.size := by have := Br3.out.lt; omega
  have Ba4 := Blk.up Ba3 (.cells #[.int .i64 cs, .bool true, .string ts, .int .i64 es] 23)
  have Bb4 := Blk.up Bb3 (.cells #[.int .i64 cs, .bool true, .string ts, .int .i64 es] 23)
  have Br4 := Blk.up Br3 (.cells #[.int .i64 cs, .bool true, .string ts, .int .i64 es] 23)
  have Bn4 := Blk.up Bn3 (.cells #[.int .i64 cs, .bool true, .string ts, .int .i64 es] 23)
  have Bs4 := hide ((Blk.newAt w3 (w3.heap.size) (rfl) #[.int .i64 cs, .bool true, .string ts, .int .i64 es] 23))
  have HB4 : Hid (Below w.heap.size w (w3.alloc (.cells #[.int .i64 cs, .bool true, .string ts, .int .i64 es] 23))) := (HB3.out.alloc HB3.out.size _)
  clear Ba3 Bb3 Br3 Bn3 HB3 ya0 ya1 ya2 ya3 yb0 yb1 yb2 yb3 yr0 yr1 yr2 yr3 yn0 yn1 yn2 yn3
  obtain ⟨ya0, ya1, ya2, ya3⟩ := Ba4.out.four
  obtain ⟨yb0, yb1, yb2, yb3⟩ := Bb4.out.four
  obtain ⟨yr0, yr1, yr2, yr3⟩ := Br4.out.four
  obtain ⟨yn0, yn1, yn2, yn3⟩ := Bn4.out.four
  obtain ⟨ys0, ys1, ys2, ys3⟩ := Bs4.out.four
  go_wp2_with fail
  refine (H2.out _).mono ?_
  rintro e w5 ⟨rfl, hb⟩
  have Ba5 := Blk.on Ba4 hb
  have Bb5 := Blk.on Bb4 hb
  have Br5 := Blk.on Br4 hb
  have Bn5 := Blk.on Bn4 hb
  have Bs5 := Blk.on Bs4 hb
  have HB5 := hide (HB4.out.trans (hb.mono HB4.out.size))
  clear hb Ba4 Bb4 Br4 Bn4 Bs4 HB4 ya0 ya1 ya2 ya3 yb0 yb1 yb2 yb3 yr0 yr1 yr2 yr3 yn0 yn1 yn2 yn3 ys0 ys1 ys2 ys3
  obtain ⟨ya0, ya1, ya2, ya3⟩ := Ba5.out.four
  obtain ⟨yb0, yb1, yb2, yb3⟩ := Bb5.out.four
  obtain ⟨yr0, yr1, yr2, yr3⟩ := Br5.out.four
  obtain ⟨yn0, yn1, yn2, yn3⟩ := Bn5.out.four
  obtain ⟨ys0, ys1, ys2, ys3⟩ := Bs5.out.four
  have fs0 := Bs5.out.free 0
  have fs1 := Bs5.out.free 1
  have fs2 := Bs5.out.free 2
  have fs3 := Bs5.out.free 3
  have fr0 := Br5.out.free 0
  have fr1 := Br5.out.free 1
  have fr2 := Br5.out.free 2
  have fr3 := Br5.out.free 3
  go_wp2
  refine bodyPost_ret (results_dec2 rfl _ _ _ _ _ _ _ rfl (((((Br5.out.other (a := ⟨w3.heap.size, 0, none⟩) ns1 _).other (a := ⟨w3.heap.size, 1, none⟩) ns1 _).other (a := ⟨w3.heap.size, 2, none⟩) ns1 _).other (a := ⟨w3.heap.size, 3, none⟩) ns1 _).put4 _ _ _ _)) rfl ?_
  exact ⟨rfl, below_put4 (below_put4 HB5.out nle _ _ _ _) (by omega) _ _ _ _⟩

end Go.Proofs.YtcclbcnmkaobpaaGreatDoor

namespace Go.Proofs.YtcclbcnmkaobpaaGreatDoor
open Go.RowKit

end Go.Proofs.YtcclbcnmkaobpaaGreatDoor

namespace Go.Proofs.YtcclbcnmkaobpaaGreatDoor
open Go.RowKit

/-- The number with the other sign. -/
def flipD (d : DecT) : DecT := ⟨d.cls, !d.neg, d.dig, d.exp⟩

theorem may_flip {d : DecT} (h : d.cls ≠ 2) : May (flipD d) ↔ May d := by
  unfold May MayD flipD
  simp only
  constructor
  · rintro (g | g | ⟨g, _⟩)
    · exact .inl g
    · exact .inr (.inl g)
    · omega
  · rintro (g | g | ⟨g, _⟩)
    · exact .inl g
    · exact .inr (.inl g)
    · omega

theorem Neg_d (d : DecT) (h : May d) (hc : d.cls ≠ 2) (w : World) : Calls Tryz.prog 22 #[decVal d] w fun e w' => e = .returned (.tuple #[decVal (flipD d), .int .i64 0]) ∧ Below w.heap.size w w' :=
  Neg_yes (d.cls : Int) d.neg ⟨d.dig.toArray⟩ d.exp w (by rw [bys_mk]; exact h) (by omega)

end Go.Proofs.YtcclbcnmkaobpaaGreatDoor

namespace Go.Proofs.YtcclbcnmkaobpaaGreatDoor
open Go.RowKit

theorem tellF_may (neg : Bool) (N : Nat) (e : Int) : May (tellF neg N e).1 := by
  by_cases h : May (finD neg N e)
  · rw [tellF_yes h]; exact h
  · rw [tellF_no h]; exact may_zero false

theorem sumT_may (a b : DecT) (ha : May a) (hb : May b) : May (sumT a b).1 := by
  unfold sumT
  split
  · exact tellF_may _ _ _
  · split
    · exact .inr (.inr ⟨rfl, rfl, rfl, rfl⟩)
    · split
      · exact ha
      · split
        · exact hb
        · split
          · exact ha
          · exact .inr (.inr ⟨rfl, rfl, rfl, rfl⟩)

theorem tellF_val {neg : Bool} {N : Nat} {e : Int} (he : -9000 ≤ e) (h : (tellF neg N e).2 = 0) : vD (tellF neg N e).1 = zD neg N * ((10 ^ (e + 9000).toNat : Nat) : Int) ∧ (tellF neg N e).1.cls = 0 := by
  by_cases hm : May (finD neg N e)
  · rw [tellF_yes hm]
    exact ⟨vD_fin he, finD_cls _ _ _⟩
  · rw [tellF_no hm] at h; cases h

theorem zc_val (d : DecT) {x : Int} (h1 : -3000 ≤ x) (h2 : x ≤ d.exp) : zc d x * ((10 ^ (x + 9000).toNat : Nat) : Int) = vD d := by
  unfold zc vD amt
  show zD d.neg _ * _ = _
  rw [← zD_mul, Nat.mul_assoc, ← Nat.pow_add]
  congr 3
  omega

theorem sum_val {a b : DecT} (ha : May a) (hb : May b) (ca : a.cls = 0) (cb : b.cls = 0) (h : (sumT a b).2 = 0) : vD (sumT a b).1 = vD a + vD b ∧ (sumT a b).1.cls = 0 := by
  have fa := may_fz ha ca
  have fb := may_fz hb cb
  have x1 : -3000 ≤ min a.exp b.exp := by have := fa.lo; have := fb.lo; omega
  have va := zc_val a x1 (Int.min_le_left _ _)
  have vb := zc_val b x1 (Int.min_le_right _ _)
  unfold sumT at h ⊢
  rw [if_pos ⟨ca, cb⟩] at h ⊢
  obtain ⟨q1, q2⟩ := tellF_val (by omega) h
  refine ⟨?_, q2⟩
  rw [q1, ← va, ← vb, ← Int.add_mul]
  congr 1
  have zz : ∀ (d : DecT) (x : Int), d.neg = true → zc d x ≤ 0 := by
    intro d x hn; unfold zc zv; rw [hn]; simp only [if_true]; omega
  generalize ea : zc a (min a.exp b.exp) = A at *
  generalize eb : zc b (min a.exp b.exp) = B at *
  by_cases hneg : A + B < 0
  · rw [decide_eq_true hneg, Bool.true_or]
    simp only [zD, if_true]; omega
  · rw [decide_eq_false hneg, Bool.false_or]
    by_cases hs : (a.neg && b.neg) = true
    · have h1 : a.neg = true := by revert hs; cases a.neg <;> simp
      have h2 : b.neg = true := by revert hs; cases a.neg <;> cases b.neg <;> simp
      have p1 := zz a (min a.exp b.exp) h1
      have p2 := zz b (min a.exp b.exp) h2
      rw [ea] at p1
      rw [eb] at p2
      rw [hs]
      simp only [zD, if_true]; omega
    · have : (a.neg && b.neg) = false := by revert hs; cases (a.neg && b.neg) <;> simp
      rw [this]
      simp only [zD, Bool.false_eq_true, if_false]; omega

def nine : Nat := 9000
def e9 : Nat := 10 ^ nine
end Go.Proofs.YtcclbcnmkaobpaaGreatDoor
