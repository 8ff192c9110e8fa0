/-
  What width.Show refuses at once.
  What width.Show does with a precision of kind 0, out of what it calls.
  What width.Show does with a precision of kind 1, out of what it calls.
  What width.Show does with a precision of kind 2, out of what it calls.
  What width.Show does with a precision of kind 3, out of what it calls.
-/
import Derived.Test.YtobloamnaemfnaaGreatDoorVB10
import Derived.Test.YtobloamnaemfnaaGreatDoorVB13
import Derived.Test.YtobloamnaemfnaaGreatDoorVB12
import Derived.Test.YtobloamnaemfnaaGreatDoorVB6
import Derived.Test.YtobloamnaemfnaaGreatDoorVB5
namespace Go.Proofs.YtobloamnaemfnaaGreatDoor
open Go.RowKit

set_option maxHeartbeats 1000000 in
theorem show_no (ca : Int) (na : Bool) (ta : ByteArray) (ea k mf xf ms xs : Int) (st : Bool) (cs : Int) (ns : Bool) (ts : ByteArray) (es md : Int) (hd : Bool) (im ix : Int) (w : World) (h : ¬ MayD ca na (bys ta) ea) : Calls Tryz.prog 14 #[dcV ca na ta ea, prV k mf xf ms xs st cs ns ts es md hd im ix] w fun e w' => e = .returned (.tuple #[.agg #[.int .i64 0, .bool false, .string ⟨#[]⟩, .string ⟨#[]⟩, .int .i64 0, .bool false], .int .i64 52]) ∧ Below w.heap.size w w' := by
  have MY := hide (fun W => dmay_no ca na ta ea W h)
  clear h
  have Ba0 := hide (((Blk.newAt w (w.heap.size) (rfl) #[.int .i64 ca, .bool na, .string ta, .int .i64 ea] 23).alloc (.cells #[.int .i64 k, .int .i64 mf, .int .i64 xf, .int .i64 ms, .int .i64 xs, .bool st, .int .i64 cs, .bool ns, .string ts, .int .i64 es, .int .i64 md, .bool hd, .int .i64 im, .int .i64 ix] 30)).alloc (.cells #[.int .i64 0, .bool false, .string ⟨#[]⟩, .string ⟨#[]⟩, .int .i64 0, .bool false] 34))
  have Bp0 := hide ((Blk.newAt (w.alloc (.cells #[.int .i64 ca, .bool na, .string ta, .int .i64 ea] 23)) (w.heap.size + 1) (by simp) #[.int .i64 k, .int .i64 mf, .int .i64 xf, .int .i64 ms, .int .i64 xs, .bool st, .int .i64 cs, .bool ns, .string ts, .int .i64 es, .int .i64 md, .bool hd, .int .i64 im, .int .i64 ix] 30).alloc (.cells #[.int .i64 0, .bool false, .string ⟨#[]⟩, .string ⟨#[]⟩, .int .i64 0, .bool false] 34))
  have Bs0 := hide (Blk.newAt ((w.alloc (.cells #[.int .i64 ca, .bool na, .string ta, .int .i64 ea] 23)).alloc (.cells #[.int .i64 k, .int .i64 mf, .int .i64 xf, .int .i64 ms, .int .i64 xs, .bool st, .int .i64 cs, .bool ns, .string ts, .int .i64 es, .int .i64 md, .bool hd, .int .i64 im, .int .i64 ix] 30)) (w.heap.size + 1 + 1) (by simp) #[.int .i64 0, .bool false, .string ⟨#[]⟩, .string ⟨#[]⟩, .int .i64 0, .bool false] 34)
  have HB0 : Hid (Below w.heap.size w (((w.alloc (.cells #[.int .i64 ca, .bool na, .string ta, .int .i64 ea] 23)).alloc (.cells #[.int .i64 k, .int .i64 mf, .int .i64 xf, .int .i64 ms, .int .i64 xs, .bool st, .int .i64 cs, .bool ns, .string ts, .int .i64 es, .int .i64 md, .bool hd, .int .i64 im, .int .i64 ix] 30)).alloc (.cells #[.int .i64 0, .bool false, .string ⟨#[]⟩, .string ⟨#[]⟩, .int .i64 0, .bool false] 34))) := ((((Below.refl _ _).alloc (Nat.le_refl _) _).alloc (by simp <;> omega) _).alloc (by simp <;> omega) _)
  go_enter Tryz.func14, Tryz.ntmps14
  go_wp2_with fail
  refine (MY.out _).mono ?_
  rintro e w1 ⟨rfl, hb⟩
  have Ba1 := Blk.on Ba0 hb
  have Bp1 := Blk.on Bp0 hb
  have Bs1 := Blk.on Bs0 hb
  have HB1 := hide (HB0.out.trans (hb.mono HB0.out.size))
  clear hb Ba0 Bp0 Bs0 HB0 
  obtain ⟨ya0, ya1, ya2, ya3⟩ := Ba1.out.four
  obtain ⟨yp0, yp1, yp2, yp3, yp4, yp5, yp6, yp7, yp8, yp9, yp10, yp11, yp12, yp13⟩ := Bp1.out.fourteen
  obtain ⟨ys0, ys1, ys2, ys3, ys4, ys5⟩ := Bs1.out.six
  have fs0 := Bs1.out.free 0
  have fs1 := Bs1.out.free 1
  have fs2 := Bs1.out.free 2
  have fs3 := Bs1.out.free 3
  have fs4 := Bs1.out.free 4
  have fs5 := Bs1.out.free 5
  go_wp2
  refine bodyPost_ret (results_shn2 rfl _ _ _ _ _ _ _ _ _ rfl (Bs1.out.put6 _ _ _ _ _ _)) rfl ?_
  exact ⟨rfl, below_put6 (HB1.out) (by omega) _ _ _ _ _ _⟩

set_option maxHeartbeats 1000000 in
theorem show_bad (ca : Int) (na : Bool) (ta : ByteArray) (ea k mf xf ms xs : Int) (st : Bool) (cs : Int) (ns : Bool) (ts : ByteArray) (es md : Int) (hd : Bool) (im ix : Int) (w : World) (htab : Tab w) (h : MayD ca na (bys ta) ea) (h2 : ¬ MayP ⟨k, mf, xf, ms, xs, st, cs, ns, bys ts, es, md, hd, im, ix⟩) : Calls Tryz.prog 14 #[dcV ca na ta ea, prV k mf xf ms xs st cs ns ts es md hd im ix] w fun e w' => e = .returned (.tuple #[.agg #[.int .i64 0, .bool false, .string ⟨#[]⟩, .string ⟨#[]⟩, .int .i64 0, .bool false], .int .i64 70]) ∧ Below w.heap.size w w' := by
  have MY := hide (fun W => dmay_yes ca na ta ea W h)
  have CK := hide (fun W (hW : Tab W) => check_fP k mf xf ms xs st cs ns ts es md hd im ix W hW h2)
  have HT := hide htab
  clear h h2 htab
  have Ba0 := hide (((Blk.newAt w (w.heap.size) (rfl) #[.int .i64 ca, .bool na, .string ta, .int .i64 ea] 23).alloc (.cells #[.int .i64 k, .int .i64 mf, .int .i64 xf, .int .i64 ms, .int .i64 xs, .bool st, .int .i64 cs, .bool ns, .string ts, .int .i64 es, .int .i64 md, .bool hd, .int .i64 im, .int .i64 ix] 30)).alloc (.cells #[.int .i64 0, .bool false, .string ⟨#[]⟩, .string ⟨#[]⟩, .int .i64 0, .bool false] 34))
  have Bp0 := hide ((Blk.newAt (w.alloc (.cells #[.int .i64 ca, .bool na, .string ta, .int .i64 ea] 23)) (w.heap.size + 1) (by simp) #[.int .i64 k, .int .i64 mf, .int .i64 xf, .int .i64 ms, .int .i64 xs, .bool st, .int .i64 cs, .bool ns, .string ts, .int .i64 es, .int .i64 md, .bool hd, .int .i64 im, .int .i64 ix] 30).alloc (.cells #[.int .i64 0, .bool false, .string ⟨#[]⟩, .string ⟨#[]⟩, .int .i64 0, .bool false] 34))
  have Bs0 := hide (Blk.newAt ((w.alloc (.cells #[.int .i64 ca, .bool na, .string ta, .int .i64 ea] 23)).alloc (.cells #[.int .i64 k, .int .i64 mf, .int .i64 xf, .int .i64 ms, .int .i64 xs, .bool st, .int .i64 cs, .bool ns, .string ts, .int .i64 es, .int .i64 md, .bool hd, .int .i64 im, .int .i64 ix] 30)) (w.heap.size + 1 + 1) (by simp) #[.int .i64 0, .bool false, .string ⟨#[]⟩, .string ⟨#[]⟩, .int .i64 0, .bool false] 34)
  have HB0 : Hid (Below w.heap.size w (((w.alloc (.cells #[.int .i64 ca, .bool na, .string ta, .int .i64 ea] 23)).alloc (.cells #[.int .i64 k, .int .i64 mf, .int .i64 xf, .int .i64 ms, .int .i64 xs, .bool st, .int .i64 cs, .bool ns, .string ts, .int .i64 es, .int .i64 md, .bool hd, .int .i64 im, .int .i64 ix] 30)).alloc (.cells #[.int .i64 0, .bool false, .string ⟨#[]⟩, .string ⟨#[]⟩, .int .i64 0, .bool false] 34))) := ((((Below.refl _ _).alloc (Nat.le_refl _) _).alloc (by simp <;> omega) _).alloc (by simp <;> omega) _)
  go_enter Tryz.func14, Tryz.ntmps14
  go_wp2_with fail
  refine (MY.out _).mono ?_
  rintro e w1 ⟨rfl, hb⟩
  have Ba1 := Blk.on Ba0 hb
  have Bp1 := Blk.on Bp0 hb
  have Bs1 := Blk.on Bs0 hb
  have HB1 := hide (HB0.out.trans (hb.mono HB0.out.size))
  clear hb Ba0 Bp0 Bs0 HB0 
  obtain ⟨ya0, ya1, ya2, ya3⟩ := Ba1.out.four
  obtain ⟨yp0, yp1, yp2, yp3, yp4, yp5, yp6, yp7, yp8, yp9, yp10, yp11, yp12, yp13⟩ := Bp1.out.fourteen
  obtain ⟨ys0, ys1, ys2, ys3, ys4, ys5⟩ := Bs1.out.six
  go_wp2_with fail
  refine (CK.out _ (HT.out.below HB1.out)).mono ?_
  rintro e w2 ⟨rfl, hb⟩
  have Ba2 := Blk.on Ba1 hb
  have Bp2 := Blk.on Bp1 hb
  have Bs2 := Blk.on Bs1 hb
  have HB2 := hide (HB1.out.trans (hb.mono HB1.out.size))
  clear hb Ba1 Bp1 Bs1 HB1 ya0 ya1 ya2 ya3 yp0 yp1 yp2 yp3 yp4 yp5 yp6 yp7 yp8 yp9 yp10 yp11 yp12 yp13 ys0 ys1 ys2 ys3 ys4 ys5
  obtain ⟨ya0, ya1, ya2, ya3⟩ := Ba2.out.four
  obtain ⟨yp0, yp1, yp2, yp3, yp4, yp5, yp6, yp7, yp8, yp9, yp10, yp11, yp12, yp13⟩ := Bp2.out.fourteen
  obtain ⟨ys0, ys1, ys2, ys3, ys4, ys5⟩ := Bs2.out.six
  have fs0 := Bs2.out.free 0
  have fs1 := Bs2.out.free 1
  have fs2 := Bs2.out.free 2
  have fs3 := Bs2.out.free 3
  have fs4 := Bs2.out.free 4
  have fs5 := Bs2.out.free 5
  go_wp2
  refine bodyPost_ret (results_shn2 rfl _ _ _ _ _ _ _ _ _ rfl (Bs2.out.put6 _ _ _ _ _ _)) rfl ?_
  exact ⟨rfl, below_put6 (HB2.out) (by omega) _ _ _ _ _ _⟩

end Go.Proofs.YtobloamnaemfnaaGreatDoor

namespace Go.Proofs.YtobloamnaemfnaaGreatDoor
open Go.RowKit

end Go.Proofs.YtobloamnaemfnaaGreatDoor

namespace Go.Proofs.YtobloamnaemfnaaGreatDoor
open Go.RowKit

set_option maxRecDepth 100000 in
set_option maxHeartbeats 4000000 in
theorem show_k1 (ca : Int) (na : Bool) (ta : ByteArray) (ea mf xf ms xs : Int) (st : Bool) (cs : Int) (ns : Bool) (ts : ByteArray) (es md : Int) (hd : Bool) (im ix cx : Int) (nx : Bool) (tx : ByteArray) (ex rx n : Int) (I F : ByteArray) (V : Value) (w : World) (htab : Tab w) (h : MayD ca na (bys ta) ea) (h2 : ∀ W, Tab W → Calls Tryz.prog 12 #[prV 1 mf xf ms xs st cs ns ts es md hd im ix] W fun e w' => e = .returned (.int .i64 0) ∧ Below W.heap.size W w') (hR : ∀ W, Tab W → Calls Tryz.prog 78 #[prV 1 mf xf ms xs st cs ns ts es md hd im ix, dcV ca na ta ea] W fun e w' => e = .returned (.tuple #[.agg #[.int .i64 cx, .bool nx, .string tx, .int .i64 ex], .int .i64 rx]) ∧ Below W.heap.size W w') (hL : rx = 0 → cx = 0 → ∀ W, Calls Tryz.prog 79 #[prV 1 mf xf ms xs st cs ns ts es md hd im ix, dcV 0 nx tx ex] W fun e w' => e = .returned (.int .i64 n) ∧ Below W.heap.size W w') (hD : rx = 0 → cx = 0 → ∀ W, Calls Tryz.prog 38 #[prV 1 mf xf ms xs st cs ns ts es md hd im ix, dcV 0 nx tx ex, .int .i64 n] W fun e w' => e = .returned (.tuple #[.string I, .string F]) ∧ Below W.heap.size W w') (hV1 : rx ≠ 0 → V = .tuple #[.agg #[.int .i64 0, .bool false, .string ⟨#[]⟩, .string ⟨#[]⟩, .int .i64 0, .bool false], .int .i64 rx]) (hV2 : rx = 0 → cx ≠ 0 → V = .tuple #[.agg #[.int .i64 cx, .bool nx, .string ⟨#[]⟩, .string ⟨#[]⟩, .int .i64 0, .bool false], .int .i64 0]) (hV3 : rx = 0 → cx = 0 → V = .tuple #[.agg #[.int .i64 0, .bool nx, .string I, .string F, .int .i64 0, .bool false], .int .i64 0]) : Calls Tryz.prog 14 #[dcV ca na ta ea, prV 1 mf xf ms xs st cs ns ts es md hd im ix] w fun e w' => e = .returned (V) ∧ Below w.heap.size w w' := by
  have MY := hide (fun W => dmay_yes ca na ta ea W h)
  have CK := hide h2
  have HT := hide htab
  have HR := hide hR
  have HL := hide hL
  have HD := hide hD
  have HV1 := hide hV1
  have HV2 := hide hV2
  have HV3 := hide hV3
  clear h h2 htab hR hL hD hV1 hV2 hV3
  have Ba0 := hide (((Blk.newAt w (w.heap.size) (rfl) #[.int .i64 ca, .bool na, .string ta, .int .i64 ea] 23).alloc (.cells #[.int .i64 1, .int .i64 mf, .int .i64 xf, .int .i64 ms, .int .i64 xs, .bool st, .int .i64 cs, .bool ns, .string ts, .int .i64 es, .int .i64 md, .bool hd, .int .i64 im, .int .i64 ix] 30)).alloc (.cells #[.int .i64 0, .bool false, .string ⟨#[]⟩, .string ⟨#[]⟩, .int .i64 0, .bool false] 34))
  have Bp0 := hide ((Blk.newAt (w.alloc (.cells #[.int .i64 ca, .bool na, .string ta, .int .i64 ea] 23)) (w.heap.size + 1) (by simp) #[.int .i64 1, .int .i64 mf, .int .i64 xf, .int .i64 ms, .int .i64 xs, .bool st, .int .i64 cs, .bool ns, .string ts, .int .i64 es, .int .i64 md, .bool hd, .int .i64 im, .int .i64 ix] 30).alloc (.cells #[.int .i64 0, .bool false, .string ⟨#[]⟩, .string ⟨#[]⟩, .int .i64 0, .bool false] 34))
  have Bs0 := hide (Blk.newAt ((w.alloc (.cells #[.int .i64 ca, .bool na, .string ta, .int .i64 ea] 23)).alloc (.cells #[.int .i64 1, .int .i64 mf, .int .i64 xf, .int .i64 ms, .int .i64 xs, .bool st, .int .i64 cs, .bool ns, .string ts, .int .i64 es, .int .i64 md, .bool hd, .int .i64 im, .int .i64 ix] 30)) (w.heap.size + 1 + 1) (by simp) #[.int .i64 0, .bool false, .string ⟨#[]⟩, .string ⟨#[]⟩, .int .i64 0, .bool false] 34)
  have HB0 : Hid (Below w.heap.size w (((w.alloc (.cells #[.int .i64 ca, .bool na, .string ta, .int .i64 ea] 23)).alloc (.cells #[.int .i64 1, .int .i64 mf, .int .i64 xf, .int .i64 ms, .int .i64 xs, .bool st, .int .i64 cs, .bool ns, .string ts, .int .i64 es, .int .i64 md, .bool hd, .int .i64 im, .int .i64 ix] 30)).alloc (.cells #[.int .i64 0, .bool false, .string ⟨#[]⟩, .string ⟨#[]⟩, .int .i64 0, .bool false] 34))) := ((((Below.refl _ _).alloc (Nat.le_refl _) _).alloc (by simp <;> omega) _).alloc (by simp <;> omega) _)
  go_enter Tryz.func14, Tryz.ntmps14
  go_wp2_with fail
  refine (MY.out _).mono ?_
  rintro e w1 ⟨rfl, hb⟩
  have Ba1 := Blk.on Ba0 hb
  have Bp1 := Blk.on Bp0 hb
  have Bs1 := Blk.on Bs0 hb
  have HB1 := hide (HB0.out.trans (hb.mono HB0.out.size))
  clear hb Ba0 Bp0 Bs0 HB0 
  obtain ⟨ya0, ya1, ya2, ya3⟩ := Ba1.out.four
  obtain ⟨yp0, yp1, yp2, yp3, yp4, yp5, yp6, yp7, yp8, yp9, yp10, yp11, yp12, yp13⟩ := Bp1.out.fourteen
  obtain ⟨ys0, ys1, ys2, ys3, ys4, ys5⟩ := Bs1.out.six
  go_wp2_with fail
  refine (CK.out _ (HT.out.below HB1.out)).mono ?_
  rintro e w2 ⟨rfl, hb⟩
  have Ba2 := Blk.on Ba1 hb
  have Bp2 := Blk.on Bp1 hb
  have Bs2 := Blk.on Bs1 hb
  have HB2 := hide (HB1.out.trans (hb.mono HB1.out.size))
  clear hb Ba1 Bp1 Bs1 HB1 ya0 ya1 ya2 ya3 yp0 yp1 yp2 yp3 yp4 yp5 yp6 yp7 yp8 yp9 yp10 yp11 yp12 yp13 ys0 ys1 ys2 ys3 ys4 ys5
  obtain ⟨ya0, ya1, ya2, ya3⟩ := Ba2.out.four
  obtain ⟨yp0, yp1, yp2, yp3, yp4, yp5, yp6, yp7, yp8, yp9, yp10, yp11, yp12, yp13⟩ := Bp2.out.fourteen
  obtain ⟨ys0, ys1, ys2, ys3, ys4, ys5⟩ := Bs2.out.six
  have HLt : Hid (w.heap.size + 1 < w2.heap.size) := Bp2.out.lt
  go_wp2_with fail
  go_cut [7] (fun vp wx => CutK w2 #[.func (.func 77) #[] #[], .func (.func 78) #[] #[], .func (.func 79) #[] #[]] vp wx)
  case first =>
    have C0 : Hid (∀ X, Hid (Below w2.heap.size w2 X) → Calls Tryz.prog 37 #[] X fun e w' => e = .returned kindsV ∧ Hid (Below X.heap.size X w') ∧ Hid (Below w2.heap.size w2 w') ∧ w'.cell? ⟨w.heap.size + 1, 0, none⟩ = some (.int .i64 1)) := by
      intro X bX
      refine (kinds_any X).mono ?_
      rintro e w' ⟨rfl, hb⟩
      have bb := bX.out.trans (hb.mono bX.out.size)
      exact ⟨rfl, hb, bb, (Bp2.out.below bb Bp2.out.lt).cell 0⟩
    unfold kindsV at C0
    have b0 : Hid (Below w2.heap.size w2 w2.drew) := bdrewD w2
    have n1 : ¬ w.heap.size + 1 = w2.heap.size := (by have := HLt.out; omega)
    have m1 : ¬ w2.heap.size = w.heap.size + 1 := (by have := HLt.out; omega)
    have yk := Bp2.out.cell 0
    simp at yk
    have kx := kinds_at1
    have mk0 : True := trivial
    go_region_held3 (fun w' => w'.cell? ⟨w.heap.size + 1, 0, none⟩ = some (.int .i64 1)) (go_keep) (first
        | (clear mk0; go_at_call 37; refine (C0.out _ (bal b0 (Obj.cells #[Value.nilFunc, Value.nilFunc, Value.nilFunc] 68))).mono ?_; rintro e u1 ⟨rfl, R1, b1, q0⟩; have QN := (Blk.newAt w2.drew w2.heap.size rfl #[.nilFunc, .nilFunc, .nilFunc] 68).below R1.out (Blk.newAt w2.drew w2.heap.size rfl #[.nilFunc, .nilFunc, .nilFunc] 68).lt; obtain ⟨g0, g1, g2⟩ := QN.three; have g3 := QN.free 0; have g4 := QN.free 1; have g5 := QN.free 2; have QH := hide QN; clear QN; have mk1L : True := trivial)
        | (clear mk0; go_at_call 37; refine (C0.out _ b0).mono ?_; rintro e u1 ⟨rfl, R1, b1, q0⟩; have nu : ¬ w.heap.size + 1 = u1.heap.size := (by have := HLt.out; have := b1.out.size; omega); have mu : ¬ u1.heap.size = w.heap.size + 1 := (by have := HLt.out; have := b1.out.size; omega); have mk1 : True := trivial))
    all_goals (go_wp2_with fail; go_meet)
    all_goals (first | (clear mk1L; exact cutk_old b1.out QH.out (Nat.le_refl _)) | (clear mk1; exact cutk_new b1.out))
  obtain ⟨⟨Hk, rfl, hq, hH, hbc⟩⟩ := hcut
  obtain ⟨w3, hwk⟩ : ∃ x, x = wc := ⟨_, rfl⟩
  subst hwk
  have Ba3 := hide (Ba2.out.below hbc Ba2.out.lt)
  have Bp3 := hide (Bp2.out.below hbc Bp2.out.lt)
  have Bs3 := hide (Bs2.out.below hbc Bs2.out.lt)
  have Bd3 := hide hq
  have HB3 := hide (HB2.out.trans (hbc.mono HB2.out.size))
  clear HLt hq hH hbc Ba2 Bp2 Bs2 HB2 ya0 ya1 ya2 ya3 yp0 yp1 yp2 yp3 yp4 yp5 yp6 yp7 yp8 yp9 yp10 yp11 yp12 yp13 ys0 ys1 ys2 ys3 ys4 ys5
  obtain ⟨ya0, ya1, ya2, ya3⟩ := Ba3.out.four
  obtain ⟨yp0, yp1, yp2, yp3, yp4, yp5, yp6, yp7, yp8, yp9, yp10, yp11, yp12, yp13⟩ := Bp3.out.fourteen
  obtain ⟨ys0, ys1, ys2, ys3, ys4, ys5⟩ := Bs3.out.six
  obtain ⟨yd0, yd1, yd2⟩ := Bd3.out.three
  go_wp2_with fail
  refine (HR.out _ (HT.out.below HB3.out)).mono ?_
  rintro e w4 ⟨rfl, hb⟩
  have Ba4 := Blk.on Ba3 hb
  have Bp4 := Blk.on Bp3 hb
  have Bs4 := Blk.on Bs3 hb
  have Bd4 := Blk.on Bd3 hb
  have HB4 := hide (HB3.out.trans (hb.mono HB3.out.size))
  clear hb Ba3 Bp3 Bs3 Bd3 HB3 ya0 ya1 ya2 ya3 yp0 yp1 yp2 yp3 yp4 yp5 yp6 yp7 yp8 yp9 yp10 yp11 yp12 yp13 ys0 ys1 ys2 ys3 ys4 ys5 yd0 yd1 yd2
  have LS := hide Bs4.out.lt
  have LK := hide Bd4.out.lt
  obtain ⟨ya0, ya1, ya2, ya3⟩ := Ba4.out.four
  obtain ⟨yp0, yp1, yp2, yp3, yp4, yp5, yp6, yp7, yp8, yp9, yp10, yp11, yp12, yp13⟩ := Bp4.out.fourteen
  obtain ⟨ys0, ys1, ys2, ys3, ys4, ys5⟩ := Bs4.out.six
  obtain ⟨yd0, yd1, yd2⟩ := Bd4.out.three
  by_cases h : rx = 0
  rotate_left
  · clear HL HD HV2 HV3 LS LK
    have Ba5 := Blk.up Ba4 (.cells #[.int .i64 cx, .bool nx, .string tx, .int .i64 ex] 23)
    have Bp5 := Blk.up Bp4 (.cells #[.int .i64 cx, .bool nx, .string tx, .int .i64 ex] 23)
    have Bs5 := Blk.up Bs4 (.cells #[.int .i64 cx, .bool nx, .string tx, .int .i64 ex] 23)
    have Bd5 := Blk.up Bd4 (.cells #[.int .i64 cx, .bool nx, .string tx, .int .i64 ex] 23)
    have Br5 := hide ((Blk.newAt w4 (w4.heap.size) (rfl) #[.int .i64 cx, .bool nx, .string tx, .int .i64 ex] 23))
    have HB5 : Hid (Below w.heap.size w (w4.alloc (.cells #[.int .i64 cx, .bool nx, .string tx, .int .i64 ex] 23))) := (HB4.out.alloc HB4.out.size _)
    clear Ba4 Bp4 Bs4 Bd4 HB4 ya0 ya1 ya2 ya3 yp0 yp1 yp2 yp3 yp4 yp5 yp6 yp7 yp8 yp9 yp10 yp11 yp12 yp13 ys0 ys1 ys2 ys3 ys4 ys5 yd0 yd1 yd2
    obtain ⟨ya0, ya1, ya2, ya3⟩ := Ba5.out.four
    obtain ⟨yp0, yp1, yp2, yp3, yp4, yp5, yp6, yp7, yp8, yp9, yp10, yp11, yp12, yp13⟩ := Bp5.out.fourteen
    obtain ⟨ys0, ys1, ys2, ys3, ys4, ys5⟩ := Bs5.out.six
    obtain ⟨yd0, yd1, yd2⟩ := Bd5.out.three
    obtain ⟨yr0, yr1, yr2, yr3⟩ := Br5.out.four
    have fs0 := Bs5.out.free 0
    have fs1 := Bs5.out.free 1
    have fs2 := Bs5.out.free 2
    have fs3 := Bs5.out.free 3
    have fs4 := Bs5.out.free 4
    have fs5 := Bs5.out.free 5
    go_wp2
    refine bodyPost_ret (results_shn2 rfl _ _ _ _ _ _ _ _ _ rfl (Bs5.out.put6 _ _ _ _ _ _)) rfl ?_
    exact ⟨by rw [HV1.out h]; rfl, below_put6 (HB5.out) (by omega) _ _ _ _ _ _⟩
  subst h
  by_cases h3 : cx = 0
  rotate_left
  · clear HL HD HV1 HV3 LS LK
    have h : (0 : Int) = 0 := rfl
    have Ba5 := hide (((Ba4.out.alloc (.cells #[.int .i64 cx, .bool nx, .string tx, .int .i64 ex] 23)).alloc (.cells #[.int .i64 cx, .bool nx, .string ⟨#[]⟩, .string ⟨#[]⟩, .int .i64 0, .bool false] 34)))
    have Bp5 := hide (((Bp4.out.alloc (.cells #[.int .i64 cx, .bool nx, .string tx, .int .i64 ex] 23)).alloc (.cells #[.int .i64 cx, .bool nx, .string ⟨#[]⟩, .string ⟨#[]⟩, .int .i64 0, .bool false] 34)))
    have Bs5 := hide (((Bs4.out.alloc (.cells #[.int .i64 cx, .bool nx, .string tx, .int .i64 ex] 23)).alloc (.cells #[.int .i64 cx, .bool nx, .string ⟨#[]⟩, .string ⟨#[]⟩, .int .i64 0, .bool false] 34)))
    have Bd5 := hide (((Bd4.out.alloc (.cells #[.int .i64 cx, .bool nx, .string tx, .int .i64 ex] 23)).alloc (.cells #[.int .i64 cx, .bool nx, .string ⟨#[]⟩, .string ⟨#[]⟩, .int .i64 0, .bool false] 34)))
    have Br5 := hide (((Blk.newAt w4 (w4.heap.size) (rfl) #[.int .i64 cx, .bool nx, .string tx, .int .i64 ex] 23).alloc (.cells #[.int .i64 cx, .bool nx, .string ⟨#[]⟩, .string ⟨#[]⟩, .int .i64 0, .bool false] 34)))
    have Bt5 := hide ((Blk.newAt (w4.alloc (.cells #[.int .i64 cx, .bool nx, .string tx, .int .i64 ex] 23)) (w4.heap.size + 1) (by simp) #[.int .i64 cx, .bool nx, .string ⟨#[]⟩, .string ⟨#[]⟩, .int .i64 0, .bool false] 34))
    have HB5 : Hid (Below w.heap.size w ((w4.alloc (.cells #[.int .i64 cx, .bool nx, .string tx, .int .i64 ex] 23)).alloc (.cells #[.int .i64 cx, .bool nx, .string ⟨#[]⟩, .string ⟨#[]⟩, .int .i64 0, .bool false] 34))) := ((HB4.out.alloc HB4.out.size _).alloc (by have := HB4.out.size; simp; omega) _)
    clear Ba4 Bp4 Bs4 Bd4 HB4 ya0 ya1 ya2 ya3 yp0 yp1 yp2 yp3 yp4 yp5 yp6 yp7 yp8 yp9 yp10 yp11 yp12 yp13 ys0 ys1 ys2 ys3 ys4 ys5 yd0 yd1 yd2
    obtain ⟨ya0, ya1, ya2, ya3⟩ := Ba5.out.four
    obtain ⟨yp0, yp1, yp2, yp3, yp4, yp5, yp6, yp7, yp8, yp9, yp10, yp11, yp12, yp13⟩ := Bp5.out.fourteen
    obtain ⟨ys0, ys1, ys2, ys3, ys4, ys5⟩ := Bs5.out.six
    obtain ⟨yd0, yd1, yd2⟩ := Bd5.out.three
    obtain ⟨yr0, yr1, yr2, yr3⟩ := Br5.out.four
    obtain ⟨yt0, yt1, yt2, yt3, yt4, yt5⟩ := Bt5.out.six
    have fs0 := Bs5.out.free 0
    have fs1 := Bs5.out.free 1
    have fs2 := Bs5.out.free 2
    have fs3 := Bs5.out.free 3
    have fs4 := Bs5.out.free 4
    have fs5 := Bs5.out.free 5
    go_wp2
    refine bodyPost_ret (results_shn2 rfl _ _ _ _ _ _ _ _ _ rfl (Bs5.out.put6 _ _ _ _ _ _)) rfl ?_
    exact ⟨by rw [HV2.out h h3]; rfl, below_put6 (HB5.out) (by omega) _ _ _ _ _ _⟩
  subst h3
  have Ba5 := hide (((Ba4.out.alloc (.cells #[.int .i64 0, .bool nx, .string tx, .int .i64 ex] 23)).alloc (.cells #[.int .i64 0, .bool nx, .string ⟨#[]⟩, .string ⟨#[]⟩, .int .i64 0, .bool false] 34)))
  have Bp5 := hide (((Bp4.out.alloc (.cells #[.int .i64 0, .bool nx, .string tx, .int .i64 ex] 23)).alloc (.cells #[.int .i64 0, .bool nx, .string ⟨#[]⟩, .string ⟨#[]⟩, .int .i64 0, .bool false] 34)))
  have Bs5 := hide (((Bs4.out.alloc (.cells #[.int .i64 0, .bool nx, .string tx, .int .i64 ex] 23)).alloc (.cells #[.int .i64 0, .bool nx, .string ⟨#[]⟩, .string ⟨#[]⟩, .int .i64 0, .bool false] 34)))
  have Bd5 := hide (((Bd4.out.alloc (.cells #[.int .i64 0, .bool nx, .string tx, .int .i64 ex] 23)).alloc (.cells #[.int .i64 0, .bool nx, .string ⟨#[]⟩, .string ⟨#[]⟩, .int .i64 0, .bool false] 34)))
  have Br5 := hide (((Blk.newAt w4 (w4.heap.size) (rfl) #[.int .i64 0, .bool nx, .string tx, .int .i64 ex] 23).alloc (.cells #[.int .i64 0, .bool nx, .string ⟨#[]⟩, .string ⟨#[]⟩, .int .i64 0, .bool false] 34)))
  have Bt5 := hide ((Blk.newAt (w4.alloc (.cells #[.int .i64 0, .bool nx, .string tx, .int .i64 ex] 23)) (w4.heap.size + 1) (by simp) #[.int .i64 0, .bool nx, .string ⟨#[]⟩, .string ⟨#[]⟩, .int .i64 0, .bool false] 34))
  have HB5 : Hid (Below w.heap.size w ((w4.alloc (.cells #[.int .i64 0, .bool nx, .string tx, .int .i64 ex] 23)).alloc (.cells #[.int .i64 0, .bool nx, .string ⟨#[]⟩, .string ⟨#[]⟩, .int .i64 0, .bool false] 34))) := ((HB4.out.alloc HB4.out.size _).alloc (by have := HB4.out.size; simp; omega) _)
  clear Ba4 Bp4 Bs4 Bd4 HB4 ya0 ya1 ya2 ya3 yp0 yp1 yp2 yp3 yp4 yp5 yp6 yp7 yp8 yp9 yp10 yp11 yp12 yp13 ys0 ys1 ys2 ys3 ys4 ys5 yd0 yd1 yd2
  have HLs := hide (HL.out rfl rfl)
  have HDs := hide (HD.out rfl rfl)
  have HV := hide (HV3.out rfl rfl)
  clear HL HD HV1 HV2 HV3 HT
  obtain ⟨G, hG⟩ : ∃ G, G = w4.heap.size + 1 := ⟨_, rfl⟩
  have l1 : w.heap.size + 1 + 1 < w4.heap.size := LS.out
  have l2 : Hk < w4.heap.size := LK.out
  have gn0 : ¬ G = w.heap.size + 1 := by omega
  have gn1 : ¬ w.heap.size + 1 = G := by omega
  have gn2 : ¬ G = w.heap.size + 1 + 1 := by omega
  have gn3 : ¬ w.heap.size + 1 + 1 = G := by omega
  have gn4 : ¬ G = Hk := by omega
  have gn5 : ¬ Hk = G := by omega
  have gn6 : ¬ G = w4.heap.size := by omega
  have gn7 : ¬ w4.heap.size = G := by omega
  have gle : w.heap.size ≤ G := by omega
  have sle : w.heap.size ≤ w.heap.size + 1 + 1 := by omega
  have HG := hide hG
  rw [← hG] at Bt5
  clear hG l1 l2 LS LK
  obtain ⟨Z, hZ⟩ : ∃ Z, Z = ((w4.alloc (.cells #[.int .i64 0, .bool nx, .string tx, .int .i64 ex] 23)).alloc (.cells #[.int .i64 0, .bool nx, .string ⟨#[]⟩, .string ⟨#[]⟩, .int .i64 0, .bool false] 34)) := ⟨_, rfl⟩
  rw [← hZ] at HB5 Ba5 Bp5 Bs5 Bd5 Br5 Bt5
  have HZ := hide hZ
  clear hZ
  have HC : Hid (∀ w', Below Z.heap.size Z w' → (w'.cell? ⟨w.heap.size + 1, 0, none⟩ = some (.int .i64 1) ∧ w'.cell? ⟨w.heap.size + 1, 1, none⟩ = some (.int .i64 mf) ∧ w'.cell? ⟨w.heap.size + 1, 2, none⟩ = some (.int .i64 xf) ∧ w'.cell? ⟨w.heap.size + 1, 3, none⟩ = some (.int .i64 ms) ∧ w'.cell? ⟨w.heap.size + 1, 4, none⟩ = some (.int .i64 xs) ∧ w'.cell? ⟨w.heap.size + 1, 5, none⟩ = some (.bool st) ∧ w'.cell? ⟨w.heap.size + 1, 6, none⟩ = some (.int .i64 cs) ∧ w'.cell? ⟨w.heap.size + 1, 7, none⟩ = some (.bool ns) ∧ w'.cell? ⟨w.heap.size + 1, 8, none⟩ = some (.string ts) ∧ w'.cell? ⟨w.heap.size + 1, 9, none⟩ = some (.int .i64 es) ∧ w'.cell? ⟨w.heap.size + 1, 10, none⟩ = some (.int .i64 md) ∧ w'.cell? ⟨w.heap.size + 1, 11, none⟩ = some (.bool hd) ∧ w'.cell? ⟨w.heap.size + 1, 12, none⟩ = some (.int .i64 im) ∧ w'.cell? ⟨w.heap.size + 1, 13, none⟩ = some (.int .i64 ix) ∧ w'.cell? ⟨w4.heap.size, 0, none⟩ = some (.int .i64 0) ∧ w'.cell? ⟨w4.heap.size, 1, none⟩ = some (.bool nx) ∧ w'.cell? ⟨w4.heap.size, 2, none⟩ = some (.string tx) ∧ w'.cell? ⟨w4.heap.size, 3, none⟩ = some (.int .i64 ex) ∧ w'.cell? ⟨Hk, 2, none⟩ = some (.func (.func 79) #[] #[])) ∧ w'.cell? ⟨G, 0, none⟩ = some (.int .i64 0) ∧ w'.cell? ⟨G, 1, none⟩ = some (.bool nx) ∧ w'.cell? ⟨G, 2, none⟩ = some (.string ⟨#[]⟩) ∧ w'.cell? ⟨G, 3, none⟩ = some (.string ⟨#[]⟩) ∧ w'.cell? ⟨G, 4, none⟩ = some (.int .i64 0) ∧ w'.cell? ⟨G, 5, none⟩ = some (.bool false) ∧ w'.frozen? ⟨G, 2, none⟩ = false ∧ w'.frozen? ⟨G, 3, none⟩ = false) := by
    intro w' hb
    have Bpq := Bp5.out.below hb Bp5.out.lt
    have Brq := Br5.out.below hb Br5.out.lt
    have Bdq := Bd5.out.below hb Bd5.out.lt
    have Btq := Bt5.out.below hb Bt5.out.lt
    exact ⟨⟨Bpq.cell 0, Bpq.cell 1, Bpq.cell 2, Bpq.cell 3, Bpq.cell 4, Bpq.cell 5, Bpq.cell 6, Bpq.cell 7, Bpq.cell 8, Bpq.cell 9, Bpq.cell 10, Bpq.cell 11, Bpq.cell 12, Bpq.cell 13, Brq.cell 0, Brq.cell 1, Brq.cell 2, Brq.cell 3, Bdq.cell 2⟩, Btq.cell 0, Btq.cell 1, Btq.cell 2, Btq.cell 3, Btq.cell 4, Btq.cell 5, Btq.free 2, Btq.free 3⟩
  obtain ⟨⟨x0, x1, x2, x3, x4, x5, x6, x7, x8, x9, x10, x11, x12, x13, x14, x15, x16, x17, x18⟩, z0, z1, z2, z3, z4, z5, z6, z7⟩ := HC.out Z (Below.refl _ _)
  have b0 : Hid (Below Z.heap.size Z Z.drew) := bdrewD Z
  go_wp2_with fail
  simp only [← HG.out]
  simp only [← HZ.out]
  have mk0 : True := trivial
  go_region_held3 (fun w' => w'.cell? ⟨w.heap.size + 1, 0, none⟩ = some (.int .i64 1) ∧ w'.cell? ⟨w.heap.size + 1, 1, none⟩ = some (.int .i64 mf) ∧ w'.cell? ⟨w.heap.size + 1, 2, none⟩ = some (.int .i64 xf) ∧ w'.cell? ⟨w.heap.size + 1, 3, none⟩ = some (.int .i64 ms) ∧ w'.cell? ⟨w.heap.size + 1, 4, none⟩ = some (.int .i64 xs) ∧ w'.cell? ⟨w.heap.size + 1, 5, none⟩ = some (.bool st) ∧ w'.cell? ⟨w.heap.size + 1, 6, none⟩ = some (.int .i64 cs) ∧ w'.cell? ⟨w.heap.size + 1, 7, none⟩ = some (.bool ns) ∧ w'.cell? ⟨w.heap.size + 1, 8, none⟩ = some (.string ts) ∧ w'.cell? ⟨w.heap.size + 1, 9, none⟩ = some (.int .i64 es) ∧ w'.cell? ⟨w.heap.size + 1, 10, none⟩ = some (.int .i64 md) ∧ w'.cell? ⟨w.heap.size + 1, 11, none⟩ = some (.bool hd) ∧ w'.cell? ⟨w.heap.size + 1, 12, none⟩ = some (.int .i64 im) ∧ w'.cell? ⟨w.heap.size + 1, 13, none⟩ = some (.int .i64 ix) ∧ w'.cell? ⟨w4.heap.size, 0, none⟩ = some (.int .i64 0) ∧ w'.cell? ⟨w4.heap.size, 1, none⟩ = some (.bool nx) ∧ w'.cell? ⟨w4.heap.size, 2, none⟩ = some (.string tx) ∧ w'.cell? ⟨w4.heap.size, 3, none⟩ = some (.int .i64 ex) ∧ w'.cell? ⟨Hk, 2, none⟩ = some (.func (.func 79) #[] #[])) (go_keep) (first
    | (clear mk0; with_reducible refine (HLs.out _).mono ?_; rintro e u1 ⟨rfl, hb⟩; have b1 := hide (b0.out.trans (hb.mono b0.out.size)); clear hb; obtain ⟨⟨q0_0, q0_1, q0_2, q0_3, q0_4, q0_5, q0_6, q0_7, q0_8, q0_9, q0_10, q0_11, q0_12, q0_13, q0_14, q0_15, q0_16, q0_17, q0_18⟩, r0_0, r0_1, r0_2, r0_3, r0_4, r0_5, r0_6, r0_7⟩ := HC.out _ b1.out; have mk1 : True := trivial)
    | (clear mk1; go_at_call 38; with_reducible refine (HDs.out _).mono ?_; rintro e u2 ⟨rfl, hb⟩; have b2 := hide (b1.out.trans (hb.mono b1.out.size)); clear hb; obtain ⟨⟨q1_0, q1_1, q1_2, q1_3, q1_4, q1_5, q1_6, q1_7, q1_8, q1_9, q1_10, q1_11, q1_12, q1_13, q1_14, q1_15, q1_16, q1_17, q1_18⟩, r1_0, r1_1, r1_2, r1_3, r1_4, r1_5, r1_6, r1_7⟩ := HC.out _ b2.out; have mk2 : True := trivial))
  have Bse := hide (((Bs5.out.below b2.out Bs5.out.lt).other (a := ⟨G, 2, none⟩) (by simpa using gn2) (.string I)).other (a := ⟨G, 3, none⟩) (by simpa using gn2) (.string F))
  have Bte := hide ((Bt5.out.below b2.out Bt5.out.lt).set23 (.string I) (.string F))
  have HBe : Hid (Below w.heap.size w ((u2.setCell ⟨G, 2, none⟩ (.string I)).setCell ⟨G, 3, none⟩ (.string F))) := ((HB5.out.trans (b2.out.mono HB5.out.size)).setCell gle _).setCell gle _
  obtain ⟨t0, t1, t2, t3, t4, t5⟩ := Bte.out.six
  obtain ⟨s0, s1, s2, s3, s4, s5⟩ := Bse.out.six
  have fs0 := Bse.out.free 0
  have fs1 := Bse.out.free 1
  have fs2 := Bse.out.free 2
  have fs3 := Bse.out.free 3
  have fs4 := Bse.out.free 4
  have fs5 := Bse.out.free 5
  go_wp2
  refine bodyPost_ret (results_shn2 rfl _ _ _ _ _ _ _ _ _ rfl (Bse.out.put6 _ _ _ _ _ _)) rfl ?_
  exact ⟨by rw [HV.out]; rfl, below_put6 HBe.out sle _ _ _ _ _ _⟩

end Go.Proofs.YtobloamnaemfnaaGreatDoor

namespace Go.Proofs.YtobloamnaemfnaaGreatDoor
open Go.RowKit

end Go.Proofs.YtobloamnaemfnaaGreatDoor

namespace Go.Proofs.YtobloamnaemfnaaGreatDoor
open Go.RowKit

end Go.Proofs.YtobloamnaemfnaaGreatDoor
