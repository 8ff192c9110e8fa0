/-
  What width.Show does with a precision of kind 4, out of what it calls.
  What width's kinds round to, and how many fraction digits they show at least, out of what they call.
  What width.Show answers, whatever it is handed.
-/
import Derived.Test.YtckijnlolmbdiaaGreatDoorUB23
import Derived.Test.YtckijnlolmbdiaaGreatDoorUB6
import Derived.Test.YtckijnlolmbdiaaGreatDoorUB5
import Derived.Test.YtckijnlolmbdiaaGreatDoorUB10
import Derived.Test.YtckijnlolmbdiaaGreatDoorUB12
import Derived.Deep.RegionHeld3
import Derived.Test.YtckijnlolmbdiaaGreatDoorUB25
import Derived.Test.YtckijnlolmbdiaaGreatDoorUB13
namespace Go.Proofs.YtckijnlolmbdiaaGreatDoor
open Go.RowKit

set_option maxRecDepth 100000 in
set_option maxHeartbeats 4000000 in
theorem show_k4 (ca : Int) (na : Bool) (ta : ByteArray) (ea mf xf ms xs : Int) (st : Bool) (cs : Int) (ns : Bool) (ts : ByteArray) (es md : Int) (hd : Bool) (im ix cx : Int) (nx : Bool) (tx : ByteArray) (ex rx n : Int) (I F : ByteArray) (V : Value) (w : World) (htab : Tab w) (h : MayD ca na (bys ta) ea) (h2 : ∀ W, Tab W → Calls Tryz.prog 20 #[prV 4 mf xf ms xs st cs ns ts es md hd im ix] W fun e w' => e = .returned (.int .i64 0) ∧ Below W.heap.size W w') (hR : ∀ W, Tab W → Calls Tryz.prog 116 #[prV 4 mf xf ms xs st cs ns ts es md hd im ix, dcV ca na ta ea] W fun e w' => e = .returned (.tuple #[.agg #[.int .i64 cx, .bool nx, .string tx, .int .i64 ex], .int .i64 rx]) ∧ Below W.heap.size W w') (hL : rx = 0 → cx = 0 → ∀ W, Calls Tryz.prog 108 #[prV 4 mf xf ms xs st cs ns ts es md hd im ix, dcV 0 nx tx ex] W fun e w' => e = .returned (.int .i64 n) ∧ Below W.heap.size W w') (hD : rx = 0 → cx = 0 → ∀ W, Calls Tryz.prog 56 #[prV 4 mf xf ms xs st cs ns ts es md hd im ix, dcV 0 nx tx ex, .int .i64 n] W fun e w' => e = .returned (.tuple #[.string I, .string F]) ∧ Below W.heap.size W w') (hV1 : rx ≠ 0 → V = .tuple #[.agg #[.int .i64 0, .bool false, .string ⟨#[]⟩, .string ⟨#[]⟩, .int .i64 0, .bool false], .int .i64 rx]) (hV2 : rx = 0 → cx ≠ 0 → V = .tuple #[.agg #[.int .i64 cx, .bool nx, .string ⟨#[]⟩, .string ⟨#[]⟩, .int .i64 0, .bool false], .int .i64 0]) (hV3 : rx = 0 → cx = 0 → V = .tuple #[.agg #[.int .i64 0, .bool nx, .string I, .string F, .int .i64 0, .bool false], .int .i64 0]) : Calls Tryz.prog 22 #[dcV ca na ta ea, prV 4 mf xf ms xs st cs ns ts es md hd im ix] w fun e w' => e = .returned (V) ∧ Below w.heap.size w w' := by
  have MY := hide (fun W => dmay_yes ca na ta ea W h)
  have CK := hide h2
  have HT := hide htab
  have HR := hide hR
  have HL := hide hL
  have HD := hide hD
  have HV1 := hide hV1
  have HV2 := hide hV2
  have HV3 := hide hV3
  clear h h2 htab hR hL hD hV1 hV2 hV3
  have Ba0 := hide (((Blk.newAt w (w.heap.size) (rfl) #[.int .i64 ca, .bool na, .string ta, .int .i64 ea] 23).alloc (.cells #[.int .i64 4, .int .i64 mf, .int .i64 xf, .int .i64 ms, .int .i64 xs, .bool st, .int .i64 cs, .bool ns, .string ts, .int .i64 es, .int .i64 md, .bool hd, .int .i64 im, .int .i64 ix] 32)).alloc (.cells #[.int .i64 0, .bool false, .string ⟨#[]⟩, .string ⟨#[]⟩, .int .i64 0, .bool false] 36))
  have Bp0 := hide ((Blk.newAt (w.alloc (.cells #[.int .i64 ca, .bool na, .string ta, .int .i64 ea] 23)) (w.heap.size + 1) (by simp) #[.int .i64 4, .int .i64 mf, .int .i64 xf, .int .i64 ms, .int .i64 xs, .bool st, .int .i64 cs, .bool ns, .string ts, .int .i64 es, .int .i64 md, .bool hd, .int .i64 im, .int .i64 ix] 32).alloc (.cells #[.int .i64 0, .bool false, .string ⟨#[]⟩, .string ⟨#[]⟩, .int .i64 0, .bool false] 36))
  have Bs0 := hide (Blk.newAt ((w.alloc (.cells #[.int .i64 ca, .bool na, .string ta, .int .i64 ea] 23)).alloc (.cells #[.int .i64 4, .int .i64 mf, .int .i64 xf, .int .i64 ms, .int .i64 xs, .bool st, .int .i64 cs, .bool ns, .string ts, .int .i64 es, .int .i64 md, .bool hd, .int .i64 im, .int .i64 ix] 32)) (w.heap.size + 1 + 1) (by simp) #[.int .i64 0, .bool false, .string ⟨#[]⟩, .string ⟨#[]⟩, .int .i64 0, .bool false] 36)
  have HB0 : Hid (Below w.heap.size w (((w.alloc (.cells #[.int .i64 ca, .bool na, .string ta, .int .i64 ea] 23)).alloc (.cells #[.int .i64 4, .int .i64 mf, .int .i64 xf, .int .i64 ms, .int .i64 xs, .bool st, .int .i64 cs, .bool ns, .string ts, .int .i64 es, .int .i64 md, .bool hd, .int .i64 im, .int .i64 ix] 32)).alloc (.cells #[.int .i64 0, .bool false, .string ⟨#[]⟩, .string ⟨#[]⟩, .int .i64 0, .bool false] 36))) := ((((Below.refl _ _).alloc (Nat.le_refl _) _).alloc (by simp <;> omega) _).alloc (by simp <;> omega) _)
  go_enter Tryz.func22, Tryz.ntmps22
  go_wp2_with fail
  refine (MY.out _).mono ?_
  rintro e w1 ⟨rfl, hb⟩
  have Ba1 := Blk.on Ba0 hb
  have Bp1 := Blk.on Bp0 hb
  have Bs1 := Blk.on Bs0 hb
  have HB1 := hide (HB0.out.trans (hb.mono HB0.out.size))
  clear hb Ba0 Bp0 Bs0 HB0 
  obtain ⟨ya0, ya1, ya2, ya3⟩ := Ba1.out.four
  obtain ⟨yp0, yp1, yp2, yp3, yp4, yp5, yp6, yp7, yp8, yp9, yp10, yp11, yp12, yp13⟩ := Bp1.out.fourteen
  obtain ⟨ys0, ys1, ys2, ys3, ys4, ys5⟩ := Bs1.out.six
  go_wp2_with fail
  refine (CK.out _ (HT.out.below HB1.out)).mono ?_
  rintro e w2 ⟨rfl, hb⟩
  have Ba2 := Blk.on Ba1 hb
  have Bp2 := Blk.on Bp1 hb
  have Bs2 := Blk.on Bs1 hb
  have HB2 := hide (HB1.out.trans (hb.mono HB1.out.size))
  clear hb Ba1 Bp1 Bs1 HB1 ya0 ya1 ya2 ya3 yp0 yp1 yp2 yp3 yp4 yp5 yp6 yp7 yp8 yp9 yp10 yp11 yp12 yp13 ys0 ys1 ys2 ys3 ys4 ys5
  obtain ⟨ya0, ya1, ya2, ya3⟩ := Ba2.out.four
  obtain ⟨yp0, yp1, yp2, yp3, yp4, yp5, yp6, yp7, yp8, yp9, yp10, yp11, yp12, yp13⟩ := Bp2.out.fourteen
  obtain ⟨ys0, ys1, ys2, ys3, ys4, ys5⟩ := Bs2.out.six
  have HLt : Hid (w.heap.size + 1 < w2.heap.size) := Bp2.out.lt
  go_wp2_with fail
  go_cut [7] (fun vp wx => CutK w2 #[.func (.func 115) #[] #[], .func (.func 116) #[] #[], .func (.func 108) #[] #[]] vp wx)
  case first =>
    have C0 : Hid (∀ X, Hid (Below w2.heap.size w2 X) → Calls Tryz.prog 55 #[] X fun e w' => e = .returned kindsV ∧ Hid (Below X.heap.size X w') ∧ Hid (Below w2.heap.size w2 w') ∧ w'.cell? ⟨w.heap.size + 1, 0, none⟩ = some (.int .i64 4)) := by
      intro X bX
      refine (kinds_any X).mono ?_
      rintro e w' ⟨rfl, hb⟩
      have bb := bX.out.trans (hb.mono bX.out.size)
      exact ⟨rfl, hb, bb, (Bp2.out.below bb Bp2.out.lt).cell 0⟩
    unfold kindsV at C0
    have b0 : Hid (Below w2.heap.size w2 w2.drew) := bdrewD w2
    have n1 : ¬ w.heap.size + 1 = w2.heap.size := (by have := HLt.out; omega)
    have m1 : ¬ w2.heap.size = w.heap.size + 1 := (by have := HLt.out; omega)
    have yk := Bp2.out.cell 0
    simp at yk
    have kx := kinds_at4
    have mk0 : True := trivial
    go_region_held3 (fun w' => w'.cell? ⟨w.heap.size + 1, 0, none⟩ = some (.int .i64 4)) (go_keep) (first
        | (clear mk0; go_at_call 55; refine (C0.out _ (bal b0 (Obj.cells #[Value.nilFunc, Value.nilFunc, Value.nilFunc] 87))).mono ?_; rintro e u1 ⟨rfl, R1, b1, q0⟩; have QN := (Blk.newAt w2.drew w2.heap.size rfl #[.nilFunc, .nilFunc, .nilFunc] 87).below R1.out (Blk.newAt w2.drew w2.heap.size rfl #[.nilFunc, .nilFunc, .nilFunc] 87).lt; obtain ⟨g0, g1, g2⟩ := QN.three; have g3 := QN.free 0; have g4 := QN.free 1; have g5 := QN.free 2; have QH := hide QN; clear QN; have mk1L : True := trivial)
        | (clear mk0; go_at_call 55; refine (C0.out _ b0).mono ?_; rintro e u1 ⟨rfl, R1, b1, q0⟩; have nu : ¬ w.heap.size + 1 = u1.heap.size := (by have := HLt.out; have := b1.out.size; omega); have mu : ¬ u1.heap.size = w.heap.size + 1 := (by have := HLt.out; have := b1.out.size; omega); have mk1 : True := trivial))
    all_goals (go_wp2_with fail; go_meet)
    all_goals (first | (clear mk1L; exact cutk_old b1.out QH.out (Nat.le_refl _)) | (clear mk1; exact cutk_new b1.out))
  obtain ⟨⟨Hk, rfl, hq, hH, hbc⟩⟩ := hcut
  obtain ⟨w3, hwk⟩ : ∃ x, x = wc := ⟨_, rfl⟩
  subst hwk
  have Ba3 := hide (Ba2.out.below hbc Ba2.out.lt)
  have Bp3 := hide (Bp2.out.below hbc Bp2.out.lt)
  have Bs3 := hide (Bs2.out.below hbc Bs2.out.lt)
  have Bd3 := hide hq
  have HB3 := hide (HB2.out.trans (hbc.mono HB2.out.size))
  clear HLt hq hH hbc Ba2 Bp2 Bs2 HB2 ya0 ya1 ya2 ya3 yp0 yp1 yp2 yp3 yp4 yp5 yp6 yp7 yp8 yp9 yp10 yp11 yp12 yp13 ys0 ys1 ys2 ys3 ys4 ys5
  obtain ⟨ya0, ya1, ya2, ya3⟩ := Ba3.out.four
  obtain ⟨yp0, yp1, yp2, yp3, yp4, yp5, yp6, yp7, yp8, yp9, yp10, yp11, yp12, yp13⟩ := Bp3.out.fourteen
  obtain ⟨ys0, ys1, ys2, ys3, ys4, ys5⟩ := Bs3.out.six
  obtain ⟨yd0, yd1, yd2⟩ := Bd3.out.three
  go_wp2_with fail
  refine (HR.out _ (HT.out.below HB3.out)).mono ?_
  rintro e w4 ⟨rfl, hb⟩
  have Ba4 := Blk.on Ba3 hb
  have Bp4 := Blk.on Bp3 hb
  have Bs4 := Blk.on Bs3 hb
  have Bd4 := Blk.on Bd3 hb
  have HB4 := hide (HB3.out.trans (hb.mono HB3.out.size))
  clear hb Ba3 Bp3 Bs3 Bd3 HB3 ya0 ya1 ya2 ya3 yp0 yp1 yp2 yp3 yp4 yp5 yp6 yp7 yp8 yp9 yp10 yp11 yp12 yp13 ys0 ys1 ys2 ys3 ys4 ys5 yd0 yd1 yd2
  have LS := hide Bs4.out.lt
  have LK := hide Bd4.out.lt
  obtain ⟨ya0, ya1, ya2, ya3⟩ := Ba4.out.four
  obtain ⟨yp0, yp1, yp2, yp3, yp4, yp5, yp6, yp7, yp8, yp9, yp10, yp11, yp12, yp13⟩ := Bp4.out.fourteen
  obtain ⟨ys0, ys1, ys2, ys3, ys4, ys5⟩ := Bs4.out.six
  obtain ⟨yd0, yd1, yd2⟩ := Bd4.out.three
  by_cases h : rx = 0
  rotate_left
  · clear HL HD HV2 HV3 LS LK
    have Ba5 := Blk.up Ba4 (.cells #[.int .i64 cx, .bool nx, .string tx, .int .i64 ex] 23)
    have Bp5 := Blk.up Bp4 (.cells #[.int .i64 cx, .bool nx, .string tx, .int .i64 ex] 23)
    have Bs5 := Blk.up Bs4 (.cells #[.int .i64 cx, .bool nx, .string tx, .int .i64 ex] 23)
    have Bd5 := Blk.up Bd4 (.cells #[.int .i64 cx, .bool nx, .string tx, .int .i64 ex] 23)
    have Br5 := hide ((Blk.newAt w4 (w4.heap.size) (rfl) #[.int .i64 cx, .bool nx, .string tx, .int .i64 ex] 23))
    have HB5 : Hid (Below w.heap.size w (w4.alloc (.cells #[.int .i64 cx, .bool nx, .string tx, .int .i64 ex] 23))) := (HB4.out.alloc HB4.out.size _)
    clear Ba4 Bp4 Bs4 Bd4 HB4 ya0 ya1 ya2 ya3 yp0 yp1 yp2 yp3 yp4 yp5 yp6 yp7 yp8 yp9 yp10 yp11 yp12 yp13 ys0 ys1 ys2 ys3 ys4 ys5 yd0 yd1 yd2
    obtain ⟨ya0, ya1, ya2, ya3⟩ := Ba5.out.four
    obtain ⟨yp0, yp1, yp2, yp3, yp4, yp5, yp6, yp7, yp8, yp9, yp10, yp11, yp12, yp13⟩ := Bp5.out.fourteen
    obtain ⟨ys0, ys1, ys2, ys3, ys4, ys5⟩ := Bs5.out.six
    obtain ⟨yd0, yd1, yd2⟩ := Bd5.out.three
    obtain ⟨yr0, yr1, yr2, yr3⟩ := Br5.out.four
    have fs0 := Bs5.out.free 0
    have fs1 := Bs5.out.free 1
    have fs2 := Bs5.out.free 2
    have fs3 := Bs5.out.free 3
    have fs4 := Bs5.out.free 4
    have fs5 := Bs5.out.free 5
    go_wp2
    refine bodyPost_ret (results_shn2 rfl _ _ _ _ _ _ _ _ _ rfl (Bs5.out.put6 _ _ _ _ _ _)) rfl ?_
    exact ⟨by rw [HV1.out h]; rfl, below_put6 (HB5.out) (by omega) _ _ _ _ _ _⟩
  subst h
  by_cases h3 : cx = 0
  rotate_left
  · clear HL HD HV1 HV3 LS LK
    have h : (0 : Int) = 0 := rfl
    have Ba5 := hide (((Ba4.out.alloc (.cells #[.int .i64 cx, .bool nx, .string tx, .int .i64 ex] 23)).alloc (.cells #[.int .i64 cx, .bool nx, .string ⟨#[]⟩, .string ⟨#[]⟩, .int .i64 0, .bool false] 36)))
    have Bp5 := hide (((Bp4.out.alloc (.cells #[.int .i64 cx, .bool nx, .string tx, .int .i64 ex] 23)).alloc (.cells #[.int .i64 cx, .bool nx, .string ⟨#[]⟩, .string ⟨#[]⟩, .int .i64 0, .bool false] 36)))
    have Bs5 := hide (((Bs4.out.alloc (.cells #[.int .i64 cx, .bool nx, .string tx, .int .i64 ex] 23)).alloc (.cells #[.int .i64 cx, .bool nx, .string ⟨#[]⟩, .string ⟨#[]⟩, .int .i64 0, .bool false] 36)))
    have Bd5 := hide (((Bd4.out.alloc (.cells #[.int .i64 cx, .bool nx, .string tx, .int .i64 ex] 23)).alloc (.cells #[.int .i64 cx, .bool nx, .string ⟨#[]⟩, .string ⟨#[]⟩, .int .i64 0, .bool false] 36)))
    have Br5 := hide (((Blk.newAt w4 (w4.heap.size) (rfl) #[.int .i64 cx, .bool nx, .string tx, .int .i64 ex] 23).alloc (.cells #[.int .i64 cx, .bool nx, .string ⟨#[]⟩, .string ⟨#[]⟩, .int .i64 0, .bool false] 36)))
    have Bt5 := hide ((Blk.newAt (w4.alloc (.cells #[.int .i64 cx, .bool nx, .string tx, .int .i64 ex] 23)) (w4.heap.size + 1) (by simp) #[.int .i64 cx, .bool nx, .string ⟨#[]⟩, .string ⟨#[]⟩, .int .i64 0, .bool false] 36))
    have HB5 : Hid (Below w.heap.size w ((w4.alloc (.cells #[.int .i64 cx, .bool nx, .string tx, .int .i64 ex] 23)).alloc (.cells #[.int .i64 cx, .bool nx, .string ⟨#[]⟩, .string ⟨#[]⟩, .int .i64 0, .bool false] 36))) := ((HB4.out.alloc HB4.out.size _).alloc (by have := HB4.out.size; simp; omega) _)
    clear Ba4 Bp4 Bs4 Bd4 HB4 ya0 ya1 ya2 ya3 yp0 yp1 yp2 yp3 yp4 yp5 yp6 yp7 yp8 yp9 yp10 yp11 yp12 yp13 ys0 ys1 ys2 ys3 ys4 ys5 yd0 yd1 yd2
    obtain ⟨ya0, ya1, ya2, ya3⟩ := Ba5.out.four
    obtain ⟨yp0, yp1, yp2, yp3, yp4, yp5, yp6, yp7, yp8, yp9, yp10, yp11, yp12, yp13⟩ := Bp5.out.fourteen
    obtain ⟨ys0, ys1, ys2, ys3, ys4, ys5⟩ := Bs5.out.six
    obtain ⟨yd0, yd1, yd2⟩ := Bd5.out.three
    obtain ⟨yr0, yr1, yr2, yr3⟩ := Br5.out.four
    obtain ⟨yt0, yt1, yt2, yt3, yt4, yt5⟩ := Bt5.out.six
    have fs0 := Bs5.out.free 0
    have fs1 := Bs5.out.free 1
    have fs2 := Bs5.out.free 2
    have fs3 := Bs5.out.free 3
    have fs4 := Bs5.out.free 4
    have fs5 := Bs5.out.free 5
    go_wp2
    refine bodyPost_ret (results_shn2 rfl _ _ _ _ _ _ _ _ _ rfl (Bs5.out.put6 _ _ _ _ _ _)) rfl ?_
    exact ⟨by rw [HV2.out h h3]; rfl, below_put6 (HB5.out) (by omega) _ _ _ _ _ _⟩
  subst h3
  have Ba5 := hide (((Ba4.out.alloc (.cells #[.int .i64 0, .bool nx, .string tx, .int .i64 ex] 23)).alloc (.cells #[.int .i64 0, .bool nx, .string ⟨#[]⟩, .string ⟨#[]⟩, .int .i64 0, .bool false] 36)))
  have Bp5 := hide (((Bp4.out.alloc (.cells #[.int .i64 0, .bool nx, .string tx, .int .i64 ex] 23)).alloc (.cells #[.int .i64 0, .bool nx, .string ⟨#[]⟩, .string ⟨#[]⟩, .int .i64 0, .bool false] 36)))
  have Bs5 := hide (((Bs4.out.alloc (.cells #[.int .i64 0, .bool nx, .string tx, .int .i64 ex] 23)).alloc (.cells #[.int .i64 0, .bool nx, .string ⟨#[]⟩, .string ⟨#[]⟩, .int .i64 0, .bool false] 36)))
  have Bd5 := hide (((Bd4.out.alloc (.cells #[.int .i64 0, .bool nx, .string tx, .int .i64 ex] 23)).alloc (.cells #[.int .i64 0, .bool nx, .string ⟨#[]⟩, .string ⟨#[]⟩, .int .i64 0, .bool false] 36)))
  have Br5 := hide (((Blk.newAt w4 (w4.heap.size) (rfl) #[.int .i64 0, .bool nx, .string tx, .int .i64 ex] 23).alloc (.cells #[.int .i64 0, .bool nx, .string ⟨#[]⟩, .string ⟨#[]⟩, .int .i64 0, .bool false] 36)))
  have Bt5 := hide ((Blk.newAt (w4.alloc (.cells #[.int .i64 0, .bool nx, .string tx, .int .i64 ex] 23)) (w4.heap.size + 1) (by simp) #[.int .i64 0, .bool nx, .string ⟨#[]⟩, .string ⟨#[]⟩, .int .i64 0, .bool false] 36))
  have HB5 : Hid (Below w.heap.size w ((w4.alloc (.cells #[.int .i64 0, .bool nx, .string tx, .int .i64 ex] 23)).alloc (.cells #[.int .i64 0, .bool nx, .string ⟨#[]⟩, .string ⟨#[]⟩, .int .i64 0, .bool false] 36))) := ((HB4.out.alloc HB4.out.size _).alloc (by have := HB4.out.size; simp; omega) _)
  clear Ba4 Bp4 Bs4 Bd4 HB4 ya0 ya1 ya2 ya3 yp0 yp1 yp2 yp3 yp4 yp5 yp6 yp7 yp8 yp9 yp10 yp11 yp12 yp13 ys0 ys1 ys2 ys3 ys4 ys5 yd0 yd1 yd2
  have HLs := hide (HL.out rfl rfl)
  have HDs := hide (HD.out rfl rfl)
  have HV := hide (HV3.out rfl rfl)
  clear HL HD HV1 HV2 HV3 HT
  obtain ⟨G, hG⟩ : ∃ G, G = w4.heap.size + 1 := ⟨_, rfl⟩
  have l1 : w.heap.size + 1 + 1 < w4.heap.size := LS.out
  have l2 : Hk < w4.heap.size := LK.out
  have gn0 : ¬ G = w.heap.size + 1 := by omega
  have gn1 : ¬ w.heap.size + 1 = G := by omega
  have gn2 : ¬ G = w.heap.size + 1 + 1 := by omega
  have gn3 : ¬ w.heap.size + 1 + 1 = G := by omega
  have gn4 : ¬ G = Hk := by omega
  have gn5 : ¬ Hk = G := by omega
  have gn6 : ¬ G = w4.heap.size := by omega
  have gn7 : ¬ w4.heap.size = G := by omega
  have gle : w.heap.size ≤ G := by omega
  have sle : w.heap.size ≤ w.heap.size + 1 + 1 := by omega
  have HG := hide hG
  rw [← hG] at Bt5
  clear hG l1 l2 LS LK
  obtain ⟨Z, hZ⟩ : ∃ Z, Z = ((w4.alloc (.cells #[.int .i64 0, .bool nx, .string tx, .int .i64 ex] 23)).alloc (.cells #[.int .i64 0, .bool nx, .string ⟨#[]⟩, .string ⟨#[]⟩, .int .i64 0, .bool false] 36)) := ⟨_, rfl⟩
  rw [← hZ] at HB5 Ba5 Bp5 Bs5 Bd5 Br5 Bt5
  have HZ := hide hZ
  clear hZ
  have HC : Hid (∀ w', Below Z.heap.size Z w' → (w'.cell? ⟨w.heap.size + 1, 0, none⟩ = some (.int .i64 4) ∧ w'.cell? ⟨w.heap.size + 1, 1, none⟩ = some (.int .i64 mf) ∧ w'.cell? ⟨w.heap.size + 1, 2, none⟩ = some (.int .i64 xf) ∧ w'.cell? ⟨w.heap.size + 1, 3, none⟩ = some (.int .i64 ms) ∧ w'.cell? ⟨w.heap.size + 1, 4, none⟩ = some (.int .i64 xs) ∧ w'.cell? ⟨w.heap.size + 1, 5, none⟩ = some (.bool st) ∧ w'.cell? ⟨w.heap.size + 1, 6, none⟩ = some (.int .i64 cs) ∧ w'.cell? ⟨w.heap.size + 1, 7, none⟩ = some (.bool ns) ∧ w'.cell? ⟨w.heap.size + 1, 8, none⟩ = some (.string ts) ∧ w'.cell? ⟨w.heap.size + 1, 9, none⟩ = some (.int .i64 es) ∧ w'.cell? ⟨w.heap.size + 1, 10, none⟩ = some (.int .i64 md) ∧ w'.cell? ⟨w.heap.size + 1, 11, none⟩ = some (.bool hd) ∧ w'.cell? ⟨w.heap.size + 1, 12, none⟩ = some (.int .i64 im) ∧ w'.cell? ⟨w.heap.size + 1, 13, none⟩ = some (.int .i64 ix) ∧ w'.cell? ⟨w4.heap.size, 0, none⟩ = some (.int .i64 0) ∧ w'.cell? ⟨w4.heap.size, 1, none⟩ = some (.bool nx) ∧ w'.cell? ⟨w4.heap.size, 2, none⟩ = some (.string tx) ∧ w'.cell? ⟨w4.heap.size, 3, none⟩ = some (.int .i64 ex) ∧ w'.cell? ⟨Hk, 2, none⟩ = some (.func (.func 108) #[] #[])) ∧ w'.cell? ⟨G, 0, none⟩ = some (.int .i64 0) ∧ w'.cell? ⟨G, 1, none⟩ = some (.bool nx) ∧ w'.cell? ⟨G, 2, none⟩ = some (.string ⟨#[]⟩) ∧ w'.cell? ⟨G, 3, none⟩ = some (.string ⟨#[]⟩) ∧ w'.cell? ⟨G, 4, none⟩ = some (.int .i64 0) ∧ w'.cell? ⟨G, 5, none⟩ = some (.bool false) ∧ w'.frozen? ⟨G, 2, none⟩ = false ∧ w'.frozen? ⟨G, 3, none⟩ = false) := by
    intro w' hb
    have Bpq := Bp5.out.below hb Bp5.out.lt
    have Brq := Br5.out.below hb Br5.out.lt
    have Bdq := Bd5.out.below hb Bd5.out.lt
    have Btq := Bt5.out.below hb Bt5.out.lt
    exact ⟨⟨Bpq.cell 0, Bpq.cell 1, Bpq.cell 2, Bpq.cell 3, Bpq.cell 4, Bpq.cell 5, Bpq.cell 6, Bpq.cell 7, Bpq.cell 8, Bpq.cell 9, Bpq.cell 10, Bpq.cell 11, Bpq.cell 12, Bpq.cell 13, Brq.cell 0, Brq.cell 1, Brq.cell 2, Brq.cell 3, Bdq.cell 2⟩, Btq.cell 0, Btq.cell 1, Btq.cell 2, Btq.cell 3, Btq.cell 4, Btq.cell 5, Btq.free 2, Btq.free 3⟩
  obtain ⟨⟨x0, x1, x2, x3, x4, x5, x6, x7, x8, x9, x10, x11, x12, x13, x14, x15, x16, x17, x18⟩, z0, z1, z2, z3, z4, z5, z6, z7⟩ := HC.out Z (Below.refl _ _)
  have b0 : Hid (Below Z.heap.size Z Z.drew) := bdrewD Z
  go_wp2_with fail
  simp only [← HG.out]
  simp only [← HZ.out]
  have mk0 : True := trivial
  go_region_held3 (fun w' => w'.cell? ⟨w.heap.size + 1, 0, none⟩ = some (.int .i64 4) ∧ w'.cell? ⟨w.heap.size + 1, 1, none⟩ = some (.int .i64 mf) ∧ w'.cell? ⟨w.heap.size + 1, 2, none⟩ = some (.int .i64 xf) ∧ w'.cell? ⟨w.heap.size + 1, 3, none⟩ = some (.int .i64 ms) ∧ w'.cell? ⟨w.heap.size + 1, 4, none⟩ = some (.int .i64 xs) ∧ w'.cell? ⟨w.heap.size + 1, 5, none⟩ = some (.bool st) ∧ w'.cell? ⟨w.heap.size + 1, 6, none⟩ = some (.int .i64 cs) ∧ w'.cell? ⟨w.heap.size + 1, 7, none⟩ = some (.bool ns) ∧ w'.cell? ⟨w.heap.size + 1, 8, none⟩ = some (.string ts) ∧ w'.cell? ⟨w.heap.size + 1, 9, none⟩ = some (.int .i64 es) ∧ w'.cell? ⟨w.heap.size + 1, 10, none⟩ = some (.int .i64 md) ∧ w'.cell? ⟨w.heap.size + 1, 11, none⟩ = some (.bool hd) ∧ w'.cell? ⟨w.heap.size + 1, 12, none⟩ = some (.int .i64 im) ∧ w'.cell? ⟨w.heap.size + 1, 13, none⟩ = some (.int .i64 ix) ∧ w'.cell? ⟨w4.heap.size, 0, none⟩ = some (.int .i64 0) ∧ w'.cell? ⟨w4.heap.size, 1, none⟩ = some (.bool nx) ∧ w'.cell? ⟨w4.heap.size, 2, none⟩ = some (.string tx) ∧ w'.cell? ⟨w4.heap.size, 3, none⟩ = some (.int .i64 ex) ∧ w'.cell? ⟨Hk, 2, none⟩ = some (.func (.func 108) #[] #[])) (go_keep) (first
    | (clear mk0; with_reducible refine (HLs.out _).mono ?_; rintro e u1 ⟨rfl, hb⟩; have b1 := hide (b0.out.trans (hb.mono b0.out.size)); clear hb; obtain ⟨⟨q0_0, q0_1, q0_2, q0_3, q0_4, q0_5, q0_6, q0_7, q0_8, q0_9, q0_10, q0_11, q0_12, q0_13, q0_14, q0_15, q0_16, q0_17, q0_18⟩, r0_0, r0_1, r0_2, r0_3, r0_4, r0_5, r0_6, r0_7⟩ := HC.out _ b1.out; have mk1 : True := trivial)
    | (clear mk1; go_at_call 56; with_reducible refine (HDs.out _).mono ?_; rintro e u2 ⟨rfl, hb⟩; have b2 := hide (b1.out.trans (hb.mono b1.out.size)); clear hb; obtain ⟨⟨q1_0, q1_1, q1_2, q1_3, q1_4, q1_5, q1_6, q1_7, q1_8, q1_9, q1_10, q1_11, q1_12, q1_13, q1_14, q1_15, q1_16, q1_17, q1_18⟩, r1_0, r1_1, r1_2, r1_3, r1_4, r1_5, r1_6, r1_7⟩ := HC.out _ b2.out; have mk2 : True := trivial))
  have Bse := hide (((Bs5.out.below b2.out Bs5.out.lt).other (a := ⟨G, 2, none⟩) (by simpa using gn2) (.string I)).other (a := ⟨G, 3, none⟩) (by simpa using gn2) (.string F))
  have Bte := hide ((Bt5.out.below b2.out Bt5.out.lt).set23 (.string I) (.string F))
  have HBe : Hid (Below w.heap.size w ((u2.setCell ⟨G, 2, none⟩ (.string I)).setCell ⟨G, 3, none⟩ (.string F))) := ((HB5.out.trans (b2.out.mono HB5.out.size)).setCell gle _).setCell gle _
  obtain ⟨t0, t1, t2, t3, t4, t5⟩ := Bte.out.six
  obtain ⟨s0, s1, s2, s3, s4, s5⟩ := Bse.out.six
  have fs0 := Bse.out.free 0
  have fs1 := Bse.out.free 1
  have fs2 := Bse.out.free 2
  have fs3 := Bse.out.free 3
  have fs4 := Bse.out.free 4
  have fs5 := Bse.out.free 5
  go_wp2
  refine bodyPost_ret (results_shn2 rfl _ _ _ _ _ _ _ _ _ rfl (Bse.out.put6 _ _ _ _ _ _)) rfl ?_
  exact ⟨by rw [HV.out]; rfl, below_put6 HBe.out sle _ _ _ _ _ _⟩

end Go.Proofs.YtckijnlolmbdiaaGreatDoor

namespace Go.Proofs.YtckijnlolmbdiaaGreatDoor
open Go.RowKit

set_option maxHeartbeats 1000000 in
theorem asItIs_any (k mf xf ms xs : Int) (st : Bool) (cs : Int) (ns : Bool) (ts : ByteArray) (es md : Int) (hd : Bool) (im ix ca : Int) (na : Bool) (ta : ByteArray) (ea : Int) (w : World) : Calls Tryz.prog 104 #[prV k mf xf ms xs st cs ns ts es md hd im ix, dcV ca na ta ea] w fun e w' => e = .returned (.tuple #[dcV ca na ta ea, .int .i64 0]) ∧ Below w.heap.size w w' := by
  have Bp0 := hide (((Blk.newAt w (w.heap.size) (rfl) #[.int .i64 k, .int .i64 mf, .int .i64 xf, .int .i64 ms, .int .i64 xs, .bool st, .int .i64 cs, .bool ns, .string ts, .int .i64 es, .int .i64 md, .bool hd, .int .i64 im, .int .i64 ix] 81).alloc (.cells #[.int .i64 ca, .bool na, .string ta, .int .i64 ea] 23)).alloc (.cells #[.int .i64 0, .bool false, .string ⟨#[]⟩, .int .i64 0] 23))
  have Ba0 := hide ((Blk.newAt (w.alloc (.cells #[.int .i64 k, .int .i64 mf, .int .i64 xf, .int .i64 ms, .int .i64 xs, .bool st, .int .i64 cs, .bool ns, .string ts, .int .i64 es, .int .i64 md, .bool hd, .int .i64 im, .int .i64 ix] 81)) (w.heap.size + 1) (by simp) #[.int .i64 ca, .bool na, .string ta, .int .i64 ea] 23).alloc (.cells #[.int .i64 0, .bool false, .string ⟨#[]⟩, .int .i64 0] 23))
  have Br0 := hide (Blk.newAt ((w.alloc (.cells #[.int .i64 k, .int .i64 mf, .int .i64 xf, .int .i64 ms, .int .i64 xs, .bool st, .int .i64 cs, .bool ns, .string ts, .int .i64 es, .int .i64 md, .bool hd, .int .i64 im, .int .i64 ix] 81)).alloc (.cells #[.int .i64 ca, .bool na, .string ta, .int .i64 ea] 23)) (w.heap.size + 1 + 1) (by simp) #[.int .i64 0, .bool false, .string ⟨#[]⟩, .int .i64 0] 23)
  have HB0 : Hid (Below w.heap.size w (((w.alloc (.cells #[.int .i64 k, .int .i64 mf, .int .i64 xf, .int .i64 ms, .int .i64 xs, .bool st, .int .i64 cs, .bool ns, .string ts, .int .i64 es, .int .i64 md, .bool hd, .int .i64 im, .int .i64 ix] 81)).alloc (.cells #[.int .i64 ca, .bool na, .string ta, .int .i64 ea] 23)).alloc (.cells #[.int .i64 0, .bool false, .string ⟨#[]⟩, .int .i64 0] 23))) := ((((Below.refl _ _).alloc (Nat.le_refl _) _).alloc (by simp <;> omega) _).alloc (by simp <;> omega) _)
  go_enter Tryz.func104, Tryz.ntmps104
  go_wp2
  refine bodyPost_ret (results_dec2 rfl _ _ _ _ _ _ _ rfl (Blk.newAt _ (w.heap.size + 1 + 1) (by simp) _ _)) rfl ?_
  exact ⟨rfl, (((Below.refl _ _).alloc (Nat.le_refl _) _).alloc (by simp) _).alloc (by simp; omega) _⟩

set_option maxHeartbeats 1000000 in
theorem atFrac_g (k mf xf ms xs : Int) (st : Bool) (cs : Int) (ns : Bool) (ts : ByteArray) (es md : Int) (hd : Bool) (im ix ca : Int) (na : Bool) (ta : ByteArray) (ea cx : Int) (nx : Bool) (tx : ByteArray) (ex rx : Int) (w : World) (htab : Tab w) (hC : ∀ W, Tab W → Calls Tryz.prog 16 #[dcV ca na ta ea, .int .i64 (-xf), .int .i64 md] W fun e w' => e = .returned (.tuple #[.agg #[.int .i64 cx, .bool nx, .string tx, .int .i64 ex], .int .i64 rx]) ∧ Below W.heap.size W w') (h1 : 0 ≤ xf) (h2 : xf ≤ 99) : Calls Tryz.prog 107 #[prV k mf xf ms xs st cs ns ts es md hd im ix, dcV ca na ta ea] w fun e w' => e = .returned (.tuple #[.agg #[.int .i64 cx, .bool nx, .string tx, .int .i64 ex], .int .i64 rx]) ∧ Below w.heap.size w w' := by
  have HC := hide hC
  have HT := hide htab
  clear hC htab
  have Bp0 := hide (((Blk.newAt w (w.heap.size) (rfl) #[.int .i64 k, .int .i64 mf, .int .i64 xf, .int .i64 ms, .int .i64 xs, .bool st, .int .i64 cs, .bool ns, .string ts, .int .i64 es, .int .i64 md, .bool hd, .int .i64 im, .int .i64 ix] 81).alloc (.cells #[.int .i64 ca, .bool na, .string ta, .int .i64 ea] 23)).alloc (.cells #[.int .i64 0, .bool false, .string ⟨#[]⟩, .int .i64 0] 23))
  have Ba0 := hide ((Blk.newAt (w.alloc (.cells #[.int .i64 k, .int .i64 mf, .int .i64 xf, .int .i64 ms, .int .i64 xs, .bool st, .int .i64 cs, .bool ns, .string ts, .int .i64 es, .int .i64 md, .bool hd, .int .i64 im, .int .i64 ix] 81)) (w.heap.size + 1) (by simp) #[.int .i64 ca, .bool na, .string ta, .int .i64 ea] 23).alloc (.cells #[.int .i64 0, .bool false, .string ⟨#[]⟩, .int .i64 0] 23))
  have Br0 := hide (Blk.newAt ((w.alloc (.cells #[.int .i64 k, .int .i64 mf, .int .i64 xf, .int .i64 ms, .int .i64 xs, .bool st, .int .i64 cs, .bool ns, .string ts, .int .i64 es, .int .i64 md, .bool hd, .int .i64 im, .int .i64 ix] 81)).alloc (.cells #[.int .i64 ca, .bool na, .string ta, .int .i64 ea] 23)) (w.heap.size + 1 + 1) (by simp) #[.int .i64 0, .bool false, .string ⟨#[]⟩, .int .i64 0] 23)
  have HB0 : Hid (Below w.heap.size w (((w.alloc (.cells #[.int .i64 k, .int .i64 mf, .int .i64 xf, .int .i64 ms, .int .i64 xs, .bool st, .int .i64 cs, .bool ns, .string ts, .int .i64 es, .int .i64 md, .bool hd, .int .i64 im, .int .i64 ix] 81)).alloc (.cells #[.int .i64 ca, .bool na, .string ta, .int .i64 ea] 23)).alloc (.cells #[.int .i64 0, .bool false, .string ⟨#[]⟩, .int .i64 0] 23))) := ((((Below.refl _ _).alloc (Nat.le_refl _) _).alloc (by simp <;> omega) _).alloc (by simp <;> omega) _)
  go_enter Tryz.func107, Tryz.ntmps107
  go_wp2_with fail
  refine (HC.out _ (HT.out.below HB0.out)).mono ?_
  rintro e w1 ⟨rfl, hb⟩
  have Bp1 := Blk.on Bp0 hb
  have Ba1 := Blk.on Ba0 hb
  have Br1 := Blk.on Br0 hb
  have HB1 := hide (HB0.out.trans (hb.mono HB0.out.size))
  clear hb Bp0 Ba0 Br0 HB0 
  obtain ⟨yp0, yp1, yp2, yp3, yp4, yp5, yp6, yp7, yp8, yp9, yp10, yp11, yp12, yp13⟩ := Bp1.out.fourteen
  obtain ⟨ya0, ya1, ya2, ya3⟩ := Ba1.out.four
  obtain ⟨yr0, yr1, yr2, yr3⟩ := Br1.out.four
  have fr0 := Br1.out.free 0
  have fr1 := Br1.out.free 1
  have fr2 := Br1.out.free 2
  have fr3 := Br1.out.free 3
  go_wp2
  refine bodyPost_ret (results_dec2 rfl _ _ _ _ _ _ _ rfl (Br1.out.put4 _ _ _ _)) rfl ?_
  exact ⟨rfl, below_put4 (HB1.out) (by omega) _ _ _ _⟩

set_option maxHeartbeats 1000000 in
theorem toSig_g (k mf xf ms xs : Int) (st : Bool) (cs : Int) (ns : Bool) (ts : ByteArray) (es md : Int) (hd : Bool) (im ix ca : Int) (na : Bool) (ta : ByteArray) (ea cx : Int) (nx : Bool) (tx : ByteArray) (ex rx : Int) (w : World) (htab : Tab w) (hC : ∀ W, Tab W → Calls Tryz.prog 50 #[dcV ca na ta ea, .int .i64 xs, .int .i64 md] W fun e w' => e = .returned (.tuple #[.agg #[.int .i64 cx, .bool nx, .string tx, .int .i64 ex], .int .i64 rx]) ∧ Below W.heap.size W w')  : Calls Tryz.prog 110 #[prV k mf xf ms xs st cs ns ts es md hd im ix, dcV ca na ta ea] w fun e w' => e = .returned (.tuple #[.agg #[.int .i64 cx, .bool nx, .string tx, .int .i64 ex], .int .i64 rx]) ∧ Below w.heap.size w w' := by
  have HC := hide hC
  have HT := hide htab
  clear hC htab
  have Bp0 := hide (((Blk.newAt w (w.heap.size) (rfl) #[.int .i64 k, .int .i64 mf, .int .i64 xf, .int .i64 ms, .int .i64 xs, .bool st, .int .i64 cs, .bool ns, .string ts, .int .i64 es, .int .i64 md, .bool hd, .int .i64 im, .int .i64 ix] 81).alloc (.cells #[.int .i64 ca, .bool na, .string ta, .int .i64 ea] 23)).alloc (.cells #[.int .i64 0, .bool false, .string ⟨#[]⟩, .int .i64 0] 23))
  have Ba0 := hide ((Blk.newAt (w.alloc (.cells #[.int .i64 k, .int .i64 mf, .int .i64 xf, .int .i64 ms, .int .i64 xs, .bool st, .int .i64 cs, .bool ns, .string ts, .int .i64 es, .int .i64 md, .bool hd, .int .i64 im, .int .i64 ix] 81)) (w.heap.size + 1) (by simp) #[.int .i64 ca, .bool na, .string ta, .int .i64 ea] 23).alloc (.cells #[.int .i64 0, .bool false, .string ⟨#[]⟩, .int .i64 0] 23))
  have Br0 := hide (Blk.newAt ((w.alloc (.cells #[.int .i64 k, .int .i64 mf, .int .i64 xf, .int .i64 ms, .int .i64 xs, .bool st, .int .i64 cs, .bool ns, .string ts, .int .i64 es, .int .i64 md, .bool hd, .int .i64 im, .int .i64 ix] 81)).alloc (.cells #[.int .i64 ca, .bool na, .string ta, .int .i64 ea] 23)) (w.heap.size + 1 + 1) (by simp) #[.int .i64 0, .bool false, .string ⟨#[]⟩, .int .i64 0] 23)
  have HB0 : Hid (Below w.heap.size w (((w.alloc (.cells #[.int .i64 k, .int .i64 mf, .int .i64 xf, .int .i64 ms, .int .i64 xs, .bool st, .int .i64 cs, .bool ns, .string ts, .int .i64 es, .int .i64 md, .bool hd, .int .i64 im, .int .i64 ix] 81)).alloc (.cells #[.int .i64 ca, .bool na, .string ta, .int .i64 ea] 23)).alloc (.cells #[.int .i64 0, .bool false, .string ⟨#[]⟩, .int .i64 0] 23))) := ((((Below.refl _ _).alloc (Nat.le_refl _) _).alloc (by simp <;> omega) _).alloc (by simp <;> omega) _)
  go_enter Tryz.func110, Tryz.ntmps110
  go_wp2_with fail
  refine (HC.out _ (HT.out.below HB0.out)).mono ?_
  rintro e w1 ⟨rfl, hb⟩
  have Bp1 := Blk.on Bp0 hb
  have Ba1 := Blk.on Ba0 hb
  have Br1 := Blk.on Br0 hb
  have HB1 := hide (HB0.out.trans (hb.mono HB0.out.size))
  clear hb Bp0 Ba0 Br0 HB0 
  obtain ⟨yp0, yp1, yp2, yp3, yp4, yp5, yp6, yp7, yp8, yp9, yp10, yp11, yp12, yp13⟩ := Bp1.out.fourteen
  obtain ⟨ya0, ya1, ya2, ya3⟩ := Ba1.out.four
  obtain ⟨yr0, yr1, yr2, yr3⟩ := Br1.out.four
  have fr0 := Br1.out.free 0
  have fr1 := Br1.out.free 1
  have fr2 := Br1.out.free 2
  have fr3 := Br1.out.free 3
  go_wp2
  refine bodyPost_ret (results_dec2 rfl _ _ _ _ _ _ _ rfl (Br1.out.put4 _ _ _ _)) rfl ?_
  exact ⟨rfl, below_put4 (HB1.out) (by omega) _ _ _ _⟩

set_option maxHeartbeats 1000000 in
theorem toStep_g (k mf xf ms xs : Int) (st : Bool) (cs : Int) (ns : Bool) (ts : ByteArray) (es md : Int) (hd : Bool) (im ix ca : Int) (na : Bool) (ta : ByteArray) (ea cx : Int) (nx : Bool) (tx : ByteArray) (ex rx : Int) (w : World) (htab : Tab w) (hC : ∀ W, Tab W → Calls Tryz.prog 51 #[dcV ca na ta ea, dcV cs ns ts es, .int .i64 md] W fun e w' => e = .returned (.tuple #[.agg #[.int .i64 cx, .bool nx, .string tx, .int .i64 ex], .int .i64 rx]) ∧ Below W.heap.size W w')  : Calls Tryz.prog 116 #[prV k mf xf ms xs st cs ns ts es md hd im ix, dcV ca na ta ea] w fun e w' => e = .returned (.tuple #[.agg #[.int .i64 cx, .bool nx, .string tx, .int .i64 ex], .int .i64 rx]) ∧ Below w.heap.size w w' := by
  have HC := hide hC
  have HT := hide htab
  clear hC htab
  have Bp0 := hide (((Blk.newAt w (w.heap.size) (rfl) #[.int .i64 k, .int .i64 mf, .int .i64 xf, .int .i64 ms, .int .i64 xs, .bool st, .int .i64 cs, .bool ns, .string ts, .int .i64 es, .int .i64 md, .bool hd, .int .i64 im, .int .i64 ix] 81).alloc (.cells #[.int .i64 ca, .bool na, .string ta, .int .i64 ea] 23)).alloc (.cells #[.int .i64 0, .bool false, .string ⟨#[]⟩, .int .i64 0] 23))
  have Ba0 := hide ((Blk.newAt (w.alloc (.cells #[.int .i64 k, .int .i64 mf, .int .i64 xf, .int .i64 ms, .int .i64 xs, .bool st, .int .i64 cs, .bool ns, .string ts, .int .i64 es, .int .i64 md, .bool hd, .int .i64 im, .int .i64 ix] 81)) (w.heap.size + 1) (by simp) #[.int .i64 ca, .bool na, .string ta, .int .i64 ea] 23).alloc (.cells #[.int .i64 0, .bool false, .string ⟨#[]⟩, .int .i64 0] 23))
  have Br0 := hide (Blk.newAt ((w.alloc (.cells #[.int .i64 k, .int .i64 mf, .int .i64 xf, .int .i64 ms, .int .i64 xs, .bool st, .int .i64 cs, .bool ns, .string ts, .int .i64 es, .int .i64 md, .bool hd, .int .i64 im, .int .i64 ix] 81)).alloc (.cells #[.int .i64 ca, .bool na, .string ta, .int .i64 ea] 23)) (w.heap.size + 1 + 1) (by simp) #[.int .i64 0, .bool false, .string ⟨#[]⟩, .int .i64 0] 23)
  have HB0 : Hid (Below w.heap.size w (((w.alloc (.cells #[.int .i64 k, .int .i64 mf, .int .i64 xf, .int .i64 ms, .int .i64 xs, .bool st, .int .i64 cs, .bool ns, .string ts, .int .i64 es, .int .i64 md, .bool hd, .int .i64 im, .int .i64 ix] 81)).alloc (.cells #[.int .i64 ca, .bool na, .string ta, .int .i64 ea] 23)).alloc (.cells #[.int .i64 0, .bool false, .string ⟨#[]⟩, .int .i64 0] 23))) := ((((Below.refl _ _).alloc (Nat.le_refl _) _).alloc (by simp <;> omega) _).alloc (by simp <;> omega) _)
  go_enter Tryz.func116, Tryz.ntmps116
  go_wp2_with fail
  refine (HC.out _ (HT.out.below HB0.out)).mono ?_
  rintro e w1 ⟨rfl, hb⟩
  have Bp1 := Blk.on Bp0 hb
  have Ba1 := Blk.on Ba0 hb
  have Br1 := Blk.on Br0 hb
  have HB1 := hide (HB0.out.trans (hb.mono HB0.out.size))
  clear hb Bp0 Ba0 Br0 HB0 
  obtain ⟨yp0, yp1, yp2, yp3, yp4, yp5, yp6, yp7, yp8, yp9, yp10, yp11, yp12, yp13⟩ := Bp1.out.fourteen
  obtain ⟨ya0, ya1, ya2, ya3⟩ := Ba1.out.four
  obtain ⟨yr0, yr1, yr2, yr3⟩ := Br1.out.four
  have fr0 := Br1.out.free 0
  have fr1 := Br1.out.free 1
  have fr2 := Br1.out.free 2
  have fr3 := Br1.out.free 3
  go_wp2
  refine bodyPost_ret (results_dec2 rfl _ _ _ _ _ _ _ rfl (Br1.out.put4 _ _ _ _)) rfl ?_
  exact ⟨rfl, below_put4 (HB1.out) (by omega) _ _ _ _⟩

set_option maxHeartbeats 2000000 in
theorem atBoth_true (k mf xf ms xs cs : Int) (ns : Bool) (ts : ByteArray) (es md : Int) (hd : Bool) (im ix ca : Int) (na : Bool) (ta : ByteArray) (ea pl cx : Int) (nx : Bool) (tx : ByteArray) (ex rx : Int) (w : World) (htab : Tab w) (hP : ∀ W, Calls Tryz.prog 39 #[dcV ca na ta ea] W fun e w' => e = .returned (.int .i64 pl) ∧ Below W.heap.size W w') (hC : ∀ W, Tab W → Calls Tryz.prog 16 #[dcV ca na ta ea, .int .i64 (max (-xf) (pl - xs)), .int .i64 md] W fun e w' => e = .returned (.tuple #[.agg #[.int .i64 cx, .bool nx, .string tx, .int .i64 ex], .int .i64 rx]) ∧ Below W.heap.size W w') (h1 : 0 ≤ xf) (h2 : xf ≤ 99) (h3 : -10000 ≤ pl) (h4 : pl ≤ 10000) (h5 : 0 ≤ xs) (h6 : xs ≤ 99) : Calls Tryz.prog 113 #[prV k mf xf ms xs true cs ns ts es md hd im ix, dcV ca na ta ea] w fun e w' => e = .returned (.tuple #[.agg #[.int .i64 cx, .bool nx, .string tx, .int .i64 ex], .int .i64 rx]) ∧ Below w.heap.size w w' := by
  have HC := hide hC
  have HP := hide hP
  have HT := hide htab
  have hw1 : IntKind.i64.wrap (-xf) = -xf := by rw [IntKind.wrap_i64]; omega
  have hw2 : IntKind.i64.wrap (pl - xs) = pl - xs := by rw [IntKind.wrap_i64]; omega
  clear hC hP htab h1 h2 h3 h4 h5 h6
  have Bp0 := hide (((Blk.newAt w (w.heap.size) (rfl) #[.int .i64 k, .int .i64 mf, .int .i64 xf, .int .i64 ms, .int .i64 xs, .bool true, .int .i64 cs, .bool ns, .string ts, .int .i64 es, .int .i64 md, .bool hd, .int .i64 im, .int .i64 ix] 81).alloc (.cells #[.int .i64 ca, .bool na, .string ta, .int .i64 ea] 23)).alloc (.cells #[.int .i64 0, .bool false, .string ⟨#[]⟩, .int .i64 0] 23))
  have Ba0 := hide ((Blk.newAt (w.alloc (.cells #[.int .i64 k, .int .i64 mf, .int .i64 xf, .int .i64 ms, .int .i64 xs, .bool true, .int .i64 cs, .bool ns, .string ts, .int .i64 es, .int .i64 md, .bool hd, .int .i64 im, .int .i64 ix] 81)) (w.heap.size + 1) (by simp) #[.int .i64 ca, .bool na, .string ta, .int .i64 ea] 23).alloc (.cells #[.int .i64 0, .bool false, .string ⟨#[]⟩, .int .i64 0] 23))
  have Br0 := hide (Blk.newAt ((w.alloc (.cells #[.int .i64 k, .int .i64 mf, .int .i64 xf, .int .i64 ms, .int .i64 xs, .bool true, .int .i64 cs, .bool ns, .string ts, .int .i64 es, .int .i64 md, .bool hd, .int .i64 im, .int .i64 ix] 81)).alloc (.cells #[.int .i64 ca, .bool na, .string ta, .int .i64 ea] 23)) (w.heap.size + 1 + 1) (by simp) #[.int .i64 0, .bool false, .string ⟨#[]⟩, .int .i64 0] 23)
  have HB0 : Hid (Below w.heap.size w (((w.alloc (.cells #[.int .i64 k, .int .i64 mf, .int .i64 xf, .int .i64 ms, .int .i64 xs, .bool true, .int .i64 cs, .bool ns, .string ts, .int .i64 es, .int .i64 md, .bool hd, .int .i64 im, .int .i64 ix] 81)).alloc (.cells #[.int .i64 ca, .bool na, .string ta, .int .i64 ea] 23)).alloc (.cells #[.int .i64 0, .bool false, .string ⟨#[]⟩, .int .i64 0] 23))) := ((((Below.refl _ _).alloc (Nat.le_refl _) _).alloc (by simp <;> omega) _).alloc (by simp <;> omega) _)
  obtain ⟨W, hW⟩ : ∃ W, W = (((w.alloc (.cells #[.int .i64 k, .int .i64 mf, .int .i64 xf, .int .i64 ms, .int .i64 xs, .bool true, .int .i64 cs, .bool ns, .string ts, .int .i64 es, .int .i64 md, .bool hd, .int .i64 im, .int .i64 ix] 81)).alloc (.cells #[.int .i64 ca, .bool na, .string ta, .int .i64 ea] 23)).alloc (.cells #[.int .i64 0, .bool false, .string ⟨#[]⟩, .int .i64 0] 23)) := ⟨_, rfl⟩
  rw [← hW] at HB0 Bp0 Ba0 Br0 
  have HW := hide hW
  clear hW
  obtain ⟨yp0, yp1, yp2, yp3, yp4, yp5, yp6, yp7, yp8, yp9, yp10, yp11, yp12, yp13⟩ := Bp0.out.fourteen
  obtain ⟨ya0, ya1, ya2, ya3⟩ := Ba0.out.four
  obtain ⟨yr0, yr1, yr2, yr3⟩ := Br0.out.four
  go_enter Tryz.func113, Tryz.ntmps113
  have b0 : Hid (Below W.heap.size W W.drew) := bdrewD W
  have C0 : Hid (∀ X, Hid (Below W.heap.size W X) → Calls Tryz.prog 39 #[dcV ca na ta ea] X fun e w' => e = .returned (.int .i64 pl) ∧ Hid (Below W.heap.size W w') ∧ w'.cell? ⟨w.heap.size, 2, none⟩ = some (.int .i64 xf) ∧ w'.cell? ⟨w.heap.size, 4, none⟩ = some (.int .i64 xs) ∧ w'.cell? ⟨w.heap.size + 1, 0, none⟩ = some (.int .i64 ca) ∧ w'.cell? ⟨w.heap.size + 1, 1, none⟩ = some (.bool na) ∧ w'.cell? ⟨w.heap.size + 1, 2, none⟩ = some (.string ta) ∧ w'.cell? ⟨w.heap.size + 1, 3, none⟩ = some (.int .i64 ea)) := by
    intro X bX
    refine (HP.out X).mono ?_
    rintro e w' ⟨rfl, hb⟩
    have bb := bX.out.trans (hb.mono bX.out.size)
    have Bpq := Bp0.out.below bb Bp0.out.lt
    have Baq := Ba0.out.below bb Ba0.out.lt
    exact ⟨rfl, bb, Bpq.cell 2, Bpq.cell 4, Baq.cell 0, Baq.cell 1, Baq.cell 2, Baq.cell 3⟩
  go_wp2_with fail
  simp only [← HW.out]
  have mk0 : True := trivial
  go_region_held3 (fun w' => w'.cell? ⟨w.heap.size, 2, none⟩ = some (.int .i64 xf) ∧ w'.cell? ⟨w.heap.size, 4, none⟩ = some (.int .i64 xs) ∧ w'.cell? ⟨w.heap.size + 1, 0, none⟩ = some (.int .i64 ca) ∧ w'.cell? ⟨w.heap.size + 1, 1, none⟩ = some (.bool na) ∧ w'.cell? ⟨w.heap.size + 1, 2, none⟩ = some (.string ta) ∧ w'.cell? ⟨w.heap.size + 1, 3, none⟩ = some (.int .i64 ea)) (go_keep) (first
    | (clear mk0; go_at_call 39; refine (C0.out _ b0).mono ?_; rintro e w1 ⟨rfl, b1, q0_0, q0_1, q0_2, q0_3, q0_4, q0_5⟩; have mk1 : True := trivial))
  have Bp1 := hide (Bp0.out.below b1.out Bp0.out.lt)
  have Ba1 := hide (Ba0.out.below b1.out Ba0.out.lt)
  have Br1 := hide (Br0.out.below b1.out Br0.out.lt)
  have HB1 := hide (HB0.out.trans (b1.out.mono HB0.out.size))
  clear mk1 b0 b1 C0 q0_0 q0_1 q0_2 q0_3 q0_4 q0_5 Bp0 Ba0 Br0 HB0 yp0 yp1 yp2 yp3 yp4 yp5 yp6 yp7 yp8 yp9 yp10 yp11 yp12 yp13 ya0 ya1 ya2 ya3 yr0 yr1 yr2 yr3
  obtain ⟨yp0, yp1, yp2, yp3, yp4, yp5, yp6, yp7, yp8, yp9, yp10, yp11, yp12, yp13⟩ := Bp1.out.fourteen
  obtain ⟨ya0, ya1, ya2, ya3⟩ := Ba1.out.four
  obtain ⟨yr0, yr1, yr2, yr3⟩ := Br1.out.four
  go_wp2_with fail
  refine (HC.out _ (HT.out.below HB1.out)).mono ?_
  rintro e w2 ⟨rfl, hb⟩
  have Bp2 := Blk.on Bp1 hb
  have Ba2 := Blk.on Ba1 hb
  have Br2 := Blk.on Br1 hb
  have HB2 := hide (HB1.out.trans (hb.mono HB1.out.size))
  clear hb Bp1 Ba1 Br1 HB1 yp0 yp1 yp2 yp3 yp4 yp5 yp6 yp7 yp8 yp9 yp10 yp11 yp12 yp13 ya0 ya1 ya2 ya3 yr0 yr1 yr2 yr3
  obtain ⟨yp0, yp1, yp2, yp3, yp4, yp5, yp6, yp7, yp8, yp9, yp10, yp11, yp12, yp13⟩ := Bp2.out.fourteen
  obtain ⟨ya0, ya1, ya2, ya3⟩ := Ba2.out.four
  obtain ⟨yr0, yr1, yr2, yr3⟩ := Br2.out.four
  have fr0 := Br2.out.free 0
  have fr1 := Br2.out.free 1
  have fr2 := Br2.out.free 2
  have fr3 := Br2.out.free 3
  go_wp2
  refine bodyPost_ret (results_dec2 rfl _ _ _ _ _ _ _ rfl (Br2.out.put4 _ _ _ _)) rfl ?_
  exact ⟨rfl, below_put4 (HB2.out) (by omega) _ _ _ _⟩

set_option maxHeartbeats 2000000 in
theorem atBoth_false (k mf xf ms xs cs : Int) (ns : Bool) (ts : ByteArray) (es md : Int) (hd : Bool) (im ix ca : Int) (na : Bool) (ta : ByteArray) (ea pl cx : Int) (nx : Bool) (tx : ByteArray) (ex rx : Int) (w : World) (htab : Tab w) (hP : ∀ W, Calls Tryz.prog 39 #[dcV ca na ta ea] W fun e w' => e = .returned (.int .i64 pl) ∧ Below W.heap.size W w') (hC : ∀ W, Tab W → Calls Tryz.prog 16 #[dcV ca na ta ea, .int .i64 (min (-xf) (pl - xs)), .int .i64 md] W fun e w' => e = .returned (.tuple #[.agg #[.int .i64 cx, .bool nx, .string tx, .int .i64 ex], .int .i64 rx]) ∧ Below W.heap.size W w') (h1 : 0 ≤ xf) (h2 : xf ≤ 99) (h3 : -10000 ≤ pl) (h4 : pl ≤ 10000) (h5 : 0 ≤ xs) (h6 : xs ≤ 99) : Calls Tryz.prog 113 #[prV k mf xf ms xs false cs ns ts es md hd im ix, dcV ca na ta ea] w fun e w' => e = .returned (.tuple #[.agg #[.int .i64 cx, .bool nx, .string tx, .int .i64 ex], .int .i64 rx]) ∧ Below w.heap.size w w' := by
  have HC := hide hC
  have HP := hide hP
  have HT := hide htab
  have hw1 : IntKind.i64.wrap (-xf) = -xf := by rw [IntKind.wrap_i64]; omega
  have hw2 : IntKind.i64.wrap (pl - xs) = pl - xs := by rw [IntKind.wrap_i64]; omega
  clear hC hP htab h1 h2 h3 h4 h5 h6
  have Bp0 := hide (((Blk.newAt w (w.heap.size) (rfl) #[.int .i64 k, .int .i64 mf, .int .i64 xf, .int .i64 ms, .int .i64 xs, .bool false, .int .i64 cs, .bool ns, .string ts, .int .i64 es, .int .i64 md, .bool hd, .int .i64 im, .int .i64 ix] 81).alloc (.cells #[.int .i64 ca, .bool na, .string ta, .int .i64 ea] 23)).alloc (.cells #[.int .i64 0, .bool false, .string ⟨#[]⟩, .int .i64 0] 23))
  have Ba0 := hide ((Blk.newAt (w.alloc (.cells #[.int .i64 k, .int .i64 mf, .int .i64 xf, .int .i64 ms, .int .i64 xs, .bool false, .int .i64 cs, .bool ns, .string ts, .int .i64 es, .int .i64 md, .bool hd, .int .i64 im, .int .i64 ix] 81)) (w.heap.size + 1) (by simp) #[.int .i64 ca, .bool na, .string ta, .int .i64 ea] 23).alloc (.cells #[.int .i64 0, .bool false, .string ⟨#[]⟩, .int .i64 0] 23))
  have Br0 := hide (Blk.newAt ((w.alloc (.cells #[.int .i64 k, .int .i64 mf, .int .i64 xf, .int .i64 ms, .int .i64 xs, .bool false, .int .i64 cs, .bool ns, .string ts, .int .i64 es, .int .i64 md, .bool hd, .int .i64 im, .int .i64 ix] 81)).alloc (.cells #[.int .i64 ca, .bool na, .string ta, .int .i64 ea] 23)) (w.heap.size + 1 + 1) (by simp) #[.int .i64 0, .bool false, .string ⟨#[]⟩, .int .i64 0] 23)
  have HB0 : Hid (Below w.heap.size w (((w.alloc (.cells #[.int .i64 k, .int .i64 mf, .int .i64 xf, .int .i64 ms, .int .i64 xs, .bool false, .int .i64 cs, .bool ns, .string ts, .int .i64 es, .int .i64 md, .bool hd, .int .i64 im, .int .i64 ix] 81)).alloc (.cells #[.int .i64 ca, .bool na, .string ta, .int .i64 ea] 23)).alloc (.cells #[.int .i64 0, .bool false, .string ⟨#[]⟩, .int .i64 0] 23))) := ((((Below.refl _ _).alloc (Nat.le_refl _) _).alloc (by simp <;> omega) _).alloc (by simp <;> omega) _)
  obtain ⟨W, hW⟩ : ∃ W, W = (((w.alloc (.cells #[.int .i64 k, .int .i64 mf, .int .i64 xf, .int .i64 ms, .int .i64 xs, .bool false, .int .i64 cs, .bool ns, .string ts, .int .i64 es, .int .i64 md, .bool hd, .int .i64 im, .int .i64 ix] 81)).alloc (.cells #[.int .i64 ca, .bool na, .string ta, .int .i64 ea] 23)).alloc (.cells #[.int .i64 0, .bool false, .string ⟨#[]⟩, .int .i64 0] 23)) := ⟨_, rfl⟩
  rw [← hW] at HB0 Bp0 Ba0 Br0 
  have HW := hide hW
  clear hW
  obtain ⟨yp0, yp1, yp2, yp3, yp4, yp5, yp6, yp7, yp8, yp9, yp10, yp11, yp12, yp13⟩ := Bp0.out.fourteen
  obtain ⟨ya0, ya1, ya2, ya3⟩ := Ba0.out.four
  obtain ⟨yr0, yr1, yr2, yr3⟩ := Br0.out.four
  go_enter Tryz.func113, Tryz.ntmps113
  have b0 : Hid (Below W.heap.size W W.drew) := bdrewD W
  have C0 : Hid (∀ X, Hid (Below W.heap.size W X) → Calls Tryz.prog 39 #[dcV ca na ta ea] X fun e w' => e = .returned (.int .i64 pl) ∧ Hid (Below W.heap.size W w') ∧ w'.cell? ⟨w.heap.size, 2, none⟩ = some (.int .i64 xf) ∧ w'.cell? ⟨w.heap.size, 4, none⟩ = some (.int .i64 xs) ∧ w'.cell? ⟨w.heap.size + 1, 0, none⟩ = some (.int .i64 ca) ∧ w'.cell? ⟨w.heap.size + 1, 1, none⟩ = some (.bool na) ∧ w'.cell? ⟨w.heap.size + 1, 2, none⟩ = some (.string ta) ∧ w'.cell? ⟨w.heap.size + 1, 3, none⟩ = some (.int .i64 ea)) := by
    intro X bX
    refine (HP.out X).mono ?_
    rintro e w' ⟨rfl, hb⟩
    have bb := bX.out.trans (hb.mono bX.out.size)
    have Bpq := Bp0.out.below bb Bp0.out.lt
    have Baq := Ba0.out.below bb Ba0.out.lt
    exact ⟨rfl, bb, Bpq.cell 2, Bpq.cell 4, Baq.cell 0, Baq.cell 1, Baq.cell 2, Baq.cell 3⟩
  go_wp2_with fail
  simp only [← HW.out]
  have mk0 : True := trivial
  go_region_held3 (fun w' => w'.cell? ⟨w.heap.size, 2, none⟩ = some (.int .i64 xf) ∧ w'.cell? ⟨w.heap.size, 4, none⟩ = some (.int .i64 xs) ∧ w'.cell? ⟨w.heap.size + 1, 0, none⟩ = some (.int .i64 ca) ∧ w'.cell? ⟨w.heap.size + 1, 1, none⟩ = some (.bool na) ∧ w'.cell? ⟨w.heap.size + 1, 2, none⟩ = some (.string ta) ∧ w'.cell? ⟨w.heap.size + 1, 3, none⟩ = some (.int .i64 ea)) (go_keep) (first
    | (clear mk0; go_at_call 39; refine (C0.out _ b0).mono ?_; rintro e w1 ⟨rfl, b1, q0_0, q0_1, q0_2, q0_3, q0_4, q0_5⟩; have mk1 : True := trivial))
  have Bp1 := hide (Bp0.out.below b1.out Bp0.out.lt)
  have Ba1 := hide (Ba0.out.below b1.out Ba0.out.lt)
  have Br1 := hide (Br0.out.below b1.out Br0.out.lt)
  have HB1 := hide (HB0.out.trans (b1.out.mono HB0.out.size))
  clear mk1 b0 b1 C0 q0_0 q0_1 q0_2 q0_3 q0_4 q0_5 Bp0 Ba0 Br0 HB0 yp0 yp1 yp2 yp3 yp4 yp5 yp6 yp7 yp8 yp9 yp10 yp11 yp12 yp13 ya0 ya1 ya2 ya3 yr0 yr1 yr2 yr3
  obtain ⟨yp0, yp1, yp2, yp3, yp4, yp5, yp6, yp7, yp8, yp9, yp10, yp11, yp12, yp13⟩ := Bp1.out.fourteen
  obtain ⟨ya0, ya1, ya2, ya3⟩ := Ba1.out.four
  obtain ⟨yr0, yr1, yr2, yr3⟩ := Br1.out.four
  go_wp2_with fail
  refine (HC.out _ (HT.out.below HB1.out)).mono ?_
  rintro e w2 ⟨rfl, hb⟩
  have Bp2 := Blk.on Bp1 hb
  have Ba2 := Blk.on Ba1 hb
  have Br2 := Blk.on Br1 hb
  have HB2 := hide (HB1.out.trans (hb.mono HB1.out.size))
  clear hb Bp1 Ba1 Br1 HB1 yp0 yp1 yp2 yp3 yp4 yp5 yp6 yp7 yp8 yp9 yp10 yp11 yp12 yp13 ya0 ya1 ya2 ya3 yr0 yr1 yr2 yr3
  obtain ⟨yp0, yp1, yp2, yp3, yp4, yp5, yp6, yp7, yp8, yp9, yp10, yp11, yp12, yp13⟩ := Bp2.out.fourteen
  obtain ⟨ya0, ya1, ya2, ya3⟩ := Ba2.out.four
  obtain ⟨yr0, yr1, yr2, yr3⟩ := Br2.out.four
  have fr0 := Br2.out.free 0
  have fr1 := Br2.out.free 1
  have fr2 := Br2.out.free 2
  have fr3 := Br2.out.free 3
  go_wp2
  refine bodyPost_ret (results_dec2 rfl _ _ _ _ _ _ _ rfl (Br2.out.put4 _ _ _ _)) rfl ?_
  exact ⟨rfl, below_put4 (HB2.out) (by omega) _ _ _ _⟩

set_option maxHeartbeats 1000000 in
theorem none_any (k mf xf ms xs : Int) (st : Bool) (cs : Int) (ns : Bool) (ts : ByteArray) (es md : Int) (hd : Bool) (im ix ca : Int) (na : Bool) (ta : ByteArray) (ea : Int) (w : World) : Calls Tryz.prog 105 #[prV k mf xf ms xs st cs ns ts es md hd im ix, dcV ca na ta ea] w fun e w' => e = .returned (.int .i64 0) ∧ Below w.heap.size w w' := by
  have Bp0 := hide ((Blk.newAt w (w.heap.size) (rfl) #[.int .i64 k, .int .i64 mf, .int .i64 xf, .int .i64 ms, .int .i64 xs, .bool st, .int .i64 cs, .bool ns, .string ts, .int .i64 es, .int .i64 md, .bool hd, .int .i64 im, .int .i64 ix] 81).alloc (.cells #[.int .i64 ca, .bool na, .string ta, .int .i64 ea] 23))
  have Ba0 := hide (Blk.newAt (w.alloc (.cells #[.int .i64 k, .int .i64 mf, .int .i64 xf, .int .i64 ms, .int .i64 xs, .bool st, .int .i64 cs, .bool ns, .string ts, .int .i64 es, .int .i64 md, .bool hd, .int .i64 im, .int .i64 ix] 81)) (w.heap.size + 1) (by simp) #[.int .i64 ca, .bool na, .string ta, .int .i64 ea] 23)
  have HB0 : Hid (Below w.heap.size w ((w.alloc (.cells #[.int .i64 k, .int .i64 mf, .int .i64 xf, .int .i64 ms, .int .i64 xs, .bool st, .int .i64 cs, .bool ns, .string ts, .int .i64 es, .int .i64 md, .bool hd, .int .i64 im, .int .i64 ix] 81)).alloc (.cells #[.int .i64 ca, .bool na, .string ta, .int .i64 ea] 23))) := (((Below.refl _ _).alloc (Nat.le_refl _) _).alloc (by simp <;> omega) _)
  go_enter Tryz.func105, Tryz.ntmps105
  go_wp2
  go_ret
  exact ⟨rfl, HB0.out⟩

set_option maxHeartbeats 1000000 in
theorem minFrac_any (k mf xf ms xs : Int) (st : Bool) (cs : Int) (ns : Bool) (ts : ByteArray) (es md : Int) (hd : Bool) (im ix ca : Int) (na : Bool) (ta : ByteArray) (ea : Int) (w : World) : Calls Tryz.prog 108 #[prV k mf xf ms xs st cs ns ts es md hd im ix, dcV ca na ta ea] w fun e w' => e = .returned (.int .i64 mf) ∧ Below w.heap.size w w' := by
  have Bp0 := hide ((Blk.newAt w (w.heap.size) (rfl) #[.int .i64 k, .int .i64 mf, .int .i64 xf, .int .i64 ms, .int .i64 xs, .bool st, .int .i64 cs, .bool ns, .string ts, .int .i64 es, .int .i64 md, .bool hd, .int .i64 im, .int .i64 ix] 81).alloc (.cells #[.int .i64 ca, .bool na, .string ta, .int .i64 ea] 23))
  have Ba0 := hide (Blk.newAt (w.alloc (.cells #[.int .i64 k, .int .i64 mf, .int .i64 xf, .int .i64 ms, .int .i64 xs, .bool st, .int .i64 cs, .bool ns, .string ts, .int .i64 es, .int .i64 md, .bool hd, .int .i64 im, .int .i64 ix] 81)) (w.heap.size + 1) (by simp) #[.int .i64 ca, .bool na, .string ta, .int .i64 ea] 23)
  have HB0 : Hid (Below w.heap.size w ((w.alloc (.cells #[.int .i64 k, .int .i64 mf, .int .i64 xf, .int .i64 ms, .int .i64 xs, .bool st, .int .i64 cs, .bool ns, .string ts, .int .i64 es, .int .i64 md, .bool hd, .int .i64 im, .int .i64 ix] 81)).alloc (.cells #[.int .i64 ca, .bool na, .string ta, .int .i64 ea] 23))) := (((Below.refl _ _).alloc (Nat.le_refl _) _).alloc (by simp <;> omega) _)
  go_enter Tryz.func108, Tryz.ntmps108
  go_wp2
  go_ret
  exact ⟨rfl, HB0.out⟩

set_option maxHeartbeats 1000000 in
theorem fracOfSig_z (k mf xf ms xs : Int) (st : Bool) (cs : Int) (ns : Bool) (ts : ByteArray) (es md : Int) (hd : Bool) (im ix ca : Int) (na : Bool) (ea : Int) (w : World) (h1 : 0 ≤ ms) (h2 : ms ≤ 99) : Calls Tryz.prog 111 #[prV k mf xf ms xs st cs ns ts es md hd im ix, dcV ca na ⟨#[]⟩ ea] w fun e w' => e = .returned (.int .i64 (ms - 1)) ∧ Below w.heap.size w w' := by
  have Bp0 := hide ((Blk.newAt w (w.heap.size) (rfl) #[.int .i64 k, .int .i64 mf, .int .i64 xf, .int .i64 ms, .int .i64 xs, .bool st, .int .i64 cs, .bool ns, .string ts, .int .i64 es, .int .i64 md, .bool hd, .int .i64 im, .int .i64 ix] 81).alloc (.cells #[.int .i64 ca, .bool na, .string ⟨#[]⟩, .int .i64 ea] 23))
  have Ba0 := hide (Blk.newAt (w.alloc (.cells #[.int .i64 k, .int .i64 mf, .int .i64 xf, .int .i64 ms, .int .i64 xs, .bool st, .int .i64 cs, .bool ns, .string ts, .int .i64 es, .int .i64 md, .bool hd, .int .i64 im, .int .i64 ix] 81)) (w.heap.size + 1) (by simp) #[.int .i64 ca, .bool na, .string ⟨#[]⟩, .int .i64 ea] 23)
  have HB0 : Hid (Below w.heap.size w ((w.alloc (.cells #[.int .i64 k, .int .i64 mf, .int .i64 xf, .int .i64 ms, .int .i64 xs, .bool st, .int .i64 cs, .bool ns, .string ts, .int .i64 es, .int .i64 md, .bool hd, .int .i64 im, .int .i64 ix] 81)).alloc (.cells #[.int .i64 ca, .bool na, .string ⟨#[]⟩, .int .i64 ea] 23))) := (((Below.refl _ _).alloc (Nat.le_refl _) _).alloc (by simp <;> omega) _)
  go_enter Tryz.func111, Tryz.ntmps111
  go_wp2
  go_ret
  exact ⟨rfl, HB0.out⟩

set_option maxHeartbeats 1000000 in
theorem fracOfSig_n (k mf xf ms xs : Int) (st : Bool) (cs : Int) (ns : Bool) (ts : ByteArray) (es md : Int) (hd : Bool) (im ix ca : Int) (na : Bool) (ta : ByteArray) (ea pl : Int) (w : World) (hP : ∀ W, Calls Tryz.prog 39 #[dcV ca na ta ea] W fun e w' => e = .returned (.int .i64 pl) ∧ Below W.heap.size W w') (h0 : ta.size ≠ 0) (h1 : 0 ≤ ms) (h2 : ms ≤ 99) (h4 : -10000 ≤ pl) (h5 : pl ≤ 10000) : Calls Tryz.prog 111 #[prV k mf xf ms xs st cs ns ts es md hd im ix, dcV ca na ta ea] w fun e w' => e = .returned (.int .i64 (max 0 (ms - pl))) ∧ Below w.heap.size w w' := by
  have HP := hide hP
  have h3 := toList_ne h0
  have hw2 : IntKind.i64.wrap (ms - pl) = ms - pl := by rw [IntKind.wrap_i64]; omega
  clear hP h0 h1 h2 h4 h5
  have Bp0 := hide ((Blk.newAt w (w.heap.size) (rfl) #[.int .i64 k, .int .i64 mf, .int .i64 xf, .int .i64 ms, .int .i64 xs, .bool st, .int .i64 cs, .bool ns, .string ts, .int .i64 es, .int .i64 md, .bool hd, .int .i64 im, .int .i64 ix] 81).alloc (.cells #[.int .i64 ca, .bool na, .string ta, .int .i64 ea] 23))
  have Ba0 := hide (Blk.newAt (w.alloc (.cells #[.int .i64 k, .int .i64 mf, .int .i64 xf, .int .i64 ms, .int .i64 xs, .bool st, .int .i64 cs, .bool ns, .string ts, .int .i64 es, .int .i64 md, .bool hd, .int .i64 im, .int .i64 ix] 81)) (w.heap.size + 1) (by simp) #[.int .i64 ca, .bool na, .string ta, .int .i64 ea] 23)
  have HB0 : Hid (Below w.heap.size w ((w.alloc (.cells #[.int .i64 k, .int .i64 mf, .int .i64 xf, .int .i64 ms, .int .i64 xs, .bool st, .int .i64 cs, .bool ns, .string ts, .int .i64 es, .int .i64 md, .bool hd, .int .i64 im, .int .i64 ix] 81)).alloc (.cells #[.int .i64 ca, .bool na, .string ta, .int .i64 ea] 23))) := (((Below.refl _ _).alloc (Nat.le_refl _) _).alloc (by simp <;> omega) _)
  obtain ⟨W, hW⟩ : ∃ W, W = ((w.alloc (.cells #[.int .i64 k, .int .i64 mf, .int .i64 xf, .int .i64 ms, .int .i64 xs, .bool st, .int .i64 cs, .bool ns, .string ts, .int .i64 es, .int .i64 md, .bool hd, .int .i64 im, .int .i64 ix] 81)).alloc (.cells #[.int .i64 ca, .bool na, .string ta, .int .i64 ea] 23)) := ⟨_, rfl⟩
  rw [← hW] at HB0 Bp0 Ba0 
  have HW := hide hW
  clear hW
  obtain ⟨yp0, yp1, yp2, yp3, yp4, yp5, yp6, yp7, yp8, yp9, yp10, yp11, yp12, yp13⟩ := Bp0.out.fourteen
  obtain ⟨ya0, ya1, ya2, ya3⟩ := Ba0.out.four
  go_enter Tryz.func111, Tryz.ntmps111
  have b0 : Hid (Below W.heap.size W W.drew) := bdrewD W
  have C0 : Hid (∀ X, Hid (Below W.heap.size W X) → Calls Tryz.prog 39 #[dcV ca na ta ea] X fun e w' => e = .returned (.int .i64 pl) ∧ Hid (Below W.heap.size W w') ∧ w'.cell? ⟨w.heap.size, 3, none⟩ = some (.int .i64 ms) ∧ w'.cell? ⟨w.heap.size + 1, 0, none⟩ = some (.int .i64 ca) ∧ w'.cell? ⟨w.heap.size + 1, 1, none⟩ = some (.bool na) ∧ w'.cell? ⟨w.heap.size + 1, 2, none⟩ = some (.string ta) ∧ w'.cell? ⟨w.heap.size + 1, 3, none⟩ = some (.int .i64 ea)) := by
    intro X bX
    refine (HP.out X).mono ?_
    rintro e w' ⟨rfl, hb⟩
    have bb := bX.out.trans (hb.mono bX.out.size)
    have Bpq := Bp0.out.below bb Bp0.out.lt
    have Baq := Ba0.out.below bb Ba0.out.lt
    exact ⟨rfl, bb, Bpq.cell 3, Baq.cell 0, Baq.cell 1, Baq.cell 2, Baq.cell 3⟩
  go_wp2_with fail
  simp only [← HW.out]
  have mk0 : True := trivial
  go_region_held3 (fun w' => w'.cell? ⟨w.heap.size, 3, none⟩ = some (.int .i64 ms) ∧ w'.cell? ⟨w.heap.size + 1, 0, none⟩ = some (.int .i64 ca) ∧ w'.cell? ⟨w.heap.size + 1, 1, none⟩ = some (.bool na) ∧ w'.cell? ⟨w.heap.size + 1, 2, none⟩ = some (.string ta) ∧ w'.cell? ⟨w.heap.size + 1, 3, none⟩ = some (.int .i64 ea)) (go_keep) (first
    | (clear mk0; go_at_call 39; refine (C0.out _ b0).mono ?_; rintro e w1 ⟨rfl, b1, q0_0, q0_1, q0_2, q0_3, q0_4⟩; have mk1 : True := trivial))
  have Bp1 := hide (Bp0.out.below b1.out Bp0.out.lt)
  have Ba1 := hide (Ba0.out.below b1.out Ba0.out.lt)
  have HB1 := hide (HB0.out.trans (b1.out.mono HB0.out.size))
  clear mk1 b0 b1 C0 q0_0 q0_1 q0_2 q0_3 q0_4 Bp0 Ba0 HB0 yp0 yp1 yp2 yp3 yp4 yp5 yp6 yp7 yp8 yp9 yp10 yp11 yp12 yp13 ya0 ya1 ya2 ya3
  obtain ⟨yp0, yp1, yp2, yp3, yp4, yp5, yp6, yp7, yp8, yp9, yp10, yp11, yp12, yp13⟩ := Bp1.out.fourteen
  obtain ⟨ya0, ya1, ya2, ya3⟩ := Ba1.out.four
  go_wp2
  go_ret
  exact ⟨rfl, HB1.out⟩

set_option maxHeartbeats 2000000 in
theorem fracOfBoth_g (k mf xf ms xs : Int) (st : Bool) (cs : Int) (ns : Bool) (ts : ByteArray) (es md : Int) (hd : Bool) (im ix ca : Int) (na : Bool) (ta : ByteArray) (ea sl : Int) (w : World) (hP : ∀ W, Calls Tryz.prog 111 #[prV k mf xf ms xs st cs ns ts es md hd im ix, dcV ca na ta ea] W fun e w' => e = .returned (.int .i64 sl) ∧ Below W.heap.size W w') : Calls Tryz.prog 114 #[prV k mf xf ms xs st cs ns ts es md hd im ix, dcV ca na ta ea] w fun e w' => e = .returned (.int .i64 (max mf sl)) ∧ Below w.heap.size w w' := by
  have HP := hide hP
  clear hP
  have Bp0 := hide ((Blk.newAt w (w.heap.size) (rfl) #[.int .i64 k, .int .i64 mf, .int .i64 xf, .int .i64 ms, .int .i64 xs, .bool st, .int .i64 cs, .bool ns, .string ts, .int .i64 es, .int .i64 md, .bool hd, .int .i64 im, .int .i64 ix] 81).alloc (.cells #[.int .i64 ca, .bool na, .string ta, .int .i64 ea] 23))
  have Ba0 := hide (Blk.newAt (w.alloc (.cells #[.int .i64 k, .int .i64 mf, .int .i64 xf, .int .i64 ms, .int .i64 xs, .bool st, .int .i64 cs, .bool ns, .string ts, .int .i64 es, .int .i64 md, .bool hd, .int .i64 im, .int .i64 ix] 81)) (w.heap.size + 1) (by simp) #[.int .i64 ca, .bool na, .string ta, .int .i64 ea] 23)
  have HB0 : Hid (Below w.heap.size w ((w.alloc (.cells #[.int .i64 k, .int .i64 mf, .int .i64 xf, .int .i64 ms, .int .i64 xs, .bool st, .int .i64 cs, .bool ns, .string ts, .int .i64 es, .int .i64 md, .bool hd, .int .i64 im, .int .i64 ix] 81)).alloc (.cells #[.int .i64 ca, .bool na, .string ta, .int .i64 ea] 23))) := (((Below.refl _ _).alloc (Nat.le_refl _) _).alloc (by simp <;> omega) _)
  obtain ⟨W, hW⟩ : ∃ W, W = ((w.alloc (.cells #[.int .i64 k, .int .i64 mf, .int .i64 xf, .int .i64 ms, .int .i64 xs, .bool st, .int .i64 cs, .bool ns, .string ts, .int .i64 es, .int .i64 md, .bool hd, .int .i64 im, .int .i64 ix] 81)).alloc (.cells #[.int .i64 ca, .bool na, .string ta, .int .i64 ea] 23)) := ⟨_, rfl⟩
  rw [← hW] at HB0 Bp0 Ba0 
  have HW := hide hW
  clear hW
  obtain ⟨yp0, yp1, yp2, yp3, yp4, yp5, yp6, yp7, yp8, yp9, yp10, yp11, yp12, yp13⟩ := Bp0.out.fourteen
  obtain ⟨ya0, ya1, ya2, ya3⟩ := Ba0.out.four
  go_enter Tryz.func114, Tryz.ntmps114
  have b0 : Hid (Below W.heap.size W W.drew) := bdrewD W
  have C0 : Hid (∀ X, Hid (Below W.heap.size W X) → Calls Tryz.prog 111 #[prV k mf xf ms xs st cs ns ts es md hd im ix, dcV ca na ta ea] X fun e w' => e = .returned (.int .i64 sl) ∧ Hid (Below W.heap.size W w') ∧ w'.cell? ⟨w.heap.size, 0, none⟩ = some (.int .i64 k) ∧ w'.cell? ⟨w.heap.size, 1, none⟩ = some (.int .i64 mf) ∧ w'.cell? ⟨w.heap.size, 2, none⟩ = some (.int .i64 xf) ∧ w'.cell? ⟨w.heap.size, 3, none⟩ = some (.int .i64 ms) ∧ w'.cell? ⟨w.heap.size, 4, none⟩ = some (.int .i64 xs) ∧ w'.cell? ⟨w.heap.size, 5, none⟩ = some (.bool st) ∧ w'.cell? ⟨w.heap.size, 6, none⟩ = some (.int .i64 cs) ∧ w'.cell? ⟨w.heap.size, 7, none⟩ = some (.bool ns) ∧ w'.cell? ⟨w.heap.size, 8, none⟩ = some (.string ts) ∧ w'.cell? ⟨w.heap.size, 9, none⟩ = some (.int .i64 es) ∧ w'.cell? ⟨w.heap.size, 10, none⟩ = some (.int .i64 md) ∧ w'.cell? ⟨w.heap.size, 11, none⟩ = some (.bool hd) ∧ w'.cell? ⟨w.heap.size, 12, none⟩ = some (.int .i64 im) ∧ w'.cell? ⟨w.heap.size, 13, none⟩ = some (.int .i64 ix) ∧ w'.cell? ⟨w.heap.size + 1, 0, none⟩ = some (.int .i64 ca) ∧ w'.cell? ⟨w.heap.size + 1, 1, none⟩ = some (.bool na) ∧ w'.cell? ⟨w.heap.size + 1, 2, none⟩ = some (.string ta) ∧ w'.cell? ⟨w.heap.size + 1, 3, none⟩ = some (.int .i64 ea)) := by
    intro X bX
    refine (HP.out X).mono ?_
    rintro e w' ⟨rfl, hb⟩
    have bb := bX.out.trans (hb.mono bX.out.size)
    have Bpq := Bp0.out.below bb Bp0.out.lt
    have Baq := Ba0.out.below bb Ba0.out.lt
    exact ⟨rfl, bb, Bpq.cell 0, Bpq.cell 1, Bpq.cell 2, Bpq.cell 3, Bpq.cell 4, Bpq.cell 5, Bpq.cell 6, Bpq.cell 7, Bpq.cell 8, Bpq.cell 9, Bpq.cell 10, Bpq.cell 11, Bpq.cell 12, Bpq.cell 13, Baq.cell 0, Baq.cell 1, Baq.cell 2, Baq.cell 3⟩
  go_wp2_with fail
  simp only [← HW.out]
  have mk0 : True := trivial
  go_region_held3 (fun w' => w'.cell? ⟨w.heap.size, 0, none⟩ = some (.int .i64 k) ∧ w'.cell? ⟨w.heap.size, 1, none⟩ = some (.int .i64 mf) ∧ w'.cell? ⟨w.heap.size, 2, none⟩ = some (.int .i64 xf) ∧ w'.cell? ⟨w.heap.size, 3, none⟩ = some (.int .i64 ms) ∧ w'.cell? ⟨w.heap.size, 4, none⟩ = some (.int .i64 xs) ∧ w'.cell? ⟨w.heap.size, 5, none⟩ = some (.bool st) ∧ w'.cell? ⟨w.heap.size, 6, none⟩ = some (.int .i64 cs) ∧ w'.cell? ⟨w.heap.size, 7, none⟩ = some (.bool ns) ∧ w'.cell? ⟨w.heap.size, 8, none⟩ = some (.string ts) ∧ w'.cell? ⟨w.heap.size, 9, none⟩ = some (.int .i64 es) ∧ w'.cell? ⟨w.heap.size, 10, none⟩ = some (.int .i64 md) ∧ w'.cell? ⟨w.heap.size, 11, none⟩ = some (.bool hd) ∧ w'.cell? ⟨w.heap.size, 12, none⟩ = some (.int .i64 im) ∧ w'.cell? ⟨w.heap.size, 13, none⟩ = some (.int .i64 ix) ∧ w'.cell? ⟨w.heap.size + 1, 0, none⟩ = some (.int .i64 ca) ∧ w'.cell? ⟨w.heap.size + 1, 1, none⟩ = some (.bool na) ∧ w'.cell? ⟨w.heap.size + 1, 2, none⟩ = some (.string ta) ∧ w'.cell? ⟨w.heap.size + 1, 3, none⟩ = some (.int .i64 ea)) (go_keep) (first
    | (clear mk0; go_at_call 111; refine (C0.out _ b0).mono ?_; rintro e w1 ⟨rfl, b1, q0_0, q0_1, q0_2, q0_3, q0_4, q0_5, q0_6, q0_7, q0_8, q0_9, q0_10, q0_11, q0_12, q0_13, q0_14, q0_15, q0_16, q0_17⟩; have mk1 : True := trivial))
  have Bp1 := hide (Bp0.out.below b1.out Bp0.out.lt)
  have Ba1 := hide (Ba0.out.below b1.out Ba0.out.lt)
  have HB1 := hide (HB0.out.trans (b1.out.mono HB0.out.size))
  clear mk1 b0 b1 C0 q0_0 q0_1 q0_2 q0_3 q0_4 q0_5 q0_6 q0_7 q0_8 q0_9 q0_10 q0_11 q0_12 q0_13 q0_14 q0_15 q0_16 q0_17 Bp0 Ba0 HB0 yp0 yp1 yp2 yp3 yp4 yp5 yp6 yp7 yp8 yp9 yp10 yp11 yp12 yp13 ya0 ya1 ya2 ya3
  obtain ⟨yp0, yp1, yp2, yp3, yp4, yp5, yp6, yp7, yp8, yp9, yp10, yp11, yp12, yp13⟩ := Bp1.out.fourteen
  obtain ⟨ya0, ya1, ya2, ya3⟩ := Ba1.out.four
  go_wp2
  go_ret
  exact ⟨rfl, HB1.out⟩

end Go.Proofs.YtckijnlolmbdiaaGreatDoor

namespace Go.Proofs.YtckijnlolmbdiaaGreatDoor
open Go.RowKit

def shVal (s : ShownT) : Value := .agg #[.int .i64 s.cls, .bool s.neg, .string ⟨s.int.toArray⟩, .string ⟨s.frac.toArray⟩, .int .i64 s.exp, .bool s.compact]
def shErr (r : ShownT × Int) : Value := .tuple #[shVal r.1, .int .i64 r.2]

theorem rnd_k0 (mf xf ms xs : Int) (st : Bool) (cs : Int) (ns : Bool) (ts : ByteArray) (es md : Int) (hd : Bool) (im ix ca : Int) (na : Bool) (ta : ByteArray) (ea : Int) (w : World) (_htab : Tab w) (h : MayD ca na (bys ta) ea)  : Calls Tryz.prog 104 #[prV 0 mf xf ms xs st cs ns ts es md hd im ix, dcV ca na ta ea] w fun e w' => e = .returned (decErr (roundP ⟨0, mf, xf, ms, xs, st, cs, ns, bys ts, es, md, hd, im, ix⟩ ca na (bys ta) ea)) ∧ Below w.heap.size w w' := by
  rw [roundP_0 rfl]
  have g := asItIs_any 0 mf xf ms xs st cs ns ts es md hd im ix ca na ta ea w
  unfold decErr decVal
  simp only
  rw [mk_bys, ← may_cls h]
  exact g

theorem least_k0 (mf xf ms xs : Int) (st : Bool) (cs : Int) (ns : Bool) (ts : ByteArray) (es md : Int) (hd : Bool) (im ix : Int) (nr : Bool) (tr : ByteArray) (er : Int) (w : World) (_h : MayD 0 nr (bys tr) er)  : Calls Tryz.prog 105 #[prV 0 mf xf ms xs st cs ns ts es md hd im ix, dcV 0 nr tr er] w fun e w' => e = .returned (.int .i64 (leastP ⟨0, mf, xf, ms, xs, st, cs, ns, bys ts, es, md, hd, im, ix⟩ ⟨0, nr, bys tr, er⟩)) ∧ Below w.heap.size w w' := by
  rw [show leastP ⟨0, mf, xf, ms, xs, st, cs, ns, bys ts, es, md, hd, im, ix⟩ ⟨0, nr, bys tr, er⟩ = 0 by unfold leastP; rw [if_pos rfl]]
  exact none_any 0 mf xf ms xs st cs ns ts es md hd im ix 0 nr tr er w

theorem Show_k0 (ca : Int) (na : Bool) (ta : ByteArray) (ea mf xf ms xs : Int) (st : Bool) (cs : Int) (ns : Bool) (ts : ByteArray) (es md : Int) (hd : Bool) (im ix : Int) (w : World) (htab : Tab w) (h : MayD ca na (bys ta) ea) (hp : MayP ⟨0, mf, xf, ms, xs, st, cs, ns, bys ts, es, md, hd, im, ix⟩) : Calls Tryz.prog 22 #[dcV ca na ta ea, prV 0 mf xf ms xs st cs ns ts es md hd im ix] w fun e w' => e = .returned (shErr (showP ca na (bys ta) ea ⟨0, mf, xf, ms, xs, st, cs, ns, bys ts, es, md, hd, im, ix⟩)) ∧ Below w.heap.size w w' := by
  have hm := roundP_may hp h
  have RN := fun W hW => rnd_k0 mf xf ms xs st cs ns ts es md hd im ix ca na ta ea W hW h
  have e1 := fun q => showP_err h hp q
  have e2 := fun q => showP_in h hp q
  have lp := leastP_in hp hm
  generalize roundP ⟨0, mf, xf, ms, xs, st, cs, ns, bys ts, es, md, hd, im, ix⟩ ca na (bys ta) ea = r at hm RN e1 e2 lp
  obtain ⟨⟨c, n, l, e⟩, er⟩ := r
  simp only at hm e1 e2 lp
  have hz : c = 0 → MayD 0 n (bys ⟨l.toArray⟩) e := by rintro rfl; rw [bys_mk]; exact hm
  refine show_k0 ca na ta ea mf xf ms xs st cs ns ts es md hd im ix (c : Int) n ⟨l.toArray⟩ e er (leastP ⟨0, mf, xf, ms, xs, st, cs, ns, bys ts, es, md, hd, im, ix⟩ ⟨c, n, l, e⟩) ⟨(digitsP ⟨0, mf, xf, ms, xs, st, cs, ns, bys ts, es, md, hd, im, ix⟩ ⟨c, n, l, e⟩ (leastP ⟨0, mf, xf, ms, xs, st, cs, ns, bys ts, es, md, hd, im, ix⟩ ⟨c, n, l, e⟩)).1.toArray⟩ ⟨(digitsP ⟨0, mf, xf, ms, xs, st, cs, ns, bys ts, es, md, hd, im, ix⟩ ⟨c, n, l, e⟩ (leastP ⟨0, mf, xf, ms, xs, st, cs, ns, bys ts, es, md, hd, im, ix⟩ ⟨c, n, l, e⟩)).2.toArray⟩ _ w htab h (fun W hW => check_tP 0 mf xf ms xs st cs ns ts es md hd im ix W hW hp) RN ?_ ?_ ?_ ?_ ?_
  · intro _ hc W
    have hc : c = 0 := by omega
    subst hc
    have g := least_k0 mf xf ms xs st cs ns ts es md hd im ix n ⟨l.toArray⟩ e W (hz rfl)
    rw [bys_mk] at g
    exact g
  · intro _ hc W
    have hc : c = 0 := by omega
    subst hc
    have g := xdigits_any 0 mf xf ms xs st cs ns ts es md hd im ix n ⟨l.toArray⟩ e (leastP ⟨0, mf, xf, ms, xs, st, cs, ns, bys ts, es, md, hd, im, ix⟩ ⟨0, n, l, e⟩) W (hz rfl) hp.2.1 (by omega) (by omega)
    rw [bys_mk] at g
    exact g
  · intro q
    rw [e1 q]; rfl
  · intro q hc
    rw [e2 q]
    unfold shownP
    rw [if_neg (by simp only; omega)]
    rfl
  · intro q hc
    have hc : c = 0 := by omega
    subst hc
    rw [e2 q]
    rfl

theorem rnd_k1 (mf xf ms xs : Int) (st : Bool) (cs : Int) (ns : Bool) (ts : ByteArray) (es md : Int) (hd : Bool) (im ix ca : Int) (na : Bool) (ta : ByteArray) (ea : Int) (w : World) (htab : Tab w) (_h : MayD ca na (bys ta) ea) (g1 : 0 ≤ xf) (g2 : xf ≤ 99) : Calls Tryz.prog 107 #[prV 1 mf xf ms xs st cs ns ts es md hd im ix, dcV ca na ta ea] w fun e w' => e = .returned (decErr (roundP ⟨1, mf, xf, ms, xs, st, cs, ns, bys ts, es, md, hd, im, ix⟩ ca na (bys ta) ea)) ∧ Below w.heap.size w w' := by
  rw [roundP_1 rfl]
  exact atFrac_g 1 mf xf ms xs st cs ns ts es md hd im ix ca na ta ea _ _ _ _ _ w htab (fun W hW => At_any ca na ta ea (-xf) md W hW) g1 g2

theorem least_k1 (mf xf ms xs : Int) (st : Bool) (cs : Int) (ns : Bool) (ts : ByteArray) (es md : Int) (hd : Bool) (im ix : Int) (nr : Bool) (tr : ByteArray) (er : Int) (w : World) (_h : MayD 0 nr (bys tr) er)  : Calls Tryz.prog 108 #[prV 1 mf xf ms xs st cs ns ts es md hd im ix, dcV 0 nr tr er] w fun e w' => e = .returned (.int .i64 (leastP ⟨1, mf, xf, ms, xs, st, cs, ns, bys ts, es, md, hd, im, ix⟩ ⟨0, nr, bys tr, er⟩)) ∧ Below w.heap.size w w' := by
  rw [show leastP ⟨1, mf, xf, ms, xs, st, cs, ns, bys ts, es, md, hd, im, ix⟩ ⟨0, nr, bys tr, er⟩ = mf by unfold leastP; simp]
  exact minFrac_any 1 mf xf ms xs st cs ns ts es md hd im ix 0 nr tr er w

theorem Show_k1 (ca : Int) (na : Bool) (ta : ByteArray) (ea mf xf ms xs : Int) (st : Bool) (cs : Int) (ns : Bool) (ts : ByteArray) (es md : Int) (hd : Bool) (im ix : Int) (w : World) (htab : Tab w) (h : MayD ca na (bys ta) ea) (hp : MayP ⟨1, mf, xf, ms, xs, st, cs, ns, bys ts, es, md, hd, im, ix⟩) : Calls Tryz.prog 22 #[dcV ca na ta ea, prV 1 mf xf ms xs st cs ns ts es md hd im ix] w fun e w' => e = .returned (shErr (showP ca na (bys ta) ea ⟨1, mf, xf, ms, xs, st, cs, ns, bys ts, es, md, hd, im, ix⟩)) ∧ Below w.heap.size w w' := by
  obtain ⟨⟨⟨q1, q2⟩, q3⟩, _⟩ := mayP_1 hp rfl
  simp only at q1 q2 q3
  have hm := roundP_may hp h
  have RN := fun W hW => rnd_k1 mf xf ms xs st cs ns ts es md hd im ix ca na ta ea W hW h (by omega) q3
  have e1 := fun q => showP_err h hp q
  have e2 := fun q => showP_in h hp q
  have lp := leastP_in hp hm
  generalize roundP ⟨1, mf, xf, ms, xs, st, cs, ns, bys ts, es, md, hd, im, ix⟩ ca na (bys ta) ea = r at hm RN e1 e2 lp
  obtain ⟨⟨c, n, l, e⟩, er⟩ := r
  simp only at hm e1 e2 lp
  have hz : c = 0 → MayD 0 n (bys ⟨l.toArray⟩) e := by rintro rfl; rw [bys_mk]; exact hm
  refine show_k1 ca na ta ea mf xf ms xs st cs ns ts es md hd im ix (c : Int) n ⟨l.toArray⟩ e er (leastP ⟨1, mf, xf, ms, xs, st, cs, ns, bys ts, es, md, hd, im, ix⟩ ⟨c, n, l, e⟩) ⟨(digitsP ⟨1, mf, xf, ms, xs, st, cs, ns, bys ts, es, md, hd, im, ix⟩ ⟨c, n, l, e⟩ (leastP ⟨1, mf, xf, ms, xs, st, cs, ns, bys ts, es, md, hd, im, ix⟩ ⟨c, n, l, e⟩)).1.toArray⟩ ⟨(digitsP ⟨1, mf, xf, ms, xs, st, cs, ns, bys ts, es, md, hd, im, ix⟩ ⟨c, n, l, e⟩ (leastP ⟨1, mf, xf, ms, xs, st, cs, ns, bys ts, es, md, hd, im, ix⟩ ⟨c, n, l, e⟩)).2.toArray⟩ _ w htab h (fun W hW => check_tP 1 mf xf ms xs st cs ns ts es md hd im ix W hW hp) RN ?_ ?_ ?_ ?_ ?_
  · intro _ hc W
    have hc : c = 0 := by omega
    subst hc
    have g := least_k1 mf xf ms xs st cs ns ts es md hd im ix n ⟨l.toArray⟩ e W (hz rfl)
    rw [bys_mk] at g
    exact g
  · intro _ hc W
    have hc : c = 0 := by omega
    subst hc
    have g := xdigits_any 1 mf xf ms xs st cs ns ts es md hd im ix n ⟨l.toArray⟩ e (leastP ⟨1, mf, xf, ms, xs, st, cs, ns, bys ts, es, md, hd, im, ix⟩ ⟨0, n, l, e⟩) W (hz rfl) hp.2.1 (by omega) (by omega)
    rw [bys_mk] at g
    exact g
  · intro q
    rw [e1 q]; rfl
  · intro q hc
    rw [e2 q]
    unfold shownP
    rw [if_neg (by simp only; omega)]
    rfl
  · intro q hc
    have hc : c = 0 := by omega
    subst hc
    rw [e2 q]
    rfl

theorem rnd_k2 (mf xf ms xs : Int) (st : Bool) (cs : Int) (ns : Bool) (ts : ByteArray) (es md : Int) (hd : Bool) (im ix ca : Int) (na : Bool) (ta : ByteArray) (ea : Int) (w : World) (htab : Tab w) (_h : MayD ca na (bys ta) ea)  : Calls Tryz.prog 110 #[prV 2 mf xf ms xs st cs ns ts es md hd im ix, dcV ca na ta ea] w fun e w' => e = .returned (decErr (roundP ⟨2, mf, xf, ms, xs, st, cs, ns, bys ts, es, md, hd, im, ix⟩ ca na (bys ta) ea)) ∧ Below w.heap.size w w' := by
  rw [roundP_2 rfl]
  exact toSig_g 2 mf xf ms xs st cs ns ts es md hd im ix ca na ta ea _ _ _ _ _ w htab (fun W hW => Digits_any ca na ta ea xs md W hW)

theorem least_k2 (mf xf ms xs : Int) (st : Bool) (cs : Int) (ns : Bool) (ts : ByteArray) (es md : Int) (hd : Bool) (im ix : Int) (nr : Bool) (tr : ByteArray) (er : Int) (w : World) (h : MayD 0 nr (bys tr) er) (g1 : 0 ≤ ms) (g2 : ms ≤ 99) : Calls Tryz.prog 111 #[prV 2 mf xf ms xs st cs ns ts es md hd im ix, dcV 0 nr tr er] w fun e w' => e = .returned (.int .i64 (leastP ⟨2, mf, xf, ms, xs, st, cs, ns, bys ts, es, md, hd, im, ix⟩ ⟨0, nr, bys tr, er⟩)) ∧ Below w.heap.size w w' := by
  obtain ⟨b1, b2, b3, b4⟩ := may_place h
  have FS : ∀ W, Calls Tryz.prog 111 #[prV 2 mf xf ms xs st cs ns ts es md hd im ix, dcV 0 nr tr er] W fun e w' => e = .returned (.int .i64 (sigL ⟨2, mf, xf, ms, xs, st, cs, ns, bys ts, es, md, hd, im, ix⟩ ⟨0, nr, bys tr, er⟩)) ∧ Below W.heap.size W w' := by
    intro W
    unfold sigL
    simp only
    by_cases h0 : tr.size = 0
    · rw [if_pos (bys_nil.2 h0)]
      obtain rfl := nil_size h0
      exact fracOfSig_z 2 mf xf ms xs st cs ns ts es md hd im ix 0 nr er W g1 g2
    · rw [if_neg (fun g => h0 (bys_nil.1 g)), bys_len]
      exact fracOfSig_n 2 mf xf ms xs st cs ns ts es md hd im ix 0 nr tr er _ W (fun X => Place_yes 0 nr tr er X h) h0 g1 g2 (by omega) (by omega)
  rw [show leastP ⟨2, mf, xf, ms, xs, st, cs, ns, bys ts, es, md, hd, im, ix⟩ ⟨0, nr, bys tr, er⟩ = sigL ⟨2, mf, xf, ms, xs, st, cs, ns, bys ts, es, md, hd, im, ix⟩ ⟨0, nr, bys tr, er⟩ by unfold leastP; simp]
  exact FS w

theorem Show_k2 (ca : Int) (na : Bool) (ta : ByteArray) (ea mf xf ms xs : Int) (st : Bool) (cs : Int) (ns : Bool) (ts : ByteArray) (es md : Int) (hd : Bool) (im ix : Int) (w : World) (htab : Tab w) (h : MayD ca na (bys ta) ea) (hp : MayP ⟨2, mf, xf, ms, xs, st, cs, ns, bys ts, es, md, hd, im, ix⟩) : Calls Tryz.prog 22 #[dcV ca na ta ea, prV 2 mf xf ms xs st cs ns ts es md hd im ix] w fun e w' => e = .returned (shErr (showP ca na (bys ta) ea ⟨2, mf, xf, ms, xs, st, cs, ns, bys ts, es, md, hd, im, ix⟩)) ∧ Below w.heap.size w w' := by
  obtain ⟨_, ⟨⟨q1, q2⟩, q3⟩, _⟩ := mayP_2 hp rfl
  simp only at q1 q2 q3
  have hm := roundP_may hp h
  have RN := fun W hW => rnd_k2 mf xf ms xs st cs ns ts es md hd im ix ca na ta ea W hW h
  have e1 := fun q => showP_err h hp q
  have e2 := fun q => showP_in h hp q
  have lp := leastP_in hp hm
  generalize roundP ⟨2, mf, xf, ms, xs, st, cs, ns, bys ts, es, md, hd, im, ix⟩ ca na (bys ta) ea = r at hm RN e1 e2 lp
  obtain ⟨⟨c, n, l, e⟩, er⟩ := r
  simp only at hm e1 e2 lp
  have hz : c = 0 → MayD 0 n (bys ⟨l.toArray⟩) e := by rintro rfl; rw [bys_mk]; exact hm
  refine show_k2 ca na ta ea mf xf ms xs st cs ns ts es md hd im ix (c : Int) n ⟨l.toArray⟩ e er (leastP ⟨2, mf, xf, ms, xs, st, cs, ns, bys ts, es, md, hd, im, ix⟩ ⟨c, n, l, e⟩) ⟨(digitsP ⟨2, mf, xf, ms, xs, st, cs, ns, bys ts, es, md, hd, im, ix⟩ ⟨c, n, l, e⟩ (leastP ⟨2, mf, xf, ms, xs, st, cs, ns, bys ts, es, md, hd, im, ix⟩ ⟨c, n, l, e⟩)).1.toArray⟩ ⟨(digitsP ⟨2, mf, xf, ms, xs, st, cs, ns, bys ts, es, md, hd, im, ix⟩ ⟨c, n, l, e⟩ (leastP ⟨2, mf, xf, ms, xs, st, cs, ns, bys ts, es, md, hd, im, ix⟩ ⟨c, n, l, e⟩)).2.toArray⟩ _ w htab h (fun W hW => check_tP 2 mf xf ms xs st cs ns ts es md hd im ix W hW hp) RN ?_ ?_ ?_ ?_ ?_
  · intro _ hc W
    have hc : c = 0 := by omega
    subst hc
    have g := least_k2 mf xf ms xs st cs ns ts es md hd im ix n ⟨l.toArray⟩ e W (hz rfl) (by omega) (by omega)
    rw [bys_mk] at g
    exact g
  · intro _ hc W
    have hc : c = 0 := by omega
    subst hc
    have g := xdigits_any 2 mf xf ms xs st cs ns ts es md hd im ix n ⟨l.toArray⟩ e (leastP ⟨2, mf, xf, ms, xs, st, cs, ns, bys ts, es, md, hd, im, ix⟩ ⟨0, n, l, e⟩) W (hz rfl) hp.2.1 (by omega) (by omega)
    rw [bys_mk] at g
    exact g
  · intro q
    rw [e1 q]; rfl
  · intro q hc
    rw [e2 q]
    unfold shownP
    rw [if_neg (by simp only; omega)]
    rfl
  · intro q hc
    have hc : c = 0 := by omega
    subst hc
    rw [e2 q]
    rfl

theorem rnd_k3 (mf xf ms xs : Int) (st : Bool) (cs : Int) (ns : Bool) (ts : ByteArray) (es md : Int) (hd : Bool) (im ix ca : Int) (na : Bool) (ta : ByteArray) (ea : Int) (w : World) (htab : Tab w) (h : MayD ca na (bys ta) ea) (g1 : 0 ≤ xf) (g2 : xf ≤ 99) (g3 : 0 ≤ xs) (g4 : xs ≤ 99) : Calls Tryz.prog 113 #[prV 3 mf xf ms xs st cs ns ts es md hd im ix, dcV ca na ta ea] w fun e w' => e = .returned (decErr (roundP ⟨3, mf, xf, ms, xs, st, cs, ns, bys ts, es, md, hd, im, ix⟩ ca na (bys ta) ea)) ∧ Below w.heap.size w w' := by
  obtain ⟨b1, b2, b3, b4⟩ := may_place h
  rw [roundP_3 rfl, bys_len]
  unfold bothAt
  simp only
  cases st
  · simp only [Bool.false_eq_true, if_false]
    exact atBoth_false 3 mf xf ms xs cs ns ts es md hd im ix ca na ta ea _ _ _ _ _ _ w htab (fun W => Place_yes ca na ta ea W h) (fun W hW => At_any ca na ta ea (min (-xf) ((ta.size : Int) + ea - xs)) md W hW) g1 g2 (by omega) (by omega) g3 g4
  · simp only [if_true]
    exact atBoth_true 3 mf xf ms xs cs ns ts es md hd im ix ca na ta ea _ _ _ _ _ _ w htab (fun W => Place_yes ca na ta ea W h) (fun W hW => At_any ca na ta ea (max (-xf) ((ta.size : Int) + ea - xs)) md W hW) g1 g2 (by omega) (by omega) g3 g4

theorem least_k3 (mf xf ms xs : Int) (st : Bool) (cs : Int) (ns : Bool) (ts : ByteArray) (es md : Int) (hd : Bool) (im ix : Int) (nr : Bool) (tr : ByteArray) (er : Int) (w : World) (h : MayD 0 nr (bys tr) er) (g1 : 0 ≤ ms) (g2 : ms ≤ 99) : Calls Tryz.prog 114 #[prV 3 mf xf ms xs st cs ns ts es md hd im ix, dcV 0 nr tr er] w fun e w' => e = .returned (.int .i64 (leastP ⟨3, mf, xf, ms, xs, st, cs, ns, bys ts, es, md, hd, im, ix⟩ ⟨0, nr, bys tr, er⟩)) ∧ Below w.heap.size w w' := by
  obtain ⟨b1, b2, b3, b4⟩ := may_place h
  have FS : ∀ W, Calls Tryz.prog 111 #[prV 3 mf xf ms xs st cs ns ts es md hd im ix, dcV 0 nr tr er] W fun e w' => e = .returned (.int .i64 (sigL ⟨3, mf, xf, ms, xs, st, cs, ns, bys ts, es, md, hd, im, ix⟩ ⟨0, nr, bys tr, er⟩)) ∧ Below W.heap.size W w' := by
    intro W
    unfold sigL
    simp only
    by_cases h0 : tr.size = 0
    · rw [if_pos (bys_nil.2 h0)]
      obtain rfl := nil_size h0
      exact fracOfSig_z 3 mf xf ms xs st cs ns ts es md hd im ix 0 nr er W g1 g2
    · rw [if_neg (fun g => h0 (bys_nil.1 g)), bys_len]
      exact fracOfSig_n 3 mf xf ms xs st cs ns ts es md hd im ix 0 nr tr er _ W (fun X => Place_yes 0 nr tr er X h) h0 g1 g2 (by omega) (by omega)
  rw [show leastP ⟨3, mf, xf, ms, xs, st, cs, ns, bys ts, es, md, hd, im, ix⟩ ⟨0, nr, bys tr, er⟩ = max mf (sigL ⟨3, mf, xf, ms, xs, st, cs, ns, bys ts, es, md, hd, im, ix⟩ ⟨0, nr, bys tr, er⟩) by unfold leastP; simp]
  exact fracOfBoth_g 3 mf xf ms xs st cs ns ts es md hd im ix 0 nr tr er _ w FS

theorem Show_k3 (ca : Int) (na : Bool) (ta : ByteArray) (ea mf xf ms xs : Int) (st : Bool) (cs : Int) (ns : Bool) (ts : ByteArray) (es md : Int) (hd : Bool) (im ix : Int) (w : World) (htab : Tab w) (h : MayD ca na (bys ta) ea) (hp : MayP ⟨3, mf, xf, ms, xs, st, cs, ns, bys ts, es, md, hd, im, ix⟩) : Calls Tryz.prog 22 #[dcV ca na ta ea, prV 3 mf xf ms xs st cs ns ts es md hd im ix] w fun e w' => e = .returned (shErr (showP ca na (bys ta) ea ⟨3, mf, xf, ms, xs, st, cs, ns, bys ts, es, md, hd, im, ix⟩)) ∧ Below w.heap.size w w' := by
  obtain ⟨⟨⟨q1, q2⟩, q3⟩, ⟨⟨q4, q5⟩, q6⟩, _⟩ := mayP_3 hp rfl
  simp only at q1 q2 q3 q4 q5 q6
  have hm := roundP_may hp h
  have RN := fun W hW => rnd_k3 mf xf ms xs st cs ns ts es md hd im ix ca na ta ea W hW h (by omega) q3 (by omega) q6
  have e1 := fun q => showP_err h hp q
  have e2 := fun q => showP_in h hp q
  have lp := leastP_in hp hm
  generalize roundP ⟨3, mf, xf, ms, xs, st, cs, ns, bys ts, es, md, hd, im, ix⟩ ca na (bys ta) ea = r at hm RN e1 e2 lp
  obtain ⟨⟨c, n, l, e⟩, er⟩ := r
  simp only at hm e1 e2 lp
  have hz : c = 0 → MayD 0 n (bys ⟨l.toArray⟩) e := by rintro rfl; rw [bys_mk]; exact hm
  refine show_k3 ca na ta ea mf xf ms xs st cs ns ts es md hd im ix (c : Int) n ⟨l.toArray⟩ e er (leastP ⟨3, mf, xf, ms, xs, st, cs, ns, bys ts, es, md, hd, im, ix⟩ ⟨c, n, l, e⟩) ⟨(digitsP ⟨3, mf, xf, ms, xs, st, cs, ns, bys ts, es, md, hd, im, ix⟩ ⟨c, n, l, e⟩ (leastP ⟨3, mf, xf, ms, xs, st, cs, ns, bys ts, es, md, hd, im, ix⟩ ⟨c, n, l, e⟩)).1.toArray⟩ ⟨(digitsP ⟨3, mf, xf, ms, xs, st, cs, ns, bys ts, es, md, hd, im, ix⟩ ⟨c, n, l, e⟩ (leastP ⟨3, mf, xf, ms, xs, st, cs, ns, bys ts, es, md, hd, im, ix⟩ ⟨c, n, l, e⟩)).2.toArray⟩ _ w htab h (fun W hW => check_tP 3 mf xf ms xs st cs ns ts es md hd im ix W hW hp) RN ?_ ?_ ?_ ?_ ?_
  · intro _ hc W
    have hc : c = 0 := by omega
    subst hc
    have g := least_k3 mf xf ms xs st cs ns ts es md hd im ix n ⟨l.toArray⟩ e W (hz rfl) (by omega) (by omega)
    rw [bys_mk] at g
    exact g
  · intro _ hc W
    have hc : c = 0 := by omega
    subst hc
    have g := xdigits_any 3 mf xf ms xs st cs ns ts es md hd im ix n ⟨l.toArray⟩ e (leastP ⟨3, mf, xf, ms, xs, st, cs, ns, bys ts, es, md, hd, im, ix⟩ ⟨0, n, l, e⟩) W (hz rfl) hp.2.1 (by omega) (by omega)
    rw [bys_mk] at g
    exact g
  · intro q
    rw [e1 q]; rfl
  · intro q hc
    rw [e2 q]
    unfold shownP
    rw [if_neg (by simp only; omega)]
    rfl
  · intro q hc
    have hc : c = 0 := by omega
    subst hc
    rw [e2 q]
    rfl

theorem rnd_k4 (mf xf ms xs : Int) (st : Bool) (cs : Int) (ns : Bool) (ts : ByteArray) (es md : Int) (hd : Bool) (im ix ca : Int) (na : Bool) (ta : ByteArray) (ea : Int) (w : World) (htab : Tab w) (_h : MayD ca na (bys ta) ea)  : Calls Tryz.prog 116 #[prV 4 mf xf ms xs st cs ns ts es md hd im ix, dcV ca na ta ea] w fun e w' => e = .returned (decErr (roundP ⟨4, mf, xf, ms, xs, st, cs, ns, bys ts, es, md, hd, im, ix⟩ ca na (bys ta) ea)) ∧ Below w.heap.size w w' := by
  rw [roundP_4 rfl]
  exact toStep_g 4 mf xf ms xs st cs ns ts es md hd im ix ca na ta ea _ _ _ _ _ w htab (fun W hW => Step_any ca na ta ea cs ns ts es md W hW)

theorem least_k4 (mf xf ms xs : Int) (st : Bool) (cs : Int) (ns : Bool) (ts : ByteArray) (es md : Int) (hd : Bool) (im ix : Int) (nr : Bool) (tr : ByteArray) (er : Int) (w : World) (_h : MayD 0 nr (bys tr) er)  : Calls Tryz.prog 108 #[prV 4 mf xf ms xs st cs ns ts es md hd im ix, dcV 0 nr tr er] w fun e w' => e = .returned (.int .i64 (leastP ⟨4, mf, xf, ms, xs, st, cs, ns, bys ts, es, md, hd, im, ix⟩ ⟨0, nr, bys tr, er⟩)) ∧ Below w.heap.size w w' := by
  rw [show leastP ⟨4, mf, xf, ms, xs, st, cs, ns, bys ts, es, md, hd, im, ix⟩ ⟨0, nr, bys tr, er⟩ = mf by unfold leastP; simp]
  exact minFrac_any 4 mf xf ms xs st cs ns ts es md hd im ix 0 nr tr er w

theorem Show_k4 (ca : Int) (na : Bool) (ta : ByteArray) (ea mf xf ms xs : Int) (st : Bool) (cs : Int) (ns : Bool) (ts : ByteArray) (es md : Int) (hd : Bool) (im ix : Int) (w : World) (htab : Tab w) (h : MayD ca na (bys ta) ea) (hp : MayP ⟨4, mf, xf, ms, xs, st, cs, ns, bys ts, es, md, hd, im, ix⟩) : Calls Tryz.prog 22 #[dcV ca na ta ea, prV 4 mf xf ms xs st cs ns ts es md hd im ix] w fun e w' => e = .returned (shErr (showP ca na (bys ta) ea ⟨4, mf, xf, ms, xs, st, cs, ns, bys ts, es, md, hd, im, ix⟩)) ∧ Below w.heap.size w w' := by
  have hm := roundP_may hp h
  have RN := fun W hW => rnd_k4 mf xf ms xs st cs ns ts es md hd im ix ca na ta ea W hW h
  have e1 := fun q => showP_err h hp q
  have e2 := fun q => showP_in h hp q
  have lp := leastP_in hp hm
  generalize roundP ⟨4, mf, xf, ms, xs, st, cs, ns, bys ts, es, md, hd, im, ix⟩ ca na (bys ta) ea = r at hm RN e1 e2 lp
  obtain ⟨⟨c, n, l, e⟩, er⟩ := r
  simp only at hm e1 e2 lp
  have hz : c = 0 → MayD 0 n (bys ⟨l.toArray⟩) e := by rintro rfl; rw [bys_mk]; exact hm
  refine show_k4 ca na ta ea mf xf ms xs st cs ns ts es md hd im ix (c : Int) n ⟨l.toArray⟩ e er (leastP ⟨4, mf, xf, ms, xs, st, cs, ns, bys ts, es, md, hd, im, ix⟩ ⟨c, n, l, e⟩) ⟨(digitsP ⟨4, mf, xf, ms, xs, st, cs, ns, bys ts, es, md, hd, im, ix⟩ ⟨c, n, l, e⟩ (leastP ⟨4, mf, xf, ms, xs, st, cs, ns, bys ts, es, md, hd, im, ix⟩ ⟨c, n, l, e⟩)).1.toArray⟩ ⟨(digitsP ⟨4, mf, xf, ms, xs, st, cs, ns, bys ts, es, md, hd, im, ix⟩ ⟨c, n, l, e⟩ (leastP ⟨4, mf, xf, ms, xs, st, cs, ns, bys ts, es, md, hd, im, ix⟩ ⟨c, n, l, e⟩)).2.toArray⟩ _ w htab h (fun W hW => check_tP 4 mf xf ms xs st cs ns ts es md hd im ix W hW hp) RN ?_ ?_ ?_ ?_ ?_
  · intro _ hc W
    have hc : c = 0 := by omega
    subst hc
    have g := least_k4 mf xf ms xs st cs ns ts es md hd im ix n ⟨l.toArray⟩ e W (hz rfl)
    rw [bys_mk] at g
    exact g
  · intro _ hc W
    have hc : c = 0 := by omega
    subst hc
    have g := xdigits_any 4 mf xf ms xs st cs ns ts es md hd im ix n ⟨l.toArray⟩ e (leastP ⟨4, mf, xf, ms, xs, st, cs, ns, bys ts, es, md, hd, im, ix⟩ ⟨0, n, l, e⟩) W (hz rfl) hp.2.1 (by omega) (by omega)
    rw [bys_mk] at g
    exact g
  · intro q
    rw [e1 q]; rfl
  · intro q hc
    rw [e2 q]
    unfold shownP
    rw [if_neg (by simp only; omega)]
    rfl
  · intro q hc
    have hc : c = 0 := by omega
    subst hc
    rw [e2 q]
    rfl

theorem Show_any (ca : Int) (na : Bool) (ta : ByteArray) (ea k mf xf ms xs : Int) (st : Bool) (cs : Int) (ns : Bool) (ts : ByteArray) (es md : Int) (hd : Bool) (im ix : Int) (w : World) (htab : Tab w) : Calls Tryz.prog 22 #[dcV ca na ta ea, prV k mf xf ms xs st cs ns ts es md hd im ix] w fun e w' => e = .returned (shErr (showP ca na (bys ta) ea ⟨k, mf, xf, ms, xs, st, cs, ns, bys ts, es, md, hd, im, ix⟩)) ∧ Below w.heap.size w w' := by
  by_cases h : MayD ca na (bys ta) ea
  · by_cases hp : MayP ⟨k, mf, xf, ms, xs, st, cs, ns, bys ts, es, md, hd, im, ix⟩
    · have hk : k = 0 ∨ k = 1 ∨ k = 2 ∨ k = 3 ∨ k = 4 := mayP_kind hp
      rcases hk with rfl | rfl | rfl | rfl | rfl
      · exact Show_k0 ca na ta ea mf xf ms xs st cs ns ts es md hd im ix w htab h hp
      · exact Show_k1 ca na ta ea mf xf ms xs st cs ns ts es md hd im ix w htab h hp
      · exact Show_k2 ca na ta ea mf xf ms xs st cs ns ts es md hd im ix w htab h hp
      · exact Show_k3 ca na ta ea mf xf ms xs st cs ns ts es md hd im ix w htab h hp
      · exact Show_k4 ca na ta ea mf xf ms xs st cs ns ts es md hd im ix w htab h hp
    · rw [showP_bad h hp]
      exact show_bad ca na ta ea k mf xf ms xs st cs ns ts es md hd im ix w htab h hp
  · rw [showP_no h]
    exact show_no ca na ta ea k mf xf ms xs st cs ns ts es md hd im ix w h

end Go.Proofs.YtckijnlolmbdiaaGreatDoor
