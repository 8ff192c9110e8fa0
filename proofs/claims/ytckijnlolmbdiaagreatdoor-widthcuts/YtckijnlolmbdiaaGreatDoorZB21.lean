/-
  Plain mathematics: what is shown with a cut, and without.
  WidthCuts answers true, whatever it is handed.
-/
import Derived.Test.YtckijnlolmbdiaaGreatDoorZB7
import Derived.Test.YtckijnlolmbdiaaGreatDoorZB13
namespace Go.Proofs.YtckijnlolmbdiaaGreatDoor

theorem shown_q (p : PrecT) (r : DecT) (hx : p.imax ≠ 0) (hx2 : 0 ≤ p.imax) : (r.cls ≠ 0 ∧ shownP p r = shownP {p with imax := 0} r) ∨ (r.cls = 0 ∧ ((shownP {p with imax := 0} r).int.length ≤ p.imax ∧ shownP p r = shownP {p with imax := 0} r ∨ ∃ q : Nat, 0 < q ∧ p.imax + q = (shownP {p with imax := 0} r).int.length ∧ shownP p r = {shownP {p with imax := 0} r with int := (shownP {p with imax := 0} r).int.drop q})) := by
  by_cases hc : r.cls = 0
  · refine .inr ⟨hc, ?_⟩
    have e1 : leastP {p with imax := 0} r = leastP p r := rfl
    have e2 : fracP {p with imax := 0} (behindD r.dig r.exp) (leastP p r) = fracP p (behindD r.dig r.exp) (leastP p r) := rfl
    have e3 : wholeP {p with imax := 0} (aheadD r.dig r.exp) = fillI p (aheadD r.dig r.exp) := by unfold wholeP; rw [if_neg (by simp)]; rfl
    unfold shownP
    rw [if_pos hc, if_pos hc, e1]
    unfold digitsP
    rw [e2, e3]
    by_cases h1 : p.imax < ((fillI p (aheadD r.dig r.exp)).length : Int)
    · have hne : fillI p (aheadD r.dig r.exp) ≠ [] := by
        intro g; rw [g] at h1; simp at h1; omega
      have hne2 : (fillI p (aheadD r.dig r.exp)).drop (((fillI p (aheadD r.dig r.exp)).length : Int) - p.imax).toNat ≠ [] := by
        intro g
        have := congrArg List.length g
        rw [List.length_drop, List.length_nil] at this
        omega
      have e4 : wholeP p (aheadD r.dig r.exp) = (fillI p (aheadD r.dig r.exp)).drop (((fillI p (aheadD r.dig r.exp)).length : Int) - p.imax).toNat := by unfold wholeP; rw [if_pos ⟨by omega, h1⟩]
      rw [e4, if_neg (fun g => hne g.1), if_neg (fun g => hne2 g.1)]
      refine .inr ⟨(((fillI p (aheadD r.dig r.exp)).length : Int) - p.imax).toNat, by omega, by simp only; omega, rfl⟩
    · have e4 : wholeP p (aheadD r.dig r.exp) = fillI p (aheadD r.dig r.exp) := by unfold wholeP; rw [if_neg (fun g => h1 g.2)]
      rw [e4]
      refine .inl ⟨?_, rfl⟩
      split
      · simp only [List.length_cons, List.length_nil]; omega
      · simp only; omega
  · refine .inl ⟨hc, ?_⟩
    unfold shownP
    rw [if_neg hc, if_neg hc]

end Go.Proofs.YtckijnlolmbdiaaGreatDoor

namespace Go.Proofs.YtckijnlolmbdiaaGreatDoor
open Go.RowKit

theorem Blk.sset2 {w : World} {b : Nat} {t : TypeId} {x0 x1 x2 x3 x4 x5 : Value} (h : Blk w b #[x0, x1, x2, x3, x4, x5] t) (y : Value) : Blk (w.setCell ⟨b, 2, none⟩ y) b #[x0, x1, y, x3, x4, x5] t := by
  unfold Blk at *
  simp only [World.setCell, Array.getElem?_modify, if_true, h, Option.map_some]
  rfl

set_option maxRecDepth 100000 in
set_option maxHeartbeats 4000000 in
theorem cuts_51 (ca : Int) (na : Bool) (ta : ByteArray) (ea k mf xf ms xs : Int) (st : Bool) (cs : Int) (ns : Bool) (ts : ByteArray) (es md : Int) (hd : Bool) (im ix uc : Int) (un : Bool) (ui uf : ByteArray) (ux : Int) (um : Bool) (uf2 : Int) (w : World) (htab : Tab w) (h1 : ∀ W, Tab W → Calls Tryz.prog 22 #[dcV ca na ta ea, prV k mf xf ms xs st cs ns ts es md hd im ix] W fun e w' => e = .returned (.tuple #[.agg #[.int .i64 0, .bool false, .string ⟨#[]⟩, .string ⟨#[]⟩, .int .i64 0, .bool false], .int .i64 51]) ∧ Below W.heap.size W w') (h2 : ∀ W, Tab W → Calls Tryz.prog 22 #[dcV ca na ta ea, prV k mf xf ms xs st cs ns ts es md hd im 0] W fun e w' => e = .returned (.tuple #[.agg #[.int .i64 uc, .bool un, .string ui, .string uf, .int .i64 ux, .bool um], .int .i64 uf2]) ∧ Below W.heap.size W w') : Calls Tryz.prog 9 #[dcV ca na ta ea, prV k mf xf ms xs st cs ns ts es md hd im ix] w fun e w' => e = .returned (.bool true) ∧ Below w.heap.size w w' := by
  have H1 := hide h1
  have H2 := hide h2
  have HT := hide htab
  clear htab h1 h2
  have Ba0 := hide ((Blk.newAt w (w.heap.size) (rfl) #[.int .i64 ca, .bool na, .string ta, .int .i64 ea] 23).alloc (.cells #[.int .i64 k, .int .i64 mf, .int .i64 xf, .int .i64 ms, .int .i64 xs, .bool st, .int .i64 cs, .bool ns, .string ts, .int .i64 es, .int .i64 md, .bool hd, .int .i64 im, .int .i64 ix] 32))
  have Bp0 := hide (Blk.newAt (w.alloc (.cells #[.int .i64 ca, .bool na, .string ta, .int .i64 ea] 23)) (w.heap.size + 1) (by simp) #[.int .i64 k, .int .i64 mf, .int .i64 xf, .int .i64 ms, .int .i64 xs, .bool st, .int .i64 cs, .bool ns, .string ts, .int .i64 es, .int .i64 md, .bool hd, .int .i64 im, .int .i64 ix] 32)
  have HB0 : Hid (Below w.heap.size w ((w.alloc (.cells #[.int .i64 ca, .bool na, .string ta, .int .i64 ea] 23)).alloc (.cells #[.int .i64 k, .int .i64 mf, .int .i64 xf, .int .i64 ms, .int .i64 xs, .bool st, .int .i64 cs, .bool ns, .string ts, .int .i64 es, .int .i64 md, .bool hd, .int .i64 im, .int .i64 ix] 32))) := (((Below.refl _ _).alloc (Nat.le_refl _) _).alloc (by simp <;> omega) _)
  go_enter Tryz.func9, Tryz.ntmps9
  go_wp2_with fail
  refine (H1.out _ (HT.out.below HB0.out)).mono ?_
  rintro e w1 ⟨rfl, hb⟩
  have Ba1 := Blk.on Ba0 hb
  have Bp1 := Blk.on Bp0 hb
  have HB1 := hide (HB0.out.trans (hb.mono HB0.out.size))
  clear hb Ba0 Bp0 HB0 
  obtain ⟨ya0, ya1, ya2, ya3⟩ := Ba1.out.four
  obtain ⟨yp0, yp1, yp2, yp3, yp4, yp5, yp6, yp7, yp8, yp9, yp10, yp11, yp12, yp13⟩ := Bp1.out.fourteen
  have Ba2 := Blk.up Ba1 (.cells #[.int .i64 0, .bool false, .string ⟨#[]⟩, .string ⟨#[]⟩, .int .i64 0, .bool false] 36)
  have Bp2 := Blk.up Bp1 (.cells #[.int .i64 0, .bool false, .string ⟨#[]⟩, .string ⟨#[]⟩, .int .i64 0, .bool false] 36)
  have Bs2 := hide ((Blk.newAt w1 (w1.heap.size) (rfl) #[.int .i64 0, .bool false, .string ⟨#[]⟩, .string ⟨#[]⟩, .int .i64 0, .bool false] 36))
  have HB2 : Hid (Below w.heap.size w (w1.alloc (.cells #[.int .i64 0, .bool false, .string ⟨#[]⟩, .string ⟨#[]⟩, .int .i64 0, .bool false] 36))) := (HB1.out.alloc HB1.out.size _)
  clear Ba1 Bp1 HB1 ya0 ya1 ya2 ya3 yp0 yp1 yp2 yp3 yp4 yp5 yp6 yp7 yp8 yp9 yp10 yp11 yp12 yp13
  obtain ⟨ya0, ya1, ya2, ya3⟩ := Ba2.out.four
  obtain ⟨yp0, yp1, yp2, yp3, yp4, yp5, yp6, yp7, yp8, yp9, yp10, yp11, yp12, yp13⟩ := Bp2.out.fourteen
  obtain ⟨ys0, ys1, ys2, ys3, ys4, ys5⟩ := Bs2.out.six
  have Ba3 := Blk.up Ba2 (.cells #[.int .i64 k, .int .i64 mf, .int .i64 xf, .int .i64 ms, .int .i64 xs, .bool st, .int .i64 cs, .bool ns, .string ts, .int .i64 es, .int .i64 md, .bool hd, .int .i64 im, .int .i64 0] 32)
  have Bp3 := Blk.up Bp2 (.cells #[.int .i64 k, .int .i64 mf, .int .i64 xf, .int .i64 ms, .int .i64 xs, .bool st, .int .i64 cs, .bool ns, .string ts, .int .i64 es, .int .i64 md, .bool hd, .int .i64 im, .int .i64 0] 32)
  have Bs3 := Blk.up Bs2 (.cells #[.int .i64 k, .int .i64 mf, .int .i64 xf, .int .i64 ms, .int .i64 xs, .bool st, .int .i64 cs, .bool ns, .string ts, .int .i64 es, .int .i64 md, .bool hd, .int .i64 im, .int .i64 0] 32)
  have Bq3 := hide ((Blk.newAt (w1.alloc (.cells #[.int .i64 0, .bool false, .string ⟨#[]⟩, .string ⟨#[]⟩, .int .i64 0, .bool false] 36)) ((w1.alloc (.cells #[.int .i64 0, .bool false, .string ⟨#[]⟩, .string ⟨#[]⟩, .int .i64 0, .bool false] 36)).heap.size) (rfl) #[.int .i64 k, .int .i64 mf, .int .i64 xf, .int .i64 ms, .int .i64 xs, .bool st, .int .i64 cs, .bool ns, .string ts, .int .i64 es, .int .i64 md, .bool hd, .int .i64 im, .int .i64 0] 32))
  have HB3 : Hid (Below w.heap.size w ((w1.alloc (.cells #[.int .i64 0, .bool false, .string ⟨#[]⟩, .string ⟨#[]⟩, .int .i64 0, .bool false] 36)).alloc (.cells #[.int .i64 k, .int .i64 mf, .int .i64 xf, .int .i64 ms, .int .i64 xs, .bool st, .int .i64 cs, .bool ns, .string ts, .int .i64 es, .int .i64 md, .bool hd, .int .i64 im, .int .i64 0] 32))) := (HB2.out.alloc HB2.out.size _)
  clear Ba2 Bp2 Bs2 HB2 
  obtain ⟨ya0, ya1, ya2, ya3⟩ := Ba3.out.four
  obtain ⟨yp0, yp1, yp2, yp3, yp4, yp5, yp6, yp7, yp8, yp9, yp10, yp11, yp12, yp13⟩ := Bp3.out.fourteen
  obtain ⟨ys0, ys1, ys2, ys3, ys4, ys5⟩ := Bs3.out.six
  obtain ⟨yq0, yq1, yq2, yq3, yq4, yq5, yq6, yq7, yq8, yq9, yq10, yq11, yq12, yq13⟩ := Bq3.out.fourteen
  go_wp2_with fail
  refine (H2.out _ (HT.out.below HB3.out)).mono ?_
  rintro e w4 ⟨rfl, hb⟩
  have Ba4 := Blk.on Ba3 hb
  have Bp4 := Blk.on Bp3 hb
  have Bs4 := Blk.on Bs3 hb
  have Bq4 := Blk.on Bq3 hb
  have HB4 := hide (HB3.out.trans (hb.mono HB3.out.size))
  clear hb Ba3 Bp3 Bs3 Bq3 HB3 ya0 ya1 ya2 ya3 yp0 yp1 yp2 yp3 yp4 yp5 yp6 yp7 yp8 yp9 yp10 yp11 yp12 yp13 ys0 ys1 ys2 ys3 ys4 ys5 yq0 yq1 yq2 yq3 yq4 yq5 yq6 yq7 yq8 yq9 yq10 yq11 yq12 yq13
  obtain ⟨ya0, ya1, ya2, ya3⟩ := Ba4.out.four
  obtain ⟨yp0, yp1, yp2, yp3, yp4, yp5, yp6, yp7, yp8, yp9, yp10, yp11, yp12, yp13⟩ := Bp4.out.fourteen
  obtain ⟨ys0, ys1, ys2, ys3, ys4, ys5⟩ := Bs4.out.six
  obtain ⟨yq0, yq1, yq2, yq3, yq4, yq5, yq6, yq7, yq8, yq9, yq10, yq11, yq12, yq13⟩ := Bq4.out.fourteen
  have Ba5 := Blk.up Ba4 (.cells #[.int .i64 uc, .bool un, .string ui, .string uf, .int .i64 ux, .bool um] 36)
  have Bp5 := Blk.up Bp4 (.cells #[.int .i64 uc, .bool un, .string ui, .string uf, .int .i64 ux, .bool um] 36)
  have Bs5 := Blk.up Bs4 (.cells #[.int .i64 uc, .bool un, .string ui, .string uf, .int .i64 ux, .bool um] 36)
  have Bq5 := Blk.up Bq4 (.cells #[.int .i64 uc, .bool un, .string ui, .string uf, .int .i64 ux, .bool um] 36)
  have Bt5 := hide ((Blk.newAt w4 (w4.heap.size) (rfl) #[.int .i64 uc, .bool un, .string ui, .string uf, .int .i64 ux, .bool um] 36))
  have HB5 : Hid (Below w.heap.size w (w4.alloc (.cells #[.int .i64 uc, .bool un, .string ui, .string uf, .int .i64 ux, .bool um] 36))) := (HB4.out.alloc HB4.out.size _)
  clear Ba4 Bp4 Bs4 Bq4 HB4 ya0 ya1 ya2 ya3 yp0 yp1 yp2 yp3 yp4 yp5 yp6 yp7 yp8 yp9 yp10 yp11 yp12 yp13 ys0 ys1 ys2 ys3 ys4 ys5 yq0 yq1 yq2 yq3 yq4 yq5 yq6 yq7 yq8 yq9 yq10 yq11 yq12 yq13
  obtain ⟨ya0, ya1, ya2, ya3⟩ := Ba5.out.four
  obtain ⟨yp0, yp1, yp2, yp3, yp4, yp5, yp6, yp7, yp8, yp9, yp10, yp11, yp12, yp13⟩ := Bp5.out.fourteen
  obtain ⟨ys0, ys1, ys2, ys3, ys4, ys5⟩ := Bs5.out.six
  obtain ⟨yq0, yq1, yq2, yq3, yq4, yq5, yq6, yq7, yq8, yq9, yq10, yq11, yq12, yq13⟩ := Bq5.out.fourteen
  obtain ⟨yt0, yt1, yt2, yt3, yt4, yt5⟩ := Bt5.out.six
  go_wp2_with fail
  refine (xawake_any _ (HT.out.below HB5.out)).mono ?_
  rintro e w6 ⟨rfl, hb⟩
  have Ba6 := Blk.on Ba5 hb
  have Bp6 := Blk.on Bp5 hb
  have Bs6 := Blk.on Bs5 hb
  have Bq6 := Blk.on Bq5 hb
  have Bt6 := Blk.on Bt5 hb
  have HB6 := hide (HB5.out.trans (hb.mono HB5.out.size))
  clear hb Ba5 Bp5 Bs5 Bq5 Bt5 HB5 ya0 ya1 ya2 ya3 yp0 yp1 yp2 yp3 yp4 yp5 yp6 yp7 yp8 yp9 yp10 yp11 yp12 yp13 ys0 ys1 ys2 ys3 ys4 ys5 yq0 yq1 yq2 yq3 yq4 yq5 yq6 yq7 yq8 yq9 yq10 yq11 yq12 yq13 yt0 yt1 yt2 yt3 yt4 yt5
  obtain ⟨ya0, ya1, ya2, ya3⟩ := Ba6.out.four
  obtain ⟨yp0, yp1, yp2, yp3, yp4, yp5, yp6, yp7, yp8, yp9, yp10, yp11, yp12, yp13⟩ := Bp6.out.fourteen
  obtain ⟨ys0, ys1, ys2, ys3, ys4, ys5⟩ := Bs6.out.six
  obtain ⟨yq0, yq1, yq2, yq3, yq4, yq5, yq6, yq7, yq8, yq9, yq10, yq11, yq12, yq13⟩ := Bq6.out.fourteen
  obtain ⟨yt0, yt1, yt2, yt3, yt4, yt5⟩ := Bt6.out.six
  go_wp2
  go_ret
  exact ⟨rfl, HB6.out⟩

set_option maxRecDepth 100000 in
set_option maxHeartbeats 4000000 in
theorem cuts_52 (ca : Int) (na : Bool) (ta : ByteArray) (ea k mf xf ms xs : Int) (st : Bool) (cs : Int) (ns : Bool) (ts : ByteArray) (es md : Int) (hd : Bool) (im ix uc : Int) (un : Bool) (ui uf : ByteArray) (ux : Int) (um : Bool) (uf2 : Int) (w : World) (htab : Tab w) (h1 : ∀ W, Tab W → Calls Tryz.prog 22 #[dcV ca na ta ea, prV k mf xf ms xs st cs ns ts es md hd im ix] W fun e w' => e = .returned (.tuple #[.agg #[.int .i64 0, .bool false, .string ⟨#[]⟩, .string ⟨#[]⟩, .int .i64 0, .bool false], .int .i64 52]) ∧ Below W.heap.size W w') (h2 : ∀ W, Tab W → Calls Tryz.prog 22 #[dcV ca na ta ea, prV k mf xf ms xs st cs ns ts es md hd im 0] W fun e w' => e = .returned (.tuple #[.agg #[.int .i64 uc, .bool un, .string ui, .string uf, .int .i64 ux, .bool um], .int .i64 uf2]) ∧ Below W.heap.size W w') : Calls Tryz.prog 9 #[dcV ca na ta ea, prV k mf xf ms xs st cs ns ts es md hd im ix] w fun e w' => e = .returned (.bool true) ∧ Below w.heap.size w w' := by
  have H1 := hide h1
  have H2 := hide h2
  have HT := hide htab
  clear htab h1 h2
  have Ba0 := hide ((Blk.newAt w (w.heap.size) (rfl) #[.int .i64 ca, .bool na, .string ta, .int .i64 ea] 23).alloc (.cells #[.int .i64 k, .int .i64 mf, .int .i64 xf, .int .i64 ms, .int .i64 xs, .bool st, .int .i64 cs, .bool ns, .string ts, .int .i64 es, .int .i64 md, .bool hd, .int .i64 im, .int .i64 ix] 32))
  have Bp0 := hide (Blk.newAt (w.alloc (.cells #[.int .i64 ca, .bool na, .string ta, .int .i64 ea] 23)) (w.heap.size + 1) (by simp) #[.int .i64 k, .int .i64 mf, .int .i64 xf, .int .i64 ms, .int .i64 xs, .bool st, .int .i64 cs, .bool ns, .string ts, .int .i64 es, .int .i64 md, .bool hd, .int .i64 im, .int .i64 ix] 32)
  have HB0 : Hid (Below w.heap.size w ((w.alloc (.cells #[.int .i64 ca, .bool na, .string ta, .int .i64 ea] 23)).alloc (.cells #[.int .i64 k, .int .i64 mf, .int .i64 xf, .int .i64 ms, .int .i64 xs, .bool st, .int .i64 cs, .bool ns, .string ts, .int .i64 es, .int .i64 md, .bool hd, .int .i64 im, .int .i64 ix] 32))) := (((Below.refl _ _).alloc (Nat.le_refl _) _).alloc (by simp <;> omega) _)
  go_enter Tryz.func9, Tryz.ntmps9
  go_wp2_with fail
  refine (H1.out _ (HT.out.below HB0.out)).mono ?_
  rintro e w1 ⟨rfl, hb⟩
  have Ba1 := Blk.on Ba0 hb
  have Bp1 := Blk.on Bp0 hb
  have HB1 := hide (HB0.out.trans (hb.mono HB0.out.size))
  clear hb Ba0 Bp0 HB0 
  obtain ⟨ya0, ya1, ya2, ya3⟩ := Ba1.out.four
  obtain ⟨yp0, yp1, yp2, yp3, yp4, yp5, yp6, yp7, yp8, yp9, yp10, yp11, yp12, yp13⟩ := Bp1.out.fourteen
  have Ba2 := Blk.up Ba1 (.cells #[.int .i64 0, .bool false, .string ⟨#[]⟩, .string ⟨#[]⟩, .int .i64 0, .bool false] 36)
  have Bp2 := Blk.up Bp1 (.cells #[.int .i64 0, .bool false, .string ⟨#[]⟩, .string ⟨#[]⟩, .int .i64 0, .bool false] 36)
  have Bs2 := hide ((Blk.newAt w1 (w1.heap.size) (rfl) #[.int .i64 0, .bool false, .string ⟨#[]⟩, .string ⟨#[]⟩, .int .i64 0, .bool false] 36))
  have HB2 : Hid (Below w.heap.size w (w1.alloc (.cells #[.int .i64 0, .bool false, .string ⟨#[]⟩, .string ⟨#[]⟩, .int .i64 0, .bool false] 36))) := (HB1.out.alloc HB1.out.size _)
  clear Ba1 Bp1 HB1 ya0 ya1 ya2 ya3 yp0 yp1 yp2 yp3 yp4 yp5 yp6 yp7 yp8 yp9 yp10 yp11 yp12 yp13
  obtain ⟨ya0, ya1, ya2, ya3⟩ := Ba2.out.four
  obtain ⟨yp0, yp1, yp2, yp3, yp4, yp5, yp6, yp7, yp8, yp9, yp10, yp11, yp12, yp13⟩ := Bp2.out.fourteen
  obtain ⟨ys0, ys1, ys2, ys3, ys4, ys5⟩ := Bs2.out.six
  have Ba3 := Blk.up Ba2 (.cells #[.int .i64 k, .int .i64 mf, .int .i64 xf, .int .i64 ms, .int .i64 xs, .bool st, .int .i64 cs, .bool ns, .string ts, .int .i64 es, .int .i64 md, .bool hd, .int .i64 im, .int .i64 0] 32)
  have Bp3 := Blk.up Bp2 (.cells #[.int .i64 k, .int .i64 mf, .int .i64 xf, .int .i64 ms, .int .i64 xs, .bool st, .int .i64 cs, .bool ns, .string ts, .int .i64 es, .int .i64 md, .bool hd, .int .i64 im, .int .i64 0] 32)
  have Bs3 := Blk.up Bs2 (.cells #[.int .i64 k, .int .i64 mf, .int .i64 xf, .int .i64 ms, .int .i64 xs, .bool st, .int .i64 cs, .bool ns, .string ts, .int .i64 es, .int .i64 md, .bool hd, .int .i64 im, .int .i64 0] 32)
  have Bq3 := hide ((Blk.newAt (w1.alloc (.cells #[.int .i64 0, .bool false, .string ⟨#[]⟩, .string ⟨#[]⟩, .int .i64 0, .bool false] 36)) ((w1.alloc (.cells #[.int .i64 0, .bool false, .string ⟨#[]⟩, .string ⟨#[]⟩, .int .i64 0, .bool false] 36)).heap.size) (rfl) #[.int .i64 k, .int .i64 mf, .int .i64 xf, .int .i64 ms, .int .i64 xs, .bool st, .int .i64 cs, .bool ns, .string ts, .int .i64 es, .int .i64 md, .bool hd, .int .i64 im, .int .i64 0] 32))
  have HB3 : Hid (Below w.heap.size w ((w1.alloc (.cells #[.int .i64 0, .bool false, .string ⟨#[]⟩, .string ⟨#[]⟩, .int .i64 0, .bool false] 36)).alloc (.cells #[.int .i64 k, .int .i64 mf, .int .i64 xf, .int .i64 ms, .int .i64 xs, .bool st, .int .i64 cs, .bool ns, .string ts, .int .i64 es, .int .i64 md, .bool hd, .int .i64 im, .int .i64 0] 32))) := (HB2.out.alloc HB2.out.size _)
  clear Ba2 Bp2 Bs2 HB2 
  obtain ⟨ya0, ya1, ya2, ya3⟩ := Ba3.out.four
  obtain ⟨yp0, yp1, yp2, yp3, yp4, yp5, yp6, yp7, yp8, yp9, yp10, yp11, yp12, yp13⟩ := Bp3.out.fourteen
  obtain ⟨ys0, ys1, ys2, ys3, ys4, ys5⟩ := Bs3.out.six
  obtain ⟨yq0, yq1, yq2, yq3, yq4, yq5, yq6, yq7, yq8, yq9, yq10, yq11, yq12, yq13⟩ := Bq3.out.fourteen
  go_wp2_with fail
  refine (H2.out _ (HT.out.below HB3.out)).mono ?_
  rintro e w4 ⟨rfl, hb⟩
  have Ba4 := Blk.on Ba3 hb
  have Bp4 := Blk.on Bp3 hb
  have Bs4 := Blk.on Bs3 hb
  have Bq4 := Blk.on Bq3 hb
  have HB4 := hide (HB3.out.trans (hb.mono HB3.out.size))
  clear hb Ba3 Bp3 Bs3 Bq3 HB3 ya0 ya1 ya2 ya3 yp0 yp1 yp2 yp3 yp4 yp5 yp6 yp7 yp8 yp9 yp10 yp11 yp12 yp13 ys0 ys1 ys2 ys3 ys4 ys5 yq0 yq1 yq2 yq3 yq4 yq5 yq6 yq7 yq8 yq9 yq10 yq11 yq12 yq13
  obtain ⟨ya0, ya1, ya2, ya3⟩ := Ba4.out.four
  obtain ⟨yp0, yp1, yp2, yp3, yp4, yp5, yp6, yp7, yp8, yp9, yp10, yp11, yp12, yp13⟩ := Bp4.out.fourteen
  obtain ⟨ys0, ys1, ys2, ys3, ys4, ys5⟩ := Bs4.out.six
  obtain ⟨yq0, yq1, yq2, yq3, yq4, yq5, yq6, yq7, yq8, yq9, yq10, yq11, yq12, yq13⟩ := Bq4.out.fourteen
  have Ba5 := Blk.up Ba4 (.cells #[.int .i64 uc, .bool un, .string ui, .string uf, .int .i64 ux, .bool um] 36)
  have Bp5 := Blk.up Bp4 (.cells #[.int .i64 uc, .bool un, .string ui, .string uf, .int .i64 ux, .bool um] 36)
  have Bs5 := Blk.up Bs4 (.cells #[.int .i64 uc, .bool un, .string ui, .string uf, .int .i64 ux, .bool um] 36)
  have Bq5 := Blk.up Bq4 (.cells #[.int .i64 uc, .bool un, .string ui, .string uf, .int .i64 ux, .bool um] 36)
  have Bt5 := hide ((Blk.newAt w4 (w4.heap.size) (rfl) #[.int .i64 uc, .bool un, .string ui, .string uf, .int .i64 ux, .bool um] 36))
  have HB5 : Hid (Below w.heap.size w (w4.alloc (.cells #[.int .i64 uc, .bool un, .string ui, .string uf, .int .i64 ux, .bool um] 36))) := (HB4.out.alloc HB4.out.size _)
  clear Ba4 Bp4 Bs4 Bq4 HB4 ya0 ya1 ya2 ya3 yp0 yp1 yp2 yp3 yp4 yp5 yp6 yp7 yp8 yp9 yp10 yp11 yp12 yp13 ys0 ys1 ys2 ys3 ys4 ys5 yq0 yq1 yq2 yq3 yq4 yq5 yq6 yq7 yq8 yq9 yq10 yq11 yq12 yq13
  obtain ⟨ya0, ya1, ya2, ya3⟩ := Ba5.out.four
  obtain ⟨yp0, yp1, yp2, yp3, yp4, yp5, yp6, yp7, yp8, yp9, yp10, yp11, yp12, yp13⟩ := Bp5.out.fourteen
  obtain ⟨ys0, ys1, ys2, ys3, ys4, ys5⟩ := Bs5.out.six
  obtain ⟨yq0, yq1, yq2, yq3, yq4, yq5, yq6, yq7, yq8, yq9, yq10, yq11, yq12, yq13⟩ := Bq5.out.fourteen
  obtain ⟨yt0, yt1, yt2, yt3, yt4, yt5⟩ := Bt5.out.six
  go_wp2_with fail
  refine (xawake_any _ (HT.out.below HB5.out)).mono ?_
  rintro e w6 ⟨rfl, hb⟩
  have Ba6 := Blk.on Ba5 hb
  have Bp6 := Blk.on Bp5 hb
  have Bs6 := Blk.on Bs5 hb
  have Bq6 := Blk.on Bq5 hb
  have Bt6 := Blk.on Bt5 hb
  have HB6 := hide (HB5.out.trans (hb.mono HB5.out.size))
  clear hb Ba5 Bp5 Bs5 Bq5 Bt5 HB5 ya0 ya1 ya2 ya3 yp0 yp1 yp2 yp3 yp4 yp5 yp6 yp7 yp8 yp9 yp10 yp11 yp12 yp13 ys0 ys1 ys2 ys3 ys4 ys5 yq0 yq1 yq2 yq3 yq4 yq5 yq6 yq7 yq8 yq9 yq10 yq11 yq12 yq13 yt0 yt1 yt2 yt3 yt4 yt5
  obtain ⟨ya0, ya1, ya2, ya3⟩ := Ba6.out.four
  obtain ⟨yp0, yp1, yp2, yp3, yp4, yp5, yp6, yp7, yp8, yp9, yp10, yp11, yp12, yp13⟩ := Bp6.out.fourteen
  obtain ⟨ys0, ys1, ys2, ys3, ys4, ys5⟩ := Bs6.out.six
  obtain ⟨yq0, yq1, yq2, yq3, yq4, yq5, yq6, yq7, yq8, yq9, yq10, yq11, yq12, yq13⟩ := Bq6.out.fourteen
  obtain ⟨yt0, yt1, yt2, yt3, yt4, yt5⟩ := Bt6.out.six
  go_wp2
  go_ret
  exact ⟨rfl, HB6.out⟩

set_option maxRecDepth 100000 in
set_option maxHeartbeats 4000000 in
theorem cuts_70 (ca : Int) (na : Bool) (ta : ByteArray) (ea k mf xf ms xs : Int) (st : Bool) (cs : Int) (ns : Bool) (ts : ByteArray) (es md : Int) (hd : Bool) (im ix uc : Int) (un : Bool) (ui uf : ByteArray) (ux : Int) (um : Bool) (uf2 : Int) (w : World) (htab : Tab w) (h1 : ∀ W, Tab W → Calls Tryz.prog 22 #[dcV ca na ta ea, prV k mf xf ms xs st cs ns ts es md hd im ix] W fun e w' => e = .returned (.tuple #[.agg #[.int .i64 0, .bool false, .string ⟨#[]⟩, .string ⟨#[]⟩, .int .i64 0, .bool false], .int .i64 70]) ∧ Below W.heap.size W w') (h2 : ∀ W, Tab W → Calls Tryz.prog 22 #[dcV ca na ta ea, prV k mf xf ms xs st cs ns ts es md hd im 0] W fun e w' => e = .returned (.tuple #[.agg #[.int .i64 uc, .bool un, .string ui, .string uf, .int .i64 ux, .bool um], .int .i64 uf2]) ∧ Below W.heap.size W w') : Calls Tryz.prog 9 #[dcV ca na ta ea, prV k mf xf ms xs st cs ns ts es md hd im ix] w fun e w' => e = .returned (.bool true) ∧ Below w.heap.size w w' := by
  have H1 := hide h1
  have H2 := hide h2
  have HT := hide htab
  clear htab h1 h2
  have Ba0 := hide ((Blk.newAt w (w.heap.size) (rfl) #[.int .i64 ca, .bool na, .string ta, .int .i64 ea] 23).alloc (.cells #[.int .i64 k, .int .i64 mf, .int .i64 xf, .int .i64 ms, .int .i64 xs, .bool st, .int .i64 cs, .bool ns, .string ts, .int .i64 es, .int .i64 md, .bool hd, .int .i64 im, .int .i64 ix] 32))
  have Bp0 := hide (Blk.newAt (w.alloc (.cells #[.int .i64 ca, .bool na, .string ta, .int .i64 ea] 23)) (w.heap.size + 1) (by simp) #[.int .i64 k, .int .i64 mf, .int .i64 xf, .int .i64 ms, .int .i64 xs, .bool st, .int .i64 cs, .bool ns, .string ts, .int .i64 es, .int .i64 md, .bool hd, .int .i64 im, .int .i64 ix] 32)
  have HB0 : Hid (Below w.heap.size w ((w.alloc (.cells #[.int .i64 ca, .bool na, .string ta, .int .i64 ea] 23)).alloc (.cells #[.int .i64 k, .int .i64 mf, .int .i64 xf, .int .i64 ms, .int .i64 xs, .bool st, .int .i64 cs, .bool ns, .string ts, .int .i64 es, .int .i64 md, .bool hd, .int .i64 im, .int .i64 ix] 32))) := (((Below.refl _ _).alloc (Nat.le_refl _) _).alloc (by simp <;> omega) _)
  go_enter Tryz.func9, Tryz.ntmps9
  go_wp2_with fail
  refine (H1.out _ (HT.out.below HB0.out)).mono ?_
  rintro e w1 ⟨rfl, hb⟩
  have Ba1 := Blk.on Ba0 hb
  have Bp1 := Blk.on Bp0 hb
  have HB1 := hide (HB0.out.trans (hb.mono HB0.out.size))
  clear hb Ba0 Bp0 HB0 
  obtain ⟨ya0, ya1, ya2, ya3⟩ := Ba1.out.four
  obtain ⟨yp0, yp1, yp2, yp3, yp4, yp5, yp6, yp7, yp8, yp9, yp10, yp11, yp12, yp13⟩ := Bp1.out.fourteen
  have Ba2 := Blk.up Ba1 (.cells #[.int .i64 0, .bool false, .string ⟨#[]⟩, .string ⟨#[]⟩, .int .i64 0, .bool false] 36)
  have Bp2 := Blk.up Bp1 (.cells #[.int .i64 0, .bool false, .string ⟨#[]⟩, .string ⟨#[]⟩, .int .i64 0, .bool false] 36)
  have Bs2 := hide ((Blk.newAt w1 (w1.heap.size) (rfl) #[.int .i64 0, .bool false, .string ⟨#[]⟩, .string ⟨#[]⟩, .int .i64 0, .bool false] 36))
  have HB2 : Hid (Below w.heap.size w (w1.alloc (.cells #[.int .i64 0, .bool false, .string ⟨#[]⟩, .string ⟨#[]⟩, .int .i64 0, .bool false] 36))) := (HB1.out.alloc HB1.out.size _)
  clear Ba1 Bp1 HB1 ya0 ya1 ya2 ya3 yp0 yp1 yp2 yp3 yp4 yp5 yp6 yp7 yp8 yp9 yp10 yp11 yp12 yp13
  obtain ⟨ya0, ya1, ya2, ya3⟩ := Ba2.out.four
  obtain ⟨yp0, yp1, yp2, yp3, yp4, yp5, yp6, yp7, yp8, yp9, yp10, yp11, yp12, yp13⟩ := Bp2.out.fourteen
  obtain ⟨ys0, ys1, ys2, ys3, ys4, ys5⟩ := Bs2.out.six
  have Ba3 := Blk.up Ba2 (.cells #[.int .i64 k, .int .i64 mf, .int .i64 xf, .int .i64 ms, .int .i64 xs, .bool st, .int .i64 cs, .bool ns, .string ts, .int .i64 es, .int .i64 md, .bool hd, .int .i64 im, .int .i64 0] 32)
  have Bp3 := Blk.up Bp2 (.cells #[.int .i64 k, .int .i64 mf, .int .i64 xf, .int .i64 ms, .int .i64 xs, .bool st, .int .i64 cs, .bool ns, .string ts, .int .i64 es, .int .i64 md, .bool hd, .int .i64 im, .int .i64 0] 32)
  have Bs3 := Blk.up Bs2 (.cells #[.int .i64 k, .int .i64 mf, .int .i64 xf, .int .i64 ms, .int .i64 xs, .bool st, .int .i64 cs, .bool ns, .string ts, .int .i64 es, .int .i64 md, .bool hd, .int .i64 im, .int .i64 0] 32)
  have Bq3 := hide ((Blk.newAt (w1.alloc (.cells #[.int .i64 0, .bool false, .string ⟨#[]⟩, .string ⟨#[]⟩, .int .i64 0, .bool false] 36)) ((w1.alloc (.cells #[.int .i64 0, .bool false, .string ⟨#[]⟩, .string ⟨#[]⟩, .int .i64 0, .bool false] 36)).heap.size) (rfl) #[.int .i64 k, .int .i64 mf, .int .i64 xf, .int .i64 ms, .int .i64 xs, .bool st, .int .i64 cs, .bool ns, .string ts, .int .i64 es, .int .i64 md, .bool hd, .int .i64 im, .int .i64 0] 32))
  have HB3 : Hid (Below w.heap.size w ((w1.alloc (.cells #[.int .i64 0, .bool false, .string ⟨#[]⟩, .string ⟨#[]⟩, .int .i64 0, .bool false] 36)).alloc (.cells #[.int .i64 k, .int .i64 mf, .int .i64 xf, .int .i64 ms, .int .i64 xs, .bool st, .int .i64 cs, .bool ns, .string ts, .int .i64 es, .int .i64 md, .bool hd, .int .i64 im, .int .i64 0] 32))) := (HB2.out.alloc HB2.out.size _)
  clear Ba2 Bp2 Bs2 HB2 
  obtain ⟨ya0, ya1, ya2, ya3⟩ := Ba3.out.four
  obtain ⟨yp0, yp1, yp2, yp3, yp4, yp5, yp6, yp7, yp8, yp9, yp10, yp11, yp12, yp13⟩ := Bp3.out.fourteen
  obtain ⟨ys0, ys1, ys2, ys3, ys4, ys5⟩ := Bs3.out.six
  obtain ⟨yq0, yq1, yq2, yq3, yq4, yq5, yq6, yq7, yq8, yq9, yq10, yq11, yq12, yq13⟩ := Bq3.out.fourteen
  go_wp2_with fail
  refine (H2.out _ (HT.out.below HB3.out)).mono ?_
  rintro e w4 ⟨rfl, hb⟩
  have Ba4 := Blk.on Ba3 hb
  have Bp4 := Blk.on Bp3 hb
  have Bs4 := Blk.on Bs3 hb
  have Bq4 := Blk.on Bq3 hb
  have HB4 := hide (HB3.out.trans (hb.mono HB3.out.size))
  clear hb Ba3 Bp3 Bs3 Bq3 HB3 ya0 ya1 ya2 ya3 yp0 yp1 yp2 yp3 yp4 yp5 yp6 yp7 yp8 yp9 yp10 yp11 yp12 yp13 ys0 ys1 ys2 ys3 ys4 ys5 yq0 yq1 yq2 yq3 yq4 yq5 yq6 yq7 yq8 yq9 yq10 yq11 yq12 yq13
  obtain ⟨ya0, ya1, ya2, ya3⟩ := Ba4.out.four
  obtain ⟨yp0, yp1, yp2, yp3, yp4, yp5, yp6, yp7, yp8, yp9, yp10, yp11, yp12, yp13⟩ := Bp4.out.fourteen
  obtain ⟨ys0, ys1, ys2, ys3, ys4, ys5⟩ := Bs4.out.six
  obtain ⟨yq0, yq1, yq2, yq3, yq4, yq5, yq6, yq7, yq8, yq9, yq10, yq11, yq12, yq13⟩ := Bq4.out.fourteen
  have Ba5 := Blk.up Ba4 (.cells #[.int .i64 uc, .bool un, .string ui, .string uf, .int .i64 ux, .bool um] 36)
  have Bp5 := Blk.up Bp4 (.cells #[.int .i64 uc, .bool un, .string ui, .string uf, .int .i64 ux, .bool um] 36)
  have Bs5 := Blk.up Bs4 (.cells #[.int .i64 uc, .bool un, .string ui, .string uf, .int .i64 ux, .bool um] 36)
  have Bq5 := Blk.up Bq4 (.cells #[.int .i64 uc, .bool un, .string ui, .string uf, .int .i64 ux, .bool um] 36)
  have Bt5 := hide ((Blk.newAt w4 (w4.heap.size) (rfl) #[.int .i64 uc, .bool un, .string ui, .string uf, .int .i64 ux, .bool um] 36))
  have HB5 : Hid (Below w.heap.size w (w4.alloc (.cells #[.int .i64 uc, .bool un, .string ui, .string uf, .int .i64 ux, .bool um] 36))) := (HB4.out.alloc HB4.out.size _)
  clear Ba4 Bp4 Bs4 Bq4 HB4 ya0 ya1 ya2 ya3 yp0 yp1 yp2 yp3 yp4 yp5 yp6 yp7 yp8 yp9 yp10 yp11 yp12 yp13 ys0 ys1 ys2 ys3 ys4 ys5 yq0 yq1 yq2 yq3 yq4 yq5 yq6 yq7 yq8 yq9 yq10 yq11 yq12 yq13
  obtain ⟨ya0, ya1, ya2, ya3⟩ := Ba5.out.four
  obtain ⟨yp0, yp1, yp2, yp3, yp4, yp5, yp6, yp7, yp8, yp9, yp10, yp11, yp12, yp13⟩ := Bp5.out.fourteen
  obtain ⟨ys0, ys1, ys2, ys3, ys4, ys5⟩ := Bs5.out.six
  obtain ⟨yq0, yq1, yq2, yq3, yq4, yq5, yq6, yq7, yq8, yq9, yq10, yq11, yq12, yq13⟩ := Bq5.out.fourteen
  obtain ⟨yt0, yt1, yt2, yt3, yt4, yt5⟩ := Bt5.out.six
  go_wp2_with fail
  refine (xawake_any _ (HT.out.below HB5.out)).mono ?_
  rintro e w6 ⟨rfl, hb⟩
  have Ba6 := Blk.on Ba5 hb
  have Bp6 := Blk.on Bp5 hb
  have Bs6 := Blk.on Bs5 hb
  have Bq6 := Blk.on Bq5 hb
  have Bt6 := Blk.on Bt5 hb
  have HB6 := hide (HB5.out.trans (hb.mono HB5.out.size))
  clear hb Ba5 Bp5 Bs5 Bq5 Bt5 HB5 ya0 ya1 ya2 ya3 yp0 yp1 yp2 yp3 yp4 yp5 yp6 yp7 yp8 yp9 yp10 yp11 yp12 yp13 ys0 ys1 ys2 ys3 ys4 ys5 yq0 yq1 yq2 yq3 yq4 yq5 yq6 yq7 yq8 yq9 yq10 yq11 yq12 yq13 yt0 yt1 yt2 yt3 yt4 yt5
  obtain ⟨ya0, ya1, ya2, ya3⟩ := Ba6.out.four
  obtain ⟨yp0, yp1, yp2, yp3, yp4, yp5, yp6, yp7, yp8, yp9, yp10, yp11, yp12, yp13⟩ := Bp6.out.fourteen
  obtain ⟨ys0, ys1, ys2, ys3, ys4, ys5⟩ := Bs6.out.six
  obtain ⟨yq0, yq1, yq2, yq3, yq4, yq5, yq6, yq7, yq8, yq9, yq10, yq11, yq12, yq13⟩ := Bq6.out.fourteen
  obtain ⟨yt0, yt1, yt2, yt3, yt4, yt5⟩ := Bt6.out.six
  go_wp2
  go_ret
  exact ⟨rfl, HB6.out⟩

set_option maxRecDepth 100000 in
set_option maxHeartbeats 4000000 in
theorem cuts_z (ca : Int) (na : Bool) (ta : ByteArray) (ea k mf xf ms xs : Int) (st : Bool) (cs : Int) (ns : Bool) (ts : ByteArray) (es md : Int) (hd : Bool) (im sc : Int) (sn : Bool) (si sf : ByteArray) (sx : Int) (sm : Bool) (w : World) (htab : Tab w) (h1 : ∀ W, Tab W → Calls Tryz.prog 22 #[dcV ca na ta ea, prV k mf xf ms xs st cs ns ts es md hd im 0] W fun e w' => e = .returned (.tuple #[.agg #[.int .i64 sc, .bool sn, .string si, .string sf, .int .i64 sx, .bool sm], .int .i64 0]) ∧ Below W.heap.size W w') (h2 : ∀ W, Tab W → Calls Tryz.prog 22 #[dcV ca na ta ea, prV k mf xf ms xs st cs ns ts es md hd im 0] W fun e w' => e = .returned (.tuple #[.agg #[.int .i64 sc, .bool sn, .string si, .string sf, .int .i64 sx, .bool sm], .int .i64 0]) ∧ Below W.heap.size W w') : Calls Tryz.prog 9 #[dcV ca na ta ea, prV k mf xf ms xs st cs ns ts es md hd im 0] w fun e w' => e = .returned (.bool true) ∧ Below w.heap.size w w' := by
  have H1 := hide h1
  have H2 := hide h2
  have HT := hide htab
  clear htab h1 h2
  have Ba0 := hide ((Blk.newAt w (w.heap.size) (rfl) #[.int .i64 ca, .bool na, .string ta, .int .i64 ea] 23).alloc (.cells #[.int .i64 k, .int .i64 mf, .int .i64 xf, .int .i64 ms, .int .i64 xs, .bool st, .int .i64 cs, .bool ns, .string ts, .int .i64 es, .int .i64 md, .bool hd, .int .i64 im, .int .i64 0] 32))
  have Bp0 := hide (Blk.newAt (w.alloc (.cells #[.int .i64 ca, .bool na, .string ta, .int .i64 ea] 23)) (w.heap.size + 1) (by simp) #[.int .i64 k, .int .i64 mf, .int .i64 xf, .int .i64 ms, .int .i64 xs, .bool st, .int .i64 cs, .bool ns, .string ts, .int .i64 es, .int .i64 md, .bool hd, .int .i64 im, .int .i64 0] 32)
  have HB0 : Hid (Below w.heap.size w ((w.alloc (.cells #[.int .i64 ca, .bool na, .string ta, .int .i64 ea] 23)).alloc (.cells #[.int .i64 k, .int .i64 mf, .int .i64 xf, .int .i64 ms, .int .i64 xs, .bool st, .int .i64 cs, .bool ns, .string ts, .int .i64 es, .int .i64 md, .bool hd, .int .i64 im, .int .i64 0] 32))) := (((Below.refl _ _).alloc (Nat.le_refl _) _).alloc (by simp <;> omega) _)
  go_enter Tryz.func9, Tryz.ntmps9
  go_wp2_with fail
  refine (H1.out _ (HT.out.below HB0.out)).mono ?_
  rintro e w1 ⟨rfl, hb⟩
  have Ba1 := Blk.on Ba0 hb
  have Bp1 := Blk.on Bp0 hb
  have HB1 := hide (HB0.out.trans (hb.mono HB0.out.size))
  clear hb Ba0 Bp0 HB0 
  obtain ⟨ya0, ya1, ya2, ya3⟩ := Ba1.out.four
  obtain ⟨yp0, yp1, yp2, yp3, yp4, yp5, yp6, yp7, yp8, yp9, yp10, yp11, yp12, yp13⟩ := Bp1.out.fourteen
  have Ba2 := Blk.up Ba1 (.cells #[.int .i64 sc, .bool sn, .string si, .string sf, .int .i64 sx, .bool sm] 36)
  have Bp2 := Blk.up Bp1 (.cells #[.int .i64 sc, .bool sn, .string si, .string sf, .int .i64 sx, .bool sm] 36)
  have Bs2 := hide ((Blk.newAt w1 (w1.heap.size) (rfl) #[.int .i64 sc, .bool sn, .string si, .string sf, .int .i64 sx, .bool sm] 36))
  have HB2 : Hid (Below w.heap.size w (w1.alloc (.cells #[.int .i64 sc, .bool sn, .string si, .string sf, .int .i64 sx, .bool sm] 36))) := (HB1.out.alloc HB1.out.size _)
  clear Ba1 Bp1 HB1 ya0 ya1 ya2 ya3 yp0 yp1 yp2 yp3 yp4 yp5 yp6 yp7 yp8 yp9 yp10 yp11 yp12 yp13
  obtain ⟨ya0, ya1, ya2, ya3⟩ := Ba2.out.four
  obtain ⟨yp0, yp1, yp2, yp3, yp4, yp5, yp6, yp7, yp8, yp9, yp10, yp11, yp12, yp13⟩ := Bp2.out.fourteen
  obtain ⟨ys0, ys1, ys2, ys3, ys4, ys5⟩ := Bs2.out.six
  have Ba3 := Blk.up Ba2 (.cells #[.int .i64 k, .int .i64 mf, .int .i64 xf, .int .i64 ms, .int .i64 xs, .bool st, .int .i64 cs, .bool ns, .string ts, .int .i64 es, .int .i64 md, .bool hd, .int .i64 im, .int .i64 0] 32)
  have Bp3 := Blk.up Bp2 (.cells #[.int .i64 k, .int .i64 mf, .int .i64 xf, .int .i64 ms, .int .i64 xs, .bool st, .int .i64 cs, .bool ns, .string ts, .int .i64 es, .int .i64 md, .bool hd, .int .i64 im, .int .i64 0] 32)
  have Bs3 := Blk.up Bs2 (.cells #[.int .i64 k, .int .i64 mf, .int .i64 xf, .int .i64 ms, .int .i64 xs, .bool st, .int .i64 cs, .bool ns, .string ts, .int .i64 es, .int .i64 md, .bool hd, .int .i64 im, .int .i64 0] 32)
  have Bq3 := hide ((Blk.newAt (w1.alloc (.cells #[.int .i64 sc, .bool sn, .string si, .string sf, .int .i64 sx, .bool sm] 36)) ((w1.alloc (.cells #[.int .i64 sc, .bool sn, .string si, .string sf, .int .i64 sx, .bool sm] 36)).heap.size) (rfl) #[.int .i64 k, .int .i64 mf, .int .i64 xf, .int .i64 ms, .int .i64 xs, .bool st, .int .i64 cs, .bool ns, .string ts, .int .i64 es, .int .i64 md, .bool hd, .int .i64 im, .int .i64 0] 32))
  have HB3 : Hid (Below w.heap.size w ((w1.alloc (.cells #[.int .i64 sc, .bool sn, .string si, .string sf, .int .i64 sx, .bool sm] 36)).alloc (.cells #[.int .i64 k, .int .i64 mf, .int .i64 xf, .int .i64 ms, .int .i64 xs, .bool st, .int .i64 cs, .bool ns, .string ts, .int .i64 es, .int .i64 md, .bool hd, .int .i64 im, .int .i64 0] 32))) := (HB2.out.alloc HB2.out.size _)
  clear Ba2 Bp2 Bs2 HB2 
  obtain ⟨ya0, ya1, ya2, ya3⟩ := Ba3.out.four
  obtain ⟨yp0, yp1, yp2, yp3, yp4, yp5, yp6, yp7, yp8, yp9, yp10, yp11, yp12, yp13⟩ := Bp3.out.fourteen
  obtain ⟨ys0, ys1, ys2, ys3, ys4, ys5⟩ := Bs3.out.six
  obtain ⟨yq0, yq1, yq2, yq3, yq4, yq5, yq6, yq7, yq8, yq9, yq10, yq11, yq12, yq13⟩ := Bq3.out.fourteen
  go_wp2_with fail
  refine (H2.out _ (HT.out.below HB3.out)).mono ?_
  rintro e w4 ⟨rfl, hb⟩
  have Ba4 := Blk.on Ba3 hb
  have Bp4 := Blk.on Bp3 hb
  have Bs4 := Blk.on Bs3 hb
  have Bq4 := Blk.on Bq3 hb
  have HB4 := hide (HB3.out.trans (hb.mono HB3.out.size))
  clear hb Ba3 Bp3 Bs3 Bq3 HB3 ya0 ya1 ya2 ya3 yp0 yp1 yp2 yp3 yp4 yp5 yp6 yp7 yp8 yp9 yp10 yp11 yp12 yp13 ys0 ys1 ys2 ys3 ys4 ys5 yq0 yq1 yq2 yq3 yq4 yq5 yq6 yq7 yq8 yq9 yq10 yq11 yq12 yq13
  obtain ⟨ya0, ya1, ya2, ya3⟩ := Ba4.out.four
  obtain ⟨yp0, yp1, yp2, yp3, yp4, yp5, yp6, yp7, yp8, yp9, yp10, yp11, yp12, yp13⟩ := Bp4.out.fourteen
  obtain ⟨ys0, ys1, ys2, ys3, ys4, ys5⟩ := Bs4.out.six
  obtain ⟨yq0, yq1, yq2, yq3, yq4, yq5, yq6, yq7, yq8, yq9, yq10, yq11, yq12, yq13⟩ := Bq4.out.fourteen
  have Ba5 := Blk.up Ba4 (.cells #[.int .i64 sc, .bool sn, .string si, .string sf, .int .i64 sx, .bool sm] 36)
  have Bp5 := Blk.up Bp4 (.cells #[.int .i64 sc, .bool sn, .string si, .string sf, .int .i64 sx, .bool sm] 36)
  have Bs5 := Blk.up Bs4 (.cells #[.int .i64 sc, .bool sn, .string si, .string sf, .int .i64 sx, .bool sm] 36)
  have Bq5 := Blk.up Bq4 (.cells #[.int .i64 sc, .bool sn, .string si, .string sf, .int .i64 sx, .bool sm] 36)
  have Bt5 := hide ((Blk.newAt w4 (w4.heap.size) (rfl) #[.int .i64 sc, .bool sn, .string si, .string sf, .int .i64 sx, .bool sm] 36))
  have HB5 : Hid (Below w.heap.size w (w4.alloc (.cells #[.int .i64 sc, .bool sn, .string si, .string sf, .int .i64 sx, .bool sm] 36))) := (HB4.out.alloc HB4.out.size _)
  clear Ba4 Bp4 Bs4 Bq4 HB4 ya0 ya1 ya2 ya3 yp0 yp1 yp2 yp3 yp4 yp5 yp6 yp7 yp8 yp9 yp10 yp11 yp12 yp13 ys0 ys1 ys2 ys3 ys4 ys5 yq0 yq1 yq2 yq3 yq4 yq5 yq6 yq7 yq8 yq9 yq10 yq11 yq12 yq13
  obtain ⟨ya0, ya1, ya2, ya3⟩ := Ba5.out.four
  obtain ⟨yp0, yp1, yp2, yp3, yp4, yp5, yp6, yp7, yp8, yp9, yp10, yp11, yp12, yp13⟩ := Bp5.out.fourteen
  obtain ⟨ys0, ys1, ys2, ys3, ys4, ys5⟩ := Bs5.out.six
  obtain ⟨yq0, yq1, yq2, yq3, yq4, yq5, yq6, yq7, yq8, yq9, yq10, yq11, yq12, yq13⟩ := Bq5.out.fourteen
  obtain ⟨yt0, yt1, yt2, yt3, yt4, yt5⟩ := Bt5.out.six
  go_wp2_with fail
  refine (xawake_any _ (HT.out.below HB5.out)).mono ?_
  rintro e w6 ⟨rfl, hb⟩
  have Ba6 := Blk.on Ba5 hb
  have Bp6 := Blk.on Bp5 hb
  have Bs6 := Blk.on Bs5 hb
  have Bq6 := Blk.on Bq5 hb
  have Bt6 := Blk.on Bt5 hb
  have HB6 := hide (HB5.out.trans (hb.mono HB5.out.size))
  clear hb Ba5 Bp5 Bs5 Bq5 Bt5 HB5 ya0 ya1 ya2 ya3 yp0 yp1 yp2 yp3 yp4 yp5 yp6 yp7 yp8 yp9 yp10 yp11 yp12 yp13 ys0 ys1 ys2 ys3 ys4 ys5 yq0 yq1 yq2 yq3 yq4 yq5 yq6 yq7 yq8 yq9 yq10 yq11 yq12 yq13 yt0 yt1 yt2 yt3 yt4 yt5
  obtain ⟨ya0, ya1, ya2, ya3⟩ := Ba6.out.four
  obtain ⟨yp0, yp1, yp2, yp3, yp4, yp5, yp6, yp7, yp8, yp9, yp10, yp11, yp12, yp13⟩ := Bp6.out.fourteen
  obtain ⟨ys0, ys1, ys2, ys3, ys4, ys5⟩ := Bs6.out.six
  obtain ⟨yq0, yq1, yq2, yq3, yq4, yq5, yq6, yq7, yq8, yq9, yq10, yq11, yq12, yq13⟩ := Bq6.out.fourteen
  obtain ⟨yt0, yt1, yt2, yt3, yt4, yt5⟩ := Bt6.out.six
  go_wp2
  go_ret
  exact ⟨rfl, HB6.out⟩

set_option maxRecDepth 100000 in
set_option maxHeartbeats 4000000 in
theorem cuts_c1 (ca : Int) (na : Bool) (ta : ByteArray) (ea k mf xf ms xs : Int) (st : Bool) (cs : Int) (ns : Bool) (ts : ByteArray) (es md : Int) (hd : Bool) (im ix : Int) (sn : Bool) (si sf : ByteArray) (sx : Int) (sm : Bool) (w : World) (htab : Tab w) (h1 : ∀ W, Tab W → Calls Tryz.prog 22 #[dcV ca na ta ea, prV k mf xf ms xs st cs ns ts es md hd im ix] W fun e w' => e = .returned (.tuple #[.agg #[.int .i64 1, .bool sn, .string si, .string sf, .int .i64 sx, .bool sm], .int .i64 0]) ∧ Below W.heap.size W w') (h2 : ∀ W, Tab W → Calls Tryz.prog 22 #[dcV ca na ta ea, prV k mf xf ms xs st cs ns ts es md hd im 0] W fun e w' => e = .returned (.tuple #[.agg #[.int .i64 1, .bool sn, .string si, .string sf, .int .i64 sx, .bool sm], .int .i64 0]) ∧ Below W.heap.size W w') (hx : ¬ ix = 0) : Calls Tryz.prog 9 #[dcV ca na ta ea, prV k mf xf ms xs st cs ns ts es md hd im ix] w fun e w' => e = .returned (.bool true) ∧ Below w.heap.size w w' := by
  have H1 := hide h1
  have H2 := hide h2
  have HT := hide htab
  clear htab h1 h2
  have Ba0 := hide ((Blk.newAt w (w.heap.size) (rfl) #[.int .i64 ca, .bool na, .string ta, .int .i64 ea] 23).alloc (.cells #[.int .i64 k, .int .i64 mf, .int .i64 xf, .int .i64 ms, .int .i64 xs, .bool st, .int .i64 cs, .bool ns, .string ts, .int .i64 es, .int .i64 md, .bool hd, .int .i64 im, .int .i64 ix] 32))
  have Bp0 := hide (Blk.newAt (w.alloc (.cells #[.int .i64 ca, .bool na, .string ta, .int .i64 ea] 23)) (w.heap.size + 1) (by simp) #[.int .i64 k, .int .i64 mf, .int .i64 xf, .int .i64 ms, .int .i64 xs, .bool st, .int .i64 cs, .bool ns, .string ts, .int .i64 es, .int .i64 md, .bool hd, .int .i64 im, .int .i64 ix] 32)
  have HB0 : Hid (Below w.heap.size w ((w.alloc (.cells #[.int .i64 ca, .bool na, .string ta, .int .i64 ea] 23)).alloc (.cells #[.int .i64 k, .int .i64 mf, .int .i64 xf, .int .i64 ms, .int .i64 xs, .bool st, .int .i64 cs, .bool ns, .string ts, .int .i64 es, .int .i64 md, .bool hd, .int .i64 im, .int .i64 ix] 32))) := (((Below.refl _ _).alloc (Nat.le_refl _) _).alloc (by simp <;> omega) _)
  go_enter Tryz.func9, Tryz.ntmps9
  go_wp2_with fail
  refine (H1.out _ (HT.out.below HB0.out)).mono ?_
  rintro e w1 ⟨rfl, hb⟩
  have Ba1 := Blk.on Ba0 hb
  have Bp1 := Blk.on Bp0 hb
  have HB1 := hide (HB0.out.trans (hb.mono HB0.out.size))
  clear hb Ba0 Bp0 HB0 
  obtain ⟨ya0, ya1, ya2, ya3⟩ := Ba1.out.four
  obtain ⟨yp0, yp1, yp2, yp3, yp4, yp5, yp6, yp7, yp8, yp9, yp10, yp11, yp12, yp13⟩ := Bp1.out.fourteen
  have Ba2 := Blk.up Ba1 (.cells #[.int .i64 1, .bool sn, .string si, .string sf, .int .i64 sx, .bool sm] 36)
  have Bp2 := Blk.up Bp1 (.cells #[.int .i64 1, .bool sn, .string si, .string sf, .int .i64 sx, .bool sm] 36)
  have Bs2 := hide ((Blk.newAt w1 (w1.heap.size) (rfl) #[.int .i64 1, .bool sn, .string si, .string sf, .int .i64 sx, .bool sm] 36))
  have HB2 : Hid (Below w.heap.size w (w1.alloc (.cells #[.int .i64 1, .bool sn, .string si, .string sf, .int .i64 sx, .bool sm] 36))) := (HB1.out.alloc HB1.out.size _)
  clear Ba1 Bp1 HB1 ya0 ya1 ya2 ya3 yp0 yp1 yp2 yp3 yp4 yp5 yp6 yp7 yp8 yp9 yp10 yp11 yp12 yp13
  obtain ⟨ya0, ya1, ya2, ya3⟩ := Ba2.out.four
  obtain ⟨yp0, yp1, yp2, yp3, yp4, yp5, yp6, yp7, yp8, yp9, yp10, yp11, yp12, yp13⟩ := Bp2.out.fourteen
  obtain ⟨ys0, ys1, ys2, ys3, ys4, ys5⟩ := Bs2.out.six
  have Ba3 := Blk.up Ba2 (.cells #[.int .i64 k, .int .i64 mf, .int .i64 xf, .int .i64 ms, .int .i64 xs, .bool st, .int .i64 cs, .bool ns, .string ts, .int .i64 es, .int .i64 md, .bool hd, .int .i64 im, .int .i64 0] 32)
  have Bp3 := Blk.up Bp2 (.cells #[.int .i64 k, .int .i64 mf, .int .i64 xf, .int .i64 ms, .int .i64 xs, .bool st, .int .i64 cs, .bool ns, .string ts, .int .i64 es, .int .i64 md, .bool hd, .int .i64 im, .int .i64 0] 32)
  have Bs3 := Blk.up Bs2 (.cells #[.int .i64 k, .int .i64 mf, .int .i64 xf, .int .i64 ms, .int .i64 xs, .bool st, .int .i64 cs, .bool ns, .string ts, .int .i64 es, .int .i64 md, .bool hd, .int .i64 im, .int .i64 0] 32)
  have Bq3 := hide ((Blk.newAt (w1.alloc (.cells #[.int .i64 1, .bool sn, .string si, .string sf, .int .i64 sx, .bool sm] 36)) ((w1.alloc (.cells #[.int .i64 1, .bool sn, .string si, .string sf, .int .i64 sx, .bool sm] 36)).heap.size) (rfl) #[.int .i64 k, .int .i64 mf, .int .i64 xf, .int .i64 ms, .int .i64 xs, .bool st, .int .i64 cs, .bool ns, .string ts, .int .i64 es, .int .i64 md, .bool hd, .int .i64 im, .int .i64 0] 32))
  have HB3 : Hid (Below w.heap.size w ((w1.alloc (.cells #[.int .i64 1, .bool sn, .string si, .string sf, .int .i64 sx, .bool sm] 36)).alloc (.cells #[.int .i64 k, .int .i64 mf, .int .i64 xf, .int .i64 ms, .int .i64 xs, .bool st, .int .i64 cs, .bool ns, .string ts, .int .i64 es, .int .i64 md, .bool hd, .int .i64 im, .int .i64 0] 32))) := (HB2.out.alloc HB2.out.size _)
  clear Ba2 Bp2 Bs2 HB2 
  obtain ⟨ya0, ya1, ya2, ya3⟩ := Ba3.out.four
  obtain ⟨yp0, yp1, yp2, yp3, yp4, yp5, yp6, yp7, yp8, yp9, yp10, yp11, yp12, yp13⟩ := Bp3.out.fourteen
  obtain ⟨ys0, ys1, ys2, ys3, ys4, ys5⟩ := Bs3.out.six
  obtain ⟨yq0, yq1, yq2, yq3, yq4, yq5, yq6, yq7, yq8, yq9, yq10, yq11, yq12, yq13⟩ := Bq3.out.fourteen
  go_wp2_with fail
  refine (H2.out _ (HT.out.below HB3.out)).mono ?_
  rintro e w4 ⟨rfl, hb⟩
  have Ba4 := Blk.on Ba3 hb
  have Bp4 := Blk.on Bp3 hb
  have Bs4 := Blk.on Bs3 hb
  have Bq4 := Blk.on Bq3 hb
  have HB4 := hide (HB3.out.trans (hb.mono HB3.out.size))
  clear hb Ba3 Bp3 Bs3 Bq3 HB3 ya0 ya1 ya2 ya3 yp0 yp1 yp2 yp3 yp4 yp5 yp6 yp7 yp8 yp9 yp10 yp11 yp12 yp13 ys0 ys1 ys2 ys3 ys4 ys5 yq0 yq1 yq2 yq3 yq4 yq5 yq6 yq7 yq8 yq9 yq10 yq11 yq12 yq13
  obtain ⟨ya0, ya1, ya2, ya3⟩ := Ba4.out.four
  obtain ⟨yp0, yp1, yp2, yp3, yp4, yp5, yp6, yp7, yp8, yp9, yp10, yp11, yp12, yp13⟩ := Bp4.out.fourteen
  obtain ⟨ys0, ys1, ys2, ys3, ys4, ys5⟩ := Bs4.out.six
  obtain ⟨yq0, yq1, yq2, yq3, yq4, yq5, yq6, yq7, yq8, yq9, yq10, yq11, yq12, yq13⟩ := Bq4.out.fourteen
  have Ba5 := Blk.up Ba4 (.cells #[.int .i64 1, .bool sn, .string si, .string sf, .int .i64 sx, .bool sm] 36)
  have Bp5 := Blk.up Bp4 (.cells #[.int .i64 1, .bool sn, .string si, .string sf, .int .i64 sx, .bool sm] 36)
  have Bs5 := Blk.up Bs4 (.cells #[.int .i64 1, .bool sn, .string si, .string sf, .int .i64 sx, .bool sm] 36)
  have Bq5 := Blk.up Bq4 (.cells #[.int .i64 1, .bool sn, .string si, .string sf, .int .i64 sx, .bool sm] 36)
  have Bt5 := hide ((Blk.newAt w4 (w4.heap.size) (rfl) #[.int .i64 1, .bool sn, .string si, .string sf, .int .i64 sx, .bool sm] 36))
  have HB5 : Hid (Below w.heap.size w (w4.alloc (.cells #[.int .i64 1, .bool sn, .string si, .string sf, .int .i64 sx, .bool sm] 36))) := (HB4.out.alloc HB4.out.size _)
  clear Ba4 Bp4 Bs4 Bq4 HB4 ya0 ya1 ya2 ya3 yp0 yp1 yp2 yp3 yp4 yp5 yp6 yp7 yp8 yp9 yp10 yp11 yp12 yp13 ys0 ys1 ys2 ys3 ys4 ys5 yq0 yq1 yq2 yq3 yq4 yq5 yq6 yq7 yq8 yq9 yq10 yq11 yq12 yq13
  obtain ⟨ya0, ya1, ya2, ya3⟩ := Ba5.out.four
  obtain ⟨yp0, yp1, yp2, yp3, yp4, yp5, yp6, yp7, yp8, yp9, yp10, yp11, yp12, yp13⟩ := Bp5.out.fourteen
  obtain ⟨ys0, ys1, ys2, ys3, ys4, ys5⟩ := Bs5.out.six
  obtain ⟨yq0, yq1, yq2, yq3, yq4, yq5, yq6, yq7, yq8, yq9, yq10, yq11, yq12, yq13⟩ := Bq5.out.fourteen
  obtain ⟨yt0, yt1, yt2, yt3, yt4, yt5⟩ := Bt5.out.six
  go_wp2_with fail
  refine (xawake_any _ (HT.out.below HB5.out)).mono ?_
  rintro e w6 ⟨rfl, hb⟩
  have Ba6 := Blk.on Ba5 hb
  have Bp6 := Blk.on Bp5 hb
  have Bs6 := Blk.on Bs5 hb
  have Bq6 := Blk.on Bq5 hb
  have Bt6 := Blk.on Bt5 hb
  have HB6 := hide (HB5.out.trans (hb.mono HB5.out.size))
  clear hb Ba5 Bp5 Bs5 Bq5 Bt5 HB5 ya0 ya1 ya2 ya3 yp0 yp1 yp2 yp3 yp4 yp5 yp6 yp7 yp8 yp9 yp10 yp11 yp12 yp13 ys0 ys1 ys2 ys3 ys4 ys5 yq0 yq1 yq2 yq3 yq4 yq5 yq6 yq7 yq8 yq9 yq10 yq11 yq12 yq13 yt0 yt1 yt2 yt3 yt4 yt5
  obtain ⟨ya0, ya1, ya2, ya3⟩ := Ba6.out.four
  obtain ⟨yp0, yp1, yp2, yp3, yp4, yp5, yp6, yp7, yp8, yp9, yp10, yp11, yp12, yp13⟩ := Bp6.out.fourteen
  obtain ⟨ys0, ys1, ys2, ys3, ys4, ys5⟩ := Bs6.out.six
  obtain ⟨yq0, yq1, yq2, yq3, yq4, yq5, yq6, yq7, yq8, yq9, yq10, yq11, yq12, yq13⟩ := Bq6.out.fourteen
  obtain ⟨yt0, yt1, yt2, yt3, yt4, yt5⟩ := Bt6.out.six
  go_wp2
  go_ret
  exact ⟨rfl, HB6.out⟩

set_option maxRecDepth 100000 in
set_option maxHeartbeats 4000000 in
theorem cuts_c2 (ca : Int) (na : Bool) (ta : ByteArray) (ea k mf xf ms xs : Int) (st : Bool) (cs : Int) (ns : Bool) (ts : ByteArray) (es md : Int) (hd : Bool) (im ix : Int) (sn : Bool) (si sf : ByteArray) (sx : Int) (sm : Bool) (w : World) (htab : Tab w) (h1 : ∀ W, Tab W → Calls Tryz.prog 22 #[dcV ca na ta ea, prV k mf xf ms xs st cs ns ts es md hd im ix] W fun e w' => e = .returned (.tuple #[.agg #[.int .i64 2, .bool sn, .string si, .string sf, .int .i64 sx, .bool sm], .int .i64 0]) ∧ Below W.heap.size W w') (h2 : ∀ W, Tab W → Calls Tryz.prog 22 #[dcV ca na ta ea, prV k mf xf ms xs st cs ns ts es md hd im 0] W fun e w' => e = .returned (.tuple #[.agg #[.int .i64 2, .bool sn, .string si, .string sf, .int .i64 sx, .bool sm], .int .i64 0]) ∧ Below W.heap.size W w') (hx : ¬ ix = 0) : Calls Tryz.prog 9 #[dcV ca na ta ea, prV k mf xf ms xs st cs ns ts es md hd im ix] w fun e w' => e = .returned (.bool true) ∧ Below w.heap.size w w' := by
  have H1 := hide h1
  have H2 := hide h2
  have HT := hide htab
  clear htab h1 h2
  have Ba0 := hide ((Blk.newAt w (w.heap.size) (rfl) #[.int .i64 ca, .bool na, .string ta, .int .i64 ea] 23).alloc (.cells #[.int .i64 k, .int .i64 mf, .int .i64 xf, .int .i64 ms, .int .i64 xs, .bool st, .int .i64 cs, .bool ns, .string ts, .int .i64 es, .int .i64 md, .bool hd, .int .i64 im, .int .i64 ix] 32))
  have Bp0 := hide (Blk.newAt (w.alloc (.cells #[.int .i64 ca, .bool na, .string ta, .int .i64 ea] 23)) (w.heap.size + 1) (by simp) #[.int .i64 k, .int .i64 mf, .int .i64 xf, .int .i64 ms, .int .i64 xs, .bool st, .int .i64 cs, .bool ns, .string ts, .int .i64 es, .int .i64 md, .bool hd, .int .i64 im, .int .i64 ix] 32)
  have HB0 : Hid (Below w.heap.size w ((w.alloc (.cells #[.int .i64 ca, .bool na, .string ta, .int .i64 ea] 23)).alloc (.cells #[.int .i64 k, .int .i64 mf, .int .i64 xf, .int .i64 ms, .int .i64 xs, .bool st, .int .i64 cs, .bool ns, .string ts, .int .i64 es, .int .i64 md, .bool hd, .int .i64 im, .int .i64 ix] 32))) := (((Below.refl _ _).alloc (Nat.le_refl _) _).alloc (by simp <;> omega) _)
  go_enter Tryz.func9, Tryz.ntmps9
  go_wp2_with fail
  refine (H1.out _ (HT.out.below HB0.out)).mono ?_
  rintro e w1 ⟨rfl, hb⟩
  have Ba1 := Blk.on Ba0 hb
  have Bp1 := Blk.on Bp0 hb
  have HB1 := hide (HB0.out.trans (hb.mono HB0.out.size))
  clear hb Ba0 Bp0 HB0 
  obtain ⟨ya0, ya1, ya2, ya3⟩ := Ba1.out.four
  obtain ⟨yp0, yp1, yp2, yp3, yp4, yp5, yp6, yp7, yp8, yp9, yp10, yp11, yp12, yp13⟩ := Bp1.out.fourteen
  have Ba2 := Blk.up Ba1 (.cells #[.int .i64 2, .bool sn, .string si, .string sf, .int .i64 sx, .bool sm] 36)
  have Bp2 := Blk.up Bp1 (.cells #[.int .i64 2, .bool sn, .string si, .string sf, .int .i64 sx, .bool sm] 36)
  have Bs2 := hide ((Blk.newAt w1 (w1.heap.size) (rfl) #[.int .i64 2, .bool sn, .string si, .string sf, .int .i64 sx, .bool sm] 36))
  have HB2 : Hid (Below w.heap.size w (w1.alloc (.cells #[.int .i64 2, .bool sn, .string si, .string sf, .int .i64 sx, .bool sm] 36))) := (HB1.out.alloc HB1.out.size _)
  clear Ba1 Bp1 HB1 ya0 ya1 ya2 ya3 yp0 yp1 yp2 yp3 yp4 yp5 yp6 yp7 yp8 yp9 yp10 yp11 yp12 yp13
  obtain ⟨ya0, ya1, ya2, ya3⟩ := Ba2.out.four
  obtain ⟨yp0, yp1, yp2, yp3, yp4, yp5, yp6, yp7, yp8, yp9, yp10, yp11, yp12, yp13⟩ := Bp2.out.fourteen
  obtain ⟨ys0, ys1, ys2, ys3, ys4, ys5⟩ := Bs2.out.six
  have Ba3 := Blk.up Ba2 (.cells #[.int .i64 k, .int .i64 mf, .int .i64 xf, .int .i64 ms, .int .i64 xs, .bool st, .int .i64 cs, .bool ns, .string ts, .int .i64 es, .int .i64 md, .bool hd, .int .i64 im, .int .i64 0] 32)
  have Bp3 := Blk.up Bp2 (.cells #[.int .i64 k, .int .i64 mf, .int .i64 xf, .int .i64 ms, .int .i64 xs, .bool st, .int .i64 cs, .bool ns, .string ts, .int .i64 es, .int .i64 md, .bool hd, .int .i64 im, .int .i64 0] 32)
  have Bs3 := Blk.up Bs2 (.cells #[.int .i64 k, .int .i64 mf, .int .i64 xf, .int .i64 ms, .int .i64 xs, .bool st, .int .i64 cs, .bool ns, .string ts, .int .i64 es, .int .i64 md, .bool hd, .int .i64 im, .int .i64 0] 32)
  have Bq3 := hide ((Blk.newAt (w1.alloc (.cells #[.int .i64 2, .bool sn, .string si, .string sf, .int .i64 sx, .bool sm] 36)) ((w1.alloc (.cells #[.int .i64 2, .bool sn, .string si, .string sf, .int .i64 sx, .bool sm] 36)).heap.size) (rfl) #[.int .i64 k, .int .i64 mf, .int .i64 xf, .int .i64 ms, .int .i64 xs, .bool st, .int .i64 cs, .bool ns, .string ts, .int .i64 es, .int .i64 md, .bool hd, .int .i64 im, .int .i64 0] 32))
  have HB3 : Hid (Below w.heap.size w ((w1.alloc (.cells #[.int .i64 2, .bool sn, .string si, .string sf, .int .i64 sx, .bool sm] 36)).alloc (.cells #[.int .i64 k, .int .i64 mf, .int .i64 xf, .int .i64 ms, .int .i64 xs, .bool st, .int .i64 cs, .bool ns, .string ts, .int .i64 es, .int .i64 md, .bool hd, .int .i64 im, .int .i64 0] 32))) := (HB2.out.alloc HB2.out.size _)
  clear Ba2 Bp2 Bs2 HB2 
  obtain ⟨ya0, ya1, ya2, ya3⟩ := Ba3.out.four
  obtain ⟨yp0, yp1, yp2, yp3, yp4, yp5, yp6, yp7, yp8, yp9, yp10, yp11, yp12, yp13⟩ := Bp3.out.fourteen
  obtain ⟨ys0, ys1, ys2, ys3, ys4, ys5⟩ := Bs3.out.six
  obtain ⟨yq0, yq1, yq2, yq3, yq4, yq5, yq6, yq7, yq8, yq9, yq10, yq11, yq12, yq13⟩ := Bq3.out.fourteen
  go_wp2_with fail
  refine (H2.out _ (HT.out.below HB3.out)).mono ?_
  rintro e w4 ⟨rfl, hb⟩
  have Ba4 := Blk.on Ba3 hb
  have Bp4 := Blk.on Bp3 hb
  have Bs4 := Blk.on Bs3 hb
  have Bq4 := Blk.on Bq3 hb
  have HB4 := hide (HB3.out.trans (hb.mono HB3.out.size))
  clear hb Ba3 Bp3 Bs3 Bq3 HB3 ya0 ya1 ya2 ya3 yp0 yp1 yp2 yp3 yp4 yp5 yp6 yp7 yp8 yp9 yp10 yp11 yp12 yp13 ys0 ys1 ys2 ys3 ys4 ys5 yq0 yq1 yq2 yq3 yq4 yq5 yq6 yq7 yq8 yq9 yq10 yq11 yq12 yq13
  obtain ⟨ya0, ya1, ya2, ya3⟩ := Ba4.out.four
  obtain ⟨yp0, yp1, yp2, yp3, yp4, yp5, yp6, yp7, yp8, yp9, yp10, yp11, yp12, yp13⟩ := Bp4.out.fourteen
  obtain ⟨ys0, ys1, ys2, ys3, ys4, ys5⟩ := Bs4.out.six
  obtain ⟨yq0, yq1, yq2, yq3, yq4, yq5, yq6, yq7, yq8, yq9, yq10, yq11, yq12, yq13⟩ := Bq4.out.fourteen
  have Ba5 := Blk.up Ba4 (.cells #[.int .i64 2, .bool sn, .string si, .string sf, .int .i64 sx, .bool sm] 36)
  have Bp5 := Blk.up Bp4 (.cells #[.int .i64 2, .bool sn, .string si, .string sf, .int .i64 sx, .bool sm] 36)
  have Bs5 := Blk.up Bs4 (.cells #[.int .i64 2, .bool sn, .string si, .string sf, .int .i64 sx, .bool sm] 36)
  have Bq5 := Blk.up Bq4 (.cells #[.int .i64 2, .bool sn, .string si, .string sf, .int .i64 sx, .bool sm] 36)
  have Bt5 := hide ((Blk.newAt w4 (w4.heap.size) (rfl) #[.int .i64 2, .bool sn, .string si, .string sf, .int .i64 sx, .bool sm] 36))
  have HB5 : Hid (Below w.heap.size w (w4.alloc (.cells #[.int .i64 2, .bool sn, .string si, .string sf, .int .i64 sx, .bool sm] 36))) := (HB4.out.alloc HB4.out.size _)
  clear Ba4 Bp4 Bs4 Bq4 HB4 ya0 ya1 ya2 ya3 yp0 yp1 yp2 yp3 yp4 yp5 yp6 yp7 yp8 yp9 yp10 yp11 yp12 yp13 ys0 ys1 ys2 ys3 ys4 ys5 yq0 yq1 yq2 yq3 yq4 yq5 yq6 yq7 yq8 yq9 yq10 yq11 yq12 yq13
  obtain ⟨ya0, ya1, ya2, ya3⟩ := Ba5.out.four
  obtain ⟨yp0, yp1, yp2, yp3, yp4, yp5, yp6, yp7, yp8, yp9, yp10, yp11, yp12, yp13⟩ := Bp5.out.fourteen
  obtain ⟨ys0, ys1, ys2, ys3, ys4, ys5⟩ := Bs5.out.six
  obtain ⟨yq0, yq1, yq2, yq3, yq4, yq5, yq6, yq7, yq8, yq9, yq10, yq11, yq12, yq13⟩ := Bq5.out.fourteen
  obtain ⟨yt0, yt1, yt2, yt3, yt4, yt5⟩ := Bt5.out.six
  go_wp2_with fail
  refine (xawake_any _ (HT.out.below HB5.out)).mono ?_
  rintro e w6 ⟨rfl, hb⟩
  have Ba6 := Blk.on Ba5 hb
  have Bp6 := Blk.on Bp5 hb
  have Bs6 := Blk.on Bs5 hb
  have Bq6 := Blk.on Bq5 hb
  have Bt6 := Blk.on Bt5 hb
  have HB6 := hide (HB5.out.trans (hb.mono HB5.out.size))
  clear hb Ba5 Bp5 Bs5 Bq5 Bt5 HB5 ya0 ya1 ya2 ya3 yp0 yp1 yp2 yp3 yp4 yp5 yp6 yp7 yp8 yp9 yp10 yp11 yp12 yp13 ys0 ys1 ys2 ys3 ys4 ys5 yq0 yq1 yq2 yq3 yq4 yq5 yq6 yq7 yq8 yq9 yq10 yq11 yq12 yq13 yt0 yt1 yt2 yt3 yt4 yt5
  obtain ⟨ya0, ya1, ya2, ya3⟩ := Ba6.out.four
  obtain ⟨yp0, yp1, yp2, yp3, yp4, yp5, yp6, yp7, yp8, yp9, yp10, yp11, yp12, yp13⟩ := Bp6.out.fourteen
  obtain ⟨ys0, ys1, ys2, ys3, ys4, ys5⟩ := Bs6.out.six
  obtain ⟨yq0, yq1, yq2, yq3, yq4, yq5, yq6, yq7, yq8, yq9, yq10, yq11, yq12, yq13⟩ := Bq6.out.fourteen
  obtain ⟨yt0, yt1, yt2, yt3, yt4, yt5⟩ := Bt6.out.six
  go_wp2
  go_ret
  exact ⟨rfl, HB6.out⟩

set_option maxRecDepth 100000 in
set_option maxHeartbeats 4000000 in
theorem cuts_s (ca : Int) (na : Bool) (ta : ByteArray) (ea k mf xf ms xs : Int) (st : Bool) (cs : Int) (ns : Bool) (ts : ByteArray) (es md : Int) (hd : Bool) (im ix : Int) (sn : Bool) (si sf : ByteArray) (sx : Int) (sm : Bool) (w : World) (htab : Tab w) (h1 : ∀ W, Tab W → Calls Tryz.prog 22 #[dcV ca na ta ea, prV k mf xf ms xs st cs ns ts es md hd im ix] W fun e w' => e = .returned (.tuple #[.agg #[.int .i64 0, .bool sn, .string si, .string sf, .int .i64 sx, .bool sm], .int .i64 0]) ∧ Below W.heap.size W w') (h2 : ∀ W, Tab W → Calls Tryz.prog 22 #[dcV ca na ta ea, prV k mf xf ms xs st cs ns ts es md hd im 0] W fun e w' => e = .returned (.tuple #[.agg #[.int .i64 0, .bool sn, .string si, .string sf, .int .i64 sx, .bool sm], .int .i64 0]) ∧ Below W.heap.size W w') (hx : ¬ ix = 0) (hl : (si.size : Int) ≤ ix) : Calls Tryz.prog 9 #[dcV ca na ta ea, prV k mf xf ms xs st cs ns ts es md hd im ix] w fun e w' => e = .returned (.bool true) ∧ Below w.heap.size w w' := by
  have H1 := hide h1
  have H2 := hide h2
  have HT := hide htab
  clear htab h1 h2
  have Ba0 := hide ((Blk.newAt w (w.heap.size) (rfl) #[.int .i64 ca, .bool na, .string ta, .int .i64 ea] 23).alloc (.cells #[.int .i64 k, .int .i64 mf, .int .i64 xf, .int .i64 ms, .int .i64 xs, .bool st, .int .i64 cs, .bool ns, .string ts, .int .i64 es, .int .i64 md, .bool hd, .int .i64 im, .int .i64 ix] 32))
  have Bp0 := hide (Blk.newAt (w.alloc (.cells #[.int .i64 ca, .bool na, .string ta, .int .i64 ea] 23)) (w.heap.size + 1) (by simp) #[.int .i64 k, .int .i64 mf, .int .i64 xf, .int .i64 ms, .int .i64 xs, .bool st, .int .i64 cs, .bool ns, .string ts, .int .i64 es, .int .i64 md, .bool hd, .int .i64 im, .int .i64 ix] 32)
  have HB0 : Hid (Below w.heap.size w ((w.alloc (.cells #[.int .i64 ca, .bool na, .string ta, .int .i64 ea] 23)).alloc (.cells #[.int .i64 k, .int .i64 mf, .int .i64 xf, .int .i64 ms, .int .i64 xs, .bool st, .int .i64 cs, .bool ns, .string ts, .int .i64 es, .int .i64 md, .bool hd, .int .i64 im, .int .i64 ix] 32))) := (((Below.refl _ _).alloc (Nat.le_refl _) _).alloc (by simp <;> omega) _)
  go_enter Tryz.func9, Tryz.ntmps9
  go_wp2_with fail
  refine (H1.out _ (HT.out.below HB0.out)).mono ?_
  rintro e w1 ⟨rfl, hb⟩
  have Ba1 := Blk.on Ba0 hb
  have Bp1 := Blk.on Bp0 hb
  have HB1 := hide (HB0.out.trans (hb.mono HB0.out.size))
  clear hb Ba0 Bp0 HB0 
  obtain ⟨ya0, ya1, ya2, ya3⟩ := Ba1.out.four
  obtain ⟨yp0, yp1, yp2, yp3, yp4, yp5, yp6, yp7, yp8, yp9, yp10, yp11, yp12, yp13⟩ := Bp1.out.fourteen
  have Ba2 := Blk.up Ba1 (.cells #[.int .i64 0, .bool sn, .string si, .string sf, .int .i64 sx, .bool sm] 36)
  have Bp2 := Blk.up Bp1 (.cells #[.int .i64 0, .bool sn, .string si, .string sf, .int .i64 sx, .bool sm] 36)
  have Bs2 := hide ((Blk.newAt w1 (w1.heap.size) (rfl) #[.int .i64 0, .bool sn, .string si, .string sf, .int .i64 sx, .bool sm] 36))
  have HB2 : Hid (Below w.heap.size w (w1.alloc (.cells #[.int .i64 0, .bool sn, .string si, .string sf, .int .i64 sx, .bool sm] 36))) := (HB1.out.alloc HB1.out.size _)
  clear Ba1 Bp1 HB1 ya0 ya1 ya2 ya3 yp0 yp1 yp2 yp3 yp4 yp5 yp6 yp7 yp8 yp9 yp10 yp11 yp12 yp13
  obtain ⟨ya0, ya1, ya2, ya3⟩ := Ba2.out.four
  obtain ⟨yp0, yp1, yp2, yp3, yp4, yp5, yp6, yp7, yp8, yp9, yp10, yp11, yp12, yp13⟩ := Bp2.out.fourteen
  obtain ⟨ys0, ys1, ys2, ys3, ys4, ys5⟩ := Bs2.out.six
  have Ba3 := Blk.up Ba2 (.cells #[.int .i64 k, .int .i64 mf, .int .i64 xf, .int .i64 ms, .int .i64 xs, .bool st, .int .i64 cs, .bool ns, .string ts, .int .i64 es, .int .i64 md, .bool hd, .int .i64 im, .int .i64 0] 32)
  have Bp3 := Blk.up Bp2 (.cells #[.int .i64 k, .int .i64 mf, .int .i64 xf, .int .i64 ms, .int .i64 xs, .bool st, .int .i64 cs, .bool ns, .string ts, .int .i64 es, .int .i64 md, .bool hd, .int .i64 im, .int .i64 0] 32)
  have Bs3 := Blk.up Bs2 (.cells #[.int .i64 k, .int .i64 mf, .int .i64 xf, .int .i64 ms, .int .i64 xs, .bool st, .int .i64 cs, .bool ns, .string ts, .int .i64 es, .int .i64 md, .bool hd, .int .i64 im, .int .i64 0] 32)
  have Bq3 := hide ((Blk.newAt (w1.alloc (.cells #[.int .i64 0, .bool sn, .string si, .string sf, .int .i64 sx, .bool sm] 36)) ((w1.alloc (.cells #[.int .i64 0, .bool sn, .string si, .string sf, .int .i64 sx, .bool sm] 36)).heap.size) (rfl) #[.int .i64 k, .int .i64 mf, .int .i64 xf, .int .i64 ms, .int .i64 xs, .bool st, .int .i64 cs, .bool ns, .string ts, .int .i64 es, .int .i64 md, .bool hd, .int .i64 im, .int .i64 0] 32))
  have HB3 : Hid (Below w.heap.size w ((w1.alloc (.cells #[.int .i64 0, .bool sn, .string si, .string sf, .int .i64 sx, .bool sm] 36)).alloc (.cells #[.int .i64 k, .int .i64 mf, .int .i64 xf, .int .i64 ms, .int .i64 xs, .bool st, .int .i64 cs, .bool ns, .string ts, .int .i64 es, .int .i64 md, .bool hd, .int .i64 im, .int .i64 0] 32))) := (HB2.out.alloc HB2.out.size _)
  clear Ba2 Bp2 Bs2 HB2 
  obtain ⟨ya0, ya1, ya2, ya3⟩ := Ba3.out.four
  obtain ⟨yp0, yp1, yp2, yp3, yp4, yp5, yp6, yp7, yp8, yp9, yp10, yp11, yp12, yp13⟩ := Bp3.out.fourteen
  obtain ⟨ys0, ys1, ys2, ys3, ys4, ys5⟩ := Bs3.out.six
  obtain ⟨yq0, yq1, yq2, yq3, yq4, yq5, yq6, yq7, yq8, yq9, yq10, yq11, yq12, yq13⟩ := Bq3.out.fourteen
  go_wp2_with fail
  refine (H2.out _ (HT.out.below HB3.out)).mono ?_
  rintro e w4 ⟨rfl, hb⟩
  have Ba4 := Blk.on Ba3 hb
  have Bp4 := Blk.on Bp3 hb
  have Bs4 := Blk.on Bs3 hb
  have Bq4 := Blk.on Bq3 hb
  have HB4 := hide (HB3.out.trans (hb.mono HB3.out.size))
  clear hb Ba3 Bp3 Bs3 Bq3 HB3 ya0 ya1 ya2 ya3 yp0 yp1 yp2 yp3 yp4 yp5 yp6 yp7 yp8 yp9 yp10 yp11 yp12 yp13 ys0 ys1 ys2 ys3 ys4 ys5 yq0 yq1 yq2 yq3 yq4 yq5 yq6 yq7 yq8 yq9 yq10 yq11 yq12 yq13
  obtain ⟨ya0, ya1, ya2, ya3⟩ := Ba4.out.four
  obtain ⟨yp0, yp1, yp2, yp3, yp4, yp5, yp6, yp7, yp8, yp9, yp10, yp11, yp12, yp13⟩ := Bp4.out.fourteen
  obtain ⟨ys0, ys1, ys2, ys3, ys4, ys5⟩ := Bs4.out.six
  obtain ⟨yq0, yq1, yq2, yq3, yq4, yq5, yq6, yq7, yq8, yq9, yq10, yq11, yq12, yq13⟩ := Bq4.out.fourteen
  have Ba5 := Blk.up Ba4 (.cells #[.int .i64 0, .bool sn, .string si, .string sf, .int .i64 sx, .bool sm] 36)
  have Bp5 := Blk.up Bp4 (.cells #[.int .i64 0, .bool sn, .string si, .string sf, .int .i64 sx, .bool sm] 36)
  have Bs5 := Blk.up Bs4 (.cells #[.int .i64 0, .bool sn, .string si, .string sf, .int .i64 sx, .bool sm] 36)
  have Bq5 := Blk.up Bq4 (.cells #[.int .i64 0, .bool sn, .string si, .string sf, .int .i64 sx, .bool sm] 36)
  have Bt5 := hide ((Blk.newAt w4 (w4.heap.size) (rfl) #[.int .i64 0, .bool sn, .string si, .string sf, .int .i64 sx, .bool sm] 36))
  have HB5 : Hid (Below w.heap.size w (w4.alloc (.cells #[.int .i64 0, .bool sn, .string si, .string sf, .int .i64 sx, .bool sm] 36))) := (HB4.out.alloc HB4.out.size _)
  clear Ba4 Bp4 Bs4 Bq4 HB4 ya0 ya1 ya2 ya3 yp0 yp1 yp2 yp3 yp4 yp5 yp6 yp7 yp8 yp9 yp10 yp11 yp12 yp13 ys0 ys1 ys2 ys3 ys4 ys5 yq0 yq1 yq2 yq3 yq4 yq5 yq6 yq7 yq8 yq9 yq10 yq11 yq12 yq13
  obtain ⟨ya0, ya1, ya2, ya3⟩ := Ba5.out.four
  obtain ⟨yp0, yp1, yp2, yp3, yp4, yp5, yp6, yp7, yp8, yp9, yp10, yp11, yp12, yp13⟩ := Bp5.out.fourteen
  obtain ⟨ys0, ys1, ys2, ys3, ys4, ys5⟩ := Bs5.out.six
  obtain ⟨yq0, yq1, yq2, yq3, yq4, yq5, yq6, yq7, yq8, yq9, yq10, yq11, yq12, yq13⟩ := Bq5.out.fourteen
  obtain ⟨yt0, yt1, yt2, yt3, yt4, yt5⟩ := Bt5.out.six
  go_wp2_with fail
  refine (xawake_any _ (HT.out.below HB5.out)).mono ?_
  rintro e w6 ⟨rfl, hb⟩
  have Ba6 := Blk.on Ba5 hb
  have Bp6 := Blk.on Bp5 hb
  have Bs6 := Blk.on Bs5 hb
  have Bq6 := Blk.on Bq5 hb
  have Bt6 := Blk.on Bt5 hb
  have HB6 := hide (HB5.out.trans (hb.mono HB5.out.size))
  clear hb Ba5 Bp5 Bs5 Bq5 Bt5 HB5 ya0 ya1 ya2 ya3 yp0 yp1 yp2 yp3 yp4 yp5 yp6 yp7 yp8 yp9 yp10 yp11 yp12 yp13 ys0 ys1 ys2 ys3 ys4 ys5 yq0 yq1 yq2 yq3 yq4 yq5 yq6 yq7 yq8 yq9 yq10 yq11 yq12 yq13 yt0 yt1 yt2 yt3 yt4 yt5
  obtain ⟨ya0, ya1, ya2, ya3⟩ := Ba6.out.four
  obtain ⟨yp0, yp1, yp2, yp3, yp4, yp5, yp6, yp7, yp8, yp9, yp10, yp11, yp12, yp13⟩ := Bp6.out.fourteen
  obtain ⟨ys0, ys1, ys2, ys3, ys4, ys5⟩ := Bs6.out.six
  obtain ⟨yq0, yq1, yq2, yq3, yq4, yq5, yq6, yq7, yq8, yq9, yq10, yq11, yq12, yq13⟩ := Bq6.out.fourteen
  obtain ⟨yt0, yt1, yt2, yt3, yt4, yt5⟩ := Bt6.out.six
  go_wp2
  go_ret
  exact ⟨rfl, HB6.out⟩

set_option maxRecDepth 100000 in
set_option maxHeartbeats 4000000 in
theorem cuts_x (ca : Int) (na : Bool) (ta : ByteArray) (ea k mf xf ms xs : Int) (st : Bool) (cs : Int) (ns : Bool) (ts : ByteArray) (es md : Int) (hd : Bool) (im ix : Int) (q : Nat) (sn : Bool) (ti sf : ByteArray) (sx : Int) (sm : Bool) (w : World) (htab : Tab w) (h1 : ∀ W, Tab W → Calls Tryz.prog 22 #[dcV ca na ta ea, prV k mf xf ms xs st cs ns ts es md hd im ix] W fun e w' => e = .returned (.tuple #[.agg #[.int .i64 0, .bool sn, .string (ti.extract q ti.size), .string sf, .int .i64 sx, .bool sm], .int .i64 0]) ∧ Below W.heap.size W w') (h2 : ∀ W, Tab W → Calls Tryz.prog 22 #[dcV ca na ta ea, prV k mf xf ms xs st cs ns ts es md hd im 0] W fun e w' => e = .returned (.tuple #[.agg #[.int .i64 0, .bool sn, .string ti, .string sf, .int .i64 sx, .bool sm], .int .i64 0]) ∧ Below W.heap.size W w') (hx : 0 < ix) (hl : ix + (q : Int) = (ti.size : Int)) (hq : 0 < q) (hz : ti.size ≤ 100000) : Calls Tryz.prog 9 #[dcV ca na ta ea, prV k mf xf ms xs st cs ns ts es md hd im ix] w fun e w' => e = .returned (.bool true) ∧ Below w.heap.size w w' := by
  have H1 := hide h1
  have H2 := hide h2
  have HT := hide htab
  clear htab h1 h2
  have hx0 : ¬ ix = 0 := by omega
  have hl2 : ¬ (ti.size : Int) ≤ ix := by omega
  have hl3 : decide ((ti.size : Int) ≤ ix) = false := decide_eq_false hl2
  have hl4 : (ti.size : Int) - ix = (q : Int) := by omega
  have hl5 : (q : Int) ≤ (ti.size : Int) := by omega
  have hl6 : (ti.size : Int) ≤ 100000 := by omega
  clear hl hq hz
  have Ba0 := hide ((Blk.newAt w (w.heap.size) (rfl) #[.int .i64 ca, .bool na, .string ta, .int .i64 ea] 23).alloc (.cells #[.int .i64 k, .int .i64 mf, .int .i64 xf, .int .i64 ms, .int .i64 xs, .bool st, .int .i64 cs, .bool ns, .string ts, .int .i64 es, .int .i64 md, .bool hd, .int .i64 im, .int .i64 ix] 32))
  have Bp0 := hide (Blk.newAt (w.alloc (.cells #[.int .i64 ca, .bool na, .string ta, .int .i64 ea] 23)) (w.heap.size + 1) (by simp) #[.int .i64 k, .int .i64 mf, .int .i64 xf, .int .i64 ms, .int .i64 xs, .bool st, .int .i64 cs, .bool ns, .string ts, .int .i64 es, .int .i64 md, .bool hd, .int .i64 im, .int .i64 ix] 32)
  have HB0 : Hid (Below w.heap.size w ((w.alloc (.cells #[.int .i64 ca, .bool na, .string ta, .int .i64 ea] 23)).alloc (.cells #[.int .i64 k, .int .i64 mf, .int .i64 xf, .int .i64 ms, .int .i64 xs, .bool st, .int .i64 cs, .bool ns, .string ts, .int .i64 es, .int .i64 md, .bool hd, .int .i64 im, .int .i64 ix] 32))) := (((Below.refl _ _).alloc (Nat.le_refl _) _).alloc (by simp <;> omega) _)
  go_enter Tryz.func9, Tryz.ntmps9
  go_wp2_with fail
  refine (H1.out _ (HT.out.below HB0.out)).mono ?_
  rintro e w1 ⟨rfl, hb⟩
  have Ba1 := Blk.on Ba0 hb
  have Bp1 := Blk.on Bp0 hb
  have HB1 := hide (HB0.out.trans (hb.mono HB0.out.size))
  clear hb Ba0 Bp0 HB0 
  obtain ⟨ya0, ya1, ya2, ya3⟩ := Ba1.out.four
  obtain ⟨yp0, yp1, yp2, yp3, yp4, yp5, yp6, yp7, yp8, yp9, yp10, yp11, yp12, yp13⟩ := Bp1.out.fourteen
  have Ba2 := Blk.up Ba1 (.cells #[.int .i64 0, .bool sn, .string (ti.extract q ti.size), .string sf, .int .i64 sx, .bool sm] 36)
  have Bp2 := Blk.up Bp1 (.cells #[.int .i64 0, .bool sn, .string (ti.extract q ti.size), .string sf, .int .i64 sx, .bool sm] 36)
  have Bs2 := hide ((Blk.newAt w1 (w1.heap.size) (rfl) #[.int .i64 0, .bool sn, .string (ti.extract q ti.size), .string sf, .int .i64 sx, .bool sm] 36))
  have HB2 : Hid (Below w.heap.size w (w1.alloc (.cells #[.int .i64 0, .bool sn, .string (ti.extract q ti.size), .string sf, .int .i64 sx, .bool sm] 36))) := (HB1.out.alloc HB1.out.size _)
  clear Ba1 Bp1 HB1 ya0 ya1 ya2 ya3 yp0 yp1 yp2 yp3 yp4 yp5 yp6 yp7 yp8 yp9 yp10 yp11 yp12 yp13
  obtain ⟨ya0, ya1, ya2, ya3⟩ := Ba2.out.four
  obtain ⟨yp0, yp1, yp2, yp3, yp4, yp5, yp6, yp7, yp8, yp9, yp10, yp11, yp12, yp13⟩ := Bp2.out.fourteen
  obtain ⟨ys0, ys1, ys2, ys3, ys4, ys5⟩ := Bs2.out.six
  have Ba3 := Blk.up Ba2 (.cells #[.int .i64 k, .int .i64 mf, .int .i64 xf, .int .i64 ms, .int .i64 xs, .bool st, .int .i64 cs, .bool ns, .string ts, .int .i64 es, .int .i64 md, .bool hd, .int .i64 im, .int .i64 0] 32)
  have Bp3 := Blk.up Bp2 (.cells #[.int .i64 k, .int .i64 mf, .int .i64 xf, .int .i64 ms, .int .i64 xs, .bool st, .int .i64 cs, .bool ns, .string ts, .int .i64 es, .int .i64 md, .bool hd, .int .i64 im, .int .i64 0] 32)
  have Bs3 := Blk.up Bs2 (.cells #[.int .i64 k, .int .i64 mf, .int .i64 xf, .int .i64 ms, .int .i64 xs, .bool st, .int .i64 cs, .bool ns, .string ts, .int .i64 es, .int .i64 md, .bool hd, .int .i64 im, .int .i64 0] 32)
  have Bq3 := hide ((Blk.newAt (w1.alloc (.cells #[.int .i64 0, .bool sn, .string (ti.extract q ti.size), .string sf, .int .i64 sx, .bool sm] 36)) ((w1.alloc (.cells #[.int .i64 0, .bool sn, .string (ti.extract q ti.size), .string sf, .int .i64 sx, .bool sm] 36)).heap.size) (rfl) #[.int .i64 k, .int .i64 mf, .int .i64 xf, .int .i64 ms, .int .i64 xs, .bool st, .int .i64 cs, .bool ns, .string ts, .int .i64 es, .int .i64 md, .bool hd, .int .i64 im, .int .i64 0] 32))
  have HB3 : Hid (Below w.heap.size w ((w1.alloc (.cells #[.int .i64 0, .bool sn, .string (ti.extract q ti.size), .string sf, .int .i64 sx, .bool sm] 36)).alloc (.cells #[.int .i64 k, .int .i64 mf, .int .i64 xf, .int .i64 ms, .int .i64 xs, .bool st, .int .i64 cs, .bool ns, .string ts, .int .i64 es, .int .i64 md, .bool hd, .int .i64 im, .int .i64 0] 32))) := (HB2.out.alloc HB2.out.size _)
  clear Ba2 Bp2 Bs2 HB2 
  obtain ⟨ya0, ya1, ya2, ya3⟩ := Ba3.out.four
  obtain ⟨yp0, yp1, yp2, yp3, yp4, yp5, yp6, yp7, yp8, yp9, yp10, yp11, yp12, yp13⟩ := Bp3.out.fourteen
  obtain ⟨ys0, ys1, ys2, ys3, ys4, ys5⟩ := Bs3.out.six
  obtain ⟨yq0, yq1, yq2, yq3, yq4, yq5, yq6, yq7, yq8, yq9, yq10, yq11, yq12, yq13⟩ := Bq3.out.fourteen
  go_wp2_with fail
  refine (H2.out _ (HT.out.below HB3.out)).mono ?_
  rintro e w4 ⟨rfl, hb⟩
  have Ba4 := Blk.on Ba3 hb
  have Bp4 := Blk.on Bp3 hb
  have Bs4 := Blk.on Bs3 hb
  have Bq4 := Blk.on Bq3 hb
  have HB4 := hide (HB3.out.trans (hb.mono HB3.out.size))
  clear hb Ba3 Bp3 Bs3 Bq3 HB3 ya0 ya1 ya2 ya3 yp0 yp1 yp2 yp3 yp4 yp5 yp6 yp7 yp8 yp9 yp10 yp11 yp12 yp13 ys0 ys1 ys2 ys3 ys4 ys5 yq0 yq1 yq2 yq3 yq4 yq5 yq6 yq7 yq8 yq9 yq10 yq11 yq12 yq13
  have LS := hide Bs4.out.lt
  have LB := hide HB4.out.size
  obtain ⟨ya0, ya1, ya2, ya3⟩ := Ba4.out.four
  obtain ⟨yp0, yp1, yp2, yp3, yp4, yp5, yp6, yp7, yp8, yp9, yp10, yp11, yp12, yp13⟩ := Bp4.out.fourteen
  obtain ⟨ys0, ys1, ys2, ys3, ys4, ys5⟩ := Bs4.out.six
  obtain ⟨yq0, yq1, yq2, yq3, yq4, yq5, yq6, yq7, yq8, yq9, yq10, yq11, yq12, yq13⟩ := Bq4.out.fourteen
  have Ba5 := Blk.up Ba4 (.cells #[.int .i64 0, .bool sn, .string ti, .string sf, .int .i64 sx, .bool sm] 36)
  have Bp5 := Blk.up Bp4 (.cells #[.int .i64 0, .bool sn, .string ti, .string sf, .int .i64 sx, .bool sm] 36)
  have Bs5 := Blk.up Bs4 (.cells #[.int .i64 0, .bool sn, .string ti, .string sf, .int .i64 sx, .bool sm] 36)
  have Bq5 := Blk.up Bq4 (.cells #[.int .i64 0, .bool sn, .string ti, .string sf, .int .i64 sx, .bool sm] 36)
  have Bt5 := hide ((Blk.newAt w4 (w4.heap.size) (rfl) #[.int .i64 0, .bool sn, .string ti, .string sf, .int .i64 sx, .bool sm] 36))
  have HB5 : Hid (Below w.heap.size w (w4.alloc (.cells #[.int .i64 0, .bool sn, .string ti, .string sf, .int .i64 sx, .bool sm] 36))) := (HB4.out.alloc HB4.out.size _)
  clear Ba4 Bp4 Bs4 Bq4 HB4 ya0 ya1 ya2 ya3 yp0 yp1 yp2 yp3 yp4 yp5 yp6 yp7 yp8 yp9 yp10 yp11 yp12 yp13 ys0 ys1 ys2 ys3 ys4 ys5 yq0 yq1 yq2 yq3 yq4 yq5 yq6 yq7 yq8 yq9 yq10 yq11 yq12 yq13
  obtain ⟨ya0, ya1, ya2, ya3⟩ := Ba5.out.four
  obtain ⟨yp0, yp1, yp2, yp3, yp4, yp5, yp6, yp7, yp8, yp9, yp10, yp11, yp12, yp13⟩ := Bp5.out.fourteen
  obtain ⟨ys0, ys1, ys2, ys3, ys4, ys5⟩ := Bs5.out.six
  obtain ⟨yq0, yq1, yq2, yq3, yq4, yq5, yq6, yq7, yq8, yq9, yq10, yq11, yq12, yq13⟩ := Bq5.out.fourteen
  obtain ⟨yt0, yt1, yt2, yt3, yt4, yt5⟩ := Bt5.out.six
  go_wp2_with fail
  refine (xawake_any _ (HT.out.below HB5.out)).mono ?_
  rintro e w6 ⟨rfl, hb⟩
  have Ba6 := Blk.on Ba5 hb
  have Bp6 := Blk.on Bp5 hb
  have Bs6 := Blk.on Bs5 hb
  have Bq6 := Blk.on Bq5 hb
  have Bt6 := Blk.on Bt5 hb
  have HB6 := hide (HB5.out.trans (hb.mono HB5.out.size))
  clear hb Ba5 Bp5 Bs5 Bq5 Bt5 HB5 ya0 ya1 ya2 ya3 yp0 yp1 yp2 yp3 yp4 yp5 yp6 yp7 yp8 yp9 yp10 yp11 yp12 yp13 ys0 ys1 ys2 ys3 ys4 ys5 yq0 yq1 yq2 yq3 yq4 yq5 yq6 yq7 yq8 yq9 yq10 yq11 yq12 yq13 yt0 yt1 yt2 yt3 yt4 yt5
  obtain ⟨ya0, ya1, ya2, ya3⟩ := Ba6.out.four
  obtain ⟨yp0, yp1, yp2, yp3, yp4, yp5, yp6, yp7, yp8, yp9, yp10, yp11, yp12, yp13⟩ := Bp6.out.fourteen
  obtain ⟨ys0, ys1, ys2, ys3, ys4, ys5⟩ := Bs6.out.six
  obtain ⟨yq0, yq1, yq2, yq3, yq4, yq5, yq6, yq7, yq8, yq9, yq10, yq11, yq12, yq13⟩ := Bq6.out.fourteen
  obtain ⟨yt0, yt1, yt2, yt3, yt4, yt5⟩ := Bt6.out.six
  have nst : ¬ w1.heap.size = w4.heap.size := by have := LS.out; omega
  have nts : ¬ w4.heap.size = w1.heap.size := by have := LS.out; omega
  have ft2 := Bt6.out.free 2
  clear LS
  have Bse := hide (Bs6.out.other (a := ⟨w4.heap.size, 2, none⟩) (by simpa using nts) (.string (ti.extract q ti.size)))
  obtain ⟨s0, s1, s2, s3, s4, s5⟩ := Bse.out.six
  have Bte := hide (Bt6.out.sset2 (.string (ti.extract q ti.size)))
  obtain ⟨t0, t1, t2, t3, t4, t5⟩ := Bte.out.six
  clear Bse Bte
  go_wp2
  go_ret
  exact ⟨rfl, HB6.out.setCell (by have := HB6.out.size; have := LB.out; omega) _⟩

theorem wcuts_walk (w : World) (htab : Tab w) (ca : Int) (na : Bool) (ta : ByteArray) (ea k mf xf ms xs : Int) (st : Bool) (cs : Int) (ns : Bool) (ts : ByteArray) (es md : Int) (hd : Bool) (im ix : Int) : Calls Tryz.prog 9 #[dcV ca na ta ea, prV k mf xf ms xs st cs ns ts es md hd im ix] w fun e w' => e = .returned (.bool true) ∧ Below w.heap.size w w' := by
  have SA := fun W hW => Show_any ca na ta ea k mf xf ms xs st cs ns ts es md hd im ix W hW
  have SB := fun W hW => Show_any ca na ta ea k mf xf ms xs st cs ns ts es md hd im 0 W hW
  rcases showP_cases ca na (bys ta) ea ⟨k, mf, xf, ms, xs, st, cs, ns, bys ts, es, md, hd, im, ix⟩ with g | g | g | ⟨r, h, hp, hr, hm, g⟩
  · rw [g] at SA; exact cuts_51 ca na ta ea k mf xf ms xs st cs ns ts es md hd im ix _ _ _ _ _ _ _ w htab SA SB
  · rw [g] at SA; exact cuts_52 ca na ta ea k mf xf ms xs st cs ns ts es md hd im ix _ _ _ _ _ _ _ w htab SA SB
  · rw [g] at SA; exact cuts_70 ca na ta ea k mf xf ms xs st cs ns ts es md hd im ix _ _ _ _ _ _ _ w htab SA SB
  · rw [g] at SA
    have hp2 : MayP ⟨k, mf, xf, ms, xs, st, cs, ns, bys ts, es, md, hd, im, 0⟩ := ⟨hp.1, ⟨hp.2.1.1, .inl rfl⟩, hp.2.2⟩
    have hr2 : roundP ⟨k, mf, xf, ms, xs, st, cs, ns, bys ts, es, md, hd, im, 0⟩ ca na (bys ta) ea = (r, 0) := hr
    have g2 := showP_in h hp2 (by rw [hr2])
    rw [hr2] at g2
    rw [g2] at SB
    have hi := mayP_imax hp
    simp only at hi
    by_cases hx : ix = 0
    · subst hx
      exact cuts_z ca na ta ea k mf xf ms xs st cs ns ts es md hd im _ _ _ _ _ _ w htab SA SB
    · have hm' := hm
      rcases shown_q ⟨k, mf, xf, ms, xs, st, cs, ns, bys ts, es, md, hd, im, ix⟩ r hx hi.2.2.1 with ⟨hc, q1⟩ | ⟨hc, ⟨q1, q2⟩ | ⟨q, q1, q2, q3⟩⟩
      · rw [q1] at SA
        have hs : shownP ⟨k, mf, xf, ms, xs, st, cs, ns, bys ts, es, md, hd, im, 0⟩ r = ⟨r.cls, r.neg, [], [], 0, false⟩ := by unfold shownP; rw [if_neg hc]
        rw [hs] at SA SB
        rcases may_cases hm with ⟨m, g⟩ | g | ⟨m, g⟩ | g
        · rw [g] at hc; exact absurd rfl hc
        · exact absurd g.cls hc
        · subst g; exact cuts_c1 ca na ta ea k mf xf ms xs st cs ns ts es md hd im ix _ _ _ _ _ w htab SA SB hx
        · subst g; exact cuts_c2 ca na ta ea k mf xf ms xs st cs ns ts es md hd im ix _ _ _ _ _ w htab SA SB hx
      · rw [q2] at SA
        have hcl : (shownP ⟨k, mf, xf, ms, xs, st, cs, ns, bys ts, es, md, hd, im, 0⟩ r).cls = 0 := by unfold shownP; rw [if_pos hc]
        simp only at SA SB q1
        generalize shownP ⟨k, mf, xf, ms, xs, st, cs, ns, bys ts, es, md, hd, im, 0⟩ r = s at SA SB q1 hcl
        obtain ⟨sc, sn, si, sf, sx, sm⟩ := s
        simp only at hcl q1
        subst hcl
        exact cuts_s ca na ta ea k mf xf ms xs st cs ns ts es md hd im ix _ _ _ _ _ w htab SA SB hx (by rw [size_mk0]; exact q1)
      · rw [q3] at SA
        have hcl : (shownP ⟨k, mf, xf, ms, xs, st, cs, ns, bys ts, es, md, hd, im, 0⟩ r).cls = 0 := by unfold shownP; rw [if_pos hc]
        have hlen := (value_shown hp2 hm rfl).1
        simp only at SA SB q2
        generalize shownP ⟨k, mf, xf, ms, xs, st, cs, ns, bys ts, es, md, hd, im, 0⟩ r = s at SA SB q2 hcl hlen
        obtain ⟨sc, sn, si, sf, sx, sm⟩ := s
        simp only at hcl q2
        subst hcl
        have hz : si.length ≤ 4096 := by
          rcases hlen.2 with ⟨_, _, ⟨z, _⟩, _⟩ | ⟨z, _⟩ | ⟨z, _⟩
          · exact z
          · exact absurd (show (0 : Int) = 1 from z) (by decide)
          · exact absurd (show (0 : Int) = 2 from z) (by decide)
        refine cuts_x ca na ta ea k mf xf ms xs st cs ns ts es md hd im ix q sn ⟨si.toArray⟩ _ _ _ w htab ?_ SB (by omega) (by rw [size_mk0]; omega) q1 (by rw [size_mk0]; omega)
        have e1 : (⟨si.toArray⟩ : ByteArray).extract q (⟨si.toArray⟩ : ByteArray).size = ⟨(si.drop q).toArray⟩ := by
          rw [← mk_bys ((⟨si.toArray⟩ : ByteArray).extract q (⟨si.toArray⟩ : ByteArray).size), bys_from _ _ _ (Nat.le_refl _), bys_mk si]
        rw [e1]
        exact SA

end Go.Proofs.YtckijnlolmbdiaaGreatDoor
