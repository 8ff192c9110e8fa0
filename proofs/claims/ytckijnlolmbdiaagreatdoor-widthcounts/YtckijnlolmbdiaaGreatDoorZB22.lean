/-
  Plain mathematics: how many digits are shown.
  WidthCounts, where no digits are counted.
  WidthCounts, of the digits that a precision of kind 0 shows.
  WidthCounts, of the digits that a precision of kind 1 shows.
  WidthCounts, of the digits that a precision of kind 2 shows.
  WidthCounts, of the digits that a precision of kind 3 shows.
  WidthCounts, of the digits that a precision of kind 4 shows.
  WidthCounts answers true, whatever it is handed.
-/
import Derived.Test.YtckijnlolmbdiaaGreatDoorZB13
import Derived.Test.YtckijnlolmbdiaaGreatDoorZB19
import Derived.Test.YtckijnlolmbdiaaGreatDoorZB12
namespace Go.Proofs.YtckijnlolmbdiaaGreatDoor

theorem round_sign {p : PrecT} {c : Int} {n : Bool} {l : List UInt8} {e : Int} {r : DecT} (hp : MayP p) (h : MayD c n l e) (hr : roundP p c n l e = (r, 0)) : (r.cls : Int) = c ∧ r.neg = n ∧ (l = [] → r.dig = [] ∧ r.exp = e) := by
  have hc := may_cls h
  by_cases k : p.kind = 0
  · rw [roundP_0 k] at hr
    obtain rfl := (Prod.mk.inj hr).1
    exact ⟨hc.symm, rfl, fun g => ⟨g, rfl⟩⟩
  · rw [roundP_rnd hp h k] at hr
    by_cases hz : l = []
    · rw [rndD_zero (show (DecT.mk c.toNat n l e).dig = [] from hz)] at hr
      obtain rfl := (Prod.mk.inj hr).1
      exact ⟨hc.symm, rfl, fun g => ⟨g, rfl⟩⟩
    · have hd : Fin ⟨c.toNat, n, l, e⟩ := may_fin (may_of h) hz
      obtain ⟨_, _, b3, b4, _⟩ := may_pl h
      have hv := rndD_val (may_of h) hd.cls (unitN p) p.mode.toNat (unitX_in hp k b3 b4) (by rw [hr])
      rw [hr] at hv
      have h0 := hd.cls
      simp only at h0 hv
      exact ⟨by rw [hv.2.1, hc, h0], hv.2.2, fun g => absurd g hz⟩

theorem finD_exp (neg : Bool) (N : Nat) (x : Int) : (finD neg N x).dig = [] ∨ x ≤ (finD neg N x).exp := by
  unfold finD
  by_cases h : N = 0
  · rw [if_pos h]; exact .inl rfl
  · rw [if_neg h]
    obtain ⟨M, k, _, _, e⟩ := decA_form neg x h
    rw [e]
    exact .inr (by simp only; omega)

theorem round_exp {p : PrecT} {c : Int} {n : Bool} {l : List UInt8} {e : Int} {r : DecT} (hp : MayP p) (h : MayD c n l e) (hr : roundP p c n l e = (r, 0)) (k : p.kind = 1) : -p.maxF ≤ r.exp ∨ r.dig = [] := by
  rw [roundP_rnd hp h (by omega)] at hr
  have hx : unitX p ((l.length : Int) + e) = -p.maxF := by unfold unitX; rw [if_pos k]
  by_cases hz : l = []
  · rw [rndD_zero (show (DecT.mk c.toNat n l e).dig = [] from hz)] at hr
    obtain rfl := (Prod.mk.inj hr).1
    exact .inr hz
  · rw [rndD_fin (show (DecT.mk c.toNat n l e).dig ≠ [] from hz), hx] at hr
    generalize rndN _ _ _ _ * unitN p = K at hr
    simp only at hr
    by_cases hm : May (finD n K (-p.maxF))
    · rw [tellF_yes hm] at hr
      obtain rfl := (Prod.mk.inj hr).1
      rcases finD_exp n K (-p.maxF) with g | g
      · exact .inr g
      · exact .inl g
    · rw [tellF_no hm] at hr
      cases (Prod.mk.inj hr).2

theorem may_dig0 {r : DecT} (h : May r) (hz : r.dig = []) : r.exp = 0 := by
  rcases may_cases h with ⟨m, g⟩ | g | ⟨m, g⟩ | g
  · rw [g]
  · exact absurd hz g.ne
  · rw [g]
  · rw [g]

theorem behind_last {r : DecT} (h : May r) (hb : behindD r.dig r.exp ≠ []) : byt (behindD r.dig r.exp) ((behindD r.dig r.exp).length - 1) ≠ 48 := by
  have hz : r.dig ≠ [] := by
    intro g
    have e0 := may_dig0 h g
    apply hb
    unfold behindD
    rw [g, e0]
    rfl
  have hf := may_fin h hz
  obtain ⟨a, x, ha⟩ : ∃ a x, r.dig = a ++ [x] := ⟨r.dig.dropLast, r.dig.getLast hz, (List.dropLast_concat_getLast hz).symm⟩
  have hl := hf.last
  rw [ha, show (a ++ [x]).length - 1 = a.length by simp, byt_last] at hl
  obtain ⟨b, hb2⟩ : ∃ b, behindD r.dig r.exp = b ++ [x] := by
    unfold behindD at hb ⊢
    by_cases h1 : (r.dig.length : Int) + r.exp ≤ 0
    · rw [if_pos h1]
      exact ⟨nought (-((r.dig.length : Int) + r.exp)) ++ a, by rw [ha, List.append_assoc]⟩
    · rw [if_neg h1] at hb ⊢
      by_cases h2 : 0 ≤ r.exp
      · rw [if_pos h2] at hb; exact absurd rfl hb
      · rw [if_neg h2] at hb ⊢
        have hlen : r.dig.length = a.length + 1 := by rw [ha]; simp
        refine ⟨a.drop ((r.dig.length : Int) + r.exp).toNat, ?_⟩
        generalize hk : ((r.dig.length : Int) + r.exp).toNat = k
        have : k ≤ a.length := by omega
        rw [ha, List.drop_append_of_le_length this]
  rw [hb2, show (b ++ [x]).length - 1 = b.length by simp, byt_last]
  exact hl

structure Counts (p : PrecT) (r : DecT) (I F : List UInt8) : Prop where
  least : p.imin ≤ I.length
  some : ¬ (I = [] ∧ F = [])
  most : p.imax = 0 ∨ 0 < p.imax ∧ (I.length : Int) ≤ p.imax
  frac : F = fracP p (behindD r.dig r.exp) (leastP p r)
  ahead : p.imax = 0 → (r.dig.length : Int) + r.exp ≤ max 1 (I.length : Int)
  il : I.length ≤ 4096
  fl : F.length ≤ 4096

theorem counts {p : PrecT} {r : DecT} (hp : MayP p) (hr : May r) {I F : List UInt8} (hd : digitsP p r (leastP p r) = (I, F)) : Counts p r I F := by
  obtain ⟨i1, i2, i3, i4⟩ := mayP_imax hp
  have im := hp.2.1.2
  obtain ⟨n1, n2⟩ := leastP_in hp hr
  obtain ⟨l1, l2, _, l4⟩ := ab_len (show MayD (r.cls : Int) r.neg r.dig r.exp from hr)
  have fl := fill_len p (aheadD r.dig r.exp)
  have fr := frac_len p (behindD r.dig r.exp) (leastP p r)
  have hw : ((wholeP p (aheadD r.dig r.exp)).length : Int) = (fillI p (aheadD r.dig r.exp)).length ∧ (p.imax = 0 ∨ ((fillI p (aheadD r.dig r.exp)).length : Int) ≤ p.imax) ∨ ((wholeP p (aheadD r.dig r.exp)).length : Int) = p.imax ∧ 0 < p.imax := by
    unfold wholeP
    by_cases g : 0 < p.imax ∧ p.imax < ((fillI p (aheadD r.dig r.exp)).length : Int)
    · rw [if_pos g, List.length_drop]; right; omega
    · rw [if_neg g]; left; omega
  rcases digits_form p r (leastP p r) with ⟨h1, h2, h3⟩ | ⟨h1, h2⟩
  · rw [h3] at hd
    obtain ⟨rfl, rfl⟩ := Prod.mk.inj hd
    rw [h1] at hw
    simp only [List.length_nil] at hw
    refine ⟨?_, by simp, ?_, h2.symm, fun g => ?_, by simp, by simp⟩ <;> simp only [List.length_cons, List.length_nil] <;> omega
  · rw [h2] at hd
    obtain ⟨rfl, rfl⟩ := Prod.mk.inj hd
    refine ⟨by omega, fun g => h1.elim (fun q => q g.1) (fun q => q g.2), by omega, rfl, fun g => by omega, by omega, ?_⟩
    rcases fr with ⟨g, _⟩ | ⟨g, _⟩ <;> omega

theorem counts_least {p : PrecT} {r : DecT} {I F : List UInt8} (h : Counts p r I F) : leastP p r ≤ F.length ∨ F = [] ∧ p.hide = true := by
  rw [h.frac]
  rcases frac_len p (behindD r.dig r.exp) (leastP p r) with ⟨g, _, q⟩ | ⟨g, _⟩
  · exact .inr ⟨List.length_eq_zero_iff.1 g, q⟩
  · exact .inl (by omega)

theorem counts_frac {p : PrecT} {c : Int} {n : Bool} {l : List UInt8} {e : Int} {r : DecT} {I F : List UInt8} (hp : MayP p) (h : MayD c n l e) (hr : roundP p c n l e = (r, 0)) (hm : May r) (k : p.kind = 1) (hc : Counts p r I F) : (F.length : Int) ≤ p.maxF := by
  obtain ⟨⟨⟨a1, a2⟩, a3⟩, _⟩ := mayP_1 hp k
  have hl : leastP p r = p.minF := by unfold leastP; rw [if_neg (by omega), if_pos k]
  have hb := (ab_len (show MayD (r.cls : Int) r.neg r.dig r.exp from hm)).2.2.1
  have he : -p.maxF ≤ r.exp := by
    rcases round_exp hp h hr k with g | g
    · exact g
    · have := may_dig0 hm g; omega
  rw [hc.frac]
  rcases frac_len p (behindD r.dig r.exp) (leastP p r) with ⟨g, _⟩ | ⟨g, _⟩ <;> omega

theorem counts_last {p : PrecT} {r : DecT} {I F : List UInt8} (hm : May r) (k : p.kind = 0) (hc : Counts p r I F) (hF : F ≠ []) : byt F (F.length - 1) ≠ 48 := by
  have hl : leastP p r = 0 := by unfold leastP; rw [if_pos k]
  have hF2 : F = behindD r.dig r.exp := by
    rw [hc.frac, hl]
    rcases frac_len p (behindD r.dig r.exp) 0 with ⟨g, q, _⟩ | ⟨_, g⟩
    · rw [q]; exact List.length_eq_zero_iff.1 (by rw [q] at g; exact g)
    · rw [g, nought_nil (by omega), List.append_nil]
  rw [hF2] at hF ⊢
  exact behind_last hm hF

end Go.Proofs.YtckijnlolmbdiaaGreatDoor

namespace Go.Proofs.YtckijnlolmbdiaaGreatDoor
open Go.RowKit

set_option maxRecDepth 100000 in
set_option maxHeartbeats 2000000 in
theorem counts_51 (ca : Int) (na : Bool) (ta : ByteArray) (ea k mf xf ms xs : Int) (st : Bool) (cs : Int) (ns : Bool) (ts : ByteArray) (es md : Int) (hd : Bool) (im ix : Int)  (w : World) (htab : Tab w) (h1 : ∀ W, Tab W → Calls Tryz.prog 22 #[dcV ca na ta ea, prV k mf xf ms xs st cs ns ts es md hd im ix] W fun e w' => e = .returned (.tuple #[.agg #[.int .i64 0, .bool false, .string ⟨#[]⟩, .string ⟨#[]⟩, .int .i64 0, .bool false], .int .i64 51]) ∧ Below W.heap.size W w') : Calls Tryz.prog 10 #[dcV ca na ta ea, prV k mf xf ms xs st cs ns ts es md hd im ix] w fun e w' => e = .returned (.bool true) ∧ Below w.heap.size w w' := by
  have H1 := hide h1
  have HT := hide htab
  clear htab h1 
  have Ba0 := hide ((Blk.newAt w (w.heap.size) (rfl) #[.int .i64 ca, .bool na, .string ta, .int .i64 ea] 23).alloc (.cells #[.int .i64 k, .int .i64 mf, .int .i64 xf, .int .i64 ms, .int .i64 xs, .bool st, .int .i64 cs, .bool ns, .string ts, .int .i64 es, .int .i64 md, .bool hd, .int .i64 im, .int .i64 ix] 32))
  have Bp0 := hide (Blk.newAt (w.alloc (.cells #[.int .i64 ca, .bool na, .string ta, .int .i64 ea] 23)) (w.heap.size + 1) (by simp) #[.int .i64 k, .int .i64 mf, .int .i64 xf, .int .i64 ms, .int .i64 xs, .bool st, .int .i64 cs, .bool ns, .string ts, .int .i64 es, .int .i64 md, .bool hd, .int .i64 im, .int .i64 ix] 32)
  have HB0 : Hid (Below w.heap.size w ((w.alloc (.cells #[.int .i64 ca, .bool na, .string ta, .int .i64 ea] 23)).alloc (.cells #[.int .i64 k, .int .i64 mf, .int .i64 xf, .int .i64 ms, .int .i64 xs, .bool st, .int .i64 cs, .bool ns, .string ts, .int .i64 es, .int .i64 md, .bool hd, .int .i64 im, .int .i64 ix] 32))) := (((Below.refl _ _).alloc (Nat.le_refl _) _).alloc (by simp <;> omega) _)
  go_enter Tryz.func10, Tryz.ntmps10
  go_wp2_with fail
  refine (H1.out _ (HT.out.below HB0.out)).mono ?_
  rintro e w1 ⟨rfl, hb⟩
  have Ba1 := Blk.on Ba0 hb
  have Bp1 := Blk.on Bp0 hb
  have HB1 := hide (HB0.out.trans (hb.mono HB0.out.size))
  clear hb Ba0 Bp0 HB0 
  obtain ⟨ya0, ya1, ya2, ya3⟩ := Ba1.out.four
  obtain ⟨yp0, yp1, yp2, yp3, yp4, yp5, yp6, yp7, yp8, yp9, yp10, yp11, yp12, yp13⟩ := Bp1.out.fourteen
  have Ba2 := Blk.up Ba1 (.cells #[.int .i64 0, .bool false, .string ⟨#[]⟩, .string ⟨#[]⟩, .int .i64 0, .bool false] 36)
  have Bp2 := Blk.up Bp1 (.cells #[.int .i64 0, .bool false, .string ⟨#[]⟩, .string ⟨#[]⟩, .int .i64 0, .bool false] 36)
  have Bs2 := hide ((Blk.newAt w1 (w1.heap.size) (rfl) #[.int .i64 0, .bool false, .string ⟨#[]⟩, .string ⟨#[]⟩, .int .i64 0, .bool false] 36))
  have HB2 : Hid (Below w.heap.size w (w1.alloc (.cells #[.int .i64 0, .bool false, .string ⟨#[]⟩, .string ⟨#[]⟩, .int .i64 0, .bool false] 36))) := (HB1.out.alloc HB1.out.size _)
  clear Ba1 Bp1 HB1 ya0 ya1 ya2 ya3 yp0 yp1 yp2 yp3 yp4 yp5 yp6 yp7 yp8 yp9 yp10 yp11 yp12 yp13
  obtain ⟨ya0, ya1, ya2, ya3⟩ := Ba2.out.four
  obtain ⟨yp0, yp1, yp2, yp3, yp4, yp5, yp6, yp7, yp8, yp9, yp10, yp11, yp12, yp13⟩ := Bp2.out.fourteen
  obtain ⟨ys0, ys1, ys2, ys3, ys4, ys5⟩ := Bs2.out.six
  go_wp2_with fail
  refine (xawake_any _ (HT.out.below HB2.out)).mono ?_
  rintro e w3 ⟨rfl, hb⟩
  have Ba3 := Blk.on Ba2 hb
  have Bp3 := Blk.on Bp2 hb
  have Bs3 := Blk.on Bs2 hb
  have HB3 := hide (HB2.out.trans (hb.mono HB2.out.size))
  clear hb Ba2 Bp2 Bs2 HB2 ya0 ya1 ya2 ya3 yp0 yp1 yp2 yp3 yp4 yp5 yp6 yp7 yp8 yp9 yp10 yp11 yp12 yp13 ys0 ys1 ys2 ys3 ys4 ys5
  obtain ⟨ya0, ya1, ya2, ya3⟩ := Ba3.out.four
  obtain ⟨yp0, yp1, yp2, yp3, yp4, yp5, yp6, yp7, yp8, yp9, yp10, yp11, yp12, yp13⟩ := Bp3.out.fourteen
  obtain ⟨ys0, ys1, ys2, ys3, ys4, ys5⟩ := Bs3.out.six
  go_wp2
  go_ret
  exact ⟨rfl, HB3.out⟩

set_option maxRecDepth 100000 in
set_option maxHeartbeats 2000000 in
theorem counts_52 (ca : Int) (na : Bool) (ta : ByteArray) (ea k mf xf ms xs : Int) (st : Bool) (cs : Int) (ns : Bool) (ts : ByteArray) (es md : Int) (hd : Bool) (im ix : Int)  (w : World) (htab : Tab w) (h1 : ∀ W, Tab W → Calls Tryz.prog 22 #[dcV ca na ta ea, prV k mf xf ms xs st cs ns ts es md hd im ix] W fun e w' => e = .returned (.tuple #[.agg #[.int .i64 0, .bool false, .string ⟨#[]⟩, .string ⟨#[]⟩, .int .i64 0, .bool false], .int .i64 52]) ∧ Below W.heap.size W w') : Calls Tryz.prog 10 #[dcV ca na ta ea, prV k mf xf ms xs st cs ns ts es md hd im ix] w fun e w' => e = .returned (.bool true) ∧ Below w.heap.size w w' := by
  have H1 := hide h1
  have HT := hide htab
  clear htab h1 
  have Ba0 := hide ((Blk.newAt w (w.heap.size) (rfl) #[.int .i64 ca, .bool na, .string ta, .int .i64 ea] 23).alloc (.cells #[.int .i64 k, .int .i64 mf, .int .i64 xf, .int .i64 ms, .int .i64 xs, .bool st, .int .i64 cs, .bool ns, .string ts, .int .i64 es, .int .i64 md, .bool hd, .int .i64 im, .int .i64 ix] 32))
  have Bp0 := hide (Blk.newAt (w.alloc (.cells #[.int .i64 ca, .bool na, .string ta, .int .i64 ea] 23)) (w.heap.size + 1) (by simp) #[.int .i64 k, .int .i64 mf, .int .i64 xf, .int .i64 ms, .int .i64 xs, .bool st, .int .i64 cs, .bool ns, .string ts, .int .i64 es, .int .i64 md, .bool hd, .int .i64 im, .int .i64 ix] 32)
  have HB0 : Hid (Below w.heap.size w ((w.alloc (.cells #[.int .i64 ca, .bool na, .string ta, .int .i64 ea] 23)).alloc (.cells #[.int .i64 k, .int .i64 mf, .int .i64 xf, .int .i64 ms, .int .i64 xs, .bool st, .int .i64 cs, .bool ns, .string ts, .int .i64 es, .int .i64 md, .bool hd, .int .i64 im, .int .i64 ix] 32))) := (((Below.refl _ _).alloc (Nat.le_refl _) _).alloc (by simp <;> omega) _)
  go_enter Tryz.func10, Tryz.ntmps10
  go_wp2_with fail
  refine (H1.out _ (HT.out.below HB0.out)).mono ?_
  rintro e w1 ⟨rfl, hb⟩
  have Ba1 := Blk.on Ba0 hb
  have Bp1 := Blk.on Bp0 hb
  have HB1 := hide (HB0.out.trans (hb.mono HB0.out.size))
  clear hb Ba0 Bp0 HB0 
  obtain ⟨ya0, ya1, ya2, ya3⟩ := Ba1.out.four
  obtain ⟨yp0, yp1, yp2, yp3, yp4, yp5, yp6, yp7, yp8, yp9, yp10, yp11, yp12, yp13⟩ := Bp1.out.fourteen
  have Ba2 := Blk.up Ba1 (.cells #[.int .i64 0, .bool false, .string ⟨#[]⟩, .string ⟨#[]⟩, .int .i64 0, .bool false] 36)
  have Bp2 := Blk.up Bp1 (.cells #[.int .i64 0, .bool false, .string ⟨#[]⟩, .string ⟨#[]⟩, .int .i64 0, .bool false] 36)
  have Bs2 := hide ((Blk.newAt w1 (w1.heap.size) (rfl) #[.int .i64 0, .bool false, .string ⟨#[]⟩, .string ⟨#[]⟩, .int .i64 0, .bool false] 36))
  have HB2 : Hid (Below w.heap.size w (w1.alloc (.cells #[.int .i64 0, .bool false, .string ⟨#[]⟩, .string ⟨#[]⟩, .int .i64 0, .bool false] 36))) := (HB1.out.alloc HB1.out.size _)
  clear Ba1 Bp1 HB1 ya0 ya1 ya2 ya3 yp0 yp1 yp2 yp3 yp4 yp5 yp6 yp7 yp8 yp9 yp10 yp11 yp12 yp13
  obtain ⟨ya0, ya1, ya2, ya3⟩ := Ba2.out.four
  obtain ⟨yp0, yp1, yp2, yp3, yp4, yp5, yp6, yp7, yp8, yp9, yp10, yp11, yp12, yp13⟩ := Bp2.out.fourteen
  obtain ⟨ys0, ys1, ys2, ys3, ys4, ys5⟩ := Bs2.out.six
  go_wp2_with fail
  refine (xawake_any _ (HT.out.below HB2.out)).mono ?_
  rintro e w3 ⟨rfl, hb⟩
  have Ba3 := Blk.on Ba2 hb
  have Bp3 := Blk.on Bp2 hb
  have Bs3 := Blk.on Bs2 hb
  have HB3 := hide (HB2.out.trans (hb.mono HB2.out.size))
  clear hb Ba2 Bp2 Bs2 HB2 ya0 ya1 ya2 ya3 yp0 yp1 yp2 yp3 yp4 yp5 yp6 yp7 yp8 yp9 yp10 yp11 yp12 yp13 ys0 ys1 ys2 ys3 ys4 ys5
  obtain ⟨ya0, ya1, ya2, ya3⟩ := Ba3.out.four
  obtain ⟨yp0, yp1, yp2, yp3, yp4, yp5, yp6, yp7, yp8, yp9, yp10, yp11, yp12, yp13⟩ := Bp3.out.fourteen
  obtain ⟨ys0, ys1, ys2, ys3, ys4, ys5⟩ := Bs3.out.six
  go_wp2
  go_ret
  exact ⟨rfl, HB3.out⟩

set_option maxRecDepth 100000 in
set_option maxHeartbeats 2000000 in
theorem counts_70 (ca : Int) (na : Bool) (ta : ByteArray) (ea k mf xf ms xs : Int) (st : Bool) (cs : Int) (ns : Bool) (ts : ByteArray) (es md : Int) (hd : Bool) (im ix : Int)  (w : World) (htab : Tab w) (h1 : ∀ W, Tab W → Calls Tryz.prog 22 #[dcV ca na ta ea, prV k mf xf ms xs st cs ns ts es md hd im ix] W fun e w' => e = .returned (.tuple #[.agg #[.int .i64 0, .bool false, .string ⟨#[]⟩, .string ⟨#[]⟩, .int .i64 0, .bool false], .int .i64 70]) ∧ Below W.heap.size W w') : Calls Tryz.prog 10 #[dcV ca na ta ea, prV k mf xf ms xs st cs ns ts es md hd im ix] w fun e w' => e = .returned (.bool true) ∧ Below w.heap.size w w' := by
  have H1 := hide h1
  have HT := hide htab
  clear htab h1 
  have Ba0 := hide ((Blk.newAt w (w.heap.size) (rfl) #[.int .i64 ca, .bool na, .string ta, .int .i64 ea] 23).alloc (.cells #[.int .i64 k, .int .i64 mf, .int .i64 xf, .int .i64 ms, .int .i64 xs, .bool st, .int .i64 cs, .bool ns, .string ts, .int .i64 es, .int .i64 md, .bool hd, .int .i64 im, .int .i64 ix] 32))
  have Bp0 := hide (Blk.newAt (w.alloc (.cells #[.int .i64 ca, .bool na, .string ta, .int .i64 ea] 23)) (w.heap.size + 1) (by simp) #[.int .i64 k, .int .i64 mf, .int .i64 xf, .int .i64 ms, .int .i64 xs, .bool st, .int .i64 cs, .bool ns, .string ts, .int .i64 es, .int .i64 md, .bool hd, .int .i64 im, .int .i64 ix] 32)
  have HB0 : Hid (Below w.heap.size w ((w.alloc (.cells #[.int .i64 ca, .bool na, .string ta, .int .i64 ea] 23)).alloc (.cells #[.int .i64 k, .int .i64 mf, .int .i64 xf, .int .i64 ms, .int .i64 xs, .bool st, .int .i64 cs, .bool ns, .string ts, .int .i64 es, .int .i64 md, .bool hd, .int .i64 im, .int .i64 ix] 32))) := (((Below.refl _ _).alloc (Nat.le_refl _) _).alloc (by simp <;> omega) _)
  go_enter Tryz.func10, Tryz.ntmps10
  go_wp2_with fail
  refine (H1.out _ (HT.out.below HB0.out)).mono ?_
  rintro e w1 ⟨rfl, hb⟩
  have Ba1 := Blk.on Ba0 hb
  have Bp1 := Blk.on Bp0 hb
  have HB1 := hide (HB0.out.trans (hb.mono HB0.out.size))
  clear hb Ba0 Bp0 HB0 
  obtain ⟨ya0, ya1, ya2, ya3⟩ := Ba1.out.four
  obtain ⟨yp0, yp1, yp2, yp3, yp4, yp5, yp6, yp7, yp8, yp9, yp10, yp11, yp12, yp13⟩ := Bp1.out.fourteen
  have Ba2 := Blk.up Ba1 (.cells #[.int .i64 0, .bool false, .string ⟨#[]⟩, .string ⟨#[]⟩, .int .i64 0, .bool false] 36)
  have Bp2 := Blk.up Bp1 (.cells #[.int .i64 0, .bool false, .string ⟨#[]⟩, .string ⟨#[]⟩, .int .i64 0, .bool false] 36)
  have Bs2 := hide ((Blk.newAt w1 (w1.heap.size) (rfl) #[.int .i64 0, .bool false, .string ⟨#[]⟩, .string ⟨#[]⟩, .int .i64 0, .bool false] 36))
  have HB2 : Hid (Below w.heap.size w (w1.alloc (.cells #[.int .i64 0, .bool false, .string ⟨#[]⟩, .string ⟨#[]⟩, .int .i64 0, .bool false] 36))) := (HB1.out.alloc HB1.out.size _)
  clear Ba1 Bp1 HB1 ya0 ya1 ya2 ya3 yp0 yp1 yp2 yp3 yp4 yp5 yp6 yp7 yp8 yp9 yp10 yp11 yp12 yp13
  obtain ⟨ya0, ya1, ya2, ya3⟩ := Ba2.out.four
  obtain ⟨yp0, yp1, yp2, yp3, yp4, yp5, yp6, yp7, yp8, yp9, yp10, yp11, yp12, yp13⟩ := Bp2.out.fourteen
  obtain ⟨ys0, ys1, ys2, ys3, ys4, ys5⟩ := Bs2.out.six
  go_wp2_with fail
  refine (xawake_any _ (HT.out.below HB2.out)).mono ?_
  rintro e w3 ⟨rfl, hb⟩
  have Ba3 := Blk.on Ba2 hb
  have Bp3 := Blk.on Bp2 hb
  have Bs3 := Blk.on Bs2 hb
  have HB3 := hide (HB2.out.trans (hb.mono HB2.out.size))
  clear hb Ba2 Bp2 Bs2 HB2 ya0 ya1 ya2 ya3 yp0 yp1 yp2 yp3 yp4 yp5 yp6 yp7 yp8 yp9 yp10 yp11 yp12 yp13 ys0 ys1 ys2 ys3 ys4 ys5
  obtain ⟨ya0, ya1, ya2, ya3⟩ := Ba3.out.four
  obtain ⟨yp0, yp1, yp2, yp3, yp4, yp5, yp6, yp7, yp8, yp9, yp10, yp11, yp12, yp13⟩ := Bp3.out.fourteen
  obtain ⟨ys0, ys1, ys2, ys3, ys4, ys5⟩ := Bs3.out.six
  go_wp2
  go_ret
  exact ⟨rfl, HB3.out⟩

set_option maxRecDepth 100000 in
set_option maxHeartbeats 2000000 in
theorem counts_c1 (na : Bool) (ta : ByteArray) (ea k mf xf ms xs : Int) (st : Bool) (cs : Int) (ns : Bool) (ts : ByteArray) (es md : Int) (hd : Bool) (im ix : Int) (w : World) (htab : Tab w) (h1 : ∀ W, Tab W → Calls Tryz.prog 22 #[dcV 1 na ta ea, prV k mf xf ms xs st cs ns ts es md hd im ix] W fun e w' => e = .returned (.tuple #[.agg #[.int .i64 1, .bool na, .string ⟨#[]⟩, .string ⟨#[]⟩, .int .i64 0, .bool false], .int .i64 0]) ∧ Below W.heap.size W w') : Calls Tryz.prog 10 #[dcV 1 na ta ea, prV k mf xf ms xs st cs ns ts es md hd im ix] w fun e w' => e = .returned (.bool true) ∧ Below w.heap.size w w' := by
  have H1 := hide h1
  have HT := hide htab
  clear htab h1
  have Ba0 := hide ((Blk.newAt w (w.heap.size) (rfl) #[.int .i64 1, .bool na, .string ta, .int .i64 ea] 23).alloc (.cells #[.int .i64 k, .int .i64 mf, .int .i64 xf, .int .i64 ms, .int .i64 xs, .bool st, .int .i64 cs, .bool ns, .string ts, .int .i64 es, .int .i64 md, .bool hd, .int .i64 im, .int .i64 ix] 32))
  have Bp0 := hide (Blk.newAt (w.alloc (.cells #[.int .i64 1, .bool na, .string ta, .int .i64 ea] 23)) (w.heap.size + 1) (by simp) #[.int .i64 k, .int .i64 mf, .int .i64 xf, .int .i64 ms, .int .i64 xs, .bool st, .int .i64 cs, .bool ns, .string ts, .int .i64 es, .int .i64 md, .bool hd, .int .i64 im, .int .i64 ix] 32)
  have HB0 : Hid (Below w.heap.size w ((w.alloc (.cells #[.int .i64 1, .bool na, .string ta, .int .i64 ea] 23)).alloc (.cells #[.int .i64 k, .int .i64 mf, .int .i64 xf, .int .i64 ms, .int .i64 xs, .bool st, .int .i64 cs, .bool ns, .string ts, .int .i64 es, .int .i64 md, .bool hd, .int .i64 im, .int .i64 ix] 32))) := (((Below.refl _ _).alloc (Nat.le_refl _) _).alloc (by simp <;> omega) _)
  go_enter Tryz.func10, Tryz.ntmps10
  go_wp2_with fail
  refine (H1.out _ (HT.out.below HB0.out)).mono ?_
  rintro e w1 ⟨rfl, hb⟩
  have Ba1 := Blk.on Ba0 hb
  have Bp1 := Blk.on Bp0 hb
  have HB1 := hide (HB0.out.trans (hb.mono HB0.out.size))
  clear hb Ba0 Bp0 HB0 
  obtain ⟨ya0, ya1, ya2, ya3⟩ := Ba1.out.four
  obtain ⟨yp0, yp1, yp2, yp3, yp4, yp5, yp6, yp7, yp8, yp9, yp10, yp11, yp12, yp13⟩ := Bp1.out.fourteen
  have Ba2 := Blk.up Ba1 (.cells #[.int .i64 1, .bool na, .string ⟨#[]⟩, .string ⟨#[]⟩, .int .i64 0, .bool false] 36)
  have Bp2 := Blk.up Bp1 (.cells #[.int .i64 1, .bool na, .string ⟨#[]⟩, .string ⟨#[]⟩, .int .i64 0, .bool false] 36)
  have Bs2 := hide ((Blk.newAt w1 (w1.heap.size) (rfl) #[.int .i64 1, .bool na, .string ⟨#[]⟩, .string ⟨#[]⟩, .int .i64 0, .bool false] 36))
  have HB2 : Hid (Below w.heap.size w (w1.alloc (.cells #[.int .i64 1, .bool na, .string ⟨#[]⟩, .string ⟨#[]⟩, .int .i64 0, .bool false] 36))) := (HB1.out.alloc HB1.out.size _)
  clear Ba1 Bp1 HB1 ya0 ya1 ya2 ya3 yp0 yp1 yp2 yp3 yp4 yp5 yp6 yp7 yp8 yp9 yp10 yp11 yp12 yp13
  obtain ⟨ya0, ya1, ya2, ya3⟩ := Ba2.out.four
  obtain ⟨yp0, yp1, yp2, yp3, yp4, yp5, yp6, yp7, yp8, yp9, yp10, yp11, yp12, yp13⟩ := Bp2.out.fourteen
  obtain ⟨ys0, ys1, ys2, ys3, ys4, ys5⟩ := Bs2.out.six
  go_wp2_with fail
  refine (xawake_any _ (HT.out.below HB2.out)).mono ?_
  rintro e w3 ⟨rfl, hb⟩
  have Ba3 := Blk.on Ba2 hb
  have Bp3 := Blk.on Bp2 hb
  have Bs3 := Blk.on Bs2 hb
  have HB3 := hide (HB2.out.trans (hb.mono HB2.out.size))
  clear hb Ba2 Bp2 Bs2 HB2 ya0 ya1 ya2 ya3 yp0 yp1 yp2 yp3 yp4 yp5 yp6 yp7 yp8 yp9 yp10 yp11 yp12 yp13 ys0 ys1 ys2 ys3 ys4 ys5
  obtain ⟨ya0, ya1, ya2, ya3⟩ := Ba3.out.four
  obtain ⟨yp0, yp1, yp2, yp3, yp4, yp5, yp6, yp7, yp8, yp9, yp10, yp11, yp12, yp13⟩ := Bp3.out.fourteen
  obtain ⟨ys0, ys1, ys2, ys3, ys4, ys5⟩ := Bs3.out.six
  go_wp2
  go_ret
  exact ⟨rfl, HB3.out⟩

set_option maxRecDepth 100000 in
set_option maxHeartbeats 2000000 in
theorem counts_c2 (na : Bool) (ta : ByteArray) (ea k mf xf ms xs : Int) (st : Bool) (cs : Int) (ns : Bool) (ts : ByteArray) (es md : Int) (hd : Bool) (im ix : Int) (w : World) (htab : Tab w) (h1 : ∀ W, Tab W → Calls Tryz.prog 22 #[dcV 2 na ta ea, prV k mf xf ms xs st cs ns ts es md hd im ix] W fun e w' => e = .returned (.tuple #[.agg #[.int .i64 2, .bool na, .string ⟨#[]⟩, .string ⟨#[]⟩, .int .i64 0, .bool false], .int .i64 0]) ∧ Below W.heap.size W w') : Calls Tryz.prog 10 #[dcV 2 na ta ea, prV k mf xf ms xs st cs ns ts es md hd im ix] w fun e w' => e = .returned (.bool true) ∧ Below w.heap.size w w' := by
  have H1 := hide h1
  have HT := hide htab
  clear htab h1
  have Ba0 := hide ((Blk.newAt w (w.heap.size) (rfl) #[.int .i64 2, .bool na, .string ta, .int .i64 ea] 23).alloc (.cells #[.int .i64 k, .int .i64 mf, .int .i64 xf, .int .i64 ms, .int .i64 xs, .bool st, .int .i64 cs, .bool ns, .string ts, .int .i64 es, .int .i64 md, .bool hd, .int .i64 im, .int .i64 ix] 32))
  have Bp0 := hide (Blk.newAt (w.alloc (.cells #[.int .i64 2, .bool na, .string ta, .int .i64 ea] 23)) (w.heap.size + 1) (by simp) #[.int .i64 k, .int .i64 mf, .int .i64 xf, .int .i64 ms, .int .i64 xs, .bool st, .int .i64 cs, .bool ns, .string ts, .int .i64 es, .int .i64 md, .bool hd, .int .i64 im, .int .i64 ix] 32)
  have HB0 : Hid (Below w.heap.size w ((w.alloc (.cells #[.int .i64 2, .bool na, .string ta, .int .i64 ea] 23)).alloc (.cells #[.int .i64 k, .int .i64 mf, .int .i64 xf, .int .i64 ms, .int .i64 xs, .bool st, .int .i64 cs, .bool ns, .string ts, .int .i64 es, .int .i64 md, .bool hd, .int .i64 im, .int .i64 ix] 32))) := (((Below.refl _ _).alloc (Nat.le_refl _) _).alloc (by simp <;> omega) _)
  go_enter Tryz.func10, Tryz.ntmps10
  go_wp2_with fail
  refine (H1.out _ (HT.out.below HB0.out)).mono ?_
  rintro e w1 ⟨rfl, hb⟩
  have Ba1 := Blk.on Ba0 hb
  have Bp1 := Blk.on Bp0 hb
  have HB1 := hide (HB0.out.trans (hb.mono HB0.out.size))
  clear hb Ba0 Bp0 HB0 
  obtain ⟨ya0, ya1, ya2, ya3⟩ := Ba1.out.four
  obtain ⟨yp0, yp1, yp2, yp3, yp4, yp5, yp6, yp7, yp8, yp9, yp10, yp11, yp12, yp13⟩ := Bp1.out.fourteen
  have Ba2 := Blk.up Ba1 (.cells #[.int .i64 2, .bool na, .string ⟨#[]⟩, .string ⟨#[]⟩, .int .i64 0, .bool false] 36)
  have Bp2 := Blk.up Bp1 (.cells #[.int .i64 2, .bool na, .string ⟨#[]⟩, .string ⟨#[]⟩, .int .i64 0, .bool false] 36)
  have Bs2 := hide ((Blk.newAt w1 (w1.heap.size) (rfl) #[.int .i64 2, .bool na, .string ⟨#[]⟩, .string ⟨#[]⟩, .int .i64 0, .bool false] 36))
  have HB2 : Hid (Below w.heap.size w (w1.alloc (.cells #[.int .i64 2, .bool na, .string ⟨#[]⟩, .string ⟨#[]⟩, .int .i64 0, .bool false] 36))) := (HB1.out.alloc HB1.out.size _)
  clear Ba1 Bp1 HB1 ya0 ya1 ya2 ya3 yp0 yp1 yp2 yp3 yp4 yp5 yp6 yp7 yp8 yp9 yp10 yp11 yp12 yp13
  obtain ⟨ya0, ya1, ya2, ya3⟩ := Ba2.out.four
  obtain ⟨yp0, yp1, yp2, yp3, yp4, yp5, yp6, yp7, yp8, yp9, yp10, yp11, yp12, yp13⟩ := Bp2.out.fourteen
  obtain ⟨ys0, ys1, ys2, ys3, ys4, ys5⟩ := Bs2.out.six
  go_wp2_with fail
  refine (xawake_any _ (HT.out.below HB2.out)).mono ?_
  rintro e w3 ⟨rfl, hb⟩
  have Ba3 := Blk.on Ba2 hb
  have Bp3 := Blk.on Bp2 hb
  have Bs3 := Blk.on Bs2 hb
  have HB3 := hide (HB2.out.trans (hb.mono HB2.out.size))
  clear hb Ba2 Bp2 Bs2 HB2 ya0 ya1 ya2 ya3 yp0 yp1 yp2 yp3 yp4 yp5 yp6 yp7 yp8 yp9 yp10 yp11 yp12 yp13 ys0 ys1 ys2 ys3 ys4 ys5
  obtain ⟨ya0, ya1, ya2, ya3⟩ := Ba3.out.four
  obtain ⟨yp0, yp1, yp2, yp3, yp4, yp5, yp6, yp7, yp8, yp9, yp10, yp11, yp12, yp13⟩ := Bp3.out.fourteen
  obtain ⟨ys0, ys1, ys2, ys3, ys4, ys5⟩ := Bs3.out.six
  go_wp2
  go_ret
  exact ⟨rfl, HB3.out⟩

end Go.Proofs.YtckijnlolmbdiaaGreatDoor

namespace Go.Proofs.YtckijnlolmbdiaaGreatDoor
open Go.RowKit

set_option maxRecDepth 100000 in
set_option maxHeartbeats 4000000 in
theorem countsf_0f (na : Bool) (ta : ByteArray) (ea mf xf ms xs : Int) (st : Bool) (cs : Int) (ns : Bool) (ts : ByteArray) (es md im ix : Int) (si sf : ByteArray) (j b : Nat) (w : World) (htab : Tab w) (h1 : ∀ W, Tab W → Calls Tryz.prog 22 #[dcV 0 na ta ea, prV 0 mf xf ms xs st cs ns ts es md false im ix] W fun e w' => e = .returned (.tuple #[.agg #[.int .i64 0, .bool na, .string si, .string sf, .int .i64 0, .bool false], .int .i64 0]) ∧ Below W.heap.size W w') (i1 : im ≤ (si.size : Int)) (i2 : si.size + sf.size ≠ 0) (z1 : si.size ≤ 4096) (z2 : sf.size ≤ 4096) (hI : (¬ 0 < ix ∧ decide (0 < ix) = false) ∨ (0 < ix ∧ decide (ix < (si.size : Int)) = false)) (hR : ((sf.size : Int) == 0) = true ∨ (((sf.size : Int) == 0) = false ∧ (j : Int) < (sf.size : Int) ∧ j < sf.size ∧ (sf.size : Int) - 1 = (j : Int) ∧ (∀ h : j < sf.size, sf[j].toNat = b) ∧ (((b : Nat) : Int) == 48) = false ∧ ¬ ((b : Nat) : Int) = 48)) : Calls Tryz.prog 10 #[dcV 0 na ta ea, prV 0 mf xf ms xs st cs ns ts es md false im ix] w fun e w' => e = .returned (.bool true) ∧ Below w.heap.size w w' := by
  have H1 := hide h1
  have HT := hide htab
  have c1 : ¬ (si.size : Int) < im := by omega
  have c2 : decide ((si.size : Int) < im) = false := decide_eq_false c1
  have c3 : ¬ 9223372036854775807 < si.size + sf.size := by omega
  have c4 := toList_ne (t := si ++ sf) (by rw [ByteArray.size_append]; omega)
  clear htab h1 c1 i1 i2 z2 z1
  rcases hI with ⟨j1, j2⟩ | ⟨j1, j2⟩ <;> rcases hR with g0 | ⟨g0, g1, g2, g3, g4, g5, g6⟩
  all_goals
    have Ba0 := hide ((Blk.newAt w (w.heap.size) (rfl) #[.int .i64 0, .bool na, .string ta, .int .i64 ea] 23).alloc (.cells #[.int .i64 0, .int .i64 mf, .int .i64 xf, .int .i64 ms, .int .i64 xs, .bool st, .int .i64 cs, .bool ns, .string ts, .int .i64 es, .int .i64 md, .bool false, .int .i64 im, .int .i64 ix] 32))
    have Bp0 := hide (Blk.newAt (w.alloc (.cells #[.int .i64 0, .bool na, .string ta, .int .i64 ea] 23)) (w.heap.size + 1) (by simp) #[.int .i64 0, .int .i64 mf, .int .i64 xf, .int .i64 ms, .int .i64 xs, .bool st, .int .i64 cs, .bool ns, .string ts, .int .i64 es, .int .i64 md, .bool false, .int .i64 im, .int .i64 ix] 32)
    have HB0 : Hid (Below w.heap.size w ((w.alloc (.cells #[.int .i64 0, .bool na, .string ta, .int .i64 ea] 23)).alloc (.cells #[.int .i64 0, .int .i64 mf, .int .i64 xf, .int .i64 ms, .int .i64 xs, .bool st, .int .i64 cs, .bool ns, .string ts, .int .i64 es, .int .i64 md, .bool false, .int .i64 im, .int .i64 ix] 32))) := (((Below.refl _ _).alloc (Nat.le_refl _) _).alloc (by simp <;> omega) _)
    go_enter Tryz.func10, Tryz.ntmps10
    go_wp2_with fail
    refine (H1.out _ (HT.out.below HB0.out)).mono ?_
    rintro e w1 ⟨rfl, hb⟩
    have Ba1 := Blk.on Ba0 hb
    have Bp1 := Blk.on Bp0 hb
    have HB1 := hide (HB0.out.trans (hb.mono HB0.out.size))
    clear hb Ba0 Bp0 HB0 
    obtain ⟨ya0, ya1, ya2, ya3⟩ := Ba1.out.four
    obtain ⟨yp0, yp1, yp2, yp3, yp4, yp5, yp6, yp7, yp8, yp9, yp10, yp11, yp12, yp13⟩ := Bp1.out.fourteen
    have Ba2 := Blk.up Ba1 (.cells #[.int .i64 0, .bool na, .string si, .string sf, .int .i64 0, .bool false] 36)
    have Bp2 := Blk.up Bp1 (.cells #[.int .i64 0, .bool na, .string si, .string sf, .int .i64 0, .bool false] 36)
    have Bs2 := hide ((Blk.newAt w1 (w1.heap.size) (rfl) #[.int .i64 0, .bool na, .string si, .string sf, .int .i64 0, .bool false] 36))
    have HB2 : Hid (Below w.heap.size w (w1.alloc (.cells #[.int .i64 0, .bool na, .string si, .string sf, .int .i64 0, .bool false] 36))) := (HB1.out.alloc HB1.out.size _)
    clear Ba1 Bp1 HB1 ya0 ya1 ya2 ya3 yp0 yp1 yp2 yp3 yp4 yp5 yp6 yp7 yp8 yp9 yp10 yp11 yp12 yp13
    obtain ⟨ya0, ya1, ya2, ya3⟩ := Ba2.out.four
    obtain ⟨yp0, yp1, yp2, yp3, yp4, yp5, yp6, yp7, yp8, yp9, yp10, yp11, yp12, yp13⟩ := Bp2.out.fourteen
    obtain ⟨ys0, ys1, ys2, ys3, ys4, ys5⟩ := Bs2.out.six
    go_wp2_with fail
    refine (xawake_any _ (HT.out.below HB2.out)).mono ?_
    rintro e w3 ⟨rfl, hb⟩
    have Ba3 := Blk.on Ba2 hb
    have Bp3 := Blk.on Bp2 hb
    have Bs3 := Blk.on Bs2 hb
    have HB3 := hide (HB2.out.trans (hb.mono HB2.out.size))
    clear hb Ba2 Bp2 Bs2 HB2 ya0 ya1 ya2 ya3 yp0 yp1 yp2 yp3 yp4 yp5 yp6 yp7 yp8 yp9 yp10 yp11 yp12 yp13 ys0 ys1 ys2 ys3 ys4 ys5
    obtain ⟨ya0, ya1, ya2, ya3⟩ := Ba3.out.four
    obtain ⟨yp0, yp1, yp2, yp3, yp4, yp5, yp6, yp7, yp8, yp9, yp10, yp11, yp12, yp13⟩ := Bp3.out.fourteen
    obtain ⟨ys0, ys1, ys2, ys3, ys4, ys5⟩ := Bs3.out.six
    go_wp2
    go_ret
    first | exact ⟨rfl, HB3.out⟩ | exact ⟨congrArg (fun b => Ending.returned (Value.bool b)) (by simp <;> omega), HB3.out⟩

set_option maxRecDepth 100000 in
set_option maxHeartbeats 4000000 in
theorem countsf_0t (na : Bool) (ta : ByteArray) (ea mf xf ms xs : Int) (st : Bool) (cs : Int) (ns : Bool) (ts : ByteArray) (es md im ix : Int) (si sf : ByteArray) (j b : Nat) (w : World) (htab : Tab w) (h1 : ∀ W, Tab W → Calls Tryz.prog 22 #[dcV 0 na ta ea, prV 0 mf xf ms xs st cs ns ts es md true im ix] W fun e w' => e = .returned (.tuple #[.agg #[.int .i64 0, .bool na, .string si, .string sf, .int .i64 0, .bool false], .int .i64 0]) ∧ Below W.heap.size W w') (i1 : im ≤ (si.size : Int)) (i2 : si.size + sf.size ≠ 0) (z1 : si.size ≤ 4096) (z2 : sf.size ≤ 4096) (hI : (¬ 0 < ix ∧ decide (0 < ix) = false) ∨ (0 < ix ∧ decide (ix < (si.size : Int)) = false)) (hR : ((sf.size : Int) == 0) = true ∨ (((sf.size : Int) == 0) = false ∧ (j : Int) < (sf.size : Int) ∧ j < sf.size ∧ (sf.size : Int) - 1 = (j : Int) ∧ (∀ h : j < sf.size, sf[j].toNat = b) ∧ (((b : Nat) : Int) == 48) = false ∧ ¬ ((b : Nat) : Int) = 48)) : Calls Tryz.prog 10 #[dcV 0 na ta ea, prV 0 mf xf ms xs st cs ns ts es md true im ix] w fun e w' => e = .returned (.bool true) ∧ Below w.heap.size w w' := by
  have H1 := hide h1
  have HT := hide htab
  have c1 : ¬ (si.size : Int) < im := by omega
  have c2 : decide ((si.size : Int) < im) = false := decide_eq_false c1
  have c3 : ¬ 9223372036854775807 < si.size + sf.size := by omega
  have c4 := toList_ne (t := si ++ sf) (by rw [ByteArray.size_append]; omega)
  clear htab h1 c1 i1 i2 z2 z1
  rcases hI with ⟨j1, j2⟩ | ⟨j1, j2⟩ <;> rcases hR with g0 | ⟨g0, g1, g2, g3, g4, g5, g6⟩
  all_goals
    have Ba0 := hide ((Blk.newAt w (w.heap.size) (rfl) #[.int .i64 0, .bool na, .string ta, .int .i64 ea] 23).alloc (.cells #[.int .i64 0, .int .i64 mf, .int .i64 xf, .int .i64 ms, .int .i64 xs, .bool st, .int .i64 cs, .bool ns, .string ts, .int .i64 es, .int .i64 md, .bool true, .int .i64 im, .int .i64 ix] 32))
    have Bp0 := hide (Blk.newAt (w.alloc (.cells #[.int .i64 0, .bool na, .string ta, .int .i64 ea] 23)) (w.heap.size + 1) (by simp) #[.int .i64 0, .int .i64 mf, .int .i64 xf, .int .i64 ms, .int .i64 xs, .bool st, .int .i64 cs, .bool ns, .string ts, .int .i64 es, .int .i64 md, .bool true, .int .i64 im, .int .i64 ix] 32)
    have HB0 : Hid (Below w.heap.size w ((w.alloc (.cells #[.int .i64 0, .bool na, .string ta, .int .i64 ea] 23)).alloc (.cells #[.int .i64 0, .int .i64 mf, .int .i64 xf, .int .i64 ms, .int .i64 xs, .bool st, .int .i64 cs, .bool ns, .string ts, .int .i64 es, .int .i64 md, .bool true, .int .i64 im, .int .i64 ix] 32))) := (((Below.refl _ _).alloc (Nat.le_refl _) _).alloc (by simp <;> omega) _)
    go_enter Tryz.func10, Tryz.ntmps10
    go_wp2_with fail
    refine (H1.out _ (HT.out.below HB0.out)).mono ?_
    rintro e w1 ⟨rfl, hb⟩
    have Ba1 := Blk.on Ba0 hb
    have Bp1 := Blk.on Bp0 hb
    have HB1 := hide (HB0.out.trans (hb.mono HB0.out.size))
    clear hb Ba0 Bp0 HB0 
    obtain ⟨ya0, ya1, ya2, ya3⟩ := Ba1.out.four
    obtain ⟨yp0, yp1, yp2, yp3, yp4, yp5, yp6, yp7, yp8, yp9, yp10, yp11, yp12, yp13⟩ := Bp1.out.fourteen
    have Ba2 := Blk.up Ba1 (.cells #[.int .i64 0, .bool na, .string si, .string sf, .int .i64 0, .bool false] 36)
    have Bp2 := Blk.up Bp1 (.cells #[.int .i64 0, .bool na, .string si, .string sf, .int .i64 0, .bool false] 36)
    have Bs2 := hide ((Blk.newAt w1 (w1.heap.size) (rfl) #[.int .i64 0, .bool na, .string si, .string sf, .int .i64 0, .bool false] 36))
    have HB2 : Hid (Below w.heap.size w (w1.alloc (.cells #[.int .i64 0, .bool na, .string si, .string sf, .int .i64 0, .bool false] 36))) := (HB1.out.alloc HB1.out.size _)
    clear Ba1 Bp1 HB1 ya0 ya1 ya2 ya3 yp0 yp1 yp2 yp3 yp4 yp5 yp6 yp7 yp8 yp9 yp10 yp11 yp12 yp13
    obtain ⟨ya0, ya1, ya2, ya3⟩ := Ba2.out.four
    obtain ⟨yp0, yp1, yp2, yp3, yp4, yp5, yp6, yp7, yp8, yp9, yp10, yp11, yp12, yp13⟩ := Bp2.out.fourteen
    obtain ⟨ys0, ys1, ys2, ys3, ys4, ys5⟩ := Bs2.out.six
    go_wp2_with fail
    refine (xawake_any _ (HT.out.below HB2.out)).mono ?_
    rintro e w3 ⟨rfl, hb⟩
    have Ba3 := Blk.on Ba2 hb
    have Bp3 := Blk.on Bp2 hb
    have Bs3 := Blk.on Bs2 hb
    have HB3 := hide (HB2.out.trans (hb.mono HB2.out.size))
    clear hb Ba2 Bp2 Bs2 HB2 ya0 ya1 ya2 ya3 yp0 yp1 yp2 yp3 yp4 yp5 yp6 yp7 yp8 yp9 yp10 yp11 yp12 yp13 ys0 ys1 ys2 ys3 ys4 ys5
    obtain ⟨ya0, ya1, ya2, ya3⟩ := Ba3.out.four
    obtain ⟨yp0, yp1, yp2, yp3, yp4, yp5, yp6, yp7, yp8, yp9, yp10, yp11, yp12, yp13⟩ := Bp3.out.fourteen
    obtain ⟨ys0, ys1, ys2, ys3, ys4, ys5⟩ := Bs3.out.six
    go_wp2
    go_ret
    first | exact ⟨rfl, HB3.out⟩ | exact ⟨congrArg (fun b => Ending.returned (Value.bool b)) (by simp <;> omega), HB3.out⟩

end Go.Proofs.YtckijnlolmbdiaaGreatDoor

namespace Go.Proofs.YtckijnlolmbdiaaGreatDoor
open Go.RowKit

set_option maxRecDepth 100000 in
set_option maxHeartbeats 4000000 in
theorem countsf_1f (na : Bool) (ta : ByteArray) (ea mf xf ms xs : Int) (st : Bool) (cs : Int) (ns : Bool) (ts : ByteArray) (es md im ix : Int) (si sf : ByteArray) (w : World) (htab : Tab w) (h1 : ∀ W, Tab W → Calls Tryz.prog 22 #[dcV 0 na ta ea, prV 1 mf xf ms xs st cs ns ts es md false im ix] W fun e w' => e = .returned (.tuple #[.agg #[.int .i64 0, .bool na, .string si, .string sf, .int .i64 0, .bool false], .int .i64 0]) ∧ Below W.heap.size W w') (i1 : im ≤ (si.size : Int)) (i2 : si.size + sf.size ≠ 0) (z1 : si.size ≤ 4096) (z2 : sf.size ≤ 4096) (hI : (¬ 0 < ix ∧ decide (0 < ix) = false) ∨ (0 < ix ∧ decide (ix < (si.size : Int)) = false)) (hR : ((sf.size : Int) ≤ xf ∧ decide ((sf.size : Int) ≤ xf) = true ∧ decide (mf ≤ (sf.size : Int)) = true ∧ mf ≤ (sf.size : Int))) : Calls Tryz.prog 10 #[dcV 0 na ta ea, prV 1 mf xf ms xs st cs ns ts es md false im ix] w fun e w' => e = .returned (.bool true) ∧ Below w.heap.size w w' := by
  have H1 := hide h1
  have HT := hide htab
  have c1 : ¬ (si.size : Int) < im := by omega
  have c2 : decide ((si.size : Int) < im) = false := decide_eq_false c1
  have c3 : ¬ 9223372036854775807 < si.size + sf.size := by omega
  have c4 := toList_ne (t := si ++ sf) (by rw [ByteArray.size_append]; omega)
  clear htab h1 c1 i1 i2 z2 z1
  rcases hI with ⟨j1, j2⟩ | ⟨j1, j2⟩ <;> rcases hR with ⟨g0, g1, g2, g3⟩
  all_goals
    have Ba0 := hide ((Blk.newAt w (w.heap.size) (rfl) #[.int .i64 0, .bool na, .string ta, .int .i64 ea] 23).alloc (.cells #[.int .i64 1, .int .i64 mf, .int .i64 xf, .int .i64 ms, .int .i64 xs, .bool st, .int .i64 cs, .bool ns, .string ts, .int .i64 es, .int .i64 md, .bool false, .int .i64 im, .int .i64 ix] 32))
    have Bp0 := hide (Blk.newAt (w.alloc (.cells #[.int .i64 0, .bool na, .string ta, .int .i64 ea] 23)) (w.heap.size + 1) (by simp) #[.int .i64 1, .int .i64 mf, .int .i64 xf, .int .i64 ms, .int .i64 xs, .bool st, .int .i64 cs, .bool ns, .string ts, .int .i64 es, .int .i64 md, .bool false, .int .i64 im, .int .i64 ix] 32)
    have HB0 : Hid (Below w.heap.size w ((w.alloc (.cells #[.int .i64 0, .bool na, .string ta, .int .i64 ea] 23)).alloc (.cells #[.int .i64 1, .int .i64 mf, .int .i64 xf, .int .i64 ms, .int .i64 xs, .bool st, .int .i64 cs, .bool ns, .string ts, .int .i64 es, .int .i64 md, .bool false, .int .i64 im, .int .i64 ix] 32))) := (((Below.refl _ _).alloc (Nat.le_refl _) _).alloc (by simp <;> omega) _)
    go_enter Tryz.func10, Tryz.ntmps10
    go_wp2_with fail
    refine (H1.out _ (HT.out.below HB0.out)).mono ?_
    rintro e w1 ⟨rfl, hb⟩
    have Ba1 := Blk.on Ba0 hb
    have Bp1 := Blk.on Bp0 hb
    have HB1 := hide (HB0.out.trans (hb.mono HB0.out.size))
    clear hb Ba0 Bp0 HB0 
    obtain ⟨ya0, ya1, ya2, ya3⟩ := Ba1.out.four
    obtain ⟨yp0, yp1, yp2, yp3, yp4, yp5, yp6, yp7, yp8, yp9, yp10, yp11, yp12, yp13⟩ := Bp1.out.fourteen
    have Ba2 := Blk.up Ba1 (.cells #[.int .i64 0, .bool na, .string si, .string sf, .int .i64 0, .bool false] 36)
    have Bp2 := Blk.up Bp1 (.cells #[.int .i64 0, .bool na, .string si, .string sf, .int .i64 0, .bool false] 36)
    have Bs2 := hide ((Blk.newAt w1 (w1.heap.size) (rfl) #[.int .i64 0, .bool na, .string si, .string sf, .int .i64 0, .bool false] 36))
    have HB2 : Hid (Below w.heap.size w (w1.alloc (.cells #[.int .i64 0, .bool na, .string si, .string sf, .int .i64 0, .bool false] 36))) := (HB1.out.alloc HB1.out.size _)
    clear Ba1 Bp1 HB1 ya0 ya1 ya2 ya3 yp0 yp1 yp2 yp3 yp4 yp5 yp6 yp7 yp8 yp9 yp10 yp11 yp12 yp13
    obtain ⟨ya0, ya1, ya2, ya3⟩ := Ba2.out.four
    obtain ⟨yp0, yp1, yp2, yp3, yp4, yp5, yp6, yp7, yp8, yp9, yp10, yp11, yp12, yp13⟩ := Bp2.out.fourteen
    obtain ⟨ys0, ys1, ys2, ys3, ys4, ys5⟩ := Bs2.out.six
    go_wp2_with fail
    refine (xawake_any _ (HT.out.below HB2.out)).mono ?_
    rintro e w3 ⟨rfl, hb⟩
    have Ba3 := Blk.on Ba2 hb
    have Bp3 := Blk.on Bp2 hb
    have Bs3 := Blk.on Bs2 hb
    have HB3 := hide (HB2.out.trans (hb.mono HB2.out.size))
    clear hb Ba2 Bp2 Bs2 HB2 ya0 ya1 ya2 ya3 yp0 yp1 yp2 yp3 yp4 yp5 yp6 yp7 yp8 yp9 yp10 yp11 yp12 yp13 ys0 ys1 ys2 ys3 ys4 ys5
    obtain ⟨ya0, ya1, ya2, ya3⟩ := Ba3.out.four
    obtain ⟨yp0, yp1, yp2, yp3, yp4, yp5, yp6, yp7, yp8, yp9, yp10, yp11, yp12, yp13⟩ := Bp3.out.fourteen
    obtain ⟨ys0, ys1, ys2, ys3, ys4, ys5⟩ := Bs3.out.six
    go_wp2
    go_ret
    first | exact ⟨rfl, HB3.out⟩ | exact ⟨congrArg (fun b => Ending.returned (Value.bool b)) (by simp <;> omega), HB3.out⟩

set_option maxRecDepth 100000 in
set_option maxHeartbeats 4000000 in
theorem countsf_1t (na : Bool) (ta : ByteArray) (ea mf xf ms xs : Int) (st : Bool) (cs : Int) (ns : Bool) (ts : ByteArray) (es md im ix : Int) (si sf : ByteArray) (w : World) (htab : Tab w) (h1 : ∀ W, Tab W → Calls Tryz.prog 22 #[dcV 0 na ta ea, prV 1 mf xf ms xs st cs ns ts es md true im ix] W fun e w' => e = .returned (.tuple #[.agg #[.int .i64 0, .bool na, .string si, .string sf, .int .i64 0, .bool false], .int .i64 0]) ∧ Below W.heap.size W w') (i1 : im ≤ (si.size : Int)) (i2 : si.size + sf.size ≠ 0) (z1 : si.size ≤ 4096) (z2 : sf.size ≤ 4096) (hI : (¬ 0 < ix ∧ decide (0 < ix) = false) ∨ (0 < ix ∧ decide (ix < (si.size : Int)) = false)) (hR : ((sf.size : Int) ≤ xf ∧ decide ((sf.size : Int) ≤ xf) = true ∧ decide (mf ≤ (sf.size : Int)) = true ∧ mf ≤ (sf.size : Int) ∧ ((sf.size : Int) == 0) = true) ∨ ((sf.size : Int) ≤ xf ∧ decide ((sf.size : Int) ≤ xf) = true ∧ decide (mf ≤ (sf.size : Int)) = true ∧ mf ≤ (sf.size : Int) ∧ ((sf.size : Int) == 0) = false) ∨ ((sf.size : Int) ≤ xf ∧ decide ((sf.size : Int) ≤ xf) = true ∧ decide (mf ≤ (sf.size : Int)) = false ∧ ¬ mf ≤ (sf.size : Int) ∧ ((sf.size : Int) == 0) = true)) : Calls Tryz.prog 10 #[dcV 0 na ta ea, prV 1 mf xf ms xs st cs ns ts es md true im ix] w fun e w' => e = .returned (.bool true) ∧ Below w.heap.size w w' := by
  have H1 := hide h1
  have HT := hide htab
  have c1 : ¬ (si.size : Int) < im := by omega
  have c2 : decide ((si.size : Int) < im) = false := decide_eq_false c1
  have c3 : ¬ 9223372036854775807 < si.size + sf.size := by omega
  have c4 := toList_ne (t := si ++ sf) (by rw [ByteArray.size_append]; omega)
  clear htab h1 c1 i1 i2 z2 z1
  rcases hI with ⟨j1, j2⟩ | ⟨j1, j2⟩ <;> rcases hR with ⟨g0, g1, g2, g3, g4⟩ | ⟨g0, g1, g2, g3, g4⟩ | ⟨g0, g1, g2, g3, g4⟩
  all_goals
    have Ba0 := hide ((Blk.newAt w (w.heap.size) (rfl) #[.int .i64 0, .bool na, .string ta, .int .i64 ea] 23).alloc (.cells #[.int .i64 1, .int .i64 mf, .int .i64 xf, .int .i64 ms, .int .i64 xs, .bool st, .int .i64 cs, .bool ns, .string ts, .int .i64 es, .int .i64 md, .bool true, .int .i64 im, .int .i64 ix] 32))
    have Bp0 := hide (Blk.newAt (w.alloc (.cells #[.int .i64 0, .bool na, .string ta, .int .i64 ea] 23)) (w.heap.size + 1) (by simp) #[.int .i64 1, .int .i64 mf, .int .i64 xf, .int .i64 ms, .int .i64 xs, .bool st, .int .i64 cs, .bool ns, .string ts, .int .i64 es, .int .i64 md, .bool true, .int .i64 im, .int .i64 ix] 32)
    have HB0 : Hid (Below w.heap.size w ((w.alloc (.cells #[.int .i64 0, .bool na, .string ta, .int .i64 ea] 23)).alloc (.cells #[.int .i64 1, .int .i64 mf, .int .i64 xf, .int .i64 ms, .int .i64 xs, .bool st, .int .i64 cs, .bool ns, .string ts, .int .i64 es, .int .i64 md, .bool true, .int .i64 im, .int .i64 ix] 32))) := (((Below.refl _ _).alloc (Nat.le_refl _) _).alloc (by simp <;> omega) _)
    go_enter Tryz.func10, Tryz.ntmps10
    go_wp2_with fail
    refine (H1.out _ (HT.out.below HB0.out)).mono ?_
    rintro e w1 ⟨rfl, hb⟩
    have Ba1 := Blk.on Ba0 hb
    have Bp1 := Blk.on Bp0 hb
    have HB1 := hide (HB0.out.trans (hb.mono HB0.out.size))
    clear hb Ba0 Bp0 HB0 
    obtain ⟨ya0, ya1, ya2, ya3⟩ := Ba1.out.four
    obtain ⟨yp0, yp1, yp2, yp3, yp4, yp5, yp6, yp7, yp8, yp9, yp10, yp11, yp12, yp13⟩ := Bp1.out.fourteen
    have Ba2 := Blk.up Ba1 (.cells #[.int .i64 0, .bool na, .string si, .string sf, .int .i64 0, .bool false] 36)
    have Bp2 := Blk.up Bp1 (.cells #[.int .i64 0, .bool na, .string si, .string sf, .int .i64 0, .bool false] 36)
    have Bs2 := hide ((Blk.newAt w1 (w1.heap.size) (rfl) #[.int .i64 0, .bool na, .string si, .string sf, .int .i64 0, .bool false] 36))
    have HB2 : Hid (Below w.heap.size w (w1.alloc (.cells #[.int .i64 0, .bool na, .string si, .string sf, .int .i64 0, .bool false] 36))) := (HB1.out.alloc HB1.out.size _)
    clear Ba1 Bp1 HB1 ya0 ya1 ya2 ya3 yp0 yp1 yp2 yp3 yp4 yp5 yp6 yp7 yp8 yp9 yp10 yp11 yp12 yp13
    obtain ⟨ya0, ya1, ya2, ya3⟩ := Ba2.out.four
    obtain ⟨yp0, yp1, yp2, yp3, yp4, yp5, yp6, yp7, yp8, yp9, yp10, yp11, yp12, yp13⟩ := Bp2.out.fourteen
    obtain ⟨ys0, ys1, ys2, ys3, ys4, ys5⟩ := Bs2.out.six
    go_wp2_with fail
    refine (xawake_any _ (HT.out.below HB2.out)).mono ?_
    rintro e w3 ⟨rfl, hb⟩
    have Ba3 := Blk.on Ba2 hb
    have Bp3 := Blk.on Bp2 hb
    have Bs3 := Blk.on Bs2 hb
    have HB3 := hide (HB2.out.trans (hb.mono HB2.out.size))
    clear hb Ba2 Bp2 Bs2 HB2 ya0 ya1 ya2 ya3 yp0 yp1 yp2 yp3 yp4 yp5 yp6 yp7 yp8 yp9 yp10 yp11 yp12 yp13 ys0 ys1 ys2 ys3 ys4 ys5
    obtain ⟨ya0, ya1, ya2, ya3⟩ := Ba3.out.four
    obtain ⟨yp0, yp1, yp2, yp3, yp4, yp5, yp6, yp7, yp8, yp9, yp10, yp11, yp12, yp13⟩ := Bp3.out.fourteen
    obtain ⟨ys0, ys1, ys2, ys3, ys4, ys5⟩ := Bs3.out.six
    go_wp2
    go_ret
    first | exact ⟨rfl, HB3.out⟩ | exact ⟨congrArg (fun b => Ending.returned (Value.bool b)) (by simp <;> omega), HB3.out⟩

end Go.Proofs.YtckijnlolmbdiaaGreatDoor

namespace Go.Proofs.YtckijnlolmbdiaaGreatDoor
open Go.RowKit

set_option maxRecDepth 100000 in
set_option maxHeartbeats 4000000 in
theorem countsf_2f (na : Bool) (ta : ByteArray) (ea mf xf ms xs : Int) (st : Bool) (cs : Int) (ns : Bool) (ts : ByteArray) (es md im ix : Int) (si sf : ByteArray) (w : World) (htab : Tab w) (h1 : ∀ W, Tab W → Calls Tryz.prog 22 #[dcV 0 na ta ea, prV 2 mf xf ms xs st cs ns ts es md false im ix] W fun e w' => e = .returned (.tuple #[.agg #[.int .i64 0, .bool na, .string si, .string sf, .int .i64 0, .bool false], .int .i64 0]) ∧ Below W.heap.size W w') (i1 : im ≤ (si.size : Int)) (i2 : si.size + sf.size ≠ 0) (z1 : si.size ≤ 4096) (z2 : sf.size ≤ 4096) (hI : (¬ 0 < ix ∧ decide (0 < ix) = false) ∨ (0 < ix ∧ decide (ix < (si.size : Int)) = false)) (hR : (decide (ms - max 1 (si.size : Int) ≤ (sf.size : Int)) = true ∧ ms - max 1 (si.size : Int) ≤ (sf.size : Int)) ∨ (decide (ms - max 1 (si.size : Int) ≤ (sf.size : Int)) = false ∧ ¬ ms - max 1 (si.size : Int) ≤ (sf.size : Int) ∧ 0 < ix)) (m1 : 0 ≤ ms) (m2 : ms ≤ 99) : Calls Tryz.prog 10 #[dcV 0 na ta ea, prV 2 mf xf ms xs st cs ns ts es md false im ix] w fun e w' => e = .returned (.bool true) ∧ Below w.heap.size w w' := by
  have H1 := hide h1
  have HT := hide htab
  have c1 : ¬ (si.size : Int) < im := by omega
  have c2 : decide ((si.size : Int) < im) = false := decide_eq_false c1
  have c3 : ¬ 9223372036854775807 < si.size + sf.size := by omega
  have c4 := toList_ne (t := si ++ sf) (by rw [ByteArray.size_append]; omega)
  clear htab h1 c1 i1 i2 z2
  rcases hI with ⟨j1, j2⟩ | ⟨j1, j2⟩ <;> rcases hR with ⟨g0, g1⟩ | ⟨g0, g1, g2⟩
  all_goals try (exfalso; omega)
  all_goals
    have Ba0 := hide ((Blk.newAt w (w.heap.size) (rfl) #[.int .i64 0, .bool na, .string ta, .int .i64 ea] 23).alloc (.cells #[.int .i64 2, .int .i64 mf, .int .i64 xf, .int .i64 ms, .int .i64 xs, .bool st, .int .i64 cs, .bool ns, .string ts, .int .i64 es, .int .i64 md, .bool false, .int .i64 im, .int .i64 ix] 32))
    have Bp0 := hide (Blk.newAt (w.alloc (.cells #[.int .i64 0, .bool na, .string ta, .int .i64 ea] 23)) (w.heap.size + 1) (by simp) #[.int .i64 2, .int .i64 mf, .int .i64 xf, .int .i64 ms, .int .i64 xs, .bool st, .int .i64 cs, .bool ns, .string ts, .int .i64 es, .int .i64 md, .bool false, .int .i64 im, .int .i64 ix] 32)
    have HB0 : Hid (Below w.heap.size w ((w.alloc (.cells #[.int .i64 0, .bool na, .string ta, .int .i64 ea] 23)).alloc (.cells #[.int .i64 2, .int .i64 mf, .int .i64 xf, .int .i64 ms, .int .i64 xs, .bool st, .int .i64 cs, .bool ns, .string ts, .int .i64 es, .int .i64 md, .bool false, .int .i64 im, .int .i64 ix] 32))) := (((Below.refl _ _).alloc (Nat.le_refl _) _).alloc (by simp <;> omega) _)
    go_enter Tryz.func10, Tryz.ntmps10
    go_wp2_with fail
    refine (H1.out _ (HT.out.below HB0.out)).mono ?_
    rintro e w1 ⟨rfl, hb⟩
    have Ba1 := Blk.on Ba0 hb
    have Bp1 := Blk.on Bp0 hb
    have HB1 := hide (HB0.out.trans (hb.mono HB0.out.size))
    clear hb Ba0 Bp0 HB0 
    obtain ⟨ya0, ya1, ya2, ya3⟩ := Ba1.out.four
    obtain ⟨yp0, yp1, yp2, yp3, yp4, yp5, yp6, yp7, yp8, yp9, yp10, yp11, yp12, yp13⟩ := Bp1.out.fourteen
    have Ba2 := Blk.up Ba1 (.cells #[.int .i64 0, .bool na, .string si, .string sf, .int .i64 0, .bool false] 36)
    have Bp2 := Blk.up Bp1 (.cells #[.int .i64 0, .bool na, .string si, .string sf, .int .i64 0, .bool false] 36)
    have Bs2 := hide ((Blk.newAt w1 (w1.heap.size) (rfl) #[.int .i64 0, .bool na, .string si, .string sf, .int .i64 0, .bool false] 36))
    have HB2 : Hid (Below w.heap.size w (w1.alloc (.cells #[.int .i64 0, .bool na, .string si, .string sf, .int .i64 0, .bool false] 36))) := (HB1.out.alloc HB1.out.size _)
    clear Ba1 Bp1 HB1 ya0 ya1 ya2 ya3 yp0 yp1 yp2 yp3 yp4 yp5 yp6 yp7 yp8 yp9 yp10 yp11 yp12 yp13
    obtain ⟨ya0, ya1, ya2, ya3⟩ := Ba2.out.four
    obtain ⟨yp0, yp1, yp2, yp3, yp4, yp5, yp6, yp7, yp8, yp9, yp10, yp11, yp12, yp13⟩ := Bp2.out.fourteen
    obtain ⟨ys0, ys1, ys2, ys3, ys4, ys5⟩ := Bs2.out.six
    go_wp2_with fail
    refine (xawake_any _ (HT.out.below HB2.out)).mono ?_
    rintro e w3 ⟨rfl, hb⟩
    have Ba3 := Blk.on Ba2 hb
    have Bp3 := Blk.on Bp2 hb
    have Bs3 := Blk.on Bs2 hb
    have HB3 := hide (HB2.out.trans (hb.mono HB2.out.size))
    clear hb Ba2 Bp2 Bs2 HB2 ya0 ya1 ya2 ya3 yp0 yp1 yp2 yp3 yp4 yp5 yp6 yp7 yp8 yp9 yp10 yp11 yp12 yp13 ys0 ys1 ys2 ys3 ys4 ys5
    obtain ⟨ya0, ya1, ya2, ya3⟩ := Ba3.out.four
    obtain ⟨yp0, yp1, yp2, yp3, yp4, yp5, yp6, yp7, yp8, yp9, yp10, yp11, yp12, yp13⟩ := Bp3.out.fourteen
    obtain ⟨ys0, ys1, ys2, ys3, ys4, ys5⟩ := Bs3.out.six
    go_wp2
    go_ret
    first | exact ⟨rfl, HB3.out⟩ | exact ⟨congrArg (fun b => Ending.returned (Value.bool b)) (by simp <;> omega), HB3.out⟩

set_option maxRecDepth 100000 in
set_option maxHeartbeats 4000000 in
theorem countsf_2t (na : Bool) (ta : ByteArray) (ea mf xf ms xs : Int) (st : Bool) (cs : Int) (ns : Bool) (ts : ByteArray) (es md im ix : Int) (si sf : ByteArray) (w : World) (htab : Tab w) (h1 : ∀ W, Tab W → Calls Tryz.prog 22 #[dcV 0 na ta ea, prV 2 mf xf ms xs st cs ns ts es md true im ix] W fun e w' => e = .returned (.tuple #[.agg #[.int .i64 0, .bool na, .string si, .string sf, .int .i64 0, .bool false], .int .i64 0]) ∧ Below W.heap.size W w') (i1 : im ≤ (si.size : Int)) (i2 : si.size + sf.size ≠ 0) (z1 : si.size ≤ 4096) (z2 : sf.size ≤ 4096) (hI : (¬ 0 < ix ∧ decide (0 < ix) = false) ∨ (0 < ix ∧ decide (ix < (si.size : Int)) = false)) (hR : (decide (ms - max 1 (si.size : Int) ≤ (sf.size : Int)) = true ∧ ms - max 1 (si.size : Int) ≤ (sf.size : Int) ∧ ((sf.size : Int) == 0) = true) ∨ (decide (ms - max 1 (si.size : Int) ≤ (sf.size : Int)) = true ∧ ms - max 1 (si.size : Int) ≤ (sf.size : Int) ∧ ((sf.size : Int) == 0) = false) ∨ (decide (ms - max 1 (si.size : Int) ≤ (sf.size : Int)) = false ∧ ¬ ms - max 1 (si.size : Int) ≤ (sf.size : Int) ∧ ((sf.size : Int) == 0) = true) ∨ (decide (ms - max 1 (si.size : Int) ≤ (sf.size : Int)) = false ∧ ¬ ms - max 1 (si.size : Int) ≤ (sf.size : Int) ∧ ((sf.size : Int) == 0) = false ∧ 0 < ix)) (m1 : 0 ≤ ms) (m2 : ms ≤ 99) : Calls Tryz.prog 10 #[dcV 0 na ta ea, prV 2 mf xf ms xs st cs ns ts es md true im ix] w fun e w' => e = .returned (.bool true) ∧ Below w.heap.size w w' := by
  have H1 := hide h1
  have HT := hide htab
  have c1 : ¬ (si.size : Int) < im := by omega
  have c2 : decide ((si.size : Int) < im) = false := decide_eq_false c1
  have c3 : ¬ 9223372036854775807 < si.size + sf.size := by omega
  have c4 := toList_ne (t := si ++ sf) (by rw [ByteArray.size_append]; omega)
  clear htab h1 c1 i1 i2 z2
  rcases hI with ⟨j1, j2⟩ | ⟨j1, j2⟩ <;> rcases hR with ⟨g0, g1, g2⟩ | ⟨g0, g1, g2⟩ | ⟨g0, g1, g2⟩ | ⟨g0, g1, g2, g3⟩
  all_goals try (exfalso; omega)
  all_goals
    have Ba0 := hide ((Blk.newAt w (w.heap.size) (rfl) #[.int .i64 0, .bool na, .string ta, .int .i64 ea] 23).alloc (.cells #[.int .i64 2, .int .i64 mf, .int .i64 xf, .int .i64 ms, .int .i64 xs, .bool st, .int .i64 cs, .bool ns, .string ts, .int .i64 es, .int .i64 md, .bool true, .int .i64 im, .int .i64 ix] 32))
    have Bp0 := hide (Blk.newAt (w.alloc (.cells #[.int .i64 0, .bool na, .string ta, .int .i64 ea] 23)) (w.heap.size + 1) (by simp) #[.int .i64 2, .int .i64 mf, .int .i64 xf, .int .i64 ms, .int .i64 xs, .bool st, .int .i64 cs, .bool ns, .string ts, .int .i64 es, .int .i64 md, .bool true, .int .i64 im, .int .i64 ix] 32)
    have HB0 : Hid (Below w.heap.size w ((w.alloc (.cells #[.int .i64 0, .bool na, .string ta, .int .i64 ea] 23)).alloc (.cells #[.int .i64 2, .int .i64 mf, .int .i64 xf, .int .i64 ms, .int .i64 xs, .bool st, .int .i64 cs, .bool ns, .string ts, .int .i64 es, .int .i64 md, .bool true, .int .i64 im, .int .i64 ix] 32))) := (((Below.refl _ _).alloc (Nat.le_refl _) _).alloc (by simp <;> omega) _)
    go_enter Tryz.func10, Tryz.ntmps10
    go_wp2_with fail
    refine (H1.out _ (HT.out.below HB0.out)).mono ?_
    rintro e w1 ⟨rfl, hb⟩
    have Ba1 := Blk.on Ba0 hb
    have Bp1 := Blk.on Bp0 hb
    have HB1 := hide (HB0.out.trans (hb.mono HB0.out.size))
    clear hb Ba0 Bp0 HB0 
    obtain ⟨ya0, ya1, ya2, ya3⟩ := Ba1.out.four
    obtain ⟨yp0, yp1, yp2, yp3, yp4, yp5, yp6, yp7, yp8, yp9, yp10, yp11, yp12, yp13⟩ := Bp1.out.fourteen
    have Ba2 := Blk.up Ba1 (.cells #[.int .i64 0, .bool na, .string si, .string sf, .int .i64 0, .bool false] 36)
    have Bp2 := Blk.up Bp1 (.cells #[.int .i64 0, .bool na, .string si, .string sf, .int .i64 0, .bool false] 36)
    have Bs2 := hide ((Blk.newAt w1 (w1.heap.size) (rfl) #[.int .i64 0, .bool na, .string si, .string sf, .int .i64 0, .bool false] 36))
    have HB2 : Hid (Below w.heap.size w (w1.alloc (.cells #[.int .i64 0, .bool na, .string si, .string sf, .int .i64 0, .bool false] 36))) := (HB1.out.alloc HB1.out.size _)
    clear Ba1 Bp1 HB1 ya0 ya1 ya2 ya3 yp0 yp1 yp2 yp3 yp4 yp5 yp6 yp7 yp8 yp9 yp10 yp11 yp12 yp13
    obtain ⟨ya0, ya1, ya2, ya3⟩ := Ba2.out.four
    obtain ⟨yp0, yp1, yp2, yp3, yp4, yp5, yp6, yp7, yp8, yp9, yp10, yp11, yp12, yp13⟩ := Bp2.out.fourteen
    obtain ⟨ys0, ys1, ys2, ys3, ys4, ys5⟩ := Bs2.out.six
    go_wp2_with fail
    refine (xawake_any _ (HT.out.below HB2.out)).mono ?_
    rintro e w3 ⟨rfl, hb⟩
    have Ba3 := Blk.on Ba2 hb
    have Bp3 := Blk.on Bp2 hb
    have Bs3 := Blk.on Bs2 hb
    have HB3 := hide (HB2.out.trans (hb.mono HB2.out.size))
    clear hb Ba2 Bp2 Bs2 HB2 ya0 ya1 ya2 ya3 yp0 yp1 yp2 yp3 yp4 yp5 yp6 yp7 yp8 yp9 yp10 yp11 yp12 yp13 ys0 ys1 ys2 ys3 ys4 ys5
    obtain ⟨ya0, ya1, ya2, ya3⟩ := Ba3.out.four
    obtain ⟨yp0, yp1, yp2, yp3, yp4, yp5, yp6, yp7, yp8, yp9, yp10, yp11, yp12, yp13⟩ := Bp3.out.fourteen
    obtain ⟨ys0, ys1, ys2, ys3, ys4, ys5⟩ := Bs3.out.six
    go_wp2
    go_ret
    first | exact ⟨rfl, HB3.out⟩ | exact ⟨congrArg (fun b => Ending.returned (Value.bool b)) (by simp <;> omega), HB3.out⟩

end Go.Proofs.YtckijnlolmbdiaaGreatDoor

namespace Go.Proofs.YtckijnlolmbdiaaGreatDoor
open Go.RowKit

set_option maxRecDepth 100000 in
set_option maxHeartbeats 4000000 in
theorem countsf_3f (na : Bool) (ta : ByteArray) (ea mf xf ms xs : Int) (st : Bool) (cs : Int) (ns : Bool) (ts : ByteArray) (es md im ix : Int) (si sf : ByteArray) (w : World) (htab : Tab w) (h1 : ∀ W, Tab W → Calls Tryz.prog 22 #[dcV 0 na ta ea, prV 3 mf xf ms xs st cs ns ts es md false im ix] W fun e w' => e = .returned (.tuple #[.agg #[.int .i64 0, .bool na, .string si, .string sf, .int .i64 0, .bool false], .int .i64 0]) ∧ Below W.heap.size W w') (i1 : im ≤ (si.size : Int)) (i2 : si.size + sf.size ≠ 0) (z1 : si.size ≤ 4096) (z2 : sf.size ≤ 4096) (hI : (¬ 0 < ix ∧ decide (0 < ix) = false) ∨ (0 < ix ∧ decide (ix < (si.size : Int)) = false)) (hR : (decide (mf ≤ (sf.size : Int)) = true ∧ mf ≤ (sf.size : Int))) : Calls Tryz.prog 10 #[dcV 0 na ta ea, prV 3 mf xf ms xs st cs ns ts es md false im ix] w fun e w' => e = .returned (.bool true) ∧ Below w.heap.size w w' := by
  have H1 := hide h1
  have HT := hide htab
  have c1 : ¬ (si.size : Int) < im := by omega
  have c2 : decide ((si.size : Int) < im) = false := decide_eq_false c1
  have c3 : ¬ 9223372036854775807 < si.size + sf.size := by omega
  have c4 := toList_ne (t := si ++ sf) (by rw [ByteArray.size_append]; omega)
  clear htab h1 c1 i1 i2 z2 z1
  rcases hI with ⟨j1, j2⟩ | ⟨j1, j2⟩ <;> rcases hR with ⟨g0, g1⟩
  all_goals
    have Ba0 := hide ((Blk.newAt w (w.heap.size) (rfl) #[.int .i64 0, .bool na, .string ta, .int .i64 ea] 23).alloc (.cells #[.int .i64 3, .int .i64 mf, .int .i64 xf, .int .i64 ms, .int .i64 xs, .bool st, .int .i64 cs, .bool ns, .string ts, .int .i64 es, .int .i64 md, .bool false, .int .i64 im, .int .i64 ix] 32))
    have Bp0 := hide (Blk.newAt (w.alloc (.cells #[.int .i64 0, .bool na, .string ta, .int .i64 ea] 23)) (w.heap.size + 1) (by simp) #[.int .i64 3, .int .i64 mf, .int .i64 xf, .int .i64 ms, .int .i64 xs, .bool st, .int .i64 cs, .bool ns, .string ts, .int .i64 es, .int .i64 md, .bool false, .int .i64 im, .int .i64 ix] 32)
    have HB0 : Hid (Below w.heap.size w ((w.alloc (.cells #[.int .i64 0, .bool na, .string ta, .int .i64 ea] 23)).alloc (.cells #[.int .i64 3, .int .i64 mf, .int .i64 xf, .int .i64 ms, .int .i64 xs, .bool st, .int .i64 cs, .bool ns, .string ts, .int .i64 es, .int .i64 md, .bool false, .int .i64 im, .int .i64 ix] 32))) := (((Below.refl _ _).alloc (Nat.le_refl _) _).alloc (by simp <;> omega) _)
    go_enter Tryz.func10, Tryz.ntmps10
    go_wp2_with fail
    refine (H1.out _ (HT.out.below HB0.out)).mono ?_
    rintro e w1 ⟨rfl, hb⟩
    have Ba1 := Blk.on Ba0 hb
    have Bp1 := Blk.on Bp0 hb
    have HB1 := hide (HB0.out.trans (hb.mono HB0.out.size))
    clear hb Ba0 Bp0 HB0 
    obtain ⟨ya0, ya1, ya2, ya3⟩ := Ba1.out.four
    obtain ⟨yp0, yp1, yp2, yp3, yp4, yp5, yp6, yp7, yp8, yp9, yp10, yp11, yp12, yp13⟩ := Bp1.out.fourteen
    have Ba2 := Blk.up Ba1 (.cells #[.int .i64 0, .bool na, .string si, .string sf, .int .i64 0, .bool false] 36)
    have Bp2 := Blk.up Bp1 (.cells #[.int .i64 0, .bool na, .string si, .string sf, .int .i64 0, .bool false] 36)
    have Bs2 := hide ((Blk.newAt w1 (w1.heap.size) (rfl) #[.int .i64 0, .bool na, .string si, .string sf, .int .i64 0, .bool false] 36))
    have HB2 : Hid (Below w.heap.size w (w1.alloc (.cells #[.int .i64 0, .bool na, .string si, .string sf, .int .i64 0, .bool false] 36))) := (HB1.out.alloc HB1.out.size _)
    clear Ba1 Bp1 HB1 ya0 ya1 ya2 ya3 yp0 yp1 yp2 yp3 yp4 yp5 yp6 yp7 yp8 yp9 yp10 yp11 yp12 yp13
    obtain ⟨ya0, ya1, ya2, ya3⟩ := Ba2.out.four
    obtain ⟨yp0, yp1, yp2, yp3, yp4, yp5, yp6, yp7, yp8, yp9, yp10, yp11, yp12, yp13⟩ := Bp2.out.fourteen
    obtain ⟨ys0, ys1, ys2, ys3, ys4, ys5⟩ := Bs2.out.six
    go_wp2_with fail
    refine (xawake_any _ (HT.out.below HB2.out)).mono ?_
    rintro e w3 ⟨rfl, hb⟩
    have Ba3 := Blk.on Ba2 hb
    have Bp3 := Blk.on Bp2 hb
    have Bs3 := Blk.on Bs2 hb
    have HB3 := hide (HB2.out.trans (hb.mono HB2.out.size))
    clear hb Ba2 Bp2 Bs2 HB2 ya0 ya1 ya2 ya3 yp0 yp1 yp2 yp3 yp4 yp5 yp6 yp7 yp8 yp9 yp10 yp11 yp12 yp13 ys0 ys1 ys2 ys3 ys4 ys5
    obtain ⟨ya0, ya1, ya2, ya3⟩ := Ba3.out.four
    obtain ⟨yp0, yp1, yp2, yp3, yp4, yp5, yp6, yp7, yp8, yp9, yp10, yp11, yp12, yp13⟩ := Bp3.out.fourteen
    obtain ⟨ys0, ys1, ys2, ys3, ys4, ys5⟩ := Bs3.out.six
    go_wp2
    go_ret
    first | exact ⟨rfl, HB3.out⟩ | exact ⟨congrArg (fun b => Ending.returned (Value.bool b)) (by simp <;> omega), HB3.out⟩

set_option maxRecDepth 100000 in
set_option maxHeartbeats 4000000 in
theorem countsf_3t (na : Bool) (ta : ByteArray) (ea mf xf ms xs : Int) (st : Bool) (cs : Int) (ns : Bool) (ts : ByteArray) (es md im ix : Int) (si sf : ByteArray) (w : World) (htab : Tab w) (h1 : ∀ W, Tab W → Calls Tryz.prog 22 #[dcV 0 na ta ea, prV 3 mf xf ms xs st cs ns ts es md true im ix] W fun e w' => e = .returned (.tuple #[.agg #[.int .i64 0, .bool na, .string si, .string sf, .int .i64 0, .bool false], .int .i64 0]) ∧ Below W.heap.size W w') (i1 : im ≤ (si.size : Int)) (i2 : si.size + sf.size ≠ 0) (z1 : si.size ≤ 4096) (z2 : sf.size ≤ 4096) (hI : (¬ 0 < ix ∧ decide (0 < ix) = false) ∨ (0 < ix ∧ decide (ix < (si.size : Int)) = false)) (hR : (decide (mf ≤ (sf.size : Int)) = true ∧ mf ≤ (sf.size : Int) ∧ ((sf.size : Int) == 0) = true) ∨ (decide (mf ≤ (sf.size : Int)) = true ∧ mf ≤ (sf.size : Int) ∧ ((sf.size : Int) == 0) = false) ∨ (decide (mf ≤ (sf.size : Int)) = false ∧ ¬ mf ≤ (sf.size : Int) ∧ ((sf.size : Int) == 0) = true)) : Calls Tryz.prog 10 #[dcV 0 na ta ea, prV 3 mf xf ms xs st cs ns ts es md true im ix] w fun e w' => e = .returned (.bool true) ∧ Below w.heap.size w w' := by
  have H1 := hide h1
  have HT := hide htab
  have c1 : ¬ (si.size : Int) < im := by omega
  have c2 : decide ((si.size : Int) < im) = false := decide_eq_false c1
  have c3 : ¬ 9223372036854775807 < si.size + sf.size := by omega
  have c4 := toList_ne (t := si ++ sf) (by rw [ByteArray.size_append]; omega)
  clear htab h1 c1 i1 i2 z2 z1
  rcases hI with ⟨j1, j2⟩ | ⟨j1, j2⟩ <;> rcases hR with ⟨g0, g1, g2⟩ | ⟨g0, g1, g2⟩ | ⟨g0, g1, g2⟩
  all_goals
    have Ba0 := hide ((Blk.newAt w (w.heap.size) (rfl) #[.int .i64 0, .bool na, .string ta, .int .i64 ea] 23).alloc (.cells #[.int .i64 3, .int .i64 mf, .int .i64 xf, .int .i64 ms, .int .i64 xs, .bool st, .int .i64 cs, .bool ns, .string ts, .int .i64 es, .int .i64 md, .bool true, .int .i64 im, .int .i64 ix] 32))
    have Bp0 := hide (Blk.newAt (w.alloc (.cells #[.int .i64 0, .bool na, .string ta, .int .i64 ea] 23)) (w.heap.size + 1) (by simp) #[.int .i64 3, .int .i64 mf, .int .i64 xf, .int .i64 ms, .int .i64 xs, .bool st, .int .i64 cs, .bool ns, .string ts, .int .i64 es, .int .i64 md, .bool true, .int .i64 im, .int .i64 ix] 32)
    have HB0 : Hid (Below w.heap.size w ((w.alloc (.cells #[.int .i64 0, .bool na, .string ta, .int .i64 ea] 23)).alloc (.cells #[.int .i64 3, .int .i64 mf, .int .i64 xf, .int .i64 ms, .int .i64 xs, .bool st, .int .i64 cs, .bool ns, .string ts, .int .i64 es, .int .i64 md, .bool true, .int .i64 im, .int .i64 ix] 32))) := (((Below.refl _ _).alloc (Nat.le_refl _) _).alloc (by simp <;> omega) _)
    go_enter Tryz.func10, Tryz.ntmps10
    go_wp2_with fail
    refine (H1.out _ (HT.out.below HB0.out)).mono ?_
    rintro e w1 ⟨rfl, hb⟩
    have Ba1 := Blk.on Ba0 hb
    have Bp1 := Blk.on Bp0 hb
    have HB1 := hide (HB0.out.trans (hb.mono HB0.out.size))
    clear hb Ba0 Bp0 HB0 
    obtain ⟨ya0, ya1, ya2, ya3⟩ := Ba1.out.four
    obtain ⟨yp0, yp1, yp2, yp3, yp4, yp5, yp6, yp7, yp8, yp9, yp10, yp11, yp12, yp13⟩ := Bp1.out.fourteen
    have Ba2 := Blk.up Ba1 (.cells #[.int .i64 0, .bool na, .string si, .string sf, .int .i64 0, .bool false] 36)
    have Bp2 := Blk.up Bp1 (.cells #[.int .i64 0, .bool na, .string si, .string sf, .int .i64 0, .bool false] 36)
    have Bs2 := hide ((Blk.newAt w1 (w1.heap.size) (rfl) #[.int .i64 0, .bool na, .string si, .string sf, .int .i64 0, .bool false] 36))
    have HB2 : Hid (Below w.heap.size w (w1.alloc (.cells #[.int .i64 0, .bool na, .string si, .string sf, .int .i64 0, .bool false] 36))) := (HB1.out.alloc HB1.out.size _)
    clear Ba1 Bp1 HB1 ya0 ya1 ya2 ya3 yp0 yp1 yp2 yp3 yp4 yp5 yp6 yp7 yp8 yp9 yp10 yp11 yp12 yp13
    obtain ⟨ya0, ya1, ya2, ya3⟩ := Ba2.out.four
    obtain ⟨yp0, yp1, yp2, yp3, yp4, yp5, yp6, yp7, yp8, yp9, yp10, yp11, yp12, yp13⟩ := Bp2.out.fourteen
    obtain ⟨ys0, ys1, ys2, ys3, ys4, ys5⟩ := Bs2.out.six
    go_wp2_with fail
    refine (xawake_any _ (HT.out.below HB2.out)).mono ?_
    rintro e w3 ⟨rfl, hb⟩
    have Ba3 := Blk.on Ba2 hb
    have Bp3 := Blk.on Bp2 hb
    have Bs3 := Blk.on Bs2 hb
    have HB3 := hide (HB2.out.trans (hb.mono HB2.out.size))
    clear hb Ba2 Bp2 Bs2 HB2 ya0 ya1 ya2 ya3 yp0 yp1 yp2 yp3 yp4 yp5 yp6 yp7 yp8 yp9 yp10 yp11 yp12 yp13 ys0 ys1 ys2 ys3 ys4 ys5
    obtain ⟨ya0, ya1, ya2, ya3⟩ := Ba3.out.four
    obtain ⟨yp0, yp1, yp2, yp3, yp4, yp5, yp6, yp7, yp8, yp9, yp10, yp11, yp12, yp13⟩ := Bp3.out.fourteen
    obtain ⟨ys0, ys1, ys2, ys3, ys4, ys5⟩ := Bs3.out.six
    go_wp2
    go_ret
    first | exact ⟨rfl, HB3.out⟩ | exact ⟨congrArg (fun b => Ending.returned (Value.bool b)) (by simp <;> omega), HB3.out⟩

end Go.Proofs.YtckijnlolmbdiaaGreatDoor

namespace Go.Proofs.YtckijnlolmbdiaaGreatDoor
open Go.RowKit

set_option maxRecDepth 100000 in
set_option maxHeartbeats 4000000 in
theorem countsf_4f (na : Bool) (ta : ByteArray) (ea mf xf ms xs : Int) (st : Bool) (cs : Int) (ns : Bool) (ts : ByteArray) (es md im ix : Int) (si sf : ByteArray) (w : World) (htab : Tab w) (h1 : ∀ W, Tab W → Calls Tryz.prog 22 #[dcV 0 na ta ea, prV 4 mf xf ms xs st cs ns ts es md false im ix] W fun e w' => e = .returned (.tuple #[.agg #[.int .i64 0, .bool na, .string si, .string sf, .int .i64 0, .bool false], .int .i64 0]) ∧ Below W.heap.size W w') (i1 : im ≤ (si.size : Int)) (i2 : si.size + sf.size ≠ 0) (z1 : si.size ≤ 4096) (z2 : sf.size ≤ 4096) (hI : (¬ 0 < ix ∧ decide (0 < ix) = false) ∨ (0 < ix ∧ decide (ix < (si.size : Int)) = false)) (hR : (decide (mf ≤ (sf.size : Int)) = true ∧ mf ≤ (sf.size : Int))) : Calls Tryz.prog 10 #[dcV 0 na ta ea, prV 4 mf xf ms xs st cs ns ts es md false im ix] w fun e w' => e = .returned (.bool true) ∧ Below w.heap.size w w' := by
  have H1 := hide h1
  have HT := hide htab
  have c1 : ¬ (si.size : Int) < im := by omega
  have c2 : decide ((si.size : Int) < im) = false := decide_eq_false c1
  have c3 : ¬ 9223372036854775807 < si.size + sf.size := by omega
  have c4 := toList_ne (t := si ++ sf) (by rw [ByteArray.size_append]; omega)
  clear htab h1 c1 i1 i2 z2 z1
  rcases hI with ⟨j1, j2⟩ | ⟨j1, j2⟩ <;> rcases hR with ⟨g0, g1⟩
  all_goals
    have Ba0 := hide ((Blk.newAt w (w.heap.size) (rfl) #[.int .i64 0, .bool na, .string ta, .int .i64 ea] 23).alloc (.cells #[.int .i64 4, .int .i64 mf, .int .i64 xf, .int .i64 ms, .int .i64 xs, .bool st, .int .i64 cs, .bool ns, .string ts, .int .i64 es, .int .i64 md, .bool false, .int .i64 im, .int .i64 ix] 32))
    have Bp0 := hide (Blk.newAt (w.alloc (.cells #[.int .i64 0, .bool na, .string ta, .int .i64 ea] 23)) (w.heap.size + 1) (by simp) #[.int .i64 4, .int .i64 mf, .int .i64 xf, .int .i64 ms, .int .i64 xs, .bool st, .int .i64 cs, .bool ns, .string ts, .int .i64 es, .int .i64 md, .bool false, .int .i64 im, .int .i64 ix] 32)
    have HB0 : Hid (Below w.heap.size w ((w.alloc (.cells #[.int .i64 0, .bool na, .string ta, .int .i64 ea] 23)).alloc (.cells #[.int .i64 4, .int .i64 mf, .int .i64 xf, .int .i64 ms, .int .i64 xs, .bool st, .int .i64 cs, .bool ns, .string ts, .int .i64 es, .int .i64 md, .bool false, .int .i64 im, .int .i64 ix] 32))) := (((Below.refl _ _).alloc (Nat.le_refl _) _).alloc (by simp <;> omega) _)
    go_enter Tryz.func10, Tryz.ntmps10
    go_wp2_with fail
    refine (H1.out _ (HT.out.below HB0.out)).mono ?_
    rintro e w1 ⟨rfl, hb⟩
    have Ba1 := Blk.on Ba0 hb
    have Bp1 := Blk.on Bp0 hb
    have HB1 := hide (HB0.out.trans (hb.mono HB0.out.size))
    clear hb Ba0 Bp0 HB0 
    obtain ⟨ya0, ya1, ya2, ya3⟩ := Ba1.out.four
    obtain ⟨yp0, yp1, yp2, yp3, yp4, yp5, yp6, yp7, yp8, yp9, yp10, yp11, yp12, yp13⟩ := Bp1.out.fourteen
    have Ba2 := Blk.up Ba1 (.cells #[.int .i64 0, .bool na, .string si, .string sf, .int .i64 0, .bool false] 36)
    have Bp2 := Blk.up Bp1 (.cells #[.int .i64 0, .bool na, .string si, .string sf, .int .i64 0, .bool false] 36)
    have Bs2 := hide ((Blk.newAt w1 (w1.heap.size) (rfl) #[.int .i64 0, .bool na, .string si, .string sf, .int .i64 0, .bool false] 36))
    have HB2 : Hid (Below w.heap.size w (w1.alloc (.cells #[.int .i64 0, .bool na, .string si, .string sf, .int .i64 0, .bool false] 36))) := (HB1.out.alloc HB1.out.size _)
    clear Ba1 Bp1 HB1 ya0 ya1 ya2 ya3 yp0 yp1 yp2 yp3 yp4 yp5 yp6 yp7 yp8 yp9 yp10 yp11 yp12 yp13
    obtain ⟨ya0, ya1, ya2, ya3⟩ := Ba2.out.four
    obtain ⟨yp0, yp1, yp2, yp3, yp4, yp5, yp6, yp7, yp8, yp9, yp10, yp11, yp12, yp13⟩ := Bp2.out.fourteen
    obtain ⟨ys0, ys1, ys2, ys3, ys4, ys5⟩ := Bs2.out.six
    go_wp2_with fail
    refine (xawake_any _ (HT.out.below HB2.out)).mono ?_
    rintro e w3 ⟨rfl, hb⟩
    have Ba3 := Blk.on Ba2 hb
    have Bp3 := Blk.on Bp2 hb
    have Bs3 := Blk.on Bs2 hb
    have HB3 := hide (HB2.out.trans (hb.mono HB2.out.size))
    clear hb Ba2 Bp2 Bs2 HB2 ya0 ya1 ya2 ya3 yp0 yp1 yp2 yp3 yp4 yp5 yp6 yp7 yp8 yp9 yp10 yp11 yp12 yp13 ys0 ys1 ys2 ys3 ys4 ys5
    obtain ⟨ya0, ya1, ya2, ya3⟩ := Ba3.out.four
    obtain ⟨yp0, yp1, yp2, yp3, yp4, yp5, yp6, yp7, yp8, yp9, yp10, yp11, yp12, yp13⟩ := Bp3.out.fourteen
    obtain ⟨ys0, ys1, ys2, ys3, ys4, ys5⟩ := Bs3.out.six
    go_wp2
    go_ret
    first | exact ⟨rfl, HB3.out⟩ | exact ⟨congrArg (fun b => Ending.returned (Value.bool b)) (by simp <;> omega), HB3.out⟩

set_option maxRecDepth 100000 in
set_option maxHeartbeats 4000000 in
theorem countsf_4t (na : Bool) (ta : ByteArray) (ea mf xf ms xs : Int) (st : Bool) (cs : Int) (ns : Bool) (ts : ByteArray) (es md im ix : Int) (si sf : ByteArray) (w : World) (htab : Tab w) (h1 : ∀ W, Tab W → Calls Tryz.prog 22 #[dcV 0 na ta ea, prV 4 mf xf ms xs st cs ns ts es md true im ix] W fun e w' => e = .returned (.tuple #[.agg #[.int .i64 0, .bool na, .string si, .string sf, .int .i64 0, .bool false], .int .i64 0]) ∧ Below W.heap.size W w') (i1 : im ≤ (si.size : Int)) (i2 : si.size + sf.size ≠ 0) (z1 : si.size ≤ 4096) (z2 : sf.size ≤ 4096) (hI : (¬ 0 < ix ∧ decide (0 < ix) = false) ∨ (0 < ix ∧ decide (ix < (si.size : Int)) = false)) (hR : (decide (mf ≤ (sf.size : Int)) = true ∧ mf ≤ (sf.size : Int) ∧ ((sf.size : Int) == 0) = true) ∨ (decide (mf ≤ (sf.size : Int)) = true ∧ mf ≤ (sf.size : Int) ∧ ((sf.size : Int) == 0) = false) ∨ (decide (mf ≤ (sf.size : Int)) = false ∧ ¬ mf ≤ (sf.size : Int) ∧ ((sf.size : Int) == 0) = true)) : Calls Tryz.prog 10 #[dcV 0 na ta ea, prV 4 mf xf ms xs st cs ns ts es md true im ix] w fun e w' => e = .returned (.bool true) ∧ Below w.heap.size w w' := by
  have H1 := hide h1
  have HT := hide htab
  have c1 : ¬ (si.size : Int) < im := by omega
  have c2 : decide ((si.size : Int) < im) = false := decide_eq_false c1
  have c3 : ¬ 9223372036854775807 < si.size + sf.size := by omega
  have c4 := toList_ne (t := si ++ sf) (by rw [ByteArray.size_append]; omega)
  clear htab h1 c1 i1 i2 z2 z1
  rcases hI with ⟨j1, j2⟩ | ⟨j1, j2⟩ <;> rcases hR with ⟨g0, g1, g2⟩ | ⟨g0, g1, g2⟩ | ⟨g0, g1, g2⟩
  all_goals
    have Ba0 := hide ((Blk.newAt w (w.heap.size) (rfl) #[.int .i64 0, .bool na, .string ta, .int .i64 ea] 23).alloc (.cells #[.int .i64 4, .int .i64 mf, .int .i64 xf, .int .i64 ms, .int .i64 xs, .bool st, .int .i64 cs, .bool ns, .string ts, .int .i64 es, .int .i64 md, .bool true, .int .i64 im, .int .i64 ix] 32))
    have Bp0 := hide (Blk.newAt (w.alloc (.cells #[.int .i64 0, .bool na, .string ta, .int .i64 ea] 23)) (w.heap.size + 1) (by simp) #[.int .i64 4, .int .i64 mf, .int .i64 xf, .int .i64 ms, .int .i64 xs, .bool st, .int .i64 cs, .bool ns, .string ts, .int .i64 es, .int .i64 md, .bool true, .int .i64 im, .int .i64 ix] 32)
    have HB0 : Hid (Below w.heap.size w ((w.alloc (.cells #[.int .i64 0, .bool na, .string ta, .int .i64 ea] 23)).alloc (.cells #[.int .i64 4, .int .i64 mf, .int .i64 xf, .int .i64 ms, .int .i64 xs, .bool st, .int .i64 cs, .bool ns, .string ts, .int .i64 es, .int .i64 md, .bool true, .int .i64 im, .int .i64 ix] 32))) := (((Below.refl _ _).alloc (Nat.le_refl _) _).alloc (by simp <;> omega) _)
    go_enter Tryz.func10, Tryz.ntmps10
    go_wp2_with fail
    refine (H1.out _ (HT.out.below HB0.out)).mono ?_
    rintro e w1 ⟨rfl, hb⟩
    have Ba1 := Blk.on Ba0 hb
    have Bp1 := Blk.on Bp0 hb
    have HB1 := hide (HB0.out.trans (hb.mono HB0.out.size))
    clear hb Ba0 Bp0 HB0 
    obtain ⟨ya0, ya1, ya2, ya3⟩ := Ba1.out.four
    obtain ⟨yp0, yp1, yp2, yp3, yp4, yp5, yp6, yp7, yp8, yp9, yp10, yp11, yp12, yp13⟩ := Bp1.out.fourteen
    have Ba2 := Blk.up Ba1 (.cells #[.int .i64 0, .bool na, .string si, .string sf, .int .i64 0, .bool false] 36)
    have Bp2 := Blk.up Bp1 (.cells #[.int .i64 0, .bool na, .string si, .string sf, .int .i64 0, .bool false] 36)
    have Bs2 := hide ((Blk.newAt w1 (w1.heap.size) (rfl) #[.int .i64 0, .bool na, .string si, .string sf, .int .i64 0, .bool false] 36))
    have HB2 : Hid (Below w.heap.size w (w1.alloc (.cells #[.int .i64 0, .bool na, .string si, .string sf, .int .i64 0, .bool false] 36))) := (HB1.out.alloc HB1.out.size _)
    clear Ba1 Bp1 HB1 ya0 ya1 ya2 ya3 yp0 yp1 yp2 yp3 yp4 yp5 yp6 yp7 yp8 yp9 yp10 yp11 yp12 yp13
    obtain ⟨ya0, ya1, ya2, ya3⟩ := Ba2.out.four
    obtain ⟨yp0, yp1, yp2, yp3, yp4, yp5, yp6, yp7, yp8, yp9, yp10, yp11, yp12, yp13⟩ := Bp2.out.fourteen
    obtain ⟨ys0, ys1, ys2, ys3, ys4, ys5⟩ := Bs2.out.six
    go_wp2_with fail
    refine (xawake_any _ (HT.out.below HB2.out)).mono ?_
    rintro e w3 ⟨rfl, hb⟩
    have Ba3 := Blk.on Ba2 hb
    have Bp3 := Blk.on Bp2 hb
    have Bs3 := Blk.on Bs2 hb
    have HB3 := hide (HB2.out.trans (hb.mono HB2.out.size))
    clear hb Ba2 Bp2 Bs2 HB2 ya0 ya1 ya2 ya3 yp0 yp1 yp2 yp3 yp4 yp5 yp6 yp7 yp8 yp9 yp10 yp11 yp12 yp13 ys0 ys1 ys2 ys3 ys4 ys5
    obtain ⟨ya0, ya1, ya2, ya3⟩ := Ba3.out.four
    obtain ⟨yp0, yp1, yp2, yp3, yp4, yp5, yp6, yp7, yp8, yp9, yp10, yp11, yp12, yp13⟩ := Bp3.out.fourteen
    obtain ⟨ys0, ys1, ys2, ys3, ys4, ys5⟩ := Bs3.out.six
    go_wp2
    go_ret
    first | exact ⟨rfl, HB3.out⟩ | exact ⟨congrArg (fun b => Ending.returned (Value.bool b)) (by simp <;> omega), HB3.out⟩

end Go.Proofs.YtckijnlolmbdiaaGreatDoor

namespace Go.Proofs.YtckijnlolmbdiaaGreatDoor
open Go.RowKit

theorem dect {a : Prop} [Decidable a] (h : a) : decide a = true := decide_eq_true h
theorem decf {a : Prop} [Decidable a] (h : ¬ a) : decide a = false := decide_eq_false h
theorem beqt {a b : Int} (h : a = b) : (a == b) = true := by simp [h]
theorem beqf {a b : Int} (h : ¬ a = b) : (a == b) = false := by simp [h]

theorem wcounts_fin (w : World) (htab : Tab w) (na : Bool) (ta : ByteArray) (ea k mf xf ms xs : Int) (st : Bool) (cs : Int) (ns : Bool) (ts : ByteArray) (es md : Int) (hd : Bool) (im ix : Int) (r : DecT) (I F : List UInt8) (h : MayD 0 na (bys ta) ea) (hp : MayP ⟨k, mf, xf, ms, xs, st, cs, ns, bys ts, es, md, hd, im, ix⟩) (hr : roundP ⟨k, mf, xf, ms, xs, st, cs, ns, bys ts, es, md, hd, im, ix⟩ 0 na (bys ta) ea = (r, 0)) (hm : May r) (hc : Counts ⟨k, mf, xf, ms, xs, st, cs, ns, bys ts, es, md, hd, im, ix⟩ r I F)
    (SA : ∀ W, Tab W → Calls Tryz.prog 22 #[dcV 0 na ta ea, prV k mf xf ms xs st cs ns ts es md hd im ix] W fun e w' => e = .returned (.tuple #[.agg #[.int .i64 0, .bool na, .string ⟨I.toArray⟩, .string ⟨F.toArray⟩, .int .i64 0, .bool false], .int .i64 0]) ∧ Below W.heap.size W w') : Calls Tryz.prog 10 #[dcV 0 na ta ea, prV k mf xf ms xs st cs ns ts es md hd im ix] w fun e w' => e = .returned (.bool true) ∧ Below w.heap.size w w' := by
  have e1 : (⟨I.toArray⟩ : ByteArray).size = I.length := size_mk0 I
  have e2 : (⟨F.toArray⟩ : ByteArray).size = F.length := size_mk0 F
  have i1 := hc.least
  have i2 : I.length + F.length ≠ 0 := fun g => hc.some ⟨List.length_eq_zero_iff.1 (by omega), List.length_eq_zero_iff.1 (by omega)⟩
  have z1 := hc.il
  have z2 := hc.fl
  have ha := hc.ahead
  have hl := counts_least hc
  have hI : (¬ 0 < ix ∧ decide (0 < ix) = false) ∨ (0 < ix ∧ decide (ix < ((⟨I.toArray⟩ : ByteArray).size : Int)) = false) := by
    rcases hc.most with g | ⟨g1, g2⟩
    · simp only at g; exact .inl ⟨by omega, decf (by omega)⟩
    · simp only at g1 g2; exact .inr ⟨g1, decf (by omega)⟩
  have h0 : F = [] ↔ F.length = 0 := List.length_eq_zero_iff.symm
  simp only at i1 ha hl
  have hk : k = 0 ∨ k = 1 ∨ k = 2 ∨ k = 3 ∨ k = 4 := mayP_kind hp
  rcases hk with rfl | rfl | rfl | rfl | rfl
  · have lst := counts_last hm rfl hc
    have hR : ((((⟨F.toArray⟩ : ByteArray).size : Int) == 0) = true) ∨ ((((⟨F.toArray⟩ : ByteArray).size : Int) == 0) = false ∧ ((F.length - 1 : Nat) : Int) < ((⟨F.toArray⟩ : ByteArray).size : Int) ∧ F.length - 1 < (⟨F.toArray⟩ : ByteArray).size ∧ ((⟨F.toArray⟩ : ByteArray).size : Int) - 1 = ((F.length - 1 : Nat) : Int) ∧ (∀ h : F.length - 1 < (⟨F.toArray⟩ : ByteArray).size, (⟨F.toArray⟩ : ByteArray)[F.length - 1].toNat = byt F (F.length - 1)) ∧ (((byt F (F.length - 1) : Nat) : Int) == 48) = false ∧ ¬ ((byt F (F.length - 1) : Nat) : Int) = 48) := by
      by_cases g : F = []
      · exact .inl (beqt (by rw [e2]; have := h0.1 g; omega))
      · have g2 : F.length ≠ 0 := fun q => g (h0.2 q)
        have g3 := lst g
        refine .inr ⟨beqf (by omega), by omega, by omega, by omega, fun h => ?_, beqf (by omega), by omega⟩
        rw [byt_get, bys_mk F]
    cases hd
    · exact countsf_0f na ta ea mf xf ms xs st cs ns ts es md im ix ⟨I.toArray⟩ ⟨F.toArray⟩ _ _ w htab SA (by rw [e1]; exact i1) (by omega) (by omega) (by omega) hI hR
    · exact countsf_0t na ta ea mf xf ms xs st cs ns ts es md im ix ⟨I.toArray⟩ ⟨F.toArray⟩ _ _ w htab SA (by rw [e1]; exact i1) (by omega) (by omega) (by omega) hI hR
  · have x1 := counts_frac hp h hr hm rfl hc
    simp only at x1
    have x2 : (F.length : Int) ≤ xf := x1
    have hm2 : mf ≤ leastP ⟨1, mf, xf, ms, xs, st, cs, ns, bys ts, es, md, hd, im, ix⟩ r := by unfold leastP; simp
    cases hd
    · have hA : mf ≤ (F.length : Int) := by
        rcases hl with g | ⟨_, g⟩
        · omega
        · cases g
      exact countsf_1f na ta ea mf xf ms xs st cs ns ts es md im ix ⟨I.toArray⟩ ⟨F.toArray⟩ w htab SA (by rw [e1]; exact i1) (by omega) (by omega) (by omega) hI ⟨by rw [e2]; exact x2, dect (by rw [e2]; exact x2), dect (by omega), by omega⟩
    · refine countsf_1t na ta ea mf xf ms xs st cs ns ts es md im ix ⟨I.toArray⟩ ⟨F.toArray⟩ w htab SA (by rw [e1]; exact i1) (by omega) (by omega) (by omega) hI ?_
      by_cases hA : mf ≤ (F.length : Int)
      · by_cases g : F.length = 0
        · exact .inl ⟨by rw [e2]; exact x2, dect (by rw [e2]; exact x2), dect (by omega), by omega, beqt (by omega)⟩
        · exact .inr (.inl ⟨by rw [e2]; exact x2, dect (by rw [e2]; exact x2), dect (by omega), by omega, beqf (by omega)⟩)
      · have g : F.length = 0 := by
          rcases hl with g | ⟨g, _⟩
          · omega
          · exact h0.1 g
        exact .inr (.inr ⟨by rw [e2]; exact x2, dect (by rw [e2]; exact x2), decf (by omega), by omega, beqt (by omega)⟩)
  · obtain ⟨_, ⟨⟨s1, s2⟩, s3⟩, _⟩ := mayP_2 hp rfl
    simp only at s1 s2 s3
    have hs : leastP ⟨2, mf, xf, ms, xs, st, cs, ns, bys ts, es, md, hd, im, ix⟩ r = sigL ⟨2, mf, xf, ms, xs, st, cs, ns, bys ts, es, md, hd, im, ix⟩ r := by unfold leastP; simp
    have hg : ix = 0 → ms - max 1 (I.length : Int) ≤ sigL ⟨2, mf, xf, ms, xs, st, cs, ns, bys ts, es, md, hd, im, ix⟩ r := by
      intro g
      have := ha g
      unfold sigL
      split
      · simp only; omega
      · simp only; omega
    have hx : ¬ ix = 0 → 0 < ix := by
      intro g
      rcases hc.most with q | ⟨q, _⟩
      · exact absurd q g
      · exact q
    cases hd
    · refine countsf_2f na ta ea mf xf ms xs st cs ns ts es md im ix ⟨I.toArray⟩ ⟨F.toArray⟩ w htab SA (by rw [e1]; exact i1) (by omega) (by omega) (by omega) hI ?_ (by omega) (by omega)
      by_cases hA : ms - max 1 (I.length : Int) ≤ (F.length : Int)
      · exact .inl ⟨dect (by rw [e1, e2]; exact hA), by rw [e1, e2]; exact hA⟩
      · refine .inr ⟨decf (by rw [e1, e2]; exact hA), by rw [e1, e2]; exact hA, hx (fun g => ?_)⟩
        rcases hl with q | ⟨_, q⟩
        · have := hg g; omega
        · cases q
    · refine countsf_2t na ta ea mf xf ms xs st cs ns ts es md im ix ⟨I.toArray⟩ ⟨F.toArray⟩ w htab SA (by rw [e1]; exact i1) (by omega) (by omega) (by omega) hI ?_ (by omega) (by omega)
      by_cases hA : ms - max 1 (I.length : Int) ≤ (F.length : Int)
      · by_cases g : F.length = 0
        · exact .inl ⟨dect (by rw [e1, e2]; exact hA), by rw [e1, e2]; exact hA, beqt (by omega)⟩
        · exact .inr (.inl ⟨dect (by rw [e1, e2]; exact hA), by rw [e1, e2]; exact hA, beqf (by omega)⟩)
      · by_cases g : F.length = 0
        · exact .inr (.inr (.inl ⟨decf (by rw [e1, e2]; exact hA), by rw [e1, e2]; exact hA, beqt (by omega)⟩))
        · refine .inr (.inr (.inr ⟨decf (by rw [e1, e2]; exact hA), by rw [e1, e2]; exact hA, beqf (by omega), hx (fun q => ?_)⟩))
          rcases hl with t | ⟨t, _⟩
          · have := hg q; omega
          · exact g (h0.1 t)
  · have hm2 : mf ≤ leastP ⟨3, mf, xf, ms, xs, st, cs, ns, bys ts, es, md, hd, im, ix⟩ r := by unfold leastP; simp; omega
    cases hd
    · have hA : mf ≤ (F.length : Int) := by
        rcases hl with g | ⟨_, g⟩
        · omega
        · cases g
      exact countsf_3f na ta ea mf xf ms xs st cs ns ts es md im ix ⟨I.toArray⟩ ⟨F.toArray⟩ w htab SA (by rw [e1]; exact i1) (by omega) (by omega) (by omega) hI ⟨dect (by omega), by omega⟩
    · refine countsf_3t na ta ea mf xf ms xs st cs ns ts es md im ix ⟨I.toArray⟩ ⟨F.toArray⟩ w htab SA (by rw [e1]; exact i1) (by omega) (by omega) (by omega) hI ?_
      by_cases hA : mf ≤ (F.length : Int)
      · by_cases g : F.length = 0
        · exact .inl ⟨dect (by omega), by omega, beqt (by omega)⟩
        · exact .inr (.inl ⟨dect (by omega), by omega, beqf (by omega)⟩)
      · have g : F.length = 0 := by
          rcases hl with g | ⟨g, _⟩
          · omega
          · exact h0.1 g
        exact .inr (.inr ⟨decf (by omega), by omega, beqt (by omega)⟩)
  · have hm2 : mf ≤ leastP ⟨4, mf, xf, ms, xs, st, cs, ns, bys ts, es, md, hd, im, ix⟩ r := by unfold leastP; simp
    cases hd
    · have hA : mf ≤ (F.length : Int) := by
        rcases hl with g | ⟨_, g⟩
        · omega
        · cases g
      exact countsf_4f na ta ea mf xf ms xs st cs ns ts es md im ix ⟨I.toArray⟩ ⟨F.toArray⟩ w htab SA (by rw [e1]; exact i1) (by omega) (by omega) (by omega) hI ⟨dect (by omega), by omega⟩
    · refine countsf_4t na ta ea mf xf ms xs st cs ns ts es md im ix ⟨I.toArray⟩ ⟨F.toArray⟩ w htab SA (by rw [e1]; exact i1) (by omega) (by omega) (by omega) hI ?_
      by_cases hA : mf ≤ (F.length : Int)
      · by_cases g : F.length = 0
        · exact .inl ⟨dect (by omega), by omega, beqt (by omega)⟩
        · exact .inr (.inl ⟨dect (by omega), by omega, beqf (by omega)⟩)
      · have g : F.length = 0 := by
          rcases hl with g | ⟨g, _⟩
          · omega
          · exact h0.1 g
        exact .inr (.inr ⟨decf (by omega), by omega, beqt (by omega)⟩)

theorem wcounts_walk (w : World) (htab : Tab w) (ca : Int) (na : Bool) (ta : ByteArray) (ea k mf xf ms xs : Int) (st : Bool) (cs : Int) (ns : Bool) (ts : ByteArray) (es md : Int) (hd : Bool) (im ix : Int) : Calls Tryz.prog 10 #[dcV ca na ta ea, prV k mf xf ms xs st cs ns ts es md hd im ix] w fun e w' => e = .returned (.bool true) ∧ Below w.heap.size w w' := by
  have SA := fun W hW => Show_any ca na ta ea k mf xf ms xs st cs ns ts es md hd im ix W hW
  rcases showP_cases ca na (bys ta) ea ⟨k, mf, xf, ms, xs, st, cs, ns, bys ts, es, md, hd, im, ix⟩ with g | g | g | ⟨r, h, hp, hr, hm, g⟩
  · rw [g] at SA; exact counts_51 ca na ta ea k mf xf ms xs st cs ns ts es md hd im ix w htab SA
  · rw [g] at SA; exact counts_52 ca na ta ea k mf xf ms xs st cs ns ts es md hd im ix w htab SA
  · rw [g] at SA; exact counts_70 ca na ta ea k mf xf ms xs st cs ns ts es md hd im ix w htab SA
  · rw [g] at SA
    obtain ⟨r1, r2, _⟩ := round_sign hp h hr
    by_cases hc : r.cls = 0
    · have hca : ca = 0 := by omega
      subst hca
      rcases hIF : digitsP ⟨k, mf, xf, ms, xs, st, cs, ns, bys ts, es, md, hd, im, ix⟩ r (leastP ⟨k, mf, xf, ms, xs, st, cs, ns, bys ts, es, md, hd, im, ix⟩ r) with ⟨I, F⟩
      have hs : shownP ⟨k, mf, xf, ms, xs, st, cs, ns, bys ts, es, md, hd, im, ix⟩ r = ⟨0, na, I, F, 0, false⟩ := by unfold shownP; rw [if_pos hc, hIF, r2]
      rw [hs] at SA
      exact wcounts_fin w htab na ta ea k mf xf ms xs st cs ns ts es md hd im ix r I F h hp hr hm (counts hp hm hIF) SA
    · have hs : shownP ⟨k, mf, xf, ms, xs, st, cs, ns, bys ts, es, md, hd, im, ix⟩ r = ⟨r.cls, r.neg, [], [], 0, false⟩ := by unfold shownP; rw [if_neg hc]
      rw [hs, r2] at SA
      rcases may_cases hm with ⟨m, g⟩ | g | ⟨m, g⟩ | g
      · rw [g] at hc; exact absurd rfl hc
      · exact absurd g.cls hc
      · rw [g] at r1 SA
        have hca : ca = 1 := r1.symm
        subst hca
        exact counts_c1 na ta ea k mf xf ms xs st cs ns ts es md hd im ix w htab SA
      · rw [g] at r1 SA
        have hca : ca = 2 := r1.symm
        subst hca
        exact counts_c2 na ta ea k mf xf ms xs st cs ns ts es md hd im ix w htab SA

end Go.Proofs.YtckijnlolmbdiaaGreatDoor
