/-
  The walk of RoundOrder, a number below 0.
  The walk of RoundOrder, a number below 0.
-/
import Derived.Test.YtcclbcnmkaobpaaGreatDoorZB6
import Derived.Test.YtcclbcnmkaobpaaGreatDoorZB20
import Derived.Test.YtcclbcnmkaobpaaGreatDoorZB21
namespace Go.Proofs.YtcclbcnmkaobpaaGreatDoor
open Go.RowKit

set_option maxRecDepth 100000 in
set_option maxHeartbeats 8000000 in
theorem order_ts (ca : Int) (ta : ByteArray) (ea : Int) (p : Int) (w : World) (htab : Tab w) (g0 : ∀ W, Tab W → Calls Tryz.prog 11 #[.agg #[.int .i64 ca, .bool true, .string ta, .int .i64 ea], .int .i64 p, .int .i64 0] W fun e w' => e = .returned (.tuple #[.agg #[.int .i64 ca, .bool true, .string ta, .int .i64 ea], .int .i64 0]) ∧ Below W.heap.size W w') (g1 : ∀ W, Tab W → Calls Tryz.prog 11 #[.agg #[.int .i64 ca, .bool true, .string ta, .int .i64 ea], .int .i64 p, .int .i64 1] W fun e w' => e = .returned (.tuple #[.agg #[.int .i64 ca, .bool true, .string ta, .int .i64 ea], .int .i64 0]) ∧ Below W.heap.size W w') (g2 : ∀ W, Tab W → Calls Tryz.prog 11 #[.agg #[.int .i64 ca, .bool true, .string ta, .int .i64 ea], .int .i64 p, .int .i64 2] W fun e w' => e = .returned (.tuple #[.agg #[.int .i64 ca, .bool true, .string ta, .int .i64 ea], .int .i64 0]) ∧ Below W.heap.size W w') (g3 : ∀ W, Tab W → Calls Tryz.prog 11 #[.agg #[.int .i64 ca, .bool true, .string ta, .int .i64 ea], .int .i64 p, .int .i64 3] W fun e w' => e = .returned (.tuple #[.agg #[.int .i64 ca, .bool true, .string ta, .int .i64 ea], .int .i64 0]) ∧ Below W.heap.size W w') (g4 : ∀ k : Nat, 4 ≤ k → k < 8 → ∀ W, Tab W → Calls Tryz.prog 11 #[.agg #[.int .i64 ca, .bool true, .string ta, .int .i64 ea], .int .i64 p, .int .i64 (k : Int)] W fun e w' => e = .returned (.tuple #[.agg #[.int .i64 ca, .bool true, .string ta, .int .i64 ea], .int .i64 0]) ∧ Below W.heap.size W w') (g5 : ∀ W, Calls Tryz.prog 20 #[.agg #[.int .i64 ca, .bool true, .string ta, .int .i64 ea], .agg #[.int .i64 ca, .bool true, .string ta, .int .i64 ea]] W fun e w' => e = .returned (.bool false) ∧ Below W.heap.size W w') : Calls Tryz.prog 10 #[.agg #[.int .i64 ca, .bool true, .string ta, .int .i64 ea], .int .i64 p] w fun e w' => e = .returned (.bool true) ∧ Below w.heap.size w w' := by
  have H0 := hide g0
  have H1 := hide g1
  have H2 := hide g2
  have H3 := hide g3
  have H4 := hide g4
  have H5 := hide g5
  have HT := hide htab
  clear htab g0 g1 g2 g3 g4 g5
  have Ba0 := hide (Blk.newAt w (w.heap.size) (rfl) #[.int .i64 ca, .bool true, .string ta, .int .i64 ea] 23)
  have HB0 : Hid (Below w.heap.size w (w.alloc (.cells #[.int .i64 ca, .bool true, .string ta, .int .i64 ea] 23))) := ((Below.refl _ _).alloc (Nat.le_refl _) _)
  go_enter Tryz.func10, Tryz.ntmps10
  go_wp2_with fail
  refine (rawake_any _ (HT.out.below HB0.out)).mono ?_
  rintro e w1 ⟨rfl, hb⟩
  have Ba1 := Blk.on Ba0 hb
  have HB1 := hide (HB0.out.trans (hb.mono HB0.out.size))
  clear hb Ba0 HB0 
  obtain ⟨ya0, ya1, ya2, ya3⟩ := Ba1.out.four
  go_wp2_with fail
  refine (H1.out _ (HT.out.below HB1.out)).mono ?_
  rintro e w2 ⟨rfl, hb⟩
  have Ba2 := Blk.on Ba1 hb
  have HB2 := hide (HB1.out.trans (hb.mono HB1.out.size))
  clear hb Ba1 HB1 ya0 ya1 ya2 ya3
  obtain ⟨ya0, ya1, ya2, ya3⟩ := Ba2.out.four
  have Ba3 := Blk.up Ba2 (.cells #[.int .i64 ca, .bool true, .string ta, .int .i64 ea] 23)
  have Bl3 := hide ((Blk.newAt w2 (w2.heap.size) (rfl) #[.int .i64 ca, .bool true, .string ta, .int .i64 ea] 23))
  have HB3 : Hid (Below w.heap.size w (w2.alloc (.cells #[.int .i64 ca, .bool true, .string ta, .int .i64 ea] 23))) := (HB2.out.alloc HB2.out.size _)
  clear Ba2 HB2 ya0 ya1 ya2 ya3
  obtain ⟨ya0, ya1, ya2, ya3⟩ := Ba3.out.four
  obtain ⟨yl0, yl1, yl2, yl3⟩ := Bl3.out.four
  go_wp2_with fail
  refine (H0.out _ (HT.out.below HB3.out)).mono ?_
  rintro e w4 ⟨rfl, hb⟩
  have Ba4 := Blk.on Ba3 hb
  have Bl4 := Blk.on Bl3 hb
  have HB4 := hide (HB3.out.trans (hb.mono HB3.out.size))
  clear hb Ba3 Bl3 HB3 ya0 ya1 ya2 ya3 yl0 yl1 yl2 yl3
  obtain ⟨ya0, ya1, ya2, ya3⟩ := Ba4.out.four
  obtain ⟨yl0, yl1, yl2, yl3⟩ := Bl4.out.four
  have Ba5 := Blk.up Ba4 (.cells #[.int .i64 ca, .bool true, .string ta, .int .i64 ea] 23)
  have Bl5 := Blk.up Bl4 (.cells #[.int .i64 ca, .bool true, .string ta, .int .i64 ea] 23)
  have Bh5 := hide ((Blk.newAt w4 (w4.heap.size) (rfl) #[.int .i64 ca, .bool true, .string ta, .int .i64 ea] 23))
  have HB5 : Hid (Below w.heap.size w (w4.alloc (.cells #[.int .i64 ca, .bool true, .string ta, .int .i64 ea] 23))) := (HB4.out.alloc HB4.out.size _)
  clear Ba4 Bl4 HB4 ya0 ya1 ya2 ya3 yl0 yl1 yl2 yl3
  obtain ⟨ya0, ya1, ya2, ya3⟩ := Ba5.out.four
  obtain ⟨yl0, yl1, yl2, yl3⟩ := Bl5.out.four
  obtain ⟨yh0, yh1, yh2, yh3⟩ := Bh5.out.four
  obtain ⟨W2, hW2⟩ : ∃ W2, W2 = (w4.alloc (.cells #[.int .i64 ca, .bool true, .string ta, .int .i64 ea] 23)) := ⟨_, rfl⟩
  rw [← hW2] at HB5 Ba5 Bl5 Bh5 ya0 ya1 ya2 ya3 yl0 yl1 yl2 yl3 yh0 yh1 yh2 yh3
  have HW2 := hide hW2
  clear hW2
  go_wp2
  simp only [← HW2.out]
  go_loopw [9] (fun iv wr => ∃ k : Nat, k ≤ 8 ∧ iv = .int .i64 (k : Int) ∧ Hid (Below W2.heap.size W2 wr)) (fun iv _ => 8 - (intOf iv).toNat)
  case atStart => exact ⟨0, by omega, rfl, Below.refl _ _⟩
  case round =>
    obtain ⟨k, hk, rfl, hbr⟩ := hrel
    have Ba6 := hide (Ba5.out.below hbr.out Ba5.out.lt)
    have Bl6 := hide (Bl5.out.below hbr.out Bl5.out.lt)
    have Bh6 := hide (Bh5.out.below hbr.out Bh5.out.lt)
    have HB6 := hide (HB5.out.trans (hbr.out.mono HB5.out.size))
    have HBR : Hid (Below W2.heap.size W2 wr) := hbr
    clear hbr HW2 Ba5 Bl5 Bh5 HB5 ya0 ya1 ya2 ya3 yl0 yl1 yl2 yl3 yh0 yh1 yh2 yh3
    obtain ⟨ya0, ya1, ya2, ya3⟩ := Ba6.out.four
    obtain ⟨yl0, yl1, yl2, yl3⟩ := Bl6.out.four
    obtain ⟨yh0, yh1, yh2, yh3⟩ := Bh6.out.four
    by_cases hk8 : k = 8
    · skip
      subst hk8
      clear hk HBR HT H0 H1 H2 H3 H4
      have b0 : Hid (Below wr.heap.size wr wr.drew) := bdrewD wr
      have C0 : Hid (∀ X, Hid (Below wr.heap.size wr X) → Calls Tryz.prog 20 #[.agg #[.int .i64 ca, .bool true, .string ta, .int .i64 ea], .agg #[.int .i64 ca, .bool true, .string ta, .int .i64 ea]] X fun e w' => e = .returned (.bool false) ∧ Hid (Below wr.heap.size wr w') ∧ w'.cell? ⟨w.heap.size, 0, none⟩ = some (.int .i64 ca) ∧ w'.cell? ⟨w.heap.size, 1, none⟩ = some (.bool true) ∧ w'.cell? ⟨w.heap.size, 2, none⟩ = some (.string ta) ∧ w'.cell? ⟨w.heap.size, 3, none⟩ = some (.int .i64 ea) ∧ w'.cell? ⟨w2.heap.size, 0, none⟩ = some (.int .i64 ca) ∧ w'.cell? ⟨w2.heap.size, 1, none⟩ = some (.bool true) ∧ w'.cell? ⟨w2.heap.size, 2, none⟩ = some (.string ta) ∧ w'.cell? ⟨w2.heap.size, 3, none⟩ = some (.int .i64 ea) ∧ w'.cell? ⟨w4.heap.size, 0, none⟩ = some (.int .i64 ca) ∧ w'.cell? ⟨w4.heap.size, 1, none⟩ = some (.bool true) ∧ w'.cell? ⟨w4.heap.size, 2, none⟩ = some (.string ta) ∧ w'.cell? ⟨w4.heap.size, 3, none⟩ = some (.int .i64 ea)) := by
        intro X bX
        refine (H5.out X).mono ?_
        rintro e w' ⟨rfl, hb⟩
        have bb := bX.out.trans (hb.mono bX.out.size)
        have Baq := Ba6.out.below bb Ba6.out.lt
        have Blq := Bl6.out.below bb Bl6.out.lt
        have Bhq := Bh6.out.below bb Bh6.out.lt
        exact ⟨rfl, bb, Baq.cell 0, Baq.cell 1, Baq.cell 2, Baq.cell 3, Blq.cell 0, Blq.cell 1, Blq.cell 2, Blq.cell 3, Bhq.cell 0, Bhq.cell 1, Bhq.cell 2, Bhq.cell 3⟩
      go_wp2_with fail
      have mk0 : True := trivial
      go_region_held3 (fun w' => w'.cell? ⟨w.heap.size, 0, none⟩ = some (.int .i64 ca) ∧ w'.cell? ⟨w.heap.size, 1, none⟩ = some (.bool true) ∧ w'.cell? ⟨w.heap.size, 2, none⟩ = some (.string ta) ∧ w'.cell? ⟨w.heap.size, 3, none⟩ = some (.int .i64 ea) ∧ w'.cell? ⟨w2.heap.size, 0, none⟩ = some (.int .i64 ca) ∧ w'.cell? ⟨w2.heap.size, 1, none⟩ = some (.bool true) ∧ w'.cell? ⟨w2.heap.size, 2, none⟩ = some (.string ta) ∧ w'.cell? ⟨w2.heap.size, 3, none⟩ = some (.int .i64 ea) ∧ w'.cell? ⟨w4.heap.size, 0, none⟩ = some (.int .i64 ca) ∧ w'.cell? ⟨w4.heap.size, 1, none⟩ = some (.bool true) ∧ w'.cell? ⟨w4.heap.size, 2, none⟩ = some (.string ta) ∧ w'.cell? ⟨w4.heap.size, 3, none⟩ = some (.int .i64 ea)) (go_keep) (first
        | (clear mk0; go_at_call 20; refine (C0.out _ b0).mono ?_; rintro e w7 ⟨rfl, b1, q0_0, q0_1, q0_2, q0_3, q0_4, q0_5, q0_6, q0_7, q0_8, q0_9, q0_10, q0_11⟩; have mk1 : True := trivial))
      have Ba7 := hide (Ba6.out.below b1.out Ba6.out.lt)
      have Bl7 := hide (Bl6.out.below b1.out Bl6.out.lt)
      have Bh7 := hide (Bh6.out.below b1.out Bh6.out.lt)
      have HB7 := hide (HB6.out.trans (b1.out.mono HB6.out.size))
      clear mk1 b0 b1 C0 q0_0 q0_1 q0_2 q0_3 q0_4 q0_5 q0_6 q0_7 q0_8 q0_9 q0_10 q0_11 Ba6 Bl6 Bh6 HB6 ya0 ya1 ya2 ya3 yl0 yl1 yl2 yl3 yh0 yh1 yh2 yh3
      obtain ⟨ya0, ya1, ya2, ya3⟩ := Ba7.out.four
      obtain ⟨yl0, yl1, yl2, yl3⟩ := Bl7.out.four
      obtain ⟨yh0, yh1, yh2, yh3⟩ := Bh7.out.four
      go_wp2
      go_ret
      exact ⟨rfl, HB7.out⟩
    by_cases j0 : k = 0
    · skip
      obtain rfl : k = 0 := by omega
      clear hk hk8
      go_wp2_with fail
      refine (H0.out _ (HT.out.below HB6.out)).mono ?_
      rintro e w7 ⟨rfl, hb⟩
      have HBS := hide (HBR.out.trans (hb.mono HBR.out.size))
      clear HBR
      have Ba7 := Blk.on Ba6 hb
      have Bl7 := Blk.on Bl6 hb
      have Bh7 := Blk.on Bh6 hb
      have HB7 := hide (HB6.out.trans (hb.mono HB6.out.size))
      clear hb Ba6 Bl6 Bh6 HB6 ya0 ya1 ya2 ya3 yl0 yl1 yl2 yl3 yh0 yh1 yh2 yh3
      obtain ⟨ya0, ya1, ya2, ya3⟩ := Ba7.out.four
      obtain ⟨yl0, yl1, yl2, yl3⟩ := Bl7.out.four
      obtain ⟨yh0, yh1, yh2, yh3⟩ := Bh7.out.four
      have Ba8 := Blk.up Ba7 (.cells #[.int .i64 ca, .bool true, .string ta, .int .i64 ea] 23)
      have Bl8 := Blk.up Bl7 (.cells #[.int .i64 ca, .bool true, .string ta, .int .i64 ea] 23)
      have Bh8 := Blk.up Bh7 (.cells #[.int .i64 ca, .bool true, .string ta, .int .i64 ea] 23)
      have Bx8 := hide ((Blk.newAt w7 (w7.heap.size) (rfl) #[.int .i64 ca, .bool true, .string ta, .int .i64 ea] 23))
      have HB8 : Hid (Below w.heap.size w (w7.alloc (.cells #[.int .i64 ca, .bool true, .string ta, .int .i64 ea] 23))) := (HB7.out.alloc HB7.out.size _)
      clear Ba7 Bl7 Bh7 HB7 ya0 ya1 ya2 ya3 yl0 yl1 yl2 yl3 yh0 yh1 yh2 yh3
      obtain ⟨ya0, ya1, ya2, ya3⟩ := Ba8.out.four
      obtain ⟨yl0, yl1, yl2, yl3⟩ := Bl8.out.four
      obtain ⟨yh0, yh1, yh2, yh3⟩ := Bh8.out.four
      obtain ⟨yx0, yx1, yx2, yx3⟩ := Bx8.out.four
      go_wp2
      obtain ⟨W3, hW3⟩ : ∃ W3, W3 = (w7.alloc (.cells #[.int .i64 ca, .bool true, .string ta, .int .i64 ea] 23)) := ⟨_, rfl⟩
      rw [← hW3] at HB8 Ba8 Bl8 Bh8 Bx8 ya0 ya1 ya2 ya3 yl0 yl1 yl2 yl3 yh0 yh1 yh2 yh3 yx0 yx1 yx2 yx3
      have HW3 := hide hW3
      clear hW3
      have HL : Hid (w2.heap.size < W3.heap.size ∧ w4.heap.size < W3.heap.size) := ⟨Bl8.out.lt, Bh8.out.lt⟩
      simp only [← HW3.out]
      go_cut [12, 13] (fun vp vq wx => Cut2D W3 #[.int .i64 ca, .bool true, .string ta, .int .i64 ea] #[.int .i64 ca, .bool true, .string ta, .int .i64 ea] vp vq wx)
      case first =>
        have nl3 : ¬ w2.heap.size = W3.heap.size := (by have := HL.out; omega)
        have ml3 : ¬ W3.heap.size = w2.heap.size := (by have := HL.out; omega)
        have nh3 : ¬ w4.heap.size = W3.heap.size := (by have := HL.out; omega)
        have mh3 : ¬ W3.heap.size = w4.heap.size := (by have := HL.out; omega)
        go_region_held3 (fun w' => w'.cell? ⟨w2.heap.size, 0, none⟩ = some (.int .i64 ca) ∧ w'.cell? ⟨w2.heap.size, 1, none⟩ = some (.bool true) ∧ w'.cell? ⟨w2.heap.size, 2, none⟩ = some (.string ta) ∧ w'.cell? ⟨w2.heap.size, 3, none⟩ = some (.int .i64 ea) ∧ w'.cell? ⟨w4.heap.size, 0, none⟩ = some (.int .i64 ca) ∧ w'.cell? ⟨w4.heap.size, 1, none⟩ = some (.bool true) ∧ w'.cell? ⟨w4.heap.size, 2, none⟩ = some (.string ta) ∧ w'.cell? ⟨w4.heap.size, 3, none⟩ = some (.int .i64 ea)) (go_keep) (fail)
        all_goals (go_wp2_with fail; go_meet)
        all_goals (first | exact cut2_a | exact cut2_b)
      obtain ⟨⟨H, K, rfl, rfl, hq, hr, hH, hK, hHK, hbc⟩⟩ := hcut
      obtain ⟨w9, hwk⟩ : ∃ x, x = wc := ⟨_, rfl⟩
      subst hwk
      have Ba9 := hide (Ba8.out.below hbc Ba8.out.lt)
      have Bl9 := hide (Bl8.out.below hbc Bl8.out.lt)
      have Bh9 := hide (Bh8.out.below hbc Bh8.out.lt)
      have Bx9 := hide (Bx8.out.below hbc Bx8.out.lt)
      have Bn9 := hide hq
      have Bf9 := hide hr
      have HB9 := hide (HB8.out.trans (hbc.mono HB8.out.size))
      have HBT := hide (HBS.out.trans ((HW3.out ▸ ((Below.refl _ _).alloc (Nat.le_refl _) _ : Below _ _ _) : Below w7.heap.size w7 W3).trans (hbc.mono (by rw [HW3.out]; simp)) |>.mono HBS.out.size))
      have hhk : ¬ K = H := fun g => hHK g.symm
      have HHK := hide (show w.heap.size ≤ H ∧ w.heap.size ≤ K from ⟨Nat.le_trans HB8.out.size hH, Nat.le_trans HB8.out.size hK⟩)
      have HS := hide (show W2.heap.size ≤ H ∧ W2.heap.size ≤ K from (by have g1 := HBS.out.size; have g2 : w7.heap.size ≤ W3.heap.size := (by rw [HW3.out]; simp); omega))
      have ia1 : ¬ H = w.heap.size := by have := Ba8.out.lt; omega
      have ia2 : ¬ w.heap.size = H := by have := Ba8.out.lt; omega
      have ia3 : ¬ K = w.heap.size := by have := Ba8.out.lt; omega
      have ia4 : ¬ w.heap.size = K := by have := Ba8.out.lt; omega
      have ih1 : ¬ H = w4.heap.size := by have := Bh8.out.lt; omega
      have ih2 : ¬ w4.heap.size = H := by have := Bh8.out.lt; omega
      have ih3 : ¬ K = w4.heap.size := by have := Bh8.out.lt; omega
      have ih4 : ¬ w4.heap.size = K := by have := Bh8.out.lt; omega
      have il1 : ¬ H = w2.heap.size := by have := Bl8.out.lt; omega
      have il2 : ¬ w2.heap.size = H := by have := Bl8.out.lt; omega
      have il3 : ¬ K = w2.heap.size := by have := Bl8.out.lt; omega
      have il4 : ¬ w2.heap.size = K := by have := Bl8.out.lt; omega
      have ix1 : ¬ H = w7.heap.size := by have := Bx8.out.lt; omega
      have ix2 : ¬ w7.heap.size = H := by have := Bx8.out.lt; omega
      have ix3 : ¬ K = w7.heap.size := by have := Bx8.out.lt; omega
      have ix4 : ¬ w7.heap.size = K := by have := Bx8.out.lt; omega
      have fn0 := Bn9.out.free 0
      have fn1 := Bn9.out.free 1
      have fn2 := Bn9.out.free 2
      have fn3 := Bn9.out.free 3
      have ff0 := Bf9.out.free 0
      have ff1 := Bf9.out.free 1
      have ff2 := Bf9.out.free 2
      have ff3 := Bf9.out.free 3
      clear HL HBS hq hr hH hK hbc HW3 Ba8 Bl8 Bh8 Bx8 HB8 ya0 ya1 ya2 ya3 yl0 yl1 yl2 yl3 yh0 yh1 yh2 yh3 yx0 yx1 yx2 yx3
      obtain ⟨ya0, ya1, ya2, ya3⟩ := Ba9.out.four
      obtain ⟨yl0, yl1, yl2, yl3⟩ := Bl9.out.four
      obtain ⟨yh0, yh1, yh2, yh3⟩ := Bh9.out.four
      obtain ⟨yx0, yx1, yx2, yx3⟩ := Bx9.out.four
      obtain ⟨yn0, yn1, yn2, yn3⟩ := Bn9.out.four
      obtain ⟨yf0, yf1, yf2, yf3⟩ := Bf9.out.four
      go_wp2
      go_region_held3 (fun w' => w'.cell? ⟨w2.heap.size, 0, none⟩ = some (.int .i64 ca) ∧ w'.cell? ⟨w2.heap.size, 1, none⟩ = some (.bool true) ∧ w'.cell? ⟨w2.heap.size, 2, none⟩ = some (.string ta) ∧ w'.cell? ⟨w2.heap.size, 3, none⟩ = some (.int .i64 ea) ∧ w'.cell? ⟨w4.heap.size, 0, none⟩ = some (.int .i64 ca) ∧ w'.cell? ⟨w4.heap.size, 1, none⟩ = some (.bool true) ∧ w'.cell? ⟨w4.heap.size, 2, none⟩ = some (.string ta) ∧ w'.cell? ⟨w4.heap.size, 3, none⟩ = some (.int .i64 ea)) (go_keep) (fail)
      go_wp2
      go_roundw
      case rel => exact ⟨0 + 1, by first | omega | (have := HK.out; omega), by go_num, (((((((((HBT.out.setCell HS.out.1 _).setCell HS.out.1 _).setCell HS.out.1 _).setCell HS.out.1 _).setCell HS.out.2 _).setCell HS.out.2 _).setCell HS.out.2 _).setCell HS.out.2 _)).drew⟩
      case measure => first | (simp [intOf]; done) | (simp [intOf]; omega) | (have := HK.out; simp [intOf]; omega)
    by_cases j1 : k = 1
    · skip
      obtain rfl : k = 1 := by omega
      clear hk hk8
      go_wp2_with fail
      refine (H1.out _ (HT.out.below HB6.out)).mono ?_
      rintro e w7 ⟨rfl, hb⟩
      have HBS := hide (HBR.out.trans (hb.mono HBR.out.size))
      clear HBR
      have Ba7 := Blk.on Ba6 hb
      have Bl7 := Blk.on Bl6 hb
      have Bh7 := Blk.on Bh6 hb
      have HB7 := hide (HB6.out.trans (hb.mono HB6.out.size))
      clear hb Ba6 Bl6 Bh6 HB6 ya0 ya1 ya2 ya3 yl0 yl1 yl2 yl3 yh0 yh1 yh2 yh3
      obtain ⟨ya0, ya1, ya2, ya3⟩ := Ba7.out.four
      obtain ⟨yl0, yl1, yl2, yl3⟩ := Bl7.out.four
      obtain ⟨yh0, yh1, yh2, yh3⟩ := Bh7.out.four
      have Ba8 := Blk.up Ba7 (.cells #[.int .i64 ca, .bool true, .string ta, .int .i64 ea] 23)
      have Bl8 := Blk.up Bl7 (.cells #[.int .i64 ca, .bool true, .string ta, .int .i64 ea] 23)
      have Bh8 := Blk.up Bh7 (.cells #[.int .i64 ca, .bool true, .string ta, .int .i64 ea] 23)
      have Bx8 := hide ((Blk.newAt w7 (w7.heap.size) (rfl) #[.int .i64 ca, .bool true, .string ta, .int .i64 ea] 23))
      have HB8 : Hid (Below w.heap.size w (w7.alloc (.cells #[.int .i64 ca, .bool true, .string ta, .int .i64 ea] 23))) := (HB7.out.alloc HB7.out.size _)
      clear Ba7 Bl7 Bh7 HB7 ya0 ya1 ya2 ya3 yl0 yl1 yl2 yl3 yh0 yh1 yh2 yh3
      obtain ⟨ya0, ya1, ya2, ya3⟩ := Ba8.out.four
      obtain ⟨yl0, yl1, yl2, yl3⟩ := Bl8.out.four
      obtain ⟨yh0, yh1, yh2, yh3⟩ := Bh8.out.four
      obtain ⟨yx0, yx1, yx2, yx3⟩ := Bx8.out.four
      go_wp2
      obtain ⟨W3, hW3⟩ : ∃ W3, W3 = (w7.alloc (.cells #[.int .i64 ca, .bool true, .string ta, .int .i64 ea] 23)) := ⟨_, rfl⟩
      rw [← hW3] at HB8 Ba8 Bl8 Bh8 Bx8 ya0 ya1 ya2 ya3 yl0 yl1 yl2 yl3 yh0 yh1 yh2 yh3 yx0 yx1 yx2 yx3
      have HW3 := hide hW3
      clear hW3
      have HL : Hid (w2.heap.size < W3.heap.size ∧ w4.heap.size < W3.heap.size) := ⟨Bl8.out.lt, Bh8.out.lt⟩
      simp only [← HW3.out]
      go_cut [12, 13] (fun vp vq wx => Cut2D W3 #[.int .i64 ca, .bool true, .string ta, .int .i64 ea] #[.int .i64 ca, .bool true, .string ta, .int .i64 ea] vp vq wx)
      case first =>
        have nl3 : ¬ w2.heap.size = W3.heap.size := (by have := HL.out; omega)
        have ml3 : ¬ W3.heap.size = w2.heap.size := (by have := HL.out; omega)
        have nh3 : ¬ w4.heap.size = W3.heap.size := (by have := HL.out; omega)
        have mh3 : ¬ W3.heap.size = w4.heap.size := (by have := HL.out; omega)
        go_region_held3 (fun w' => w'.cell? ⟨w2.heap.size, 0, none⟩ = some (.int .i64 ca) ∧ w'.cell? ⟨w2.heap.size, 1, none⟩ = some (.bool true) ∧ w'.cell? ⟨w2.heap.size, 2, none⟩ = some (.string ta) ∧ w'.cell? ⟨w2.heap.size, 3, none⟩ = some (.int .i64 ea) ∧ w'.cell? ⟨w4.heap.size, 0, none⟩ = some (.int .i64 ca) ∧ w'.cell? ⟨w4.heap.size, 1, none⟩ = some (.bool true) ∧ w'.cell? ⟨w4.heap.size, 2, none⟩ = some (.string ta) ∧ w'.cell? ⟨w4.heap.size, 3, none⟩ = some (.int .i64 ea)) (go_keep) (fail)
        all_goals (go_wp2_with fail; go_meet)
        all_goals (first | exact cut2_a | exact cut2_b)
      obtain ⟨⟨H, K, rfl, rfl, hq, hr, hH, hK, hHK, hbc⟩⟩ := hcut
      obtain ⟨w9, hwk⟩ : ∃ x, x = wc := ⟨_, rfl⟩
      subst hwk
      have Ba9 := hide (Ba8.out.below hbc Ba8.out.lt)
      have Bl9 := hide (Bl8.out.below hbc Bl8.out.lt)
      have Bh9 := hide (Bh8.out.below hbc Bh8.out.lt)
      have Bx9 := hide (Bx8.out.below hbc Bx8.out.lt)
      have Bn9 := hide hq
      have Bf9 := hide hr
      have HB9 := hide (HB8.out.trans (hbc.mono HB8.out.size))
      have HBT := hide (HBS.out.trans ((HW3.out ▸ ((Below.refl _ _).alloc (Nat.le_refl _) _ : Below _ _ _) : Below w7.heap.size w7 W3).trans (hbc.mono (by rw [HW3.out]; simp)) |>.mono HBS.out.size))
      have hhk : ¬ K = H := fun g => hHK g.symm
      have HHK := hide (show w.heap.size ≤ H ∧ w.heap.size ≤ K from ⟨Nat.le_trans HB8.out.size hH, Nat.le_trans HB8.out.size hK⟩)
      have HS := hide (show W2.heap.size ≤ H ∧ W2.heap.size ≤ K from (by have g1 := HBS.out.size; have g2 : w7.heap.size ≤ W3.heap.size := (by rw [HW3.out]; simp); omega))
      have ia1 : ¬ H = w.heap.size := by have := Ba8.out.lt; omega
      have ia2 : ¬ w.heap.size = H := by have := Ba8.out.lt; omega
      have ia3 : ¬ K = w.heap.size := by have := Ba8.out.lt; omega
      have ia4 : ¬ w.heap.size = K := by have := Ba8.out.lt; omega
      have ih1 : ¬ H = w4.heap.size := by have := Bh8.out.lt; omega
      have ih2 : ¬ w4.heap.size = H := by have := Bh8.out.lt; omega
      have ih3 : ¬ K = w4.heap.size := by have := Bh8.out.lt; omega
      have ih4 : ¬ w4.heap.size = K := by have := Bh8.out.lt; omega
      have il1 : ¬ H = w2.heap.size := by have := Bl8.out.lt; omega
      have il2 : ¬ w2.heap.size = H := by have := Bl8.out.lt; omega
      have il3 : ¬ K = w2.heap.size := by have := Bl8.out.lt; omega
      have il4 : ¬ w2.heap.size = K := by have := Bl8.out.lt; omega
      have ix1 : ¬ H = w7.heap.size := by have := Bx8.out.lt; omega
      have ix2 : ¬ w7.heap.size = H := by have := Bx8.out.lt; omega
      have ix3 : ¬ K = w7.heap.size := by have := Bx8.out.lt; omega
      have ix4 : ¬ w7.heap.size = K := by have := Bx8.out.lt; omega
      have fn0 := Bn9.out.free 0
      have fn1 := Bn9.out.free 1
      have fn2 := Bn9.out.free 2
      have fn3 := Bn9.out.free 3
      have ff0 := Bf9.out.free 0
      have ff1 := Bf9.out.free 1
      have ff2 := Bf9.out.free 2
      have ff3 := Bf9.out.free 3
      clear HL HBS hq hr hH hK hbc HW3 Ba8 Bl8 Bh8 Bx8 HB8 ya0 ya1 ya2 ya3 yl0 yl1 yl2 yl3 yh0 yh1 yh2 yh3 yx0 yx1 yx2 yx3
      obtain ⟨ya0, ya1, ya2, ya3⟩ := Ba9.out.four
      obtain ⟨yl0, yl1, yl2, yl3⟩ := Bl9.out.four
      obtain ⟨yh0, yh1, yh2, yh3⟩ := Bh9.out.four
      obtain ⟨yx0, yx1, yx2, yx3⟩ := Bx9.out.four
      obtain ⟨yn0, yn1, yn2, yn3⟩ := Bn9.out.four
      obtain ⟨yf0, yf1, yf2, yf3⟩ := Bf9.out.four
      go_wp2
      go_region_held3 (fun w' => w'.cell? ⟨w2.heap.size, 0, none⟩ = some (.int .i64 ca) ∧ w'.cell? ⟨w2.heap.size, 1, none⟩ = some (.bool true) ∧ w'.cell? ⟨w2.heap.size, 2, none⟩ = some (.string ta) ∧ w'.cell? ⟨w2.heap.size, 3, none⟩ = some (.int .i64 ea) ∧ w'.cell? ⟨w4.heap.size, 0, none⟩ = some (.int .i64 ca) ∧ w'.cell? ⟨w4.heap.size, 1, none⟩ = some (.bool true) ∧ w'.cell? ⟨w4.heap.size, 2, none⟩ = some (.string ta) ∧ w'.cell? ⟨w4.heap.size, 3, none⟩ = some (.int .i64 ea)) (go_keep) (fail)
      go_wp2
      go_roundw
      case rel => exact ⟨1 + 1, by first | omega | (have := HK.out; omega), by go_num, (((((((((HBT.out.setCell HS.out.1 _).setCell HS.out.1 _).setCell HS.out.1 _).setCell HS.out.1 _).setCell HS.out.2 _).setCell HS.out.2 _).setCell HS.out.2 _).setCell HS.out.2 _)).drew⟩
      case measure => first | (simp [intOf]; done) | (simp [intOf]; omega) | (have := HK.out; simp [intOf]; omega)
    by_cases j2 : k = 2
    · skip
      obtain rfl : k = 2 := by omega
      clear hk hk8
      go_wp2_with fail
      refine (H2.out _ (HT.out.below HB6.out)).mono ?_
      rintro e w7 ⟨rfl, hb⟩
      have HBS := hide (HBR.out.trans (hb.mono HBR.out.size))
      clear HBR
      have Ba7 := Blk.on Ba6 hb
      have Bl7 := Blk.on Bl6 hb
      have Bh7 := Blk.on Bh6 hb
      have HB7 := hide (HB6.out.trans (hb.mono HB6.out.size))
      clear hb Ba6 Bl6 Bh6 HB6 ya0 ya1 ya2 ya3 yl0 yl1 yl2 yl3 yh0 yh1 yh2 yh3
      obtain ⟨ya0, ya1, ya2, ya3⟩ := Ba7.out.four
      obtain ⟨yl0, yl1, yl2, yl3⟩ := Bl7.out.four
      obtain ⟨yh0, yh1, yh2, yh3⟩ := Bh7.out.four
      have Ba8 := Blk.up Ba7 (.cells #[.int .i64 ca, .bool true, .string ta, .int .i64 ea] 23)
      have Bl8 := Blk.up Bl7 (.cells #[.int .i64 ca, .bool true, .string ta, .int .i64 ea] 23)
      have Bh8 := Blk.up Bh7 (.cells #[.int .i64 ca, .bool true, .string ta, .int .i64 ea] 23)
      have Bx8 := hide ((Blk.newAt w7 (w7.heap.size) (rfl) #[.int .i64 ca, .bool true, .string ta, .int .i64 ea] 23))
      have HB8 : Hid (Below w.heap.size w (w7.alloc (.cells #[.int .i64 ca, .bool true, .string ta, .int .i64 ea] 23))) := (HB7.out.alloc HB7.out.size _)
      clear Ba7 Bl7 Bh7 HB7 ya0 ya1 ya2 ya3 yl0 yl1 yl2 yl3 yh0 yh1 yh2 yh3
      obtain ⟨ya0, ya1, ya2, ya3⟩ := Ba8.out.four
      obtain ⟨yl0, yl1, yl2, yl3⟩ := Bl8.out.four
      obtain ⟨yh0, yh1, yh2, yh3⟩ := Bh8.out.four
      obtain ⟨yx0, yx1, yx2, yx3⟩ := Bx8.out.four
      go_wp2
      obtain ⟨W3, hW3⟩ : ∃ W3, W3 = (w7.alloc (.cells #[.int .i64 ca, .bool true, .string ta, .int .i64 ea] 23)) := ⟨_, rfl⟩
      rw [← hW3] at HB8 Ba8 Bl8 Bh8 Bx8 ya0 ya1 ya2 ya3 yl0 yl1 yl2 yl3 yh0 yh1 yh2 yh3 yx0 yx1 yx2 yx3
      have HW3 := hide hW3
      clear hW3
      have HL : Hid (w2.heap.size < W3.heap.size ∧ w4.heap.size < W3.heap.size) := ⟨Bl8.out.lt, Bh8.out.lt⟩
      simp only [← HW3.out]
      go_cut [12, 13] (fun vp vq wx => Cut2D W3 #[.int .i64 ca, .bool true, .string ta, .int .i64 ea] #[.int .i64 ca, .bool true, .string ta, .int .i64 ea] vp vq wx)
      case first =>
        have nl3 : ¬ w2.heap.size = W3.heap.size := (by have := HL.out; omega)
        have ml3 : ¬ W3.heap.size = w2.heap.size := (by have := HL.out; omega)
        have nh3 : ¬ w4.heap.size = W3.heap.size := (by have := HL.out; omega)
        have mh3 : ¬ W3.heap.size = w4.heap.size := (by have := HL.out; omega)
        go_region_held3 (fun w' => w'.cell? ⟨w2.heap.size, 0, none⟩ = some (.int .i64 ca) ∧ w'.cell? ⟨w2.heap.size, 1, none⟩ = some (.bool true) ∧ w'.cell? ⟨w2.heap.size, 2, none⟩ = some (.string ta) ∧ w'.cell? ⟨w2.heap.size, 3, none⟩ = some (.int .i64 ea) ∧ w'.cell? ⟨w4.heap.size, 0, none⟩ = some (.int .i64 ca) ∧ w'.cell? ⟨w4.heap.size, 1, none⟩ = some (.bool true) ∧ w'.cell? ⟨w4.heap.size, 2, none⟩ = some (.string ta) ∧ w'.cell? ⟨w4.heap.size, 3, none⟩ = some (.int .i64 ea)) (go_keep) (fail)
        all_goals (go_wp2_with fail; go_meet)
        all_goals (first | exact cut2_a | exact cut2_b)
      obtain ⟨⟨H, K, rfl, rfl, hq, hr, hH, hK, hHK, hbc⟩⟩ := hcut
      obtain ⟨w9, hwk⟩ : ∃ x, x = wc := ⟨_, rfl⟩
      subst hwk
      have Ba9 := hide (Ba8.out.below hbc Ba8.out.lt)
      have Bl9 := hide (Bl8.out.below hbc Bl8.out.lt)
      have Bh9 := hide (Bh8.out.below hbc Bh8.out.lt)
      have Bx9 := hide (Bx8.out.below hbc Bx8.out.lt)
      have Bn9 := hide hq
      have Bf9 := hide hr
      have HB9 := hide (HB8.out.trans (hbc.mono HB8.out.size))
      have HBT := hide (HBS.out.trans ((HW3.out ▸ ((Below.refl _ _).alloc (Nat.le_refl _) _ : Below _ _ _) : Below w7.heap.size w7 W3).trans (hbc.mono (by rw [HW3.out]; simp)) |>.mono HBS.out.size))
      have hhk : ¬ K = H := fun g => hHK g.symm
      have HHK := hide (show w.heap.size ≤ H ∧ w.heap.size ≤ K from ⟨Nat.le_trans HB8.out.size hH, Nat.le_trans HB8.out.size hK⟩)
      have HS := hide (show W2.heap.size ≤ H ∧ W2.heap.size ≤ K from (by have g1 := HBS.out.size; have g2 : w7.heap.size ≤ W3.heap.size := (by rw [HW3.out]; simp); omega))
      have ia1 : ¬ H = w.heap.size := by have := Ba8.out.lt; omega
      have ia2 : ¬ w.heap.size = H := by have := Ba8.out.lt; omega
      have ia3 : ¬ K = w.heap.size := by have := Ba8.out.lt; omega
      have ia4 : ¬ w.heap.size = K := by have := Ba8.out.lt; omega
      have ih1 : ¬ H = w4.heap.size := by have := Bh8.out.lt; omega
      have ih2 : ¬ w4.heap.size = H := by have := Bh8.out.lt; omega
      have ih3 : ¬ K = w4.heap.size := by have := Bh8.out.lt; omega
      have ih4 : ¬ w4.heap.size = K := by have := Bh8.out.lt; omega
      have il1 : ¬ H = w2.heap.size := by have := Bl8.out.lt; omega
      have il2 : ¬ w2.heap.size = H := by have := Bl8.out.lt; omega
      have il3 : ¬ K = w2.heap.size := by have := Bl8.out.lt; omega
      have il4 : ¬ w2.heap.size = K := by have := Bl8.out.lt; omega
      have ix1 : ¬ H = w7.heap.size := by have := Bx8.out.lt; omega
      have ix2 : ¬ w7.heap.size = H := by have := Bx8.out.lt; omega
      have ix3 : ¬ K = w7.heap.size := by have := Bx8.out.lt; omega
      have ix4 : ¬ w7.heap.size = K := by have := Bx8.out.lt; omega
      have fn0 := Bn9.out.free 0
      have fn1 := Bn9.out.free 1
      have fn2 := Bn9.out.free 2
      have fn3 := Bn9.out.free 3
      have ff0 := Bf9.out.free 0
      have ff1 := Bf9.out.free 1
      have ff2 := Bf9.out.free 2
      have ff3 := Bf9.out.free 3
      clear HL HBS hq hr hH hK hbc HW3 Ba8 Bl8 Bh8 Bx8 HB8 ya0 ya1 ya2 ya3 yl0 yl1 yl2 yl3 yh0 yh1 yh2 yh3 yx0 yx1 yx2 yx3
      obtain ⟨ya0, ya1, ya2, ya3⟩ := Ba9.out.four
      obtain ⟨yl0, yl1, yl2, yl3⟩ := Bl9.out.four
      obtain ⟨yh0, yh1, yh2, yh3⟩ := Bh9.out.four
      obtain ⟨yx0, yx1, yx2, yx3⟩ := Bx9.out.four
      obtain ⟨yn0, yn1, yn2, yn3⟩ := Bn9.out.four
      obtain ⟨yf0, yf1, yf2, yf3⟩ := Bf9.out.four
      go_wp2
      go_region_held3 (fun w' => w'.cell? ⟨w2.heap.size, 0, none⟩ = some (.int .i64 ca) ∧ w'.cell? ⟨w2.heap.size, 1, none⟩ = some (.bool true) ∧ w'.cell? ⟨w2.heap.size, 2, none⟩ = some (.string ta) ∧ w'.cell? ⟨w2.heap.size, 3, none⟩ = some (.int .i64 ea) ∧ w'.cell? ⟨w4.heap.size, 0, none⟩ = some (.int .i64 ca) ∧ w'.cell? ⟨w4.heap.size, 1, none⟩ = some (.bool true) ∧ w'.cell? ⟨w4.heap.size, 2, none⟩ = some (.string ta) ∧ w'.cell? ⟨w4.heap.size, 3, none⟩ = some (.int .i64 ea)) (go_keep) (fail)
      go_wp2
      go_roundw
      case rel => exact ⟨2 + 1, by first | omega | (have := HK.out; omega), by go_num, (((((((((HBT.out.setCell HS.out.1 _).setCell HS.out.1 _).setCell HS.out.1 _).setCell HS.out.1 _).setCell HS.out.2 _).setCell HS.out.2 _).setCell HS.out.2 _).setCell HS.out.2 _)).drew⟩
      case measure => first | (simp [intOf]; done) | (simp [intOf]; omega) | (have := HK.out; simp [intOf]; omega)
    by_cases j3 : k = 3
    · skip
      obtain rfl : k = 3 := by omega
      clear hk hk8
      go_wp2_with fail
      refine (H3.out _ (HT.out.below HB6.out)).mono ?_
      rintro e w7 ⟨rfl, hb⟩
      have HBS := hide (HBR.out.trans (hb.mono HBR.out.size))
      clear HBR
      have Ba7 := Blk.on Ba6 hb
      have Bl7 := Blk.on Bl6 hb
      have Bh7 := Blk.on Bh6 hb
      have HB7 := hide (HB6.out.trans (hb.mono HB6.out.size))
      clear hb Ba6 Bl6 Bh6 HB6 ya0 ya1 ya2 ya3 yl0 yl1 yl2 yl3 yh0 yh1 yh2 yh3
      obtain ⟨ya0, ya1, ya2, ya3⟩ := Ba7.out.four
      obtain ⟨yl0, yl1, yl2, yl3⟩ := Bl7.out.four
      obtain ⟨yh0, yh1, yh2, yh3⟩ := Bh7.out.four
      have Ba8 := Blk.up Ba7 (.cells #[.int .i64 ca, .bool true, .string ta, .int .i64 ea] 23)
      have Bl8 := Blk.up Bl7 (.cells #[.int .i64 ca, .bool true, .string ta, .int .i64 ea] 23)
      have Bh8 := Blk.up Bh7 (.cells #[.int .i64 ca, .bool true, .string ta, .int .i64 ea] 23)
      have Bx8 := hide ((Blk.newAt w7 (w7.heap.size) (rfl) #[.int .i64 ca, .bool true, .string ta, .int .i64 ea] 23))
      have HB8 : Hid (Below w.heap.size w (w7.alloc (.cells #[.int .i64 ca, .bool true, .string ta, .int .i64 ea] 23))) := (HB7.out.alloc HB7.out.size _)
      clear Ba7 Bl7 Bh7 HB7 ya0 ya1 ya2 ya3 yl0 yl1 yl2 yl3 yh0 yh1 yh2 yh3
      obtain ⟨ya0, ya1, ya2, ya3⟩ := Ba8.out.four
      obtain ⟨yl0, yl1, yl2, yl3⟩ := Bl8.out.four
      obtain ⟨yh0, yh1, yh2, yh3⟩ := Bh8.out.four
      obtain ⟨yx0, yx1, yx2, yx3⟩ := Bx8.out.four
      go_wp2
      obtain ⟨W3, hW3⟩ : ∃ W3, W3 = (w7.alloc (.cells #[.int .i64 ca, .bool true, .string ta, .int .i64 ea] 23)) := ⟨_, rfl⟩
      rw [← hW3] at HB8 Ba8 Bl8 Bh8 Bx8 ya0 ya1 ya2 ya3 yl0 yl1 yl2 yl3 yh0 yh1 yh2 yh3 yx0 yx1 yx2 yx3
      have HW3 := hide hW3
      clear hW3
      have HL : Hid (w2.heap.size < W3.heap.size ∧ w4.heap.size < W3.heap.size) := ⟨Bl8.out.lt, Bh8.out.lt⟩
      simp only [← HW3.out]
      go_cut [12, 13] (fun vp vq wx => Cut2D W3 #[.int .i64 ca, .bool true, .string ta, .int .i64 ea] #[.int .i64 ca, .bool true, .string ta, .int .i64 ea] vp vq wx)
      case first =>
        have nl3 : ¬ w2.heap.size = W3.heap.size := (by have := HL.out; omega)
        have ml3 : ¬ W3.heap.size = w2.heap.size := (by have := HL.out; omega)
        have nh3 : ¬ w4.heap.size = W3.heap.size := (by have := HL.out; omega)
        have mh3 : ¬ W3.heap.size = w4.heap.size := (by have := HL.out; omega)
        go_region_held3 (fun w' => w'.cell? ⟨w2.heap.size, 0, none⟩ = some (.int .i64 ca) ∧ w'.cell? ⟨w2.heap.size, 1, none⟩ = some (.bool true) ∧ w'.cell? ⟨w2.heap.size, 2, none⟩ = some (.string ta) ∧ w'.cell? ⟨w2.heap.size, 3, none⟩ = some (.int .i64 ea) ∧ w'.cell? ⟨w4.heap.size, 0, none⟩ = some (.int .i64 ca) ∧ w'.cell? ⟨w4.heap.size, 1, none⟩ = some (.bool true) ∧ w'.cell? ⟨w4.heap.size, 2, none⟩ = some (.string ta) ∧ w'.cell? ⟨w4.heap.size, 3, none⟩ = some (.int .i64 ea)) (go_keep) (fail)
        all_goals (go_wp2_with fail; go_meet)
        all_goals (first | exact cut2_a | exact cut2_b)
      obtain ⟨⟨H, K, rfl, rfl, hq, hr, hH, hK, hHK, hbc⟩⟩ := hcut
      obtain ⟨w9, hwk⟩ : ∃ x, x = wc := ⟨_, rfl⟩
      subst hwk
      have Ba9 := hide (Ba8.out.below hbc Ba8.out.lt)
      have Bl9 := hide (Bl8.out.below hbc Bl8.out.lt)
      have Bh9 := hide (Bh8.out.below hbc Bh8.out.lt)
      have Bx9 := hide (Bx8.out.below hbc Bx8.out.lt)
      have Bn9 := hide hq
      have Bf9 := hide hr
      have HB9 := hide (HB8.out.trans (hbc.mono HB8.out.size))
      have HBT := hide (HBS.out.trans ((HW3.out ▸ ((Below.refl _ _).alloc (Nat.le_refl _) _ : Below _ _ _) : Below w7.heap.size w7 W3).trans (hbc.mono (by rw [HW3.out]; simp)) |>.mono HBS.out.size))
      have hhk : ¬ K = H := fun g => hHK g.symm
      have HHK := hide (show w.heap.size ≤ H ∧ w.heap.size ≤ K from ⟨Nat.le_trans HB8.out.size hH, Nat.le_trans HB8.out.size hK⟩)
      have HS := hide (show W2.heap.size ≤ H ∧ W2.heap.size ≤ K from (by have g1 := HBS.out.size; have g2 : w7.heap.size ≤ W3.heap.size := (by rw [HW3.out]; simp); omega))
      have ia1 : ¬ H = w.heap.size := by have := Ba8.out.lt; omega
      have ia2 : ¬ w.heap.size = H := by have := Ba8.out.lt; omega
      have ia3 : ¬ K = w.heap.size := by have := Ba8.out.lt; omega
      have ia4 : ¬ w.heap.size = K := by have := Ba8.out.lt; omega
      have ih1 : ¬ H = w4.heap.size := by have := Bh8.out.lt; omega
      have ih2 : ¬ w4.heap.size = H := by have := Bh8.out.lt; omega
      have ih3 : ¬ K = w4.heap.size := by have := Bh8.out.lt; omega
      have ih4 : ¬ w4.heap.size = K := by have := Bh8.out.lt; omega
      have il1 : ¬ H = w2.heap.size := by have := Bl8.out.lt; omega
      have il2 : ¬ w2.heap.size = H := by have := Bl8.out.lt; omega
      have il3 : ¬ K = w2.heap.size := by have := Bl8.out.lt; omega
      have il4 : ¬ w2.heap.size = K := by have := Bl8.out.lt; omega
      have ix1 : ¬ H = w7.heap.size := by have := Bx8.out.lt; omega
      have ix2 : ¬ w7.heap.size = H := by have := Bx8.out.lt; omega
      have ix3 : ¬ K = w7.heap.size := by have := Bx8.out.lt; omega
      have ix4 : ¬ w7.heap.size = K := by have := Bx8.out.lt; omega
      have fn0 := Bn9.out.free 0
      have fn1 := Bn9.out.free 1
      have fn2 := Bn9.out.free 2
      have fn3 := Bn9.out.free 3
      have ff0 := Bf9.out.free 0
      have ff1 := Bf9.out.free 1
      have ff2 := Bf9.out.free 2
      have ff3 := Bf9.out.free 3
      clear HL HBS hq hr hH hK hbc HW3 Ba8 Bl8 Bh8 Bx8 HB8 ya0 ya1 ya2 ya3 yl0 yl1 yl2 yl3 yh0 yh1 yh2 yh3 yx0 yx1 yx2 yx3
      obtain ⟨ya0, ya1, ya2, ya3⟩ := Ba9.out.four
      obtain ⟨yl0, yl1, yl2, yl3⟩ := Bl9.out.four
      obtain ⟨yh0, yh1, yh2, yh3⟩ := Bh9.out.four
      obtain ⟨yx0, yx1, yx2, yx3⟩ := Bx9.out.four
      obtain ⟨yn0, yn1, yn2, yn3⟩ := Bn9.out.four
      obtain ⟨yf0, yf1, yf2, yf3⟩ := Bf9.out.four
      go_wp2
      go_region_held3 (fun w' => w'.cell? ⟨w2.heap.size, 0, none⟩ = some (.int .i64 ca) ∧ w'.cell? ⟨w2.heap.size, 1, none⟩ = some (.bool true) ∧ w'.cell? ⟨w2.heap.size, 2, none⟩ = some (.string ta) ∧ w'.cell? ⟨w2.heap.size, 3, none⟩ = some (.int .i64 ea) ∧ w'.cell? ⟨w4.heap.size, 0, none⟩ = some (.int .i64 ca) ∧ w'.cell? ⟨w4.heap.size, 1, none⟩ = some (.bool true) ∧ w'.cell? ⟨w4.heap.size, 2, none⟩ = some (.string ta) ∧ w'.cell? ⟨w4.heap.size, 3, none⟩ = some (.int .i64 ea)) (go_keep) (fail)
      go_wp2
      go_roundw
      case rel => exact ⟨3 + 1, by first | omega | (have := HK.out; omega), by go_num, (((((((((HBT.out.setCell HS.out.1 _).setCell HS.out.1 _).setCell HS.out.1 _).setCell HS.out.1 _).setCell HS.out.2 _).setCell HS.out.2 _).setCell HS.out.2 _).setCell HS.out.2 _)).drew⟩
      case measure => first | (simp [intOf]; done) | (simp [intOf]; omega) | (have := HK.out; simp [intOf]; omega)
    have hk4 : 4 ≤ k := by omega
    clear j0 j1 j2 j3
    have HM := hide (H4.out k hk4 (by omega))
    clear H0 H1 H2 H3 H4 H5
    have k2 : ((k : Int) == 2) = false := beq_false_of_ne (by omega)
    have k3 : ((k : Int) == 3) = false := beq_false_of_ne (by omega)
    have k8 : (k : Int) < 8 := by omega
    have HK := hide (show k < 8 by omega)
    clear hk hk8 hk4
    go_wp2_with fail
    refine (HM.out _ (HT.out.below HB6.out)).mono ?_
    rintro e w7 ⟨rfl, hb⟩
    have HBS := hide (HBR.out.trans (hb.mono HBR.out.size))
    clear HBR
    have Ba7 := Blk.on Ba6 hb
    have Bl7 := Blk.on Bl6 hb
    have Bh7 := Blk.on Bh6 hb
    have HB7 := hide (HB6.out.trans (hb.mono HB6.out.size))
    clear hb Ba6 Bl6 Bh6 HB6 ya0 ya1 ya2 ya3 yl0 yl1 yl2 yl3 yh0 yh1 yh2 yh3
    obtain ⟨ya0, ya1, ya2, ya3⟩ := Ba7.out.four
    obtain ⟨yl0, yl1, yl2, yl3⟩ := Bl7.out.four
    obtain ⟨yh0, yh1, yh2, yh3⟩ := Bh7.out.four
    have Ba8 := Blk.up Ba7 (.cells #[.int .i64 ca, .bool true, .string ta, .int .i64 ea] 23)
    have Bl8 := Blk.up Bl7 (.cells #[.int .i64 ca, .bool true, .string ta, .int .i64 ea] 23)
    have Bh8 := Blk.up Bh7 (.cells #[.int .i64 ca, .bool true, .string ta, .int .i64 ea] 23)
    have Bx8 := hide ((Blk.newAt w7 (w7.heap.size) (rfl) #[.int .i64 ca, .bool true, .string ta, .int .i64 ea] 23))
    have HB8 : Hid (Below w.heap.size w (w7.alloc (.cells #[.int .i64 ca, .bool true, .string ta, .int .i64 ea] 23))) := (HB7.out.alloc HB7.out.size _)
    clear Ba7 Bl7 Bh7 HB7 ya0 ya1 ya2 ya3 yl0 yl1 yl2 yl3 yh0 yh1 yh2 yh3
    obtain ⟨ya0, ya1, ya2, ya3⟩ := Ba8.out.four
    obtain ⟨yl0, yl1, yl2, yl3⟩ := Bl8.out.four
    obtain ⟨yh0, yh1, yh2, yh3⟩ := Bh8.out.four
    obtain ⟨yx0, yx1, yx2, yx3⟩ := Bx8.out.four
    go_wp2
    obtain ⟨W3, hW3⟩ : ∃ W3, W3 = (w7.alloc (.cells #[.int .i64 ca, .bool true, .string ta, .int .i64 ea] 23)) := ⟨_, rfl⟩
    rw [← hW3] at HB8 Ba8 Bl8 Bh8 Bx8 ya0 ya1 ya2 ya3 yl0 yl1 yl2 yl3 yh0 yh1 yh2 yh3 yx0 yx1 yx2 yx3
    have HW3 := hide hW3
    clear hW3
    have HL : Hid (w2.heap.size < W3.heap.size ∧ w4.heap.size < W3.heap.size) := ⟨Bl8.out.lt, Bh8.out.lt⟩
    simp only [← HW3.out]
    go_cut [12, 13] (fun vp vq wx => Cut2D W3 #[.int .i64 ca, .bool true, .string ta, .int .i64 ea] #[.int .i64 ca, .bool true, .string ta, .int .i64 ea] vp vq wx)
    case first =>
      have nl3 : ¬ w2.heap.size = W3.heap.size := (by have := HL.out; omega)
      have ml3 : ¬ W3.heap.size = w2.heap.size := (by have := HL.out; omega)
      have nh3 : ¬ w4.heap.size = W3.heap.size := (by have := HL.out; omega)
      have mh3 : ¬ W3.heap.size = w4.heap.size := (by have := HL.out; omega)
      go_region_held3 (fun w' => w'.cell? ⟨w2.heap.size, 0, none⟩ = some (.int .i64 ca) ∧ w'.cell? ⟨w2.heap.size, 1, none⟩ = some (.bool true) ∧ w'.cell? ⟨w2.heap.size, 2, none⟩ = some (.string ta) ∧ w'.cell? ⟨w2.heap.size, 3, none⟩ = some (.int .i64 ea) ∧ w'.cell? ⟨w4.heap.size, 0, none⟩ = some (.int .i64 ca) ∧ w'.cell? ⟨w4.heap.size, 1, none⟩ = some (.bool true) ∧ w'.cell? ⟨w4.heap.size, 2, none⟩ = some (.string ta) ∧ w'.cell? ⟨w4.heap.size, 3, none⟩ = some (.int .i64 ea)) (go_keep) (fail)
      all_goals (go_wp2_with fail; go_meet)
      all_goals (first | exact cut2_a | exact cut2_b)
    obtain ⟨⟨H, K, rfl, rfl, hq, hr, hH, hK, hHK, hbc⟩⟩ := hcut
    obtain ⟨w9, hwk⟩ : ∃ x, x = wc := ⟨_, rfl⟩
    subst hwk
    have Ba9 := hide (Ba8.out.below hbc Ba8.out.lt)
    have Bl9 := hide (Bl8.out.below hbc Bl8.out.lt)
    have Bh9 := hide (Bh8.out.below hbc Bh8.out.lt)
    have Bx9 := hide (Bx8.out.below hbc Bx8.out.lt)
    have Bn9 := hide hq
    have Bf9 := hide hr
    have HB9 := hide (HB8.out.trans (hbc.mono HB8.out.size))
    have HBT := hide (HBS.out.trans ((HW3.out ▸ ((Below.refl _ _).alloc (Nat.le_refl _) _ : Below _ _ _) : Below w7.heap.size w7 W3).trans (hbc.mono (by rw [HW3.out]; simp)) |>.mono HBS.out.size))
    have hhk : ¬ K = H := fun g => hHK g.symm
    have HHK := hide (show w.heap.size ≤ H ∧ w.heap.size ≤ K from ⟨Nat.le_trans HB8.out.size hH, Nat.le_trans HB8.out.size hK⟩)
    have HS := hide (show W2.heap.size ≤ H ∧ W2.heap.size ≤ K from (by have g1 := HBS.out.size; have g2 : w7.heap.size ≤ W3.heap.size := (by rw [HW3.out]; simp); omega))
    have ia1 : ¬ H = w.heap.size := by have := Ba8.out.lt; omega
    have ia2 : ¬ w.heap.size = H := by have := Ba8.out.lt; omega
    have ia3 : ¬ K = w.heap.size := by have := Ba8.out.lt; omega
    have ia4 : ¬ w.heap.size = K := by have := Ba8.out.lt; omega
    have ih1 : ¬ H = w4.heap.size := by have := Bh8.out.lt; omega
    have ih2 : ¬ w4.heap.size = H := by have := Bh8.out.lt; omega
    have ih3 : ¬ K = w4.heap.size := by have := Bh8.out.lt; omega
    have ih4 : ¬ w4.heap.size = K := by have := Bh8.out.lt; omega
    have il1 : ¬ H = w2.heap.size := by have := Bl8.out.lt; omega
    have il2 : ¬ w2.heap.size = H := by have := Bl8.out.lt; omega
    have il3 : ¬ K = w2.heap.size := by have := Bl8.out.lt; omega
    have il4 : ¬ w2.heap.size = K := by have := Bl8.out.lt; omega
    have ix1 : ¬ H = w7.heap.size := by have := Bx8.out.lt; omega
    have ix2 : ¬ w7.heap.size = H := by have := Bx8.out.lt; omega
    have ix3 : ¬ K = w7.heap.size := by have := Bx8.out.lt; omega
    have ix4 : ¬ w7.heap.size = K := by have := Bx8.out.lt; omega
    have fn0 := Bn9.out.free 0
    have fn1 := Bn9.out.free 1
    have fn2 := Bn9.out.free 2
    have fn3 := Bn9.out.free 3
    have ff0 := Bf9.out.free 0
    have ff1 := Bf9.out.free 1
    have ff2 := Bf9.out.free 2
    have ff3 := Bf9.out.free 3
    clear HL HBS hq hr hH hK hbc HW3 Ba8 Bl8 Bh8 Bx8 HB8 ya0 ya1 ya2 ya3 yl0 yl1 yl2 yl3 yh0 yh1 yh2 yh3 yx0 yx1 yx2 yx3
    obtain ⟨ya0, ya1, ya2, ya3⟩ := Ba9.out.four
    obtain ⟨yl0, yl1, yl2, yl3⟩ := Bl9.out.four
    obtain ⟨yh0, yh1, yh2, yh3⟩ := Bh9.out.four
    obtain ⟨yx0, yx1, yx2, yx3⟩ := Bx9.out.four
    obtain ⟨yn0, yn1, yn2, yn3⟩ := Bn9.out.four
    obtain ⟨yf0, yf1, yf2, yf3⟩ := Bf9.out.four
    go_wp2
    go_region_held3 (fun w' => w'.cell? ⟨w2.heap.size, 0, none⟩ = some (.int .i64 ca) ∧ w'.cell? ⟨w2.heap.size, 1, none⟩ = some (.bool true) ∧ w'.cell? ⟨w2.heap.size, 2, none⟩ = some (.string ta) ∧ w'.cell? ⟨w2.heap.size, 3, none⟩ = some (.int .i64 ea) ∧ w'.cell? ⟨w4.heap.size, 0, none⟩ = some (.int .i64 ca) ∧ w'.cell? ⟨w4.heap.size, 1, none⟩ = some (.bool true) ∧ w'.cell? ⟨w4.heap.size, 2, none⟩ = some (.string ta) ∧ w'.cell? ⟨w4.heap.size, 3, none⟩ = some (.int .i64 ea)) (go_keep) (fail)
    go_wp2
    go_roundw
    case rel => exact ⟨k + 1, by first | omega | (have := HK.out; omega), by go_num, (((((((((HBT.out.setCell HS.out.1 _).setCell HS.out.1 _).setCell HS.out.1 _).setCell HS.out.1 _).setCell HS.out.2 _).setCell HS.out.2 _).setCell HS.out.2 _).setCell HS.out.2 _)).drew⟩
    case measure => first | (simp [intOf]; done) | (simp [intOf]; omega) | (have := HK.out; simp [intOf]; omega)


set_option maxRecDepth 100000 in
set_option maxHeartbeats 8000000 in
theorem order_tdd (tl : ByteArray) (el : Int) (th : ByteArray) (eh : Int) (ta : ByteArray) (ea : Int) (p : Int) (w : World) (htab : Tab w) (q1 : (tl.toList == th.toList) = false) (q2 : (th.toList == tl.toList) = false) (q3 : (tl.toList == ta.toList) = false) (g0 : ∀ W, Tab W → Calls Tryz.prog 11 #[.agg #[.int .i64 0, .bool true, .string ta, .int .i64 ea], .int .i64 p, .int .i64 0] W fun e w' => e = .returned (.tuple #[.agg #[.int .i64 0, .bool true, .string th, .int .i64 eh], .int .i64 0]) ∧ Below W.heap.size W w') (g1 : ∀ W, Tab W → Calls Tryz.prog 11 #[.agg #[.int .i64 0, .bool true, .string ta, .int .i64 ea], .int .i64 p, .int .i64 1] W fun e w' => e = .returned (.tuple #[.agg #[.int .i64 0, .bool true, .string tl, .int .i64 el], .int .i64 0]) ∧ Below W.heap.size W w') (g2 : ∀ W, Tab W → Calls Tryz.prog 11 #[.agg #[.int .i64 0, .bool true, .string ta, .int .i64 ea], .int .i64 p, .int .i64 2] W fun e w' => e = .returned (.tuple #[.agg #[.int .i64 0, .bool true, .string th, .int .i64 eh], .int .i64 0]) ∧ Below W.heap.size W w') (g3 : ∀ W, Tab W → Calls Tryz.prog 11 #[.agg #[.int .i64 0, .bool true, .string ta, .int .i64 ea], .int .i64 p, .int .i64 3] W fun e w' => e = .returned (.tuple #[.agg #[.int .i64 0, .bool true, .string tl, .int .i64 el], .int .i64 0]) ∧ Below W.heap.size W w') (g4 : ∀ k : Nat, 4 ≤ k → k < 8 → (∀ W, Tab W → Calls Tryz.prog 11 #[.agg #[.int .i64 0, .bool true, .string ta, .int .i64 ea], .int .i64 p, .int .i64 (k : Int)] W fun e w' => e = .returned (.tuple #[.agg #[.int .i64 0, .bool true, .string tl, .int .i64 el], .int .i64 0]) ∧ Below W.heap.size W w') ∨ (∀ W, Tab W → Calls Tryz.prog 11 #[.agg #[.int .i64 0, .bool true, .string ta, .int .i64 ea], .int .i64 p, .int .i64 (k : Int)] W fun e w' => e = .returned (.tuple #[.agg #[.int .i64 0, .bool true, .string th, .int .i64 eh], .int .i64 0]) ∧ Below W.heap.size W w')) (g5 : ∀ W, Calls Tryz.prog 20 #[.agg #[.int .i64 0, .bool true, .string th, .int .i64 eh], .agg #[.int .i64 0, .bool true, .string tl, .int .i64 el]] W fun e w' => e = .returned (.bool false) ∧ Below W.heap.size W w') : Calls Tryz.prog 10 #[.agg #[.int .i64 0, .bool true, .string ta, .int .i64 ea], .int .i64 p] w fun e w' => e = .returned (.bool true) ∧ Below w.heap.size w w' := by
  have H0 := hide g0
  have H1 := hide g1
  have H2 := hide g2
  have H3 := hide g3
  have H4 := hide g4
  have H5 := hide g5
  have HT := hide htab
  clear htab g0 g1 g2 g3 g4 g5
  have Ba0 := hide (Blk.newAt w (w.heap.size) (rfl) #[.int .i64 0, .bool true, .string ta, .int .i64 ea] 23)
  have HB0 : Hid (Below w.heap.size w (w.alloc (.cells #[.int .i64 0, .bool true, .string ta, .int .i64 ea] 23))) := ((Below.refl _ _).alloc (Nat.le_refl _) _)
  go_enter Tryz.func10, Tryz.ntmps10
  go_wp2_with fail
  refine (rawake_any _ (HT.out.below HB0.out)).mono ?_
  rintro e w1 ⟨rfl, hb⟩
  have Ba1 := Blk.on Ba0 hb
  have HB1 := hide (HB0.out.trans (hb.mono HB0.out.size))
  clear hb Ba0 HB0 
  obtain ⟨ya0, ya1, ya2, ya3⟩ := Ba1.out.four
  go_wp2_with fail
  refine (H1.out _ (HT.out.below HB1.out)).mono ?_
  rintro e w2 ⟨rfl, hb⟩
  have Ba2 := Blk.on Ba1 hb
  have HB2 := hide (HB1.out.trans (hb.mono HB1.out.size))
  clear hb Ba1 HB1 ya0 ya1 ya2 ya3
  obtain ⟨ya0, ya1, ya2, ya3⟩ := Ba2.out.four
  have Ba3 := Blk.up Ba2 (.cells #[.int .i64 0, .bool true, .string tl, .int .i64 el] 23)
  have Bl3 := hide ((Blk.newAt w2 (w2.heap.size) (rfl) #[.int .i64 0, .bool true, .string tl, .int .i64 el] 23))
  have HB3 : Hid (Below w.heap.size w (w2.alloc (.cells #[.int .i64 0, .bool true, .string tl, .int .i64 el] 23))) := (HB2.out.alloc HB2.out.size _)
  clear Ba2 HB2 ya0 ya1 ya2 ya3
  obtain ⟨ya0, ya1, ya2, ya3⟩ := Ba3.out.four
  obtain ⟨yl0, yl1, yl2, yl3⟩ := Bl3.out.four
  go_wp2_with fail
  refine (H0.out _ (HT.out.below HB3.out)).mono ?_
  rintro e w4 ⟨rfl, hb⟩
  have Ba4 := Blk.on Ba3 hb
  have Bl4 := Blk.on Bl3 hb
  have HB4 := hide (HB3.out.trans (hb.mono HB3.out.size))
  clear hb Ba3 Bl3 HB3 ya0 ya1 ya2 ya3 yl0 yl1 yl2 yl3
  obtain ⟨ya0, ya1, ya2, ya3⟩ := Ba4.out.four
  obtain ⟨yl0, yl1, yl2, yl3⟩ := Bl4.out.four
  have Ba5 := Blk.up Ba4 (.cells #[.int .i64 0, .bool true, .string th, .int .i64 eh] 23)
  have Bl5 := Blk.up Bl4 (.cells #[.int .i64 0, .bool true, .string th, .int .i64 eh] 23)
  have Bh5 := hide ((Blk.newAt w4 (w4.heap.size) (rfl) #[.int .i64 0, .bool true, .string th, .int .i64 eh] 23))
  have HB5 : Hid (Below w.heap.size w (w4.alloc (.cells #[.int .i64 0, .bool true, .string th, .int .i64 eh] 23))) := (HB4.out.alloc HB4.out.size _)
  clear Ba4 Bl4 HB4 ya0 ya1 ya2 ya3 yl0 yl1 yl2 yl3
  obtain ⟨ya0, ya1, ya2, ya3⟩ := Ba5.out.four
  obtain ⟨yl0, yl1, yl2, yl3⟩ := Bl5.out.four
  obtain ⟨yh0, yh1, yh2, yh3⟩ := Bh5.out.four
  obtain ⟨W2, hW2⟩ : ∃ W2, W2 = (w4.alloc (.cells #[.int .i64 0, .bool true, .string th, .int .i64 eh] 23)) := ⟨_, rfl⟩
  rw [← hW2] at HB5 Ba5 Bl5 Bh5 ya0 ya1 ya2 ya3 yl0 yl1 yl2 yl3 yh0 yh1 yh2 yh3
  have HW2 := hide hW2
  clear hW2
  go_wp2
  simp only [← HW2.out]
  go_loopw [9] (fun iv wr => ∃ k : Nat, k ≤ 8 ∧ iv = .int .i64 (k : Int) ∧ Hid (Below W2.heap.size W2 wr)) (fun iv _ => 8 - (intOf iv).toNat)
  case atStart => exact ⟨0, by omega, rfl, Below.refl _ _⟩
  case round =>
    obtain ⟨k, hk, rfl, hbr⟩ := hrel
    have Ba6 := hide (Ba5.out.below hbr.out Ba5.out.lt)
    have Bl6 := hide (Bl5.out.below hbr.out Bl5.out.lt)
    have Bh6 := hide (Bh5.out.below hbr.out Bh5.out.lt)
    have HB6 := hide (HB5.out.trans (hbr.out.mono HB5.out.size))
    have HBR : Hid (Below W2.heap.size W2 wr) := hbr
    clear hbr HW2 Ba5 Bl5 Bh5 HB5 ya0 ya1 ya2 ya3 yl0 yl1 yl2 yl3 yh0 yh1 yh2 yh3
    obtain ⟨ya0, ya1, ya2, ya3⟩ := Ba6.out.four
    obtain ⟨yl0, yl1, yl2, yl3⟩ := Bl6.out.four
    obtain ⟨yh0, yh1, yh2, yh3⟩ := Bh6.out.four
    by_cases hk8 : k = 8
    · skip
      subst hk8
      clear hk HBR HT H0 H1 H2 H3 H4
      have b0 : Hid (Below wr.heap.size wr wr.drew) := bdrewD wr
      have C0 : Hid (∀ X, Hid (Below wr.heap.size wr X) → Calls Tryz.prog 20 #[.agg #[.int .i64 0, .bool true, .string th, .int .i64 eh], .agg #[.int .i64 0, .bool true, .string tl, .int .i64 el]] X fun e w' => e = .returned (.bool false) ∧ Hid (Below wr.heap.size wr w') ∧ w'.cell? ⟨w.heap.size, 0, none⟩ = some (.int .i64 0) ∧ w'.cell? ⟨w.heap.size, 1, none⟩ = some (.bool true) ∧ w'.cell? ⟨w.heap.size, 2, none⟩ = some (.string ta) ∧ w'.cell? ⟨w.heap.size, 3, none⟩ = some (.int .i64 ea) ∧ w'.cell? ⟨w2.heap.size, 0, none⟩ = some (.int .i64 0) ∧ w'.cell? ⟨w2.heap.size, 1, none⟩ = some (.bool true) ∧ w'.cell? ⟨w2.heap.size, 2, none⟩ = some (.string tl) ∧ w'.cell? ⟨w2.heap.size, 3, none⟩ = some (.int .i64 el) ∧ w'.cell? ⟨w4.heap.size, 0, none⟩ = some (.int .i64 0) ∧ w'.cell? ⟨w4.heap.size, 1, none⟩ = some (.bool true) ∧ w'.cell? ⟨w4.heap.size, 2, none⟩ = some (.string th) ∧ w'.cell? ⟨w4.heap.size, 3, none⟩ = some (.int .i64 eh)) := by
        intro X bX
        refine (H5.out X).mono ?_
        rintro e w' ⟨rfl, hb⟩
        have bb := bX.out.trans (hb.mono bX.out.size)
        have Baq := Ba6.out.below bb Ba6.out.lt
        have Blq := Bl6.out.below bb Bl6.out.lt
        have Bhq := Bh6.out.below bb Bh6.out.lt
        exact ⟨rfl, bb, Baq.cell 0, Baq.cell 1, Baq.cell 2, Baq.cell 3, Blq.cell 0, Blq.cell 1, Blq.cell 2, Blq.cell 3, Bhq.cell 0, Bhq.cell 1, Bhq.cell 2, Bhq.cell 3⟩
      go_wp2_with fail
      have mk0 : True := trivial
      go_region_held3 (fun w' => w'.cell? ⟨w.heap.size, 0, none⟩ = some (.int .i64 0) ∧ w'.cell? ⟨w.heap.size, 1, none⟩ = some (.bool true) ∧ w'.cell? ⟨w.heap.size, 2, none⟩ = some (.string ta) ∧ w'.cell? ⟨w.heap.size, 3, none⟩ = some (.int .i64 ea) ∧ w'.cell? ⟨w2.heap.size, 0, none⟩ = some (.int .i64 0) ∧ w'.cell? ⟨w2.heap.size, 1, none⟩ = some (.bool true) ∧ w'.cell? ⟨w2.heap.size, 2, none⟩ = some (.string tl) ∧ w'.cell? ⟨w2.heap.size, 3, none⟩ = some (.int .i64 el) ∧ w'.cell? ⟨w4.heap.size, 0, none⟩ = some (.int .i64 0) ∧ w'.cell? ⟨w4.heap.size, 1, none⟩ = some (.bool true) ∧ w'.cell? ⟨w4.heap.size, 2, none⟩ = some (.string th) ∧ w'.cell? ⟨w4.heap.size, 3, none⟩ = some (.int .i64 eh)) (go_keep) (first
        | (clear mk0; go_at_call 20; refine (C0.out _ b0).mono ?_; rintro e w7 ⟨rfl, b1, q0_0, q0_1, q0_2, q0_3, q0_4, q0_5, q0_6, q0_7, q0_8, q0_9, q0_10, q0_11⟩; have mk1 : True := trivial))
      have Ba7 := hide (Ba6.out.below b1.out Ba6.out.lt)
      have Bl7 := hide (Bl6.out.below b1.out Bl6.out.lt)
      have Bh7 := hide (Bh6.out.below b1.out Bh6.out.lt)
      have HB7 := hide (HB6.out.trans (b1.out.mono HB6.out.size))
      clear mk1 b0 b1 C0 q0_0 q0_1 q0_2 q0_3 q0_4 q0_5 q0_6 q0_7 q0_8 q0_9 q0_10 q0_11 Ba6 Bl6 Bh6 HB6 ya0 ya1 ya2 ya3 yl0 yl1 yl2 yl3 yh0 yh1 yh2 yh3
      obtain ⟨ya0, ya1, ya2, ya3⟩ := Ba7.out.four
      obtain ⟨yl0, yl1, yl2, yl3⟩ := Bl7.out.four
      obtain ⟨yh0, yh1, yh2, yh3⟩ := Bh7.out.four
      go_wp2
      go_ret
      exact ⟨rfl, HB7.out⟩
    by_cases j0 : k = 0
    · skip
      obtain rfl : k = 0 := by omega
      clear hk hk8
      go_wp2_with fail
      refine (H0.out _ (HT.out.below HB6.out)).mono ?_
      rintro e w7 ⟨rfl, hb⟩
      have HBS := hide (HBR.out.trans (hb.mono HBR.out.size))
      clear HBR
      have Ba7 := Blk.on Ba6 hb
      have Bl7 := Blk.on Bl6 hb
      have Bh7 := Blk.on Bh6 hb
      have HB7 := hide (HB6.out.trans (hb.mono HB6.out.size))
      clear hb Ba6 Bl6 Bh6 HB6 ya0 ya1 ya2 ya3 yl0 yl1 yl2 yl3 yh0 yh1 yh2 yh3
      obtain ⟨ya0, ya1, ya2, ya3⟩ := Ba7.out.four
      obtain ⟨yl0, yl1, yl2, yl3⟩ := Bl7.out.four
      obtain ⟨yh0, yh1, yh2, yh3⟩ := Bh7.out.four
      have Ba8 := Blk.up Ba7 (.cells #[.int .i64 0, .bool true, .string th, .int .i64 eh] 23)
      have Bl8 := Blk.up Bl7 (.cells #[.int .i64 0, .bool true, .string th, .int .i64 eh] 23)
      have Bh8 := Blk.up Bh7 (.cells #[.int .i64 0, .bool true, .string th, .int .i64 eh] 23)
      have Bx8 := hide ((Blk.newAt w7 (w7.heap.size) (rfl) #[.int .i64 0, .bool true, .string th, .int .i64 eh] 23))
      have HB8 : Hid (Below w.heap.size w (w7.alloc (.cells #[.int .i64 0, .bool true, .string th, .int .i64 eh] 23))) := (HB7.out.alloc HB7.out.size _)
      clear Ba7 Bl7 Bh7 HB7 ya0 ya1 ya2 ya3 yl0 yl1 yl2 yl3 yh0 yh1 yh2 yh3
      obtain ⟨ya0, ya1, ya2, ya3⟩ := Ba8.out.four
      obtain ⟨yl0, yl1, yl2, yl3⟩ := Bl8.out.four
      obtain ⟨yh0, yh1, yh2, yh3⟩ := Bh8.out.four
      obtain ⟨yx0, yx1, yx2, yx3⟩ := Bx8.out.four
      go_wp2
      obtain ⟨W3, hW3⟩ : ∃ W3, W3 = (w7.alloc (.cells #[.int .i64 0, .bool true, .string th, .int .i64 eh] 23)) := ⟨_, rfl⟩
      rw [← hW3] at HB8 Ba8 Bl8 Bh8 Bx8 ya0 ya1 ya2 ya3 yl0 yl1 yl2 yl3 yh0 yh1 yh2 yh3 yx0 yx1 yx2 yx3
      have HW3 := hide hW3
      clear hW3
      have HL : Hid (w2.heap.size < W3.heap.size ∧ w4.heap.size < W3.heap.size) := ⟨Bl8.out.lt, Bh8.out.lt⟩
      simp only [← HW3.out]
      go_cut [12, 13] (fun vp vq wx => Cut2D W3 #[.int .i64 0, .bool true, .string tl, .int .i64 el] #[.int .i64 0, .bool true, .string th, .int .i64 eh] vp vq wx)
      case first =>
        have nl3 : ¬ w2.heap.size = W3.heap.size := (by have := HL.out; omega)
        have ml3 : ¬ W3.heap.size = w2.heap.size := (by have := HL.out; omega)
        have nh3 : ¬ w4.heap.size = W3.heap.size := (by have := HL.out; omega)
        have mh3 : ¬ W3.heap.size = w4.heap.size := (by have := HL.out; omega)
        go_region_held3 (fun w' => w'.cell? ⟨w2.heap.size, 0, none⟩ = some (.int .i64 0) ∧ w'.cell? ⟨w2.heap.size, 1, none⟩ = some (.bool true) ∧ w'.cell? ⟨w2.heap.size, 2, none⟩ = some (.string tl) ∧ w'.cell? ⟨w2.heap.size, 3, none⟩ = some (.int .i64 el) ∧ w'.cell? ⟨w4.heap.size, 0, none⟩ = some (.int .i64 0) ∧ w'.cell? ⟨w4.heap.size, 1, none⟩ = some (.bool true) ∧ w'.cell? ⟨w4.heap.size, 2, none⟩ = some (.string th) ∧ w'.cell? ⟨w4.heap.size, 3, none⟩ = some (.int .i64 eh)) (go_keep) (fail)
        all_goals (go_wp2_with fail; go_meet)
        all_goals (first | exact cut2_a | exact cut2_b)
      obtain ⟨⟨H, K, rfl, rfl, hq, hr, hH, hK, hHK, hbc⟩⟩ := hcut
      obtain ⟨w9, hwk⟩ : ∃ x, x = wc := ⟨_, rfl⟩
      subst hwk
      have Ba9 := hide (Ba8.out.below hbc Ba8.out.lt)
      have Bl9 := hide (Bl8.out.below hbc Bl8.out.lt)
      have Bh9 := hide (Bh8.out.below hbc Bh8.out.lt)
      have Bx9 := hide (Bx8.out.below hbc Bx8.out.lt)
      have Bn9 := hide hq
      have Bf9 := hide hr
      have HB9 := hide (HB8.out.trans (hbc.mono HB8.out.size))
      have HBT := hide (HBS.out.trans ((HW3.out ▸ ((Below.refl _ _).alloc (Nat.le_refl _) _ : Below _ _ _) : Below w7.heap.size w7 W3).trans (hbc.mono (by rw [HW3.out]; simp)) |>.mono HBS.out.size))
      have hhk : ¬ K = H := fun g => hHK g.symm
      have HHK := hide (show w.heap.size ≤ H ∧ w.heap.size ≤ K from ⟨Nat.le_trans HB8.out.size hH, Nat.le_trans HB8.out.size hK⟩)
      have HS := hide (show W2.heap.size ≤ H ∧ W2.heap.size ≤ K from (by have g1 := HBS.out.size; have g2 : w7.heap.size ≤ W3.heap.size := (by rw [HW3.out]; simp); omega))
      have ia1 : ¬ H = w.heap.size := by have := Ba8.out.lt; omega
      have ia2 : ¬ w.heap.size = H := by have := Ba8.out.lt; omega
      have ia3 : ¬ K = w.heap.size := by have := Ba8.out.lt; omega
      have ia4 : ¬ w.heap.size = K := by have := Ba8.out.lt; omega
      have ih1 : ¬ H = w4.heap.size := by have := Bh8.out.lt; omega
      have ih2 : ¬ w4.heap.size = H := by have := Bh8.out.lt; omega
      have ih3 : ¬ K = w4.heap.size := by have := Bh8.out.lt; omega
      have ih4 : ¬ w4.heap.size = K := by have := Bh8.out.lt; omega
      have il1 : ¬ H = w2.heap.size := by have := Bl8.out.lt; omega
      have il2 : ¬ w2.heap.size = H := by have := Bl8.out.lt; omega
      have il3 : ¬ K = w2.heap.size := by have := Bl8.out.lt; omega
      have il4 : ¬ w2.heap.size = K := by have := Bl8.out.lt; omega
      have ix1 : ¬ H = w7.heap.size := by have := Bx8.out.lt; omega
      have ix2 : ¬ w7.heap.size = H := by have := Bx8.out.lt; omega
      have ix3 : ¬ K = w7.heap.size := by have := Bx8.out.lt; omega
      have ix4 : ¬ w7.heap.size = K := by have := Bx8.out.lt; omega
      have fn0 := Bn9.out.free 0
      have fn1 := Bn9.out.free 1
      have fn2 := Bn9.out.free 2
      have fn3 := Bn9.out.free 3
      have ff0 := Bf9.out.free 0
      have ff1 := Bf9.out.free 1
      have ff2 := Bf9.out.free 2
      have ff3 := Bf9.out.free 3
      clear HL HBS hq hr hH hK hbc HW3 Ba8 Bl8 Bh8 Bx8 HB8 ya0 ya1 ya2 ya3 yl0 yl1 yl2 yl3 yh0 yh1 yh2 yh3 yx0 yx1 yx2 yx3
      obtain ⟨ya0, ya1, ya2, ya3⟩ := Ba9.out.four
      obtain ⟨yl0, yl1, yl2, yl3⟩ := Bl9.out.four
      obtain ⟨yh0, yh1, yh2, yh3⟩ := Bh9.out.four
      obtain ⟨yx0, yx1, yx2, yx3⟩ := Bx9.out.four
      obtain ⟨yn0, yn1, yn2, yn3⟩ := Bn9.out.four
      obtain ⟨yf0, yf1, yf2, yf3⟩ := Bf9.out.four
      go_wp2
      go_region_held3 (fun w' => w'.cell? ⟨w2.heap.size, 0, none⟩ = some (.int .i64 0) ∧ w'.cell? ⟨w2.heap.size, 1, none⟩ = some (.bool true) ∧ w'.cell? ⟨w2.heap.size, 2, none⟩ = some (.string tl) ∧ w'.cell? ⟨w2.heap.size, 3, none⟩ = some (.int .i64 el) ∧ w'.cell? ⟨w4.heap.size, 0, none⟩ = some (.int .i64 0) ∧ w'.cell? ⟨w4.heap.size, 1, none⟩ = some (.bool true) ∧ w'.cell? ⟨w4.heap.size, 2, none⟩ = some (.string th) ∧ w'.cell? ⟨w4.heap.size, 3, none⟩ = some (.int .i64 eh)) (go_keep) (fail)
      go_wp2
      go_roundw
      case rel => exact ⟨0 + 1, by first | omega | (have := HK.out; omega), by go_num, (((((((((HBT.out.setCell HS.out.1 _).setCell HS.out.1 _).setCell HS.out.1 _).setCell HS.out.1 _).setCell HS.out.2 _).setCell HS.out.2 _).setCell HS.out.2 _).setCell HS.out.2 _)).drew⟩
      case measure => first | (simp [intOf]; done) | (simp [intOf]; omega) | (have := HK.out; simp [intOf]; omega)
    by_cases j1 : k = 1
    · skip
      obtain rfl : k = 1 := by omega
      clear hk hk8
      go_wp2_with fail
      refine (H1.out _ (HT.out.below HB6.out)).mono ?_
      rintro e w7 ⟨rfl, hb⟩
      have HBS := hide (HBR.out.trans (hb.mono HBR.out.size))
      clear HBR
      have Ba7 := Blk.on Ba6 hb
      have Bl7 := Blk.on Bl6 hb
      have Bh7 := Blk.on Bh6 hb
      have HB7 := hide (HB6.out.trans (hb.mono HB6.out.size))
      clear hb Ba6 Bl6 Bh6 HB6 ya0 ya1 ya2 ya3 yl0 yl1 yl2 yl3 yh0 yh1 yh2 yh3
      obtain ⟨ya0, ya1, ya2, ya3⟩ := Ba7.out.four
      obtain ⟨yl0, yl1, yl2, yl3⟩ := Bl7.out.four
      obtain ⟨yh0, yh1, yh2, yh3⟩ := Bh7.out.four
      have Ba8 := Blk.up Ba7 (.cells #[.int .i64 0, .bool true, .string tl, .int .i64 el] 23)
      have Bl8 := Blk.up Bl7 (.cells #[.int .i64 0, .bool true, .string tl, .int .i64 el] 23)
      have Bh8 := Blk.up Bh7 (.cells #[.int .i64 0, .bool true, .string tl, .int .i64 el] 23)
      have Bx8 := hide ((Blk.newAt w7 (w7.heap.size) (rfl) #[.int .i64 0, .bool true, .string tl, .int .i64 el] 23))
      have HB8 : Hid (Below w.heap.size w (w7.alloc (.cells #[.int .i64 0, .bool true, .string tl, .int .i64 el] 23))) := (HB7.out.alloc HB7.out.size _)
      clear Ba7 Bl7 Bh7 HB7 ya0 ya1 ya2 ya3 yl0 yl1 yl2 yl3 yh0 yh1 yh2 yh3
      obtain ⟨ya0, ya1, ya2, ya3⟩ := Ba8.out.four
      obtain ⟨yl0, yl1, yl2, yl3⟩ := Bl8.out.four
      obtain ⟨yh0, yh1, yh2, yh3⟩ := Bh8.out.four
      obtain ⟨yx0, yx1, yx2, yx3⟩ := Bx8.out.four
      go_wp2
      obtain ⟨W3, hW3⟩ : ∃ W3, W3 = (w7.alloc (.cells #[.int .i64 0, .bool true, .string tl, .int .i64 el] 23)) := ⟨_, rfl⟩
      rw [← hW3] at HB8 Ba8 Bl8 Bh8 Bx8 ya0 ya1 ya2 ya3 yl0 yl1 yl2 yl3 yh0 yh1 yh2 yh3 yx0 yx1 yx2 yx3
      have HW3 := hide hW3
      clear hW3
      have HL : Hid (w2.heap.size < W3.heap.size ∧ w4.heap.size < W3.heap.size) := ⟨Bl8.out.lt, Bh8.out.lt⟩
      simp only [← HW3.out]
      go_cut [12, 13] (fun vp vq wx => Cut2D W3 #[.int .i64 0, .bool true, .string tl, .int .i64 el] #[.int .i64 0, .bool true, .string th, .int .i64 eh] vp vq wx)
      case first =>
        have nl3 : ¬ w2.heap.size = W3.heap.size := (by have := HL.out; omega)
        have ml3 : ¬ W3.heap.size = w2.heap.size := (by have := HL.out; omega)
        have nh3 : ¬ w4.heap.size = W3.heap.size := (by have := HL.out; omega)
        have mh3 : ¬ W3.heap.size = w4.heap.size := (by have := HL.out; omega)
        go_region_held3 (fun w' => w'.cell? ⟨w2.heap.size, 0, none⟩ = some (.int .i64 0) ∧ w'.cell? ⟨w2.heap.size, 1, none⟩ = some (.bool true) ∧ w'.cell? ⟨w2.heap.size, 2, none⟩ = some (.string tl) ∧ w'.cell? ⟨w2.heap.size, 3, none⟩ = some (.int .i64 el) ∧ w'.cell? ⟨w4.heap.size, 0, none⟩ = some (.int .i64 0) ∧ w'.cell? ⟨w4.heap.size, 1, none⟩ = some (.bool true) ∧ w'.cell? ⟨w4.heap.size, 2, none⟩ = some (.string th) ∧ w'.cell? ⟨w4.heap.size, 3, none⟩ = some (.int .i64 eh)) (go_keep) (fail)
        all_goals (go_wp2_with fail; go_meet)
        all_goals (first | exact cut2_a | exact cut2_b)
      obtain ⟨⟨H, K, rfl, rfl, hq, hr, hH, hK, hHK, hbc⟩⟩ := hcut
      obtain ⟨w9, hwk⟩ : ∃ x, x = wc := ⟨_, rfl⟩
      subst hwk
      have Ba9 := hide (Ba8.out.below hbc Ba8.out.lt)
      have Bl9 := hide (Bl8.out.below hbc Bl8.out.lt)
      have Bh9 := hide (Bh8.out.below hbc Bh8.out.lt)
      have Bx9 := hide (Bx8.out.below hbc Bx8.out.lt)
      have Bn9 := hide hq
      have Bf9 := hide hr
      have HB9 := hide (HB8.out.trans (hbc.mono HB8.out.size))
      have HBT := hide (HBS.out.trans ((HW3.out ▸ ((Below.refl _ _).alloc (Nat.le_refl _) _ : Below _ _ _) : Below w7.heap.size w7 W3).trans (hbc.mono (by rw [HW3.out]; simp)) |>.mono HBS.out.size))
      have hhk : ¬ K = H := fun g => hHK g.symm
      have HHK := hide (show w.heap.size ≤ H ∧ w.heap.size ≤ K from ⟨Nat.le_trans HB8.out.size hH, Nat.le_trans HB8.out.size hK⟩)
      have HS := hide (show W2.heap.size ≤ H ∧ W2.heap.size ≤ K from (by have g1 := HBS.out.size; have g2 : w7.heap.size ≤ W3.heap.size := (by rw [HW3.out]; simp); omega))
      have ia1 : ¬ H = w.heap.size := by have := Ba8.out.lt; omega
      have ia2 : ¬ w.heap.size = H := by have := Ba8.out.lt; omega
      have ia3 : ¬ K = w.heap.size := by have := Ba8.out.lt; omega
      have ia4 : ¬ w.heap.size = K := by have := Ba8.out.lt; omega
      have ih1 : ¬ H = w4.heap.size := by have := Bh8.out.lt; omega
      have ih2 : ¬ w4.heap.size = H := by have := Bh8.out.lt; omega
      have ih3 : ¬ K = w4.heap.size := by have := Bh8.out.lt; omega
      have ih4 : ¬ w4.heap.size = K := by have := Bh8.out.lt; omega
      have il1 : ¬ H = w2.heap.size := by have := Bl8.out.lt; omega
      have il2 : ¬ w2.heap.size = H := by have := Bl8.out.lt; omega
      have il3 : ¬ K = w2.heap.size := by have := Bl8.out.lt; omega
      have il4 : ¬ w2.heap.size = K := by have := Bl8.out.lt; omega
      have ix1 : ¬ H = w7.heap.size := by have := Bx8.out.lt; omega
      have ix2 : ¬ w7.heap.size = H := by have := Bx8.out.lt; omega
      have ix3 : ¬ K = w7.heap.size := by have := Bx8.out.lt; omega
      have ix4 : ¬ w7.heap.size = K := by have := Bx8.out.lt; omega
      have fn0 := Bn9.out.free 0
      have fn1 := Bn9.out.free 1
      have fn2 := Bn9.out.free 2
      have fn3 := Bn9.out.free 3
      have ff0 := Bf9.out.free 0
      have ff1 := Bf9.out.free 1
      have ff2 := Bf9.out.free 2
      have ff3 := Bf9.out.free 3
      clear HL HBS hq hr hH hK hbc HW3 Ba8 Bl8 Bh8 Bx8 HB8 ya0 ya1 ya2 ya3 yl0 yl1 yl2 yl3 yh0 yh1 yh2 yh3 yx0 yx1 yx2 yx3
      obtain ⟨ya0, ya1, ya2, ya3⟩ := Ba9.out.four
      obtain ⟨yl0, yl1, yl2, yl3⟩ := Bl9.out.four
      obtain ⟨yh0, yh1, yh2, yh3⟩ := Bh9.out.four
      obtain ⟨yx0, yx1, yx2, yx3⟩ := Bx9.out.four
      obtain ⟨yn0, yn1, yn2, yn3⟩ := Bn9.out.four
      obtain ⟨yf0, yf1, yf2, yf3⟩ := Bf9.out.four
      go_wp2
      go_region_held3 (fun w' => w'.cell? ⟨w2.heap.size, 0, none⟩ = some (.int .i64 0) ∧ w'.cell? ⟨w2.heap.size, 1, none⟩ = some (.bool true) ∧ w'.cell? ⟨w2.heap.size, 2, none⟩ = some (.string tl) ∧ w'.cell? ⟨w2.heap.size, 3, none⟩ = some (.int .i64 el) ∧ w'.cell? ⟨w4.heap.size, 0, none⟩ = some (.int .i64 0) ∧ w'.cell? ⟨w4.heap.size, 1, none⟩ = some (.bool true) ∧ w'.cell? ⟨w4.heap.size, 2, none⟩ = some (.string th) ∧ w'.cell? ⟨w4.heap.size, 3, none⟩ = some (.int .i64 eh)) (go_keep) (fail)
      go_wp2
      go_roundw
      case rel => exact ⟨1 + 1, by first | omega | (have := HK.out; omega), by go_num, (((((((((HBT.out.setCell HS.out.1 _).setCell HS.out.1 _).setCell HS.out.1 _).setCell HS.out.1 _).setCell HS.out.2 _).setCell HS.out.2 _).setCell HS.out.2 _).setCell HS.out.2 _)).drew⟩
      case measure => first | (simp [intOf]; done) | (simp [intOf]; omega) | (have := HK.out; simp [intOf]; omega)
    by_cases j2 : k = 2
    · skip
      obtain rfl : k = 2 := by omega
      clear hk hk8
      go_wp2_with fail
      refine (H2.out _ (HT.out.below HB6.out)).mono ?_
      rintro e w7 ⟨rfl, hb⟩
      have HBS := hide (HBR.out.trans (hb.mono HBR.out.size))
      clear HBR
      have Ba7 := Blk.on Ba6 hb
      have Bl7 := Blk.on Bl6 hb
      have Bh7 := Blk.on Bh6 hb
      have HB7 := hide (HB6.out.trans (hb.mono HB6.out.size))
      clear hb Ba6 Bl6 Bh6 HB6 ya0 ya1 ya2 ya3 yl0 yl1 yl2 yl3 yh0 yh1 yh2 yh3
      obtain ⟨ya0, ya1, ya2, ya3⟩ := Ba7.out.four
      obtain ⟨yl0, yl1, yl2, yl3⟩ := Bl7.out.four
      obtain ⟨yh0, yh1, yh2, yh3⟩ := Bh7.out.four
      have Ba8 := Blk.up Ba7 (.cells #[.int .i64 0, .bool true, .string th, .int .i64 eh] 23)
      have Bl8 := Blk.up Bl7 (.cells #[.int .i64 0, .bool true, .string th, .int .i64 eh] 23)
      have Bh8 := Blk.up Bh7 (.cells #[.int .i64 0, .bool true, .string th, .int .i64 eh] 23)
      have Bx8 := hide ((Blk.newAt w7 (w7.heap.size) (rfl) #[.int .i64 0, .bool true, .string th, .int .i64 eh] 23))
      have HB8 : Hid (Below w.heap.size w (w7.alloc (.cells #[.int .i64 0, .bool true, .string th, .int .i64 eh] 23))) := (HB7.out.alloc HB7.out.size _)
      clear Ba7 Bl7 Bh7 HB7 ya0 ya1 ya2 ya3 yl0 yl1 yl2 yl3 yh0 yh1 yh2 yh3
      obtain ⟨ya0, ya1, ya2, ya3⟩ := Ba8.out.four
      obtain ⟨yl0, yl1, yl2, yl3⟩ := Bl8.out.four
      obtain ⟨yh0, yh1, yh2, yh3⟩ := Bh8.out.four
      obtain ⟨yx0, yx1, yx2, yx3⟩ := Bx8.out.four
      go_wp2
      obtain ⟨W3, hW3⟩ : ∃ W3, W3 = (w7.alloc (.cells #[.int .i64 0, .bool true, .string th, .int .i64 eh] 23)) := ⟨_, rfl⟩
      rw [← hW3] at HB8 Ba8 Bl8 Bh8 Bx8 ya0 ya1 ya2 ya3 yl0 yl1 yl2 yl3 yh0 yh1 yh2 yh3 yx0 yx1 yx2 yx3
      have HW3 := hide hW3
      clear hW3
      have HL : Hid (w2.heap.size < W3.heap.size ∧ w4.heap.size < W3.heap.size) := ⟨Bl8.out.lt, Bh8.out.lt⟩
      simp only [← HW3.out]
      go_cut [12, 13] (fun vp vq wx => Cut2D W3 #[.int .i64 0, .bool true, .string tl, .int .i64 el] #[.int .i64 0, .bool true, .string th, .int .i64 eh] vp vq wx)
      case first =>
        have nl3 : ¬ w2.heap.size = W3.heap.size := (by have := HL.out; omega)
        have ml3 : ¬ W3.heap.size = w2.heap.size := (by have := HL.out; omega)
        have nh3 : ¬ w4.heap.size = W3.heap.size := (by have := HL.out; omega)
        have mh3 : ¬ W3.heap.size = w4.heap.size := (by have := HL.out; omega)
        go_region_held3 (fun w' => w'.cell? ⟨w2.heap.size, 0, none⟩ = some (.int .i64 0) ∧ w'.cell? ⟨w2.heap.size, 1, none⟩ = some (.bool true) ∧ w'.cell? ⟨w2.heap.size, 2, none⟩ = some (.string tl) ∧ w'.cell? ⟨w2.heap.size, 3, none⟩ = some (.int .i64 el) ∧ w'.cell? ⟨w4.heap.size, 0, none⟩ = some (.int .i64 0) ∧ w'.cell? ⟨w4.heap.size, 1, none⟩ = some (.bool true) ∧ w'.cell? ⟨w4.heap.size, 2, none⟩ = some (.string th) ∧ w'.cell? ⟨w4.heap.size, 3, none⟩ = some (.int .i64 eh)) (go_keep) (fail)
        all_goals (go_wp2_with fail; go_meet)
        all_goals (first | exact cut2_a | exact cut2_b)
      obtain ⟨⟨H, K, rfl, rfl, hq, hr, hH, hK, hHK, hbc⟩⟩ := hcut
      obtain ⟨w9, hwk⟩ : ∃ x, x = wc := ⟨_, rfl⟩
      subst hwk
      have Ba9 := hide (Ba8.out.below hbc Ba8.out.lt)
      have Bl9 := hide (Bl8.out.below hbc Bl8.out.lt)
      have Bh9 := hide (Bh8.out.below hbc Bh8.out.lt)
      have Bx9 := hide (Bx8.out.below hbc Bx8.out.lt)
      have Bn9 := hide hq
      have Bf9 := hide hr
      have HB9 := hide (HB8.out.trans (hbc.mono HB8.out.size))
      have HBT := hide (HBS.out.trans ((HW3.out ▸ ((Below.refl _ _).alloc (Nat.le_refl _) _ : Below _ _ _) : Below w7.heap.size w7 W3).trans (hbc.mono (by rw [HW3.out]; simp)) |>.mono HBS.out.size))
      have hhk : ¬ K = H := fun g => hHK g.symm
      have HHK := hide (show w.heap.size ≤ H ∧ w.heap.size ≤ K from ⟨Nat.le_trans HB8.out.size hH, Nat.le_trans HB8.out.size hK⟩)
      have HS := hide (show W2.heap.size ≤ H ∧ W2.heap.size ≤ K from (by have g1 := HBS.out.size; have g2 : w7.heap.size ≤ W3.heap.size := (by rw [HW3.out]; simp); omega))
      have ia1 : ¬ H = w.heap.size := by have := Ba8.out.lt; omega
      have ia2 : ¬ w.heap.size = H := by have := Ba8.out.lt; omega
      have ia3 : ¬ K = w.heap.size := by have := Ba8.out.lt; omega
      have ia4 : ¬ w.heap.size = K := by have := Ba8.out.lt; omega
      have ih1 : ¬ H = w4.heap.size := by have := Bh8.out.lt; omega
      have ih2 : ¬ w4.heap.size = H := by have := Bh8.out.lt; omega
      have ih3 : ¬ K = w4.heap.size := by have := Bh8.out.lt; omega
      have ih4 : ¬ w4.heap.size = K := by have := Bh8.out.lt; omega
      have il1 : ¬ H = w2.heap.size := by have := Bl8.out.lt; omega
      have il2 : ¬ w2.heap.size = H := by have := Bl8.out.lt; omega
      have il3 : ¬ K = w2.heap.size := by have := Bl8.out.lt; omega
      have il4 : ¬ w2.heap.size = K := by have := Bl8.out.lt; omega
      have ix1 : ¬ H = w7.heap.size := by have := Bx8.out.lt; omega
      have ix2 : ¬ w7.heap.size = H := by have := Bx8.out.lt; omega
      have ix3 : ¬ K = w7.heap.size := by have := Bx8.out.lt; omega
      have ix4 : ¬ w7.heap.size = K := by have := Bx8.out.lt; omega
      have fn0 := Bn9.out.free 0
      have fn1 := Bn9.out.free 1
      have fn2 := Bn9.out.free 2
      have fn3 := Bn9.out.free 3
      have ff0 := Bf9.out.free 0
      have ff1 := Bf9.out.free 1
      have ff2 := Bf9.out.free 2
      have ff3 := Bf9.out.free 3
      clear HL HBS hq hr hH hK hbc HW3 Ba8 Bl8 Bh8 Bx8 HB8 ya0 ya1 ya2 ya3 yl0 yl1 yl2 yl3 yh0 yh1 yh2 yh3 yx0 yx1 yx2 yx3
      obtain ⟨ya0, ya1, ya2, ya3⟩ := Ba9.out.four
      obtain ⟨yl0, yl1, yl2, yl3⟩ := Bl9.out.four
      obtain ⟨yh0, yh1, yh2, yh3⟩ := Bh9.out.four
      obtain ⟨yx0, yx1, yx2, yx3⟩ := Bx9.out.four
      obtain ⟨yn0, yn1, yn2, yn3⟩ := Bn9.out.four
      obtain ⟨yf0, yf1, yf2, yf3⟩ := Bf9.out.four
      go_wp2
      go_region_held3 (fun w' => w'.cell? ⟨w2.heap.size, 0, none⟩ = some (.int .i64 0) ∧ w'.cell? ⟨w2.heap.size, 1, none⟩ = some (.bool true) ∧ w'.cell? ⟨w2.heap.size, 2, none⟩ = some (.string tl) ∧ w'.cell? ⟨w2.heap.size, 3, none⟩ = some (.int .i64 el) ∧ w'.cell? ⟨w4.heap.size, 0, none⟩ = some (.int .i64 0) ∧ w'.cell? ⟨w4.heap.size, 1, none⟩ = some (.bool true) ∧ w'.cell? ⟨w4.heap.size, 2, none⟩ = some (.string th) ∧ w'.cell? ⟨w4.heap.size, 3, none⟩ = some (.int .i64 eh)) (go_keep) (fail)
      go_wp2
      go_roundw
      case rel => exact ⟨2 + 1, by first | omega | (have := HK.out; omega), by go_num, (((((((((HBT.out.setCell HS.out.1 _).setCell HS.out.1 _).setCell HS.out.1 _).setCell HS.out.1 _).setCell HS.out.2 _).setCell HS.out.2 _).setCell HS.out.2 _).setCell HS.out.2 _)).drew⟩
      case measure => first | (simp [intOf]; done) | (simp [intOf]; omega) | (have := HK.out; simp [intOf]; omega)
    by_cases j3 : k = 3
    · skip
      obtain rfl : k = 3 := by omega
      clear hk hk8
      go_wp2_with fail
      refine (H3.out _ (HT.out.below HB6.out)).mono ?_
      rintro e w7 ⟨rfl, hb⟩
      have HBS := hide (HBR.out.trans (hb.mono HBR.out.size))
      clear HBR
      have Ba7 := Blk.on Ba6 hb
      have Bl7 := Blk.on Bl6 hb
      have Bh7 := Blk.on Bh6 hb
      have HB7 := hide (HB6.out.trans (hb.mono HB6.out.size))
      clear hb Ba6 Bl6 Bh6 HB6 ya0 ya1 ya2 ya3 yl0 yl1 yl2 yl3 yh0 yh1 yh2 yh3
      obtain ⟨ya0, ya1, ya2, ya3⟩ := Ba7.out.four
      obtain ⟨yl0, yl1, yl2, yl3⟩ := Bl7.out.four
      obtain ⟨yh0, yh1, yh2, yh3⟩ := Bh7.out.four
      have Ba8 := Blk.up Ba7 (.cells #[.int .i64 0, .bool true, .string tl, .int .i64 el] 23)
      have Bl8 := Blk.up Bl7 (.cells #[.int .i64 0, .bool true, .string tl, .int .i64 el] 23)
      have Bh8 := Blk.up Bh7 (.cells #[.int .i64 0, .bool true, .string tl, .int .i64 el] 23)
      have Bx8 := hide ((Blk.newAt w7 (w7.heap.size) (rfl) #[.int .i64 0, .bool true, .string tl, .int .i64 el] 23))
      have HB8 : Hid (Below w.heap.size w (w7.alloc (.cells #[.int .i64 0, .bool true, .string tl, .int .i64 el] 23))) := (HB7.out.alloc HB7.out.size _)
      clear Ba7 Bl7 Bh7 HB7 ya0 ya1 ya2 ya3 yl0 yl1 yl2 yl3 yh0 yh1 yh2 yh3
      obtain ⟨ya0, ya1, ya2, ya3⟩ := Ba8.out.four
      obtain ⟨yl0, yl1, yl2, yl3⟩ := Bl8.out.four
      obtain ⟨yh0, yh1, yh2, yh3⟩ := Bh8.out.four
      obtain ⟨yx0, yx1, yx2, yx3⟩ := Bx8.out.four
      go_wp2
      obtain ⟨W3, hW3⟩ : ∃ W3, W3 = (w7.alloc (.cells #[.int .i64 0, .bool true, .string tl, .int .i64 el] 23)) := ⟨_, rfl⟩
      rw [← hW3] at HB8 Ba8 Bl8 Bh8 Bx8 ya0 ya1 ya2 ya3 yl0 yl1 yl2 yl3 yh0 yh1 yh2 yh3 yx0 yx1 yx2 yx3
      have HW3 := hide hW3
      clear hW3
      have HL : Hid (w2.heap.size < W3.heap.size ∧ w4.heap.size < W3.heap.size) := ⟨Bl8.out.lt, Bh8.out.lt⟩
      simp only [← HW3.out]
      go_cut [12, 13] (fun vp vq wx => Cut2D W3 #[.int .i64 0, .bool true, .string tl, .int .i64 el] #[.int .i64 0, .bool true, .string th, .int .i64 eh] vp vq wx)
      case first =>
        have nl3 : ¬ w2.heap.size = W3.heap.size := (by have := HL.out; omega)
        have ml3 : ¬ W3.heap.size = w2.heap.size := (by have := HL.out; omega)
        have nh3 : ¬ w4.heap.size = W3.heap.size := (by have := HL.out; omega)
        have mh3 : ¬ W3.heap.size = w4.heap.size := (by have := HL.out; omega)
        go_region_held3 (fun w' => w'.cell? ⟨w2.heap.size, 0, none⟩ = some (.int .i64 0) ∧ w'.cell? ⟨w2.heap.size, 1, none⟩ = some (.bool true) ∧ w'.cell? ⟨w2.heap.size, 2, none⟩ = some (.string tl) ∧ w'.cell? ⟨w2.heap.size, 3, none⟩ = some (.int .i64 el) ∧ w'.cell? ⟨w4.heap.size, 0, none⟩ = some (.int .i64 0) ∧ w'.cell? ⟨w4.heap.size, 1, none⟩ = some (.bool true) ∧ w'.cell? ⟨w4.heap.size, 2, none⟩ = some (.string th) ∧ w'.cell? ⟨w4.heap.size, 3, none⟩ = some (.int .i64 eh)) (go_keep) (fail)
        all_goals (go_wp2_with fail; go_meet)
        all_goals (first | exact cut2_a | exact cut2_b)
      obtain ⟨⟨H, K, rfl, rfl, hq, hr, hH, hK, hHK, hbc⟩⟩ := hcut
      obtain ⟨w9, hwk⟩ : ∃ x, x = wc := ⟨_, rfl⟩
      subst hwk
      have Ba9 := hide (Ba8.out.below hbc Ba8.out.lt)
      have Bl9 := hide (Bl8.out.below hbc Bl8.out.lt)
      have Bh9 := hide (Bh8.out.below hbc Bh8.out.lt)
      have Bx9 := hide (Bx8.out.below hbc Bx8.out.lt)
      have Bn9 := hide hq
      have Bf9 := hide hr
      have HB9 := hide (HB8.out.trans (hbc.mono HB8.out.size))
      have HBT := hide (HBS.out.trans ((HW3.out ▸ ((Below.refl _ _).alloc (Nat.le_refl _) _ : Below _ _ _) : Below w7.heap.size w7 W3).trans (hbc.mono (by rw [HW3.out]; simp)) |>.mono HBS.out.size))
      have hhk : ¬ K = H := fun g => hHK g.symm
      have HHK := hide (show w.heap.size ≤ H ∧ w.heap.size ≤ K from ⟨Nat.le_trans HB8.out.size hH, Nat.le_trans HB8.out.size hK⟩)
      have HS := hide (show W2.heap.size ≤ H ∧ W2.heap.size ≤ K from (by have g1 := HBS.out.size; have g2 : w7.heap.size ≤ W3.heap.size := (by rw [HW3.out]; simp); omega))
      have ia1 : ¬ H = w.heap.size := by have := Ba8.out.lt; omega
      have ia2 : ¬ w.heap.size = H := by have := Ba8.out.lt; omega
      have ia3 : ¬ K = w.heap.size := by have := Ba8.out.lt; omega
      have ia4 : ¬ w.heap.size = K := by have := Ba8.out.lt; omega
      have ih1 : ¬ H = w4.heap.size := by have := Bh8.out.lt; omega
      have ih2 : ¬ w4.heap.size = H := by have := Bh8.out.lt; omega
      have ih3 : ¬ K = w4.heap.size := by have := Bh8.out.lt; omega
      have ih4 : ¬ w4.heap.size = K := by have := Bh8.out.lt; omega
      have il1 : ¬ H = w2.heap.size := by have := Bl8.out.lt; omega
      have il2 : ¬ w2.heap.size = H := by have := Bl8.out.lt; omega
      have il3 : ¬ K = w2.heap.size := by have := Bl8.out.lt; omega
      have il4 : ¬ w2.heap.size = K := by have := Bl8.out.lt; omega
      have ix1 : ¬ H = w7.heap.size := by have := Bx8.out.lt; omega
      have ix2 : ¬ w7.heap.size = H := by have := Bx8.out.lt; omega
      have ix3 : ¬ K = w7.heap.size := by have := Bx8.out.lt; omega
      have ix4 : ¬ w7.heap.size = K := by have := Bx8.out.lt; omega
      have fn0 := Bn9.out.free 0
      have fn1 := Bn9.out.free 1
      have fn2 := Bn9.out.free 2
      have fn3 := Bn9.out.free 3
      have ff0 := Bf9.out.free 0
      have ff1 := Bf9.out.free 1
      have ff2 := Bf9.out.free 2
      have ff3 := Bf9.out.free 3
      clear HL HBS hq hr hH hK hbc HW3 Ba8 Bl8 Bh8 Bx8 HB8 ya0 ya1 ya2 ya3 yl0 yl1 yl2 yl3 yh0 yh1 yh2 yh3 yx0 yx1 yx2 yx3
      obtain ⟨ya0, ya1, ya2, ya3⟩ := Ba9.out.four
      obtain ⟨yl0, yl1, yl2, yl3⟩ := Bl9.out.four
      obtain ⟨yh0, yh1, yh2, yh3⟩ := Bh9.out.four
      obtain ⟨yx0, yx1, yx2, yx3⟩ := Bx9.out.four
      obtain ⟨yn0, yn1, yn2, yn3⟩ := Bn9.out.four
      obtain ⟨yf0, yf1, yf2, yf3⟩ := Bf9.out.four
      go_wp2
      go_region_held3 (fun w' => w'.cell? ⟨w2.heap.size, 0, none⟩ = some (.int .i64 0) ∧ w'.cell? ⟨w2.heap.size, 1, none⟩ = some (.bool true) ∧ w'.cell? ⟨w2.heap.size, 2, none⟩ = some (.string tl) ∧ w'.cell? ⟨w2.heap.size, 3, none⟩ = some (.int .i64 el) ∧ w'.cell? ⟨w4.heap.size, 0, none⟩ = some (.int .i64 0) ∧ w'.cell? ⟨w4.heap.size, 1, none⟩ = some (.bool true) ∧ w'.cell? ⟨w4.heap.size, 2, none⟩ = some (.string th) ∧ w'.cell? ⟨w4.heap.size, 3, none⟩ = some (.int .i64 eh)) (go_keep) (fail)
      go_wp2
      go_roundw
      case rel => exact ⟨3 + 1, by first | omega | (have := HK.out; omega), by go_num, (((((((((HBT.out.setCell HS.out.1 _).setCell HS.out.1 _).setCell HS.out.1 _).setCell HS.out.1 _).setCell HS.out.2 _).setCell HS.out.2 _).setCell HS.out.2 _).setCell HS.out.2 _)).drew⟩
      case measure => first | (simp [intOf]; done) | (simp [intOf]; omega) | (have := HK.out; simp [intOf]; omega)
    have hk4 : 4 ≤ k := by omega
    clear j0 j1 j2 j3
    rcases H4.out k hk4 (by omega) with hm | hm
    · have HM := hide hm
      clear hm H0 H1 H2 H3 H4 H5
      have k2 : ((k : Int) == 2) = false := beq_false_of_ne (by omega)
      have k3 : ((k : Int) == 3) = false := beq_false_of_ne (by omega)
      have k8 : (k : Int) < 8 := by omega
      have HK := hide (show k < 8 by omega)
      clear hk hk8 hk4
      go_wp2_with fail
      refine (HM.out _ (HT.out.below HB6.out)).mono ?_
      rintro e w7 ⟨rfl, hb⟩
      have HBS := hide (HBR.out.trans (hb.mono HBR.out.size))
      clear HBR
      have Ba7 := Blk.on Ba6 hb
      have Bl7 := Blk.on Bl6 hb
      have Bh7 := Blk.on Bh6 hb
      have HB7 := hide (HB6.out.trans (hb.mono HB6.out.size))
      clear hb Ba6 Bl6 Bh6 HB6 ya0 ya1 ya2 ya3 yl0 yl1 yl2 yl3 yh0 yh1 yh2 yh3
      obtain ⟨ya0, ya1, ya2, ya3⟩ := Ba7.out.four
      obtain ⟨yl0, yl1, yl2, yl3⟩ := Bl7.out.four
      obtain ⟨yh0, yh1, yh2, yh3⟩ := Bh7.out.four
      have Ba8 := Blk.up Ba7 (.cells #[.int .i64 0, .bool true, .string tl, .int .i64 el] 23)
      have Bl8 := Blk.up Bl7 (.cells #[.int .i64 0, .bool true, .string tl, .int .i64 el] 23)
      have Bh8 := Blk.up Bh7 (.cells #[.int .i64 0, .bool true, .string tl, .int .i64 el] 23)
      have Bx8 := hide ((Blk.newAt w7 (w7.heap.size) (rfl) #[.int .i64 0, .bool true, .string tl, .int .i64 el] 23))
      have HB8 : Hid (Below w.heap.size w (w7.alloc (.cells #[.int .i64 0, .bool true, .string tl, .int .i64 el] 23))) := (HB7.out.alloc HB7.out.size _)
      clear Ba7 Bl7 Bh7 HB7 ya0 ya1 ya2 ya3 yl0 yl1 yl2 yl3 yh0 yh1 yh2 yh3
      obtain ⟨ya0, ya1, ya2, ya3⟩ := Ba8.out.four
      obtain ⟨yl0, yl1, yl2, yl3⟩ := Bl8.out.four
      obtain ⟨yh0, yh1, yh2, yh3⟩ := Bh8.out.four
      obtain ⟨yx0, yx1, yx2, yx3⟩ := Bx8.out.four
      go_wp2
      obtain ⟨W3, hW3⟩ : ∃ W3, W3 = (w7.alloc (.cells #[.int .i64 0, .bool true, .string tl, .int .i64 el] 23)) := ⟨_, rfl⟩
      rw [← hW3] at HB8 Ba8 Bl8 Bh8 Bx8 ya0 ya1 ya2 ya3 yl0 yl1 yl2 yl3 yh0 yh1 yh2 yh3 yx0 yx1 yx2 yx3
      have HW3 := hide hW3
      clear hW3
      have HL : Hid (w2.heap.size < W3.heap.size ∧ w4.heap.size < W3.heap.size) := ⟨Bl8.out.lt, Bh8.out.lt⟩
      simp only [← HW3.out]
      go_cut [12, 13] (fun vp vq wx => Cut2D W3 #[.int .i64 0, .bool true, .string tl, .int .i64 el] #[.int .i64 0, .bool true, .string th, .int .i64 eh] vp vq wx)
      case first =>
        have nl3 : ¬ w2.heap.size = W3.heap.size := (by have := HL.out; omega)
        have ml3 : ¬ W3.heap.size = w2.heap.size := (by have := HL.out; omega)
        have nh3 : ¬ w4.heap.size = W3.heap.size := (by have := HL.out; omega)
        have mh3 : ¬ W3.heap.size = w4.heap.size := (by have := HL.out; omega)
        go_region_held3 (fun w' => w'.cell? ⟨w2.heap.size, 0, none⟩ = some (.int .i64 0) ∧ w'.cell? ⟨w2.heap.size, 1, none⟩ = some (.bool true) ∧ w'.cell? ⟨w2.heap.size, 2, none⟩ = some (.string tl) ∧ w'.cell? ⟨w2.heap.size, 3, none⟩ = some (.int .i64 el) ∧ w'.cell? ⟨w4.heap.size, 0, none⟩ = some (.int .i64 0) ∧ w'.cell? ⟨w4.heap.size, 1, none⟩ = some (.bool true) ∧ w'.cell? ⟨w4.heap.size, 2, none⟩ = some (.string th) ∧ w'.cell? ⟨w4.heap.size, 3, none⟩ = some (.int .i64 eh)) (go_keep) (fail)
        all_goals (go_wp2_with fail; go_meet)
        all_goals (first | exact cut2_a | exact cut2_b)
      obtain ⟨⟨H, K, rfl, rfl, hq, hr, hH, hK, hHK, hbc⟩⟩ := hcut
      obtain ⟨w9, hwk⟩ : ∃ x, x = wc := ⟨_, rfl⟩
      subst hwk
      have Ba9 := hide (Ba8.out.below hbc Ba8.out.lt)
      have Bl9 := hide (Bl8.out.below hbc Bl8.out.lt)
      have Bh9 := hide (Bh8.out.below hbc Bh8.out.lt)
      have Bx9 := hide (Bx8.out.below hbc Bx8.out.lt)
      have Bn9 := hide hq
      have Bf9 := hide hr
      have HB9 := hide (HB8.out.trans (hbc.mono HB8.out.size))
      have HBT := hide (HBS.out.trans ((HW3.out ▸ ((Below.refl _ _).alloc (Nat.le_refl _) _ : Below _ _ _) : Below w7.heap.size w7 W3).trans (hbc.mono (by rw [HW3.out]; simp)) |>.mono HBS.out.size))
      have hhk : ¬ K = H := fun g => hHK g.symm
      have HHK := hide (show w.heap.size ≤ H ∧ w.heap.size ≤ K from ⟨Nat.le_trans HB8.out.size hH, Nat.le_trans HB8.out.size hK⟩)
      have HS := hide (show W2.heap.size ≤ H ∧ W2.heap.size ≤ K from (by have g1 := HBS.out.size; have g2 : w7.heap.size ≤ W3.heap.size := (by rw [HW3.out]; simp); omega))
      have ia1 : ¬ H = w.heap.size := by have := Ba8.out.lt; omega
      have ia2 : ¬ w.heap.size = H := by have := Ba8.out.lt; omega
      have ia3 : ¬ K = w.heap.size := by have := Ba8.out.lt; omega
      have ia4 : ¬ w.heap.size = K := by have := Ba8.out.lt; omega
      have ih1 : ¬ H = w4.heap.size := by have := Bh8.out.lt; omega
      have ih2 : ¬ w4.heap.size = H := by have := Bh8.out.lt; omega
      have ih3 : ¬ K = w4.heap.size := by have := Bh8.out.lt; omega
      have ih4 : ¬ w4.heap.size = K := by have := Bh8.out.lt; omega
      have il1 : ¬ H = w2.heap.size := by have := Bl8.out.lt; omega
      have il2 : ¬ w2.heap.size = H := by have := Bl8.out.lt; omega
      have il3 : ¬ K = w2.heap.size := by have := Bl8.out.lt; omega
      have il4 : ¬ w2.heap.size = K := by have := Bl8.out.lt; omega
      have ix1 : ¬ H = w7.heap.size := by have := Bx8.out.lt; omega
      have ix2 : ¬ w7.heap.size = H := by have := Bx8.out.lt; omega
      have ix3 : ¬ K = w7.heap.size := by have := Bx8.out.lt; omega
      have ix4 : ¬ w7.heap.size = K := by have := Bx8.out.lt; omega
      have fn0 := Bn9.out.free 0
      have fn1 := Bn9.out.free 1
      have fn2 := Bn9.out.free 2
      have fn3 := Bn9.out.free 3
      have ff0 := Bf9.out.free 0
      have ff1 := Bf9.out.free 1
      have ff2 := Bf9.out.free 2
      have ff3 := Bf9.out.free 3
      clear HL HBS hq hr hH hK hbc HW3 Ba8 Bl8 Bh8 Bx8 HB8 ya0 ya1 ya2 ya3 yl0 yl1 yl2 yl3 yh0 yh1 yh2 yh3 yx0 yx1 yx2 yx3
      obtain ⟨ya0, ya1, ya2, ya3⟩ := Ba9.out.four
      obtain ⟨yl0, yl1, yl2, yl3⟩ := Bl9.out.four
      obtain ⟨yh0, yh1, yh2, yh3⟩ := Bh9.out.four
      obtain ⟨yx0, yx1, yx2, yx3⟩ := Bx9.out.four
      obtain ⟨yn0, yn1, yn2, yn3⟩ := Bn9.out.four
      obtain ⟨yf0, yf1, yf2, yf3⟩ := Bf9.out.four
      go_wp2
      go_region_held3 (fun w' => w'.cell? ⟨w2.heap.size, 0, none⟩ = some (.int .i64 0) ∧ w'.cell? ⟨w2.heap.size, 1, none⟩ = some (.bool true) ∧ w'.cell? ⟨w2.heap.size, 2, none⟩ = some (.string tl) ∧ w'.cell? ⟨w2.heap.size, 3, none⟩ = some (.int .i64 el) ∧ w'.cell? ⟨w4.heap.size, 0, none⟩ = some (.int .i64 0) ∧ w'.cell? ⟨w4.heap.size, 1, none⟩ = some (.bool true) ∧ w'.cell? ⟨w4.heap.size, 2, none⟩ = some (.string th) ∧ w'.cell? ⟨w4.heap.size, 3, none⟩ = some (.int .i64 eh)) (go_keep) (fail)
      go_wp2
      go_roundw
      case rel => exact ⟨k + 1, by first | omega | (have := HK.out; omega), by go_num, (((((((((HBT.out.setCell HS.out.1 _).setCell HS.out.1 _).setCell HS.out.1 _).setCell HS.out.1 _).setCell HS.out.2 _).setCell HS.out.2 _).setCell HS.out.2 _).setCell HS.out.2 _)).drew⟩
      case measure => first | (simp [intOf]; done) | (simp [intOf]; omega) | (have := HK.out; simp [intOf]; omega)
    · have HM := hide hm
      clear hm H0 H1 H2 H3 H4 H5
      have k2 : ((k : Int) == 2) = false := beq_false_of_ne (by omega)
      have k3 : ((k : Int) == 3) = false := beq_false_of_ne (by omega)
      have k8 : (k : Int) < 8 := by omega
      have HK := hide (show k < 8 by omega)
      clear hk hk8 hk4
      go_wp2_with fail
      refine (HM.out _ (HT.out.below HB6.out)).mono ?_
      rintro e w7 ⟨rfl, hb⟩
      have HBS := hide (HBR.out.trans (hb.mono HBR.out.size))
      clear HBR
      have Ba7 := Blk.on Ba6 hb
      have Bl7 := Blk.on Bl6 hb
      have Bh7 := Blk.on Bh6 hb
      have HB7 := hide (HB6.out.trans (hb.mono HB6.out.size))
      clear hb Ba6 Bl6 Bh6 HB6 ya0 ya1 ya2 ya3 yl0 yl1 yl2 yl3 yh0 yh1 yh2 yh3
      obtain ⟨ya0, ya1, ya2, ya3⟩ := Ba7.out.four
      obtain ⟨yl0, yl1, yl2, yl3⟩ := Bl7.out.four
      obtain ⟨yh0, yh1, yh2, yh3⟩ := Bh7.out.four
      have Ba8 := Blk.up Ba7 (.cells #[.int .i64 0, .bool true, .string th, .int .i64 eh] 23)
      have Bl8 := Blk.up Bl7 (.cells #[.int .i64 0, .bool true, .string th, .int .i64 eh] 23)
      have Bh8 := Blk.up Bh7 (.cells #[.int .i64 0, .bool true, .string th, .int .i64 eh] 23)
      have Bx8 := hide ((Blk.newAt w7 (w7.heap.size) (rfl) #[.int .i64 0, .bool true, .string th, .int .i64 eh] 23))
      have HB8 : Hid (Below w.heap.size w (w7.alloc (.cells #[.int .i64 0, .bool true, .string th, .int .i64 eh] 23))) := (HB7.out.alloc HB7.out.size _)
      clear Ba7 Bl7 Bh7 HB7 ya0 ya1 ya2 ya3 yl0 yl1 yl2 yl3 yh0 yh1 yh2 yh3
      obtain ⟨ya0, ya1, ya2, ya3⟩ := Ba8.out.four
      obtain ⟨yl0, yl1, yl2, yl3⟩ := Bl8.out.four
      obtain ⟨yh0, yh1, yh2, yh3⟩ := Bh8.out.four
      obtain ⟨yx0, yx1, yx2, yx3⟩ := Bx8.out.four
      go_wp2
      obtain ⟨W3, hW3⟩ : ∃ W3, W3 = (w7.alloc (.cells #[.int .i64 0, .bool true, .string th, .int .i64 eh] 23)) := ⟨_, rfl⟩
      rw [← hW3] at HB8 Ba8 Bl8 Bh8 Bx8 ya0 ya1 ya2 ya3 yl0 yl1 yl2 yl3 yh0 yh1 yh2 yh3 yx0 yx1 yx2 yx3
      have HW3 := hide hW3
      clear hW3
      have HL : Hid (w2.heap.size < W3.heap.size ∧ w4.heap.size < W3.heap.size) := ⟨Bl8.out.lt, Bh8.out.lt⟩
      simp only [← HW3.out]
      go_cut [12, 13] (fun vp vq wx => Cut2D W3 #[.int .i64 0, .bool true, .string tl, .int .i64 el] #[.int .i64 0, .bool true, .string th, .int .i64 eh] vp vq wx)
      case first =>
        have nl3 : ¬ w2.heap.size = W3.heap.size := (by have := HL.out; omega)
        have ml3 : ¬ W3.heap.size = w2.heap.size := (by have := HL.out; omega)
        have nh3 : ¬ w4.heap.size = W3.heap.size := (by have := HL.out; omega)
        have mh3 : ¬ W3.heap.size = w4.heap.size := (by have := HL.out; omega)
        go_region_held3 (fun w' => w'.cell? ⟨w2.heap.size, 0, none⟩ = some (.int .i64 0) ∧ w'.cell? ⟨w2.heap.size, 1, none⟩ = some (.bool true) ∧ w'.cell? ⟨w2.heap.size, 2, none⟩ = some (.string tl) ∧ w'.cell? ⟨w2.heap.size, 3, none⟩ = some (.int .i64 el) ∧ w'.cell? ⟨w4.heap.size, 0, none⟩ = some (.int .i64 0) ∧ w'.cell? ⟨w4.heap.size, 1, none⟩ = some (.bool true) ∧ w'.cell? ⟨w4.heap.size, 2, none⟩ = some (.string th) ∧ w'.cell? ⟨w4.heap.size, 3, none⟩ = some (.int .i64 eh)) (go_keep) (fail)
        all_goals (go_wp2_with fail; go_meet)
        all_goals (first | exact cut2_a | exact cut2_b)
      obtain ⟨⟨H, K, rfl, rfl, hq, hr, hH, hK, hHK, hbc⟩⟩ := hcut
      obtain ⟨w9, hwk⟩ : ∃ x, x = wc := ⟨_, rfl⟩
      subst hwk
      have Ba9 := hide (Ba8.out.below hbc Ba8.out.lt)
      have Bl9 := hide (Bl8.out.below hbc Bl8.out.lt)
      have Bh9 := hide (Bh8.out.below hbc Bh8.out.lt)
      have Bx9 := hide (Bx8.out.below hbc Bx8.out.lt)
      have Bn9 := hide hq
      have Bf9 := hide hr
      have HB9 := hide (HB8.out.trans (hbc.mono HB8.out.size))
      have HBT := hide (HBS.out.trans ((HW3.out ▸ ((Below.refl _ _).alloc (Nat.le_refl _) _ : Below _ _ _) : Below w7.heap.size w7 W3).trans (hbc.mono (by rw [HW3.out]; simp)) |>.mono HBS.out.size))
      have hhk : ¬ K = H := fun g => hHK g.symm
      have HHK := hide (show w.heap.size ≤ H ∧ w.heap.size ≤ K from ⟨Nat.le_trans HB8.out.size hH, Nat.le_trans HB8.out.size hK⟩)
      have HS := hide (show W2.heap.size ≤ H ∧ W2.heap.size ≤ K from (by have g1 := HBS.out.size; have g2 : w7.heap.size ≤ W3.heap.size := (by rw [HW3.out]; simp); omega))
      have ia1 : ¬ H = w.heap.size := by have := Ba8.out.lt; omega
      have ia2 : ¬ w.heap.size = H := by have := Ba8.out.lt; omega
      have ia3 : ¬ K = w.heap.size := by have := Ba8.out.lt; omega
      have ia4 : ¬ w.heap.size = K := by have := Ba8.out.lt; omega
      have ih1 : ¬ H = w4.heap.size := by have := Bh8.out.lt; omega
      have ih2 : ¬ w4.heap.size = H := by have := Bh8.out.lt; omega
      have ih3 : ¬ K = w4.heap.size := by have := Bh8.out.lt; omega
      have ih4 : ¬ w4.heap.size = K := by have := Bh8.out.lt; omega
      have il1 : ¬ H = w2.heap.size := by have := Bl8.out.lt; omega
      have il2 : ¬ w2.heap.size = H := by have := Bl8.out.lt; omega
      have il3 : ¬ K = w2.heap.size := by have := Bl8.out.lt; omega
      have il4 : ¬ w2.heap.size = K := by have := Bl8.out.lt; omega
      have ix1 : ¬ H = w7.heap.size := by have := Bx8.out.lt; omega
      have ix2 : ¬ w7.heap.size = H := by have := Bx8.out.lt; omega
      have ix3 : ¬ K = w7.heap.size := by have := Bx8.out.lt; omega
      have ix4 : ¬ w7.heap.size = K := by have := Bx8.out.lt; omega
      have fn0 := Bn9.out.free 0
      have fn1 := Bn9.out.free 1
      have fn2 := Bn9.out.free 2
      have fn3 := Bn9.out.free 3
      have ff0 := Bf9.out.free 0
      have ff1 := Bf9.out.free 1
      have ff2 := Bf9.out.free 2
      have ff3 := Bf9.out.free 3
      clear HL HBS hq hr hH hK hbc HW3 Ba8 Bl8 Bh8 Bx8 HB8 ya0 ya1 ya2 ya3 yl0 yl1 yl2 yl3 yh0 yh1 yh2 yh3 yx0 yx1 yx2 yx3
      obtain ⟨ya0, ya1, ya2, ya3⟩ := Ba9.out.four
      obtain ⟨yl0, yl1, yl2, yl3⟩ := Bl9.out.four
      obtain ⟨yh0, yh1, yh2, yh3⟩ := Bh9.out.four
      obtain ⟨yx0, yx1, yx2, yx3⟩ := Bx9.out.four
      obtain ⟨yn0, yn1, yn2, yn3⟩ := Bn9.out.four
      obtain ⟨yf0, yf1, yf2, yf3⟩ := Bf9.out.four
      go_wp2
      go_region_held3 (fun w' => w'.cell? ⟨w2.heap.size, 0, none⟩ = some (.int .i64 0) ∧ w'.cell? ⟨w2.heap.size, 1, none⟩ = some (.bool true) ∧ w'.cell? ⟨w2.heap.size, 2, none⟩ = some (.string tl) ∧ w'.cell? ⟨w2.heap.size, 3, none⟩ = some (.int .i64 el) ∧ w'.cell? ⟨w4.heap.size, 0, none⟩ = some (.int .i64 0) ∧ w'.cell? ⟨w4.heap.size, 1, none⟩ = some (.bool true) ∧ w'.cell? ⟨w4.heap.size, 2, none⟩ = some (.string th) ∧ w'.cell? ⟨w4.heap.size, 3, none⟩ = some (.int .i64 eh)) (go_keep) (fail)
      go_wp2
      go_roundw
      case rel => exact ⟨k + 1, by first | omega | (have := HK.out; omega), by go_num, (((((((((HBT.out.setCell HS.out.1 _).setCell HS.out.1 _).setCell HS.out.1 _).setCell HS.out.1 _).setCell HS.out.2 _).setCell HS.out.2 _).setCell HS.out.2 _).setCell HS.out.2 _)).drew⟩
      case measure => first | (simp [intOf]; done) | (simp [intOf]; omega) | (have := HK.out; simp [intOf]; omega)

end Go.Proofs.YtcclbcnmkaobpaaGreatDoor

namespace Go.Proofs.YtcclbcnmkaobpaaGreatDoor
open Go.RowKit

set_option maxRecDepth 100000 in
set_option maxHeartbeats 8000000 in
theorem order_tde (tl : ByteArray) (el : Int) (th : ByteArray) (eh : Int) (ea : Int) (p : Int) (w : World) (htab : Tab w) (q1 : (tl.toList == th.toList) = false) (q2 : (th.toList == tl.toList) = false) (q3 : (el == ea) = false) (g0 : ∀ W, Tab W → Calls Tryz.prog 11 #[.agg #[.int .i64 0, .bool true, .string tl, .int .i64 ea], .int .i64 p, .int .i64 0] W fun e w' => e = .returned (.tuple #[.agg #[.int .i64 0, .bool true, .string th, .int .i64 eh], .int .i64 0]) ∧ Below W.heap.size W w') (g1 : ∀ W, Tab W → Calls Tryz.prog 11 #[.agg #[.int .i64 0, .bool true, .string tl, .int .i64 ea], .int .i64 p, .int .i64 1] W fun e w' => e = .returned (.tuple #[.agg #[.int .i64 0, .bool true, .string tl, .int .i64 el], .int .i64 0]) ∧ Below W.heap.size W w') (g2 : ∀ W, Tab W → Calls Tryz.prog 11 #[.agg #[.int .i64 0, .bool true, .string tl, .int .i64 ea], .int .i64 p, .int .i64 2] W fun e w' => e = .returned (.tuple #[.agg #[.int .i64 0, .bool true, .string th, .int .i64 eh], .int .i64 0]) ∧ Below W.heap.size W w') (g3 : ∀ W, Tab W → Calls Tryz.prog 11 #[.agg #[.int .i64 0, .bool true, .string tl, .int .i64 ea], .int .i64 p, .int .i64 3] W fun e w' => e = .returned (.tuple #[.agg #[.int .i64 0, .bool true, .string tl, .int .i64 el], .int .i64 0]) ∧ Below W.heap.size W w') (g4 : ∀ k : Nat, 4 ≤ k → k < 8 → (∀ W, Tab W → Calls Tryz.prog 11 #[.agg #[.int .i64 0, .bool true, .string tl, .int .i64 ea], .int .i64 p, .int .i64 (k : Int)] W fun e w' => e = .returned (.tuple #[.agg #[.int .i64 0, .bool true, .string tl, .int .i64 el], .int .i64 0]) ∧ Below W.heap.size W w') ∨ (∀ W, Tab W → Calls Tryz.prog 11 #[.agg #[.int .i64 0, .bool true, .string tl, .int .i64 ea], .int .i64 p, .int .i64 (k : Int)] W fun e w' => e = .returned (.tuple #[.agg #[.int .i64 0, .bool true, .string th, .int .i64 eh], .int .i64 0]) ∧ Below W.heap.size W w')) (g5 : ∀ W, Calls Tryz.prog 20 #[.agg #[.int .i64 0, .bool true, .string th, .int .i64 eh], .agg #[.int .i64 0, .bool true, .string tl, .int .i64 el]] W fun e w' => e = .returned (.bool false) ∧ Below W.heap.size W w') : Calls Tryz.prog 10 #[.agg #[.int .i64 0, .bool true, .string tl, .int .i64 ea], .int .i64 p] w fun e w' => e = .returned (.bool true) ∧ Below w.heap.size w w' := by
  have H0 := hide g0
  have H1 := hide g1
  have H2 := hide g2
  have H3 := hide g3
  have H4 := hide g4
  have H5 := hide g5
  have HT := hide htab
  clear htab g0 g1 g2 g3 g4 g5
  have Ba0 := hide (Blk.newAt w (w.heap.size) (rfl) #[.int .i64 0, .bool true, .string tl, .int .i64 ea] 23)
  have HB0 : Hid (Below w.heap.size w (w.alloc (.cells #[.int .i64 0, .bool true, .string tl, .int .i64 ea] 23))) := ((Below.refl _ _).alloc (Nat.le_refl _) _)
  go_enter Tryz.func10, Tryz.ntmps10
  go_wp2_with fail
  refine (rawake_any _ (HT.out.below HB0.out)).mono ?_
  rintro e w1 ⟨rfl, hb⟩
  have Ba1 := Blk.on Ba0 hb
  have HB1 := hide (HB0.out.trans (hb.mono HB0.out.size))
  clear hb Ba0 HB0 
  obtain ⟨ya0, ya1, ya2, ya3⟩ := Ba1.out.four
  go_wp2_with fail
  refine (H1.out _ (HT.out.below HB1.out)).mono ?_
  rintro e w2 ⟨rfl, hb⟩
  have Ba2 := Blk.on Ba1 hb
  have HB2 := hide (HB1.out.trans (hb.mono HB1.out.size))
  clear hb Ba1 HB1 ya0 ya1 ya2 ya3
  obtain ⟨ya0, ya1, ya2, ya3⟩ := Ba2.out.four
  have Ba3 := Blk.up Ba2 (.cells #[.int .i64 0, .bool true, .string tl, .int .i64 el] 23)
  have Bl3 := hide ((Blk.newAt w2 (w2.heap.size) (rfl) #[.int .i64 0, .bool true, .string tl, .int .i64 el] 23))
  have HB3 : Hid (Below w.heap.size w (w2.alloc (.cells #[.int .i64 0, .bool true, .string tl, .int .i64 el] 23))) := (HB2.out.alloc HB2.out.size _)
  clear Ba2 HB2 ya0 ya1 ya2 ya3
  obtain ⟨ya0, ya1, ya2, ya3⟩ := Ba3.out.four
  obtain ⟨yl0, yl1, yl2, yl3⟩ := Bl3.out.four
  go_wp2_with fail
  refine (H0.out _ (HT.out.below HB3.out)).mono ?_
  rintro e w4 ⟨rfl, hb⟩
  have Ba4 := Blk.on Ba3 hb
  have Bl4 := Blk.on Bl3 hb
  have HB4 := hide (HB3.out.trans (hb.mono HB3.out.size))
  clear hb Ba3 Bl3 HB3 ya0 ya1 ya2 ya3 yl0 yl1 yl2 yl3
  obtain ⟨ya0, ya1, ya2, ya3⟩ := Ba4.out.four
  obtain ⟨yl0, yl1, yl2, yl3⟩ := Bl4.out.four
  have Ba5 := Blk.up Ba4 (.cells #[.int .i64 0, .bool true, .string th, .int .i64 eh] 23)
  have Bl5 := Blk.up Bl4 (.cells #[.int .i64 0, .bool true, .string th, .int .i64 eh] 23)
  have Bh5 := hide ((Blk.newAt w4 (w4.heap.size) (rfl) #[.int .i64 0, .bool true, .string th, .int .i64 eh] 23))
  have HB5 : Hid (Below w.heap.size w (w4.alloc (.cells #[.int .i64 0, .bool true, .string th, .int .i64 eh] 23))) := (HB4.out.alloc HB4.out.size _)
  clear Ba4 Bl4 HB4 ya0 ya1 ya2 ya3 yl0 yl1 yl2 yl3
  obtain ⟨ya0, ya1, ya2, ya3⟩ := Ba5.out.four
  obtain ⟨yl0, yl1, yl2, yl3⟩ := Bl5.out.four
  obtain ⟨yh0, yh1, yh2, yh3⟩ := Bh5.out.four
  obtain ⟨W2, hW2⟩ : ∃ W2, W2 = (w4.alloc (.cells #[.int .i64 0, .bool true, .string th, .int .i64 eh] 23)) := ⟨_, rfl⟩
  rw [← hW2] at HB5 Ba5 Bl5 Bh5 ya0 ya1 ya2 ya3 yl0 yl1 yl2 yl3 yh0 yh1 yh2 yh3
  have HW2 := hide hW2
  clear hW2
  go_wp2
  simp only [← HW2.out]
  go_loopw [9] (fun iv wr => ∃ k : Nat, k ≤ 8 ∧ iv = .int .i64 (k : Int) ∧ Hid (Below W2.heap.size W2 wr)) (fun iv _ => 8 - (intOf iv).toNat)
  case atStart => exact ⟨0, by omega, rfl, Below.refl _ _⟩
  case round =>
    obtain ⟨k, hk, rfl, hbr⟩ := hrel
    have Ba6 := hide (Ba5.out.below hbr.out Ba5.out.lt)
    have Bl6 := hide (Bl5.out.below hbr.out Bl5.out.lt)
    have Bh6 := hide (Bh5.out.below hbr.out Bh5.out.lt)
    have HB6 := hide (HB5.out.trans (hbr.out.mono HB5.out.size))
    have HBR : Hid (Below W2.heap.size W2 wr) := hbr
    clear hbr HW2 Ba5 Bl5 Bh5 HB5 ya0 ya1 ya2 ya3 yl0 yl1 yl2 yl3 yh0 yh1 yh2 yh3
    obtain ⟨ya0, ya1, ya2, ya3⟩ := Ba6.out.four
    obtain ⟨yl0, yl1, yl2, yl3⟩ := Bl6.out.four
    obtain ⟨yh0, yh1, yh2, yh3⟩ := Bh6.out.four
    by_cases hk8 : k = 8
    · skip
      subst hk8
      clear hk HBR HT H0 H1 H2 H3 H4
      have b0 : Hid (Below wr.heap.size wr wr.drew) := bdrewD wr
      have C0 : Hid (∀ X, Hid (Below wr.heap.size wr X) → Calls Tryz.prog 20 #[.agg #[.int .i64 0, .bool true, .string th, .int .i64 eh], .agg #[.int .i64 0, .bool true, .string tl, .int .i64 el]] X fun e w' => e = .returned (.bool false) ∧ Hid (Below wr.heap.size wr w') ∧ w'.cell? ⟨w.heap.size, 0, none⟩ = some (.int .i64 0) ∧ w'.cell? ⟨w.heap.size, 1, none⟩ = some (.bool true) ∧ w'.cell? ⟨w.heap.size, 2, none⟩ = some (.string tl) ∧ w'.cell? ⟨w.heap.size, 3, none⟩ = some (.int .i64 ea) ∧ w'.cell? ⟨w2.heap.size, 0, none⟩ = some (.int .i64 0) ∧ w'.cell? ⟨w2.heap.size, 1, none⟩ = some (.bool true) ∧ w'.cell? ⟨w2.heap.size, 2, none⟩ = some (.string tl) ∧ w'.cell? ⟨w2.heap.size, 3, none⟩ = some (.int .i64 el) ∧ w'.cell? ⟨w4.heap.size, 0, none⟩ = some (.int .i64 0) ∧ w'.cell? ⟨w4.heap.size, 1, none⟩ = some (.bool true) ∧ w'.cell? ⟨w4.heap.size, 2, none⟩ = some (.string th) ∧ w'.cell? ⟨w4.heap.size, 3, none⟩ = some (.int .i64 eh)) := by
        intro X bX
        refine (H5.out X).mono ?_
        rintro e w' ⟨rfl, hb⟩
        have bb := bX.out.trans (hb.mono bX.out.size)
        have Baq := Ba6.out.below bb Ba6.out.lt
        have Blq := Bl6.out.below bb Bl6.out.lt
        have Bhq := Bh6.out.below bb Bh6.out.lt
        exact ⟨rfl, bb, Baq.cell 0, Baq.cell 1, Baq.cell 2, Baq.cell 3, Blq.cell 0, Blq.cell 1, Blq.cell 2, Blq.cell 3, Bhq.cell 0, Bhq.cell 1, Bhq.cell 2, Bhq.cell 3⟩
      go_wp2_with fail
      have mk0 : True := trivial
      go_region_held3 (fun w' => w'.cell? ⟨w.heap.size, 0, none⟩ = some (.int .i64 0) ∧ w'.cell? ⟨w.heap.size, 1, none⟩ = some (.bool true) ∧ w'.cell? ⟨w.heap.size, 2, none⟩ = some (.string tl) ∧ w'.cell? ⟨w.heap.size, 3, none⟩ = some (.int .i64 ea) ∧ w'.cell? ⟨w2.heap.size, 0, none⟩ = some (.int .i64 0) ∧ w'.cell? ⟨w2.heap.size, 1, none⟩ = some (.bool true) ∧ w'.cell? ⟨w2.heap.size, 2, none⟩ = some (.string tl) ∧ w'.cell? ⟨w2.heap.size, 3, none⟩ = some (.int .i64 el) ∧ w'.cell? ⟨w4.heap.size, 0, none⟩ = some (.int .i64 0) ∧ w'.cell? ⟨w4.heap.size, 1, none⟩ = some (.bool true) ∧ w'.cell? ⟨w4.heap.size, 2, none⟩ = some (.string th) ∧ w'.cell? ⟨w4.heap.size, 3, none⟩ = some (.int .i64 eh)) (go_keep) (first
        | (clear mk0; go_at_call 20; refine (C0.out _ b0).mono ?_; rintro e w7 ⟨rfl, b1, q0_0, q0_1, q0_2, q0_3, q0_4, q0_5, q0_6, q0_7, q0_8, q0_9, q0_10, q0_11⟩; have mk1 : True := trivial))
      have Ba7 := hide (Ba6.out.below b1.out Ba6.out.lt)
      have Bl7 := hide (Bl6.out.below b1.out Bl6.out.lt)
      have Bh7 := hide (Bh6.out.below b1.out Bh6.out.lt)
      have HB7 := hide (HB6.out.trans (b1.out.mono HB6.out.size))
      clear mk1 b0 b1 C0 q0_0 q0_1 q0_2 q0_3 q0_4 q0_5 q0_6 q0_7 q0_8 q0_9 q0_10 q0_11 Ba6 Bl6 Bh6 HB6 ya0 ya1 ya2 ya3 yl0 yl1 yl2 yl3 yh0 yh1 yh2 yh3
      obtain ⟨ya0, ya1, ya2, ya3⟩ := Ba7.out.four
      obtain ⟨yl0, yl1, yl2, yl3⟩ := Bl7.out.four
      obtain ⟨yh0, yh1, yh2, yh3⟩ := Bh7.out.four
      go_wp2
      go_ret
      exact ⟨rfl, HB7.out⟩
    by_cases j0 : k = 0
    · skip
      obtain rfl : k = 0 := by omega
      clear hk hk8
      go_wp2_with fail
      refine (H0.out _ (HT.out.below HB6.out)).mono ?_
      rintro e w7 ⟨rfl, hb⟩
      have HBS := hide (HBR.out.trans (hb.mono HBR.out.size))
      clear HBR
      have Ba7 := Blk.on Ba6 hb
      have Bl7 := Blk.on Bl6 hb
      have Bh7 := Blk.on Bh6 hb
      have HB7 := hide (HB6.out.trans (hb.mono HB6.out.size))
      clear hb Ba6 Bl6 Bh6 HB6 ya0 ya1 ya2 ya3 yl0 yl1 yl2 yl3 yh0 yh1 yh2 yh3
      obtain ⟨ya0, ya1, ya2, ya3⟩ := Ba7.out.four
      obtain ⟨yl0, yl1, yl2, yl3⟩ := Bl7.out.four
      obtain ⟨yh0, yh1, yh2, yh3⟩ := Bh7.out.four
      have Ba8 := Blk.up Ba7 (.cells #[.int .i64 0, .bool true, .string th, .int .i64 eh] 23)
      have Bl8 := Blk.up Bl7 (.cells #[.int .i64 0, .bool true, .string th, .int .i64 eh] 23)
      have Bh8 := Blk.up Bh7 (.cells #[.int .i64 0, .bool true, .string th, .int .i64 eh] 23)
      have Bx8 := hide ((Blk.newAt w7 (w7.heap.size) (rfl) #[.int .i64 0, .bool true, .string th, .int .i64 eh] 23))
      have HB8 : Hid (Below w.heap.size w (w7.alloc (.cells #[.int .i64 0, .bool true, .string th, .int .i64 eh] 23))) := (HB7.out.alloc HB7.out.size _)
      clear Ba7 Bl7 Bh7 HB7 ya0 ya1 ya2 ya3 yl0 yl1 yl2 yl3 yh0 yh1 yh2 yh3
      obtain ⟨ya0, ya1, ya2, ya3⟩ := Ba8.out.four
      obtain ⟨yl0, yl1, yl2, yl3⟩ := Bl8.out.four
      obtain ⟨yh0, yh1, yh2, yh3⟩ := Bh8.out.four
      obtain ⟨yx0, yx1, yx2, yx3⟩ := Bx8.out.four
      go_wp2
      obtain ⟨W3, hW3⟩ : ∃ W3, W3 = (w7.alloc (.cells #[.int .i64 0, .bool true, .string th, .int .i64 eh] 23)) := ⟨_, rfl⟩
      rw [← hW3] at HB8 Ba8 Bl8 Bh8 Bx8 ya0 ya1 ya2 ya3 yl0 yl1 yl2 yl3 yh0 yh1 yh2 yh3 yx0 yx1 yx2 yx3
      have HW3 := hide hW3
      clear hW3
      have HL : Hid (w2.heap.size < W3.heap.size ∧ w4.heap.size < W3.heap.size) := ⟨Bl8.out.lt, Bh8.out.lt⟩
      simp only [← HW3.out]
      go_cut [12, 13] (fun vp vq wx => Cut2D W3 #[.int .i64 0, .bool true, .string tl, .int .i64 el] #[.int .i64 0, .bool true, .string th, .int .i64 eh] vp vq wx)
      case first =>
        have nl3 : ¬ w2.heap.size = W3.heap.size := (by have := HL.out; omega)
        have ml3 : ¬ W3.heap.size = w2.heap.size := (by have := HL.out; omega)
        have nh3 : ¬ w4.heap.size = W3.heap.size := (by have := HL.out; omega)
        have mh3 : ¬ W3.heap.size = w4.heap.size := (by have := HL.out; omega)
        go_region_held3 (fun w' => w'.cell? ⟨w2.heap.size, 0, none⟩ = some (.int .i64 0) ∧ w'.cell? ⟨w2.heap.size, 1, none⟩ = some (.bool true) ∧ w'.cell? ⟨w2.heap.size, 2, none⟩ = some (.string tl) ∧ w'.cell? ⟨w2.heap.size, 3, none⟩ = some (.int .i64 el) ∧ w'.cell? ⟨w4.heap.size, 0, none⟩ = some (.int .i64 0) ∧ w'.cell? ⟨w4.heap.size, 1, none⟩ = some (.bool true) ∧ w'.cell? ⟨w4.heap.size, 2, none⟩ = some (.string th) ∧ w'.cell? ⟨w4.heap.size, 3, none⟩ = some (.int .i64 eh)) (go_keep) (fail)
        all_goals (go_wp2_with fail; go_meet)
        all_goals (first | exact cut2_a | exact cut2_b)
      obtain ⟨⟨H, K, rfl, rfl, hq, hr, hH, hK, hHK, hbc⟩⟩ := hcut
      obtain ⟨w9, hwk⟩ : ∃ x, x = wc := ⟨_, rfl⟩
      subst hwk
      have Ba9 := hide (Ba8.out.below hbc Ba8.out.lt)
      have Bl9 := hide (Bl8.out.below hbc Bl8.out.lt)
      have Bh9 := hide (Bh8.out.below hbc Bh8.out.lt)
      have Bx9 := hide (Bx8.out.below hbc Bx8.out.lt)
      have Bn9 := hide hq
      have Bf9 := hide hr
      have HB9 := hide (HB8.out.trans (hbc.mono HB8.out.size))
      have HBT := hide (HBS.out.trans ((HW3.out ▸ ((Below.refl _ _).alloc (Nat.le_refl _) _ : Below _ _ _) : Below w7.heap.size w7 W3).trans (hbc.mono (by rw [HW3.out]; simp)) |>.mono HBS.out.size))
      have hhk : ¬ K = H := fun g => hHK g.symm
      have HHK := hide (show w.heap.size ≤ H ∧ w.heap.size ≤ K from ⟨Nat.le_trans HB8.out.size hH, Nat.le_trans HB8.out.size hK⟩)
      have HS := hide (show W2.heap.size ≤ H ∧ W2.heap.size ≤ K from (by have g1 := HBS.out.size; have g2 : w7.heap.size ≤ W3.heap.size := (by rw [HW3.out]; simp); omega))
      have ia1 : ¬ H = w.heap.size := by have := Ba8.out.lt; omega
      have ia2 : ¬ w.heap.size = H := by have := Ba8.out.lt; omega
      have ia3 : ¬ K = w.heap.size := by have := Ba8.out.lt; omega
      have ia4 : ¬ w.heap.size = K := by have := Ba8.out.lt; omega
      have ih1 : ¬ H = w4.heap.size := by have := Bh8.out.lt; omega
      have ih2 : ¬ w4.heap.size = H := by have := Bh8.out.lt; omega
      have ih3 : ¬ K = w4.heap.size := by have := Bh8.out.lt; omega
      have ih4 : ¬ w4.heap.size = K := by have := Bh8.out.lt; omega
      have il1 : ¬ H = w2.heap.size := by have := Bl8.out.lt; omega
      have il2 : ¬ w2.heap.size = H := by have := Bl8.out.lt; omega
      have il3 : ¬ K = w2.heap.size := by have := Bl8.out.lt; omega
      have il4 : ¬ w2.heap.size = K := by have := Bl8.out.lt; omega
      have ix1 : ¬ H = w7.heap.size := by have := Bx8.out.lt; omega
      have ix2 : ¬ w7.heap.size = H := by have := Bx8.out.lt; omega
      have ix3 : ¬ K = w7.heap.size := by have := Bx8.out.lt; omega
      have ix4 : ¬ w7.heap.size = K := by have := Bx8.out.lt; omega
      have fn0 := Bn9.out.free 0
      have fn1 := Bn9.out.free 1
      have fn2 := Bn9.out.free 2
      have fn3 := Bn9.out.free 3
      have ff0 := Bf9.out.free 0
      have ff1 := Bf9.out.free 1
      have ff2 := Bf9.out.free 2
      have ff3 := Bf9.out.free 3
      clear HL HBS hq hr hH hK hbc HW3 Ba8 Bl8 Bh8 Bx8 HB8 ya0 ya1 ya2 ya3 yl0 yl1 yl2 yl3 yh0 yh1 yh2 yh3 yx0 yx1 yx2 yx3
      obtain ⟨ya0, ya1, ya2, ya3⟩ := Ba9.out.four
      obtain ⟨yl0, yl1, yl2, yl3⟩ := Bl9.out.four
      obtain ⟨yh0, yh1, yh2, yh3⟩ := Bh9.out.four
      obtain ⟨yx0, yx1, yx2, yx3⟩ := Bx9.out.four
      obtain ⟨yn0, yn1, yn2, yn3⟩ := Bn9.out.four
      obtain ⟨yf0, yf1, yf2, yf3⟩ := Bf9.out.four
      go_wp2
      go_region_held3 (fun w' => w'.cell? ⟨w2.heap.size, 0, none⟩ = some (.int .i64 0) ∧ w'.cell? ⟨w2.heap.size, 1, none⟩ = some (.bool true) ∧ w'.cell? ⟨w2.heap.size, 2, none⟩ = some (.string tl) ∧ w'.cell? ⟨w2.heap.size, 3, none⟩ = some (.int .i64 el) ∧ w'.cell? ⟨w4.heap.size, 0, none⟩ = some (.int .i64 0) ∧ w'.cell? ⟨w4.heap.size, 1, none⟩ = some (.bool true) ∧ w'.cell? ⟨w4.heap.size, 2, none⟩ = some (.string th) ∧ w'.cell? ⟨w4.heap.size, 3, none⟩ = some (.int .i64 eh)) (go_keep) (fail)
      go_wp2
      go_roundw
      case rel => exact ⟨0 + 1, by first | omega | (have := HK.out; omega), by go_num, (((((((((HBT.out.setCell HS.out.1 _).setCell HS.out.1 _).setCell HS.out.1 _).setCell HS.out.1 _).setCell HS.out.2 _).setCell HS.out.2 _).setCell HS.out.2 _).setCell HS.out.2 _)).drew⟩
      case measure => first | (simp [intOf]; done) | (simp [intOf]; omega) | (have := HK.out; simp [intOf]; omega)
    by_cases j1 : k = 1
    · skip
      obtain rfl : k = 1 := by omega
      clear hk hk8
      go_wp2_with fail
      refine (H1.out _ (HT.out.below HB6.out)).mono ?_
      rintro e w7 ⟨rfl, hb⟩
      have HBS := hide (HBR.out.trans (hb.mono HBR.out.size))
      clear HBR
      have Ba7 := Blk.on Ba6 hb
      have Bl7 := Blk.on Bl6 hb
      have Bh7 := Blk.on Bh6 hb
      have HB7 := hide (HB6.out.trans (hb.mono HB6.out.size))
      clear hb Ba6 Bl6 Bh6 HB6 ya0 ya1 ya2 ya3 yl0 yl1 yl2 yl3 yh0 yh1 yh2 yh3
      obtain ⟨ya0, ya1, ya2, ya3⟩ := Ba7.out.four
      obtain ⟨yl0, yl1, yl2, yl3⟩ := Bl7.out.four
      obtain ⟨yh0, yh1, yh2, yh3⟩ := Bh7.out.four
      have Ba8 := Blk.up Ba7 (.cells #[.int .i64 0, .bool true, .string tl, .int .i64 el] 23)
      have Bl8 := Blk.up Bl7 (.cells #[.int .i64 0, .bool true, .string tl, .int .i64 el] 23)
      have Bh8 := Blk.up Bh7 (.cells #[.int .i64 0, .bool true, .string tl, .int .i64 el] 23)
      have Bx8 := hide ((Blk.newAt w7 (w7.heap.size) (rfl) #[.int .i64 0, .bool true, .string tl, .int .i64 el] 23))
      have HB8 : Hid (Below w.heap.size w (w7.alloc (.cells #[.int .i64 0, .bool true, .string tl, .int .i64 el] 23))) := (HB7.out.alloc HB7.out.size _)
      clear Ba7 Bl7 Bh7 HB7 ya0 ya1 ya2 ya3 yl0 yl1 yl2 yl3 yh0 yh1 yh2 yh3
      obtain ⟨ya0, ya1, ya2, ya3⟩ := Ba8.out.four
      obtain ⟨yl0, yl1, yl2, yl3⟩ := Bl8.out.four
      obtain ⟨yh0, yh1, yh2, yh3⟩ := Bh8.out.four
      obtain ⟨yx0, yx1, yx2, yx3⟩ := Bx8.out.four
      go_wp2
      obtain ⟨W3, hW3⟩ : ∃ W3, W3 = (w7.alloc (.cells #[.int .i64 0, .bool true, .string tl, .int .i64 el] 23)) := ⟨_, rfl⟩
      rw [← hW3] at HB8 Ba8 Bl8 Bh8 Bx8 ya0 ya1 ya2 ya3 yl0 yl1 yl2 yl3 yh0 yh1 yh2 yh3 yx0 yx1 yx2 yx3
      have HW3 := hide hW3
      clear hW3
      have HL : Hid (w2.heap.size < W3.heap.size ∧ w4.heap.size < W3.heap.size) := ⟨Bl8.out.lt, Bh8.out.lt⟩
      simp only [← HW3.out]
      go_cut [12, 13] (fun vp vq wx => Cut2D W3 #[.int .i64 0, .bool true, .string tl, .int .i64 el] #[.int .i64 0, .bool true, .string th, .int .i64 eh] vp vq wx)
      case first =>
        have nl3 : ¬ w2.heap.size = W3.heap.size := (by have := HL.out; omega)
        have ml3 : ¬ W3.heap.size = w2.heap.size := (by have := HL.out; omega)
        have nh3 : ¬ w4.heap.size = W3.heap.size := (by have := HL.out; omega)
        have mh3 : ¬ W3.heap.size = w4.heap.size := (by have := HL.out; omega)
        go_region_held3 (fun w' => w'.cell? ⟨w2.heap.size, 0, none⟩ = some (.int .i64 0) ∧ w'.cell? ⟨w2.heap.size, 1, none⟩ = some (.bool true) ∧ w'.cell? ⟨w2.heap.size, 2, none⟩ = some (.string tl) ∧ w'.cell? ⟨w2.heap.size, 3, none⟩ = some (.int .i64 el) ∧ w'.cell? ⟨w4.heap.size, 0, none⟩ = some (.int .i64 0) ∧ w'.cell? ⟨w4.heap.size, 1, none⟩ = some (.bool true) ∧ w'.cell? ⟨w4.heap.size, 2, none⟩ = some (.string th) ∧ w'.cell? ⟨w4.heap.size, 3, none⟩ = some (.int .i64 eh)) (go_keep) (fail)
        all_goals (go_wp2_with fail; go_meet)
        all_goals (first | exact cut2_a | exact cut2_b)
      obtain ⟨⟨H, K, rfl, rfl, hq, hr, hH, hK, hHK, hbc⟩⟩ := hcut
      obtain ⟨w9, hwk⟩ : ∃ x, x = wc := ⟨_, rfl⟩
      subst hwk
      have Ba9 := hide (Ba8.out.below hbc Ba8.out.lt)
      have Bl9 := hide (Bl8.out.below hbc Bl8.out.lt)
      have Bh9 := hide (Bh8.out.below hbc Bh8.out.lt)
      have Bx9 := hide (Bx8.out.below hbc Bx8.out.lt)
      have Bn9 := hide hq
      have Bf9 := hide hr
      have HB9 := hide (HB8.out.trans (hbc.mono HB8.out.size))
      have HBT := hide (HBS.out.trans ((HW3.out ▸ ((Below.refl _ _).alloc (Nat.le_refl _) _ : Below _ _ _) : Below w7.heap.size w7 W3).trans (hbc.mono (by rw [HW3.out]; simp)) |>.mono HBS.out.size))
      have hhk : ¬ K = H := fun g => hHK g.symm
      have HHK := hide (show w.heap.size ≤ H ∧ w.heap.size ≤ K from ⟨Nat.le_trans HB8.out.size hH, Nat.le_trans HB8.out.size hK⟩)
      have HS := hide (show W2.heap.size ≤ H ∧ W2.heap.size ≤ K from (by have g1 := HBS.out.size; have g2 : w7.heap.size ≤ W3.heap.size := (by rw [HW3.out]; simp); omega))
      have ia1 : ¬ H = w.heap.size := by have := Ba8.out.lt; omega
      have ia2 : ¬ w.heap.size = H := by have := Ba8.out.lt; omega
      have ia3 : ¬ K = w.heap.size := by have := Ba8.out.lt; omega
      have ia4 : ¬ w.heap.size = K := by have := Ba8.out.lt; omega
      have ih1 : ¬ H = w4.heap.size := by have := Bh8.out.lt; omega
      have ih2 : ¬ w4.heap.size = H := by have := Bh8.out.lt; omega
      have ih3 : ¬ K = w4.heap.size := by have := Bh8.out.lt; omega
      have ih4 : ¬ w4.heap.size = K := by have := Bh8.out.lt; omega
      have il1 : ¬ H = w2.heap.size := by have := Bl8.out.lt; omega
      have il2 : ¬ w2.heap.size = H := by have := Bl8.out.lt; omega
      have il3 : ¬ K = w2.heap.size := by have := Bl8.out.lt; omega
      have il4 : ¬ w2.heap.size = K := by have := Bl8.out.lt; omega
      have ix1 : ¬ H = w7.heap.size := by have := Bx8.out.lt; omega
      have ix2 : ¬ w7.heap.size = H := by have := Bx8.out.lt; omega
      have ix3 : ¬ K = w7.heap.size := by have := Bx8.out.lt; omega
      have ix4 : ¬ w7.heap.size = K := by have := Bx8.out.lt; omega
      have fn0 := Bn9.out.free 0
      have fn1 := Bn9.out.free 1
      have fn2 := Bn9.out.free 2
      have fn3 := Bn9.out.free 3
      have ff0 := Bf9.out.free 0
      have ff1 := Bf9.out.free 1
      have ff2 := Bf9.out.free 2
      have ff3 := Bf9.out.free 3
      clear HL HBS hq hr hH hK hbc HW3 Ba8 Bl8 Bh8 Bx8 HB8 ya0 ya1 ya2 ya3 yl0 yl1 yl2 yl3 yh0 yh1 yh2 yh3 yx0 yx1 yx2 yx3
      obtain ⟨ya0, ya1, ya2, ya3⟩ := Ba9.out.four
      obtain ⟨yl0, yl1, yl2, yl3⟩ := Bl9.out.four
      obtain ⟨yh0, yh1, yh2, yh3⟩ := Bh9.out.four
      obtain ⟨yx0, yx1, yx2, yx3⟩ := Bx9.out.four
      obtain ⟨yn0, yn1, yn2, yn3⟩ := Bn9.out.four
      obtain ⟨yf0, yf1, yf2, yf3⟩ := Bf9.out.four
      go_wp2
      go_region_held3 (fun w' => w'.cell? ⟨w2.heap.size, 0, none⟩ = some (.int .i64 0) ∧ w'.cell? ⟨w2.heap.size, 1, none⟩ = some (.bool true) ∧ w'.cell? ⟨w2.heap.size, 2, none⟩ = some (.string tl) ∧ w'.cell? ⟨w2.heap.size, 3, none⟩ = some (.int .i64 el) ∧ w'.cell? ⟨w4.heap.size, 0, none⟩ = some (.int .i64 0) ∧ w'.cell? ⟨w4.heap.size, 1, none⟩ = some (.bool true) ∧ w'.cell? ⟨w4.heap.size, 2, none⟩ = some (.string th) ∧ w'.cell? ⟨w4.heap.size, 3, none⟩ = some (.int .i64 eh)) (go_keep) (fail)
      go_wp2
      go_roundw
      case rel => exact ⟨1 + 1, by first | omega | (have := HK.out; omega), by go_num, (((((((((HBT.out.setCell HS.out.1 _).setCell HS.out.1 _).setCell HS.out.1 _).setCell HS.out.1 _).setCell HS.out.2 _).setCell HS.out.2 _).setCell HS.out.2 _).setCell HS.out.2 _)).drew⟩
      case measure => first | (simp [intOf]; done) | (simp [intOf]; omega) | (have := HK.out; simp [intOf]; omega)
    by_cases j2 : k = 2
    · skip
      obtain rfl : k = 2 := by omega
      clear hk hk8
      go_wp2_with fail
      refine (H2.out _ (HT.out.below HB6.out)).mono ?_
      rintro e w7 ⟨rfl, hb⟩
      have HBS := hide (HBR.out.trans (hb.mono HBR.out.size))
      clear HBR
      have Ba7 := Blk.on Ba6 hb
      have Bl7 := Blk.on Bl6 hb
      have Bh7 := Blk.on Bh6 hb
      have HB7 := hide (HB6.out.trans (hb.mono HB6.out.size))
      clear hb Ba6 Bl6 Bh6 HB6 ya0 ya1 ya2 ya3 yl0 yl1 yl2 yl3 yh0 yh1 yh2 yh3
      obtain ⟨ya0, ya1, ya2, ya3⟩ := Ba7.out.four
      obtain ⟨yl0, yl1, yl2, yl3⟩ := Bl7.out.four
      obtain ⟨yh0, yh1, yh2, yh3⟩ := Bh7.out.four
      have Ba8 := Blk.up Ba7 (.cells #[.int .i64 0, .bool true, .string th, .int .i64 eh] 23)
      have Bl8 := Blk.up Bl7 (.cells #[.int .i64 0, .bool true, .string th, .int .i64 eh] 23)
      have Bh8 := Blk.up Bh7 (.cells #[.int .i64 0, .bool true, .string th, .int .i64 eh] 23)
      have Bx8 := hide ((Blk.newAt w7 (w7.heap.size) (rfl) #[.int .i64 0, .bool true, .string th, .int .i64 eh] 23))
      have HB8 : Hid (Below w.heap.size w (w7.alloc (.cells #[.int .i64 0, .bool true, .string th, .int .i64 eh] 23))) := (HB7.out.alloc HB7.out.size _)
      clear Ba7 Bl7 Bh7 HB7 ya0 ya1 ya2 ya3 yl0 yl1 yl2 yl3 yh0 yh1 yh2 yh3
      obtain ⟨ya0, ya1, ya2, ya3⟩ := Ba8.out.four
      obtain ⟨yl0, yl1, yl2, yl3⟩ := Bl8.out.four
      obtain ⟨yh0, yh1, yh2, yh3⟩ := Bh8.out.four
      obtain ⟨yx0, yx1, yx2, yx3⟩ := Bx8.out.four
      go_wp2
      obtain ⟨W3, hW3⟩ : ∃ W3, W3 = (w7.alloc (.cells #[.int .i64 0, .bool true, .string th, .int .i64 eh] 23)) := ⟨_, rfl⟩
      rw [← hW3] at HB8 Ba8 Bl8 Bh8 Bx8 ya0 ya1 ya2 ya3 yl0 yl1 yl2 yl3 yh0 yh1 yh2 yh3 yx0 yx1 yx2 yx3
      have HW3 := hide hW3
      clear hW3
      have HL : Hid (w2.heap.size < W3.heap.size ∧ w4.heap.size < W3.heap.size) := ⟨Bl8.out.lt, Bh8.out.lt⟩
      simp only [← HW3.out]
      go_cut [12, 13] (fun vp vq wx => Cut2D W3 #[.int .i64 0, .bool true, .string tl, .int .i64 el] #[.int .i64 0, .bool true, .string th, .int .i64 eh] vp vq wx)
      case first =>
        have nl3 : ¬ w2.heap.size = W3.heap.size := (by have := HL.out; omega)
        have ml3 : ¬ W3.heap.size = w2.heap.size := (by have := HL.out; omega)
        have nh3 : ¬ w4.heap.size = W3.heap.size := (by have := HL.out; omega)
        have mh3 : ¬ W3.heap.size = w4.heap.size := (by have := HL.out; omega)
        go_region_held3 (fun w' => w'.cell? ⟨w2.heap.size, 0, none⟩ = some (.int .i64 0) ∧ w'.cell? ⟨w2.heap.size, 1, none⟩ = some (.bool true) ∧ w'.cell? ⟨w2.heap.size, 2, none⟩ = some (.string tl) ∧ w'.cell? ⟨w2.heap.size, 3, none⟩ = some (.int .i64 el) ∧ w'.cell? ⟨w4.heap.size, 0, none⟩ = some (.int .i64 0) ∧ w'.cell? ⟨w4.heap.size, 1, none⟩ = some (.bool true) ∧ w'.cell? ⟨w4.heap.size, 2, none⟩ = some (.string th) ∧ w'.cell? ⟨w4.heap.size, 3, none⟩ = some (.int .i64 eh)) (go_keep) (fail)
        all_goals (go_wp2_with fail; go_meet)
        all_goals (first | exact cut2_a | exact cut2_b)
      obtain ⟨⟨H, K, rfl, rfl, hq, hr, hH, hK, hHK, hbc⟩⟩ := hcut
      obtain ⟨w9, hwk⟩ : ∃ x, x = wc := ⟨_, rfl⟩
      subst hwk
      have Ba9 := hide (Ba8.out.below hbc Ba8.out.lt)
      have Bl9 := hide (Bl8.out.below hbc Bl8.out.lt)
      have Bh9 := hide (Bh8.out.below hbc Bh8.out.lt)
      have Bx9 := hide (Bx8.out.below hbc Bx8.out.lt)
      have Bn9 := hide hq
      have Bf9 := hide hr
      have HB9 := hide (HB8.out.trans (hbc.mono HB8.out.size))
      have HBT := hide (HBS.out.trans ((HW3.out ▸ ((Below.refl _ _).alloc (Nat.le_refl _) _ : Below _ _ _) : Below w7.heap.size w7 W3).trans (hbc.mono (by rw [HW3.out]; simp)) |>.mono HBS.out.size))
      have hhk : ¬ K = H := fun g => hHK g.symm
      have HHK := hide (show w.heap.size ≤ H ∧ w.heap.size ≤ K from ⟨Nat.le_trans HB8.out.size hH, Nat.le_trans HB8.out.size hK⟩)
      have HS := hide (show W2.heap.size ≤ H ∧ W2.heap.size ≤ K from (by have g1 := HBS.out.size; have g2 : w7.heap.size ≤ W3.heap.size := (by rw [HW3.out]; simp); omega))
      have ia1 : ¬ H = w.heap.size := by have := Ba8.out.lt; omega
      have ia2 : ¬ w.heap.size = H := by have := Ba8.out.lt; omega
      have ia3 : ¬ K = w.heap.size := by have := Ba8.out.lt; omega
      have ia4 : ¬ w.heap.size = K := by have := Ba8.out.lt; omega
      have ih1 : ¬ H = w4.heap.size := by have := Bh8.out.lt; omega
      have ih2 : ¬ w4.heap.size = H := by have := Bh8.out.lt; omega
      have ih3 : ¬ K = w4.heap.size := by have := Bh8.out.lt; omega
      have ih4 : ¬ w4.heap.size = K := by have := Bh8.out.lt; omega
      have il1 : ¬ H = w2.heap.size := by have := Bl8.out.lt; omega
      have il2 : ¬ w2.heap.size = H := by have := Bl8.out.lt; omega
      have il3 : ¬ K = w2.heap.size := by have := Bl8.out.lt; omega
      have il4 : ¬ w2.heap.size = K := by have := Bl8.out.lt; omega
      have ix1 : ¬ H = w7.heap.size := by have := Bx8.out.lt; omega
      have ix2 : ¬ w7.heap.size = H := by have := Bx8.out.lt; omega
      have ix3 : ¬ K = w7.heap.size := by have := Bx8.out.lt; omega
      have ix4 : ¬ w7.heap.size = K := by have := Bx8.out.lt; omega
      have fn0 := Bn9.out.free 0
      have fn1 := Bn9.out.free 1
      have fn2 := Bn9.out.free 2
      have fn3 := Bn9.out.free 3
      have ff0 := Bf9.out.free 0
      have ff1 := Bf9.out.free 1
      have ff2 := Bf9.out.free 2
      have ff3 := Bf9.out.free 3
      clear HL HBS hq hr hH hK hbc HW3 Ba8 Bl8 Bh8 Bx8 HB8 ya0 ya1 ya2 ya3 yl0 yl1 yl2 yl3 yh0 yh1 yh2 yh3 yx0 yx1 yx2 yx3
      obtain ⟨ya0, ya1, ya2, ya3⟩ := Ba9.out.four
      obtain ⟨yl0, yl1, yl2, yl3⟩ := Bl9.out.four
      obtain ⟨yh0, yh1, yh2, yh3⟩ := Bh9.out.four
      obtain ⟨yx0, yx1, yx2, yx3⟩ := Bx9.out.four
      obtain ⟨yn0, yn1, yn2, yn3⟩ := Bn9.out.four
      obtain ⟨yf0, yf1, yf2, yf3⟩ := Bf9.out.four
      go_wp2
      go_region_held3 (fun w' => w'.cell? ⟨w2.heap.size, 0, none⟩ = some (.int .i64 0) ∧ w'.cell? ⟨w2.heap.size, 1, none⟩ = some (.bool true) ∧ w'.cell? ⟨w2.heap.size, 2, none⟩ = some (.string tl) ∧ w'.cell? ⟨w2.heap.size, 3, none⟩ = some (.int .i64 el) ∧ w'.cell? ⟨w4.heap.size, 0, none⟩ = some (.int .i64 0) ∧ w'.cell? ⟨w4.heap.size, 1, none⟩ = some (.bool true) ∧ w'.cell? ⟨w4.heap.size, 2, none⟩ = some (.string th) ∧ w'.cell? ⟨w4.heap.size, 3, none⟩ = some (.int .i64 eh)) (go_keep) (fail)
      go_wp2
      go_roundw
      case rel => exact ⟨2 + 1, by first | omega | (have := HK.out; omega), by go_num, (((((((((HBT.out.setCell HS.out.1 _).setCell HS.out.1 _).setCell HS.out.1 _).setCell HS.out.1 _).setCell HS.out.2 _).setCell HS.out.2 _).setCell HS.out.2 _).setCell HS.out.2 _)).drew⟩
      case measure => first | (simp [intOf]; done) | (simp [intOf]; omega) | (have := HK.out; simp [intOf]; omega)
    by_cases j3 : k = 3
    · skip
      obtain rfl : k = 3 := by omega
      clear hk hk8
      go_wp2_with fail
      refine (H3.out _ (HT.out.below HB6.out)).mono ?_
      rintro e w7 ⟨rfl, hb⟩
      have HBS := hide (HBR.out.trans (hb.mono HBR.out.size))
      clear HBR
      have Ba7 := Blk.on Ba6 hb
      have Bl7 := Blk.on Bl6 hb
      have Bh7 := Blk.on Bh6 hb
      have HB7 := hide (HB6.out.trans (hb.mono HB6.out.size))
      clear hb Ba6 Bl6 Bh6 HB6 ya0 ya1 ya2 ya3 yl0 yl1 yl2 yl3 yh0 yh1 yh2 yh3
      obtain ⟨ya0, ya1, ya2, ya3⟩ := Ba7.out.four
      obtain ⟨yl0, yl1, yl2, yl3⟩ := Bl7.out.four
      obtain ⟨yh0, yh1, yh2, yh3⟩ := Bh7.out.four
      have Ba8 := Blk.up Ba7 (.cells #[.int .i64 0, .bool true, .string tl, .int .i64 el] 23)
      have Bl8 := Blk.up Bl7 (.cells #[.int .i64 0, .bool true, .string tl, .int .i64 el] 23)
      have Bh8 := Blk.up Bh7 (.cells #[.int .i64 0, .bool true, .string tl, .int .i64 el] 23)
      have Bx8 := hide ((Blk.newAt w7 (w7.heap.size) (rfl) #[.int .i64 0, .bool true, .string tl, .int .i64 el] 23))
      have HB8 : Hid (Below w.heap.size w (w7.alloc (.cells #[.int .i64 0, .bool true, .string tl, .int .i64 el] 23))) := (HB7.out.alloc HB7.out.size _)
      clear Ba7 Bl7 Bh7 HB7 ya0 ya1 ya2 ya3 yl0 yl1 yl2 yl3 yh0 yh1 yh2 yh3
      obtain ⟨ya0, ya1, ya2, ya3⟩ := Ba8.out.four
      obtain ⟨yl0, yl1, yl2, yl3⟩ := Bl8.out.four
      obtain ⟨yh0, yh1, yh2, yh3⟩ := Bh8.out.four
      obtain ⟨yx0, yx1, yx2, yx3⟩ := Bx8.out.four
      go_wp2
      obtain ⟨W3, hW3⟩ : ∃ W3, W3 = (w7.alloc (.cells #[.int .i64 0, .bool true, .string tl, .int .i64 el] 23)) := ⟨_, rfl⟩
      rw [← hW3] at HB8 Ba8 Bl8 Bh8 Bx8 ya0 ya1 ya2 ya3 yl0 yl1 yl2 yl3 yh0 yh1 yh2 yh3 yx0 yx1 yx2 yx3
      have HW3 := hide hW3
      clear hW3
      have HL : Hid (w2.heap.size < W3.heap.size ∧ w4.heap.size < W3.heap.size) := ⟨Bl8.out.lt, Bh8.out.lt⟩
      simp only [← HW3.out]
      go_cut [12, 13] (fun vp vq wx => Cut2D W3 #[.int .i64 0, .bool true, .string tl, .int .i64 el] #[.int .i64 0, .bool true, .string th, .int .i64 eh] vp vq wx)
      case first =>
        have nl3 : ¬ w2.heap.size = W3.heap.size := (by have := HL.out; omega)
        have ml3 : ¬ W3.heap.size = w2.heap.size := (by have := HL.out; omega)
        have nh3 : ¬ w4.heap.size = W3.heap.size := (by have := HL.out; omega)
        have mh3 : ¬ W3.heap.size = w4.heap.size := (by have := HL.out; omega)
        go_region_held3 (fun w' => w'.cell? ⟨w2.heap.size, 0, none⟩ = some (.int .i64 0) ∧ w'.cell? ⟨w2.heap.size, 1, none⟩ = some (.bool true) ∧ w'.cell? ⟨w2.heap.size, 2, none⟩ = some (.string tl) ∧ w'.cell? ⟨w2.heap.size, 3, none⟩ = some (.int .i64 el) ∧ w'.cell? ⟨w4.heap.size, 0, none⟩ = some (.int .i64 0) ∧ w'.cell? ⟨w4.heap.size, 1, none⟩ = some (.bool true) ∧ w'.cell? ⟨w4.heap.size, 2, none⟩ = some (.string th) ∧ w'.cell? ⟨w4.heap.size, 3, none⟩ = some (.int .i64 eh)) (go_keep) (fail)
        all_goals (go_wp2_with fail; go_meet)
        all_goals (first | exact cut2_a | exact cut2_b)
      obtain ⟨⟨H, K, rfl, rfl, hq, hr, hH, hK, hHK, hbc⟩⟩ := hcut
      obtain ⟨w9, hwk⟩ : ∃ x, x = wc := ⟨_, rfl⟩
      subst hwk
      have Ba9 := hide (Ba8.out.below hbc Ba8.out.lt)
      have Bl9 := hide (Bl8.out.below hbc Bl8.out.lt)
      have Bh9 := hide (Bh8.out.below hbc Bh8.out.lt)
      have Bx9 := hide (Bx8.out.below hbc Bx8.out.lt)
      have Bn9 := hide hq
      have Bf9 := hide hr
      have HB9 := hide (HB8.out.trans (hbc.mono HB8.out.size))
      have HBT := hide (HBS.out.trans ((HW3.out ▸ ((Below.refl _ _).alloc (Nat.le_refl _) _ : Below _ _ _) : Below w7.heap.size w7 W3).trans (hbc.mono (by rw [HW3.out]; simp)) |>.mono HBS.out.size))
      have hhk : ¬ K = H := fun g => hHK g.symm
      have HHK := hide (show w.heap.size ≤ H ∧ w.heap.size ≤ K from ⟨Nat.le_trans HB8.out.size hH, Nat.le_trans HB8.out.size hK⟩)
      have HS := hide (show W2.heap.size ≤ H ∧ W2.heap.size ≤ K from (by have g1 := HBS.out.size; have g2 : w7.heap.size ≤ W3.heap.size := (by rw [HW3.out]; simp); omega))
      have ia1 : ¬ H = w.heap.size := by have := Ba8.out.lt; omega
      have ia2 : ¬ w.heap.size = H := by have := Ba8.out.lt; omega
      have ia3 : ¬ K = w.heap.size := by have := Ba8.out.lt; omega
      have ia4 : ¬ w.heap.size = K := by have := Ba8.out.lt; omega
      have ih1 : ¬ H = w4.heap.size := by have := Bh8.out.lt; omega
      have ih2 : ¬ w4.heap.size = H := by have := Bh8.out.lt; omega
      have ih3 : ¬ K = w4.heap.size := by have := Bh8.out.lt; omega
      have ih4 : ¬ w4.heap.size = K := by have := Bh8.out.lt; omega
      have il1 : ¬ H = w2.heap.size := by have := Bl8.out.lt; omega
      have il2 : ¬ w2.heap.size = H := by have := Bl8.out.lt; omega
      have il3 : ¬ K = w2.heap.size := by have := Bl8.out.lt; omega
      have il4 : ¬ w2.heap.size = K := by have := Bl8.out.lt; omega
      have ix1 : ¬ H = w7.heap.size := by have := Bx8.out.lt; omega
      have ix2 : ¬ w7.heap.size = H := by have := Bx8.out.lt; omega
      have ix3 : ¬ K = w7.heap.size := by have := Bx8.out.lt; omega
      have ix4 : ¬ w7.heap.size = K := by have := Bx8.out.lt; omega
      have fn0 := Bn9.out.free 0
      have fn1 := Bn9.out.free 1
      have fn2 := Bn9.out.free 2
      have fn3 := Bn9.out.free 3
      have ff0 := Bf9.out.free 0
      have ff1 := Bf9.out.free 1
      have ff2 := Bf9.out.free 2
      have ff3 := Bf9.out.free 3
      clear HL HBS hq hr hH hK hbc HW3 Ba8 Bl8 Bh8 Bx8 HB8 ya0 ya1 ya2 ya3 yl0 yl1 yl2 yl3 yh0 yh1 yh2 yh3 yx0 yx1 yx2 yx3
      obtain ⟨ya0, ya1, ya2, ya3⟩ := Ba9.out.four
      obtain ⟨yl0, yl1, yl2, yl3⟩ := Bl9.out.four
      obtain ⟨yh0, yh1, yh2, yh3⟩ := Bh9.out.four
      obtain ⟨yx0, yx1, yx2, yx3⟩ := Bx9.out.four
      obtain ⟨yn0, yn1, yn2, yn3⟩ := Bn9.out.four
      obtain ⟨yf0, yf1, yf2, yf3⟩ := Bf9.out.four
      go_wp2
      go_region_held3 (fun w' => w'.cell? ⟨w2.heap.size, 0, none⟩ = some (.int .i64 0) ∧ w'.cell? ⟨w2.heap.size, 1, none⟩ = some (.bool true) ∧ w'.cell? ⟨w2.heap.size, 2, none⟩ = some (.string tl) ∧ w'.cell? ⟨w2.heap.size, 3, none⟩ = some (.int .i64 el) ∧ w'.cell? ⟨w4.heap.size, 0, none⟩ = some (.int .i64 0) ∧ w'.cell? ⟨w4.heap.size, 1, none⟩ = some (.bool true) ∧ w'.cell? ⟨w4.heap.size, 2, none⟩ = some (.string th) ∧ w'.cell? ⟨w4.heap.size, 3, none⟩ = some (.int .i64 eh)) (go_keep) (fail)
      go_wp2
      go_roundw
      case rel => exact ⟨3 + 1, by first | omega | (have := HK.out; omega), by go_num, (((((((((HBT.out.setCell HS.out.1 _).setCell HS.out.1 _).setCell HS.out.1 _).setCell HS.out.1 _).setCell HS.out.2 _).setCell HS.out.2 _).setCell HS.out.2 _).setCell HS.out.2 _)).drew⟩
      case measure => first | (simp [intOf]; done) | (simp [intOf]; omega) | (have := HK.out; simp [intOf]; omega)
    have hk4 : 4 ≤ k := by omega
    clear j0 j1 j2 j3
    rcases H4.out k hk4 (by omega) with hm | hm
    · have HM := hide hm
      clear hm H0 H1 H2 H3 H4 H5
      have k2 : ((k : Int) == 2) = false := beq_false_of_ne (by omega)
      have k3 : ((k : Int) == 3) = false := beq_false_of_ne (by omega)
      have k8 : (k : Int) < 8 := by omega
      have HK := hide (show k < 8 by omega)
      clear hk hk8 hk4
      go_wp2_with fail
      refine (HM.out _ (HT.out.below HB6.out)).mono ?_
      rintro e w7 ⟨rfl, hb⟩
      have HBS := hide (HBR.out.trans (hb.mono HBR.out.size))
      clear HBR
      have Ba7 := Blk.on Ba6 hb
      have Bl7 := Blk.on Bl6 hb
      have Bh7 := Blk.on Bh6 hb
      have HB7 := hide (HB6.out.trans (hb.mono HB6.out.size))
      clear hb Ba6 Bl6 Bh6 HB6 ya0 ya1 ya2 ya3 yl0 yl1 yl2 yl3 yh0 yh1 yh2 yh3
      obtain ⟨ya0, ya1, ya2, ya3⟩ := Ba7.out.four
      obtain ⟨yl0, yl1, yl2, yl3⟩ := Bl7.out.four
      obtain ⟨yh0, yh1, yh2, yh3⟩ := Bh7.out.four
      have Ba8 := Blk.up Ba7 (.cells #[.int .i64 0, .bool true, .string tl, .int .i64 el] 23)
      have Bl8 := Blk.up Bl7 (.cells #[.int .i64 0, .bool true, .string tl, .int .i64 el] 23)
      have Bh8 := Blk.up Bh7 (.cells #[.int .i64 0, .bool true, .string tl, .int .i64 el] 23)
      have Bx8 := hide ((Blk.newAt w7 (w7.heap.size) (rfl) #[.int .i64 0, .bool true, .string tl, .int .i64 el] 23))
      have HB8 : Hid (Below w.heap.size w (w7.alloc (.cells #[.int .i64 0, .bool true, .string tl, .int .i64 el] 23))) := (HB7.out.alloc HB7.out.size _)
      clear Ba7 Bl7 Bh7 HB7 ya0 ya1 ya2 ya3 yl0 yl1 yl2 yl3 yh0 yh1 yh2 yh3
      obtain ⟨ya0, ya1, ya2, ya3⟩ := Ba8.out.four
      obtain ⟨yl0, yl1, yl2, yl3⟩ := Bl8.out.four
      obtain ⟨yh0, yh1, yh2, yh3⟩ := Bh8.out.four
      obtain ⟨yx0, yx1, yx2, yx3⟩ := Bx8.out.four
      go_wp2
      obtain ⟨W3, hW3⟩ : ∃ W3, W3 = (w7.alloc (.cells #[.int .i64 0, .bool true, .string tl, .int .i64 el] 23)) := ⟨_, rfl⟩
      rw [← hW3] at HB8 Ba8 Bl8 Bh8 Bx8 ya0 ya1 ya2 ya3 yl0 yl1 yl2 yl3 yh0 yh1 yh2 yh3 yx0 yx1 yx2 yx3
      have HW3 := hide hW3
      clear hW3
      have HL : Hid (w2.heap.size < W3.heap.size ∧ w4.heap.size < W3.heap.size) := ⟨Bl8.out.lt, Bh8.out.lt⟩
      simp only [← HW3.out]
      go_cut [12, 13] (fun vp vq wx => Cut2D W3 #[.int .i64 0, .bool true, .string tl, .int .i64 el] #[.int .i64 0, .bool true, .string th, .int .i64 eh] vp vq wx)
      case first =>
        have nl3 : ¬ w2.heap.size = W3.heap.size := (by have := HL.out; omega)
        have ml3 : ¬ W3.heap.size = w2.heap.size := (by have := HL.out; omega)
        have nh3 : ¬ w4.heap.size = W3.heap.size := (by have := HL.out; omega)
        have mh3 : ¬ W3.heap.size = w4.heap.size := (by have := HL.out; omega)
        go_region_held3 (fun w' => w'.cell? ⟨w2.heap.size, 0, none⟩ = some (.int .i64 0) ∧ w'.cell? ⟨w2.heap.size, 1, none⟩ = some (.bool true) ∧ w'.cell? ⟨w2.heap.size, 2, none⟩ = some (.string tl) ∧ w'.cell? ⟨w2.heap.size, 3, none⟩ = some (.int .i64 el) ∧ w'.cell? ⟨w4.heap.size, 0, none⟩ = some (.int .i64 0) ∧ w'.cell? ⟨w4.heap.size, 1, none⟩ = some (.bool true) ∧ w'.cell? ⟨w4.heap.size, 2, none⟩ = some (.string th) ∧ w'.cell? ⟨w4.heap.size, 3, none⟩ = some (.int .i64 eh)) (go_keep) (fail)
        all_goals (go_wp2_with fail; go_meet)
        all_goals (first | exact cut2_a | exact cut2_b)
      obtain ⟨⟨H, K, rfl, rfl, hq, hr, hH, hK, hHK, hbc⟩⟩ := hcut
      obtain ⟨w9, hwk⟩ : ∃ x, x = wc := ⟨_, rfl⟩
      subst hwk
      have Ba9 := hide (Ba8.out.below hbc Ba8.out.lt)
      have Bl9 := hide (Bl8.out.below hbc Bl8.out.lt)
      have Bh9 := hide (Bh8.out.below hbc Bh8.out.lt)
      have Bx9 := hide (Bx8.out.below hbc Bx8.out.lt)
      have Bn9 := hide hq
      have Bf9 := hide hr
      have HB9 := hide (HB8.out.trans (hbc.mono HB8.out.size))
      have HBT := hide (HBS.out.trans ((HW3.out ▸ ((Below.refl _ _).alloc (Nat.le_refl _) _ : Below _ _ _) : Below w7.heap.size w7 W3).trans (hbc.mono (by rw [HW3.out]; simp)) |>.mono HBS.out.size))
      have hhk : ¬ K = H := fun g => hHK g.symm
      have HHK := hide (show w.heap.size ≤ H ∧ w.heap.size ≤ K from ⟨Nat.le_trans HB8.out.size hH, Nat.le_trans HB8.out.size hK⟩)
      have HS := hide (show W2.heap.size ≤ H ∧ W2.heap.size ≤ K from (by have g1 := HBS.out.size; have g2 : w7.heap.size ≤ W3.heap.size := (by rw [HW3.out]; simp); omega))
      have ia1 : ¬ H = w.heap.size := by have := Ba8.out.lt; omega
      have ia2 : ¬ w.heap.size = H := by have := Ba8.out.lt; omega
      have ia3 : ¬ K = w.heap.size := by have := Ba8.out.lt; omega
      have ia4 : ¬ w.heap.size = K := by have := Ba8.out.lt; omega
      have ih1 : ¬ H = w4.heap.size := by have := Bh8.out.lt; omega
      have ih2 : ¬ w4.heap.size = H := by have := Bh8.out.lt; omega
      have ih3 : ¬ K = w4.heap.size := by have := Bh8.out.lt; omega
      have ih4 : ¬ w4.heap.size = K := by have := Bh8.out.lt; omega
      have il1 : ¬ H = w2.heap.size := by have := Bl8.out.lt; omega
      have il2 : ¬ w2.heap.size = H := by have := Bl8.out.lt; omega
      have il3 : ¬ K = w2.heap.size := by have := Bl8.out.lt; omega
      have il4 : ¬ w2.heap.size = K := by have := Bl8.out.lt; omega
      have ix1 : ¬ H = w7.heap.size := by have := Bx8.out.lt; omega
      have ix2 : ¬ w7.heap.size = H := by have := Bx8.out.lt; omega
      have ix3 : ¬ K = w7.heap.size := by have := Bx8.out.lt; omega
      have ix4 : ¬ w7.heap.size = K := by have := Bx8.out.lt; omega
      have fn0 := Bn9.out.free 0
      have fn1 := Bn9.out.free 1
      have fn2 := Bn9.out.free 2
      have fn3 := Bn9.out.free 3
      have ff0 := Bf9.out.free 0
      have ff1 := Bf9.out.free 1
      have ff2 := Bf9.out.free 2
      have ff3 := Bf9.out.free 3
      clear HL HBS hq hr hH hK hbc HW3 Ba8 Bl8 Bh8 Bx8 HB8 ya0 ya1 ya2 ya3 yl0 yl1 yl2 yl3 yh0 yh1 yh2 yh3 yx0 yx1 yx2 yx3
      obtain ⟨ya0, ya1, ya2, ya3⟩ := Ba9.out.four
      obtain ⟨yl0, yl1, yl2, yl3⟩ := Bl9.out.four
      obtain ⟨yh0, yh1, yh2, yh3⟩ := Bh9.out.four
      obtain ⟨yx0, yx1, yx2, yx3⟩ := Bx9.out.four
      obtain ⟨yn0, yn1, yn2, yn3⟩ := Bn9.out.four
      obtain ⟨yf0, yf1, yf2, yf3⟩ := Bf9.out.four
      go_wp2
      go_region_held3 (fun w' => w'.cell? ⟨w2.heap.size, 0, none⟩ = some (.int .i64 0) ∧ w'.cell? ⟨w2.heap.size, 1, none⟩ = some (.bool true) ∧ w'.cell? ⟨w2.heap.size, 2, none⟩ = some (.string tl) ∧ w'.cell? ⟨w2.heap.size, 3, none⟩ = some (.int .i64 el) ∧ w'.cell? ⟨w4.heap.size, 0, none⟩ = some (.int .i64 0) ∧ w'.cell? ⟨w4.heap.size, 1, none⟩ = some (.bool true) ∧ w'.cell? ⟨w4.heap.size, 2, none⟩ = some (.string th) ∧ w'.cell? ⟨w4.heap.size, 3, none⟩ = some (.int .i64 eh)) (go_keep) (fail)
      go_wp2
      go_roundw
      case rel => exact ⟨k + 1, by first | omega | (have := HK.out; omega), by go_num, (((((((((HBT.out.setCell HS.out.1 _).setCell HS.out.1 _).setCell HS.out.1 _).setCell HS.out.1 _).setCell HS.out.2 _).setCell HS.out.2 _).setCell HS.out.2 _).setCell HS.out.2 _)).drew⟩
      case measure => first | (simp [intOf]; done) | (simp [intOf]; omega) | (have := HK.out; simp [intOf]; omega)
    · have HM := hide hm
      clear hm H0 H1 H2 H3 H4 H5
      have k2 : ((k : Int) == 2) = false := beq_false_of_ne (by omega)
      have k3 : ((k : Int) == 3) = false := beq_false_of_ne (by omega)
      have k8 : (k : Int) < 8 := by omega
      have HK := hide (show k < 8 by omega)
      clear hk hk8 hk4
      go_wp2_with fail
      refine (HM.out _ (HT.out.below HB6.out)).mono ?_
      rintro e w7 ⟨rfl, hb⟩
      have HBS := hide (HBR.out.trans (hb.mono HBR.out.size))
      clear HBR
      have Ba7 := Blk.on Ba6 hb
      have Bl7 := Blk.on Bl6 hb
      have Bh7 := Blk.on Bh6 hb
      have HB7 := hide (HB6.out.trans (hb.mono HB6.out.size))
      clear hb Ba6 Bl6 Bh6 HB6 ya0 ya1 ya2 ya3 yl0 yl1 yl2 yl3 yh0 yh1 yh2 yh3
      obtain ⟨ya0, ya1, ya2, ya3⟩ := Ba7.out.four
      obtain ⟨yl0, yl1, yl2, yl3⟩ := Bl7.out.four
      obtain ⟨yh0, yh1, yh2, yh3⟩ := Bh7.out.four
      have Ba8 := Blk.up Ba7 (.cells #[.int .i64 0, .bool true, .string th, .int .i64 eh] 23)
      have Bl8 := Blk.up Bl7 (.cells #[.int .i64 0, .bool true, .string th, .int .i64 eh] 23)
      have Bh8 := Blk.up Bh7 (.cells #[.int .i64 0, .bool true, .string th, .int .i64 eh] 23)
      have Bx8 := hide ((Blk.newAt w7 (w7.heap.size) (rfl) #[.int .i64 0, .bool true, .string th, .int .i64 eh] 23))
      have HB8 : Hid (Below w.heap.size w (w7.alloc (.cells #[.int .i64 0, .bool true, .string th, .int .i64 eh] 23))) := (HB7.out.alloc HB7.out.size _)
      clear Ba7 Bl7 Bh7 HB7 ya0 ya1 ya2 ya3 yl0 yl1 yl2 yl3 yh0 yh1 yh2 yh3
      obtain ⟨ya0, ya1, ya2, ya3⟩ := Ba8.out.four
      obtain ⟨yl0, yl1, yl2, yl3⟩ := Bl8.out.four
      obtain ⟨yh0, yh1, yh2, yh3⟩ := Bh8.out.four
      obtain ⟨yx0, yx1, yx2, yx3⟩ := Bx8.out.four
      go_wp2
      obtain ⟨W3, hW3⟩ : ∃ W3, W3 = (w7.alloc (.cells #[.int .i64 0, .bool true, .string th, .int .i64 eh] 23)) := ⟨_, rfl⟩
      rw [← hW3] at HB8 Ba8 Bl8 Bh8 Bx8 ya0 ya1 ya2 ya3 yl0 yl1 yl2 yl3 yh0 yh1 yh2 yh3 yx0 yx1 yx2 yx3
      have HW3 := hide hW3
      clear hW3
      have HL : Hid (w2.heap.size < W3.heap.size ∧ w4.heap.size < W3.heap.size) := ⟨Bl8.out.lt, Bh8.out.lt⟩
      simp only [← HW3.out]
      go_cut [12, 13] (fun vp vq wx => Cut2D W3 #[.int .i64 0, .bool true, .string tl, .int .i64 el] #[.int .i64 0, .bool true, .string th, .int .i64 eh] vp vq wx)
      case first =>
        have nl3 : ¬ w2.heap.size = W3.heap.size := (by have := HL.out; omega)
        have ml3 : ¬ W3.heap.size = w2.heap.size := (by have := HL.out; omega)
        have nh3 : ¬ w4.heap.size = W3.heap.size := (by have := HL.out; omega)
        have mh3 : ¬ W3.heap.size = w4.heap.size := (by have := HL.out; omega)
        go_region_held3 (fun w' => w'.cell? ⟨w2.heap.size, 0, none⟩ = some (.int .i64 0) ∧ w'.cell? ⟨w2.heap.size, 1, none⟩ = some (.bool true) ∧ w'.cell? ⟨w2.heap.size, 2, none⟩ = some (.string tl) ∧ w'.cell? ⟨w2.heap.size, 3, none⟩ = some (.int .i64 el) ∧ w'.cell? ⟨w4.heap.size, 0, none⟩ = some (.int .i64 0) ∧ w'.cell? ⟨w4.heap.size, 1, none⟩ = some (.bool true) ∧ w'.cell? ⟨w4.heap.size, 2, none⟩ = some (.string th) ∧ w'.cell? ⟨w4.heap.size, 3, none⟩ = some (.int .i64 eh)) (go_keep) (fail)
        all_goals (go_wp2_with fail; go_meet)
        all_goals (first | exact cut2_a | exact cut2_b)
      obtain ⟨⟨H, K, rfl, rfl, hq, hr, hH, hK, hHK, hbc⟩⟩ := hcut
      obtain ⟨w9, hwk⟩ : ∃ x, x = wc := ⟨_, rfl⟩
      subst hwk
      have Ba9 := hide (Ba8.out.below hbc Ba8.out.lt)
      have Bl9 := hide (Bl8.out.below hbc Bl8.out.lt)
      have Bh9 := hide (Bh8.out.below hbc Bh8.out.lt)
      have Bx9 := hide (Bx8.out.below hbc Bx8.out.lt)
      have Bn9 := hide hq
      have Bf9 := hide hr
      have HB9 := hide (HB8.out.trans (hbc.mono HB8.out.size))
      have HBT := hide (HBS.out.trans ((HW3.out ▸ ((Below.refl _ _).alloc (Nat.le_refl _) _ : Below _ _ _) : Below w7.heap.size w7 W3).trans (hbc.mono (by rw [HW3.out]; simp)) |>.mono HBS.out.size))
      have hhk : ¬ K = H := fun g => hHK g.symm
      have HHK := hide (show w.heap.size ≤ H ∧ w.heap.size ≤ K from ⟨Nat.le_trans HB8.out.size hH, Nat.le_trans HB8.out.size hK⟩)
      have HS := hide (show W2.heap.size ≤ H ∧ W2.heap.size ≤ K from (by have g1 := HBS.out.size; have g2 : w7.heap.size ≤ W3.heap.size := (by rw [HW3.out]; simp); omega))
      have ia1 : ¬ H = w.heap.size := by have := Ba8.out.lt; omega
      have ia2 : ¬ w.heap.size = H := by have := Ba8.out.lt; omega
      have ia3 : ¬ K = w.heap.size := by have := Ba8.out.lt; omega
      have ia4 : ¬ w.heap.size = K := by have := Ba8.out.lt; omega
      have ih1 : ¬ H = w4.heap.size := by have := Bh8.out.lt; omega
      have ih2 : ¬ w4.heap.size = H := by have := Bh8.out.lt; omega
      have ih3 : ¬ K = w4.heap.size := by have := Bh8.out.lt; omega
      have ih4 : ¬ w4.heap.size = K := by have := Bh8.out.lt; omega
      have il1 : ¬ H = w2.heap.size := by have := Bl8.out.lt; omega
      have il2 : ¬ w2.heap.size = H := by have := Bl8.out.lt; omega
      have il3 : ¬ K = w2.heap.size := by have := Bl8.out.lt; omega
      have il4 : ¬ w2.heap.size = K := by have := Bl8.out.lt; omega
      have ix1 : ¬ H = w7.heap.size := by have := Bx8.out.lt; omega
      have ix2 : ¬ w7.heap.size = H := by have := Bx8.out.lt; omega
      have ix3 : ¬ K = w7.heap.size := by have := Bx8.out.lt; omega
      have ix4 : ¬ w7.heap.size = K := by have := Bx8.out.lt; omega
      have fn0 := Bn9.out.free 0
      have fn1 := Bn9.out.free 1
      have fn2 := Bn9.out.free 2
      have fn3 := Bn9.out.free 3
      have ff0 := Bf9.out.free 0
      have ff1 := Bf9.out.free 1
      have ff2 := Bf9.out.free 2
      have ff3 := Bf9.out.free 3
      clear HL HBS hq hr hH hK hbc HW3 Ba8 Bl8 Bh8 Bx8 HB8 ya0 ya1 ya2 ya3 yl0 yl1 yl2 yl3 yh0 yh1 yh2 yh3 yx0 yx1 yx2 yx3
      obtain ⟨ya0, ya1, ya2, ya3⟩ := Ba9.out.four
      obtain ⟨yl0, yl1, yl2, yl3⟩ := Bl9.out.four
      obtain ⟨yh0, yh1, yh2, yh3⟩ := Bh9.out.four
      obtain ⟨yx0, yx1, yx2, yx3⟩ := Bx9.out.four
      obtain ⟨yn0, yn1, yn2, yn3⟩ := Bn9.out.four
      obtain ⟨yf0, yf1, yf2, yf3⟩ := Bf9.out.four
      go_wp2
      go_region_held3 (fun w' => w'.cell? ⟨w2.heap.size, 0, none⟩ = some (.int .i64 0) ∧ w'.cell? ⟨w2.heap.size, 1, none⟩ = some (.bool true) ∧ w'.cell? ⟨w2.heap.size, 2, none⟩ = some (.string tl) ∧ w'.cell? ⟨w2.heap.size, 3, none⟩ = some (.int .i64 el) ∧ w'.cell? ⟨w4.heap.size, 0, none⟩ = some (.int .i64 0) ∧ w'.cell? ⟨w4.heap.size, 1, none⟩ = some (.bool true) ∧ w'.cell? ⟨w4.heap.size, 2, none⟩ = some (.string th) ∧ w'.cell? ⟨w4.heap.size, 3, none⟩ = some (.int .i64 eh)) (go_keep) (fail)
      go_wp2
      go_roundw
      case rel => exact ⟨k + 1, by first | omega | (have := HK.out; omega), by go_num, (((((((((HBT.out.setCell HS.out.1 _).setCell HS.out.1 _).setCell HS.out.1 _).setCell HS.out.1 _).setCell HS.out.2 _).setCell HS.out.2 _).setCell HS.out.2 _).setCell HS.out.2 _)).drew⟩
      case measure => first | (simp [intOf]; done) | (simp [intOf]; omega) | (have := HK.out; simp [intOf]; omega)


set_option maxRecDepth 100000 in
set_option maxHeartbeats 8000000 in
theorem order_ted (tl : ByteArray) (el : Int) (eh : Int) (ta : ByteArray) (ea : Int) (p : Int) (w : World) (htab : Tab w) (q1 : (el == eh) = false) (q2 : (eh == el) = false) (q3 : (tl.toList == ta.toList) = false) (g0 : ∀ W, Tab W → Calls Tryz.prog 11 #[.agg #[.int .i64 0, .bool true, .string ta, .int .i64 ea], .int .i64 p, .int .i64 0] W fun e w' => e = .returned (.tuple #[.agg #[.int .i64 0, .bool true, .string tl, .int .i64 eh], .int .i64 0]) ∧ Below W.heap.size W w') (g1 : ∀ W, Tab W → Calls Tryz.prog 11 #[.agg #[.int .i64 0, .bool true, .string ta, .int .i64 ea], .int .i64 p, .int .i64 1] W fun e w' => e = .returned (.tuple #[.agg #[.int .i64 0, .bool true, .string tl, .int .i64 el], .int .i64 0]) ∧ Below W.heap.size W w') (g2 : ∀ W, Tab W → Calls Tryz.prog 11 #[.agg #[.int .i64 0, .bool true, .string ta, .int .i64 ea], .int .i64 p, .int .i64 2] W fun e w' => e = .returned (.tuple #[.agg #[.int .i64 0, .bool true, .string tl, .int .i64 eh], .int .i64 0]) ∧ Below W.heap.size W w') (g3 : ∀ W, Tab W → Calls Tryz.prog 11 #[.agg #[.int .i64 0, .bool true, .string ta, .int .i64 ea], .int .i64 p, .int .i64 3] W fun e w' => e = .returned (.tuple #[.agg #[.int .i64 0, .bool true, .string tl, .int .i64 el], .int .i64 0]) ∧ Below W.heap.size W w') (g4 : ∀ k : Nat, 4 ≤ k → k < 8 → (∀ W, Tab W → Calls Tryz.prog 11 #[.agg #[.int .i64 0, .bool true, .string ta, .int .i64 ea], .int .i64 p, .int .i64 (k : Int)] W fun e w' => e = .returned (.tuple #[.agg #[.int .i64 0, .bool true, .string tl, .int .i64 el], .int .i64 0]) ∧ Below W.heap.size W w') ∨ (∀ W, Tab W → Calls Tryz.prog 11 #[.agg #[.int .i64 0, .bool true, .string ta, .int .i64 ea], .int .i64 p, .int .i64 (k : Int)] W fun e w' => e = .returned (.tuple #[.agg #[.int .i64 0, .bool true, .string tl, .int .i64 eh], .int .i64 0]) ∧ Below W.heap.size W w')) (g5 : ∀ W, Calls Tryz.prog 20 #[.agg #[.int .i64 0, .bool true, .string tl, .int .i64 eh], .agg #[.int .i64 0, .bool true, .string tl, .int .i64 el]] W fun e w' => e = .returned (.bool false) ∧ Below W.heap.size W w') : Calls Tryz.prog 10 #[.agg #[.int .i64 0, .bool true, .string ta, .int .i64 ea], .int .i64 p] w fun e w' => e = .returned (.bool true) ∧ Below w.heap.size w w' := by
  have H0 := hide g0
  have H1 := hide g1
  have H2 := hide g2
  have H3 := hide g3
  have H4 := hide g4
  have H5 := hide g5
  have HT := hide htab
  clear htab g0 g1 g2 g3 g4 g5
  have Ba0 := hide (Blk.newAt w (w.heap.size) (rfl) #[.int .i64 0, .bool true, .string ta, .int .i64 ea] 23)
  have HB0 : Hid (Below w.heap.size w (w.alloc (.cells #[.int .i64 0, .bool true, .string ta, .int .i64 ea] 23))) := ((Below.refl _ _).alloc (Nat.le_refl _) _)
  go_enter Tryz.func10, Tryz.ntmps10
  go_wp2_with fail
  refine (rawake_any _ (HT.out.below HB0.out)).mono ?_
  rintro e w1 ⟨rfl, hb⟩
  have Ba1 := Blk.on Ba0 hb
  have HB1 := hide (HB0.out.trans (hb.mono HB0.out.size))
  clear hb Ba0 HB0 
  obtain ⟨ya0, ya1, ya2, ya3⟩ := Ba1.out.four
  go_wp2_with fail
  refine (H1.out _ (HT.out.below HB1.out)).mono ?_
  rintro e w2 ⟨rfl, hb⟩
  have Ba2 := Blk.on Ba1 hb
  have HB2 := hide (HB1.out.trans (hb.mono HB1.out.size))
  clear hb Ba1 HB1 ya0 ya1 ya2 ya3
  obtain ⟨ya0, ya1, ya2, ya3⟩ := Ba2.out.four
  have Ba3 := Blk.up Ba2 (.cells #[.int .i64 0, .bool true, .string tl, .int .i64 el] 23)
  have Bl3 := hide ((Blk.newAt w2 (w2.heap.size) (rfl) #[.int .i64 0, .bool true, .string tl, .int .i64 el] 23))
  have HB3 : Hid (Below w.heap.size w (w2.alloc (.cells #[.int .i64 0, .bool true, .string tl, .int .i64 el] 23))) := (HB2.out.alloc HB2.out.size _)
  clear Ba2 HB2 ya0 ya1 ya2 ya3
  obtain ⟨ya0, ya1, ya2, ya3⟩ := Ba3.out.four
  obtain ⟨yl0, yl1, yl2, yl3⟩ := Bl3.out.four
  go_wp2_with fail
  refine (H0.out _ (HT.out.below HB3.out)).mono ?_
  rintro e w4 ⟨rfl, hb⟩
  have Ba4 := Blk.on Ba3 hb
  have Bl4 := Blk.on Bl3 hb
  have HB4 := hide (HB3.out.trans (hb.mono HB3.out.size))
  clear hb Ba3 Bl3 HB3 ya0 ya1 ya2 ya3 yl0 yl1 yl2 yl3
  obtain ⟨ya0, ya1, ya2, ya3⟩ := Ba4.out.four
  obtain ⟨yl0, yl1, yl2, yl3⟩ := Bl4.out.four
  have Ba5 := Blk.up Ba4 (.cells #[.int .i64 0, .bool true, .string tl, .int .i64 eh] 23)
  have Bl5 := Blk.up Bl4 (.cells #[.int .i64 0, .bool true, .string tl, .int .i64 eh] 23)
  have Bh5 := hide ((Blk.newAt w4 (w4.heap.size) (rfl) #[.int .i64 0, .bool true, .string tl, .int .i64 eh] 23))
  have HB5 : Hid (Below w.heap.size w (w4.alloc (.cells #[.int .i64 0, .bool true, .string tl, .int .i64 eh] 23))) := (HB4.out.alloc HB4.out.size _)
  clear Ba4 Bl4 HB4 ya0 ya1 ya2 ya3 yl0 yl1 yl2 yl3
  obtain ⟨ya0, ya1, ya2, ya3⟩ := Ba5.out.four
  obtain ⟨yl0, yl1, yl2, yl3⟩ := Bl5.out.four
  obtain ⟨yh0, yh1, yh2, yh3⟩ := Bh5.out.four
  obtain ⟨W2, hW2⟩ : ∃ W2, W2 = (w4.alloc (.cells #[.int .i64 0, .bool true, .string tl, .int .i64 eh] 23)) := ⟨_, rfl⟩
  rw [← hW2] at HB5 Ba5 Bl5 Bh5 ya0 ya1 ya2 ya3 yl0 yl1 yl2 yl3 yh0 yh1 yh2 yh3
  have HW2 := hide hW2
  clear hW2
  go_wp2
  simp only [← HW2.out]
  go_loopw [9] (fun iv wr => ∃ k : Nat, k ≤ 8 ∧ iv = .int .i64 (k : Int) ∧ Hid (Below W2.heap.size W2 wr)) (fun iv _ => 8 - (intOf iv).toNat)
  case atStart => exact ⟨0, by omega, rfl, Below.refl _ _⟩
  case round =>
    obtain ⟨k, hk, rfl, hbr⟩ := hrel
    have Ba6 := hide (Ba5.out.below hbr.out Ba5.out.lt)
    have Bl6 := hide (Bl5.out.below hbr.out Bl5.out.lt)
    have Bh6 := hide (Bh5.out.below hbr.out Bh5.out.lt)
    have HB6 := hide (HB5.out.trans (hbr.out.mono HB5.out.size))
    have HBR : Hid (Below W2.heap.size W2 wr) := hbr
    clear hbr HW2 Ba5 Bl5 Bh5 HB5 ya0 ya1 ya2 ya3 yl0 yl1 yl2 yl3 yh0 yh1 yh2 yh3
    obtain ⟨ya0, ya1, ya2, ya3⟩ := Ba6.out.four
    obtain ⟨yl0, yl1, yl2, yl3⟩ := Bl6.out.four
    obtain ⟨yh0, yh1, yh2, yh3⟩ := Bh6.out.four
    by_cases hk8 : k = 8
    · skip
      subst hk8
      clear hk HBR HT H0 H1 H2 H3 H4
      have b0 : Hid (Below wr.heap.size wr wr.drew) := bdrewD wr
      have C0 : Hid (∀ X, Hid (Below wr.heap.size wr X) → Calls Tryz.prog 20 #[.agg #[.int .i64 0, .bool true, .string tl, .int .i64 eh], .agg #[.int .i64 0, .bool true, .string tl, .int .i64 el]] X fun e w' => e = .returned (.bool false) ∧ Hid (Below wr.heap.size wr w') ∧ w'.cell? ⟨w.heap.size, 0, none⟩ = some (.int .i64 0) ∧ w'.cell? ⟨w.heap.size, 1, none⟩ = some (.bool true) ∧ w'.cell? ⟨w.heap.size, 2, none⟩ = some (.string ta) ∧ w'.cell? ⟨w.heap.size, 3, none⟩ = some (.int .i64 ea) ∧ w'.cell? ⟨w2.heap.size, 0, none⟩ = some (.int .i64 0) ∧ w'.cell? ⟨w2.heap.size, 1, none⟩ = some (.bool true) ∧ w'.cell? ⟨w2.heap.size, 2, none⟩ = some (.string tl) ∧ w'.cell? ⟨w2.heap.size, 3, none⟩ = some (.int .i64 el) ∧ w'.cell? ⟨w4.heap.size, 0, none⟩ = some (.int .i64 0) ∧ w'.cell? ⟨w4.heap.size, 1, none⟩ = some (.bool true) ∧ w'.cell? ⟨w4.heap.size, 2, none⟩ = some (.string tl) ∧ w'.cell? ⟨w4.heap.size, 3, none⟩ = some (.int .i64 eh)) := by
        intro X bX
        refine (H5.out X).mono ?_
        rintro e w' ⟨rfl, hb⟩
        have bb := bX.out.trans (hb.mono bX.out.size)
        have Baq := Ba6.out.below bb Ba6.out.lt
        have Blq := Bl6.out.below bb Bl6.out.lt
        have Bhq := Bh6.out.below bb Bh6.out.lt
        exact ⟨rfl, bb, Baq.cell 0, Baq.cell 1, Baq.cell 2, Baq.cell 3, Blq.cell 0, Blq.cell 1, Blq.cell 2, Blq.cell 3, Bhq.cell 0, Bhq.cell 1, Bhq.cell 2, Bhq.cell 3⟩
      go_wp2_with fail
      have mk0 : True := trivial
      go_region_held3 (fun w' => w'.cell? ⟨w.heap.size, 0, none⟩ = some (.int .i64 0) ∧ w'.cell? ⟨w.heap.size, 1, none⟩ = some (.bool true) ∧ w'.cell? ⟨w.heap.size, 2, none⟩ = some (.string ta) ∧ w'.cell? ⟨w.heap.size, 3, none⟩ = some (.int .i64 ea) ∧ w'.cell? ⟨w2.heap.size, 0, none⟩ = some (.int .i64 0) ∧ w'.cell? ⟨w2.heap.size, 1, none⟩ = some (.bool true) ∧ w'.cell? ⟨w2.heap.size, 2, none⟩ = some (.string tl) ∧ w'.cell? ⟨w2.heap.size, 3, none⟩ = some (.int .i64 el) ∧ w'.cell? ⟨w4.heap.size, 0, none⟩ = some (.int .i64 0) ∧ w'.cell? ⟨w4.heap.size, 1, none⟩ = some (.bool true) ∧ w'.cell? ⟨w4.heap.size, 2, none⟩ = some (.string tl) ∧ w'.cell? ⟨w4.heap.size, 3, none⟩ = some (.int .i64 eh)) (go_keep) (first
        | (clear mk0; go_at_call 20; refine (C0.out _ b0).mono ?_; rintro e w7 ⟨rfl, b1, q0_0, q0_1, q0_2, q0_3, q0_4, q0_5, q0_6, q0_7, q0_8, q0_9, q0_10, q0_11⟩; have mk1 : True := trivial))
      have Ba7 := hide (Ba6.out.below b1.out Ba6.out.lt)
      have Bl7 := hide (Bl6.out.below b1.out Bl6.out.lt)
      have Bh7 := hide (Bh6.out.below b1.out Bh6.out.lt)
      have HB7 := hide (HB6.out.trans (b1.out.mono HB6.out.size))
      clear mk1 b0 b1 C0 q0_0 q0_1 q0_2 q0_3 q0_4 q0_5 q0_6 q0_7 q0_8 q0_9 q0_10 q0_11 Ba6 Bl6 Bh6 HB6 ya0 ya1 ya2 ya3 yl0 yl1 yl2 yl3 yh0 yh1 yh2 yh3
      obtain ⟨ya0, ya1, ya2, ya3⟩ := Ba7.out.four
      obtain ⟨yl0, yl1, yl2, yl3⟩ := Bl7.out.four
      obtain ⟨yh0, yh1, yh2, yh3⟩ := Bh7.out.four
      go_wp2
      go_ret
      exact ⟨rfl, HB7.out⟩
    by_cases j0 : k = 0
    · skip
      obtain rfl : k = 0 := by omega
      clear hk hk8
      go_wp2_with fail
      refine (H0.out _ (HT.out.below HB6.out)).mono ?_
      rintro e w7 ⟨rfl, hb⟩
      have HBS := hide (HBR.out.trans (hb.mono HBR.out.size))
      clear HBR
      have Ba7 := Blk.on Ba6 hb
      have Bl7 := Blk.on Bl6 hb
      have Bh7 := Blk.on Bh6 hb
      have HB7 := hide (HB6.out.trans (hb.mono HB6.out.size))
      clear hb Ba6 Bl6 Bh6 HB6 ya0 ya1 ya2 ya3 yl0 yl1 yl2 yl3 yh0 yh1 yh2 yh3
      obtain ⟨ya0, ya1, ya2, ya3⟩ := Ba7.out.four
      obtain ⟨yl0, yl1, yl2, yl3⟩ := Bl7.out.four
      obtain ⟨yh0, yh1, yh2, yh3⟩ := Bh7.out.four
      have Ba8 := Blk.up Ba7 (.cells #[.int .i64 0, .bool true, .string tl, .int .i64 eh] 23)
      have Bl8 := Blk.up Bl7 (.cells #[.int .i64 0, .bool true, .string tl, .int .i64 eh] 23)
      have Bh8 := Blk.up Bh7 (.cells #[.int .i64 0, .bool true, .string tl, .int .i64 eh] 23)
      have Bx8 := hide ((Blk.newAt w7 (w7.heap.size) (rfl) #[.int .i64 0, .bool true, .string tl, .int .i64 eh] 23))
      have HB8 : Hid (Below w.heap.size w (w7.alloc (.cells #[.int .i64 0, .bool true, .string tl, .int .i64 eh] 23))) := (HB7.out.alloc HB7.out.size _)
      clear Ba7 Bl7 Bh7 HB7 ya0 ya1 ya2 ya3 yl0 yl1 yl2 yl3 yh0 yh1 yh2 yh3
      obtain ⟨ya0, ya1, ya2, ya3⟩ := Ba8.out.four
      obtain ⟨yl0, yl1, yl2, yl3⟩ := Bl8.out.four
      obtain ⟨yh0, yh1, yh2, yh3⟩ := Bh8.out.four
      obtain ⟨yx0, yx1, yx2, yx3⟩ := Bx8.out.four
      go_wp2
      obtain ⟨W3, hW3⟩ : ∃ W3, W3 = (w7.alloc (.cells #[.int .i64 0, .bool true, .string tl, .int .i64 eh] 23)) := ⟨_, rfl⟩
      rw [← hW3] at HB8 Ba8 Bl8 Bh8 Bx8 ya0 ya1 ya2 ya3 yl0 yl1 yl2 yl3 yh0 yh1 yh2 yh3 yx0 yx1 yx2 yx3
      have HW3 := hide hW3
      clear hW3
      have HL : Hid (w2.heap.size < W3.heap.size ∧ w4.heap.size < W3.heap.size) := ⟨Bl8.out.lt, Bh8.out.lt⟩
      simp only [← HW3.out]
      go_cut [12, 13] (fun vp vq wx => Cut2D W3 #[.int .i64 0, .bool true, .string tl, .int .i64 el] #[.int .i64 0, .bool true, .string tl, .int .i64 eh] vp vq wx)
      case first =>
        have nl3 : ¬ w2.heap.size = W3.heap.size := (by have := HL.out; omega)
        have ml3 : ¬ W3.heap.size = w2.heap.size := (by have := HL.out; omega)
        have nh3 : ¬ w4.heap.size = W3.heap.size := (by have := HL.out; omega)
        have mh3 : ¬ W3.heap.size = w4.heap.size := (by have := HL.out; omega)
        go_region_held3 (fun w' => w'.cell? ⟨w2.heap.size, 0, none⟩ = some (.int .i64 0) ∧ w'.cell? ⟨w2.heap.size, 1, none⟩ = some (.bool true) ∧ w'.cell? ⟨w2.heap.size, 2, none⟩ = some (.string tl) ∧ w'.cell? ⟨w2.heap.size, 3, none⟩ = some (.int .i64 el) ∧ w'.cell? ⟨w4.heap.size, 0, none⟩ = some (.int .i64 0) ∧ w'.cell? ⟨w4.heap.size, 1, none⟩ = some (.bool true) ∧ w'.cell? ⟨w4.heap.size, 2, none⟩ = some (.string tl) ∧ w'.cell? ⟨w4.heap.size, 3, none⟩ = some (.int .i64 eh)) (go_keep) (fail)
        all_goals (go_wp2_with fail; go_meet)
        all_goals (first | exact cut2_a | exact cut2_b)
      obtain ⟨⟨H, K, rfl, rfl, hq, hr, hH, hK, hHK, hbc⟩⟩ := hcut
      obtain ⟨w9, hwk⟩ : ∃ x, x = wc := ⟨_, rfl⟩
      subst hwk
      have Ba9 := hide (Ba8.out.below hbc Ba8.out.lt)
      have Bl9 := hide (Bl8.out.below hbc Bl8.out.lt)
      have Bh9 := hide (Bh8.out.below hbc Bh8.out.lt)
      have Bx9 := hide (Bx8.out.below hbc Bx8.out.lt)
      have Bn9 := hide hq
      have Bf9 := hide hr
      have HB9 := hide (HB8.out.trans (hbc.mono HB8.out.size))
      have HBT := hide (HBS.out.trans ((HW3.out ▸ ((Below.refl _ _).alloc (Nat.le_refl _) _ : Below _ _ _) : Below w7.heap.size w7 W3).trans (hbc.mono (by rw [HW3.out]; simp)) |>.mono HBS.out.size))
      have hhk : ¬ K = H := fun g => hHK g.symm
      have HHK := hide (show w.heap.size ≤ H ∧ w.heap.size ≤ K from ⟨Nat.le_trans HB8.out.size hH, Nat.le_trans HB8.out.size hK⟩)
      have HS := hide (show W2.heap.size ≤ H ∧ W2.heap.size ≤ K from (by have g1 := HBS.out.size; have g2 : w7.heap.size ≤ W3.heap.size := (by rw [HW3.out]; simp); omega))
      have ia1 : ¬ H = w.heap.size := by have := Ba8.out.lt; omega
      have ia2 : ¬ w.heap.size = H := by have := Ba8.out.lt; omega
      have ia3 : ¬ K = w.heap.size := by have := Ba8.out.lt; omega
      have ia4 : ¬ w.heap.size = K := by have := Ba8.out.lt; omega
      have ih1 : ¬ H = w4.heap.size := by have := Bh8.out.lt; omega
      have ih2 : ¬ w4.heap.size = H := by have := Bh8.out.lt; omega
      have ih3 : ¬ K = w4.heap.size := by have := Bh8.out.lt; omega
      have ih4 : ¬ w4.heap.size = K := by have := Bh8.out.lt; omega
      have il1 : ¬ H = w2.heap.size := by have := Bl8.out.lt; omega
      have il2 : ¬ w2.heap.size = H := by have := Bl8.out.lt; omega
      have il3 : ¬ K = w2.heap.size := by have := Bl8.out.lt; omega
      have il4 : ¬ w2.heap.size = K := by have := Bl8.out.lt; omega
      have ix1 : ¬ H = w7.heap.size := by have := Bx8.out.lt; omega
      have ix2 : ¬ w7.heap.size = H := by have := Bx8.out.lt; omega
      have ix3 : ¬ K = w7.heap.size := by have := Bx8.out.lt; omega
      have ix4 : ¬ w7.heap.size = K := by have := Bx8.out.lt; omega
      have fn0 := Bn9.out.free 0
      have fn1 := Bn9.out.free 1
      have fn2 := Bn9.out.free 2
      have fn3 := Bn9.out.free 3
      have ff0 := Bf9.out.free 0
      have ff1 := Bf9.out.free 1
      have ff2 := Bf9.out.free 2
      have ff3 := Bf9.out.free 3
      clear HL HBS hq hr hH hK hbc HW3 Ba8 Bl8 Bh8 Bx8 HB8 ya0 ya1 ya2 ya3 yl0 yl1 yl2 yl3 yh0 yh1 yh2 yh3 yx0 yx1 yx2 yx3
      obtain ⟨ya0, ya1, ya2, ya3⟩ := Ba9.out.four
      obtain ⟨yl0, yl1, yl2, yl3⟩ := Bl9.out.four
      obtain ⟨yh0, yh1, yh2, yh3⟩ := Bh9.out.four
      obtain ⟨yx0, yx1, yx2, yx3⟩ := Bx9.out.four
      obtain ⟨yn0, yn1, yn2, yn3⟩ := Bn9.out.four
      obtain ⟨yf0, yf1, yf2, yf3⟩ := Bf9.out.four
      go_wp2
      go_region_held3 (fun w' => w'.cell? ⟨w2.heap.size, 0, none⟩ = some (.int .i64 0) ∧ w'.cell? ⟨w2.heap.size, 1, none⟩ = some (.bool true) ∧ w'.cell? ⟨w2.heap.size, 2, none⟩ = some (.string tl) ∧ w'.cell? ⟨w2.heap.size, 3, none⟩ = some (.int .i64 el) ∧ w'.cell? ⟨w4.heap.size, 0, none⟩ = some (.int .i64 0) ∧ w'.cell? ⟨w4.heap.size, 1, none⟩ = some (.bool true) ∧ w'.cell? ⟨w4.heap.size, 2, none⟩ = some (.string tl) ∧ w'.cell? ⟨w4.heap.size, 3, none⟩ = some (.int .i64 eh)) (go_keep) (fail)
      go_wp2
      go_roundw
      case rel => exact ⟨0 + 1, by first | omega | (have := HK.out; omega), by go_num, (((((((((HBT.out.setCell HS.out.1 _).setCell HS.out.1 _).setCell HS.out.1 _).setCell HS.out.1 _).setCell HS.out.2 _).setCell HS.out.2 _).setCell HS.out.2 _).setCell HS.out.2 _)).drew⟩
      case measure => first | (simp [intOf]; done) | (simp [intOf]; omega) | (have := HK.out; simp [intOf]; omega)
    by_cases j1 : k = 1
    · skip
      obtain rfl : k = 1 := by omega
      clear hk hk8
      go_wp2_with fail
      refine (H1.out _ (HT.out.below HB6.out)).mono ?_
      rintro e w7 ⟨rfl, hb⟩
      have HBS := hide (HBR.out.trans (hb.mono HBR.out.size))
      clear HBR
      have Ba7 := Blk.on Ba6 hb
      have Bl7 := Blk.on Bl6 hb
      have Bh7 := Blk.on Bh6 hb
      have HB7 := hide (HB6.out.trans (hb.mono HB6.out.size))
      clear hb Ba6 Bl6 Bh6 HB6 ya0 ya1 ya2 ya3 yl0 yl1 yl2 yl3 yh0 yh1 yh2 yh3
      obtain ⟨ya0, ya1, ya2, ya3⟩ := Ba7.out.four
      obtain ⟨yl0, yl1, yl2, yl3⟩ := Bl7.out.four
      obtain ⟨yh0, yh1, yh2, yh3⟩ := Bh7.out.four
      have Ba8 := Blk.up Ba7 (.cells #[.int .i64 0, .bool true, .string tl, .int .i64 el] 23)
      have Bl8 := Blk.up Bl7 (.cells #[.int .i64 0, .bool true, .string tl, .int .i64 el] 23)
      have Bh8 := Blk.up Bh7 (.cells #[.int .i64 0, .bool true, .string tl, .int .i64 el] 23)
      have Bx8 := hide ((Blk.newAt w7 (w7.heap.size) (rfl) #[.int .i64 0, .bool true, .string tl, .int .i64 el] 23))
      have HB8 : Hid (Below w.heap.size w (w7.alloc (.cells #[.int .i64 0, .bool true, .string tl, .int .i64 el] 23))) := (HB7.out.alloc HB7.out.size _)
      clear Ba7 Bl7 Bh7 HB7 ya0 ya1 ya2 ya3 yl0 yl1 yl2 yl3 yh0 yh1 yh2 yh3
      obtain ⟨ya0, ya1, ya2, ya3⟩ := Ba8.out.four
      obtain ⟨yl0, yl1, yl2, yl3⟩ := Bl8.out.four
      obtain ⟨yh0, yh1, yh2, yh3⟩ := Bh8.out.four
      obtain ⟨yx0, yx1, yx2, yx3⟩ := Bx8.out.four
      go_wp2
      obtain ⟨W3, hW3⟩ : ∃ W3, W3 = (w7.alloc (.cells #[.int .i64 0, .bool true, .string tl, .int .i64 el] 23)) := ⟨_, rfl⟩
      rw [← hW3] at HB8 Ba8 Bl8 Bh8 Bx8 ya0 ya1 ya2 ya3 yl0 yl1 yl2 yl3 yh0 yh1 yh2 yh3 yx0 yx1 yx2 yx3
      have HW3 := hide hW3
      clear hW3
      have HL : Hid (w2.heap.size < W3.heap.size ∧ w4.heap.size < W3.heap.size) := ⟨Bl8.out.lt, Bh8.out.lt⟩
      simp only [← HW3.out]
      go_cut [12, 13] (fun vp vq wx => Cut2D W3 #[.int .i64 0, .bool true, .string tl, .int .i64 el] #[.int .i64 0, .bool true, .string tl, .int .i64 eh] vp vq wx)
      case first =>
        have nl3 : ¬ w2.heap.size = W3.heap.size := (by have := HL.out; omega)
        have ml3 : ¬ W3.heap.size = w2.heap.size := (by have := HL.out; omega)
        have nh3 : ¬ w4.heap.size = W3.heap.size := (by have := HL.out; omega)
        have mh3 : ¬ W3.heap.size = w4.heap.size := (by have := HL.out; omega)
        go_region_held3 (fun w' => w'.cell? ⟨w2.heap.size, 0, none⟩ = some (.int .i64 0) ∧ w'.cell? ⟨w2.heap.size, 1, none⟩ = some (.bool true) ∧ w'.cell? ⟨w2.heap.size, 2, none⟩ = some (.string tl) ∧ w'.cell? ⟨w2.heap.size, 3, none⟩ = some (.int .i64 el) ∧ w'.cell? ⟨w4.heap.size, 0, none⟩ = some (.int .i64 0) ∧ w'.cell? ⟨w4.heap.size, 1, none⟩ = some (.bool true) ∧ w'.cell? ⟨w4.heap.size, 2, none⟩ = some (.string tl) ∧ w'.cell? ⟨w4.heap.size, 3, none⟩ = some (.int .i64 eh)) (go_keep) (fail)
        all_goals (go_wp2_with fail; go_meet)
        all_goals (first | exact cut2_a | exact cut2_b)
      obtain ⟨⟨H, K, rfl, rfl, hq, hr, hH, hK, hHK, hbc⟩⟩ := hcut
      obtain ⟨w9, hwk⟩ : ∃ x, x = wc := ⟨_, rfl⟩
      subst hwk
      have Ba9 := hide (Ba8.out.below hbc Ba8.out.lt)
      have Bl9 := hide (Bl8.out.below hbc Bl8.out.lt)
      have Bh9 := hide (Bh8.out.below hbc Bh8.out.lt)
      have Bx9 := hide (Bx8.out.below hbc Bx8.out.lt)
      have Bn9 := hide hq
      have Bf9 := hide hr
      have HB9 := hide (HB8.out.trans (hbc.mono HB8.out.size))
      have HBT := hide (HBS.out.trans ((HW3.out ▸ ((Below.refl _ _).alloc (Nat.le_refl _) _ : Below _ _ _) : Below w7.heap.size w7 W3).trans (hbc.mono (by rw [HW3.out]; simp)) |>.mono HBS.out.size))
      have hhk : ¬ K = H := fun g => hHK g.symm
      have HHK := hide (show w.heap.size ≤ H ∧ w.heap.size ≤ K from ⟨Nat.le_trans HB8.out.size hH, Nat.le_trans HB8.out.size hK⟩)
      have HS := hide (show W2.heap.size ≤ H ∧ W2.heap.size ≤ K from (by have g1 := HBS.out.size; have g2 : w7.heap.size ≤ W3.heap.size := (by rw [HW3.out]; simp); omega))
      have ia1 : ¬ H = w.heap.size := by have := Ba8.out.lt; omega
      have ia2 : ¬ w.heap.size = H := by have := Ba8.out.lt; omega
      have ia3 : ¬ K = w.heap.size := by have := Ba8.out.lt; omega
      have ia4 : ¬ w.heap.size = K := by have := Ba8.out.lt; omega
      have ih1 : ¬ H = w4.heap.size := by have := Bh8.out.lt; omega
      have ih2 : ¬ w4.heap.size = H := by have := Bh8.out.lt; omega
      have ih3 : ¬ K = w4.heap.size := by have := Bh8.out.lt; omega
      have ih4 : ¬ w4.heap.size = K := by have := Bh8.out.lt; omega
      have il1 : ¬ H = w2.heap.size := by have := Bl8.out.lt; omega
      have il2 : ¬ w2.heap.size = H := by have := Bl8.out.lt; omega
      have il3 : ¬ K = w2.heap.size := by have := Bl8.out.lt; omega
      have il4 : ¬ w2.heap.size = K := by have := Bl8.out.lt; omega
      have ix1 : ¬ H = w7.heap.size := by have := Bx8.out.lt; omega
      have ix2 : ¬ w7.heap.size = H := by have := Bx8.out.lt; omega
      have ix3 : ¬ K = w7.heap.size := by have := Bx8.out.lt; omega
      have ix4 : ¬ w7.heap.size = K := by have := Bx8.out.lt; omega
      have fn0 := Bn9.out.free 0
      have fn1 := Bn9.out.free 1
      have fn2 := Bn9.out.free 2
      have fn3 := Bn9.out.free 3
      have ff0 := Bf9.out.free 0
      have ff1 := Bf9.out.free 1
      have ff2 := Bf9.out.free 2
      have ff3 := Bf9.out.free 3
      clear HL HBS hq hr hH hK hbc HW3 Ba8 Bl8 Bh8 Bx8 HB8 ya0 ya1 ya2 ya3 yl0 yl1 yl2 yl3 yh0 yh1 yh2 yh3 yx0 yx1 yx2 yx3
      obtain ⟨ya0, ya1, ya2, ya3⟩ := Ba9.out.four
      obtain ⟨yl0, yl1, yl2, yl3⟩ := Bl9.out.four
      obtain ⟨yh0, yh1, yh2, yh3⟩ := Bh9.out.four
      obtain ⟨yx0, yx1, yx2, yx3⟩ := Bx9.out.four
      obtain ⟨yn0, yn1, yn2, yn3⟩ := Bn9.out.four
      obtain ⟨yf0, yf1, yf2, yf3⟩ := Bf9.out.four
      go_wp2
      go_region_held3 (fun w' => w'.cell? ⟨w2.heap.size, 0, none⟩ = some (.int .i64 0) ∧ w'.cell? ⟨w2.heap.size, 1, none⟩ = some (.bool true) ∧ w'.cell? ⟨w2.heap.size, 2, none⟩ = some (.string tl) ∧ w'.cell? ⟨w2.heap.size, 3, none⟩ = some (.int .i64 el) ∧ w'.cell? ⟨w4.heap.size, 0, none⟩ = some (.int .i64 0) ∧ w'.cell? ⟨w4.heap.size, 1, none⟩ = some (.bool true) ∧ w'.cell? ⟨w4.heap.size, 2, none⟩ = some (.string tl) ∧ w'.cell? ⟨w4.heap.size, 3, none⟩ = some (.int .i64 eh)) (go_keep) (fail)
      go_wp2
      go_roundw
      case rel => exact ⟨1 + 1, by first | omega | (have := HK.out; omega), by go_num, (((((((((HBT.out.setCell HS.out.1 _).setCell HS.out.1 _).setCell HS.out.1 _).setCell HS.out.1 _).setCell HS.out.2 _).setCell HS.out.2 _).setCell HS.out.2 _).setCell HS.out.2 _)).drew⟩
      case measure => first | (simp [intOf]; done) | (simp [intOf]; omega) | (have := HK.out; simp [intOf]; omega)
    by_cases j2 : k = 2
    · skip
      obtain rfl : k = 2 := by omega
      clear hk hk8
      go_wp2_with fail
      refine (H2.out _ (HT.out.below HB6.out)).mono ?_
      rintro e w7 ⟨rfl, hb⟩
      have HBS := hide (HBR.out.trans (hb.mono HBR.out.size))
      clear HBR
      have Ba7 := Blk.on Ba6 hb
      have Bl7 := Blk.on Bl6 hb
      have Bh7 := Blk.on Bh6 hb
      have HB7 := hide (HB6.out.trans (hb.mono HB6.out.size))
      clear hb Ba6 Bl6 Bh6 HB6 ya0 ya1 ya2 ya3 yl0 yl1 yl2 yl3 yh0 yh1 yh2 yh3
      obtain ⟨ya0, ya1, ya2, ya3⟩ := Ba7.out.four
      obtain ⟨yl0, yl1, yl2, yl3⟩ := Bl7.out.four
      obtain ⟨yh0, yh1, yh2, yh3⟩ := Bh7.out.four
      have Ba8 := Blk.up Ba7 (.cells #[.int .i64 0, .bool true, .string tl, .int .i64 eh] 23)
      have Bl8 := Blk.up Bl7 (.cells #[.int .i64 0, .bool true, .string tl, .int .i64 eh] 23)
      have Bh8 := Blk.up Bh7 (.cells #[.int .i64 0, .bool true, .string tl, .int .i64 eh] 23)
      have Bx8 := hide ((Blk.newAt w7 (w7.heap.size) (rfl) #[.int .i64 0, .bool true, .string tl, .int .i64 eh] 23))
      have HB8 : Hid (Below w.heap.size w (w7.alloc (.cells #[.int .i64 0, .bool true, .string tl, .int .i64 eh] 23))) := (HB7.out.alloc HB7.out.size _)
      clear Ba7 Bl7 Bh7 HB7 ya0 ya1 ya2 ya3 yl0 yl1 yl2 yl3 yh0 yh1 yh2 yh3
      obtain ⟨ya0, ya1, ya2, ya3⟩ := Ba8.out.four
      obtain ⟨yl0, yl1, yl2, yl3⟩ := Bl8.out.four
      obtain ⟨yh0, yh1, yh2, yh3⟩ := Bh8.out.four
      obtain ⟨yx0, yx1, yx2, yx3⟩ := Bx8.out.four
      go_wp2
      obtain ⟨W3, hW3⟩ : ∃ W3, W3 = (w7.alloc (.cells #[.int .i64 0, .bool true, .string tl, .int .i64 eh] 23)) := ⟨_, rfl⟩
      rw [← hW3] at HB8 Ba8 Bl8 Bh8 Bx8 ya0 ya1 ya2 ya3 yl0 yl1 yl2 yl3 yh0 yh1 yh2 yh3 yx0 yx1 yx2 yx3
      have HW3 := hide hW3
      clear hW3
      have HL : Hid (w2.heap.size < W3.heap.size ∧ w4.heap.size < W3.heap.size) := ⟨Bl8.out.lt, Bh8.out.lt⟩
      simp only [← HW3.out]
      go_cut [12, 13] (fun vp vq wx => Cut2D W3 #[.int .i64 0, .bool true, .string tl, .int .i64 el] #[.int .i64 0, .bool true, .string tl, .int .i64 eh] vp vq wx)
      case first =>
        have nl3 : ¬ w2.heap.size = W3.heap.size := (by have := HL.out; omega)
        have ml3 : ¬ W3.heap.size = w2.heap.size := (by have := HL.out; omega)
        have nh3 : ¬ w4.heap.size = W3.heap.size := (by have := HL.out; omega)
        have mh3 : ¬ W3.heap.size = w4.heap.size := (by have := HL.out; omega)
        go_region_held3 (fun w' => w'.cell? ⟨w2.heap.size, 0, none⟩ = some (.int .i64 0) ∧ w'.cell? ⟨w2.heap.size, 1, none⟩ = some (.bool true) ∧ w'.cell? ⟨w2.heap.size, 2, none⟩ = some (.string tl) ∧ w'.cell? ⟨w2.heap.size, 3, none⟩ = some (.int .i64 el) ∧ w'.cell? ⟨w4.heap.size, 0, none⟩ = some (.int .i64 0) ∧ w'.cell? ⟨w4.heap.size, 1, none⟩ = some (.bool true) ∧ w'.cell? ⟨w4.heap.size, 2, none⟩ = some (.string tl) ∧ w'.cell? ⟨w4.heap.size, 3, none⟩ = some (.int .i64 eh)) (go_keep) (fail)
        all_goals (go_wp2_with fail; go_meet)
        all_goals (first | exact cut2_a | exact cut2_b)
      obtain ⟨⟨H, K, rfl, rfl, hq, hr, hH, hK, hHK, hbc⟩⟩ := hcut
      obtain ⟨w9, hwk⟩ : ∃ x, x = wc := ⟨_, rfl⟩
      subst hwk
      have Ba9 := hide (Ba8.out.below hbc Ba8.out.lt)
      have Bl9 := hide (Bl8.out.below hbc Bl8.out.lt)
      have Bh9 := hide (Bh8.out.below hbc Bh8.out.lt)
      have Bx9 := hide (Bx8.out.below hbc Bx8.out.lt)
      have Bn9 := hide hq
      have Bf9 := hide hr
      have HB9 := hide (HB8.out.trans (hbc.mono HB8.out.size))
      have HBT := hide (HBS.out.trans ((HW3.out ▸ ((Below.refl _ _).alloc (Nat.le_refl _) _ : Below _ _ _) : Below w7.heap.size w7 W3).trans (hbc.mono (by rw [HW3.out]; simp)) |>.mono HBS.out.size))
      have hhk : ¬ K = H := fun g => hHK g.symm
      have HHK := hide (show w.heap.size ≤ H ∧ w.heap.size ≤ K from ⟨Nat.le_trans HB8.out.size hH, Nat.le_trans HB8.out.size hK⟩)
      have HS := hide (show W2.heap.size ≤ H ∧ W2.heap.size ≤ K from (by have g1 := HBS.out.size; have g2 : w7.heap.size ≤ W3.heap.size := (by rw [HW3.out]; simp); omega))
      have ia1 : ¬ H = w.heap.size := by have := Ba8.out.lt; omega
      have ia2 : ¬ w.heap.size = H := by have := Ba8.out.lt; omega
      have ia3 : ¬ K = w.heap.size := by have := Ba8.out.lt; omega
      have ia4 : ¬ w.heap.size = K := by have := Ba8.out.lt; omega
      have ih1 : ¬ H = w4.heap.size := by have := Bh8.out.lt; omega
      have ih2 : ¬ w4.heap.size = H := by have := Bh8.out.lt; omega
      have ih3 : ¬ K = w4.heap.size := by have := Bh8.out.lt; omega
      have ih4 : ¬ w4.heap.size = K := by have := Bh8.out.lt; omega
      have il1 : ¬ H = w2.heap.size := by have := Bl8.out.lt; omega
      have il2 : ¬ w2.heap.size = H := by have := Bl8.out.lt; omega
      have il3 : ¬ K = w2.heap.size := by have := Bl8.out.lt; omega
      have il4 : ¬ w2.heap.size = K := by have := Bl8.out.lt; omega
      have ix1 : ¬ H = w7.heap.size := by have := Bx8.out.lt; omega
      have ix2 : ¬ w7.heap.size = H := by have := Bx8.out.lt; omega
      have ix3 : ¬ K = w7.heap.size := by have := Bx8.out.lt; omega
      have ix4 : ¬ w7.heap.size = K := by have := Bx8.out.lt; omega
      have fn0 := Bn9.out.free 0
      have fn1 := Bn9.out.free 1
      have fn2 := Bn9.out.free 2
      have fn3 := Bn9.out.free 3
      have ff0 := Bf9.out.free 0
      have ff1 := Bf9.out.free 1
      have ff2 := Bf9.out.free 2
      have ff3 := Bf9.out.free 3
      clear HL HBS hq hr hH hK hbc HW3 Ba8 Bl8 Bh8 Bx8 HB8 ya0 ya1 ya2 ya3 yl0 yl1 yl2 yl3 yh0 yh1 yh2 yh3 yx0 yx1 yx2 yx3
      obtain ⟨ya0, ya1, ya2, ya3⟩ := Ba9.out.four
      obtain ⟨yl0, yl1, yl2, yl3⟩ := Bl9.out.four
      obtain ⟨yh0, yh1, yh2, yh3⟩ := Bh9.out.four
      obtain ⟨yx0, yx1, yx2, yx3⟩ := Bx9.out.four
      obtain ⟨yn0, yn1, yn2, yn3⟩ := Bn9.out.four
      obtain ⟨yf0, yf1, yf2, yf3⟩ := Bf9.out.four
      go_wp2
      go_region_held3 (fun w' => w'.cell? ⟨w2.heap.size, 0, none⟩ = some (.int .i64 0) ∧ w'.cell? ⟨w2.heap.size, 1, none⟩ = some (.bool true) ∧ w'.cell? ⟨w2.heap.size, 2, none⟩ = some (.string tl) ∧ w'.cell? ⟨w2.heap.size, 3, none⟩ = some (.int .i64 el) ∧ w'.cell? ⟨w4.heap.size, 0, none⟩ = some (.int .i64 0) ∧ w'.cell? ⟨w4.heap.size, 1, none⟩ = some (.bool true) ∧ w'.cell? ⟨w4.heap.size, 2, none⟩ = some (.string tl) ∧ w'.cell? ⟨w4.heap.size, 3, none⟩ = some (.int .i64 eh)) (go_keep) (fail)
      go_wp2
      go_roundw
      case rel => exact ⟨2 + 1, by first | omega | (have := HK.out; omega), by go_num, (((((((((HBT.out.setCell HS.out.1 _).setCell HS.out.1 _).setCell HS.out.1 _).setCell HS.out.1 _).setCell HS.out.2 _).setCell HS.out.2 _).setCell HS.out.2 _).setCell HS.out.2 _)).drew⟩
      case measure => first | (simp [intOf]; done) | (simp [intOf]; omega) | (have := HK.out; simp [intOf]; omega)
    by_cases j3 : k = 3
    · skip
      obtain rfl : k = 3 := by omega
      clear hk hk8
      go_wp2_with fail
      refine (H3.out _ (HT.out.below HB6.out)).mono ?_
      rintro e w7 ⟨rfl, hb⟩
      have HBS := hide (HBR.out.trans (hb.mono HBR.out.size))
      clear HBR
      have Ba7 := Blk.on Ba6 hb
      have Bl7 := Blk.on Bl6 hb
      have Bh7 := Blk.on Bh6 hb
      have HB7 := hide (HB6.out.trans (hb.mono HB6.out.size))
      clear hb Ba6 Bl6 Bh6 HB6 ya0 ya1 ya2 ya3 yl0 yl1 yl2 yl3 yh0 yh1 yh2 yh3
      obtain ⟨ya0, ya1, ya2, ya3⟩ := Ba7.out.four
      obtain ⟨yl0, yl1, yl2, yl3⟩ := Bl7.out.four
      obtain ⟨yh0, yh1, yh2, yh3⟩ := Bh7.out.four
      have Ba8 := Blk.up Ba7 (.cells #[.int .i64 0, .bool true, .string tl, .int .i64 el] 23)
      have Bl8 := Blk.up Bl7 (.cells #[.int .i64 0, .bool true, .string tl, .int .i64 el] 23)
      have Bh8 := Blk.up Bh7 (.cells #[.int .i64 0, .bool true, .string tl, .int .i64 el] 23)
      have Bx8 := hide ((Blk.newAt w7 (w7.heap.size) (rfl) #[.int .i64 0, .bool true, .string tl, .int .i64 el] 23))
      have HB8 : Hid (Below w.heap.size w (w7.alloc (.cells #[.int .i64 0, .bool true, .string tl, .int .i64 el] 23))) := (HB7.out.alloc HB7.out.size _)
      clear Ba7 Bl7 Bh7 HB7 ya0 ya1 ya2 ya3 yl0 yl1 yl2 yl3 yh0 yh1 yh2 yh3
      obtain ⟨ya0, ya1, ya2, ya3⟩ := Ba8.out.four
      obtain ⟨yl0, yl1, yl2, yl3⟩ := Bl8.out.four
      obtain ⟨yh0, yh1, yh2, yh3⟩ := Bh8.out.four
      obtain ⟨yx0, yx1, yx2, yx3⟩ := Bx8.out.four
      go_wp2
      obtain ⟨W3, hW3⟩ : ∃ W3, W3 = (w7.alloc (.cells #[.int .i64 0, .bool true, .string tl, .int .i64 el] 23)) := ⟨_, rfl⟩
      rw [← hW3] at HB8 Ba8 Bl8 Bh8 Bx8 ya0 ya1 ya2 ya3 yl0 yl1 yl2 yl3 yh0 yh1 yh2 yh3 yx0 yx1 yx2 yx3
      have HW3 := hide hW3
      clear hW3
      have HL : Hid (w2.heap.size < W3.heap.size ∧ w4.heap.size < W3.heap.size) := ⟨Bl8.out.lt, Bh8.out.lt⟩
      simp only [← HW3.out]
      go_cut [12, 13] (fun vp vq wx => Cut2D W3 #[.int .i64 0, .bool true, .string tl, .int .i64 el] #[.int .i64 0, .bool true, .string tl, .int .i64 eh] vp vq wx)
      case first =>
        have nl3 : ¬ w2.heap.size = W3.heap.size := (by have := HL.out; omega)
        have ml3 : ¬ W3.heap.size = w2.heap.size := (by have := HL.out; omega)
        have nh3 : ¬ w4.heap.size = W3.heap.size := (by have := HL.out; omega)
        have mh3 : ¬ W3.heap.size = w4.heap.size := (by have := HL.out; omega)
        go_region_held3 (fun w' => w'.cell? ⟨w2.heap.size, 0, none⟩ = some (.int .i64 0) ∧ w'.cell? ⟨w2.heap.size, 1, none⟩ = some (.bool true) ∧ w'.cell? ⟨w2.heap.size, 2, none⟩ = some (.string tl) ∧ w'.cell? ⟨w2.heap.size, 3, none⟩ = some (.int .i64 el) ∧ w'.cell? ⟨w4.heap.size, 0, none⟩ = some (.int .i64 0) ∧ w'.cell? ⟨w4.heap.size, 1, none⟩ = some (.bool true) ∧ w'.cell? ⟨w4.heap.size, 2, none⟩ = some (.string tl) ∧ w'.cell? ⟨w4.heap.size, 3, none⟩ = some (.int .i64 eh)) (go_keep) (fail)
        all_goals (go_wp2_with fail; go_meet)
        all_goals (first | exact cut2_a | exact cut2_b)
      obtain ⟨⟨H, K, rfl, rfl, hq, hr, hH, hK, hHK, hbc⟩⟩ := hcut
      obtain ⟨w9, hwk⟩ : ∃ x, x = wc := ⟨_, rfl⟩
      subst hwk
      have Ba9 := hide (Ba8.out.below hbc Ba8.out.lt)
      have Bl9 := hide (Bl8.out.below hbc Bl8.out.lt)
      have Bh9 := hide (Bh8.out.below hbc Bh8.out.lt)
      have Bx9 := hide (Bx8.out.below hbc Bx8.out.lt)
      have Bn9 := hide hq
      have Bf9 := hide hr
      have HB9 := hide (HB8.out.trans (hbc.mono HB8.out.size))
      have HBT := hide (HBS.out.trans ((HW3.out ▸ ((Below.refl _ _).alloc (Nat.le_refl _) _ : Below _ _ _) : Below w7.heap.size w7 W3).trans (hbc.mono (by rw [HW3.out]; simp)) |>.mono HBS.out.size))
      have hhk : ¬ K = H := fun g => hHK g.symm
      have HHK := hide (show w.heap.size ≤ H ∧ w.heap.size ≤ K from ⟨Nat.le_trans HB8.out.size hH, Nat.le_trans HB8.out.size hK⟩)
      have HS := hide (show W2.heap.size ≤ H ∧ W2.heap.size ≤ K from (by have g1 := HBS.out.size; have g2 : w7.heap.size ≤ W3.heap.size := (by rw [HW3.out]; simp); omega))
      have ia1 : ¬ H = w.heap.size := by have := Ba8.out.lt; omega
      have ia2 : ¬ w.heap.size = H := by have := Ba8.out.lt; omega
      have ia3 : ¬ K = w.heap.size := by have := Ba8.out.lt; omega
      have ia4 : ¬ w.heap.size = K := by have := Ba8.out.lt; omega
      have ih1 : ¬ H = w4.heap.size := by have := Bh8.out.lt; omega
      have ih2 : ¬ w4.heap.size = H := by have := Bh8.out.lt; omega
      have ih3 : ¬ K = w4.heap.size := by have := Bh8.out.lt; omega
      have ih4 : ¬ w4.heap.size = K := by have := Bh8.out.lt; omega
      have il1 : ¬ H = w2.heap.size := by have := Bl8.out.lt; omega
      have il2 : ¬ w2.heap.size = H := by have := Bl8.out.lt; omega
      have il3 : ¬ K = w2.heap.size := by have := Bl8.out.lt; omega
      have il4 : ¬ w2.heap.size = K := by have := Bl8.out.lt; omega
      have ix1 : ¬ H = w7.heap.size := by have := Bx8.out.lt; omega
      have ix2 : ¬ w7.heap.size = H := by have := Bx8.out.lt; omega
      have ix3 : ¬ K = w7.heap.size := by have := Bx8.out.lt; omega
      have ix4 : ¬ w7.heap.size = K := by have := Bx8.out.lt; omega
      have fn0 := Bn9.out.free 0
      have fn1 := Bn9.out.free 1
      have fn2 := Bn9.out.free 2
      have fn3 := Bn9.out.free 3
      have ff0 := Bf9.out.free 0
      have ff1 := Bf9.out.free 1
      have ff2 := Bf9.out.free 2
      have ff3 := Bf9.out.free 3
      clear HL HBS hq hr hH hK hbc HW3 Ba8 Bl8 Bh8 Bx8 HB8 ya0 ya1 ya2 ya3 yl0 yl1 yl2 yl3 yh0 yh1 yh2 yh3 yx0 yx1 yx2 yx3
      obtain ⟨ya0, ya1, ya2, ya3⟩ := Ba9.out.four
      obtain ⟨yl0, yl1, yl2, yl3⟩ := Bl9.out.four
      obtain ⟨yh0, yh1, yh2, yh3⟩ := Bh9.out.four
      obtain ⟨yx0, yx1, yx2, yx3⟩ := Bx9.out.four
      obtain ⟨yn0, yn1, yn2, yn3⟩ := Bn9.out.four
      obtain ⟨yf0, yf1, yf2, yf3⟩ := Bf9.out.four
      go_wp2
      go_region_held3 (fun w' => w'.cell? ⟨w2.heap.size, 0, none⟩ = some (.int .i64 0) ∧ w'.cell? ⟨w2.heap.size, 1, none⟩ = some (.bool true) ∧ w'.cell? ⟨w2.heap.size, 2, none⟩ = some (.string tl) ∧ w'.cell? ⟨w2.heap.size, 3, none⟩ = some (.int .i64 el) ∧ w'.cell? ⟨w4.heap.size, 0, none⟩ = some (.int .i64 0) ∧ w'.cell? ⟨w4.heap.size, 1, none⟩ = some (.bool true) ∧ w'.cell? ⟨w4.heap.size, 2, none⟩ = some (.string tl) ∧ w'.cell? ⟨w4.heap.size, 3, none⟩ = some (.int .i64 eh)) (go_keep) (fail)
      go_wp2
      go_roundw
      case rel => exact ⟨3 + 1, by first | omega | (have := HK.out; omega), by go_num, (((((((((HBT.out.setCell HS.out.1 _).setCell HS.out.1 _).setCell HS.out.1 _).setCell HS.out.1 _).setCell HS.out.2 _).setCell HS.out.2 _).setCell HS.out.2 _).setCell HS.out.2 _)).drew⟩
      case measure => first | (simp [intOf]; done) | (simp [intOf]; omega) | (have := HK.out; simp [intOf]; omega)
    have hk4 : 4 ≤ k := by omega
    clear j0 j1 j2 j3
    rcases H4.out k hk4 (by omega) with hm | hm
    · have HM := hide hm
      clear hm H0 H1 H2 H3 H4 H5
      have k2 : ((k : Int) == 2) = false := beq_false_of_ne (by omega)
      have k3 : ((k : Int) == 3) = false := beq_false_of_ne (by omega)
      have k8 : (k : Int) < 8 := by omega
      have HK := hide (show k < 8 by omega)
      clear hk hk8 hk4
      go_wp2_with fail
      refine (HM.out _ (HT.out.below HB6.out)).mono ?_
      rintro e w7 ⟨rfl, hb⟩
      have HBS := hide (HBR.out.trans (hb.mono HBR.out.size))
      clear HBR
      have Ba7 := Blk.on Ba6 hb
      have Bl7 := Blk.on Bl6 hb
      have Bh7 := Blk.on Bh6 hb
      have HB7 := hide (HB6.out.trans (hb.mono HB6.out.size))
      clear hb Ba6 Bl6 Bh6 HB6 ya0 ya1 ya2 ya3 yl0 yl1 yl2 yl3 yh0 yh1 yh2 yh3
      obtain ⟨ya0, ya1, ya2, ya3⟩ := Ba7.out.four
      obtain ⟨yl0, yl1, yl2, yl3⟩ := Bl7.out.four
      obtain ⟨yh0, yh1, yh2, yh3⟩ := Bh7.out.four
      have Ba8 := Blk.up Ba7 (.cells #[.int .i64 0, .bool true, .string tl, .int .i64 el] 23)
      have Bl8 := Blk.up Bl7 (.cells #[.int .i64 0, .bool true, .string tl, .int .i64 el] 23)
      have Bh8 := Blk.up Bh7 (.cells #[.int .i64 0, .bool true, .string tl, .int .i64 el] 23)
      have Bx8 := hide ((Blk.newAt w7 (w7.heap.size) (rfl) #[.int .i64 0, .bool true, .string tl, .int .i64 el] 23))
      have HB8 : Hid (Below w.heap.size w (w7.alloc (.cells #[.int .i64 0, .bool true, .string tl, .int .i64 el] 23))) := (HB7.out.alloc HB7.out.size _)
      clear Ba7 Bl7 Bh7 HB7 ya0 ya1 ya2 ya3 yl0 yl1 yl2 yl3 yh0 yh1 yh2 yh3
      obtain ⟨ya0, ya1, ya2, ya3⟩ := Ba8.out.four
      obtain ⟨yl0, yl1, yl2, yl3⟩ := Bl8.out.four
      obtain ⟨yh0, yh1, yh2, yh3⟩ := Bh8.out.four
      obtain ⟨yx0, yx1, yx2, yx3⟩ := Bx8.out.four
      go_wp2
      obtain ⟨W3, hW3⟩ : ∃ W3, W3 = (w7.alloc (.cells #[.int .i64 0, .bool true, .string tl, .int .i64 el] 23)) := ⟨_, rfl⟩
      rw [← hW3] at HB8 Ba8 Bl8 Bh8 Bx8 ya0 ya1 ya2 ya3 yl0 yl1 yl2 yl3 yh0 yh1 yh2 yh3 yx0 yx1 yx2 yx3
      have HW3 := hide hW3
      clear hW3
      have HL : Hid (w2.heap.size < W3.heap.size ∧ w4.heap.size < W3.heap.size) := ⟨Bl8.out.lt, Bh8.out.lt⟩
      simp only [← HW3.out]
      go_cut [12, 13] (fun vp vq wx => Cut2D W3 #[.int .i64 0, .bool true, .string tl, .int .i64 el] #[.int .i64 0, .bool true, .string tl, .int .i64 eh] vp vq wx)
      case first =>
        have nl3 : ¬ w2.heap.size = W3.heap.size := (by have := HL.out; omega)
        have ml3 : ¬ W3.heap.size = w2.heap.size := (by have := HL.out; omega)
        have nh3 : ¬ w4.heap.size = W3.heap.size := (by have := HL.out; omega)
        have mh3 : ¬ W3.heap.size = w4.heap.size := (by have := HL.out; omega)
        go_region_held3 (fun w' => w'.cell? ⟨w2.heap.size, 0, none⟩ = some (.int .i64 0) ∧ w'.cell? ⟨w2.heap.size, 1, none⟩ = some (.bool true) ∧ w'.cell? ⟨w2.heap.size, 2, none⟩ = some (.string tl) ∧ w'.cell? ⟨w2.heap.size, 3, none⟩ = some (.int .i64 el) ∧ w'.cell? ⟨w4.heap.size, 0, none⟩ = some (.int .i64 0) ∧ w'.cell? ⟨w4.heap.size, 1, none⟩ = some (.bool true) ∧ w'.cell? ⟨w4.heap.size, 2, none⟩ = some (.string tl) ∧ w'.cell? ⟨w4.heap.size, 3, none⟩ = some (.int .i64 eh)) (go_keep) (fail)
        all_goals (go_wp2_with fail; go_meet)
        all_goals (first | exact cut2_a | exact cut2_b)
      obtain ⟨⟨H, K, rfl, rfl, hq, hr, hH, hK, hHK, hbc⟩⟩ := hcut
      obtain ⟨w9, hwk⟩ : ∃ x, x = wc := ⟨_, rfl⟩
      subst hwk
      have Ba9 := hide (Ba8.out.below hbc Ba8.out.lt)
      have Bl9 := hide (Bl8.out.below hbc Bl8.out.lt)
      have Bh9 := hide (Bh8.out.below hbc Bh8.out.lt)
      have Bx9 := hide (Bx8.out.below hbc Bx8.out.lt)
      have Bn9 := hide hq
      have Bf9 := hide hr
      have HB9 := hide (HB8.out.trans (hbc.mono HB8.out.size))
      have HBT := hide (HBS.out.trans ((HW3.out ▸ ((Below.refl _ _).alloc (Nat.le_refl _) _ : Below _ _ _) : Below w7.heap.size w7 W3).trans (hbc.mono (by rw [HW3.out]; simp)) |>.mono HBS.out.size))
      have hhk : ¬ K = H := fun g => hHK g.symm
      have HHK := hide (show w.heap.size ≤ H ∧ w.heap.size ≤ K from ⟨Nat.le_trans HB8.out.size hH, Nat.le_trans HB8.out.size hK⟩)
      have HS := hide (show W2.heap.size ≤ H ∧ W2.heap.size ≤ K from (by have g1 := HBS.out.size; have g2 : w7.heap.size ≤ W3.heap.size := (by rw [HW3.out]; simp); omega))
      have ia1 : ¬ H = w.heap.size := by have := Ba8.out.lt; omega
      have ia2 : ¬ w.heap.size = H := by have := Ba8.out.lt; omega
      have ia3 : ¬ K = w.heap.size := by have := Ba8.out.lt; omega
      have ia4 : ¬ w.heap.size = K := by have := Ba8.out.lt; omega
      have ih1 : ¬ H = w4.heap.size := by have := Bh8.out.lt; omega
      have ih2 : ¬ w4.heap.size = H := by have := Bh8.out.lt; omega
      have ih3 : ¬ K = w4.heap.size := by have := Bh8.out.lt; omega
      have ih4 : ¬ w4.heap.size = K := by have := Bh8.out.lt; omega
      have il1 : ¬ H = w2.heap.size := by have := Bl8.out.lt; omega
      have il2 : ¬ w2.heap.size = H := by have := Bl8.out.lt; omega
      have il3 : ¬ K = w2.heap.size := by have := Bl8.out.lt; omega
      have il4 : ¬ w2.heap.size = K := by have := Bl8.out.lt; omega
      have ix1 : ¬ H = w7.heap.size := by have := Bx8.out.lt; omega
      have ix2 : ¬ w7.heap.size = H := by have := Bx8.out.lt; omega
      have ix3 : ¬ K = w7.heap.size := by have := Bx8.out.lt; omega
      have ix4 : ¬ w7.heap.size = K := by have := Bx8.out.lt; omega
      have fn0 := Bn9.out.free 0
      have fn1 := Bn9.out.free 1
      have fn2 := Bn9.out.free 2
      have fn3 := Bn9.out.free 3
      have ff0 := Bf9.out.free 0
      have ff1 := Bf9.out.free 1
      have ff2 := Bf9.out.free 2
      have ff3 := Bf9.out.free 3
      clear HL HBS hq hr hH hK hbc HW3 Ba8 Bl8 Bh8 Bx8 HB8 ya0 ya1 ya2 ya3 yl0 yl1 yl2 yl3 yh0 yh1 yh2 yh3 yx0 yx1 yx2 yx3
      obtain ⟨ya0, ya1, ya2, ya3⟩ := Ba9.out.four
      obtain ⟨yl0, yl1, yl2, yl3⟩ := Bl9.out.four
      obtain ⟨yh0, yh1, yh2, yh3⟩ := Bh9.out.four
      obtain ⟨yx0, yx1, yx2, yx3⟩ := Bx9.out.four
      obtain ⟨yn0, yn1, yn2, yn3⟩ := Bn9.out.four
      obtain ⟨yf0, yf1, yf2, yf3⟩ := Bf9.out.four
      go_wp2
      go_region_held3 (fun w' => w'.cell? ⟨w2.heap.size, 0, none⟩ = some (.int .i64 0) ∧ w'.cell? ⟨w2.heap.size, 1, none⟩ = some (.bool true) ∧ w'.cell? ⟨w2.heap.size, 2, none⟩ = some (.string tl) ∧ w'.cell? ⟨w2.heap.size, 3, none⟩ = some (.int .i64 el) ∧ w'.cell? ⟨w4.heap.size, 0, none⟩ = some (.int .i64 0) ∧ w'.cell? ⟨w4.heap.size, 1, none⟩ = some (.bool true) ∧ w'.cell? ⟨w4.heap.size, 2, none⟩ = some (.string tl) ∧ w'.cell? ⟨w4.heap.size, 3, none⟩ = some (.int .i64 eh)) (go_keep) (fail)
      go_wp2
      go_roundw
      case rel => exact ⟨k + 1, by first | omega | (have := HK.out; omega), by go_num, (((((((((HBT.out.setCell HS.out.1 _).setCell HS.out.1 _).setCell HS.out.1 _).setCell HS.out.1 _).setCell HS.out.2 _).setCell HS.out.2 _).setCell HS.out.2 _).setCell HS.out.2 _)).drew⟩
      case measure => first | (simp [intOf]; done) | (simp [intOf]; omega) | (have := HK.out; simp [intOf]; omega)
    · have HM := hide hm
      clear hm H0 H1 H2 H3 H4 H5
      have k2 : ((k : Int) == 2) = false := beq_false_of_ne (by omega)
      have k3 : ((k : Int) == 3) = false := beq_false_of_ne (by omega)
      have k8 : (k : Int) < 8 := by omega
      have HK := hide (show k < 8 by omega)
      clear hk hk8 hk4
      go_wp2_with fail
      refine (HM.out _ (HT.out.below HB6.out)).mono ?_
      rintro e w7 ⟨rfl, hb⟩
      have HBS := hide (HBR.out.trans (hb.mono HBR.out.size))
      clear HBR
      have Ba7 := Blk.on Ba6 hb
      have Bl7 := Blk.on Bl6 hb
      have Bh7 := Blk.on Bh6 hb
      have HB7 := hide (HB6.out.trans (hb.mono HB6.out.size))
      clear hb Ba6 Bl6 Bh6 HB6 ya0 ya1 ya2 ya3 yl0 yl1 yl2 yl3 yh0 yh1 yh2 yh3
      obtain ⟨ya0, ya1, ya2, ya3⟩ := Ba7.out.four
      obtain ⟨yl0, yl1, yl2, yl3⟩ := Bl7.out.four
      obtain ⟨yh0, yh1, yh2, yh3⟩ := Bh7.out.four
      have Ba8 := Blk.up Ba7 (.cells #[.int .i64 0, .bool true, .string tl, .int .i64 eh] 23)
      have Bl8 := Blk.up Bl7 (.cells #[.int .i64 0, .bool true, .string tl, .int .i64 eh] 23)
      have Bh8 := Blk.up Bh7 (.cells #[.int .i64 0, .bool true, .string tl, .int .i64 eh] 23)
      have Bx8 := hide ((Blk.newAt w7 (w7.heap.size) (rfl) #[.int .i64 0, .bool true, .string tl, .int .i64 eh] 23))
      have HB8 : Hid (Below w.heap.size w (w7.alloc (.cells #[.int .i64 0, .bool true, .string tl, .int .i64 eh] 23))) := (HB7.out.alloc HB7.out.size _)
      clear Ba7 Bl7 Bh7 HB7 ya0 ya1 ya2 ya3 yl0 yl1 yl2 yl3 yh0 yh1 yh2 yh3
      obtain ⟨ya0, ya1, ya2, ya3⟩ := Ba8.out.four
      obtain ⟨yl0, yl1, yl2, yl3⟩ := Bl8.out.four
      obtain ⟨yh0, yh1, yh2, yh3⟩ := Bh8.out.four
      obtain ⟨yx0, yx1, yx2, yx3⟩ := Bx8.out.four
      go_wp2
      obtain ⟨W3, hW3⟩ : ∃ W3, W3 = (w7.alloc (.cells #[.int .i64 0, .bool true, .string tl, .int .i64 eh] 23)) := ⟨_, rfl⟩
      rw [← hW3] at HB8 Ba8 Bl8 Bh8 Bx8 ya0 ya1 ya2 ya3 yl0 yl1 yl2 yl3 yh0 yh1 yh2 yh3 yx0 yx1 yx2 yx3
      have HW3 := hide hW3
      clear hW3
      have HL : Hid (w2.heap.size < W3.heap.size ∧ w4.heap.size < W3.heap.size) := ⟨Bl8.out.lt, Bh8.out.lt⟩
      simp only [← HW3.out]
      go_cut [12, 13] (fun vp vq wx => Cut2D W3 #[.int .i64 0, .bool true, .string tl, .int .i64 el] #[.int .i64 0, .bool true, .string tl, .int .i64 eh] vp vq wx)
      case first =>
        have nl3 : ¬ w2.heap.size = W3.heap.size := (by have := HL.out; omega)
        have ml3 : ¬ W3.heap.size = w2.heap.size := (by have := HL.out; omega)
        have nh3 : ¬ w4.heap.size = W3.heap.size := (by have := HL.out; omega)
        have mh3 : ¬ W3.heap.size = w4.heap.size := (by have := HL.out; omega)
        go_region_held3 (fun w' => w'.cell? ⟨w2.heap.size, 0, none⟩ = some (.int .i64 0) ∧ w'.cell? ⟨w2.heap.size, 1, none⟩ = some (.bool true) ∧ w'.cell? ⟨w2.heap.size, 2, none⟩ = some (.string tl) ∧ w'.cell? ⟨w2.heap.size, 3, none⟩ = some (.int .i64 el) ∧ w'.cell? ⟨w4.heap.size, 0, none⟩ = some (.int .i64 0) ∧ w'.cell? ⟨w4.heap.size, 1, none⟩ = some (.bool true) ∧ w'.cell? ⟨w4.heap.size, 2, none⟩ = some (.string tl) ∧ w'.cell? ⟨w4.heap.size, 3, none⟩ = some (.int .i64 eh)) (go_keep) (fail)
        all_goals (go_wp2_with fail; go_meet)
        all_goals (first | exact cut2_a | exact cut2_b)
      obtain ⟨⟨H, K, rfl, rfl, hq, hr, hH, hK, hHK, hbc⟩⟩ := hcut
      obtain ⟨w9, hwk⟩ : ∃ x, x = wc := ⟨_, rfl⟩
      subst hwk
      have Ba9 := hide (Ba8.out.below hbc Ba8.out.lt)
      have Bl9 := hide (Bl8.out.below hbc Bl8.out.lt)
      have Bh9 := hide (Bh8.out.below hbc Bh8.out.lt)
      have Bx9 := hide (Bx8.out.below hbc Bx8.out.lt)
      have Bn9 := hide hq
      have Bf9 := hide hr
      have HB9 := hide (HB8.out.trans (hbc.mono HB8.out.size))
      have HBT := hide (HBS.out.trans ((HW3.out ▸ ((Below.refl _ _).alloc (Nat.le_refl _) _ : Below _ _ _) : Below w7.heap.size w7 W3).trans (hbc.mono (by rw [HW3.out]; simp)) |>.mono HBS.out.size))
      have hhk : ¬ K = H := fun g => hHK g.symm
      have HHK := hide (show w.heap.size ≤ H ∧ w.heap.size ≤ K from ⟨Nat.le_trans HB8.out.size hH, Nat.le_trans HB8.out.size hK⟩)
      have HS := hide (show W2.heap.size ≤ H ∧ W2.heap.size ≤ K from (by have g1 := HBS.out.size; have g2 : w7.heap.size ≤ W3.heap.size := (by rw [HW3.out]; simp); omega))
      have ia1 : ¬ H = w.heap.size := by have := Ba8.out.lt; omega
      have ia2 : ¬ w.heap.size = H := by have := Ba8.out.lt; omega
      have ia3 : ¬ K = w.heap.size := by have := Ba8.out.lt; omega
      have ia4 : ¬ w.heap.size = K := by have := Ba8.out.lt; omega
      have ih1 : ¬ H = w4.heap.size := by have := Bh8.out.lt; omega
      have ih2 : ¬ w4.heap.size = H := by have := Bh8.out.lt; omega
      have ih3 : ¬ K = w4.heap.size := by have := Bh8.out.lt; omega
      have ih4 : ¬ w4.heap.size = K := by have := Bh8.out.lt; omega
      have il1 : ¬ H = w2.heap.size := by have := Bl8.out.lt; omega
      have il2 : ¬ w2.heap.size = H := by have := Bl8.out.lt; omega
      have il3 : ¬ K = w2.heap.size := by have := Bl8.out.lt; omega
      have il4 : ¬ w2.heap.size = K := by have := Bl8.out.lt; omega
      have ix1 : ¬ H = w7.heap.size := by have := Bx8.out.lt; omega
      have ix2 : ¬ w7.heap.size = H := by have := Bx8.out.lt; omega
      have ix3 : ¬ K = w7.heap.size := by have := Bx8.out.lt; omega
      have ix4 : ¬ w7.heap.size = K := by have := Bx8.out.lt; omega
      have fn0 := Bn9.out.free 0
      have fn1 := Bn9.out.free 1
      have fn2 := Bn9.out.free 2
      have fn3 := Bn9.out.free 3
      have ff0 := Bf9.out.free 0
      have ff1 := Bf9.out.free 1
      have ff2 := Bf9.out.free 2
      have ff3 := Bf9.out.free 3
      clear HL HBS hq hr hH hK hbc HW3 Ba8 Bl8 Bh8 Bx8 HB8 ya0 ya1 ya2 ya3 yl0 yl1 yl2 yl3 yh0 yh1 yh2 yh3 yx0 yx1 yx2 yx3
      obtain ⟨ya0, ya1, ya2, ya3⟩ := Ba9.out.four
      obtain ⟨yl0, yl1, yl2, yl3⟩ := Bl9.out.four
      obtain ⟨yh0, yh1, yh2, yh3⟩ := Bh9.out.four
      obtain ⟨yx0, yx1, yx2, yx3⟩ := Bx9.out.four
      obtain ⟨yn0, yn1, yn2, yn3⟩ := Bn9.out.four
      obtain ⟨yf0, yf1, yf2, yf3⟩ := Bf9.out.four
      go_wp2
      go_region_held3 (fun w' => w'.cell? ⟨w2.heap.size, 0, none⟩ = some (.int .i64 0) ∧ w'.cell? ⟨w2.heap.size, 1, none⟩ = some (.bool true) ∧ w'.cell? ⟨w2.heap.size, 2, none⟩ = some (.string tl) ∧ w'.cell? ⟨w2.heap.size, 3, none⟩ = some (.int .i64 el) ∧ w'.cell? ⟨w4.heap.size, 0, none⟩ = some (.int .i64 0) ∧ w'.cell? ⟨w4.heap.size, 1, none⟩ = some (.bool true) ∧ w'.cell? ⟨w4.heap.size, 2, none⟩ = some (.string tl) ∧ w'.cell? ⟨w4.heap.size, 3, none⟩ = some (.int .i64 eh)) (go_keep) (fail)
      go_wp2
      go_roundw
      case rel => exact ⟨k + 1, by first | omega | (have := HK.out; omega), by go_num, (((((((((HBT.out.setCell HS.out.1 _).setCell HS.out.1 _).setCell HS.out.1 _).setCell HS.out.1 _).setCell HS.out.2 _).setCell HS.out.2 _).setCell HS.out.2 _).setCell HS.out.2 _)).drew⟩
      case measure => first | (simp [intOf]; done) | (simp [intOf]; omega) | (have := HK.out; simp [intOf]; omega)

end Go.Proofs.YtcclbcnmkaobpaaGreatDoor
