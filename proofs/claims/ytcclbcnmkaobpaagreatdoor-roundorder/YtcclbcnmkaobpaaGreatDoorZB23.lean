/-
  The walk of RoundOrder, a number below 0.
  RoundOrder: the eight modes stand around a number.
-/
import Derived.Test.YtcclbcnmkaobpaaGreatDoorZB6
import Derived.Test.YtcclbcnmkaobpaaGreatDoorZB20
import Derived.Test.YtcclbcnmkaobpaaGreatDoorZB21
import Derived.Test.YtcclbcnmkaobpaaGreatDoorZB11
import Derived.Test.YtcclbcnmkaobpaaGreatDoorZB22
namespace Go.Proofs.YtcclbcnmkaobpaaGreatDoor
open Go.RowKit

set_option maxRecDepth 100000 in
set_option maxHeartbeats 8000000 in
theorem order_tee (tl : ByteArray) (el : Int) (eh : Int) (ea : Int) (p : Int) (w : World) (htab : Tab w) (q1 : (el == eh) = false) (q2 : (eh == el) = false) (q3 : (el == ea) = false) (g0 : ∀ W, Tab W → Calls Tryz.prog 11 #[.agg #[.int .i64 0, .bool true, .string tl, .int .i64 ea], .int .i64 p, .int .i64 0] W fun e w' => e = .returned (.tuple #[.agg #[.int .i64 0, .bool true, .string tl, .int .i64 eh], .int .i64 0]) ∧ Below W.heap.size W w') (g1 : ∀ W, Tab W → Calls Tryz.prog 11 #[.agg #[.int .i64 0, .bool true, .string tl, .int .i64 ea], .int .i64 p, .int .i64 1] W fun e w' => e = .returned (.tuple #[.agg #[.int .i64 0, .bool true, .string tl, .int .i64 el], .int .i64 0]) ∧ Below W.heap.size W w') (g2 : ∀ W, Tab W → Calls Tryz.prog 11 #[.agg #[.int .i64 0, .bool true, .string tl, .int .i64 ea], .int .i64 p, .int .i64 2] W fun e w' => e = .returned (.tuple #[.agg #[.int .i64 0, .bool true, .string tl, .int .i64 eh], .int .i64 0]) ∧ Below W.heap.size W w') (g3 : ∀ W, Tab W → Calls Tryz.prog 11 #[.agg #[.int .i64 0, .bool true, .string tl, .int .i64 ea], .int .i64 p, .int .i64 3] W fun e w' => e = .returned (.tuple #[.agg #[.int .i64 0, .bool true, .string tl, .int .i64 el], .int .i64 0]) ∧ Below W.heap.size W w') (g4 : ∀ k : Nat, 4 ≤ k → k < 8 → (∀ W, Tab W → Calls Tryz.prog 11 #[.agg #[.int .i64 0, .bool true, .string tl, .int .i64 ea], .int .i64 p, .int .i64 (k : Int)] W fun e w' => e = .returned (.tuple #[.agg #[.int .i64 0, .bool true, .string tl, .int .i64 el], .int .i64 0]) ∧ Below W.heap.size W w') ∨ (∀ W, Tab W → Calls Tryz.prog 11 #[.agg #[.int .i64 0, .bool true, .string tl, .int .i64 ea], .int .i64 p, .int .i64 (k : Int)] W fun e w' => e = .returned (.tuple #[.agg #[.int .i64 0, .bool true, .string tl, .int .i64 eh], .int .i64 0]) ∧ Below W.heap.size W w')) (g5 : ∀ W, Calls Tryz.prog 20 #[.agg #[.int .i64 0, .bool true, .string tl, .int .i64 eh], .agg #[.int .i64 0, .bool true, .string tl, .int .i64 el]] W fun e w' => e = .returned (.bool false) ∧ Below W.heap.size W w') : Calls Tryz.prog 10 #[.agg #[.int .i64 0, .bool true, .string tl, .int .i64 ea], .int .i64 p] w fun e w' => e = .returned (.bool true) ∧ Below w.heap.size w w' := by
  have H0 := hide g0
  have H1 := hide g1
  have H2 := hide g2
  have H3 := hide g3
  have H4 := hide g4
  have H5 := hide g5
  have HT := hide htab
  clear htab g0 g1 g2 g3 g4 g5
  have Ba0 := hide (Blk.newAt w (w.heap.size) (rfl) #[.int .i64 0, .bool true, .string tl, .int .i64 ea] 23)
  have HB0 : Hid (Below w.heap.size w (w.alloc (.cells #[.int .i64 0, .bool true, .string tl, .int .i64 ea] 23))) := ((Below.refl _ _).alloc (Nat.le_refl _) _)
  go_enter Tryz.func10, Tryz.ntmps10
  go_wp2_with fail
  refine (rawake_any _ (HT.out.below HB0.out)).mono ?_
  rintro e w1 ⟨rfl, hb⟩
  have Ba1 := Blk.on Ba0 hb
  have HB1 := hide (HB0.out.trans (hb.mono HB0.out.size))
  clear hb Ba0 HB0 
  obtain ⟨ya0, ya1, ya2, ya3⟩ := Ba1.out.four
  go_wp2_with fail
  refine (H1.out _ (HT.out.below HB1.out)).mono ?_
  rintro e w2 ⟨rfl, hb⟩
  have Ba2 := Blk.on Ba1 hb
  have HB2 := hide (HB1.out.trans (hb.mono HB1.out.size))
  clear hb Ba1 HB1 ya0 ya1 ya2 ya3
  obtain ⟨ya0, ya1, ya2, ya3⟩ := Ba2.out.four
  have Ba3 := Blk.up Ba2 (.cells #[.int .i64 0, .bool true, .string tl, .int .i64 el] 23)
  have Bl3 := hide ((Blk.newAt w2 (w2.heap.size) (rfl) #[.int .i64 0, .bool true, .string tl, .int .i64 el] 23))
  have HB3 : Hid (Below w.heap.size w (w2.alloc (.cells #[.int .i64 0, .bool true, .string tl, .int .i64 el] 23))) := (HB2.out.alloc HB2.out.size _)
  clear Ba2 HB2 ya0 ya1 ya2 ya3
  obtain ⟨ya0, ya1, ya2, ya3⟩ := Ba3.out.four
  obtain ⟨yl0, yl1, yl2, yl3⟩ := Bl3.out.four
  go_wp2_with fail
  refine (H0.out _ (HT.out.below HB3.out)).mono ?_
  rintro e w4 ⟨rfl, hb⟩
  have Ba4 := Blk.on Ba3 hb
  have Bl4 := Blk.on Bl3 hb
  have HB4 := hide (HB3.out.trans (hb.mono HB3.out.size))
  clear hb Ba3 Bl3 HB3 ya0 ya1 ya2 ya3 yl0 yl1 yl2 yl3
  obtain ⟨ya0, ya1, ya2, ya3⟩ := Ba4.out.four
  obtain ⟨yl0, yl1, yl2, yl3⟩ := Bl4.out.four
  have Ba5 := Blk.up Ba4 (.cells #[.int .i64 0, .bool true, .string tl, .int .i64 eh] 23)
  have Bl5 := Blk.up Bl4 (.cells #[.int .i64 0, .bool true, .string tl, .int .i64 eh] 23)
  have Bh5 := hide ((Blk.newAt w4 (w4.heap.size) (rfl) #[.int .i64 0, .bool true, .string tl, .int .i64 eh] 23))
  have HB5 : Hid (Below w.heap.size w (w4.alloc (.cells #[.int .i64 0, .bool true, .string tl, .int .i64 eh] 23))) := (HB4.out.alloc HB4.out.size _)
  clear Ba4 Bl4 HB4 ya0 ya1 ya2 ya3 yl0 yl1 yl2 yl3
  obtain ⟨ya0, ya1, ya2, ya3⟩ := Ba5.out.four
  obtain ⟨yl0, yl1, yl2, yl3⟩ := Bl5.out.four
  obtain ⟨yh0, yh1, yh2, yh3⟩ := Bh5.out.four
  obtain ⟨W2, hW2⟩ : ∃ W2, W2 = (w4.alloc (.cells #[.int .i64 0, .bool true, .string tl, .int .i64 eh] 23)) := ⟨_, rfl⟩
  rw [← hW2] at HB5 Ba5 Bl5 Bh5 ya0 ya1 ya2 ya3 yl0 yl1 yl2 yl3 yh0 yh1 yh2 yh3
  have HW2 := hide hW2
  clear hW2
  go_wp2
  simp only [← HW2.out]
  go_loopw [9] (fun iv wr => ∃ k : Nat, k ≤ 8 ∧ iv = .int .i64 (k : Int) ∧ Hid (Below W2.heap.size W2 wr)) (fun iv _ => 8 - (intOf iv).toNat)
  case atStart => exact ⟨0, by omega, rfl, Below.refl _ _⟩
  case round =>
    obtain ⟨k, hk, rfl, hbr⟩ := hrel
    have Ba6 := hide (Ba5.out.below hbr.out Ba5.out.lt)
    have Bl6 := hide (Bl5.out.below hbr.out Bl5.out.lt)
    have Bh6 := hide (Bh5.out.below hbr.out Bh5.out.lt)
    have HB6 := hide (HB5.out.trans (hbr.out.mono HB5.out.size))
    have HBR : Hid (Below W2.heap.size W2 wr) := hbr
    clear hbr HW2 Ba5 Bl5 Bh5 HB5 ya0 ya1 ya2 ya3 yl0 yl1 yl2 yl3 yh0 yh1 yh2 yh3
    obtain ⟨ya0, ya1, ya2, ya3⟩ := Ba6.out.four
    obtain ⟨yl0, yl1, yl2, yl3⟩ := Bl6.out.four
    obtain ⟨yh0, yh1, yh2, yh3⟩ := Bh6.out.four
    by_cases hk8 : k = 8
    · skip
      subst hk8
      clear hk HBR HT H0 H1 H2 H3 H4
      have b0 : Hid (Below wr.heap.size wr wr.drew) := bdrewD wr
      have C0 : Hid (∀ X, Hid (Below wr.heap.size wr X) → Calls Tryz.prog 20 #[.agg #[.int .i64 0, .bool true, .string tl, .int .i64 eh], .agg #[.int .i64 0, .bool true, .string tl, .int .i64 el]] X fun e w' => e = .returned (.bool false) ∧ Hid (Below wr.heap.size wr w') ∧ w'.cell? ⟨w.heap.size, 0, none⟩ = some (.int .i64 0) ∧ w'.cell? ⟨w.heap.size, 1, none⟩ = some (.bool true) ∧ w'.cell? ⟨w.heap.size, 2, none⟩ = some (.string tl) ∧ w'.cell? ⟨w.heap.size, 3, none⟩ = some (.int .i64 ea) ∧ w'.cell? ⟨w2.heap.size, 0, none⟩ = some (.int .i64 0) ∧ w'.cell? ⟨w2.heap.size, 1, none⟩ = some (.bool true) ∧ w'.cell? ⟨w2.heap.size, 2, none⟩ = some (.string tl) ∧ w'.cell? ⟨w2.heap.size, 3, none⟩ = some (.int .i64 el) ∧ w'.cell? ⟨w4.heap.size, 0, none⟩ = some (.int .i64 0) ∧ w'.cell? ⟨w4.heap.size, 1, none⟩ = some (.bool true) ∧ w'.cell? ⟨w4.heap.size, 2, none⟩ = some (.string tl) ∧ w'.cell? ⟨w4.heap.size, 3, none⟩ = some (.int .i64 eh)) := by
        intro X bX
        refine (H5.out X).mono ?_
        rintro e w' ⟨rfl, hb⟩
        have bb := bX.out.trans (hb.mono bX.out.size)
        have Baq := Ba6.out.below bb Ba6.out.lt
        have Blq := Bl6.out.below bb Bl6.out.lt
        have Bhq := Bh6.out.below bb Bh6.out.lt
        exact ⟨rfl, bb, Baq.cell 0, Baq.cell 1, Baq.cell 2, Baq.cell 3, Blq.cell 0, Blq.cell 1, Blq.cell 2, Blq.cell 3, Bhq.cell 0, Bhq.cell 1, Bhq.cell 2, Bhq.cell 3⟩
      go_wp2_with fail
      have mk0 : True := trivial
      go_region_held3 (fun w' => w'.cell? ⟨w.heap.size, 0, none⟩ = some (.int .i64 0) ∧ w'.cell? ⟨w.heap.size, 1, none⟩ = some (.bool true) ∧ w'.cell? ⟨w.heap.size, 2, none⟩ = some (.string tl) ∧ w'.cell? ⟨w.heap.size, 3, none⟩ = some (.int .i64 ea) ∧ w'.cell? ⟨w2.heap.size, 0, none⟩ = some (.int .i64 0) ∧ w'.cell? ⟨w2.heap.size, 1, none⟩ = some (.bool true) ∧ w'.cell? ⟨w2.heap.size, 2, none⟩ = some (.string tl) ∧ w'.cell? ⟨w2.heap.size, 3, none⟩ = some (.int .i64 el) ∧ w'.cell? ⟨w4.heap.size, 0, none⟩ = some (.int .i64 0) ∧ w'.cell? ⟨w4.heap.size, 1, none⟩ = some (.bool true) ∧ w'.cell? ⟨w4.heap.size, 2, none⟩ = some (.string tl) ∧ w'.cell? ⟨w4.heap.size, 3, none⟩ = some (.int .i64 eh)) (go_keep) (first
        | (clear mk0; go_at_call 20; refine (C0.out _ b0).mono ?_; rintro e w7 ⟨rfl, b1, q0_0, q0_1, q0_2, q0_3, q0_4, q0_5, q0_6, q0_7, q0_8, q0_9, q0_10, q0_11⟩; have mk1 : True := trivial))
      have Ba7 := hide (Ba6.out.below b1.out Ba6.out.lt)
      have Bl7 := hide (Bl6.out.below b1.out Bl6.out.lt)
      have Bh7 := hide (Bh6.out.below b1.out Bh6.out.lt)
      have HB7 := hide (HB6.out.trans (b1.out.mono HB6.out.size))
      clear mk1 b0 b1 C0 q0_0 q0_1 q0_2 q0_3 q0_4 q0_5 q0_6 q0_7 q0_8 q0_9 q0_10 q0_11 Ba6 Bl6 Bh6 HB6 ya0 ya1 ya2 ya3 yl0 yl1 yl2 yl3 yh0 yh1 yh2 yh3
      obtain ⟨ya0, ya1, ya2, ya3⟩ := Ba7.out.four
      obtain ⟨yl0, yl1, yl2, yl3⟩ := Bl7.out.four
      obtain ⟨yh0, yh1, yh2, yh3⟩ := Bh7.out.four
      go_wp2
      go_ret
      exact ⟨rfl, HB7.out⟩
    by_cases j0 : k = 0
    · skip
      obtain rfl : k = 0 := by omega
      clear hk hk8
      go_wp2_with fail
      refine (H0.out _ (HT.out.below HB6.out)).mono ?_
      rintro e w7 ⟨rfl, hb⟩
      have HBS := hide (HBR.out.trans (hb.mono HBR.out.size))
      clear HBR
      have Ba7 := Blk.on Ba6 hb
      have Bl7 := Blk.on Bl6 hb
      have Bh7 := Blk.on Bh6 hb
      have HB7 := hide (HB6.out.trans (hb.mono HB6.out.size))
      clear hb Ba6 Bl6 Bh6 HB6 ya0 ya1 ya2 ya3 yl0 yl1 yl2 yl3 yh0 yh1 yh2 yh3
      obtain ⟨ya0, ya1, ya2, ya3⟩ := Ba7.out.four
      obtain ⟨yl0, yl1, yl2, yl3⟩ := Bl7.out.four
      obtain ⟨yh0, yh1, yh2, yh3⟩ := Bh7.out.four
      have Ba8 := Blk.up Ba7 (.cells #[.int .i64 0, .bool true, .string tl, .int .i64 eh] 23)
      have Bl8 := Blk.up Bl7 (.cells #[.int .i64 0, .bool true, .string tl, .int .i64 eh] 23)
      have Bh8 := Blk.up Bh7 (.cells #[.int .i64 0, .bool true, .string tl, .int .i64 eh] 23)
      have Bx8 := hide ((Blk.newAt w7 (w7.heap.size) (rfl) #[.int .i64 0, .bool true, .string tl, .int .i64 eh] 23))
      have HB8 : Hid (Below w.heap.size w (w7.alloc (.cells #[.int .i64 0, .bool true, .string tl, .int .i64 eh] 23))) := (HB7.out.alloc HB7.out.size _)
      clear Ba7 Bl7 Bh7 HB7 ya0 ya1 ya2 ya3 yl0 yl1 yl2 yl3 yh0 yh1 yh2 yh3
      obtain ⟨ya0, ya1, ya2, ya3⟩ := Ba8.out.four
      obtain ⟨yl0, yl1, yl2, yl3⟩ := Bl8.out.four
      obtain ⟨yh0, yh1, yh2, yh3⟩ := Bh8.out.four
      obtain ⟨yx0, yx1, yx2, yx3⟩ := Bx8.out.four
      go_wp2
      obtain ⟨W3, hW3⟩ : ∃ W3, W3 = (w7.alloc (.cells #[.int .i64 0, .bool true, .string tl, .int .i64 eh] 23)) := ⟨_, rfl⟩
      rw [← hW3] at HB8 Ba8 Bl8 Bh8 Bx8 ya0 ya1 ya2 ya3 yl0 yl1 yl2 yl3 yh0 yh1 yh2 yh3 yx0 yx1 yx2 yx3
      have HW3 := hide hW3
      clear hW3
      have HL : Hid (w2.heap.size < W3.heap.size ∧ w4.heap.size < W3.heap.size) := ⟨Bl8.out.lt, Bh8.out.lt⟩
      simp only [← HW3.out]
      go_cut [12, 13] (fun vp vq wx => Cut2D W3 #[.int .i64 0, .bool true, .string tl, .int .i64 el] #[.int .i64 0, .bool true, .string tl, .int .i64 eh] vp vq wx)
      case first =>
        have nl3 : ¬ w2.heap.size = W3.heap.size := (by have := HL.out; omega)
        have ml3 : ¬ W3.heap.size = w2.heap.size := (by have := HL.out; omega)
        have nh3 : ¬ w4.heap.size = W3.heap.size := (by have := HL.out; omega)
        have mh3 : ¬ W3.heap.size = w4.heap.size := (by have := HL.out; omega)
        go_region_held3 (fun w' => w'.cell? ⟨w2.heap.size, 0, none⟩ = some (.int .i64 0) ∧ w'.cell? ⟨w2.heap.size, 1, none⟩ = some (.bool true) ∧ w'.cell? ⟨w2.heap.size, 2, none⟩ = some (.string tl) ∧ w'.cell? ⟨w2.heap.size, 3, none⟩ = some (.int .i64 el) ∧ w'.cell? ⟨w4.heap.size, 0, none⟩ = some (.int .i64 0) ∧ w'.cell? ⟨w4.heap.size, 1, none⟩ = some (.bool true) ∧ w'.cell? ⟨w4.heap.size, 2, none⟩ = some (.string tl) ∧ w'.cell? ⟨w4.heap.size, 3, none⟩ = some (.int .i64 eh)) (go_keep) (fail)
        all_goals (go_wp2_with fail; go_meet)
        all_goals (first | exact cut2_a | exact cut2_b)
      obtain ⟨⟨H, K, rfl, rfl, hq, hr, hH, hK, hHK, hbc⟩⟩ := hcut
      obtain ⟨w9, hwk⟩ : ∃ x, x = wc := ⟨_, rfl⟩
      subst hwk
      have Ba9 := hide (Ba8.out.below hbc Ba8.out.lt)
      have Bl9 := hide (Bl8.out.below hbc Bl8.out.lt)
      have Bh9 := hide (Bh8.out.below hbc Bh8.out.lt)
      have Bx9 := hide (Bx8.out.below hbc Bx8.out.lt)
      have Bn9 := hide hq
      have Bf9 := hide hr
      have HB9 := hide (HB8.out.trans (hbc.mono HB8.out.size))
      have HBT := hide (HBS.out.trans ((HW3.out ▸ ((Below.refl _ _).alloc (Nat.le_refl _) _ : Below _ _ _) : Below w7.heap.size w7 W3).trans (hbc.mono (by rw [HW3.out]; simp)) |>.mono HBS.out.size))
      have hhk : ¬ K = H := fun g => hHK g.symm
      have HHK := hide (show w.heap.size ≤ H ∧ w.heap.size ≤ K from ⟨Nat.le_trans HB8.out.size hH, Nat.le_trans HB8.out.size hK⟩)
      have HS := hide (show W2.heap.size ≤ H ∧ W2.heap.size ≤ K from (by have g1 := HBS.out.size; have g2 : w7.heap.size ≤ W3.heap.size := (by rw [HW3.out]; simp); omega))
      have ia1 : ¬ H = w.heap.size := by have := Ba8.out.lt; omega
      have ia2 : ¬ w.heap.size = H := by have := Ba8.out.lt; omega
      have ia3 : ¬ K = w.heap.size := by have := Ba8.out.lt; omega
      have ia4 : ¬ w.heap.size = K := by have := Ba8.out.lt; omega
      have ih1 : ¬ H = w4.heap.size := by have := Bh8.out.lt; omega
      have ih2 : ¬ w4.heap.size = H := by have := Bh8.out.lt; omega
      have ih3 : ¬ K = w4.heap.size := by have := Bh8.out.lt; omega
      have ih4 : ¬ w4.heap.size = K := by have := Bh8.out.lt; omega
      have il1 : ¬ H = w2.heap.size := by have := Bl8.out.lt; omega
      have il2 : ¬ w2.heap.size = H := by have := Bl8.out.lt; omega
      have il3 : ¬ K = w2.heap.size := by have := Bl8.out.lt; omega
      have il4 : ¬ w2.heap.size = K := by have := Bl8.out.lt; omega
      have ix1 : ¬ H = w7.heap.size := by have := Bx8.out.lt; omega
      have ix2 : ¬ w7.heap.size = H := by have := Bx8.out.lt; omega
      have ix3 : ¬ K = w7.heap.size := by have := Bx8.out.lt; omega
      have ix4 : ¬ w7.heap.size = K := by have := Bx8.out.lt; omega
      have fn0 := Bn9.out.free 0
      have fn1 := Bn9.out.free 1
      have fn2 := Bn9.out.free 2
      have fn3 := Bn9.out.free 3
      have ff0 := Bf9.out.free 0
      have ff1 := Bf9.out.free 1
      have ff2 := Bf9.out.free 2
      have ff3 := Bf9.out.free 3
      clear HL HBS hq hr hH hK hbc HW3 Ba8 Bl8 Bh8 Bx8 HB8 ya0 ya1 ya2 ya3 yl0 yl1 yl2 yl3 yh0 yh1 yh2 yh3 yx0 yx1 yx2 yx3
      obtain ⟨ya0, ya1, ya2, ya3⟩ := Ba9.out.four
      obtain ⟨yl0, yl1, yl2, yl3⟩ := Bl9.out.four
      obtain ⟨yh0, yh1, yh2, yh3⟩ := Bh9.out.four
      obtain ⟨yx0, yx1, yx2, yx3⟩ := Bx9.out.four
      obtain ⟨yn0, yn1, yn2, yn3⟩ := Bn9.out.four
      obtain ⟨yf0, yf1, yf2, yf3⟩ := Bf9.out.four
      go_wp2
      go_region_held3 (fun w' => w'.cell? ⟨w2.heap.size, 0, none⟩ = some (.int .i64 0) ∧ w'.cell? ⟨w2.heap.size, 1, none⟩ = some (.bool true) ∧ w'.cell? ⟨w2.heap.size, 2, none⟩ = some (.string tl) ∧ w'.cell? ⟨w2.heap.size, 3, none⟩ = some (.int .i64 el) ∧ w'.cell? ⟨w4.heap.size, 0, none⟩ = some (.int .i64 0) ∧ w'.cell? ⟨w4.heap.size, 1, none⟩ = some (.bool true) ∧ w'.cell? ⟨w4.heap.size, 2, none⟩ = some (.string tl) ∧ w'.cell? ⟨w4.heap.size, 3, none⟩ = some (.int .i64 eh)) (go_keep) (fail)
      go_wp2
      go_roundw
      case rel => exact ⟨0 + 1, by first | omega | (have := HK.out; omega), by go_num, (((((((((HBT.out.setCell HS.out.1 _).setCell HS.out.1 _).setCell HS.out.1 _).setCell HS.out.1 _).setCell HS.out.2 _).setCell HS.out.2 _).setCell HS.out.2 _).setCell HS.out.2 _)).drew⟩
      case measure => first | (simp [intOf]; done) | (simp [intOf]; omega) | (have := HK.out; simp [intOf]; omega)
    by_cases j1 : k = 1
    · skip
      obtain rfl : k = 1 := by omega
      clear hk hk8
      go_wp2_with fail
      refine (H1.out _ (HT.out.below HB6.out)).mono ?_
      rintro e w7 ⟨rfl, hb⟩
      have HBS := hide (HBR.out.trans (hb.mono HBR.out.size))
      clear HBR
      have Ba7 := Blk.on Ba6 hb
      have Bl7 := Blk.on Bl6 hb
      have Bh7 := Blk.on Bh6 hb
      have HB7 := hide (HB6.out.trans (hb.mono HB6.out.size))
      clear hb Ba6 Bl6 Bh6 HB6 ya0 ya1 ya2 ya3 yl0 yl1 yl2 yl3 yh0 yh1 yh2 yh3
      obtain ⟨ya0, ya1, ya2, ya3⟩ := Ba7.out.four
      obtain ⟨yl0, yl1, yl2, yl3⟩ := Bl7.out.four
      obtain ⟨yh0, yh1, yh2, yh3⟩ := Bh7.out.four
      have Ba8 := Blk.up Ba7 (.cells #[.int .i64 0, .bool true, .string tl, .int .i64 el] 23)
      have Bl8 := Blk.up Bl7 (.cells #[.int .i64 0, .bool true, .string tl, .int .i64 el] 23)
      have Bh8 := Blk.up Bh7 (.cells #[.int .i64 0, .bool true, .string tl, .int .i64 el] 23)
      have Bx8 := hide ((Blk.newAt w7 (w7.heap.size) (rfl) #[.int .i64 0, .bool true, .string tl, .int .i64 el] 23))
      have HB8 : Hid (Below w.heap.size w (w7.alloc (.cells #[.int .i64 0, .bool true, .string tl, .int .i64 el] 23))) := (HB7.out.alloc HB7.out.size _)
      clear Ba7 Bl7 Bh7 HB7 ya0 ya1 ya2 ya3 yl0 yl1 yl2 yl3 yh0 yh1 yh2 yh3
      obtain ⟨ya0, ya1, ya2, ya3⟩ := Ba8.out.four
      obtain ⟨yl0, yl1, yl2, yl3⟩ := Bl8.out.four
      obtain ⟨yh0, yh1, yh2, yh3⟩ := Bh8.out.four
      obtain ⟨yx0, yx1, yx2, yx3⟩ := Bx8.out.four
      go_wp2
      obtain ⟨W3, hW3⟩ : ∃ W3, W3 = (w7.alloc (.cells #[.int .i64 0, .bool true, .string tl, .int .i64 el] 23)) := ⟨_, rfl⟩
      rw [← hW3] at HB8 Ba8 Bl8 Bh8 Bx8 ya0 ya1 ya2 ya3 yl0 yl1 yl2 yl3 yh0 yh1 yh2 yh3 yx0 yx1 yx2 yx3
      have HW3 := hide hW3
      clear hW3
      have HL : Hid (w2.heap.size < W3.heap.size ∧ w4.heap.size < W3.heap.size) := ⟨Bl8.out.lt, Bh8.out.lt⟩
      simp only [← HW3.out]
      go_cut [12, 13] (fun vp vq wx => Cut2D W3 #[.int .i64 0, .bool true, .string tl, .int .i64 el] #[.int .i64 0, .bool true, .string tl, .int .i64 eh] vp vq wx)
      case first =>
        have nl3 : ¬ w2.heap.size = W3.heap.size := (by have := HL.out; omega)
        have ml3 : ¬ W3.heap.size = w2.heap.size := (by have := HL.out; omega)
        have nh3 : ¬ w4.heap.size = W3.heap.size := (by have := HL.out; omega)
        have mh3 : ¬ W3.heap.size = w4.heap.size := (by have := HL.out; omega)
        go_region_held3 (fun w' => w'.cell? ⟨w2.heap.size, 0, none⟩ = some (.int .i64 0) ∧ w'.cell? ⟨w2.heap.size, 1, none⟩ = some (.bool true) ∧ w'.cell? ⟨w2.heap.size, 2, none⟩ = some (.string tl) ∧ w'.cell? ⟨w2.heap.size, 3, none⟩ = some (.int .i64 el) ∧ w'.cell? ⟨w4.heap.size, 0, none⟩ = some (.int .i64 0) ∧ w'.cell? ⟨w4.heap.size, 1, none⟩ = some (.bool true) ∧ w'.cell? ⟨w4.heap.size, 2, none⟩ = some (.string tl) ∧ w'.cell? ⟨w4.heap.size, 3, none⟩ = some (.int .i64 eh)) (go_keep) (fail)
        all_goals (go_wp2_with fail; go_meet)
        all_goals (first | exact cut2_a | exact cut2_b)
      obtain ⟨⟨H, K, rfl, rfl, hq, hr, hH, hK, hHK, hbc⟩⟩ := hcut
      obtain ⟨w9, hwk⟩ : ∃ x, x = wc := ⟨_, rfl⟩
      subst hwk
      have Ba9 := hide (Ba8.out.below hbc Ba8.out.lt)
      have Bl9 := hide (Bl8.out.below hbc Bl8.out.lt)
      have Bh9 := hide (Bh8.out.below hbc Bh8.out.lt)
      have Bx9 := hide (Bx8.out.below hbc Bx8.out.lt)
      have Bn9 := hide hq
      have Bf9 := hide hr
      have HB9 := hide (HB8.out.trans (hbc.mono HB8.out.size))
      have HBT := hide (HBS.out.trans ((HW3.out ▸ ((Below.refl _ _).alloc (Nat.le_refl _) _ : Below _ _ _) : Below w7.heap.size w7 W3).trans (hbc.mono (by rw [HW3.out]; simp)) |>.mono HBS.out.size))
      have hhk : ¬ K = H := fun g => hHK g.symm
      have HHK := hide (show w.heap.size ≤ H ∧ w.heap.size ≤ K from ⟨Nat.le_trans HB8.out.size hH, Nat.le_trans HB8.out.size hK⟩)
      have HS := hide (show W2.heap.size ≤ H ∧ W2.heap.size ≤ K from (by have g1 := HBS.out.size; have g2 : w7.heap.size ≤ W3.heap.size := (by rw [HW3.out]; simp); omega))
      have ia1 : ¬ H = w.heap.size := by have := Ba8.out.lt; omega
      have ia2 : ¬ w.heap.size = H := by have := Ba8.out.lt; omega
      have ia3 : ¬ K = w.heap.size := by have := Ba8.out.lt; omega
      have ia4 : ¬ w.heap.size = K := by have := Ba8.out.lt; omega
      have ih1 : ¬ H = w4.heap.size := by have := Bh8.out.lt; omega
      have ih2 : ¬ w4.heap.size = H := by have := Bh8.out.lt; omega
      have ih3 : ¬ K = w4.heap.size := by have := Bh8.out.lt; omega
      have ih4 : ¬ w4.heap.size = K := by have := Bh8.out.lt; omega
      have il1 : ¬ H = w2.heap.size := by have := Bl8.out.lt; omega
      have il2 : ¬ w2.heap.size = H := by have := Bl8.out.lt; omega
      have il3 : ¬ K = w2.heap.size := by have := Bl8.out.lt; omega
      have il4 : ¬ w2.heap.size = K := by have := Bl8.out.lt; omega
      have ix1 : ¬ H = w7.heap.size := by have := Bx8.out.lt; omega
      have ix2 : ¬ w7.heap.size = H := by have := Bx8.out.lt; omega
      have ix3 : ¬ K = w7.heap.size := by have := Bx8.out.lt; omega
      have ix4 : ¬ w7.heap.size = K := by have := Bx8.out.lt; omega
      have fn0 := Bn9.out.free 0
      have fn1 := Bn9.out.free 1
      have fn2 := Bn9.out.free 2
      have fn3 := Bn9.out.free 3
      have ff0 := Bf9.out.free 0
      have ff1 := Bf9.out.free 1
      have ff2 := Bf9.out.free 2
      have ff3 := Bf9.out.free 3
      clear HL HBS hq hr hH hK hbc HW3 Ba8 Bl8 Bh8 Bx8 HB8 ya0 ya1 ya2 ya3 yl0 yl1 yl2 yl3 yh0 yh1 yh2 yh3 yx0 yx1 yx2 yx3
      obtain ⟨ya0, ya1, ya2, ya3⟩ := Ba9.out.four
      obtain ⟨yl0, yl1, yl2, yl3⟩ := Bl9.out.four
      obtain ⟨yh0, yh1, yh2, yh3⟩ := Bh9.out.four
      obtain ⟨yx0, yx1, yx2, yx3⟩ := Bx9.out.four
      obtain ⟨yn0, yn1, yn2, yn3⟩ := Bn9.out.four
      obtain ⟨yf0, yf1, yf2, yf3⟩ := Bf9.out.four
      go_wp2
      go_region_held3 (fun w' => w'.cell? ⟨w2.heap.size, 0, none⟩ = some (.int .i64 0) ∧ w'.cell? ⟨w2.heap.size, 1, none⟩ = some (.bool true) ∧ w'.cell? ⟨w2.heap.size, 2, none⟩ = some (.string tl) ∧ w'.cell? ⟨w2.heap.size, 3, none⟩ = some (.int .i64 el) ∧ w'.cell? ⟨w4.heap.size, 0, none⟩ = some (.int .i64 0) ∧ w'.cell? ⟨w4.heap.size, 1, none⟩ = some (.bool true) ∧ w'.cell? ⟨w4.heap.size, 2, none⟩ = some (.string tl) ∧ w'.cell? ⟨w4.heap.size, 3, none⟩ = some (.int .i64 eh)) (go_keep) (fail)
      go_wp2
      go_roundw
      case rel => exact ⟨1 + 1, by first | omega | (have := HK.out; omega), by go_num, (((((((((HBT.out.setCell HS.out.1 _).setCell HS.out.1 _).setCell HS.out.1 _).setCell HS.out.1 _).setCell HS.out.2 _).setCell HS.out.2 _).setCell HS.out.2 _).setCell HS.out.2 _)).drew⟩
      case measure => first | (simp [intOf]; done) | (simp [intOf]; omega) | (have := HK.out; simp [intOf]; omega)
    by_cases j2 : k = 2
    · skip
      obtain rfl : k = 2 := by omega
      clear hk hk8
      go_wp2_with fail
      refine (H2.out _ (HT.out.below HB6.out)).mono ?_
      rintro e w7 ⟨rfl, hb⟩
      have HBS := hide (HBR.out.trans (hb.mono HBR.out.size))
      clear HBR
      have Ba7 := Blk.on Ba6 hb
      have Bl7 := Blk.on Bl6 hb
      have Bh7 := Blk.on Bh6 hb
      have HB7 := hide (HB6.out.trans (hb.mono HB6.out.size))
      clear hb Ba6 Bl6 Bh6 HB6 ya0 ya1 ya2 ya3 yl0 yl1 yl2 yl3 yh0 yh1 yh2 yh3
      obtain ⟨ya0, ya1, ya2, ya3⟩ := Ba7.out.four
      obtain ⟨yl0, yl1, yl2, yl3⟩ := Bl7.out.four
      obtain ⟨yh0, yh1, yh2, yh3⟩ := Bh7.out.four
      have Ba8 := Blk.up Ba7 (.cells #[.int .i64 0, .bool true, .string tl, .int .i64 eh] 23)
      have Bl8 := Blk.up Bl7 (.cells #[.int .i64 0, .bool true, .string tl, .int .i64 eh] 23)
      have Bh8 := Blk.up Bh7 (.cells #[.int .i64 0, .bool true, .string tl, .int .i64 eh] 23)
      have Bx8 := hide ((Blk.newAt w7 (w7.heap.size) (rfl) #[.int .i64 0, .bool true, .string tl, .int .i64 eh] 23))
      have HB8 : Hid (Below w.heap.size w (w7.alloc (.cells #[.int .i64 0, .bool true, .string tl, .int .i64 eh] 23))) := (HB7.out.alloc HB7.out.size _)
      clear Ba7 Bl7 Bh7 HB7 ya0 ya1 ya2 ya3 yl0 yl1 yl2 yl3 yh0 yh1 yh2 yh3
      obtain ⟨ya0, ya1, ya2, ya3⟩ := Ba8.out.four
      obtain ⟨yl0, yl1, yl2, yl3⟩ := Bl8.out.four
      obtain ⟨yh0, yh1, yh2, yh3⟩ := Bh8.out.four
      obtain ⟨yx0, yx1, yx2, yx3⟩ := Bx8.out.four
      go_wp2
      obtain ⟨W3, hW3⟩ : ∃ W3, W3 = (w7.alloc (.cells #[.int .i64 0, .bool true, .string tl, .int .i64 eh] 23)) := ⟨_, rfl⟩
      rw [← hW3] at HB8 Ba8 Bl8 Bh8 Bx8 ya0 ya1 ya2 ya3 yl0 yl1 yl2 yl3 yh0 yh1 yh2 yh3 yx0 yx1 yx2 yx3
      have HW3 := hide hW3
      clear hW3
      have HL : Hid (w2.heap.size < W3.heap.size ∧ w4.heap.size < W3.heap.size) := ⟨Bl8.out.lt, Bh8.out.lt⟩
      simp only [← HW3.out]
      go_cut [12, 13] (fun vp vq wx => Cut2D W3 #[.int .i64 0, .bool true, .string tl, .int .i64 el] #[.int .i64 0, .bool true, .string tl, .int .i64 eh] vp vq wx)
      case first =>
        have nl3 : ¬ w2.heap.size = W3.heap.size := (by have := HL.out; omega)
        have ml3 : ¬ W3.heap.size = w2.heap.size := (by have := HL.out; omega)
        have nh3 : ¬ w4.heap.size = W3.heap.size := (by have := HL.out; omega)
        have mh3 : ¬ W3.heap.size = w4.heap.size := (by have := HL.out; omega)
        go_region_held3 (fun w' => w'.cell? ⟨w2.heap.size, 0, none⟩ = some (.int .i64 0) ∧ w'.cell? ⟨w2.heap.size, 1, none⟩ = some (.bool true) ∧ w'.cell? ⟨w2.heap.size, 2, none⟩ = some (.string tl) ∧ w'.cell? ⟨w2.heap.size, 3, none⟩ = some (.int .i64 el) ∧ w'.cell? ⟨w4.heap.size, 0, none⟩ = some (.int .i64 0) ∧ w'.cell? ⟨w4.heap.size, 1, none⟩ = some (.bool true) ∧ w'.cell? ⟨w4.heap.size, 2, none⟩ = some (.string tl) ∧ w'.cell? ⟨w4.heap.size, 3, none⟩ = some (.int .i64 eh)) (go_keep) (fail)
        all_goals (go_wp2_with fail; go_meet)
        all_goals (first | exact cut2_a | exact cut2_b)
      obtain ⟨⟨H, K, rfl, rfl, hq, hr, hH, hK, hHK, hbc⟩⟩ := hcut
      obtain ⟨w9, hwk⟩ : ∃ x, x = wc := ⟨_, rfl⟩
      subst hwk
      have Ba9 := hide (Ba8.out.below hbc Ba8.out.lt)
      have Bl9 := hide (Bl8.out.below hbc Bl8.out.lt)
      have Bh9 := hide (Bh8.out.below hbc Bh8.out.lt)
      have Bx9 := hide (Bx8.out.below hbc Bx8.out.lt)
      have Bn9 := hide hq
      have Bf9 := hide hr
      have HB9 := hide (HB8.out.trans (hbc.mono HB8.out.size))
      have HBT := hide (HBS.out.trans ((HW3.out ▸ ((Below.refl _ _).alloc (Nat.le_refl _) _ : Below _ _ _) : Below w7.heap.size w7 W3).trans (hbc.mono (by rw [HW3.out]; simp)) |>.mono HBS.out.size))
      have hhk : ¬ K = H := fun g => hHK g.symm
      have HHK := hide (show w.heap.size ≤ H ∧ w.heap.size ≤ K from ⟨Nat.le_trans HB8.out.size hH, Nat.le_trans HB8.out.size hK⟩)
      have HS := hide (show W2.heap.size ≤ H ∧ W2.heap.size ≤ K from (by have g1 := HBS.out.size; have g2 : w7.heap.size ≤ W3.heap.size := (by rw [HW3.out]; simp); omega))
      have ia1 : ¬ H = w.heap.size := by have := Ba8.out.lt; omega
      have ia2 : ¬ w.heap.size = H := by have := Ba8.out.lt; omega
      have ia3 : ¬ K = w.heap.size := by have := Ba8.out.lt; omega
      have ia4 : ¬ w.heap.size = K := by have := Ba8.out.lt; omega
      have ih1 : ¬ H = w4.heap.size := by have := Bh8.out.lt; omega
      have ih2 : ¬ w4.heap.size = H := by have := Bh8.out.lt; omega
      have ih3 : ¬ K = w4.heap.size := by have := Bh8.out.lt; omega
      have ih4 : ¬ w4.heap.size = K := by have := Bh8.out.lt; omega
      have il1 : ¬ H = w2.heap.size := by have := Bl8.out.lt; omega
      have il2 : ¬ w2.heap.size = H := by have := Bl8.out.lt; omega
      have il3 : ¬ K = w2.heap.size := by have := Bl8.out.lt; omega
      have il4 : ¬ w2.heap.size = K := by have := Bl8.out.lt; omega
      have ix1 : ¬ H = w7.heap.size := by have := Bx8.out.lt; omega
      have ix2 : ¬ w7.heap.size = H := by have := Bx8.out.lt; omega
      have ix3 : ¬ K = w7.heap.size := by have := Bx8.out.lt; omega
      have ix4 : ¬ w7.heap.size = K := by have := Bx8.out.lt; omega
      have fn0 := Bn9.out.free 0
      have fn1 := Bn9.out.free 1
      have fn2 := Bn9.out.free 2
      have fn3 := Bn9.out.free 3
      have ff0 := Bf9.out.free 0
      have ff1 := Bf9.out.free 1
      have ff2 := Bf9.out.free 2
      have ff3 := Bf9.out.free 3
      clear HL HBS hq hr hH hK hbc HW3 Ba8 Bl8 Bh8 Bx8 HB8 ya0 ya1 ya2 ya3 yl0 yl1 yl2 yl3 yh0 yh1 yh2 yh3 yx0 yx1 yx2 yx3
      obtain ⟨ya0, ya1, ya2, ya3⟩ := Ba9.out.four
      obtain ⟨yl0, yl1, yl2, yl3⟩ := Bl9.out.four
      obtain ⟨yh0, yh1, yh2, yh3⟩ := Bh9.out.four
      obtain ⟨yx0, yx1, yx2, yx3⟩ := Bx9.out.four
      obtain ⟨yn0, yn1, yn2, yn3⟩ := Bn9.out.four
      obtain ⟨yf0, yf1, yf2, yf3⟩ := Bf9.out.four
      go_wp2
      go_region_held3 (fun w' => w'.cell? ⟨w2.heap.size, 0, none⟩ = some (.int .i64 0) ∧ w'.cell? ⟨w2.heap.size, 1, none⟩ = some (.bool true) ∧ w'.cell? ⟨w2.heap.size, 2, none⟩ = some (.string tl) ∧ w'.cell? ⟨w2.heap.size, 3, none⟩ = some (.int .i64 el) ∧ w'.cell? ⟨w4.heap.size, 0, none⟩ = some (.int .i64 0) ∧ w'.cell? ⟨w4.heap.size, 1, none⟩ = some (.bool true) ∧ w'.cell? ⟨w4.heap.size, 2, none⟩ = some (.string tl) ∧ w'.cell? ⟨w4.heap.size, 3, none⟩ = some (.int .i64 eh)) (go_keep) (fail)
      go_wp2
      go_roundw
      case rel => exact ⟨2 + 1, by first | omega | (have := HK.out; omega), by go_num, (((((((((HBT.out.setCell HS.out.1 _).setCell HS.out.1 _).setCell HS.out.1 _).setCell HS.out.1 _).setCell HS.out.2 _).setCell HS.out.2 _).setCell HS.out.2 _).setCell HS.out.2 _)).drew⟩
      case measure => first | (simp [intOf]; done) | (simp [intOf]; omega) | (have := HK.out; simp [intOf]; omega)
    by_cases j3 : k = 3
    · skip
      obtain rfl : k = 3 := by omega
      clear hk hk8
      go_wp2_with fail
      refine (H3.out _ (HT.out.below HB6.out)).mono ?_
      rintro e w7 ⟨rfl, hb⟩
      have HBS := hide (HBR.out.trans (hb.mono HBR.out.size))
      clear HBR
      have Ba7 := Blk.on Ba6 hb
      have Bl7 := Blk.on Bl6 hb
      have Bh7 := Blk.on Bh6 hb
      have HB7 := hide (HB6.out.trans (hb.mono HB6.out.size))
      clear hb Ba6 Bl6 Bh6 HB6 ya0 ya1 ya2 ya3 yl0 yl1 yl2 yl3 yh0 yh1 yh2 yh3
      obtain ⟨ya0, ya1, ya2, ya3⟩ := Ba7.out.four
      obtain ⟨yl0, yl1, yl2, yl3⟩ := Bl7.out.four
      obtain ⟨yh0, yh1, yh2, yh3⟩ := Bh7.out.four
      have Ba8 := Blk.up Ba7 (.cells #[.int .i64 0, .bool true, .string tl, .int .i64 el] 23)
      have Bl8 := Blk.up Bl7 (.cells #[.int .i64 0, .bool true, .string tl, .int .i64 el] 23)
      have Bh8 := Blk.up Bh7 (.cells #[.int .i64 0, .bool true, .string tl, .int .i64 el] 23)
      have Bx8 := hide ((Blk.newAt w7 (w7.heap.size) (rfl) #[.int .i64 0, .bool true, .string tl, .int .i64 el] 23))
      have HB8 : Hid (Below w.heap.size w (w7.alloc (.cells #[.int .i64 0, .bool true, .string tl, .int .i64 el] 23))) := (HB7.out.alloc HB7.out.size _)
      clear Ba7 Bl7 Bh7 HB7 ya0 ya1 ya2 ya3 yl0 yl1 yl2 yl3 yh0 yh1 yh2 yh3
      obtain ⟨ya0, ya1, ya2, ya3⟩ := Ba8.out.four
      obtain ⟨yl0, yl1, yl2, yl3⟩ := Bl8.out.four
      obtain ⟨yh0, yh1, yh2, yh3⟩ := Bh8.out.four
      obtain ⟨yx0, yx1, yx2, yx3⟩ := Bx8.out.four
      go_wp2
      obtain ⟨W3, hW3⟩ : ∃ W3, W3 = (w7.alloc (.cells #[.int .i64 0, .bool true, .string tl, .int .i64 el] 23)) := ⟨_, rfl⟩
      rw [← hW3] at HB8 Ba8 Bl8 Bh8 Bx8 ya0 ya1 ya2 ya3 yl0 yl1 yl2 yl3 yh0 yh1 yh2 yh3 yx0 yx1 yx2 yx3
      have HW3 := hide hW3
      clear hW3
      have HL : Hid (w2.heap.size < W3.heap.size ∧ w4.heap.size < W3.heap.size) := ⟨Bl8.out.lt, Bh8.out.lt⟩
      simp only [← HW3.out]
      go_cut [12, 13] (fun vp vq wx => Cut2D W3 #[.int .i64 0, .bool true, .string tl, .int .i64 el] #[.int .i64 0, .bool true, .string tl, .int .i64 eh] vp vq wx)
      case first =>
        have nl3 : ¬ w2.heap.size = W3.heap.size := (by have := HL.out; omega)
        have ml3 : ¬ W3.heap.size = w2.heap.size := (by have := HL.out; omega)
        have nh3 : ¬ w4.heap.size = W3.heap.size := (by have := HL.out; omega)
        have mh3 : ¬ W3.heap.size = w4.heap.size := (by have := HL.out; omega)
        go_region_held3 (fun w' => w'.cell? ⟨w2.heap.size, 0, none⟩ = some (.int .i64 0) ∧ w'.cell? ⟨w2.heap.size, 1, none⟩ = some (.bool true) ∧ w'.cell? ⟨w2.heap.size, 2, none⟩ = some (.string tl) ∧ w'.cell? ⟨w2.heap.size, 3, none⟩ = some (.int .i64 el) ∧ w'.cell? ⟨w4.heap.size, 0, none⟩ = some (.int .i64 0) ∧ w'.cell? ⟨w4.heap.size, 1, none⟩ = some (.bool true) ∧ w'.cell? ⟨w4.heap.size, 2, none⟩ = some (.string tl) ∧ w'.cell? ⟨w4.heap.size, 3, none⟩ = some (.int .i64 eh)) (go_keep) (fail)
        all_goals (go_wp2_with fail; go_meet)
        all_goals (first | exact cut2_a | exact cut2_b)
      obtain ⟨⟨H, K, rfl, rfl, hq, hr, hH, hK, hHK, hbc⟩⟩ := hcut
      obtain ⟨w9, hwk⟩ : ∃ x, x = wc := ⟨_, rfl⟩
      subst hwk
      have Ba9 := hide (Ba8.out.below hbc Ba8.out.lt)
      have Bl9 := hide (Bl8.out.below hbc Bl8.out.lt)
      have Bh9 := hide (Bh8.out.below hbc Bh8.out.lt)
      have Bx9 := hide (Bx8.out.below hbc Bx8.out.lt)
      have Bn9 := hide hq
      have Bf9 := hide hr
      have HB9 := hide (HB8.out.trans (hbc.mono HB8.out.size))
      have HBT := hide (HBS.out.trans ((HW3.out ▸ ((Below.refl _ _).alloc (Nat.le_refl _) _ : Below _ _ _) : Below w7.heap.size w7 W3).trans (hbc.mono (by rw [HW3.out]; simp)) |>.mono HBS.out.size))
      have hhk : ¬ K = H := fun g => hHK g.symm
      have HHK := hide (show w.heap.size ≤ H ∧ w.heap.size ≤ K from ⟨Nat.le_trans HB8.out.size hH, Nat.le_trans HB8.out.size hK⟩)
      have HS := hide (show W2.heap.size ≤ H ∧ W2.heap.size ≤ K from (by have g1 := HBS.out.size; have g2 : w7.heap.size ≤ W3.heap.size := (by rw [HW3.out]; simp); omega))
      have ia1 : ¬ H = w.heap.size := by have := Ba8.out.lt; omega
      have ia2 : ¬ w.heap.size = H := by have := Ba8.out.lt; omega
      have ia3 : ¬ K = w.heap.size := by have := Ba8.out.lt; omega
      have ia4 : ¬ w.heap.size = K := by have := Ba8.out.lt; omega
      have ih1 : ¬ H = w4.heap.size := by have := Bh8.out.lt; omega
      have ih2 : ¬ w4.heap.size = H := by have := Bh8.out.lt; omega
      have ih3 : ¬ K = w4.heap.size := by have := Bh8.out.lt; omega
      have ih4 : ¬ w4.heap.size = K := by have := Bh8.out.lt; omega
      have il1 : ¬ H = w2.heap.size := by have := Bl8.out.lt; omega
      have il2 : ¬ w2.heap.size = H := by have := Bl8.out.lt; omega
      have il3 : ¬ K = w2.heap.size := by have := Bl8.out.lt; omega
      have il4 : ¬ w2.heap.size = K := by have := Bl8.out.lt; omega
      have ix1 : ¬ H = w7.heap.size := by have := Bx8.out.lt; omega
      have ix2 : ¬ w7.heap.size = H := by have := Bx8.out.lt; omega
      have ix3 : ¬ K = w7.heap.size := by have := Bx8.out.lt; omega
      have ix4 : ¬ w7.heap.size = K := by have := Bx8.out.lt; omega
      have fn0 := Bn9.out.free 0
      have fn1 := Bn9.out.free 1
      have fn2 := Bn9.out.free 2
      have fn3 := Bn9.out.free 3
      have ff0 := Bf9.out.free 0
      have ff1 := Bf9.out.free 1
      have ff2 := Bf9.out.free 2
      have ff3 := Bf9.out.free 3
      clear HL HBS hq hr hH hK hbc HW3 Ba8 Bl8 Bh8 Bx8 HB8 ya0 ya1 ya2 ya3 yl0 yl1 yl2 yl3 yh0 yh1 yh2 yh3 yx0 yx1 yx2 yx3
      obtain ⟨ya0, ya1, ya2, ya3⟩ := Ba9.out.four
      obtain ⟨yl0, yl1, yl2, yl3⟩ := Bl9.out.four
      obtain ⟨yh0, yh1, yh2, yh3⟩ := Bh9.out.four
      obtain ⟨yx0, yx1, yx2, yx3⟩ := Bx9.out.four
      obtain ⟨yn0, yn1, yn2, yn3⟩ := Bn9.out.four
      obtain ⟨yf0, yf1, yf2, yf3⟩ := Bf9.out.four
      go_wp2
      go_region_held3 (fun w' => w'.cell? ⟨w2.heap.size, 0, none⟩ = some (.int .i64 0) ∧ w'.cell? ⟨w2.heap.size, 1, none⟩ = some (.bool true) ∧ w'.cell? ⟨w2.heap.size, 2, none⟩ = some (.string tl) ∧ w'.cell? ⟨w2.heap.size, 3, none⟩ = some (.int .i64 el) ∧ w'.cell? ⟨w4.heap.size, 0, none⟩ = some (.int .i64 0) ∧ w'.cell? ⟨w4.heap.size, 1, none⟩ = some (.bool true) ∧ w'.cell? ⟨w4.heap.size, 2, none⟩ = some (.string tl) ∧ w'.cell? ⟨w4.heap.size, 3, none⟩ = some (.int .i64 eh)) (go_keep) (fail)
      go_wp2
      go_roundw
      case rel => exact ⟨3 + 1, by first | omega | (have := HK.out; omega), by go_num, (((((((((HBT.out.setCell HS.out.1 _).setCell HS.out.1 _).setCell HS.out.1 _).setCell HS.out.1 _).setCell HS.out.2 _).setCell HS.out.2 _).setCell HS.out.2 _).setCell HS.out.2 _)).drew⟩
      case measure => first | (simp [intOf]; done) | (simp [intOf]; omega) | (have := HK.out; simp [intOf]; omega)
    have hk4 : 4 ≤ k := by omega
    clear j0 j1 j2 j3
    rcases H4.out k hk4 (by omega) with hm | hm
    · have HM := hide hm
      clear hm H0 H1 H2 H3 H4 H5
      have k2 : ((k : Int) == 2) = false := beq_false_of_ne (by omega)
      have k3 : ((k : Int) == 3) = false := beq_false_of_ne (by omega)
      have k8 : (k : Int) < 8 := by omega
      have HK := hide (show k < 8 by omega)
      clear hk hk8 hk4
      go_wp2_with fail
      refine (HM.out _ (HT.out.below HB6.out)).mono ?_
      rintro e w7 ⟨rfl, hb⟩
      have HBS := hide (HBR.out.trans (hb.mono HBR.out.size))
      clear HBR
      have Ba7 := Blk.on Ba6 hb
      have Bl7 := Blk.on Bl6 hb
      have Bh7 := Blk.on Bh6 hb
      have HB7 := hide (HB6.out.trans (hb.mono HB6.out.size))
      clear hb Ba6 Bl6 Bh6 HB6 ya0 ya1 ya2 ya3 yl0 yl1 yl2 yl3 yh0 yh1 yh2 yh3
      obtain ⟨ya0, ya1, ya2, ya3⟩ := Ba7.out.four
      obtain ⟨yl0, yl1, yl2, yl3⟩ := Bl7.out.four
      obtain ⟨yh0, yh1, yh2, yh3⟩ := Bh7.out.four
      have Ba8 := Blk.up Ba7 (.cells #[.int .i64 0, .bool true, .string tl, .int .i64 el] 23)
      have Bl8 := Blk.up Bl7 (.cells #[.int .i64 0, .bool true, .string tl, .int .i64 el] 23)
      have Bh8 := Blk.up Bh7 (.cells #[.int .i64 0, .bool true, .string tl, .int .i64 el] 23)
      have Bx8 := hide ((Blk.newAt w7 (w7.heap.size) (rfl) #[.int .i64 0, .bool true, .string tl, .int .i64 el] 23))
      have HB8 : Hid (Below w.heap.size w (w7.alloc (.cells #[.int .i64 0, .bool true, .string tl, .int .i64 el] 23))) := (HB7.out.alloc HB7.out.size _)
      clear Ba7 Bl7 Bh7 HB7 ya0 ya1 ya2 ya3 yl0 yl1 yl2 yl3 yh0 yh1 yh2 yh3
      obtain ⟨ya0, ya1, ya2, ya3⟩ := Ba8.out.four
      obtain ⟨yl0, yl1, yl2, yl3⟩ := Bl8.out.four
      obtain ⟨yh0, yh1, yh2, yh3⟩ := Bh8.out.four
      obtain ⟨yx0, yx1, yx2, yx3⟩ := Bx8.out.four
      go_wp2
      obtain ⟨W3, hW3⟩ : ∃ W3, W3 = (w7.alloc (.cells #[.int .i64 0, .bool true, .string tl, .int .i64 el] 23)) := ⟨_, rfl⟩
      rw [← hW3] at HB8 Ba8 Bl8 Bh8 Bx8 ya0 ya1 ya2 ya3 yl0 yl1 yl2 yl3 yh0 yh1 yh2 yh3 yx0 yx1 yx2 yx3
      have HW3 := hide hW3
      clear hW3
      have HL : Hid (w2.heap.size < W3.heap.size ∧ w4.heap.size < W3.heap.size) := ⟨Bl8.out.lt, Bh8.out.lt⟩
      simp only [← HW3.out]
      go_cut [12, 13] (fun vp vq wx => Cut2D W3 #[.int .i64 0, .bool true, .string tl, .int .i64 el] #[.int .i64 0, .bool true, .string tl, .int .i64 eh] vp vq wx)
      case first =>
        have nl3 : ¬ w2.heap.size = W3.heap.size := (by have := HL.out; omega)
        have ml3 : ¬ W3.heap.size = w2.heap.size := (by have := HL.out; omega)
        have nh3 : ¬ w4.heap.size = W3.heap.size := (by have := HL.out; omega)
        have mh3 : ¬ W3.heap.size = w4.heap.size := (by have := HL.out; omega)
        go_region_held3 (fun w' => w'.cell? ⟨w2.heap.size, 0, none⟩ = some (.int .i64 0) ∧ w'.cell? ⟨w2.heap.size, 1, none⟩ = some (.bool true) ∧ w'.cell? ⟨w2.heap.size, 2, none⟩ = some (.string tl) ∧ w'.cell? ⟨w2.heap.size, 3, none⟩ = some (.int .i64 el) ∧ w'.cell? ⟨w4.heap.size, 0, none⟩ = some (.int .i64 0) ∧ w'.cell? ⟨w4.heap.size, 1, none⟩ = some (.bool true) ∧ w'.cell? ⟨w4.heap.size, 2, none⟩ = some (.string tl) ∧ w'.cell? ⟨w4.heap.size, 3, none⟩ = some (.int .i64 eh)) (go_keep) (fail)
        all_goals (go_wp2_with fail; go_meet)
        all_goals (first | exact cut2_a | exact cut2_b)
      obtain ⟨⟨H, K, rfl, rfl, hq, hr, hH, hK, hHK, hbc⟩⟩ := hcut
      obtain ⟨w9, hwk⟩ : ∃ x, x = wc := ⟨_, rfl⟩
      subst hwk
      have Ba9 := hide (Ba8.out.below hbc Ba8.out.lt)
      have Bl9 := hide (Bl8.out.below hbc Bl8.out.lt)
      have Bh9 := hide (Bh8.out.below hbc Bh8.out.lt)
      have Bx9 := hide (Bx8.out.below hbc Bx8.out.lt)
      have Bn9 := hide hq
      have Bf9 := hide hr
      have HB9 := hide (HB8.out.trans (hbc.mono HB8.out.size))
      have HBT := hide (HBS.out.trans ((HW3.out ▸ ((Below.refl _ _).alloc (Nat.le_refl _) _ : Below _ _ _) : Below w7.heap.size w7 W3).trans (hbc.mono (by rw [HW3.out]; simp)) |>.mono HBS.out.size))
      have hhk : ¬ K = H := fun g => hHK g.symm
      have HHK := hide (show w.heap.size ≤ H ∧ w.heap.size ≤ K from ⟨Nat.le_trans HB8.out.size hH, Nat.le_trans HB8.out.size hK⟩)
      have HS := hide (show W2.heap.size ≤ H ∧ W2.heap.size ≤ K from (by have g1 := HBS.out.size; have g2 : w7.heap.size ≤ W3.heap.size := (by rw [HW3.out]; simp); omega))
      have ia1 : ¬ H = w.heap.size := by have := Ba8.out.lt; omega
      have ia2 : ¬ w.heap.size = H := by have := Ba8.out.lt; omega
      have ia3 : ¬ K = w.heap.size := by have := Ba8.out.lt; omega
      have ia4 : ¬ w.heap.size = K := by have := Ba8.out.lt; omega
      have ih1 : ¬ H = w4.heap.size := by have := Bh8.out.lt; omega
      have ih2 : ¬ w4.heap.size = H := by have := Bh8.out.lt; omega
      have ih3 : ¬ K = w4.heap.size := by have := Bh8.out.lt; omega
      have ih4 : ¬ w4.heap.size = K := by have := Bh8.out.lt; omega
      have il1 : ¬ H = w2.heap.size := by have := Bl8.out.lt; omega
      have il2 : ¬ w2.heap.size = H := by have := Bl8.out.lt; omega
      have il3 : ¬ K = w2.heap.size := by have := Bl8.out.lt; omega
      have il4 : ¬ w2.heap.size = K := by have := Bl8.out.lt; omega
      have ix1 : ¬ H = w7.heap.size := by have := Bx8.out.lt; omega
      have ix2 : ¬ w7.heap.size = H := by have := Bx8.out.lt; omega
      have ix3 : ¬ K = w7.heap.size := by have := Bx8.out.lt; omega
      have ix4 : ¬ w7.heap.size = K := by have := Bx8.out.lt; omega
      have fn0 := Bn9.out.free 0
      have fn1 := Bn9.out.free 1
      have fn2 := Bn9.out.free 2
      have fn3 := Bn9.out.free 3
      have ff0 := Bf9.out.free 0
      have ff1 := Bf9.out.free 1
      have ff2 := Bf9.out.free 2
      have ff3 := Bf9.out.free 3
      clear HL HBS hq hr hH hK hbc HW3 Ba8 Bl8 Bh8 Bx8 HB8 ya0 ya1 ya2 ya3 yl0 yl1 yl2 yl3 yh0 yh1 yh2 yh3 yx0 yx1 yx2 yx3
      obtain ⟨ya0, ya1, ya2, ya3⟩ := Ba9.out.four
      obtain ⟨yl0, yl1, yl2, yl3⟩ := Bl9.out.four
      obtain ⟨yh0, yh1, yh2, yh3⟩ := Bh9.out.four
      obtain ⟨yx0, yx1, yx2, yx3⟩ := Bx9.out.four
      obtain ⟨yn0, yn1, yn2, yn3⟩ := Bn9.out.four
      obtain ⟨yf0, yf1, yf2, yf3⟩ := Bf9.out.four
      go_wp2
      go_region_held3 (fun w' => w'.cell? ⟨w2.heap.size, 0, none⟩ = some (.int .i64 0) ∧ w'.cell? ⟨w2.heap.size, 1, none⟩ = some (.bool true) ∧ w'.cell? ⟨w2.heap.size, 2, none⟩ = some (.string tl) ∧ w'.cell? ⟨w2.heap.size, 3, none⟩ = some (.int .i64 el) ∧ w'.cell? ⟨w4.heap.size, 0, none⟩ = some (.int .i64 0) ∧ w'.cell? ⟨w4.heap.size, 1, none⟩ = some (.bool true) ∧ w'.cell? ⟨w4.heap.size, 2, none⟩ = some (.string tl) ∧ w'.cell? ⟨w4.heap.size, 3, none⟩ = some (.int .i64 eh)) (go_keep) (fail)
      go_wp2
      go_roundw
      case rel => exact ⟨k + 1, by first | omega | (have := HK.out; omega), by go_num, (((((((((HBT.out.setCell HS.out.1 _).setCell HS.out.1 _).setCell HS.out.1 _).setCell HS.out.1 _).setCell HS.out.2 _).setCell HS.out.2 _).setCell HS.out.2 _).setCell HS.out.2 _)).drew⟩
      case measure => first | (simp [intOf]; done) | (simp [intOf]; omega) | (have := HK.out; simp [intOf]; omega)
    · have HM := hide hm
      clear hm H0 H1 H2 H3 H4 H5
      have k2 : ((k : Int) == 2) = false := beq_false_of_ne (by omega)
      have k3 : ((k : Int) == 3) = false := beq_false_of_ne (by omega)
      have k8 : (k : Int) < 8 := by omega
      have HK := hide (show k < 8 by omega)
      clear hk hk8 hk4
      go_wp2_with fail
      refine (HM.out _ (HT.out.below HB6.out)).mono ?_
      rintro e w7 ⟨rfl, hb⟩
      have HBS := hide (HBR.out.trans (hb.mono HBR.out.size))
      clear HBR
      have Ba7 := Blk.on Ba6 hb
      have Bl7 := Blk.on Bl6 hb
      have Bh7 := Blk.on Bh6 hb
      have HB7 := hide (HB6.out.trans (hb.mono HB6.out.size))
      clear hb Ba6 Bl6 Bh6 HB6 ya0 ya1 ya2 ya3 yl0 yl1 yl2 yl3 yh0 yh1 yh2 yh3
      obtain ⟨ya0, ya1, ya2, ya3⟩ := Ba7.out.four
      obtain ⟨yl0, yl1, yl2, yl3⟩ := Bl7.out.four
      obtain ⟨yh0, yh1, yh2, yh3⟩ := Bh7.out.four
      have Ba8 := Blk.up Ba7 (.cells #[.int .i64 0, .bool true, .string tl, .int .i64 eh] 23)
      have Bl8 := Blk.up Bl7 (.cells #[.int .i64 0, .bool true, .string tl, .int .i64 eh] 23)
      have Bh8 := Blk.up Bh7 (.cells #[.int .i64 0, .bool true, .string tl, .int .i64 eh] 23)
      have Bx8 := hide ((Blk.newAt w7 (w7.heap.size) (rfl) #[.int .i64 0, .bool true, .string tl, .int .i64 eh] 23))
      have HB8 : Hid (Below w.heap.size w (w7.alloc (.cells #[.int .i64 0, .bool true, .string tl, .int .i64 eh] 23))) := (HB7.out.alloc HB7.out.size _)
      clear Ba7 Bl7 Bh7 HB7 ya0 ya1 ya2 ya3 yl0 yl1 yl2 yl3 yh0 yh1 yh2 yh3
      obtain ⟨ya0, ya1, ya2, ya3⟩ := Ba8.out.four
      obtain ⟨yl0, yl1, yl2, yl3⟩ := Bl8.out.four
      obtain ⟨yh0, yh1, yh2, yh3⟩ := Bh8.out.four
      obtain ⟨yx0, yx1, yx2, yx3⟩ := Bx8.out.four
      go_wp2
      obtain ⟨W3, hW3⟩ : ∃ W3, W3 = (w7.alloc (.cells #[.int .i64 0, .bool true, .string tl, .int .i64 eh] 23)) := ⟨_, rfl⟩
      rw [← hW3] at HB8 Ba8 Bl8 Bh8 Bx8 ya0 ya1 ya2 ya3 yl0 yl1 yl2 yl3 yh0 yh1 yh2 yh3 yx0 yx1 yx2 yx3
      have HW3 := hide hW3
      clear hW3
      have HL : Hid (w2.heap.size < W3.heap.size ∧ w4.heap.size < W3.heap.size) := ⟨Bl8.out.lt, Bh8.out.lt⟩
      simp only [← HW3.out]
      go_cut [12, 13] (fun vp vq wx => Cut2D W3 #[.int .i64 0, .bool true, .string tl, .int .i64 el] #[.int .i64 0, .bool true, .string tl, .int .i64 eh] vp vq wx)
      case first =>
        have nl3 : ¬ w2.heap.size = W3.heap.size := (by have := HL.out; omega)
        have ml3 : ¬ W3.heap.size = w2.heap.size := (by have := HL.out; omega)
        have nh3 : ¬ w4.heap.size = W3.heap.size := (by have := HL.out; omega)
        have mh3 : ¬ W3.heap.size = w4.heap.size := (by have := HL.out; omega)
        go_region_held3 (fun w' => w'.cell? ⟨w2.heap.size, 0, none⟩ = some (.int .i64 0) ∧ w'.cell? ⟨w2.heap.size, 1, none⟩ = some (.bool true) ∧ w'.cell? ⟨w2.heap.size, 2, none⟩ = some (.string tl) ∧ w'.cell? ⟨w2.heap.size, 3, none⟩ = some (.int .i64 el) ∧ w'.cell? ⟨w4.heap.size, 0, none⟩ = some (.int .i64 0) ∧ w'.cell? ⟨w4.heap.size, 1, none⟩ = some (.bool true) ∧ w'.cell? ⟨w4.heap.size, 2, none⟩ = some (.string tl) ∧ w'.cell? ⟨w4.heap.size, 3, none⟩ = some (.int .i64 eh)) (go_keep) (fail)
        all_goals (go_wp2_with fail; go_meet)
        all_goals (first | exact cut2_a | exact cut2_b)
      obtain ⟨⟨H, K, rfl, rfl, hq, hr, hH, hK, hHK, hbc⟩⟩ := hcut
      obtain ⟨w9, hwk⟩ : ∃ x, x = wc := ⟨_, rfl⟩
      subst hwk
      have Ba9 := hide (Ba8.out.below hbc Ba8.out.lt)
      have Bl9 := hide (Bl8.out.below hbc Bl8.out.lt)
      have Bh9 := hide (Bh8.out.below hbc Bh8.out.lt)
      have Bx9 := hide (Bx8.out.below hbc Bx8.out.lt)
      have Bn9 := hide hq
      have Bf9 := hide hr
      have HB9 := hide (HB8.out.trans (hbc.mono HB8.out.size))
      have HBT := hide (HBS.out.trans ((HW3.out ▸ ((Below.refl _ _).alloc (Nat.le_refl _) _ : Below _ _ _) : Below w7.heap.size w7 W3).trans (hbc.mono (by rw [HW3.out]; simp)) |>.mono HBS.out.size))
      have hhk : ¬ K = H := fun g => hHK g.symm
      have HHK := hide (show w.heap.size ≤ H ∧ w.heap.size ≤ K from ⟨Nat.le_trans HB8.out.size hH, Nat.le_trans HB8.out.size hK⟩)
      have HS := hide (show W2.heap.size ≤ H ∧ W2.heap.size ≤ K from (by have g1 := HBS.out.size; have g2 : w7.heap.size ≤ W3.heap.size := (by rw [HW3.out]; simp); omega))
      have ia1 : ¬ H = w.heap.size := by have := Ba8.out.lt; omega
      have ia2 : ¬ w.heap.size = H := by have := Ba8.out.lt; omega
      have ia3 : ¬ K = w.heap.size := by have := Ba8.out.lt; omega
      have ia4 : ¬ w.heap.size = K := by have := Ba8.out.lt; omega
      have ih1 : ¬ H = w4.heap.size := by have := Bh8.out.lt; omega
      have ih2 : ¬ w4.heap.size = H := by have := Bh8.out.lt; omega
      have ih3 : ¬ K = w4.heap.size := by have := Bh8.out.lt; omega
      have ih4 : ¬ w4.heap.size = K := by have := Bh8.out.lt; omega
      have il1 : ¬ H = w2.heap.size := by have := Bl8.out.lt; omega
      have il2 : ¬ w2.heap.size = H := by have := Bl8.out.lt; omega
      have il3 : ¬ K = w2.heap.size := by have := Bl8.out.lt; omega
      have il4 : ¬ w2.heap.size = K := by have := Bl8.out.lt; omega
      have ix1 : ¬ H = w7.heap.size := by have := Bx8.out.lt; omega
      have ix2 : ¬ w7.heap.size = H := by have := Bx8.out.lt; omega
      have ix3 : ¬ K = w7.heap.size := by have := Bx8.out.lt; omega
      have ix4 : ¬ w7.heap.size = K := by have := Bx8.out.lt; omega
      have fn0 := Bn9.out.free 0
      have fn1 := Bn9.out.free 1
      have fn2 := Bn9.out.free 2
      have fn3 := Bn9.out.free 3
      have ff0 := Bf9.out.free 0
      have ff1 := Bf9.out.free 1
      have ff2 := Bf9.out.free 2
      have ff3 := Bf9.out.free 3
      clear HL HBS hq hr hH hK hbc HW3 Ba8 Bl8 Bh8 Bx8 HB8 ya0 ya1 ya2 ya3 yl0 yl1 yl2 yl3 yh0 yh1 yh2 yh3 yx0 yx1 yx2 yx3
      obtain ⟨ya0, ya1, ya2, ya3⟩ := Ba9.out.four
      obtain ⟨yl0, yl1, yl2, yl3⟩ := Bl9.out.four
      obtain ⟨yh0, yh1, yh2, yh3⟩ := Bh9.out.four
      obtain ⟨yx0, yx1, yx2, yx3⟩ := Bx9.out.four
      obtain ⟨yn0, yn1, yn2, yn3⟩ := Bn9.out.four
      obtain ⟨yf0, yf1, yf2, yf3⟩ := Bf9.out.four
      go_wp2
      go_region_held3 (fun w' => w'.cell? ⟨w2.heap.size, 0, none⟩ = some (.int .i64 0) ∧ w'.cell? ⟨w2.heap.size, 1, none⟩ = some (.bool true) ∧ w'.cell? ⟨w2.heap.size, 2, none⟩ = some (.string tl) ∧ w'.cell? ⟨w2.heap.size, 3, none⟩ = some (.int .i64 el) ∧ w'.cell? ⟨w4.heap.size, 0, none⟩ = some (.int .i64 0) ∧ w'.cell? ⟨w4.heap.size, 1, none⟩ = some (.bool true) ∧ w'.cell? ⟨w4.heap.size, 2, none⟩ = some (.string tl) ∧ w'.cell? ⟨w4.heap.size, 3, none⟩ = some (.int .i64 eh)) (go_keep) (fail)
      go_wp2
      go_roundw
      case rel => exact ⟨k + 1, by first | omega | (have := HK.out; omega), by go_num, (((((((((HBT.out.setCell HS.out.1 _).setCell HS.out.1 _).setCell HS.out.1 _).setCell HS.out.1 _).setCell HS.out.2 _).setCell HS.out.2 _).setCell HS.out.2 _).setCell HS.out.2 _)).drew⟩
      case measure => first | (simp [intOf]; done) | (simp [intOf]; omega) | (have := HK.out; simp [intOf]; omega)

end Go.Proofs.YtcclbcnmkaobpaaGreatDoor

namespace Go.Proofs.YtcclbcnmkaobpaaGreatDoor
open Go.RowKit

theorem rndD_one {d : DecT} (hd : d.dig ≠ []) {p : Int} (m : Nat) (hr : decV d.dig * 10 ^ (d.exp - min d.exp p).toNat % 10 ^ (p - min d.exp p).toNat ≠ 0) :
    ∃ b : Bool, b = leavesB m d.neg (decide (decV d.dig * 10 ^ (d.exp - min d.exp p).toNat / 10 ^ (p - min d.exp p).toNat % 2 = 1)) (cmpN (decV d.dig * 10 ^ (d.exp - min d.exp p).toNat % 10 ^ (p - min d.exp p).toNat + decV d.dig * 10 ^ (d.exp - min d.exp p).toNat % 10 ^ (p - min d.exp p).toNat) (10 ^ (p - min d.exp p).toNat)) ∧
      rndD d 1 p m = tellF d.neg (decV d.dig * 10 ^ (d.exp - min d.exp p).toNat / 10 ^ (p - min d.exp p).toNat + if b then 1 else 0) p := by
  refine ⟨_, rfl, ?_⟩
  rw [rndD_fin hd]
  unfold rndN
  rw [Nat.one_mul, if_neg hr, Nat.mul_one]

theorem zD_inj {neg : Bool} {a b : Nat} (h : zD neg a = zD neg b) : a = b := by
  cases neg <;> simp only [zD, Bool.false_eq_true, if_false, if_true] at h <;> omega

theorem finD_neg (neg : Bool) (N : Nat) (e : Int) : (finD neg N e).neg = neg := by unfold finD; split <;> rfl

/-- A number that is no multiple: its two neighbours, and which of them each mode takes. -/
theorem order_core {d : DecT} (hd : Fin d) {p : Int} (hp : -4000 ≤ p) (hr : decV d.dig * 10 ^ (d.exp - min d.exp p).toNat % 10 ^ (p - min d.exp p).toNat ≠ 0) (h1 : (rndD d 1 p 1).2 = 0) (h0 : (rndD d 1 p 0).2 = 0) :
    ∃ L H : DecT, May L ∧ May H ∧ L.cls = 0 ∧ H.cls = 0 ∧ L.neg = d.neg ∧ H.neg = d.neg ∧ wD L < wD H ∧ L ≠ d ∧ rndD d 1 p 0 = (H, 0) ∧ rndD d 1 p 1 = (L, 0) ∧ rndD d 1 p 2 = ((if d.neg then H else L), 0) ∧ rndD d 1 p 3 = ((if d.neg then L else H), 0) ∧ ∀ m, rndD d 1 p m = (L, 0) ∨ rndD d 1 p m = (H, 0) := by
  have l1 := hd.len
  have l2 := hd.lo
  have key : ∀ m, ∃ b : Bool, (m = 0 → b = !d.neg) ∧ (m = 1 → b = d.neg) ∧ (m = 2 → b = false) ∧ (m = 3 → b = true) ∧ rndD d 1 p m = tellF d.neg (decV d.dig * 10 ^ (d.exp - min d.exp p).toNat / 10 ^ (p - min d.exp p).toNat + if b then 1 else 0) p := by
    intro m
    obtain ⟨b, hb, e⟩ := rndD_one hd.ne m hr
    refine ⟨b, ?_, ?_, ?_, ?_, e⟩ <;> (rintro rfl; exact hb)
  obtain ⟨q, hq⟩ : ∃ q, q = decV d.dig * 10 ^ (d.exp - min d.exp p).toNat / 10 ^ (p - min d.exp p).toNat := ⟨_, rfl⟩
  rw [← hq] at key
  -- the two neighbours
  have may0 : May (finD d.neg q p) := by
    obtain ⟨b, k0, k1, _, _, e⟩ := key (if d.neg then 0 else 1)
    have hb : b = false := by
      cases hn : d.neg
      · rw [hn] at k1; exact k1 (by simp)
      · rw [hn] at k0; exact k0 (by simp)
    have : (tellF d.neg q p).2 = 0 := by
      have := e
      rw [hb] at this
      simp only [Bool.false_eq_true, if_false, Nat.add_zero] at this
      rw [← this]
      cases hn : d.neg
      · simpa [hn] using h1
      · simpa [hn] using h0
    by_cases hm : May (finD d.neg q p)
    · exact hm
    · rw [tellF_no hm] at this; exact absurd this (by decide)
  have may1 : May (finD d.neg (q + 1) p) := by
    obtain ⟨b, k0, k1, _, _, e⟩ := key (if d.neg then 1 else 0)
    have hb : b = true := by
      cases hn : d.neg
      · rw [hn] at k0; exact k0 (by simp)
      · rw [hn] at k1; exact k1 (by simp)
    have : (tellF d.neg (q + 1) p).2 = 0 := by
      have := e
      rw [hb] at this
      simp only [if_true] at this
      rw [← this]
      cases hn : d.neg
      · simpa [hn] using h0
      · simpa [hn] using h1
    by_cases hm : May (finD d.neg (q + 1) p)
    · exact hm
    · rw [tellF_no hm] at this; exact absurd this (by decide)
  have t0 := tellF_yes may0
  have t1 := tellF_yes may1
  have v0 := vD_fin (neg := d.neg) (N := q) (e := p) (by omega)
  have v1 := vD_fin (neg := d.neg) (N := q + 1) (e := p) (by omega)
  have hc : (0 : Int) < ((10 ^ (p + 9000).toNat : Nat) : Int) := by have := Nat.pow_pos (n := (p + 9000).toNat) (show 0 < 10 by omega); omega
  have nd : ∀ N, finD d.neg N p ≠ d := by
    intro N h
    have g := congrArg vD h
    rw [vD_fin (by omega)] at g
    have g2 : zD d.neg (N * 10 ^ (p + 9000).toNat) = zD d.neg (decV d.dig * 10 ^ (d.exp + 9000).toNat) := by rw [zD_mul]; exact g
    have g3 := zD_inj g2
    apply hr
    have e1 := pow_join (e := d.exp) (k := min d.exp p) (by omega) (by omega)
    have e2 := pow_join (e := p) (k := min d.exp p) (by omega) (by omega)
    rw [← e1, ← e2, ← Nat.mul_assoc, ← Nat.mul_assoc] at g3
    have := Nat.eq_of_mul_eq_mul_right (Nat.pow_pos (by omega)) g3
    rw [← this]
    exact Nat.mul_mod_left _ _
  have w0 : wD (finD d.neg q p) = vD (finD d.neg q p) := wD_fin0 (finD_cls _ _ _)
  have w1 : wD (finD d.neg (q + 1) p) = vD (finD d.neg (q + 1) p) := wD_fin0 (finD_cls _ _ _)
  have all : ∀ m, rndD d 1 p m = (finD d.neg q p, 0) ∨ rndD d 1 p m = (finD d.neg (q + 1) p, 0) := by
    intro m
    obtain ⟨b, _, _, _, _, e⟩ := key m
    cases b
    · left; rw [e]; simp only [Bool.false_eq_true, if_false, Nat.add_zero]; exact t0
    · right; rw [e]; simp only [if_true]; exact t1
  have at0 : ∀ m b c, c = b → rndD d 1 p m = tellF d.neg (q + if c = true then 1 else 0) p → rndD d 1 p m = ((if b = true then finD d.neg (q + 1) p else finD d.neg q p), 0) := by
    intro m b c hc h
    subst hc
    rw [h]
    cases c
    · simp only [Bool.false_eq_true, if_false, Nat.add_zero]; exact t0
    · simp only [if_true]; exact t1
  have r0 : rndD d 1 p 0 = ((if (!d.neg) = true then finD d.neg (q + 1) p else finD d.neg q p), 0) := by
    obtain ⟨b, k0, _, _, _, e⟩ := key 0
    exact at0 0 _ b (k0 rfl) e
  have r1 : rndD d 1 p 1 = ((if d.neg = true then finD d.neg (q + 1) p else finD d.neg q p), 0) := by
    obtain ⟨b, _, k0, _, _, e⟩ := key 1
    exact at0 1 _ b (k0 rfl) e
  have r2 : rndD d 1 p 2 = (finD d.neg q p, 0) := by
    obtain ⟨b, _, _, k0, _, e⟩ := key 2
    have := at0 2 false b (k0 rfl) e
    simpa using this
  have r3 : rndD d 1 p 3 = (finD d.neg (q + 1) p, 0) := by
    obtain ⟨b, _, _, _, k0, e⟩ := key 3
    have := at0 3 true b (k0 rfl) e
    simpa using this
  cases hn : d.neg
  · simp only [hn] at may0 may1 v0 v1 w0 w1 r0 r1 r2 r3 all nd
    refine ⟨finD false q p, finD false (q + 1) p, may0, may1, finD_cls _ _ _, finD_cls _ _ _, finD_neg _ _ _, finD_neg _ _ _, ?_, ?_, by simpa using r0, by simpa using r1, by simpa using r2, by simpa using r3, all⟩
    · rw [w0, w1, v0, v1]
      refine Int.mul_lt_mul_of_pos_right ?_ hc
      simp only [zD, Bool.false_eq_true, if_false]; omega
    · exact nd q
  · simp only [hn] at may0 may1 v0 v1 w0 w1 r0 r1 r2 r3 all nd
    refine ⟨finD true (q + 1) p, finD true q p, may1, may0, finD_cls _ _ _, finD_cls _ _ _, finD_neg _ _ _, finD_neg _ _ _, ?_, ?_, by simpa using r0, by simpa using r1, by simpa using r2, by simpa using r3, fun m => (all m).symm⟩
    · rw [w0, w1, v0, v1]
      refine Int.mul_lt_mul_of_pos_right ?_ hc
      simp only [zD, if_true]; omega
    · exact nd (q + 1)

theorem ne_list {L H : DecT} (h : L.dig ≠ H.dig) : ((⟨L.dig.toArray⟩ : ByteArray).toList == (⟨H.dig.toArray⟩ : ByteArray).toList) = false := by
  rw [sl, sl, bys_mk L.dig, bys_mk H.dig]
  exact beq_false_of_ne h

theorem dec_ne {L H : DecT} (hc : L.cls = H.cls) (hn : L.neg = H.neg) (h : L ≠ H) : L.dig ≠ H.dig ∨ (L.dig = H.dig ∧ L.exp ≠ H.exp) := by
  by_cases hd : L.dig = H.dig
  · refine .inr ⟨hd, fun he => h ?_⟩
    obtain ⟨a, b, c, e⟩ := L
    obtain ⟨a', b', c', e'⟩ := H
    simp only at *
    subst hc hn hd he
    rfl
  · exact .inl hd

theorem may_cls0R {c : Int} {n : Bool} {l : List UInt8} {e : Int} (h : MayD c n l e) (hl : l ≠ []) : c = 0 := by
  rcases h with ⟨h, _⟩ | ⟨_, h, _⟩ | ⟨_, _, h, _⟩
  · exact h
  · exact absurd h hl
  · exact absurd h hl

theorem order_walk (w : World) (htab : Tab w) (ca : Int) (na : Bool) (ta : ByteArray) (ea : Int) (p : Int) : Calls Tryz.prog 10 #[dcV ca na ta ea, .int .i64 p] w fun e w' => e = .returned (.bool true) ∧ Below w.heap.size w w' := by
  have A0 := At_of (ca := ca) (na := na) (ta := ta) (ea := ea) (p := p) (m := 1) rfl
  have A1 := At_of (ca := ca) (na := na) (ta := ta) (ea := ea) (p := p) (m := 0) rfl
  have k0 := atR_ok (ca := ca) (na := na) (l := bys ta) (ea := ea) (p := p) (m := 1)
  obtain ⟨x, hx⟩ : ∃ x, x = atR ca na (bys ta) ea p 1 := ⟨_, rfl⟩
  obtain ⟨y, hy⟩ : ∃ y, y = atR ca na (bys ta) ea p 0 := ⟨_, rfl⟩
  rw [← hx] at A0 k0
  rw [← hy] at A1
  obtain ⟨x1, re⟩ := x
  obtain ⟨y1, rf⟩ := y
  by_cases he : re = 0
  · subst he
    by_cases hf : rf = 0
    · subst hf
      obtain ⟨h, _, hp⟩ := k0 rfl
      have hcn := may_cls h
      have md := may_of h
      have AT : ∀ m : Nat, m < 8 → ∀ r, rndD ⟨ca.toNat, na, bys ta, ea⟩ 1 p m = r → ∀ W, Tab W → Calls Tryz.prog 11 #[dcV ca na ta ea, .int .i64 p, .int .i64 (m : Int)] W fun e w' => e = .returned (decErr r) ∧ Below W.heap.size W w' := by
        intro m hm r hr
        refine At_of ?_
        rw [atR_in h (by omega) hp, show ((m : Int)).toNat = m by omega]
        exact hr
      have hv := decVal_raw h
      by_cases hz : ta.size = 0 ∨ decV (bys ta) * 10 ^ (ea - min ea p).toNat % 10 ^ (p - min ea p).toNat = 0
      · have same : ∀ m, rndD ⟨ca.toNat, na, bys ta, ea⟩ 1 p m = (⟨ca.toNat, na, bys ta, ea⟩, 0) := by
          intro m
          by_cases h0 : ta.size = 0
          · exact rndD_zero (bys_nil.2 h0) _ _ _
          · have hf := may_fin md (fun g => h0 (bys_nil.1 g))
            refine rndD_exact hf m ?_
            rw [Nat.one_mul]
            rcases hz with g | g
            · exact absurd g h0
            · exact g
        have AS : ∀ m : Nat, m < 8 → ∀ W, Tab W → Calls Tryz.prog 11 #[dcV ca na ta ea, .int .i64 p, .int .i64 (m : Int)] W fun e w' => e = .returned (.tuple #[dcV ca na ta ea, .int .i64 0]) ∧ Below W.heap.size W w' := by
          intro m hm
          have g := AT m hm _ (same m)
          unfold decErr at g
          simp only at g
          rw [hv] at g
          exact g
        have LS : ∀ W, Calls Tryz.prog 20 #[dcV ca na ta ea, dcV ca na ta ea] W fun e w' => e = .returned (.bool false) ∧ Below W.heap.size W w' := by
          intro W
          have g := less_d _ _ md md W
          rw [hv, show decide (wD ⟨ca.toNat, na, bys ta, ea⟩ < wD ⟨ca.toNat, na, bys ta, ea⟩) = false from decide_eq_false (by omega)] at g
          exact g
        cases na
        · exact order_fs ca ta ea p w htab (AS 0 (by omega)) (AS 1 (by omega)) (AS 2 (by omega)) (AS 3 (by omega)) (fun k _ h8 => AS k h8) LS
        · exact order_ts ca ta ea p w htab (AS 0 (by omega)) (AS 1 (by omega)) (AS 2 (by omega)) (AS 3 (by omega)) (fun k _ h8 => AS k h8) LS
      · have h0 : ta.size ≠ 0 := fun g => hz (.inl g)
        have hr : decV (bys ta) * 10 ^ (ea - min ea p).toNat % 10 ^ (p - min ea p).toNat ≠ 0 := fun g => hz (.inr g)
        have hl : bys ta ≠ [] := fun g => h0 (bys_nil.1 g)
        obtain rfl := may_cls0R h hl
        have hfin : Fin ⟨(0 : Int).toNat, na, bys ta, ea⟩ := may_fin md hl
        have e1 : (rndD ⟨(0 : Int).toNat, na, bys ta, ea⟩ 1 p 1).2 = 0 := by
          have := atR_in h (by omega) hp (m := 1)
          rw [← hx] at this
          exact (congrArg Prod.snd this).symm
        have e0 : (rndD ⟨(0 : Int).toNat, na, bys ta, ea⟩ 1 p 0).2 = 0 := by
          have := atR_in h (by omega) hp (m := 0)
          rw [← hy] at this
          exact (congrArg Prod.snd this).symm
        obtain ⟨L, H, mL, mH, cL, cH, nL, nH, lt, nd, r0, r1, r2, r3, all⟩ := order_core hfin (by omega) hr e1 e0
        have nLH : L ≠ H := fun g => by rw [g] at lt; omega
        have LS : ∀ W, Calls Tryz.prog 20 #[decVal H, decVal L] W fun e w' => e = .returned (.bool false) ∧ Below W.heap.size W w' := by
          intro W
          have g := less_d H L mH mL W
          rw [show decide (wD H < wD L) = false from decide_eq_false (by omega)] at g
          exact g
        have ALL : ∀ k : Nat, 4 ≤ k → k < 8 → (∀ W, Tab W → Calls Tryz.prog 11 #[dcV 0 na ta ea, .int .i64 p, .int .i64 (k : Int)] W fun e w' => e = .returned (.tuple #[decVal L, .int .i64 0]) ∧ Below W.heap.size W w') ∨ (∀ W, Tab W → Calls Tryz.prog 11 #[dcV 0 na ta ea, .int .i64 p, .int .i64 (k : Int)] W fun e w' => e = .returned (.tuple #[decVal H, .int .i64 0]) ∧ Below W.heap.size W w') := by
          intro k _ h8
          rcases all k with g | g
          · exact .inl (AT k h8 _ g)
          · exact .inr (AT k h8 _ g)
        have B0 := AT 0 (by omega) _ r0
        have B1 := AT 1 (by omega) _ r1
        have B2 := AT 2 (by omega) _ r2
        have B3 := AT 3 (by omega) _ r3
        have dL := dec_ne (cL.trans cH.symm) (nL.trans nH.symm) nLH
        have dD := dec_ne (H := ⟨0, na, bys ta, ea⟩) cL nL nd
        obtain ⟨cl, nl, tl, el⟩ := L
        obtain ⟨ch, nh, th, eh⟩ := H
        simp only at cL cH nL nH dL dD
        subst cL cH nL nH
        have q0 : ta.toList = bys ta := sl ta
        rcases dL with g1 | ⟨g0, g1⟩
        · skip
          rcases dD with g2 | ⟨g3, g2⟩
          · skip
            cases nh
            · exact order_fdd ⟨tl.toArray⟩ el ⟨th.toArray⟩ eh ta ea p w htab (ne_list (L := ⟨0, false, tl, el⟩) (H := ⟨0, false, th, eh⟩) g1) (ne_list (L := ⟨0, false, th, eh⟩) (H := ⟨0, false, tl, el⟩) (fun g => g1 g.symm)) (by rw [q0, sl, bys_mk tl]; exact beq_false_of_ne g2) B0 B1 B2 B3 ALL LS
            · exact order_tdd ⟨tl.toArray⟩ el ⟨th.toArray⟩ eh ta ea p w htab (ne_list (L := ⟨0, false, tl, el⟩) (H := ⟨0, false, th, eh⟩) g1) (ne_list (L := ⟨0, false, th, eh⟩) (H := ⟨0, false, tl, el⟩) (fun g => g1 g.symm)) (by rw [q0, sl, bys_mk tl]; exact beq_false_of_ne g2) B0 B1 B2 B3 ALL LS
          · skip
            have e9 : ta = ⟨tl.toArray⟩ := by rw [g3, mk_bys]
            rw [e9] at B0 B1 B2 B3 ALL ⊢
            cases nh
            · exact order_fde ⟨tl.toArray⟩ el ⟨th.toArray⟩ eh ea p w htab (ne_list (L := ⟨0, false, tl, el⟩) (H := ⟨0, false, th, eh⟩) g1) (ne_list (L := ⟨0, false, th, eh⟩) (H := ⟨0, false, tl, el⟩) (fun g => g1 g.symm)) (beq_false_of_ne g2) B0 B1 B2 B3 ALL LS
            · exact order_tde ⟨tl.toArray⟩ el ⟨th.toArray⟩ eh ea p w htab (ne_list (L := ⟨0, false, tl, el⟩) (H := ⟨0, false, th, eh⟩) g1) (ne_list (L := ⟨0, false, th, eh⟩) (H := ⟨0, false, tl, el⟩) (fun g => g1 g.symm)) (beq_false_of_ne g2) B0 B1 B2 B3 ALL LS
        · subst g0
          rcases dD with g2 | ⟨g3, g2⟩
          · skip
            cases nh
            · exact order_fed ⟨tl.toArray⟩ el eh ta ea p w htab (beq_false_of_ne g1) (beq_false_of_ne (fun g => g1 g.symm)) (by rw [q0, sl, bys_mk tl]; exact beq_false_of_ne g2) B0 B1 B2 B3 ALL LS
            · exact order_ted ⟨tl.toArray⟩ el eh ta ea p w htab (beq_false_of_ne g1) (beq_false_of_ne (fun g => g1 g.symm)) (by rw [q0, sl, bys_mk tl]; exact beq_false_of_ne g2) B0 B1 B2 B3 ALL LS
          · skip
            have e9 : ta = ⟨tl.toArray⟩ := by rw [g3, mk_bys]
            rw [e9] at B0 B1 B2 B3 ALL ⊢
            cases nh
            · exact order_fee ⟨tl.toArray⟩ el eh ea p w htab (beq_false_of_ne g1) (beq_false_of_ne (fun g => g1 g.symm)) (beq_false_of_ne g2) B0 B1 B2 B3 ALL LS
            · exact order_tee ⟨tl.toArray⟩ el eh ea p w htab (beq_false_of_ne g1) (beq_false_of_ne (fun g => g1 g.symm)) (beq_false_of_ne g2) B0 B1 B2 B3 ALL LS
    · exact order_bad_f ca na ta ea p x1.cls x1.neg ⟨x1.dig.toArray⟩ x1.exp y1.cls y1.neg ⟨y1.dig.toArray⟩ y1.exp rf w htab hf A0 A1
  · exact order_bad_e ca na ta ea p x1.cls x1.neg ⟨x1.dig.toArray⟩ x1.exp y1.cls y1.neg ⟨y1.dig.toArray⟩ y1.exp re rf w htab he A0 A1

end Go.Proofs.YtcclbcnmkaobpaaGreatDoor
