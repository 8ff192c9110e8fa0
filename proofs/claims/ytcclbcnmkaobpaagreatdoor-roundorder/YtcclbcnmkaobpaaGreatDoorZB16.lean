/-
  The walk of RoundOrder, a number not below 0.
  The walk of RoundOrder, a number not below 0.
-/
import Derived.Test.YtcclbcnmkaobpaaGreatDoorZB6
import Derived.Test.YtcclbcnmkaobpaaGreatDoorZB14
namespace Go.Proofs.YtcclbcnmkaobpaaGreatDoor
open Go.RowKit

set_option maxRecDepth 100000 in
set_option maxHeartbeats 8000000 in
theorem order_fde (tl : ByteArray) (el : Int) (th : ByteArray) (eh : Int) (ea : Int) (p : Int) (w : World) (htab : Tab w) (q1 : (tl.toList == th.toList) = false) (q2 : (th.toList == tl.toList) = false) (q3 : (el == ea) = false) (g0 : ∀ W, Tab W → Calls Tryz.prog 11 #[.agg #[.int .i64 0, .bool false, .string tl, .int .i64 ea], .int .i64 p, .int .i64 0] W fun e w' => e = .returned (.tuple #[.agg #[.int .i64 0, .bool false, .string th, .int .i64 eh], .int .i64 0]) ∧ Below W.heap.size W w') (g1 : ∀ W, Tab W → Calls Tryz.prog 11 #[.agg #[.int .i64 0, .bool false, .string tl, .int .i64 ea], .int .i64 p, .int .i64 1] W fun e w' => e = .returned (.tuple #[.agg #[.int .i64 0, .bool false, .string tl, .int .i64 el], .int .i64 0]) ∧ Below W.heap.size W w') (g2 : ∀ W, Tab W → Calls Tryz.prog 11 #[.agg #[.int .i64 0, .bool false, .string tl, .int .i64 ea], .int .i64 p, .int .i64 2] W fun e w' => e = .returned (.tuple #[.agg #[.int .i64 0, .bool false, .string tl, .int .i64 el], .int .i64 0]) ∧ Below W.heap.size W w') (g3 : ∀ W, Tab W → Calls Tryz.prog 11 #[.agg #[.int .i64 0, .bool false, .string tl, .int .i64 ea], .int .i64 p, .int .i64 3] W fun e w' => e = .returned (.tuple #[.agg #[.int .i64 0, .bool false, .string th, .int .i64 eh], .int .i64 0]) ∧ Below W.heap.size W w') (g4 : ∀ k : Nat, 4 ≤ k → k < 8 → (∀ W, Tab W → Calls Tryz.prog 11 #[.agg #[.int .i64 0, .bool false, .string tl, .int .i64 ea], .int .i64 p, .int .i64 (k : Int)] W fun e w' => e = .returned (.tuple #[.agg #[.int .i64 0, .bool false, .string tl, .int .i64 el], .int .i64 0]) ∧ Below W.heap.size W w') ∨ (∀ W, Tab W → Calls Tryz.prog 11 #[.agg #[.int .i64 0, .bool false, .string tl, .int .i64 ea], .int .i64 p, .int .i64 (k : Int)] W fun e w' => e = .returned (.tuple #[.agg #[.int .i64 0, .bool false, .string th, .int .i64 eh], .int .i64 0]) ∧ Below W.heap.size W w')) (g5 : ∀ W, Calls Tryz.prog 20 #[.agg #[.int .i64 0, .bool false, .string th, .int .i64 eh], .agg #[.int .i64 0, .bool false, .string tl, .int .i64 el]] W fun e w' => e = .returned (.bool false) ∧ Below W.heap.size W w') : Calls Tryz.prog 10 #[.agg #[.int .i64 0, .bool false, .string tl, .int .i64 ea], .int .i64 p] w fun e w' => e = .returned (.bool true) ∧ Below w.heap.size w w' := by
  have H0 := hide g0
  have H1 := hide g1
  have H2 := hide g2
  have H3 := hide g3
  have H4 := hide g4
  have H5 := hide g5
  have HT := hide htab
  clear htab g0 g1 g2 g3 g4 g5
  have Ba0 := hide (Blk.newAt w (w.heap.size) (rfl) #[.int .i64 0, .bool false, .string tl, .int .i64 ea] 23)
  have HB0 : Hid (Below w.heap.size w (w.alloc (.cells #[.int .i64 0, .bool false, .string tl, .int .i64 ea] 23))) := ((Below.refl _ _).alloc (Nat.le_refl _) _)
  go_enter Tryz.func10, Tryz.ntmps10
  go_wp2_with fail
  refine (rawake_any _ (HT.out.below HB0.out)).mono ?_
  rintro e w1 ⟨rfl, hb⟩
  have Ba1 := hide (Ba0.out.below hb Ba0.out.lt)
  have HB1 := hide (HB0.out.trans (hb.mono HB0.out.size))
  clear hb Ba0 HB0 
  have ya0 : w1.cell? ⟨w.heap.size, 0, none⟩ = some (.int .i64 0) := Ba1.out.cell 0
  have ya1 : w1.cell? ⟨w.heap.size, 1, none⟩ = some (.bool false) := Ba1.out.cell 1
  have ya2 : w1.cell? ⟨w.heap.size, 2, none⟩ = some (.string tl) := Ba1.out.cell 2
  have ya3 : w1.cell? ⟨w.heap.size, 3, none⟩ = some (.int .i64 ea) := Ba1.out.cell 3
  go_wp2_with fail
  refine (H1.out _ (HT.out.below HB1.out)).mono ?_
  rintro e w2 ⟨rfl, hb⟩
  have Ba2 := hide (Ba1.out.below hb Ba1.out.lt)
  have HB2 := hide (HB1.out.trans (hb.mono HB1.out.size))
  clear hb Ba1 HB1 ya0 ya1 ya2 ya3
  have ya0 : w2.cell? ⟨w.heap.size, 0, none⟩ = some (.int .i64 0) := Ba2.out.cell 0
  have ya1 : w2.cell? ⟨w.heap.size, 1, none⟩ = some (.bool false) := Ba2.out.cell 1
  have ya2 : w2.cell? ⟨w.heap.size, 2, none⟩ = some (.string tl) := Ba2.out.cell 2
  have ya3 : w2.cell? ⟨w.heap.size, 3, none⟩ = some (.int .i64 ea) := Ba2.out.cell 3
  have Ba3 := hide ((Ba2.out.alloc (.cells #[.int .i64 0, .bool false, .string tl, .int .i64 el] 23)))
  have Bl3 := hide ((Blk.newAt w2 (w2.heap.size) (rfl) #[.int .i64 0, .bool false, .string tl, .int .i64 el] 23))
  have HB3 : Hid (Below w.heap.size w (w2.alloc (.cells #[.int .i64 0, .bool false, .string tl, .int .i64 el] 23))) := (HB2.out.alloc HB2.out.size _)
  clear Ba2 HB2 ya0 ya1 ya2 ya3
  have ya0 : (w2.alloc (.cells #[.int .i64 0, .bool false, .string tl, .int .i64 el] 23)).cell? ⟨w.heap.size, 0, none⟩ = some (.int .i64 0) := Ba3.out.cell 0
  have ya1 : (w2.alloc (.cells #[.int .i64 0, .bool false, .string tl, .int .i64 el] 23)).cell? ⟨w.heap.size, 1, none⟩ = some (.bool false) := Ba3.out.cell 1
  have ya2 : (w2.alloc (.cells #[.int .i64 0, .bool false, .string tl, .int .i64 el] 23)).cell? ⟨w.heap.size, 2, none⟩ = some (.string tl) := Ba3.out.cell 2
  have ya3 : (w2.alloc (.cells #[.int .i64 0, .bool false, .string tl, .int .i64 el] 23)).cell? ⟨w.heap.size, 3, none⟩ = some (.int .i64 ea) := Ba3.out.cell 3
  have yl0 : (w2.alloc (.cells #[.int .i64 0, .bool false, .string tl, .int .i64 el] 23)).cell? ⟨w2.heap.size, 0, none⟩ = some (.int .i64 0) := Bl3.out.cell 0
  have yl1 : (w2.alloc (.cells #[.int .i64 0, .bool false, .string tl, .int .i64 el] 23)).cell? ⟨w2.heap.size, 1, none⟩ = some (.bool false) := Bl3.out.cell 1
  have yl2 : (w2.alloc (.cells #[.int .i64 0, .bool false, .string tl, .int .i64 el] 23)).cell? ⟨w2.heap.size, 2, none⟩ = some (.string tl) := Bl3.out.cell 2
  have yl3 : (w2.alloc (.cells #[.int .i64 0, .bool false, .string tl, .int .i64 el] 23)).cell? ⟨w2.heap.size, 3, none⟩ = some (.int .i64 el) := Bl3.out.cell 3
  go_wp2_with fail
  refine (H0.out _ (HT.out.below HB3.out)).mono ?_
  rintro e w4 ⟨rfl, hb⟩
  have Ba4 := hide (Ba3.out.below hb Ba3.out.lt)
  have Bl4 := hide (Bl3.out.below hb Bl3.out.lt)
  have HB4 := hide (HB3.out.trans (hb.mono HB3.out.size))
  clear hb Ba3 Bl3 HB3 ya0 ya1 ya2 ya3 yl0 yl1 yl2 yl3
  have ya0 : w4.cell? ⟨w.heap.size, 0, none⟩ = some (.int .i64 0) := Ba4.out.cell 0
  have ya1 : w4.cell? ⟨w.heap.size, 1, none⟩ = some (.bool false) := Ba4.out.cell 1
  have ya2 : w4.cell? ⟨w.heap.size, 2, none⟩ = some (.string tl) := Ba4.out.cell 2
  have ya3 : w4.cell? ⟨w.heap.size, 3, none⟩ = some (.int .i64 ea) := Ba4.out.cell 3
  have yl0 : w4.cell? ⟨w2.heap.size, 0, none⟩ = some (.int .i64 0) := Bl4.out.cell 0
  have yl1 : w4.cell? ⟨w2.heap.size, 1, none⟩ = some (.bool false) := Bl4.out.cell 1
  have yl2 : w4.cell? ⟨w2.heap.size, 2, none⟩ = some (.string tl) := Bl4.out.cell 2
  have yl3 : w4.cell? ⟨w2.heap.size, 3, none⟩ = some (.int .i64 el) := Bl4.out.cell 3
  have Ba5 := hide ((Ba4.out.alloc (.cells #[.int .i64 0, .bool false, .string th, .int .i64 eh] 23)))
  have Bl5 := hide ((Bl4.out.alloc (.cells #[.int .i64 0, .bool false, .string th, .int .i64 eh] 23)))
  have Bh5 := hide ((Blk.newAt w4 (w4.heap.size) (rfl) #[.int .i64 0, .bool false, .string th, .int .i64 eh] 23))
  have HB5 : Hid (Below w.heap.size w (w4.alloc (.cells #[.int .i64 0, .bool false, .string th, .int .i64 eh] 23))) := (HB4.out.alloc HB4.out.size _)
  clear Ba4 Bl4 HB4 ya0 ya1 ya2 ya3 yl0 yl1 yl2 yl3
  have ya0 : (w4.alloc (.cells #[.int .i64 0, .bool false, .string th, .int .i64 eh] 23)).cell? ⟨w.heap.size, 0, none⟩ = some (.int .i64 0) := Ba5.out.cell 0
  have ya1 : (w4.alloc (.cells #[.int .i64 0, .bool false, .string th, .int .i64 eh] 23)).cell? ⟨w.heap.size, 1, none⟩ = some (.bool false) := Ba5.out.cell 1
  have ya2 : (w4.alloc (.cells #[.int .i64 0, .bool false, .string th, .int .i64 eh] 23)).cell? ⟨w.heap.size, 2, none⟩ = some (.string tl) := Ba5.out.cell 2
  have ya3 : (w4.alloc (.cells #[.int .i64 0, .bool false, .string th, .int .i64 eh] 23)).cell? ⟨w.heap.size, 3, none⟩ = some (.int .i64 ea) := Ba5.out.cell 3
  have yl0 : (w4.alloc (.cells #[.int .i64 0, .bool false, .string th, .int .i64 eh] 23)).cell? ⟨w2.heap.size, 0, none⟩ = some (.int .i64 0) := Bl5.out.cell 0
  have yl1 : (w4.alloc (.cells #[.int .i64 0, .bool false, .string th, .int .i64 eh] 23)).cell? ⟨w2.heap.size, 1, none⟩ = some (.bool false) := Bl5.out.cell 1
  have yl2 : (w4.alloc (.cells #[.int .i64 0, .bool false, .string th, .int .i64 eh] 23)).cell? ⟨w2.heap.size, 2, none⟩ = some (.string tl) := Bl5.out.cell 2
  have yl3 : (w4.alloc (.cells #[.int .i64 0, .bool false, .string th, .int .i64 eh] 23)).cell? ⟨w2.heap.size, 3, none⟩ = some (.int .i64 el) := Bl5.out.cell 3
  have yh0 : (w4.alloc (.cells #[.int .i64 0, .bool false, .string th, .int .i64 eh] 23)).cell? ⟨w4.heap.size, 0, none⟩ = some (.int .i64 0) := Bh5.out.cell 0
  have yh1 : (w4.alloc (.cells #[.int .i64 0, .bool false, .string th, .int .i64 eh] 23)).cell? ⟨w4.heap.size, 1, none⟩ = some (.bool false) := Bh5.out.cell 1
  have yh2 : (w4.alloc (.cells #[.int .i64 0, .bool false, .string th, .int .i64 eh] 23)).cell? ⟨w4.heap.size, 2, none⟩ = some (.string th) := Bh5.out.cell 2
  have yh3 : (w4.alloc (.cells #[.int .i64 0, .bool false, .string th, .int .i64 eh] 23)).cell? ⟨w4.heap.size, 3, none⟩ = some (.int .i64 eh) := Bh5.out.cell 3
  obtain ⟨W2, hW2⟩ : ∃ W2, W2 = (w4.alloc (.cells #[.int .i64 0, .bool false, .string th, .int .i64 eh] 23)) := ⟨_, rfl⟩
  rw [← hW2] at HB5 Ba5 Bl5 Bh5 ya0 ya1 ya2 ya3 yl0 yl1 yl2 yl3 yh0 yh1 yh2 yh3
  have HW2 := hide hW2
  clear hW2
  go_wp2
  simp only [← HW2.out]
  go_loopw [9] (fun iv wr => ∃ k : Nat, k ≤ 8 ∧ iv = .int .i64 (k : Int) ∧ Hid (Below W2.heap.size W2 wr)) (fun iv _ => 8 - (intOf iv).toNat)
  case atStart => exact ⟨0, by omega, rfl, Below.refl _ _⟩
  case round =>
    obtain ⟨k, hk, rfl, hbr⟩ := hrel
    have Ba6 := hide (Ba5.out.below hbr.out Ba5.out.lt)
    have Bl6 := hide (Bl5.out.below hbr.out Bl5.out.lt)
    have Bh6 := hide (Bh5.out.below hbr.out Bh5.out.lt)
    have HB6 := hide (HB5.out.trans (hbr.out.mono HB5.out.size))
    have HBR : Hid (Below W2.heap.size W2 wr) := hbr
    clear hbr HW2 Ba5 Bl5 Bh5 HB5 ya0 ya1 ya2 ya3 yl0 yl1 yl2 yl3 yh0 yh1 yh2 yh3
    have ya0 : wr.cell? ⟨w.heap.size, 0, none⟩ = some (.int .i64 0) := Ba6.out.cell 0
    have ya1 : wr.cell? ⟨w.heap.size, 1, none⟩ = some (.bool false) := Ba6.out.cell 1
    have ya2 : wr.cell? ⟨w.heap.size, 2, none⟩ = some (.string tl) := Ba6.out.cell 2
    have ya3 : wr.cell? ⟨w.heap.size, 3, none⟩ = some (.int .i64 ea) := Ba6.out.cell 3
    have yl0 : wr.cell? ⟨w2.heap.size, 0, none⟩ = some (.int .i64 0) := Bl6.out.cell 0
    have yl1 : wr.cell? ⟨w2.heap.size, 1, none⟩ = some (.bool false) := Bl6.out.cell 1
    have yl2 : wr.cell? ⟨w2.heap.size, 2, none⟩ = some (.string tl) := Bl6.out.cell 2
    have yl3 : wr.cell? ⟨w2.heap.size, 3, none⟩ = some (.int .i64 el) := Bl6.out.cell 3
    have yh0 : wr.cell? ⟨w4.heap.size, 0, none⟩ = some (.int .i64 0) := Bh6.out.cell 0
    have yh1 : wr.cell? ⟨w4.heap.size, 1, none⟩ = some (.bool false) := Bh6.out.cell 1
    have yh2 : wr.cell? ⟨w4.heap.size, 2, none⟩ = some (.string th) := Bh6.out.cell 2
    have yh3 : wr.cell? ⟨w4.heap.size, 3, none⟩ = some (.int .i64 eh) := Bh6.out.cell 3
    by_cases hk8 : k = 8
    · skip
      subst hk8
      clear hk HBR HT H0 H1 H2 H3 H4
      have b0 : Hid (Below wr.heap.size wr wr.drew) := bdrewD wr
      have C0 : Hid (∀ X, Hid (Below wr.heap.size wr X) → Calls Tryz.prog 20 #[.agg #[.int .i64 0, .bool false, .string th, .int .i64 eh], .agg #[.int .i64 0, .bool false, .string tl, .int .i64 el]] X fun e w' => e = .returned (.bool false) ∧ Hid (Below wr.heap.size wr w') ∧ w'.cell? ⟨w.heap.size, 0, none⟩ = some (.int .i64 0) ∧ w'.cell? ⟨w.heap.size, 1, none⟩ = some (.bool false) ∧ w'.cell? ⟨w.heap.size, 2, none⟩ = some (.string tl) ∧ w'.cell? ⟨w.heap.size, 3, none⟩ = some (.int .i64 ea) ∧ w'.cell? ⟨w2.heap.size, 0, none⟩ = some (.int .i64 0) ∧ w'.cell? ⟨w2.heap.size, 1, none⟩ = some (.bool false) ∧ w'.cell? ⟨w2.heap.size, 2, none⟩ = some (.string tl) ∧ w'.cell? ⟨w2.heap.size, 3, none⟩ = some (.int .i64 el) ∧ w'.cell? ⟨w4.heap.size, 0, none⟩ = some (.int .i64 0) ∧ w'.cell? ⟨w4.heap.size, 1, none⟩ = some (.bool false) ∧ w'.cell? ⟨w4.heap.size, 2, none⟩ = some (.string th) ∧ w'.cell? ⟨w4.heap.size, 3, none⟩ = some (.int .i64 eh)) := by
        intro X bX
        refine (H5.out X).mono ?_
        rintro e w' ⟨rfl, hb⟩
        have bb := bX.out.trans (hb.mono bX.out.size)
        have Baq := Ba6.out.below bb Ba6.out.lt
        have Blq := Bl6.out.below bb Bl6.out.lt
        have Bhq := Bh6.out.below bb Bh6.out.lt
        exact ⟨rfl, bb, Baq.cell 0, Baq.cell 1, Baq.cell 2, Baq.cell 3, Blq.cell 0, Blq.cell 1, Blq.cell 2, Blq.cell 3, Bhq.cell 0, Bhq.cell 1, Bhq.cell 2, Bhq.cell 3⟩
      go_wp2_with fail
      have mk0 : True := trivial
      go_region_held3 (fun w' => w'.cell? ⟨w.heap.size, 0, none⟩ = some (.int .i64 0) ∧ w'.cell? ⟨w.heap.size, 1, none⟩ = some (.bool false) ∧ w'.cell? ⟨w.heap.size, 2, none⟩ = some (.string tl) ∧ w'.cell? ⟨w.heap.size, 3, none⟩ = some (.int .i64 ea) ∧ w'.cell? ⟨w2.heap.size, 0, none⟩ = some (.int .i64 0) ∧ w'.cell? ⟨w2.heap.size, 1, none⟩ = some (.bool false) ∧ w'.cell? ⟨w2.heap.size, 2, none⟩ = some (.string tl) ∧ w'.cell? ⟨w2.heap.size, 3, none⟩ = some (.int .i64 el) ∧ w'.cell? ⟨w4.heap.size, 0, none⟩ = some (.int .i64 0) ∧ w'.cell? ⟨w4.heap.size, 1, none⟩ = some (.bool false) ∧ w'.cell? ⟨w4.heap.size, 2, none⟩ = some (.string th) ∧ w'.cell? ⟨w4.heap.size, 3, none⟩ = some (.int .i64 eh)) (go_keep) (first
        | (clear mk0; go_at_call 20; refine (C0.out _ b0).mono ?_; rintro e w7 ⟨rfl, b1, q0_0, q0_1, q0_2, q0_3, q0_4, q0_5, q0_6, q0_7, q0_8, q0_9, q0_10, q0_11⟩; have mk1 : True := trivial))
      have Ba7 := hide (Ba6.out.below b1.out Ba6.out.lt)
      have Bl7 := hide (Bl6.out.below b1.out Bl6.out.lt)
      have Bh7 := hide (Bh6.out.below b1.out Bh6.out.lt)
      have HB7 := hide (HB6.out.trans (b1.out.mono HB6.out.size))
      clear mk1 b0 b1 C0 q0_0 q0_1 q0_2 q0_3 q0_4 q0_5 q0_6 q0_7 q0_8 q0_9 q0_10 q0_11 Ba6 Bl6 Bh6 HB6 ya0 ya1 ya2 ya3 yl0 yl1 yl2 yl3 yh0 yh1 yh2 yh3
      have ya0 : w7.cell? ⟨w.heap.size, 0, none⟩ = some (.int .i64 0) := Ba7.out.cell 0
      have ya1 : w7.cell? ⟨w.heap.size, 1, none⟩ = some (.bool false) := Ba7.out.cell 1
      have ya2 : w7.cell? ⟨w.heap.size, 2, none⟩ = some (.string tl) := Ba7.out.cell 2
      have ya3 : w7.cell? ⟨w.heap.size, 3, none⟩ = some (.int .i64 ea) := Ba7.out.cell 3
      have yl0 : w7.cell? ⟨w2.heap.size, 0, none⟩ = some (.int .i64 0) := Bl7.out.cell 0
      have yl1 : w7.cell? ⟨w2.heap.size, 1, none⟩ = some (.bool false) := Bl7.out.cell 1
      have yl2 : w7.cell? ⟨w2.heap.size, 2, none⟩ = some (.string tl) := Bl7.out.cell 2
      have yl3 : w7.cell? ⟨w2.heap.size, 3, none⟩ = some (.int .i64 el) := Bl7.out.cell 3
      have yh0 : w7.cell? ⟨w4.heap.size, 0, none⟩ = some (.int .i64 0) := Bh7.out.cell 0
      have yh1 : w7.cell? ⟨w4.heap.size, 1, none⟩ = some (.bool false) := Bh7.out.cell 1
      have yh2 : w7.cell? ⟨w4.heap.size, 2, none⟩ = some (.string th) := Bh7.out.cell 2
      have yh3 : w7.cell? ⟨w4.heap.size, 3, none⟩ = some (.int .i64 eh) := Bh7.out.cell 3
      go_wp2
      go_ret
      exact ⟨rfl, HB7.out⟩
    by_cases j0 : k = 0
    · skip
      obtain rfl : k = 0 := by omega
      clear hk hk8
      go_wp2_with fail
      refine (H0.out _ (HT.out.below HB6.out)).mono ?_
      rintro e w7 ⟨rfl, hb⟩
      have HBS := hide (HBR.out.trans (hb.mono HBR.out.size))
      clear HBR
      have Ba7 := hide (Ba6.out.below hb Ba6.out.lt)
      have Bl7 := hide (Bl6.out.below hb Bl6.out.lt)
      have Bh7 := hide (Bh6.out.below hb Bh6.out.lt)
      have HB7 := hide (HB6.out.trans (hb.mono HB6.out.size))
      clear hb Ba6 Bl6 Bh6 HB6 ya0 ya1 ya2 ya3 yl0 yl1 yl2 yl3 yh0 yh1 yh2 yh3
      have ya0 : w7.cell? ⟨w.heap.size, 0, none⟩ = some (.int .i64 0) := Ba7.out.cell 0
      have ya1 : w7.cell? ⟨w.heap.size, 1, none⟩ = some (.bool false) := Ba7.out.cell 1
      have ya2 : w7.cell? ⟨w.heap.size, 2, none⟩ = some (.string tl) := Ba7.out.cell 2
      have ya3 : w7.cell? ⟨w.heap.size, 3, none⟩ = some (.int .i64 ea) := Ba7.out.cell 3
      have yl0 : w7.cell? ⟨w2.heap.size, 0, none⟩ = some (.int .i64 0) := Bl7.out.cell 0
      have yl1 : w7.cell? ⟨w2.heap.size, 1, none⟩ = some (.bool false) := Bl7.out.cell 1
      have yl2 : w7.cell? ⟨w2.heap.size, 2, none⟩ = some (.string tl) := Bl7.out.cell 2
      have yl3 : w7.cell? ⟨w2.heap.size, 3, none⟩ = some (.int .i64 el) := Bl7.out.cell 3
      have yh0 : w7.cell? ⟨w4.heap.size, 0, none⟩ = some (.int .i64 0) := Bh7.out.cell 0
      have yh1 : w7.cell? ⟨w4.heap.size, 1, none⟩ = some (.bool false) := Bh7.out.cell 1
      have yh2 : w7.cell? ⟨w4.heap.size, 2, none⟩ = some (.string th) := Bh7.out.cell 2
      have yh3 : w7.cell? ⟨w4.heap.size, 3, none⟩ = some (.int .i64 eh) := Bh7.out.cell 3
      have Ba8 := hide ((Ba7.out.alloc (.cells #[.int .i64 0, .bool false, .string th, .int .i64 eh] 23)))
      have Bl8 := hide ((Bl7.out.alloc (.cells #[.int .i64 0, .bool false, .string th, .int .i64 eh] 23)))
      have Bh8 := hide ((Bh7.out.alloc (.cells #[.int .i64 0, .bool false, .string th, .int .i64 eh] 23)))
      have Bx8 := hide ((Blk.newAt w7 (w7.heap.size) (rfl) #[.int .i64 0, .bool false, .string th, .int .i64 eh] 23))
      have HB8 : Hid (Below w.heap.size w (w7.alloc (.cells #[.int .i64 0, .bool false, .string th, .int .i64 eh] 23))) := (HB7.out.alloc HB7.out.size _)
      clear Ba7 Bl7 Bh7 HB7 ya0 ya1 ya2 ya3 yl0 yl1 yl2 yl3 yh0 yh1 yh2 yh3
      have ya0 : (w7.alloc (.cells #[.int .i64 0, .bool false, .string th, .int .i64 eh] 23)).cell? ⟨w.heap.size, 0, none⟩ = some (.int .i64 0) := Ba8.out.cell 0
      have ya1 : (w7.alloc (.cells #[.int .i64 0, .bool false, .string th, .int .i64 eh] 23)).cell? ⟨w.heap.size, 1, none⟩ = some (.bool false) := Ba8.out.cell 1
      have ya2 : (w7.alloc (.cells #[.int .i64 0, .bool false, .string th, .int .i64 eh] 23)).cell? ⟨w.heap.size, 2, none⟩ = some (.string tl) := Ba8.out.cell 2
      have ya3 : (w7.alloc (.cells #[.int .i64 0, .bool false, .string th, .int .i64 eh] 23)).cell? ⟨w.heap.size, 3, none⟩ = some (.int .i64 ea) := Ba8.out.cell 3
      have yl0 : (w7.alloc (.cells #[.int .i64 0, .bool false, .string th, .int .i64 eh] 23)).cell? ⟨w2.heap.size, 0, none⟩ = some (.int .i64 0) := Bl8.out.cell 0
      have yl1 : (w7.alloc (.cells #[.int .i64 0, .bool false, .string th, .int .i64 eh] 23)).cell? ⟨w2.heap.size, 1, none⟩ = some (.bool false) := Bl8.out.cell 1
      have yl2 : (w7.alloc (.cells #[.int .i64 0, .bool false, .string th, .int .i64 eh] 23)).cell? ⟨w2.heap.size, 2, none⟩ = some (.string tl) := Bl8.out.cell 2
      have yl3 : (w7.alloc (.cells #[.int .i64 0, .bool false, .string th, .int .i64 eh] 23)).cell? ⟨w2.heap.size, 3, none⟩ = some (.int .i64 el) := Bl8.out.cell 3
      have yh0 : (w7.alloc (.cells #[.int .i64 0, .bool false, .string th, .int .i64 eh] 23)).cell? ⟨w4.heap.size, 0, none⟩ = some (.int .i64 0) := Bh8.out.cell 0
      have yh1 : (w7.alloc (.cells #[.int .i64 0, .bool false, .string th, .int .i64 eh] 23)).cell? ⟨w4.heap.size, 1, none⟩ = some (.bool false) := Bh8.out.cell 1
      have yh2 : (w7.alloc (.cells #[.int .i64 0, .bool false, .string th, .int .i64 eh] 23)).cell? ⟨w4.heap.size, 2, none⟩ = some (.string th) := Bh8.out.cell 2
      have yh3 : (w7.alloc (.cells #[.int .i64 0, .bool false, .string th, .int .i64 eh] 23)).cell? ⟨w4.heap.size, 3, none⟩ = some (.int .i64 eh) := Bh8.out.cell 3
      have yx0 : (w7.alloc (.cells #[.int .i64 0, .bool false, .string th, .int .i64 eh] 23)).cell? ⟨w7.heap.size, 0, none⟩ = some (.int .i64 0) := Bx8.out.cell 0
      have yx1 : (w7.alloc (.cells #[.int .i64 0, .bool false, .string th, .int .i64 eh] 23)).cell? ⟨w7.heap.size, 1, none⟩ = some (.bool false) := Bx8.out.cell 1
      have yx2 : (w7.alloc (.cells #[.int .i64 0, .bool false, .string th, .int .i64 eh] 23)).cell? ⟨w7.heap.size, 2, none⟩ = some (.string th) := Bx8.out.cell 2
      have yx3 : (w7.alloc (.cells #[.int .i64 0, .bool false, .string th, .int .i64 eh] 23)).cell? ⟨w7.heap.size, 3, none⟩ = some (.int .i64 eh) := Bx8.out.cell 3
      go_wp2
      obtain ⟨W3, hW3⟩ : ∃ W3, W3 = (w7.alloc (.cells #[.int .i64 0, .bool false, .string th, .int .i64 eh] 23)) := ⟨_, rfl⟩
      rw [← hW3] at HB8 Ba8 Bl8 Bh8 Bx8 ya0 ya1 ya2 ya3 yl0 yl1 yl2 yl3 yh0 yh1 yh2 yh3 yx0 yx1 yx2 yx3
      have HW3 := hide hW3
      clear hW3
      have HL : Hid (w2.heap.size < W3.heap.size ∧ w4.heap.size < W3.heap.size) := ⟨Bl8.out.lt, Bh8.out.lt⟩
      simp only [← HW3.out]
      go_cut [12, 13] (fun vp vq wx => Cut2D W3 #[.int .i64 0, .bool false, .string tl, .int .i64 el] #[.int .i64 0, .bool false, .string th, .int .i64 eh] vp vq wx)
      case first =>
        have nl3 : ¬ w2.heap.size = W3.heap.size := (by have := HL.out; omega)
        have ml3 : ¬ W3.heap.size = w2.heap.size := (by have := HL.out; omega)
        have nh3 : ¬ w4.heap.size = W3.heap.size := (by have := HL.out; omega)
        have mh3 : ¬ W3.heap.size = w4.heap.size := (by have := HL.out; omega)
        go_region_held3 (fun w' => w'.cell? ⟨w2.heap.size, 0, none⟩ = some (.int .i64 0) ∧ w'.cell? ⟨w2.heap.size, 1, none⟩ = some (.bool false) ∧ w'.cell? ⟨w2.heap.size, 2, none⟩ = some (.string tl) ∧ w'.cell? ⟨w2.heap.size, 3, none⟩ = some (.int .i64 el) ∧ w'.cell? ⟨w4.heap.size, 0, none⟩ = some (.int .i64 0) ∧ w'.cell? ⟨w4.heap.size, 1, none⟩ = some (.bool false) ∧ w'.cell? ⟨w4.heap.size, 2, none⟩ = some (.string th) ∧ w'.cell? ⟨w4.heap.size, 3, none⟩ = some (.int .i64 eh)) (go_keep) (fail)
        all_goals (go_wp2_with fail; go_meet)
        all_goals (first | exact cut2_a | exact cut2_b)
      obtain ⟨⟨H, K, rfl, rfl, hq, hr, hH, hK, hHK, hbc⟩⟩ := hcut
      obtain ⟨w9, hwk⟩ : ∃ x, x = wc := ⟨_, rfl⟩
      subst hwk
      have Ba9 := hide (Ba8.out.below hbc Ba8.out.lt)
      have Bl9 := hide (Bl8.out.below hbc Bl8.out.lt)
      have Bh9 := hide (Bh8.out.below hbc Bh8.out.lt)
      have Bx9 := hide (Bx8.out.below hbc Bx8.out.lt)
      have Bn9 := hide hq
      have Bf9 := hide hr
      have HB9 := hide (HB8.out.trans (hbc.mono HB8.out.size))
      have HBT := hide (HBS.out.trans ((HW3.out ▸ ((Below.refl _ _).alloc (Nat.le_refl _) _ : Below _ _ _) : Below w7.heap.size w7 W3).trans (hbc.mono (by rw [HW3.out]; simp)) |>.mono HBS.out.size))
      have hhk : ¬ K = H := fun g => hHK g.symm
      have HHK := hide (show w.heap.size ≤ H ∧ w.heap.size ≤ K from ⟨Nat.le_trans HB8.out.size hH, Nat.le_trans HB8.out.size hK⟩)
      clear HL HBS hq hr hH hK hbc HW3 Ba8 Bl8 Bh8 Bx8 HB8 ya0 ya1 ya2 ya3 yl0 yl1 yl2 yl3 yh0 yh1 yh2 yh3 yx0 yx1 yx2 yx3
      have ya0 : w9.cell? ⟨w.heap.size, 0, none⟩ = some (.int .i64 0) := Ba9.out.cell 0
      have ya1 : w9.cell? ⟨w.heap.size, 1, none⟩ = some (.bool false) := Ba9.out.cell 1
      have ya2 : w9.cell? ⟨w.heap.size, 2, none⟩ = some (.string tl) := Ba9.out.cell 2
      have ya3 : w9.cell? ⟨w.heap.size, 3, none⟩ = some (.int .i64 ea) := Ba9.out.cell 3
      have yl0 : w9.cell? ⟨w2.heap.size, 0, none⟩ = some (.int .i64 0) := Bl9.out.cell 0
      have yl1 : w9.cell? ⟨w2.heap.size, 1, none⟩ = some (.bool false) := Bl9.out.cell 1
      have yl2 : w9.cell? ⟨w2.heap.size, 2, none⟩ = some (.string tl) := Bl9.out.cell 2
      have yl3 : w9.cell? ⟨w2.heap.size, 3, none⟩ = some (.int .i64 el) := Bl9.out.cell 3
      have yh0 : w9.cell? ⟨w4.heap.size, 0, none⟩ = some (.int .i64 0) := Bh9.out.cell 0
      have yh1 : w9.cell? ⟨w4.heap.size, 1, none⟩ = some (.bool false) := Bh9.out.cell 1
      have yh2 : w9.cell? ⟨w4.heap.size, 2, none⟩ = some (.string th) := Bh9.out.cell 2
      have yh3 : w9.cell? ⟨w4.heap.size, 3, none⟩ = some (.int .i64 eh) := Bh9.out.cell 3
      have yx0 : w9.cell? ⟨w7.heap.size, 0, none⟩ = some (.int .i64 0) := Bx9.out.cell 0
      have yx1 : w9.cell? ⟨w7.heap.size, 1, none⟩ = some (.bool false) := Bx9.out.cell 1
      have yx2 : w9.cell? ⟨w7.heap.size, 2, none⟩ = some (.string th) := Bx9.out.cell 2
      have yx3 : w9.cell? ⟨w7.heap.size, 3, none⟩ = some (.int .i64 eh) := Bx9.out.cell 3
      have yn0 : w9.cell? ⟨H, 0, none⟩ = some (.int .i64 0) := Bn9.out.cell 0
      have yn1 : w9.cell? ⟨H, 1, none⟩ = some (.bool false) := Bn9.out.cell 1
      have yn2 : w9.cell? ⟨H, 2, none⟩ = some (.string tl) := Bn9.out.cell 2
      have yn3 : w9.cell? ⟨H, 3, none⟩ = some (.int .i64 el) := Bn9.out.cell 3
      have yf0 : w9.cell? ⟨K, 0, none⟩ = some (.int .i64 0) := Bf9.out.cell 0
      have yf1 : w9.cell? ⟨K, 1, none⟩ = some (.bool false) := Bf9.out.cell 1
      have yf2 : w9.cell? ⟨K, 2, none⟩ = some (.string th) := Bf9.out.cell 2
      have yf3 : w9.cell? ⟨K, 3, none⟩ = some (.int .i64 eh) := Bf9.out.cell 3
      go_wp2
      go_roundw
      case rel => exact ⟨0 + 1, by first | omega | (have := HK.out; omega), by go_num, HBT.out⟩
      case measure => first | (simp [intOf]; done) | (simp [intOf]; omega) | (have := HK.out; simp [intOf]; omega)
    by_cases j1 : k = 1
    · skip
      obtain rfl : k = 1 := by omega
      clear hk hk8
      go_wp2_with fail
      refine (H1.out _ (HT.out.below HB6.out)).mono ?_
      rintro e w7 ⟨rfl, hb⟩
      have HBS := hide (HBR.out.trans (hb.mono HBR.out.size))
      clear HBR
      have Ba7 := hide (Ba6.out.below hb Ba6.out.lt)
      have Bl7 := hide (Bl6.out.below hb Bl6.out.lt)
      have Bh7 := hide (Bh6.out.below hb Bh6.out.lt)
      have HB7 := hide (HB6.out.trans (hb.mono HB6.out.size))
      clear hb Ba6 Bl6 Bh6 HB6 ya0 ya1 ya2 ya3 yl0 yl1 yl2 yl3 yh0 yh1 yh2 yh3
      have ya0 : w7.cell? ⟨w.heap.size, 0, none⟩ = some (.int .i64 0) := Ba7.out.cell 0
      have ya1 : w7.cell? ⟨w.heap.size, 1, none⟩ = some (.bool false) := Ba7.out.cell 1
      have ya2 : w7.cell? ⟨w.heap.size, 2, none⟩ = some (.string tl) := Ba7.out.cell 2
      have ya3 : w7.cell? ⟨w.heap.size, 3, none⟩ = some (.int .i64 ea) := Ba7.out.cell 3
      have yl0 : w7.cell? ⟨w2.heap.size, 0, none⟩ = some (.int .i64 0) := Bl7.out.cell 0
      have yl1 : w7.cell? ⟨w2.heap.size, 1, none⟩ = some (.bool false) := Bl7.out.cell 1
      have yl2 : w7.cell? ⟨w2.heap.size, 2, none⟩ = some (.string tl) := Bl7.out.cell 2
      have yl3 : w7.cell? ⟨w2.heap.size, 3, none⟩ = some (.int .i64 el) := Bl7.out.cell 3
      have yh0 : w7.cell? ⟨w4.heap.size, 0, none⟩ = some (.int .i64 0) := Bh7.out.cell 0
      have yh1 : w7.cell? ⟨w4.heap.size, 1, none⟩ = some (.bool false) := Bh7.out.cell 1
      have yh2 : w7.cell? ⟨w4.heap.size, 2, none⟩ = some (.string th) := Bh7.out.cell 2
      have yh3 : w7.cell? ⟨w4.heap.size, 3, none⟩ = some (.int .i64 eh) := Bh7.out.cell 3
      have Ba8 := hide ((Ba7.out.alloc (.cells #[.int .i64 0, .bool false, .string tl, .int .i64 el] 23)))
      have Bl8 := hide ((Bl7.out.alloc (.cells #[.int .i64 0, .bool false, .string tl, .int .i64 el] 23)))
      have Bh8 := hide ((Bh7.out.alloc (.cells #[.int .i64 0, .bool false, .string tl, .int .i64 el] 23)))
      have Bx8 := hide ((Blk.newAt w7 (w7.heap.size) (rfl) #[.int .i64 0, .bool false, .string tl, .int .i64 el] 23))
      have HB8 : Hid (Below w.heap.size w (w7.alloc (.cells #[.int .i64 0, .bool false, .string tl, .int .i64 el] 23))) := (HB7.out.alloc HB7.out.size _)
      clear Ba7 Bl7 Bh7 HB7 ya0 ya1 ya2 ya3 yl0 yl1 yl2 yl3 yh0 yh1 yh2 yh3
      have ya0 : (w7.alloc (.cells #[.int .i64 0, .bool false, .string tl, .int .i64 el] 23)).cell? ⟨w.heap.size, 0, none⟩ = some (.int .i64 0) := Ba8.out.cell 0
      have ya1 : (w7.alloc (.cells #[.int .i64 0, .bool false, .string tl, .int .i64 el] 23)).cell? ⟨w.heap.size, 1, none⟩ = some (.bool false) := Ba8.out.cell 1
      have ya2 : (w7.alloc (.cells #[.int .i64 0, .bool false, .string tl, .int .i64 el] 23)).cell? ⟨w.heap.size, 2, none⟩ = some (.string tl) := Ba8.out.cell 2
      have ya3 : (w7.alloc (.cells #[.int .i64 0, .bool false, .string tl, .int .i64 el] 23)).cell? ⟨w.heap.size, 3, none⟩ = some (.int .i64 ea) := Ba8.out.cell 3
      have yl0 : (w7.alloc (.cells #[.int .i64 0, .bool false, .string tl, .int .i64 el] 23)).cell? ⟨w2.heap.size, 0, none⟩ = some (.int .i64 0) := Bl8.out.cell 0
      have yl1 : (w7.alloc (.cells #[.int .i64 0, .bool false, .string tl, .int .i64 el] 23)).cell? ⟨w2.heap.size, 1, none⟩ = some (.bool false) := Bl8.out.cell 1
      have yl2 : (w7.alloc (.cells #[.int .i64 0, .bool false, .string tl, .int .i64 el] 23)).cell? ⟨w2.heap.size, 2, none⟩ = some (.string tl) := Bl8.out.cell 2
      have yl3 : (w7.alloc (.cells #[.int .i64 0, .bool false, .string tl, .int .i64 el] 23)).cell? ⟨w2.heap.size, 3, none⟩ = some (.int .i64 el) := Bl8.out.cell 3
      have yh0 : (w7.alloc (.cells #[.int .i64 0, .bool false, .string tl, .int .i64 el] 23)).cell? ⟨w4.heap.size, 0, none⟩ = some (.int .i64 0) := Bh8.out.cell 0
      have yh1 : (w7.alloc (.cells #[.int .i64 0, .bool false, .string tl, .int .i64 el] 23)).cell? ⟨w4.heap.size, 1, none⟩ = some (.bool false) := Bh8.out.cell 1
      have yh2 : (w7.alloc (.cells #[.int .i64 0, .bool false, .string tl, .int .i64 el] 23)).cell? ⟨w4.heap.size, 2, none⟩ = some (.string th) := Bh8.out.cell 2
      have yh3 : (w7.alloc (.cells #[.int .i64 0, .bool false, .string tl, .int .i64 el] 23)).cell? ⟨w4.heap.size, 3, none⟩ = some (.int .i64 eh) := Bh8.out.cell 3
      have yx0 : (w7.alloc (.cells #[.int .i64 0, .bool false, .string tl, .int .i64 el] 23)).cell? ⟨w7.heap.size, 0, none⟩ = some (.int .i64 0) := Bx8.out.cell 0
      have yx1 : (w7.alloc (.cells #[.int .i64 0, .bool false, .string tl, .int .i64 el] 23)).cell? ⟨w7.heap.size, 1, none⟩ = some (.bool false) := Bx8.out.cell 1
      have yx2 : (w7.alloc (.cells #[.int .i64 0, .bool false, .string tl, .int .i64 el] 23)).cell? ⟨w7.heap.size, 2, none⟩ = some (.string tl) := Bx8.out.cell 2
      have yx3 : (w7.alloc (.cells #[.int .i64 0, .bool false, .string tl, .int .i64 el] 23)).cell? ⟨w7.heap.size, 3, none⟩ = some (.int .i64 el) := Bx8.out.cell 3
      go_wp2
      obtain ⟨W3, hW3⟩ : ∃ W3, W3 = (w7.alloc (.cells #[.int .i64 0, .bool false, .string tl, .int .i64 el] 23)) := ⟨_, rfl⟩
      rw [← hW3] at HB8 Ba8 Bl8 Bh8 Bx8 ya0 ya1 ya2 ya3 yl0 yl1 yl2 yl3 yh0 yh1 yh2 yh3 yx0 yx1 yx2 yx3
      have HW3 := hide hW3
      clear hW3
      have HL : Hid (w2.heap.size < W3.heap.size ∧ w4.heap.size < W3.heap.size) := ⟨Bl8.out.lt, Bh8.out.lt⟩
      simp only [← HW3.out]
      go_cut [12, 13] (fun vp vq wx => Cut2D W3 #[.int .i64 0, .bool false, .string tl, .int .i64 el] #[.int .i64 0, .bool false, .string th, .int .i64 eh] vp vq wx)
      case first =>
        have nl3 : ¬ w2.heap.size = W3.heap.size := (by have := HL.out; omega)
        have ml3 : ¬ W3.heap.size = w2.heap.size := (by have := HL.out; omega)
        have nh3 : ¬ w4.heap.size = W3.heap.size := (by have := HL.out; omega)
        have mh3 : ¬ W3.heap.size = w4.heap.size := (by have := HL.out; omega)
        go_region_held3 (fun w' => w'.cell? ⟨w2.heap.size, 0, none⟩ = some (.int .i64 0) ∧ w'.cell? ⟨w2.heap.size, 1, none⟩ = some (.bool false) ∧ w'.cell? ⟨w2.heap.size, 2, none⟩ = some (.string tl) ∧ w'.cell? ⟨w2.heap.size, 3, none⟩ = some (.int .i64 el) ∧ w'.cell? ⟨w4.heap.size, 0, none⟩ = some (.int .i64 0) ∧ w'.cell? ⟨w4.heap.size, 1, none⟩ = some (.bool false) ∧ w'.cell? ⟨w4.heap.size, 2, none⟩ = some (.string th) ∧ w'.cell? ⟨w4.heap.size, 3, none⟩ = some (.int .i64 eh)) (go_keep) (fail)
        all_goals (go_wp2_with fail; go_meet)
        all_goals (first | exact cut2_a | exact cut2_b)
      obtain ⟨⟨H, K, rfl, rfl, hq, hr, hH, hK, hHK, hbc⟩⟩ := hcut
      obtain ⟨w9, hwk⟩ : ∃ x, x = wc := ⟨_, rfl⟩
      subst hwk
      have Ba9 := hide (Ba8.out.below hbc Ba8.out.lt)
      have Bl9 := hide (Bl8.out.below hbc Bl8.out.lt)
      have Bh9 := hide (Bh8.out.below hbc Bh8.out.lt)
      have Bx9 := hide (Bx8.out.below hbc Bx8.out.lt)
      have Bn9 := hide hq
      have Bf9 := hide hr
      have HB9 := hide (HB8.out.trans (hbc.mono HB8.out.size))
      have HBT := hide (HBS.out.trans ((HW3.out ▸ ((Below.refl _ _).alloc (Nat.le_refl _) _ : Below _ _ _) : Below w7.heap.size w7 W3).trans (hbc.mono (by rw [HW3.out]; simp)) |>.mono HBS.out.size))
      have hhk : ¬ K = H := fun g => hHK g.symm
      have HHK := hide (show w.heap.size ≤ H ∧ w.heap.size ≤ K from ⟨Nat.le_trans HB8.out.size hH, Nat.le_trans HB8.out.size hK⟩)
      clear HL HBS hq hr hH hK hbc HW3 Ba8 Bl8 Bh8 Bx8 HB8 ya0 ya1 ya2 ya3 yl0 yl1 yl2 yl3 yh0 yh1 yh2 yh3 yx0 yx1 yx2 yx3
      have ya0 : w9.cell? ⟨w.heap.size, 0, none⟩ = some (.int .i64 0) := Ba9.out.cell 0
      have ya1 : w9.cell? ⟨w.heap.size, 1, none⟩ = some (.bool false) := Ba9.out.cell 1
      have ya2 : w9.cell? ⟨w.heap.size, 2, none⟩ = some (.string tl) := Ba9.out.cell 2
      have ya3 : w9.cell? ⟨w.heap.size, 3, none⟩ = some (.int .i64 ea) := Ba9.out.cell 3
      have yl0 : w9.cell? ⟨w2.heap.size, 0, none⟩ = some (.int .i64 0) := Bl9.out.cell 0
      have yl1 : w9.cell? ⟨w2.heap.size, 1, none⟩ = some (.bool false) := Bl9.out.cell 1
      have yl2 : w9.cell? ⟨w2.heap.size, 2, none⟩ = some (.string tl) := Bl9.out.cell 2
      have yl3 : w9.cell? ⟨w2.heap.size, 3, none⟩ = some (.int .i64 el) := Bl9.out.cell 3
      have yh0 : w9.cell? ⟨w4.heap.size, 0, none⟩ = some (.int .i64 0) := Bh9.out.cell 0
      have yh1 : w9.cell? ⟨w4.heap.size, 1, none⟩ = some (.bool false) := Bh9.out.cell 1
      have yh2 : w9.cell? ⟨w4.heap.size, 2, none⟩ = some (.string th) := Bh9.out.cell 2
      have yh3 : w9.cell? ⟨w4.heap.size, 3, none⟩ = some (.int .i64 eh) := Bh9.out.cell 3
      have yx0 : w9.cell? ⟨w7.heap.size, 0, none⟩ = some (.int .i64 0) := Bx9.out.cell 0
      have yx1 : w9.cell? ⟨w7.heap.size, 1, none⟩ = some (.bool false) := Bx9.out.cell 1
      have yx2 : w9.cell? ⟨w7.heap.size, 2, none⟩ = some (.string tl) := Bx9.out.cell 2
      have yx3 : w9.cell? ⟨w7.heap.size, 3, none⟩ = some (.int .i64 el) := Bx9.out.cell 3
      have yn0 : w9.cell? ⟨H, 0, none⟩ = some (.int .i64 0) := Bn9.out.cell 0
      have yn1 : w9.cell? ⟨H, 1, none⟩ = some (.bool false) := Bn9.out.cell 1
      have yn2 : w9.cell? ⟨H, 2, none⟩ = some (.string tl) := Bn9.out.cell 2
      have yn3 : w9.cell? ⟨H, 3, none⟩ = some (.int .i64 el) := Bn9.out.cell 3
      have yf0 : w9.cell? ⟨K, 0, none⟩ = some (.int .i64 0) := Bf9.out.cell 0
      have yf1 : w9.cell? ⟨K, 1, none⟩ = some (.bool false) := Bf9.out.cell 1
      have yf2 : w9.cell? ⟨K, 2, none⟩ = some (.string th) := Bf9.out.cell 2
      have yf3 : w9.cell? ⟨K, 3, none⟩ = some (.int .i64 eh) := Bf9.out.cell 3
      go_wp2
      go_roundw
      case rel => exact ⟨1 + 1, by first | omega | (have := HK.out; omega), by go_num, HBT.out⟩
      case measure => first | (simp [intOf]; done) | (simp [intOf]; omega) | (have := HK.out; simp [intOf]; omega)
    by_cases j2 : k = 2
    · skip
      obtain rfl : k = 2 := by omega
      clear hk hk8
      go_wp2_with fail
      refine (H2.out _ (HT.out.below HB6.out)).mono ?_
      rintro e w7 ⟨rfl, hb⟩
      have HBS := hide (HBR.out.trans (hb.mono HBR.out.size))
      clear HBR
      have Ba7 := hide (Ba6.out.below hb Ba6.out.lt)
      have Bl7 := hide (Bl6.out.below hb Bl6.out.lt)
      have Bh7 := hide (Bh6.out.below hb Bh6.out.lt)
      have HB7 := hide (HB6.out.trans (hb.mono HB6.out.size))
      clear hb Ba6 Bl6 Bh6 HB6 ya0 ya1 ya2 ya3 yl0 yl1 yl2 yl3 yh0 yh1 yh2 yh3
      have ya0 : w7.cell? ⟨w.heap.size, 0, none⟩ = some (.int .i64 0) := Ba7.out.cell 0
      have ya1 : w7.cell? ⟨w.heap.size, 1, none⟩ = some (.bool false) := Ba7.out.cell 1
      have ya2 : w7.cell? ⟨w.heap.size, 2, none⟩ = some (.string tl) := Ba7.out.cell 2
      have ya3 : w7.cell? ⟨w.heap.size, 3, none⟩ = some (.int .i64 ea) := Ba7.out.cell 3
      have yl0 : w7.cell? ⟨w2.heap.size, 0, none⟩ = some (.int .i64 0) := Bl7.out.cell 0
      have yl1 : w7.cell? ⟨w2.heap.size, 1, none⟩ = some (.bool false) := Bl7.out.cell 1
      have yl2 : w7.cell? ⟨w2.heap.size, 2, none⟩ = some (.string tl) := Bl7.out.cell 2
      have yl3 : w7.cell? ⟨w2.heap.size, 3, none⟩ = some (.int .i64 el) := Bl7.out.cell 3
      have yh0 : w7.cell? ⟨w4.heap.size, 0, none⟩ = some (.int .i64 0) := Bh7.out.cell 0
      have yh1 : w7.cell? ⟨w4.heap.size, 1, none⟩ = some (.bool false) := Bh7.out.cell 1
      have yh2 : w7.cell? ⟨w4.heap.size, 2, none⟩ = some (.string th) := Bh7.out.cell 2
      have yh3 : w7.cell? ⟨w4.heap.size, 3, none⟩ = some (.int .i64 eh) := Bh7.out.cell 3
      have Ba8 := hide ((Ba7.out.alloc (.cells #[.int .i64 0, .bool false, .string tl, .int .i64 el] 23)))
      have Bl8 := hide ((Bl7.out.alloc (.cells #[.int .i64 0, .bool false, .string tl, .int .i64 el] 23)))
      have Bh8 := hide ((Bh7.out.alloc (.cells #[.int .i64 0, .bool false, .string tl, .int .i64 el] 23)))
      have Bx8 := hide ((Blk.newAt w7 (w7.heap.size) (rfl) #[.int .i64 0, .bool false, .string tl, .int .i64 el] 23))
      have HB8 : Hid (Below w.heap.size w (w7.alloc (.cells #[.int .i64 0, .bool false, .string tl, .int .i64 el] 23))) := (HB7.out.alloc HB7.out.size _)
      clear Ba7 Bl7 Bh7 HB7 ya0 ya1 ya2 ya3 yl0 yl1 yl2 yl3 yh0 yh1 yh2 yh3
      have ya0 : (w7.alloc (.cells #[.int .i64 0, .bool false, .string tl, .int .i64 el] 23)).cell? ⟨w.heap.size, 0, none⟩ = some (.int .i64 0) := Ba8.out.cell 0
      have ya1 : (w7.alloc (.cells #[.int .i64 0, .bool false, .string tl, .int .i64 el] 23)).cell? ⟨w.heap.size, 1, none⟩ = some (.bool false) := Ba8.out.cell 1
      have ya2 : (w7.alloc (.cells #[.int .i64 0, .bool false, .string tl, .int .i64 el] 23)).cell? ⟨w.heap.size, 2, none⟩ = some (.string tl) := Ba8.out.cell 2
      have ya3 : (w7.alloc (.cells #[.int .i64 0, .bool false, .string tl, .int .i64 el] 23)).cell? ⟨w.heap.size, 3, none⟩ = some (.int .i64 ea) := Ba8.out.cell 3
      have yl0 : (w7.alloc (.cells #[.int .i64 0, .bool false, .string tl, .int .i64 el] 23)).cell? ⟨w2.heap.size, 0, none⟩ = some (.int .i64 0) := Bl8.out.cell 0
      have yl1 : (w7.alloc (.cells #[.int .i64 0, .bool false, .string tl, .int .i64 el] 23)).cell? ⟨w2.heap.size, 1, none⟩ = some (.bool false) := Bl8.out.cell 1
      have yl2 : (w7.alloc (.cells #[.int .i64 0, .bool false, .string tl, .int .i64 el] 23)).cell? ⟨w2.heap.size, 2, none⟩ = some (.string tl) := Bl8.out.cell 2
      have yl3 : (w7.alloc (.cells #[.int .i64 0, .bool false, .string tl, .int .i64 el] 23)).cell? ⟨w2.heap.size, 3, none⟩ = some (.int .i64 el) := Bl8.out.cell 3
      have yh0 : (w7.alloc (.cells #[.int .i64 0, .bool false, .string tl, .int .i64 el] 23)).cell? ⟨w4.heap.size, 0, none⟩ = some (.int .i64 0) := Bh8.out.cell 0
      have yh1 : (w7.alloc (.cells #[.int .i64 0, .bool false, .string tl, .int .i64 el] 23)).cell? ⟨w4.heap.size, 1, none⟩ = some (.bool false) := Bh8.out.cell 1
      have yh2 : (w7.alloc (.cells #[.int .i64 0, .bool false, .string tl, .int .i64 el] 23)).cell? ⟨w4.heap.size, 2, none⟩ = some (.string th) := Bh8.out.cell 2
      have yh3 : (w7.alloc (.cells #[.int .i64 0, .bool false, .string tl, .int .i64 el] 23)).cell? ⟨w4.heap.size, 3, none⟩ = some (.int .i64 eh) := Bh8.out.cell 3
      have yx0 : (w7.alloc (.cells #[.int .i64 0, .bool false, .string tl, .int .i64 el] 23)).cell? ⟨w7.heap.size, 0, none⟩ = some (.int .i64 0) := Bx8.out.cell 0
      have yx1 : (w7.alloc (.cells #[.int .i64 0, .bool false, .string tl, .int .i64 el] 23)).cell? ⟨w7.heap.size, 1, none⟩ = some (.bool false) := Bx8.out.cell 1
      have yx2 : (w7.alloc (.cells #[.int .i64 0, .bool false, .string tl, .int .i64 el] 23)).cell? ⟨w7.heap.size, 2, none⟩ = some (.string tl) := Bx8.out.cell 2
      have yx3 : (w7.alloc (.cells #[.int .i64 0, .bool false, .string tl, .int .i64 el] 23)).cell? ⟨w7.heap.size, 3, none⟩ = some (.int .i64 el) := Bx8.out.cell 3
      go_wp2
      obtain ⟨W3, hW3⟩ : ∃ W3, W3 = (w7.alloc (.cells #[.int .i64 0, .bool false, .string tl, .int .i64 el] 23)) := ⟨_, rfl⟩
      rw [← hW3] at HB8 Ba8 Bl8 Bh8 Bx8 ya0 ya1 ya2 ya3 yl0 yl1 yl2 yl3 yh0 yh1 yh2 yh3 yx0 yx1 yx2 yx3
      have HW3 := hide hW3
      clear hW3
      have HL : Hid (w2.heap.size < W3.heap.size ∧ w4.heap.size < W3.heap.size) := ⟨Bl8.out.lt, Bh8.out.lt⟩
      simp only [← HW3.out]
      go_cut [12, 13] (fun vp vq wx => Cut2D W3 #[.int .i64 0, .bool false, .string tl, .int .i64 el] #[.int .i64 0, .bool false, .string th, .int .i64 eh] vp vq wx)
      case first =>
        have nl3 : ¬ w2.heap.size = W3.heap.size := (by have := HL.out; omega)
        have ml3 : ¬ W3.heap.size = w2.heap.size := (by have := HL.out; omega)
        have nh3 : ¬ w4.heap.size = W3.heap.size := (by have := HL.out; omega)
        have mh3 : ¬ W3.heap.size = w4.heap.size := (by have := HL.out; omega)
        go_region_held3 (fun w' => w'.cell? ⟨w2.heap.size, 0, none⟩ = some (.int .i64 0) ∧ w'.cell? ⟨w2.heap.size, 1, none⟩ = some (.bool false) ∧ w'.cell? ⟨w2.heap.size, 2, none⟩ = some (.string tl) ∧ w'.cell? ⟨w2.heap.size, 3, none⟩ = some (.int .i64 el) ∧ w'.cell? ⟨w4.heap.size, 0, none⟩ = some (.int .i64 0) ∧ w'.cell? ⟨w4.heap.size, 1, none⟩ = some (.bool false) ∧ w'.cell? ⟨w4.heap.size, 2, none⟩ = some (.string th) ∧ w'.cell? ⟨w4.heap.size, 3, none⟩ = some (.int .i64 eh)) (go_keep) (fail)
        all_goals (go_wp2_with fail; go_meet)
        all_goals (first | exact cut2_a | exact cut2_b)
      obtain ⟨⟨H, K, rfl, rfl, hq, hr, hH, hK, hHK, hbc⟩⟩ := hcut
      obtain ⟨w9, hwk⟩ : ∃ x, x = wc := ⟨_, rfl⟩
      subst hwk
      have Ba9 := hide (Ba8.out.below hbc Ba8.out.lt)
      have Bl9 := hide (Bl8.out.below hbc Bl8.out.lt)
      have Bh9 := hide (Bh8.out.below hbc Bh8.out.lt)
      have Bx9 := hide (Bx8.out.below hbc Bx8.out.lt)
      have Bn9 := hide hq
      have Bf9 := hide hr
      have HB9 := hide (HB8.out.trans (hbc.mono HB8.out.size))
      have HBT := hide (HBS.out.trans ((HW3.out ▸ ((Below.refl _ _).alloc (Nat.le_refl _) _ : Below _ _ _) : Below w7.heap.size w7 W3).trans (hbc.mono (by rw [HW3.out]; simp)) |>.mono HBS.out.size))
      have hhk : ¬ K = H := fun g => hHK g.symm
      have HHK := hide (show w.heap.size ≤ H ∧ w.heap.size ≤ K from ⟨Nat.le_trans HB8.out.size hH, Nat.le_trans HB8.out.size hK⟩)
      clear HL HBS hq hr hH hK hbc HW3 Ba8 Bl8 Bh8 Bx8 HB8 ya0 ya1 ya2 ya3 yl0 yl1 yl2 yl3 yh0 yh1 yh2 yh3 yx0 yx1 yx2 yx3
      have ya0 : w9.cell? ⟨w.heap.size, 0, none⟩ = some (.int .i64 0) := Ba9.out.cell 0
      have ya1 : w9.cell? ⟨w.heap.size, 1, none⟩ = some (.bool false) := Ba9.out.cell 1
      have ya2 : w9.cell? ⟨w.heap.size, 2, none⟩ = some (.string tl) := Ba9.out.cell 2
      have ya3 : w9.cell? ⟨w.heap.size, 3, none⟩ = some (.int .i64 ea) := Ba9.out.cell 3
      have yl0 : w9.cell? ⟨w2.heap.size, 0, none⟩ = some (.int .i64 0) := Bl9.out.cell 0
      have yl1 : w9.cell? ⟨w2.heap.size, 1, none⟩ = some (.bool false) := Bl9.out.cell 1
      have yl2 : w9.cell? ⟨w2.heap.size, 2, none⟩ = some (.string tl) := Bl9.out.cell 2
      have yl3 : w9.cell? ⟨w2.heap.size, 3, none⟩ = some (.int .i64 el) := Bl9.out.cell 3
      have yh0 : w9.cell? ⟨w4.heap.size, 0, none⟩ = some (.int .i64 0) := Bh9.out.cell 0
      have yh1 : w9.cell? ⟨w4.heap.size, 1, none⟩ = some (.bool false) := Bh9.out.cell 1
      have yh2 : w9.cell? ⟨w4.heap.size, 2, none⟩ = some (.string th) := Bh9.out.cell 2
      have yh3 : w9.cell? ⟨w4.heap.size, 3, none⟩ = some (.int .i64 eh) := Bh9.out.cell 3
      have yx0 : w9.cell? ⟨w7.heap.size, 0, none⟩ = some (.int .i64 0) := Bx9.out.cell 0
      have yx1 : w9.cell? ⟨w7.heap.size, 1, none⟩ = some (.bool false) := Bx9.out.cell 1
      have yx2 : w9.cell? ⟨w7.heap.size, 2, none⟩ = some (.string tl) := Bx9.out.cell 2
      have yx3 : w9.cell? ⟨w7.heap.size, 3, none⟩ = some (.int .i64 el) := Bx9.out.cell 3
      have yn0 : w9.cell? ⟨H, 0, none⟩ = some (.int .i64 0) := Bn9.out.cell 0
      have yn1 : w9.cell? ⟨H, 1, none⟩ = some (.bool false) := Bn9.out.cell 1
      have yn2 : w9.cell? ⟨H, 2, none⟩ = some (.string tl) := Bn9.out.cell 2
      have yn3 : w9.cell? ⟨H, 3, none⟩ = some (.int .i64 el) := Bn9.out.cell 3
      have yf0 : w9.cell? ⟨K, 0, none⟩ = some (.int .i64 0) := Bf9.out.cell 0
      have yf1 : w9.cell? ⟨K, 1, none⟩ = some (.bool false) := Bf9.out.cell 1
      have yf2 : w9.cell? ⟨K, 2, none⟩ = some (.string th) := Bf9.out.cell 2
      have yf3 : w9.cell? ⟨K, 3, none⟩ = some (.int .i64 eh) := Bf9.out.cell 3
      go_wp2
      go_roundw
      case rel => exact ⟨2 + 1, by first | omega | (have := HK.out; omega), by go_num, HBT.out⟩
      case measure => first | (simp [intOf]; done) | (simp [intOf]; omega) | (have := HK.out; simp [intOf]; omega)
    by_cases j3 : k = 3
    · skip
      obtain rfl : k = 3 := by omega
      clear hk hk8
      go_wp2_with fail
      refine (H3.out _ (HT.out.below HB6.out)).mono ?_
      rintro e w7 ⟨rfl, hb⟩
      have HBS := hide (HBR.out.trans (hb.mono HBR.out.size))
      clear HBR
      have Ba7 := hide (Ba6.out.below hb Ba6.out.lt)
      have Bl7 := hide (Bl6.out.below hb Bl6.out.lt)
      have Bh7 := hide (Bh6.out.below hb Bh6.out.lt)
      have HB7 := hide (HB6.out.trans (hb.mono HB6.out.size))
      clear hb Ba6 Bl6 Bh6 HB6 ya0 ya1 ya2 ya3 yl0 yl1 yl2 yl3 yh0 yh1 yh2 yh3
      have ya0 : w7.cell? ⟨w.heap.size, 0, none⟩ = some (.int .i64 0) := Ba7.out.cell 0
      have ya1 : w7.cell? ⟨w.heap.size, 1, none⟩ = some (.bool false) := Ba7.out.cell 1
      have ya2 : w7.cell? ⟨w.heap.size, 2, none⟩ = some (.string tl) := Ba7.out.cell 2
      have ya3 : w7.cell? ⟨w.heap.size, 3, none⟩ = some (.int .i64 ea) := Ba7.out.cell 3
      have yl0 : w7.cell? ⟨w2.heap.size, 0, none⟩ = some (.int .i64 0) := Bl7.out.cell 0
      have yl1 : w7.cell? ⟨w2.heap.size, 1, none⟩ = some (.bool false) := Bl7.out.cell 1
      have yl2 : w7.cell? ⟨w2.heap.size, 2, none⟩ = some (.string tl) := Bl7.out.cell 2
      have yl3 : w7.cell? ⟨w2.heap.size, 3, none⟩ = some (.int .i64 el) := Bl7.out.cell 3
      have yh0 : w7.cell? ⟨w4.heap.size, 0, none⟩ = some (.int .i64 0) := Bh7.out.cell 0
      have yh1 : w7.cell? ⟨w4.heap.size, 1, none⟩ = some (.bool false) := Bh7.out.cell 1
      have yh2 : w7.cell? ⟨w4.heap.size, 2, none⟩ = some (.string th) := Bh7.out.cell 2
      have yh3 : w7.cell? ⟨w4.heap.size, 3, none⟩ = some (.int .i64 eh) := Bh7.out.cell 3
      have Ba8 := hide ((Ba7.out.alloc (.cells #[.int .i64 0, .bool false, .string th, .int .i64 eh] 23)))
      have Bl8 := hide ((Bl7.out.alloc (.cells #[.int .i64 0, .bool false, .string th, .int .i64 eh] 23)))
      have Bh8 := hide ((Bh7.out.alloc (.cells #[.int .i64 0, .bool false, .string th, .int .i64 eh] 23)))
      have Bx8 := hide ((Blk.newAt w7 (w7.heap.size) (rfl) #[.int .i64 0, .bool false, .string th, .int .i64 eh] 23))
      have HB8 : Hid (Below w.heap.size w (w7.alloc (.cells #[.int .i64 0, .bool false, .string th, .int .i64 eh] 23))) := (HB7.out.alloc HB7.out.size _)
      clear Ba7 Bl7 Bh7 HB7 ya0 ya1 ya2 ya3 yl0 yl1 yl2 yl3 yh0 yh1 yh2 yh3
      have ya0 : (w7.alloc (.cells #[.int .i64 0, .bool false, .string th, .int .i64 eh] 23)).cell? ⟨w.heap.size, 0, none⟩ = some (.int .i64 0) := Ba8.out.cell 0
      have ya1 : (w7.alloc (.cells #[.int .i64 0, .bool false, .string th, .int .i64 eh] 23)).cell? ⟨w.heap.size, 1, none⟩ = some (.bool false) := Ba8.out.cell 1
      have ya2 : (w7.alloc (.cells #[.int .i64 0, .bool false, .string th, .int .i64 eh] 23)).cell? ⟨w.heap.size, 2, none⟩ = some (.string tl) := Ba8.out.cell 2
      have ya3 : (w7.alloc (.cells #[.int .i64 0, .bool false, .string th, .int .i64 eh] 23)).cell? ⟨w.heap.size, 3, none⟩ = some (.int .i64 ea) := Ba8.out.cell 3
      have yl0 : (w7.alloc (.cells #[.int .i64 0, .bool false, .string th, .int .i64 eh] 23)).cell? ⟨w2.heap.size, 0, none⟩ = some (.int .i64 0) := Bl8.out.cell 0
      have yl1 : (w7.alloc (.cells #[.int .i64 0, .bool false, .string th, .int .i64 eh] 23)).cell? ⟨w2.heap.size, 1, none⟩ = some (.bool false) := Bl8.out.cell 1
      have yl2 : (w7.alloc (.cells #[.int .i64 0, .bool false, .string th, .int .i64 eh] 23)).cell? ⟨w2.heap.size, 2, none⟩ = some (.string tl) := Bl8.out.cell 2
      have yl3 : (w7.alloc (.cells #[.int .i64 0, .bool false, .string th, .int .i64 eh] 23)).cell? ⟨w2.heap.size, 3, none⟩ = some (.int .i64 el) := Bl8.out.cell 3
      have yh0 : (w7.alloc (.cells #[.int .i64 0, .bool false, .string th, .int .i64 eh] 23)).cell? ⟨w4.heap.size, 0, none⟩ = some (.int .i64 0) := Bh8.out.cell 0
      have yh1 : (w7.alloc (.cells #[.int .i64 0, .bool false, .string th, .int .i64 eh] 23)).cell? ⟨w4.heap.size, 1, none⟩ = some (.bool false) := Bh8.out.cell 1
      have yh2 : (w7.alloc (.cells #[.int .i64 0, .bool false, .string th, .int .i64 eh] 23)).cell? ⟨w4.heap.size, 2, none⟩ = some (.string th) := Bh8.out.cell 2
      have yh3 : (w7.alloc (.cells #[.int .i64 0, .bool false, .string th, .int .i64 eh] 23)).cell? ⟨w4.heap.size, 3, none⟩ = some (.int .i64 eh) := Bh8.out.cell 3
      have yx0 : (w7.alloc (.cells #[.int .i64 0, .bool false, .string th, .int .i64 eh] 23)).cell? ⟨w7.heap.size, 0, none⟩ = some (.int .i64 0) := Bx8.out.cell 0
      have yx1 : (w7.alloc (.cells #[.int .i64 0, .bool false, .string th, .int .i64 eh] 23)).cell? ⟨w7.heap.size, 1, none⟩ = some (.bool false) := Bx8.out.cell 1
      have yx2 : (w7.alloc (.cells #[.int .i64 0, .bool false, .string th, .int .i64 eh] 23)).cell? ⟨w7.heap.size, 2, none⟩ = some (.string th) := Bx8.out.cell 2
      have yx3 : (w7.alloc (.cells #[.int .i64 0, .bool false, .string th, .int .i64 eh] 23)).cell? ⟨w7.heap.size, 3, none⟩ = some (.int .i64 eh) := Bx8.out.cell 3
      go_wp2
      obtain ⟨W3, hW3⟩ : ∃ W3, W3 = (w7.alloc (.cells #[.int .i64 0, .bool false, .string th, .int .i64 eh] 23)) := ⟨_, rfl⟩
      rw [← hW3] at HB8 Ba8 Bl8 Bh8 Bx8 ya0 ya1 ya2 ya3 yl0 yl1 yl2 yl3 yh0 yh1 yh2 yh3 yx0 yx1 yx2 yx3
      have HW3 := hide hW3
      clear hW3
      have HL : Hid (w2.heap.size < W3.heap.size ∧ w4.heap.size < W3.heap.size) := ⟨Bl8.out.lt, Bh8.out.lt⟩
      simp only [← HW3.out]
      go_cut [12, 13] (fun vp vq wx => Cut2D W3 #[.int .i64 0, .bool false, .string tl, .int .i64 el] #[.int .i64 0, .bool false, .string th, .int .i64 eh] vp vq wx)
      case first =>
        have nl3 : ¬ w2.heap.size = W3.heap.size := (by have := HL.out; omega)
        have ml3 : ¬ W3.heap.size = w2.heap.size := (by have := HL.out; omega)
        have nh3 : ¬ w4.heap.size = W3.heap.size := (by have := HL.out; omega)
        have mh3 : ¬ W3.heap.size = w4.heap.size := (by have := HL.out; omega)
        go_region_held3 (fun w' => w'.cell? ⟨w2.heap.size, 0, none⟩ = some (.int .i64 0) ∧ w'.cell? ⟨w2.heap.size, 1, none⟩ = some (.bool false) ∧ w'.cell? ⟨w2.heap.size, 2, none⟩ = some (.string tl) ∧ w'.cell? ⟨w2.heap.size, 3, none⟩ = some (.int .i64 el) ∧ w'.cell? ⟨w4.heap.size, 0, none⟩ = some (.int .i64 0) ∧ w'.cell? ⟨w4.heap.size, 1, none⟩ = some (.bool false) ∧ w'.cell? ⟨w4.heap.size, 2, none⟩ = some (.string th) ∧ w'.cell? ⟨w4.heap.size, 3, none⟩ = some (.int .i64 eh)) (go_keep) (fail)
        all_goals (go_wp2_with fail; go_meet)
        all_goals (first | exact cut2_a | exact cut2_b)
      obtain ⟨⟨H, K, rfl, rfl, hq, hr, hH, hK, hHK, hbc⟩⟩ := hcut
      obtain ⟨w9, hwk⟩ : ∃ x, x = wc := ⟨_, rfl⟩
      subst hwk
      have Ba9 := hide (Ba8.out.below hbc Ba8.out.lt)
      have Bl9 := hide (Bl8.out.below hbc Bl8.out.lt)
      have Bh9 := hide (Bh8.out.below hbc Bh8.out.lt)
      have Bx9 := hide (Bx8.out.below hbc Bx8.out.lt)
      have Bn9 := hide hq
      have Bf9 := hide hr
      have HB9 := hide (HB8.out.trans (hbc.mono HB8.out.size))
      have HBT := hide (HBS.out.trans ((HW3.out ▸ ((Below.refl _ _).alloc (Nat.le_refl _) _ : Below _ _ _) : Below w7.heap.size w7 W3).trans (hbc.mono (by rw [HW3.out]; simp)) |>.mono HBS.out.size))
      have hhk : ¬ K = H := fun g => hHK g.symm
      have HHK := hide (show w.heap.size ≤ H ∧ w.heap.size ≤ K from ⟨Nat.le_trans HB8.out.size hH, Nat.le_trans HB8.out.size hK⟩)
      clear HL HBS hq hr hH hK hbc HW3 Ba8 Bl8 Bh8 Bx8 HB8 ya0 ya1 ya2 ya3 yl0 yl1 yl2 yl3 yh0 yh1 yh2 yh3 yx0 yx1 yx2 yx3
      have ya0 : w9.cell? ⟨w.heap.size, 0, none⟩ = some (.int .i64 0) := Ba9.out.cell 0
      have ya1 : w9.cell? ⟨w.heap.size, 1, none⟩ = some (.bool false) := Ba9.out.cell 1
      have ya2 : w9.cell? ⟨w.heap.size, 2, none⟩ = some (.string tl) := Ba9.out.cell 2
      have ya3 : w9.cell? ⟨w.heap.size, 3, none⟩ = some (.int .i64 ea) := Ba9.out.cell 3
      have yl0 : w9.cell? ⟨w2.heap.size, 0, none⟩ = some (.int .i64 0) := Bl9.out.cell 0
      have yl1 : w9.cell? ⟨w2.heap.size, 1, none⟩ = some (.bool false) := Bl9.out.cell 1
      have yl2 : w9.cell? ⟨w2.heap.size, 2, none⟩ = some (.string tl) := Bl9.out.cell 2
      have yl3 : w9.cell? ⟨w2.heap.size, 3, none⟩ = some (.int .i64 el) := Bl9.out.cell 3
      have yh0 : w9.cell? ⟨w4.heap.size, 0, none⟩ = some (.int .i64 0) := Bh9.out.cell 0
      have yh1 : w9.cell? ⟨w4.heap.size, 1, none⟩ = some (.bool false) := Bh9.out.cell 1
      have yh2 : w9.cell? ⟨w4.heap.size, 2, none⟩ = some (.string th) := Bh9.out.cell 2
      have yh3 : w9.cell? ⟨w4.heap.size, 3, none⟩ = some (.int .i64 eh) := Bh9.out.cell 3
      have yx0 : w9.cell? ⟨w7.heap.size, 0, none⟩ = some (.int .i64 0) := Bx9.out.cell 0
      have yx1 : w9.cell? ⟨w7.heap.size, 1, none⟩ = some (.bool false) := Bx9.out.cell 1
      have yx2 : w9.cell? ⟨w7.heap.size, 2, none⟩ = some (.string th) := Bx9.out.cell 2
      have yx3 : w9.cell? ⟨w7.heap.size, 3, none⟩ = some (.int .i64 eh) := Bx9.out.cell 3
      have yn0 : w9.cell? ⟨H, 0, none⟩ = some (.int .i64 0) := Bn9.out.cell 0
      have yn1 : w9.cell? ⟨H, 1, none⟩ = some (.bool false) := Bn9.out.cell 1
      have yn2 : w9.cell? ⟨H, 2, none⟩ = some (.string tl) := Bn9.out.cell 2
      have yn3 : w9.cell? ⟨H, 3, none⟩ = some (.int .i64 el) := Bn9.out.cell 3
      have yf0 : w9.cell? ⟨K, 0, none⟩ = some (.int .i64 0) := Bf9.out.cell 0
      have yf1 : w9.cell? ⟨K, 1, none⟩ = some (.bool false) := Bf9.out.cell 1
      have yf2 : w9.cell? ⟨K, 2, none⟩ = some (.string th) := Bf9.out.cell 2
      have yf3 : w9.cell? ⟨K, 3, none⟩ = some (.int .i64 eh) := Bf9.out.cell 3
      go_wp2
      go_roundw
      case rel => exact ⟨3 + 1, by first | omega | (have := HK.out; omega), by go_num, HBT.out⟩
      case measure => first | (simp [intOf]; done) | (simp [intOf]; omega) | (have := HK.out; simp [intOf]; omega)
    have hk4 : 4 ≤ k := by omega
    clear j0 j1 j2 j3
    rcases H4.out k hk4 (by omega) with hm | hm
    · have HM := hide hm
      clear hm H0 H1 H2 H3 H4 H5
      have k2 : ((k : Int) == 2) = false := beq_false_of_ne (by omega)
      have k3 : ((k : Int) == 3) = false := beq_false_of_ne (by omega)
      have k8 : (k : Int) < 8 := by omega
      have HK := hide (show k < 8 by omega)
      clear hk hk8 hk4
      go_wp2_with fail
      refine (HM.out _ (HT.out.below HB6.out)).mono ?_
      rintro e w7 ⟨rfl, hb⟩
      have HBS := hide (HBR.out.trans (hb.mono HBR.out.size))
      clear HBR
      have Ba7 := hide (Ba6.out.below hb Ba6.out.lt)
      have Bl7 := hide (Bl6.out.below hb Bl6.out.lt)
      have Bh7 := hide (Bh6.out.below hb Bh6.out.lt)
      have HB7 := hide (HB6.out.trans (hb.mono HB6.out.size))
      clear hb Ba6 Bl6 Bh6 HB6 ya0 ya1 ya2 ya3 yl0 yl1 yl2 yl3 yh0 yh1 yh2 yh3
      have ya0 : w7.cell? ⟨w.heap.size, 0, none⟩ = some (.int .i64 0) := Ba7.out.cell 0
      have ya1 : w7.cell? ⟨w.heap.size, 1, none⟩ = some (.bool false) := Ba7.out.cell 1
      have ya2 : w7.cell? ⟨w.heap.size, 2, none⟩ = some (.string tl) := Ba7.out.cell 2
      have ya3 : w7.cell? ⟨w.heap.size, 3, none⟩ = some (.int .i64 ea) := Ba7.out.cell 3
      have yl0 : w7.cell? ⟨w2.heap.size, 0, none⟩ = some (.int .i64 0) := Bl7.out.cell 0
      have yl1 : w7.cell? ⟨w2.heap.size, 1, none⟩ = some (.bool false) := Bl7.out.cell 1
      have yl2 : w7.cell? ⟨w2.heap.size, 2, none⟩ = some (.string tl) := Bl7.out.cell 2
      have yl3 : w7.cell? ⟨w2.heap.size, 3, none⟩ = some (.int .i64 el) := Bl7.out.cell 3
      have yh0 : w7.cell? ⟨w4.heap.size, 0, none⟩ = some (.int .i64 0) := Bh7.out.cell 0
      have yh1 : w7.cell? ⟨w4.heap.size, 1, none⟩ = some (.bool false) := Bh7.out.cell 1
      have yh2 : w7.cell? ⟨w4.heap.size, 2, none⟩ = some (.string th) := Bh7.out.cell 2
      have yh3 : w7.cell? ⟨w4.heap.size, 3, none⟩ = some (.int .i64 eh) := Bh7.out.cell 3
      have Ba8 := hide ((Ba7.out.alloc (.cells #[.int .i64 0, .bool false, .string tl, .int .i64 el] 23)))
      have Bl8 := hide ((Bl7.out.alloc (.cells #[.int .i64 0, .bool false, .string tl, .int .i64 el] 23)))
      have Bh8 := hide ((Bh7.out.alloc (.cells #[.int .i64 0, .bool false, .string tl, .int .i64 el] 23)))
      have Bx8 := hide ((Blk.newAt w7 (w7.heap.size) (rfl) #[.int .i64 0, .bool false, .string tl, .int .i64 el] 23))
      have HB8 : Hid (Below w.heap.size w (w7.alloc (.cells #[.int .i64 0, .bool false, .string tl, .int .i64 el] 23))) := (HB7.out.alloc HB7.out.size _)
      clear Ba7 Bl7 Bh7 HB7 ya0 ya1 ya2 ya3 yl0 yl1 yl2 yl3 yh0 yh1 yh2 yh3
      have ya0 : (w7.alloc (.cells #[.int .i64 0, .bool false, .string tl, .int .i64 el] 23)).cell? ⟨w.heap.size, 0, none⟩ = some (.int .i64 0) := Ba8.out.cell 0
      have ya1 : (w7.alloc (.cells #[.int .i64 0, .bool false, .string tl, .int .i64 el] 23)).cell? ⟨w.heap.size, 1, none⟩ = some (.bool false) := Ba8.out.cell 1
      have ya2 : (w7.alloc (.cells #[.int .i64 0, .bool false, .string tl, .int .i64 el] 23)).cell? ⟨w.heap.size, 2, none⟩ = some (.string tl) := Ba8.out.cell 2
      have ya3 : (w7.alloc (.cells #[.int .i64 0, .bool false, .string tl, .int .i64 el] 23)).cell? ⟨w.heap.size, 3, none⟩ = some (.int .i64 ea) := Ba8.out.cell 3
      have yl0 : (w7.alloc (.cells #[.int .i64 0, .bool false, .string tl, .int .i64 el] 23)).cell? ⟨w2.heap.size, 0, none⟩ = some (.int .i64 0) := Bl8.out.cell 0
      have yl1 : (w7.alloc (.cells #[.int .i64 0, .bool false, .string tl, .int .i64 el] 23)).cell? ⟨w2.heap.size, 1, none⟩ = some (.bool false) := Bl8.out.cell 1
      have yl2 : (w7.alloc (.cells #[.int .i64 0, .bool false, .string tl, .int .i64 el] 23)).cell? ⟨w2.heap.size, 2, none⟩ = some (.string tl) := Bl8.out.cell 2
      have yl3 : (w7.alloc (.cells #[.int .i64 0, .bool false, .string tl, .int .i64 el] 23)).cell? ⟨w2.heap.size, 3, none⟩ = some (.int .i64 el) := Bl8.out.cell 3
      have yh0 : (w7.alloc (.cells #[.int .i64 0, .bool false, .string tl, .int .i64 el] 23)).cell? ⟨w4.heap.size, 0, none⟩ = some (.int .i64 0) := Bh8.out.cell 0
      have yh1 : (w7.alloc (.cells #[.int .i64 0, .bool false, .string tl, .int .i64 el] 23)).cell? ⟨w4.heap.size, 1, none⟩ = some (.bool false) := Bh8.out.cell 1
      have yh2 : (w7.alloc (.cells #[.int .i64 0, .bool false, .string tl, .int .i64 el] 23)).cell? ⟨w4.heap.size, 2, none⟩ = some (.string th) := Bh8.out.cell 2
      have yh3 : (w7.alloc (.cells #[.int .i64 0, .bool false, .string tl, .int .i64 el] 23)).cell? ⟨w4.heap.size, 3, none⟩ = some (.int .i64 eh) := Bh8.out.cell 3
      have yx0 : (w7.alloc (.cells #[.int .i64 0, .bool false, .string tl, .int .i64 el] 23)).cell? ⟨w7.heap.size, 0, none⟩ = some (.int .i64 0) := Bx8.out.cell 0
      have yx1 : (w7.alloc (.cells #[.int .i64 0, .bool false, .string tl, .int .i64 el] 23)).cell? ⟨w7.heap.size, 1, none⟩ = some (.bool false) := Bx8.out.cell 1
      have yx2 : (w7.alloc (.cells #[.int .i64 0, .bool false, .string tl, .int .i64 el] 23)).cell? ⟨w7.heap.size, 2, none⟩ = some (.string tl) := Bx8.out.cell 2
      have yx3 : (w7.alloc (.cells #[.int .i64 0, .bool false, .string tl, .int .i64 el] 23)).cell? ⟨w7.heap.size, 3, none⟩ = some (.int .i64 el) := Bx8.out.cell 3
      go_wp2
      obtain ⟨W3, hW3⟩ : ∃ W3, W3 = (w7.alloc (.cells #[.int .i64 0, .bool false, .string tl, .int .i64 el] 23)) := ⟨_, rfl⟩
      rw [← hW3] at HB8 Ba8 Bl8 Bh8 Bx8 ya0 ya1 ya2 ya3 yl0 yl1 yl2 yl3 yh0 yh1 yh2 yh3 yx0 yx1 yx2 yx3
      have HW3 := hide hW3
      clear hW3
      have HL : Hid (w2.heap.size < W3.heap.size ∧ w4.heap.size < W3.heap.size) := ⟨Bl8.out.lt, Bh8.out.lt⟩
      simp only [← HW3.out]
      go_cut [12, 13] (fun vp vq wx => Cut2D W3 #[.int .i64 0, .bool false, .string tl, .int .i64 el] #[.int .i64 0, .bool false, .string th, .int .i64 eh] vp vq wx)
      case first =>
        have nl3 : ¬ w2.heap.size = W3.heap.size := (by have := HL.out; omega)
        have ml3 : ¬ W3.heap.size = w2.heap.size := (by have := HL.out; omega)
        have nh3 : ¬ w4.heap.size = W3.heap.size := (by have := HL.out; omega)
        have mh3 : ¬ W3.heap.size = w4.heap.size := (by have := HL.out; omega)
        go_region_held3 (fun w' => w'.cell? ⟨w2.heap.size, 0, none⟩ = some (.int .i64 0) ∧ w'.cell? ⟨w2.heap.size, 1, none⟩ = some (.bool false) ∧ w'.cell? ⟨w2.heap.size, 2, none⟩ = some (.string tl) ∧ w'.cell? ⟨w2.heap.size, 3, none⟩ = some (.int .i64 el) ∧ w'.cell? ⟨w4.heap.size, 0, none⟩ = some (.int .i64 0) ∧ w'.cell? ⟨w4.heap.size, 1, none⟩ = some (.bool false) ∧ w'.cell? ⟨w4.heap.size, 2, none⟩ = some (.string th) ∧ w'.cell? ⟨w4.heap.size, 3, none⟩ = some (.int .i64 eh)) (go_keep) (fail)
        all_goals (go_wp2_with fail; go_meet)
        all_goals (first | exact cut2_a | exact cut2_b)
      obtain ⟨⟨H, K, rfl, rfl, hq, hr, hH, hK, hHK, hbc⟩⟩ := hcut
      obtain ⟨w9, hwk⟩ : ∃ x, x = wc := ⟨_, rfl⟩
      subst hwk
      have Ba9 := hide (Ba8.out.below hbc Ba8.out.lt)
      have Bl9 := hide (Bl8.out.below hbc Bl8.out.lt)
      have Bh9 := hide (Bh8.out.below hbc Bh8.out.lt)
      have Bx9 := hide (Bx8.out.below hbc Bx8.out.lt)
      have Bn9 := hide hq
      have Bf9 := hide hr
      have HB9 := hide (HB8.out.trans (hbc.mono HB8.out.size))
      have HBT := hide (HBS.out.trans ((HW3.out ▸ ((Below.refl _ _).alloc (Nat.le_refl _) _ : Below _ _ _) : Below w7.heap.size w7 W3).trans (hbc.mono (by rw [HW3.out]; simp)) |>.mono HBS.out.size))
      have hhk : ¬ K = H := fun g => hHK g.symm
      have HHK := hide (show w.heap.size ≤ H ∧ w.heap.size ≤ K from ⟨Nat.le_trans HB8.out.size hH, Nat.le_trans HB8.out.size hK⟩)
      clear HL HBS hq hr hH hK hbc HW3 Ba8 Bl8 Bh8 Bx8 HB8 ya0 ya1 ya2 ya3 yl0 yl1 yl2 yl3 yh0 yh1 yh2 yh3 yx0 yx1 yx2 yx3
      have ya0 : w9.cell? ⟨w.heap.size, 0, none⟩ = some (.int .i64 0) := Ba9.out.cell 0
      have ya1 : w9.cell? ⟨w.heap.size, 1, none⟩ = some (.bool false) := Ba9.out.cell 1
      have ya2 : w9.cell? ⟨w.heap.size, 2, none⟩ = some (.string tl) := Ba9.out.cell 2
      have ya3 : w9.cell? ⟨w.heap.size, 3, none⟩ = some (.int .i64 ea) := Ba9.out.cell 3
      have yl0 : w9.cell? ⟨w2.heap.size, 0, none⟩ = some (.int .i64 0) := Bl9.out.cell 0
      have yl1 : w9.cell? ⟨w2.heap.size, 1, none⟩ = some (.bool false) := Bl9.out.cell 1
      have yl2 : w9.cell? ⟨w2.heap.size, 2, none⟩ = some (.string tl) := Bl9.out.cell 2
      have yl3 : w9.cell? ⟨w2.heap.size, 3, none⟩ = some (.int .i64 el) := Bl9.out.cell 3
      have yh0 : w9.cell? ⟨w4.heap.size, 0, none⟩ = some (.int .i64 0) := Bh9.out.cell 0
      have yh1 : w9.cell? ⟨w4.heap.size, 1, none⟩ = some (.bool false) := Bh9.out.cell 1
      have yh2 : w9.cell? ⟨w4.heap.size, 2, none⟩ = some (.string th) := Bh9.out.cell 2
      have yh3 : w9.cell? ⟨w4.heap.size, 3, none⟩ = some (.int .i64 eh) := Bh9.out.cell 3
      have yx0 : w9.cell? ⟨w7.heap.size, 0, none⟩ = some (.int .i64 0) := Bx9.out.cell 0
      have yx1 : w9.cell? ⟨w7.heap.size, 1, none⟩ = some (.bool false) := Bx9.out.cell 1
      have yx2 : w9.cell? ⟨w7.heap.size, 2, none⟩ = some (.string tl) := Bx9.out.cell 2
      have yx3 : w9.cell? ⟨w7.heap.size, 3, none⟩ = some (.int .i64 el) := Bx9.out.cell 3
      have yn0 : w9.cell? ⟨H, 0, none⟩ = some (.int .i64 0) := Bn9.out.cell 0
      have yn1 : w9.cell? ⟨H, 1, none⟩ = some (.bool false) := Bn9.out.cell 1
      have yn2 : w9.cell? ⟨H, 2, none⟩ = some (.string tl) := Bn9.out.cell 2
      have yn3 : w9.cell? ⟨H, 3, none⟩ = some (.int .i64 el) := Bn9.out.cell 3
      have yf0 : w9.cell? ⟨K, 0, none⟩ = some (.int .i64 0) := Bf9.out.cell 0
      have yf1 : w9.cell? ⟨K, 1, none⟩ = some (.bool false) := Bf9.out.cell 1
      have yf2 : w9.cell? ⟨K, 2, none⟩ = some (.string th) := Bf9.out.cell 2
      have yf3 : w9.cell? ⟨K, 3, none⟩ = some (.int .i64 eh) := Bf9.out.cell 3
      go_wp2
      go_roundw
      case rel => exact ⟨k + 1, by first | omega | (have := HK.out; omega), by go_num, HBT.out⟩
      case measure => first | (simp [intOf]; done) | (simp [intOf]; omega) | (have := HK.out; simp [intOf]; omega)
    · have HM := hide hm
      clear hm H0 H1 H2 H3 H4 H5
      have k2 : ((k : Int) == 2) = false := beq_false_of_ne (by omega)
      have k3 : ((k : Int) == 3) = false := beq_false_of_ne (by omega)
      have k8 : (k : Int) < 8 := by omega
      have HK := hide (show k < 8 by omega)
      clear hk hk8 hk4
      go_wp2_with fail
      refine (HM.out _ (HT.out.below HB6.out)).mono ?_
      rintro e w7 ⟨rfl, hb⟩
      have HBS := hide (HBR.out.trans (hb.mono HBR.out.size))
      clear HBR
      have Ba7 := hide (Ba6.out.below hb Ba6.out.lt)
      have Bl7 := hide (Bl6.out.below hb Bl6.out.lt)
      have Bh7 := hide (Bh6.out.below hb Bh6.out.lt)
      have HB7 := hide (HB6.out.trans (hb.mono HB6.out.size))
      clear hb Ba6 Bl6 Bh6 HB6 ya0 ya1 ya2 ya3 yl0 yl1 yl2 yl3 yh0 yh1 yh2 yh3
      have ya0 : w7.cell? ⟨w.heap.size, 0, none⟩ = some (.int .i64 0) := Ba7.out.cell 0
      have ya1 : w7.cell? ⟨w.heap.size, 1, none⟩ = some (.bool false) := Ba7.out.cell 1
      have ya2 : w7.cell? ⟨w.heap.size, 2, none⟩ = some (.string tl) := Ba7.out.cell 2
      have ya3 : w7.cell? ⟨w.heap.size, 3, none⟩ = some (.int .i64 ea) := Ba7.out.cell 3
      have yl0 : w7.cell? ⟨w2.heap.size, 0, none⟩ = some (.int .i64 0) := Bl7.out.cell 0
      have yl1 : w7.cell? ⟨w2.heap.size, 1, none⟩ = some (.bool false) := Bl7.out.cell 1
      have yl2 : w7.cell? ⟨w2.heap.size, 2, none⟩ = some (.string tl) := Bl7.out.cell 2
      have yl3 : w7.cell? ⟨w2.heap.size, 3, none⟩ = some (.int .i64 el) := Bl7.out.cell 3
      have yh0 : w7.cell? ⟨w4.heap.size, 0, none⟩ = some (.int .i64 0) := Bh7.out.cell 0
      have yh1 : w7.cell? ⟨w4.heap.size, 1, none⟩ = some (.bool false) := Bh7.out.cell 1
      have yh2 : w7.cell? ⟨w4.heap.size, 2, none⟩ = some (.string th) := Bh7.out.cell 2
      have yh3 : w7.cell? ⟨w4.heap.size, 3, none⟩ = some (.int .i64 eh) := Bh7.out.cell 3
      have Ba8 := hide ((Ba7.out.alloc (.cells #[.int .i64 0, .bool false, .string th, .int .i64 eh] 23)))
      have Bl8 := hide ((Bl7.out.alloc (.cells #[.int .i64 0, .bool false, .string th, .int .i64 eh] 23)))
      have Bh8 := hide ((Bh7.out.alloc (.cells #[.int .i64 0, .bool false, .string th, .int .i64 eh] 23)))
      have Bx8 := hide ((Blk.newAt w7 (w7.heap.size) (rfl) #[.int .i64 0, .bool false, .string th, .int .i64 eh] 23))
      have HB8 : Hid (Below w.heap.size w (w7.alloc (.cells #[.int .i64 0, .bool false, .string th, .int .i64 eh] 23))) := (HB7.out.alloc HB7.out.size _)
      clear Ba7 Bl7 Bh7 HB7 ya0 ya1 ya2 ya3 yl0 yl1 yl2 yl3 yh0 yh1 yh2 yh3
      have ya0 : (w7.alloc (.cells #[.int .i64 0, .bool false, .string th, .int .i64 eh] 23)).cell? ⟨w.heap.size, 0, none⟩ = some (.int .i64 0) := Ba8.out.cell 0
      have ya1 : (w7.alloc (.cells #[.int .i64 0, .bool false, .string th, .int .i64 eh] 23)).cell? ⟨w.heap.size, 1, none⟩ = some (.bool false) := Ba8.out.cell 1
      have ya2 : (w7.alloc (.cells #[.int .i64 0, .bool false, .string th, .int .i64 eh] 23)).cell? ⟨w.heap.size, 2, none⟩ = some (.string tl) := Ba8.out.cell 2
      have ya3 : (w7.alloc (.cells #[.int .i64 0, .bool false, .string th, .int .i64 eh] 23)).cell? ⟨w.heap.size, 3, none⟩ = some (.int .i64 ea) := Ba8.out.cell 3
      have yl0 : (w7.alloc (.cells #[.int .i64 0, .bool false, .string th, .int .i64 eh] 23)).cell? ⟨w2.heap.size, 0, none⟩ = some (.int .i64 0) := Bl8.out.cell 0
      have yl1 : (w7.alloc (.cells #[.int .i64 0, .bool false, .string th, .int .i64 eh] 23)).cell? ⟨w2.heap.size, 1, none⟩ = some (.bool false) := Bl8.out.cell 1
      have yl2 : (w7.alloc (.cells #[.int .i64 0, .bool false, .string th, .int .i64 eh] 23)).cell? ⟨w2.heap.size, 2, none⟩ = some (.string tl) := Bl8.out.cell 2
      have yl3 : (w7.alloc (.cells #[.int .i64 0, .bool false, .string th, .int .i64 eh] 23)).cell? ⟨w2.heap.size, 3, none⟩ = some (.int .i64 el) := Bl8.out.cell 3
      have yh0 : (w7.alloc (.cells #[.int .i64 0, .bool false, .string th, .int .i64 eh] 23)).cell? ⟨w4.heap.size, 0, none⟩ = some (.int .i64 0) := Bh8.out.cell 0
      have yh1 : (w7.alloc (.cells #[.int .i64 0, .bool false, .string th, .int .i64 eh] 23)).cell? ⟨w4.heap.size, 1, none⟩ = some (.bool false) := Bh8.out.cell 1
      have yh2 : (w7.alloc (.cells #[.int .i64 0, .bool false, .string th, .int .i64 eh] 23)).cell? ⟨w4.heap.size, 2, none⟩ = some (.string th) := Bh8.out.cell 2
      have yh3 : (w7.alloc (.cells #[.int .i64 0, .bool false, .string th, .int .i64 eh] 23)).cell? ⟨w4.heap.size, 3, none⟩ = some (.int .i64 eh) := Bh8.out.cell 3
      have yx0 : (w7.alloc (.cells #[.int .i64 0, .bool false, .string th, .int .i64 eh] 23)).cell? ⟨w7.heap.size, 0, none⟩ = some (.int .i64 0) := Bx8.out.cell 0
      have yx1 : (w7.alloc (.cells #[.int .i64 0, .bool false, .string th, .int .i64 eh] 23)).cell? ⟨w7.heap.size, 1, none⟩ = some (.bool false) := Bx8.out.cell 1
      have yx2 : (w7.alloc (.cells #[.int .i64 0, .bool false, .string th, .int .i64 eh] 23)).cell? ⟨w7.heap.size, 2, none⟩ = some (.string th) := Bx8.out.cell 2
      have yx3 : (w7.alloc (.cells #[.int .i64 0, .bool false, .string th, .int .i64 eh] 23)).cell? ⟨w7.heap.size, 3, none⟩ = some (.int .i64 eh) := Bx8.out.cell 3
      go_wp2
      obtain ⟨W3, hW3⟩ : ∃ W3, W3 = (w7.alloc (.cells #[.int .i64 0, .bool false, .string th, .int .i64 eh] 23)) := ⟨_, rfl⟩
      rw [← hW3] at HB8 Ba8 Bl8 Bh8 Bx8 ya0 ya1 ya2 ya3 yl0 yl1 yl2 yl3 yh0 yh1 yh2 yh3 yx0 yx1 yx2 yx3
      have HW3 := hide hW3
      clear hW3
      have HL : Hid (w2.heap.size < W3.heap.size ∧ w4.heap.size < W3.heap.size) := ⟨Bl8.out.lt, Bh8.out.lt⟩
      simp only [← HW3.out]
      go_cut [12, 13] (fun vp vq wx => Cut2D W3 #[.int .i64 0, .bool false, .string tl, .int .i64 el] #[.int .i64 0, .bool false, .string th, .int .i64 eh] vp vq wx)
      case first =>
        have nl3 : ¬ w2.heap.size = W3.heap.size := (by have := HL.out; omega)
        have ml3 : ¬ W3.heap.size = w2.heap.size := (by have := HL.out; omega)
        have nh3 : ¬ w4.heap.size = W3.heap.size := (by have := HL.out; omega)
        have mh3 : ¬ W3.heap.size = w4.heap.size := (by have := HL.out; omega)
        go_region_held3 (fun w' => w'.cell? ⟨w2.heap.size, 0, none⟩ = some (.int .i64 0) ∧ w'.cell? ⟨w2.heap.size, 1, none⟩ = some (.bool false) ∧ w'.cell? ⟨w2.heap.size, 2, none⟩ = some (.string tl) ∧ w'.cell? ⟨w2.heap.size, 3, none⟩ = some (.int .i64 el) ∧ w'.cell? ⟨w4.heap.size, 0, none⟩ = some (.int .i64 0) ∧ w'.cell? ⟨w4.heap.size, 1, none⟩ = some (.bool false) ∧ w'.cell? ⟨w4.heap.size, 2, none⟩ = some (.string th) ∧ w'.cell? ⟨w4.heap.size, 3, none⟩ = some (.int .i64 eh)) (go_keep) (fail)
        all_goals (go_wp2_with fail; go_meet)
        all_goals (first | exact cut2_a | exact cut2_b)
      obtain ⟨⟨H, K, rfl, rfl, hq, hr, hH, hK, hHK, hbc⟩⟩ := hcut
      obtain ⟨w9, hwk⟩ : ∃ x, x = wc := ⟨_, rfl⟩
      subst hwk
      have Ba9 := hide (Ba8.out.below hbc Ba8.out.lt)
      have Bl9 := hide (Bl8.out.below hbc Bl8.out.lt)
      have Bh9 := hide (Bh8.out.below hbc Bh8.out.lt)
      have Bx9 := hide (Bx8.out.below hbc Bx8.out.lt)
      have Bn9 := hide hq
      have Bf9 := hide hr
      have HB9 := hide (HB8.out.trans (hbc.mono HB8.out.size))
      have HBT := hide (HBS.out.trans ((HW3.out ▸ ((Below.refl _ _).alloc (Nat.le_refl _) _ : Below _ _ _) : Below w7.heap.size w7 W3).trans (hbc.mono (by rw [HW3.out]; simp)) |>.mono HBS.out.size))
      have hhk : ¬ K = H := fun g => hHK g.symm
      have HHK := hide (show w.heap.size ≤ H ∧ w.heap.size ≤ K from ⟨Nat.le_trans HB8.out.size hH, Nat.le_trans HB8.out.size hK⟩)
      clear HL HBS hq hr hH hK hbc HW3 Ba8 Bl8 Bh8 Bx8 HB8 ya0 ya1 ya2 ya3 yl0 yl1 yl2 yl3 yh0 yh1 yh2 yh3 yx0 yx1 yx2 yx3
      have ya0 : w9.cell? ⟨w.heap.size, 0, none⟩ = some (.int .i64 0) := Ba9.out.cell 0
      have ya1 : w9.cell? ⟨w.heap.size, 1, none⟩ = some (.bool false) := Ba9.out.cell 1
      have ya2 : w9.cell? ⟨w.heap.size, 2, none⟩ = some (.string tl) := Ba9.out.cell 2
      have ya3 : w9.cell? ⟨w.heap.size, 3, none⟩ = some (.int .i64 ea) := Ba9.out.cell 3
      have yl0 : w9.cell? ⟨w2.heap.size, 0, none⟩ = some (.int .i64 0) := Bl9.out.cell 0
      have yl1 : w9.cell? ⟨w2.heap.size, 1, none⟩ = some (.bool false) := Bl9.out.cell 1
      have yl2 : w9.cell? ⟨w2.heap.size, 2, none⟩ = some (.string tl) := Bl9.out.cell 2
      have yl3 : w9.cell? ⟨w2.heap.size, 3, none⟩ = some (.int .i64 el) := Bl9.out.cell 3
      have yh0 : w9.cell? ⟨w4.heap.size, 0, none⟩ = some (.int .i64 0) := Bh9.out.cell 0
      have yh1 : w9.cell? ⟨w4.heap.size, 1, none⟩ = some (.bool false) := Bh9.out.cell 1
      have yh2 : w9.cell? ⟨w4.heap.size, 2, none⟩ = some (.string th) := Bh9.out.cell 2
      have yh3 : w9.cell? ⟨w4.heap.size, 3, none⟩ = some (.int .i64 eh) := Bh9.out.cell 3
      have yx0 : w9.cell? ⟨w7.heap.size, 0, none⟩ = some (.int .i64 0) := Bx9.out.cell 0
      have yx1 : w9.cell? ⟨w7.heap.size, 1, none⟩ = some (.bool false) := Bx9.out.cell 1
      have yx2 : w9.cell? ⟨w7.heap.size, 2, none⟩ = some (.string th) := Bx9.out.cell 2
      have yx3 : w9.cell? ⟨w7.heap.size, 3, none⟩ = some (.int .i64 eh) := Bx9.out.cell 3
      have yn0 : w9.cell? ⟨H, 0, none⟩ = some (.int .i64 0) := Bn9.out.cell 0
      have yn1 : w9.cell? ⟨H, 1, none⟩ = some (.bool false) := Bn9.out.cell 1
      have yn2 : w9.cell? ⟨H, 2, none⟩ = some (.string tl) := Bn9.out.cell 2
      have yn3 : w9.cell? ⟨H, 3, none⟩ = some (.int .i64 el) := Bn9.out.cell 3
      have yf0 : w9.cell? ⟨K, 0, none⟩ = some (.int .i64 0) := Bf9.out.cell 0
      have yf1 : w9.cell? ⟨K, 1, none⟩ = some (.bool false) := Bf9.out.cell 1
      have yf2 : w9.cell? ⟨K, 2, none⟩ = some (.string th) := Bf9.out.cell 2
      have yf3 : w9.cell? ⟨K, 3, none⟩ = some (.int .i64 eh) := Bf9.out.cell 3
      go_wp2
      go_roundw
      case rel => exact ⟨k + 1, by first | omega | (have := HK.out; omega), by go_num, HBT.out⟩
      case measure => first | (simp [intOf]; done) | (simp [intOf]; omega) | (have := HK.out; simp [intOf]; omega)


set_option maxRecDepth 100000 in
set_option maxHeartbeats 8000000 in
theorem order_fed (tl : ByteArray) (el : Int) (eh : Int) (ta : ByteArray) (ea : Int) (p : Int) (w : World) (htab : Tab w) (q1 : (el == eh) = false) (q2 : (eh == el) = false) (q3 : (tl.toList == ta.toList) = false) (g0 : ∀ W, Tab W → Calls Tryz.prog 11 #[.agg #[.int .i64 0, .bool false, .string ta, .int .i64 ea], .int .i64 p, .int .i64 0] W fun e w' => e = .returned (.tuple #[.agg #[.int .i64 0, .bool false, .string tl, .int .i64 eh], .int .i64 0]) ∧ Below W.heap.size W w') (g1 : ∀ W, Tab W → Calls Tryz.prog 11 #[.agg #[.int .i64 0, .bool false, .string ta, .int .i64 ea], .int .i64 p, .int .i64 1] W fun e w' => e = .returned (.tuple #[.agg #[.int .i64 0, .bool false, .string tl, .int .i64 el], .int .i64 0]) ∧ Below W.heap.size W w') (g2 : ∀ W, Tab W → Calls Tryz.prog 11 #[.agg #[.int .i64 0, .bool false, .string ta, .int .i64 ea], .int .i64 p, .int .i64 2] W fun e w' => e = .returned (.tuple #[.agg #[.int .i64 0, .bool false, .string tl, .int .i64 el], .int .i64 0]) ∧ Below W.heap.size W w') (g3 : ∀ W, Tab W → Calls Tryz.prog 11 #[.agg #[.int .i64 0, .bool false, .string ta, .int .i64 ea], .int .i64 p, .int .i64 3] W fun e w' => e = .returned (.tuple #[.agg #[.int .i64 0, .bool false, .string tl, .int .i64 eh], .int .i64 0]) ∧ Below W.heap.size W w') (g4 : ∀ k : Nat, 4 ≤ k → k < 8 → (∀ W, Tab W → Calls Tryz.prog 11 #[.agg #[.int .i64 0, .bool false, .string ta, .int .i64 ea], .int .i64 p, .int .i64 (k : Int)] W fun e w' => e = .returned (.tuple #[.agg #[.int .i64 0, .bool false, .string tl, .int .i64 el], .int .i64 0]) ∧ Below W.heap.size W w') ∨ (∀ W, Tab W → Calls Tryz.prog 11 #[.agg #[.int .i64 0, .bool false, .string ta, .int .i64 ea], .int .i64 p, .int .i64 (k : Int)] W fun e w' => e = .returned (.tuple #[.agg #[.int .i64 0, .bool false, .string tl, .int .i64 eh], .int .i64 0]) ∧ Below W.heap.size W w')) (g5 : ∀ W, Calls Tryz.prog 20 #[.agg #[.int .i64 0, .bool false, .string tl, .int .i64 eh], .agg #[.int .i64 0, .bool false, .string tl, .int .i64 el]] W fun e w' => e = .returned (.bool false) ∧ Below W.heap.size W w') : Calls Tryz.prog 10 #[.agg #[.int .i64 0, .bool false, .string ta, .int .i64 ea], .int .i64 p] w fun e w' => e = .returned (.bool true) ∧ Below w.heap.size w w' := by
  have H0 := hide g0
  have H1 := hide g1
  have H2 := hide g2
  have H3 := hide g3
  have H4 := hide g4
  have H5 := hide g5
  have HT := hide htab
  clear htab g0 g1 g2 g3 g4 g5
  have Ba0 := hide (Blk.newAt w (w.heap.size) (rfl) #[.int .i64 0, .bool false, .string ta, .int .i64 ea] 23)
  have HB0 : Hid (Below w.heap.size w (w.alloc (.cells #[.int .i64 0, .bool false, .string ta, .int .i64 ea] 23))) := ((Below.refl _ _).alloc (Nat.le_refl _) _)
  go_enter Tryz.func10, Tryz.ntmps10
  go_wp2_with fail
  refine (rawake_any _ (HT.out.below HB0.out)).mono ?_
  rintro e w1 ⟨rfl, hb⟩
  have Ba1 := hide (Ba0.out.below hb Ba0.out.lt)
  have HB1 := hide (HB0.out.trans (hb.mono HB0.out.size))
  clear hb Ba0 HB0 
  have ya0 : w1.cell? ⟨w.heap.size, 0, none⟩ = some (.int .i64 0) := Ba1.out.cell 0
  have ya1 : w1.cell? ⟨w.heap.size, 1, none⟩ = some (.bool false) := Ba1.out.cell 1
  have ya2 : w1.cell? ⟨w.heap.size, 2, none⟩ = some (.string ta) := Ba1.out.cell 2
  have ya3 : w1.cell? ⟨w.heap.size, 3, none⟩ = some (.int .i64 ea) := Ba1.out.cell 3
  go_wp2_with fail
  refine (H1.out _ (HT.out.below HB1.out)).mono ?_
  rintro e w2 ⟨rfl, hb⟩
  have Ba2 := hide (Ba1.out.below hb Ba1.out.lt)
  have HB2 := hide (HB1.out.trans (hb.mono HB1.out.size))
  clear hb Ba1 HB1 ya0 ya1 ya2 ya3
  have ya0 : w2.cell? ⟨w.heap.size, 0, none⟩ = some (.int .i64 0) := Ba2.out.cell 0
  have ya1 : w2.cell? ⟨w.heap.size, 1, none⟩ = some (.bool false) := Ba2.out.cell 1
  have ya2 : w2.cell? ⟨w.heap.size, 2, none⟩ = some (.string ta) := Ba2.out.cell 2
  have ya3 : w2.cell? ⟨w.heap.size, 3, none⟩ = some (.int .i64 ea) := Ba2.out.cell 3
  have Ba3 := hide ((Ba2.out.alloc (.cells #[.int .i64 0, .bool false, .string tl, .int .i64 el] 23)))
  have Bl3 := hide ((Blk.newAt w2 (w2.heap.size) (rfl) #[.int .i64 0, .bool false, .string tl, .int .i64 el] 23))
  have HB3 : Hid (Below w.heap.size w (w2.alloc (.cells #[.int .i64 0, .bool false, .string tl, .int .i64 el] 23))) := (HB2.out.alloc HB2.out.size _)
  clear Ba2 HB2 ya0 ya1 ya2 ya3
  have ya0 : (w2.alloc (.cells #[.int .i64 0, .bool false, .string tl, .int .i64 el] 23)).cell? ⟨w.heap.size, 0, none⟩ = some (.int .i64 0) := Ba3.out.cell 0
  have ya1 : (w2.alloc (.cells #[.int .i64 0, .bool false, .string tl, .int .i64 el] 23)).cell? ⟨w.heap.size, 1, none⟩ = some (.bool false) := Ba3.out.cell 1
  have ya2 : (w2.alloc (.cells #[.int .i64 0, .bool false, .string tl, .int .i64 el] 23)).cell? ⟨w.heap.size, 2, none⟩ = some (.string ta) := Ba3.out.cell 2
  have ya3 : (w2.alloc (.cells #[.int .i64 0, .bool false, .string tl, .int .i64 el] 23)).cell? ⟨w.heap.size, 3, none⟩ = some (.int .i64 ea) := Ba3.out.cell 3
  have yl0 : (w2.alloc (.cells #[.int .i64 0, .bool false, .string tl, .int .i64 el] 23)).cell? ⟨w2.heap.size, 0, none⟩ = some (.int .i64 0) := Bl3.out.cell 0
  have yl1 : (w2.alloc (.cells #[.int .i64 0, .bool false, .string tl, .int .i64 el] 23)).cell? ⟨w2.heap.size, 1, none⟩ = some (.bool false) := Bl3.out.cell 1
  have yl2 : (w2.alloc (.cells #[.int .i64 0, .bool false, .string tl, .int .i64 el] 23)).cell? ⟨w2.heap.size, 2, none⟩ = some (.string tl) := Bl3.out.cell 2
  have yl3 : (w2.alloc (.cells #[.int .i64 0, .bool false, .string tl, .int .i64 el] 23)).cell? ⟨w2.heap.size, 3, none⟩ = some (.int .i64 el) := Bl3.out.cell 3
  go_wp2_with fail
  refine (H0.out _ (HT.out.below HB3.out)).mono ?_
  rintro e w4 ⟨rfl, hb⟩
  have Ba4 := hide (Ba3.out.below hb Ba3.out.lt)
  have Bl4 := hide (Bl3.out.below hb Bl3.out.lt)
  have HB4 := hide (HB3.out.trans (hb.mono HB3.out.size))
  clear hb Ba3 Bl3 HB3 ya0 ya1 ya2 ya3 yl0 yl1 yl2 yl3
  have ya0 : w4.cell? ⟨w.heap.size, 0, none⟩ = some (.int .i64 0) := Ba4.out.cell 0
  have ya1 : w4.cell? ⟨w.heap.size, 1, none⟩ = some (.bool false) := Ba4.out.cell 1
  have ya2 : w4.cell? ⟨w.heap.size, 2, none⟩ = some (.string ta) := Ba4.out.cell 2
  have ya3 : w4.cell? ⟨w.heap.size, 3, none⟩ = some (.int .i64 ea) := Ba4.out.cell 3
  have yl0 : w4.cell? ⟨w2.heap.size, 0, none⟩ = some (.int .i64 0) := Bl4.out.cell 0
  have yl1 : w4.cell? ⟨w2.heap.size, 1, none⟩ = some (.bool false) := Bl4.out.cell 1
  have yl2 : w4.cell? ⟨w2.heap.size, 2, none⟩ = some (.string tl) := Bl4.out.cell 2
  have yl3 : w4.cell? ⟨w2.heap.size, 3, none⟩ = some (.int .i64 el) := Bl4.out.cell 3
  have Ba5 := hide ((Ba4.out.alloc (.cells #[.int .i64 0, .bool false, .string tl, .int .i64 eh] 23)))
  have Bl5 := hide ((Bl4.out.alloc (.cells #[.int .i64 0, .bool false, .string tl, .int .i64 eh] 23)))
  have Bh5 := hide ((Blk.newAt w4 (w4.heap.size) (rfl) #[.int .i64 0, .bool false, .string tl, .int .i64 eh] 23))
  have HB5 : Hid (Below w.heap.size w (w4.alloc (.cells #[.int .i64 0, .bool false, .string tl, .int .i64 eh] 23))) := (HB4.out.alloc HB4.out.size _)
  clear Ba4 Bl4 HB4 ya0 ya1 ya2 ya3 yl0 yl1 yl2 yl3
  have ya0 : (w4.alloc (.cells #[.int .i64 0, .bool false, .string tl, .int .i64 eh] 23)).cell? ⟨w.heap.size, 0, none⟩ = some (.int .i64 0) := Ba5.out.cell 0
  have ya1 : (w4.alloc (.cells #[.int .i64 0, .bool false, .string tl, .int .i64 eh] 23)).cell? ⟨w.heap.size, 1, none⟩ = some (.bool false) := Ba5.out.cell 1
  have ya2 : (w4.alloc (.cells #[.int .i64 0, .bool false, .string tl, .int .i64 eh] 23)).cell? ⟨w.heap.size, 2, none⟩ = some (.string ta) := Ba5.out.cell 2
  have ya3 : (w4.alloc (.cells #[.int .i64 0, .bool false, .string tl, .int .i64 eh] 23)).cell? ⟨w.heap.size, 3, none⟩ = some (.int .i64 ea) := Ba5.out.cell 3
  have yl0 : (w4.alloc (.cells #[.int .i64 0, .bool false, .string tl, .int .i64 eh] 23)).cell? ⟨w2.heap.size, 0, none⟩ = some (.int .i64 0) := Bl5.out.cell 0
  have yl1 : (w4.alloc (.cells #[.int .i64 0, .bool false, .string tl, .int .i64 eh] 23)).cell? ⟨w2.heap.size, 1, none⟩ = some (.bool false) := Bl5.out.cell 1
  have yl2 : (w4.alloc (.cells #[.int .i64 0, .bool false, .string tl, .int .i64 eh] 23)).cell? ⟨w2.heap.size, 2, none⟩ = some (.string tl) := Bl5.out.cell 2
  have yl3 : (w4.alloc (.cells #[.int .i64 0, .bool false, .string tl, .int .i64 eh] 23)).cell? ⟨w2.heap.size, 3, none⟩ = some (.int .i64 el) := Bl5.out.cell 3
  have yh0 : (w4.alloc (.cells #[.int .i64 0, .bool false, .string tl, .int .i64 eh] 23)).cell? ⟨w4.heap.size, 0, none⟩ = some (.int .i64 0) := Bh5.out.cell 0
  have yh1 : (w4.alloc (.cells #[.int .i64 0, .bool false, .string tl, .int .i64 eh] 23)).cell? ⟨w4.heap.size, 1, none⟩ = some (.bool false) := Bh5.out.cell 1
  have yh2 : (w4.alloc (.cells #[.int .i64 0, .bool false, .string tl, .int .i64 eh] 23)).cell? ⟨w4.heap.size, 2, none⟩ = some (.string tl) := Bh5.out.cell 2
  have yh3 : (w4.alloc (.cells #[.int .i64 0, .bool false, .string tl, .int .i64 eh] 23)).cell? ⟨w4.heap.size, 3, none⟩ = some (.int .i64 eh) := Bh5.out.cell 3
  obtain ⟨W2, hW2⟩ : ∃ W2, W2 = (w4.alloc (.cells #[.int .i64 0, .bool false, .string tl, .int .i64 eh] 23)) := ⟨_, rfl⟩
  rw [← hW2] at HB5 Ba5 Bl5 Bh5 ya0 ya1 ya2 ya3 yl0 yl1 yl2 yl3 yh0 yh1 yh2 yh3
  have HW2 := hide hW2
  clear hW2
  go_wp2
  simp only [← HW2.out]
  go_loopw [9] (fun iv wr => ∃ k : Nat, k ≤ 8 ∧ iv = .int .i64 (k : Int) ∧ Hid (Below W2.heap.size W2 wr)) (fun iv _ => 8 - (intOf iv).toNat)
  case atStart => exact ⟨0, by omega, rfl, Below.refl _ _⟩
  case round =>
    obtain ⟨k, hk, rfl, hbr⟩ := hrel
    have Ba6 := hide (Ba5.out.below hbr.out Ba5.out.lt)
    have Bl6 := hide (Bl5.out.below hbr.out Bl5.out.lt)
    have Bh6 := hide (Bh5.out.below hbr.out Bh5.out.lt)
    have HB6 := hide (HB5.out.trans (hbr.out.mono HB5.out.size))
    have HBR : Hid (Below W2.heap.size W2 wr) := hbr
    clear hbr HW2 Ba5 Bl5 Bh5 HB5 ya0 ya1 ya2 ya3 yl0 yl1 yl2 yl3 yh0 yh1 yh2 yh3
    have ya0 : wr.cell? ⟨w.heap.size, 0, none⟩ = some (.int .i64 0) := Ba6.out.cell 0
    have ya1 : wr.cell? ⟨w.heap.size, 1, none⟩ = some (.bool false) := Ba6.out.cell 1
    have ya2 : wr.cell? ⟨w.heap.size, 2, none⟩ = some (.string ta) := Ba6.out.cell 2
    have ya3 : wr.cell? ⟨w.heap.size, 3, none⟩ = some (.int .i64 ea) := Ba6.out.cell 3
    have yl0 : wr.cell? ⟨w2.heap.size, 0, none⟩ = some (.int .i64 0) := Bl6.out.cell 0
    have yl1 : wr.cell? ⟨w2.heap.size, 1, none⟩ = some (.bool false) := Bl6.out.cell 1
    have yl2 : wr.cell? ⟨w2.heap.size, 2, none⟩ = some (.string tl) := Bl6.out.cell 2
    have yl3 : wr.cell? ⟨w2.heap.size, 3, none⟩ = some (.int .i64 el) := Bl6.out.cell 3
    have yh0 : wr.cell? ⟨w4.heap.size, 0, none⟩ = some (.int .i64 0) := Bh6.out.cell 0
    have yh1 : wr.cell? ⟨w4.heap.size, 1, none⟩ = some (.bool false) := Bh6.out.cell 1
    have yh2 : wr.cell? ⟨w4.heap.size, 2, none⟩ = some (.string tl) := Bh6.out.cell 2
    have yh3 : wr.cell? ⟨w4.heap.size, 3, none⟩ = some (.int .i64 eh) := Bh6.out.cell 3
    by_cases hk8 : k = 8
    · skip
      subst hk8
      clear hk HBR HT H0 H1 H2 H3 H4
      have b0 : Hid (Below wr.heap.size wr wr.drew) := bdrewD wr
      have C0 : Hid (∀ X, Hid (Below wr.heap.size wr X) → Calls Tryz.prog 20 #[.agg #[.int .i64 0, .bool false, .string tl, .int .i64 eh], .agg #[.int .i64 0, .bool false, .string tl, .int .i64 el]] X fun e w' => e = .returned (.bool false) ∧ Hid (Below wr.heap.size wr w') ∧ w'.cell? ⟨w.heap.size, 0, none⟩ = some (.int .i64 0) ∧ w'.cell? ⟨w.heap.size, 1, none⟩ = some (.bool false) ∧ w'.cell? ⟨w.heap.size, 2, none⟩ = some (.string ta) ∧ w'.cell? ⟨w.heap.size, 3, none⟩ = some (.int .i64 ea) ∧ w'.cell? ⟨w2.heap.size, 0, none⟩ = some (.int .i64 0) ∧ w'.cell? ⟨w2.heap.size, 1, none⟩ = some (.bool false) ∧ w'.cell? ⟨w2.heap.size, 2, none⟩ = some (.string tl) ∧ w'.cell? ⟨w2.heap.size, 3, none⟩ = some (.int .i64 el) ∧ w'.cell? ⟨w4.heap.size, 0, none⟩ = some (.int .i64 0) ∧ w'.cell? ⟨w4.heap.size, 1, none⟩ = some (.bool false) ∧ w'.cell? ⟨w4.heap.size, 2, none⟩ = some (.string tl) ∧ w'.cell? ⟨w4.heap.size, 3, none⟩ = some (.int .i64 eh)) := by
        intro X bX
        refine (H5.out X).mono ?_
        rintro e w' ⟨rfl, hb⟩
        have bb := bX.out.trans (hb.mono bX.out.size)
        have Baq := Ba6.out.below bb Ba6.out.lt
        have Blq := Bl6.out.below bb Bl6.out.lt
        have Bhq := Bh6.out.below bb Bh6.out.lt
        exact ⟨rfl, bb, Baq.cell 0, Baq.cell 1, Baq.cell 2, Baq.cell 3, Blq.cell 0, Blq.cell 1, Blq.cell 2, Blq.cell 3, Bhq.cell 0, Bhq.cell 1, Bhq.cell 2, Bhq.cell 3⟩
      go_wp2_with fail
      have mk0 : True := trivial
      go_region_held3 (fun w' => w'.cell? ⟨w.heap.size, 0, none⟩ = some (.int .i64 0) ∧ w'.cell? ⟨w.heap.size, 1, none⟩ = some (.bool false) ∧ w'.cell? ⟨w.heap.size, 2, none⟩ = some (.string ta) ∧ w'.cell? ⟨w.heap.size, 3, none⟩ = some (.int .i64 ea) ∧ w'.cell? ⟨w2.heap.size, 0, none⟩ = some (.int .i64 0) ∧ w'.cell? ⟨w2.heap.size, 1, none⟩ = some (.bool false) ∧ w'.cell? ⟨w2.heap.size, 2, none⟩ = some (.string tl) ∧ w'.cell? ⟨w2.heap.size, 3, none⟩ = some (.int .i64 el) ∧ w'.cell? ⟨w4.heap.size, 0, none⟩ = some (.int .i64 0) ∧ w'.cell? ⟨w4.heap.size, 1, none⟩ = some (.bool false) ∧ w'.cell? ⟨w4.heap.size, 2, none⟩ = some (.string tl) ∧ w'.cell? ⟨w4.heap.size, 3, none⟩ = some (.int .i64 eh)) (go_keep) (first
        | (clear mk0; go_at_call 20; refine (C0.out _ b0).mono ?_; rintro e w7 ⟨rfl, b1, q0_0, q0_1, q0_2, q0_3, q0_4, q0_5, q0_6, q0_7, q0_8, q0_9, q0_10, q0_11⟩; have mk1 : True := trivial))
      have Ba7 := hide (Ba6.out.below b1.out Ba6.out.lt)
      have Bl7 := hide (Bl6.out.below b1.out Bl6.out.lt)
      have Bh7 := hide (Bh6.out.below b1.out Bh6.out.lt)
      have HB7 := hide (HB6.out.trans (b1.out.mono HB6.out.size))
      clear mk1 b0 b1 C0 q0_0 q0_1 q0_2 q0_3 q0_4 q0_5 q0_6 q0_7 q0_8 q0_9 q0_10 q0_11 Ba6 Bl6 Bh6 HB6 ya0 ya1 ya2 ya3 yl0 yl1 yl2 yl3 yh0 yh1 yh2 yh3
      have ya0 : w7.cell? ⟨w.heap.size, 0, none⟩ = some (.int .i64 0) := Ba7.out.cell 0
      have ya1 : w7.cell? ⟨w.heap.size, 1, none⟩ = some (.bool false) := Ba7.out.cell 1
      have ya2 : w7.cell? ⟨w.heap.size, 2, none⟩ = some (.string ta) := Ba7.out.cell 2
      have ya3 : w7.cell? ⟨w.heap.size, 3, none⟩ = some (.int .i64 ea) := Ba7.out.cell 3
      have yl0 : w7.cell? ⟨w2.heap.size, 0, none⟩ = some (.int .i64 0) := Bl7.out.cell 0
      have yl1 : w7.cell? ⟨w2.heap.size, 1, none⟩ = some (.bool false) := Bl7.out.cell 1
      have yl2 : w7.cell? ⟨w2.heap.size, 2, none⟩ = some (.string tl) := Bl7.out.cell 2
      have yl3 : w7.cell? ⟨w2.heap.size, 3, none⟩ = some (.int .i64 el) := Bl7.out.cell 3
      have yh0 : w7.cell? ⟨w4.heap.size, 0, none⟩ = some (.int .i64 0) := Bh7.out.cell 0
      have yh1 : w7.cell? ⟨w4.heap.size, 1, none⟩ = some (.bool false) := Bh7.out.cell 1
      have yh2 : w7.cell? ⟨w4.heap.size, 2, none⟩ = some (.string tl) := Bh7.out.cell 2
      have yh3 : w7.cell? ⟨w4.heap.size, 3, none⟩ = some (.int .i64 eh) := Bh7.out.cell 3
      go_wp2
      go_ret
      exact ⟨rfl, HB7.out⟩
    by_cases j0 : k = 0
    · skip
      obtain rfl : k = 0 := by omega
      clear hk hk8
      go_wp2_with fail
      refine (H0.out _ (HT.out.below HB6.out)).mono ?_
      rintro e w7 ⟨rfl, hb⟩
      have HBS := hide (HBR.out.trans (hb.mono HBR.out.size))
      clear HBR
      have Ba7 := hide (Ba6.out.below hb Ba6.out.lt)
      have Bl7 := hide (Bl6.out.below hb Bl6.out.lt)
      have Bh7 := hide (Bh6.out.below hb Bh6.out.lt)
      have HB7 := hide (HB6.out.trans (hb.mono HB6.out.size))
      clear hb Ba6 Bl6 Bh6 HB6 ya0 ya1 ya2 ya3 yl0 yl1 yl2 yl3 yh0 yh1 yh2 yh3
      have ya0 : w7.cell? ⟨w.heap.size, 0, none⟩ = some (.int .i64 0) := Ba7.out.cell 0
      have ya1 : w7.cell? ⟨w.heap.size, 1, none⟩ = some (.bool false) := Ba7.out.cell 1
      have ya2 : w7.cell? ⟨w.heap.size, 2, none⟩ = some (.string ta) := Ba7.out.cell 2
      have ya3 : w7.cell? ⟨w.heap.size, 3, none⟩ = some (.int .i64 ea) := Ba7.out.cell 3
      have yl0 : w7.cell? ⟨w2.heap.size, 0, none⟩ = some (.int .i64 0) := Bl7.out.cell 0
      have yl1 : w7.cell? ⟨w2.heap.size, 1, none⟩ = some (.bool false) := Bl7.out.cell 1
      have yl2 : w7.cell? ⟨w2.heap.size, 2, none⟩ = some (.string tl) := Bl7.out.cell 2
      have yl3 : w7.cell? ⟨w2.heap.size, 3, none⟩ = some (.int .i64 el) := Bl7.out.cell 3
      have yh0 : w7.cell? ⟨w4.heap.size, 0, none⟩ = some (.int .i64 0) := Bh7.out.cell 0
      have yh1 : w7.cell? ⟨w4.heap.size, 1, none⟩ = some (.bool false) := Bh7.out.cell 1
      have yh2 : w7.cell? ⟨w4.heap.size, 2, none⟩ = some (.string tl) := Bh7.out.cell 2
      have yh3 : w7.cell? ⟨w4.heap.size, 3, none⟩ = some (.int .i64 eh) := Bh7.out.cell 3
      have Ba8 := hide ((Ba7.out.alloc (.cells #[.int .i64 0, .bool false, .string tl, .int .i64 eh] 23)))
      have Bl8 := hide ((Bl7.out.alloc (.cells #[.int .i64 0, .bool false, .string tl, .int .i64 eh] 23)))
      have Bh8 := hide ((Bh7.out.alloc (.cells #[.int .i64 0, .bool false, .string tl, .int .i64 eh] 23)))
      have Bx8 := hide ((Blk.newAt w7 (w7.heap.size) (rfl) #[.int .i64 0, .bool false, .string tl, .int .i64 eh] 23))
      have HB8 : Hid (Below w.heap.size w (w7.alloc (.cells #[.int .i64 0, .bool false, .string tl, .int .i64 eh] 23))) := (HB7.out.alloc HB7.out.size _)
      clear Ba7 Bl7 Bh7 HB7 ya0 ya1 ya2 ya3 yl0 yl1 yl2 yl3 yh0 yh1 yh2 yh3
      have ya0 : (w7.alloc (.cells #[.int .i64 0, .bool false, .string tl, .int .i64 eh] 23)).cell? ⟨w.heap.size, 0, none⟩ = some (.int .i64 0) := Ba8.out.cell 0
      have ya1 : (w7.alloc (.cells #[.int .i64 0, .bool false, .string tl, .int .i64 eh] 23)).cell? ⟨w.heap.size, 1, none⟩ = some (.bool false) := Ba8.out.cell 1
      have ya2 : (w7.alloc (.cells #[.int .i64 0, .bool false, .string tl, .int .i64 eh] 23)).cell? ⟨w.heap.size, 2, none⟩ = some (.string ta) := Ba8.out.cell 2
      have ya3 : (w7.alloc (.cells #[.int .i64 0, .bool false, .string tl, .int .i64 eh] 23)).cell? ⟨w.heap.size, 3, none⟩ = some (.int .i64 ea) := Ba8.out.cell 3
      have yl0 : (w7.alloc (.cells #[.int .i64 0, .bool false, .string tl, .int .i64 eh] 23)).cell? ⟨w2.heap.size, 0, none⟩ = some (.int .i64 0) := Bl8.out.cell 0
      have yl1 : (w7.alloc (.cells #[.int .i64 0, .bool false, .string tl, .int .i64 eh] 23)).cell? ⟨w2.heap.size, 1, none⟩ = some (.bool false) := Bl8.out.cell 1
      have yl2 : (w7.alloc (.cells #[.int .i64 0, .bool false, .string tl, .int .i64 eh] 23)).cell? ⟨w2.heap.size, 2, none⟩ = some (.string tl) := Bl8.out.cell 2
      have yl3 : (w7.alloc (.cells #[.int .i64 0, .bool false, .string tl, .int .i64 eh] 23)).cell? ⟨w2.heap.size, 3, none⟩ = some (.int .i64 el) := Bl8.out.cell 3
      have yh0 : (w7.alloc (.cells #[.int .i64 0, .bool false, .string tl, .int .i64 eh] 23)).cell? ⟨w4.heap.size, 0, none⟩ = some (.int .i64 0) := Bh8.out.cell 0
      have yh1 : (w7.alloc (.cells #[.int .i64 0, .bool false, .string tl, .int .i64 eh] 23)).cell? ⟨w4.heap.size, 1, none⟩ = some (.bool false) := Bh8.out.cell 1
      have yh2 : (w7.alloc (.cells #[.int .i64 0, .bool false, .string tl, .int .i64 eh] 23)).cell? ⟨w4.heap.size, 2, none⟩ = some (.string tl) := Bh8.out.cell 2
      have yh3 : (w7.alloc (.cells #[.int .i64 0, .bool false, .string tl, .int .i64 eh] 23)).cell? ⟨w4.heap.size, 3, none⟩ = some (.int .i64 eh) := Bh8.out.cell 3
      have yx0 : (w7.alloc (.cells #[.int .i64 0, .bool false, .string tl, .int .i64 eh] 23)).cell? ⟨w7.heap.size, 0, none⟩ = some (.int .i64 0) := Bx8.out.cell 0
      have yx1 : (w7.alloc (.cells #[.int .i64 0, .bool false, .string tl, .int .i64 eh] 23)).cell? ⟨w7.heap.size, 1, none⟩ = some (.bool false) := Bx8.out.cell 1
      have yx2 : (w7.alloc (.cells #[.int .i64 0, .bool false, .string tl, .int .i64 eh] 23)).cell? ⟨w7.heap.size, 2, none⟩ = some (.string tl) := Bx8.out.cell 2
      have yx3 : (w7.alloc (.cells #[.int .i64 0, .bool false, .string tl, .int .i64 eh] 23)).cell? ⟨w7.heap.size, 3, none⟩ = some (.int .i64 eh) := Bx8.out.cell 3
      go_wp2
      obtain ⟨W3, hW3⟩ : ∃ W3, W3 = (w7.alloc (.cells #[.int .i64 0, .bool false, .string tl, .int .i64 eh] 23)) := ⟨_, rfl⟩
      rw [← hW3] at HB8 Ba8 Bl8 Bh8 Bx8 ya0 ya1 ya2 ya3 yl0 yl1 yl2 yl3 yh0 yh1 yh2 yh3 yx0 yx1 yx2 yx3
      have HW3 := hide hW3
      clear hW3
      have HL : Hid (w2.heap.size < W3.heap.size ∧ w4.heap.size < W3.heap.size) := ⟨Bl8.out.lt, Bh8.out.lt⟩
      simp only [← HW3.out]
      go_cut [12, 13] (fun vp vq wx => Cut2D W3 #[.int .i64 0, .bool false, .string tl, .int .i64 el] #[.int .i64 0, .bool false, .string tl, .int .i64 eh] vp vq wx)
      case first =>
        have nl3 : ¬ w2.heap.size = W3.heap.size := (by have := HL.out; omega)
        have ml3 : ¬ W3.heap.size = w2.heap.size := (by have := HL.out; omega)
        have nh3 : ¬ w4.heap.size = W3.heap.size := (by have := HL.out; omega)
        have mh3 : ¬ W3.heap.size = w4.heap.size := (by have := HL.out; omega)
        go_region_held3 (fun w' => w'.cell? ⟨w2.heap.size, 0, none⟩ = some (.int .i64 0) ∧ w'.cell? ⟨w2.heap.size, 1, none⟩ = some (.bool false) ∧ w'.cell? ⟨w2.heap.size, 2, none⟩ = some (.string tl) ∧ w'.cell? ⟨w2.heap.size, 3, none⟩ = some (.int .i64 el) ∧ w'.cell? ⟨w4.heap.size, 0, none⟩ = some (.int .i64 0) ∧ w'.cell? ⟨w4.heap.size, 1, none⟩ = some (.bool false) ∧ w'.cell? ⟨w4.heap.size, 2, none⟩ = some (.string tl) ∧ w'.cell? ⟨w4.heap.size, 3, none⟩ = some (.int .i64 eh)) (go_keep) (fail)
        all_goals (go_wp2_with fail; go_meet)
        all_goals (first | exact cut2_a | exact cut2_b)
      obtain ⟨⟨H, K, rfl, rfl, hq, hr, hH, hK, hHK, hbc⟩⟩ := hcut
      obtain ⟨w9, hwk⟩ : ∃ x, x = wc := ⟨_, rfl⟩
      subst hwk
      have Ba9 := hide (Ba8.out.below hbc Ba8.out.lt)
      have Bl9 := hide (Bl8.out.below hbc Bl8.out.lt)
      have Bh9 := hide (Bh8.out.below hbc Bh8.out.lt)
      have Bx9 := hide (Bx8.out.below hbc Bx8.out.lt)
      have Bn9 := hide hq
      have Bf9 := hide hr
      have HB9 := hide (HB8.out.trans (hbc.mono HB8.out.size))
      have HBT := hide (HBS.out.trans ((HW3.out ▸ ((Below.refl _ _).alloc (Nat.le_refl _) _ : Below _ _ _) : Below w7.heap.size w7 W3).trans (hbc.mono (by rw [HW3.out]; simp)) |>.mono HBS.out.size))
      have hhk : ¬ K = H := fun g => hHK g.symm
      have HHK := hide (show w.heap.size ≤ H ∧ w.heap.size ≤ K from ⟨Nat.le_trans HB8.out.size hH, Nat.le_trans HB8.out.size hK⟩)
      clear HL HBS hq hr hH hK hbc HW3 Ba8 Bl8 Bh8 Bx8 HB8 ya0 ya1 ya2 ya3 yl0 yl1 yl2 yl3 yh0 yh1 yh2 yh3 yx0 yx1 yx2 yx3
      have ya0 : w9.cell? ⟨w.heap.size, 0, none⟩ = some (.int .i64 0) := Ba9.out.cell 0
      have ya1 : w9.cell? ⟨w.heap.size, 1, none⟩ = some (.bool false) := Ba9.out.cell 1
      have ya2 : w9.cell? ⟨w.heap.size, 2, none⟩ = some (.string ta) := Ba9.out.cell 2
      have ya3 : w9.cell? ⟨w.heap.size, 3, none⟩ = some (.int .i64 ea) := Ba9.out.cell 3
      have yl0 : w9.cell? ⟨w2.heap.size, 0, none⟩ = some (.int .i64 0) := Bl9.out.cell 0
      have yl1 : w9.cell? ⟨w2.heap.size, 1, none⟩ = some (.bool false) := Bl9.out.cell 1
      have yl2 : w9.cell? ⟨w2.heap.size, 2, none⟩ = some (.string tl) := Bl9.out.cell 2
      have yl3 : w9.cell? ⟨w2.heap.size, 3, none⟩ = some (.int .i64 el) := Bl9.out.cell 3
      have yh0 : w9.cell? ⟨w4.heap.size, 0, none⟩ = some (.int .i64 0) := Bh9.out.cell 0
      have yh1 : w9.cell? ⟨w4.heap.size, 1, none⟩ = some (.bool false) := Bh9.out.cell 1
      have yh2 : w9.cell? ⟨w4.heap.size, 2, none⟩ = some (.string tl) := Bh9.out.cell 2
      have yh3 : w9.cell? ⟨w4.heap.size, 3, none⟩ = some (.int .i64 eh) := Bh9.out.cell 3
      have yx0 : w9.cell? ⟨w7.heap.size, 0, none⟩ = some (.int .i64 0) := Bx9.out.cell 0
      have yx1 : w9.cell? ⟨w7.heap.size, 1, none⟩ = some (.bool false) := Bx9.out.cell 1
      have yx2 : w9.cell? ⟨w7.heap.size, 2, none⟩ = some (.string tl) := Bx9.out.cell 2
      have yx3 : w9.cell? ⟨w7.heap.size, 3, none⟩ = some (.int .i64 eh) := Bx9.out.cell 3
      have yn0 : w9.cell? ⟨H, 0, none⟩ = some (.int .i64 0) := Bn9.out.cell 0
      have yn1 : w9.cell? ⟨H, 1, none⟩ = some (.bool false) := Bn9.out.cell 1
      have yn2 : w9.cell? ⟨H, 2, none⟩ = some (.string tl) := Bn9.out.cell 2
      have yn3 : w9.cell? ⟨H, 3, none⟩ = some (.int .i64 el) := Bn9.out.cell 3
      have yf0 : w9.cell? ⟨K, 0, none⟩ = some (.int .i64 0) := Bf9.out.cell 0
      have yf1 : w9.cell? ⟨K, 1, none⟩ = some (.bool false) := Bf9.out.cell 1
      have yf2 : w9.cell? ⟨K, 2, none⟩ = some (.string tl) := Bf9.out.cell 2
      have yf3 : w9.cell? ⟨K, 3, none⟩ = some (.int .i64 eh) := Bf9.out.cell 3
      go_wp2
      go_roundw
      case rel => exact ⟨0 + 1, by first | omega | (have := HK.out; omega), by go_num, HBT.out⟩
      case measure => first | (simp [intOf]; done) | (simp [intOf]; omega) | (have := HK.out; simp [intOf]; omega)
    by_cases j1 : k = 1
    · skip
      obtain rfl : k = 1 := by omega
      clear hk hk8
      go_wp2_with fail
      refine (H1.out _ (HT.out.below HB6.out)).mono ?_
      rintro e w7 ⟨rfl, hb⟩
      have HBS := hide (HBR.out.trans (hb.mono HBR.out.size))
      clear HBR
      have Ba7 := hide (Ba6.out.below hb Ba6.out.lt)
      have Bl7 := hide (Bl6.out.below hb Bl6.out.lt)
      have Bh7 := hide (Bh6.out.below hb Bh6.out.lt)
      have HB7 := hide (HB6.out.trans (hb.mono HB6.out.size))
      clear hb Ba6 Bl6 Bh6 HB6 ya0 ya1 ya2 ya3 yl0 yl1 yl2 yl3 yh0 yh1 yh2 yh3
      have ya0 : w7.cell? ⟨w.heap.size, 0, none⟩ = some (.int .i64 0) := Ba7.out.cell 0
      have ya1 : w7.cell? ⟨w.heap.size, 1, none⟩ = some (.bool false) := Ba7.out.cell 1
      have ya2 : w7.cell? ⟨w.heap.size, 2, none⟩ = some (.string ta) := Ba7.out.cell 2
      have ya3 : w7.cell? ⟨w.heap.size, 3, none⟩ = some (.int .i64 ea) := Ba7.out.cell 3
      have yl0 : w7.cell? ⟨w2.heap.size, 0, none⟩ = some (.int .i64 0) := Bl7.out.cell 0
      have yl1 : w7.cell? ⟨w2.heap.size, 1, none⟩ = some (.bool false) := Bl7.out.cell 1
      have yl2 : w7.cell? ⟨w2.heap.size, 2, none⟩ = some (.string tl) := Bl7.out.cell 2
      have yl3 : w7.cell? ⟨w2.heap.size, 3, none⟩ = some (.int .i64 el) := Bl7.out.cell 3
      have yh0 : w7.cell? ⟨w4.heap.size, 0, none⟩ = some (.int .i64 0) := Bh7.out.cell 0
      have yh1 : w7.cell? ⟨w4.heap.size, 1, none⟩ = some (.bool false) := Bh7.out.cell 1
      have yh2 : w7.cell? ⟨w4.heap.size, 2, none⟩ = some (.string tl) := Bh7.out.cell 2
      have yh3 : w7.cell? ⟨w4.heap.size, 3, none⟩ = some (.int .i64 eh) := Bh7.out.cell 3
      have Ba8 := hide ((Ba7.out.alloc (.cells #[.int .i64 0, .bool false, .string tl, .int .i64 el] 23)))
      have Bl8 := hide ((Bl7.out.alloc (.cells #[.int .i64 0, .bool false, .string tl, .int .i64 el] 23)))
      have Bh8 := hide ((Bh7.out.alloc (.cells #[.int .i64 0, .bool false, .string tl, .int .i64 el] 23)))
      have Bx8 := hide ((Blk.newAt w7 (w7.heap.size) (rfl) #[.int .i64 0, .bool false, .string tl, .int .i64 el] 23))
      have HB8 : Hid (Below w.heap.size w (w7.alloc (.cells #[.int .i64 0, .bool false, .string tl, .int .i64 el] 23))) := (HB7.out.alloc HB7.out.size _)
      clear Ba7 Bl7 Bh7 HB7 ya0 ya1 ya2 ya3 yl0 yl1 yl2 yl3 yh0 yh1 yh2 yh3
      have ya0 : (w7.alloc (.cells #[.int .i64 0, .bool false, .string tl, .int .i64 el] 23)).cell? ⟨w.heap.size, 0, none⟩ = some (.int .i64 0) := Ba8.out.cell 0
      have ya1 : (w7.alloc (.cells #[.int .i64 0, .bool false, .string tl, .int .i64 el] 23)).cell? ⟨w.heap.size, 1, none⟩ = some (.bool false) := Ba8.out.cell 1
      have ya2 : (w7.alloc (.cells #[.int .i64 0, .bool false, .string tl, .int .i64 el] 23)).cell? ⟨w.heap.size, 2, none⟩ = some (.string ta) := Ba8.out.cell 2
      have ya3 : (w7.alloc (.cells #[.int .i64 0, .bool false, .string tl, .int .i64 el] 23)).cell? ⟨w.heap.size, 3, none⟩ = some (.int .i64 ea) := Ba8.out.cell 3
      have yl0 : (w7.alloc (.cells #[.int .i64 0, .bool false, .string tl, .int .i64 el] 23)).cell? ⟨w2.heap.size, 0, none⟩ = some (.int .i64 0) := Bl8.out.cell 0
      have yl1 : (w7.alloc (.cells #[.int .i64 0, .bool false, .string tl, .int .i64 el] 23)).cell? ⟨w2.heap.size, 1, none⟩ = some (.bool false) := Bl8.out.cell 1
      have yl2 : (w7.alloc (.cells #[.int .i64 0, .bool false, .string tl, .int .i64 el] 23)).cell? ⟨w2.heap.size, 2, none⟩ = some (.string tl) := Bl8.out.cell 2
      have yl3 : (w7.alloc (.cells #[.int .i64 0, .bool false, .string tl, .int .i64 el] 23)).cell? ⟨w2.heap.size, 3, none⟩ = some (.int .i64 el) := Bl8.out.cell 3
      have yh0 : (w7.alloc (.cells #[.int .i64 0, .bool false, .string tl, .int .i64 el] 23)).cell? ⟨w4.heap.size, 0, none⟩ = some (.int .i64 0) := Bh8.out.cell 0
      have yh1 : (w7.alloc (.cells #[.int .i64 0, .bool false, .string tl, .int .i64 el] 23)).cell? ⟨w4.heap.size, 1, none⟩ = some (.bool false) := Bh8.out.cell 1
      have yh2 : (w7.alloc (.cells #[.int .i64 0, .bool false, .string tl, .int .i64 el] 23)).cell? ⟨w4.heap.size, 2, none⟩ = some (.string tl) := Bh8.out.cell 2
      have yh3 : (w7.alloc (.cells #[.int .i64 0, .bool false, .string tl, .int .i64 el] 23)).cell? ⟨w4.heap.size, 3, none⟩ = some (.int .i64 eh) := Bh8.out.cell 3
      have yx0 : (w7.alloc (.cells #[.int .i64 0, .bool false, .string tl, .int .i64 el] 23)).cell? ⟨w7.heap.size, 0, none⟩ = some (.int .i64 0) := Bx8.out.cell 0
      have yx1 : (w7.alloc (.cells #[.int .i64 0, .bool false, .string tl, .int .i64 el] 23)).cell? ⟨w7.heap.size, 1, none⟩ = some (.bool false) := Bx8.out.cell 1
      have yx2 : (w7.alloc (.cells #[.int .i64 0, .bool false, .string tl, .int .i64 el] 23)).cell? ⟨w7.heap.size, 2, none⟩ = some (.string tl) := Bx8.out.cell 2
      have yx3 : (w7.alloc (.cells #[.int .i64 0, .bool false, .string tl, .int .i64 el] 23)).cell? ⟨w7.heap.size, 3, none⟩ = some (.int .i64 el) := Bx8.out.cell 3
      go_wp2
      obtain ⟨W3, hW3⟩ : ∃ W3, W3 = (w7.alloc (.cells #[.int .i64 0, .bool false, .string tl, .int .i64 el] 23)) := ⟨_, rfl⟩
      rw [← hW3] at HB8 Ba8 Bl8 Bh8 Bx8 ya0 ya1 ya2 ya3 yl0 yl1 yl2 yl3 yh0 yh1 yh2 yh3 yx0 yx1 yx2 yx3
      have HW3 := hide hW3
      clear hW3
      have HL : Hid (w2.heap.size < W3.heap.size ∧ w4.heap.size < W3.heap.size) := ⟨Bl8.out.lt, Bh8.out.lt⟩
      simp only [← HW3.out]
      go_cut [12, 13] (fun vp vq wx => Cut2D W3 #[.int .i64 0, .bool false, .string tl, .int .i64 el] #[.int .i64 0, .bool false, .string tl, .int .i64 eh] vp vq wx)
      case first =>
        have nl3 : ¬ w2.heap.size = W3.heap.size := (by have := HL.out; omega)
        have ml3 : ¬ W3.heap.size = w2.heap.size := (by have := HL.out; omega)
        have nh3 : ¬ w4.heap.size = W3.heap.size := (by have := HL.out; omega)
        have mh3 : ¬ W3.heap.size = w4.heap.size := (by have := HL.out; omega)
        go_region_held3 (fun w' => w'.cell? ⟨w2.heap.size, 0, none⟩ = some (.int .i64 0) ∧ w'.cell? ⟨w2.heap.size, 1, none⟩ = some (.bool false) ∧ w'.cell? ⟨w2.heap.size, 2, none⟩ = some (.string tl) ∧ w'.cell? ⟨w2.heap.size, 3, none⟩ = some (.int .i64 el) ∧ w'.cell? ⟨w4.heap.size, 0, none⟩ = some (.int .i64 0) ∧ w'.cell? ⟨w4.heap.size, 1, none⟩ = some (.bool false) ∧ w'.cell? ⟨w4.heap.size, 2, none⟩ = some (.string tl) ∧ w'.cell? ⟨w4.heap.size, 3, none⟩ = some (.int .i64 eh)) (go_keep) (fail)
        all_goals (go_wp2_with fail; go_meet)
        all_goals (first | exact cut2_a | exact cut2_b)
      obtain ⟨⟨H, K, rfl, rfl, hq, hr, hH, hK, hHK, hbc⟩⟩ := hcut
      obtain ⟨w9, hwk⟩ : ∃ x, x = wc := ⟨_, rfl⟩
      subst hwk
      have Ba9 := hide (Ba8.out.below hbc Ba8.out.lt)
      have Bl9 := hide (Bl8.out.below hbc Bl8.out.lt)
      have Bh9 := hide (Bh8.out.below hbc Bh8.out.lt)
      have Bx9 := hide (Bx8.out.below hbc Bx8.out.lt)
      have Bn9 := hide hq
      have Bf9 := hide hr
      have HB9 := hide (HB8.out.trans (hbc.mono HB8.out.size))
      have HBT := hide (HBS.out.trans ((HW3.out ▸ ((Below.refl _ _).alloc (Nat.le_refl _) _ : Below _ _ _) : Below w7.heap.size w7 W3).trans (hbc.mono (by rw [HW3.out]; simp)) |>.mono HBS.out.size))
      have hhk : ¬ K = H := fun g => hHK g.symm
      have HHK := hide (show w.heap.size ≤ H ∧ w.heap.size ≤ K from ⟨Nat.le_trans HB8.out.size hH, Nat.le_trans HB8.out.size hK⟩)
      clear HL HBS hq hr hH hK hbc HW3 Ba8 Bl8 Bh8 Bx8 HB8 ya0 ya1 ya2 ya3 yl0 yl1 yl2 yl3 yh0 yh1 yh2 yh3 yx0 yx1 yx2 yx3
      have ya0 : w9.cell? ⟨w.heap.size, 0, none⟩ = some (.int .i64 0) := Ba9.out.cell 0
      have ya1 : w9.cell? ⟨w.heap.size, 1, none⟩ = some (.bool false) := Ba9.out.cell 1
      have ya2 : w9.cell? ⟨w.heap.size, 2, none⟩ = some (.string ta) := Ba9.out.cell 2
      have ya3 : w9.cell? ⟨w.heap.size, 3, none⟩ = some (.int .i64 ea) := Ba9.out.cell 3
      have yl0 : w9.cell? ⟨w2.heap.size, 0, none⟩ = some (.int .i64 0) := Bl9.out.cell 0
      have yl1 : w9.cell? ⟨w2.heap.size, 1, none⟩ = some (.bool false) := Bl9.out.cell 1
      have yl2 : w9.cell? ⟨w2.heap.size, 2, none⟩ = some (.string tl) := Bl9.out.cell 2
      have yl3 : w9.cell? ⟨w2.heap.size, 3, none⟩ = some (.int .i64 el) := Bl9.out.cell 3
      have yh0 : w9.cell? ⟨w4.heap.size, 0, none⟩ = some (.int .i64 0) := Bh9.out.cell 0
      have yh1 : w9.cell? ⟨w4.heap.size, 1, none⟩ = some (.bool false) := Bh9.out.cell 1
      have yh2 : w9.cell? ⟨w4.heap.size, 2, none⟩ = some (.string tl) := Bh9.out.cell 2
      have yh3 : w9.cell? ⟨w4.heap.size, 3, none⟩ = some (.int .i64 eh) := Bh9.out.cell 3
      have yx0 : w9.cell? ⟨w7.heap.size, 0, none⟩ = some (.int .i64 0) := Bx9.out.cell 0
      have yx1 : w9.cell? ⟨w7.heap.size, 1, none⟩ = some (.bool false) := Bx9.out.cell 1
      have yx2 : w9.cell? ⟨w7.heap.size, 2, none⟩ = some (.string tl) := Bx9.out.cell 2
      have yx3 : w9.cell? ⟨w7.heap.size, 3, none⟩ = some (.int .i64 el) := Bx9.out.cell 3
      have yn0 : w9.cell? ⟨H, 0, none⟩ = some (.int .i64 0) := Bn9.out.cell 0
      have yn1 : w9.cell? ⟨H, 1, none⟩ = some (.bool false) := Bn9.out.cell 1
      have yn2 : w9.cell? ⟨H, 2, none⟩ = some (.string tl) := Bn9.out.cell 2
      have yn3 : w9.cell? ⟨H, 3, none⟩ = some (.int .i64 el) := Bn9.out.cell 3
      have yf0 : w9.cell? ⟨K, 0, none⟩ = some (.int .i64 0) := Bf9.out.cell 0
      have yf1 : w9.cell? ⟨K, 1, none⟩ = some (.bool false) := Bf9.out.cell 1
      have yf2 : w9.cell? ⟨K, 2, none⟩ = some (.string tl) := Bf9.out.cell 2
      have yf3 : w9.cell? ⟨K, 3, none⟩ = some (.int .i64 eh) := Bf9.out.cell 3
      go_wp2
      go_roundw
      case rel => exact ⟨1 + 1, by first | omega | (have := HK.out; omega), by go_num, HBT.out⟩
      case measure => first | (simp [intOf]; done) | (simp [intOf]; omega) | (have := HK.out; simp [intOf]; omega)
    by_cases j2 : k = 2
    · skip
      obtain rfl : k = 2 := by omega
      clear hk hk8
      go_wp2_with fail
      refine (H2.out _ (HT.out.below HB6.out)).mono ?_
      rintro e w7 ⟨rfl, hb⟩
      have HBS := hide (HBR.out.trans (hb.mono HBR.out.size))
      clear HBR
      have Ba7 := hide (Ba6.out.below hb Ba6.out.lt)
      have Bl7 := hide (Bl6.out.below hb Bl6.out.lt)
      have Bh7 := hide (Bh6.out.below hb Bh6.out.lt)
      have HB7 := hide (HB6.out.trans (hb.mono HB6.out.size))
      clear hb Ba6 Bl6 Bh6 HB6 ya0 ya1 ya2 ya3 yl0 yl1 yl2 yl3 yh0 yh1 yh2 yh3
      have ya0 : w7.cell? ⟨w.heap.size, 0, none⟩ = some (.int .i64 0) := Ba7.out.cell 0
      have ya1 : w7.cell? ⟨w.heap.size, 1, none⟩ = some (.bool false) := Ba7.out.cell 1
      have ya2 : w7.cell? ⟨w.heap.size, 2, none⟩ = some (.string ta) := Ba7.out.cell 2
      have ya3 : w7.cell? ⟨w.heap.size, 3, none⟩ = some (.int .i64 ea) := Ba7.out.cell 3
      have yl0 : w7.cell? ⟨w2.heap.size, 0, none⟩ = some (.int .i64 0) := Bl7.out.cell 0
      have yl1 : w7.cell? ⟨w2.heap.size, 1, none⟩ = some (.bool false) := Bl7.out.cell 1
      have yl2 : w7.cell? ⟨w2.heap.size, 2, none⟩ = some (.string tl) := Bl7.out.cell 2
      have yl3 : w7.cell? ⟨w2.heap.size, 3, none⟩ = some (.int .i64 el) := Bl7.out.cell 3
      have yh0 : w7.cell? ⟨w4.heap.size, 0, none⟩ = some (.int .i64 0) := Bh7.out.cell 0
      have yh1 : w7.cell? ⟨w4.heap.size, 1, none⟩ = some (.bool false) := Bh7.out.cell 1
      have yh2 : w7.cell? ⟨w4.heap.size, 2, none⟩ = some (.string tl) := Bh7.out.cell 2
      have yh3 : w7.cell? ⟨w4.heap.size, 3, none⟩ = some (.int .i64 eh) := Bh7.out.cell 3
      have Ba8 := hide ((Ba7.out.alloc (.cells #[.int .i64 0, .bool false, .string tl, .int .i64 el] 23)))
      have Bl8 := hide ((Bl7.out.alloc (.cells #[.int .i64 0, .bool false, .string tl, .int .i64 el] 23)))
      have Bh8 := hide ((Bh7.out.alloc (.cells #[.int .i64 0, .bool false, .string tl, .int .i64 el] 23)))
      have Bx8 := hide ((Blk.newAt w7 (w7.heap.size) (rfl) #[.int .i64 0, .bool false, .string tl, .int .i64 el] 23))
      have HB8 : Hid (Below w.heap.size w (w7.alloc (.cells #[.int .i64 0, .bool false, .string tl, .int .i64 el] 23))) := (HB7.out.alloc HB7.out.size _)
      clear Ba7 Bl7 Bh7 HB7 ya0 ya1 ya2 ya3 yl0 yl1 yl2 yl3 yh0 yh1 yh2 yh3
      have ya0 : (w7.alloc (.cells #[.int .i64 0, .bool false, .string tl, .int .i64 el] 23)).cell? ⟨w.heap.size, 0, none⟩ = some (.int .i64 0) := Ba8.out.cell 0
      have ya1 : (w7.alloc (.cells #[.int .i64 0, .bool false, .string tl, .int .i64 el] 23)).cell? ⟨w.heap.size, 1, none⟩ = some (.bool false) := Ba8.out.cell 1
      have ya2 : (w7.alloc (.cells #[.int .i64 0, .bool false, .string tl, .int .i64 el] 23)).cell? ⟨w.heap.size, 2, none⟩ = some (.string ta) := Ba8.out.cell 2
      have ya3 : (w7.alloc (.cells #[.int .i64 0, .bool false, .string tl, .int .i64 el] 23)).cell? ⟨w.heap.size, 3, none⟩ = some (.int .i64 ea) := Ba8.out.cell 3
      have yl0 : (w7.alloc (.cells #[.int .i64 0, .bool false, .string tl, .int .i64 el] 23)).cell? ⟨w2.heap.size, 0, none⟩ = some (.int .i64 0) := Bl8.out.cell 0
      have yl1 : (w7.alloc (.cells #[.int .i64 0, .bool false, .string tl, .int .i64 el] 23)).cell? ⟨w2.heap.size, 1, none⟩ = some (.bool false) := Bl8.out.cell 1
      have yl2 : (w7.alloc (.cells #[.int .i64 0, .bool false, .string tl, .int .i64 el] 23)).cell? ⟨w2.heap.size, 2, none⟩ = some (.string tl) := Bl8.out.cell 2
      have yl3 : (w7.alloc (.cells #[.int .i64 0, .bool false, .string tl, .int .i64 el] 23)).cell? ⟨w2.heap.size, 3, none⟩ = some (.int .i64 el) := Bl8.out.cell 3
      have yh0 : (w7.alloc (.cells #[.int .i64 0, .bool false, .string tl, .int .i64 el] 23)).cell? ⟨w4.heap.size, 0, none⟩ = some (.int .i64 0) := Bh8.out.cell 0
      have yh1 : (w7.alloc (.cells #[.int .i64 0, .bool false, .string tl, .int .i64 el] 23)).cell? ⟨w4.heap.size, 1, none⟩ = some (.bool false) := Bh8.out.cell 1
      have yh2 : (w7.alloc (.cells #[.int .i64 0, .bool false, .string tl, .int .i64 el] 23)).cell? ⟨w4.heap.size, 2, none⟩ = some (.string tl) := Bh8.out.cell 2
      have yh3 : (w7.alloc (.cells #[.int .i64 0, .bool false, .string tl, .int .i64 el] 23)).cell? ⟨w4.heap.size, 3, none⟩ = some (.int .i64 eh) := Bh8.out.cell 3
      have yx0 : (w7.alloc (.cells #[.int .i64 0, .bool false, .string tl, .int .i64 el] 23)).cell? ⟨w7.heap.size, 0, none⟩ = some (.int .i64 0) := Bx8.out.cell 0
      have yx1 : (w7.alloc (.cells #[.int .i64 0, .bool false, .string tl, .int .i64 el] 23)).cell? ⟨w7.heap.size, 1, none⟩ = some (.bool false) := Bx8.out.cell 1
      have yx2 : (w7.alloc (.cells #[.int .i64 0, .bool false, .string tl, .int .i64 el] 23)).cell? ⟨w7.heap.size, 2, none⟩ = some (.string tl) := Bx8.out.cell 2
      have yx3 : (w7.alloc (.cells #[.int .i64 0, .bool false, .string tl, .int .i64 el] 23)).cell? ⟨w7.heap.size, 3, none⟩ = some (.int .i64 el) := Bx8.out.cell 3
      go_wp2
      obtain ⟨W3, hW3⟩ : ∃ W3, W3 = (w7.alloc (.cells #[.int .i64 0, .bool false, .string tl, .int .i64 el] 23)) := ⟨_, rfl⟩
      rw [← hW3] at HB8 Ba8 Bl8 Bh8 Bx8 ya0 ya1 ya2 ya3 yl0 yl1 yl2 yl3 yh0 yh1 yh2 yh3 yx0 yx1 yx2 yx3
      have HW3 := hide hW3
      clear hW3
      have HL : Hid (w2.heap.size < W3.heap.size ∧ w4.heap.size < W3.heap.size) := ⟨Bl8.out.lt, Bh8.out.lt⟩
      simp only [← HW3.out]
      go_cut [12, 13] (fun vp vq wx => Cut2D W3 #[.int .i64 0, .bool false, .string tl, .int .i64 el] #[.int .i64 0, .bool false, .string tl, .int .i64 eh] vp vq wx)
      case first =>
        have nl3 : ¬ w2.heap.size = W3.heap.size := (by have := HL.out; omega)
        have ml3 : ¬ W3.heap.size = w2.heap.size := (by have := HL.out; omega)
        have nh3 : ¬ w4.heap.size = W3.heap.size := (by have := HL.out; omega)
        have mh3 : ¬ W3.heap.size = w4.heap.size := (by have := HL.out; omega)
        go_region_held3 (fun w' => w'.cell? ⟨w2.heap.size, 0, none⟩ = some (.int .i64 0) ∧ w'.cell? ⟨w2.heap.size, 1, none⟩ = some (.bool false) ∧ w'.cell? ⟨w2.heap.size, 2, none⟩ = some (.string tl) ∧ w'.cell? ⟨w2.heap.size, 3, none⟩ = some (.int .i64 el) ∧ w'.cell? ⟨w4.heap.size, 0, none⟩ = some (.int .i64 0) ∧ w'.cell? ⟨w4.heap.size, 1, none⟩ = some (.bool false) ∧ w'.cell? ⟨w4.heap.size, 2, none⟩ = some (.string tl) ∧ w'.cell? ⟨w4.heap.size, 3, none⟩ = some (.int .i64 eh)) (go_keep) (fail)
        all_goals (go_wp2_with fail; go_meet)
        all_goals (first | exact cut2_a | exact cut2_b)
      obtain ⟨⟨H, K, rfl, rfl, hq, hr, hH, hK, hHK, hbc⟩⟩ := hcut
      obtain ⟨w9, hwk⟩ : ∃ x, x = wc := ⟨_, rfl⟩
      subst hwk
      have Ba9 := hide (Ba8.out.below hbc Ba8.out.lt)
      have Bl9 := hide (Bl8.out.below hbc Bl8.out.lt)
      have Bh9 := hide (Bh8.out.below hbc Bh8.out.lt)
      have Bx9 := hide (Bx8.out.below hbc Bx8.out.lt)
      have Bn9 := hide hq
      have Bf9 := hide hr
      have HB9 := hide (HB8.out.trans (hbc.mono HB8.out.size))
      have HBT := hide (HBS.out.trans ((HW3.out ▸ ((Below.refl _ _).alloc (Nat.le_refl _) _ : Below _ _ _) : Below w7.heap.size w7 W3).trans (hbc.mono (by rw [HW3.out]; simp)) |>.mono HBS.out.size))
      have hhk : ¬ K = H := fun g => hHK g.symm
      have HHK := hide (show w.heap.size ≤ H ∧ w.heap.size ≤ K from ⟨Nat.le_trans HB8.out.size hH, Nat.le_trans HB8.out.size hK⟩)
      clear HL HBS hq hr hH hK hbc HW3 Ba8 Bl8 Bh8 Bx8 HB8 ya0 ya1 ya2 ya3 yl0 yl1 yl2 yl3 yh0 yh1 yh2 yh3 yx0 yx1 yx2 yx3
      have ya0 : w9.cell? ⟨w.heap.size, 0, none⟩ = some (.int .i64 0) := Ba9.out.cell 0
      have ya1 : w9.cell? ⟨w.heap.size, 1, none⟩ = some (.bool false) := Ba9.out.cell 1
      have ya2 : w9.cell? ⟨w.heap.size, 2, none⟩ = some (.string ta) := Ba9.out.cell 2
      have ya3 : w9.cell? ⟨w.heap.size, 3, none⟩ = some (.int .i64 ea) := Ba9.out.cell 3
      have yl0 : w9.cell? ⟨w2.heap.size, 0, none⟩ = some (.int .i64 0) := Bl9.out.cell 0
      have yl1 : w9.cell? ⟨w2.heap.size, 1, none⟩ = some (.bool false) := Bl9.out.cell 1
      have yl2 : w9.cell? ⟨w2.heap.size, 2, none⟩ = some (.string tl) := Bl9.out.cell 2
      have yl3 : w9.cell? ⟨w2.heap.size, 3, none⟩ = some (.int .i64 el) := Bl9.out.cell 3
      have yh0 : w9.cell? ⟨w4.heap.size, 0, none⟩ = some (.int .i64 0) := Bh9.out.cell 0
      have yh1 : w9.cell? ⟨w4.heap.size, 1, none⟩ = some (.bool false) := Bh9.out.cell 1
      have yh2 : w9.cell? ⟨w4.heap.size, 2, none⟩ = some (.string tl) := Bh9.out.cell 2
      have yh3 : w9.cell? ⟨w4.heap.size, 3, none⟩ = some (.int .i64 eh) := Bh9.out.cell 3
      have yx0 : w9.cell? ⟨w7.heap.size, 0, none⟩ = some (.int .i64 0) := Bx9.out.cell 0
      have yx1 : w9.cell? ⟨w7.heap.size, 1, none⟩ = some (.bool false) := Bx9.out.cell 1
      have yx2 : w9.cell? ⟨w7.heap.size, 2, none⟩ = some (.string tl) := Bx9.out.cell 2
      have yx3 : w9.cell? ⟨w7.heap.size, 3, none⟩ = some (.int .i64 el) := Bx9.out.cell 3
      have yn0 : w9.cell? ⟨H, 0, none⟩ = some (.int .i64 0) := Bn9.out.cell 0
      have yn1 : w9.cell? ⟨H, 1, none⟩ = some (.bool false) := Bn9.out.cell 1
      have yn2 : w9.cell? ⟨H, 2, none⟩ = some (.string tl) := Bn9.out.cell 2
      have yn3 : w9.cell? ⟨H, 3, none⟩ = some (.int .i64 el) := Bn9.out.cell 3
      have yf0 : w9.cell? ⟨K, 0, none⟩ = some (.int .i64 0) := Bf9.out.cell 0
      have yf1 : w9.cell? ⟨K, 1, none⟩ = some (.bool false) := Bf9.out.cell 1
      have yf2 : w9.cell? ⟨K, 2, none⟩ = some (.string tl) := Bf9.out.cell 2
      have yf3 : w9.cell? ⟨K, 3, none⟩ = some (.int .i64 eh) := Bf9.out.cell 3
      go_wp2
      go_roundw
      case rel => exact ⟨2 + 1, by first | omega | (have := HK.out; omega), by go_num, HBT.out⟩
      case measure => first | (simp [intOf]; done) | (simp [intOf]; omega) | (have := HK.out; simp [intOf]; omega)
    by_cases j3 : k = 3
    · skip
      obtain rfl : k = 3 := by omega
      clear hk hk8
      go_wp2_with fail
      refine (H3.out _ (HT.out.below HB6.out)).mono ?_
      rintro e w7 ⟨rfl, hb⟩
      have HBS := hide (HBR.out.trans (hb.mono HBR.out.size))
      clear HBR
      have Ba7 := hide (Ba6.out.below hb Ba6.out.lt)
      have Bl7 := hide (Bl6.out.below hb Bl6.out.lt)
      have Bh7 := hide (Bh6.out.below hb Bh6.out.lt)
      have HB7 := hide (HB6.out.trans (hb.mono HB6.out.size))
      clear hb Ba6 Bl6 Bh6 HB6 ya0 ya1 ya2 ya3 yl0 yl1 yl2 yl3 yh0 yh1 yh2 yh3
      have ya0 : w7.cell? ⟨w.heap.size, 0, none⟩ = some (.int .i64 0) := Ba7.out.cell 0
      have ya1 : w7.cell? ⟨w.heap.size, 1, none⟩ = some (.bool false) := Ba7.out.cell 1
      have ya2 : w7.cell? ⟨w.heap.size, 2, none⟩ = some (.string ta) := Ba7.out.cell 2
      have ya3 : w7.cell? ⟨w.heap.size, 3, none⟩ = some (.int .i64 ea) := Ba7.out.cell 3
      have yl0 : w7.cell? ⟨w2.heap.size, 0, none⟩ = some (.int .i64 0) := Bl7.out.cell 0
      have yl1 : w7.cell? ⟨w2.heap.size, 1, none⟩ = some (.bool false) := Bl7.out.cell 1
      have yl2 : w7.cell? ⟨w2.heap.size, 2, none⟩ = some (.string tl) := Bl7.out.cell 2
      have yl3 : w7.cell? ⟨w2.heap.size, 3, none⟩ = some (.int .i64 el) := Bl7.out.cell 3
      have yh0 : w7.cell? ⟨w4.heap.size, 0, none⟩ = some (.int .i64 0) := Bh7.out.cell 0
      have yh1 : w7.cell? ⟨w4.heap.size, 1, none⟩ = some (.bool false) := Bh7.out.cell 1
      have yh2 : w7.cell? ⟨w4.heap.size, 2, none⟩ = some (.string tl) := Bh7.out.cell 2
      have yh3 : w7.cell? ⟨w4.heap.size, 3, none⟩ = some (.int .i64 eh) := Bh7.out.cell 3
      have Ba8 := hide ((Ba7.out.alloc (.cells #[.int .i64 0, .bool false, .string tl, .int .i64 eh] 23)))
      have Bl8 := hide ((Bl7.out.alloc (.cells #[.int .i64 0, .bool false, .string tl, .int .i64 eh] 23)))
      have Bh8 := hide ((Bh7.out.alloc (.cells #[.int .i64 0, .bool false, .string tl, .int .i64 eh] 23)))
      have Bx8 := hide ((Blk.newAt w7 (w7.heap.size) (rfl) #[.int .i64 0, .bool false, .string tl, .int .i64 eh] 23))
      have HB8 : Hid (Below w.heap.size w (w7.alloc (.cells #[.int .i64 0, .bool false, .string tl, .int .i64 eh] 23))) := (HB7.out.alloc HB7.out.size _)
      clear Ba7 Bl7 Bh7 HB7 ya0 ya1 ya2 ya3 yl0 yl1 yl2 yl3 yh0 yh1 yh2 yh3
      have ya0 : (w7.alloc (.cells #[.int .i64 0, .bool false, .string tl, .int .i64 eh] 23)).cell? ⟨w.heap.size, 0, none⟩ = some (.int .i64 0) := Ba8.out.cell 0
      have ya1 : (w7.alloc (.cells #[.int .i64 0, .bool false, .string tl, .int .i64 eh] 23)).cell? ⟨w.heap.size, 1, none⟩ = some (.bool false) := Ba8.out.cell 1
      have ya2 : (w7.alloc (.cells #[.int .i64 0, .bool false, .string tl, .int .i64 eh] 23)).cell? ⟨w.heap.size, 2, none⟩ = some (.string ta) := Ba8.out.cell 2
      have ya3 : (w7.alloc (.cells #[.int .i64 0, .bool false, .string tl, .int .i64 eh] 23)).cell? ⟨w.heap.size, 3, none⟩ = some (.int .i64 ea) := Ba8.out.cell 3
      have yl0 : (w7.alloc (.cells #[.int .i64 0, .bool false, .string tl, .int .i64 eh] 23)).cell? ⟨w2.heap.size, 0, none⟩ = some (.int .i64 0) := Bl8.out.cell 0
      have yl1 : (w7.alloc (.cells #[.int .i64 0, .bool false, .string tl, .int .i64 eh] 23)).cell? ⟨w2.heap.size, 1, none⟩ = some (.bool false) := Bl8.out.cell 1
      have yl2 : (w7.alloc (.cells #[.int .i64 0, .bool false, .string tl, .int .i64 eh] 23)).cell? ⟨w2.heap.size, 2, none⟩ = some (.string tl) := Bl8.out.cell 2
      have yl3 : (w7.alloc (.cells #[.int .i64 0, .bool false, .string tl, .int .i64 eh] 23)).cell? ⟨w2.heap.size, 3, none⟩ = some (.int .i64 el) := Bl8.out.cell 3
      have yh0 : (w7.alloc (.cells #[.int .i64 0, .bool false, .string tl, .int .i64 eh] 23)).cell? ⟨w4.heap.size, 0, none⟩ = some (.int .i64 0) := Bh8.out.cell 0
      have yh1 : (w7.alloc (.cells #[.int .i64 0, .bool false, .string tl, .int .i64 eh] 23)).cell? ⟨w4.heap.size, 1, none⟩ = some (.bool false) := Bh8.out.cell 1
      have yh2 : (w7.alloc (.cells #[.int .i64 0, .bool false, .string tl, .int .i64 eh] 23)).cell? ⟨w4.heap.size, 2, none⟩ = some (.string tl) := Bh8.out.cell 2
      have yh3 : (w7.alloc (.cells #[.int .i64 0, .bool false, .string tl, .int .i64 eh] 23)).cell? ⟨w4.heap.size, 3, none⟩ = some (.int .i64 eh) := Bh8.out.cell 3
      have yx0 : (w7.alloc (.cells #[.int .i64 0, .bool false, .string tl, .int .i64 eh] 23)).cell? ⟨w7.heap.size, 0, none⟩ = some (.int .i64 0) := Bx8.out.cell 0
      have yx1 : (w7.alloc (.cells #[.int .i64 0, .bool false, .string tl, .int .i64 eh] 23)).cell? ⟨w7.heap.size, 1, none⟩ = some (.bool false) := Bx8.out.cell 1
      have yx2 : (w7.alloc (.cells #[.int .i64 0, .bool false, .string tl, .int .i64 eh] 23)).cell? ⟨w7.heap.size, 2, none⟩ = some (.string tl) := Bx8.out.cell 2
      have yx3 : (w7.alloc (.cells #[.int .i64 0, .bool false, .string tl, .int .i64 eh] 23)).cell? ⟨w7.heap.size, 3, none⟩ = some (.int .i64 eh) := Bx8.out.cell 3
      go_wp2
      obtain ⟨W3, hW3⟩ : ∃ W3, W3 = (w7.alloc (.cells #[.int .i64 0, .bool false, .string tl, .int .i64 eh] 23)) := ⟨_, rfl⟩
      rw [← hW3] at HB8 Ba8 Bl8 Bh8 Bx8 ya0 ya1 ya2 ya3 yl0 yl1 yl2 yl3 yh0 yh1 yh2 yh3 yx0 yx1 yx2 yx3
      have HW3 := hide hW3
      clear hW3
      have HL : Hid (w2.heap.size < W3.heap.size ∧ w4.heap.size < W3.heap.size) := ⟨Bl8.out.lt, Bh8.out.lt⟩
      simp only [← HW3.out]
      go_cut [12, 13] (fun vp vq wx => Cut2D W3 #[.int .i64 0, .bool false, .string tl, .int .i64 el] #[.int .i64 0, .bool false, .string tl, .int .i64 eh] vp vq wx)
      case first =>
        have nl3 : ¬ w2.heap.size = W3.heap.size := (by have := HL.out; omega)
        have ml3 : ¬ W3.heap.size = w2.heap.size := (by have := HL.out; omega)
        have nh3 : ¬ w4.heap.size = W3.heap.size := (by have := HL.out; omega)
        have mh3 : ¬ W3.heap.size = w4.heap.size := (by have := HL.out; omega)
        go_region_held3 (fun w' => w'.cell? ⟨w2.heap.size, 0, none⟩ = some (.int .i64 0) ∧ w'.cell? ⟨w2.heap.size, 1, none⟩ = some (.bool false) ∧ w'.cell? ⟨w2.heap.size, 2, none⟩ = some (.string tl) ∧ w'.cell? ⟨w2.heap.size, 3, none⟩ = some (.int .i64 el) ∧ w'.cell? ⟨w4.heap.size, 0, none⟩ = some (.int .i64 0) ∧ w'.cell? ⟨w4.heap.size, 1, none⟩ = some (.bool false) ∧ w'.cell? ⟨w4.heap.size, 2, none⟩ = some (.string tl) ∧ w'.cell? ⟨w4.heap.size, 3, none⟩ = some (.int .i64 eh)) (go_keep) (fail)
        all_goals (go_wp2_with fail; go_meet)
        all_goals (first | exact cut2_a | exact cut2_b)
      obtain ⟨⟨H, K, rfl, rfl, hq, hr, hH, hK, hHK, hbc⟩⟩ := hcut
      obtain ⟨w9, hwk⟩ : ∃ x, x = wc := ⟨_, rfl⟩
      subst hwk
      have Ba9 := hide (Ba8.out.below hbc Ba8.out.lt)
      have Bl9 := hide (Bl8.out.below hbc Bl8.out.lt)
      have Bh9 := hide (Bh8.out.below hbc Bh8.out.lt)
      have Bx9 := hide (Bx8.out.below hbc Bx8.out.lt)
      have Bn9 := hide hq
      have Bf9 := hide hr
      have HB9 := hide (HB8.out.trans (hbc.mono HB8.out.size))
      have HBT := hide (HBS.out.trans ((HW3.out ▸ ((Below.refl _ _).alloc (Nat.le_refl _) _ : Below _ _ _) : Below w7.heap.size w7 W3).trans (hbc.mono (by rw [HW3.out]; simp)) |>.mono HBS.out.size))
      have hhk : ¬ K = H := fun g => hHK g.symm
      have HHK := hide (show w.heap.size ≤ H ∧ w.heap.size ≤ K from ⟨Nat.le_trans HB8.out.size hH, Nat.le_trans HB8.out.size hK⟩)
      clear HL HBS hq hr hH hK hbc HW3 Ba8 Bl8 Bh8 Bx8 HB8 ya0 ya1 ya2 ya3 yl0 yl1 yl2 yl3 yh0 yh1 yh2 yh3 yx0 yx1 yx2 yx3
      have ya0 : w9.cell? ⟨w.heap.size, 0, none⟩ = some (.int .i64 0) := Ba9.out.cell 0
      have ya1 : w9.cell? ⟨w.heap.size, 1, none⟩ = some (.bool false) := Ba9.out.cell 1
      have ya2 : w9.cell? ⟨w.heap.size, 2, none⟩ = some (.string ta) := Ba9.out.cell 2
      have ya3 : w9.cell? ⟨w.heap.size, 3, none⟩ = some (.int .i64 ea) := Ba9.out.cell 3
      have yl0 : w9.cell? ⟨w2.heap.size, 0, none⟩ = some (.int .i64 0) := Bl9.out.cell 0
      have yl1 : w9.cell? ⟨w2.heap.size, 1, none⟩ = some (.bool false) := Bl9.out.cell 1
      have yl2 : w9.cell? ⟨w2.heap.size, 2, none⟩ = some (.string tl) := Bl9.out.cell 2
      have yl3 : w9.cell? ⟨w2.heap.size, 3, none⟩ = some (.int .i64 el) := Bl9.out.cell 3
      have yh0 : w9.cell? ⟨w4.heap.size, 0, none⟩ = some (.int .i64 0) := Bh9.out.cell 0
      have yh1 : w9.cell? ⟨w4.heap.size, 1, none⟩ = some (.bool false) := Bh9.out.cell 1
      have yh2 : w9.cell? ⟨w4.heap.size, 2, none⟩ = some (.string tl) := Bh9.out.cell 2
      have yh3 : w9.cell? ⟨w4.heap.size, 3, none⟩ = some (.int .i64 eh) := Bh9.out.cell 3
      have yx0 : w9.cell? ⟨w7.heap.size, 0, none⟩ = some (.int .i64 0) := Bx9.out.cell 0
      have yx1 : w9.cell? ⟨w7.heap.size, 1, none⟩ = some (.bool false) := Bx9.out.cell 1
      have yx2 : w9.cell? ⟨w7.heap.size, 2, none⟩ = some (.string tl) := Bx9.out.cell 2
      have yx3 : w9.cell? ⟨w7.heap.size, 3, none⟩ = some (.int .i64 eh) := Bx9.out.cell 3
      have yn0 : w9.cell? ⟨H, 0, none⟩ = some (.int .i64 0) := Bn9.out.cell 0
      have yn1 : w9.cell? ⟨H, 1, none⟩ = some (.bool false) := Bn9.out.cell 1
      have yn2 : w9.cell? ⟨H, 2, none⟩ = some (.string tl) := Bn9.out.cell 2
      have yn3 : w9.cell? ⟨H, 3, none⟩ = some (.int .i64 el) := Bn9.out.cell 3
      have yf0 : w9.cell? ⟨K, 0, none⟩ = some (.int .i64 0) := Bf9.out.cell 0
      have yf1 : w9.cell? ⟨K, 1, none⟩ = some (.bool false) := Bf9.out.cell 1
      have yf2 : w9.cell? ⟨K, 2, none⟩ = some (.string tl) := Bf9.out.cell 2
      have yf3 : w9.cell? ⟨K, 3, none⟩ = some (.int .i64 eh) := Bf9.out.cell 3
      go_wp2
      go_roundw
      case rel => exact ⟨3 + 1, by first | omega | (have := HK.out; omega), by go_num, HBT.out⟩
      case measure => first | (simp [intOf]; done) | (simp [intOf]; omega) | (have := HK.out; simp [intOf]; omega)
    have hk4 : 4 ≤ k := by omega
    clear j0 j1 j2 j3
    rcases H4.out k hk4 (by omega) with hm | hm
    · have HM := hide hm
      clear hm H0 H1 H2 H3 H4 H5
      have k2 : ((k : Int) == 2) = false := beq_false_of_ne (by omega)
      have k3 : ((k : Int) == 3) = false := beq_false_of_ne (by omega)
      have k8 : (k : Int) < 8 := by omega
      have HK := hide (show k < 8 by omega)
      clear hk hk8 hk4
      go_wp2_with fail
      refine (HM.out _ (HT.out.below HB6.out)).mono ?_
      rintro e w7 ⟨rfl, hb⟩
      have HBS := hide (HBR.out.trans (hb.mono HBR.out.size))
      clear HBR
      have Ba7 := hide (Ba6.out.below hb Ba6.out.lt)
      have Bl7 := hide (Bl6.out.below hb Bl6.out.lt)
      have Bh7 := hide (Bh6.out.below hb Bh6.out.lt)
      have HB7 := hide (HB6.out.trans (hb.mono HB6.out.size))
      clear hb Ba6 Bl6 Bh6 HB6 ya0 ya1 ya2 ya3 yl0 yl1 yl2 yl3 yh0 yh1 yh2 yh3
      have ya0 : w7.cell? ⟨w.heap.size, 0, none⟩ = some (.int .i64 0) := Ba7.out.cell 0
      have ya1 : w7.cell? ⟨w.heap.size, 1, none⟩ = some (.bool false) := Ba7.out.cell 1
      have ya2 : w7.cell? ⟨w.heap.size, 2, none⟩ = some (.string ta) := Ba7.out.cell 2
      have ya3 : w7.cell? ⟨w.heap.size, 3, none⟩ = some (.int .i64 ea) := Ba7.out.cell 3
      have yl0 : w7.cell? ⟨w2.heap.size, 0, none⟩ = some (.int .i64 0) := Bl7.out.cell 0
      have yl1 : w7.cell? ⟨w2.heap.size, 1, none⟩ = some (.bool false) := Bl7.out.cell 1
      have yl2 : w7.cell? ⟨w2.heap.size, 2, none⟩ = some (.string tl) := Bl7.out.cell 2
      have yl3 : w7.cell? ⟨w2.heap.size, 3, none⟩ = some (.int .i64 el) := Bl7.out.cell 3
      have yh0 : w7.cell? ⟨w4.heap.size, 0, none⟩ = some (.int .i64 0) := Bh7.out.cell 0
      have yh1 : w7.cell? ⟨w4.heap.size, 1, none⟩ = some (.bool false) := Bh7.out.cell 1
      have yh2 : w7.cell? ⟨w4.heap.size, 2, none⟩ = some (.string tl) := Bh7.out.cell 2
      have yh3 : w7.cell? ⟨w4.heap.size, 3, none⟩ = some (.int .i64 eh) := Bh7.out.cell 3
      have Ba8 := hide ((Ba7.out.alloc (.cells #[.int .i64 0, .bool false, .string tl, .int .i64 el] 23)))
      have Bl8 := hide ((Bl7.out.alloc (.cells #[.int .i64 0, .bool false, .string tl, .int .i64 el] 23)))
      have Bh8 := hide ((Bh7.out.alloc (.cells #[.int .i64 0, .bool false, .string tl, .int .i64 el] 23)))
      have Bx8 := hide ((Blk.newAt w7 (w7.heap.size) (rfl) #[.int .i64 0, .bool false, .string tl, .int .i64 el] 23))
      have HB8 : Hid (Below w.heap.size w (w7.alloc (.cells #[.int .i64 0, .bool false, .string tl, .int .i64 el] 23))) := (HB7.out.alloc HB7.out.size _)
      clear Ba7 Bl7 Bh7 HB7 ya0 ya1 ya2 ya3 yl0 yl1 yl2 yl3 yh0 yh1 yh2 yh3
      have ya0 : (w7.alloc (.cells #[.int .i64 0, .bool false, .string tl, .int .i64 el] 23)).cell? ⟨w.heap.size, 0, none⟩ = some (.int .i64 0) := Ba8.out.cell 0
      have ya1 : (w7.alloc (.cells #[.int .i64 0, .bool false, .string tl, .int .i64 el] 23)).cell? ⟨w.heap.size, 1, none⟩ = some (.bool false) := Ba8.out.cell 1
      have ya2 : (w7.alloc (.cells #[.int .i64 0, .bool false, .string tl, .int .i64 el] 23)).cell? ⟨w.heap.size, 2, none⟩ = some (.string ta) := Ba8.out.cell 2
      have ya3 : (w7.alloc (.cells #[.int .i64 0, .bool false, .string tl, .int .i64 el] 23)).cell? ⟨w.heap.size, 3, none⟩ = some (.int .i64 ea) := Ba8.out.cell 3
      have yl0 : (w7.alloc (.cells #[.int .i64 0, .bool false, .string tl, .int .i64 el] 23)).cell? ⟨w2.heap.size, 0, none⟩ = some (.int .i64 0) := Bl8.out.cell 0
      have yl1 : (w7.alloc (.cells #[.int .i64 0, .bool false, .string tl, .int .i64 el] 23)).cell? ⟨w2.heap.size, 1, none⟩ = some (.bool false) := Bl8.out.cell 1
      have yl2 : (w7.alloc (.cells #[.int .i64 0, .bool false, .string tl, .int .i64 el] 23)).cell? ⟨w2.heap.size, 2, none⟩ = some (.string tl) := Bl8.out.cell 2
      have yl3 : (w7.alloc (.cells #[.int .i64 0, .bool false, .string tl, .int .i64 el] 23)).cell? ⟨w2.heap.size, 3, none⟩ = some (.int .i64 el) := Bl8.out.cell 3
      have yh0 : (w7.alloc (.cells #[.int .i64 0, .bool false, .string tl, .int .i64 el] 23)).cell? ⟨w4.heap.size, 0, none⟩ = some (.int .i64 0) := Bh8.out.cell 0
      have yh1 : (w7.alloc (.cells #[.int .i64 0, .bool false, .string tl, .int .i64 el] 23)).cell? ⟨w4.heap.size, 1, none⟩ = some (.bool false) := Bh8.out.cell 1
      have yh2 : (w7.alloc (.cells #[.int .i64 0, .bool false, .string tl, .int .i64 el] 23)).cell? ⟨w4.heap.size, 2, none⟩ = some (.string tl) := Bh8.out.cell 2
      have yh3 : (w7.alloc (.cells #[.int .i64 0, .bool false, .string tl, .int .i64 el] 23)).cell? ⟨w4.heap.size, 3, none⟩ = some (.int .i64 eh) := Bh8.out.cell 3
      have yx0 : (w7.alloc (.cells #[.int .i64 0, .bool false, .string tl, .int .i64 el] 23)).cell? ⟨w7.heap.size, 0, none⟩ = some (.int .i64 0) := Bx8.out.cell 0
      have yx1 : (w7.alloc (.cells #[.int .i64 0, .bool false, .string tl, .int .i64 el] 23)).cell? ⟨w7.heap.size, 1, none⟩ = some (.bool false) := Bx8.out.cell 1
      have yx2 : (w7.alloc (.cells #[.int .i64 0, .bool false, .string tl, .int .i64 el] 23)).cell? ⟨w7.heap.size, 2, none⟩ = some (.string tl) := Bx8.out.cell 2
      have yx3 : (w7.alloc (.cells #[.int .i64 0, .bool false, .string tl, .int .i64 el] 23)).cell? ⟨w7.heap.size, 3, none⟩ = some (.int .i64 el) := Bx8.out.cell 3
      go_wp2
      obtain ⟨W3, hW3⟩ : ∃ W3, W3 = (w7.alloc (.cells #[.int .i64 0, .bool false, .string tl, .int .i64 el] 23)) := ⟨_, rfl⟩
      rw [← hW3] at HB8 Ba8 Bl8 Bh8 Bx8 ya0 ya1 ya2 ya3 yl0 yl1 yl2 yl3 yh0 yh1 yh2 yh3 yx0 yx1 yx2 yx3
      have HW3 := hide hW3
      clear hW3
      have HL : Hid (w2.heap.size < W3.heap.size ∧ w4.heap.size < W3.heap.size) := ⟨Bl8.out.lt, Bh8.out.lt⟩
      simp only [← HW3.out]
      go_cut [12, 13] (fun vp vq wx => Cut2D W3 #[.int .i64 0, .bool false, .string tl, .int .i64 el] #[.int .i64 0, .bool false, .string tl, .int .i64 eh] vp vq wx)
      case first =>
        have nl3 : ¬ w2.heap.size = W3.heap.size := (by have := HL.out; omega)
        have ml3 : ¬ W3.heap.size = w2.heap.size := (by have := HL.out; omega)
        have nh3 : ¬ w4.heap.size = W3.heap.size := (by have := HL.out; omega)
        have mh3 : ¬ W3.heap.size = w4.heap.size := (by have := HL.out; omega)
        go_region_held3 (fun w' => w'.cell? ⟨w2.heap.size, 0, none⟩ = some (.int .i64 0) ∧ w'.cell? ⟨w2.heap.size, 1, none⟩ = some (.bool false) ∧ w'.cell? ⟨w2.heap.size, 2, none⟩ = some (.string tl) ∧ w'.cell? ⟨w2.heap.size, 3, none⟩ = some (.int .i64 el) ∧ w'.cell? ⟨w4.heap.size, 0, none⟩ = some (.int .i64 0) ∧ w'.cell? ⟨w4.heap.size, 1, none⟩ = some (.bool false) ∧ w'.cell? ⟨w4.heap.size, 2, none⟩ = some (.string tl) ∧ w'.cell? ⟨w4.heap.size, 3, none⟩ = some (.int .i64 eh)) (go_keep) (fail)
        all_goals (go_wp2_with fail; go_meet)
        all_goals (first | exact cut2_a | exact cut2_b)
      obtain ⟨⟨H, K, rfl, rfl, hq, hr, hH, hK, hHK, hbc⟩⟩ := hcut
      obtain ⟨w9, hwk⟩ : ∃ x, x = wc := ⟨_, rfl⟩
      subst hwk
      have Ba9 := hide (Ba8.out.below hbc Ba8.out.lt)
      have Bl9 := hide (Bl8.out.below hbc Bl8.out.lt)
      have Bh9 := hide (Bh8.out.below hbc Bh8.out.lt)
      have Bx9 := hide (Bx8.out.below hbc Bx8.out.lt)
      have Bn9 := hide hq
      have Bf9 := hide hr
      have HB9 := hide (HB8.out.trans (hbc.mono HB8.out.size))
      have HBT := hide (HBS.out.trans ((HW3.out ▸ ((Below.refl _ _).alloc (Nat.le_refl _) _ : Below _ _ _) : Below w7.heap.size w7 W3).trans (hbc.mono (by rw [HW3.out]; simp)) |>.mono HBS.out.size))
      have hhk : ¬ K = H := fun g => hHK g.symm
      have HHK := hide (show w.heap.size ≤ H ∧ w.heap.size ≤ K from ⟨Nat.le_trans HB8.out.size hH, Nat.le_trans HB8.out.size hK⟩)
      clear HL HBS hq hr hH hK hbc HW3 Ba8 Bl8 Bh8 Bx8 HB8 ya0 ya1 ya2 ya3 yl0 yl1 yl2 yl3 yh0 yh1 yh2 yh3 yx0 yx1 yx2 yx3
      have ya0 : w9.cell? ⟨w.heap.size, 0, none⟩ = some (.int .i64 0) := Ba9.out.cell 0
      have ya1 : w9.cell? ⟨w.heap.size, 1, none⟩ = some (.bool false) := Ba9.out.cell 1
      have ya2 : w9.cell? ⟨w.heap.size, 2, none⟩ = some (.string ta) := Ba9.out.cell 2
      have ya3 : w9.cell? ⟨w.heap.size, 3, none⟩ = some (.int .i64 ea) := Ba9.out.cell 3
      have yl0 : w9.cell? ⟨w2.heap.size, 0, none⟩ = some (.int .i64 0) := Bl9.out.cell 0
      have yl1 : w9.cell? ⟨w2.heap.size, 1, none⟩ = some (.bool false) := Bl9.out.cell 1
      have yl2 : w9.cell? ⟨w2.heap.size, 2, none⟩ = some (.string tl) := Bl9.out.cell 2
      have yl3 : w9.cell? ⟨w2.heap.size, 3, none⟩ = some (.int .i64 el) := Bl9.out.cell 3
      have yh0 : w9.cell? ⟨w4.heap.size, 0, none⟩ = some (.int .i64 0) := Bh9.out.cell 0
      have yh1 : w9.cell? ⟨w4.heap.size, 1, none⟩ = some (.bool false) := Bh9.out.cell 1
      have yh2 : w9.cell? ⟨w4.heap.size, 2, none⟩ = some (.string tl) := Bh9.out.cell 2
      have yh3 : w9.cell? ⟨w4.heap.size, 3, none⟩ = some (.int .i64 eh) := Bh9.out.cell 3
      have yx0 : w9.cell? ⟨w7.heap.size, 0, none⟩ = some (.int .i64 0) := Bx9.out.cell 0
      have yx1 : w9.cell? ⟨w7.heap.size, 1, none⟩ = some (.bool false) := Bx9.out.cell 1
      have yx2 : w9.cell? ⟨w7.heap.size, 2, none⟩ = some (.string tl) := Bx9.out.cell 2
      have yx3 : w9.cell? ⟨w7.heap.size, 3, none⟩ = some (.int .i64 el) := Bx9.out.cell 3
      have yn0 : w9.cell? ⟨H, 0, none⟩ = some (.int .i64 0) := Bn9.out.cell 0
      have yn1 : w9.cell? ⟨H, 1, none⟩ = some (.bool false) := Bn9.out.cell 1
      have yn2 : w9.cell? ⟨H, 2, none⟩ = some (.string tl) := Bn9.out.cell 2
      have yn3 : w9.cell? ⟨H, 3, none⟩ = some (.int .i64 el) := Bn9.out.cell 3
      have yf0 : w9.cell? ⟨K, 0, none⟩ = some (.int .i64 0) := Bf9.out.cell 0
      have yf1 : w9.cell? ⟨K, 1, none⟩ = some (.bool false) := Bf9.out.cell 1
      have yf2 : w9.cell? ⟨K, 2, none⟩ = some (.string tl) := Bf9.out.cell 2
      have yf3 : w9.cell? ⟨K, 3, none⟩ = some (.int .i64 eh) := Bf9.out.cell 3
      go_wp2
      go_roundw
      case rel => exact ⟨k + 1, by first | omega | (have := HK.out; omega), by go_num, HBT.out⟩
      case measure => first | (simp [intOf]; done) | (simp [intOf]; omega) | (have := HK.out; simp [intOf]; omega)
    · have HM := hide hm
      clear hm H0 H1 H2 H3 H4 H5
      have k2 : ((k : Int) == 2) = false := beq_false_of_ne (by omega)
      have k3 : ((k : Int) == 3) = false := beq_false_of_ne (by omega)
      have k8 : (k : Int) < 8 := by omega
      have HK := hide (show k < 8 by omega)
      clear hk hk8 hk4
      go_wp2_with fail
      refine (HM.out _ (HT.out.below HB6.out)).mono ?_
      rintro e w7 ⟨rfl, hb⟩
      have HBS := hide (HBR.out.trans (hb.mono HBR.out.size))
      clear HBR
      have Ba7 := hide (Ba6.out.below hb Ba6.out.lt)
      have Bl7 := hide (Bl6.out.below hb Bl6.out.lt)
      have Bh7 := hide (Bh6.out.below hb Bh6.out.lt)
      have HB7 := hide (HB6.out.trans (hb.mono HB6.out.size))
      clear hb Ba6 Bl6 Bh6 HB6 ya0 ya1 ya2 ya3 yl0 yl1 yl2 yl3 yh0 yh1 yh2 yh3
      have ya0 : w7.cell? ⟨w.heap.size, 0, none⟩ = some (.int .i64 0) := Ba7.out.cell 0
      have ya1 : w7.cell? ⟨w.heap.size, 1, none⟩ = some (.bool false) := Ba7.out.cell 1
      have ya2 : w7.cell? ⟨w.heap.size, 2, none⟩ = some (.string ta) := Ba7.out.cell 2
      have ya3 : w7.cell? ⟨w.heap.size, 3, none⟩ = some (.int .i64 ea) := Ba7.out.cell 3
      have yl0 : w7.cell? ⟨w2.heap.size, 0, none⟩ = some (.int .i64 0) := Bl7.out.cell 0
      have yl1 : w7.cell? ⟨w2.heap.size, 1, none⟩ = some (.bool false) := Bl7.out.cell 1
      have yl2 : w7.cell? ⟨w2.heap.size, 2, none⟩ = some (.string tl) := Bl7.out.cell 2
      have yl3 : w7.cell? ⟨w2.heap.size, 3, none⟩ = some (.int .i64 el) := Bl7.out.cell 3
      have yh0 : w7.cell? ⟨w4.heap.size, 0, none⟩ = some (.int .i64 0) := Bh7.out.cell 0
      have yh1 : w7.cell? ⟨w4.heap.size, 1, none⟩ = some (.bool false) := Bh7.out.cell 1
      have yh2 : w7.cell? ⟨w4.heap.size, 2, none⟩ = some (.string tl) := Bh7.out.cell 2
      have yh3 : w7.cell? ⟨w4.heap.size, 3, none⟩ = some (.int .i64 eh) := Bh7.out.cell 3
      have Ba8 := hide ((Ba7.out.alloc (.cells #[.int .i64 0, .bool false, .string tl, .int .i64 eh] 23)))
      have Bl8 := hide ((Bl7.out.alloc (.cells #[.int .i64 0, .bool false, .string tl, .int .i64 eh] 23)))
      have Bh8 := hide ((Bh7.out.alloc (.cells #[.int .i64 0, .bool false, .string tl, .int .i64 eh] 23)))
      have Bx8 := hide ((Blk.newAt w7 (w7.heap.size) (rfl) #[.int .i64 0, .bool false, .string tl, .int .i64 eh] 23))
      have HB8 : Hid (Below w.heap.size w (w7.alloc (.cells #[.int .i64 0, .bool false, .string tl, .int .i64 eh] 23))) := (HB7.out.alloc HB7.out.size _)
      clear Ba7 Bl7 Bh7 HB7 ya0 ya1 ya2 ya3 yl0 yl1 yl2 yl3 yh0 yh1 yh2 yh3
      have ya0 : (w7.alloc (.cells #[.int .i64 0, .bool false, .string tl, .int .i64 eh] 23)).cell? ⟨w.heap.size, 0, none⟩ = some (.int .i64 0) := Ba8.out.cell 0
      have ya1 : (w7.alloc (.cells #[.int .i64 0, .bool false, .string tl, .int .i64 eh] 23)).cell? ⟨w.heap.size, 1, none⟩ = some (.bool false) := Ba8.out.cell 1
      have ya2 : (w7.alloc (.cells #[.int .i64 0, .bool false, .string tl, .int .i64 eh] 23)).cell? ⟨w.heap.size, 2, none⟩ = some (.string ta) := Ba8.out.cell 2
      have ya3 : (w7.alloc (.cells #[.int .i64 0, .bool false, .string tl, .int .i64 eh] 23)).cell? ⟨w.heap.size, 3, none⟩ = some (.int .i64 ea) := Ba8.out.cell 3
      have yl0 : (w7.alloc (.cells #[.int .i64 0, .bool false, .string tl, .int .i64 eh] 23)).cell? ⟨w2.heap.size, 0, none⟩ = some (.int .i64 0) := Bl8.out.cell 0
      have yl1 : (w7.alloc (.cells #[.int .i64 0, .bool false, .string tl, .int .i64 eh] 23)).cell? ⟨w2.heap.size, 1, none⟩ = some (.bool false) := Bl8.out.cell 1
      have yl2 : (w7.alloc (.cells #[.int .i64 0, .bool false, .string tl, .int .i64 eh] 23)).cell? ⟨w2.heap.size, 2, none⟩ = some (.string tl) := Bl8.out.cell 2
      have yl3 : (w7.alloc (.cells #[.int .i64 0, .bool false, .string tl, .int .i64 eh] 23)).cell? ⟨w2.heap.size, 3, none⟩ = some (.int .i64 el) := Bl8.out.cell 3
      have yh0 : (w7.alloc (.cells #[.int .i64 0, .bool false, .string tl, .int .i64 eh] 23)).cell? ⟨w4.heap.size, 0, none⟩ = some (.int .i64 0) := Bh8.out.cell 0
      have yh1 : (w7.alloc (.cells #[.int .i64 0, .bool false, .string tl, .int .i64 eh] 23)).cell? ⟨w4.heap.size, 1, none⟩ = some (.bool false) := Bh8.out.cell 1
      have yh2 : (w7.alloc (.cells #[.int .i64 0, .bool false, .string tl, .int .i64 eh] 23)).cell? ⟨w4.heap.size, 2, none⟩ = some (.string tl) := Bh8.out.cell 2
      have yh3 : (w7.alloc (.cells #[.int .i64 0, .bool false, .string tl, .int .i64 eh] 23)).cell? ⟨w4.heap.size, 3, none⟩ = some (.int .i64 eh) := Bh8.out.cell 3
      have yx0 : (w7.alloc (.cells #[.int .i64 0, .bool false, .string tl, .int .i64 eh] 23)).cell? ⟨w7.heap.size, 0, none⟩ = some (.int .i64 0) := Bx8.out.cell 0
      have yx1 : (w7.alloc (.cells #[.int .i64 0, .bool false, .string tl, .int .i64 eh] 23)).cell? ⟨w7.heap.size, 1, none⟩ = some (.bool false) := Bx8.out.cell 1
      have yx2 : (w7.alloc (.cells #[.int .i64 0, .bool false, .string tl, .int .i64 eh] 23)).cell? ⟨w7.heap.size, 2, none⟩ = some (.string tl) := Bx8.out.cell 2
      have yx3 : (w7.alloc (.cells #[.int .i64 0, .bool false, .string tl, .int .i64 eh] 23)).cell? ⟨w7.heap.size, 3, none⟩ = some (.int .i64 eh) := Bx8.out.cell 3
      go_wp2
      obtain ⟨W3, hW3⟩ : ∃ W3, W3 = (w7.alloc (.cells #[.int .i64 0, .bool false, .string tl, .int .i64 eh] 23)) := ⟨_, rfl⟩
      rw [← hW3] at HB8 Ba8 Bl8 Bh8 Bx8 ya0 ya1 ya2 ya3 yl0 yl1 yl2 yl3 yh0 yh1 yh2 yh3 yx0 yx1 yx2 yx3
      have HW3 := hide hW3
      clear hW3
      have HL : Hid (w2.heap.size < W3.heap.size ∧ w4.heap.size < W3.heap.size) := ⟨Bl8.out.lt, Bh8.out.lt⟩
      simp only [← HW3.out]
      go_cut [12, 13] (fun vp vq wx => Cut2D W3 #[.int .i64 0, .bool false, .string tl, .int .i64 el] #[.int .i64 0, .bool false, .string tl, .int .i64 eh] vp vq wx)
      case first =>
        have nl3 : ¬ w2.heap.size = W3.heap.size := (by have := HL.out; omega)
        have ml3 : ¬ W3.heap.size = w2.heap.size := (by have := HL.out; omega)
        have nh3 : ¬ w4.heap.size = W3.heap.size := (by have := HL.out; omega)
        have mh3 : ¬ W3.heap.size = w4.heap.size := (by have := HL.out; omega)
        go_region_held3 (fun w' => w'.cell? ⟨w2.heap.size, 0, none⟩ = some (.int .i64 0) ∧ w'.cell? ⟨w2.heap.size, 1, none⟩ = some (.bool false) ∧ w'.cell? ⟨w2.heap.size, 2, none⟩ = some (.string tl) ∧ w'.cell? ⟨w2.heap.size, 3, none⟩ = some (.int .i64 el) ∧ w'.cell? ⟨w4.heap.size, 0, none⟩ = some (.int .i64 0) ∧ w'.cell? ⟨w4.heap.size, 1, none⟩ = some (.bool false) ∧ w'.cell? ⟨w4.heap.size, 2, none⟩ = some (.string tl) ∧ w'.cell? ⟨w4.heap.size, 3, none⟩ = some (.int .i64 eh)) (go_keep) (fail)
        all_goals (go_wp2_with fail; go_meet)
        all_goals (first | exact cut2_a | exact cut2_b)
      obtain ⟨⟨H, K, rfl, rfl, hq, hr, hH, hK, hHK, hbc⟩⟩ := hcut
      obtain ⟨w9, hwk⟩ : ∃ x, x = wc := ⟨_, rfl⟩
      subst hwk
      have Ba9 := hide (Ba8.out.below hbc Ba8.out.lt)
      have Bl9 := hide (Bl8.out.below hbc Bl8.out.lt)
      have Bh9 := hide (Bh8.out.below hbc Bh8.out.lt)
      have Bx9 := hide (Bx8.out.below hbc Bx8.out.lt)
      have Bn9 := hide hq
      have Bf9 := hide hr
      have HB9 := hide (HB8.out.trans (hbc.mono HB8.out.size))
      have HBT := hide (HBS.out.trans ((HW3.out ▸ ((Below.refl _ _).alloc (Nat.le_refl _) _ : Below _ _ _) : Below w7.heap.size w7 W3).trans (hbc.mono (by rw [HW3.out]; simp)) |>.mono HBS.out.size))
      have hhk : ¬ K = H := fun g => hHK g.symm
      have HHK := hide (show w.heap.size ≤ H ∧ w.heap.size ≤ K from ⟨Nat.le_trans HB8.out.size hH, Nat.le_trans HB8.out.size hK⟩)
      clear HL HBS hq hr hH hK hbc HW3 Ba8 Bl8 Bh8 Bx8 HB8 ya0 ya1 ya2 ya3 yl0 yl1 yl2 yl3 yh0 yh1 yh2 yh3 yx0 yx1 yx2 yx3
      have ya0 : w9.cell? ⟨w.heap.size, 0, none⟩ = some (.int .i64 0) := Ba9.out.cell 0
      have ya1 : w9.cell? ⟨w.heap.size, 1, none⟩ = some (.bool false) := Ba9.out.cell 1
      have ya2 : w9.cell? ⟨w.heap.size, 2, none⟩ = some (.string ta) := Ba9.out.cell 2
      have ya3 : w9.cell? ⟨w.heap.size, 3, none⟩ = some (.int .i64 ea) := Ba9.out.cell 3
      have yl0 : w9.cell? ⟨w2.heap.size, 0, none⟩ = some (.int .i64 0) := Bl9.out.cell 0
      have yl1 : w9.cell? ⟨w2.heap.size, 1, none⟩ = some (.bool false) := Bl9.out.cell 1
      have yl2 : w9.cell? ⟨w2.heap.size, 2, none⟩ = some (.string tl) := Bl9.out.cell 2
      have yl3 : w9.cell? ⟨w2.heap.size, 3, none⟩ = some (.int .i64 el) := Bl9.out.cell 3
      have yh0 : w9.cell? ⟨w4.heap.size, 0, none⟩ = some (.int .i64 0) := Bh9.out.cell 0
      have yh1 : w9.cell? ⟨w4.heap.size, 1, none⟩ = some (.bool false) := Bh9.out.cell 1
      have yh2 : w9.cell? ⟨w4.heap.size, 2, none⟩ = some (.string tl) := Bh9.out.cell 2
      have yh3 : w9.cell? ⟨w4.heap.size, 3, none⟩ = some (.int .i64 eh) := Bh9.out.cell 3
      have yx0 : w9.cell? ⟨w7.heap.size, 0, none⟩ = some (.int .i64 0) := Bx9.out.cell 0
      have yx1 : w9.cell? ⟨w7.heap.size, 1, none⟩ = some (.bool false) := Bx9.out.cell 1
      have yx2 : w9.cell? ⟨w7.heap.size, 2, none⟩ = some (.string tl) := Bx9.out.cell 2
      have yx3 : w9.cell? ⟨w7.heap.size, 3, none⟩ = some (.int .i64 eh) := Bx9.out.cell 3
      have yn0 : w9.cell? ⟨H, 0, none⟩ = some (.int .i64 0) := Bn9.out.cell 0
      have yn1 : w9.cell? ⟨H, 1, none⟩ = some (.bool false) := Bn9.out.cell 1
      have yn2 : w9.cell? ⟨H, 2, none⟩ = some (.string tl) := Bn9.out.cell 2
      have yn3 : w9.cell? ⟨H, 3, none⟩ = some (.int .i64 el) := Bn9.out.cell 3
      have yf0 : w9.cell? ⟨K, 0, none⟩ = some (.int .i64 0) := Bf9.out.cell 0
      have yf1 : w9.cell? ⟨K, 1, none⟩ = some (.bool false) := Bf9.out.cell 1
      have yf2 : w9.cell? ⟨K, 2, none⟩ = some (.string tl) := Bf9.out.cell 2
      have yf3 : w9.cell? ⟨K, 3, none⟩ = some (.int .i64 eh) := Bf9.out.cell 3
      go_wp2
      go_roundw
      case rel => exact ⟨k + 1, by first | omega | (have := HK.out; omega), by go_num, HBT.out⟩
      case measure => first | (simp [intOf]; done) | (simp [intOf]; omega) | (have := HK.out; simp [intOf]; omega)

end Go.Proofs.YtcclbcnmkaobpaaGreatDoor

namespace Go.Proofs.YtcclbcnmkaobpaaGreatDoor
open Go.RowKit

set_option maxRecDepth 100000 in
set_option maxHeartbeats 8000000 in
theorem order_fee (tl : ByteArray) (el : Int) (eh : Int) (ea : Int) (p : Int) (w : World) (htab : Tab w) (q1 : (el == eh) = false) (q2 : (eh == el) = false) (q3 : (el == ea) = false) (g0 : ∀ W, Tab W → Calls Tryz.prog 11 #[.agg #[.int .i64 0, .bool false, .string tl, .int .i64 ea], .int .i64 p, .int .i64 0] W fun e w' => e = .returned (.tuple #[.agg #[.int .i64 0, .bool false, .string tl, .int .i64 eh], .int .i64 0]) ∧ Below W.heap.size W w') (g1 : ∀ W, Tab W → Calls Tryz.prog 11 #[.agg #[.int .i64 0, .bool false, .string tl, .int .i64 ea], .int .i64 p, .int .i64 1] W fun e w' => e = .returned (.tuple #[.agg #[.int .i64 0, .bool false, .string tl, .int .i64 el], .int .i64 0]) ∧ Below W.heap.size W w') (g2 : ∀ W, Tab W → Calls Tryz.prog 11 #[.agg #[.int .i64 0, .bool false, .string tl, .int .i64 ea], .int .i64 p, .int .i64 2] W fun e w' => e = .returned (.tuple #[.agg #[.int .i64 0, .bool false, .string tl, .int .i64 el], .int .i64 0]) ∧ Below W.heap.size W w') (g3 : ∀ W, Tab W → Calls Tryz.prog 11 #[.agg #[.int .i64 0, .bool false, .string tl, .int .i64 ea], .int .i64 p, .int .i64 3] W fun e w' => e = .returned (.tuple #[.agg #[.int .i64 0, .bool false, .string tl, .int .i64 eh], .int .i64 0]) ∧ Below W.heap.size W w') (g4 : ∀ k : Nat, 4 ≤ k → k < 8 → (∀ W, Tab W → Calls Tryz.prog 11 #[.agg #[.int .i64 0, .bool false, .string tl, .int .i64 ea], .int .i64 p, .int .i64 (k : Int)] W fun e w' => e = .returned (.tuple #[.agg #[.int .i64 0, .bool false, .string tl, .int .i64 el], .int .i64 0]) ∧ Below W.heap.size W w') ∨ (∀ W, Tab W → Calls Tryz.prog 11 #[.agg #[.int .i64 0, .bool false, .string tl, .int .i64 ea], .int .i64 p, .int .i64 (k : Int)] W fun e w' => e = .returned (.tuple #[.agg #[.int .i64 0, .bool false, .string tl, .int .i64 eh], .int .i64 0]) ∧ Below W.heap.size W w')) (g5 : ∀ W, Calls Tryz.prog 20 #[.agg #[.int .i64 0, .bool false, .string tl, .int .i64 eh], .agg #[.int .i64 0, .bool false, .string tl, .int .i64 el]] W fun e w' => e = .returned (.bool false) ∧ Below W.heap.size W w') : Calls Tryz.prog 10 #[.agg #[.int .i64 0, .bool false, .string tl, .int .i64 ea], .int .i64 p] w fun e w' => e = .returned (.bool true) ∧ Below w.heap.size w w' := by
  have H0 := hide g0
  have H1 := hide g1
  have H2 := hide g2
  have H3 := hide g3
  have H4 := hide g4
  have H5 := hide g5
  have HT := hide htab
  clear htab g0 g1 g2 g3 g4 g5
  have Ba0 := hide (Blk.newAt w (w.heap.size) (rfl) #[.int .i64 0, .bool false, .string tl, .int .i64 ea] 23)
  have HB0 : Hid (Below w.heap.size w (w.alloc (.cells #[.int .i64 0, .bool false, .string tl, .int .i64 ea] 23))) := ((Below.refl _ _).alloc (Nat.le_refl _) _)
  go_enter Tryz.func10, Tryz.ntmps10
  go_wp2_with fail
  refine (rawake_any _ (HT.out.below HB0.out)).mono ?_
  rintro e w1 ⟨rfl, hb⟩
  have Ba1 := hide (Ba0.out.below hb Ba0.out.lt)
  have HB1 := hide (HB0.out.trans (hb.mono HB0.out.size))
  clear hb Ba0 HB0 
  have ya0 : w1.cell? ⟨w.heap.size, 0, none⟩ = some (.int .i64 0) := Ba1.out.cell 0
  have ya1 : w1.cell? ⟨w.heap.size, 1, none⟩ = some (.bool false) := Ba1.out.cell 1
  have ya2 : w1.cell? ⟨w.heap.size, 2, none⟩ = some (.string tl) := Ba1.out.cell 2
  have ya3 : w1.cell? ⟨w.heap.size, 3, none⟩ = some (.int .i64 ea) := Ba1.out.cell 3
  go_wp2_with fail
  refine (H1.out _ (HT.out.below HB1.out)).mono ?_
  rintro e w2 ⟨rfl, hb⟩
  have Ba2 := hide (Ba1.out.below hb Ba1.out.lt)
  have HB2 := hide (HB1.out.trans (hb.mono HB1.out.size))
  clear hb Ba1 HB1 ya0 ya1 ya2 ya3
  have ya0 : w2.cell? ⟨w.heap.size, 0, none⟩ = some (.int .i64 0) := Ba2.out.cell 0
  have ya1 : w2.cell? ⟨w.heap.size, 1, none⟩ = some (.bool false) := Ba2.out.cell 1
  have ya2 : w2.cell? ⟨w.heap.size, 2, none⟩ = some (.string tl) := Ba2.out.cell 2
  have ya3 : w2.cell? ⟨w.heap.size, 3, none⟩ = some (.int .i64 ea) := Ba2.out.cell 3
  have Ba3 := hide ((Ba2.out.alloc (.cells #[.int .i64 0, .bool false, .string tl, .int .i64 el] 23)))
  have Bl3 := hide ((Blk.newAt w2 (w2.heap.size) (rfl) #[.int .i64 0, .bool false, .string tl, .int .i64 el] 23))
  have HB3 : Hid (Below w.heap.size w (w2.alloc (.cells #[.int .i64 0, .bool false, .string tl, .int .i64 el] 23))) := (HB2.out.alloc HB2.out.size _)
  clear Ba2 HB2 ya0 ya1 ya2 ya3
  have ya0 : (w2.alloc (.cells #[.int .i64 0, .bool false, .string tl, .int .i64 el] 23)).cell? ⟨w.heap.size, 0, none⟩ = some (.int .i64 0) := Ba3.out.cell 0
  have ya1 : (w2.alloc (.cells #[.int .i64 0, .bool false, .string tl, .int .i64 el] 23)).cell? ⟨w.heap.size, 1, none⟩ = some (.bool false) := Ba3.out.cell 1
  have ya2 : (w2.alloc (.cells #[.int .i64 0, .bool false, .string tl, .int .i64 el] 23)).cell? ⟨w.heap.size, 2, none⟩ = some (.string tl) := Ba3.out.cell 2
  have ya3 : (w2.alloc (.cells #[.int .i64 0, .bool false, .string tl, .int .i64 el] 23)).cell? ⟨w.heap.size, 3, none⟩ = some (.int .i64 ea) := Ba3.out.cell 3
  have yl0 : (w2.alloc (.cells #[.int .i64 0, .bool false, .string tl, .int .i64 el] 23)).cell? ⟨w2.heap.size, 0, none⟩ = some (.int .i64 0) := Bl3.out.cell 0
  have yl1 : (w2.alloc (.cells #[.int .i64 0, .bool false, .string tl, .int .i64 el] 23)).cell? ⟨w2.heap.size, 1, none⟩ = some (.bool false) := Bl3.out.cell 1
  have yl2 : (w2.alloc (.cells #[.int .i64 0, .bool false, .string tl, .int .i64 el] 23)).cell? ⟨w2.heap.size, 2, none⟩ = some (.string tl) := Bl3.out.cell 2
  have yl3 : (w2.alloc (.cells #[.int .i64 0, .bool false, .string tl, .int .i64 el] 23)).cell? ⟨w2.heap.size, 3, none⟩ = some (.int .i64 el) := Bl3.out.cell 3
  go_wp2_with fail
  refine (H0.out _ (HT.out.below HB3.out)).mono ?_
  rintro e w4 ⟨rfl, hb⟩
  have Ba4 := hide (Ba3.out.below hb Ba3.out.lt)
  have Bl4 := hide (Bl3.out.below hb Bl3.out.lt)
  have HB4 := hide (HB3.out.trans (hb.mono HB3.out.size))
  clear hb Ba3 Bl3 HB3 ya0 ya1 ya2 ya3 yl0 yl1 yl2 yl3
  have ya0 : w4.cell? ⟨w.heap.size, 0, none⟩ = some (.int .i64 0) := Ba4.out.cell 0
  have ya1 : w4.cell? ⟨w.heap.size, 1, none⟩ = some (.bool false) := Ba4.out.cell 1
  have ya2 : w4.cell? ⟨w.heap.size, 2, none⟩ = some (.string tl) := Ba4.out.cell 2
  have ya3 : w4.cell? ⟨w.heap.size, 3, none⟩ = some (.int .i64 ea) := Ba4.out.cell 3
  have yl0 : w4.cell? ⟨w2.heap.size, 0, none⟩ = some (.int .i64 0) := Bl4.out.cell 0
  have yl1 : w4.cell? ⟨w2.heap.size, 1, none⟩ = some (.bool false) := Bl4.out.cell 1
  have yl2 : w4.cell? ⟨w2.heap.size, 2, none⟩ = some (.string tl) := Bl4.out.cell 2
  have yl3 : w4.cell? ⟨w2.heap.size, 3, none⟩ = some (.int .i64 el) := Bl4.out.cell 3
  have Ba5 := hide ((Ba4.out.alloc (.cells #[.int .i64 0, .bool false, .string tl, .int .i64 eh] 23)))
  have Bl5 := hide ((Bl4.out.alloc (.cells #[.int .i64 0, .bool false, .string tl, .int .i64 eh] 23)))
  have Bh5 := hide ((Blk.newAt w4 (w4.heap.size) (rfl) #[.int .i64 0, .bool false, .string tl, .int .i64 eh] 23))
  have HB5 : Hid (Below w.heap.size w (w4.alloc (.cells #[.int .i64 0, .bool false, .string tl, .int .i64 eh] 23))) := (HB4.out.alloc HB4.out.size _)
  clear Ba4 Bl4 HB4 ya0 ya1 ya2 ya3 yl0 yl1 yl2 yl3
  have ya0 : (w4.alloc (.cells #[.int .i64 0, .bool false, .string tl, .int .i64 eh] 23)).cell? ⟨w.heap.size, 0, none⟩ = some (.int .i64 0) := Ba5.out.cell 0
  have ya1 : (w4.alloc (.cells #[.int .i64 0, .bool false, .string tl, .int .i64 eh] 23)).cell? ⟨w.heap.size, 1, none⟩ = some (.bool false) := Ba5.out.cell 1
  have ya2 : (w4.alloc (.cells #[.int .i64 0, .bool false, .string tl, .int .i64 eh] 23)).cell? ⟨w.heap.size, 2, none⟩ = some (.string tl) := Ba5.out.cell 2
  have ya3 : (w4.alloc (.cells #[.int .i64 0, .bool false, .string tl, .int .i64 eh] 23)).cell? ⟨w.heap.size, 3, none⟩ = some (.int .i64 ea) := Ba5.out.cell 3
  have yl0 : (w4.alloc (.cells #[.int .i64 0, .bool false, .string tl, .int .i64 eh] 23)).cell? ⟨w2.heap.size, 0, none⟩ = some (.int .i64 0) := Bl5.out.cell 0
  have yl1 : (w4.alloc (.cells #[.int .i64 0, .bool false, .string tl, .int .i64 eh] 23)).cell? ⟨w2.heap.size, 1, none⟩ = some (.bool false) := Bl5.out.cell 1
  have yl2 : (w4.alloc (.cells #[.int .i64 0, .bool false, .string tl, .int .i64 eh] 23)).cell? ⟨w2.heap.size, 2, none⟩ = some (.string tl) := Bl5.out.cell 2
  have yl3 : (w4.alloc (.cells #[.int .i64 0, .bool false, .string tl, .int .i64 eh] 23)).cell? ⟨w2.heap.size, 3, none⟩ = some (.int .i64 el) := Bl5.out.cell 3
  have yh0 : (w4.alloc (.cells #[.int .i64 0, .bool false, .string tl, .int .i64 eh] 23)).cell? ⟨w4.heap.size, 0, none⟩ = some (.int .i64 0) := Bh5.out.cell 0
  have yh1 : (w4.alloc (.cells #[.int .i64 0, .bool false, .string tl, .int .i64 eh] 23)).cell? ⟨w4.heap.size, 1, none⟩ = some (.bool false) := Bh5.out.cell 1
  have yh2 : (w4.alloc (.cells #[.int .i64 0, .bool false, .string tl, .int .i64 eh] 23)).cell? ⟨w4.heap.size, 2, none⟩ = some (.string tl) := Bh5.out.cell 2
  have yh3 : (w4.alloc (.cells #[.int .i64 0, .bool false, .string tl, .int .i64 eh] 23)).cell? ⟨w4.heap.size, 3, none⟩ = some (.int .i64 eh) := Bh5.out.cell 3
  obtain ⟨W2, hW2⟩ : ∃ W2, W2 = (w4.alloc (.cells #[.int .i64 0, .bool false, .string tl, .int .i64 eh] 23)) := ⟨_, rfl⟩
  rw [← hW2] at HB5 Ba5 Bl5 Bh5 ya0 ya1 ya2 ya3 yl0 yl1 yl2 yl3 yh0 yh1 yh2 yh3
  have HW2 := hide hW2
  clear hW2
  go_wp2
  simp only [← HW2.out]
  go_loopw [9] (fun iv wr => ∃ k : Nat, k ≤ 8 ∧ iv = .int .i64 (k : Int) ∧ Hid (Below W2.heap.size W2 wr)) (fun iv _ => 8 - (intOf iv).toNat)
  case atStart => exact ⟨0, by omega, rfl, Below.refl _ _⟩
  case round =>
    obtain ⟨k, hk, rfl, hbr⟩ := hrel
    have Ba6 := hide (Ba5.out.below hbr.out Ba5.out.lt)
    have Bl6 := hide (Bl5.out.below hbr.out Bl5.out.lt)
    have Bh6 := hide (Bh5.out.below hbr.out Bh5.out.lt)
    have HB6 := hide (HB5.out.trans (hbr.out.mono HB5.out.size))
    have HBR : Hid (Below W2.heap.size W2 wr) := hbr
    clear hbr HW2 Ba5 Bl5 Bh5 HB5 ya0 ya1 ya2 ya3 yl0 yl1 yl2 yl3 yh0 yh1 yh2 yh3
    have ya0 : wr.cell? ⟨w.heap.size, 0, none⟩ = some (.int .i64 0) := Ba6.out.cell 0
    have ya1 : wr.cell? ⟨w.heap.size, 1, none⟩ = some (.bool false) := Ba6.out.cell 1
    have ya2 : wr.cell? ⟨w.heap.size, 2, none⟩ = some (.string tl) := Ba6.out.cell 2
    have ya3 : wr.cell? ⟨w.heap.size, 3, none⟩ = some (.int .i64 ea) := Ba6.out.cell 3
    have yl0 : wr.cell? ⟨w2.heap.size, 0, none⟩ = some (.int .i64 0) := Bl6.out.cell 0
    have yl1 : wr.cell? ⟨w2.heap.size, 1, none⟩ = some (.bool false) := Bl6.out.cell 1
    have yl2 : wr.cell? ⟨w2.heap.size, 2, none⟩ = some (.string tl) := Bl6.out.cell 2
    have yl3 : wr.cell? ⟨w2.heap.size, 3, none⟩ = some (.int .i64 el) := Bl6.out.cell 3
    have yh0 : wr.cell? ⟨w4.heap.size, 0, none⟩ = some (.int .i64 0) := Bh6.out.cell 0
    have yh1 : wr.cell? ⟨w4.heap.size, 1, none⟩ = some (.bool false) := Bh6.out.cell 1
    have yh2 : wr.cell? ⟨w4.heap.size, 2, none⟩ = some (.string tl) := Bh6.out.cell 2
    have yh3 : wr.cell? ⟨w4.heap.size, 3, none⟩ = some (.int .i64 eh) := Bh6.out.cell 3
    by_cases hk8 : k = 8
    · skip
      subst hk8
      clear hk HBR HT H0 H1 H2 H3 H4
      have b0 : Hid (Below wr.heap.size wr wr.drew) := bdrewD wr
      have C0 : Hid (∀ X, Hid (Below wr.heap.size wr X) → Calls Tryz.prog 20 #[.agg #[.int .i64 0, .bool false, .string tl, .int .i64 eh], .agg #[.int .i64 0, .bool false, .string tl, .int .i64 el]] X fun e w' => e = .returned (.bool false) ∧ Hid (Below wr.heap.size wr w') ∧ w'.cell? ⟨w.heap.size, 0, none⟩ = some (.int .i64 0) ∧ w'.cell? ⟨w.heap.size, 1, none⟩ = some (.bool false) ∧ w'.cell? ⟨w.heap.size, 2, none⟩ = some (.string tl) ∧ w'.cell? ⟨w.heap.size, 3, none⟩ = some (.int .i64 ea) ∧ w'.cell? ⟨w2.heap.size, 0, none⟩ = some (.int .i64 0) ∧ w'.cell? ⟨w2.heap.size, 1, none⟩ = some (.bool false) ∧ w'.cell? ⟨w2.heap.size, 2, none⟩ = some (.string tl) ∧ w'.cell? ⟨w2.heap.size, 3, none⟩ = some (.int .i64 el) ∧ w'.cell? ⟨w4.heap.size, 0, none⟩ = some (.int .i64 0) ∧ w'.cell? ⟨w4.heap.size, 1, none⟩ = some (.bool false) ∧ w'.cell? ⟨w4.heap.size, 2, none⟩ = some (.string tl) ∧ w'.cell? ⟨w4.heap.size, 3, none⟩ = some (.int .i64 eh)) := by
        intro X bX
        refine (H5.out X).mono ?_
        rintro e w' ⟨rfl, hb⟩
        have bb := bX.out.trans (hb.mono bX.out.size)
        have Baq := Ba6.out.below bb Ba6.out.lt
        have Blq := Bl6.out.below bb Bl6.out.lt
        have Bhq := Bh6.out.below bb Bh6.out.lt
        exact ⟨rfl, bb, Baq.cell 0, Baq.cell 1, Baq.cell 2, Baq.cell 3, Blq.cell 0, Blq.cell 1, Blq.cell 2, Blq.cell 3, Bhq.cell 0, Bhq.cell 1, Bhq.cell 2, Bhq.cell 3⟩
      go_wp2_with fail
      have mk0 : True := trivial
      go_region_held3 (fun w' => w'.cell? ⟨w.heap.size, 0, none⟩ = some (.int .i64 0) ∧ w'.cell? ⟨w.heap.size, 1, none⟩ = some (.bool false) ∧ w'.cell? ⟨w.heap.size, 2, none⟩ = some (.string tl) ∧ w'.cell? ⟨w.heap.size, 3, none⟩ = some (.int .i64 ea) ∧ w'.cell? ⟨w2.heap.size, 0, none⟩ = some (.int .i64 0) ∧ w'.cell? ⟨w2.heap.size, 1, none⟩ = some (.bool false) ∧ w'.cell? ⟨w2.heap.size, 2, none⟩ = some (.string tl) ∧ w'.cell? ⟨w2.heap.size, 3, none⟩ = some (.int .i64 el) ∧ w'.cell? ⟨w4.heap.size, 0, none⟩ = some (.int .i64 0) ∧ w'.cell? ⟨w4.heap.size, 1, none⟩ = some (.bool false) ∧ w'.cell? ⟨w4.heap.size, 2, none⟩ = some (.string tl) ∧ w'.cell? ⟨w4.heap.size, 3, none⟩ = some (.int .i64 eh)) (go_keep) (first
        | (clear mk0; go_at_call 20; refine (C0.out _ b0).mono ?_; rintro e w7 ⟨rfl, b1, q0_0, q0_1, q0_2, q0_3, q0_4, q0_5, q0_6, q0_7, q0_8, q0_9, q0_10, q0_11⟩; have mk1 : True := trivial))
      have Ba7 := hide (Ba6.out.below b1.out Ba6.out.lt)
      have Bl7 := hide (Bl6.out.below b1.out Bl6.out.lt)
      have Bh7 := hide (Bh6.out.below b1.out Bh6.out.lt)
      have HB7 := hide (HB6.out.trans (b1.out.mono HB6.out.size))
      clear mk1 b0 b1 C0 q0_0 q0_1 q0_2 q0_3 q0_4 q0_5 q0_6 q0_7 q0_8 q0_9 q0_10 q0_11 Ba6 Bl6 Bh6 HB6 ya0 ya1 ya2 ya3 yl0 yl1 yl2 yl3 yh0 yh1 yh2 yh3
      have ya0 : w7.cell? ⟨w.heap.size, 0, none⟩ = some (.int .i64 0) := Ba7.out.cell 0
      have ya1 : w7.cell? ⟨w.heap.size, 1, none⟩ = some (.bool false) := Ba7.out.cell 1
      have ya2 : w7.cell? ⟨w.heap.size, 2, none⟩ = some (.string tl) := Ba7.out.cell 2
      have ya3 : w7.cell? ⟨w.heap.size, 3, none⟩ = some (.int .i64 ea) := Ba7.out.cell 3
      have yl0 : w7.cell? ⟨w2.heap.size, 0, none⟩ = some (.int .i64 0) := Bl7.out.cell 0
      have yl1 : w7.cell? ⟨w2.heap.size, 1, none⟩ = some (.bool false) := Bl7.out.cell 1
      have yl2 : w7.cell? ⟨w2.heap.size, 2, none⟩ = some (.string tl) := Bl7.out.cell 2
      have yl3 : w7.cell? ⟨w2.heap.size, 3, none⟩ = some (.int .i64 el) := Bl7.out.cell 3
      have yh0 : w7.cell? ⟨w4.heap.size, 0, none⟩ = some (.int .i64 0) := Bh7.out.cell 0
      have yh1 : w7.cell? ⟨w4.heap.size, 1, none⟩ = some (.bool false) := Bh7.out.cell 1
      have yh2 : w7.cell? ⟨w4.heap.size, 2, none⟩ = some (.string tl) := Bh7.out.cell 2
      have yh3 : w7.cell? ⟨w4.heap.size, 3, none⟩ = some (.int .i64 eh) := Bh7.out.cell 3
      go_wp2
      go_ret
      exact ⟨rfl, HB7.out⟩
    by_cases j0 : k = 0
    · skip
      obtain rfl : k = 0 := by omega
      clear hk hk8
      go_wp2_with fail
      refine (H0.out _ (HT.out.below HB6.out)).mono ?_
      rintro e w7 ⟨rfl, hb⟩
      have HBS := hide (HBR.out.trans (hb.mono HBR.out.size))
      clear HBR
      have Ba7 := hide (Ba6.out.below hb Ba6.out.lt)
      have Bl7 := hide (Bl6.out.below hb Bl6.out.lt)
      have Bh7 := hide (Bh6.out.below hb Bh6.out.lt)
      have HB7 := hide (HB6.out.trans (hb.mono HB6.out.size))
      clear hb Ba6 Bl6 Bh6 HB6 ya0 ya1 ya2 ya3 yl0 yl1 yl2 yl3 yh0 yh1 yh2 yh3
      have ya0 : w7.cell? ⟨w.heap.size, 0, none⟩ = some (.int .i64 0) := Ba7.out.cell 0
      have ya1 : w7.cell? ⟨w.heap.size, 1, none⟩ = some (.bool false) := Ba7.out.cell 1
      have ya2 : w7.cell? ⟨w.heap.size, 2, none⟩ = some (.string tl) := Ba7.out.cell 2
      have ya3 : w7.cell? ⟨w.heap.size, 3, none⟩ = some (.int .i64 ea) := Ba7.out.cell 3
      have yl0 : w7.cell? ⟨w2.heap.size, 0, none⟩ = some (.int .i64 0) := Bl7.out.cell 0
      have yl1 : w7.cell? ⟨w2.heap.size, 1, none⟩ = some (.bool false) := Bl7.out.cell 1
      have yl2 : w7.cell? ⟨w2.heap.size, 2, none⟩ = some (.string tl) := Bl7.out.cell 2
      have yl3 : w7.cell? ⟨w2.heap.size, 3, none⟩ = some (.int .i64 el) := Bl7.out.cell 3
      have yh0 : w7.cell? ⟨w4.heap.size, 0, none⟩ = some (.int .i64 0) := Bh7.out.cell 0
      have yh1 : w7.cell? ⟨w4.heap.size, 1, none⟩ = some (.bool false) := Bh7.out.cell 1
      have yh2 : w7.cell? ⟨w4.heap.size, 2, none⟩ = some (.string tl) := Bh7.out.cell 2
      have yh3 : w7.cell? ⟨w4.heap.size, 3, none⟩ = some (.int .i64 eh) := Bh7.out.cell 3
      have Ba8 := hide ((Ba7.out.alloc (.cells #[.int .i64 0, .bool false, .string tl, .int .i64 eh] 23)))
      have Bl8 := hide ((Bl7.out.alloc (.cells #[.int .i64 0, .bool false, .string tl, .int .i64 eh] 23)))
      have Bh8 := hide ((Bh7.out.alloc (.cells #[.int .i64 0, .bool false, .string tl, .int .i64 eh] 23)))
      have Bx8 := hide ((Blk.newAt w7 (w7.heap.size) (rfl) #[.int .i64 0, .bool false, .string tl, .int .i64 eh] 23))
      have HB8 : Hid (Below w.heap.size w (w7.alloc (.cells #[.int .i64 0, .bool false, .string tl, .int .i64 eh] 23))) := (HB7.out.alloc HB7.out.size _)
      clear Ba7 Bl7 Bh7 HB7 ya0 ya1 ya2 ya3 yl0 yl1 yl2 yl3 yh0 yh1 yh2 yh3
      have ya0 : (w7.alloc (.cells #[.int .i64 0, .bool false, .string tl, .int .i64 eh] 23)).cell? ⟨w.heap.size, 0, none⟩ = some (.int .i64 0) := Ba8.out.cell 0
      have ya1 : (w7.alloc (.cells #[.int .i64 0, .bool false, .string tl, .int .i64 eh] 23)).cell? ⟨w.heap.size, 1, none⟩ = some (.bool false) := Ba8.out.cell 1
      have ya2 : (w7.alloc (.cells #[.int .i64 0, .bool false, .string tl, .int .i64 eh] 23)).cell? ⟨w.heap.size, 2, none⟩ = some (.string tl) := Ba8.out.cell 2
      have ya3 : (w7.alloc (.cells #[.int .i64 0, .bool false, .string tl, .int .i64 eh] 23)).cell? ⟨w.heap.size, 3, none⟩ = some (.int .i64 ea) := Ba8.out.cell 3
      have yl0 : (w7.alloc (.cells #[.int .i64 0, .bool false, .string tl, .int .i64 eh] 23)).cell? ⟨w2.heap.size, 0, none⟩ = some (.int .i64 0) := Bl8.out.cell 0
      have yl1 : (w7.alloc (.cells #[.int .i64 0, .bool false, .string tl, .int .i64 eh] 23)).cell? ⟨w2.heap.size, 1, none⟩ = some (.bool false) := Bl8.out.cell 1
      have yl2 : (w7.alloc (.cells #[.int .i64 0, .bool false, .string tl, .int .i64 eh] 23)).cell? ⟨w2.heap.size, 2, none⟩ = some (.string tl) := Bl8.out.cell 2
      have yl3 : (w7.alloc (.cells #[.int .i64 0, .bool false, .string tl, .int .i64 eh] 23)).cell? ⟨w2.heap.size, 3, none⟩ = some (.int .i64 el) := Bl8.out.cell 3
      have yh0 : (w7.alloc (.cells #[.int .i64 0, .bool false, .string tl, .int .i64 eh] 23)).cell? ⟨w4.heap.size, 0, none⟩ = some (.int .i64 0) := Bh8.out.cell 0
      have yh1 : (w7.alloc (.cells #[.int .i64 0, .bool false, .string tl, .int .i64 eh] 23)).cell? ⟨w4.heap.size, 1, none⟩ = some (.bool false) := Bh8.out.cell 1
      have yh2 : (w7.alloc (.cells #[.int .i64 0, .bool false, .string tl, .int .i64 eh] 23)).cell? ⟨w4.heap.size, 2, none⟩ = some (.string tl) := Bh8.out.cell 2
      have yh3 : (w7.alloc (.cells #[.int .i64 0, .bool false, .string tl, .int .i64 eh] 23)).cell? ⟨w4.heap.size, 3, none⟩ = some (.int .i64 eh) := Bh8.out.cell 3
      have yx0 : (w7.alloc (.cells #[.int .i64 0, .bool false, .string tl, .int .i64 eh] 23)).cell? ⟨w7.heap.size, 0, none⟩ = some (.int .i64 0) := Bx8.out.cell 0
      have yx1 : (w7.alloc (.cells #[.int .i64 0, .bool false, .string tl, .int .i64 eh] 23)).cell? ⟨w7.heap.size, 1, none⟩ = some (.bool false) := Bx8.out.cell 1
      have yx2 : (w7.alloc (.cells #[.int .i64 0, .bool false, .string tl, .int .i64 eh] 23)).cell? ⟨w7.heap.size, 2, none⟩ = some (.string tl) := Bx8.out.cell 2
      have yx3 : (w7.alloc (.cells #[.int .i64 0, .bool false, .string tl, .int .i64 eh] 23)).cell? ⟨w7.heap.size, 3, none⟩ = some (.int .i64 eh) := Bx8.out.cell 3
      go_wp2
      obtain ⟨W3, hW3⟩ : ∃ W3, W3 = (w7.alloc (.cells #[.int .i64 0, .bool false, .string tl, .int .i64 eh] 23)) := ⟨_, rfl⟩
      rw [← hW3] at HB8 Ba8 Bl8 Bh8 Bx8 ya0 ya1 ya2 ya3 yl0 yl1 yl2 yl3 yh0 yh1 yh2 yh3 yx0 yx1 yx2 yx3
      have HW3 := hide hW3
      clear hW3
      have HL : Hid (w2.heap.size < W3.heap.size ∧ w4.heap.size < W3.heap.size) := ⟨Bl8.out.lt, Bh8.out.lt⟩
      simp only [← HW3.out]
      go_cut [12, 13] (fun vp vq wx => Cut2D W3 #[.int .i64 0, .bool false, .string tl, .int .i64 el] #[.int .i64 0, .bool false, .string tl, .int .i64 eh] vp vq wx)
      case first =>
        have nl3 : ¬ w2.heap.size = W3.heap.size := (by have := HL.out; omega)
        have ml3 : ¬ W3.heap.size = w2.heap.size := (by have := HL.out; omega)
        have nh3 : ¬ w4.heap.size = W3.heap.size := (by have := HL.out; omega)
        have mh3 : ¬ W3.heap.size = w4.heap.size := (by have := HL.out; omega)
        go_region_held3 (fun w' => w'.cell? ⟨w2.heap.size, 0, none⟩ = some (.int .i64 0) ∧ w'.cell? ⟨w2.heap.size, 1, none⟩ = some (.bool false) ∧ w'.cell? ⟨w2.heap.size, 2, none⟩ = some (.string tl) ∧ w'.cell? ⟨w2.heap.size, 3, none⟩ = some (.int .i64 el) ∧ w'.cell? ⟨w4.heap.size, 0, none⟩ = some (.int .i64 0) ∧ w'.cell? ⟨w4.heap.size, 1, none⟩ = some (.bool false) ∧ w'.cell? ⟨w4.heap.size, 2, none⟩ = some (.string tl) ∧ w'.cell? ⟨w4.heap.size, 3, none⟩ = some (.int .i64 eh)) (go_keep) (fail)
        all_goals (go_wp2_with fail; go_meet)
        all_goals (first | exact cut2_a | exact cut2_b)
      obtain ⟨⟨H, K, rfl, rfl, hq, hr, hH, hK, hHK, hbc⟩⟩ := hcut
      obtain ⟨w9, hwk⟩ : ∃ x, x = wc := ⟨_, rfl⟩
      subst hwk
      have Ba9 := hide (Ba8.out.below hbc Ba8.out.lt)
      have Bl9 := hide (Bl8.out.below hbc Bl8.out.lt)
      have Bh9 := hide (Bh8.out.below hbc Bh8.out.lt)
      have Bx9 := hide (Bx8.out.below hbc Bx8.out.lt)
      have Bn9 := hide hq
      have Bf9 := hide hr
      have HB9 := hide (HB8.out.trans (hbc.mono HB8.out.size))
      have HBT := hide (HBS.out.trans ((HW3.out ▸ ((Below.refl _ _).alloc (Nat.le_refl _) _ : Below _ _ _) : Below w7.heap.size w7 W3).trans (hbc.mono (by rw [HW3.out]; simp)) |>.mono HBS.out.size))
      have hhk : ¬ K = H := fun g => hHK g.symm
      have HHK := hide (show w.heap.size ≤ H ∧ w.heap.size ≤ K from ⟨Nat.le_trans HB8.out.size hH, Nat.le_trans HB8.out.size hK⟩)
      clear HL HBS hq hr hH hK hbc HW3 Ba8 Bl8 Bh8 Bx8 HB8 ya0 ya1 ya2 ya3 yl0 yl1 yl2 yl3 yh0 yh1 yh2 yh3 yx0 yx1 yx2 yx3
      have ya0 : w9.cell? ⟨w.heap.size, 0, none⟩ = some (.int .i64 0) := Ba9.out.cell 0
      have ya1 : w9.cell? ⟨w.heap.size, 1, none⟩ = some (.bool false) := Ba9.out.cell 1
      have ya2 : w9.cell? ⟨w.heap.size, 2, none⟩ = some (.string tl) := Ba9.out.cell 2
      have ya3 : w9.cell? ⟨w.heap.size, 3, none⟩ = some (.int .i64 ea) := Ba9.out.cell 3
      have yl0 : w9.cell? ⟨w2.heap.size, 0, none⟩ = some (.int .i64 0) := Bl9.out.cell 0
      have yl1 : w9.cell? ⟨w2.heap.size, 1, none⟩ = some (.bool false) := Bl9.out.cell 1
      have yl2 : w9.cell? ⟨w2.heap.size, 2, none⟩ = some (.string tl) := Bl9.out.cell 2
      have yl3 : w9.cell? ⟨w2.heap.size, 3, none⟩ = some (.int .i64 el) := Bl9.out.cell 3
      have yh0 : w9.cell? ⟨w4.heap.size, 0, none⟩ = some (.int .i64 0) := Bh9.out.cell 0
      have yh1 : w9.cell? ⟨w4.heap.size, 1, none⟩ = some (.bool false) := Bh9.out.cell 1
      have yh2 : w9.cell? ⟨w4.heap.size, 2, none⟩ = some (.string tl) := Bh9.out.cell 2
      have yh3 : w9.cell? ⟨w4.heap.size, 3, none⟩ = some (.int .i64 eh) := Bh9.out.cell 3
      have yx0 : w9.cell? ⟨w7.heap.size, 0, none⟩ = some (.int .i64 0) := Bx9.out.cell 0
      have yx1 : w9.cell? ⟨w7.heap.size, 1, none⟩ = some (.bool false) := Bx9.out.cell 1
      have yx2 : w9.cell? ⟨w7.heap.size, 2, none⟩ = some (.string tl) := Bx9.out.cell 2
      have yx3 : w9.cell? ⟨w7.heap.size, 3, none⟩ = some (.int .i64 eh) := Bx9.out.cell 3
      have yn0 : w9.cell? ⟨H, 0, none⟩ = some (.int .i64 0) := Bn9.out.cell 0
      have yn1 : w9.cell? ⟨H, 1, none⟩ = some (.bool false) := Bn9.out.cell 1
      have yn2 : w9.cell? ⟨H, 2, none⟩ = some (.string tl) := Bn9.out.cell 2
      have yn3 : w9.cell? ⟨H, 3, none⟩ = some (.int .i64 el) := Bn9.out.cell 3
      have yf0 : w9.cell? ⟨K, 0, none⟩ = some (.int .i64 0) := Bf9.out.cell 0
      have yf1 : w9.cell? ⟨K, 1, none⟩ = some (.bool false) := Bf9.out.cell 1
      have yf2 : w9.cell? ⟨K, 2, none⟩ = some (.string tl) := Bf9.out.cell 2
      have yf3 : w9.cell? ⟨K, 3, none⟩ = some (.int .i64 eh) := Bf9.out.cell 3
      go_wp2
      go_roundw
      case rel => exact ⟨0 + 1, by first | omega | (have := HK.out; omega), by go_num, HBT.out⟩
      case measure => first | (simp [intOf]; done) | (simp [intOf]; omega) | (have := HK.out; simp [intOf]; omega)
    by_cases j1 : k = 1
    · skip
      obtain rfl : k = 1 := by omega
      clear hk hk8
      go_wp2_with fail
      refine (H1.out _ (HT.out.below HB6.out)).mono ?_
      rintro e w7 ⟨rfl, hb⟩
      have HBS := hide (HBR.out.trans (hb.mono HBR.out.size))
      clear HBR
      have Ba7 := hide (Ba6.out.below hb Ba6.out.lt)
      have Bl7 := hide (Bl6.out.below hb Bl6.out.lt)
      have Bh7 := hide (Bh6.out.below hb Bh6.out.lt)
      have HB7 := hide (HB6.out.trans (hb.mono HB6.out.size))
      clear hb Ba6 Bl6 Bh6 HB6 ya0 ya1 ya2 ya3 yl0 yl1 yl2 yl3 yh0 yh1 yh2 yh3
      have ya0 : w7.cell? ⟨w.heap.size, 0, none⟩ = some (.int .i64 0) := Ba7.out.cell 0
      have ya1 : w7.cell? ⟨w.heap.size, 1, none⟩ = some (.bool false) := Ba7.out.cell 1
      have ya2 : w7.cell? ⟨w.heap.size, 2, none⟩ = some (.string tl) := Ba7.out.cell 2
      have ya3 : w7.cell? ⟨w.heap.size, 3, none⟩ = some (.int .i64 ea) := Ba7.out.cell 3
      have yl0 : w7.cell? ⟨w2.heap.size, 0, none⟩ = some (.int .i64 0) := Bl7.out.cell 0
      have yl1 : w7.cell? ⟨w2.heap.size, 1, none⟩ = some (.bool false) := Bl7.out.cell 1
      have yl2 : w7.cell? ⟨w2.heap.size, 2, none⟩ = some (.string tl) := Bl7.out.cell 2
      have yl3 : w7.cell? ⟨w2.heap.size, 3, none⟩ = some (.int .i64 el) := Bl7.out.cell 3
      have yh0 : w7.cell? ⟨w4.heap.size, 0, none⟩ = some (.int .i64 0) := Bh7.out.cell 0
      have yh1 : w7.cell? ⟨w4.heap.size, 1, none⟩ = some (.bool false) := Bh7.out.cell 1
      have yh2 : w7.cell? ⟨w4.heap.size, 2, none⟩ = some (.string tl) := Bh7.out.cell 2
      have yh3 : w7.cell? ⟨w4.heap.size, 3, none⟩ = some (.int .i64 eh) := Bh7.out.cell 3
      have Ba8 := hide ((Ba7.out.alloc (.cells #[.int .i64 0, .bool false, .string tl, .int .i64 el] 23)))
      have Bl8 := hide ((Bl7.out.alloc (.cells #[.int .i64 0, .bool false, .string tl, .int .i64 el] 23)))
      have Bh8 := hide ((Bh7.out.alloc (.cells #[.int .i64 0, .bool false, .string tl, .int .i64 el] 23)))
      have Bx8 := hide ((Blk.newAt w7 (w7.heap.size) (rfl) #[.int .i64 0, .bool false, .string tl, .int .i64 el] 23))
      have HB8 : Hid (Below w.heap.size w (w7.alloc (.cells #[.int .i64 0, .bool false, .string tl, .int .i64 el] 23))) := (HB7.out.alloc HB7.out.size _)
      clear Ba7 Bl7 Bh7 HB7 ya0 ya1 ya2 ya3 yl0 yl1 yl2 yl3 yh0 yh1 yh2 yh3
      have ya0 : (w7.alloc (.cells #[.int .i64 0, .bool false, .string tl, .int .i64 el] 23)).cell? ⟨w.heap.size, 0, none⟩ = some (.int .i64 0) := Ba8.out.cell 0
      have ya1 : (w7.alloc (.cells #[.int .i64 0, .bool false, .string tl, .int .i64 el] 23)).cell? ⟨w.heap.size, 1, none⟩ = some (.bool false) := Ba8.out.cell 1
      have ya2 : (w7.alloc (.cells #[.int .i64 0, .bool false, .string tl, .int .i64 el] 23)).cell? ⟨w.heap.size, 2, none⟩ = some (.string tl) := Ba8.out.cell 2
      have ya3 : (w7.alloc (.cells #[.int .i64 0, .bool false, .string tl, .int .i64 el] 23)).cell? ⟨w.heap.size, 3, none⟩ = some (.int .i64 ea) := Ba8.out.cell 3
      have yl0 : (w7.alloc (.cells #[.int .i64 0, .bool false, .string tl, .int .i64 el] 23)).cell? ⟨w2.heap.size, 0, none⟩ = some (.int .i64 0) := Bl8.out.cell 0
      have yl1 : (w7.alloc (.cells #[.int .i64 0, .bool false, .string tl, .int .i64 el] 23)).cell? ⟨w2.heap.size, 1, none⟩ = some (.bool false) := Bl8.out.cell 1
      have yl2 : (w7.alloc (.cells #[.int .i64 0, .bool false, .string tl, .int .i64 el] 23)).cell? ⟨w2.heap.size, 2, none⟩ = some (.string tl) := Bl8.out.cell 2
      have yl3 : (w7.alloc (.cells #[.int .i64 0, .bool false, .string tl, .int .i64 el] 23)).cell? ⟨w2.heap.size, 3, none⟩ = some (.int .i64 el) := Bl8.out.cell 3
      have yh0 : (w7.alloc (.cells #[.int .i64 0, .bool false, .string tl, .int .i64 el] 23)).cell? ⟨w4.heap.size, 0, none⟩ = some (.int .i64 0) := Bh8.out.cell 0
      have yh1 : (w7.alloc (.cells #[.int .i64 0, .bool false, .string tl, .int .i64 el] 23)).cell? ⟨w4.heap.size, 1, none⟩ = some (.bool false) := Bh8.out.cell 1
      have yh2 : (w7.alloc (.cells #[.int .i64 0, .bool false, .string tl, .int .i64 el] 23)).cell? ⟨w4.heap.size, 2, none⟩ = some (.string tl) := Bh8.out.cell 2
      have yh3 : (w7.alloc (.cells #[.int .i64 0, .bool false, .string tl, .int .i64 el] 23)).cell? ⟨w4.heap.size, 3, none⟩ = some (.int .i64 eh) := Bh8.out.cell 3
      have yx0 : (w7.alloc (.cells #[.int .i64 0, .bool false, .string tl, .int .i64 el] 23)).cell? ⟨w7.heap.size, 0, none⟩ = some (.int .i64 0) := Bx8.out.cell 0
      have yx1 : (w7.alloc (.cells #[.int .i64 0, .bool false, .string tl, .int .i64 el] 23)).cell? ⟨w7.heap.size, 1, none⟩ = some (.bool false) := Bx8.out.cell 1
      have yx2 : (w7.alloc (.cells #[.int .i64 0, .bool false, .string tl, .int .i64 el] 23)).cell? ⟨w7.heap.size, 2, none⟩ = some (.string tl) := Bx8.out.cell 2
      have yx3 : (w7.alloc (.cells #[.int .i64 0, .bool false, .string tl, .int .i64 el] 23)).cell? ⟨w7.heap.size, 3, none⟩ = some (.int .i64 el) := Bx8.out.cell 3
      go_wp2
      obtain ⟨W3, hW3⟩ : ∃ W3, W3 = (w7.alloc (.cells #[.int .i64 0, .bool false, .string tl, .int .i64 el] 23)) := ⟨_, rfl⟩
      rw [← hW3] at HB8 Ba8 Bl8 Bh8 Bx8 ya0 ya1 ya2 ya3 yl0 yl1 yl2 yl3 yh0 yh1 yh2 yh3 yx0 yx1 yx2 yx3
      have HW3 := hide hW3
      clear hW3
      have HL : Hid (w2.heap.size < W3.heap.size ∧ w4.heap.size < W3.heap.size) := ⟨Bl8.out.lt, Bh8.out.lt⟩
      simp only [← HW3.out]
      go_cut [12, 13] (fun vp vq wx => Cut2D W3 #[.int .i64 0, .bool false, .string tl, .int .i64 el] #[.int .i64 0, .bool false, .string tl, .int .i64 eh] vp vq wx)
      case first =>
        have nl3 : ¬ w2.heap.size = W3.heap.size := (by have := HL.out; omega)
        have ml3 : ¬ W3.heap.size = w2.heap.size := (by have := HL.out; omega)
        have nh3 : ¬ w4.heap.size = W3.heap.size := (by have := HL.out; omega)
        have mh3 : ¬ W3.heap.size = w4.heap.size := (by have := HL.out; omega)
        go_region_held3 (fun w' => w'.cell? ⟨w2.heap.size, 0, none⟩ = some (.int .i64 0) ∧ w'.cell? ⟨w2.heap.size, 1, none⟩ = some (.bool false) ∧ w'.cell? ⟨w2.heap.size, 2, none⟩ = some (.string tl) ∧ w'.cell? ⟨w2.heap.size, 3, none⟩ = some (.int .i64 el) ∧ w'.cell? ⟨w4.heap.size, 0, none⟩ = some (.int .i64 0) ∧ w'.cell? ⟨w4.heap.size, 1, none⟩ = some (.bool false) ∧ w'.cell? ⟨w4.heap.size, 2, none⟩ = some (.string tl) ∧ w'.cell? ⟨w4.heap.size, 3, none⟩ = some (.int .i64 eh)) (go_keep) (fail)
        all_goals (go_wp2_with fail; go_meet)
        all_goals (first | exact cut2_a | exact cut2_b)
      obtain ⟨⟨H, K, rfl, rfl, hq, hr, hH, hK, hHK, hbc⟩⟩ := hcut
      obtain ⟨w9, hwk⟩ : ∃ x, x = wc := ⟨_, rfl⟩
      subst hwk
      have Ba9 := hide (Ba8.out.below hbc Ba8.out.lt)
      have Bl9 := hide (Bl8.out.below hbc Bl8.out.lt)
      have Bh9 := hide (Bh8.out.below hbc Bh8.out.lt)
      have Bx9 := hide (Bx8.out.below hbc Bx8.out.lt)
      have Bn9 := hide hq
      have Bf9 := hide hr
      have HB9 := hide (HB8.out.trans (hbc.mono HB8.out.size))
      have HBT := hide (HBS.out.trans ((HW3.out ▸ ((Below.refl _ _).alloc (Nat.le_refl _) _ : Below _ _ _) : Below w7.heap.size w7 W3).trans (hbc.mono (by rw [HW3.out]; simp)) |>.mono HBS.out.size))
      have hhk : ¬ K = H := fun g => hHK g.symm
      have HHK := hide (show w.heap.size ≤ H ∧ w.heap.size ≤ K from ⟨Nat.le_trans HB8.out.size hH, Nat.le_trans HB8.out.size hK⟩)
      clear HL HBS hq hr hH hK hbc HW3 Ba8 Bl8 Bh8 Bx8 HB8 ya0 ya1 ya2 ya3 yl0 yl1 yl2 yl3 yh0 yh1 yh2 yh3 yx0 yx1 yx2 yx3
      have ya0 : w9.cell? ⟨w.heap.size, 0, none⟩ = some (.int .i64 0) := Ba9.out.cell 0
      have ya1 : w9.cell? ⟨w.heap.size, 1, none⟩ = some (.bool false) := Ba9.out.cell 1
      have ya2 : w9.cell? ⟨w.heap.size, 2, none⟩ = some (.string tl) := Ba9.out.cell 2
      have ya3 : w9.cell? ⟨w.heap.size, 3, none⟩ = some (.int .i64 ea) := Ba9.out.cell 3
      have yl0 : w9.cell? ⟨w2.heap.size, 0, none⟩ = some (.int .i64 0) := Bl9.out.cell 0
      have yl1 : w9.cell? ⟨w2.heap.size, 1, none⟩ = some (.bool false) := Bl9.out.cell 1
      have yl2 : w9.cell? ⟨w2.heap.size, 2, none⟩ = some (.string tl) := Bl9.out.cell 2
      have yl3 : w9.cell? ⟨w2.heap.size, 3, none⟩ = some (.int .i64 el) := Bl9.out.cell 3
      have yh0 : w9.cell? ⟨w4.heap.size, 0, none⟩ = some (.int .i64 0) := Bh9.out.cell 0
      have yh1 : w9.cell? ⟨w4.heap.size, 1, none⟩ = some (.bool false) := Bh9.out.cell 1
      have yh2 : w9.cell? ⟨w4.heap.size, 2, none⟩ = some (.string tl) := Bh9.out.cell 2
      have yh3 : w9.cell? ⟨w4.heap.size, 3, none⟩ = some (.int .i64 eh) := Bh9.out.cell 3
      have yx0 : w9.cell? ⟨w7.heap.size, 0, none⟩ = some (.int .i64 0) := Bx9.out.cell 0
      have yx1 : w9.cell? ⟨w7.heap.size, 1, none⟩ = some (.bool false) := Bx9.out.cell 1
      have yx2 : w9.cell? ⟨w7.heap.size, 2, none⟩ = some (.string tl) := Bx9.out.cell 2
      have yx3 : w9.cell? ⟨w7.heap.size, 3, none⟩ = some (.int .i64 el) := Bx9.out.cell 3
      have yn0 : w9.cell? ⟨H, 0, none⟩ = some (.int .i64 0) := Bn9.out.cell 0
      have yn1 : w9.cell? ⟨H, 1, none⟩ = some (.bool false) := Bn9.out.cell 1
      have yn2 : w9.cell? ⟨H, 2, none⟩ = some (.string tl) := Bn9.out.cell 2
      have yn3 : w9.cell? ⟨H, 3, none⟩ = some (.int .i64 el) := Bn9.out.cell 3
      have yf0 : w9.cell? ⟨K, 0, none⟩ = some (.int .i64 0) := Bf9.out.cell 0
      have yf1 : w9.cell? ⟨K, 1, none⟩ = some (.bool false) := Bf9.out.cell 1
      have yf2 : w9.cell? ⟨K, 2, none⟩ = some (.string tl) := Bf9.out.cell 2
      have yf3 : w9.cell? ⟨K, 3, none⟩ = some (.int .i64 eh) := Bf9.out.cell 3
      go_wp2
      go_roundw
      case rel => exact ⟨1 + 1, by first | omega | (have := HK.out; omega), by go_num, HBT.out⟩
      case measure => first | (simp [intOf]; done) | (simp [intOf]; omega) | (have := HK.out; simp [intOf]; omega)
    by_cases j2 : k = 2
    · skip
      obtain rfl : k = 2 := by omega
      clear hk hk8
      go_wp2_with fail
      refine (H2.out _ (HT.out.below HB6.out)).mono ?_
      rintro e w7 ⟨rfl, hb⟩
      have HBS := hide (HBR.out.trans (hb.mono HBR.out.size))
      clear HBR
      have Ba7 := hide (Ba6.out.below hb Ba6.out.lt)
      have Bl7 := hide (Bl6.out.below hb Bl6.out.lt)
      have Bh7 := hide (Bh6.out.below hb Bh6.out.lt)
      have HB7 := hide (HB6.out.trans (hb.mono HB6.out.size))
      clear hb Ba6 Bl6 Bh6 HB6 ya0 ya1 ya2 ya3 yl0 yl1 yl2 yl3 yh0 yh1 yh2 yh3
      have ya0 : w7.cell? ⟨w.heap.size, 0, none⟩ = some (.int .i64 0) := Ba7.out.cell 0
      have ya1 : w7.cell? ⟨w.heap.size, 1, none⟩ = some (.bool false) := Ba7.out.cell 1
      have ya2 : w7.cell? ⟨w.heap.size, 2, none⟩ = some (.string tl) := Ba7.out.cell 2
      have ya3 : w7.cell? ⟨w.heap.size, 3, none⟩ = some (.int .i64 ea) := Ba7.out.cell 3
      have yl0 : w7.cell? ⟨w2.heap.size, 0, none⟩ = some (.int .i64 0) := Bl7.out.cell 0
      have yl1 : w7.cell? ⟨w2.heap.size, 1, none⟩ = some (.bool false) := Bl7.out.cell 1
      have yl2 : w7.cell? ⟨w2.heap.size, 2, none⟩ = some (.string tl) := Bl7.out.cell 2
      have yl3 : w7.cell? ⟨w2.heap.size, 3, none⟩ = some (.int .i64 el) := Bl7.out.cell 3
      have yh0 : w7.cell? ⟨w4.heap.size, 0, none⟩ = some (.int .i64 0) := Bh7.out.cell 0
      have yh1 : w7.cell? ⟨w4.heap.size, 1, none⟩ = some (.bool false) := Bh7.out.cell 1
      have yh2 : w7.cell? ⟨w4.heap.size, 2, none⟩ = some (.string tl) := Bh7.out.cell 2
      have yh3 : w7.cell? ⟨w4.heap.size, 3, none⟩ = some (.int .i64 eh) := Bh7.out.cell 3
      have Ba8 := hide ((Ba7.out.alloc (.cells #[.int .i64 0, .bool false, .string tl, .int .i64 el] 23)))
      have Bl8 := hide ((Bl7.out.alloc (.cells #[.int .i64 0, .bool false, .string tl, .int .i64 el] 23)))
      have Bh8 := hide ((Bh7.out.alloc (.cells #[.int .i64 0, .bool false, .string tl, .int .i64 el] 23)))
      have Bx8 := hide ((Blk.newAt w7 (w7.heap.size) (rfl) #[.int .i64 0, .bool false, .string tl, .int .i64 el] 23))
      have HB8 : Hid (Below w.heap.size w (w7.alloc (.cells #[.int .i64 0, .bool false, .string tl, .int .i64 el] 23))) := (HB7.out.alloc HB7.out.size _)
      clear Ba7 Bl7 Bh7 HB7 ya0 ya1 ya2 ya3 yl0 yl1 yl2 yl3 yh0 yh1 yh2 yh3
      have ya0 : (w7.alloc (.cells #[.int .i64 0, .bool false, .string tl, .int .i64 el] 23)).cell? ⟨w.heap.size, 0, none⟩ = some (.int .i64 0) := Ba8.out.cell 0
      have ya1 : (w7.alloc (.cells #[.int .i64 0, .bool false, .string tl, .int .i64 el] 23)).cell? ⟨w.heap.size, 1, none⟩ = some (.bool false) := Ba8.out.cell 1
      have ya2 : (w7.alloc (.cells #[.int .i64 0, .bool false, .string tl, .int .i64 el] 23)).cell? ⟨w.heap.size, 2, none⟩ = some (.string tl) := Ba8.out.cell 2
      have ya3 : (w7.alloc (.cells #[.int .i64 0, .bool false, .string tl, .int .i64 el] 23)).cell? ⟨w.heap.size, 3, none⟩ = some (.int .i64 ea) := Ba8.out.cell 3
      have yl0 : (w7.alloc (.cells #[.int .i64 0, .bool false, .string tl, .int .i64 el] 23)).cell? ⟨w2.heap.size, 0, none⟩ = some (.int .i64 0) := Bl8.out.cell 0
      have yl1 : (w7.alloc (.cells #[.int .i64 0, .bool false, .string tl, .int .i64 el] 23)).cell? ⟨w2.heap.size, 1, none⟩ = some (.bool false) := Bl8.out.cell 1
      have yl2 : (w7.alloc (.cells #[.int .i64 0, .bool false, .string tl, .int .i64 el] 23)).cell? ⟨w2.heap.size, 2, none⟩ = some (.string tl) := Bl8.out.cell 2
      have yl3 : (w7.alloc (.cells #[.int .i64 0, .bool false, .string tl, .int .i64 el] 23)).cell? ⟨w2.heap.size, 3, none⟩ = some (.int .i64 el) := Bl8.out.cell 3
      have yh0 : (w7.alloc (.cells #[.int .i64 0, .bool false, .string tl, .int .i64 el] 23)).cell? ⟨w4.heap.size, 0, none⟩ = some (.int .i64 0) := Bh8.out.cell 0
      have yh1 : (w7.alloc (.cells #[.int .i64 0, .bool false, .string tl, .int .i64 el] 23)).cell? ⟨w4.heap.size, 1, none⟩ = some (.bool false) := Bh8.out.cell 1
      have yh2 : (w7.alloc (.cells #[.int .i64 0, .bool false, .string tl, .int .i64 el] 23)).cell? ⟨w4.heap.size, 2, none⟩ = some (.string tl) := Bh8.out.cell 2
      have yh3 : (w7.alloc (.cells #[.int .i64 0, .bool false, .string tl, .int .i64 el] 23)).cell? ⟨w4.heap.size, 3, none⟩ = some (.int .i64 eh) := Bh8.out.cell 3
      have yx0 : (w7.alloc (.cells #[.int .i64 0, .bool false, .string tl, .int .i64 el] 23)).cell? ⟨w7.heap.size, 0, none⟩ = some (.int .i64 0) := Bx8.out.cell 0
      have yx1 : (w7.alloc (.cells #[.int .i64 0, .bool false, .string tl, .int .i64 el] 23)).cell? ⟨w7.heap.size, 1, none⟩ = some (.bool false) := Bx8.out.cell 1
      have yx2 : (w7.alloc (.cells #[.int .i64 0, .bool false, .string tl, .int .i64 el] 23)).cell? ⟨w7.heap.size, 2, none⟩ = some (.string tl) := Bx8.out.cell 2
      have yx3 : (w7.alloc (.cells #[.int .i64 0, .bool false, .string tl, .int .i64 el] 23)).cell? ⟨w7.heap.size, 3, none⟩ = some (.int .i64 el) := Bx8.out.cell 3
      go_wp2
      obtain ⟨W3, hW3⟩ : ∃ W3, W3 = (w7.alloc (.cells #[.int .i64 0, .bool false, .string tl, .int .i64 el] 23)) := ⟨_, rfl⟩
      rw [← hW3] at HB8 Ba8 Bl8 Bh8 Bx8 ya0 ya1 ya2 ya3 yl0 yl1 yl2 yl3 yh0 yh1 yh2 yh3 yx0 yx1 yx2 yx3
      have HW3 := hide hW3
      clear hW3
      have HL : Hid (w2.heap.size < W3.heap.size ∧ w4.heap.size < W3.heap.size) := ⟨Bl8.out.lt, Bh8.out.lt⟩
      simp only [← HW3.out]
      go_cut [12, 13] (fun vp vq wx => Cut2D W3 #[.int .i64 0, .bool false, .string tl, .int .i64 el] #[.int .i64 0, .bool false, .string tl, .int .i64 eh] vp vq wx)
      case first =>
        have nl3 : ¬ w2.heap.size = W3.heap.size := (by have := HL.out; omega)
        have ml3 : ¬ W3.heap.size = w2.heap.size := (by have := HL.out; omega)
        have nh3 : ¬ w4.heap.size = W3.heap.size := (by have := HL.out; omega)
        have mh3 : ¬ W3.heap.size = w4.heap.size := (by have := HL.out; omega)
        go_region_held3 (fun w' => w'.cell? ⟨w2.heap.size, 0, none⟩ = some (.int .i64 0) ∧ w'.cell? ⟨w2.heap.size, 1, none⟩ = some (.bool false) ∧ w'.cell? ⟨w2.heap.size, 2, none⟩ = some (.string tl) ∧ w'.cell? ⟨w2.heap.size, 3, none⟩ = some (.int .i64 el) ∧ w'.cell? ⟨w4.heap.size, 0, none⟩ = some (.int .i64 0) ∧ w'.cell? ⟨w4.heap.size, 1, none⟩ = some (.bool false) ∧ w'.cell? ⟨w4.heap.size, 2, none⟩ = some (.string tl) ∧ w'.cell? ⟨w4.heap.size, 3, none⟩ = some (.int .i64 eh)) (go_keep) (fail)
        all_goals (go_wp2_with fail; go_meet)
        all_goals (first | exact cut2_a | exact cut2_b)
      obtain ⟨⟨H, K, rfl, rfl, hq, hr, hH, hK, hHK, hbc⟩⟩ := hcut
      obtain ⟨w9, hwk⟩ : ∃ x, x = wc := ⟨_, rfl⟩
      subst hwk
      have Ba9 := hide (Ba8.out.below hbc Ba8.out.lt)
      have Bl9 := hide (Bl8.out.below hbc Bl8.out.lt)
      have Bh9 := hide (Bh8.out.below hbc Bh8.out.lt)
      have Bx9 := hide (Bx8.out.below hbc Bx8.out.lt)
      have Bn9 := hide hq
      have Bf9 := hide hr
      have HB9 := hide (HB8.out.trans (hbc.mono HB8.out.size))
      have HBT := hide (HBS.out.trans ((HW3.out ▸ ((Below.refl _ _).alloc (Nat.le_refl _) _ : Below _ _ _) : Below w7.heap.size w7 W3).trans (hbc.mono (by rw [HW3.out]; simp)) |>.mono HBS.out.size))
      have hhk : ¬ K = H := fun g => hHK g.symm
      have HHK := hide (show w.heap.size ≤ H ∧ w.heap.size ≤ K from ⟨Nat.le_trans HB8.out.size hH, Nat.le_trans HB8.out.size hK⟩)
      clear HL HBS hq hr hH hK hbc HW3 Ba8 Bl8 Bh8 Bx8 HB8 ya0 ya1 ya2 ya3 yl0 yl1 yl2 yl3 yh0 yh1 yh2 yh3 yx0 yx1 yx2 yx3
      have ya0 : w9.cell? ⟨w.heap.size, 0, none⟩ = some (.int .i64 0) := Ba9.out.cell 0
      have ya1 : w9.cell? ⟨w.heap.size, 1, none⟩ = some (.bool false) := Ba9.out.cell 1
      have ya2 : w9.cell? ⟨w.heap.size, 2, none⟩ = some (.string tl) := Ba9.out.cell 2
      have ya3 : w9.cell? ⟨w.heap.size, 3, none⟩ = some (.int .i64 ea) := Ba9.out.cell 3
      have yl0 : w9.cell? ⟨w2.heap.size, 0, none⟩ = some (.int .i64 0) := Bl9.out.cell 0
      have yl1 : w9.cell? ⟨w2.heap.size, 1, none⟩ = some (.bool false) := Bl9.out.cell 1
      have yl2 : w9.cell? ⟨w2.heap.size, 2, none⟩ = some (.string tl) := Bl9.out.cell 2
      have yl3 : w9.cell? ⟨w2.heap.size, 3, none⟩ = some (.int .i64 el) := Bl9.out.cell 3
      have yh0 : w9.cell? ⟨w4.heap.size, 0, none⟩ = some (.int .i64 0) := Bh9.out.cell 0
      have yh1 : w9.cell? ⟨w4.heap.size, 1, none⟩ = some (.bool false) := Bh9.out.cell 1
      have yh2 : w9.cell? ⟨w4.heap.size, 2, none⟩ = some (.string tl) := Bh9.out.cell 2
      have yh3 : w9.cell? ⟨w4.heap.size, 3, none⟩ = some (.int .i64 eh) := Bh9.out.cell 3
      have yx0 : w9.cell? ⟨w7.heap.size, 0, none⟩ = some (.int .i64 0) := Bx9.out.cell 0
      have yx1 : w9.cell? ⟨w7.heap.size, 1, none⟩ = some (.bool false) := Bx9.out.cell 1
      have yx2 : w9.cell? ⟨w7.heap.size, 2, none⟩ = some (.string tl) := Bx9.out.cell 2
      have yx3 : w9.cell? ⟨w7.heap.size, 3, none⟩ = some (.int .i64 el) := Bx9.out.cell 3
      have yn0 : w9.cell? ⟨H, 0, none⟩ = some (.int .i64 0) := Bn9.out.cell 0
      have yn1 : w9.cell? ⟨H, 1, none⟩ = some (.bool false) := Bn9.out.cell 1
      have yn2 : w9.cell? ⟨H, 2, none⟩ = some (.string tl) := Bn9.out.cell 2
      have yn3 : w9.cell? ⟨H, 3, none⟩ = some (.int .i64 el) := Bn9.out.cell 3
      have yf0 : w9.cell? ⟨K, 0, none⟩ = some (.int .i64 0) := Bf9.out.cell 0
      have yf1 : w9.cell? ⟨K, 1, none⟩ = some (.bool false) := Bf9.out.cell 1
      have yf2 : w9.cell? ⟨K, 2, none⟩ = some (.string tl) := Bf9.out.cell 2
      have yf3 : w9.cell? ⟨K, 3, none⟩ = some (.int .i64 eh) := Bf9.out.cell 3
      go_wp2
      go_roundw
      case rel => exact ⟨2 + 1, by first | omega | (have := HK.out; omega), by go_num, HBT.out⟩
      case measure => first | (simp [intOf]; done) | (simp [intOf]; omega) | (have := HK.out; simp [intOf]; omega)
    by_cases j3 : k = 3
    · skip
      obtain rfl : k = 3 := by omega
      clear hk hk8
      go_wp2_with fail
      refine (H3.out _ (HT.out.below HB6.out)).mono ?_
      rintro e w7 ⟨rfl, hb⟩
      have HBS := hide (HBR.out.trans (hb.mono HBR.out.size))
      clear HBR
      have Ba7 := hide (Ba6.out.below hb Ba6.out.lt)
      have Bl7 := hide (Bl6.out.below hb Bl6.out.lt)
      have Bh7 := hide (Bh6.out.below hb Bh6.out.lt)
      have HB7 := hide (HB6.out.trans (hb.mono HB6.out.size))
      clear hb Ba6 Bl6 Bh6 HB6 ya0 ya1 ya2 ya3 yl0 yl1 yl2 yl3 yh0 yh1 yh2 yh3
      have ya0 : w7.cell? ⟨w.heap.size, 0, none⟩ = some (.int .i64 0) := Ba7.out.cell 0
      have ya1 : w7.cell? ⟨w.heap.size, 1, none⟩ = some (.bool false) := Ba7.out.cell 1
      have ya2 : w7.cell? ⟨w.heap.size, 2, none⟩ = some (.string tl) := Ba7.out.cell 2
      have ya3 : w7.cell? ⟨w.heap.size, 3, none⟩ = some (.int .i64 ea) := Ba7.out.cell 3
      have yl0 : w7.cell? ⟨w2.heap.size, 0, none⟩ = some (.int .i64 0) := Bl7.out.cell 0
      have yl1 : w7.cell? ⟨w2.heap.size, 1, none⟩ = some (.bool false) := Bl7.out.cell 1
      have yl2 : w7.cell? ⟨w2.heap.size, 2, none⟩ = some (.string tl) := Bl7.out.cell 2
      have yl3 : w7.cell? ⟨w2.heap.size, 3, none⟩ = some (.int .i64 el) := Bl7.out.cell 3
      have yh0 : w7.cell? ⟨w4.heap.size, 0, none⟩ = some (.int .i64 0) := Bh7.out.cell 0
      have yh1 : w7.cell? ⟨w4.heap.size, 1, none⟩ = some (.bool false) := Bh7.out.cell 1
      have yh2 : w7.cell? ⟨w4.heap.size, 2, none⟩ = some (.string tl) := Bh7.out.cell 2
      have yh3 : w7.cell? ⟨w4.heap.size, 3, none⟩ = some (.int .i64 eh) := Bh7.out.cell 3
      have Ba8 := hide ((Ba7.out.alloc (.cells #[.int .i64 0, .bool false, .string tl, .int .i64 eh] 23)))
      have Bl8 := hide ((Bl7.out.alloc (.cells #[.int .i64 0, .bool false, .string tl, .int .i64 eh] 23)))
      have Bh8 := hide ((Bh7.out.alloc (.cells #[.int .i64 0, .bool false, .string tl, .int .i64 eh] 23)))
      have Bx8 := hide ((Blk.newAt w7 (w7.heap.size) (rfl) #[.int .i64 0, .bool false, .string tl, .int .i64 eh] 23))
      have HB8 : Hid (Below w.heap.size w (w7.alloc (.cells #[.int .i64 0, .bool false, .string tl, .int .i64 eh] 23))) := (HB7.out.alloc HB7.out.size _)
      clear Ba7 Bl7 Bh7 HB7 ya0 ya1 ya2 ya3 yl0 yl1 yl2 yl3 yh0 yh1 yh2 yh3
      have ya0 : (w7.alloc (.cells #[.int .i64 0, .bool false, .string tl, .int .i64 eh] 23)).cell? ⟨w.heap.size, 0, none⟩ = some (.int .i64 0) := Ba8.out.cell 0
      have ya1 : (w7.alloc (.cells #[.int .i64 0, .bool false, .string tl, .int .i64 eh] 23)).cell? ⟨w.heap.size, 1, none⟩ = some (.bool false) := Ba8.out.cell 1
      have ya2 : (w7.alloc (.cells #[.int .i64 0, .bool false, .string tl, .int .i64 eh] 23)).cell? ⟨w.heap.size, 2, none⟩ = some (.string tl) := Ba8.out.cell 2
      have ya3 : (w7.alloc (.cells #[.int .i64 0, .bool false, .string tl, .int .i64 eh] 23)).cell? ⟨w.heap.size, 3, none⟩ = some (.int .i64 ea) := Ba8.out.cell 3
      have yl0 : (w7.alloc (.cells #[.int .i64 0, .bool false, .string tl, .int .i64 eh] 23)).cell? ⟨w2.heap.size, 0, none⟩ = some (.int .i64 0) := Bl8.out.cell 0
      have yl1 : (w7.alloc (.cells #[.int .i64 0, .bool false, .string tl, .int .i64 eh] 23)).cell? ⟨w2.heap.size, 1, none⟩ = some (.bool false) := Bl8.out.cell 1
      have yl2 : (w7.alloc (.cells #[.int .i64 0, .bool false, .string tl, .int .i64 eh] 23)).cell? ⟨w2.heap.size, 2, none⟩ = some (.string tl) := Bl8.out.cell 2
      have yl3 : (w7.alloc (.cells #[.int .i64 0, .bool false, .string tl, .int .i64 eh] 23)).cell? ⟨w2.heap.size, 3, none⟩ = some (.int .i64 el) := Bl8.out.cell 3
      have yh0 : (w7.alloc (.cells #[.int .i64 0, .bool false, .string tl, .int .i64 eh] 23)).cell? ⟨w4.heap.size, 0, none⟩ = some (.int .i64 0) := Bh8.out.cell 0
      have yh1 : (w7.alloc (.cells #[.int .i64 0, .bool false, .string tl, .int .i64 eh] 23)).cell? ⟨w4.heap.size, 1, none⟩ = some (.bool false) := Bh8.out.cell 1
      have yh2 : (w7.alloc (.cells #[.int .i64 0, .bool false, .string tl, .int .i64 eh] 23)).cell? ⟨w4.heap.size, 2, none⟩ = some (.string tl) := Bh8.out.cell 2
      have yh3 : (w7.alloc (.cells #[.int .i64 0, .bool false, .string tl, .int .i64 eh] 23)).cell? ⟨w4.heap.size, 3, none⟩ = some (.int .i64 eh) := Bh8.out.cell 3
      have yx0 : (w7.alloc (.cells #[.int .i64 0, .bool false, .string tl, .int .i64 eh] 23)).cell? ⟨w7.heap.size, 0, none⟩ = some (.int .i64 0) := Bx8.out.cell 0
      have yx1 : (w7.alloc (.cells #[.int .i64 0, .bool false, .string tl, .int .i64 eh] 23)).cell? ⟨w7.heap.size, 1, none⟩ = some (.bool false) := Bx8.out.cell 1
      have yx2 : (w7.alloc (.cells #[.int .i64 0, .bool false, .string tl, .int .i64 eh] 23)).cell? ⟨w7.heap.size, 2, none⟩ = some (.string tl) := Bx8.out.cell 2
      have yx3 : (w7.alloc (.cells #[.int .i64 0, .bool false, .string tl, .int .i64 eh] 23)).cell? ⟨w7.heap.size, 3, none⟩ = some (.int .i64 eh) := Bx8.out.cell 3
      go_wp2
      obtain ⟨W3, hW3⟩ : ∃ W3, W3 = (w7.alloc (.cells #[.int .i64 0, .bool false, .string tl, .int .i64 eh] 23)) := ⟨_, rfl⟩
      rw [← hW3] at HB8 Ba8 Bl8 Bh8 Bx8 ya0 ya1 ya2 ya3 yl0 yl1 yl2 yl3 yh0 yh1 yh2 yh3 yx0 yx1 yx2 yx3
      have HW3 := hide hW3
      clear hW3
      have HL : Hid (w2.heap.size < W3.heap.size ∧ w4.heap.size < W3.heap.size) := ⟨Bl8.out.lt, Bh8.out.lt⟩
      simp only [← HW3.out]
      go_cut [12, 13] (fun vp vq wx => Cut2D W3 #[.int .i64 0, .bool false, .string tl, .int .i64 el] #[.int .i64 0, .bool false, .string tl, .int .i64 eh] vp vq wx)
      case first =>
        have nl3 : ¬ w2.heap.size = W3.heap.size := (by have := HL.out; omega)
        have ml3 : ¬ W3.heap.size = w2.heap.size := (by have := HL.out; omega)
        have nh3 : ¬ w4.heap.size = W3.heap.size := (by have := HL.out; omega)
        have mh3 : ¬ W3.heap.size = w4.heap.size := (by have := HL.out; omega)
        go_region_held3 (fun w' => w'.cell? ⟨w2.heap.size, 0, none⟩ = some (.int .i64 0) ∧ w'.cell? ⟨w2.heap.size, 1, none⟩ = some (.bool false) ∧ w'.cell? ⟨w2.heap.size, 2, none⟩ = some (.string tl) ∧ w'.cell? ⟨w2.heap.size, 3, none⟩ = some (.int .i64 el) ∧ w'.cell? ⟨w4.heap.size, 0, none⟩ = some (.int .i64 0) ∧ w'.cell? ⟨w4.heap.size, 1, none⟩ = some (.bool false) ∧ w'.cell? ⟨w4.heap.size, 2, none⟩ = some (.string tl) ∧ w'.cell? ⟨w4.heap.size, 3, none⟩ = some (.int .i64 eh)) (go_keep) (fail)
        all_goals (go_wp2_with fail; go_meet)
        all_goals (first | exact cut2_a | exact cut2_b)
      obtain ⟨⟨H, K, rfl, rfl, hq, hr, hH, hK, hHK, hbc⟩⟩ := hcut
      obtain ⟨w9, hwk⟩ : ∃ x, x = wc := ⟨_, rfl⟩
      subst hwk
      have Ba9 := hide (Ba8.out.below hbc Ba8.out.lt)
      have Bl9 := hide (Bl8.out.below hbc Bl8.out.lt)
      have Bh9 := hide (Bh8.out.below hbc Bh8.out.lt)
      have Bx9 := hide (Bx8.out.below hbc Bx8.out.lt)
      have Bn9 := hide hq
      have Bf9 := hide hr
      have HB9 := hide (HB8.out.trans (hbc.mono HB8.out.size))
      have HBT := hide (HBS.out.trans ((HW3.out ▸ ((Below.refl _ _).alloc (Nat.le_refl _) _ : Below _ _ _) : Below w7.heap.size w7 W3).trans (hbc.mono (by rw [HW3.out]; simp)) |>.mono HBS.out.size))
      have hhk : ¬ K = H := fun g => hHK g.symm
      have HHK := hide (show w.heap.size ≤ H ∧ w.heap.size ≤ K from ⟨Nat.le_trans HB8.out.size hH, Nat.le_trans HB8.out.size hK⟩)
      clear HL HBS hq hr hH hK hbc HW3 Ba8 Bl8 Bh8 Bx8 HB8 ya0 ya1 ya2 ya3 yl0 yl1 yl2 yl3 yh0 yh1 yh2 yh3 yx0 yx1 yx2 yx3
      have ya0 : w9.cell? ⟨w.heap.size, 0, none⟩ = some (.int .i64 0) := Ba9.out.cell 0
      have ya1 : w9.cell? ⟨w.heap.size, 1, none⟩ = some (.bool false) := Ba9.out.cell 1
      have ya2 : w9.cell? ⟨w.heap.size, 2, none⟩ = some (.string tl) := Ba9.out.cell 2
      have ya3 : w9.cell? ⟨w.heap.size, 3, none⟩ = some (.int .i64 ea) := Ba9.out.cell 3
      have yl0 : w9.cell? ⟨w2.heap.size, 0, none⟩ = some (.int .i64 0) := Bl9.out.cell 0
      have yl1 : w9.cell? ⟨w2.heap.size, 1, none⟩ = some (.bool false) := Bl9.out.cell 1
      have yl2 : w9.cell? ⟨w2.heap.size, 2, none⟩ = some (.string tl) := Bl9.out.cell 2
      have yl3 : w9.cell? ⟨w2.heap.size, 3, none⟩ = some (.int .i64 el) := Bl9.out.cell 3
      have yh0 : w9.cell? ⟨w4.heap.size, 0, none⟩ = some (.int .i64 0) := Bh9.out.cell 0
      have yh1 : w9.cell? ⟨w4.heap.size, 1, none⟩ = some (.bool false) := Bh9.out.cell 1
      have yh2 : w9.cell? ⟨w4.heap.size, 2, none⟩ = some (.string tl) := Bh9.out.cell 2
      have yh3 : w9.cell? ⟨w4.heap.size, 3, none⟩ = some (.int .i64 eh) := Bh9.out.cell 3
      have yx0 : w9.cell? ⟨w7.heap.size, 0, none⟩ = some (.int .i64 0) := Bx9.out.cell 0
      have yx1 : w9.cell? ⟨w7.heap.size, 1, none⟩ = some (.bool false) := Bx9.out.cell 1
      have yx2 : w9.cell? ⟨w7.heap.size, 2, none⟩ = some (.string tl) := Bx9.out.cell 2
      have yx3 : w9.cell? ⟨w7.heap.size, 3, none⟩ = some (.int .i64 eh) := Bx9.out.cell 3
      have yn0 : w9.cell? ⟨H, 0, none⟩ = some (.int .i64 0) := Bn9.out.cell 0
      have yn1 : w9.cell? ⟨H, 1, none⟩ = some (.bool false) := Bn9.out.cell 1
      have yn2 : w9.cell? ⟨H, 2, none⟩ = some (.string tl) := Bn9.out.cell 2
      have yn3 : w9.cell? ⟨H, 3, none⟩ = some (.int .i64 el) := Bn9.out.cell 3
      have yf0 : w9.cell? ⟨K, 0, none⟩ = some (.int .i64 0) := Bf9.out.cell 0
      have yf1 : w9.cell? ⟨K, 1, none⟩ = some (.bool false) := Bf9.out.cell 1
      have yf2 : w9.cell? ⟨K, 2, none⟩ = some (.string tl) := Bf9.out.cell 2
      have yf3 : w9.cell? ⟨K, 3, none⟩ = some (.int .i64 eh) := Bf9.out.cell 3
      go_wp2
      go_roundw
      case rel => exact ⟨3 + 1, by first | omega | (have := HK.out; omega), by go_num, HBT.out⟩
      case measure => first | (simp [intOf]; done) | (simp [intOf]; omega) | (have := HK.out; simp [intOf]; omega)
    have hk4 : 4 ≤ k := by omega
    clear j0 j1 j2 j3
    rcases H4.out k hk4 (by omega) with hm | hm
    · have HM := hide hm
      clear hm H0 H1 H2 H3 H4 H5
      have k2 : ((k : Int) == 2) = false := beq_false_of_ne (by omega)
      have k3 : ((k : Int) == 3) = false := beq_false_of_ne (by omega)
      have k8 : (k : Int) < 8 := by omega
      have HK := hide (show k < 8 by omega)
      clear hk hk8 hk4
      go_wp2_with fail
      refine (HM.out _ (HT.out.below HB6.out)).mono ?_
      rintro e w7 ⟨rfl, hb⟩
      have HBS := hide (HBR.out.trans (hb.mono HBR.out.size))
      clear HBR
      have Ba7 := hide (Ba6.out.below hb Ba6.out.lt)
      have Bl7 := hide (Bl6.out.below hb Bl6.out.lt)
      have Bh7 := hide (Bh6.out.below hb Bh6.out.lt)
      have HB7 := hide (HB6.out.trans (hb.mono HB6.out.size))
      clear hb Ba6 Bl6 Bh6 HB6 ya0 ya1 ya2 ya3 yl0 yl1 yl2 yl3 yh0 yh1 yh2 yh3
      have ya0 : w7.cell? ⟨w.heap.size, 0, none⟩ = some (.int .i64 0) := Ba7.out.cell 0
      have ya1 : w7.cell? ⟨w.heap.size, 1, none⟩ = some (.bool false) := Ba7.out.cell 1
      have ya2 : w7.cell? ⟨w.heap.size, 2, none⟩ = some (.string tl) := Ba7.out.cell 2
      have ya3 : w7.cell? ⟨w.heap.size, 3, none⟩ = some (.int .i64 ea) := Ba7.out.cell 3
      have yl0 : w7.cell? ⟨w2.heap.size, 0, none⟩ = some (.int .i64 0) := Bl7.out.cell 0
      have yl1 : w7.cell? ⟨w2.heap.size, 1, none⟩ = some (.bool false) := Bl7.out.cell 1
      have yl2 : w7.cell? ⟨w2.heap.size, 2, none⟩ = some (.string tl) := Bl7.out.cell 2
      have yl3 : w7.cell? ⟨w2.heap.size, 3, none⟩ = some (.int .i64 el) := Bl7.out.cell 3
      have yh0 : w7.cell? ⟨w4.heap.size, 0, none⟩ = some (.int .i64 0) := Bh7.out.cell 0
      have yh1 : w7.cell? ⟨w4.heap.size, 1, none⟩ = some (.bool false) := Bh7.out.cell 1
      have yh2 : w7.cell? ⟨w4.heap.size, 2, none⟩ = some (.string tl) := Bh7.out.cell 2
      have yh3 : w7.cell? ⟨w4.heap.size, 3, none⟩ = some (.int .i64 eh) := Bh7.out.cell 3
      have Ba8 := hide ((Ba7.out.alloc (.cells #[.int .i64 0, .bool false, .string tl, .int .i64 el] 23)))
      have Bl8 := hide ((Bl7.out.alloc (.cells #[.int .i64 0, .bool false, .string tl, .int .i64 el] 23)))
      have Bh8 := hide ((Bh7.out.alloc (.cells #[.int .i64 0, .bool false, .string tl, .int .i64 el] 23)))
      have Bx8 := hide ((Blk.newAt w7 (w7.heap.size) (rfl) #[.int .i64 0, .bool false, .string tl, .int .i64 el] 23))
      have HB8 : Hid (Below w.heap.size w (w7.alloc (.cells #[.int .i64 0, .bool false, .string tl, .int .i64 el] 23))) := (HB7.out.alloc HB7.out.size _)
      clear Ba7 Bl7 Bh7 HB7 ya0 ya1 ya2 ya3 yl0 yl1 yl2 yl3 yh0 yh1 yh2 yh3
      have ya0 : (w7.alloc (.cells #[.int .i64 0, .bool false, .string tl, .int .i64 el] 23)).cell? ⟨w.heap.size, 0, none⟩ = some (.int .i64 0) := Ba8.out.cell 0
      have ya1 : (w7.alloc (.cells #[.int .i64 0, .bool false, .string tl, .int .i64 el] 23)).cell? ⟨w.heap.size, 1, none⟩ = some (.bool false) := Ba8.out.cell 1
      have ya2 : (w7.alloc (.cells #[.int .i64 0, .bool false, .string tl, .int .i64 el] 23)).cell? ⟨w.heap.size, 2, none⟩ = some (.string tl) := Ba8.out.cell 2
      have ya3 : (w7.alloc (.cells #[.int .i64 0, .bool false, .string tl, .int .i64 el] 23)).cell? ⟨w.heap.size, 3, none⟩ = some (.int .i64 ea) := Ba8.out.cell 3
      have yl0 : (w7.alloc (.cells #[.int .i64 0, .bool false, .string tl, .int .i64 el] 23)).cell? ⟨w2.heap.size, 0, none⟩ = some (.int .i64 0) := Bl8.out.cell 0
      have yl1 : (w7.alloc (.cells #[.int .i64 0, .bool false, .string tl, .int .i64 el] 23)).cell? ⟨w2.heap.size, 1, none⟩ = some (.bool false) := Bl8.out.cell 1
      have yl2 : (w7.alloc (.cells #[.int .i64 0, .bool false, .string tl, .int .i64 el] 23)).cell? ⟨w2.heap.size, 2, none⟩ = some (.string tl) := Bl8.out.cell 2
      have yl3 : (w7.alloc (.cells #[.int .i64 0, .bool false, .string tl, .int .i64 el] 23)).cell? ⟨w2.heap.size, 3, none⟩ = some (.int .i64 el) := Bl8.out.cell 3
      have yh0 : (w7.alloc (.cells #[.int .i64 0, .bool false, .string tl, .int .i64 el] 23)).cell? ⟨w4.heap.size, 0, none⟩ = some (.int .i64 0) := Bh8.out.cell 0
      have yh1 : (w7.alloc (.cells #[.int .i64 0, .bool false, .string tl, .int .i64 el] 23)).cell? ⟨w4.heap.size, 1, none⟩ = some (.bool false) := Bh8.out.cell 1
      have yh2 : (w7.alloc (.cells #[.int .i64 0, .bool false, .string tl, .int .i64 el] 23)).cell? ⟨w4.heap.size, 2, none⟩ = some (.string tl) := Bh8.out.cell 2
      have yh3 : (w7.alloc (.cells #[.int .i64 0, .bool false, .string tl, .int .i64 el] 23)).cell? ⟨w4.heap.size, 3, none⟩ = some (.int .i64 eh) := Bh8.out.cell 3
      have yx0 : (w7.alloc (.cells #[.int .i64 0, .bool false, .string tl, .int .i64 el] 23)).cell? ⟨w7.heap.size, 0, none⟩ = some (.int .i64 0) := Bx8.out.cell 0
      have yx1 : (w7.alloc (.cells #[.int .i64 0, .bool false, .string tl, .int .i64 el] 23)).cell? ⟨w7.heap.size, 1, none⟩ = some (.bool false) := Bx8.out.cell 1
      have yx2 : (w7.alloc (.cells #[.int .i64 0, .bool false, .string tl, .int .i64 el] 23)).cell? ⟨w7.heap.size, 2, none⟩ = some (.string tl) := Bx8.out.cell 2
      have yx3 : (w7.alloc (.cells #[.int .i64 0, .bool false, .string tl, .int .i64 el] 23)).cell? ⟨w7.heap.size, 3, none⟩ = some (.int .i64 el) := Bx8.out.cell 3
      go_wp2
      obtain ⟨W3, hW3⟩ : ∃ W3, W3 = (w7.alloc (.cells #[.int .i64 0, .bool false, .string tl, .int .i64 el] 23)) := ⟨_, rfl⟩
      rw [← hW3] at HB8 Ba8 Bl8 Bh8 Bx8 ya0 ya1 ya2 ya3 yl0 yl1 yl2 yl3 yh0 yh1 yh2 yh3 yx0 yx1 yx2 yx3
      have HW3 := hide hW3
      clear hW3
      have HL : Hid (w2.heap.size < W3.heap.size ∧ w4.heap.size < W3.heap.size) := ⟨Bl8.out.lt, Bh8.out.lt⟩
      simp only [← HW3.out]
      go_cut [12, 13] (fun vp vq wx => Cut2D W3 #[.int .i64 0, .bool false, .string tl, .int .i64 el] #[.int .i64 0, .bool false, .string tl, .int .i64 eh] vp vq wx)
      case first =>
        have nl3 : ¬ w2.heap.size = W3.heap.size := (by have := HL.out; omega)
        have ml3 : ¬ W3.heap.size = w2.heap.size := (by have := HL.out; omega)
        have nh3 : ¬ w4.heap.size = W3.heap.size := (by have := HL.out; omega)
        have mh3 : ¬ W3.heap.size = w4.heap.size := (by have := HL.out; omega)
        go_region_held3 (fun w' => w'.cell? ⟨w2.heap.size, 0, none⟩ = some (.int .i64 0) ∧ w'.cell? ⟨w2.heap.size, 1, none⟩ = some (.bool false) ∧ w'.cell? ⟨w2.heap.size, 2, none⟩ = some (.string tl) ∧ w'.cell? ⟨w2.heap.size, 3, none⟩ = some (.int .i64 el) ∧ w'.cell? ⟨w4.heap.size, 0, none⟩ = some (.int .i64 0) ∧ w'.cell? ⟨w4.heap.size, 1, none⟩ = some (.bool false) ∧ w'.cell? ⟨w4.heap.size, 2, none⟩ = some (.string tl) ∧ w'.cell? ⟨w4.heap.size, 3, none⟩ = some (.int .i64 eh)) (go_keep) (fail)
        all_goals (go_wp2_with fail; go_meet)
        all_goals (first | exact cut2_a | exact cut2_b)
      obtain ⟨⟨H, K, rfl, rfl, hq, hr, hH, hK, hHK, hbc⟩⟩ := hcut
      obtain ⟨w9, hwk⟩ : ∃ x, x = wc := ⟨_, rfl⟩
      subst hwk
      have Ba9 := hide (Ba8.out.below hbc Ba8.out.lt)
      have Bl9 := hide (Bl8.out.below hbc Bl8.out.lt)
      have Bh9 := hide (Bh8.out.below hbc Bh8.out.lt)
      have Bx9 := hide (Bx8.out.below hbc Bx8.out.lt)
      have Bn9 := hide hq
      have Bf9 := hide hr
      have HB9 := hide (HB8.out.trans (hbc.mono HB8.out.size))
      have HBT := hide (HBS.out.trans ((HW3.out ▸ ((Below.refl _ _).alloc (Nat.le_refl _) _ : Below _ _ _) : Below w7.heap.size w7 W3).trans (hbc.mono (by rw [HW3.out]; simp)) |>.mono HBS.out.size))
      have hhk : ¬ K = H := fun g => hHK g.symm
      have HHK := hide (show w.heap.size ≤ H ∧ w.heap.size ≤ K from ⟨Nat.le_trans HB8.out.size hH, Nat.le_trans HB8.out.size hK⟩)
      clear HL HBS hq hr hH hK hbc HW3 Ba8 Bl8 Bh8 Bx8 HB8 ya0 ya1 ya2 ya3 yl0 yl1 yl2 yl3 yh0 yh1 yh2 yh3 yx0 yx1 yx2 yx3
      have ya0 : w9.cell? ⟨w.heap.size, 0, none⟩ = some (.int .i64 0) := Ba9.out.cell 0
      have ya1 : w9.cell? ⟨w.heap.size, 1, none⟩ = some (.bool false) := Ba9.out.cell 1
      have ya2 : w9.cell? ⟨w.heap.size, 2, none⟩ = some (.string tl) := Ba9.out.cell 2
      have ya3 : w9.cell? ⟨w.heap.size, 3, none⟩ = some (.int .i64 ea) := Ba9.out.cell 3
      have yl0 : w9.cell? ⟨w2.heap.size, 0, none⟩ = some (.int .i64 0) := Bl9.out.cell 0
      have yl1 : w9.cell? ⟨w2.heap.size, 1, none⟩ = some (.bool false) := Bl9.out.cell 1
      have yl2 : w9.cell? ⟨w2.heap.size, 2, none⟩ = some (.string tl) := Bl9.out.cell 2
      have yl3 : w9.cell? ⟨w2.heap.size, 3, none⟩ = some (.int .i64 el) := Bl9.out.cell 3
      have yh0 : w9.cell? ⟨w4.heap.size, 0, none⟩ = some (.int .i64 0) := Bh9.out.cell 0
      have yh1 : w9.cell? ⟨w4.heap.size, 1, none⟩ = some (.bool false) := Bh9.out.cell 1
      have yh2 : w9.cell? ⟨w4.heap.size, 2, none⟩ = some (.string tl) := Bh9.out.cell 2
      have yh3 : w9.cell? ⟨w4.heap.size, 3, none⟩ = some (.int .i64 eh) := Bh9.out.cell 3
      have yx0 : w9.cell? ⟨w7.heap.size, 0, none⟩ = some (.int .i64 0) := Bx9.out.cell 0
      have yx1 : w9.cell? ⟨w7.heap.size, 1, none⟩ = some (.bool false) := Bx9.out.cell 1
      have yx2 : w9.cell? ⟨w7.heap.size, 2, none⟩ = some (.string tl) := Bx9.out.cell 2
      have yx3 : w9.cell? ⟨w7.heap.size, 3, none⟩ = some (.int .i64 el) := Bx9.out.cell 3
      have yn0 : w9.cell? ⟨H, 0, none⟩ = some (.int .i64 0) := Bn9.out.cell 0
      have yn1 : w9.cell? ⟨H, 1, none⟩ = some (.bool false) := Bn9.out.cell 1
      have yn2 : w9.cell? ⟨H, 2, none⟩ = some (.string tl) := Bn9.out.cell 2
      have yn3 : w9.cell? ⟨H, 3, none⟩ = some (.int .i64 el) := Bn9.out.cell 3
      have yf0 : w9.cell? ⟨K, 0, none⟩ = some (.int .i64 0) := Bf9.out.cell 0
      have yf1 : w9.cell? ⟨K, 1, none⟩ = some (.bool false) := Bf9.out.cell 1
      have yf2 : w9.cell? ⟨K, 2, none⟩ = some (.string tl) := Bf9.out.cell 2
      have yf3 : w9.cell? ⟨K, 3, none⟩ = some (.int .i64 eh) := Bf9.out.cell 3
      go_wp2
      go_roundw
      case rel => exact ⟨k + 1, by first | omega | (have := HK.out; omega), by go_num, HBT.out⟩
      case measure => first | (simp [intOf]; done) | (simp [intOf]; omega) | (have := HK.out; simp [intOf]; omega)
    · have HM := hide hm
      clear hm H0 H1 H2 H3 H4 H5
      have k2 : ((k : Int) == 2) = false := beq_false_of_ne (by omega)
      have k3 : ((k : Int) == 3) = false := beq_false_of_ne (by omega)
      have k8 : (k : Int) < 8 := by omega
      have HK := hide (show k < 8 by omega)
      clear hk hk8 hk4
      go_wp2_with fail
      refine (HM.out _ (HT.out.below HB6.out)).mono ?_
      rintro e w7 ⟨rfl, hb⟩
      have HBS := hide (HBR.out.trans (hb.mono HBR.out.size))
      clear HBR
      have Ba7 := hide (Ba6.out.below hb Ba6.out.lt)
      have Bl7 := hide (Bl6.out.below hb Bl6.out.lt)
      have Bh7 := hide (Bh6.out.below hb Bh6.out.lt)
      have HB7 := hide (HB6.out.trans (hb.mono HB6.out.size))
      clear hb Ba6 Bl6 Bh6 HB6 ya0 ya1 ya2 ya3 yl0 yl1 yl2 yl3 yh0 yh1 yh2 yh3
      have ya0 : w7.cell? ⟨w.heap.size, 0, none⟩ = some (.int .i64 0) := Ba7.out.cell 0
      have ya1 : w7.cell? ⟨w.heap.size, 1, none⟩ = some (.bool false) := Ba7.out.cell 1
      have ya2 : w7.cell? ⟨w.heap.size, 2, none⟩ = some (.string tl) := Ba7.out.cell 2
      have ya3 : w7.cell? ⟨w.heap.size, 3, none⟩ = some (.int .i64 ea) := Ba7.out.cell 3
      have yl0 : w7.cell? ⟨w2.heap.size, 0, none⟩ = some (.int .i64 0) := Bl7.out.cell 0
      have yl1 : w7.cell? ⟨w2.heap.size, 1, none⟩ = some (.bool false) := Bl7.out.cell 1
      have yl2 : w7.cell? ⟨w2.heap.size, 2, none⟩ = some (.string tl) := Bl7.out.cell 2
      have yl3 : w7.cell? ⟨w2.heap.size, 3, none⟩ = some (.int .i64 el) := Bl7.out.cell 3
      have yh0 : w7.cell? ⟨w4.heap.size, 0, none⟩ = some (.int .i64 0) := Bh7.out.cell 0
      have yh1 : w7.cell? ⟨w4.heap.size, 1, none⟩ = some (.bool false) := Bh7.out.cell 1
      have yh2 : w7.cell? ⟨w4.heap.size, 2, none⟩ = some (.string tl) := Bh7.out.cell 2
      have yh3 : w7.cell? ⟨w4.heap.size, 3, none⟩ = some (.int .i64 eh) := Bh7.out.cell 3
      have Ba8 := hide ((Ba7.out.alloc (.cells #[.int .i64 0, .bool false, .string tl, .int .i64 eh] 23)))
      have Bl8 := hide ((Bl7.out.alloc (.cells #[.int .i64 0, .bool false, .string tl, .int .i64 eh] 23)))
      have Bh8 := hide ((Bh7.out.alloc (.cells #[.int .i64 0, .bool false, .string tl, .int .i64 eh] 23)))
      have Bx8 := hide ((Blk.newAt w7 (w7.heap.size) (rfl) #[.int .i64 0, .bool false, .string tl, .int .i64 eh] 23))
      have HB8 : Hid (Below w.heap.size w (w7.alloc (.cells #[.int .i64 0, .bool false, .string tl, .int .i64 eh] 23))) := (HB7.out.alloc HB7.out.size _)
      clear Ba7 Bl7 Bh7 HB7 ya0 ya1 ya2 ya3 yl0 yl1 yl2 yl3 yh0 yh1 yh2 yh3
      have ya0 : (w7.alloc (.cells #[.int .i64 0, .bool false, .string tl, .int .i64 eh] 23)).cell? ⟨w.heap.size, 0, none⟩ = some (.int .i64 0) := Ba8.out.cell 0
      have ya1 : (w7.alloc (.cells #[.int .i64 0, .bool false, .string tl, .int .i64 eh] 23)).cell? ⟨w.heap.size, 1, none⟩ = some (.bool false) := Ba8.out.cell 1
      have ya2 : (w7.alloc (.cells #[.int .i64 0, .bool false, .string tl, .int .i64 eh] 23)).cell? ⟨w.heap.size, 2, none⟩ = some (.string tl) := Ba8.out.cell 2
      have ya3 : (w7.alloc (.cells #[.int .i64 0, .bool false, .string tl, .int .i64 eh] 23)).cell? ⟨w.heap.size, 3, none⟩ = some (.int .i64 ea) := Ba8.out.cell 3
      have yl0 : (w7.alloc (.cells #[.int .i64 0, .bool false, .string tl, .int .i64 eh] 23)).cell? ⟨w2.heap.size, 0, none⟩ = some (.int .i64 0) := Bl8.out.cell 0
      have yl1 : (w7.alloc (.cells #[.int .i64 0, .bool false, .string tl, .int .i64 eh] 23)).cell? ⟨w2.heap.size, 1, none⟩ = some (.bool false) := Bl8.out.cell 1
      have yl2 : (w7.alloc (.cells #[.int .i64 0, .bool false, .string tl, .int .i64 eh] 23)).cell? ⟨w2.heap.size, 2, none⟩ = some (.string tl) := Bl8.out.cell 2
      have yl3 : (w7.alloc (.cells #[.int .i64 0, .bool false, .string tl, .int .i64 eh] 23)).cell? ⟨w2.heap.size, 3, none⟩ = some (.int .i64 el) := Bl8.out.cell 3
      have yh0 : (w7.alloc (.cells #[.int .i64 0, .bool false, .string tl, .int .i64 eh] 23)).cell? ⟨w4.heap.size, 0, none⟩ = some (.int .i64 0) := Bh8.out.cell 0
      have yh1 : (w7.alloc (.cells #[.int .i64 0, .bool false, .string tl, .int .i64 eh] 23)).cell? ⟨w4.heap.size, 1, none⟩ = some (.bool false) := Bh8.out.cell 1
      have yh2 : (w7.alloc (.cells #[.int .i64 0, .bool false, .string tl, .int .i64 eh] 23)).cell? ⟨w4.heap.size, 2, none⟩ = some (.string tl) := Bh8.out.cell 2
      have yh3 : (w7.alloc (.cells #[.int .i64 0, .bool false, .string tl, .int .i64 eh] 23)).cell? ⟨w4.heap.size, 3, none⟩ = some (.int .i64 eh) := Bh8.out.cell 3
      have yx0 : (w7.alloc (.cells #[.int .i64 0, .bool false, .string tl, .int .i64 eh] 23)).cell? ⟨w7.heap.size, 0, none⟩ = some (.int .i64 0) := Bx8.out.cell 0
      have yx1 : (w7.alloc (.cells #[.int .i64 0, .bool false, .string tl, .int .i64 eh] 23)).cell? ⟨w7.heap.size, 1, none⟩ = some (.bool false) := Bx8.out.cell 1
      have yx2 : (w7.alloc (.cells #[.int .i64 0, .bool false, .string tl, .int .i64 eh] 23)).cell? ⟨w7.heap.size, 2, none⟩ = some (.string tl) := Bx8.out.cell 2
      have yx3 : (w7.alloc (.cells #[.int .i64 0, .bool false, .string tl, .int .i64 eh] 23)).cell? ⟨w7.heap.size, 3, none⟩ = some (.int .i64 eh) := Bx8.out.cell 3
      go_wp2
      obtain ⟨W3, hW3⟩ : ∃ W3, W3 = (w7.alloc (.cells #[.int .i64 0, .bool false, .string tl, .int .i64 eh] 23)) := ⟨_, rfl⟩
      rw [← hW3] at HB8 Ba8 Bl8 Bh8 Bx8 ya0 ya1 ya2 ya3 yl0 yl1 yl2 yl3 yh0 yh1 yh2 yh3 yx0 yx1 yx2 yx3
      have HW3 := hide hW3
      clear hW3
      have HL : Hid (w2.heap.size < W3.heap.size ∧ w4.heap.size < W3.heap.size) := ⟨Bl8.out.lt, Bh8.out.lt⟩
      simp only [← HW3.out]
      go_cut [12, 13] (fun vp vq wx => Cut2D W3 #[.int .i64 0, .bool false, .string tl, .int .i64 el] #[.int .i64 0, .bool false, .string tl, .int .i64 eh] vp vq wx)
      case first =>
        have nl3 : ¬ w2.heap.size = W3.heap.size := (by have := HL.out; omega)
        have ml3 : ¬ W3.heap.size = w2.heap.size := (by have := HL.out; omega)
        have nh3 : ¬ w4.heap.size = W3.heap.size := (by have := HL.out; omega)
        have mh3 : ¬ W3.heap.size = w4.heap.size := (by have := HL.out; omega)
        go_region_held3 (fun w' => w'.cell? ⟨w2.heap.size, 0, none⟩ = some (.int .i64 0) ∧ w'.cell? ⟨w2.heap.size, 1, none⟩ = some (.bool false) ∧ w'.cell? ⟨w2.heap.size, 2, none⟩ = some (.string tl) ∧ w'.cell? ⟨w2.heap.size, 3, none⟩ = some (.int .i64 el) ∧ w'.cell? ⟨w4.heap.size, 0, none⟩ = some (.int .i64 0) ∧ w'.cell? ⟨w4.heap.size, 1, none⟩ = some (.bool false) ∧ w'.cell? ⟨w4.heap.size, 2, none⟩ = some (.string tl) ∧ w'.cell? ⟨w4.heap.size, 3, none⟩ = some (.int .i64 eh)) (go_keep) (fail)
        all_goals (go_wp2_with fail; go_meet)
        all_goals (first | exact cut2_a | exact cut2_b)
      obtain ⟨⟨H, K, rfl, rfl, hq, hr, hH, hK, hHK, hbc⟩⟩ := hcut
      obtain ⟨w9, hwk⟩ : ∃ x, x = wc := ⟨_, rfl⟩
      subst hwk
      have Ba9 := hide (Ba8.out.below hbc Ba8.out.lt)
      have Bl9 := hide (Bl8.out.below hbc Bl8.out.lt)
      have Bh9 := hide (Bh8.out.below hbc Bh8.out.lt)
      have Bx9 := hide (Bx8.out.below hbc Bx8.out.lt)
      have Bn9 := hide hq
      have Bf9 := hide hr
      have HB9 := hide (HB8.out.trans (hbc.mono HB8.out.size))
      have HBT := hide (HBS.out.trans ((HW3.out ▸ ((Below.refl _ _).alloc (Nat.le_refl _) _ : Below _ _ _) : Below w7.heap.size w7 W3).trans (hbc.mono (by rw [HW3.out]; simp)) |>.mono HBS.out.size))
      have hhk : ¬ K = H := fun g => hHK g.symm
      have HHK := hide (show w.heap.size ≤ H ∧ w.heap.size ≤ K from ⟨Nat.le_trans HB8.out.size hH, Nat.le_trans HB8.out.size hK⟩)
      clear HL HBS hq hr hH hK hbc HW3 Ba8 Bl8 Bh8 Bx8 HB8 ya0 ya1 ya2 ya3 yl0 yl1 yl2 yl3 yh0 yh1 yh2 yh3 yx0 yx1 yx2 yx3
      have ya0 : w9.cell? ⟨w.heap.size, 0, none⟩ = some (.int .i64 0) := Ba9.out.cell 0
      have ya1 : w9.cell? ⟨w.heap.size, 1, none⟩ = some (.bool false) := Ba9.out.cell 1
      have ya2 : w9.cell? ⟨w.heap.size, 2, none⟩ = some (.string tl) := Ba9.out.cell 2
      have ya3 : w9.cell? ⟨w.heap.size, 3, none⟩ = some (.int .i64 ea) := Ba9.out.cell 3
      have yl0 : w9.cell? ⟨w2.heap.size, 0, none⟩ = some (.int .i64 0) := Bl9.out.cell 0
      have yl1 : w9.cell? ⟨w2.heap.size, 1, none⟩ = some (.bool false) := Bl9.out.cell 1
      have yl2 : w9.cell? ⟨w2.heap.size, 2, none⟩ = some (.string tl) := Bl9.out.cell 2
      have yl3 : w9.cell? ⟨w2.heap.size, 3, none⟩ = some (.int .i64 el) := Bl9.out.cell 3
      have yh0 : w9.cell? ⟨w4.heap.size, 0, none⟩ = some (.int .i64 0) := Bh9.out.cell 0
      have yh1 : w9.cell? ⟨w4.heap.size, 1, none⟩ = some (.bool false) := Bh9.out.cell 1
      have yh2 : w9.cell? ⟨w4.heap.size, 2, none⟩ = some (.string tl) := Bh9.out.cell 2
      have yh3 : w9.cell? ⟨w4.heap.size, 3, none⟩ = some (.int .i64 eh) := Bh9.out.cell 3
      have yx0 : w9.cell? ⟨w7.heap.size, 0, none⟩ = some (.int .i64 0) := Bx9.out.cell 0
      have yx1 : w9.cell? ⟨w7.heap.size, 1, none⟩ = some (.bool false) := Bx9.out.cell 1
      have yx2 : w9.cell? ⟨w7.heap.size, 2, none⟩ = some (.string tl) := Bx9.out.cell 2
      have yx3 : w9.cell? ⟨w7.heap.size, 3, none⟩ = some (.int .i64 eh) := Bx9.out.cell 3
      have yn0 : w9.cell? ⟨H, 0, none⟩ = some (.int .i64 0) := Bn9.out.cell 0
      have yn1 : w9.cell? ⟨H, 1, none⟩ = some (.bool false) := Bn9.out.cell 1
      have yn2 : w9.cell? ⟨H, 2, none⟩ = some (.string tl) := Bn9.out.cell 2
      have yn3 : w9.cell? ⟨H, 3, none⟩ = some (.int .i64 el) := Bn9.out.cell 3
      have yf0 : w9.cell? ⟨K, 0, none⟩ = some (.int .i64 0) := Bf9.out.cell 0
      have yf1 : w9.cell? ⟨K, 1, none⟩ = some (.bool false) := Bf9.out.cell 1
      have yf2 : w9.cell? ⟨K, 2, none⟩ = some (.string tl) := Bf9.out.cell 2
      have yf3 : w9.cell? ⟨K, 3, none⟩ = some (.int .i64 eh) := Bf9.out.cell 3
      go_wp2
      go_roundw
      case rel => exact ⟨k + 1, by first | omega | (have := HK.out; omega), by go_num, HBT.out⟩
      case measure => first | (simp [intOf]; done) | (simp [intOf]; omega) | (have := HK.out; simp [intOf]; omega)

end Go.Proofs.YtcclbcnmkaobpaaGreatDoor
