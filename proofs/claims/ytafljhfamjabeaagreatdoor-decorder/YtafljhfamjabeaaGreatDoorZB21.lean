/-
  What DecOrder wants of the order.
  The walk of DecOrder.
  The walk of DecOrder.
  The walk of DecOrder, all cases.
-/
import Derived.Test.YtafljhfamjabeaaGreatDoorZB19
import Derived.Test.YtafljhfamjabeaaGreatDoorZB7
namespace Go.Proofs.YtafljhfamjabeaaGreatDoor
open Go.RowKit

theorem cmpI_anti (x y : Int) : cmpI x y = -(cmpI y x) := by
  unfold cmpI; by_cases h : x < y
  · rw [if_pos h, if_neg (by omega), if_pos h]
  · by_cases h2 : y < x
    · rw [if_neg h, if_pos h2, if_pos h2]; rfl
    · rw [if_neg h, if_neg h2, if_neg h2, if_neg h]; rfl
theorem cmpI_ge (x y : Int) : -1 ≤ cmpI x y := by unfold cmpI; (repeat' split) <;> omega
theorem cmpI_le1 (x y : Int) : cmpI x y ≤ 1 := by unfold cmpI; (repeat' split) <;> omega
theorem cmpI_le0 {x y : Int} (h : cmpI x y ≤ 0) : x ≤ y := by
  by_cases g : y < x
  · rw [cmpI_gt g] at h; omega
  · omega
theorem cmpI_gt0 {x y : Int} (h : 0 < cmpI x y) : y < x := by
  by_cases g : x < y
  · rw [cmpI_lt g] at h; omega
  · by_cases g2 : x = y
    · rw [g2, cmpI_self] at h; omega
    · omega
theorem cmpI_trans (x y z : Int) (h1 : cmpI x y ≤ 0) (h2 : cmpI y z ≤ 0) (h3 : 0 < cmpI x z) : False := by
  have a := cmpI_le0 h1
  have b := cmpI_le0 h2
  have c := cmpI_gt0 h3
  omega
theorem cmpI_add (x y z : Int) : cmpI (x + z) (y + z) = cmpI x y := by
  unfold cmpI
  by_cases h : x < y
  · rw [if_pos h, if_pos (by omega)]
  · rw [if_neg h, if_neg (by omega)]
    by_cases h2 : y < x
    · rw [if_pos h2, if_pos (by omega)]
    · rw [if_neg h2, if_neg (by omega)]
theorem zD_not (n : Bool) (k : Nat) : zD (!n) k = -(zD n k) := by cases n <;> simp [zD]

theorem neg_ex (a : DecT) (ha : May a) : ∃ m : DecT, (∀ W, Calls Tryz.prog 24 #[decVal a] W fun e w' => e = .returned (.tuple #[decVal m, .int .i64 0]) ∧ Below W.heap.size W w') ∧ May m ∧ (a.cls ≠ 2 → wD m = -(wD a)) := by
  by_cases h : a.cls = 2
  · rcases may_cases ha with ⟨neg, rfl⟩ | hf | ⟨neg, rfl⟩ | rfl
    · exact absurd h (by simp)
    · exact absurd h (by rw [hf.cls]; decide)
    · exact absurd h (by simp)
    · exact ⟨⟨2, false, [], 0⟩, fun W => Neg_nan W, ha, fun e => absurd rfl e⟩
  · refine ⟨⟨a.cls, !a.neg, a.dig, a.exp⟩, fun W => Neg_yes (a.cls : Int) a.neg ⟨a.dig.toArray⟩ a.exp W (by rw [bys_mk]; exact ha) (by omega), ?_, fun _ => ?_⟩
    · rcases may_cases ha with ⟨neg, rfl⟩ | hf | ⟨neg, rfl⟩ | rfl
      · exact may_zero _
      · exact Fin.may ⟨hf.cls, hf.ne, hf.len, hf.lo, hf.hi, hf.first, hf.last, hf.dig⟩
      · exact .inr (.inl ⟨rfl, rfl, rfl⟩)
      · exact absurd rfl h
    · unfold wD vD; simp only [h, if_false]; split
      · exact zD_not _ _
      · exact zD_not _ _

end Go.Proofs.YtafljhfamjabeaaGreatDoor

namespace Go.Proofs.YtafljhfamjabeaaGreatDoor
open Go.RowKit

theorem bne_eq {x y : Int} (h : (x != y) = false) : x = y := by simpa using h
set_option maxRecDepth 100000 in
set_option maxHeartbeats 4000000 in
theorem order_bad (ca : Int) (na : Bool) (ta : ByteArray) (ea : Int) (cb : Int) (nb : Bool) (tb : ByteArray) (eb : Int) (cc : Int) (nc : Bool) (tc : ByteArray) (ec : Int) (w : World) (htab : Tab w) (h0 : ∀ W, Calls Tryz.prog 22 #[dcV ca na ta ea, dcV cb nb tb eb] W fun e w' => e = .returned (.tuple #[.int .i64 0, .int .i64 52]) ∧ Below W.heap.size W w') (h1 : ∀ W, Calls Tryz.prog 22 #[dcV cb nb tb eb, dcV ca na ta ea] W fun e w' => e = .returned (.tuple #[.int .i64 0, .int .i64 52]) ∧ Below W.heap.size W w') : Calls Tryz.prog 11 #[dcV ca na ta ea, dcV cb nb tb eb, dcV cc nc tc ec] w fun e w' => e = .returned (.bool true) ∧ Below w.heap.size w w' := by
  have H0 := hide h0
  have H1 := hide h1
  have HT := hide htab
  clear h0 h1 htab
  have Ba0 := hide (((Blk.newAt w (w.heap.size) (rfl) #[.int .i64 ca, .bool na, .string ta, .int .i64 ea] 23).alloc (.cells #[.int .i64 cb, .bool nb, .string tb, .int .i64 eb] 23)).alloc (.cells #[.int .i64 cc, .bool nc, .string tc, .int .i64 ec] 23))
  have Bb0 := hide ((Blk.newAt (w.alloc (.cells #[.int .i64 ca, .bool na, .string ta, .int .i64 ea] 23)) (w.heap.size + 1) (by simp) #[.int .i64 cb, .bool nb, .string tb, .int .i64 eb] 23).alloc (.cells #[.int .i64 cc, .bool nc, .string tc, .int .i64 ec] 23))
  have Bc0 := hide (Blk.newAt ((w.alloc (.cells #[.int .i64 ca, .bool na, .string ta, .int .i64 ea] 23)).alloc (.cells #[.int .i64 cb, .bool nb, .string tb, .int .i64 eb] 23)) (w.heap.size + 1 + 1) (by simp) #[.int .i64 cc, .bool nc, .string tc, .int .i64 ec] 23)
  have HB0 : Hid (Below w.heap.size w (((w.alloc (.cells #[.int .i64 ca, .bool na, .string ta, .int .i64 ea] 23)).alloc (.cells #[.int .i64 cb, .bool nb, .string tb, .int .i64 eb] 23)).alloc (.cells #[.int .i64 cc, .bool nc, .string tc, .int .i64 ec] 23))) := ((((Below.refl _ _).alloc (Nat.le_refl _) _).alloc (by simp <;> omega) _).alloc (by simp <;> omega) _)
  go_enter Tryz.func11, Tryz.ntmps11
  go_wp2_with fail
  refine (H0.out _).mono ?_
  rintro e w1 ⟨rfl, hb⟩
  have Ba1 := hide (Ba0.out.below hb Ba0.out.lt)
  have Bb1 := hide (Bb0.out.below hb Bb0.out.lt)
  have Bc1 := hide (Bc0.out.below hb Bc0.out.lt)
  have HB1 := hide (HB0.out.trans (hb.mono HB0.out.size))
  clear hb Ba0 Bb0 Bc0 HB0 
  have ya0 : w1.cell? ⟨w.heap.size, 0, none⟩ = some (.int .i64 ca) := Ba1.out.cell 0
  have ya1 : w1.cell? ⟨w.heap.size, 1, none⟩ = some (.bool na) := Ba1.out.cell 1
  have ya2 : w1.cell? ⟨w.heap.size, 2, none⟩ = some (.string ta) := Ba1.out.cell 2
  have ya3 : w1.cell? ⟨w.heap.size, 3, none⟩ = some (.int .i64 ea) := Ba1.out.cell 3
  have yb0 : w1.cell? ⟨w.heap.size + 1, 0, none⟩ = some (.int .i64 cb) := Bb1.out.cell 0
  have yb1 : w1.cell? ⟨w.heap.size + 1, 1, none⟩ = some (.bool nb) := Bb1.out.cell 1
  have yb2 : w1.cell? ⟨w.heap.size + 1, 2, none⟩ = some (.string tb) := Bb1.out.cell 2
  have yb3 : w1.cell? ⟨w.heap.size + 1, 3, none⟩ = some (.int .i64 eb) := Bb1.out.cell 3
  have yc0 : w1.cell? ⟨w.heap.size + 1 + 1, 0, none⟩ = some (.int .i64 cc) := Bc1.out.cell 0
  have yc1 : w1.cell? ⟨w.heap.size + 1 + 1, 1, none⟩ = some (.bool nc) := Bc1.out.cell 1
  have yc2 : w1.cell? ⟨w.heap.size + 1 + 1, 2, none⟩ = some (.string tc) := Bc1.out.cell 2
  have yc3 : w1.cell? ⟨w.heap.size + 1 + 1, 3, none⟩ = some (.int .i64 ec) := Bc1.out.cell 3
  go_wp2_with fail
  refine (H1.out _).mono ?_
  rintro e w2 ⟨rfl, hb⟩
  have Ba2 := hide (Ba1.out.below hb Ba1.out.lt)
  have Bb2 := hide (Bb1.out.below hb Bb1.out.lt)
  have Bc2 := hide (Bc1.out.below hb Bc1.out.lt)
  have HB2 := hide (HB1.out.trans (hb.mono HB1.out.size))
  clear hb Ba1 Bb1 Bc1 HB1 ya0 ya1 ya2 ya3 yb0 yb1 yb2 yb3 yc0 yc1 yc2 yc3
  have ya0 : w2.cell? ⟨w.heap.size, 0, none⟩ = some (.int .i64 ca) := Ba2.out.cell 0
  have ya1 : w2.cell? ⟨w.heap.size, 1, none⟩ = some (.bool na) := Ba2.out.cell 1
  have ya2 : w2.cell? ⟨w.heap.size, 2, none⟩ = some (.string ta) := Ba2.out.cell 2
  have ya3 : w2.cell? ⟨w.heap.size, 3, none⟩ = some (.int .i64 ea) := Ba2.out.cell 3
  have yb0 : w2.cell? ⟨w.heap.size + 1, 0, none⟩ = some (.int .i64 cb) := Bb2.out.cell 0
  have yb1 : w2.cell? ⟨w.heap.size + 1, 1, none⟩ = some (.bool nb) := Bb2.out.cell 1
  have yb2 : w2.cell? ⟨w.heap.size + 1, 2, none⟩ = some (.string tb) := Bb2.out.cell 2
  have yb3 : w2.cell? ⟨w.heap.size + 1, 3, none⟩ = some (.int .i64 eb) := Bb2.out.cell 3
  have yc0 : w2.cell? ⟨w.heap.size + 1 + 1, 0, none⟩ = some (.int .i64 cc) := Bc2.out.cell 0
  have yc1 : w2.cell? ⟨w.heap.size + 1 + 1, 1, none⟩ = some (.bool nc) := Bc2.out.cell 1
  have yc2 : w2.cell? ⟨w.heap.size + 1 + 1, 2, none⟩ = some (.string tc) := Bc2.out.cell 2
  have yc3 : w2.cell? ⟨w.heap.size + 1 + 1, 3, none⟩ = some (.int .i64 ec) := Bc2.out.cell 3
  go_wp2_with fail
  refine (dawake_any _ (HT.out.below HB2.out)).mono ?_
  rintro e w3 ⟨rfl, hb⟩
  have Ba3 := hide (Ba2.out.below hb Ba2.out.lt)
  have Bb3 := hide (Bb2.out.below hb Bb2.out.lt)
  have Bc3 := hide (Bc2.out.below hb Bc2.out.lt)
  have HB3 := hide (HB2.out.trans (hb.mono HB2.out.size))
  clear hb Ba2 Bb2 Bc2 HB2 ya0 ya1 ya2 ya3 yb0 yb1 yb2 yb3 yc0 yc1 yc2 yc3
  have ya0 : w3.cell? ⟨w.heap.size, 0, none⟩ = some (.int .i64 ca) := Ba3.out.cell 0
  have ya1 : w3.cell? ⟨w.heap.size, 1, none⟩ = some (.bool na) := Ba3.out.cell 1
  have ya2 : w3.cell? ⟨w.heap.size, 2, none⟩ = some (.string ta) := Ba3.out.cell 2
  have ya3 : w3.cell? ⟨w.heap.size, 3, none⟩ = some (.int .i64 ea) := Ba3.out.cell 3
  have yb0 : w3.cell? ⟨w.heap.size + 1, 0, none⟩ = some (.int .i64 cb) := Bb3.out.cell 0
  have yb1 : w3.cell? ⟨w.heap.size + 1, 1, none⟩ = some (.bool nb) := Bb3.out.cell 1
  have yb2 : w3.cell? ⟨w.heap.size + 1, 2, none⟩ = some (.string tb) := Bb3.out.cell 2
  have yb3 : w3.cell? ⟨w.heap.size + 1, 3, none⟩ = some (.int .i64 eb) := Bb3.out.cell 3
  have yc0 : w3.cell? ⟨w.heap.size + 1 + 1, 0, none⟩ = some (.int .i64 cc) := Bc3.out.cell 0
  have yc1 : w3.cell? ⟨w.heap.size + 1 + 1, 1, none⟩ = some (.bool nc) := Bc3.out.cell 1
  have yc2 : w3.cell? ⟨w.heap.size + 1 + 1, 2, none⟩ = some (.string tc) := Bc3.out.cell 2
  have yc3 : w3.cell? ⟨w.heap.size + 1 + 1, 3, none⟩ = some (.int .i64 ec) := Bc3.out.cell 3
  go_wp2
  go_ret
  exact ⟨rfl, HB3.out⟩

set_option maxRecDepth 100000 in
set_option maxHeartbeats 30000000 in
theorem order_n (ca : Int) (na : Bool) (ta : ByteArray) (ea : Int) (cb : Int) (nb : Bool) (tb : ByteArray) (eb : Int) (cc : Int) (nc : Bool) (tc : ByteArray) (ec : Int) (cm : Int) (nm : Bool) (tm : ByteArray) (em : Int) (cn : Int) (nn : Bool) (tn : ByteArray) (en : Int) (x y v : Int) (w : World) (htab : Tab w) (h0 : ∀ W, Calls Tryz.prog 22 #[dcV ca na ta ea, dcV cb nb tb eb] W fun e w' => e = .returned (.tuple #[.int .i64 x, .int .i64 0]) ∧ Below W.heap.size W w') (h1 : ∀ W, Calls Tryz.prog 22 #[dcV cb nb tb eb, dcV ca na ta ea] W fun e w' => e = .returned (.tuple #[.int .i64 y, .int .i64 0]) ∧ Below W.heap.size W w') (h2 : ∀ W, Calls Tryz.prog 22 #[dcV cb nb tb eb, dcV cc nc tc ec] W fun e w' => e = .returned (.tuple #[.int .i64 0, .int .i64 52]) ∧ Below W.heap.size W w') (h3 : ∀ W, Calls Tryz.prog 22 #[dcV ca na ta ea, dcV cc nc tc ec] W fun e w' => e = .returned (.tuple #[.int .i64 0, .int .i64 52]) ∧ Below W.heap.size W w') (h4 : ∀ W, Calls Tryz.prog 24 #[dcV ca na ta ea] W fun e w' => e = .returned (.tuple #[.agg #[.int .i64 cm, .bool nm, .string tm, .int .i64 em], .int .i64 0]) ∧ Below W.heap.size W w') (h5 : ∀ W, Calls Tryz.prog 24 #[dcV cb nb tb eb] W fun e w' => e = .returned (.tuple #[.agg #[.int .i64 cn, .bool nn, .string tn, .int .i64 en], .int .i64 0]) ∧ Below W.heap.size W w') (h6 : ∀ W, Calls Tryz.prog 22 #[.agg #[.int .i64 cm, .bool nm, .string tm, .int .i64 em], .agg #[.int .i64 cn, .bool nn, .string tn, .int .i64 en]] W fun e w' => e = .returned (.tuple #[.int .i64 v, .int .i64 0]) ∧ Below W.heap.size W w') (h7 : ∀ W, Tab W → Calls Tryz.prog 28 #[dcV ca na ta ea, dcV cc nc tc ec] W fun e w' => e = .returned (.tuple #[.agg #[.int .i64 0, .bool false, .string ⟨#[]⟩, .int .i64 0], .int .i64 52]) ∧ Below W.heap.size W w') (h8 : ∀ W, Tab W → Calls Tryz.prog 28 #[dcV cb nb tb eb, dcV cc nc tc ec] W fun e w' => e = .returned (.tuple #[.agg #[.int .i64 0, .bool false, .string ⟨#[]⟩, .int .i64 0], .int .i64 52]) ∧ Below W.heap.size W w') (hx1 : -1 ≤ x) (hx2 : x ≤ 1) (hy1 : -1 ≤ y) (hy2 : y ≤ 1) (hxy : (x != -y) = false) (hv : ca ≠ 2 → cb ≠ 2 → (v != -x) = true → False) : Calls Tryz.prog 11 #[dcV ca na ta ea, dcV cb nb tb eb, dcV cc nc tc ec] w fun e w' => e = .returned (.bool true) ∧ Below w.heap.size w w' := by
  have H0 := hide h0
  have H1 := hide h1
  have H2 := hide h2
  have H3 := hide h3
  have H4 := hide h4
  have H5 := hide h5
  have H6 := hide h6
  have H7 := hide h7
  have H8 := hide h8
  have HV := hide hv
  have HT := hide htab
  clear htab hv h0 h1 h2 h3 h4 h5 h6 h7 h8
  have Ba0 := hide (((Blk.newAt w (w.heap.size) (rfl) #[.int .i64 ca, .bool na, .string ta, .int .i64 ea] 23).alloc (.cells #[.int .i64 cb, .bool nb, .string tb, .int .i64 eb] 23)).alloc (.cells #[.int .i64 cc, .bool nc, .string tc, .int .i64 ec] 23))
  have Bb0 := hide ((Blk.newAt (w.alloc (.cells #[.int .i64 ca, .bool na, .string ta, .int .i64 ea] 23)) (w.heap.size + 1) (by simp) #[.int .i64 cb, .bool nb, .string tb, .int .i64 eb] 23).alloc (.cells #[.int .i64 cc, .bool nc, .string tc, .int .i64 ec] 23))
  have Bc0 := hide (Blk.newAt ((w.alloc (.cells #[.int .i64 ca, .bool na, .string ta, .int .i64 ea] 23)).alloc (.cells #[.int .i64 cb, .bool nb, .string tb, .int .i64 eb] 23)) (w.heap.size + 1 + 1) (by simp) #[.int .i64 cc, .bool nc, .string tc, .int .i64 ec] 23)
  have HB0 : Hid (Below w.heap.size w (((w.alloc (.cells #[.int .i64 ca, .bool na, .string ta, .int .i64 ea] 23)).alloc (.cells #[.int .i64 cb, .bool nb, .string tb, .int .i64 eb] 23)).alloc (.cells #[.int .i64 cc, .bool nc, .string tc, .int .i64 ec] 23))) := ((((Below.refl _ _).alloc (Nat.le_refl _) _).alloc (by simp <;> omega) _).alloc (by simp <;> omega) _)
  go_enter Tryz.func11, Tryz.ntmps11
  go_wp2_with fail
  refine (H0.out _).mono ?_
  rintro e w1 ⟨rfl, hb⟩
  have Ba1 := hide (Ba0.out.below hb Ba0.out.lt)
  have Bb1 := hide (Bb0.out.below hb Bb0.out.lt)
  have Bc1 := hide (Bc0.out.below hb Bc0.out.lt)
  have HB1 := hide (HB0.out.trans (hb.mono HB0.out.size))
  clear hb Ba0 Bb0 Bc0 HB0 
  have ya0 : w1.cell? ⟨w.heap.size, 0, none⟩ = some (.int .i64 ca) := Ba1.out.cell 0
  have ya1 : w1.cell? ⟨w.heap.size, 1, none⟩ = some (.bool na) := Ba1.out.cell 1
  have ya2 : w1.cell? ⟨w.heap.size, 2, none⟩ = some (.string ta) := Ba1.out.cell 2
  have ya3 : w1.cell? ⟨w.heap.size, 3, none⟩ = some (.int .i64 ea) := Ba1.out.cell 3
  have yb0 : w1.cell? ⟨w.heap.size + 1, 0, none⟩ = some (.int .i64 cb) := Bb1.out.cell 0
  have yb1 : w1.cell? ⟨w.heap.size + 1, 1, none⟩ = some (.bool nb) := Bb1.out.cell 1
  have yb2 : w1.cell? ⟨w.heap.size + 1, 2, none⟩ = some (.string tb) := Bb1.out.cell 2
  have yb3 : w1.cell? ⟨w.heap.size + 1, 3, none⟩ = some (.int .i64 eb) := Bb1.out.cell 3
  have yc0 : w1.cell? ⟨w.heap.size + 1 + 1, 0, none⟩ = some (.int .i64 cc) := Bc1.out.cell 0
  have yc1 : w1.cell? ⟨w.heap.size + 1 + 1, 1, none⟩ = some (.bool nc) := Bc1.out.cell 1
  have yc2 : w1.cell? ⟨w.heap.size + 1 + 1, 2, none⟩ = some (.string tc) := Bc1.out.cell 2
  have yc3 : w1.cell? ⟨w.heap.size + 1 + 1, 3, none⟩ = some (.int .i64 ec) := Bc1.out.cell 3
  go_wp2_with fail
  refine (H1.out _).mono ?_
  rintro e w2 ⟨rfl, hb⟩
  have Ba2 := hide (Ba1.out.below hb Ba1.out.lt)
  have Bb2 := hide (Bb1.out.below hb Bb1.out.lt)
  have Bc2 := hide (Bc1.out.below hb Bc1.out.lt)
  have HB2 := hide (HB1.out.trans (hb.mono HB1.out.size))
  clear hb Ba1 Bb1 Bc1 HB1 ya0 ya1 ya2 ya3 yb0 yb1 yb2 yb3 yc0 yc1 yc2 yc3
  have ya0 : w2.cell? ⟨w.heap.size, 0, none⟩ = some (.int .i64 ca) := Ba2.out.cell 0
  have ya1 : w2.cell? ⟨w.heap.size, 1, none⟩ = some (.bool na) := Ba2.out.cell 1
  have ya2 : w2.cell? ⟨w.heap.size, 2, none⟩ = some (.string ta) := Ba2.out.cell 2
  have ya3 : w2.cell? ⟨w.heap.size, 3, none⟩ = some (.int .i64 ea) := Ba2.out.cell 3
  have yb0 : w2.cell? ⟨w.heap.size + 1, 0, none⟩ = some (.int .i64 cb) := Bb2.out.cell 0
  have yb1 : w2.cell? ⟨w.heap.size + 1, 1, none⟩ = some (.bool nb) := Bb2.out.cell 1
  have yb2 : w2.cell? ⟨w.heap.size + 1, 2, none⟩ = some (.string tb) := Bb2.out.cell 2
  have yb3 : w2.cell? ⟨w.heap.size + 1, 3, none⟩ = some (.int .i64 eb) := Bb2.out.cell 3
  have yc0 : w2.cell? ⟨w.heap.size + 1 + 1, 0, none⟩ = some (.int .i64 cc) := Bc2.out.cell 0
  have yc1 : w2.cell? ⟨w.heap.size + 1 + 1, 1, none⟩ = some (.bool nc) := Bc2.out.cell 1
  have yc2 : w2.cell? ⟨w.heap.size + 1 + 1, 2, none⟩ = some (.string tc) := Bc2.out.cell 2
  have yc3 : w2.cell? ⟨w.heap.size + 1 + 1, 3, none⟩ = some (.int .i64 ec) := Bc2.out.cell 3
  go_wp2_with fail
  refine (dawake_any _ (HT.out.below HB2.out)).mono ?_
  rintro e w3 ⟨rfl, hb⟩
  have Ba3 := hide (Ba2.out.below hb Ba2.out.lt)
  have Bb3 := hide (Bb2.out.below hb Bb2.out.lt)
  have Bc3 := hide (Bc2.out.below hb Bc2.out.lt)
  have HB3 := hide (HB2.out.trans (hb.mono HB2.out.size))
  clear hb Ba2 Bb2 Bc2 HB2 ya0 ya1 ya2 ya3 yb0 yb1 yb2 yb3 yc0 yc1 yc2 yc3
  have ya0 : w3.cell? ⟨w.heap.size, 0, none⟩ = some (.int .i64 ca) := Ba3.out.cell 0
  have ya1 : w3.cell? ⟨w.heap.size, 1, none⟩ = some (.bool na) := Ba3.out.cell 1
  have ya2 : w3.cell? ⟨w.heap.size, 2, none⟩ = some (.string ta) := Ba3.out.cell 2
  have ya3 : w3.cell? ⟨w.heap.size, 3, none⟩ = some (.int .i64 ea) := Ba3.out.cell 3
  have yb0 : w3.cell? ⟨w.heap.size + 1, 0, none⟩ = some (.int .i64 cb) := Bb3.out.cell 0
  have yb1 : w3.cell? ⟨w.heap.size + 1, 1, none⟩ = some (.bool nb) := Bb3.out.cell 1
  have yb2 : w3.cell? ⟨w.heap.size + 1, 2, none⟩ = some (.string tb) := Bb3.out.cell 2
  have yb3 : w3.cell? ⟨w.heap.size + 1, 3, none⟩ = some (.int .i64 eb) := Bb3.out.cell 3
  have yc0 : w3.cell? ⟨w.heap.size + 1 + 1, 0, none⟩ = some (.int .i64 cc) := Bc3.out.cell 0
  have yc1 : w3.cell? ⟨w.heap.size + 1 + 1, 1, none⟩ = some (.bool nc) := Bc3.out.cell 1
  have yc2 : w3.cell? ⟨w.heap.size + 1 + 1, 2, none⟩ = some (.string tc) := Bc3.out.cell 2
  have yc3 : w3.cell? ⟨w.heap.size + 1 + 1, 3, none⟩ = some (.int .i64 ec) := Bc3.out.cell 3
  go_wp2_with fail
  refine (H2.out _).mono ?_
  rintro e w4 ⟨rfl, hb⟩
  have Ba4 := hide (Ba3.out.below hb Ba3.out.lt)
  have Bb4 := hide (Bb3.out.below hb Bb3.out.lt)
  have Bc4 := hide (Bc3.out.below hb Bc3.out.lt)
  have HB4 := hide (HB3.out.trans (hb.mono HB3.out.size))
  clear hb Ba3 Bb3 Bc3 HB3 ya0 ya1 ya2 ya3 yb0 yb1 yb2 yb3 yc0 yc1 yc2 yc3
  have ya0 : w4.cell? ⟨w.heap.size, 0, none⟩ = some (.int .i64 ca) := Ba4.out.cell 0
  have ya1 : w4.cell? ⟨w.heap.size, 1, none⟩ = some (.bool na) := Ba4.out.cell 1
  have ya2 : w4.cell? ⟨w.heap.size, 2, none⟩ = some (.string ta) := Ba4.out.cell 2
  have ya3 : w4.cell? ⟨w.heap.size, 3, none⟩ = some (.int .i64 ea) := Ba4.out.cell 3
  have yb0 : w4.cell? ⟨w.heap.size + 1, 0, none⟩ = some (.int .i64 cb) := Bb4.out.cell 0
  have yb1 : w4.cell? ⟨w.heap.size + 1, 1, none⟩ = some (.bool nb) := Bb4.out.cell 1
  have yb2 : w4.cell? ⟨w.heap.size + 1, 2, none⟩ = some (.string tb) := Bb4.out.cell 2
  have yb3 : w4.cell? ⟨w.heap.size + 1, 3, none⟩ = some (.int .i64 eb) := Bb4.out.cell 3
  have yc0 : w4.cell? ⟨w.heap.size + 1 + 1, 0, none⟩ = some (.int .i64 cc) := Bc4.out.cell 0
  have yc1 : w4.cell? ⟨w.heap.size + 1 + 1, 1, none⟩ = some (.bool nc) := Bc4.out.cell 1
  have yc2 : w4.cell? ⟨w.heap.size + 1 + 1, 2, none⟩ = some (.string tc) := Bc4.out.cell 2
  have yc3 : w4.cell? ⟨w.heap.size + 1 + 1, 3, none⟩ = some (.int .i64 ec) := Bc4.out.cell 3
  go_wp2_with fail
  refine (H3.out _).mono ?_
  rintro e w5 ⟨rfl, hb⟩
  have Ba5 := hide (Ba4.out.below hb Ba4.out.lt)
  have Bb5 := hide (Bb4.out.below hb Bb4.out.lt)
  have Bc5 := hide (Bc4.out.below hb Bc4.out.lt)
  have HB5 := hide (HB4.out.trans (hb.mono HB4.out.size))
  clear hb Ba4 Bb4 Bc4 HB4 ya0 ya1 ya2 ya3 yb0 yb1 yb2 yb3 yc0 yc1 yc2 yc3
  have ya0 : w5.cell? ⟨w.heap.size, 0, none⟩ = some (.int .i64 ca) := Ba5.out.cell 0
  have ya1 : w5.cell? ⟨w.heap.size, 1, none⟩ = some (.bool na) := Ba5.out.cell 1
  have ya2 : w5.cell? ⟨w.heap.size, 2, none⟩ = some (.string ta) := Ba5.out.cell 2
  have ya3 : w5.cell? ⟨w.heap.size, 3, none⟩ = some (.int .i64 ea) := Ba5.out.cell 3
  have yb0 : w5.cell? ⟨w.heap.size + 1, 0, none⟩ = some (.int .i64 cb) := Bb5.out.cell 0
  have yb1 : w5.cell? ⟨w.heap.size + 1, 1, none⟩ = some (.bool nb) := Bb5.out.cell 1
  have yb2 : w5.cell? ⟨w.heap.size + 1, 2, none⟩ = some (.string tb) := Bb5.out.cell 2
  have yb3 : w5.cell? ⟨w.heap.size + 1, 3, none⟩ = some (.int .i64 eb) := Bb5.out.cell 3
  have yc0 : w5.cell? ⟨w.heap.size + 1 + 1, 0, none⟩ = some (.int .i64 cc) := Bc5.out.cell 0
  have yc1 : w5.cell? ⟨w.heap.size + 1 + 1, 1, none⟩ = some (.bool nc) := Bc5.out.cell 1
  have yc2 : w5.cell? ⟨w.heap.size + 1 + 1, 2, none⟩ = some (.string tc) := Bc5.out.cell 2
  have yc3 : w5.cell? ⟨w.heap.size + 1 + 1, 3, none⟩ = some (.int .i64 ec) := Bc5.out.cell 3
  go_wp2_with fail
  refine (H4.out _).mono ?_
  rintro e w6 ⟨rfl, hb⟩
  have Ba6 := hide (Ba5.out.below hb Ba5.out.lt)
  have Bb6 := hide (Bb5.out.below hb Bb5.out.lt)
  have Bc6 := hide (Bc5.out.below hb Bc5.out.lt)
  have HB6 := hide (HB5.out.trans (hb.mono HB5.out.size))
  clear hb Ba5 Bb5 Bc5 HB5 ya0 ya1 ya2 ya3 yb0 yb1 yb2 yb3 yc0 yc1 yc2 yc3
  have ya0 : w6.cell? ⟨w.heap.size, 0, none⟩ = some (.int .i64 ca) := Ba6.out.cell 0
  have ya1 : w6.cell? ⟨w.heap.size, 1, none⟩ = some (.bool na) := Ba6.out.cell 1
  have ya2 : w6.cell? ⟨w.heap.size, 2, none⟩ = some (.string ta) := Ba6.out.cell 2
  have ya3 : w6.cell? ⟨w.heap.size, 3, none⟩ = some (.int .i64 ea) := Ba6.out.cell 3
  have yb0 : w6.cell? ⟨w.heap.size + 1, 0, none⟩ = some (.int .i64 cb) := Bb6.out.cell 0
  have yb1 : w6.cell? ⟨w.heap.size + 1, 1, none⟩ = some (.bool nb) := Bb6.out.cell 1
  have yb2 : w6.cell? ⟨w.heap.size + 1, 2, none⟩ = some (.string tb) := Bb6.out.cell 2
  have yb3 : w6.cell? ⟨w.heap.size + 1, 3, none⟩ = some (.int .i64 eb) := Bb6.out.cell 3
  have yc0 : w6.cell? ⟨w.heap.size + 1 + 1, 0, none⟩ = some (.int .i64 cc) := Bc6.out.cell 0
  have yc1 : w6.cell? ⟨w.heap.size + 1 + 1, 1, none⟩ = some (.bool nc) := Bc6.out.cell 1
  have yc2 : w6.cell? ⟨w.heap.size + 1 + 1, 2, none⟩ = some (.string tc) := Bc6.out.cell 2
  have yc3 : w6.cell? ⟨w.heap.size + 1 + 1, 3, none⟩ = some (.int .i64 ec) := Bc6.out.cell 3
  have Ba7 := hide ((Ba6.out.alloc (.cells #[.int .i64 cm, .bool nm, .string tm, .int .i64 em] 23)))
  have Bb7 := hide ((Bb6.out.alloc (.cells #[.int .i64 cm, .bool nm, .string tm, .int .i64 em] 23)))
  have Bc7 := hide ((Bc6.out.alloc (.cells #[.int .i64 cm, .bool nm, .string tm, .int .i64 em] 23)))
  have Bm7 := hide ((Blk.newAt w6 (w6.heap.size) (rfl) #[.int .i64 cm, .bool nm, .string tm, .int .i64 em] 23))
  have HB7 : Hid (Below w.heap.size w (w6.alloc (.cells #[.int .i64 cm, .bool nm, .string tm, .int .i64 em] 23))) := (HB6.out.alloc HB6.out.size _)
  clear Ba6 Bb6 Bc6 HB6 ya0 ya1 ya2 ya3 yb0 yb1 yb2 yb3 yc0 yc1 yc2 yc3
  have ya0 : (w6.alloc (.cells #[.int .i64 cm, .bool nm, .string tm, .int .i64 em] 23)).cell? ⟨w.heap.size, 0, none⟩ = some (.int .i64 ca) := Ba7.out.cell 0
  have ya1 : (w6.alloc (.cells #[.int .i64 cm, .bool nm, .string tm, .int .i64 em] 23)).cell? ⟨w.heap.size, 1, none⟩ = some (.bool na) := Ba7.out.cell 1
  have ya2 : (w6.alloc (.cells #[.int .i64 cm, .bool nm, .string tm, .int .i64 em] 23)).cell? ⟨w.heap.size, 2, none⟩ = some (.string ta) := Ba7.out.cell 2
  have ya3 : (w6.alloc (.cells #[.int .i64 cm, .bool nm, .string tm, .int .i64 em] 23)).cell? ⟨w.heap.size, 3, none⟩ = some (.int .i64 ea) := Ba7.out.cell 3
  have yb0 : (w6.alloc (.cells #[.int .i64 cm, .bool nm, .string tm, .int .i64 em] 23)).cell? ⟨w.heap.size + 1, 0, none⟩ = some (.int .i64 cb) := Bb7.out.cell 0
  have yb1 : (w6.alloc (.cells #[.int .i64 cm, .bool nm, .string tm, .int .i64 em] 23)).cell? ⟨w.heap.size + 1, 1, none⟩ = some (.bool nb) := Bb7.out.cell 1
  have yb2 : (w6.alloc (.cells #[.int .i64 cm, .bool nm, .string tm, .int .i64 em] 23)).cell? ⟨w.heap.size + 1, 2, none⟩ = some (.string tb) := Bb7.out.cell 2
  have yb3 : (w6.alloc (.cells #[.int .i64 cm, .bool nm, .string tm, .int .i64 em] 23)).cell? ⟨w.heap.size + 1, 3, none⟩ = some (.int .i64 eb) := Bb7.out.cell 3
  have yc0 : (w6.alloc (.cells #[.int .i64 cm, .bool nm, .string tm, .int .i64 em] 23)).cell? ⟨w.heap.size + 1 + 1, 0, none⟩ = some (.int .i64 cc) := Bc7.out.cell 0
  have yc1 : (w6.alloc (.cells #[.int .i64 cm, .bool nm, .string tm, .int .i64 em] 23)).cell? ⟨w.heap.size + 1 + 1, 1, none⟩ = some (.bool nc) := Bc7.out.cell 1
  have yc2 : (w6.alloc (.cells #[.int .i64 cm, .bool nm, .string tm, .int .i64 em] 23)).cell? ⟨w.heap.size + 1 + 1, 2, none⟩ = some (.string tc) := Bc7.out.cell 2
  have yc3 : (w6.alloc (.cells #[.int .i64 cm, .bool nm, .string tm, .int .i64 em] 23)).cell? ⟨w.heap.size + 1 + 1, 3, none⟩ = some (.int .i64 ec) := Bc7.out.cell 3
  have ym0 : (w6.alloc (.cells #[.int .i64 cm, .bool nm, .string tm, .int .i64 em] 23)).cell? ⟨w6.heap.size, 0, none⟩ = some (.int .i64 cm) := Bm7.out.cell 0
  have ym1 : (w6.alloc (.cells #[.int .i64 cm, .bool nm, .string tm, .int .i64 em] 23)).cell? ⟨w6.heap.size, 1, none⟩ = some (.bool nm) := Bm7.out.cell 1
  have ym2 : (w6.alloc (.cells #[.int .i64 cm, .bool nm, .string tm, .int .i64 em] 23)).cell? ⟨w6.heap.size, 2, none⟩ = some (.string tm) := Bm7.out.cell 2
  have ym3 : (w6.alloc (.cells #[.int .i64 cm, .bool nm, .string tm, .int .i64 em] 23)).cell? ⟨w6.heap.size, 3, none⟩ = some (.int .i64 em) := Bm7.out.cell 3
  go_wp2_with fail
  refine (H5.out _).mono ?_
  rintro e w8 ⟨rfl, hb⟩
  have Ba8 := hide (Ba7.out.below hb Ba7.out.lt)
  have Bb8 := hide (Bb7.out.below hb Bb7.out.lt)
  have Bc8 := hide (Bc7.out.below hb Bc7.out.lt)
  have Bm8 := hide (Bm7.out.below hb Bm7.out.lt)
  have HB8 := hide (HB7.out.trans (hb.mono HB7.out.size))
  clear hb Ba7 Bb7 Bc7 Bm7 HB7 ya0 ya1 ya2 ya3 yb0 yb1 yb2 yb3 yc0 yc1 yc2 yc3 ym0 ym1 ym2 ym3
  have ya0 : w8.cell? ⟨w.heap.size, 0, none⟩ = some (.int .i64 ca) := Ba8.out.cell 0
  have ya1 : w8.cell? ⟨w.heap.size, 1, none⟩ = some (.bool na) := Ba8.out.cell 1
  have ya2 : w8.cell? ⟨w.heap.size, 2, none⟩ = some (.string ta) := Ba8.out.cell 2
  have ya3 : w8.cell? ⟨w.heap.size, 3, none⟩ = some (.int .i64 ea) := Ba8.out.cell 3
  have yb0 : w8.cell? ⟨w.heap.size + 1, 0, none⟩ = some (.int .i64 cb) := Bb8.out.cell 0
  have yb1 : w8.cell? ⟨w.heap.size + 1, 1, none⟩ = some (.bool nb) := Bb8.out.cell 1
  have yb2 : w8.cell? ⟨w.heap.size + 1, 2, none⟩ = some (.string tb) := Bb8.out.cell 2
  have yb3 : w8.cell? ⟨w.heap.size + 1, 3, none⟩ = some (.int .i64 eb) := Bb8.out.cell 3
  have yc0 : w8.cell? ⟨w.heap.size + 1 + 1, 0, none⟩ = some (.int .i64 cc) := Bc8.out.cell 0
  have yc1 : w8.cell? ⟨w.heap.size + 1 + 1, 1, none⟩ = some (.bool nc) := Bc8.out.cell 1
  have yc2 : w8.cell? ⟨w.heap.size + 1 + 1, 2, none⟩ = some (.string tc) := Bc8.out.cell 2
  have yc3 : w8.cell? ⟨w.heap.size + 1 + 1, 3, none⟩ = some (.int .i64 ec) := Bc8.out.cell 3
  have ym0 : w8.cell? ⟨w6.heap.size, 0, none⟩ = some (.int .i64 cm) := Bm8.out.cell 0
  have ym1 : w8.cell? ⟨w6.heap.size, 1, none⟩ = some (.bool nm) := Bm8.out.cell 1
  have ym2 : w8.cell? ⟨w6.heap.size, 2, none⟩ = some (.string tm) := Bm8.out.cell 2
  have ym3 : w8.cell? ⟨w6.heap.size, 3, none⟩ = some (.int .i64 em) := Bm8.out.cell 3
  have Ba9 := hide ((Ba8.out.alloc (.cells #[.int .i64 cn, .bool nn, .string tn, .int .i64 en] 23)))
  have Bb9 := hide ((Bb8.out.alloc (.cells #[.int .i64 cn, .bool nn, .string tn, .int .i64 en] 23)))
  have Bc9 := hide ((Bc8.out.alloc (.cells #[.int .i64 cn, .bool nn, .string tn, .int .i64 en] 23)))
  have Bm9 := hide ((Bm8.out.alloc (.cells #[.int .i64 cn, .bool nn, .string tn, .int .i64 en] 23)))
  have Bn9 := hide ((Blk.newAt w8 (w8.heap.size) (rfl) #[.int .i64 cn, .bool nn, .string tn, .int .i64 en] 23))
  have HB9 : Hid (Below w.heap.size w (w8.alloc (.cells #[.int .i64 cn, .bool nn, .string tn, .int .i64 en] 23))) := (HB8.out.alloc HB8.out.size _)
  clear Ba8 Bb8 Bc8 Bm8 HB8 ya0 ya1 ya2 ya3 yb0 yb1 yb2 yb3 yc0 yc1 yc2 yc3 ym0 ym1 ym2 ym3
  have ya0 : (w8.alloc (.cells #[.int .i64 cn, .bool nn, .string tn, .int .i64 en] 23)).cell? ⟨w.heap.size, 0, none⟩ = some (.int .i64 ca) := Ba9.out.cell 0
  have ya1 : (w8.alloc (.cells #[.int .i64 cn, .bool nn, .string tn, .int .i64 en] 23)).cell? ⟨w.heap.size, 1, none⟩ = some (.bool na) := Ba9.out.cell 1
  have ya2 : (w8.alloc (.cells #[.int .i64 cn, .bool nn, .string tn, .int .i64 en] 23)).cell? ⟨w.heap.size, 2, none⟩ = some (.string ta) := Ba9.out.cell 2
  have ya3 : (w8.alloc (.cells #[.int .i64 cn, .bool nn, .string tn, .int .i64 en] 23)).cell? ⟨w.heap.size, 3, none⟩ = some (.int .i64 ea) := Ba9.out.cell 3
  have yb0 : (w8.alloc (.cells #[.int .i64 cn, .bool nn, .string tn, .int .i64 en] 23)).cell? ⟨w.heap.size + 1, 0, none⟩ = some (.int .i64 cb) := Bb9.out.cell 0
  have yb1 : (w8.alloc (.cells #[.int .i64 cn, .bool nn, .string tn, .int .i64 en] 23)).cell? ⟨w.heap.size + 1, 1, none⟩ = some (.bool nb) := Bb9.out.cell 1
  have yb2 : (w8.alloc (.cells #[.int .i64 cn, .bool nn, .string tn, .int .i64 en] 23)).cell? ⟨w.heap.size + 1, 2, none⟩ = some (.string tb) := Bb9.out.cell 2
  have yb3 : (w8.alloc (.cells #[.int .i64 cn, .bool nn, .string tn, .int .i64 en] 23)).cell? ⟨w.heap.size + 1, 3, none⟩ = some (.int .i64 eb) := Bb9.out.cell 3
  have yc0 : (w8.alloc (.cells #[.int .i64 cn, .bool nn, .string tn, .int .i64 en] 23)).cell? ⟨w.heap.size + 1 + 1, 0, none⟩ = some (.int .i64 cc) := Bc9.out.cell 0
  have yc1 : (w8.alloc (.cells #[.int .i64 cn, .bool nn, .string tn, .int .i64 en] 23)).cell? ⟨w.heap.size + 1 + 1, 1, none⟩ = some (.bool nc) := Bc9.out.cell 1
  have yc2 : (w8.alloc (.cells #[.int .i64 cn, .bool nn, .string tn, .int .i64 en] 23)).cell? ⟨w.heap.size + 1 + 1, 2, none⟩ = some (.string tc) := Bc9.out.cell 2
  have yc3 : (w8.alloc (.cells #[.int .i64 cn, .bool nn, .string tn, .int .i64 en] 23)).cell? ⟨w.heap.size + 1 + 1, 3, none⟩ = some (.int .i64 ec) := Bc9.out.cell 3
  have ym0 : (w8.alloc (.cells #[.int .i64 cn, .bool nn, .string tn, .int .i64 en] 23)).cell? ⟨w6.heap.size, 0, none⟩ = some (.int .i64 cm) := Bm9.out.cell 0
  have ym1 : (w8.alloc (.cells #[.int .i64 cn, .bool nn, .string tn, .int .i64 en] 23)).cell? ⟨w6.heap.size, 1, none⟩ = some (.bool nm) := Bm9.out.cell 1
  have ym2 : (w8.alloc (.cells #[.int .i64 cn, .bool nn, .string tn, .int .i64 en] 23)).cell? ⟨w6.heap.size, 2, none⟩ = some (.string tm) := Bm9.out.cell 2
  have ym3 : (w8.alloc (.cells #[.int .i64 cn, .bool nn, .string tn, .int .i64 en] 23)).cell? ⟨w6.heap.size, 3, none⟩ = some (.int .i64 em) := Bm9.out.cell 3
  have yn0 : (w8.alloc (.cells #[.int .i64 cn, .bool nn, .string tn, .int .i64 en] 23)).cell? ⟨w8.heap.size, 0, none⟩ = some (.int .i64 cn) := Bn9.out.cell 0
  have yn1 : (w8.alloc (.cells #[.int .i64 cn, .bool nn, .string tn, .int .i64 en] 23)).cell? ⟨w8.heap.size, 1, none⟩ = some (.bool nn) := Bn9.out.cell 1
  have yn2 : (w8.alloc (.cells #[.int .i64 cn, .bool nn, .string tn, .int .i64 en] 23)).cell? ⟨w8.heap.size, 2, none⟩ = some (.string tn) := Bn9.out.cell 2
  have yn3 : (w8.alloc (.cells #[.int .i64 cn, .bool nn, .string tn, .int .i64 en] 23)).cell? ⟨w8.heap.size, 3, none⟩ = some (.int .i64 en) := Bn9.out.cell 3
  go_wp2_with fail
  refine (H6.out _).mono ?_
  rintro e w10 ⟨rfl, hb⟩
  have Ba10 := hide (Ba9.out.below hb Ba9.out.lt)
  have Bb10 := hide (Bb9.out.below hb Bb9.out.lt)
  have Bc10 := hide (Bc9.out.below hb Bc9.out.lt)
  have Bm10 := hide (Bm9.out.below hb Bm9.out.lt)
  have Bn10 := hide (Bn9.out.below hb Bn9.out.lt)
  have HB10 := hide (HB9.out.trans (hb.mono HB9.out.size))
  clear hb Ba9 Bb9 Bc9 Bm9 Bn9 HB9 ya0 ya1 ya2 ya3 yb0 yb1 yb2 yb3 yc0 yc1 yc2 yc3 ym0 ym1 ym2 ym3 yn0 yn1 yn2 yn3
  have ya0 : w10.cell? ⟨w.heap.size, 0, none⟩ = some (.int .i64 ca) := Ba10.out.cell 0
  have ya1 : w10.cell? ⟨w.heap.size, 1, none⟩ = some (.bool na) := Ba10.out.cell 1
  have ya2 : w10.cell? ⟨w.heap.size, 2, none⟩ = some (.string ta) := Ba10.out.cell 2
  have ya3 : w10.cell? ⟨w.heap.size, 3, none⟩ = some (.int .i64 ea) := Ba10.out.cell 3
  have yb0 : w10.cell? ⟨w.heap.size + 1, 0, none⟩ = some (.int .i64 cb) := Bb10.out.cell 0
  have yb1 : w10.cell? ⟨w.heap.size + 1, 1, none⟩ = some (.bool nb) := Bb10.out.cell 1
  have yb2 : w10.cell? ⟨w.heap.size + 1, 2, none⟩ = some (.string tb) := Bb10.out.cell 2
  have yb3 : w10.cell? ⟨w.heap.size + 1, 3, none⟩ = some (.int .i64 eb) := Bb10.out.cell 3
  have yc0 : w10.cell? ⟨w.heap.size + 1 + 1, 0, none⟩ = some (.int .i64 cc) := Bc10.out.cell 0
  have yc1 : w10.cell? ⟨w.heap.size + 1 + 1, 1, none⟩ = some (.bool nc) := Bc10.out.cell 1
  have yc2 : w10.cell? ⟨w.heap.size + 1 + 1, 2, none⟩ = some (.string tc) := Bc10.out.cell 2
  have yc3 : w10.cell? ⟨w.heap.size + 1 + 1, 3, none⟩ = some (.int .i64 ec) := Bc10.out.cell 3
  have ym0 : w10.cell? ⟨w6.heap.size, 0, none⟩ = some (.int .i64 cm) := Bm10.out.cell 0
  have ym1 : w10.cell? ⟨w6.heap.size, 1, none⟩ = some (.bool nm) := Bm10.out.cell 1
  have ym2 : w10.cell? ⟨w6.heap.size, 2, none⟩ = some (.string tm) := Bm10.out.cell 2
  have ym3 : w10.cell? ⟨w6.heap.size, 3, none⟩ = some (.int .i64 em) := Bm10.out.cell 3
  have yn0 : w10.cell? ⟨w8.heap.size, 0, none⟩ = some (.int .i64 cn) := Bn10.out.cell 0
  have yn1 : w10.cell? ⟨w8.heap.size, 1, none⟩ = some (.bool nn) := Bn10.out.cell 1
  have yn2 : w10.cell? ⟨w8.heap.size, 2, none⟩ = some (.string tn) := Bn10.out.cell 2
  have yn3 : w10.cell? ⟨w8.heap.size, 3, none⟩ = some (.int .i64 en) := Bn10.out.cell 3
  go_wp2_with fail
  all_goals try (exfalso; exact HV.out (by assumption) (by assumption) (And.right ‹((ca != 2) = true ∧ (cb != 2) = true) ∧ (v != -x) = true›))
  all_goals first | subst ‹ca = 2› | subst ‹cb = 2› | skip
  all_goals (
    skip
    refine (H7.out _ (HT.out.below HB10.out)).mono ?_
    rintro e w11 ⟨rfl, hb⟩
    have Ba11 := hide (Ba10.out.below hb Ba10.out.lt)
    have Bb11 := hide (Bb10.out.below hb Bb10.out.lt)
    have Bc11 := hide (Bc10.out.below hb Bc10.out.lt)
    have Bm11 := hide (Bm10.out.below hb Bm10.out.lt)
    have Bn11 := hide (Bn10.out.below hb Bn10.out.lt)
    have HB11 := hide (HB10.out.trans (hb.mono HB10.out.size))
    clear hb Ba10 Bb10 Bc10 Bm10 Bn10 HB10 ya0 ya1 ya2 ya3 yb0 yb1 yb2 yb3 yc0 yc1 yc2 yc3 ym0 ym1 ym2 ym3 yn0 yn1 yn2 yn3
    have ya0 : w11.cell? ⟨w.heap.size, 0, none⟩ = some (.int .i64 (by first | exact ca | exact 2)) := Ba11.out.cell 0
    have ya1 : w11.cell? ⟨w.heap.size, 1, none⟩ = some (.bool na) := Ba11.out.cell 1
    have ya2 : w11.cell? ⟨w.heap.size, 2, none⟩ = some (.string ta) := Ba11.out.cell 2
    have ya3 : w11.cell? ⟨w.heap.size, 3, none⟩ = some (.int .i64 ea) := Ba11.out.cell 3
    have yb0 : w11.cell? ⟨w.heap.size + 1, 0, none⟩ = some (.int .i64 (by first | exact cb | exact 2)) := Bb11.out.cell 0
    have yb1 : w11.cell? ⟨w.heap.size + 1, 1, none⟩ = some (.bool nb) := Bb11.out.cell 1
    have yb2 : w11.cell? ⟨w.heap.size + 1, 2, none⟩ = some (.string tb) := Bb11.out.cell 2
    have yb3 : w11.cell? ⟨w.heap.size + 1, 3, none⟩ = some (.int .i64 eb) := Bb11.out.cell 3
    have yc0 : w11.cell? ⟨w.heap.size + 1 + 1, 0, none⟩ = some (.int .i64 cc) := Bc11.out.cell 0
    have yc1 : w11.cell? ⟨w.heap.size + 1 + 1, 1, none⟩ = some (.bool nc) := Bc11.out.cell 1
    have yc2 : w11.cell? ⟨w.heap.size + 1 + 1, 2, none⟩ = some (.string tc) := Bc11.out.cell 2
    have yc3 : w11.cell? ⟨w.heap.size + 1 + 1, 3, none⟩ = some (.int .i64 ec) := Bc11.out.cell 3
    have ym0 : w11.cell? ⟨w6.heap.size, 0, none⟩ = some (.int .i64 cm) := Bm11.out.cell 0
    have ym1 : w11.cell? ⟨w6.heap.size, 1, none⟩ = some (.bool nm) := Bm11.out.cell 1
    have ym2 : w11.cell? ⟨w6.heap.size, 2, none⟩ = some (.string tm) := Bm11.out.cell 2
    have ym3 : w11.cell? ⟨w6.heap.size, 3, none⟩ = some (.int .i64 em) := Bm11.out.cell 3
    have yn0 : w11.cell? ⟨w8.heap.size, 0, none⟩ = some (.int .i64 cn) := Bn11.out.cell 0
    have yn1 : w11.cell? ⟨w8.heap.size, 1, none⟩ = some (.bool nn) := Bn11.out.cell 1
    have yn2 : w11.cell? ⟨w8.heap.size, 2, none⟩ = some (.string tn) := Bn11.out.cell 2
    have yn3 : w11.cell? ⟨w8.heap.size, 3, none⟩ = some (.int .i64 en) := Bn11.out.cell 3
    have Ba12 := hide ((Ba11.out.alloc (.cells #[.int .i64 0, .bool false, .string ⟨#[]⟩, .int .i64 0] 23)))
    have Bb12 := hide ((Bb11.out.alloc (.cells #[.int .i64 0, .bool false, .string ⟨#[]⟩, .int .i64 0] 23)))
    have Bc12 := hide ((Bc11.out.alloc (.cells #[.int .i64 0, .bool false, .string ⟨#[]⟩, .int .i64 0] 23)))
    have Bm12 := hide ((Bm11.out.alloc (.cells #[.int .i64 0, .bool false, .string ⟨#[]⟩, .int .i64 0] 23)))
    have Bn12 := hide ((Bn11.out.alloc (.cells #[.int .i64 0, .bool false, .string ⟨#[]⟩, .int .i64 0] 23)))
    have Bs12 := hide ((Blk.newAt w11 (w11.heap.size) (rfl) #[.int .i64 0, .bool false, .string ⟨#[]⟩, .int .i64 0] 23))
    have HB12 : Hid (Below w.heap.size w (w11.alloc (.cells #[.int .i64 0, .bool false, .string ⟨#[]⟩, .int .i64 0] 23))) := (HB11.out.alloc HB11.out.size _)
    clear Ba11 Bb11 Bc11 Bm11 Bn11 HB11 ya0 ya1 ya2 ya3 yb0 yb1 yb2 yb3 yc0 yc1 yc2 yc3 ym0 ym1 ym2 ym3 yn0 yn1 yn2 yn3
    have ya0 : (w11.alloc (.cells #[.int .i64 0, .bool false, .string ⟨#[]⟩, .int .i64 0] 23)).cell? ⟨w.heap.size, 0, none⟩ = some (.int .i64 (by first | exact ca | exact 2)) := Ba12.out.cell 0
    have ya1 : (w11.alloc (.cells #[.int .i64 0, .bool false, .string ⟨#[]⟩, .int .i64 0] 23)).cell? ⟨w.heap.size, 1, none⟩ = some (.bool na) := Ba12.out.cell 1
    have ya2 : (w11.alloc (.cells #[.int .i64 0, .bool false, .string ⟨#[]⟩, .int .i64 0] 23)).cell? ⟨w.heap.size, 2, none⟩ = some (.string ta) := Ba12.out.cell 2
    have ya3 : (w11.alloc (.cells #[.int .i64 0, .bool false, .string ⟨#[]⟩, .int .i64 0] 23)).cell? ⟨w.heap.size, 3, none⟩ = some (.int .i64 ea) := Ba12.out.cell 3
    have yb0 : (w11.alloc (.cells #[.int .i64 0, .bool false, .string ⟨#[]⟩, .int .i64 0] 23)).cell? ⟨w.heap.size + 1, 0, none⟩ = some (.int .i64 (by first | exact cb | exact 2)) := Bb12.out.cell 0
    have yb1 : (w11.alloc (.cells #[.int .i64 0, .bool false, .string ⟨#[]⟩, .int .i64 0] 23)).cell? ⟨w.heap.size + 1, 1, none⟩ = some (.bool nb) := Bb12.out.cell 1
    have yb2 : (w11.alloc (.cells #[.int .i64 0, .bool false, .string ⟨#[]⟩, .int .i64 0] 23)).cell? ⟨w.heap.size + 1, 2, none⟩ = some (.string tb) := Bb12.out.cell 2
    have yb3 : (w11.alloc (.cells #[.int .i64 0, .bool false, .string ⟨#[]⟩, .int .i64 0] 23)).cell? ⟨w.heap.size + 1, 3, none⟩ = some (.int .i64 eb) := Bb12.out.cell 3
    have yc0 : (w11.alloc (.cells #[.int .i64 0, .bool false, .string ⟨#[]⟩, .int .i64 0] 23)).cell? ⟨w.heap.size + 1 + 1, 0, none⟩ = some (.int .i64 cc) := Bc12.out.cell 0
    have yc1 : (w11.alloc (.cells #[.int .i64 0, .bool false, .string ⟨#[]⟩, .int .i64 0] 23)).cell? ⟨w.heap.size + 1 + 1, 1, none⟩ = some (.bool nc) := Bc12.out.cell 1
    have yc2 : (w11.alloc (.cells #[.int .i64 0, .bool false, .string ⟨#[]⟩, .int .i64 0] 23)).cell? ⟨w.heap.size + 1 + 1, 2, none⟩ = some (.string tc) := Bc12.out.cell 2
    have yc3 : (w11.alloc (.cells #[.int .i64 0, .bool false, .string ⟨#[]⟩, .int .i64 0] 23)).cell? ⟨w.heap.size + 1 + 1, 3, none⟩ = some (.int .i64 ec) := Bc12.out.cell 3
    have ym0 : (w11.alloc (.cells #[.int .i64 0, .bool false, .string ⟨#[]⟩, .int .i64 0] 23)).cell? ⟨w6.heap.size, 0, none⟩ = some (.int .i64 cm) := Bm12.out.cell 0
    have ym1 : (w11.alloc (.cells #[.int .i64 0, .bool false, .string ⟨#[]⟩, .int .i64 0] 23)).cell? ⟨w6.heap.size, 1, none⟩ = some (.bool nm) := Bm12.out.cell 1
    have ym2 : (w11.alloc (.cells #[.int .i64 0, .bool false, .string ⟨#[]⟩, .int .i64 0] 23)).cell? ⟨w6.heap.size, 2, none⟩ = some (.string tm) := Bm12.out.cell 2
    have ym3 : (w11.alloc (.cells #[.int .i64 0, .bool false, .string ⟨#[]⟩, .int .i64 0] 23)).cell? ⟨w6.heap.size, 3, none⟩ = some (.int .i64 em) := Bm12.out.cell 3
    have yn0 : (w11.alloc (.cells #[.int .i64 0, .bool false, .string ⟨#[]⟩, .int .i64 0] 23)).cell? ⟨w8.heap.size, 0, none⟩ = some (.int .i64 cn) := Bn12.out.cell 0
    have yn1 : (w11.alloc (.cells #[.int .i64 0, .bool false, .string ⟨#[]⟩, .int .i64 0] 23)).cell? ⟨w8.heap.size, 1, none⟩ = some (.bool nn) := Bn12.out.cell 1
    have yn2 : (w11.alloc (.cells #[.int .i64 0, .bool false, .string ⟨#[]⟩, .int .i64 0] 23)).cell? ⟨w8.heap.size, 2, none⟩ = some (.string tn) := Bn12.out.cell 2
    have yn3 : (w11.alloc (.cells #[.int .i64 0, .bool false, .string ⟨#[]⟩, .int .i64 0] 23)).cell? ⟨w8.heap.size, 3, none⟩ = some (.int .i64 en) := Bn12.out.cell 3
    have ys0 : (w11.alloc (.cells #[.int .i64 0, .bool false, .string ⟨#[]⟩, .int .i64 0] 23)).cell? ⟨w11.heap.size, 0, none⟩ = some (.int .i64 0) := Bs12.out.cell 0
    have ys1 : (w11.alloc (.cells #[.int .i64 0, .bool false, .string ⟨#[]⟩, .int .i64 0] 23)).cell? ⟨w11.heap.size, 1, none⟩ = some (.bool false) := Bs12.out.cell 1
    have ys2 : (w11.alloc (.cells #[.int .i64 0, .bool false, .string ⟨#[]⟩, .int .i64 0] 23)).cell? ⟨w11.heap.size, 2, none⟩ = some (.string ⟨#[]⟩) := Bs12.out.cell 2
    have ys3 : (w11.alloc (.cells #[.int .i64 0, .bool false, .string ⟨#[]⟩, .int .i64 0] 23)).cell? ⟨w11.heap.size, 3, none⟩ = some (.int .i64 0) := Bs12.out.cell 3
    go_wp2_with fail
    refine (H8.out _ (HT.out.below HB12.out)).mono ?_
    rintro e w13 ⟨rfl, hb⟩
    have Ba13 := hide (Ba12.out.below hb Ba12.out.lt)
    have Bb13 := hide (Bb12.out.below hb Bb12.out.lt)
    have Bc13 := hide (Bc12.out.below hb Bc12.out.lt)
    have Bm13 := hide (Bm12.out.below hb Bm12.out.lt)
    have Bn13 := hide (Bn12.out.below hb Bn12.out.lt)
    have Bs13 := hide (Bs12.out.below hb Bs12.out.lt)
    have HB13 := hide (HB12.out.trans (hb.mono HB12.out.size))
    clear hb Ba12 Bb12 Bc12 Bm12 Bn12 Bs12 HB12 ya0 ya1 ya2 ya3 yb0 yb1 yb2 yb3 yc0 yc1 yc2 yc3 ym0 ym1 ym2 ym3 yn0 yn1 yn2 yn3 ys0 ys1 ys2 ys3
    have ya0 : w13.cell? ⟨w.heap.size, 0, none⟩ = some (.int .i64 (by first | exact ca | exact 2)) := Ba13.out.cell 0
    have ya1 : w13.cell? ⟨w.heap.size, 1, none⟩ = some (.bool na) := Ba13.out.cell 1
    have ya2 : w13.cell? ⟨w.heap.size, 2, none⟩ = some (.string ta) := Ba13.out.cell 2
    have ya3 : w13.cell? ⟨w.heap.size, 3, none⟩ = some (.int .i64 ea) := Ba13.out.cell 3
    have yb0 : w13.cell? ⟨w.heap.size + 1, 0, none⟩ = some (.int .i64 (by first | exact cb | exact 2)) := Bb13.out.cell 0
    have yb1 : w13.cell? ⟨w.heap.size + 1, 1, none⟩ = some (.bool nb) := Bb13.out.cell 1
    have yb2 : w13.cell? ⟨w.heap.size + 1, 2, none⟩ = some (.string tb) := Bb13.out.cell 2
    have yb3 : w13.cell? ⟨w.heap.size + 1, 3, none⟩ = some (.int .i64 eb) := Bb13.out.cell 3
    have yc0 : w13.cell? ⟨w.heap.size + 1 + 1, 0, none⟩ = some (.int .i64 cc) := Bc13.out.cell 0
    have yc1 : w13.cell? ⟨w.heap.size + 1 + 1, 1, none⟩ = some (.bool nc) := Bc13.out.cell 1
    have yc2 : w13.cell? ⟨w.heap.size + 1 + 1, 2, none⟩ = some (.string tc) := Bc13.out.cell 2
    have yc3 : w13.cell? ⟨w.heap.size + 1 + 1, 3, none⟩ = some (.int .i64 ec) := Bc13.out.cell 3
    have ym0 : w13.cell? ⟨w6.heap.size, 0, none⟩ = some (.int .i64 cm) := Bm13.out.cell 0
    have ym1 : w13.cell? ⟨w6.heap.size, 1, none⟩ = some (.bool nm) := Bm13.out.cell 1
    have ym2 : w13.cell? ⟨w6.heap.size, 2, none⟩ = some (.string tm) := Bm13.out.cell 2
    have ym3 : w13.cell? ⟨w6.heap.size, 3, none⟩ = some (.int .i64 em) := Bm13.out.cell 3
    have yn0 : w13.cell? ⟨w8.heap.size, 0, none⟩ = some (.int .i64 cn) := Bn13.out.cell 0
    have yn1 : w13.cell? ⟨w8.heap.size, 1, none⟩ = some (.bool nn) := Bn13.out.cell 1
    have yn2 : w13.cell? ⟨w8.heap.size, 2, none⟩ = some (.string tn) := Bn13.out.cell 2
    have yn3 : w13.cell? ⟨w8.heap.size, 3, none⟩ = some (.int .i64 en) := Bn13.out.cell 3
    have ys0 : w13.cell? ⟨w11.heap.size, 0, none⟩ = some (.int .i64 0) := Bs13.out.cell 0
    have ys1 : w13.cell? ⟨w11.heap.size, 1, none⟩ = some (.bool false) := Bs13.out.cell 1
    have ys2 : w13.cell? ⟨w11.heap.size, 2, none⟩ = some (.string ⟨#[]⟩) := Bs13.out.cell 2
    have ys3 : w13.cell? ⟨w11.heap.size, 3, none⟩ = some (.int .i64 0) := Bs13.out.cell 3
    have Ba14 := hide ((Ba13.out.alloc (.cells #[.int .i64 0, .bool false, .string ⟨#[]⟩, .int .i64 0] 23)))
    have Bb14 := hide ((Bb13.out.alloc (.cells #[.int .i64 0, .bool false, .string ⟨#[]⟩, .int .i64 0] 23)))
    have Bc14 := hide ((Bc13.out.alloc (.cells #[.int .i64 0, .bool false, .string ⟨#[]⟩, .int .i64 0] 23)))
    have Bm14 := hide ((Bm13.out.alloc (.cells #[.int .i64 0, .bool false, .string ⟨#[]⟩, .int .i64 0] 23)))
    have Bn14 := hide ((Bn13.out.alloc (.cells #[.int .i64 0, .bool false, .string ⟨#[]⟩, .int .i64 0] 23)))
    have Bs14 := hide ((Bs13.out.alloc (.cells #[.int .i64 0, .bool false, .string ⟨#[]⟩, .int .i64 0] 23)))
    have Bt14 := hide ((Blk.newAt w13 (w13.heap.size) (rfl) #[.int .i64 0, .bool false, .string ⟨#[]⟩, .int .i64 0] 23))
    have HB14 : Hid (Below w.heap.size w (w13.alloc (.cells #[.int .i64 0, .bool false, .string ⟨#[]⟩, .int .i64 0] 23))) := (HB13.out.alloc HB13.out.size _)
    clear Ba13 Bb13 Bc13 Bm13 Bn13 Bs13 HB13 ya0 ya1 ya2 ya3 yb0 yb1 yb2 yb3 yc0 yc1 yc2 yc3 ym0 ym1 ym2 ym3 yn0 yn1 yn2 yn3 ys0 ys1 ys2 ys3
    have ya0 : (w13.alloc (.cells #[.int .i64 0, .bool false, .string ⟨#[]⟩, .int .i64 0] 23)).cell? ⟨w.heap.size, 0, none⟩ = some (.int .i64 (by first | exact ca | exact 2)) := Ba14.out.cell 0
    have ya1 : (w13.alloc (.cells #[.int .i64 0, .bool false, .string ⟨#[]⟩, .int .i64 0] 23)).cell? ⟨w.heap.size, 1, none⟩ = some (.bool na) := Ba14.out.cell 1
    have ya2 : (w13.alloc (.cells #[.int .i64 0, .bool false, .string ⟨#[]⟩, .int .i64 0] 23)).cell? ⟨w.heap.size, 2, none⟩ = some (.string ta) := Ba14.out.cell 2
    have ya3 : (w13.alloc (.cells #[.int .i64 0, .bool false, .string ⟨#[]⟩, .int .i64 0] 23)).cell? ⟨w.heap.size, 3, none⟩ = some (.int .i64 ea) := Ba14.out.cell 3
    have yb0 : (w13.alloc (.cells #[.int .i64 0, .bool false, .string ⟨#[]⟩, .int .i64 0] 23)).cell? ⟨w.heap.size + 1, 0, none⟩ = some (.int .i64 (by first | exact cb | exact 2)) := Bb14.out.cell 0
    have yb1 : (w13.alloc (.cells #[.int .i64 0, .bool false, .string ⟨#[]⟩, .int .i64 0] 23)).cell? ⟨w.heap.size + 1, 1, none⟩ = some (.bool nb) := Bb14.out.cell 1
    have yb2 : (w13.alloc (.cells #[.int .i64 0, .bool false, .string ⟨#[]⟩, .int .i64 0] 23)).cell? ⟨w.heap.size + 1, 2, none⟩ = some (.string tb) := Bb14.out.cell 2
    have yb3 : (w13.alloc (.cells #[.int .i64 0, .bool false, .string ⟨#[]⟩, .int .i64 0] 23)).cell? ⟨w.heap.size + 1, 3, none⟩ = some (.int .i64 eb) := Bb14.out.cell 3
    have yc0 : (w13.alloc (.cells #[.int .i64 0, .bool false, .string ⟨#[]⟩, .int .i64 0] 23)).cell? ⟨w.heap.size + 1 + 1, 0, none⟩ = some (.int .i64 cc) := Bc14.out.cell 0
    have yc1 : (w13.alloc (.cells #[.int .i64 0, .bool false, .string ⟨#[]⟩, .int .i64 0] 23)).cell? ⟨w.heap.size + 1 + 1, 1, none⟩ = some (.bool nc) := Bc14.out.cell 1
    have yc2 : (w13.alloc (.cells #[.int .i64 0, .bool false, .string ⟨#[]⟩, .int .i64 0] 23)).cell? ⟨w.heap.size + 1 + 1, 2, none⟩ = some (.string tc) := Bc14.out.cell 2
    have yc3 : (w13.alloc (.cells #[.int .i64 0, .bool false, .string ⟨#[]⟩, .int .i64 0] 23)).cell? ⟨w.heap.size + 1 + 1, 3, none⟩ = some (.int .i64 ec) := Bc14.out.cell 3
    have ym0 : (w13.alloc (.cells #[.int .i64 0, .bool false, .string ⟨#[]⟩, .int .i64 0] 23)).cell? ⟨w6.heap.size, 0, none⟩ = some (.int .i64 cm) := Bm14.out.cell 0
    have ym1 : (w13.alloc (.cells #[.int .i64 0, .bool false, .string ⟨#[]⟩, .int .i64 0] 23)).cell? ⟨w6.heap.size, 1, none⟩ = some (.bool nm) := Bm14.out.cell 1
    have ym2 : (w13.alloc (.cells #[.int .i64 0, .bool false, .string ⟨#[]⟩, .int .i64 0] 23)).cell? ⟨w6.heap.size, 2, none⟩ = some (.string tm) := Bm14.out.cell 2
    have ym3 : (w13.alloc (.cells #[.int .i64 0, .bool false, .string ⟨#[]⟩, .int .i64 0] 23)).cell? ⟨w6.heap.size, 3, none⟩ = some (.int .i64 em) := Bm14.out.cell 3
    have yn0 : (w13.alloc (.cells #[.int .i64 0, .bool false, .string ⟨#[]⟩, .int .i64 0] 23)).cell? ⟨w8.heap.size, 0, none⟩ = some (.int .i64 cn) := Bn14.out.cell 0
    have yn1 : (w13.alloc (.cells #[.int .i64 0, .bool false, .string ⟨#[]⟩, .int .i64 0] 23)).cell? ⟨w8.heap.size, 1, none⟩ = some (.bool nn) := Bn14.out.cell 1
    have yn2 : (w13.alloc (.cells #[.int .i64 0, .bool false, .string ⟨#[]⟩, .int .i64 0] 23)).cell? ⟨w8.heap.size, 2, none⟩ = some (.string tn) := Bn14.out.cell 2
    have yn3 : (w13.alloc (.cells #[.int .i64 0, .bool false, .string ⟨#[]⟩, .int .i64 0] 23)).cell? ⟨w8.heap.size, 3, none⟩ = some (.int .i64 en) := Bn14.out.cell 3
    have ys0 : (w13.alloc (.cells #[.int .i64 0, .bool false, .string ⟨#[]⟩, .int .i64 0] 23)).cell? ⟨w11.heap.size, 0, none⟩ = some (.int .i64 0) := Bs14.out.cell 0
    have ys1 : (w13.alloc (.cells #[.int .i64 0, .bool false, .string ⟨#[]⟩, .int .i64 0] 23)).cell? ⟨w11.heap.size, 1, none⟩ = some (.bool false) := Bs14.out.cell 1
    have ys2 : (w13.alloc (.cells #[.int .i64 0, .bool false, .string ⟨#[]⟩, .int .i64 0] 23)).cell? ⟨w11.heap.size, 2, none⟩ = some (.string ⟨#[]⟩) := Bs14.out.cell 2
    have ys3 : (w13.alloc (.cells #[.int .i64 0, .bool false, .string ⟨#[]⟩, .int .i64 0] 23)).cell? ⟨w11.heap.size, 3, none⟩ = some (.int .i64 0) := Bs14.out.cell 3
    have yt0 : (w13.alloc (.cells #[.int .i64 0, .bool false, .string ⟨#[]⟩, .int .i64 0] 23)).cell? ⟨w13.heap.size, 0, none⟩ = some (.int .i64 0) := Bt14.out.cell 0
    have yt1 : (w13.alloc (.cells #[.int .i64 0, .bool false, .string ⟨#[]⟩, .int .i64 0] 23)).cell? ⟨w13.heap.size, 1, none⟩ = some (.bool false) := Bt14.out.cell 1
    have yt2 : (w13.alloc (.cells #[.int .i64 0, .bool false, .string ⟨#[]⟩, .int .i64 0] 23)).cell? ⟨w13.heap.size, 2, none⟩ = some (.string ⟨#[]⟩) := Bt14.out.cell 2
    have yt3 : (w13.alloc (.cells #[.int .i64 0, .bool false, .string ⟨#[]⟩, .int .i64 0] 23)).cell? ⟨w13.heap.size, 3, none⟩ = some (.int .i64 0) := Bt14.out.cell 3
    go_wp2
    go_ret
    exact ⟨rfl, HB14.out⟩
  )

end Go.Proofs.YtafljhfamjabeaaGreatDoor

namespace Go.Proofs.YtafljhfamjabeaaGreatDoor
open Go.RowKit

theorem bne_eqY {x y : Int} (h : (x != y) = false) : x = y := by simpa using h
theorem bne_neY {x y : Int} (h : (x != y) = true) : x ≠ y := by simpa using h

set_option maxRecDepth 100000 in
set_option maxHeartbeats 30000000 in
theorem order_y (ca : Int) (na : Bool) (ta : ByteArray) (ea : Int) (cb : Int) (nb : Bool) (tb : ByteArray) (eb : Int) (cc : Int) (nc : Bool) (tc : ByteArray) (ec : Int) (cm : Int) (nm : Bool) (tm : ByteArray) (em : Int) (cn : Int) (nn : Bool) (tn : ByteArray) (en : Int) (cs : Int) (ns : Bool) (ts : ByteArray) (es : Int) (ct : Int) (nt : Bool) (tt : ByteArray) (et : Int) (x y v z q l o : Int) (w : World) (htab : Tab w) (h0 : ∀ W, Calls Tryz.prog 22 #[dcV ca na ta ea, dcV cb nb tb eb] W fun e w' => e = .returned (.tuple #[.int .i64 x, .int .i64 0]) ∧ Below W.heap.size W w') (h1 : ∀ W, Calls Tryz.prog 22 #[dcV cb nb tb eb, dcV ca na ta ea] W fun e w' => e = .returned (.tuple #[.int .i64 y, .int .i64 0]) ∧ Below W.heap.size W w') (h2 : ∀ W, Calls Tryz.prog 22 #[dcV cb nb tb eb, dcV cc nc tc ec] W fun e w' => e = .returned (.tuple #[.int .i64 z, .int .i64 0]) ∧ Below W.heap.size W w') (h3 : ∀ W, Calls Tryz.prog 22 #[dcV ca na ta ea, dcV cc nc tc ec] W fun e w' => e = .returned (.tuple #[.int .i64 q, .int .i64 0]) ∧ Below W.heap.size W w') (h4 : ∀ W, Calls Tryz.prog 24 #[dcV ca na ta ea] W fun e w' => e = .returned (.tuple #[.agg #[.int .i64 cm, .bool nm, .string tm, .int .i64 em], .int .i64 0]) ∧ Below W.heap.size W w') (h5 : ∀ W, Calls Tryz.prog 24 #[dcV cb nb tb eb] W fun e w' => e = .returned (.tuple #[.agg #[.int .i64 cn, .bool nn, .string tn, .int .i64 en], .int .i64 0]) ∧ Below W.heap.size W w') (h6 : ∀ W, Calls Tryz.prog 22 #[.agg #[.int .i64 cm, .bool nm, .string tm, .int .i64 em], .agg #[.int .i64 cn, .bool nn, .string tn, .int .i64 en]] W fun e w' => e = .returned (.tuple #[.int .i64 v, .int .i64 0]) ∧ Below W.heap.size W w') (h7 : ∀ W, Tab W → Calls Tryz.prog 28 #[dcV ca na ta ea, dcV cc nc tc ec] W fun e w' => e = .returned (.tuple #[.agg #[.int .i64 cs, .bool ns, .string ts, .int .i64 es], .int .i64 l]) ∧ Below W.heap.size W w') (h8 : ∀ W, Tab W → Calls Tryz.prog 28 #[dcV cb nb tb eb, dcV cc nc tc ec] W fun e w' => e = .returned (.tuple #[.agg #[.int .i64 ct, .bool nt, .string tt, .int .i64 et], .int .i64 o]) ∧ Below W.heap.size W w') (hx1 : -1 ≤ x) (hx2 : x ≤ 1) (hy1 : -1 ≤ y) (hy2 : y ≤ 1) (hxy : (x != -y) = false) (hv : ca ≠ 2 → cb ≠ 2 → (v != -x) = true → False) (ht : x ≤ 0 → z ≤ 0 → 0 < q → False) (hc : l = 0 → o = 0 → ca = 0 → cb = 0 → cc = 0 → ∀ W, Calls Tryz.prog 22 #[.agg #[.int .i64 cs, .bool ns, .string ts, .int .i64 es], .agg #[.int .i64 ct, .bool nt, .string tt, .int .i64 et]] W fun e w' => e = .returned (.tuple #[.int .i64 x, .int .i64 0]) ∧ Below W.heap.size W w') : Calls Tryz.prog 11 #[dcV ca na ta ea, dcV cb nb tb eb, dcV cc nc tc ec] w fun e w' => e = .returned (.bool true) ∧ Below w.heap.size w w' := by
  have H0 := hide h0
  have H1 := hide h1
  have H2 := hide h2
  have H3 := hide h3
  have H4 := hide h4
  have H5 := hide h5
  have H6 := hide h6
  have H7 := hide h7
  have H8 := hide h8
  have HV := hide hv
  have HX := hide ht
  have HC := hide hc
  have HT := hide htab
  clear htab hv ht hc h0 h1 h2 h3 h4 h5 h6 h7 h8
  have Ba0 := hide (((Blk.newAt w (w.heap.size) (rfl) #[.int .i64 ca, .bool na, .string ta, .int .i64 ea] 23).alloc (.cells #[.int .i64 cb, .bool nb, .string tb, .int .i64 eb] 23)).alloc (.cells #[.int .i64 cc, .bool nc, .string tc, .int .i64 ec] 23))
  have Bb0 := hide ((Blk.newAt (w.alloc (.cells #[.int .i64 ca, .bool na, .string ta, .int .i64 ea] 23)) (w.heap.size + 1) (by simp) #[.int .i64 cb, .bool nb, .string tb, .int .i64 eb] 23).alloc (.cells #[.int .i64 cc, .bool nc, .string tc, .int .i64 ec] 23))
  have Bc0 := hide (Blk.newAt ((w.alloc (.cells #[.int .i64 ca, .bool na, .string ta, .int .i64 ea] 23)).alloc (.cells #[.int .i64 cb, .bool nb, .string tb, .int .i64 eb] 23)) (w.heap.size + 1 + 1) (by simp) #[.int .i64 cc, .bool nc, .string tc, .int .i64 ec] 23)
  have HB0 : Hid (Below w.heap.size w (((w.alloc (.cells #[.int .i64 ca, .bool na, .string ta, .int .i64 ea] 23)).alloc (.cells #[.int .i64 cb, .bool nb, .string tb, .int .i64 eb] 23)).alloc (.cells #[.int .i64 cc, .bool nc, .string tc, .int .i64 ec] 23))) := ((((Below.refl _ _).alloc (Nat.le_refl _) _).alloc (by simp <;> omega) _).alloc (by simp <;> omega) _)
  go_enter Tryz.func11, Tryz.ntmps11
  go_wp2_with fail
  refine (H0.out _).mono ?_
  rintro e w1 ⟨rfl, hb⟩
  have Ba1 := hide (Ba0.out.below hb Ba0.out.lt)
  have Bb1 := hide (Bb0.out.below hb Bb0.out.lt)
  have Bc1 := hide (Bc0.out.below hb Bc0.out.lt)
  have HB1 := hide (HB0.out.trans (hb.mono HB0.out.size))
  clear hb Ba0 Bb0 Bc0 HB0 
  have ya0 : w1.cell? ⟨w.heap.size, 0, none⟩ = some (.int .i64 ca) := Ba1.out.cell 0
  have ya1 : w1.cell? ⟨w.heap.size, 1, none⟩ = some (.bool na) := Ba1.out.cell 1
  have ya2 : w1.cell? ⟨w.heap.size, 2, none⟩ = some (.string ta) := Ba1.out.cell 2
  have ya3 : w1.cell? ⟨w.heap.size, 3, none⟩ = some (.int .i64 ea) := Ba1.out.cell 3
  have yb0 : w1.cell? ⟨w.heap.size + 1, 0, none⟩ = some (.int .i64 cb) := Bb1.out.cell 0
  have yb1 : w1.cell? ⟨w.heap.size + 1, 1, none⟩ = some (.bool nb) := Bb1.out.cell 1
  have yb2 : w1.cell? ⟨w.heap.size + 1, 2, none⟩ = some (.string tb) := Bb1.out.cell 2
  have yb3 : w1.cell? ⟨w.heap.size + 1, 3, none⟩ = some (.int .i64 eb) := Bb1.out.cell 3
  have yc0 : w1.cell? ⟨w.heap.size + 1 + 1, 0, none⟩ = some (.int .i64 cc) := Bc1.out.cell 0
  have yc1 : w1.cell? ⟨w.heap.size + 1 + 1, 1, none⟩ = some (.bool nc) := Bc1.out.cell 1
  have yc2 : w1.cell? ⟨w.heap.size + 1 + 1, 2, none⟩ = some (.string tc) := Bc1.out.cell 2
  have yc3 : w1.cell? ⟨w.heap.size + 1 + 1, 3, none⟩ = some (.int .i64 ec) := Bc1.out.cell 3
  go_wp2_with fail
  refine (H1.out _).mono ?_
  rintro e w2 ⟨rfl, hb⟩
  have Ba2 := hide (Ba1.out.below hb Ba1.out.lt)
  have Bb2 := hide (Bb1.out.below hb Bb1.out.lt)
  have Bc2 := hide (Bc1.out.below hb Bc1.out.lt)
  have HB2 := hide (HB1.out.trans (hb.mono HB1.out.size))
  clear hb Ba1 Bb1 Bc1 HB1 ya0 ya1 ya2 ya3 yb0 yb1 yb2 yb3 yc0 yc1 yc2 yc3
  have ya0 : w2.cell? ⟨w.heap.size, 0, none⟩ = some (.int .i64 ca) := Ba2.out.cell 0
  have ya1 : w2.cell? ⟨w.heap.size, 1, none⟩ = some (.bool na) := Ba2.out.cell 1
  have ya2 : w2.cell? ⟨w.heap.size, 2, none⟩ = some (.string ta) := Ba2.out.cell 2
  have ya3 : w2.cell? ⟨w.heap.size, 3, none⟩ = some (.int .i64 ea) := Ba2.out.cell 3
  have yb0 : w2.cell? ⟨w.heap.size + 1, 0, none⟩ = some (.int .i64 cb) := Bb2.out.cell 0
  have yb1 : w2.cell? ⟨w.heap.size + 1, 1, none⟩ = some (.bool nb) := Bb2.out.cell 1
  have yb2 : w2.cell? ⟨w.heap.size + 1, 2, none⟩ = some (.string tb) := Bb2.out.cell 2
  have yb3 : w2.cell? ⟨w.heap.size + 1, 3, none⟩ = some (.int .i64 eb) := Bb2.out.cell 3
  have yc0 : w2.cell? ⟨w.heap.size + 1 + 1, 0, none⟩ = some (.int .i64 cc) := Bc2.out.cell 0
  have yc1 : w2.cell? ⟨w.heap.size + 1 + 1, 1, none⟩ = some (.bool nc) := Bc2.out.cell 1
  have yc2 : w2.cell? ⟨w.heap.size + 1 + 1, 2, none⟩ = some (.string tc) := Bc2.out.cell 2
  have yc3 : w2.cell? ⟨w.heap.size + 1 + 1, 3, none⟩ = some (.int .i64 ec) := Bc2.out.cell 3
  go_wp2_with fail
  refine (dawake_any _ (HT.out.below HB2.out)).mono ?_
  rintro e w3 ⟨rfl, hb⟩
  have Ba3 := hide (Ba2.out.below hb Ba2.out.lt)
  have Bb3 := hide (Bb2.out.below hb Bb2.out.lt)
  have Bc3 := hide (Bc2.out.below hb Bc2.out.lt)
  have HB3 := hide (HB2.out.trans (hb.mono HB2.out.size))
  clear hb Ba2 Bb2 Bc2 HB2 ya0 ya1 ya2 ya3 yb0 yb1 yb2 yb3 yc0 yc1 yc2 yc3
  have ya0 : w3.cell? ⟨w.heap.size, 0, none⟩ = some (.int .i64 ca) := Ba3.out.cell 0
  have ya1 : w3.cell? ⟨w.heap.size, 1, none⟩ = some (.bool na) := Ba3.out.cell 1
  have ya2 : w3.cell? ⟨w.heap.size, 2, none⟩ = some (.string ta) := Ba3.out.cell 2
  have ya3 : w3.cell? ⟨w.heap.size, 3, none⟩ = some (.int .i64 ea) := Ba3.out.cell 3
  have yb0 : w3.cell? ⟨w.heap.size + 1, 0, none⟩ = some (.int .i64 cb) := Bb3.out.cell 0
  have yb1 : w3.cell? ⟨w.heap.size + 1, 1, none⟩ = some (.bool nb) := Bb3.out.cell 1
  have yb2 : w3.cell? ⟨w.heap.size + 1, 2, none⟩ = some (.string tb) := Bb3.out.cell 2
  have yb3 : w3.cell? ⟨w.heap.size + 1, 3, none⟩ = some (.int .i64 eb) := Bb3.out.cell 3
  have yc0 : w3.cell? ⟨w.heap.size + 1 + 1, 0, none⟩ = some (.int .i64 cc) := Bc3.out.cell 0
  have yc1 : w3.cell? ⟨w.heap.size + 1 + 1, 1, none⟩ = some (.bool nc) := Bc3.out.cell 1
  have yc2 : w3.cell? ⟨w.heap.size + 1 + 1, 2, none⟩ = some (.string tc) := Bc3.out.cell 2
  have yc3 : w3.cell? ⟨w.heap.size + 1 + 1, 3, none⟩ = some (.int .i64 ec) := Bc3.out.cell 3
  go_wp2_with fail
  refine (H2.out _).mono ?_
  rintro e w4 ⟨rfl, hb⟩
  have Ba4 := hide (Ba3.out.below hb Ba3.out.lt)
  have Bb4 := hide (Bb3.out.below hb Bb3.out.lt)
  have Bc4 := hide (Bc3.out.below hb Bc3.out.lt)
  have HB4 := hide (HB3.out.trans (hb.mono HB3.out.size))
  clear hb Ba3 Bb3 Bc3 HB3 ya0 ya1 ya2 ya3 yb0 yb1 yb2 yb3 yc0 yc1 yc2 yc3
  have ya0 : w4.cell? ⟨w.heap.size, 0, none⟩ = some (.int .i64 ca) := Ba4.out.cell 0
  have ya1 : w4.cell? ⟨w.heap.size, 1, none⟩ = some (.bool na) := Ba4.out.cell 1
  have ya2 : w4.cell? ⟨w.heap.size, 2, none⟩ = some (.string ta) := Ba4.out.cell 2
  have ya3 : w4.cell? ⟨w.heap.size, 3, none⟩ = some (.int .i64 ea) := Ba4.out.cell 3
  have yb0 : w4.cell? ⟨w.heap.size + 1, 0, none⟩ = some (.int .i64 cb) := Bb4.out.cell 0
  have yb1 : w4.cell? ⟨w.heap.size + 1, 1, none⟩ = some (.bool nb) := Bb4.out.cell 1
  have yb2 : w4.cell? ⟨w.heap.size + 1, 2, none⟩ = some (.string tb) := Bb4.out.cell 2
  have yb3 : w4.cell? ⟨w.heap.size + 1, 3, none⟩ = some (.int .i64 eb) := Bb4.out.cell 3
  have yc0 : w4.cell? ⟨w.heap.size + 1 + 1, 0, none⟩ = some (.int .i64 cc) := Bc4.out.cell 0
  have yc1 : w4.cell? ⟨w.heap.size + 1 + 1, 1, none⟩ = some (.bool nc) := Bc4.out.cell 1
  have yc2 : w4.cell? ⟨w.heap.size + 1 + 1, 2, none⟩ = some (.string tc) := Bc4.out.cell 2
  have yc3 : w4.cell? ⟨w.heap.size + 1 + 1, 3, none⟩ = some (.int .i64 ec) := Bc4.out.cell 3
  go_wp2_with fail
  refine (H3.out _).mono ?_
  rintro e w5 ⟨rfl, hb⟩
  have Ba5 := hide (Ba4.out.below hb Ba4.out.lt)
  have Bb5 := hide (Bb4.out.below hb Bb4.out.lt)
  have Bc5 := hide (Bc4.out.below hb Bc4.out.lt)
  have HB5 := hide (HB4.out.trans (hb.mono HB4.out.size))
  clear hb Ba4 Bb4 Bc4 HB4 ya0 ya1 ya2 ya3 yb0 yb1 yb2 yb3 yc0 yc1 yc2 yc3
  have ya0 : w5.cell? ⟨w.heap.size, 0, none⟩ = some (.int .i64 ca) := Ba5.out.cell 0
  have ya1 : w5.cell? ⟨w.heap.size, 1, none⟩ = some (.bool na) := Ba5.out.cell 1
  have ya2 : w5.cell? ⟨w.heap.size, 2, none⟩ = some (.string ta) := Ba5.out.cell 2
  have ya3 : w5.cell? ⟨w.heap.size, 3, none⟩ = some (.int .i64 ea) := Ba5.out.cell 3
  have yb0 : w5.cell? ⟨w.heap.size + 1, 0, none⟩ = some (.int .i64 cb) := Bb5.out.cell 0
  have yb1 : w5.cell? ⟨w.heap.size + 1, 1, none⟩ = some (.bool nb) := Bb5.out.cell 1
  have yb2 : w5.cell? ⟨w.heap.size + 1, 2, none⟩ = some (.string tb) := Bb5.out.cell 2
  have yb3 : w5.cell? ⟨w.heap.size + 1, 3, none⟩ = some (.int .i64 eb) := Bb5.out.cell 3
  have yc0 : w5.cell? ⟨w.heap.size + 1 + 1, 0, none⟩ = some (.int .i64 cc) := Bc5.out.cell 0
  have yc1 : w5.cell? ⟨w.heap.size + 1 + 1, 1, none⟩ = some (.bool nc) := Bc5.out.cell 1
  have yc2 : w5.cell? ⟨w.heap.size + 1 + 1, 2, none⟩ = some (.string tc) := Bc5.out.cell 2
  have yc3 : w5.cell? ⟨w.heap.size + 1 + 1, 3, none⟩ = some (.int .i64 ec) := Bc5.out.cell 3
  go_wp2_with fail
  all_goals try (exfalso; exact HX.out (by assumption) (by assumption) (by assumption))
  all_goals (
    skip
    refine (H4.out _).mono ?_
    rintro e w6 ⟨rfl, hb⟩
    have Ba6 := hide (Ba5.out.below hb Ba5.out.lt)
    have Bb6 := hide (Bb5.out.below hb Bb5.out.lt)
    have Bc6 := hide (Bc5.out.below hb Bc5.out.lt)
    have HB6 := hide (HB5.out.trans (hb.mono HB5.out.size))
    clear hb Ba5 Bb5 Bc5 HB5 ya0 ya1 ya2 ya3 yb0 yb1 yb2 yb3 yc0 yc1 yc2 yc3
    have ya0 : w6.cell? ⟨w.heap.size, 0, none⟩ = some (.int .i64 ca) := Ba6.out.cell 0
    have ya1 : w6.cell? ⟨w.heap.size, 1, none⟩ = some (.bool na) := Ba6.out.cell 1
    have ya2 : w6.cell? ⟨w.heap.size, 2, none⟩ = some (.string ta) := Ba6.out.cell 2
    have ya3 : w6.cell? ⟨w.heap.size, 3, none⟩ = some (.int .i64 ea) := Ba6.out.cell 3
    have yb0 : w6.cell? ⟨w.heap.size + 1, 0, none⟩ = some (.int .i64 cb) := Bb6.out.cell 0
    have yb1 : w6.cell? ⟨w.heap.size + 1, 1, none⟩ = some (.bool nb) := Bb6.out.cell 1
    have yb2 : w6.cell? ⟨w.heap.size + 1, 2, none⟩ = some (.string tb) := Bb6.out.cell 2
    have yb3 : w6.cell? ⟨w.heap.size + 1, 3, none⟩ = some (.int .i64 eb) := Bb6.out.cell 3
    have yc0 : w6.cell? ⟨w.heap.size + 1 + 1, 0, none⟩ = some (.int .i64 cc) := Bc6.out.cell 0
    have yc1 : w6.cell? ⟨w.heap.size + 1 + 1, 1, none⟩ = some (.bool nc) := Bc6.out.cell 1
    have yc2 : w6.cell? ⟨w.heap.size + 1 + 1, 2, none⟩ = some (.string tc) := Bc6.out.cell 2
    have yc3 : w6.cell? ⟨w.heap.size + 1 + 1, 3, none⟩ = some (.int .i64 ec) := Bc6.out.cell 3
    have Ba7 := hide ((Ba6.out.alloc (.cells #[.int .i64 cm, .bool nm, .string tm, .int .i64 em] 23)))
    have Bb7 := hide ((Bb6.out.alloc (.cells #[.int .i64 cm, .bool nm, .string tm, .int .i64 em] 23)))
    have Bc7 := hide ((Bc6.out.alloc (.cells #[.int .i64 cm, .bool nm, .string tm, .int .i64 em] 23)))
    have Bm7 := hide ((Blk.newAt w6 (w6.heap.size) (rfl) #[.int .i64 cm, .bool nm, .string tm, .int .i64 em] 23))
    have HB7 : Hid (Below w.heap.size w (w6.alloc (.cells #[.int .i64 cm, .bool nm, .string tm, .int .i64 em] 23))) := (HB6.out.alloc HB6.out.size _)
    clear Ba6 Bb6 Bc6 HB6 ya0 ya1 ya2 ya3 yb0 yb1 yb2 yb3 yc0 yc1 yc2 yc3
    have ya0 : (w6.alloc (.cells #[.int .i64 cm, .bool nm, .string tm, .int .i64 em] 23)).cell? ⟨w.heap.size, 0, none⟩ = some (.int .i64 ca) := Ba7.out.cell 0
    have ya1 : (w6.alloc (.cells #[.int .i64 cm, .bool nm, .string tm, .int .i64 em] 23)).cell? ⟨w.heap.size, 1, none⟩ = some (.bool na) := Ba7.out.cell 1
    have ya2 : (w6.alloc (.cells #[.int .i64 cm, .bool nm, .string tm, .int .i64 em] 23)).cell? ⟨w.heap.size, 2, none⟩ = some (.string ta) := Ba7.out.cell 2
    have ya3 : (w6.alloc (.cells #[.int .i64 cm, .bool nm, .string tm, .int .i64 em] 23)).cell? ⟨w.heap.size, 3, none⟩ = some (.int .i64 ea) := Ba7.out.cell 3
    have yb0 : (w6.alloc (.cells #[.int .i64 cm, .bool nm, .string tm, .int .i64 em] 23)).cell? ⟨w.heap.size + 1, 0, none⟩ = some (.int .i64 cb) := Bb7.out.cell 0
    have yb1 : (w6.alloc (.cells #[.int .i64 cm, .bool nm, .string tm, .int .i64 em] 23)).cell? ⟨w.heap.size + 1, 1, none⟩ = some (.bool nb) := Bb7.out.cell 1
    have yb2 : (w6.alloc (.cells #[.int .i64 cm, .bool nm, .string tm, .int .i64 em] 23)).cell? ⟨w.heap.size + 1, 2, none⟩ = some (.string tb) := Bb7.out.cell 2
    have yb3 : (w6.alloc (.cells #[.int .i64 cm, .bool nm, .string tm, .int .i64 em] 23)).cell? ⟨w.heap.size + 1, 3, none⟩ = some (.int .i64 eb) := Bb7.out.cell 3
    have yc0 : (w6.alloc (.cells #[.int .i64 cm, .bool nm, .string tm, .int .i64 em] 23)).cell? ⟨w.heap.size + 1 + 1, 0, none⟩ = some (.int .i64 cc) := Bc7.out.cell 0
    have yc1 : (w6.alloc (.cells #[.int .i64 cm, .bool nm, .string tm, .int .i64 em] 23)).cell? ⟨w.heap.size + 1 + 1, 1, none⟩ = some (.bool nc) := Bc7.out.cell 1
    have yc2 : (w6.alloc (.cells #[.int .i64 cm, .bool nm, .string tm, .int .i64 em] 23)).cell? ⟨w.heap.size + 1 + 1, 2, none⟩ = some (.string tc) := Bc7.out.cell 2
    have yc3 : (w6.alloc (.cells #[.int .i64 cm, .bool nm, .string tm, .int .i64 em] 23)).cell? ⟨w.heap.size + 1 + 1, 3, none⟩ = some (.int .i64 ec) := Bc7.out.cell 3
    have ym0 : (w6.alloc (.cells #[.int .i64 cm, .bool nm, .string tm, .int .i64 em] 23)).cell? ⟨w6.heap.size, 0, none⟩ = some (.int .i64 cm) := Bm7.out.cell 0
    have ym1 : (w6.alloc (.cells #[.int .i64 cm, .bool nm, .string tm, .int .i64 em] 23)).cell? ⟨w6.heap.size, 1, none⟩ = some (.bool nm) := Bm7.out.cell 1
    have ym2 : (w6.alloc (.cells #[.int .i64 cm, .bool nm, .string tm, .int .i64 em] 23)).cell? ⟨w6.heap.size, 2, none⟩ = some (.string tm) := Bm7.out.cell 2
    have ym3 : (w6.alloc (.cells #[.int .i64 cm, .bool nm, .string tm, .int .i64 em] 23)).cell? ⟨w6.heap.size, 3, none⟩ = some (.int .i64 em) := Bm7.out.cell 3
    go_wp2_with fail
    refine (H5.out _).mono ?_
    rintro e w8 ⟨rfl, hb⟩
    have Ba8 := hide (Ba7.out.below hb Ba7.out.lt)
    have Bb8 := hide (Bb7.out.below hb Bb7.out.lt)
    have Bc8 := hide (Bc7.out.below hb Bc7.out.lt)
    have Bm8 := hide (Bm7.out.below hb Bm7.out.lt)
    have HB8 := hide (HB7.out.trans (hb.mono HB7.out.size))
    clear hb Ba7 Bb7 Bc7 Bm7 HB7 ya0 ya1 ya2 ya3 yb0 yb1 yb2 yb3 yc0 yc1 yc2 yc3 ym0 ym1 ym2 ym3
    have ya0 : w8.cell? ⟨w.heap.size, 0, none⟩ = some (.int .i64 ca) := Ba8.out.cell 0
    have ya1 : w8.cell? ⟨w.heap.size, 1, none⟩ = some (.bool na) := Ba8.out.cell 1
    have ya2 : w8.cell? ⟨w.heap.size, 2, none⟩ = some (.string ta) := Ba8.out.cell 2
    have ya3 : w8.cell? ⟨w.heap.size, 3, none⟩ = some (.int .i64 ea) := Ba8.out.cell 3
    have yb0 : w8.cell? ⟨w.heap.size + 1, 0, none⟩ = some (.int .i64 cb) := Bb8.out.cell 0
    have yb1 : w8.cell? ⟨w.heap.size + 1, 1, none⟩ = some (.bool nb) := Bb8.out.cell 1
    have yb2 : w8.cell? ⟨w.heap.size + 1, 2, none⟩ = some (.string tb) := Bb8.out.cell 2
    have yb3 : w8.cell? ⟨w.heap.size + 1, 3, none⟩ = some (.int .i64 eb) := Bb8.out.cell 3
    have yc0 : w8.cell? ⟨w.heap.size + 1 + 1, 0, none⟩ = some (.int .i64 cc) := Bc8.out.cell 0
    have yc1 : w8.cell? ⟨w.heap.size + 1 + 1, 1, none⟩ = some (.bool nc) := Bc8.out.cell 1
    have yc2 : w8.cell? ⟨w.heap.size + 1 + 1, 2, none⟩ = some (.string tc) := Bc8.out.cell 2
    have yc3 : w8.cell? ⟨w.heap.size + 1 + 1, 3, none⟩ = some (.int .i64 ec) := Bc8.out.cell 3
    have ym0 : w8.cell? ⟨w6.heap.size, 0, none⟩ = some (.int .i64 cm) := Bm8.out.cell 0
    have ym1 : w8.cell? ⟨w6.heap.size, 1, none⟩ = some (.bool nm) := Bm8.out.cell 1
    have ym2 : w8.cell? ⟨w6.heap.size, 2, none⟩ = some (.string tm) := Bm8.out.cell 2
    have ym3 : w8.cell? ⟨w6.heap.size, 3, none⟩ = some (.int .i64 em) := Bm8.out.cell 3
    have Ba9 := hide ((Ba8.out.alloc (.cells #[.int .i64 cn, .bool nn, .string tn, .int .i64 en] 23)))
    have Bb9 := hide ((Bb8.out.alloc (.cells #[.int .i64 cn, .bool nn, .string tn, .int .i64 en] 23)))
    have Bc9 := hide ((Bc8.out.alloc (.cells #[.int .i64 cn, .bool nn, .string tn, .int .i64 en] 23)))
    have Bm9 := hide ((Bm8.out.alloc (.cells #[.int .i64 cn, .bool nn, .string tn, .int .i64 en] 23)))
    have Bn9 := hide ((Blk.newAt w8 (w8.heap.size) (rfl) #[.int .i64 cn, .bool nn, .string tn, .int .i64 en] 23))
    have HB9 : Hid (Below w.heap.size w (w8.alloc (.cells #[.int .i64 cn, .bool nn, .string tn, .int .i64 en] 23))) := (HB8.out.alloc HB8.out.size _)
    clear Ba8 Bb8 Bc8 Bm8 HB8 ya0 ya1 ya2 ya3 yb0 yb1 yb2 yb3 yc0 yc1 yc2 yc3 ym0 ym1 ym2 ym3
    have ya0 : (w8.alloc (.cells #[.int .i64 cn, .bool nn, .string tn, .int .i64 en] 23)).cell? ⟨w.heap.size, 0, none⟩ = some (.int .i64 ca) := Ba9.out.cell 0
    have ya1 : (w8.alloc (.cells #[.int .i64 cn, .bool nn, .string tn, .int .i64 en] 23)).cell? ⟨w.heap.size, 1, none⟩ = some (.bool na) := Ba9.out.cell 1
    have ya2 : (w8.alloc (.cells #[.int .i64 cn, .bool nn, .string tn, .int .i64 en] 23)).cell? ⟨w.heap.size, 2, none⟩ = some (.string ta) := Ba9.out.cell 2
    have ya3 : (w8.alloc (.cells #[.int .i64 cn, .bool nn, .string tn, .int .i64 en] 23)).cell? ⟨w.heap.size, 3, none⟩ = some (.int .i64 ea) := Ba9.out.cell 3
    have yb0 : (w8.alloc (.cells #[.int .i64 cn, .bool nn, .string tn, .int .i64 en] 23)).cell? ⟨w.heap.size + 1, 0, none⟩ = some (.int .i64 cb) := Bb9.out.cell 0
    have yb1 : (w8.alloc (.cells #[.int .i64 cn, .bool nn, .string tn, .int .i64 en] 23)).cell? ⟨w.heap.size + 1, 1, none⟩ = some (.bool nb) := Bb9.out.cell 1
    have yb2 : (w8.alloc (.cells #[.int .i64 cn, .bool nn, .string tn, .int .i64 en] 23)).cell? ⟨w.heap.size + 1, 2, none⟩ = some (.string tb) := Bb9.out.cell 2
    have yb3 : (w8.alloc (.cells #[.int .i64 cn, .bool nn, .string tn, .int .i64 en] 23)).cell? ⟨w.heap.size + 1, 3, none⟩ = some (.int .i64 eb) := Bb9.out.cell 3
    have yc0 : (w8.alloc (.cells #[.int .i64 cn, .bool nn, .string tn, .int .i64 en] 23)).cell? ⟨w.heap.size + 1 + 1, 0, none⟩ = some (.int .i64 cc) := Bc9.out.cell 0
    have yc1 : (w8.alloc (.cells #[.int .i64 cn, .bool nn, .string tn, .int .i64 en] 23)).cell? ⟨w.heap.size + 1 + 1, 1, none⟩ = some (.bool nc) := Bc9.out.cell 1
    have yc2 : (w8.alloc (.cells #[.int .i64 cn, .bool nn, .string tn, .int .i64 en] 23)).cell? ⟨w.heap.size + 1 + 1, 2, none⟩ = some (.string tc) := Bc9.out.cell 2
    have yc3 : (w8.alloc (.cells #[.int .i64 cn, .bool nn, .string tn, .int .i64 en] 23)).cell? ⟨w.heap.size + 1 + 1, 3, none⟩ = some (.int .i64 ec) := Bc9.out.cell 3
    have ym0 : (w8.alloc (.cells #[.int .i64 cn, .bool nn, .string tn, .int .i64 en] 23)).cell? ⟨w6.heap.size, 0, none⟩ = some (.int .i64 cm) := Bm9.out.cell 0
    have ym1 : (w8.alloc (.cells #[.int .i64 cn, .bool nn, .string tn, .int .i64 en] 23)).cell? ⟨w6.heap.size, 1, none⟩ = some (.bool nm) := Bm9.out.cell 1
    have ym2 : (w8.alloc (.cells #[.int .i64 cn, .bool nn, .string tn, .int .i64 en] 23)).cell? ⟨w6.heap.size, 2, none⟩ = some (.string tm) := Bm9.out.cell 2
    have ym3 : (w8.alloc (.cells #[.int .i64 cn, .bool nn, .string tn, .int .i64 en] 23)).cell? ⟨w6.heap.size, 3, none⟩ = some (.int .i64 em) := Bm9.out.cell 3
    have yn0 : (w8.alloc (.cells #[.int .i64 cn, .bool nn, .string tn, .int .i64 en] 23)).cell? ⟨w8.heap.size, 0, none⟩ = some (.int .i64 cn) := Bn9.out.cell 0
    have yn1 : (w8.alloc (.cells #[.int .i64 cn, .bool nn, .string tn, .int .i64 en] 23)).cell? ⟨w8.heap.size, 1, none⟩ = some (.bool nn) := Bn9.out.cell 1
    have yn2 : (w8.alloc (.cells #[.int .i64 cn, .bool nn, .string tn, .int .i64 en] 23)).cell? ⟨w8.heap.size, 2, none⟩ = some (.string tn) := Bn9.out.cell 2
    have yn3 : (w8.alloc (.cells #[.int .i64 cn, .bool nn, .string tn, .int .i64 en] 23)).cell? ⟨w8.heap.size, 3, none⟩ = some (.int .i64 en) := Bn9.out.cell 3
    go_wp2_with fail
    refine (H6.out _).mono ?_
    rintro e w10 ⟨rfl, hb⟩
    have Ba10 := hide (Ba9.out.below hb Ba9.out.lt)
    have Bb10 := hide (Bb9.out.below hb Bb9.out.lt)
    have Bc10 := hide (Bc9.out.below hb Bc9.out.lt)
    have Bm10 := hide (Bm9.out.below hb Bm9.out.lt)
    have Bn10 := hide (Bn9.out.below hb Bn9.out.lt)
    have HB10 := hide (HB9.out.trans (hb.mono HB9.out.size))
    clear hb Ba9 Bb9 Bc9 Bm9 Bn9 HB9 ya0 ya1 ya2 ya3 yb0 yb1 yb2 yb3 yc0 yc1 yc2 yc3 ym0 ym1 ym2 ym3 yn0 yn1 yn2 yn3
    have ya0 : w10.cell? ⟨w.heap.size, 0, none⟩ = some (.int .i64 ca) := Ba10.out.cell 0
    have ya1 : w10.cell? ⟨w.heap.size, 1, none⟩ = some (.bool na) := Ba10.out.cell 1
    have ya2 : w10.cell? ⟨w.heap.size, 2, none⟩ = some (.string ta) := Ba10.out.cell 2
    have ya3 : w10.cell? ⟨w.heap.size, 3, none⟩ = some (.int .i64 ea) := Ba10.out.cell 3
    have yb0 : w10.cell? ⟨w.heap.size + 1, 0, none⟩ = some (.int .i64 cb) := Bb10.out.cell 0
    have yb1 : w10.cell? ⟨w.heap.size + 1, 1, none⟩ = some (.bool nb) := Bb10.out.cell 1
    have yb2 : w10.cell? ⟨w.heap.size + 1, 2, none⟩ = some (.string tb) := Bb10.out.cell 2
    have yb3 : w10.cell? ⟨w.heap.size + 1, 3, none⟩ = some (.int .i64 eb) := Bb10.out.cell 3
    have yc0 : w10.cell? ⟨w.heap.size + 1 + 1, 0, none⟩ = some (.int .i64 cc) := Bc10.out.cell 0
    have yc1 : w10.cell? ⟨w.heap.size + 1 + 1, 1, none⟩ = some (.bool nc) := Bc10.out.cell 1
    have yc2 : w10.cell? ⟨w.heap.size + 1 + 1, 2, none⟩ = some (.string tc) := Bc10.out.cell 2
    have yc3 : w10.cell? ⟨w.heap.size + 1 + 1, 3, none⟩ = some (.int .i64 ec) := Bc10.out.cell 3
    have ym0 : w10.cell? ⟨w6.heap.size, 0, none⟩ = some (.int .i64 cm) := Bm10.out.cell 0
    have ym1 : w10.cell? ⟨w6.heap.size, 1, none⟩ = some (.bool nm) := Bm10.out.cell 1
    have ym2 : w10.cell? ⟨w6.heap.size, 2, none⟩ = some (.string tm) := Bm10.out.cell 2
    have ym3 : w10.cell? ⟨w6.heap.size, 3, none⟩ = some (.int .i64 em) := Bm10.out.cell 3
    have yn0 : w10.cell? ⟨w8.heap.size, 0, none⟩ = some (.int .i64 cn) := Bn10.out.cell 0
    have yn1 : w10.cell? ⟨w8.heap.size, 1, none⟩ = some (.bool nn) := Bn10.out.cell 1
    have yn2 : w10.cell? ⟨w8.heap.size, 2, none⟩ = some (.string tn) := Bn10.out.cell 2
    have yn3 : w10.cell? ⟨w8.heap.size, 3, none⟩ = some (.int .i64 en) := Bn10.out.cell 3
    go_wp2_with fail
    all_goals try (exfalso; exact HV.out (by assumption) (by assumption) (And.right ‹((ca != 2) = true ∧ (cb != 2) = true) ∧ (v != -x) = true›))
    all_goals first | subst ‹ca = 2› | subst ‹cb = 2› | skip
    all_goals (
      skip
      refine (H7.out _ (HT.out.below HB10.out)).mono ?_
      rintro e w11 ⟨rfl, hb⟩
      have Ba11 := hide (Ba10.out.below hb Ba10.out.lt)
      have Bb11 := hide (Bb10.out.below hb Bb10.out.lt)
      have Bc11 := hide (Bc10.out.below hb Bc10.out.lt)
      have Bm11 := hide (Bm10.out.below hb Bm10.out.lt)
      have Bn11 := hide (Bn10.out.below hb Bn10.out.lt)
      have HB11 := hide (HB10.out.trans (hb.mono HB10.out.size))
      clear hb Ba10 Bb10 Bc10 Bm10 Bn10 HB10 ya0 ya1 ya2 ya3 yb0 yb1 yb2 yb3 yc0 yc1 yc2 yc3 ym0 ym1 ym2 ym3 yn0 yn1 yn2 yn3
      have ya0 : w11.cell? ⟨w.heap.size, 0, none⟩ = some (.int .i64 (by first | exact ca | exact 2)) := Ba11.out.cell 0
      have ya1 : w11.cell? ⟨w.heap.size, 1, none⟩ = some (.bool na) := Ba11.out.cell 1
      have ya2 : w11.cell? ⟨w.heap.size, 2, none⟩ = some (.string ta) := Ba11.out.cell 2
      have ya3 : w11.cell? ⟨w.heap.size, 3, none⟩ = some (.int .i64 ea) := Ba11.out.cell 3
      have yb0 : w11.cell? ⟨w.heap.size + 1, 0, none⟩ = some (.int .i64 (by first | exact cb | exact 2)) := Bb11.out.cell 0
      have yb1 : w11.cell? ⟨w.heap.size + 1, 1, none⟩ = some (.bool nb) := Bb11.out.cell 1
      have yb2 : w11.cell? ⟨w.heap.size + 1, 2, none⟩ = some (.string tb) := Bb11.out.cell 2
      have yb3 : w11.cell? ⟨w.heap.size + 1, 3, none⟩ = some (.int .i64 eb) := Bb11.out.cell 3
      have yc0 : w11.cell? ⟨w.heap.size + 1 + 1, 0, none⟩ = some (.int .i64 cc) := Bc11.out.cell 0
      have yc1 : w11.cell? ⟨w.heap.size + 1 + 1, 1, none⟩ = some (.bool nc) := Bc11.out.cell 1
      have yc2 : w11.cell? ⟨w.heap.size + 1 + 1, 2, none⟩ = some (.string tc) := Bc11.out.cell 2
      have yc3 : w11.cell? ⟨w.heap.size + 1 + 1, 3, none⟩ = some (.int .i64 ec) := Bc11.out.cell 3
      have ym0 : w11.cell? ⟨w6.heap.size, 0, none⟩ = some (.int .i64 cm) := Bm11.out.cell 0
      have ym1 : w11.cell? ⟨w6.heap.size, 1, none⟩ = some (.bool nm) := Bm11.out.cell 1
      have ym2 : w11.cell? ⟨w6.heap.size, 2, none⟩ = some (.string tm) := Bm11.out.cell 2
      have ym3 : w11.cell? ⟨w6.heap.size, 3, none⟩ = some (.int .i64 em) := Bm11.out.cell 3
      have yn0 : w11.cell? ⟨w8.heap.size, 0, none⟩ = some (.int .i64 cn) := Bn11.out.cell 0
      have yn1 : w11.cell? ⟨w8.heap.size, 1, none⟩ = some (.bool nn) := Bn11.out.cell 1
      have yn2 : w11.cell? ⟨w8.heap.size, 2, none⟩ = some (.string tn) := Bn11.out.cell 2
      have yn3 : w11.cell? ⟨w8.heap.size, 3, none⟩ = some (.int .i64 en) := Bn11.out.cell 3
      have Ba12 := hide ((Ba11.out.alloc (.cells #[.int .i64 cs, .bool ns, .string ts, .int .i64 es] 23)))
      have Bb12 := hide ((Bb11.out.alloc (.cells #[.int .i64 cs, .bool ns, .string ts, .int .i64 es] 23)))
      have Bc12 := hide ((Bc11.out.alloc (.cells #[.int .i64 cs, .bool ns, .string ts, .int .i64 es] 23)))
      have Bm12 := hide ((Bm11.out.alloc (.cells #[.int .i64 cs, .bool ns, .string ts, .int .i64 es] 23)))
      have Bn12 := hide ((Bn11.out.alloc (.cells #[.int .i64 cs, .bool ns, .string ts, .int .i64 es] 23)))
      have Bs12 := hide ((Blk.newAt w11 (w11.heap.size) (rfl) #[.int .i64 cs, .bool ns, .string ts, .int .i64 es] 23))
      have HB12 : Hid (Below w.heap.size w (w11.alloc (.cells #[.int .i64 cs, .bool ns, .string ts, .int .i64 es] 23))) := (HB11.out.alloc HB11.out.size _)
      clear Ba11 Bb11 Bc11 Bm11 Bn11 HB11 ya0 ya1 ya2 ya3 yb0 yb1 yb2 yb3 yc0 yc1 yc2 yc3 ym0 ym1 ym2 ym3 yn0 yn1 yn2 yn3
      have ya0 : (w11.alloc (.cells #[.int .i64 cs, .bool ns, .string ts, .int .i64 es] 23)).cell? ⟨w.heap.size, 0, none⟩ = some (.int .i64 (by first | exact ca | exact 2)) := Ba12.out.cell 0
      have ya1 : (w11.alloc (.cells #[.int .i64 cs, .bool ns, .string ts, .int .i64 es] 23)).cell? ⟨w.heap.size, 1, none⟩ = some (.bool na) := Ba12.out.cell 1
      have ya2 : (w11.alloc (.cells #[.int .i64 cs, .bool ns, .string ts, .int .i64 es] 23)).cell? ⟨w.heap.size, 2, none⟩ = some (.string ta) := Ba12.out.cell 2
      have ya3 : (w11.alloc (.cells #[.int .i64 cs, .bool ns, .string ts, .int .i64 es] 23)).cell? ⟨w.heap.size, 3, none⟩ = some (.int .i64 ea) := Ba12.out.cell 3
      have yb0 : (w11.alloc (.cells #[.int .i64 cs, .bool ns, .string ts, .int .i64 es] 23)).cell? ⟨w.heap.size + 1, 0, none⟩ = some (.int .i64 (by first | exact cb | exact 2)) := Bb12.out.cell 0
      have yb1 : (w11.alloc (.cells #[.int .i64 cs, .bool ns, .string ts, .int .i64 es] 23)).cell? ⟨w.heap.size + 1, 1, none⟩ = some (.bool nb) := Bb12.out.cell 1
      have yb2 : (w11.alloc (.cells #[.int .i64 cs, .bool ns, .string ts, .int .i64 es] 23)).cell? ⟨w.heap.size + 1, 2, none⟩ = some (.string tb) := Bb12.out.cell 2
      have yb3 : (w11.alloc (.cells #[.int .i64 cs, .bool ns, .string ts, .int .i64 es] 23)).cell? ⟨w.heap.size + 1, 3, none⟩ = some (.int .i64 eb) := Bb12.out.cell 3
      have yc0 : (w11.alloc (.cells #[.int .i64 cs, .bool ns, .string ts, .int .i64 es] 23)).cell? ⟨w.heap.size + 1 + 1, 0, none⟩ = some (.int .i64 cc) := Bc12.out.cell 0
      have yc1 : (w11.alloc (.cells #[.int .i64 cs, .bool ns, .string ts, .int .i64 es] 23)).cell? ⟨w.heap.size + 1 + 1, 1, none⟩ = some (.bool nc) := Bc12.out.cell 1
      have yc2 : (w11.alloc (.cells #[.int .i64 cs, .bool ns, .string ts, .int .i64 es] 23)).cell? ⟨w.heap.size + 1 + 1, 2, none⟩ = some (.string tc) := Bc12.out.cell 2
      have yc3 : (w11.alloc (.cells #[.int .i64 cs, .bool ns, .string ts, .int .i64 es] 23)).cell? ⟨w.heap.size + 1 + 1, 3, none⟩ = some (.int .i64 ec) := Bc12.out.cell 3
      have ym0 : (w11.alloc (.cells #[.int .i64 cs, .bool ns, .string ts, .int .i64 es] 23)).cell? ⟨w6.heap.size, 0, none⟩ = some (.int .i64 cm) := Bm12.out.cell 0
      have ym1 : (w11.alloc (.cells #[.int .i64 cs, .bool ns, .string ts, .int .i64 es] 23)).cell? ⟨w6.heap.size, 1, none⟩ = some (.bool nm) := Bm12.out.cell 1
      have ym2 : (w11.alloc (.cells #[.int .i64 cs, .bool ns, .string ts, .int .i64 es] 23)).cell? ⟨w6.heap.size, 2, none⟩ = some (.string tm) := Bm12.out.cell 2
      have ym3 : (w11.alloc (.cells #[.int .i64 cs, .bool ns, .string ts, .int .i64 es] 23)).cell? ⟨w6.heap.size, 3, none⟩ = some (.int .i64 em) := Bm12.out.cell 3
      have yn0 : (w11.alloc (.cells #[.int .i64 cs, .bool ns, .string ts, .int .i64 es] 23)).cell? ⟨w8.heap.size, 0, none⟩ = some (.int .i64 cn) := Bn12.out.cell 0
      have yn1 : (w11.alloc (.cells #[.int .i64 cs, .bool ns, .string ts, .int .i64 es] 23)).cell? ⟨w8.heap.size, 1, none⟩ = some (.bool nn) := Bn12.out.cell 1
      have yn2 : (w11.alloc (.cells #[.int .i64 cs, .bool ns, .string ts, .int .i64 es] 23)).cell? ⟨w8.heap.size, 2, none⟩ = some (.string tn) := Bn12.out.cell 2
      have yn3 : (w11.alloc (.cells #[.int .i64 cs, .bool ns, .string ts, .int .i64 es] 23)).cell? ⟨w8.heap.size, 3, none⟩ = some (.int .i64 en) := Bn12.out.cell 3
      have ys0 : (w11.alloc (.cells #[.int .i64 cs, .bool ns, .string ts, .int .i64 es] 23)).cell? ⟨w11.heap.size, 0, none⟩ = some (.int .i64 cs) := Bs12.out.cell 0
      have ys1 : (w11.alloc (.cells #[.int .i64 cs, .bool ns, .string ts, .int .i64 es] 23)).cell? ⟨w11.heap.size, 1, none⟩ = some (.bool ns) := Bs12.out.cell 1
      have ys2 : (w11.alloc (.cells #[.int .i64 cs, .bool ns, .string ts, .int .i64 es] 23)).cell? ⟨w11.heap.size, 2, none⟩ = some (.string ts) := Bs12.out.cell 2
      have ys3 : (w11.alloc (.cells #[.int .i64 cs, .bool ns, .string ts, .int .i64 es] 23)).cell? ⟨w11.heap.size, 3, none⟩ = some (.int .i64 es) := Bs12.out.cell 3
      go_wp2_with fail
      refine (H8.out _ (HT.out.below HB12.out)).mono ?_
      rintro e w13 ⟨rfl, hb⟩
      have Ba13 := hide (Ba12.out.below hb Ba12.out.lt)
      have Bb13 := hide (Bb12.out.below hb Bb12.out.lt)
      have Bc13 := hide (Bc12.out.below hb Bc12.out.lt)
      have Bm13 := hide (Bm12.out.below hb Bm12.out.lt)
      have Bn13 := hide (Bn12.out.below hb Bn12.out.lt)
      have Bs13 := hide (Bs12.out.below hb Bs12.out.lt)
      have HB13 := hide (HB12.out.trans (hb.mono HB12.out.size))
      clear hb Ba12 Bb12 Bc12 Bm12 Bn12 Bs12 HB12 ya0 ya1 ya2 ya3 yb0 yb1 yb2 yb3 yc0 yc1 yc2 yc3 ym0 ym1 ym2 ym3 yn0 yn1 yn2 yn3 ys0 ys1 ys2 ys3
      have ya0 : w13.cell? ⟨w.heap.size, 0, none⟩ = some (.int .i64 (by first | exact ca | exact 2)) := Ba13.out.cell 0
      have ya1 : w13.cell? ⟨w.heap.size, 1, none⟩ = some (.bool na) := Ba13.out.cell 1
      have ya2 : w13.cell? ⟨w.heap.size, 2, none⟩ = some (.string ta) := Ba13.out.cell 2
      have ya3 : w13.cell? ⟨w.heap.size, 3, none⟩ = some (.int .i64 ea) := Ba13.out.cell 3
      have yb0 : w13.cell? ⟨w.heap.size + 1, 0, none⟩ = some (.int .i64 (by first | exact cb | exact 2)) := Bb13.out.cell 0
      have yb1 : w13.cell? ⟨w.heap.size + 1, 1, none⟩ = some (.bool nb) := Bb13.out.cell 1
      have yb2 : w13.cell? ⟨w.heap.size + 1, 2, none⟩ = some (.string tb) := Bb13.out.cell 2
      have yb3 : w13.cell? ⟨w.heap.size + 1, 3, none⟩ = some (.int .i64 eb) := Bb13.out.cell 3
      have yc0 : w13.cell? ⟨w.heap.size + 1 + 1, 0, none⟩ = some (.int .i64 cc) := Bc13.out.cell 0
      have yc1 : w13.cell? ⟨w.heap.size + 1 + 1, 1, none⟩ = some (.bool nc) := Bc13.out.cell 1
      have yc2 : w13.cell? ⟨w.heap.size + 1 + 1, 2, none⟩ = some (.string tc) := Bc13.out.cell 2
      have yc3 : w13.cell? ⟨w.heap.size + 1 + 1, 3, none⟩ = some (.int .i64 ec) := Bc13.out.cell 3
      have ym0 : w13.cell? ⟨w6.heap.size, 0, none⟩ = some (.int .i64 cm) := Bm13.out.cell 0
      have ym1 : w13.cell? ⟨w6.heap.size, 1, none⟩ = some (.bool nm) := Bm13.out.cell 1
      have ym2 : w13.cell? ⟨w6.heap.size, 2, none⟩ = some (.string tm) := Bm13.out.cell 2
      have ym3 : w13.cell? ⟨w6.heap.size, 3, none⟩ = some (.int .i64 em) := Bm13.out.cell 3
      have yn0 : w13.cell? ⟨w8.heap.size, 0, none⟩ = some (.int .i64 cn) := Bn13.out.cell 0
      have yn1 : w13.cell? ⟨w8.heap.size, 1, none⟩ = some (.bool nn) := Bn13.out.cell 1
      have yn2 : w13.cell? ⟨w8.heap.size, 2, none⟩ = some (.string tn) := Bn13.out.cell 2
      have yn3 : w13.cell? ⟨w8.heap.size, 3, none⟩ = some (.int .i64 en) := Bn13.out.cell 3
      have ys0 : w13.cell? ⟨w11.heap.size, 0, none⟩ = some (.int .i64 cs) := Bs13.out.cell 0
      have ys1 : w13.cell? ⟨w11.heap.size, 1, none⟩ = some (.bool ns) := Bs13.out.cell 1
      have ys2 : w13.cell? ⟨w11.heap.size, 2, none⟩ = some (.string ts) := Bs13.out.cell 2
      have ys3 : w13.cell? ⟨w11.heap.size, 3, none⟩ = some (.int .i64 es) := Bs13.out.cell 3
      have Ba14 := hide ((Ba13.out.alloc (.cells #[.int .i64 ct, .bool nt, .string tt, .int .i64 et] 23)))
      have Bb14 := hide ((Bb13.out.alloc (.cells #[.int .i64 ct, .bool nt, .string tt, .int .i64 et] 23)))
      have Bc14 := hide ((Bc13.out.alloc (.cells #[.int .i64 ct, .bool nt, .string tt, .int .i64 et] 23)))
      have Bm14 := hide ((Bm13.out.alloc (.cells #[.int .i64 ct, .bool nt, .string tt, .int .i64 et] 23)))
      have Bn14 := hide ((Bn13.out.alloc (.cells #[.int .i64 ct, .bool nt, .string tt, .int .i64 et] 23)))
      have Bs14 := hide ((Bs13.out.alloc (.cells #[.int .i64 ct, .bool nt, .string tt, .int .i64 et] 23)))
      have Bt14 := hide ((Blk.newAt w13 (w13.heap.size) (rfl) #[.int .i64 ct, .bool nt, .string tt, .int .i64 et] 23))
      have HB14 : Hid (Below w.heap.size w (w13.alloc (.cells #[.int .i64 ct, .bool nt, .string tt, .int .i64 et] 23))) := (HB13.out.alloc HB13.out.size _)
      clear Ba13 Bb13 Bc13 Bm13 Bn13 Bs13 HB13 ya0 ya1 ya2 ya3 yb0 yb1 yb2 yb3 yc0 yc1 yc2 yc3 ym0 ym1 ym2 ym3 yn0 yn1 yn2 yn3 ys0 ys1 ys2 ys3
      have ya0 : (w13.alloc (.cells #[.int .i64 ct, .bool nt, .string tt, .int .i64 et] 23)).cell? ⟨w.heap.size, 0, none⟩ = some (.int .i64 (by first | exact ca | exact 2)) := Ba14.out.cell 0
      have ya1 : (w13.alloc (.cells #[.int .i64 ct, .bool nt, .string tt, .int .i64 et] 23)).cell? ⟨w.heap.size, 1, none⟩ = some (.bool na) := Ba14.out.cell 1
      have ya2 : (w13.alloc (.cells #[.int .i64 ct, .bool nt, .string tt, .int .i64 et] 23)).cell? ⟨w.heap.size, 2, none⟩ = some (.string ta) := Ba14.out.cell 2
      have ya3 : (w13.alloc (.cells #[.int .i64 ct, .bool nt, .string tt, .int .i64 et] 23)).cell? ⟨w.heap.size, 3, none⟩ = some (.int .i64 ea) := Ba14.out.cell 3
      have yb0 : (w13.alloc (.cells #[.int .i64 ct, .bool nt, .string tt, .int .i64 et] 23)).cell? ⟨w.heap.size + 1, 0, none⟩ = some (.int .i64 (by first | exact cb | exact 2)) := Bb14.out.cell 0
      have yb1 : (w13.alloc (.cells #[.int .i64 ct, .bool nt, .string tt, .int .i64 et] 23)).cell? ⟨w.heap.size + 1, 1, none⟩ = some (.bool nb) := Bb14.out.cell 1
      have yb2 : (w13.alloc (.cells #[.int .i64 ct, .bool nt, .string tt, .int .i64 et] 23)).cell? ⟨w.heap.size + 1, 2, none⟩ = some (.string tb) := Bb14.out.cell 2
      have yb3 : (w13.alloc (.cells #[.int .i64 ct, .bool nt, .string tt, .int .i64 et] 23)).cell? ⟨w.heap.size + 1, 3, none⟩ = some (.int .i64 eb) := Bb14.out.cell 3
      have yc0 : (w13.alloc (.cells #[.int .i64 ct, .bool nt, .string tt, .int .i64 et] 23)).cell? ⟨w.heap.size + 1 + 1, 0, none⟩ = some (.int .i64 cc) := Bc14.out.cell 0
      have yc1 : (w13.alloc (.cells #[.int .i64 ct, .bool nt, .string tt, .int .i64 et] 23)).cell? ⟨w.heap.size + 1 + 1, 1, none⟩ = some (.bool nc) := Bc14.out.cell 1
      have yc2 : (w13.alloc (.cells #[.int .i64 ct, .bool nt, .string tt, .int .i64 et] 23)).cell? ⟨w.heap.size + 1 + 1, 2, none⟩ = some (.string tc) := Bc14.out.cell 2
      have yc3 : (w13.alloc (.cells #[.int .i64 ct, .bool nt, .string tt, .int .i64 et] 23)).cell? ⟨w.heap.size + 1 + 1, 3, none⟩ = some (.int .i64 ec) := Bc14.out.cell 3
      have ym0 : (w13.alloc (.cells #[.int .i64 ct, .bool nt, .string tt, .int .i64 et] 23)).cell? ⟨w6.heap.size, 0, none⟩ = some (.int .i64 cm) := Bm14.out.cell 0
      have ym1 : (w13.alloc (.cells #[.int .i64 ct, .bool nt, .string tt, .int .i64 et] 23)).cell? ⟨w6.heap.size, 1, none⟩ = some (.bool nm) := Bm14.out.cell 1
      have ym2 : (w13.alloc (.cells #[.int .i64 ct, .bool nt, .string tt, .int .i64 et] 23)).cell? ⟨w6.heap.size, 2, none⟩ = some (.string tm) := Bm14.out.cell 2
      have ym3 : (w13.alloc (.cells #[.int .i64 ct, .bool nt, .string tt, .int .i64 et] 23)).cell? ⟨w6.heap.size, 3, none⟩ = some (.int .i64 em) := Bm14.out.cell 3
      have yn0 : (w13.alloc (.cells #[.int .i64 ct, .bool nt, .string tt, .int .i64 et] 23)).cell? ⟨w8.heap.size, 0, none⟩ = some (.int .i64 cn) := Bn14.out.cell 0
      have yn1 : (w13.alloc (.cells #[.int .i64 ct, .bool nt, .string tt, .int .i64 et] 23)).cell? ⟨w8.heap.size, 1, none⟩ = some (.bool nn) := Bn14.out.cell 1
      have yn2 : (w13.alloc (.cells #[.int .i64 ct, .bool nt, .string tt, .int .i64 et] 23)).cell? ⟨w8.heap.size, 2, none⟩ = some (.string tn) := Bn14.out.cell 2
      have yn3 : (w13.alloc (.cells #[.int .i64 ct, .bool nt, .string tt, .int .i64 et] 23)).cell? ⟨w8.heap.size, 3, none⟩ = some (.int .i64 en) := Bn14.out.cell 3
      have ys0 : (w13.alloc (.cells #[.int .i64 ct, .bool nt, .string tt, .int .i64 et] 23)).cell? ⟨w11.heap.size, 0, none⟩ = some (.int .i64 cs) := Bs14.out.cell 0
      have ys1 : (w13.alloc (.cells #[.int .i64 ct, .bool nt, .string tt, .int .i64 et] 23)).cell? ⟨w11.heap.size, 1, none⟩ = some (.bool ns) := Bs14.out.cell 1
      have ys2 : (w13.alloc (.cells #[.int .i64 ct, .bool nt, .string tt, .int .i64 et] 23)).cell? ⟨w11.heap.size, 2, none⟩ = some (.string ts) := Bs14.out.cell 2
      have ys3 : (w13.alloc (.cells #[.int .i64 ct, .bool nt, .string tt, .int .i64 et] 23)).cell? ⟨w11.heap.size, 3, none⟩ = some (.int .i64 es) := Bs14.out.cell 3
      have yt0 : (w13.alloc (.cells #[.int .i64 ct, .bool nt, .string tt, .int .i64 et] 23)).cell? ⟨w13.heap.size, 0, none⟩ = some (.int .i64 ct) := Bt14.out.cell 0
      have yt1 : (w13.alloc (.cells #[.int .i64 ct, .bool nt, .string tt, .int .i64 et] 23)).cell? ⟨w13.heap.size, 1, none⟩ = some (.bool nt) := Bt14.out.cell 1
      have yt2 : (w13.alloc (.cells #[.int .i64 ct, .bool nt, .string tt, .int .i64 et] 23)).cell? ⟨w13.heap.size, 2, none⟩ = some (.string tt) := Bt14.out.cell 2
      have yt3 : (w13.alloc (.cells #[.int .i64 ct, .bool nt, .string tt, .int .i64 et] 23)).cell? ⟨w13.heap.size, 3, none⟩ = some (.int .i64 et) := Bt14.out.cell 3
      go_wp2_with fail
      all_goals first
        | (go_ret; exact ⟨rfl, HB14.out⟩)
        | (refine (HC.out (by first | rfl | assumption | omega | exact bne_eqY (by assumption) | exact bne_neY (by assumption)) (by first | rfl | assumption | omega | exact bne_eqY (by assumption) | exact bne_neY (by assumption)) (by first | rfl | assumption | omega | exact bne_eqY (by assumption) | exact bne_neY (by assumption)) (by first | rfl | assumption | omega | exact bne_eqY (by assumption) | exact bne_neY (by assumption)) (by first | rfl | assumption | omega | exact bne_eqY (by assumption) | exact bne_neY (by assumption)) _).mono ?_; rintro e wz ⟨rfl, hb⟩; have HZ := hide (HB14.out.trans (hb.mono HB14.out.size)); clear hb; go_wp2; go_ret; exact ⟨rfl, HZ.out⟩)
    )
  )

end Go.Proofs.YtafljhfamjabeaaGreatDoor

namespace Go.Proofs.YtafljhfamjabeaaGreatDoor
open Go.RowKit

theorem dorder_walk (w : World) (htab : Tab w) (ca : Int) (na : Bool) (ta : ByteArray) (ea : Int) (cb : Int) (nb : Bool) (tb : ByteArray) (eb : Int) (cc : Int) (nc : Bool) (tc : ByteArray) (ec : Int) : Calls Tryz.prog 11 #[dcV ca na ta ea, dcV cb nb tb eb, dcV cc nc tc ec] w fun e w' => e = .returned (.bool true) ∧ Below w.heap.size w w' := by
  by_cases ha : MayD ca na (bys ta) ea
  · by_cases hb : MayD cb nb (bys tb) eb
    · obtain ⟨a, hda⟩ : ∃ d : DecT, d = ⟨ca.toNat, na, bys ta, ea⟩ := ⟨_, rfl⟩
      have ma : May a := by rw [hda]; exact mayD_d ha
      have ea' : dcV ca na ta ea = decVal a := by rw [hda]; exact dcV_d ca na ta ea (mayD_nn ha)
      have ca' : (a.cls : Int) = ca := by rw [hda]; exact Int.toNat_of_nonneg (mayD_nn ha)
      obtain ⟨b, hdb⟩ : ∃ d : DecT, d = ⟨cb.toNat, nb, bys tb, eb⟩ := ⟨_, rfl⟩
      have mb : May b := by rw [hdb]; exact mayD_d hb
      have eb' : dcV cb nb tb eb = decVal b := by rw [hdb]; exact dcV_d cb nb tb eb (mayD_nn hb)
      have cb' : (b.cls : Int) = cb := by rw [hdb]; exact Int.toNat_of_nonneg (mayD_nn hb)
      have c0 := fun W => Cmp_d a b W ma mb
      have c1 := fun W => Cmp_d b a W mb ma
      obtain ⟨m, n4, mm, vm⟩ := neg_ex a ma
      obtain ⟨n, n5, mn, vn⟩ := neg_ex b mb
      have c6 := fun W => Cmp_d m n W mm mn
      rw [← ea', ← eb'] at c0 c1
      rw [← ea'] at n4
      rw [← eb'] at n5
      have hv : ca ≠ 2 → cb ≠ 2 → (cmpI (wD m) (wD n) != -(cmpI (wD a) (wD b))) = true → False := by
        intro h1 h2 h3
        rw [vm (by omega), vn (by omega), cmpI_neg, cmpI_anti (wD b) (wD a)] at h3
        simp at h3
      have hxy : (cmpI (wD a) (wD b) != -(cmpI (wD b) (wD a))) = false := by rw [cmpI_anti (wD a) (wD b)]; simp
      by_cases hc : MayD cc nc (bys tc) ec
      · obtain ⟨c, hdc⟩ : ∃ d : DecT, d = ⟨cc.toNat, nc, bys tc, ec⟩ := ⟨_, rfl⟩
        have mc : May c := by rw [hdc]; exact mayD_d hc
        have ec' : dcV cc nc tc ec = decVal c := by rw [hdc]; exact dcV_d cc nc tc ec (mayD_nn hc)
        have cc' : (c.cls : Int) = cc := by rw [hdc]; exact Int.toNat_of_nonneg (mayD_nn hc)
        have c2 := fun W => Cmp_d b c W mb mc
        have c3 := fun W => Cmp_d a c W ma mc
        have s7 := fun W hW => Add_d a c ma mc W hW
        have s8 := fun W hW => Add_d b c mb mc W hW
        have c9 := fun W => Cmp_d (sumT a c).1 (sumT b c).1 W (sumT_may a c ma mc) (sumT_may b c mb mc)
        rw [← eb', ← ec'] at c2 s8
        rw [← ea', ← ec'] at c3 s7
        refine order_y ca na ta ea cb nb tb eb cc nc tc ec _ _ _ _ _ _ _ _ _ _ _ _ _ _ _ _ _ _ _ _ _ _ _ w htab c0 c1 c2 c3 n4 n5 c6 s7 s8 (cmpI_ge _ _) (cmpI_le1 _ _) (cmpI_ge _ _) (cmpI_le1 _ _) hxy hv (cmpI_trans _ _ _) ?_
        intro hl ho h1 h2 h3 W
        obtain ⟨v1, k1⟩ := sum_val ma mc (by omega) (by omega) hl
        obtain ⟨v2, k2⟩ := sum_val mb mc (by omega) (by omega) ho
        have e : cmpI (wD (sumT a c).1) (wD (sumT b c).1) = cmpI (wD a) (wD b) := by
          rw [wD_fin k1, wD_fin k2, wD_fin (show a.cls = 0 by omega), wD_fin (show b.cls = 0 by omega), v1, v2, cmpI_add]
        have g := c9 W
        rw [e] at g
        exact g
      · have c2 := fun W => Cmp_no2 cb nb tb eb cc nc tc ec W hb hc
        have c3 := fun W => Cmp_no2 ca na ta ea cc nc tc ec W ha hc
        have s7 := fun W (_ : Tab W) => Add_no2 ca na ta ea cc nc tc ec W ha hc
        have s8 := fun W (_ : Tab W) => Add_no2 cb nb tb eb cc nc tc ec W hb hc
        exact order_n ca na ta ea cb nb tb eb cc nc tc ec _ _ _ _ _ _ _ _ _ _ _ w htab c0 c1 c2 c3 n4 n5 c6 s7 s8 (cmpI_ge _ _) (cmpI_le1 _ _) (cmpI_ge _ _) (cmpI_le1 _ _) hxy hv
    · exact order_bad ca na ta ea cb nb tb eb cc nc tc ec w htab (fun W => Cmp_no2 ca na ta ea cb nb tb eb W ha hb) (fun W => Cmp_no1 cb nb tb eb ca na ta ea W hb)
  · refine order_bad ca na ta ea cb nb tb eb cc nc tc ec w htab (fun W => Cmp_no1 ca na ta ea cb nb tb eb W ha) (fun W => ?_)
    by_cases hb : MayD cb nb (bys tb) eb
    · exact Cmp_no2 cb nb tb eb ca na ta ea W hb ha
    · exact Cmp_no1 cb nb tb eb ca na ta ea W hb

end Go.Proofs.YtafljhfamjabeaaGreatDoor
