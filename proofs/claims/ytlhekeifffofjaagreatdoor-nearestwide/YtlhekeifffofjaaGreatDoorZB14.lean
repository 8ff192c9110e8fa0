/-
  The walk of NearestWide.
-/
import Derived.Test.YtlhekeifffofjaaGreatDoorZB10
import Derived.Test.YtlhekeifffofjaaGreatDoorZB13
import Derived.Test.YtlhekeifffofjaaGreatDoorZB6
namespace Go.Proofs.YtlhekeifffofjaaGreatDoor
open Go.RowKit

set_option maxRecDepth 100000 in
set_option maxHeartbeats 1000000 in
theorem wide4_walk_no (c : Int) (neg : Bool) (t : ByteArray) (ex : Int) (w : World) (htab : Tab w) (h : ¬ MayD c neg (bys t) ex) :
    Calls Tryz.prog 3 #[dcV c neg t ex] w fun e w' => e = .returned (.bool true) ∧ Below w.heap.size w w' := by
  have BLK0 := hide (Blk.new w #[.int .i64 c, .bool neg, .string t, .int .i64 ex] 23)
  have HB0 : Hid (Below w.heap.size w (w.alloc (.cells #[.int .i64 c, .bool neg, .string t, .int .i64 ex] 23))) := (Below.refl _ _).alloc (Nat.le_refl _) _
  have AW := hide (fun W => nawake_any W)
  have HT := hide htab
  have T := hide (fun W => to64_no c neg t ex W h)
  have MY := hide (fun W => rmay_no c neg t ex W h)
  clear h htab
  go_enter Tryz.func3, Tryz.ntmps3
  go_wp2_with fail
  refine (T.out _).mono ?_
  rintro e w1 ⟨rfl, hb⟩
  have BLK1 := hide (BLK0.out.below hb BLK0.out.lt)
  have HB1 := hide (HB0.out.trans (hb.mono HB0.out.size))
  clear hb BLK0 HB0
  have y0 : w1.cell? ⟨w.heap.size, 0, none⟩ = some (.int .i64 c) := BLK1.out.cell 0
  have y1 : w1.cell? ⟨w.heap.size, 1, none⟩ = some (.bool neg) := BLK1.out.cell 1
  have y2 : w1.cell? ⟨w.heap.size, 2, none⟩ = some (.string t) := BLK1.out.cell 2
  have y3 : w1.cell? ⟨w.heap.size, 3, none⟩ = some (.int .i64 ex) := BLK1.out.cell 3
  go_wp2_with fail
  refine (AW.out _ (HT.out.below HB1.out)).mono ?_
  rintro e w2 ⟨rfl, hb⟩
  have BLK2 := hide (BLK1.out.below hb BLK1.out.lt)
  have HB2 := hide (HB1.out.trans (hb.mono HB1.out.size))
  clear hb BLK1 HB1 y0 y1 y2 y3
  have y0 : w2.cell? ⟨w.heap.size, 0, none⟩ = some (.int .i64 c) := BLK2.out.cell 0
  have y1 : w2.cell? ⟨w.heap.size, 1, none⟩ = some (.bool neg) := BLK2.out.cell 1
  have y2 : w2.cell? ⟨w.heap.size, 2, none⟩ = some (.string t) := BLK2.out.cell 2
  have y3 : w2.cell? ⟨w.heap.size, 3, none⟩ = some (.int .i64 ex) := BLK2.out.cell 3
  go_wp2_with fail
  refine (MY.out _).mono ?_
  rintro e w3 ⟨rfl, hb⟩
  have BLK3 := hide (BLK2.out.below hb BLK2.out.lt)
  have HB3 := hide (HB2.out.trans (hb.mono HB2.out.size))
  clear hb BLK2 HB2 y0 y1 y2 y3
  have y0 : w3.cell? ⟨w.heap.size, 0, none⟩ = some (.int .i64 c) := BLK3.out.cell 0
  have y1 : w3.cell? ⟨w.heap.size, 1, none⟩ = some (.bool neg) := BLK3.out.cell 1
  have y2 : w3.cell? ⟨w.heap.size, 2, none⟩ = some (.string t) := BLK3.out.cell 2
  have y3 : w3.cell? ⟨w.heap.size, 3, none⟩ = some (.int .i64 ex) := BLK3.out.cell 3
  go_wp2_with fail
  refine (MY.out _).mono ?_
  rintro e w4 ⟨rfl, hb⟩
  have BLK4 := hide (BLK3.out.below hb BLK3.out.lt)
  have HB4 := hide (HB3.out.trans (hb.mono HB3.out.size))
  clear hb BLK3 HB3 y0 y1 y2 y3
  have y0 : w4.cell? ⟨w.heap.size, 0, none⟩ = some (.int .i64 c) := BLK4.out.cell 0
  have y1 : w4.cell? ⟨w.heap.size, 1, none⟩ = some (.bool neg) := BLK4.out.cell 1
  have y2 : w4.cell? ⟨w.heap.size, 2, none⟩ = some (.string t) := BLK4.out.cell 2
  have y3 : w4.cell? ⟨w.heap.size, 3, none⟩ = some (.int .i64 ex) := BLK4.out.cell 3
  go_wp2
  go_ret
  exact ⟨rfl, HB4.out⟩

set_option maxRecDepth 100000 in
set_option maxHeartbeats 1000000 in
theorem wide4_walk_yes (c : Int) (neg : Bool) (t : ByteArray) (ex : Int) (w : World) (htab : Tab w) (h : MayD c neg (bys t) ex) :
    Calls Tryz.prog 3 #[dcV c neg t ex] w fun e w' => e = .returned (.bool true) ∧ Below w.heap.size w w' := by
  have BLK0 := hide (Blk.new w #[.int .i64 c, .bool neg, .string t, .int .i64 ex] 23)
  have HB0 : Hid (Below w.heap.size w (w.alloc (.cells #[.int .i64 c, .bool neg, .string t, .int .i64 ex] 23))) := (Below.refl _ _).alloc (Nat.le_refl _) _
  have AW := hide (fun W => nawake_any W)
  have HT := hide htab
  have T := hide (fun W => to64_yes c neg t ex W h)
  have MY := hide (fun W => rmay_yes c neg t ex W h)
  have RT := hide (fun W => rto64_any c neg t ex W h)
  obtain ⟨r, hr⟩ : ∃ r, r = toD 52 11 1074 ⟨c.toNat, neg, bys t, ex⟩ := ⟨_, rfl⟩
  have hrl : True := trivial
  rw [← hr] at T RT
  clear h htab hr
  go_enter Tryz.func3, Tryz.ntmps3
  go_wp2_with fail
  refine (T.out _).mono ?_
  rintro e w1 ⟨rfl, hb⟩
  have BLK1 := hide (BLK0.out.below hb BLK0.out.lt)
  have HB1 := hide (HB0.out.trans (hb.mono HB0.out.size))
  clear hb BLK0 HB0
  have y0 : w1.cell? ⟨w.heap.size, 0, none⟩ = some (.int .i64 c) := BLK1.out.cell 0
  have y1 : w1.cell? ⟨w.heap.size, 1, none⟩ = some (.bool neg) := BLK1.out.cell 1
  have y2 : w1.cell? ⟨w.heap.size, 2, none⟩ = some (.string t) := BLK1.out.cell 2
  have y3 : w1.cell? ⟨w.heap.size, 3, none⟩ = some (.int .i64 ex) := BLK1.out.cell 3
  go_wp2_with fail
  refine (AW.out _ (HT.out.below HB1.out)).mono ?_
  rintro e w2 ⟨rfl, hb⟩
  have BLK2 := hide (BLK1.out.below hb BLK1.out.lt)
  have HB2 := hide (HB1.out.trans (hb.mono HB1.out.size))
  clear hb BLK1 HB1 y0 y1 y2 y3
  have y0 : w2.cell? ⟨w.heap.size, 0, none⟩ = some (.int .i64 c) := BLK2.out.cell 0
  have y1 : w2.cell? ⟨w.heap.size, 1, none⟩ = some (.bool neg) := BLK2.out.cell 1
  have y2 : w2.cell? ⟨w.heap.size, 2, none⟩ = some (.string t) := BLK2.out.cell 2
  have y3 : w2.cell? ⟨w.heap.size, 3, none⟩ = some (.int .i64 ex) := BLK2.out.cell 3
  go_wp2_with fail
  refine (MY.out _).mono ?_
  rintro e w3 ⟨rfl, hb⟩
  have BLK3 := hide (BLK2.out.below hb BLK2.out.lt)
  have HB3 := hide (HB2.out.trans (hb.mono HB2.out.size))
  clear hb BLK2 HB2 y0 y1 y2 y3
  have y0 : w3.cell? ⟨w.heap.size, 0, none⟩ = some (.int .i64 c) := BLK3.out.cell 0
  have y1 : w3.cell? ⟨w.heap.size, 1, none⟩ = some (.bool neg) := BLK3.out.cell 1
  have y2 : w3.cell? ⟨w.heap.size, 2, none⟩ = some (.string t) := BLK3.out.cell 2
  have y3 : w3.cell? ⟨w.heap.size, 3, none⟩ = some (.int .i64 ex) := BLK3.out.cell 3
  go_wp2_with fail
  refine (MY.out _).mono ?_
  rintro e w4 ⟨rfl, hb⟩
  have BLK4 := hide (BLK3.out.below hb BLK3.out.lt)
  have HB4 := hide (HB3.out.trans (hb.mono HB3.out.size))
  clear hb BLK3 HB3 y0 y1 y2 y3
  have y0 : w4.cell? ⟨w.heap.size, 0, none⟩ = some (.int .i64 c) := BLK4.out.cell 0
  have y1 : w4.cell? ⟨w.heap.size, 1, none⟩ = some (.bool neg) := BLK4.out.cell 1
  have y2 : w4.cell? ⟨w.heap.size, 2, none⟩ = some (.string t) := BLK4.out.cell 2
  have y3 : w4.cell? ⟨w.heap.size, 3, none⟩ = some (.int .i64 ex) := BLK4.out.cell 3
  have b0 : Hid (Below w4.heap.size w4 w4.drew) := bdrew' w4
  have C1 : Hid (Calls Tryz.prog 14 #[] w4.drew fun e w' => e = .returned k64 ∧ Hid (Below w4.heap.size w4 w') ∧ w'.cell? ⟨w.heap.size, 0, none⟩ = some (.int .i64 c) ∧ w'.cell? ⟨w.heap.size, 1, none⟩ = some (.bool neg) ∧ w'.cell? ⟨w.heap.size, 2, none⟩ = some (.string t) ∧ w'.cell? ⟨w.heap.size, 3, none⟩ = some (.int .i64 ex)) := by
    refine (wide_any w4.drew).mono ?_
    rintro e w' ⟨rfl, hb⟩
    have hbb := b0.out.trans (hb.mono b0.out.size)
    have q := BLK4.out.below hbb BLK4.out.lt
    exact ⟨rfl, hbb, q.cell 0, q.cell 1, q.cell 2, q.cell 3⟩
  have C2 : Hid (∀ w1, Hid (Below w4.heap.size w4 w1) → Calls Tryz.prog 13 #[k64, .agg #[.int .i64 c, .bool neg, .string t, .int .i64 ex]] w1 fun e w' => e = .returned (.int .u64 (r : Int)) ∧ Hid (Below w4.heap.size w4 w') ∧ w'.cell? ⟨w.heap.size, 0, none⟩ = some (.int .i64 c) ∧ w'.cell? ⟨w.heap.size, 1, none⟩ = some (.bool neg) ∧ w'.cell? ⟨w.heap.size, 2, none⟩ = some (.string t) ∧ w'.cell? ⟨w.heap.size, 3, none⟩ = some (.int .i64 ex)) := by
    intro w1 h1
    refine (RT.out w1).mono ?_
    rintro e w' ⟨rfl, hb⟩
    have hbb := h1.out.trans (hb.mono h1.out.size)
    have q := BLK4.out.below hbb BLK4.out.lt
    exact ⟨rfl, hbb, q.cell 0, q.cell 1, q.cell 2, q.cell 3⟩
  clear T MY RT AW HT
  go_wp2_with fail
  have mk0 : True := trivial
  go_region_held3 (fun w' => w'.cell? ⟨w.heap.size, 0, none⟩ = some (.int .i64 c) ∧ w'.cell? ⟨w.heap.size, 1, none⟩ = some (.bool neg) ∧ w'.cell? ⟨w.heap.size, 2, none⟩ = some (.string t) ∧ w'.cell? ⟨w.heap.size, 3, none⟩ = some (.int .i64 ex)) (go_keep) (first
    | (clear mk0; go_at_call 14; refine C1.out.mono ?_; rintro e w5 ⟨rfl, b5, m0, m1, m2, m3⟩; have mk1 : True := trivial)
    | (clear mk1; go_at_call 13; refine (C2.out _ b5).mono ?_; rintro e w6 ⟨rfl, b6, n0, n1, n2, n3⟩; have mk2 : True := trivial))
  all_goals (
    have FIN := hide (HB4.out.trans (b6.out.mono HB4.out.size))
    clear b5 b6 C1 C2
    go_wp2
    go_ret
    exact ⟨by first | rfl | simp, FIN.out⟩)

theorem wide4_walk (w : World) (htab : Tab w) (c : Int) (neg : Bool) (t : ByteArray) (ex : Int) :
    Calls Tryz.prog 3 #[.agg #[.int .i64 c, .bool neg, .string t, .int .i64 ex]] w fun e w' => e = .returned (.bool true) ∧ Below w.heap.size w w' := by
  by_cases h : MayD c neg (bys t) ex
  · exact wide4_walk_yes c neg t ex w htab h
  · exact wide4_walk_no c neg t ex w htab h

end Go.Proofs.YtlhekeifffofjaaGreatDoor
