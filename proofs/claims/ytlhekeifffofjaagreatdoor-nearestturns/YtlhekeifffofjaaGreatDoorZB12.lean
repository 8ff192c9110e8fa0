/-
  What quipuref03's Parts does, case by case.
  What quipuref03's Exact does, and the walk of ShortestExact.
  What quipuref04's Narrow and Widen do, and the walk of NearestTurns.
-/
import Derived.Test.YtlhekeifffofjaaGreatDoorZB9
import Derived.Deep.RegionHeld3
import Derived.Test.YtlhekeifffofjaaGreatDoorZB11
import Derived.Test.YtlhekeifffofjaaGreatDoorZB6
namespace Go.Proofs.YtlhekeifffofjaaGreatDoor
open Go.RowKit

theorem results_tmp4 {fn : Func} {t u v x : Tmp} (h : fn.results = #[.tmp t, .tmp u, .tmp v, .tmp x]) (tmps : Array Value) (P : Program) (w : World) :
    (results fn tmps).run P w = .ok (.tuple #[tmps.getD t undef, tmps.getD u undef, tmps.getD v undef, tmps.getD x undef]) w := by
  simp [results, h]

set_option maxHeartbeats 2000000 in
theorem parts64_inf0 (b x m : Nat) (w : World) (_hxl : x ≤ 2047) (mx : bits .and .u64 ((b : Int) / 4503599627370496) 2047 = (x : Int)) (mm : bits .and .u64 (b : Int) 4503599627370495 = (m : Int)) (ms : bits .and .u64 ((b : Int) / 9223372036854775808) 1 = 0) (hx : (x : Int) = 2047) (hm : (m : Int) = 0) :
    Calls Tryz.prog 58 #[k64, .int .u64 (b : Int)] w fun e w' => e = .returned (.tuple #[.bool false, .int .i64 1, .int .u64 0, .int .i64 0]) ∧ Below w.heap.size w w' := by
  have blk := hide (Blk.new w #[.int .i64 52, .int .i64 11] 32)
  have HB0 : Hid (Below w.heap.size w (w.alloc (.cells #[.int .i64 52, .int .i64 11] 32))) := (Below.refl _ _).alloc (Nat.le_refl _) _
  go_enter Tryz.func58, Tryz.ntmps58
  go_wp2
  go_region
  go_wp2
  refine bodyPost_ret (results_tmp4 rfl _ _ _) rfl ?_
  exact ⟨rfl, HB0.out.drew⟩

set_option maxHeartbeats 2000000 in
theorem parts64_inf1 (b x m : Nat) (w : World) (_hxl : x ≤ 2047) (mx : bits .and .u64 ((b : Int) / 4503599627370496) 2047 = (x : Int)) (mm : bits .and .u64 (b : Int) 4503599627370495 = (m : Int)) (ms : bits .and .u64 ((b : Int) / 9223372036854775808) 1 = 1) (hx : (x : Int) = 2047) (hm : (m : Int) = 0) :
    Calls Tryz.prog 58 #[k64, .int .u64 (b : Int)] w fun e w' => e = .returned (.tuple #[.bool true, .int .i64 1, .int .u64 0, .int .i64 0]) ∧ Below w.heap.size w w' := by
  have blk := hide (Blk.new w #[.int .i64 52, .int .i64 11] 32)
  have HB0 : Hid (Below w.heap.size w (w.alloc (.cells #[.int .i64 52, .int .i64 11] 32))) := (Below.refl _ _).alloc (Nat.le_refl _) _
  go_enter Tryz.func58, Tryz.ntmps58
  go_wp2
  go_region
  go_wp2
  refine bodyPost_ret (results_tmp4 rfl _ _ _) rfl ?_
  exact ⟨rfl, HB0.out.drew⟩

set_option maxHeartbeats 2000000 in
theorem parts64_nan0 (b x m : Nat) (w : World) (_hxl : x ≤ 2047) (mx : bits .and .u64 ((b : Int) / 4503599627370496) 2047 = (x : Int)) (mm : bits .and .u64 (b : Int) 4503599627370495 = (m : Int)) (ms : bits .and .u64 ((b : Int) / 9223372036854775808) 1 = 0) (hx : (x : Int) = 2047) (hm : ¬ (m : Int) = 0) :
    Calls Tryz.prog 58 #[k64, .int .u64 (b : Int)] w fun e w' => e = .returned (.tuple #[.bool false, .int .i64 2, .int .u64 0, .int .i64 0]) ∧ Below w.heap.size w w' := by
  have blk := hide (Blk.new w #[.int .i64 52, .int .i64 11] 32)
  have HB0 : Hid (Below w.heap.size w (w.alloc (.cells #[.int .i64 52, .int .i64 11] 32))) := (Below.refl _ _).alloc (Nat.le_refl _) _
  go_enter Tryz.func58, Tryz.ntmps58
  go_wp2
  go_region
  go_wp2
  refine bodyPost_ret (results_tmp4 rfl _ _ _) rfl ?_
  exact ⟨rfl, HB0.out.drew⟩

set_option maxHeartbeats 2000000 in
theorem parts64_nan1 (b x m : Nat) (w : World) (_hxl : x ≤ 2047) (mx : bits .and .u64 ((b : Int) / 4503599627370496) 2047 = (x : Int)) (mm : bits .and .u64 (b : Int) 4503599627370495 = (m : Int)) (ms : bits .and .u64 ((b : Int) / 9223372036854775808) 1 = 1) (hx : (x : Int) = 2047) (hm : ¬ (m : Int) = 0) :
    Calls Tryz.prog 58 #[k64, .int .u64 (b : Int)] w fun e w' => e = .returned (.tuple #[.bool false, .int .i64 2, .int .u64 0, .int .i64 0]) ∧ Below w.heap.size w w' := by
  have blk := hide (Blk.new w #[.int .i64 52, .int .i64 11] 32)
  have HB0 : Hid (Below w.heap.size w (w.alloc (.cells #[.int .i64 52, .int .i64 11] 32))) := (Below.refl _ _).alloc (Nat.le_refl _) _
  go_enter Tryz.func58, Tryz.ntmps58
  go_wp2
  go_region
  go_wp2
  refine bodyPost_ret (results_tmp4 rfl _ _ _) rfl ?_
  exact ⟨rfl, HB0.out.drew⟩

set_option maxHeartbeats 2000000 in
theorem parts64_sub0 (b x m : Nat) (w : World) (_hxl : x ≤ 2047) (mx : bits .and .u64 ((b : Int) / 4503599627370496) 2047 = (x : Int)) (mm : bits .and .u64 (b : Int) 4503599627370495 = (m : Int)) (ms : bits .and .u64 ((b : Int) / 9223372036854775808) 1 = 0) (hx : (x : Int) = 0) :
    Calls Tryz.prog 58 #[k64, .int .u64 (b : Int)] w fun e w' => e = .returned (.tuple #[.bool false, .int .i64 0, .int .u64 (m : Int), .int .i64 (-1074)]) ∧ Below w.heap.size w w' := by
  have blk := hide (Blk.new w #[.int .i64 52, .int .i64 11] 32)
  have HB0 : Hid (Below w.heap.size w (w.alloc (.cells #[.int .i64 52, .int .i64 11] 32))) := (Below.refl _ _).alloc (Nat.le_refl _) _
  go_enter Tryz.func58, Tryz.ntmps58
  go_wp2
  go_region
  go_wp2_with fail
  refine (bias64 _).mono ?_
  rintro e w1 ⟨rfl, hb1⟩
  have HB1 := hide (HB0.out.drew.trans (hb1.mono HB0.out.drew.size))
  clear hb1
  go_wp2
  refine bodyPost_ret (results_tmp4 rfl _ _ _) rfl ?_
  exact ⟨rfl, HB1.out⟩

set_option maxHeartbeats 2000000 in
theorem parts64_sub1 (b x m : Nat) (w : World) (_hxl : x ≤ 2047) (mx : bits .and .u64 ((b : Int) / 4503599627370496) 2047 = (x : Int)) (mm : bits .and .u64 (b : Int) 4503599627370495 = (m : Int)) (ms : bits .and .u64 ((b : Int) / 9223372036854775808) 1 = 1) (hx : (x : Int) = 0) :
    Calls Tryz.prog 58 #[k64, .int .u64 (b : Int)] w fun e w' => e = .returned (.tuple #[.bool true, .int .i64 0, .int .u64 (m : Int), .int .i64 (-1074)]) ∧ Below w.heap.size w w' := by
  have blk := hide (Blk.new w #[.int .i64 52, .int .i64 11] 32)
  have HB0 : Hid (Below w.heap.size w (w.alloc (.cells #[.int .i64 52, .int .i64 11] 32))) := (Below.refl _ _).alloc (Nat.le_refl _) _
  go_enter Tryz.func58, Tryz.ntmps58
  go_wp2
  go_region
  go_wp2_with fail
  refine (bias64 _).mono ?_
  rintro e w1 ⟨rfl, hb1⟩
  have HB1 := hide (HB0.out.drew.trans (hb1.mono HB0.out.drew.size))
  clear hb1
  go_wp2
  refine bodyPost_ret (results_tmp4 rfl _ _ _) rfl ?_
  exact ⟨rfl, HB1.out⟩

set_option maxHeartbeats 2000000 in
theorem parts64_norm0 (b x m : Nat) (w : World) (_hxl : x ≤ 2047) (mx : bits .and .u64 ((b : Int) / 4503599627370496) 2047 = (x : Int)) (mm : bits .and .u64 (b : Int) 4503599627370495 = (m : Int)) (ms : bits .and .u64 ((b : Int) / 9223372036854775808) 1 = 0) (hx : ¬ (x : Int) = 2047) (hx0 : ¬ (x : Int) = 0) (hm : m < 4503599627370496) :
    Calls Tryz.prog 58 #[k64, .int .u64 (b : Int)] w fun e w' => e = .returned (.tuple #[.bool false, .int .i64 0, .int .u64 ((4503599627370496 + m : Nat) : Int), .int .i64 ((x : Int) - 1 - 1074)]) ∧ Below w.heap.size w w' := by
  have W1 : Hid (IntKind.i64.wrap (IntKind.i64.wrap ((x : Int) - 1) - 1074) = (x : Int) - 1 - 1074) := by
    show IntKind.i64.wrap (IntKind.i64.wrap ((x : Int) - 1) - 1074) = (x : Int) - 1 - 1074
    rw [IntKind.wrap_i64, IntKind.wrap_i64]; omega
  have OR : Hid (bits .or .u64 (m : Int) (IntKind.u64.wrap 4503599627370496) = ((4503599627370496 + m : Nat) : Int)) := by
    show bits .or .u64 (m : Int) (IntKind.u64.wrap 4503599627370496) = ((4503599627370496 + m : Nat) : Int)
    rw [show IntKind.u64.wrap 4503599627370496 = 4503599627370496 by decide]
    have h := or_low (y := m) (a := 1) (s := 52) (by rw [show (2 : Nat) ^ 52 = 4503599627370496 by decide]; exact hm)
    have h2 := bits_or_u64_nat m 4503599627370496 (by omega) (by omega)
    rw [show (1 * 2 ^ 52 : Nat) = 4503599627370496 by decide] at h
    rw [h] at h2
    exact h2.trans (by congr 1; omega)
  clear hm
  have blk := hide (Blk.new w #[.int .i64 52, .int .i64 11] 32)
  have HB0 : Hid (Below w.heap.size w (w.alloc (.cells #[.int .i64 52, .int .i64 11] 32))) := (Below.refl _ _).alloc (Nat.le_refl _) _
  go_enter Tryz.func58, Tryz.ntmps58
  go_wp2
  go_region
  go_wp2_with fail
  obtain ⟨W, hW⟩ : ∃ W, W = (w.alloc (.cells #[.int .i64 52, .int .i64 11] 32)).drew := ⟨_, rfl⟩
  have BL : Hid (Blk W w.heap.size #[.int .i64 52, .int .i64 11] 32) := by rw [hW]; exact blk.out
  have HBW : Hid (Below w.heap.size w W) := by rw [hW]; exact HB0.out.drew
  rw [← hW]
  clear hW blk HB0
  have c0 : W.cell? ⟨w.heap.size, 0, none⟩ = some (.int .i64 52) := BL.out.cell 0
  have c1 : W.cell? ⟨w.heap.size, 1, none⟩ = some (.int .i64 11) := BL.out.cell 1
  have b0 : Hid (Below W.heap.size W W.drew) := bdrew' W
  have H : Hid (Calls Tryz.prog 38 #[.agg #[.int .i64 52, .int .i64 11]] W.drew fun e w' => e = .returned (.int .i64 1074) ∧ Hid (Below w.heap.size w w') ∧ w'.cell? ⟨w.heap.size, 0, none⟩ = some (.int .i64 52) ∧ w'.cell? ⟨w.heap.size, 1, none⟩ = some (.int .i64 11)) := by
    refine (bias64 W.drew).mono ?_
    rintro e w' ⟨rfl, hb⟩
    have hbb := b0.out.trans (hb.mono b0.out.size)
    have q := BL.out.below hbb BL.out.lt
    exact ⟨rfl, HBW.out.trans (hbb.mono HBW.out.size), q.cell 0, q.cell 1⟩
  have mk0 : True := trivial
  go_region_held3 (fun w' => w'.cell? ⟨w.heap.size, 0, none⟩ = some (.int .i64 52) ∧ w'.cell? ⟨w.heap.size, 1, none⟩ = some (.int .i64 11)) (go_keep) (first
    | (clear mk0; go_at_call 38; refine H.out.mono ?_; rintro e w2 ⟨rfl, b2, k0, k1⟩; have mk1 : True := trivial))
  all_goals (
    go_wp2
    refine bodyPost_ret (results_tmp4 rfl _ _ _) rfl ?_
    refine ⟨?_, b2.out⟩
    show Ending.returned (.tuple #[.bool false, .int .i64 0, .int .u64 (bits .or .u64 (m : Int) (IntKind.u64.wrap 4503599627370496)), .int .i64 (IntKind.i64.wrap (IntKind.i64.wrap ((x : Int) - 1) - 1074))]) = _
    rw [W1.out, OR.out])

set_option maxHeartbeats 2000000 in
theorem parts64_norm1 (b x m : Nat) (w : World) (_hxl : x ≤ 2047) (mx : bits .and .u64 ((b : Int) / 4503599627370496) 2047 = (x : Int)) (mm : bits .and .u64 (b : Int) 4503599627370495 = (m : Int)) (ms : bits .and .u64 ((b : Int) / 9223372036854775808) 1 = 1) (hx : ¬ (x : Int) = 2047) (hx0 : ¬ (x : Int) = 0) (hm : m < 4503599627370496) :
    Calls Tryz.prog 58 #[k64, .int .u64 (b : Int)] w fun e w' => e = .returned (.tuple #[.bool true, .int .i64 0, .int .u64 ((4503599627370496 + m : Nat) : Int), .int .i64 ((x : Int) - 1 - 1074)]) ∧ Below w.heap.size w w' := by
  have W1 : Hid (IntKind.i64.wrap (IntKind.i64.wrap ((x : Int) - 1) - 1074) = (x : Int) - 1 - 1074) := by
    show IntKind.i64.wrap (IntKind.i64.wrap ((x : Int) - 1) - 1074) = (x : Int) - 1 - 1074
    rw [IntKind.wrap_i64, IntKind.wrap_i64]; omega
  have OR : Hid (bits .or .u64 (m : Int) (IntKind.u64.wrap 4503599627370496) = ((4503599627370496 + m : Nat) : Int)) := by
    show bits .or .u64 (m : Int) (IntKind.u64.wrap 4503599627370496) = ((4503599627370496 + m : Nat) : Int)
    rw [show IntKind.u64.wrap 4503599627370496 = 4503599627370496 by decide]
    have h := or_low (y := m) (a := 1) (s := 52) (by rw [show (2 : Nat) ^ 52 = 4503599627370496 by decide]; exact hm)
    have h2 := bits_or_u64_nat m 4503599627370496 (by omega) (by omega)
    rw [show (1 * 2 ^ 52 : Nat) = 4503599627370496 by decide] at h
    rw [h] at h2
    exact h2.trans (by congr 1; omega)
  clear hm
  have blk := hide (Blk.new w #[.int .i64 52, .int .i64 11] 32)
  have HB0 : Hid (Below w.heap.size w (w.alloc (.cells #[.int .i64 52, .int .i64 11] 32))) := (Below.refl _ _).alloc (Nat.le_refl _) _
  go_enter Tryz.func58, Tryz.ntmps58
  go_wp2
  go_region
  go_wp2_with fail
  obtain ⟨W, hW⟩ : ∃ W, W = (w.alloc (.cells #[.int .i64 52, .int .i64 11] 32)).drew := ⟨_, rfl⟩
  have BL : Hid (Blk W w.heap.size #[.int .i64 52, .int .i64 11] 32) := by rw [hW]; exact blk.out
  have HBW : Hid (Below w.heap.size w W) := by rw [hW]; exact HB0.out.drew
  rw [← hW]
  clear hW blk HB0
  have c0 : W.cell? ⟨w.heap.size, 0, none⟩ = some (.int .i64 52) := BL.out.cell 0
  have c1 : W.cell? ⟨w.heap.size, 1, none⟩ = some (.int .i64 11) := BL.out.cell 1
  have b0 : Hid (Below W.heap.size W W.drew) := bdrew' W
  have H : Hid (Calls Tryz.prog 38 #[.agg #[.int .i64 52, .int .i64 11]] W.drew fun e w' => e = .returned (.int .i64 1074) ∧ Hid (Below w.heap.size w w') ∧ w'.cell? ⟨w.heap.size, 0, none⟩ = some (.int .i64 52) ∧ w'.cell? ⟨w.heap.size, 1, none⟩ = some (.int .i64 11)) := by
    refine (bias64 W.drew).mono ?_
    rintro e w' ⟨rfl, hb⟩
    have hbb := b0.out.trans (hb.mono b0.out.size)
    have q := BL.out.below hbb BL.out.lt
    exact ⟨rfl, HBW.out.trans (hbb.mono HBW.out.size), q.cell 0, q.cell 1⟩
  have mk0 : True := trivial
  go_region_held3 (fun w' => w'.cell? ⟨w.heap.size, 0, none⟩ = some (.int .i64 52) ∧ w'.cell? ⟨w.heap.size, 1, none⟩ = some (.int .i64 11)) (go_keep) (first
    | (clear mk0; go_at_call 38; refine H.out.mono ?_; rintro e w2 ⟨rfl, b2, k0, k1⟩; have mk1 : True := trivial))
  all_goals (
    go_wp2
    refine bodyPost_ret (results_tmp4 rfl _ _ _) rfl ?_
    refine ⟨?_, b2.out⟩
    show Ending.returned (.tuple #[.bool true, .int .i64 0, .int .u64 (bits .or .u64 (m : Int) (IntKind.u64.wrap 4503599627370496)), .int .i64 (IntKind.i64.wrap (IntKind.i64.wrap ((x : Int) - 1) - 1074))]) = _
    rw [W1.out, OR.out])

set_option maxHeartbeats 2000000 in
theorem parts32_inf0 (b x m : Nat) (w : World) (_hxl : x ≤ 255) (mx : bits .and .u64 ((b : Int) / 8388608) 255 = (x : Int)) (mm : bits .and .u64 (b : Int) 8388607 = (m : Int)) (ms : bits .and .u64 ((b : Int) / 2147483648) 1 = 0) (hx : (x : Int) = 255) (hm : (m : Int) = 0) :
    Calls Tryz.prog 58 #[k32, .int .u64 (b : Int)] w fun e w' => e = .returned (.tuple #[.bool false, .int .i64 1, .int .u64 0, .int .i64 0]) ∧ Below w.heap.size w w' := by
  have blk := hide (Blk.new w #[.int .i64 23, .int .i64 8] 32)
  have HB0 : Hid (Below w.heap.size w (w.alloc (.cells #[.int .i64 23, .int .i64 8] 32))) := (Below.refl _ _).alloc (Nat.le_refl _) _
  go_enter Tryz.func58, Tryz.ntmps58
  go_wp2
  go_region
  go_wp2
  refine bodyPost_ret (results_tmp4 rfl _ _ _) rfl ?_
  exact ⟨rfl, HB0.out.drew⟩

set_option maxHeartbeats 2000000 in
theorem parts32_inf1 (b x m : Nat) (w : World) (_hxl : x ≤ 255) (mx : bits .and .u64 ((b : Int) / 8388608) 255 = (x : Int)) (mm : bits .and .u64 (b : Int) 8388607 = (m : Int)) (ms : bits .and .u64 ((b : Int) / 2147483648) 1 = 1) (hx : (x : Int) = 255) (hm : (m : Int) = 0) :
    Calls Tryz.prog 58 #[k32, .int .u64 (b : Int)] w fun e w' => e = .returned (.tuple #[.bool true, .int .i64 1, .int .u64 0, .int .i64 0]) ∧ Below w.heap.size w w' := by
  have blk := hide (Blk.new w #[.int .i64 23, .int .i64 8] 32)
  have HB0 : Hid (Below w.heap.size w (w.alloc (.cells #[.int .i64 23, .int .i64 8] 32))) := (Below.refl _ _).alloc (Nat.le_refl _) _
  go_enter Tryz.func58, Tryz.ntmps58
  go_wp2
  go_region
  go_wp2
  refine bodyPost_ret (results_tmp4 rfl _ _ _) rfl ?_
  exact ⟨rfl, HB0.out.drew⟩

set_option maxHeartbeats 2000000 in
theorem parts32_nan0 (b x m : Nat) (w : World) (_hxl : x ≤ 255) (mx : bits .and .u64 ((b : Int) / 8388608) 255 = (x : Int)) (mm : bits .and .u64 (b : Int) 8388607 = (m : Int)) (ms : bits .and .u64 ((b : Int) / 2147483648) 1 = 0) (hx : (x : Int) = 255) (hm : ¬ (m : Int) = 0) :
    Calls Tryz.prog 58 #[k32, .int .u64 (b : Int)] w fun e w' => e = .returned (.tuple #[.bool false, .int .i64 2, .int .u64 0, .int .i64 0]) ∧ Below w.heap.size w w' := by
  have blk := hide (Blk.new w #[.int .i64 23, .int .i64 8] 32)
  have HB0 : Hid (Below w.heap.size w (w.alloc (.cells #[.int .i64 23, .int .i64 8] 32))) := (Below.refl _ _).alloc (Nat.le_refl _) _
  go_enter Tryz.func58, Tryz.ntmps58
  go_wp2
  go_region
  go_wp2
  refine bodyPost_ret (results_tmp4 rfl _ _ _) rfl ?_
  exact ⟨rfl, HB0.out.drew⟩

set_option maxHeartbeats 2000000 in
theorem parts32_nan1 (b x m : Nat) (w : World) (_hxl : x ≤ 255) (mx : bits .and .u64 ((b : Int) / 8388608) 255 = (x : Int)) (mm : bits .and .u64 (b : Int) 8388607 = (m : Int)) (ms : bits .and .u64 ((b : Int) / 2147483648) 1 = 1) (hx : (x : Int) = 255) (hm : ¬ (m : Int) = 0) :
    Calls Tryz.prog 58 #[k32, .int .u64 (b : Int)] w fun e w' => e = .returned (.tuple #[.bool false, .int .i64 2, .int .u64 0, .int .i64 0]) ∧ Below w.heap.size w w' := by
  have blk := hide (Blk.new w #[.int .i64 23, .int .i64 8] 32)
  have HB0 : Hid (Below w.heap.size w (w.alloc (.cells #[.int .i64 23, .int .i64 8] 32))) := (Below.refl _ _).alloc (Nat.le_refl _) _
  go_enter Tryz.func58, Tryz.ntmps58
  go_wp2
  go_region
  go_wp2
  refine bodyPost_ret (results_tmp4 rfl _ _ _) rfl ?_
  exact ⟨rfl, HB0.out.drew⟩

set_option maxHeartbeats 2000000 in
theorem parts32_sub0 (b x m : Nat) (w : World) (_hxl : x ≤ 255) (mx : bits .and .u64 ((b : Int) / 8388608) 255 = (x : Int)) (mm : bits .and .u64 (b : Int) 8388607 = (m : Int)) (ms : bits .and .u64 ((b : Int) / 2147483648) 1 = 0) (hx : (x : Int) = 0) :
    Calls Tryz.prog 58 #[k32, .int .u64 (b : Int)] w fun e w' => e = .returned (.tuple #[.bool false, .int .i64 0, .int .u64 (m : Int), .int .i64 (-149)]) ∧ Below w.heap.size w w' := by
  have blk := hide (Blk.new w #[.int .i64 23, .int .i64 8] 32)
  have HB0 : Hid (Below w.heap.size w (w.alloc (.cells #[.int .i64 23, .int .i64 8] 32))) := (Below.refl _ _).alloc (Nat.le_refl _) _
  go_enter Tryz.func58, Tryz.ntmps58
  go_wp2
  go_region
  go_wp2_with fail
  refine (bias32 _).mono ?_
  rintro e w1 ⟨rfl, hb1⟩
  have HB1 := hide (HB0.out.drew.trans (hb1.mono HB0.out.drew.size))
  clear hb1
  go_wp2
  refine bodyPost_ret (results_tmp4 rfl _ _ _) rfl ?_
  exact ⟨rfl, HB1.out⟩

set_option maxHeartbeats 2000000 in
theorem parts32_sub1 (b x m : Nat) (w : World) (_hxl : x ≤ 255) (mx : bits .and .u64 ((b : Int) / 8388608) 255 = (x : Int)) (mm : bits .and .u64 (b : Int) 8388607 = (m : Int)) (ms : bits .and .u64 ((b : Int) / 2147483648) 1 = 1) (hx : (x : Int) = 0) :
    Calls Tryz.prog 58 #[k32, .int .u64 (b : Int)] w fun e w' => e = .returned (.tuple #[.bool true, .int .i64 0, .int .u64 (m : Int), .int .i64 (-149)]) ∧ Below w.heap.size w w' := by
  have blk := hide (Blk.new w #[.int .i64 23, .int .i64 8] 32)
  have HB0 : Hid (Below w.heap.size w (w.alloc (.cells #[.int .i64 23, .int .i64 8] 32))) := (Below.refl _ _).alloc (Nat.le_refl _) _
  go_enter Tryz.func58, Tryz.ntmps58
  go_wp2
  go_region
  go_wp2_with fail
  refine (bias32 _).mono ?_
  rintro e w1 ⟨rfl, hb1⟩
  have HB1 := hide (HB0.out.drew.trans (hb1.mono HB0.out.drew.size))
  clear hb1
  go_wp2
  refine bodyPost_ret (results_tmp4 rfl _ _ _) rfl ?_
  exact ⟨rfl, HB1.out⟩

set_option maxHeartbeats 2000000 in
theorem parts32_norm0 (b x m : Nat) (w : World) (_hxl : x ≤ 255) (mx : bits .and .u64 ((b : Int) / 8388608) 255 = (x : Int)) (mm : bits .and .u64 (b : Int) 8388607 = (m : Int)) (ms : bits .and .u64 ((b : Int) / 2147483648) 1 = 0) (hx : ¬ (x : Int) = 255) (hx0 : ¬ (x : Int) = 0) (hm : m < 8388608) :
    Calls Tryz.prog 58 #[k32, .int .u64 (b : Int)] w fun e w' => e = .returned (.tuple #[.bool false, .int .i64 0, .int .u64 ((8388608 + m : Nat) : Int), .int .i64 ((x : Int) - 1 - 149)]) ∧ Below w.heap.size w w' := by
  have W1 : Hid (IntKind.i64.wrap (IntKind.i64.wrap ((x : Int) - 1) - 149) = (x : Int) - 1 - 149) := by
    show IntKind.i64.wrap (IntKind.i64.wrap ((x : Int) - 1) - 149) = (x : Int) - 1 - 149
    rw [IntKind.wrap_i64, IntKind.wrap_i64]; omega
  have OR : Hid (bits .or .u64 (m : Int) (IntKind.u64.wrap 8388608) = ((8388608 + m : Nat) : Int)) := by
    show bits .or .u64 (m : Int) (IntKind.u64.wrap 8388608) = ((8388608 + m : Nat) : Int)
    rw [show IntKind.u64.wrap 8388608 = 8388608 by decide]
    have h := or_low (y := m) (a := 1) (s := 23) (by rw [show (2 : Nat) ^ 23 = 8388608 by decide]; exact hm)
    have h2 := bits_or_u64_nat m 8388608 (by omega) (by omega)
    rw [show (1 * 2 ^ 23 : Nat) = 8388608 by decide] at h
    rw [h] at h2
    exact h2.trans (by congr 1; omega)
  clear hm
  have blk := hide (Blk.new w #[.int .i64 23, .int .i64 8] 32)
  have HB0 : Hid (Below w.heap.size w (w.alloc (.cells #[.int .i64 23, .int .i64 8] 32))) := (Below.refl _ _).alloc (Nat.le_refl _) _
  go_enter Tryz.func58, Tryz.ntmps58
  go_wp2
  go_region
  go_wp2_with fail
  obtain ⟨W, hW⟩ : ∃ W, W = (w.alloc (.cells #[.int .i64 23, .int .i64 8] 32)).drew := ⟨_, rfl⟩
  have BL : Hid (Blk W w.heap.size #[.int .i64 23, .int .i64 8] 32) := by rw [hW]; exact blk.out
  have HBW : Hid (Below w.heap.size w W) := by rw [hW]; exact HB0.out.drew
  rw [← hW]
  clear hW blk HB0
  have c0 : W.cell? ⟨w.heap.size, 0, none⟩ = some (.int .i64 23) := BL.out.cell 0
  have c1 : W.cell? ⟨w.heap.size, 1, none⟩ = some (.int .i64 8) := BL.out.cell 1
  have b0 : Hid (Below W.heap.size W W.drew) := bdrew' W
  have H : Hid (Calls Tryz.prog 38 #[.agg #[.int .i64 23, .int .i64 8]] W.drew fun e w' => e = .returned (.int .i64 149) ∧ Hid (Below w.heap.size w w') ∧ w'.cell? ⟨w.heap.size, 0, none⟩ = some (.int .i64 23) ∧ w'.cell? ⟨w.heap.size, 1, none⟩ = some (.int .i64 8)) := by
    refine (bias32 W.drew).mono ?_
    rintro e w' ⟨rfl, hb⟩
    have hbb := b0.out.trans (hb.mono b0.out.size)
    have q := BL.out.below hbb BL.out.lt
    exact ⟨rfl, HBW.out.trans (hbb.mono HBW.out.size), q.cell 0, q.cell 1⟩
  have mk0 : True := trivial
  go_region_held3 (fun w' => w'.cell? ⟨w.heap.size, 0, none⟩ = some (.int .i64 23) ∧ w'.cell? ⟨w.heap.size, 1, none⟩ = some (.int .i64 8)) (go_keep) (first
    | (clear mk0; go_at_call 38; refine H.out.mono ?_; rintro e w2 ⟨rfl, b2, k0, k1⟩; have mk1 : True := trivial))
  all_goals (
    go_wp2
    refine bodyPost_ret (results_tmp4 rfl _ _ _) rfl ?_
    refine ⟨?_, b2.out⟩
    show Ending.returned (.tuple #[.bool false, .int .i64 0, .int .u64 (bits .or .u64 (m : Int) (IntKind.u64.wrap 8388608)), .int .i64 (IntKind.i64.wrap (IntKind.i64.wrap ((x : Int) - 1) - 149))]) = _
    rw [W1.out, OR.out])

set_option maxHeartbeats 2000000 in
theorem parts32_norm1 (b x m : Nat) (w : World) (_hxl : x ≤ 255) (mx : bits .and .u64 ((b : Int) / 8388608) 255 = (x : Int)) (mm : bits .and .u64 (b : Int) 8388607 = (m : Int)) (ms : bits .and .u64 ((b : Int) / 2147483648) 1 = 1) (hx : ¬ (x : Int) = 255) (hx0 : ¬ (x : Int) = 0) (hm : m < 8388608) :
    Calls Tryz.prog 58 #[k32, .int .u64 (b : Int)] w fun e w' => e = .returned (.tuple #[.bool true, .int .i64 0, .int .u64 ((8388608 + m : Nat) : Int), .int .i64 ((x : Int) - 1 - 149)]) ∧ Below w.heap.size w w' := by
  have W1 : Hid (IntKind.i64.wrap (IntKind.i64.wrap ((x : Int) - 1) - 149) = (x : Int) - 1 - 149) := by
    show IntKind.i64.wrap (IntKind.i64.wrap ((x : Int) - 1) - 149) = (x : Int) - 1 - 149
    rw [IntKind.wrap_i64, IntKind.wrap_i64]; omega
  have OR : Hid (bits .or .u64 (m : Int) (IntKind.u64.wrap 8388608) = ((8388608 + m : Nat) : Int)) := by
    show bits .or .u64 (m : Int) (IntKind.u64.wrap 8388608) = ((8388608 + m : Nat) : Int)
    rw [show IntKind.u64.wrap 8388608 = 8388608 by decide]
    have h := or_low (y := m) (a := 1) (s := 23) (by rw [show (2 : Nat) ^ 23 = 8388608 by decide]; exact hm)
    have h2 := bits_or_u64_nat m 8388608 (by omega) (by omega)
    rw [show (1 * 2 ^ 23 : Nat) = 8388608 by decide] at h
    rw [h] at h2
    exact h2.trans (by congr 1; omega)
  clear hm
  have blk := hide (Blk.new w #[.int .i64 23, .int .i64 8] 32)
  have HB0 : Hid (Below w.heap.size w (w.alloc (.cells #[.int .i64 23, .int .i64 8] 32))) := (Below.refl _ _).alloc (Nat.le_refl _) _
  go_enter Tryz.func58, Tryz.ntmps58
  go_wp2
  go_region
  go_wp2_with fail
  obtain ⟨W, hW⟩ : ∃ W, W = (w.alloc (.cells #[.int .i64 23, .int .i64 8] 32)).drew := ⟨_, rfl⟩
  have BL : Hid (Blk W w.heap.size #[.int .i64 23, .int .i64 8] 32) := by rw [hW]; exact blk.out
  have HBW : Hid (Below w.heap.size w W) := by rw [hW]; exact HB0.out.drew
  rw [← hW]
  clear hW blk HB0
  have c0 : W.cell? ⟨w.heap.size, 0, none⟩ = some (.int .i64 23) := BL.out.cell 0
  have c1 : W.cell? ⟨w.heap.size, 1, none⟩ = some (.int .i64 8) := BL.out.cell 1
  have b0 : Hid (Below W.heap.size W W.drew) := bdrew' W
  have H : Hid (Calls Tryz.prog 38 #[.agg #[.int .i64 23, .int .i64 8]] W.drew fun e w' => e = .returned (.int .i64 149) ∧ Hid (Below w.heap.size w w') ∧ w'.cell? ⟨w.heap.size, 0, none⟩ = some (.int .i64 23) ∧ w'.cell? ⟨w.heap.size, 1, none⟩ = some (.int .i64 8)) := by
    refine (bias32 W.drew).mono ?_
    rintro e w' ⟨rfl, hb⟩
    have hbb := b0.out.trans (hb.mono b0.out.size)
    have q := BL.out.below hbb BL.out.lt
    exact ⟨rfl, HBW.out.trans (hbb.mono HBW.out.size), q.cell 0, q.cell 1⟩
  have mk0 : True := trivial
  go_region_held3 (fun w' => w'.cell? ⟨w.heap.size, 0, none⟩ = some (.int .i64 23) ∧ w'.cell? ⟨w.heap.size, 1, none⟩ = some (.int .i64 8)) (go_keep) (first
    | (clear mk0; go_at_call 38; refine H.out.mono ?_; rintro e w2 ⟨rfl, b2, k0, k1⟩; have mk1 : True := trivial))
  all_goals (
    go_wp2
    refine bodyPost_ret (results_tmp4 rfl _ _ _) rfl ?_
    refine ⟨?_, b2.out⟩
    show Ending.returned (.tuple #[.bool true, .int .i64 0, .int .u64 (bits .or .u64 (m : Int) (IntKind.u64.wrap 8388608)), .int .i64 (IntKind.i64.wrap (IntKind.i64.wrap ((x : Int) - 1) - 149))]) = _
    rw [W1.out, OR.out])

end Go.Proofs.YtlhekeifffofjaaGreatDoor

namespace Go.Proofs.YtlhekeifffofjaaGreatDoor
open Go.RowKit

/-- The fields of a float of 64 bits. -/
theorem fields64 (b : Nat) (hb : b < 18446744073709551616) : ∃ x m : Nat, x = b / 2 ^ 52 % 2 ^ 11 ∧ m = b % 2 ^ 52 ∧ x ≤ 2047 ∧ m < 4503599627370496 ∧ bits .and .u64 ((b : Int) / 4503599627370496) 2047 = (x : Int) ∧ bits .and .u64 (b : Int) 4503599627370495 = (m : Int) ∧
    ((b / 2 ^ 52 / 2 ^ 11 ≠ 0 ∧ bits .and .u64 ((b : Int) / 9223372036854775808) 1 = 1) ∨ (b / 2 ^ 52 / 2 ^ 11 = 0 ∧ bits .and .u64 ((b : Int) / 9223372036854775808) 1 = 0)) := by
  have e1 : (2 : Nat) ^ 52 = 4503599627370496 := by decide
  have e2 : (2 : Nat) ^ 11 = 2048 := by decide
  refine ⟨_, _, rfl, rfl, ?_, ?_, ?_, ?_, ?_⟩
  · rw [e2]; omega
  · rw [e1]; omega
  · have h := mask 11 2047 (b / 4503599627370496) (by decide) (by omega) (by omega)
    rw [e1, e2, show (b : Int) / 4503599627370496 = ((b / 4503599627370496 : Nat) : Int) by omega]
    exact h
  · have h := mask 52 4503599627370495 b (by decide) (by omega) (by omega)
    rw [e1]
    exact h
  · have h := mask 1 1 (b / 9223372036854775808) (by decide) (by omega) (by omega)
    rw [show (b : Int) / 9223372036854775808 = ((b / 9223372036854775808 : Nat) : Int) by omega, e1, e2]
    rcases Nat.lt_or_ge b 9223372036854775808 with h1 | h1
    · right
      refine ⟨by omega, h.trans ?_⟩
      rw [Nat.div_eq_of_lt h1]; rfl
    · left
      refine ⟨by omega, h.trans ?_⟩
      rw [show b / 9223372036854775808 = 1 by omega]; rfl

/-- Exact, where Parts answers a class that is not finite. -/
theorem rexact64_no (b : Nat) (w : World) (c : Int) (neg : Bool) (hc : ¬ c = 0)
    (PT : ∀ W, Calls Tryz.prog 58 #[k64, .int .u64 (b : Int)] W fun e w' => e = .returned (.tuple #[.bool neg, .int .i64 c, .int .u64 0, .int .i64 0]) ∧ Below W.heap.size W w') :
    Calls Tryz.prog 42 #[k64, .int .u64 (b : Int)] w fun e w' => e = .returned (.agg #[.int .i64 c, .bool neg, .string ⟨#[]⟩, .int .i64 0]) ∧ Below w.heap.size w w' := by
  have PTH := hide PT
  have HB0 : Hid (Below w.heap.size w ((w.alloc (.cells #[.int .i64 52, .int .i64 11] 32)).alloc (.cells #[.int .i64 0, .bool false, .string ⟨#[]⟩, .int .i64 0] 23))) := ((Below.refl _ _).alloc (Nat.le_refl _) _).alloc (by simp) _
  have BLK := hide (Blk.newAt (w.alloc (.cells #[.int .i64 52, .int .i64 11] 32)) (w.heap.size + 1) (by simp) #[.int .i64 0, .bool false, .string ⟨#[]⟩, .int .i64 0] 23)
  clear PT
  go_enter Tryz.func42, Tryz.ntmps42
  go_wp2_with fail
  refine (PTH.out _).mono ?_
  rintro e w1 ⟨rfl, hb1⟩
  have B1 := BLK.out.below hb1 BLK.out.lt
  have HB1 := hide (HB0.out.trans (hb1.mono (by simp; omega)))
  have k0 : w1.cell? ⟨w.heap.size + 1, 0, none⟩ = some (.int .i64 0) := B1.cell 0
  have k1 : w1.cell? ⟨w.heap.size + 1, 1, none⟩ = some (.bool false) := B1.cell 1
  have k2 : w1.cell? ⟨w.heap.size + 1, 2, none⟩ = some (.string ⟨#[]⟩) := B1.cell 2
  have k3 : w1.cell? ⟨w.heap.size + 1, 3, none⟩ = some (.int .i64 0) := B1.cell 3
  have f0 := B1.free 0
  have f1 := B1.free 1
  have f2 := B1.free 2
  have f3 := B1.free 3
  have BL1 := hide B1
  clear B1 hb1 HB0 BLK PTH
  go_wp2
  refine bodyPost_ret (results_dec rfl _ _ _ _ _ _ _ rfl (BL1.out.put4 _ _ _ _)) rfl ?_
  exact ⟨rfl, below_put4 HB1.out (by omega) _ _ _ _⟩

set_option maxHeartbeats 1000000 in
theorem rexact64_fin (b : Nat) (w : World) (neg : Bool) (M : Nat) (ex : Int) (hM : M < B64) (hsm : Sm M) (hs2 : Sm (M * p2N ex)) (hsz : sizeN (M * p2N ex) ≤ 5000) (h1 : -1074 ≤ ex) (h2 : ex ≤ 971)
    (PT : ∀ W, Calls Tryz.prog 58 #[k64, .int .u64 (b : Int)] W fun e w' => e = .returned (.tuple #[.bool neg, .int .i64 0, .int .u64 (M : Int), .int .i64 ex]) ∧ Below W.heap.size W w') :
    Calls Tryz.prog 42 #[k64, .int .u64 (b : Int)] w fun e w' => e = .returned (decVal (decZ neg (M * p2N ex) (p2E ex))) ∧ Below w.heap.size w w' := by
  have PTH := hide PT
  have HB0 : Hid (Below w.heap.size w ((w.alloc (.cells #[.int .i64 52, .int .i64 11] 32)).alloc (.cells #[.int .i64 0, .bool false, .string ⟨#[]⟩, .int .i64 0] 23))) := ((Below.refl _ _).alloc (Nat.le_refl _) _).alloc (by simp) _
  have BLK := hide (Blk.newAt (w.alloc (.cells #[.int .i64 52, .int .i64 11] 32)) (w.heap.size + 1) (by simp) #[.int .i64 0, .bool false, .string ⟨#[]⟩, .int .i64 0] 23)
  obtain ⟨d, hd⟩ : ∃ d, d = decZ neg (M * p2N ex) (p2E ex) := ⟨_, rfl⟩
  have hE : -5000 ≤ p2E ex ∧ p2E ex ≤ 5000 := by unfold p2E; split <;> omega
  have RD := fun oa la ca W (h : Nr W (.slice oa la ca) (M * p2N ex)) => rdec_any neg oa la ca (M * p2N ex) (p2E ex) W h hsz hs2 hE.1 hE.2
  rw [← hd] at RD ⊢
  have RDH := hide RD
  have AMH := hide (fun oa la ca W (h : Nr W (.slice oa la ca) M) => amount_call oa la ca M ex W h hsm (by omega) (by omega))
  have LM := hide (fun W => limb_call M W hM)
  clear PT RD hd hE hsz hs2 hsm hM
  go_enter Tryz.func42, Tryz.ntmps42
  go_wp2_with fail
  refine (PTH.out _).mono ?_
  rintro e w1 ⟨rfl, hb1⟩
  have BLK1 := hide (BLK.out.below hb1 BLK.out.lt)
  have HB1 := hide (HB0.out.trans (hb1.mono (by simp; omega)))
  clear hb1 HB0 BLK PTH
  go_wp2_with fail
  refine (LM.out _).mono ?_
  rintro e w2 ⟨o2, c2, l2, rfl, n2, hb2⟩
  have AM2 := hide (AMH.out o2 l2 c2 w2 n2)
  have HB2 := hide (HB1.out.trans (hb2.mono HB1.out.size))
  have BLK2 := hide (BLK1.out.below hb2 BLK1.out.lt)
  clear n2 hb2 HB1 BLK1 LM AMH
  go_wp2_with fail
  refine AM2.out.mono ?_
  rintro e w3 ⟨o3, c3, l3, rfl, n3, hb3⟩
  have RD3 := hide (RDH.out o3 l3 c3 w3 n3)
  have HB3 := hide (HB2.out.trans (hb3.mono HB2.out.size))
  have BLK3 := hide (BLK2.out.below hb3 BLK2.out.lt)
  clear n3 hb3 HB2 BLK2 AM2 RDH
  go_wp2_with fail
  refine RD3.out.mono ?_
  rintro e w1 ⟨rfl, hb1⟩
  have B1 := BLK3.out.below hb1 BLK3.out.lt
  have HB1 := hide (HB3.out.trans (hb1.mono HB3.out.size))
  have k0 : w1.cell? ⟨w.heap.size + 1, 0, none⟩ = some (.int .i64 0) := B1.cell 0
  have k1 : w1.cell? ⟨w.heap.size + 1, 1, none⟩ = some (.bool false) := B1.cell 1
  have k2 : w1.cell? ⟨w.heap.size + 1, 2, none⟩ = some (.string ⟨#[]⟩) := B1.cell 2
  have k3 : w1.cell? ⟨w.heap.size + 1, 3, none⟩ = some (.int .i64 0) := B1.cell 3
  have f0 := B1.free 0
  have f1 := B1.free 1
  have f2 := B1.free 2
  have f3 := B1.free 3
  have BL1 := hide B1
  have FIN : Hid (decVal d = .agg #[.int .i64 (d.cls : Int), .bool d.neg, .string ⟨d.dig.toArray⟩, .int .i64 d.exp]) := rfl
  rw [FIN.out]
  clear B1 hb1 HB3 BLK3 RD3
  go_wp2
  refine bodyPost_ret (results_dec rfl _ _ _ _ _ _ _ rfl (BL1.out.put4 _ _ _ _)) rfl ?_
  exact ⟨rfl, below_put4 HB1.out (by omega) _ _ _ _⟩

theorem rexact64_any (b : Nat) (w : World) (hb : b < 18446744073709551616) : Calls Tryz.prog 42 #[k64, .int .u64 (b : Int)] w fun e w' => e = .returned (decVal (ex64D b)) ∧ Below w.heap.size w w' := by
  obtain ⟨x, m, hx, hm, hxl, hml, mx, mm, ms⟩ := fields64 b hb
  have D : ex64D b = (if x = 2047 then if m = 0 then ⟨1, decide (b / 2 ^ 52 / 2 ^ 11 ≠ 0), [], 0⟩ else ⟨2, false, [], 0⟩ else if x = 0 ∧ m = 0 then ⟨0, decide (b / 2 ^ 52 / 2 ^ 11 ≠ 0), [], 0⟩ else decA (decide (b / 2 ^ 52 / 2 ^ 11 ≠ 0)) (allD 52 1074 x m).1 (allD 52 1074 x m).2) := by
    rw [hx, hm]; rfl
  rw [D]
  have e1 : (2 : Nat) ^ 52 = 4503599627370496 := by decide
  by_cases hx1 : x = 2047
  · rw [if_pos hx1]
    by_cases hm0 : m = 0
    · rw [if_pos hm0]
      rcases ms with ⟨h1, h2⟩ | ⟨h1, h2⟩
      · rw [decide_eq_true h1]
        exact rexact64_no b w 1 true (by omega) (fun W => parts64_inf1 b x m W hxl mx mm h2 (by omega) (by omega))
      · rw [decide_eq_false (by omega)]
        exact rexact64_no b w 1 false (by omega) (fun W => parts64_inf0 b x m W hxl mx mm h2 (by omega) (by omega))
    · rw [if_neg hm0]
      rcases ms with ⟨h1, h2⟩ | ⟨h1, h2⟩
      · exact rexact64_no b w 2 false (by omega) (fun W => parts64_nan1 b x m W hxl mx mm h2 (by omega) (by omega))
      · exact rexact64_no b w 2 false (by omega) (fun W => parts64_nan0 b x m W hxl mx mm h2 (by omega) (by omega))
  · rw [if_neg hx1]
    have p1 : -1074 ≤ fPow 1074 x := by unfold fPow; split <;> omega
    have p2 : fPow 1074 x ≤ 971 := by unfold fPow; split <;> omega
    have hn : fNum 52 x m < 10 ^ 17 := by have := fNum_lt17 (F := 52) (x := x) (m := m) (by omega) (by rw [e1]; exact hml); omega
    obtain ⟨j, hj⟩ : ∃ j : Nat, j = 1081 := ⟨_, rfl⟩
    have hA : fNum 52 x m * p2N (fPow 1074 x) < 10 ^ (17 + j) := mul_lt10 hn (p2N_lt (by omega) (by omega))
    have hz : sizeN (fNum 52 x m * p2N (fPow 1074 x)) ≤ 5000 := size_bound hA (by omega) (by omega)
    have hs2 := Sm.of hA (by omega)
    have key : ∀ neg : Bool, (if x = 0 ∧ m = 0 then ⟨0, neg, [], 0⟩ else decA neg (allD 52 1074 x m).1 (allD 52 1074 x m).2) = decZ neg (fNum 52 x m * p2N (fPow 1074 x)) (p2E (fPow 1074 x)) := by
      intro neg
      unfold decZ
      have hp := p2N_pos (fPow 1074 x)
      by_cases h0 : x = 0 ∧ m = 0
      · rw [if_pos h0, if_pos (by unfold fNum; rw [if_pos h0.1, h0.2, Nat.zero_mul])]
      · have hf : fNum 52 x m ≠ 0 := by unfold fNum; split <;> omega
        rw [if_neg h0, if_neg (Nat.mul_ne_zero hf (by omega))]; rfl
    rw [key]
    have M1 := (small17 hn).1
    have M2 := (small17 hn).2
    have PT : ∀ (neg : Bool), (neg = decide (b / 2 ^ 52 / 2 ^ 11 ≠ 0)) → ∀ W, Calls Tryz.prog 58 #[k64, .int .u64 (b : Int)] W fun e w' => e = .returned (.tuple #[.bool neg, .int .i64 0, .int .u64 ((fNum 52 x m : Nat) : Int), .int .i64 (fPow 1074 x)]) ∧ Below W.heap.size W w' := by
      intro neg hneg W
      unfold fNum fPow
      by_cases hx0 : x = 0
      · rw [if_pos hx0, if_pos hx0]
        rcases ms with ⟨h1, h2⟩ | ⟨h1, h2⟩
        · rw [hneg, decide_eq_true h1]; exact parts64_sub1 b x m W hxl mx mm h2 (by omega)
        · rw [hneg, decide_eq_false (by omega)]; exact parts64_sub0 b x m W hxl mx mm h2 (by omega)
      · rw [if_neg hx0, if_neg hx0, e1]
        rcases ms with ⟨h1, h2⟩ | ⟨h1, h2⟩
        · rw [hneg, decide_eq_true h1]; exact parts64_norm1 b x m W hxl mx mm h2 (by omega) (by omega) hml
        · rw [hneg, decide_eq_false (by omega)]; exact parts64_norm0 b x m W hxl mx mm h2 (by omega) (by omega) hml
    exact rexact64_fin b w _ _ _ M1 M2 hs2 hz p1 p2 (PT _ rfl)

/-- The fields of a float of 32 bits. -/
theorem fields32 (b : Nat) (hb : b < 4294967296) : ∃ x m : Nat, x = b / 2 ^ 23 % 2 ^ 8 ∧ m = b % 2 ^ 23 ∧ x ≤ 255 ∧ m < 8388608 ∧ bits .and .u64 ((b : Int) / 8388608) 255 = (x : Int) ∧ bits .and .u64 (b : Int) 8388607 = (m : Int) ∧
    ((b / 2 ^ 23 / 2 ^ 8 ≠ 0 ∧ bits .and .u64 ((b : Int) / 2147483648) 1 = 1) ∨ (b / 2 ^ 23 / 2 ^ 8 = 0 ∧ bits .and .u64 ((b : Int) / 2147483648) 1 = 0)) := by
  have e1 : (2 : Nat) ^ 23 = 8388608 := by decide
  have e2 : (2 : Nat) ^ 8 = 256 := by decide
  refine ⟨_, _, rfl, rfl, ?_, ?_, ?_, ?_, ?_⟩
  · rw [e2]; omega
  · rw [e1]; omega
  · have h := mask 8 255 (b / 8388608) (by decide) (by omega) (by omega)
    rw [e1, e2, show (b : Int) / 8388608 = ((b / 8388608 : Nat) : Int) by omega]
    exact h
  · have h := mask 23 8388607 b (by decide) (by omega) (by omega)
    rw [e1]
    exact h
  · have h := mask 1 1 (b / 2147483648) (by decide) (by omega) (by omega)
    rw [show (b : Int) / 2147483648 = ((b / 2147483648 : Nat) : Int) by omega, e1, e2]
    rcases Nat.lt_or_ge b 2147483648 with h1 | h1
    · right
      refine ⟨by omega, h.trans ?_⟩
      rw [Nat.div_eq_of_lt h1]; rfl
    · left
      refine ⟨by omega, h.trans ?_⟩
      rw [show b / 2147483648 = 1 by omega]; rfl

/-- Exact, where Parts answers a class that is not finite. -/
theorem rexact32_no (b : Nat) (w : World) (c : Int) (neg : Bool) (hc : ¬ c = 0)
    (PT : ∀ W, Calls Tryz.prog 58 #[k32, .int .u64 (b : Int)] W fun e w' => e = .returned (.tuple #[.bool neg, .int .i64 c, .int .u64 0, .int .i64 0]) ∧ Below W.heap.size W w') :
    Calls Tryz.prog 42 #[k32, .int .u64 (b : Int)] w fun e w' => e = .returned (.agg #[.int .i64 c, .bool neg, .string ⟨#[]⟩, .int .i64 0]) ∧ Below w.heap.size w w' := by
  have PTH := hide PT
  have HB0 : Hid (Below w.heap.size w ((w.alloc (.cells #[.int .i64 23, .int .i64 8] 32)).alloc (.cells #[.int .i64 0, .bool false, .string ⟨#[]⟩, .int .i64 0] 23))) := ((Below.refl _ _).alloc (Nat.le_refl _) _).alloc (by simp) _
  have BLK := hide (Blk.newAt (w.alloc (.cells #[.int .i64 23, .int .i64 8] 32)) (w.heap.size + 1) (by simp) #[.int .i64 0, .bool false, .string ⟨#[]⟩, .int .i64 0] 23)
  clear PT
  go_enter Tryz.func42, Tryz.ntmps42
  go_wp2_with fail
  refine (PTH.out _).mono ?_
  rintro e w1 ⟨rfl, hb1⟩
  have B1 := BLK.out.below hb1 BLK.out.lt
  have HB1 := hide (HB0.out.trans (hb1.mono (by simp; omega)))
  have k0 : w1.cell? ⟨w.heap.size + 1, 0, none⟩ = some (.int .i64 0) := B1.cell 0
  have k1 : w1.cell? ⟨w.heap.size + 1, 1, none⟩ = some (.bool false) := B1.cell 1
  have k2 : w1.cell? ⟨w.heap.size + 1, 2, none⟩ = some (.string ⟨#[]⟩) := B1.cell 2
  have k3 : w1.cell? ⟨w.heap.size + 1, 3, none⟩ = some (.int .i64 0) := B1.cell 3
  have f0 := B1.free 0
  have f1 := B1.free 1
  have f2 := B1.free 2
  have f3 := B1.free 3
  have BL1 := hide B1
  clear B1 hb1 HB0 BLK PTH
  go_wp2
  refine bodyPost_ret (results_dec rfl _ _ _ _ _ _ _ rfl (BL1.out.put4 _ _ _ _)) rfl ?_
  exact ⟨rfl, below_put4 HB1.out (by omega) _ _ _ _⟩

set_option maxHeartbeats 1000000 in
theorem rexact32_fin (b : Nat) (w : World) (neg : Bool) (M : Nat) (ex : Int) (hM : M < B64) (hsm : Sm M) (hs2 : Sm (M * p2N ex)) (hsz : sizeN (M * p2N ex) ≤ 5000) (h1 : -1074 ≤ ex) (h2 : ex ≤ 971)
    (PT : ∀ W, Calls Tryz.prog 58 #[k32, .int .u64 (b : Int)] W fun e w' => e = .returned (.tuple #[.bool neg, .int .i64 0, .int .u64 (M : Int), .int .i64 ex]) ∧ Below W.heap.size W w') :
    Calls Tryz.prog 42 #[k32, .int .u64 (b : Int)] w fun e w' => e = .returned (decVal (decZ neg (M * p2N ex) (p2E ex))) ∧ Below w.heap.size w w' := by
  have PTH := hide PT
  have HB0 : Hid (Below w.heap.size w ((w.alloc (.cells #[.int .i64 23, .int .i64 8] 32)).alloc (.cells #[.int .i64 0, .bool false, .string ⟨#[]⟩, .int .i64 0] 23))) := ((Below.refl _ _).alloc (Nat.le_refl _) _).alloc (by simp) _
  have BLK := hide (Blk.newAt (w.alloc (.cells #[.int .i64 23, .int .i64 8] 32)) (w.heap.size + 1) (by simp) #[.int .i64 0, .bool false, .string ⟨#[]⟩, .int .i64 0] 23)
  obtain ⟨d, hd⟩ : ∃ d, d = decZ neg (M * p2N ex) (p2E ex) := ⟨_, rfl⟩
  have hE : -5000 ≤ p2E ex ∧ p2E ex ≤ 5000 := by unfold p2E; split <;> omega
  have RD := fun oa la ca W (h : Nr W (.slice oa la ca) (M * p2N ex)) => rdec_any neg oa la ca (M * p2N ex) (p2E ex) W h hsz hs2 hE.1 hE.2
  rw [← hd] at RD ⊢
  have RDH := hide RD
  have AMH := hide (fun oa la ca W (h : Nr W (.slice oa la ca) M) => amount_call oa la ca M ex W h hsm (by omega) (by omega))
  have LM := hide (fun W => limb_call M W hM)
  clear PT RD hd hE hsz hs2 hsm hM
  go_enter Tryz.func42, Tryz.ntmps42
  go_wp2_with fail
  refine (PTH.out _).mono ?_
  rintro e w1 ⟨rfl, hb1⟩
  have BLK1 := hide (BLK.out.below hb1 BLK.out.lt)
  have HB1 := hide (HB0.out.trans (hb1.mono (by simp; omega)))
  clear hb1 HB0 BLK PTH
  go_wp2_with fail
  refine (LM.out _).mono ?_
  rintro e w2 ⟨o2, c2, l2, rfl, n2, hb2⟩
  have AM2 := hide (AMH.out o2 l2 c2 w2 n2)
  have HB2 := hide (HB1.out.trans (hb2.mono HB1.out.size))
  have BLK2 := hide (BLK1.out.below hb2 BLK1.out.lt)
  clear n2 hb2 HB1 BLK1 LM AMH
  go_wp2_with fail
  refine AM2.out.mono ?_
  rintro e w3 ⟨o3, c3, l3, rfl, n3, hb3⟩
  have RD3 := hide (RDH.out o3 l3 c3 w3 n3)
  have HB3 := hide (HB2.out.trans (hb3.mono HB2.out.size))
  have BLK3 := hide (BLK2.out.below hb3 BLK2.out.lt)
  clear n3 hb3 HB2 BLK2 AM2 RDH
  go_wp2_with fail
  refine RD3.out.mono ?_
  rintro e w1 ⟨rfl, hb1⟩
  have B1 := BLK3.out.below hb1 BLK3.out.lt
  have HB1 := hide (HB3.out.trans (hb1.mono HB3.out.size))
  have k0 : w1.cell? ⟨w.heap.size + 1, 0, none⟩ = some (.int .i64 0) := B1.cell 0
  have k1 : w1.cell? ⟨w.heap.size + 1, 1, none⟩ = some (.bool false) := B1.cell 1
  have k2 : w1.cell? ⟨w.heap.size + 1, 2, none⟩ = some (.string ⟨#[]⟩) := B1.cell 2
  have k3 : w1.cell? ⟨w.heap.size + 1, 3, none⟩ = some (.int .i64 0) := B1.cell 3
  have f0 := B1.free 0
  have f1 := B1.free 1
  have f2 := B1.free 2
  have f3 := B1.free 3
  have BL1 := hide B1
  have FIN : Hid (decVal d = .agg #[.int .i64 (d.cls : Int), .bool d.neg, .string ⟨d.dig.toArray⟩, .int .i64 d.exp]) := rfl
  rw [FIN.out]
  clear B1 hb1 HB3 BLK3 RD3
  go_wp2
  refine bodyPost_ret (results_dec rfl _ _ _ _ _ _ _ rfl (BL1.out.put4 _ _ _ _)) rfl ?_
  exact ⟨rfl, below_put4 HB1.out (by omega) _ _ _ _⟩

theorem rexact32_any (b : Nat) (w : World) (hb : b < 4294967296) : Calls Tryz.prog 42 #[k32, .int .u64 (b : Int)] w fun e w' => e = .returned (decVal (ex32D b)) ∧ Below w.heap.size w w' := by
  obtain ⟨x, m, hx, hm, hxl, hml, mx, mm, ms⟩ := fields32 b hb
  have D : ex32D b = (if x = 255 then if m = 0 then ⟨1, decide (b / 2 ^ 23 / 2 ^ 8 ≠ 0), [], 0⟩ else ⟨2, false, [], 0⟩ else if x = 0 ∧ m = 0 then ⟨0, decide (b / 2 ^ 23 / 2 ^ 8 ≠ 0), [], 0⟩ else decA (decide (b / 2 ^ 23 / 2 ^ 8 ≠ 0)) (allD 23 149 x m).1 (allD 23 149 x m).2) := by
    rw [hx, hm]; rfl
  rw [D]
  have e1 : (2 : Nat) ^ 23 = 8388608 := by decide
  by_cases hx1 : x = 255
  · rw [if_pos hx1]
    by_cases hm0 : m = 0
    · rw [if_pos hm0]
      rcases ms with ⟨h1, h2⟩ | ⟨h1, h2⟩
      · rw [decide_eq_true h1]
        exact rexact32_no b w 1 true (by omega) (fun W => parts32_inf1 b x m W hxl mx mm h2 (by omega) (by omega))
      · rw [decide_eq_false (by omega)]
        exact rexact32_no b w 1 false (by omega) (fun W => parts32_inf0 b x m W hxl mx mm h2 (by omega) (by omega))
    · rw [if_neg hm0]
      rcases ms with ⟨h1, h2⟩ | ⟨h1, h2⟩
      · exact rexact32_no b w 2 false (by omega) (fun W => parts32_nan1 b x m W hxl mx mm h2 (by omega) (by omega))
      · exact rexact32_no b w 2 false (by omega) (fun W => parts32_nan0 b x m W hxl mx mm h2 (by omega) (by omega))
  · rw [if_neg hx1]
    have p1 : -1074 ≤ fPow 149 x := by unfold fPow; split <;> omega
    have p2 : fPow 149 x ≤ 971 := by unfold fPow; split <;> omega
    have hn : fNum 23 x m < 10 ^ 17 := by have := fNum_lt17 (F := 23) (x := x) (m := m) (by omega) (by rw [e1]; exact hml); omega
    obtain ⟨j, hj⟩ : ∃ j : Nat, j = 1081 := ⟨_, rfl⟩
    have hA : fNum 23 x m * p2N (fPow 149 x) < 10 ^ (17 + j) := mul_lt10 hn (p2N_lt (by omega) (by omega))
    have hz : sizeN (fNum 23 x m * p2N (fPow 149 x)) ≤ 5000 := size_bound hA (by omega) (by omega)
    have hs2 := Sm.of hA (by omega)
    have key : ∀ neg : Bool, (if x = 0 ∧ m = 0 then ⟨0, neg, [], 0⟩ else decA neg (allD 23 149 x m).1 (allD 23 149 x m).2) = decZ neg (fNum 23 x m * p2N (fPow 149 x)) (p2E (fPow 149 x)) := by
      intro neg
      unfold decZ
      have hp := p2N_pos (fPow 149 x)
      by_cases h0 : x = 0 ∧ m = 0
      · rw [if_pos h0, if_pos (by unfold fNum; rw [if_pos h0.1, h0.2, Nat.zero_mul])]
      · have hf : fNum 23 x m ≠ 0 := by unfold fNum; split <;> omega
        rw [if_neg h0, if_neg (Nat.mul_ne_zero hf (by omega))]; rfl
    rw [key]
    have M1 := (small17 hn).1
    have M2 := (small17 hn).2
    have PT : ∀ (neg : Bool), (neg = decide (b / 2 ^ 23 / 2 ^ 8 ≠ 0)) → ∀ W, Calls Tryz.prog 58 #[k32, .int .u64 (b : Int)] W fun e w' => e = .returned (.tuple #[.bool neg, .int .i64 0, .int .u64 ((fNum 23 x m : Nat) : Int), .int .i64 (fPow 149 x)]) ∧ Below W.heap.size W w' := by
      intro neg hneg W
      unfold fNum fPow
      by_cases hx0 : x = 0
      · rw [if_pos hx0, if_pos hx0]
        rcases ms with ⟨h1, h2⟩ | ⟨h1, h2⟩
        · rw [hneg, decide_eq_true h1]; exact parts32_sub1 b x m W hxl mx mm h2 (by omega)
        · rw [hneg, decide_eq_false (by omega)]; exact parts32_sub0 b x m W hxl mx mm h2 (by omega)
      · rw [if_neg hx0, if_neg hx0, e1]
        rcases ms with ⟨h1, h2⟩ | ⟨h1, h2⟩
        · rw [hneg, decide_eq_true h1]; exact parts32_norm1 b x m W hxl mx mm h2 (by omega) (by omega) hml
        · rw [hneg, decide_eq_false (by omega)]; exact parts32_norm0 b x m W hxl mx mm h2 (by omega) (by omega) hml
    exact rexact32_fin b w _ _ _ M1 M2 hs2 hz p1 p2 (PT _ rfl)

end Go.Proofs.YtlhekeifffofjaaGreatDoor

namespace Go.Proofs.YtlhekeifffofjaaGreatDoor
open Go.RowKit

theorem rto64_dec (d : DecT) (w : World) (h : May d) : Calls Tryz.prog 13 #[k64, decVal d] w fun e w' => e = .returned (.int .u64 ((toD 52 11 1074 d : Nat) : Int)) ∧ Below w.heap.size w w' := by
  have hb : bys ⟨d.dig.toArray⟩ = d.dig := by simp [bys]
  have g := rto64_any (d.cls : Int) d.neg ⟨d.dig.toArray⟩ d.exp w (by rw [hb]; exact h)
  rw [hb, Int.toNat_natCast] at g
  exact g

theorem rto32_dec (d : DecT) (w : World) (h : May d) : Calls Tryz.prog 13 #[k32, decVal d] w fun e w' => e = .returned (.int .u64 ((toD 23 8 149 d : Nat) : Int)) ∧ Below w.heap.size w w' := by
  have hb : bys ⟨d.dig.toArray⟩ = d.dig := by simp [bys]
  have g := rto32_any (d.cls : Int) d.neg ⟨d.dig.toArray⟩ d.exp w (by rw [hb]; exact h)
  rw [hb, Int.toNat_natCast] at g
  exact g

set_option maxHeartbeats 1000000 in
theorem rnarrow_call (b : Nat) (w : World) (hb : b < 18446744073709551616) : Calls Tryz.prog 18 #[.int .u64 (b : Int)] w fun e w' => e = .returned (.int .u32 ((toD 23 8 149 (ex64D b) : Nat) : Int)) ∧ Below w.heap.size w w' := by
  have E := hide (fun W => rexact64_any b W hb)
  have T := hide (fun W => rto32_dec (ex64D b) W (may_ex64 b))
  obtain ⟨r, hr⟩ : ∃ r, r = toD 23 8 149 (ex64D b) := ⟨_, rfl⟩
  have hrl : (r : Int) < 4294967296 := by have := toD_lt32 (ex64D b); omega
  rw [← hr] at T ⊢
  clear hr
  go_enter Tryz.func18, Tryz.ntmps18
  go_wp2_with fail
  refine (narrow_any _).mono ?_
  rintro e w1 ⟨rfl, hb1⟩
  have HB1 := hide hb1
  clear hb1
  go_wp2_with fail
  refine (wide_any _).mono ?_
  rintro e w2 ⟨rfl, hb2⟩
  have HB2 := hide (HB1.out.trans (hb2.mono HB1.out.size))
  clear hb2 HB1
  go_wp2_with fail
  refine (E.out _).mono ?_
  rintro e w3 ⟨rfl, hb3⟩
  have HB3 := hide (HB2.out.trans (hb3.mono HB2.out.size))
  clear hb3 HB2 E
  go_wp2_with fail
  refine (T.out _).mono ?_
  rintro e w4 ⟨rfl, hb4⟩
  have HB4 := hide (HB3.out.trans (hb4.mono HB3.out.size))
  clear hb4 HB3 T
  go_wp2
  go_ret
  exact ⟨rfl, HB4.out⟩

set_option maxHeartbeats 1000000 in
theorem rwiden_call (b : Nat) (w : World) (hb : b < 4294967296) : Calls Tryz.prog 20 #[.int .u32 (b : Int)] w fun e w' => e = .returned (.int .u64 ((toD 52 11 1074 (ex32D b) : Nat) : Int)) ∧ Below w.heap.size w w' := by
  have E := hide (fun W => rexact32_any b W hb)
  have T := hide (fun W => rto64_dec (ex32D b) W (may_ex32 b))
  obtain ⟨r, hr⟩ : ∃ r, r = toD 52 11 1074 (ex32D b) := ⟨_, rfl⟩
  have hb2 : (b : Int) < 4294967296 := by omega
  rw [← hr] at T ⊢
  clear hr
  go_enter Tryz.func20, Tryz.ntmps20
  go_wp2_with fail
  refine (wide_any _).mono ?_
  rintro e w1 ⟨rfl, hb1⟩
  have HB1 := hide hb1
  clear hb1
  go_wp2_with fail
  refine (narrow_any _).mono ?_
  rintro e w2 ⟨rfl, hb2⟩
  have HB2 := hide (HB1.out.trans (hb2.mono HB1.out.size))
  clear hb2 HB1
  go_wp2_with fail
  refine (E.out _).mono ?_
  rintro e w3 ⟨rfl, hb3⟩
  have HB3 := hide (HB2.out.trans (hb3.mono HB2.out.size))
  clear hb3 HB2 E
  go_wp2_with fail
  refine (T.out _).mono ?_
  rintro e w4 ⟨rfl, hb4⟩
  have HB4 := hide (HB3.out.trans (hb4.mono HB3.out.size))
  clear hb4 HB3 T
  go_wp2
  go_ret
  exact ⟨rfl, HB4.out⟩

set_option maxHeartbeats 1000000 in
theorem turns_walk (w : World) (htab : Tab w) (a : Nat) (ha : a < 18446744073709551616) (b : Nat) (hb : b < 4294967296) :
    Calls Tryz.prog 5 #[.int .u64 (a : Int), .int .u32 (b : Int)] w fun e w' => e = .returned (.bool true) ∧ Below w.heap.size w w' := by
  have AW := hide (nawake_any w htab)
  have N1 := hide (fun W => narrow_call a W ha)
  have N2 := hide (fun W => rnarrow_call a W ha)
  have W1 := hide (fun W => widen_call b W hb)
  have W2 := hide (fun W => rwiden_call b W hb)
  obtain ⟨r1, hr1⟩ : ∃ r, r = toD 23 8 149 (ex64D a) := ⟨_, rfl⟩
  obtain ⟨r2, hr2⟩ : ∃ r, r = toD 52 11 1074 (ex32D b) := ⟨_, rfl⟩
  rw [← hr1] at N1 N2
  rw [← hr2] at W1 W2
  have HT := hide htab
  clear htab hr1 hr2
  go_enter Tryz.func5, Tryz.ntmps5
  go_wp2_with fail
  refine AW.out.mono ?_
  rintro e w1 ⟨rfl, hb1⟩
  have HB1 := hide hb1
  clear hb1 AW
  go_wp2_with fail
  refine (N1.out _ (HT.out.below HB1.out)).mono ?_
  rintro e w2 ⟨rfl, hb2⟩
  have HB2 := hide (HB1.out.trans (hb2.mono HB1.out.size))
  clear hb2 HB1 N1
  go_wp2_with fail
  refine (N2.out _).mono ?_
  rintro e w3 ⟨rfl, hb3⟩
  have HB3 := hide (HB2.out.trans (hb3.mono HB2.out.size))
  clear hb3 HB2 N2
  go_wp2_with fail
  refine (W1.out _ (HT.out.below HB3.out)).mono ?_
  rintro e w4 ⟨rfl, hb4⟩
  have HB4 := hide (HB3.out.trans (hb4.mono HB3.out.size))
  clear hb4 HB3 W1
  go_wp2_with fail
  refine (W2.out _).mono ?_
  rintro e w5 ⟨rfl, hb5⟩
  have HB5 := hide (HB4.out.trans (hb5.mono HB4.out.size))
  clear hb5 HB4 W2
  go_wp2
  go_ret
  exact ⟨rfl, HB5.out⟩

end Go.Proofs.YtlhekeifffofjaaGreatDoor
