/-
  What quipuref03's Parts does, case by case.
  What quipuref03's within and reach do.
  What quipuref03's Exact does, and the walk of ShortestExact.
  What quipuref03's Of does: the fewest digits.
-/
import Derived.Test.YtpiloigpncbccaaGreatDoorZSR
import Derived.Deep.RegionHeld3
namespace Go.Proofs.YtpiloigpncbccaaGreatDoor
open Go.RowKit

theorem results_tmp4 {fn : Func} {t u v x : Tmp} (h : fn.results = #[.tmp t, .tmp u, .tmp v, .tmp x]) (tmps : Array Value) (P : Program) (w : World) :
    (results fn tmps).run P w = .ok (.tuple #[tmps.getD t undef, tmps.getD u undef, tmps.getD v undef, tmps.getD x undef]) w := by
  simp [results, h]

set_option maxHeartbeats 2000000 in
theorem parts64_inf0 (b x m : Nat) (w : World) (_hxl : x ≤ 2047) (mx : bits .and .u64 ((b : Int) / 4503599627370496) 2047 = (x : Int)) (mm : bits .and .u64 (b : Int) 4503599627370495 = (m : Int)) (ms : bits .and .u64 ((b : Int) / 9223372036854775808) 1 = 0) (hx : (x : Int) = 2047) (hm : (m : Int) = 0) :
    Calls Tryz.prog 23 #[k64, .int .u64 (b : Int)] w fun e w' => e = .returned (.tuple #[.bool false, .int .i64 1, .int .u64 0, .int .i64 0]) ∧ Below w.heap.size w w' := by
  have blk := hide (Blk.new w #[.int .i64 52, .int .i64 11] 28)
  have HB0 : Hid (Below w.heap.size w (w.alloc (.cells #[.int .i64 52, .int .i64 11] 28))) := (Below.refl _ _).alloc (Nat.le_refl _) _
  go_enter Tryz.func23, Tryz.ntmps23
  go_wp2
  go_region
  go_wp2
  refine bodyPost_ret (results_tmp4 rfl _ _ _) rfl ?_
  exact ⟨rfl, HB0.out.drew⟩

set_option maxHeartbeats 2000000 in
theorem parts64_inf1 (b x m : Nat) (w : World) (_hxl : x ≤ 2047) (mx : bits .and .u64 ((b : Int) / 4503599627370496) 2047 = (x : Int)) (mm : bits .and .u64 (b : Int) 4503599627370495 = (m : Int)) (ms : bits .and .u64 ((b : Int) / 9223372036854775808) 1 = 1) (hx : (x : Int) = 2047) (hm : (m : Int) = 0) :
    Calls Tryz.prog 23 #[k64, .int .u64 (b : Int)] w fun e w' => e = .returned (.tuple #[.bool true, .int .i64 1, .int .u64 0, .int .i64 0]) ∧ Below w.heap.size w w' := by
  have blk := hide (Blk.new w #[.int .i64 52, .int .i64 11] 28)
  have HB0 : Hid (Below w.heap.size w (w.alloc (.cells #[.int .i64 52, .int .i64 11] 28))) := (Below.refl _ _).alloc (Nat.le_refl _) _
  go_enter Tryz.func23, Tryz.ntmps23
  go_wp2
  go_region
  go_wp2
  refine bodyPost_ret (results_tmp4 rfl _ _ _) rfl ?_
  exact ⟨rfl, HB0.out.drew⟩

set_option maxHeartbeats 2000000 in
theorem parts64_nan0 (b x m : Nat) (w : World) (_hxl : x ≤ 2047) (mx : bits .and .u64 ((b : Int) / 4503599627370496) 2047 = (x : Int)) (mm : bits .and .u64 (b : Int) 4503599627370495 = (m : Int)) (ms : bits .and .u64 ((b : Int) / 9223372036854775808) 1 = 0) (hx : (x : Int) = 2047) (hm : ¬ (m : Int) = 0) :
    Calls Tryz.prog 23 #[k64, .int .u64 (b : Int)] w fun e w' => e = .returned (.tuple #[.bool false, .int .i64 2, .int .u64 0, .int .i64 0]) ∧ Below w.heap.size w w' := by
  have blk := hide (Blk.new w #[.int .i64 52, .int .i64 11] 28)
  have HB0 : Hid (Below w.heap.size w (w.alloc (.cells #[.int .i64 52, .int .i64 11] 28))) := (Below.refl _ _).alloc (Nat.le_refl _) _
  go_enter Tryz.func23, Tryz.ntmps23
  go_wp2
  go_region
  go_wp2
  refine bodyPost_ret (results_tmp4 rfl _ _ _) rfl ?_
  exact ⟨rfl, HB0.out.drew⟩

set_option maxHeartbeats 2000000 in
theorem parts64_nan1 (b x m : Nat) (w : World) (_hxl : x ≤ 2047) (mx : bits .and .u64 ((b : Int) / 4503599627370496) 2047 = (x : Int)) (mm : bits .and .u64 (b : Int) 4503599627370495 = (m : Int)) (ms : bits .and .u64 ((b : Int) / 9223372036854775808) 1 = 1) (hx : (x : Int) = 2047) (hm : ¬ (m : Int) = 0) :
    Calls Tryz.prog 23 #[k64, .int .u64 (b : Int)] w fun e w' => e = .returned (.tuple #[.bool false, .int .i64 2, .int .u64 0, .int .i64 0]) ∧ Below w.heap.size w w' := by
  have blk := hide (Blk.new w #[.int .i64 52, .int .i64 11] 28)
  have HB0 : Hid (Below w.heap.size w (w.alloc (.cells #[.int .i64 52, .int .i64 11] 28))) := (Below.refl _ _).alloc (Nat.le_refl _) _
  go_enter Tryz.func23, Tryz.ntmps23
  go_wp2
  go_region
  go_wp2
  refine bodyPost_ret (results_tmp4 rfl _ _ _) rfl ?_
  exact ⟨rfl, HB0.out.drew⟩

set_option maxHeartbeats 2000000 in
theorem parts64_sub0 (b x m : Nat) (w : World) (_hxl : x ≤ 2047) (mx : bits .and .u64 ((b : Int) / 4503599627370496) 2047 = (x : Int)) (mm : bits .and .u64 (b : Int) 4503599627370495 = (m : Int)) (ms : bits .and .u64 ((b : Int) / 9223372036854775808) 1 = 0) (hx : (x : Int) = 0) :
    Calls Tryz.prog 23 #[k64, .int .u64 (b : Int)] w fun e w' => e = .returned (.tuple #[.bool false, .int .i64 0, .int .u64 (m : Int), .int .i64 (-1074)]) ∧ Below w.heap.size w w' := by
  have blk := hide (Blk.new w #[.int .i64 52, .int .i64 11] 28)
  have HB0 : Hid (Below w.heap.size w (w.alloc (.cells #[.int .i64 52, .int .i64 11] 28))) := (Below.refl _ _).alloc (Nat.le_refl _) _
  go_enter Tryz.func23, Tryz.ntmps23
  go_wp2
  go_region
  go_wp2_with fail
  refine (bias64 _).mono ?_
  rintro e w1 ⟨rfl, hb1⟩
  have HB1 := hide (HB0.out.drew.trans (hb1.mono HB0.out.drew.size))
  clear hb1
  go_wp2
  refine bodyPost_ret (results_tmp4 rfl _ _ _) rfl ?_
  exact ⟨rfl, HB1.out⟩

set_option maxHeartbeats 2000000 in
theorem parts64_sub1 (b x m : Nat) (w : World) (_hxl : x ≤ 2047) (mx : bits .and .u64 ((b : Int) / 4503599627370496) 2047 = (x : Int)) (mm : bits .and .u64 (b : Int) 4503599627370495 = (m : Int)) (ms : bits .and .u64 ((b : Int) / 9223372036854775808) 1 = 1) (hx : (x : Int) = 0) :
    Calls Tryz.prog 23 #[k64, .int .u64 (b : Int)] w fun e w' => e = .returned (.tuple #[.bool true, .int .i64 0, .int .u64 (m : Int), .int .i64 (-1074)]) ∧ Below w.heap.size w w' := by
  have blk := hide (Blk.new w #[.int .i64 52, .int .i64 11] 28)
  have HB0 : Hid (Below w.heap.size w (w.alloc (.cells #[.int .i64 52, .int .i64 11] 28))) := (Below.refl _ _).alloc (Nat.le_refl _) _
  go_enter Tryz.func23, Tryz.ntmps23
  go_wp2
  go_region
  go_wp2_with fail
  refine (bias64 _).mono ?_
  rintro e w1 ⟨rfl, hb1⟩
  have HB1 := hide (HB0.out.drew.trans (hb1.mono HB0.out.drew.size))
  clear hb1
  go_wp2
  refine bodyPost_ret (results_tmp4 rfl _ _ _) rfl ?_
  exact ⟨rfl, HB1.out⟩

set_option maxHeartbeats 2000000 in
theorem parts64_norm0 (b x m : Nat) (w : World) (_hxl : x ≤ 2047) (mx : bits .and .u64 ((b : Int) / 4503599627370496) 2047 = (x : Int)) (mm : bits .and .u64 (b : Int) 4503599627370495 = (m : Int)) (ms : bits .and .u64 ((b : Int) / 9223372036854775808) 1 = 0) (hx : ¬ (x : Int) = 2047) (hx0 : ¬ (x : Int) = 0) (hm : m < 4503599627370496) :
    Calls Tryz.prog 23 #[k64, .int .u64 (b : Int)] w fun e w' => e = .returned (.tuple #[.bool false, .int .i64 0, .int .u64 ((4503599627370496 + m : Nat) : Int), .int .i64 ((x : Int) - 1 - 1074)]) ∧ Below w.heap.size w w' := by
  have W1 : Hid (IntKind.i64.wrap (IntKind.i64.wrap ((x : Int) - 1) - 1074) = (x : Int) - 1 - 1074) := by
    show IntKind.i64.wrap (IntKind.i64.wrap ((x : Int) - 1) - 1074) = (x : Int) - 1 - 1074
    rw [IntKind.wrap_i64, IntKind.wrap_i64]; omega
  have OR : Hid (bits .or .u64 (m : Int) (IntKind.u64.wrap 4503599627370496) = ((4503599627370496 + m : Nat) : Int)) := by
    show bits .or .u64 (m : Int) (IntKind.u64.wrap 4503599627370496) = ((4503599627370496 + m : Nat) : Int)
    rw [show IntKind.u64.wrap 4503599627370496 = 4503599627370496 by decide]
    have h := or_low (y := m) (a := 1) (s := 52) (by rw [show (2 : Nat) ^ 52 = 4503599627370496 by decide]; exact hm)
    have h2 := bits_or_u64_nat m 4503599627370496 (by omega) (by omega)
    rw [show (1 * 2 ^ 52 : Nat) = 4503599627370496 by decide] at h
    rw [h] at h2
    exact h2.trans (by congr 1; omega)
  clear hm
  have blk := hide (Blk.new w #[.int .i64 52, .int .i64 11] 28)
  have HB0 : Hid (Below w.heap.size w (w.alloc (.cells #[.int .i64 52, .int .i64 11] 28))) := (Below.refl _ _).alloc (Nat.le_refl _) _
  go_enter Tryz.func23, Tryz.ntmps23
  go_wp2
  go_region
  go_wp2_with fail
  obtain ⟨W, hW⟩ : ∃ W, W = (w.alloc (.cells #[.int .i64 52, .int .i64 11] 28)).drew := ⟨_, rfl⟩
  have BL : Hid (Blk W w.heap.size #[.int .i64 52, .int .i64 11] 28) := by rw [hW]; exact blk.out
  have HBW : Hid (Below w.heap.size w W) := by rw [hW]; exact HB0.out.drew
  rw [← hW]
  clear hW blk HB0
  have c0 : W.cell? ⟨w.heap.size, 0, none⟩ = some (.int .i64 52) := BL.out.cell 0
  have c1 : W.cell? ⟨w.heap.size, 1, none⟩ = some (.int .i64 11) := BL.out.cell 1
  have b0 : Hid (Below W.heap.size W W.drew) := bdrew' W
  have H : Hid (Calls Tryz.prog 49 #[.agg #[.int .i64 52, .int .i64 11]] W.drew fun e w' => e = .returned (.int .i64 1074) ∧ Hid (Below w.heap.size w w') ∧ w'.cell? ⟨w.heap.size, 0, none⟩ = some (.int .i64 52) ∧ w'.cell? ⟨w.heap.size, 1, none⟩ = some (.int .i64 11)) := by
    refine (bias64 W.drew).mono ?_
    rintro e w' ⟨rfl, hb⟩
    have hbb := b0.out.trans (hb.mono b0.out.size)
    have q := BL.out.below hbb BL.out.lt
    exact ⟨rfl, HBW.out.trans (hbb.mono HBW.out.size), q.cell 0, q.cell 1⟩
  have mk0 : True := trivial
  go_region_held3 (fun w' => w'.cell? ⟨w.heap.size, 0, none⟩ = some (.int .i64 52) ∧ w'.cell? ⟨w.heap.size, 1, none⟩ = some (.int .i64 11)) (go_keep) (first
    | (clear mk0; go_at_call 49; refine H.out.mono ?_; rintro e w2 ⟨rfl, b2, k0, k1⟩; have mk1 : True := trivial))
  all_goals (
    go_wp2
    refine bodyPost_ret (results_tmp4 rfl _ _ _) rfl ?_
    refine ⟨?_, b2.out⟩
    show Ending.returned (.tuple #[.bool false, .int .i64 0, .int .u64 (bits .or .u64 (m : Int) (IntKind.u64.wrap 4503599627370496)), .int .i64 (IntKind.i64.wrap (IntKind.i64.wrap ((x : Int) - 1) - 1074))]) = _
    rw [W1.out, OR.out])

set_option maxHeartbeats 2000000 in
theorem parts64_norm1 (b x m : Nat) (w : World) (_hxl : x ≤ 2047) (mx : bits .and .u64 ((b : Int) / 4503599627370496) 2047 = (x : Int)) (mm : bits .and .u64 (b : Int) 4503599627370495 = (m : Int)) (ms : bits .and .u64 ((b : Int) / 9223372036854775808) 1 = 1) (hx : ¬ (x : Int) = 2047) (hx0 : ¬ (x : Int) = 0) (hm : m < 4503599627370496) :
    Calls Tryz.prog 23 #[k64, .int .u64 (b : Int)] w fun e w' => e = .returned (.tuple #[.bool true, .int .i64 0, .int .u64 ((4503599627370496 + m : Nat) : Int), .int .i64 ((x : Int) - 1 - 1074)]) ∧ Below w.heap.size w w' := by
  have W1 : Hid (IntKind.i64.wrap (IntKind.i64.wrap ((x : Int) - 1) - 1074) = (x : Int) - 1 - 1074) := by
    show IntKind.i64.wrap (IntKind.i64.wrap ((x : Int) - 1) - 1074) = (x : Int) - 1 - 1074
    rw [IntKind.wrap_i64, IntKind.wrap_i64]; omega
  have OR : Hid (bits .or .u64 (m : Int) (IntKind.u64.wrap 4503599627370496) = ((4503599627370496 + m : Nat) : Int)) := by
    show bits .or .u64 (m : Int) (IntKind.u64.wrap 4503599627370496) = ((4503599627370496 + m : Nat) : Int)
    rw [show IntKind.u64.wrap 4503599627370496 = 4503599627370496 by decide]
    have h := or_low (y := m) (a := 1) (s := 52) (by rw [show (2 : Nat) ^ 52 = 4503599627370496 by decide]; exact hm)
    have h2 := bits_or_u64_nat m 4503599627370496 (by omega) (by omega)
    rw [show (1 * 2 ^ 52 : Nat) = 4503599627370496 by decide] at h
    rw [h] at h2
    exact h2.trans (by congr 1; omega)
  clear hm
  have blk := hide (Blk.new w #[.int .i64 52, .int .i64 11] 28)
  have HB0 : Hid (Below w.heap.size w (w.alloc (.cells #[.int .i64 52, .int .i64 11] 28))) := (Below.refl _ _).alloc (Nat.le_refl _) _
  go_enter Tryz.func23, Tryz.ntmps23
  go_wp2
  go_region
  go_wp2_with fail
  obtain ⟨W, hW⟩ : ∃ W, W = (w.alloc (.cells #[.int .i64 52, .int .i64 11] 28)).drew := ⟨_, rfl⟩
  have BL : Hid (Blk W w.heap.size #[.int .i64 52, .int .i64 11] 28) := by rw [hW]; exact blk.out
  have HBW : Hid (Below w.heap.size w W) := by rw [hW]; exact HB0.out.drew
  rw [← hW]
  clear hW blk HB0
  have c0 : W.cell? ⟨w.heap.size, 0, none⟩ = some (.int .i64 52) := BL.out.cell 0
  have c1 : W.cell? ⟨w.heap.size, 1, none⟩ = some (.int .i64 11) := BL.out.cell 1
  have b0 : Hid (Below W.heap.size W W.drew) := bdrew' W
  have H : Hid (Calls Tryz.prog 49 #[.agg #[.int .i64 52, .int .i64 11]] W.drew fun e w' => e = .returned (.int .i64 1074) ∧ Hid (Below w.heap.size w w') ∧ w'.cell? ⟨w.heap.size, 0, none⟩ = some (.int .i64 52) ∧ w'.cell? ⟨w.heap.size, 1, none⟩ = some (.int .i64 11)) := by
    refine (bias64 W.drew).mono ?_
    rintro e w' ⟨rfl, hb⟩
    have hbb := b0.out.trans (hb.mono b0.out.size)
    have q := BL.out.below hbb BL.out.lt
    exact ⟨rfl, HBW.out.trans (hbb.mono HBW.out.size), q.cell 0, q.cell 1⟩
  have mk0 : True := trivial
  go_region_held3 (fun w' => w'.cell? ⟨w.heap.size, 0, none⟩ = some (.int .i64 52) ∧ w'.cell? ⟨w.heap.size, 1, none⟩ = some (.int .i64 11)) (go_keep) (first
    | (clear mk0; go_at_call 49; refine H.out.mono ?_; rintro e w2 ⟨rfl, b2, k0, k1⟩; have mk1 : True := trivial))
  all_goals (
    go_wp2
    refine bodyPost_ret (results_tmp4 rfl _ _ _) rfl ?_
    refine ⟨?_, b2.out⟩
    show Ending.returned (.tuple #[.bool true, .int .i64 0, .int .u64 (bits .or .u64 (m : Int) (IntKind.u64.wrap 4503599627370496)), .int .i64 (IntKind.i64.wrap (IntKind.i64.wrap ((x : Int) - 1) - 1074))]) = _
    rw [W1.out, OR.out])

set_option maxHeartbeats 2000000 in
theorem parts32_inf0 (b x m : Nat) (w : World) (_hxl : x ≤ 255) (mx : bits .and .u64 ((b : Int) / 8388608) 255 = (x : Int)) (mm : bits .and .u64 (b : Int) 8388607 = (m : Int)) (ms : bits .and .u64 ((b : Int) / 2147483648) 1 = 0) (hx : (x : Int) = 255) (hm : (m : Int) = 0) :
    Calls Tryz.prog 23 #[k32, .int .u64 (b : Int)] w fun e w' => e = .returned (.tuple #[.bool false, .int .i64 1, .int .u64 0, .int .i64 0]) ∧ Below w.heap.size w w' := by
  have blk := hide (Blk.new w #[.int .i64 23, .int .i64 8] 28)
  have HB0 : Hid (Below w.heap.size w (w.alloc (.cells #[.int .i64 23, .int .i64 8] 28))) := (Below.refl _ _).alloc (Nat.le_refl _) _
  go_enter Tryz.func23, Tryz.ntmps23
  go_wp2
  go_region
  go_wp2
  refine bodyPost_ret (results_tmp4 rfl _ _ _) rfl ?_
  exact ⟨rfl, HB0.out.drew⟩

set_option maxHeartbeats 2000000 in
theorem parts32_inf1 (b x m : Nat) (w : World) (_hxl : x ≤ 255) (mx : bits .and .u64 ((b : Int) / 8388608) 255 = (x : Int)) (mm : bits .and .u64 (b : Int) 8388607 = (m : Int)) (ms : bits .and .u64 ((b : Int) / 2147483648) 1 = 1) (hx : (x : Int) = 255) (hm : (m : Int) = 0) :
    Calls Tryz.prog 23 #[k32, .int .u64 (b : Int)] w fun e w' => e = .returned (.tuple #[.bool true, .int .i64 1, .int .u64 0, .int .i64 0]) ∧ Below w.heap.size w w' := by
  have blk := hide (Blk.new w #[.int .i64 23, .int .i64 8] 28)
  have HB0 : Hid (Below w.heap.size w (w.alloc (.cells #[.int .i64 23, .int .i64 8] 28))) := (Below.refl _ _).alloc (Nat.le_refl _) _
  go_enter Tryz.func23, Tryz.ntmps23
  go_wp2
  go_region
  go_wp2
  refine bodyPost_ret (results_tmp4 rfl _ _ _) rfl ?_
  exact ⟨rfl, HB0.out.drew⟩

set_option maxHeartbeats 2000000 in
theorem parts32_nan0 (b x m : Nat) (w : World) (_hxl : x ≤ 255) (mx : bits .and .u64 ((b : Int) / 8388608) 255 = (x : Int)) (mm : bits .and .u64 (b : Int) 8388607 = (m : Int)) (ms : bits .and .u64 ((b : Int) / 2147483648) 1 = 0) (hx : (x : Int) = 255) (hm : ¬ (m : Int) = 0) :
    Calls Tryz.prog 23 #[k32, .int .u64 (b : Int)] w fun e w' => e = .returned (.tuple #[.bool false, .int .i64 2, .int .u64 0, .int .i64 0]) ∧ Below w.heap.size w w' := by
  have blk := hide (Blk.new w #[.int .i64 23, .int .i64 8] 28)
  have HB0 : Hid (Below w.heap.size w (w.alloc (.cells #[.int .i64 23, .int .i64 8] 28))) := (Below.refl _ _).alloc (Nat.le_refl _) _
  go_enter Tryz.func23, Tryz.ntmps23
  go_wp2
  go_region
  go_wp2
  refine bodyPost_ret (results_tmp4 rfl _ _ _) rfl ?_
  exact ⟨rfl, HB0.out.drew⟩

set_option maxHeartbeats 2000000 in
theorem parts32_nan1 (b x m : Nat) (w : World) (_hxl : x ≤ 255) (mx : bits .and .u64 ((b : Int) / 8388608) 255 = (x : Int)) (mm : bits .and .u64 (b : Int) 8388607 = (m : Int)) (ms : bits .and .u64 ((b : Int) / 2147483648) 1 = 1) (hx : (x : Int) = 255) (hm : ¬ (m : Int) = 0) :
    Calls Tryz.prog 23 #[k32, .int .u64 (b : Int)] w fun e w' => e = .returned (.tuple #[.bool false, .int .i64 2, .int .u64 0, .int .i64 0]) ∧ Below w.heap.size w w' := by
  have blk := hide (Blk.new w #[.int .i64 23, .int .i64 8] 28)
  have HB0 : Hid (Below w.heap.size w (w.alloc (.cells #[.int .i64 23, .int .i64 8] 28))) := (Below.refl _ _).alloc (Nat.le_refl _) _
  go_enter Tryz.func23, Tryz.ntmps23
  go_wp2
  go_region
  go_wp2
  refine bodyPost_ret (results_tmp4 rfl _ _ _) rfl ?_
  exact ⟨rfl, HB0.out.drew⟩

set_option maxHeartbeats 2000000 in
theorem parts32_sub0 (b x m : Nat) (w : World) (_hxl : x ≤ 255) (mx : bits .and .u64 ((b : Int) / 8388608) 255 = (x : Int)) (mm : bits .and .u64 (b : Int) 8388607 = (m : Int)) (ms : bits .and .u64 ((b : Int) / 2147483648) 1 = 0) (hx : (x : Int) = 0) :
    Calls Tryz.prog 23 #[k32, .int .u64 (b : Int)] w fun e w' => e = .returned (.tuple #[.bool false, .int .i64 0, .int .u64 (m : Int), .int .i64 (-149)]) ∧ Below w.heap.size w w' := by
  have blk := hide (Blk.new w #[.int .i64 23, .int .i64 8] 28)
  have HB0 : Hid (Below w.heap.size w (w.alloc (.cells #[.int .i64 23, .int .i64 8] 28))) := (Below.refl _ _).alloc (Nat.le_refl _) _
  go_enter Tryz.func23, Tryz.ntmps23
  go_wp2
  go_region
  go_wp2_with fail
  refine (bias32 _).mono ?_
  rintro e w1 ⟨rfl, hb1⟩
  have HB1 := hide (HB0.out.drew.trans (hb1.mono HB0.out.drew.size))
  clear hb1
  go_wp2
  refine bodyPost_ret (results_tmp4 rfl _ _ _) rfl ?_
  exact ⟨rfl, HB1.out⟩

set_option maxHeartbeats 2000000 in
theorem parts32_sub1 (b x m : Nat) (w : World) (_hxl : x ≤ 255) (mx : bits .and .u64 ((b : Int) / 8388608) 255 = (x : Int)) (mm : bits .and .u64 (b : Int) 8388607 = (m : Int)) (ms : bits .and .u64 ((b : Int) / 2147483648) 1 = 1) (hx : (x : Int) = 0) :
    Calls Tryz.prog 23 #[k32, .int .u64 (b : Int)] w fun e w' => e = .returned (.tuple #[.bool true, .int .i64 0, .int .u64 (m : Int), .int .i64 (-149)]) ∧ Below w.heap.size w w' := by
  have blk := hide (Blk.new w #[.int .i64 23, .int .i64 8] 28)
  have HB0 : Hid (Below w.heap.size w (w.alloc (.cells #[.int .i64 23, .int .i64 8] 28))) := (Below.refl _ _).alloc (Nat.le_refl _) _
  go_enter Tryz.func23, Tryz.ntmps23
  go_wp2
  go_region
  go_wp2_with fail
  refine (bias32 _).mono ?_
  rintro e w1 ⟨rfl, hb1⟩
  have HB1 := hide (HB0.out.drew.trans (hb1.mono HB0.out.drew.size))
  clear hb1
  go_wp2
  refine bodyPost_ret (results_tmp4 rfl _ _ _) rfl ?_
  exact ⟨rfl, HB1.out⟩

set_option maxHeartbeats 2000000 in
theorem parts32_norm0 (b x m : Nat) (w : World) (_hxl : x ≤ 255) (mx : bits .and .u64 ((b : Int) / 8388608) 255 = (x : Int)) (mm : bits .and .u64 (b : Int) 8388607 = (m : Int)) (ms : bits .and .u64 ((b : Int) / 2147483648) 1 = 0) (hx : ¬ (x : Int) = 255) (hx0 : ¬ (x : Int) = 0) (hm : m < 8388608) :
    Calls Tryz.prog 23 #[k32, .int .u64 (b : Int)] w fun e w' => e = .returned (.tuple #[.bool false, .int .i64 0, .int .u64 ((8388608 + m : Nat) : Int), .int .i64 ((x : Int) - 1 - 149)]) ∧ Below w.heap.size w w' := by
  have W1 : Hid (IntKind.i64.wrap (IntKind.i64.wrap ((x : Int) - 1) - 149) = (x : Int) - 1 - 149) := by
    show IntKind.i64.wrap (IntKind.i64.wrap ((x : Int) - 1) - 149) = (x : Int) - 1 - 149
    rw [IntKind.wrap_i64, IntKind.wrap_i64]; omega
  have OR : Hid (bits .or .u64 (m : Int) (IntKind.u64.wrap 8388608) = ((8388608 + m : Nat) : Int)) := by
    show bits .or .u64 (m : Int) (IntKind.u64.wrap 8388608) = ((8388608 + m : Nat) : Int)
    rw [show IntKind.u64.wrap 8388608 = 8388608 by decide]
    have h := or_low (y := m) (a := 1) (s := 23) (by rw [show (2 : Nat) ^ 23 = 8388608 by decide]; exact hm)
    have h2 := bits_or_u64_nat m 8388608 (by omega) (by omega)
    rw [show (1 * 2 ^ 23 : Nat) = 8388608 by decide] at h
    rw [h] at h2
    exact h2.trans (by congr 1; omega)
  clear hm
  have blk := hide (Blk.new w #[.int .i64 23, .int .i64 8] 28)
  have HB0 : Hid (Below w.heap.size w (w.alloc (.cells #[.int .i64 23, .int .i64 8] 28))) := (Below.refl _ _).alloc (Nat.le_refl _) _
  go_enter Tryz.func23, Tryz.ntmps23
  go_wp2
  go_region
  go_wp2_with fail
  obtain ⟨W, hW⟩ : ∃ W, W = (w.alloc (.cells #[.int .i64 23, .int .i64 8] 28)).drew := ⟨_, rfl⟩
  have BL : Hid (Blk W w.heap.size #[.int .i64 23, .int .i64 8] 28) := by rw [hW]; exact blk.out
  have HBW : Hid (Below w.heap.size w W) := by rw [hW]; exact HB0.out.drew
  rw [← hW]
  clear hW blk HB0
  have c0 : W.cell? ⟨w.heap.size, 0, none⟩ = some (.int .i64 23) := BL.out.cell 0
  have c1 : W.cell? ⟨w.heap.size, 1, none⟩ = some (.int .i64 8) := BL.out.cell 1
  have b0 : Hid (Below W.heap.size W W.drew) := bdrew' W
  have H : Hid (Calls Tryz.prog 49 #[.agg #[.int .i64 23, .int .i64 8]] W.drew fun e w' => e = .returned (.int .i64 149) ∧ Hid (Below w.heap.size w w') ∧ w'.cell? ⟨w.heap.size, 0, none⟩ = some (.int .i64 23) ∧ w'.cell? ⟨w.heap.size, 1, none⟩ = some (.int .i64 8)) := by
    refine (bias32 W.drew).mono ?_
    rintro e w' ⟨rfl, hb⟩
    have hbb := b0.out.trans (hb.mono b0.out.size)
    have q := BL.out.below hbb BL.out.lt
    exact ⟨rfl, HBW.out.trans (hbb.mono HBW.out.size), q.cell 0, q.cell 1⟩
  have mk0 : True := trivial
  go_region_held3 (fun w' => w'.cell? ⟨w.heap.size, 0, none⟩ = some (.int .i64 23) ∧ w'.cell? ⟨w.heap.size, 1, none⟩ = some (.int .i64 8)) (go_keep) (first
    | (clear mk0; go_at_call 49; refine H.out.mono ?_; rintro e w2 ⟨rfl, b2, k0, k1⟩; have mk1 : True := trivial))
  all_goals (
    go_wp2
    refine bodyPost_ret (results_tmp4 rfl _ _ _) rfl ?_
    refine ⟨?_, b2.out⟩
    show Ending.returned (.tuple #[.bool false, .int .i64 0, .int .u64 (bits .or .u64 (m : Int) (IntKind.u64.wrap 8388608)), .int .i64 (IntKind.i64.wrap (IntKind.i64.wrap ((x : Int) - 1) - 149))]) = _
    rw [W1.out, OR.out])

set_option maxHeartbeats 2000000 in
theorem parts32_norm1 (b x m : Nat) (w : World) (_hxl : x ≤ 255) (mx : bits .and .u64 ((b : Int) / 8388608) 255 = (x : Int)) (mm : bits .and .u64 (b : Int) 8388607 = (m : Int)) (ms : bits .and .u64 ((b : Int) / 2147483648) 1 = 1) (hx : ¬ (x : Int) = 255) (hx0 : ¬ (x : Int) = 0) (hm : m < 8388608) :
    Calls Tryz.prog 23 #[k32, .int .u64 (b : Int)] w fun e w' => e = .returned (.tuple #[.bool true, .int .i64 0, .int .u64 ((8388608 + m : Nat) : Int), .int .i64 ((x : Int) - 1 - 149)]) ∧ Below w.heap.size w w' := by
  have W1 : Hid (IntKind.i64.wrap (IntKind.i64.wrap ((x : Int) - 1) - 149) = (x : Int) - 1 - 149) := by
    show IntKind.i64.wrap (IntKind.i64.wrap ((x : Int) - 1) - 149) = (x : Int) - 1 - 149
    rw [IntKind.wrap_i64, IntKind.wrap_i64]; omega
  have OR : Hid (bits .or .u64 (m : Int) (IntKind.u64.wrap 8388608) = ((8388608 + m : Nat) : Int)) := by
    show bits .or .u64 (m : Int) (IntKind.u64.wrap 8388608) = ((8388608 + m : Nat) : Int)
    rw [show IntKind.u64.wrap 8388608 = 8388608 by decide]
    have h := or_low (y := m) (a := 1) (s := 23) (by rw [show (2 : Nat) ^ 23 = 8388608 by decide]; exact hm)
    have h2 := bits_or_u64_nat m 8388608 (by omega) (by omega)
    rw [show (1 * 2 ^ 23 : Nat) = 8388608 by decide] at h
    rw [h] at h2
    exact h2.trans (by congr 1; omega)
  clear hm
  have blk := hide (Blk.new w #[.int .i64 23, .int .i64 8] 28)
  have HB0 : Hid (Below w.heap.size w (w.alloc (.cells #[.int .i64 23, .int .i64 8] 28))) := (Below.refl _ _).alloc (Nat.le_refl _) _
  go_enter Tryz.func23, Tryz.ntmps23
  go_wp2
  go_region
  go_wp2_with fail
  obtain ⟨W, hW⟩ : ∃ W, W = (w.alloc (.cells #[.int .i64 23, .int .i64 8] 28)).drew := ⟨_, rfl⟩
  have BL : Hid (Blk W w.heap.size #[.int .i64 23, .int .i64 8] 28) := by rw [hW]; exact blk.out
  have HBW : Hid (Below w.heap.size w W) := by rw [hW]; exact HB0.out.drew
  rw [← hW]
  clear hW blk HB0
  have c0 : W.cell? ⟨w.heap.size, 0, none⟩ = some (.int .i64 23) := BL.out.cell 0
  have c1 : W.cell? ⟨w.heap.size, 1, none⟩ = some (.int .i64 8) := BL.out.cell 1
  have b0 : Hid (Below W.heap.size W W.drew) := bdrew' W
  have H : Hid (Calls Tryz.prog 49 #[.agg #[.int .i64 23, .int .i64 8]] W.drew fun e w' => e = .returned (.int .i64 149) ∧ Hid (Below w.heap.size w w') ∧ w'.cell? ⟨w.heap.size, 0, none⟩ = some (.int .i64 23) ∧ w'.cell? ⟨w.heap.size, 1, none⟩ = some (.int .i64 8)) := by
    refine (bias32 W.drew).mono ?_
    rintro e w' ⟨rfl, hb⟩
    have hbb := b0.out.trans (hb.mono b0.out.size)
    have q := BL.out.below hbb BL.out.lt
    exact ⟨rfl, HBW.out.trans (hbb.mono HBW.out.size), q.cell 0, q.cell 1⟩
  have mk0 : True := trivial
  go_region_held3 (fun w' => w'.cell? ⟨w.heap.size, 0, none⟩ = some (.int .i64 23) ∧ w'.cell? ⟨w.heap.size, 1, none⟩ = some (.int .i64 8)) (go_keep) (first
    | (clear mk0; go_at_call 49; refine H.out.mono ?_; rintro e w2 ⟨rfl, b2, k0, k1⟩; have mk1 : True := trivial))
  all_goals (
    go_wp2
    refine bodyPost_ret (results_tmp4 rfl _ _ _) rfl ?_
    refine ⟨?_, b2.out⟩
    show Ending.returned (.tuple #[.bool true, .int .i64 0, .int .u64 (bits .or .u64 (m : Int) (IntKind.u64.wrap 8388608)), .int .i64 (IntKind.i64.wrap (IntKind.i64.wrap ((x : Int) - 1) - 149))]) = _
    rw [W1.out, OR.out])

end Go.Proofs.YtpiloigpncbccaaGreatDoor

namespace Go.Proofs.YtpiloigpncbccaaGreatDoor
open Go.RowKit

set_option maxHeartbeats 1000000 in
theorem with_mm_true (vl vx vh : Value) (l x h : Nat) (w : World) (hl : Nr w vl l) (hx : Nr w vx x) (hh : Nr w vh h) (sl : Sm l) (sx : Sm x) (sh : Sm h) (z1 : cmpN l x = -1) (z2 : cmpN x h = -1) :
    Calls Tryz.prog 31 #[vl, vx, vh, .bool true] w fun e w' => e = .returned (.bool true) ∧ Below w.heap.size w w' := by
  have C1 := hide (nr_cmp vl vx l x _ w hl hx sl sx z1)
  have C2 := hide (fun W (hW : Below w.heap.size w W) => nr_cmp vx vh x h _ W (hx.below hW) (hh.below hW) sx sh z2)
  clear hl hx hh sl sx sh z1 z2
  go_enter Tryz.func31, Tryz.ntmps31
  go_wp2_with fail
  refine C1.out.mono ?_
  rintro e w1 ⟨rfl, hb1⟩
  have C3 := hide (C2.out w1 hb1)
  have HB1 := hide hb1
  clear hb1 C1 C2
  go_wp2_with fail
  refine C3.out.mono ?_
  rintro e w2 ⟨rfl, hb2⟩
  have HB2 := hide (HB1.out.trans (hb2.mono HB1.out.size))
  clear hb2 HB1 C3
  go_wp2
  go_ret
  exact ⟨rfl, HB2.out⟩

set_option maxHeartbeats 1000000 in
theorem with_mm_false (vl vx vh : Value) (l x h : Nat) (w : World) (hl : Nr w vl l) (hx : Nr w vx x) (hh : Nr w vh h) (sl : Sm l) (sx : Sm x) (sh : Sm h) (z1 : cmpN l x = -1) (z2 : cmpN x h = -1) :
    Calls Tryz.prog 31 #[vl, vx, vh, .bool false] w fun e w' => e = .returned (.bool true) ∧ Below w.heap.size w w' := by
  have C1 := hide (nr_cmp vl vx l x _ w hl hx sl sx z1)
  have C2 := hide (fun W (hW : Below w.heap.size w W) => nr_cmp vx vh x h _ W (hx.below hW) (hh.below hW) sx sh z2)
  clear hl hx hh sl sx sh z1 z2
  go_enter Tryz.func31, Tryz.ntmps31
  go_wp2_with fail
  refine C1.out.mono ?_
  rintro e w1 ⟨rfl, hb1⟩
  have C3 := hide (C2.out w1 hb1)
  have HB1 := hide hb1
  clear hb1 C1 C2
  go_wp2_with fail
  refine C3.out.mono ?_
  rintro e w2 ⟨rfl, hb2⟩
  have HB2 := hide (HB1.out.trans (hb2.mono HB1.out.size))
  clear hb2 HB1 C3
  go_wp2
  go_ret
  exact ⟨rfl, HB2.out⟩

set_option maxHeartbeats 1000000 in
theorem with_zm_true (vl vx vh : Value) (l x h : Nat) (w : World) (hl : Nr w vl l) (hx : Nr w vx x) (hh : Nr w vh h) (sl : Sm l) (sx : Sm x) (sh : Sm h) (z1 : cmpN l x = 0) (z2 : cmpN x h = -1) :
    Calls Tryz.prog 31 #[vl, vx, vh, .bool true] w fun e w' => e = .returned (.bool true) ∧ Below w.heap.size w w' := by
  have C1 := hide (nr_cmp vl vx l x _ w hl hx sl sx z1)
  have C2 := hide (fun W (hW : Below w.heap.size w W) => nr_cmp vx vh x h _ W (hx.below hW) (hh.below hW) sx sh z2)
  clear hl hx hh sl sx sh z1 z2
  go_enter Tryz.func31, Tryz.ntmps31
  go_wp2_with fail
  refine C1.out.mono ?_
  rintro e w1 ⟨rfl, hb1⟩
  have C3 := hide (C2.out w1 hb1)
  have HB1 := hide hb1
  clear hb1 C1 C2
  go_wp2_with fail
  refine C3.out.mono ?_
  rintro e w2 ⟨rfl, hb2⟩
  have HB2 := hide (HB1.out.trans (hb2.mono HB1.out.size))
  clear hb2 HB1 C3
  go_wp2
  go_ret
  exact ⟨rfl, HB2.out⟩

set_option maxHeartbeats 1000000 in
theorem with_zm_false (vl vx vh : Value) (l x h : Nat) (w : World) (hl : Nr w vl l) (hx : Nr w vx x) (hh : Nr w vh h) (sl : Sm l) (sx : Sm x) (sh : Sm h) (z1 : cmpN l x = 0) (z2 : cmpN x h = -1) :
    Calls Tryz.prog 31 #[vl, vx, vh, .bool false] w fun e w' => e = .returned (.bool false) ∧ Below w.heap.size w w' := by
  have C1 := hide (nr_cmp vl vx l x _ w hl hx sl sx z1)
  have C2 := hide (fun W (hW : Below w.heap.size w W) => nr_cmp vx vh x h _ W (hx.below hW) (hh.below hW) sx sh z2)
  clear hl hx hh sl sx sh z1 z2
  go_enter Tryz.func31, Tryz.ntmps31
  go_wp2_with fail
  refine C1.out.mono ?_
  rintro e w1 ⟨rfl, hb1⟩
  have C3 := hide (C2.out w1 hb1)
  have HB1 := hide hb1
  clear hb1 C1 C2
  go_wp2_with fail
  refine C3.out.mono ?_
  rintro e w2 ⟨rfl, hb2⟩
  have HB2 := hide (HB1.out.trans (hb2.mono HB1.out.size))
  clear hb2 HB1 C3
  go_wp2
  go_ret
  exact ⟨rfl, HB2.out⟩

set_option maxHeartbeats 1000000 in
theorem with_pm_true (vl vx vh : Value) (l x h : Nat) (w : World) (hl : Nr w vl l) (hx : Nr w vx x) (hh : Nr w vh h) (sl : Sm l) (sx : Sm x) (sh : Sm h) (z1 : cmpN l x = 1) (z2 : cmpN x h = -1) :
    Calls Tryz.prog 31 #[vl, vx, vh, .bool true] w fun e w' => e = .returned (.bool false) ∧ Below w.heap.size w w' := by
  have C1 := hide (nr_cmp vl vx l x _ w hl hx sl sx z1)
  have C2 := hide (fun W (hW : Below w.heap.size w W) => nr_cmp vx vh x h _ W (hx.below hW) (hh.below hW) sx sh z2)
  clear hl hx hh sl sx sh z1 z2
  go_enter Tryz.func31, Tryz.ntmps31
  go_wp2_with fail
  refine C1.out.mono ?_
  rintro e w1 ⟨rfl, hb1⟩
  have C3 := hide (C2.out w1 hb1)
  have HB1 := hide hb1
  clear hb1 C1 C2
  go_wp2_with fail
  refine C3.out.mono ?_
  rintro e w2 ⟨rfl, hb2⟩
  have HB2 := hide (HB1.out.trans (hb2.mono HB1.out.size))
  clear hb2 HB1 C3
  go_wp2
  go_ret
  exact ⟨rfl, HB2.out⟩

set_option maxHeartbeats 1000000 in
theorem with_pm_false (vl vx vh : Value) (l x h : Nat) (w : World) (hl : Nr w vl l) (hx : Nr w vx x) (hh : Nr w vh h) (sl : Sm l) (sx : Sm x) (sh : Sm h) (z1 : cmpN l x = 1) (z2 : cmpN x h = -1) :
    Calls Tryz.prog 31 #[vl, vx, vh, .bool false] w fun e w' => e = .returned (.bool false) ∧ Below w.heap.size w w' := by
  have C1 := hide (nr_cmp vl vx l x _ w hl hx sl sx z1)
  have C2 := hide (fun W (hW : Below w.heap.size w W) => nr_cmp vx vh x h _ W (hx.below hW) (hh.below hW) sx sh z2)
  clear hl hx hh sl sx sh z1 z2
  go_enter Tryz.func31, Tryz.ntmps31
  go_wp2_with fail
  refine C1.out.mono ?_
  rintro e w1 ⟨rfl, hb1⟩
  have C3 := hide (C2.out w1 hb1)
  have HB1 := hide hb1
  clear hb1 C1 C2
  go_wp2_with fail
  refine C3.out.mono ?_
  rintro e w2 ⟨rfl, hb2⟩
  have HB2 := hide (HB1.out.trans (hb2.mono HB1.out.size))
  clear hb2 HB1 C3
  go_wp2
  go_ret
  exact ⟨rfl, HB2.out⟩

set_option maxHeartbeats 1000000 in
theorem with_mz_true (vl vx vh : Value) (l x h : Nat) (w : World) (hl : Nr w vl l) (hx : Nr w vx x) (hh : Nr w vh h) (sl : Sm l) (sx : Sm x) (sh : Sm h) (z1 : cmpN l x = -1) (z2 : cmpN x h = 0) :
    Calls Tryz.prog 31 #[vl, vx, vh, .bool true] w fun e w' => e = .returned (.bool true) ∧ Below w.heap.size w w' := by
  have C1 := hide (nr_cmp vl vx l x _ w hl hx sl sx z1)
  have C2 := hide (fun W (hW : Below w.heap.size w W) => nr_cmp vx vh x h _ W (hx.below hW) (hh.below hW) sx sh z2)
  clear hl hx hh sl sx sh z1 z2
  go_enter Tryz.func31, Tryz.ntmps31
  go_wp2_with fail
  refine C1.out.mono ?_
  rintro e w1 ⟨rfl, hb1⟩
  have C3 := hide (C2.out w1 hb1)
  have HB1 := hide hb1
  clear hb1 C1 C2
  go_wp2_with fail
  refine C3.out.mono ?_
  rintro e w2 ⟨rfl, hb2⟩
  have HB2 := hide (HB1.out.trans (hb2.mono HB1.out.size))
  clear hb2 HB1 C3
  go_wp2
  go_ret
  exact ⟨rfl, HB2.out⟩

set_option maxHeartbeats 1000000 in
theorem with_mz_false (vl vx vh : Value) (l x h : Nat) (w : World) (hl : Nr w vl l) (hx : Nr w vx x) (hh : Nr w vh h) (sl : Sm l) (sx : Sm x) (sh : Sm h) (z1 : cmpN l x = -1) (z2 : cmpN x h = 0) :
    Calls Tryz.prog 31 #[vl, vx, vh, .bool false] w fun e w' => e = .returned (.bool false) ∧ Below w.heap.size w w' := by
  have C1 := hide (nr_cmp vl vx l x _ w hl hx sl sx z1)
  have C2 := hide (fun W (hW : Below w.heap.size w W) => nr_cmp vx vh x h _ W (hx.below hW) (hh.below hW) sx sh z2)
  clear hl hx hh sl sx sh z1 z2
  go_enter Tryz.func31, Tryz.ntmps31
  go_wp2_with fail
  refine C1.out.mono ?_
  rintro e w1 ⟨rfl, hb1⟩
  have C3 := hide (C2.out w1 hb1)
  have HB1 := hide hb1
  clear hb1 C1 C2
  go_wp2_with fail
  refine C3.out.mono ?_
  rintro e w2 ⟨rfl, hb2⟩
  have HB2 := hide (HB1.out.trans (hb2.mono HB1.out.size))
  clear hb2 HB1 C3
  go_wp2
  go_ret
  exact ⟨rfl, HB2.out⟩

set_option maxHeartbeats 1000000 in
theorem with_mp_true (vl vx vh : Value) (l x h : Nat) (w : World) (hl : Nr w vl l) (hx : Nr w vx x) (hh : Nr w vh h) (sl : Sm l) (sx : Sm x) (sh : Sm h) (z1 : cmpN l x = -1) (z2 : cmpN x h = 1) :
    Calls Tryz.prog 31 #[vl, vx, vh, .bool true] w fun e w' => e = .returned (.bool false) ∧ Below w.heap.size w w' := by
  have C1 := hide (nr_cmp vl vx l x _ w hl hx sl sx z1)
  have C2 := hide (fun W (hW : Below w.heap.size w W) => nr_cmp vx vh x h _ W (hx.below hW) (hh.below hW) sx sh z2)
  clear hl hx hh sl sx sh z1 z2
  go_enter Tryz.func31, Tryz.ntmps31
  go_wp2_with fail
  refine C1.out.mono ?_
  rintro e w1 ⟨rfl, hb1⟩
  have C3 := hide (C2.out w1 hb1)
  have HB1 := hide hb1
  clear hb1 C1 C2
  go_wp2_with fail
  refine C3.out.mono ?_
  rintro e w2 ⟨rfl, hb2⟩
  have HB2 := hide (HB1.out.trans (hb2.mono HB1.out.size))
  clear hb2 HB1 C3
  go_wp2
  go_ret
  exact ⟨rfl, HB2.out⟩

set_option maxHeartbeats 1000000 in
theorem with_mp_false (vl vx vh : Value) (l x h : Nat) (w : World) (hl : Nr w vl l) (hx : Nr w vx x) (hh : Nr w vh h) (sl : Sm l) (sx : Sm x) (sh : Sm h) (z1 : cmpN l x = -1) (z2 : cmpN x h = 1) :
    Calls Tryz.prog 31 #[vl, vx, vh, .bool false] w fun e w' => e = .returned (.bool false) ∧ Below w.heap.size w w' := by
  have C1 := hide (nr_cmp vl vx l x _ w hl hx sl sx z1)
  have C2 := hide (fun W (hW : Below w.heap.size w W) => nr_cmp vx vh x h _ W (hx.below hW) (hh.below hW) sx sh z2)
  clear hl hx hh sl sx sh z1 z2
  go_enter Tryz.func31, Tryz.ntmps31
  go_wp2_with fail
  refine C1.out.mono ?_
  rintro e w1 ⟨rfl, hb1⟩
  have C3 := hide (C2.out w1 hb1)
  have HB1 := hide hb1
  clear hb1 C1 C2
  go_wp2_with fail
  refine C3.out.mono ?_
  rintro e w2 ⟨rfl, hb2⟩
  have HB2 := hide (HB1.out.trans (hb2.mono HB1.out.size))
  clear hb2 HB1 C3
  go_wp2
  go_ret
  exact ⟨rfl, HB2.out⟩

/-- Is x in reach? The one end is l, the other is far. -/
theorem within_lo (ends : Bool) (vl vx vh : Value) (A lo d h : Nat) (w : World) (hl : Nr w vl (A - lo)) (hx : Nr w vx (A - d)) (hh : Nr w vh h) (sl : Sm (A - lo)) (sx : Sm (A - d)) (sh : Sm h) (hlo : lo ≤ A) (hd : d ≤ A) (hA : A < h) :
    Calls Tryz.prog 31 #[vl, vx, vh, .bool ends] w fun e w' => e = .returned (.bool (heldN ends d lo)) ∧ Below w.heap.size w w' := by
  have z2 : cmpN (A - d) h = -1 := by unfold cmpN; rw [if_pos (by omega)]
  rcases Nat.lt_trichotomy d lo with hc | hc | hc
  · have z1 : cmpN (A - lo) (A - d) = -1 := by unfold cmpN; rw [if_pos (by omega)]
    rw [heldN_lt hc]
    cases ends
    · exact with_mm_false vl vx vh _ _ _ w hl hx hh sl sx sh z1 z2
    · exact with_mm_true vl vx vh _ _ _ w hl hx hh sl sx sh z1 z2
  · have z1 : cmpN (A - lo) (A - d) = 0 := by unfold cmpN; rw [if_neg (by omega), if_neg (by omega)]
    have e : heldN ends d lo = ends := by unfold heldN; simp [hc]
    rw [e]
    cases ends
    · exact with_zm_false vl vx vh _ _ _ w hl hx hh sl sx sh z1 z2
    · exact with_zm_true vl vx vh _ _ _ w hl hx hh sl sx sh z1 z2
  · have z1 : cmpN (A - lo) (A - d) = 1 := by unfold cmpN; rw [if_neg (by omega), if_pos (by omega)]
    have e : heldN ends d lo = false := by
      have h1 : ¬ d < lo := by omega
      have h2 : ¬ d = lo := by omega
      unfold heldN; simp [h1, h2]
    rw [e]
    cases ends
    · exact with_pm_false vl vx vh _ _ _ w hl hx hh sl sx sh z1 z2
    · exact with_pm_true vl vx vh _ _ _ w hl hx hh sl sx sh z1 z2

theorem within_hi (ends : Bool) (vl vx vh : Value) (A hi d l : Nat) (w : World) (hl : Nr w vl l) (hx : Nr w vx (A + d)) (hh : Nr w vh (A + hi)) (sl : Sm l) (sx : Sm (A + d)) (sh : Sm (A + hi)) (hA : l < A) :
    Calls Tryz.prog 31 #[vl, vx, vh, .bool ends] w fun e w' => e = .returned (.bool (heldN ends d hi)) ∧ Below w.heap.size w w' := by
  have z1 : cmpN l (A + d) = -1 := by unfold cmpN; rw [if_pos (by omega)]
  rcases Nat.lt_trichotomy d hi with hc | hc | hc
  · have z2 : cmpN (A + d) (A + hi) = -1 := by unfold cmpN; rw [if_pos (by omega)]
    rw [heldN_lt hc]
    cases ends
    · exact with_mm_false vl vx vh _ _ _ w hl hx hh sl sx sh z1 z2
    · exact with_mm_true vl vx vh _ _ _ w hl hx hh sl sx sh z1 z2
  · have z2 : cmpN (A + d) (A + hi) = 0 := by unfold cmpN; rw [if_neg (by omega), if_neg (by omega)]
    have e : heldN ends d hi = ends := by unfold heldN; simp [hc]
    rw [e]
    cases ends
    · exact with_mz_false vl vx vh _ _ _ w hl hx hh sl sx sh z1 z2
    · exact with_mz_true vl vx vh _ _ _ w hl hx hh sl sx sh z1 z2
  · have z2 : cmpN (A + d) (A + hi) = 1 := by unfold cmpN; rw [if_neg (by omega), if_pos (by omega)]
    have e : heldN ends d hi = false := by
      have h1 : ¬ d < hi := by omega
      have h2 : ¬ d = hi := by omega
      unfold heldN; simp [h1, h2]
    rw [e]
    cases ends
    · exact with_mp_false vl vx vh _ _ _ w hl hx hh sl sx sh z1 z2
    · exact with_mp_true vl vx vh _ _ _ w hl hx hh sl sx sh z1 z2

/-- What reach answers: the ends and the amount in quarters, and whether the ends are in reach. -/
def RrPost (w : World) (lo N : Nat) (clo : Bool) (e : Ending) (w' : World) : Prop :=
  ∃ o1 c1 l1 o2 c2 l2 o3 c3 l3, e = .returned (.tuple #[.slice o1 l1 c1, .slice o2 l2 c2, .slice o3 l3 c3, .bool clo]) ∧ Nr w' (.slice o1 l1 c1) (N * 4 - lo) ∧ Nr w' (.slice o2 l2 c2) (N * 4) ∧ Nr w' (.slice o3 l3 c3) (N * 4 + 2) ∧ Below w.heap.size w w'

set_option maxHeartbeats 1000000 in
theorem rreach64_one (N : Nat) (ex : Int) (w : World) (_hN : 1 ≤ N ∧ N < 9007199254740992) (h1 : (N : Int) = 4503599627370496) (h2 : (-1074 : Int) < ex) :
    Calls Tryz.prog 24 #[k64, .int .u64 (N : Int), .int .i64 ex] w (RrPost w 1 N (decide (N % 2 = 0))) := by
  have L : Hid (∀ (z : Int) (n : Nat) W, z = (n : Int) → n < 36028797018963970 → Calls Tryz.prog 37 #[.int .u64 z] W (NrPost W n)) := by
    intro z n W hz hn
    subst hz
    exact limb_call n W (by unfold B64; omega)
  have HB0 : Hid (Below w.heap.size w (w.alloc (.cells #[.int .i64 52, .int .i64 11] 28))) := (Below.refl _ _).alloc (Nat.le_refl _) _
  have BLK := hide (Blk.new w #[.int .i64 52, .int .i64 11] 28)
  have ODD : Hid (((N : Int) % 2 == 0) = decide (N % 2 = 0)) := by
    by_cases h : N % 2 = 0
    · have : (N : Int) % 2 = 0 := by omega
      show ((N : Int) % 2 == 0) = decide (N % 2 = 0)
      rw [this, decide_eq_true h]; rfl
    · have h' : ¬ (N : Int) % 2 = 0 := by omega
      show ((N : Int) % 2 == 0) = decide (N % 2 = 0)
      rw [decide_eq_false h]; simpa using h'
  go_enter Tryz.func24, Tryz.ntmps24
  go_wp2_with fail
  refine (L.out _ (N * 4 - 2) _ (by omega) (by omega)).mono ?_
  rintro e w1 ⟨o1, c1, l1, rfl, n1, hb1⟩
  have HB1 := hide (HB0.out.trans (hb1.mono (by simp)))
  have N1 := hide n1
  have B1 := BLK.out.below hb1 BLK.out.lt
  have c0 : w1.cell? ⟨w.heap.size, 0, none⟩ = some (.int .i64 52) := B1.cell 0
  have c1' : w1.cell? ⟨w.heap.size, 1, none⟩ = some (.int .i64 11) := B1.cell 1
  clear n1 hb1 HB0 BLK B1
  go_wp2_with fail
  refine (bias64 _).mono ?_
  rintro e w2 ⟨rfl, hb2⟩
  have HB2 := hide (HB1.out.trans (hb2.mono HB1.out.size))
  have N2 := hide (N1.out.below hb2)
  clear hb2 HB1 N1 c0 c1'
  go_wp2_with fail
  refine (L.out _ (N * 4 - 1) _ (by omega) (by omega)).mono ?_
  rintro e w3 ⟨o1, c1, l1, rfl, n3, hb3⟩
  have HB3 := hide (HB2.out.trans (hb3.mono HB2.out.size))
  have N3 := hide n3
  clear hb3 HB2 n3 N2
  go_wp2_with fail
  refine (L.out _ (N * 4) _ (by omega) (by omega)).mono ?_
  rintro e w4 ⟨o2, c2, l2, rfl, n4, hb4⟩
  have HB4 := hide (HB3.out.trans (hb4.mono HB3.out.size))
  have N4 := hide (N3.out.below hb4)
  have M4 := hide n4
  clear hb4 HB3 n4 N3
  go_wp2_with fail
  refine (L.out _ (N * 4 + 2) _ (by omega) (by omega)).mono ?_
  rintro e w5 ⟨o3, c3, l3, rfl, n5, hb5⟩
  have FIN : Hid (RrPost w 1 N (decide (N % 2 = 0)) (.returned (.tuple #[.slice o1 l1 c1, .slice o2 l2 c2, .slice o3 l3 c3, .bool (true)])) w5) := ⟨o1, c1, l1, o2, c2, l2, o3, c3, l3, by rw [decide_eq_true (show N % 2 = 0 by omega)], N4.out.below hb5, M4.out.below hb5, n5, HB4.out.trans (hb5.mono HB4.out.size)⟩
  clear hb5 n5 N4 M4 HB4 L ODD
  go_wp2
  refine bodyPost_ret (results_tmp4 rfl _ _ _) rfl ?_
  exact FIN.out

set_option maxHeartbeats 1000000 in
theorem rreach64_low (N : Nat) (ex : Int) (w : World) (_hN : 1 ≤ N ∧ N < 9007199254740992) (h1 : (N : Int) = 4503599627370496) (h2 : ¬ (-1074 : Int) < ex) :
    Calls Tryz.prog 24 #[k64, .int .u64 (N : Int), .int .i64 ex] w (RrPost w 2 N (decide (N % 2 = 0))) := by
  have L : Hid (∀ (z : Int) (n : Nat) W, z = (n : Int) → n < 36028797018963970 → Calls Tryz.prog 37 #[.int .u64 z] W (NrPost W n)) := by
    intro z n W hz hn
    subst hz
    exact limb_call n W (by unfold B64; omega)
  have HB0 : Hid (Below w.heap.size w (w.alloc (.cells #[.int .i64 52, .int .i64 11] 28))) := (Below.refl _ _).alloc (Nat.le_refl _) _
  have BLK := hide (Blk.new w #[.int .i64 52, .int .i64 11] 28)
  have ODD : Hid (((N : Int) % 2 == 0) = decide (N % 2 = 0)) := by
    by_cases h : N % 2 = 0
    · have : (N : Int) % 2 = 0 := by omega
      show ((N : Int) % 2 == 0) = decide (N % 2 = 0)
      rw [this, decide_eq_true h]; rfl
    · have h' : ¬ (N : Int) % 2 = 0 := by omega
      show ((N : Int) % 2 == 0) = decide (N % 2 = 0)
      rw [decide_eq_false h]; simpa using h'
  go_enter Tryz.func24, Tryz.ntmps24
  go_wp2_with fail
  refine (L.out _ (N * 4 - 2) _ (by omega) (by omega)).mono ?_
  rintro e w1 ⟨o1, c1, l1, rfl, n1, hb1⟩
  have HB1 := hide (HB0.out.trans (hb1.mono (by simp)))
  have N1 := hide n1
  have B1 := BLK.out.below hb1 BLK.out.lt
  have c0 : w1.cell? ⟨w.heap.size, 0, none⟩ = some (.int .i64 52) := B1.cell 0
  have c1' : w1.cell? ⟨w.heap.size, 1, none⟩ = some (.int .i64 11) := B1.cell 1
  clear n1 hb1 HB0 BLK B1
  go_wp2_with fail
  refine (bias64 _).mono ?_
  rintro e w2 ⟨rfl, hb2⟩
  have HB2 := hide (HB1.out.trans (hb2.mono HB1.out.size))
  have N2 := hide (N1.out.below hb2)
  clear hb2 HB1 N1 c0 c1'
  go_wp2_with fail
  refine (L.out _ (N * 4) _ (by omega) (by omega)).mono ?_
  rintro e w4 ⟨o2, c2, l2, rfl, n4, hb4⟩
  have HB4 := hide (HB2.out.trans (hb4.mono HB2.out.size))
  have N4 := hide (N2.out.below hb4)
  have M4 := hide n4
  clear hb4 HB2 n4 N2
  go_wp2_with fail
  refine (L.out _ (N * 4 + 2) _ (by omega) (by omega)).mono ?_
  rintro e w5 ⟨o3, c3, l3, rfl, n5, hb5⟩
  have FIN : Hid (RrPost w 2 N (decide (N % 2 = 0)) (.returned (.tuple #[.slice o1 l1 c1, .slice o2 l2 c2, .slice o3 l3 c3, .bool (true)])) w5) := ⟨o1, c1, l1, o2, c2, l2, o3, c3, l3, by rw [decide_eq_true (show N % 2 = 0 by omega)], N4.out.below hb5, M4.out.below hb5, n5, HB4.out.trans (hb5.mono HB4.out.size)⟩
  clear hb5 n5 N4 M4 HB4 L ODD
  go_wp2
  refine bodyPost_ret (results_tmp4 rfl _ _ _) rfl ?_
  exact FIN.out

set_option maxHeartbeats 1000000 in
theorem rreach64_two (N : Nat) (ex : Int) (w : World) (_hN : 1 ≤ N ∧ N < 9007199254740992) (h1 : ¬ (N : Int) = 4503599627370496) :
    Calls Tryz.prog 24 #[k64, .int .u64 (N : Int), .int .i64 ex] w (RrPost w 2 N (decide (N % 2 = 0))) := by
  have L : Hid (∀ (z : Int) (n : Nat) W, z = (n : Int) → n < 36028797018963970 → Calls Tryz.prog 37 #[.int .u64 z] W (NrPost W n)) := by
    intro z n W hz hn
    subst hz
    exact limb_call n W (by unfold B64; omega)
  have HB0 : Hid (Below w.heap.size w (w.alloc (.cells #[.int .i64 52, .int .i64 11] 28))) := (Below.refl _ _).alloc (Nat.le_refl _) _
  have BLK := hide (Blk.new w #[.int .i64 52, .int .i64 11] 28)
  have ODD : Hid (((N : Int) % 2 == 0) = decide (N % 2 = 0)) := by
    by_cases h : N % 2 = 0
    · have : (N : Int) % 2 = 0 := by omega
      show ((N : Int) % 2 == 0) = decide (N % 2 = 0)
      rw [this, decide_eq_true h]; rfl
    · have h' : ¬ (N : Int) % 2 = 0 := by omega
      show ((N : Int) % 2 == 0) = decide (N % 2 = 0)
      rw [decide_eq_false h]; simpa using h'
  go_enter Tryz.func24, Tryz.ntmps24
  go_wp2_with fail
  refine (L.out _ (N * 4 - 2) _ (by omega) (by omega)).mono ?_
  rintro e w1 ⟨o1, c1, l1, rfl, n1, hb1⟩
  have HB1 := hide (HB0.out.trans (hb1.mono (by simp)))
  have N1 := hide n1
  have B1 := BLK.out.below hb1 BLK.out.lt
  have c0 : w1.cell? ⟨w.heap.size, 0, none⟩ = some (.int .i64 52) := B1.cell 0
  have c1' : w1.cell? ⟨w.heap.size, 1, none⟩ = some (.int .i64 11) := B1.cell 1
  clear n1 hb1 HB0 BLK B1
  go_wp2_with fail
  refine (L.out _ (N * 4) _ (by omega) (by omega)).mono ?_
  rintro e w4 ⟨o2, c2, l2, rfl, n4, hb4⟩
  have HB4 := hide (HB1.out.trans (hb4.mono HB1.out.size))
  have N4 := hide (N1.out.below hb4)
  have M4 := hide n4
  clear hb4 HB1 n4 N1
  go_wp2_with fail
  refine (L.out _ (N * 4 + 2) _ (by omega) (by omega)).mono ?_
  rintro e w5 ⟨o3, c3, l3, rfl, n5, hb5⟩
  have FIN : Hid (RrPost w 2 N (decide (N % 2 = 0)) (.returned (.tuple #[.slice o1 l1 c1, .slice o2 l2 c2, .slice o3 l3 c3, .bool ((N : Int) % 2 == 0)])) w5) := ⟨o1, c1, l1, o2, c2, l2, o3, c3, l3, by rw [ODD.out], N4.out.below hb5, M4.out.below hb5, n5, HB4.out.trans (hb5.mono HB4.out.size)⟩
  clear hb5 n5 N4 M4 HB4 L ODD
  go_wp2
  refine bodyPost_ret (results_tmp4 rfl _ _ _) rfl ?_
  exact FIN.out

set_option maxHeartbeats 1000000 in
theorem rreach32_one (N : Nat) (ex : Int) (w : World) (_hN : 1 ≤ N ∧ N < 9007199254740992) (h1 : (N : Int) = 8388608) (h2 : (-149 : Int) < ex) :
    Calls Tryz.prog 24 #[k32, .int .u64 (N : Int), .int .i64 ex] w (RrPost w 1 N (decide (N % 2 = 0))) := by
  have L : Hid (∀ (z : Int) (n : Nat) W, z = (n : Int) → n < 36028797018963970 → Calls Tryz.prog 37 #[.int .u64 z] W (NrPost W n)) := by
    intro z n W hz hn
    subst hz
    exact limb_call n W (by unfold B64; omega)
  have HB0 : Hid (Below w.heap.size w (w.alloc (.cells #[.int .i64 23, .int .i64 8] 28))) := (Below.refl _ _).alloc (Nat.le_refl _) _
  have BLK := hide (Blk.new w #[.int .i64 23, .int .i64 8] 28)
  have ODD : Hid (((N : Int) % 2 == 0) = decide (N % 2 = 0)) := by
    by_cases h : N % 2 = 0
    · have : (N : Int) % 2 = 0 := by omega
      show ((N : Int) % 2 == 0) = decide (N % 2 = 0)
      rw [this, decide_eq_true h]; rfl
    · have h' : ¬ (N : Int) % 2 = 0 := by omega
      show ((N : Int) % 2 == 0) = decide (N % 2 = 0)
      rw [decide_eq_false h]; simpa using h'
  go_enter Tryz.func24, Tryz.ntmps24
  go_wp2_with fail
  refine (L.out _ (N * 4 - 2) _ (by omega) (by omega)).mono ?_
  rintro e w1 ⟨o1, c1, l1, rfl, n1, hb1⟩
  have HB1 := hide (HB0.out.trans (hb1.mono (by simp)))
  have N1 := hide n1
  have B1 := BLK.out.below hb1 BLK.out.lt
  have c0 : w1.cell? ⟨w.heap.size, 0, none⟩ = some (.int .i64 23) := B1.cell 0
  have c1' : w1.cell? ⟨w.heap.size, 1, none⟩ = some (.int .i64 8) := B1.cell 1
  clear n1 hb1 HB0 BLK B1
  go_wp2_with fail
  refine (bias32 _).mono ?_
  rintro e w2 ⟨rfl, hb2⟩
  have HB2 := hide (HB1.out.trans (hb2.mono HB1.out.size))
  have N2 := hide (N1.out.below hb2)
  clear hb2 HB1 N1 c0 c1'
  go_wp2_with fail
  refine (L.out _ (N * 4 - 1) _ (by omega) (by omega)).mono ?_
  rintro e w3 ⟨o1, c1, l1, rfl, n3, hb3⟩
  have HB3 := hide (HB2.out.trans (hb3.mono HB2.out.size))
  have N3 := hide n3
  clear hb3 HB2 n3 N2
  go_wp2_with fail
  refine (L.out _ (N * 4) _ (by omega) (by omega)).mono ?_
  rintro e w4 ⟨o2, c2, l2, rfl, n4, hb4⟩
  have HB4 := hide (HB3.out.trans (hb4.mono HB3.out.size))
  have N4 := hide (N3.out.below hb4)
  have M4 := hide n4
  clear hb4 HB3 n4 N3
  go_wp2_with fail
  refine (L.out _ (N * 4 + 2) _ (by omega) (by omega)).mono ?_
  rintro e w5 ⟨o3, c3, l3, rfl, n5, hb5⟩
  have FIN : Hid (RrPost w 1 N (decide (N % 2 = 0)) (.returned (.tuple #[.slice o1 l1 c1, .slice o2 l2 c2, .slice o3 l3 c3, .bool (true)])) w5) := ⟨o1, c1, l1, o2, c2, l2, o3, c3, l3, by rw [decide_eq_true (show N % 2 = 0 by omega)], N4.out.below hb5, M4.out.below hb5, n5, HB4.out.trans (hb5.mono HB4.out.size)⟩
  clear hb5 n5 N4 M4 HB4 L ODD
  go_wp2
  refine bodyPost_ret (results_tmp4 rfl _ _ _) rfl ?_
  exact FIN.out

set_option maxHeartbeats 1000000 in
theorem rreach32_low (N : Nat) (ex : Int) (w : World) (_hN : 1 ≤ N ∧ N < 9007199254740992) (h1 : (N : Int) = 8388608) (h2 : ¬ (-149 : Int) < ex) :
    Calls Tryz.prog 24 #[k32, .int .u64 (N : Int), .int .i64 ex] w (RrPost w 2 N (decide (N % 2 = 0))) := by
  have L : Hid (∀ (z : Int) (n : Nat) W, z = (n : Int) → n < 36028797018963970 → Calls Tryz.prog 37 #[.int .u64 z] W (NrPost W n)) := by
    intro z n W hz hn
    subst hz
    exact limb_call n W (by unfold B64; omega)
  have HB0 : Hid (Below w.heap.size w (w.alloc (.cells #[.int .i64 23, .int .i64 8] 28))) := (Below.refl _ _).alloc (Nat.le_refl _) _
  have BLK := hide (Blk.new w #[.int .i64 23, .int .i64 8] 28)
  have ODD : Hid (((N : Int) % 2 == 0) = decide (N % 2 = 0)) := by
    by_cases h : N % 2 = 0
    · have : (N : Int) % 2 = 0 := by omega
      show ((N : Int) % 2 == 0) = decide (N % 2 = 0)
      rw [this, decide_eq_true h]; rfl
    · have h' : ¬ (N : Int) % 2 = 0 := by omega
      show ((N : Int) % 2 == 0) = decide (N % 2 = 0)
      rw [decide_eq_false h]; simpa using h'
  go_enter Tryz.func24, Tryz.ntmps24
  go_wp2_with fail
  refine (L.out _ (N * 4 - 2) _ (by omega) (by omega)).mono ?_
  rintro e w1 ⟨o1, c1, l1, rfl, n1, hb1⟩
  have HB1 := hide (HB0.out.trans (hb1.mono (by simp)))
  have N1 := hide n1
  have B1 := BLK.out.below hb1 BLK.out.lt
  have c0 : w1.cell? ⟨w.heap.size, 0, none⟩ = some (.int .i64 23) := B1.cell 0
  have c1' : w1.cell? ⟨w.heap.size, 1, none⟩ = some (.int .i64 8) := B1.cell 1
  clear n1 hb1 HB0 BLK B1
  go_wp2_with fail
  refine (bias32 _).mono ?_
  rintro e w2 ⟨rfl, hb2⟩
  have HB2 := hide (HB1.out.trans (hb2.mono HB1.out.size))
  have N2 := hide (N1.out.below hb2)
  clear hb2 HB1 N1 c0 c1'
  go_wp2_with fail
  refine (L.out _ (N * 4) _ (by omega) (by omega)).mono ?_
  rintro e w4 ⟨o2, c2, l2, rfl, n4, hb4⟩
  have HB4 := hide (HB2.out.trans (hb4.mono HB2.out.size))
  have N4 := hide (N2.out.below hb4)
  have M4 := hide n4
  clear hb4 HB2 n4 N2
  go_wp2_with fail
  refine (L.out _ (N * 4 + 2) _ (by omega) (by omega)).mono ?_
  rintro e w5 ⟨o3, c3, l3, rfl, n5, hb5⟩
  have FIN : Hid (RrPost w 2 N (decide (N % 2 = 0)) (.returned (.tuple #[.slice o1 l1 c1, .slice o2 l2 c2, .slice o3 l3 c3, .bool (true)])) w5) := ⟨o1, c1, l1, o2, c2, l2, o3, c3, l3, by rw [decide_eq_true (show N % 2 = 0 by omega)], N4.out.below hb5, M4.out.below hb5, n5, HB4.out.trans (hb5.mono HB4.out.size)⟩
  clear hb5 n5 N4 M4 HB4 L ODD
  go_wp2
  refine bodyPost_ret (results_tmp4 rfl _ _ _) rfl ?_
  exact FIN.out

set_option maxHeartbeats 1000000 in
theorem rreach32_two (N : Nat) (ex : Int) (w : World) (_hN : 1 ≤ N ∧ N < 9007199254740992) (h1 : ¬ (N : Int) = 8388608) :
    Calls Tryz.prog 24 #[k32, .int .u64 (N : Int), .int .i64 ex] w (RrPost w 2 N (decide (N % 2 = 0))) := by
  have L : Hid (∀ (z : Int) (n : Nat) W, z = (n : Int) → n < 36028797018963970 → Calls Tryz.prog 37 #[.int .u64 z] W (NrPost W n)) := by
    intro z n W hz hn
    subst hz
    exact limb_call n W (by unfold B64; omega)
  have HB0 : Hid (Below w.heap.size w (w.alloc (.cells #[.int .i64 23, .int .i64 8] 28))) := (Below.refl _ _).alloc (Nat.le_refl _) _
  have BLK := hide (Blk.new w #[.int .i64 23, .int .i64 8] 28)
  have ODD : Hid (((N : Int) % 2 == 0) = decide (N % 2 = 0)) := by
    by_cases h : N % 2 = 0
    · have : (N : Int) % 2 = 0 := by omega
      show ((N : Int) % 2 == 0) = decide (N % 2 = 0)
      rw [this, decide_eq_true h]; rfl
    · have h' : ¬ (N : Int) % 2 = 0 := by omega
      show ((N : Int) % 2 == 0) = decide (N % 2 = 0)
      rw [decide_eq_false h]; simpa using h'
  go_enter Tryz.func24, Tryz.ntmps24
  go_wp2_with fail
  refine (L.out _ (N * 4 - 2) _ (by omega) (by omega)).mono ?_
  rintro e w1 ⟨o1, c1, l1, rfl, n1, hb1⟩
  have HB1 := hide (HB0.out.trans (hb1.mono (by simp)))
  have N1 := hide n1
  have B1 := BLK.out.below hb1 BLK.out.lt
  have c0 : w1.cell? ⟨w.heap.size, 0, none⟩ = some (.int .i64 23) := B1.cell 0
  have c1' : w1.cell? ⟨w.heap.size, 1, none⟩ = some (.int .i64 8) := B1.cell 1
  clear n1 hb1 HB0 BLK B1
  go_wp2_with fail
  refine (L.out _ (N * 4) _ (by omega) (by omega)).mono ?_
  rintro e w4 ⟨o2, c2, l2, rfl, n4, hb4⟩
  have HB4 := hide (HB1.out.trans (hb4.mono HB1.out.size))
  have N4 := hide (N1.out.below hb4)
  have M4 := hide n4
  clear hb4 HB1 n4 N1
  go_wp2_with fail
  refine (L.out _ (N * 4 + 2) _ (by omega) (by omega)).mono ?_
  rintro e w5 ⟨o3, c3, l3, rfl, n5, hb5⟩
  have FIN : Hid (RrPost w 2 N (decide (N % 2 = 0)) (.returned (.tuple #[.slice o1 l1 c1, .slice o2 l2 c2, .slice o3 l3 c3, .bool ((N : Int) % 2 == 0)])) w5) := ⟨o1, c1, l1, o2, c2, l2, o3, c3, l3, by rw [ODD.out], N4.out.below hb5, M4.out.below hb5, n5, HB4.out.trans (hb5.mono HB4.out.size)⟩
  clear hb5 n5 N4 M4 HB4 L ODD
  go_wp2
  refine bodyPost_ret (results_tmp4 rfl _ _ _) rfl ?_
  exact FIN.out

end Go.Proofs.YtpiloigpncbccaaGreatDoor

namespace Go.Proofs.YtpiloigpncbccaaGreatDoor
open Go.RowKit

/-- The fields of a float of 64 bits. -/
theorem fields64 (b : Nat) (hb : b < 18446744073709551616) : ∃ x m : Nat, x = b / 2 ^ 52 % 2 ^ 11 ∧ m = b % 2 ^ 52 ∧ x ≤ 2047 ∧ m < 4503599627370496 ∧ bits .and .u64 ((b : Int) / 4503599627370496) 2047 = (x : Int) ∧ bits .and .u64 (b : Int) 4503599627370495 = (m : Int) ∧
    ((b / 2 ^ 52 / 2 ^ 11 ≠ 0 ∧ bits .and .u64 ((b : Int) / 9223372036854775808) 1 = 1) ∨ (b / 2 ^ 52 / 2 ^ 11 = 0 ∧ bits .and .u64 ((b : Int) / 9223372036854775808) 1 = 0)) := by
  have e1 : (2 : Nat) ^ 52 = 4503599627370496 := by decide
  have e2 : (2 : Nat) ^ 11 = 2048 := by decide
  refine ⟨_, _, rfl, rfl, ?_, ?_, ?_, ?_, ?_⟩
  · rw [e2]; omega
  · rw [e1]; omega
  · have h := mask 11 2047 (b / 4503599627370496) (by decide) (by omega) (by omega)
    rw [e1, e2, show (b : Int) / 4503599627370496 = ((b / 4503599627370496 : Nat) : Int) by omega]
    exact h
  · have h := mask 52 4503599627370495 b (by decide) (by omega) (by omega)
    rw [e1]
    exact h
  · have h := mask 1 1 (b / 9223372036854775808) (by decide) (by omega) (by omega)
    rw [show (b : Int) / 9223372036854775808 = ((b / 9223372036854775808 : Nat) : Int) by omega, e1, e2]
    rcases Nat.lt_or_ge b 9223372036854775808 with h1 | h1
    · right
      refine ⟨by omega, h.trans ?_⟩
      rw [Nat.div_eq_of_lt h1]; rfl
    · left
      refine ⟨by omega, h.trans ?_⟩
      rw [show b / 9223372036854775808 = 1 by omega]; rfl

/-- Exact, where Parts answers a class that is not finite. -/
theorem rexact64_no (b : Nat) (w : World) (c : Int) (neg : Bool) (hc : ¬ c = 0)
    (PT : ∀ W, Calls Tryz.prog 23 #[k64, .int .u64 (b : Int)] W fun e w' => e = .returned (.tuple #[.bool neg, .int .i64 c, .int .u64 0, .int .i64 0]) ∧ Below W.heap.size W w') :
    Calls Tryz.prog 15 #[k64, .int .u64 (b : Int)] w fun e w' => e = .returned (.agg #[.int .i64 c, .bool neg, .string ⟨#[]⟩, .int .i64 0]) ∧ Below w.heap.size w w' := by
  have PTH := hide PT
  have HB0 : Hid (Below w.heap.size w ((w.alloc (.cells #[.int .i64 52, .int .i64 11] 28)).alloc (.cells #[.int .i64 0, .bool false, .string ⟨#[]⟩, .int .i64 0] 25))) := ((Below.refl _ _).alloc (Nat.le_refl _) _).alloc (by simp) _
  have BLK := hide (Blk.newAt (w.alloc (.cells #[.int .i64 52, .int .i64 11] 28)) (w.heap.size + 1) (by simp) #[.int .i64 0, .bool false, .string ⟨#[]⟩, .int .i64 0] 25)
  clear PT
  go_enter Tryz.func15, Tryz.ntmps15
  go_wp2_with fail
  refine (PTH.out _).mono ?_
  rintro e w1 ⟨rfl, hb1⟩
  have B1 := BLK.out.below hb1 BLK.out.lt
  have HB1 := hide (HB0.out.trans (hb1.mono (by simp; omega)))
  have k0 : w1.cell? ⟨w.heap.size + 1, 0, none⟩ = some (.int .i64 0) := B1.cell 0
  have k1 : w1.cell? ⟨w.heap.size + 1, 1, none⟩ = some (.bool false) := B1.cell 1
  have k2 : w1.cell? ⟨w.heap.size + 1, 2, none⟩ = some (.string ⟨#[]⟩) := B1.cell 2
  have k3 : w1.cell? ⟨w.heap.size + 1, 3, none⟩ = some (.int .i64 0) := B1.cell 3
  have f0 := B1.free 0
  have f1 := B1.free 1
  have f2 := B1.free 2
  have f3 := B1.free 3
  have BL1 := hide B1
  clear B1 hb1 HB0 BLK PTH
  go_wp2
  refine bodyPost_ret (results_dec rfl _ _ _ _ _ _ _ rfl (BL1.out.put4 _ _ _ _)) rfl ?_
  exact ⟨rfl, below_put4 HB1.out (by omega) _ _ _ _⟩

set_option maxHeartbeats 1000000 in
theorem rexact64_fin (b : Nat) (w : World) (neg : Bool) (M : Nat) (ex : Int) (hM : M < B64) (hsm : Sm M) (hs2 : Sm (M * p2N ex)) (hsz : sizeN (M * p2N ex) ≤ 5000) (h1 : -1074 ≤ ex) (h2 : ex ≤ 971)
    (PT : ∀ W, Calls Tryz.prog 23 #[k64, .int .u64 (b : Int)] W fun e w' => e = .returned (.tuple #[.bool neg, .int .i64 0, .int .u64 (M : Int), .int .i64 ex]) ∧ Below W.heap.size W w') :
    Calls Tryz.prog 15 #[k64, .int .u64 (b : Int)] w fun e w' => e = .returned (decVal (decZ neg (M * p2N ex) (p2E ex))) ∧ Below w.heap.size w w' := by
  have PTH := hide PT
  have HB0 : Hid (Below w.heap.size w ((w.alloc (.cells #[.int .i64 52, .int .i64 11] 28)).alloc (.cells #[.int .i64 0, .bool false, .string ⟨#[]⟩, .int .i64 0] 25))) := ((Below.refl _ _).alloc (Nat.le_refl _) _).alloc (by simp) _
  have BLK := hide (Blk.newAt (w.alloc (.cells #[.int .i64 52, .int .i64 11] 28)) (w.heap.size + 1) (by simp) #[.int .i64 0, .bool false, .string ⟨#[]⟩, .int .i64 0] 25)
  obtain ⟨d, hd⟩ : ∃ d, d = decZ neg (M * p2N ex) (p2E ex) := ⟨_, rfl⟩
  have hE : -5000 ≤ p2E ex ∧ p2E ex ≤ 5000 := by unfold p2E; split <;> omega
  have RD := fun oa la ca W (h : Nr W (.slice oa la ca) (M * p2N ex)) => rdec_any neg oa la ca (M * p2N ex) (p2E ex) W h hsz hs2 hE.1 hE.2
  rw [← hd] at RD ⊢
  have RDH := hide RD
  have AMH := hide (fun oa la ca W (h : Nr W (.slice oa la ca) M) => amount_call oa la ca M ex W h hsm (by omega) (by omega))
  have LM := hide (fun W => limb_call M W hM)
  clear PT RD hd hE hsz hs2 hsm hM
  go_enter Tryz.func15, Tryz.ntmps15
  go_wp2_with fail
  refine (PTH.out _).mono ?_
  rintro e w1 ⟨rfl, hb1⟩
  have BLK1 := hide (BLK.out.below hb1 BLK.out.lt)
  have HB1 := hide (HB0.out.trans (hb1.mono (by simp; omega)))
  clear hb1 HB0 BLK PTH
  go_wp2_with fail
  refine (LM.out _).mono ?_
  rintro e w2 ⟨o2, c2, l2, rfl, n2, hb2⟩
  have AM2 := hide (AMH.out o2 l2 c2 w2 n2)
  have HB2 := hide (HB1.out.trans (hb2.mono HB1.out.size))
  have BLK2 := hide (BLK1.out.below hb2 BLK1.out.lt)
  clear n2 hb2 HB1 BLK1 LM AMH
  go_wp2_with fail
  refine AM2.out.mono ?_
  rintro e w3 ⟨o3, c3, l3, rfl, n3, hb3⟩
  have RD3 := hide (RDH.out o3 l3 c3 w3 n3)
  have HB3 := hide (HB2.out.trans (hb3.mono HB2.out.size))
  have BLK3 := hide (BLK2.out.below hb3 BLK2.out.lt)
  clear n3 hb3 HB2 BLK2 AM2 RDH
  go_wp2_with fail
  refine RD3.out.mono ?_
  rintro e w1 ⟨rfl, hb1⟩
  have B1 := BLK3.out.below hb1 BLK3.out.lt
  have HB1 := hide (HB3.out.trans (hb1.mono HB3.out.size))
  have k0 : w1.cell? ⟨w.heap.size + 1, 0, none⟩ = some (.int .i64 0) := B1.cell 0
  have k1 : w1.cell? ⟨w.heap.size + 1, 1, none⟩ = some (.bool false) := B1.cell 1
  have k2 : w1.cell? ⟨w.heap.size + 1, 2, none⟩ = some (.string ⟨#[]⟩) := B1.cell 2
  have k3 : w1.cell? ⟨w.heap.size + 1, 3, none⟩ = some (.int .i64 0) := B1.cell 3
  have f0 := B1.free 0
  have f1 := B1.free 1
  have f2 := B1.free 2
  have f3 := B1.free 3
  have BL1 := hide B1
  have FIN : Hid (decVal d = .agg #[.int .i64 (d.cls : Int), .bool d.neg, .string ⟨d.dig.toArray⟩, .int .i64 d.exp]) := rfl
  rw [FIN.out]
  clear B1 hb1 HB3 BLK3 RD3
  go_wp2
  refine bodyPost_ret (results_dec rfl _ _ _ _ _ _ _ rfl (BL1.out.put4 _ _ _ _)) rfl ?_
  exact ⟨rfl, below_put4 HB1.out (by omega) _ _ _ _⟩

theorem rexact64_any (b : Nat) (w : World) (hb : b < 18446744073709551616) : Calls Tryz.prog 15 #[k64, .int .u64 (b : Int)] w fun e w' => e = .returned (decVal (ex64D b)) ∧ Below w.heap.size w w' := by
  obtain ⟨x, m, hx, hm, hxl, hml, mx, mm, ms⟩ := fields64 b hb
  have D : ex64D b = (if x = 2047 then if m = 0 then ⟨1, decide (b / 2 ^ 52 / 2 ^ 11 ≠ 0), [], 0⟩ else ⟨2, false, [], 0⟩ else if x = 0 ∧ m = 0 then ⟨0, decide (b / 2 ^ 52 / 2 ^ 11 ≠ 0), [], 0⟩ else decA (decide (b / 2 ^ 52 / 2 ^ 11 ≠ 0)) (allD 52 1074 x m).1 (allD 52 1074 x m).2) := by
    rw [hx, hm]; rfl
  rw [D]
  have e1 : (2 : Nat) ^ 52 = 4503599627370496 := by decide
  by_cases hx1 : x = 2047
  · rw [if_pos hx1]
    by_cases hm0 : m = 0
    · rw [if_pos hm0]
      rcases ms with ⟨h1, h2⟩ | ⟨h1, h2⟩
      · rw [decide_eq_true h1]
        exact rexact64_no b w 1 true (by omega) (fun W => parts64_inf1 b x m W hxl mx mm h2 (by omega) (by omega))
      · rw [decide_eq_false (by omega)]
        exact rexact64_no b w 1 false (by omega) (fun W => parts64_inf0 b x m W hxl mx mm h2 (by omega) (by omega))
    · rw [if_neg hm0]
      rcases ms with ⟨h1, h2⟩ | ⟨h1, h2⟩
      · exact rexact64_no b w 2 false (by omega) (fun W => parts64_nan1 b x m W hxl mx mm h2 (by omega) (by omega))
      · exact rexact64_no b w 2 false (by omega) (fun W => parts64_nan0 b x m W hxl mx mm h2 (by omega) (by omega))
  · rw [if_neg hx1]
    have p1 : -1074 ≤ fPow 1074 x := by unfold fPow; split <;> omega
    have p2 : fPow 1074 x ≤ 971 := by unfold fPow; split <;> omega
    have hn : fNum 52 x m < 10 ^ 17 := by have := fNum_lt17 (F := 52) (x := x) (m := m) (by omega) (by rw [e1]; exact hml); omega
    obtain ⟨j, hj⟩ : ∃ j : Nat, j = 1081 := ⟨_, rfl⟩
    have hA : fNum 52 x m * p2N (fPow 1074 x) < 10 ^ (17 + j) := mul_lt10 hn (p2N_lt (by omega) (by omega))
    have hz : sizeN (fNum 52 x m * p2N (fPow 1074 x)) ≤ 5000 := size_bound hA (by omega) (by omega)
    have hs2 := Sm.of hA (by omega)
    have key : ∀ neg : Bool, (if x = 0 ∧ m = 0 then ⟨0, neg, [], 0⟩ else decA neg (allD 52 1074 x m).1 (allD 52 1074 x m).2) = decZ neg (fNum 52 x m * p2N (fPow 1074 x)) (p2E (fPow 1074 x)) := by
      intro neg
      unfold decZ
      have hp := p2N_pos (fPow 1074 x)
      by_cases h0 : x = 0 ∧ m = 0
      · rw [if_pos h0, if_pos (by unfold fNum; rw [if_pos h0.1, h0.2, Nat.zero_mul])]
      · have hf : fNum 52 x m ≠ 0 := by unfold fNum; split <;> omega
        rw [if_neg h0, if_neg (Nat.mul_ne_zero hf (by omega))]; rfl
    rw [key]
    have M1 := (small17 hn).1
    have M2 := (small17 hn).2
    have PT : ∀ (neg : Bool), (neg = decide (b / 2 ^ 52 / 2 ^ 11 ≠ 0)) → ∀ W, Calls Tryz.prog 23 #[k64, .int .u64 (b : Int)] W fun e w' => e = .returned (.tuple #[.bool neg, .int .i64 0, .int .u64 ((fNum 52 x m : Nat) : Int), .int .i64 (fPow 1074 x)]) ∧ Below W.heap.size W w' := by
      intro neg hneg W
      unfold fNum fPow
      by_cases hx0 : x = 0
      · rw [if_pos hx0, if_pos hx0]
        rcases ms with ⟨h1, h2⟩ | ⟨h1, h2⟩
        · rw [hneg, decide_eq_true h1]; exact parts64_sub1 b x m W hxl mx mm h2 (by omega)
        · rw [hneg, decide_eq_false (by omega)]; exact parts64_sub0 b x m W hxl mx mm h2 (by omega)
      · rw [if_neg hx0, if_neg hx0, e1]
        rcases ms with ⟨h1, h2⟩ | ⟨h1, h2⟩
        · rw [hneg, decide_eq_true h1]; exact parts64_norm1 b x m W hxl mx mm h2 (by omega) (by omega) hml
        · rw [hneg, decide_eq_false (by omega)]; exact parts64_norm0 b x m W hxl mx mm h2 (by omega) (by omega) hml
    exact rexact64_fin b w _ _ _ M1 M2 hs2 hz p1 p2 (PT _ rfl)

/-- The fields of a float of 32 bits. -/
theorem fields32 (b : Nat) (hb : b < 4294967296) : ∃ x m : Nat, x = b / 2 ^ 23 % 2 ^ 8 ∧ m = b % 2 ^ 23 ∧ x ≤ 255 ∧ m < 8388608 ∧ bits .and .u64 ((b : Int) / 8388608) 255 = (x : Int) ∧ bits .and .u64 (b : Int) 8388607 = (m : Int) ∧
    ((b / 2 ^ 23 / 2 ^ 8 ≠ 0 ∧ bits .and .u64 ((b : Int) / 2147483648) 1 = 1) ∨ (b / 2 ^ 23 / 2 ^ 8 = 0 ∧ bits .and .u64 ((b : Int) / 2147483648) 1 = 0)) := by
  have e1 : (2 : Nat) ^ 23 = 8388608 := by decide
  have e2 : (2 : Nat) ^ 8 = 256 := by decide
  refine ⟨_, _, rfl, rfl, ?_, ?_, ?_, ?_, ?_⟩
  · rw [e2]; omega
  · rw [e1]; omega
  · have h := mask 8 255 (b / 8388608) (by decide) (by omega) (by omega)
    rw [e1, e2, show (b : Int) / 8388608 = ((b / 8388608 : Nat) : Int) by omega]
    exact h
  · have h := mask 23 8388607 b (by decide) (by omega) (by omega)
    rw [e1]
    exact h
  · have h := mask 1 1 (b / 2147483648) (by decide) (by omega) (by omega)
    rw [show (b : Int) / 2147483648 = ((b / 2147483648 : Nat) : Int) by omega, e1, e2]
    rcases Nat.lt_or_ge b 2147483648 with h1 | h1
    · right
      refine ⟨by omega, h.trans ?_⟩
      rw [Nat.div_eq_of_lt h1]; rfl
    · left
      refine ⟨by omega, h.trans ?_⟩
      rw [show b / 2147483648 = 1 by omega]; rfl

/-- Exact, where Parts answers a class that is not finite. -/
theorem rexact32_no (b : Nat) (w : World) (c : Int) (neg : Bool) (hc : ¬ c = 0)
    (PT : ∀ W, Calls Tryz.prog 23 #[k32, .int .u64 (b : Int)] W fun e w' => e = .returned (.tuple #[.bool neg, .int .i64 c, .int .u64 0, .int .i64 0]) ∧ Below W.heap.size W w') :
    Calls Tryz.prog 15 #[k32, .int .u64 (b : Int)] w fun e w' => e = .returned (.agg #[.int .i64 c, .bool neg, .string ⟨#[]⟩, .int .i64 0]) ∧ Below w.heap.size w w' := by
  have PTH := hide PT
  have HB0 : Hid (Below w.heap.size w ((w.alloc (.cells #[.int .i64 23, .int .i64 8] 28)).alloc (.cells #[.int .i64 0, .bool false, .string ⟨#[]⟩, .int .i64 0] 25))) := ((Below.refl _ _).alloc (Nat.le_refl _) _).alloc (by simp) _
  have BLK := hide (Blk.newAt (w.alloc (.cells #[.int .i64 23, .int .i64 8] 28)) (w.heap.size + 1) (by simp) #[.int .i64 0, .bool false, .string ⟨#[]⟩, .int .i64 0] 25)
  clear PT
  go_enter Tryz.func15, Tryz.ntmps15
  go_wp2_with fail
  refine (PTH.out _).mono ?_
  rintro e w1 ⟨rfl, hb1⟩
  have B1 := BLK.out.below hb1 BLK.out.lt
  have HB1 := hide (HB0.out.trans (hb1.mono (by simp; omega)))
  have k0 : w1.cell? ⟨w.heap.size + 1, 0, none⟩ = some (.int .i64 0) := B1.cell 0
  have k1 : w1.cell? ⟨w.heap.size + 1, 1, none⟩ = some (.bool false) := B1.cell 1
  have k2 : w1.cell? ⟨w.heap.size + 1, 2, none⟩ = some (.string ⟨#[]⟩) := B1.cell 2
  have k3 : w1.cell? ⟨w.heap.size + 1, 3, none⟩ = some (.int .i64 0) := B1.cell 3
  have f0 := B1.free 0
  have f1 := B1.free 1
  have f2 := B1.free 2
  have f3 := B1.free 3
  have BL1 := hide B1
  clear B1 hb1 HB0 BLK PTH
  go_wp2
  refine bodyPost_ret (results_dec rfl _ _ _ _ _ _ _ rfl (BL1.out.put4 _ _ _ _)) rfl ?_
  exact ⟨rfl, below_put4 HB1.out (by omega) _ _ _ _⟩

set_option maxHeartbeats 1000000 in
theorem rexact32_fin (b : Nat) (w : World) (neg : Bool) (M : Nat) (ex : Int) (hM : M < B64) (hsm : Sm M) (hs2 : Sm (M * p2N ex)) (hsz : sizeN (M * p2N ex) ≤ 5000) (h1 : -1074 ≤ ex) (h2 : ex ≤ 971)
    (PT : ∀ W, Calls Tryz.prog 23 #[k32, .int .u64 (b : Int)] W fun e w' => e = .returned (.tuple #[.bool neg, .int .i64 0, .int .u64 (M : Int), .int .i64 ex]) ∧ Below W.heap.size W w') :
    Calls Tryz.prog 15 #[k32, .int .u64 (b : Int)] w fun e w' => e = .returned (decVal (decZ neg (M * p2N ex) (p2E ex))) ∧ Below w.heap.size w w' := by
  have PTH := hide PT
  have HB0 : Hid (Below w.heap.size w ((w.alloc (.cells #[.int .i64 23, .int .i64 8] 28)).alloc (.cells #[.int .i64 0, .bool false, .string ⟨#[]⟩, .int .i64 0] 25))) := ((Below.refl _ _).alloc (Nat.le_refl _) _).alloc (by simp) _
  have BLK := hide (Blk.newAt (w.alloc (.cells #[.int .i64 23, .int .i64 8] 28)) (w.heap.size + 1) (by simp) #[.int .i64 0, .bool false, .string ⟨#[]⟩, .int .i64 0] 25)
  obtain ⟨d, hd⟩ : ∃ d, d = decZ neg (M * p2N ex) (p2E ex) := ⟨_, rfl⟩
  have hE : -5000 ≤ p2E ex ∧ p2E ex ≤ 5000 := by unfold p2E; split <;> omega
  have RD := fun oa la ca W (h : Nr W (.slice oa la ca) (M * p2N ex)) => rdec_any neg oa la ca (M * p2N ex) (p2E ex) W h hsz hs2 hE.1 hE.2
  rw [← hd] at RD ⊢
  have RDH := hide RD
  have AMH := hide (fun oa la ca W (h : Nr W (.slice oa la ca) M) => amount_call oa la ca M ex W h hsm (by omega) (by omega))
  have LM := hide (fun W => limb_call M W hM)
  clear PT RD hd hE hsz hs2 hsm hM
  go_enter Tryz.func15, Tryz.ntmps15
  go_wp2_with fail
  refine (PTH.out _).mono ?_
  rintro e w1 ⟨rfl, hb1⟩
  have BLK1 := hide (BLK.out.below hb1 BLK.out.lt)
  have HB1 := hide (HB0.out.trans (hb1.mono (by simp; omega)))
  clear hb1 HB0 BLK PTH
  go_wp2_with fail
  refine (LM.out _).mono ?_
  rintro e w2 ⟨o2, c2, l2, rfl, n2, hb2⟩
  have AM2 := hide (AMH.out o2 l2 c2 w2 n2)
  have HB2 := hide (HB1.out.trans (hb2.mono HB1.out.size))
  have BLK2 := hide (BLK1.out.below hb2 BLK1.out.lt)
  clear n2 hb2 HB1 BLK1 LM AMH
  go_wp2_with fail
  refine AM2.out.mono ?_
  rintro e w3 ⟨o3, c3, l3, rfl, n3, hb3⟩
  have RD3 := hide (RDH.out o3 l3 c3 w3 n3)
  have HB3 := hide (HB2.out.trans (hb3.mono HB2.out.size))
  have BLK3 := hide (BLK2.out.below hb3 BLK2.out.lt)
  clear n3 hb3 HB2 BLK2 AM2 RDH
  go_wp2_with fail
  refine RD3.out.mono ?_
  rintro e w1 ⟨rfl, hb1⟩
  have B1 := BLK3.out.below hb1 BLK3.out.lt
  have HB1 := hide (HB3.out.trans (hb1.mono HB3.out.size))
  have k0 : w1.cell? ⟨w.heap.size + 1, 0, none⟩ = some (.int .i64 0) := B1.cell 0
  have k1 : w1.cell? ⟨w.heap.size + 1, 1, none⟩ = some (.bool false) := B1.cell 1
  have k2 : w1.cell? ⟨w.heap.size + 1, 2, none⟩ = some (.string ⟨#[]⟩) := B1.cell 2
  have k3 : w1.cell? ⟨w.heap.size + 1, 3, none⟩ = some (.int .i64 0) := B1.cell 3
  have f0 := B1.free 0
  have f1 := B1.free 1
  have f2 := B1.free 2
  have f3 := B1.free 3
  have BL1 := hide B1
  have FIN : Hid (decVal d = .agg #[.int .i64 (d.cls : Int), .bool d.neg, .string ⟨d.dig.toArray⟩, .int .i64 d.exp]) := rfl
  rw [FIN.out]
  clear B1 hb1 HB3 BLK3 RD3
  go_wp2
  refine bodyPost_ret (results_dec rfl _ _ _ _ _ _ _ rfl (BL1.out.put4 _ _ _ _)) rfl ?_
  exact ⟨rfl, below_put4 HB1.out (by omega) _ _ _ _⟩

theorem rexact32_any (b : Nat) (w : World) (hb : b < 4294967296) : Calls Tryz.prog 15 #[k32, .int .u64 (b : Int)] w fun e w' => e = .returned (decVal (ex32D b)) ∧ Below w.heap.size w w' := by
  obtain ⟨x, m, hx, hm, hxl, hml, mx, mm, ms⟩ := fields32 b hb
  have D : ex32D b = (if x = 255 then if m = 0 then ⟨1, decide (b / 2 ^ 23 / 2 ^ 8 ≠ 0), [], 0⟩ else ⟨2, false, [], 0⟩ else if x = 0 ∧ m = 0 then ⟨0, decide (b / 2 ^ 23 / 2 ^ 8 ≠ 0), [], 0⟩ else decA (decide (b / 2 ^ 23 / 2 ^ 8 ≠ 0)) (allD 23 149 x m).1 (allD 23 149 x m).2) := by
    rw [hx, hm]; rfl
  rw [D]
  have e1 : (2 : Nat) ^ 23 = 8388608 := by decide
  by_cases hx1 : x = 255
  · rw [if_pos hx1]
    by_cases hm0 : m = 0
    · rw [if_pos hm0]
      rcases ms with ⟨h1, h2⟩ | ⟨h1, h2⟩
      · rw [decide_eq_true h1]
        exact rexact32_no b w 1 true (by omega) (fun W => parts32_inf1 b x m W hxl mx mm h2 (by omega) (by omega))
      · rw [decide_eq_false (by omega)]
        exact rexact32_no b w 1 false (by omega) (fun W => parts32_inf0 b x m W hxl mx mm h2 (by omega) (by omega))
    · rw [if_neg hm0]
      rcases ms with ⟨h1, h2⟩ | ⟨h1, h2⟩
      · exact rexact32_no b w 2 false (by omega) (fun W => parts32_nan1 b x m W hxl mx mm h2 (by omega) (by omega))
      · exact rexact32_no b w 2 false (by omega) (fun W => parts32_nan0 b x m W hxl mx mm h2 (by omega) (by omega))
  · rw [if_neg hx1]
    have p1 : -1074 ≤ fPow 149 x := by unfold fPow; split <;> omega
    have p2 : fPow 149 x ≤ 971 := by unfold fPow; split <;> omega
    have hn : fNum 23 x m < 10 ^ 17 := by have := fNum_lt17 (F := 23) (x := x) (m := m) (by omega) (by rw [e1]; exact hml); omega
    obtain ⟨j, hj⟩ : ∃ j : Nat, j = 1081 := ⟨_, rfl⟩
    have hA : fNum 23 x m * p2N (fPow 149 x) < 10 ^ (17 + j) := mul_lt10 hn (p2N_lt (by omega) (by omega))
    have hz : sizeN (fNum 23 x m * p2N (fPow 149 x)) ≤ 5000 := size_bound hA (by omega) (by omega)
    have hs2 := Sm.of hA (by omega)
    have key : ∀ neg : Bool, (if x = 0 ∧ m = 0 then ⟨0, neg, [], 0⟩ else decA neg (allD 23 149 x m).1 (allD 23 149 x m).2) = decZ neg (fNum 23 x m * p2N (fPow 149 x)) (p2E (fPow 149 x)) := by
      intro neg
      unfold decZ
      have hp := p2N_pos (fPow 149 x)
      by_cases h0 : x = 0 ∧ m = 0
      · rw [if_pos h0, if_pos (by unfold fNum; rw [if_pos h0.1, h0.2, Nat.zero_mul])]
      · have hf : fNum 23 x m ≠ 0 := by unfold fNum; split <;> omega
        rw [if_neg h0, if_neg (Nat.mul_ne_zero hf (by omega))]; rfl
    rw [key]
    have M1 := (small17 hn).1
    have M2 := (small17 hn).2
    have PT : ∀ (neg : Bool), (neg = decide (b / 2 ^ 23 / 2 ^ 8 ≠ 0)) → ∀ W, Calls Tryz.prog 23 #[k32, .int .u64 (b : Int)] W fun e w' => e = .returned (.tuple #[.bool neg, .int .i64 0, .int .u64 ((fNum 23 x m : Nat) : Int), .int .i64 (fPow 149 x)]) ∧ Below W.heap.size W w' := by
      intro neg hneg W
      unfold fNum fPow
      by_cases hx0 : x = 0
      · rw [if_pos hx0, if_pos hx0]
        rcases ms with ⟨h1, h2⟩ | ⟨h1, h2⟩
        · rw [hneg, decide_eq_true h1]; exact parts32_sub1 b x m W hxl mx mm h2 (by omega)
        · rw [hneg, decide_eq_false (by omega)]; exact parts32_sub0 b x m W hxl mx mm h2 (by omega)
      · rw [if_neg hx0, if_neg hx0, e1]
        rcases ms with ⟨h1, h2⟩ | ⟨h1, h2⟩
        · rw [hneg, decide_eq_true h1]; exact parts32_norm1 b x m W hxl mx mm h2 (by omega) (by omega) hml
        · rw [hneg, decide_eq_false (by omega)]; exact parts32_norm0 b x m W hxl mx mm h2 (by omega) (by omega) hml
    exact rexact32_fin b w _ _ _ M1 M2 hs2 hz p1 p2 (PT _ rfl)

set_option maxHeartbeats 2000000 in
theorem exact_walk (w : World) (htab : Tab w) (a : Nat) (ha : a < 18446744073709551616) (b : Nat) (hb : b < 4294967296) :
    Calls Tryz.prog 5 #[.int .u64 (a : Int), .int .u32 (b : Int)] w fun e w' => e = .returned (.bool true) ∧ Below w.heap.size w w' := by
  have AW := hide (awake_any w htab)
  have E1 := hide (fun W => exact64_any a W ha)
  have R1 := hide (fun W => rexact64_any a W ha)
  have E2 := hide (fun W => exact32_any b W hb)
  have R2 := hide (fun W => rexact32_any b W hb)
  have HT := hide htab
  obtain ⟨da, hda⟩ : ∃ d, d = ex64D a := ⟨_, rfl⟩
  obtain ⟨db, hdb⟩ : ∃ d, d = ex32D b := ⟨_, rfl⟩
  rw [← hda] at E1 R1
  rw [← hdb] at E2 R2
  have FA : Hid (decVal da = .agg #[.int .i64 (da.cls : Int), .bool da.neg, .string ⟨da.dig.toArray⟩, .int .i64 da.exp]) := rfl
  have FB : Hid (decVal db = .agg #[.int .i64 (db.cls : Int), .bool db.neg, .string ⟨db.dig.toArray⟩, .int .i64 db.exp]) := rfl
  obtain ⟨ac, hac⟩ : ∃ z : Int, z = (da.cls : Int) := ⟨_, rfl⟩
  obtain ⟨bc, hbc⟩ : ∃ z : Int, z = (db.cls : Int) := ⟨_, rfl⟩
  obtain ⟨an, han⟩ : ∃ z, z = da.neg := ⟨_, rfl⟩
  obtain ⟨bn, hbn⟩ : ∃ z, z = db.neg := ⟨_, rfl⟩
  obtain ⟨at1, hat⟩ : ∃ z : ByteArray, z = ⟨da.dig.toArray⟩ := ⟨_, rfl⟩
  obtain ⟨bt, hbt⟩ : ∃ z : ByteArray, z = ⟨db.dig.toArray⟩ := ⟨_, rfl⟩
  obtain ⟨ae, hae⟩ : ∃ z, z = da.exp := ⟨_, rfl⟩
  obtain ⟨be, hbe⟩ : ∃ z, z = db.exp := ⟨_, rfl⟩
  rw [← hac, ← han, ← hat, ← hae] at FA
  rw [← hbc, ← hbn, ← hbt, ← hbe] at FB
  rw [FA.out] at E1 R1
  rw [FB.out] at E2 R2
  clear htab FA FB hda hdb hac hbc han hbn hat hbt hae hbe
  go_enter Tryz.func5, Tryz.ntmps5
  go_wp2_with fail
  refine AW.out.mono ?_
  rintro e w1 ⟨rfl, hb1⟩
  have HB1 := hide hb1
  clear hb1 AW
  go_wp2_with fail
  refine (E1.out _ (HT.out.below HB1.out)).mono ?_
  rintro e w2 ⟨rfl, hb2⟩
  have HB2 := hide (HB1.out.trans (hb2.mono HB1.out.size))
  clear hb2 HB1 E1
  go_wp2_with fail
  refine (wide_any _).mono ?_
  rintro e w3 ⟨rfl, hb3⟩
  have HB3 := hide (HB2.out.trans (hb3.mono HB2.out.size))
  clear hb3 HB2
  go_wp2_with fail
  refine (R1.out _).mono ?_
  rintro e w4 ⟨rfl, hb4⟩
  have HB4 := hide (HB3.out.trans (hb4.mono HB3.out.size))
  clear hb4 HB3 R1
  go_wp2_with fail
  refine (E2.out _ (HT.out.below HB4.out)).mono ?_
  rintro e w5 ⟨rfl, hb5⟩
  have HB5 := hide (HB4.out.trans (hb5.mono HB4.out.size))
  clear hb5 HB4 E2
  go_wp2_with fail
  refine (narrow_any _).mono ?_
  rintro e w6 ⟨rfl, hb6⟩
  have HB6 := hide (HB5.out.trans (hb6.mono HB5.out.size))
  clear hb6 HB5
  go_wp2_with fail
  refine (R2.out _).mono ?_
  rintro e w7 ⟨rfl, hb7⟩
  have HB7 := hide (HB6.out.trans (hb7.mono HB6.out.size))
  clear hb7 HB6 R2
  go_wp2
  go_ret
  exact ⟨rfl, HB7.out⟩

end Go.Proofs.YtpiloigpncbccaaGreatDoor

namespace Go.Proofs.YtpiloigpncbccaaGreatDoor
open Go.RowKit

/-- At the head of Of's loop. -/
structure OfInv (w : World) (r : Near) (s n H : Nat) (vl vm vh : Value) (wr : World) : Prop where
  bel : Below w.heap.size w wr
  blk : Blk wr H #[.int .i64 0, .bool false, .string ⟨#[]⟩, .int .i64 0] 25
  low : Nr wr vl (r.amt - r.lo)
  mid : Nr wr vm r.amt
  high : Nr wr vh (r.amt + r.hi)
  few : fewN r s = fewN r (s - n + 1)

/-- What is needed of a reach. -/
structure OfOk (r : Near) : Prop where
  good : r.Good
  lo : r.lo < r.amt
  hi : r.hi ≤ r.amt
  small : ∀ z, z ≤ 4 * r.amt → Sm z

theorem nr_shlz (a : Value) (x n : Nat) (z : Int) (w : World) (hz : z = (n : Int)) (ha : Nr w a x) (hx : Sm x) (hn : n ≤ 65536) : Calls Tryz.prog 27 #[a, .int .i64 z] w (NrPost w (x * 2 ^ n)) := by
  subst hz; exact nr_shl a x n w ha hx hn

theorem far_cmp {a u : Nat} (h : a ≤ u) : (cmpN (a + a) u = -1 ↔ a < u - a) ∧ (cmpN (a + a) u = 0 ↔ a = u - a) := by
  unfold cmpN
  refine ⟨⟨fun e => ?_, fun e => ?_⟩, ⟨fun e => ?_, fun e => ?_⟩⟩
  · split at e
    · omega
    · split at e <;> simp at e
  · rw [if_pos (by omega)]
  · split at e
    · simp at e
    · split at e
      · simp at e
      · omega
  · rw [if_neg (by omega), if_neg (by omega)]

/-- The Dec that the fewest digits are, in the reference's words. -/
theorem few_dec {r : Near} {s v p : Nat} {neg : Bool} {e : Int} (hf : fewN r s = (v, p)) (hv : v ≠ 0) : decA neg (v * 10 ^ p) e = decA neg (fewN r s).1 (e + ((fewN r s).2 : Nat)) := by
  rw [hf, decA_tens hv]

set_option maxRecDepth 100000 in
set_option maxHeartbeats 4000000 in
theorem rof64_neg (b N lo4 k : Nat) (ex : Int) (neg : Bool) (r : Near) (w : World) (hN : 1 ≤ N) (hk : k ≤ 1080) (ok : OfOk r) (hs : sizeN r.amt ≤ 2000) (hex : ex = 2 - (k : Int)) (h2 : 1 ≤ k)
    (ra : r.amt = N * 4 * 5 ^ k) (rl : r.amt - r.lo = (N * 4 - lo4) * 5 ^ k) (rh : r.amt + r.hi = (N * 4 + 2) * 5 ^ k) (sm : Sm (N * 4 + 2) ∧ Sm (5 ^ k))
    (PT : ∀ W, Calls Tryz.prog 23 #[k64, .int .u64 (b : Int)] W fun e w' => e = .returned (.tuple #[.bool neg, .int .i64 0, .int .u64 (N : Int), .int .i64 ex]) ∧ Below W.heap.size W w')
    (RC : ∀ W, Calls Tryz.prog 24 #[k64, .int .u64 (N : Int), .int .i64 ex] W (RrPost W lo4 N r.clo)) :
    Calls Tryz.prog 11 #[k64, .int .u64 (b : Int)] w fun e w' => e = .returned (decVal (decA neg (fewN r (sizeN r.amt)).1 (-(k : Int) + ((fewN r (sizeN r.amt)).2 : Nat)))) ∧ Below w.heap.size w w' := by
  have g := ok.good
  have hamt : r.amt ≠ 0 := by have := ok.lo; omega
  obtain ⟨sz, hsz⟩ : ∃ sz, sz = sizeN r.amt := ⟨_, rfl⟩
  rw [← hsz] at hs ⊢
  rw [show -(k : Int) = ex - 2 by omega]
  obtain ⟨d, hd⟩ : ∃ d, d = decA neg (fewN r sz).1 ((ex - 2) + ((fewN r sz).2 : Nat)) := ⟨_, rfl⟩
  rw [← hd]
  have HD := hide hd
  have hs1 : 1 ≤ sz := by rw [hsz]; exact sizeN_pos _
  have hn0 : ¬ (N : Int) = 0 := by omega
  have hlt2 : ex < 2 := by omega
  have hexb : -1080 ≤ ex ∧ ex ≤ 1090 := by omega
  have HEX := hide hex
  have SMN : Hid (Sm (N * 4 - lo4) ∧ Sm (N * 4) ∧ Sm (N * 4 + 2) ∧ Sm (5 ^ k)) := ⟨Nat.lt_of_le_of_lt (by omega) sm.1, Nat.lt_of_le_of_lt (by omega) sm.1, sm.1, sm.2⟩
  have OK := hide ok
  have SZ : Hid (sz = (Lib.decDigits r.amt).length ∧ r.amt < 10 ^ sz ∧ 10 ^ (sz - 1) ≤ r.amt) := ⟨hsz, by rw [hsz]; exact sizeN_lt _, by rw [hsz]; exact sizeN_ge hamt⟩
  have RA : Hid (N * 4 * 5 ^ k = r.amt ∧ (N * 4 - lo4) * 5 ^ k = r.amt - r.lo ∧ (N * 4 + 2) * 5 ^ k = r.amt + r.hi) := ⟨ra.symm, rl.symm, rh.symm⟩
  have FIN : Hid (decVal d = .agg #[.int .i64 (d.cls : Int), .bool d.neg, .string ⟨d.dig.toArray⟩, .int .i64 d.exp]) := rfl
  have PTH := hide PT
  have RCH := hide RC
  have HB0 : Hid (Below w.heap.size w ((w.alloc (.cells #[.int .i64 52, .int .i64 11] 28)).alloc (.cells #[.int .i64 0, .bool false, .string ⟨#[]⟩, .int .i64 0] 25))) := ((Below.refl _ _).alloc (Nat.le_refl _) _).alloc (by simp) _
  have BLK := hide (Blk.newAt (w.alloc (.cells #[.int .i64 52, .int .i64 11] 28)) (w.heap.size + 1) (by simp) #[.int .i64 0, .bool false, .string ⟨#[]⟩, .int .i64 0] 25)
  have BLK0 := hide ((Blk.new w #[.int .i64 52, .int .i64 11] 28).alloc (.cells #[.int .i64 0, .bool false, .string ⟨#[]⟩, .int .i64 0] 25))
  clear PT RC hd g hamt ok hsz ra rl rh sm hex
  go_enter Tryz.func11, Tryz.ntmps11
  go_wp2_with fail
  refine (PTH.out _).mono ?_
  rintro e w1 ⟨rfl, hb1⟩
  have B0 := BLK0.out.below hb1 BLK0.out.lt
  have c0 : w1.cell? ⟨w.heap.size, 0, none⟩ = some (.int .i64 52) := B0.cell 0
  have c1 : w1.cell? ⟨w.heap.size, 1, none⟩ = some (.int .i64 11) := B0.cell 1
  have BLK1 := hide (BLK.out.below hb1 BLK.out.lt)
  have HB1 := hide (HB0.out.trans (hb1.mono (by simp; omega)))
  clear B0 hb1 HB0 BLK BLK0 PTH
  go_wp2_with fail
  refine (RCH.out _).mono ?_
  rintro e w2 ⟨o1, p1, l1, o2, p2, l2, o3, p3, l3, rfl, n1, n2, n3, hb2⟩
  have N1 := hide n1
  have N2 := hide n2
  have N3 := hide n3
  have BLK2 := hide (BLK1.out.below hb2 BLK1.out.lt)
  have HB2 := hide (HB1.out.trans (hb2.mono HB1.out.size))
  clear hb2 n1 n2 n3 HB1 BLK1 RCH c0 c1
  go_wp2_with fail
  refine (nr_pow5 _ k _ (by have := HEX.out; omega) (by omega)).mono ?_
  rintro e w3 ⟨op, cp, lp, rfl, np, hb3⟩
  have M1 := hide (nr_mul _ _ (N * 4 - lo4) (5 ^ k) w3 (N1.out.below hb3) np SMN.out.1 SMN.out.2.2.2)
  have M2 := hide (fun W (hW : Below w3.heap.size w3 W) => nr_mul _ _ (N * 4) (5 ^ k) W ((N2.out.below hb3).below hW) (np.below hW) SMN.out.2.1 SMN.out.2.2.2)
  have M3 := hide (fun W (hW : Below w3.heap.size w3 W) => nr_mul _ _ (N * 4 + 2) (5 ^ k) W ((N3.out.below hb3).below hW) (np.below hW) SMN.out.2.2.1 SMN.out.2.2.2)
  have BLK3 := hide (BLK2.out.below hb3 BLK2.out.lt)
  have HB3 := hide (HB2.out.trans (hb3.mono HB2.out.size))
  clear hb3 np N1 N2 N3 BLK2 HB2
  go_wp2_with fail
  refine M1.out.mono ?_
  rintro e w4 ⟨o4, c4, l4, rfl, n4, hb4⟩
  rw [RA.out.2.1] at n4
  have M2' := hide (M2.out w4 hb4)
  have N4 := hide n4
  have T4 := hide hb4
  clear n4 hb4 M1 M2
  go_wp2_with fail
  refine M2'.out.mono ?_
  rintro e w5 ⟨o5, c5, l5, rfl, n5, hb5⟩
  rw [RA.out.1] at n5
  have T5 := hide (T4.out.trans (hb5.mono T4.out.size))
  have M3' := hide (M3.out w5 T5.out)
  have N45 := hide (N4.out.below hb5)
  have N5 := hide n5
  clear n5 hb5 M2' M3 T4 N4
  go_wp2_with fail
  refine M3'.out.mono ?_
  rintro e w6 ⟨o6, c6, l6, rfl, n6, hb6⟩
  rw [RA.out.2.2] at n6
  have T6 := hide (T5.out.trans (hb6.mono T5.out.size))
  have N46 := hide (N45.out.below hb6)
  have N56 := hide (N5.out.below hb6)
  have N6 := hide n6
  have BLK6 := hide (BLK3.out.below T6.out BLK3.out.lt)
  have HB6 := hide (HB3.out.trans (T6.out.mono HB3.out.size))
  clear n6 hb6 M3' T5 N45 N5 BLK3 HB3 T6 RA SMN
  have TX := hide (nr_text _ r.amt w6 N56.out (OK.out.small _ (by omega)))
  go_wp2_with fail
  refine TX.out.mono ?_
  rintro e w7 ⟨rfl, hb7⟩
  obtain ⟨t, ht⟩ : ∃ t : ByteArray, t = ⟨(Lib.decDigits r.amt).toArray⟩ := ⟨_, rfl⟩
  have hts : t.size = sz := by rw [ht, SZ.out.1]; simp [ByteArray.size]
  rw [← ht]
  obtain ⟨H, eH⟩ : ∃ H, H = w.heap.size + 1 := ⟨_, rfl⟩
  have START : Hid (OfInv w r sz 1 H (.slice o4 l4 c4) (.slice o5 l5 c5) (.slice o6 l6 c6) w7) := by
    rw [eH]
    exact ⟨HB6.out.trans (hb7.mono HB6.out.size), BLK6.out.below hb7 BLK6.out.lt, N46.out.below hb7, N56.out.below hb7, N6.out.below hb7, by rw [show sz - 1 + 1 = sz by omega]⟩
  have HLE : Hid (w.heap.size ≤ H) := by show w.heap.size ≤ H; omega
  clear ht hb7 TX N46 N56 N6 BLK6 HB6
  go_wp2
  simp only [← eH]
  clear eH hts
  go_loopw [16] (fun i wr => ∃ n : Nat, 1 ≤ n ∧ n ≤ sz ∧ i = .int .i64 (n : Int) ∧ OfInv w r sz n H (.slice o4 l4 c4) (.slice o5 l5 c5) (.slice o6 l6 c6) wr) (fun i _ => sz - (intOf i).toNat)
  case atStart => exact ⟨1, by omega, hs1, rfl, START.out⟩
  case round =>
    clear START
    obtain ⟨n, hn1, hn2, rfl, hinv⟩ := hrel
    have HI := hide hinv
    clear hinv
    by_cases hlt : n < sz
    · have hlt' : (n : Int) < (sz : Int) := by omega
      obtain ⟨p, hp⟩ : ∃ p, p = sz - n := ⟨_, rfl⟩
      have hpz : p ≤ 2000 := by omega
      have P10 : Hid (10 ^ p ≤ r.amt ∧ 0 < 10 ^ p) := ⟨Nat.le_trans (Nat.pow_le_pow_right (by omega) (by omega)) SZ.out.2.2, Nat.pow_pos (by omega)⟩
      have FW : Hid (fewN r sz = (match pickAt r p with | some v => (v, p) | none => fewN r p)) := by
        have h := HI.out.few
        rw [← hp] at h
        exact h
      obtain ⟨q, hq⟩ : ∃ q, q = r.amt / 10 ^ p := ⟨_, rfl⟩
      obtain ⟨rr, hrr⟩ : ∃ z, z = r.amt % 10 ^ p := ⟨_, rfl⟩
      obtain ⟨u, hu⟩ : ∃ z, z = 10 ^ p := ⟨_, rfl⟩
      have QR : Hid (q * u + rr = r.amt ∧ rr < u ∧ q ≠ 0 ∧ u ≤ r.amt ∧ u ≠ 0) := by
        have h1 := P10.out
        refine ⟨?_, ?_, ?_, ?_, ?_⟩
        · rw [hq, hrr, hu, Nat.mul_comm]; exact Nat.div_add_mod _ _
        · rw [hrr, hu]; exact Nat.mod_lt _ h1.2
        · rw [hq]; have : 1 ≤ r.amt / 10 ^ p := (Nat.le_div_iff_mul_le h1.2).2 (by omega)
          omega
        · rw [hu]; exact h1.1
        · rw [hu]; omega
      have PK : Hid (pickAt r p = pickN r q rr u) := by show pickAt r p = pickN r q rr u; rw [hq, hrr, hu]; rfl
      have UH := hide hu
      have QH : Hid (r.amt / u = q ∧ r.amt % u = rr) := ⟨by rw [hq, hu], by rw [hrr, hu]⟩
      have HW := hide HI.out.bel
      clear hq hrr hu P10
      go_wp2_with fail
      refine (nr_pow10 _ p _ (by omega) (by omega)).mono ?_
      rintro e v1 ⟨os, cs, ls, rfl, ns, hb1⟩
      rw [← UH.out] at ns
      have DV := nr_div _ _ r.amt u v1 (HI.out.mid.below hb1) ns (OK.out.small _ (by omega)) (OK.out.small _ (by have := QR.out.2.2.2.1; omega)) QR.out.2.2.2.2
      rw [QH.out.1, QH.out.2] at DV
      have DVH := hide DV
      have NS := hide ns
      have T1 := hide hb1
      clear ns hb1 DV
      go_wp2_with fail
      refine DVH.out.mono ?_
      rintro e v2 ⟨oq, cq, lq, or, cr, lr, rfl, nq, nr, hb2, hdig⟩
      obtain ⟨hlq, bq, fq, dq, rfl, hbq, hcq, hdq, hpar⟩ := hdig QR.out.2.2.1
      have T2 := hide (T1.out.trans (hb2.mono T1.out.size))
      have NS2 := hide (NS.out.below hb2)
      have NQ := hide nq
      have NRR := hide nr
      have CQ : Hid (∀ W, Below v2.heap.size v2 W → W.cell? ⟨bq, fq, none⟩ = some (.int .u32 (dq : Int))) := fun W hW => by rw [World.cell?_of_block (w := v2) (hW.block bq hbq)]; exact hcq
      have DP : Hid (dq % 2 = q % 2) := hpar
      have ML := hide (nr_mul _ _ q u v2 nq (NS.out.below hb2) (OK.out.small _ (by have := QR.out.1; have : q ≤ q * u := Nat.le_mul_of_pos_right _ (by have := QR.out.2.2.2.2; omega); omega)) (OK.out.small _ (by have := QR.out.2.2.2.1; omega)))
      clear nq nr hb2 hdig hcq hbq hpar DVH T1 NS
      go_wp2_with fail
      refine ML.out.mono ?_
      rintro e v3 ⟨ob, cb, lb, rfl, nb, hb3⟩
      have T23 := hide hb3
      have T3 := hide (T2.out.trans (hb3.mono T2.out.size))
      have NB := hide nb
      have AD := hide (nr_add _ _ (q * u) u v3 nb (NS2.out.below hb3) (OK.out.small _ (by have := QR.out.1; omega)) (OK.out.small _ (by have := QR.out.2.2.2.1; omega)))
      clear nb hb3 ML T2
      go_wp2_with fail
      refine AD.out.mono ?_
      rintro e v4 ⟨oab, cab, lab, rfl, nab, hb4⟩
      have T24 := hide (T23.out.trans (hb4.mono T23.out.size))
      have T4 := hide (T3.out.trans (hb4.mono T3.out.size))
      have NB4 := hide (NB.out.below hb4)
      have NA4 := hide nab
      have e1 : Hid (q * u = r.amt - rr ∧ q * u + u = r.amt + (u - rr)) := by have h1 := QR.out; show q * u = r.amt - rr ∧ q * u + u = r.amt + (u - rr); omega
      have WL := hide (within_lo r.clo (.slice o4 l4 c4) (.slice ob lb cb) (.slice o6 l6 c6) r.amt r.lo rr (r.amt + r.hi) v4 (HI.out.low.below T4.out) (by rw [← e1.out.1]; exact NB4.out) (HI.out.high.below T4.out) (OK.out.small _ (by omega)) (OK.out.small _ (by omega)) (OK.out.small _ (by have := OK.out.hi; omega)) (by have := OK.out.lo; omega) (by have := QR.out.1; omega) (by have := OK.out.good.pos; have := OK.out.good.le; omega))
      have WH := hide (fun W (hW : Below v4.heap.size v4 W) => within_hi r.clo (.slice o4 l4 c4) (.slice oab lab cab) (.slice o6 l6 c6) r.amt r.hi (u - rr) (r.amt - r.lo) W ((HI.out.low.below T4.out).below hW) (by rw [← e1.out.2]; exact NA4.out.below hW) ((HI.out.high.below T4.out).below hW) (OK.out.small _ (by omega)) (OK.out.small _ (by have := QR.out.2.2.2.1; omega)) (OK.out.small _ (by have := OK.out.hi; omega)) (by have := OK.out.good.pos; have := OK.out.lo; omega))
      clear nab hb4 AD T23 T3 NB e1
      go_wp2_with fail
      refine WL.out.mono ?_
      rintro e v5 ⟨rfl, hb5⟩
      have T45 := hide hb5
      have WH5 := hide (WH.out v5 hb5)
      clear hb5 WL WH
      go_wp2_with fail
      refine WH5.out.mono ?_
      rintro e v6 ⟨rfl, hb6⟩
      have T46 := hide (T45.out.trans (hb6.mono T45.out.size))
      have T26 := hide (T24.out.trans (T46.out.mono T24.out.size))
      have A6 := hide (nr_add _ _ rr rr v6 (NRR.out.below T26.out) (NRR.out.below T26.out) (OK.out.small _ (by have := QR.out.1; omega)) (OK.out.small _ (by have := QR.out.1; omega)))
      clear hb6 WH5 T45
      go_wp2_with fail
      refine A6.out.mono ?_
      rintro e v7 ⟨or2, cr2, lr2, rfl, nr2, hb7⟩
      have T27 := hide (T26.out.trans (hb7.mono T26.out.size))
      have T47 := hide (T46.out.trans (hb7.mono T46.out.size))
      have CM := hide (fun z hz => nr_cmp _ _ (rr + rr) u z v7 nr2 (NS2.out.below T27.out) (OK.out.small _ (by have := QR.out.1; have := QR.out.2.1; have := QR.out.2.2.2.1; omega)) (OK.out.small _ (by have := QR.out.2.2.2.1; omega)) hz)
      have FC := hide (far_cmp (a := rr) (u := u) (by have := QR.out.2.1; omega))
      clear nr2 hb7 A6 T26 T46
      -- how twice the rest stands to the step
      have CX : Hid (∃ z : Int, (z = -1 ∨ z = 0 ∨ z = 1) ∧ (z = -1 ↔ rr < u - rr) ∧ (z = 0 ↔ rr = u - rr) ∧ Calls Tryz.prog 32 #[.slice or2 lr2 cr2, .slice os ls cs] v7 fun e w' => e = .returned (.int .i64 z) ∧ Hid (Below v7.heap.size v7 w')) := by
        refine ⟨cmpN (rr + rr) u, cmpN_or _ _, FC.out.1, FC.out.2, (CM.out _ rfl).mono ?_⟩
        rintro e w' ⟨rfl, h⟩
        exact ⟨rfl, h⟩
      clear CM FC NS2
      obtain ⟨z, hz3, hz1, hz0, hzc⟩ := CX.out
      have ZC := hide hzc
      have Z1 := hide hz1
      have Z0 := hide hz0
      clear hzc hz1 hz0 CX
      go_wp2_with fail
      refine ZC.out.mono ?_
      rintro e v8 ⟨rfl, T78⟩
      have T28 := hide (T27.out.trans (T78.out.mono T27.out.size))
      have T48 := hide (T47.out.trans (T78.out.mono T47.out.size))
      have cell := CQ.out v8 T28.out
      have T8 := hide (T4.out.trans (T48.out.mono T4.out.size))
      have HB8 := hide (HW.out.trans (T8.out.mono HW.out.size))
      have BKX := hide (HI.out.blk.below T8.out HI.out.blk.lt)
      have NB8 := hide (NB4.out.below T48.out)
      have NA8 := hide (NA4.out.below T48.out)
      clear ZC T27 T47 T28 T48 CQ T4 T24 NB4 NA4 NRR NQ T78
      generalize hda : heldN r.clo rr r.lo = da
      generalize hdb : heldN r.clo (u - rr) r.hi = db
      have HDA := hide hda
      have HDB := hide hdb
      clear hda hdb
      have hlq' : (0 : Int) < (lq : Int) := by omega
      -- the one below is taken
      have LOW : Hid (pickAt r p = some q → Calls Tryz.prog 33 #[.bool neg, .slice ob lb cb, .int .i64 (ex - 2)] v8 fun e w' => e = .returned (decVal d) ∧ Below v8.heap.size v8 w') := by
        intro hpk
        have hf : fewN r sz = (q, p) := by have h := FW.out; rw [hpk] at h; exact h
        have hq0 := QR.out.2.2.1
        have hu0 := QR.out.2.2.2.2
        have e2 : d = decZ neg (q * u) (ex - 2) := by
          unfold decZ
          rw [HD.out, if_neg (Nat.mul_ne_zero hq0 hu0), UH.out, few_dec hf hq0]
        rw [e2]
        exact rdec_any neg ob lb cb (q * u) _ v8 NB8.out (by have := SZ.out.2.1; have h := QR.out.1; have : sizeN (q * u) ≤ sz := sizeN_le (by omega) hs1; omega) (OK.out.small _ (by have := QR.out.1; omega)) (by omega) (by omega)
      have HIG : Hid (pickAt r p = some (q + 1) → Calls Tryz.prog 33 #[.bool neg, .slice oab lab cab, .int .i64 (ex - 2)] v8 fun e w' => e = .returned (decVal d) ∧ Below v8.heap.size v8 w') := by
        intro hpk
        have hf : fewN r sz = (q + 1, p) := by have h := FW.out; rw [hpk] at h; exact h
        have hu0 := QR.out.2.2.2.2
        have e3 : q * u + u = (q + 1) * u := by rw [Nat.add_mul, Nat.one_mul]
        have e2 : d = decZ neg (q * u + u) (ex - 2) := by
          unfold decZ
          rw [HD.out, e3, if_neg (Nat.mul_ne_zero (by omega) hu0), UH.out, few_dec hf (by omega)]
        rw [e2]
        have h4 : q * u + u < 10 ^ (sz + 1) := by
          have h1 := SZ.out.2.1
          have h2 := QR.out
          rw [Nat.pow_succ]; omega
        exact rdec_any neg oab lab cab (q * u + u) _ v8 NA8.out (by have : sizeN (q * u + u) ≤ sz + 1 := sizeN_le h4 (by omega); omega) (OK.out.small _ (by have := QR.out; omega)) (by omega) (by omega)
      have NXT : Hid (pickAt r p = none → OfInv w r sz (n + 1) H (.slice o4 l4 c4) (.slice o5 l5 c5) (.slice o6 l6 c6) v8) := by
        intro hpk
        have hf : fewN r sz = fewN r p := by have h := FW.out; rw [hpk] at h; exact h
        exact ⟨HB8.out, BKX.out, HI.out.low.below T8.out, HI.out.mid.below T8.out, HI.out.high.below T8.out, by rw [hf, show sz - (n + 1) + 1 = p by omega]⟩
      have HZ3 : Hid (z = -1 ∨ z = 0 ∨ z = 1) := hz3
      clear NB8 NA8 T8 HI FW HW QH hz3 hp hpz hexb hlt2 hn0 hlt' hk h2 hN HEX
      cases da <;> cases db
      · -- neither
        have GO := hide (NXT.out (PK.out.trans (pick_ff rfl HDA.out HDB.out)))
        clear LOW HIG NXT PK HDA HDB Z1 Z0 DP HZ3
        go_wp2
        go_roundw
        case rel => exact ⟨n + 1, by omega, by omega, by go_num, GO.out⟩
        case measure => simp [intOf]; omega
      · -- the one above alone
        have RDH := hide (HIG.out (PK.out.trans (pick_ft rfl HDA.out HDB.out)))
        clear LOW HIG NXT PK HDA HDB Z1 Z0 DP HZ3
        go_wp2_with fail
        refine (RDH.out).mono ?_
        rintro e w9 ⟨rfl, hb9⟩
        have HB9 := hide (HB8.out.trans (hb9.mono HB8.out.size))
        have BK9 := hide (BKX.out.below hb9 BKX.out.lt)
        clear hb9 RDH BKX HB8
        have B9 := BK9.out
        have k0 : w9.cell? ⟨H, 0, none⟩ = some (.int .i64 0) := B9.cell 0
        have k1 : w9.cell? ⟨H, 1, none⟩ = some (.bool false) := B9.cell 1
        have k2 : w9.cell? ⟨H, 2, none⟩ = some (.string ⟨#[]⟩) := B9.cell 2
        have k3 : w9.cell? ⟨H, 3, none⟩ = some (.int .i64 0) := B9.cell 3
        have f0 := B9.free 0
        have f1 := B9.free 1
        have f2 := B9.free 2
        have f3 := B9.free 3
        have BL9 := hide B9
        clear B9
        rw [FIN.out]
        simp only []
        repeat (first | go_values | go_skip | go_guarded | go_step | go_upon)
        refine bodyPost_ret (results_dec rfl _ _ _ _ _ _ _ rfl (BL9.out.put4 _ _ _ _)) rfl ?_
        exact ⟨rfl, below_put4 HB9.out HLE.out _ _ _ _⟩
      · -- the one below alone
        have RDH := hide (LOW.out (PK.out.trans (pick_tf rfl HDA.out HDB.out)))
        clear LOW HIG NXT PK HDA HDB Z1 Z0 DP HZ3
        go_wp2_with fail
        refine (RDH.out).mono ?_
        rintro e w9 ⟨rfl, hb9⟩
        have HB9 := hide (HB8.out.trans (hb9.mono HB8.out.size))
        have BK9 := hide (BKX.out.below hb9 BKX.out.lt)
        clear hb9 RDH BKX HB8
        have B9 := BK9.out
        have k0 : w9.cell? ⟨H, 0, none⟩ = some (.int .i64 0) := B9.cell 0
        have k1 : w9.cell? ⟨H, 1, none⟩ = some (.bool false) := B9.cell 1
        have k2 : w9.cell? ⟨H, 2, none⟩ = some (.string ⟨#[]⟩) := B9.cell 2
        have k3 : w9.cell? ⟨H, 3, none⟩ = some (.int .i64 0) := B9.cell 3
        have f0 := B9.free 0
        have f1 := B9.free 1
        have f2 := B9.free 2
        have f3 := B9.free 3
        have BL9 := hide B9
        clear B9
        rw [FIN.out]
        simp only []
        repeat (first | go_values | go_skip | go_guarded | go_step | go_upon)
        refine bodyPost_ret (results_dec rfl _ _ _ _ _ _ _ rfl (BL9.out.put4 _ _ _ _)) rfl ?_
        exact ⟨rfl, below_put4 HB9.out HLE.out _ _ _ _⟩
      · -- both
        rcases HZ3.out with hz | hz | hz
        · have RDH := hide (LOW.out (PK.out.trans (pick_tt rfl HDA.out HDB.out (.inl (Z1.out.1 hz)))))
          subst hz
          clear LOW HIG NXT PK HDA HDB Z1 Z0 DP HZ3
          go_wp2_with fail
          refine (RDH.out).mono ?_
          rintro e w9 ⟨rfl, hb9⟩
          have HB9 := hide (HB8.out.trans (hb9.mono HB8.out.size))
          have BK9 := hide (BKX.out.below hb9 BKX.out.lt)
          clear hb9 RDH BKX HB8
          have B9 := BK9.out
          have k0 : w9.cell? ⟨H, 0, none⟩ = some (.int .i64 0) := B9.cell 0
          have k1 : w9.cell? ⟨H, 1, none⟩ = some (.bool false) := B9.cell 1
          have k2 : w9.cell? ⟨H, 2, none⟩ = some (.string ⟨#[]⟩) := B9.cell 2
          have k3 : w9.cell? ⟨H, 3, none⟩ = some (.int .i64 0) := B9.cell 3
          have f0 := B9.free 0
          have f1 := B9.free 1
          have f2 := B9.free 2
          have f3 := B9.free 3
          have BL9 := hide B9
          clear B9
          rw [FIN.out]
          simp only []
          repeat (first | go_values | go_skip | go_guarded | go_step | go_upon)
          refine bodyPost_ret (results_dec rfl _ _ _ _ _ _ _ rfl (BL9.out.put4 _ _ _ _)) rfl ?_
          exact ⟨rfl, below_put4 HB9.out HLE.out _ _ _ _⟩
        · by_cases he : q % 2 = 0
          · have RDH := hide (LOW.out (PK.out.trans (pick_tt rfl HDA.out HDB.out (.inr ⟨Z0.out.1 hz, he⟩))))
            have hpr : ((dq : Int) % 2 == 1) = false := by
              have h1 : ¬ (dq : Int) % 2 = 1 := by have := DP.out; omega
              simpa using h1
            subst hz
            clear LOW HIG NXT PK HDA HDB Z1 Z0 DP he HZ3
            go_wp2_with fail
            refine (RDH.out).mono ?_
            rintro e w9 ⟨rfl, hb9⟩
            have HB9 := hide (HB8.out.trans (hb9.mono HB8.out.size))
            have BK9 := hide (BKX.out.below hb9 BKX.out.lt)
            clear hb9 RDH BKX HB8
            have B9 := BK9.out
            have k0 : w9.cell? ⟨H, 0, none⟩ = some (.int .i64 0) := B9.cell 0
            have k1 : w9.cell? ⟨H, 1, none⟩ = some (.bool false) := B9.cell 1
            have k2 : w9.cell? ⟨H, 2, none⟩ = some (.string ⟨#[]⟩) := B9.cell 2
            have k3 : w9.cell? ⟨H, 3, none⟩ = some (.int .i64 0) := B9.cell 3
            have f0 := B9.free 0
            have f1 := B9.free 1
            have f2 := B9.free 2
            have f3 := B9.free 3
            have BL9 := hide B9
            clear B9
            rw [FIN.out]
            simp only []
            repeat (first | go_values | go_skip | go_guarded | go_step | go_upon)
            refine bodyPost_ret (results_dec rfl _ _ _ _ _ _ _ rfl (BL9.out.put4 _ _ _ _)) rfl ?_
            exact ⟨rfl, below_put4 HB9.out HLE.out _ _ _ _⟩
          · have RDH := hide (HIG.out (PK.out.trans (pick_tn rfl HDA.out HDB.out (by have := Z0.out.1 hz; omega))))
            have hpr : ((dq : Int) % 2 == 1) = true := by
              have h1 : (dq : Int) % 2 = 1 := by have := DP.out; omega
              simpa using h1
            subst hz
            clear LOW HIG NXT PK HDA HDB Z1 Z0 DP he HZ3
            go_wp2_with fail
            refine (RDH.out).mono ?_
            rintro e w9 ⟨rfl, hb9⟩
            have HB9 := hide (HB8.out.trans (hb9.mono HB8.out.size))
            have BK9 := hide (BKX.out.below hb9 BKX.out.lt)
            clear hb9 RDH BKX HB8
            have B9 := BK9.out
            have k0 : w9.cell? ⟨H, 0, none⟩ = some (.int .i64 0) := B9.cell 0
            have k1 : w9.cell? ⟨H, 1, none⟩ = some (.bool false) := B9.cell 1
            have k2 : w9.cell? ⟨H, 2, none⟩ = some (.string ⟨#[]⟩) := B9.cell 2
            have k3 : w9.cell? ⟨H, 3, none⟩ = some (.int .i64 0) := B9.cell 3
            have f0 := B9.free 0
            have f1 := B9.free 1
            have f2 := B9.free 2
            have f3 := B9.free 3
            have BL9 := hide B9
            clear B9
            rw [FIN.out]
            simp only []
            repeat (first | go_values | go_skip | go_guarded | go_step | go_upon)
            refine bodyPost_ret (results_dec rfl _ _ _ _ _ _ _ rfl (BL9.out.put4 _ _ _ _)) rfl ?_
            exact ⟨rfl, below_put4 HB9.out HLE.out _ _ _ _⟩
        · have RDH := hide (HIG.out (PK.out.trans (pick_tn rfl HDA.out HDB.out (by have a1 := Z1.out; have a2 := Z0.out; omega))))
          subst hz
          clear LOW HIG NXT PK HDA HDB Z1 Z0 DP HZ3
          go_wp2_with fail
          refine (RDH.out).mono ?_
          rintro e w9 ⟨rfl, hb9⟩
          have HB9 := hide (HB8.out.trans (hb9.mono HB8.out.size))
          have BK9 := hide (BKX.out.below hb9 BKX.out.lt)
          clear hb9 RDH BKX HB8
          have B9 := BK9.out
          have k0 : w9.cell? ⟨H, 0, none⟩ = some (.int .i64 0) := B9.cell 0
          have k1 : w9.cell? ⟨H, 1, none⟩ = some (.bool false) := B9.cell 1
          have k2 : w9.cell? ⟨H, 2, none⟩ = some (.string ⟨#[]⟩) := B9.cell 2
          have k3 : w9.cell? ⟨H, 3, none⟩ = some (.int .i64 0) := B9.cell 3
          have f0 := B9.free 0
          have f1 := B9.free 1
          have f2 := B9.free 2
          have f3 := B9.free 3
          have BL9 := hide B9
          clear B9
          rw [FIN.out]
          simp only []
          repeat (first | go_values | go_skip | go_guarded | go_step | go_upon)
          refine bodyPost_ret (results_dec rfl _ _ _ _ _ _ _ rfl (BL9.out.put4 _ _ _ _)) rfl ?_
          exact ⟨rfl, below_put4 HB9.out HLE.out _ _ _ _⟩
    · obtain rfl : n = sz := by omega
      have hlt' : ¬ (n : Int) < (n : Int) := by omega
      have hf : fewN r n = (r.amt, 0) := by
        have h := HI.out.few
        rw [show n - n + 1 = 0 + 1 by omega] at h
        rw [h]
        show (match pickAt r 0 with | some v => (v, 0) | none => fewN r 0) = (r.amt, 0)
        rw [pickAt_zero OK.out.good]
      have hA0 : r.amt ≠ 0 := by have := OK.out.lo; omega
      have RDH : Hid (Calls Tryz.prog 33 #[.bool neg, .slice o5 l5 c5, .int .i64 (ex - 2)] wr fun e w' => e = .returned (decVal d) ∧ Below wr.heap.size wr w') := by
        have e2 : d = decZ neg r.amt (ex - 2) := by
          unfold decZ
          rw [HD.out, if_neg hA0, ← few_dec hf hA0, Nat.pow_zero, Nat.mul_one]
        show Calls Tryz.prog _ _ _ _
        rw [e2]
        exact rdec_any neg o5 l5 c5 r.amt _ wr HI.out.mid (by have := sizeN_le SZ.out.2.1 hs1; omega) (OK.out.small _ (by omega)) (by omega) (by omega)
      have HB8 := hide HI.out.bel
      have BKX := hide HI.out.blk
      clear HI hf hA0 hexb hlt2 hn0 hk h2 hN HEX hlt hn2
      go_wp2_with fail
      refine (RDH.out).mono ?_
      rintro e w9 ⟨rfl, hb9⟩
      have HB9 := hide (HB8.out.trans (hb9.mono HB8.out.size))
      have BK9 := hide (BKX.out.below hb9 BKX.out.lt)
      clear hb9 RDH BKX HB8
      have B9 := BK9.out
      have k0 : w9.cell? ⟨H, 0, none⟩ = some (.int .i64 0) := B9.cell 0
      have k1 : w9.cell? ⟨H, 1, none⟩ = some (.bool false) := B9.cell 1
      have k2 : w9.cell? ⟨H, 2, none⟩ = some (.string ⟨#[]⟩) := B9.cell 2
      have k3 : w9.cell? ⟨H, 3, none⟩ = some (.int .i64 0) := B9.cell 3
      have f0 := B9.free 0
      have f1 := B9.free 1
      have f2 := B9.free 2
      have f3 := B9.free 3
      have BL9 := hide B9
      clear B9
      rw [FIN.out]
      simp only []
      repeat (first | go_values | go_skip | go_guarded | go_step | go_upon)
      refine bodyPost_ret (results_dec rfl _ _ _ _ _ _ _ rfl (BL9.out.put4 _ _ _ _)) rfl ?_
      exact ⟨rfl, below_put4 HB9.out HLE.out _ _ _ _⟩

set_option maxRecDepth 100000 in
set_option maxHeartbeats 4000000 in
theorem rof64_pos (b N lo4 k : Nat) (ex : Int) (neg : Bool) (r : Near) (w : World) (hN : 1 ≤ N) (hk : k ≤ 1080) (ok : OfOk r) (hs : sizeN r.amt ≤ 2000) (hex : ex = (k : Int) + 2) (h2 : 0 ≤ k)
    (ra : r.amt = N * 4 * 2 ^ k) (rl : r.amt - r.lo = (N * 4 - lo4) * 2 ^ k) (rh : r.amt + r.hi = (N * 4 + 2) * 2 ^ k) (sm : Sm (N * 4 + 2) ∧ Sm (2 ^ k))
    (PT : ∀ W, Calls Tryz.prog 23 #[k64, .int .u64 (b : Int)] W fun e w' => e = .returned (.tuple #[.bool neg, .int .i64 0, .int .u64 (N : Int), .int .i64 ex]) ∧ Below W.heap.size W w')
    (RC : ∀ W, Calls Tryz.prog 24 #[k64, .int .u64 (N : Int), .int .i64 ex] W (RrPost W lo4 N r.clo)) :
    Calls Tryz.prog 11 #[k64, .int .u64 (b : Int)] w fun e w' => e = .returned (decVal (decA neg (fewN r (sizeN r.amt)).1 (0 + ((fewN r (sizeN r.amt)).2 : Nat)))) ∧ Below w.heap.size w w' := by
  have g := ok.good
  have hamt : r.amt ≠ 0 := by have := ok.lo; omega
  obtain ⟨sz, hsz⟩ : ∃ sz, sz = sizeN r.amt := ⟨_, rfl⟩
  rw [← hsz] at hs ⊢
  have _hz := h2
  obtain ⟨d, hd⟩ : ∃ d, d = decA neg (fewN r sz).1 (0 + ((fewN r sz).2 : Nat)) := ⟨_, rfl⟩
  rw [← hd]
  have HD := hide hd
  have hs1 : 1 ≤ sz := by rw [hsz]; exact sizeN_pos _
  have hn0 : ¬ (N : Int) = 0 := by omega
  have hlt2 : ¬ ex < 2 := by omega
  have hexb : -1080 ≤ ex ∧ ex ≤ 1090 := by omega
  have HEX := hide hex
  have SMN : Hid (Sm (N * 4 - lo4) ∧ Sm (N * 4) ∧ Sm (N * 4 + 2) ∧ Sm (2 ^ k)) := ⟨Nat.lt_of_le_of_lt (by omega) sm.1, Nat.lt_of_le_of_lt (by omega) sm.1, sm.1, sm.2⟩
  have OK := hide ok
  have SZ : Hid (sz = (Lib.decDigits r.amt).length ∧ r.amt < 10 ^ sz ∧ 10 ^ (sz - 1) ≤ r.amt) := ⟨hsz, by rw [hsz]; exact sizeN_lt _, by rw [hsz]; exact sizeN_ge hamt⟩
  have RA : Hid (N * 4 * 2 ^ k = r.amt ∧ (N * 4 - lo4) * 2 ^ k = r.amt - r.lo ∧ (N * 4 + 2) * 2 ^ k = r.amt + r.hi) := ⟨ra.symm, rl.symm, rh.symm⟩
  have FIN : Hid (decVal d = .agg #[.int .i64 (d.cls : Int), .bool d.neg, .string ⟨d.dig.toArray⟩, .int .i64 d.exp]) := rfl
  have PTH := hide PT
  have RCH := hide RC
  have HB0 : Hid (Below w.heap.size w ((w.alloc (.cells #[.int .i64 52, .int .i64 11] 28)).alloc (.cells #[.int .i64 0, .bool false, .string ⟨#[]⟩, .int .i64 0] 25))) := ((Below.refl _ _).alloc (Nat.le_refl _) _).alloc (by simp) _
  have BLK := hide (Blk.newAt (w.alloc (.cells #[.int .i64 52, .int .i64 11] 28)) (w.heap.size + 1) (by simp) #[.int .i64 0, .bool false, .string ⟨#[]⟩, .int .i64 0] 25)
  have BLK0 := hide ((Blk.new w #[.int .i64 52, .int .i64 11] 28).alloc (.cells #[.int .i64 0, .bool false, .string ⟨#[]⟩, .int .i64 0] 25))
  clear PT RC hd g hamt ok hsz ra rl rh sm hex
  go_enter Tryz.func11, Tryz.ntmps11
  go_wp2_with fail
  refine (PTH.out _).mono ?_
  rintro e w1 ⟨rfl, hb1⟩
  have B0 := BLK0.out.below hb1 BLK0.out.lt
  have c0 : w1.cell? ⟨w.heap.size, 0, none⟩ = some (.int .i64 52) := B0.cell 0
  have c1 : w1.cell? ⟨w.heap.size, 1, none⟩ = some (.int .i64 11) := B0.cell 1
  have BLK1 := hide (BLK.out.below hb1 BLK.out.lt)
  have HB1 := hide (HB0.out.trans (hb1.mono (by simp; omega)))
  clear B0 hb1 HB0 BLK BLK0 PTH
  go_wp2_with fail
  refine (RCH.out _).mono ?_
  rintro e w2 ⟨o1, p1, l1, o2, p2, l2, o3, p3, l3, rfl, n1, n2, n3, hb2⟩
  have N1 := hide n1
  have N2 := hide n2
  have N3 := hide n3
  have BLK2 := hide (BLK1.out.below hb2 BLK1.out.lt)
  have HB2 := hide (HB1.out.trans (hb2.mono HB1.out.size))
  clear hb2 n1 n2 n3 HB1 BLK1 RCH c0 c1
  go_wp2_with fail
  have M1 := hide (nr_shlz _ (N * 4 - lo4) k (ex - 2) w2 (by have := HEX.out; omega) N1.out SMN.out.1 (by omega))
  have M2 := hide (fun W (hW : Below w2.heap.size w2 W) => nr_shlz _ (N * 4) k (ex - 2) W (by have := HEX.out; omega) (N2.out.below hW) SMN.out.2.1 (by omega))
  have M3 := hide (fun W (hW : Below w2.heap.size w2 W) => nr_shlz _ (N * 4 + 2) k (ex - 2) W (by have := HEX.out; omega) (N3.out.below hW) SMN.out.2.2.1 (by omega))
  have BLK3 := hide BLK2.out
  have HB3 := hide HB2.out
  clear N1 N2 N3 BLK2 HB2
  refine M1.out.mono ?_
  rintro e w4 ⟨o4, c4, l4, rfl, n4, hb4⟩
  rw [RA.out.2.1] at n4
  have M2' := hide (M2.out w4 hb4)
  have N4 := hide n4
  have T4 := hide hb4
  clear n4 hb4 M1 M2
  go_wp2_with fail
  refine M2'.out.mono ?_
  rintro e w5 ⟨o5, c5, l5, rfl, n5, hb5⟩
  rw [RA.out.1] at n5
  have T5 := hide (T4.out.trans (hb5.mono T4.out.size))
  have M3' := hide (M3.out w5 T5.out)
  have N45 := hide (N4.out.below hb5)
  have N5 := hide n5
  clear n5 hb5 M2' M3 T4 N4
  go_wp2_with fail
  refine M3'.out.mono ?_
  rintro e w6 ⟨o6, c6, l6, rfl, n6, hb6⟩
  rw [RA.out.2.2] at n6
  have T6 := hide (T5.out.trans (hb6.mono T5.out.size))
  have N46 := hide (N45.out.below hb6)
  have N56 := hide (N5.out.below hb6)
  have N6 := hide n6
  have BLK6 := hide (BLK3.out.below T6.out BLK3.out.lt)
  have HB6 := hide (HB3.out.trans (T6.out.mono HB3.out.size))
  clear n6 hb6 M3' T5 N45 N5 BLK3 HB3 T6 RA SMN
  have TX := hide (nr_text _ r.amt w6 N56.out (OK.out.small _ (by omega)))
  go_wp2_with fail
  refine TX.out.mono ?_
  rintro e w7 ⟨rfl, hb7⟩
  obtain ⟨t, ht⟩ : ∃ t : ByteArray, t = ⟨(Lib.decDigits r.amt).toArray⟩ := ⟨_, rfl⟩
  have hts : t.size = sz := by rw [ht, SZ.out.1]; simp [ByteArray.size]
  rw [← ht]
  obtain ⟨H, eH⟩ : ∃ H, H = w.heap.size + 1 := ⟨_, rfl⟩
  have START : Hid (OfInv w r sz 1 H (.slice o4 l4 c4) (.slice o5 l5 c5) (.slice o6 l6 c6) w7) := by
    rw [eH]
    exact ⟨HB6.out.trans (hb7.mono HB6.out.size), BLK6.out.below hb7 BLK6.out.lt, N46.out.below hb7, N56.out.below hb7, N6.out.below hb7, by rw [show sz - 1 + 1 = sz by omega]⟩
  have HLE : Hid (w.heap.size ≤ H) := by show w.heap.size ≤ H; omega
  clear ht hb7 TX N46 N56 N6 BLK6 HB6
  go_wp2
  simp only [← eH]
  clear eH hts
  go_loopw [16] (fun i wr => ∃ n : Nat, 1 ≤ n ∧ n ≤ sz ∧ i = .int .i64 (n : Int) ∧ OfInv w r sz n H (.slice o4 l4 c4) (.slice o5 l5 c5) (.slice o6 l6 c6) wr) (fun i _ => sz - (intOf i).toNat)
  case atStart => exact ⟨1, by omega, hs1, rfl, START.out⟩
  case round =>
    clear START
    obtain ⟨n, hn1, hn2, rfl, hinv⟩ := hrel
    have HI := hide hinv
    clear hinv
    by_cases hlt : n < sz
    · have hlt' : (n : Int) < (sz : Int) := by omega
      obtain ⟨p, hp⟩ : ∃ p, p = sz - n := ⟨_, rfl⟩
      have hpz : p ≤ 2000 := by omega
      have P10 : Hid (10 ^ p ≤ r.amt ∧ 0 < 10 ^ p) := ⟨Nat.le_trans (Nat.pow_le_pow_right (by omega) (by omega)) SZ.out.2.2, Nat.pow_pos (by omega)⟩
      have FW : Hid (fewN r sz = (match pickAt r p with | some v => (v, p) | none => fewN r p)) := by
        have h := HI.out.few
        rw [← hp] at h
        exact h
      obtain ⟨q, hq⟩ : ∃ q, q = r.amt / 10 ^ p := ⟨_, rfl⟩
      obtain ⟨rr, hrr⟩ : ∃ z, z = r.amt % 10 ^ p := ⟨_, rfl⟩
      obtain ⟨u, hu⟩ : ∃ z, z = 10 ^ p := ⟨_, rfl⟩
      have QR : Hid (q * u + rr = r.amt ∧ rr < u ∧ q ≠ 0 ∧ u ≤ r.amt ∧ u ≠ 0) := by
        have h1 := P10.out
        refine ⟨?_, ?_, ?_, ?_, ?_⟩
        · rw [hq, hrr, hu, Nat.mul_comm]; exact Nat.div_add_mod _ _
        · rw [hrr, hu]; exact Nat.mod_lt _ h1.2
        · rw [hq]; have : 1 ≤ r.amt / 10 ^ p := (Nat.le_div_iff_mul_le h1.2).2 (by omega)
          omega
        · rw [hu]; exact h1.1
        · rw [hu]; omega
      have PK : Hid (pickAt r p = pickN r q rr u) := by show pickAt r p = pickN r q rr u; rw [hq, hrr, hu]; rfl
      have UH := hide hu
      have QH : Hid (r.amt / u = q ∧ r.amt % u = rr) := ⟨by rw [hq, hu], by rw [hrr, hu]⟩
      have HW := hide HI.out.bel
      clear hq hrr hu P10
      go_wp2_with fail
      refine (nr_pow10 _ p _ (by omega) (by omega)).mono ?_
      rintro e v1 ⟨os, cs, ls, rfl, ns, hb1⟩
      rw [← UH.out] at ns
      have DV := nr_div _ _ r.amt u v1 (HI.out.mid.below hb1) ns (OK.out.small _ (by omega)) (OK.out.small _ (by have := QR.out.2.2.2.1; omega)) QR.out.2.2.2.2
      rw [QH.out.1, QH.out.2] at DV
      have DVH := hide DV
      have NS := hide ns
      have T1 := hide hb1
      clear ns hb1 DV
      go_wp2_with fail
      refine DVH.out.mono ?_
      rintro e v2 ⟨oq, cq, lq, or, cr, lr, rfl, nq, nr, hb2, hdig⟩
      obtain ⟨hlq, bq, fq, dq, rfl, hbq, hcq, hdq, hpar⟩ := hdig QR.out.2.2.1
      have T2 := hide (T1.out.trans (hb2.mono T1.out.size))
      have NS2 := hide (NS.out.below hb2)
      have NQ := hide nq
      have NRR := hide nr
      have CQ : Hid (∀ W, Below v2.heap.size v2 W → W.cell? ⟨bq, fq, none⟩ = some (.int .u32 (dq : Int))) := fun W hW => by rw [World.cell?_of_block (w := v2) (hW.block bq hbq)]; exact hcq
      have DP : Hid (dq % 2 = q % 2) := hpar
      have ML := hide (nr_mul _ _ q u v2 nq (NS.out.below hb2) (OK.out.small _ (by have := QR.out.1; have : q ≤ q * u := Nat.le_mul_of_pos_right _ (by have := QR.out.2.2.2.2; omega); omega)) (OK.out.small _ (by have := QR.out.2.2.2.1; omega)))
      clear nq nr hb2 hdig hcq hbq hpar DVH T1 NS
      go_wp2_with fail
      refine ML.out.mono ?_
      rintro e v3 ⟨ob, cb, lb, rfl, nb, hb3⟩
      have T23 := hide hb3
      have T3 := hide (T2.out.trans (hb3.mono T2.out.size))
      have NB := hide nb
      have AD := hide (nr_add _ _ (q * u) u v3 nb (NS2.out.below hb3) (OK.out.small _ (by have := QR.out.1; omega)) (OK.out.small _ (by have := QR.out.2.2.2.1; omega)))
      clear nb hb3 ML T2
      go_wp2_with fail
      refine AD.out.mono ?_
      rintro e v4 ⟨oab, cab, lab, rfl, nab, hb4⟩
      have T24 := hide (T23.out.trans (hb4.mono T23.out.size))
      have T4 := hide (T3.out.trans (hb4.mono T3.out.size))
      have NB4 := hide (NB.out.below hb4)
      have NA4 := hide nab
      have e1 : Hid (q * u = r.amt - rr ∧ q * u + u = r.amt + (u - rr)) := by have h1 := QR.out; show q * u = r.amt - rr ∧ q * u + u = r.amt + (u - rr); omega
      have WL := hide (within_lo r.clo (.slice o4 l4 c4) (.slice ob lb cb) (.slice o6 l6 c6) r.amt r.lo rr (r.amt + r.hi) v4 (HI.out.low.below T4.out) (by rw [← e1.out.1]; exact NB4.out) (HI.out.high.below T4.out) (OK.out.small _ (by omega)) (OK.out.small _ (by omega)) (OK.out.small _ (by have := OK.out.hi; omega)) (by have := OK.out.lo; omega) (by have := QR.out.1; omega) (by have := OK.out.good.pos; have := OK.out.good.le; omega))
      have WH := hide (fun W (hW : Below v4.heap.size v4 W) => within_hi r.clo (.slice o4 l4 c4) (.slice oab lab cab) (.slice o6 l6 c6) r.amt r.hi (u - rr) (r.amt - r.lo) W ((HI.out.low.below T4.out).below hW) (by rw [← e1.out.2]; exact NA4.out.below hW) ((HI.out.high.below T4.out).below hW) (OK.out.small _ (by omega)) (OK.out.small _ (by have := QR.out.2.2.2.1; omega)) (OK.out.small _ (by have := OK.out.hi; omega)) (by have := OK.out.good.pos; have := OK.out.lo; omega))
      clear nab hb4 AD T23 T3 NB e1
      go_wp2_with fail
      refine WL.out.mono ?_
      rintro e v5 ⟨rfl, hb5⟩
      have T45 := hide hb5
      have WH5 := hide (WH.out v5 hb5)
      clear hb5 WL WH
      go_wp2_with fail
      refine WH5.out.mono ?_
      rintro e v6 ⟨rfl, hb6⟩
      have T46 := hide (T45.out.trans (hb6.mono T45.out.size))
      have T26 := hide (T24.out.trans (T46.out.mono T24.out.size))
      have A6 := hide (nr_add _ _ rr rr v6 (NRR.out.below T26.out) (NRR.out.below T26.out) (OK.out.small _ (by have := QR.out.1; omega)) (OK.out.small _ (by have := QR.out.1; omega)))
      clear hb6 WH5 T45
      go_wp2_with fail
      refine A6.out.mono ?_
      rintro e v7 ⟨or2, cr2, lr2, rfl, nr2, hb7⟩
      have T27 := hide (T26.out.trans (hb7.mono T26.out.size))
      have T47 := hide (T46.out.trans (hb7.mono T46.out.size))
      have CM := hide (fun z hz => nr_cmp _ _ (rr + rr) u z v7 nr2 (NS2.out.below T27.out) (OK.out.small _ (by have := QR.out.1; have := QR.out.2.1; have := QR.out.2.2.2.1; omega)) (OK.out.small _ (by have := QR.out.2.2.2.1; omega)) hz)
      have FC := hide (far_cmp (a := rr) (u := u) (by have := QR.out.2.1; omega))
      clear nr2 hb7 A6 T26 T46
      -- how twice the rest stands to the step
      have CX : Hid (∃ z : Int, (z = -1 ∨ z = 0 ∨ z = 1) ∧ (z = -1 ↔ rr < u - rr) ∧ (z = 0 ↔ rr = u - rr) ∧ Calls Tryz.prog 32 #[.slice or2 lr2 cr2, .slice os ls cs] v7 fun e w' => e = .returned (.int .i64 z) ∧ Hid (Below v7.heap.size v7 w')) := by
        refine ⟨cmpN (rr + rr) u, cmpN_or _ _, FC.out.1, FC.out.2, (CM.out _ rfl).mono ?_⟩
        rintro e w' ⟨rfl, h⟩
        exact ⟨rfl, h⟩
      clear CM FC NS2
      obtain ⟨z, hz3, hz1, hz0, hzc⟩ := CX.out
      have ZC := hide hzc
      have Z1 := hide hz1
      have Z0 := hide hz0
      clear hzc hz1 hz0 CX
      go_wp2_with fail
      refine ZC.out.mono ?_
      rintro e v8 ⟨rfl, T78⟩
      have T28 := hide (T27.out.trans (T78.out.mono T27.out.size))
      have T48 := hide (T47.out.trans (T78.out.mono T47.out.size))
      have cell := CQ.out v8 T28.out
      have T8 := hide (T4.out.trans (T48.out.mono T4.out.size))
      have HB8 := hide (HW.out.trans (T8.out.mono HW.out.size))
      have BKX := hide (HI.out.blk.below T8.out HI.out.blk.lt)
      have NB8 := hide (NB4.out.below T48.out)
      have NA8 := hide (NA4.out.below T48.out)
      clear ZC T27 T47 T28 T48 CQ T4 T24 NB4 NA4 NRR NQ T78
      generalize hda : heldN r.clo rr r.lo = da
      generalize hdb : heldN r.clo (u - rr) r.hi = db
      have HDA := hide hda
      have HDB := hide hdb
      clear hda hdb
      have hlq' : (0 : Int) < (lq : Int) := by omega
      -- the one below is taken
      have LOW : Hid (pickAt r p = some q → Calls Tryz.prog 33 #[.bool neg, .slice ob lb cb, .int .i64 (0)] v8 fun e w' => e = .returned (decVal d) ∧ Below v8.heap.size v8 w') := by
        intro hpk
        have hf : fewN r sz = (q, p) := by have h := FW.out; rw [hpk] at h; exact h
        have hq0 := QR.out.2.2.1
        have hu0 := QR.out.2.2.2.2
        have e2 : d = decZ neg (q * u) (0) := by
          unfold decZ
          rw [HD.out, if_neg (Nat.mul_ne_zero hq0 hu0), UH.out, few_dec hf hq0]
        rw [e2]
        exact rdec_any neg ob lb cb (q * u) _ v8 NB8.out (by have := SZ.out.2.1; have h := QR.out.1; have : sizeN (q * u) ≤ sz := sizeN_le (by omega) hs1; omega) (OK.out.small _ (by have := QR.out.1; omega)) (by omega) (by omega)
      have HIG : Hid (pickAt r p = some (q + 1) → Calls Tryz.prog 33 #[.bool neg, .slice oab lab cab, .int .i64 (0)] v8 fun e w' => e = .returned (decVal d) ∧ Below v8.heap.size v8 w') := by
        intro hpk
        have hf : fewN r sz = (q + 1, p) := by have h := FW.out; rw [hpk] at h; exact h
        have hu0 := QR.out.2.2.2.2
        have e3 : q * u + u = (q + 1) * u := by rw [Nat.add_mul, Nat.one_mul]
        have e2 : d = decZ neg (q * u + u) (0) := by
          unfold decZ
          rw [HD.out, e3, if_neg (Nat.mul_ne_zero (by omega) hu0), UH.out, few_dec hf (by omega)]
        rw [e2]
        have h4 : q * u + u < 10 ^ (sz + 1) := by
          have h1 := SZ.out.2.1
          have h2 := QR.out
          rw [Nat.pow_succ]; omega
        exact rdec_any neg oab lab cab (q * u + u) _ v8 NA8.out (by have : sizeN (q * u + u) ≤ sz + 1 := sizeN_le h4 (by omega); omega) (OK.out.small _ (by have := QR.out; omega)) (by omega) (by omega)
      have NXT : Hid (pickAt r p = none → OfInv w r sz (n + 1) H (.slice o4 l4 c4) (.slice o5 l5 c5) (.slice o6 l6 c6) v8) := by
        intro hpk
        have hf : fewN r sz = fewN r p := by have h := FW.out; rw [hpk] at h; exact h
        exact ⟨HB8.out, BKX.out, HI.out.low.below T8.out, HI.out.mid.below T8.out, HI.out.high.below T8.out, by rw [hf, show sz - (n + 1) + 1 = p by omega]⟩
      have HZ3 : Hid (z = -1 ∨ z = 0 ∨ z = 1) := hz3
      clear NB8 NA8 T8 HI FW HW QH hz3 hp hpz hexb hlt2 hn0 hlt' hk h2 hN HEX
      cases da <;> cases db
      · -- neither
        have GO := hide (NXT.out (PK.out.trans (pick_ff rfl HDA.out HDB.out)))
        clear LOW HIG NXT PK HDA HDB Z1 Z0 DP HZ3
        go_wp2
        go_roundw
        case rel => exact ⟨n + 1, by omega, by omega, by go_num, GO.out⟩
        case measure => simp [intOf]; omega
      · -- the one above alone
        have RDH := hide (HIG.out (PK.out.trans (pick_ft rfl HDA.out HDB.out)))
        clear LOW HIG NXT PK HDA HDB Z1 Z0 DP HZ3
        go_wp2_with fail
        refine (RDH.out).mono ?_
        rintro e w9 ⟨rfl, hb9⟩
        have HB9 := hide (HB8.out.trans (hb9.mono HB8.out.size))
        have BK9 := hide (BKX.out.below hb9 BKX.out.lt)
        clear hb9 RDH BKX HB8
        have B9 := BK9.out
        have k0 : w9.cell? ⟨H, 0, none⟩ = some (.int .i64 0) := B9.cell 0
        have k1 : w9.cell? ⟨H, 1, none⟩ = some (.bool false) := B9.cell 1
        have k2 : w9.cell? ⟨H, 2, none⟩ = some (.string ⟨#[]⟩) := B9.cell 2
        have k3 : w9.cell? ⟨H, 3, none⟩ = some (.int .i64 0) := B9.cell 3
        have f0 := B9.free 0
        have f1 := B9.free 1
        have f2 := B9.free 2
        have f3 := B9.free 3
        have BL9 := hide B9
        clear B9
        rw [FIN.out]
        simp only []
        repeat (first | go_values | go_skip | go_guarded | go_step | go_upon)
        refine bodyPost_ret (results_dec rfl _ _ _ _ _ _ _ rfl (BL9.out.put4 _ _ _ _)) rfl ?_
        exact ⟨rfl, below_put4 HB9.out HLE.out _ _ _ _⟩
      · -- the one below alone
        have RDH := hide (LOW.out (PK.out.trans (pick_tf rfl HDA.out HDB.out)))
        clear LOW HIG NXT PK HDA HDB Z1 Z0 DP HZ3
        go_wp2_with fail
        refine (RDH.out).mono ?_
        rintro e w9 ⟨rfl, hb9⟩
        have HB9 := hide (HB8.out.trans (hb9.mono HB8.out.size))
        have BK9 := hide (BKX.out.below hb9 BKX.out.lt)
        clear hb9 RDH BKX HB8
        have B9 := BK9.out
        have k0 : w9.cell? ⟨H, 0, none⟩ = some (.int .i64 0) := B9.cell 0
        have k1 : w9.cell? ⟨H, 1, none⟩ = some (.bool false) := B9.cell 1
        have k2 : w9.cell? ⟨H, 2, none⟩ = some (.string ⟨#[]⟩) := B9.cell 2
        have k3 : w9.cell? ⟨H, 3, none⟩ = some (.int .i64 0) := B9.cell 3
        have f0 := B9.free 0
        have f1 := B9.free 1
        have f2 := B9.free 2
        have f3 := B9.free 3
        have BL9 := hide B9
        clear B9
        rw [FIN.out]
        simp only []
        repeat (first | go_values | go_skip | go_guarded | go_step | go_upon)
        refine bodyPost_ret (results_dec rfl _ _ _ _ _ _ _ rfl (BL9.out.put4 _ _ _ _)) rfl ?_
        exact ⟨rfl, below_put4 HB9.out HLE.out _ _ _ _⟩
      · -- both
        rcases HZ3.out with hz | hz | hz
        · have RDH := hide (LOW.out (PK.out.trans (pick_tt rfl HDA.out HDB.out (.inl (Z1.out.1 hz)))))
          subst hz
          clear LOW HIG NXT PK HDA HDB Z1 Z0 DP HZ3
          go_wp2_with fail
          refine (RDH.out).mono ?_
          rintro e w9 ⟨rfl, hb9⟩
          have HB9 := hide (HB8.out.trans (hb9.mono HB8.out.size))
          have BK9 := hide (BKX.out.below hb9 BKX.out.lt)
          clear hb9 RDH BKX HB8
          have B9 := BK9.out
          have k0 : w9.cell? ⟨H, 0, none⟩ = some (.int .i64 0) := B9.cell 0
          have k1 : w9.cell? ⟨H, 1, none⟩ = some (.bool false) := B9.cell 1
          have k2 : w9.cell? ⟨H, 2, none⟩ = some (.string ⟨#[]⟩) := B9.cell 2
          have k3 : w9.cell? ⟨H, 3, none⟩ = some (.int .i64 0) := B9.cell 3
          have f0 := B9.free 0
          have f1 := B9.free 1
          have f2 := B9.free 2
          have f3 := B9.free 3
          have BL9 := hide B9
          clear B9
          rw [FIN.out]
          simp only []
          repeat (first | go_values | go_skip | go_guarded | go_step | go_upon)
          refine bodyPost_ret (results_dec rfl _ _ _ _ _ _ _ rfl (BL9.out.put4 _ _ _ _)) rfl ?_
          exact ⟨rfl, below_put4 HB9.out HLE.out _ _ _ _⟩
        · by_cases he : q % 2 = 0
          · have RDH := hide (LOW.out (PK.out.trans (pick_tt rfl HDA.out HDB.out (.inr ⟨Z0.out.1 hz, he⟩))))
            have hpr : ((dq : Int) % 2 == 1) = false := by
              have h1 : ¬ (dq : Int) % 2 = 1 := by have := DP.out; omega
              simpa using h1
            subst hz
            clear LOW HIG NXT PK HDA HDB Z1 Z0 DP he HZ3
            go_wp2_with fail
            refine (RDH.out).mono ?_
            rintro e w9 ⟨rfl, hb9⟩
            have HB9 := hide (HB8.out.trans (hb9.mono HB8.out.size))
            have BK9 := hide (BKX.out.below hb9 BKX.out.lt)
            clear hb9 RDH BKX HB8
            have B9 := BK9.out
            have k0 : w9.cell? ⟨H, 0, none⟩ = some (.int .i64 0) := B9.cell 0
            have k1 : w9.cell? ⟨H, 1, none⟩ = some (.bool false) := B9.cell 1
            have k2 : w9.cell? ⟨H, 2, none⟩ = some (.string ⟨#[]⟩) := B9.cell 2
            have k3 : w9.cell? ⟨H, 3, none⟩ = some (.int .i64 0) := B9.cell 3
            have f0 := B9.free 0
            have f1 := B9.free 1
            have f2 := B9.free 2
            have f3 := B9.free 3
            have BL9 := hide B9
            clear B9
            rw [FIN.out]
            simp only []
            repeat (first | go_values | go_skip | go_guarded | go_step | go_upon)
            refine bodyPost_ret (results_dec rfl _ _ _ _ _ _ _ rfl (BL9.out.put4 _ _ _ _)) rfl ?_
            exact ⟨rfl, below_put4 HB9.out HLE.out _ _ _ _⟩
          · have RDH := hide (HIG.out (PK.out.trans (pick_tn rfl HDA.out HDB.out (by have := Z0.out.1 hz; omega))))
            have hpr : ((dq : Int) % 2 == 1) = true := by
              have h1 : (dq : Int) % 2 = 1 := by have := DP.out; omega
              simpa using h1
            subst hz
            clear LOW HIG NXT PK HDA HDB Z1 Z0 DP he HZ3
            go_wp2_with fail
            refine (RDH.out).mono ?_
            rintro e w9 ⟨rfl, hb9⟩
            have HB9 := hide (HB8.out.trans (hb9.mono HB8.out.size))
            have BK9 := hide (BKX.out.below hb9 BKX.out.lt)
            clear hb9 RDH BKX HB8
            have B9 := BK9.out
            have k0 : w9.cell? ⟨H, 0, none⟩ = some (.int .i64 0) := B9.cell 0
            have k1 : w9.cell? ⟨H, 1, none⟩ = some (.bool false) := B9.cell 1
            have k2 : w9.cell? ⟨H, 2, none⟩ = some (.string ⟨#[]⟩) := B9.cell 2
            have k3 : w9.cell? ⟨H, 3, none⟩ = some (.int .i64 0) := B9.cell 3
            have f0 := B9.free 0
            have f1 := B9.free 1
            have f2 := B9.free 2
            have f3 := B9.free 3
            have BL9 := hide B9
            clear B9
            rw [FIN.out]
            simp only []
            repeat (first | go_values | go_skip | go_guarded | go_step | go_upon)
            refine bodyPost_ret (results_dec rfl _ _ _ _ _ _ _ rfl (BL9.out.put4 _ _ _ _)) rfl ?_
            exact ⟨rfl, below_put4 HB9.out HLE.out _ _ _ _⟩
        · have RDH := hide (HIG.out (PK.out.trans (pick_tn rfl HDA.out HDB.out (by have a1 := Z1.out; have a2 := Z0.out; omega))))
          subst hz
          clear LOW HIG NXT PK HDA HDB Z1 Z0 DP HZ3
          go_wp2_with fail
          refine (RDH.out).mono ?_
          rintro e w9 ⟨rfl, hb9⟩
          have HB9 := hide (HB8.out.trans (hb9.mono HB8.out.size))
          have BK9 := hide (BKX.out.below hb9 BKX.out.lt)
          clear hb9 RDH BKX HB8
          have B9 := BK9.out
          have k0 : w9.cell? ⟨H, 0, none⟩ = some (.int .i64 0) := B9.cell 0
          have k1 : w9.cell? ⟨H, 1, none⟩ = some (.bool false) := B9.cell 1
          have k2 : w9.cell? ⟨H, 2, none⟩ = some (.string ⟨#[]⟩) := B9.cell 2
          have k3 : w9.cell? ⟨H, 3, none⟩ = some (.int .i64 0) := B9.cell 3
          have f0 := B9.free 0
          have f1 := B9.free 1
          have f2 := B9.free 2
          have f3 := B9.free 3
          have BL9 := hide B9
          clear B9
          rw [FIN.out]
          simp only []
          repeat (first | go_values | go_skip | go_guarded | go_step | go_upon)
          refine bodyPost_ret (results_dec rfl _ _ _ _ _ _ _ rfl (BL9.out.put4 _ _ _ _)) rfl ?_
          exact ⟨rfl, below_put4 HB9.out HLE.out _ _ _ _⟩
    · obtain rfl : n = sz := by omega
      have hlt' : ¬ (n : Int) < (n : Int) := by omega
      have hf : fewN r n = (r.amt, 0) := by
        have h := HI.out.few
        rw [show n - n + 1 = 0 + 1 by omega] at h
        rw [h]
        show (match pickAt r 0 with | some v => (v, 0) | none => fewN r 0) = (r.amt, 0)
        rw [pickAt_zero OK.out.good]
      have hA0 : r.amt ≠ 0 := by have := OK.out.lo; omega
      have RDH : Hid (Calls Tryz.prog 33 #[.bool neg, .slice o5 l5 c5, .int .i64 (0)] wr fun e w' => e = .returned (decVal d) ∧ Below wr.heap.size wr w') := by
        have e2 : d = decZ neg r.amt (0) := by
          unfold decZ
          rw [HD.out, if_neg hA0, ← few_dec hf hA0, Nat.pow_zero, Nat.mul_one]
        show Calls Tryz.prog _ _ _ _
        rw [e2]
        exact rdec_any neg o5 l5 c5 r.amt _ wr HI.out.mid (by have := sizeN_le SZ.out.2.1 hs1; omega) (OK.out.small _ (by omega)) (by omega) (by omega)
      have HB8 := hide HI.out.bel
      have BKX := hide HI.out.blk
      clear HI hf hA0 hexb hlt2 hn0 hk h2 hN HEX hlt hn2
      go_wp2_with fail
      refine (RDH.out).mono ?_
      rintro e w9 ⟨rfl, hb9⟩
      have HB9 := hide (HB8.out.trans (hb9.mono HB8.out.size))
      have BK9 := hide (BKX.out.below hb9 BKX.out.lt)
      clear hb9 RDH BKX HB8
      have B9 := BK9.out
      have k0 : w9.cell? ⟨H, 0, none⟩ = some (.int .i64 0) := B9.cell 0
      have k1 : w9.cell? ⟨H, 1, none⟩ = some (.bool false) := B9.cell 1
      have k2 : w9.cell? ⟨H, 2, none⟩ = some (.string ⟨#[]⟩) := B9.cell 2
      have k3 : w9.cell? ⟨H, 3, none⟩ = some (.int .i64 0) := B9.cell 3
      have f0 := B9.free 0
      have f1 := B9.free 1
      have f2 := B9.free 2
      have f3 := B9.free 3
      have BL9 := hide B9
      clear B9
      rw [FIN.out]
      simp only []
      repeat (first | go_values | go_skip | go_guarded | go_step | go_upon)
      refine bodyPost_ret (results_dec rfl _ _ _ _ _ _ _ rfl (BL9.out.put4 _ _ _ _)) rfl ?_
      exact ⟨rfl, below_put4 HB9.out HLE.out _ _ _ _⟩

set_option maxRecDepth 100000 in
set_option maxHeartbeats 4000000 in
theorem rof32_neg (b N lo4 k : Nat) (ex : Int) (neg : Bool) (r : Near) (w : World) (hN : 1 ≤ N) (hk : k ≤ 1080) (ok : OfOk r) (hs : sizeN r.amt ≤ 2000) (hex : ex = 2 - (k : Int)) (h2 : 1 ≤ k)
    (ra : r.amt = N * 4 * 5 ^ k) (rl : r.amt - r.lo = (N * 4 - lo4) * 5 ^ k) (rh : r.amt + r.hi = (N * 4 + 2) * 5 ^ k) (sm : Sm (N * 4 + 2) ∧ Sm (5 ^ k))
    (PT : ∀ W, Calls Tryz.prog 23 #[k32, .int .u64 (b : Int)] W fun e w' => e = .returned (.tuple #[.bool neg, .int .i64 0, .int .u64 (N : Int), .int .i64 ex]) ∧ Below W.heap.size W w')
    (RC : ∀ W, Calls Tryz.prog 24 #[k32, .int .u64 (N : Int), .int .i64 ex] W (RrPost W lo4 N r.clo)) :
    Calls Tryz.prog 11 #[k32, .int .u64 (b : Int)] w fun e w' => e = .returned (decVal (decA neg (fewN r (sizeN r.amt)).1 (-(k : Int) + ((fewN r (sizeN r.amt)).2 : Nat)))) ∧ Below w.heap.size w w' := by
  have g := ok.good
  have hamt : r.amt ≠ 0 := by have := ok.lo; omega
  obtain ⟨sz, hsz⟩ : ∃ sz, sz = sizeN r.amt := ⟨_, rfl⟩
  rw [← hsz] at hs ⊢
  rw [show -(k : Int) = ex - 2 by omega]
  obtain ⟨d, hd⟩ : ∃ d, d = decA neg (fewN r sz).1 ((ex - 2) + ((fewN r sz).2 : Nat)) := ⟨_, rfl⟩
  rw [← hd]
  have HD := hide hd
  have hs1 : 1 ≤ sz := by rw [hsz]; exact sizeN_pos _
  have hn0 : ¬ (N : Int) = 0 := by omega
  have hlt2 : ex < 2 := by omega
  have hexb : -1080 ≤ ex ∧ ex ≤ 1090 := by omega
  have HEX := hide hex
  have SMN : Hid (Sm (N * 4 - lo4) ∧ Sm (N * 4) ∧ Sm (N * 4 + 2) ∧ Sm (5 ^ k)) := ⟨Nat.lt_of_le_of_lt (by omega) sm.1, Nat.lt_of_le_of_lt (by omega) sm.1, sm.1, sm.2⟩
  have OK := hide ok
  have SZ : Hid (sz = (Lib.decDigits r.amt).length ∧ r.amt < 10 ^ sz ∧ 10 ^ (sz - 1) ≤ r.amt) := ⟨hsz, by rw [hsz]; exact sizeN_lt _, by rw [hsz]; exact sizeN_ge hamt⟩
  have RA : Hid (N * 4 * 5 ^ k = r.amt ∧ (N * 4 - lo4) * 5 ^ k = r.amt - r.lo ∧ (N * 4 + 2) * 5 ^ k = r.amt + r.hi) := ⟨ra.symm, rl.symm, rh.symm⟩
  have FIN : Hid (decVal d = .agg #[.int .i64 (d.cls : Int), .bool d.neg, .string ⟨d.dig.toArray⟩, .int .i64 d.exp]) := rfl
  have PTH := hide PT
  have RCH := hide RC
  have HB0 : Hid (Below w.heap.size w ((w.alloc (.cells #[.int .i64 23, .int .i64 8] 28)).alloc (.cells #[.int .i64 0, .bool false, .string ⟨#[]⟩, .int .i64 0] 25))) := ((Below.refl _ _).alloc (Nat.le_refl _) _).alloc (by simp) _
  have BLK := hide (Blk.newAt (w.alloc (.cells #[.int .i64 23, .int .i64 8] 28)) (w.heap.size + 1) (by simp) #[.int .i64 0, .bool false, .string ⟨#[]⟩, .int .i64 0] 25)
  have BLK0 := hide ((Blk.new w #[.int .i64 23, .int .i64 8] 28).alloc (.cells #[.int .i64 0, .bool false, .string ⟨#[]⟩, .int .i64 0] 25))
  clear PT RC hd g hamt ok hsz ra rl rh sm hex
  go_enter Tryz.func11, Tryz.ntmps11
  go_wp2_with fail
  refine (PTH.out _).mono ?_
  rintro e w1 ⟨rfl, hb1⟩
  have B0 := BLK0.out.below hb1 BLK0.out.lt
  have c0 : w1.cell? ⟨w.heap.size, 0, none⟩ = some (.int .i64 23) := B0.cell 0
  have c1 : w1.cell? ⟨w.heap.size, 1, none⟩ = some (.int .i64 8) := B0.cell 1
  have BLK1 := hide (BLK.out.below hb1 BLK.out.lt)
  have HB1 := hide (HB0.out.trans (hb1.mono (by simp; omega)))
  clear B0 hb1 HB0 BLK BLK0 PTH
  go_wp2_with fail
  refine (RCH.out _).mono ?_
  rintro e w2 ⟨o1, p1, l1, o2, p2, l2, o3, p3, l3, rfl, n1, n2, n3, hb2⟩
  have N1 := hide n1
  have N2 := hide n2
  have N3 := hide n3
  have BLK2 := hide (BLK1.out.below hb2 BLK1.out.lt)
  have HB2 := hide (HB1.out.trans (hb2.mono HB1.out.size))
  clear hb2 n1 n2 n3 HB1 BLK1 RCH c0 c1
  go_wp2_with fail
  refine (nr_pow5 _ k _ (by have := HEX.out; omega) (by omega)).mono ?_
  rintro e w3 ⟨op, cp, lp, rfl, np, hb3⟩
  have M1 := hide (nr_mul _ _ (N * 4 - lo4) (5 ^ k) w3 (N1.out.below hb3) np SMN.out.1 SMN.out.2.2.2)
  have M2 := hide (fun W (hW : Below w3.heap.size w3 W) => nr_mul _ _ (N * 4) (5 ^ k) W ((N2.out.below hb3).below hW) (np.below hW) SMN.out.2.1 SMN.out.2.2.2)
  have M3 := hide (fun W (hW : Below w3.heap.size w3 W) => nr_mul _ _ (N * 4 + 2) (5 ^ k) W ((N3.out.below hb3).below hW) (np.below hW) SMN.out.2.2.1 SMN.out.2.2.2)
  have BLK3 := hide (BLK2.out.below hb3 BLK2.out.lt)
  have HB3 := hide (HB2.out.trans (hb3.mono HB2.out.size))
  clear hb3 np N1 N2 N3 BLK2 HB2
  go_wp2_with fail
  refine M1.out.mono ?_
  rintro e w4 ⟨o4, c4, l4, rfl, n4, hb4⟩
  rw [RA.out.2.1] at n4
  have M2' := hide (M2.out w4 hb4)
  have N4 := hide n4
  have T4 := hide hb4
  clear n4 hb4 M1 M2
  go_wp2_with fail
  refine M2'.out.mono ?_
  rintro e w5 ⟨o5, c5, l5, rfl, n5, hb5⟩
  rw [RA.out.1] at n5
  have T5 := hide (T4.out.trans (hb5.mono T4.out.size))
  have M3' := hide (M3.out w5 T5.out)
  have N45 := hide (N4.out.below hb5)
  have N5 := hide n5
  clear n5 hb5 M2' M3 T4 N4
  go_wp2_with fail
  refine M3'.out.mono ?_
  rintro e w6 ⟨o6, c6, l6, rfl, n6, hb6⟩
  rw [RA.out.2.2] at n6
  have T6 := hide (T5.out.trans (hb6.mono T5.out.size))
  have N46 := hide (N45.out.below hb6)
  have N56 := hide (N5.out.below hb6)
  have N6 := hide n6
  have BLK6 := hide (BLK3.out.below T6.out BLK3.out.lt)
  have HB6 := hide (HB3.out.trans (T6.out.mono HB3.out.size))
  clear n6 hb6 M3' T5 N45 N5 BLK3 HB3 T6 RA SMN
  have TX := hide (nr_text _ r.amt w6 N56.out (OK.out.small _ (by omega)))
  go_wp2_with fail
  refine TX.out.mono ?_
  rintro e w7 ⟨rfl, hb7⟩
  obtain ⟨t, ht⟩ : ∃ t : ByteArray, t = ⟨(Lib.decDigits r.amt).toArray⟩ := ⟨_, rfl⟩
  have hts : t.size = sz := by rw [ht, SZ.out.1]; simp [ByteArray.size]
  rw [← ht]
  obtain ⟨H, eH⟩ : ∃ H, H = w.heap.size + 1 := ⟨_, rfl⟩
  have START : Hid (OfInv w r sz 1 H (.slice o4 l4 c4) (.slice o5 l5 c5) (.slice o6 l6 c6) w7) := by
    rw [eH]
    exact ⟨HB6.out.trans (hb7.mono HB6.out.size), BLK6.out.below hb7 BLK6.out.lt, N46.out.below hb7, N56.out.below hb7, N6.out.below hb7, by rw [show sz - 1 + 1 = sz by omega]⟩
  have HLE : Hid (w.heap.size ≤ H) := by show w.heap.size ≤ H; omega
  clear ht hb7 TX N46 N56 N6 BLK6 HB6
  go_wp2
  simp only [← eH]
  clear eH hts
  go_loopw [16] (fun i wr => ∃ n : Nat, 1 ≤ n ∧ n ≤ sz ∧ i = .int .i64 (n : Int) ∧ OfInv w r sz n H (.slice o4 l4 c4) (.slice o5 l5 c5) (.slice o6 l6 c6) wr) (fun i _ => sz - (intOf i).toNat)
  case atStart => exact ⟨1, by omega, hs1, rfl, START.out⟩
  case round =>
    clear START
    obtain ⟨n, hn1, hn2, rfl, hinv⟩ := hrel
    have HI := hide hinv
    clear hinv
    by_cases hlt : n < sz
    · have hlt' : (n : Int) < (sz : Int) := by omega
      obtain ⟨p, hp⟩ : ∃ p, p = sz - n := ⟨_, rfl⟩
      have hpz : p ≤ 2000 := by omega
      have P10 : Hid (10 ^ p ≤ r.amt ∧ 0 < 10 ^ p) := ⟨Nat.le_trans (Nat.pow_le_pow_right (by omega) (by omega)) SZ.out.2.2, Nat.pow_pos (by omega)⟩
      have FW : Hid (fewN r sz = (match pickAt r p with | some v => (v, p) | none => fewN r p)) := by
        have h := HI.out.few
        rw [← hp] at h
        exact h
      obtain ⟨q, hq⟩ : ∃ q, q = r.amt / 10 ^ p := ⟨_, rfl⟩
      obtain ⟨rr, hrr⟩ : ∃ z, z = r.amt % 10 ^ p := ⟨_, rfl⟩
      obtain ⟨u, hu⟩ : ∃ z, z = 10 ^ p := ⟨_, rfl⟩
      have QR : Hid (q * u + rr = r.amt ∧ rr < u ∧ q ≠ 0 ∧ u ≤ r.amt ∧ u ≠ 0) := by
        have h1 := P10.out
        refine ⟨?_, ?_, ?_, ?_, ?_⟩
        · rw [hq, hrr, hu, Nat.mul_comm]; exact Nat.div_add_mod _ _
        · rw [hrr, hu]; exact Nat.mod_lt _ h1.2
        · rw [hq]; have : 1 ≤ r.amt / 10 ^ p := (Nat.le_div_iff_mul_le h1.2).2 (by omega)
          omega
        · rw [hu]; exact h1.1
        · rw [hu]; omega
      have PK : Hid (pickAt r p = pickN r q rr u) := by show pickAt r p = pickN r q rr u; rw [hq, hrr, hu]; rfl
      have UH := hide hu
      have QH : Hid (r.amt / u = q ∧ r.amt % u = rr) := ⟨by rw [hq, hu], by rw [hrr, hu]⟩
      have HW := hide HI.out.bel
      clear hq hrr hu P10
      go_wp2_with fail
      refine (nr_pow10 _ p _ (by omega) (by omega)).mono ?_
      rintro e v1 ⟨os, cs, ls, rfl, ns, hb1⟩
      rw [← UH.out] at ns
      have DV := nr_div _ _ r.amt u v1 (HI.out.mid.below hb1) ns (OK.out.small _ (by omega)) (OK.out.small _ (by have := QR.out.2.2.2.1; omega)) QR.out.2.2.2.2
      rw [QH.out.1, QH.out.2] at DV
      have DVH := hide DV
      have NS := hide ns
      have T1 := hide hb1
      clear ns hb1 DV
      go_wp2_with fail
      refine DVH.out.mono ?_
      rintro e v2 ⟨oq, cq, lq, or, cr, lr, rfl, nq, nr, hb2, hdig⟩
      obtain ⟨hlq, bq, fq, dq, rfl, hbq, hcq, hdq, hpar⟩ := hdig QR.out.2.2.1
      have T2 := hide (T1.out.trans (hb2.mono T1.out.size))
      have NS2 := hide (NS.out.below hb2)
      have NQ := hide nq
      have NRR := hide nr
      have CQ : Hid (∀ W, Below v2.heap.size v2 W → W.cell? ⟨bq, fq, none⟩ = some (.int .u32 (dq : Int))) := fun W hW => by rw [World.cell?_of_block (w := v2) (hW.block bq hbq)]; exact hcq
      have DP : Hid (dq % 2 = q % 2) := hpar
      have ML := hide (nr_mul _ _ q u v2 nq (NS.out.below hb2) (OK.out.small _ (by have := QR.out.1; have : q ≤ q * u := Nat.le_mul_of_pos_right _ (by have := QR.out.2.2.2.2; omega); omega)) (OK.out.small _ (by have := QR.out.2.2.2.1; omega)))
      clear nq nr hb2 hdig hcq hbq hpar DVH T1 NS
      go_wp2_with fail
      refine ML.out.mono ?_
      rintro e v3 ⟨ob, cb, lb, rfl, nb, hb3⟩
      have T23 := hide hb3
      have T3 := hide (T2.out.trans (hb3.mono T2.out.size))
      have NB := hide nb
      have AD := hide (nr_add _ _ (q * u) u v3 nb (NS2.out.below hb3) (OK.out.small _ (by have := QR.out.1; omega)) (OK.out.small _ (by have := QR.out.2.2.2.1; omega)))
      clear nb hb3 ML T2
      go_wp2_with fail
      refine AD.out.mono ?_
      rintro e v4 ⟨oab, cab, lab, rfl, nab, hb4⟩
      have T24 := hide (T23.out.trans (hb4.mono T23.out.size))
      have T4 := hide (T3.out.trans (hb4.mono T3.out.size))
      have NB4 := hide (NB.out.below hb4)
      have NA4 := hide nab
      have e1 : Hid (q * u = r.amt - rr ∧ q * u + u = r.amt + (u - rr)) := by have h1 := QR.out; show q * u = r.amt - rr ∧ q * u + u = r.amt + (u - rr); omega
      have WL := hide (within_lo r.clo (.slice o4 l4 c4) (.slice ob lb cb) (.slice o6 l6 c6) r.amt r.lo rr (r.amt + r.hi) v4 (HI.out.low.below T4.out) (by rw [← e1.out.1]; exact NB4.out) (HI.out.high.below T4.out) (OK.out.small _ (by omega)) (OK.out.small _ (by omega)) (OK.out.small _ (by have := OK.out.hi; omega)) (by have := OK.out.lo; omega) (by have := QR.out.1; omega) (by have := OK.out.good.pos; have := OK.out.good.le; omega))
      have WH := hide (fun W (hW : Below v4.heap.size v4 W) => within_hi r.clo (.slice o4 l4 c4) (.slice oab lab cab) (.slice o6 l6 c6) r.amt r.hi (u - rr) (r.amt - r.lo) W ((HI.out.low.below T4.out).below hW) (by rw [← e1.out.2]; exact NA4.out.below hW) ((HI.out.high.below T4.out).below hW) (OK.out.small _ (by omega)) (OK.out.small _ (by have := QR.out.2.2.2.1; omega)) (OK.out.small _ (by have := OK.out.hi; omega)) (by have := OK.out.good.pos; have := OK.out.lo; omega))
      clear nab hb4 AD T23 T3 NB e1
      go_wp2_with fail
      refine WL.out.mono ?_
      rintro e v5 ⟨rfl, hb5⟩
      have T45 := hide hb5
      have WH5 := hide (WH.out v5 hb5)
      clear hb5 WL WH
      go_wp2_with fail
      refine WH5.out.mono ?_
      rintro e v6 ⟨rfl, hb6⟩
      have T46 := hide (T45.out.trans (hb6.mono T45.out.size))
      have T26 := hide (T24.out.trans (T46.out.mono T24.out.size))
      have A6 := hide (nr_add _ _ rr rr v6 (NRR.out.below T26.out) (NRR.out.below T26.out) (OK.out.small _ (by have := QR.out.1; omega)) (OK.out.small _ (by have := QR.out.1; omega)))
      clear hb6 WH5 T45
      go_wp2_with fail
      refine A6.out.mono ?_
      rintro e v7 ⟨or2, cr2, lr2, rfl, nr2, hb7⟩
      have T27 := hide (T26.out.trans (hb7.mono T26.out.size))
      have T47 := hide (T46.out.trans (hb7.mono T46.out.size))
      have CM := hide (fun z hz => nr_cmp _ _ (rr + rr) u z v7 nr2 (NS2.out.below T27.out) (OK.out.small _ (by have := QR.out.1; have := QR.out.2.1; have := QR.out.2.2.2.1; omega)) (OK.out.small _ (by have := QR.out.2.2.2.1; omega)) hz)
      have FC := hide (far_cmp (a := rr) (u := u) (by have := QR.out.2.1; omega))
      clear nr2 hb7 A6 T26 T46
      -- how twice the rest stands to the step
      have CX : Hid (∃ z : Int, (z = -1 ∨ z = 0 ∨ z = 1) ∧ (z = -1 ↔ rr < u - rr) ∧ (z = 0 ↔ rr = u - rr) ∧ Calls Tryz.prog 32 #[.slice or2 lr2 cr2, .slice os ls cs] v7 fun e w' => e = .returned (.int .i64 z) ∧ Hid (Below v7.heap.size v7 w')) := by
        refine ⟨cmpN (rr + rr) u, cmpN_or _ _, FC.out.1, FC.out.2, (CM.out _ rfl).mono ?_⟩
        rintro e w' ⟨rfl, h⟩
        exact ⟨rfl, h⟩
      clear CM FC NS2
      obtain ⟨z, hz3, hz1, hz0, hzc⟩ := CX.out
      have ZC := hide hzc
      have Z1 := hide hz1
      have Z0 := hide hz0
      clear hzc hz1 hz0 CX
      go_wp2_with fail
      refine ZC.out.mono ?_
      rintro e v8 ⟨rfl, T78⟩
      have T28 := hide (T27.out.trans (T78.out.mono T27.out.size))
      have T48 := hide (T47.out.trans (T78.out.mono T47.out.size))
      have cell := CQ.out v8 T28.out
      have T8 := hide (T4.out.trans (T48.out.mono T4.out.size))
      have HB8 := hide (HW.out.trans (T8.out.mono HW.out.size))
      have BKX := hide (HI.out.blk.below T8.out HI.out.blk.lt)
      have NB8 := hide (NB4.out.below T48.out)
      have NA8 := hide (NA4.out.below T48.out)
      clear ZC T27 T47 T28 T48 CQ T4 T24 NB4 NA4 NRR NQ T78
      generalize hda : heldN r.clo rr r.lo = da
      generalize hdb : heldN r.clo (u - rr) r.hi = db
      have HDA := hide hda
      have HDB := hide hdb
      clear hda hdb
      have hlq' : (0 : Int) < (lq : Int) := by omega
      -- the one below is taken
      have LOW : Hid (pickAt r p = some q → Calls Tryz.prog 33 #[.bool neg, .slice ob lb cb, .int .i64 (ex - 2)] v8 fun e w' => e = .returned (decVal d) ∧ Below v8.heap.size v8 w') := by
        intro hpk
        have hf : fewN r sz = (q, p) := by have h := FW.out; rw [hpk] at h; exact h
        have hq0 := QR.out.2.2.1
        have hu0 := QR.out.2.2.2.2
        have e2 : d = decZ neg (q * u) (ex - 2) := by
          unfold decZ
          rw [HD.out, if_neg (Nat.mul_ne_zero hq0 hu0), UH.out, few_dec hf hq0]
        rw [e2]
        exact rdec_any neg ob lb cb (q * u) _ v8 NB8.out (by have := SZ.out.2.1; have h := QR.out.1; have : sizeN (q * u) ≤ sz := sizeN_le (by omega) hs1; omega) (OK.out.small _ (by have := QR.out.1; omega)) (by omega) (by omega)
      have HIG : Hid (pickAt r p = some (q + 1) → Calls Tryz.prog 33 #[.bool neg, .slice oab lab cab, .int .i64 (ex - 2)] v8 fun e w' => e = .returned (decVal d) ∧ Below v8.heap.size v8 w') := by
        intro hpk
        have hf : fewN r sz = (q + 1, p) := by have h := FW.out; rw [hpk] at h; exact h
        have hu0 := QR.out.2.2.2.2
        have e3 : q * u + u = (q + 1) * u := by rw [Nat.add_mul, Nat.one_mul]
        have e2 : d = decZ neg (q * u + u) (ex - 2) := by
          unfold decZ
          rw [HD.out, e3, if_neg (Nat.mul_ne_zero (by omega) hu0), UH.out, few_dec hf (by omega)]
        rw [e2]
        have h4 : q * u + u < 10 ^ (sz + 1) := by
          have h1 := SZ.out.2.1
          have h2 := QR.out
          rw [Nat.pow_succ]; omega
        exact rdec_any neg oab lab cab (q * u + u) _ v8 NA8.out (by have : sizeN (q * u + u) ≤ sz + 1 := sizeN_le h4 (by omega); omega) (OK.out.small _ (by have := QR.out; omega)) (by omega) (by omega)
      have NXT : Hid (pickAt r p = none → OfInv w r sz (n + 1) H (.slice o4 l4 c4) (.slice o5 l5 c5) (.slice o6 l6 c6) v8) := by
        intro hpk
        have hf : fewN r sz = fewN r p := by have h := FW.out; rw [hpk] at h; exact h
        exact ⟨HB8.out, BKX.out, HI.out.low.below T8.out, HI.out.mid.below T8.out, HI.out.high.below T8.out, by rw [hf, show sz - (n + 1) + 1 = p by omega]⟩
      have HZ3 : Hid (z = -1 ∨ z = 0 ∨ z = 1) := hz3
      clear NB8 NA8 T8 HI FW HW QH hz3 hp hpz hexb hlt2 hn0 hlt' hk h2 hN HEX
      cases da <;> cases db
      · -- neither
        have GO := hide (NXT.out (PK.out.trans (pick_ff rfl HDA.out HDB.out)))
        clear LOW HIG NXT PK HDA HDB Z1 Z0 DP HZ3
        go_wp2
        go_roundw
        case rel => exact ⟨n + 1, by omega, by omega, by go_num, GO.out⟩
        case measure => simp [intOf]; omega
      · -- the one above alone
        have RDH := hide (HIG.out (PK.out.trans (pick_ft rfl HDA.out HDB.out)))
        clear LOW HIG NXT PK HDA HDB Z1 Z0 DP HZ3
        go_wp2_with fail
        refine (RDH.out).mono ?_
        rintro e w9 ⟨rfl, hb9⟩
        have HB9 := hide (HB8.out.trans (hb9.mono HB8.out.size))
        have BK9 := hide (BKX.out.below hb9 BKX.out.lt)
        clear hb9 RDH BKX HB8
        have B9 := BK9.out
        have k0 : w9.cell? ⟨H, 0, none⟩ = some (.int .i64 0) := B9.cell 0
        have k1 : w9.cell? ⟨H, 1, none⟩ = some (.bool false) := B9.cell 1
        have k2 : w9.cell? ⟨H, 2, none⟩ = some (.string ⟨#[]⟩) := B9.cell 2
        have k3 : w9.cell? ⟨H, 3, none⟩ = some (.int .i64 0) := B9.cell 3
        have f0 := B9.free 0
        have f1 := B9.free 1
        have f2 := B9.free 2
        have f3 := B9.free 3
        have BL9 := hide B9
        clear B9
        rw [FIN.out]
        simp only []
        repeat (first | go_values | go_skip | go_guarded | go_step | go_upon)
        refine bodyPost_ret (results_dec rfl _ _ _ _ _ _ _ rfl (BL9.out.put4 _ _ _ _)) rfl ?_
        exact ⟨rfl, below_put4 HB9.out HLE.out _ _ _ _⟩
      · -- the one below alone
        have RDH := hide (LOW.out (PK.out.trans (pick_tf rfl HDA.out HDB.out)))
        clear LOW HIG NXT PK HDA HDB Z1 Z0 DP HZ3
        go_wp2_with fail
        refine (RDH.out).mono ?_
        rintro e w9 ⟨rfl, hb9⟩
        have HB9 := hide (HB8.out.trans (hb9.mono HB8.out.size))
        have BK9 := hide (BKX.out.below hb9 BKX.out.lt)
        clear hb9 RDH BKX HB8
        have B9 := BK9.out
        have k0 : w9.cell? ⟨H, 0, none⟩ = some (.int .i64 0) := B9.cell 0
        have k1 : w9.cell? ⟨H, 1, none⟩ = some (.bool false) := B9.cell 1
        have k2 : w9.cell? ⟨H, 2, none⟩ = some (.string ⟨#[]⟩) := B9.cell 2
        have k3 : w9.cell? ⟨H, 3, none⟩ = some (.int .i64 0) := B9.cell 3
        have f0 := B9.free 0
        have f1 := B9.free 1
        have f2 := B9.free 2
        have f3 := B9.free 3
        have BL9 := hide B9
        clear B9
        rw [FIN.out]
        simp only []
        repeat (first | go_values | go_skip | go_guarded | go_step | go_upon)
        refine bodyPost_ret (results_dec rfl _ _ _ _ _ _ _ rfl (BL9.out.put4 _ _ _ _)) rfl ?_
        exact ⟨rfl, below_put4 HB9.out HLE.out _ _ _ _⟩
      · -- both
        rcases HZ3.out with hz | hz | hz
        · have RDH := hide (LOW.out (PK.out.trans (pick_tt rfl HDA.out HDB.out (.inl (Z1.out.1 hz)))))
          subst hz
          clear LOW HIG NXT PK HDA HDB Z1 Z0 DP HZ3
          go_wp2_with fail
          refine (RDH.out).mono ?_
          rintro e w9 ⟨rfl, hb9⟩
          have HB9 := hide (HB8.out.trans (hb9.mono HB8.out.size))
          have BK9 := hide (BKX.out.below hb9 BKX.out.lt)
          clear hb9 RDH BKX HB8
          have B9 := BK9.out
          have k0 : w9.cell? ⟨H, 0, none⟩ = some (.int .i64 0) := B9.cell 0
          have k1 : w9.cell? ⟨H, 1, none⟩ = some (.bool false) := B9.cell 1
          have k2 : w9.cell? ⟨H, 2, none⟩ = some (.string ⟨#[]⟩) := B9.cell 2
          have k3 : w9.cell? ⟨H, 3, none⟩ = some (.int .i64 0) := B9.cell 3
          have f0 := B9.free 0
          have f1 := B9.free 1
          have f2 := B9.free 2
          have f3 := B9.free 3
          have BL9 := hide B9
          clear B9
          rw [FIN.out]
          simp only []
          repeat (first | go_values | go_skip | go_guarded | go_step | go_upon)
          refine bodyPost_ret (results_dec rfl _ _ _ _ _ _ _ rfl (BL9.out.put4 _ _ _ _)) rfl ?_
          exact ⟨rfl, below_put4 HB9.out HLE.out _ _ _ _⟩
        · by_cases he : q % 2 = 0
          · have RDH := hide (LOW.out (PK.out.trans (pick_tt rfl HDA.out HDB.out (.inr ⟨Z0.out.1 hz, he⟩))))
            have hpr : ((dq : Int) % 2 == 1) = false := by
              have h1 : ¬ (dq : Int) % 2 = 1 := by have := DP.out; omega
              simpa using h1
            subst hz
            clear LOW HIG NXT PK HDA HDB Z1 Z0 DP he HZ3
            go_wp2_with fail
            refine (RDH.out).mono ?_
            rintro e w9 ⟨rfl, hb9⟩
            have HB9 := hide (HB8.out.trans (hb9.mono HB8.out.size))
            have BK9 := hide (BKX.out.below hb9 BKX.out.lt)
            clear hb9 RDH BKX HB8
            have B9 := BK9.out
            have k0 : w9.cell? ⟨H, 0, none⟩ = some (.int .i64 0) := B9.cell 0
            have k1 : w9.cell? ⟨H, 1, none⟩ = some (.bool false) := B9.cell 1
            have k2 : w9.cell? ⟨H, 2, none⟩ = some (.string ⟨#[]⟩) := B9.cell 2
            have k3 : w9.cell? ⟨H, 3, none⟩ = some (.int .i64 0) := B9.cell 3
            have f0 := B9.free 0
            have f1 := B9.free 1
            have f2 := B9.free 2
            have f3 := B9.free 3
            have BL9 := hide B9
            clear B9
            rw [FIN.out]
            simp only []
            repeat (first | go_values | go_skip | go_guarded | go_step | go_upon)
            refine bodyPost_ret (results_dec rfl _ _ _ _ _ _ _ rfl (BL9.out.put4 _ _ _ _)) rfl ?_
            exact ⟨rfl, below_put4 HB9.out HLE.out _ _ _ _⟩
          · have RDH := hide (HIG.out (PK.out.trans (pick_tn rfl HDA.out HDB.out (by have := Z0.out.1 hz; omega))))
            have hpr : ((dq : Int) % 2 == 1) = true := by
              have h1 : (dq : Int) % 2 = 1 := by have := DP.out; omega
              simpa using h1
            subst hz
            clear LOW HIG NXT PK HDA HDB Z1 Z0 DP he HZ3
            go_wp2_with fail
            refine (RDH.out).mono ?_
            rintro e w9 ⟨rfl, hb9⟩
            have HB9 := hide (HB8.out.trans (hb9.mono HB8.out.size))
            have BK9 := hide (BKX.out.below hb9 BKX.out.lt)
            clear hb9 RDH BKX HB8
            have B9 := BK9.out
            have k0 : w9.cell? ⟨H, 0, none⟩ = some (.int .i64 0) := B9.cell 0
            have k1 : w9.cell? ⟨H, 1, none⟩ = some (.bool false) := B9.cell 1
            have k2 : w9.cell? ⟨H, 2, none⟩ = some (.string ⟨#[]⟩) := B9.cell 2
            have k3 : w9.cell? ⟨H, 3, none⟩ = some (.int .i64 0) := B9.cell 3
            have f0 := B9.free 0
            have f1 := B9.free 1
            have f2 := B9.free 2
            have f3 := B9.free 3
            have BL9 := hide B9
            clear B9
            rw [FIN.out]
            simp only []
            repeat (first | go_values | go_skip | go_guarded | go_step | go_upon)
            refine bodyPost_ret (results_dec rfl _ _ _ _ _ _ _ rfl (BL9.out.put4 _ _ _ _)) rfl ?_
            exact ⟨rfl, below_put4 HB9.out HLE.out _ _ _ _⟩
        · have RDH := hide (HIG.out (PK.out.trans (pick_tn rfl HDA.out HDB.out (by have a1 := Z1.out; have a2 := Z0.out; omega))))
          subst hz
          clear LOW HIG NXT PK HDA HDB Z1 Z0 DP HZ3
          go_wp2_with fail
          refine (RDH.out).mono ?_
          rintro e w9 ⟨rfl, hb9⟩
          have HB9 := hide (HB8.out.trans (hb9.mono HB8.out.size))
          have BK9 := hide (BKX.out.below hb9 BKX.out.lt)
          clear hb9 RDH BKX HB8
          have B9 := BK9.out
          have k0 : w9.cell? ⟨H, 0, none⟩ = some (.int .i64 0) := B9.cell 0
          have k1 : w9.cell? ⟨H, 1, none⟩ = some (.bool false) := B9.cell 1
          have k2 : w9.cell? ⟨H, 2, none⟩ = some (.string ⟨#[]⟩) := B9.cell 2
          have k3 : w9.cell? ⟨H, 3, none⟩ = some (.int .i64 0) := B9.cell 3
          have f0 := B9.free 0
          have f1 := B9.free 1
          have f2 := B9.free 2
          have f3 := B9.free 3
          have BL9 := hide B9
          clear B9
          rw [FIN.out]
          simp only []
          repeat (first | go_values | go_skip | go_guarded | go_step | go_upon)
          refine bodyPost_ret (results_dec rfl _ _ _ _ _ _ _ rfl (BL9.out.put4 _ _ _ _)) rfl ?_
          exact ⟨rfl, below_put4 HB9.out HLE.out _ _ _ _⟩
    · obtain rfl : n = sz := by omega
      have hlt' : ¬ (n : Int) < (n : Int) := by omega
      have hf : fewN r n = (r.amt, 0) := by
        have h := HI.out.few
        rw [show n - n + 1 = 0 + 1 by omega] at h
        rw [h]
        show (match pickAt r 0 with | some v => (v, 0) | none => fewN r 0) = (r.amt, 0)
        rw [pickAt_zero OK.out.good]
      have hA0 : r.amt ≠ 0 := by have := OK.out.lo; omega
      have RDH : Hid (Calls Tryz.prog 33 #[.bool neg, .slice o5 l5 c5, .int .i64 (ex - 2)] wr fun e w' => e = .returned (decVal d) ∧ Below wr.heap.size wr w') := by
        have e2 : d = decZ neg r.amt (ex - 2) := by
          unfold decZ
          rw [HD.out, if_neg hA0, ← few_dec hf hA0, Nat.pow_zero, Nat.mul_one]
        show Calls Tryz.prog _ _ _ _
        rw [e2]
        exact rdec_any neg o5 l5 c5 r.amt _ wr HI.out.mid (by have := sizeN_le SZ.out.2.1 hs1; omega) (OK.out.small _ (by omega)) (by omega) (by omega)
      have HB8 := hide HI.out.bel
      have BKX := hide HI.out.blk
      clear HI hf hA0 hexb hlt2 hn0 hk h2 hN HEX hlt hn2
      go_wp2_with fail
      refine (RDH.out).mono ?_
      rintro e w9 ⟨rfl, hb9⟩
      have HB9 := hide (HB8.out.trans (hb9.mono HB8.out.size))
      have BK9 := hide (BKX.out.below hb9 BKX.out.lt)
      clear hb9 RDH BKX HB8
      have B9 := BK9.out
      have k0 : w9.cell? ⟨H, 0, none⟩ = some (.int .i64 0) := B9.cell 0
      have k1 : w9.cell? ⟨H, 1, none⟩ = some (.bool false) := B9.cell 1
      have k2 : w9.cell? ⟨H, 2, none⟩ = some (.string ⟨#[]⟩) := B9.cell 2
      have k3 : w9.cell? ⟨H, 3, none⟩ = some (.int .i64 0) := B9.cell 3
      have f0 := B9.free 0
      have f1 := B9.free 1
      have f2 := B9.free 2
      have f3 := B9.free 3
      have BL9 := hide B9
      clear B9
      rw [FIN.out]
      simp only []
      repeat (first | go_values | go_skip | go_guarded | go_step | go_upon)
      refine bodyPost_ret (results_dec rfl _ _ _ _ _ _ _ rfl (BL9.out.put4 _ _ _ _)) rfl ?_
      exact ⟨rfl, below_put4 HB9.out HLE.out _ _ _ _⟩

set_option maxRecDepth 100000 in
set_option maxHeartbeats 4000000 in
theorem rof32_pos (b N lo4 k : Nat) (ex : Int) (neg : Bool) (r : Near) (w : World) (hN : 1 ≤ N) (hk : k ≤ 1080) (ok : OfOk r) (hs : sizeN r.amt ≤ 2000) (hex : ex = (k : Int) + 2) (h2 : 0 ≤ k)
    (ra : r.amt = N * 4 * 2 ^ k) (rl : r.amt - r.lo = (N * 4 - lo4) * 2 ^ k) (rh : r.amt + r.hi = (N * 4 + 2) * 2 ^ k) (sm : Sm (N * 4 + 2) ∧ Sm (2 ^ k))
    (PT : ∀ W, Calls Tryz.prog 23 #[k32, .int .u64 (b : Int)] W fun e w' => e = .returned (.tuple #[.bool neg, .int .i64 0, .int .u64 (N : Int), .int .i64 ex]) ∧ Below W.heap.size W w')
    (RC : ∀ W, Calls Tryz.prog 24 #[k32, .int .u64 (N : Int), .int .i64 ex] W (RrPost W lo4 N r.clo)) :
    Calls Tryz.prog 11 #[k32, .int .u64 (b : Int)] w fun e w' => e = .returned (decVal (decA neg (fewN r (sizeN r.amt)).1 (0 + ((fewN r (sizeN r.amt)).2 : Nat)))) ∧ Below w.heap.size w w' := by
  have g := ok.good
  have hamt : r.amt ≠ 0 := by have := ok.lo; omega
  obtain ⟨sz, hsz⟩ : ∃ sz, sz = sizeN r.amt := ⟨_, rfl⟩
  rw [← hsz] at hs ⊢
  have _hz := h2
  obtain ⟨d, hd⟩ : ∃ d, d = decA neg (fewN r sz).1 (0 + ((fewN r sz).2 : Nat)) := ⟨_, rfl⟩
  rw [← hd]
  have HD := hide hd
  have hs1 : 1 ≤ sz := by rw [hsz]; exact sizeN_pos _
  have hn0 : ¬ (N : Int) = 0 := by omega
  have hlt2 : ¬ ex < 2 := by omega
  have hexb : -1080 ≤ ex ∧ ex ≤ 1090 := by omega
  have HEX := hide hex
  have SMN : Hid (Sm (N * 4 - lo4) ∧ Sm (N * 4) ∧ Sm (N * 4 + 2) ∧ Sm (2 ^ k)) := ⟨Nat.lt_of_le_of_lt (by omega) sm.1, Nat.lt_of_le_of_lt (by omega) sm.1, sm.1, sm.2⟩
  have OK := hide ok
  have SZ : Hid (sz = (Lib.decDigits r.amt).length ∧ r.amt < 10 ^ sz ∧ 10 ^ (sz - 1) ≤ r.amt) := ⟨hsz, by rw [hsz]; exact sizeN_lt _, by rw [hsz]; exact sizeN_ge hamt⟩
  have RA : Hid (N * 4 * 2 ^ k = r.amt ∧ (N * 4 - lo4) * 2 ^ k = r.amt - r.lo ∧ (N * 4 + 2) * 2 ^ k = r.amt + r.hi) := ⟨ra.symm, rl.symm, rh.symm⟩
  have FIN : Hid (decVal d = .agg #[.int .i64 (d.cls : Int), .bool d.neg, .string ⟨d.dig.toArray⟩, .int .i64 d.exp]) := rfl
  have PTH := hide PT
  have RCH := hide RC
  have HB0 : Hid (Below w.heap.size w ((w.alloc (.cells #[.int .i64 23, .int .i64 8] 28)).alloc (.cells #[.int .i64 0, .bool false, .string ⟨#[]⟩, .int .i64 0] 25))) := ((Below.refl _ _).alloc (Nat.le_refl _) _).alloc (by simp) _
  have BLK := hide (Blk.newAt (w.alloc (.cells #[.int .i64 23, .int .i64 8] 28)) (w.heap.size + 1) (by simp) #[.int .i64 0, .bool false, .string ⟨#[]⟩, .int .i64 0] 25)
  have BLK0 := hide ((Blk.new w #[.int .i64 23, .int .i64 8] 28).alloc (.cells #[.int .i64 0, .bool false, .string ⟨#[]⟩, .int .i64 0] 25))
  clear PT RC hd g hamt ok hsz ra rl rh sm hex
  go_enter Tryz.func11, Tryz.ntmps11
  go_wp2_with fail
  refine (PTH.out _).mono ?_
  rintro e w1 ⟨rfl, hb1⟩
  have B0 := BLK0.out.below hb1 BLK0.out.lt
  have c0 : w1.cell? ⟨w.heap.size, 0, none⟩ = some (.int .i64 23) := B0.cell 0
  have c1 : w1.cell? ⟨w.heap.size, 1, none⟩ = some (.int .i64 8) := B0.cell 1
  have BLK1 := hide (BLK.out.below hb1 BLK.out.lt)
  have HB1 := hide (HB0.out.trans (hb1.mono (by simp; omega)))
  clear B0 hb1 HB0 BLK BLK0 PTH
  go_wp2_with fail
  refine (RCH.out _).mono ?_
  rintro e w2 ⟨o1, p1, l1, o2, p2, l2, o3, p3, l3, rfl, n1, n2, n3, hb2⟩
  have N1 := hide n1
  have N2 := hide n2
  have N3 := hide n3
  have BLK2 := hide (BLK1.out.below hb2 BLK1.out.lt)
  have HB2 := hide (HB1.out.trans (hb2.mono HB1.out.size))
  clear hb2 n1 n2 n3 HB1 BLK1 RCH c0 c1
  go_wp2_with fail
  have M1 := hide (nr_shlz _ (N * 4 - lo4) k (ex - 2) w2 (by have := HEX.out; omega) N1.out SMN.out.1 (by omega))
  have M2 := hide (fun W (hW : Below w2.heap.size w2 W) => nr_shlz _ (N * 4) k (ex - 2) W (by have := HEX.out; omega) (N2.out.below hW) SMN.out.2.1 (by omega))
  have M3 := hide (fun W (hW : Below w2.heap.size w2 W) => nr_shlz _ (N * 4 + 2) k (ex - 2) W (by have := HEX.out; omega) (N3.out.below hW) SMN.out.2.2.1 (by omega))
  have BLK3 := hide BLK2.out
  have HB3 := hide HB2.out
  clear N1 N2 N3 BLK2 HB2
  refine M1.out.mono ?_
  rintro e w4 ⟨o4, c4, l4, rfl, n4, hb4⟩
  rw [RA.out.2.1] at n4
  have M2' := hide (M2.out w4 hb4)
  have N4 := hide n4
  have T4 := hide hb4
  clear n4 hb4 M1 M2
  go_wp2_with fail
  refine M2'.out.mono ?_
  rintro e w5 ⟨o5, c5, l5, rfl, n5, hb5⟩
  rw [RA.out.1] at n5
  have T5 := hide (T4.out.trans (hb5.mono T4.out.size))
  have M3' := hide (M3.out w5 T5.out)
  have N45 := hide (N4.out.below hb5)
  have N5 := hide n5
  clear n5 hb5 M2' M3 T4 N4
  go_wp2_with fail
  refine M3'.out.mono ?_
  rintro e w6 ⟨o6, c6, l6, rfl, n6, hb6⟩
  rw [RA.out.2.2] at n6
  have T6 := hide (T5.out.trans (hb6.mono T5.out.size))
  have N46 := hide (N45.out.below hb6)
  have N56 := hide (N5.out.below hb6)
  have N6 := hide n6
  have BLK6 := hide (BLK3.out.below T6.out BLK3.out.lt)
  have HB6 := hide (HB3.out.trans (T6.out.mono HB3.out.size))
  clear n6 hb6 M3' T5 N45 N5 BLK3 HB3 T6 RA SMN
  have TX := hide (nr_text _ r.amt w6 N56.out (OK.out.small _ (by omega)))
  go_wp2_with fail
  refine TX.out.mono ?_
  rintro e w7 ⟨rfl, hb7⟩
  obtain ⟨t, ht⟩ : ∃ t : ByteArray, t = ⟨(Lib.decDigits r.amt).toArray⟩ := ⟨_, rfl⟩
  have hts : t.size = sz := by rw [ht, SZ.out.1]; simp [ByteArray.size]
  rw [← ht]
  obtain ⟨H, eH⟩ : ∃ H, H = w.heap.size + 1 := ⟨_, rfl⟩
  have START : Hid (OfInv w r sz 1 H (.slice o4 l4 c4) (.slice o5 l5 c5) (.slice o6 l6 c6) w7) := by
    rw [eH]
    exact ⟨HB6.out.trans (hb7.mono HB6.out.size), BLK6.out.below hb7 BLK6.out.lt, N46.out.below hb7, N56.out.below hb7, N6.out.below hb7, by rw [show sz - 1 + 1 = sz by omega]⟩
  have HLE : Hid (w.heap.size ≤ H) := by show w.heap.size ≤ H; omega
  clear ht hb7 TX N46 N56 N6 BLK6 HB6
  go_wp2
  simp only [← eH]
  clear eH hts
  go_loopw [16] (fun i wr => ∃ n : Nat, 1 ≤ n ∧ n ≤ sz ∧ i = .int .i64 (n : Int) ∧ OfInv w r sz n H (.slice o4 l4 c4) (.slice o5 l5 c5) (.slice o6 l6 c6) wr) (fun i _ => sz - (intOf i).toNat)
  case atStart => exact ⟨1, by omega, hs1, rfl, START.out⟩
  case round =>
    clear START
    obtain ⟨n, hn1, hn2, rfl, hinv⟩ := hrel
    have HI := hide hinv
    clear hinv
    by_cases hlt : n < sz
    · have hlt' : (n : Int) < (sz : Int) := by omega
      obtain ⟨p, hp⟩ : ∃ p, p = sz - n := ⟨_, rfl⟩
      have hpz : p ≤ 2000 := by omega
      have P10 : Hid (10 ^ p ≤ r.amt ∧ 0 < 10 ^ p) := ⟨Nat.le_trans (Nat.pow_le_pow_right (by omega) (by omega)) SZ.out.2.2, Nat.pow_pos (by omega)⟩
      have FW : Hid (fewN r sz = (match pickAt r p with | some v => (v, p) | none => fewN r p)) := by
        have h := HI.out.few
        rw [← hp] at h
        exact h
      obtain ⟨q, hq⟩ : ∃ q, q = r.amt / 10 ^ p := ⟨_, rfl⟩
      obtain ⟨rr, hrr⟩ : ∃ z, z = r.amt % 10 ^ p := ⟨_, rfl⟩
      obtain ⟨u, hu⟩ : ∃ z, z = 10 ^ p := ⟨_, rfl⟩
      have QR : Hid (q * u + rr = r.amt ∧ rr < u ∧ q ≠ 0 ∧ u ≤ r.amt ∧ u ≠ 0) := by
        have h1 := P10.out
        refine ⟨?_, ?_, ?_, ?_, ?_⟩
        · rw [hq, hrr, hu, Nat.mul_comm]; exact Nat.div_add_mod _ _
        · rw [hrr, hu]; exact Nat.mod_lt _ h1.2
        · rw [hq]; have : 1 ≤ r.amt / 10 ^ p := (Nat.le_div_iff_mul_le h1.2).2 (by omega)
          omega
        · rw [hu]; exact h1.1
        · rw [hu]; omega
      have PK : Hid (pickAt r p = pickN r q rr u) := by show pickAt r p = pickN r q rr u; rw [hq, hrr, hu]; rfl
      have UH := hide hu
      have QH : Hid (r.amt / u = q ∧ r.amt % u = rr) := ⟨by rw [hq, hu], by rw [hrr, hu]⟩
      have HW := hide HI.out.bel
      clear hq hrr hu P10
      go_wp2_with fail
      refine (nr_pow10 _ p _ (by omega) (by omega)).mono ?_
      rintro e v1 ⟨os, cs, ls, rfl, ns, hb1⟩
      rw [← UH.out] at ns
      have DV := nr_div _ _ r.amt u v1 (HI.out.mid.below hb1) ns (OK.out.small _ (by omega)) (OK.out.small _ (by have := QR.out.2.2.2.1; omega)) QR.out.2.2.2.2
      rw [QH.out.1, QH.out.2] at DV
      have DVH := hide DV
      have NS := hide ns
      have T1 := hide hb1
      clear ns hb1 DV
      go_wp2_with fail
      refine DVH.out.mono ?_
      rintro e v2 ⟨oq, cq, lq, or, cr, lr, rfl, nq, nr, hb2, hdig⟩
      obtain ⟨hlq, bq, fq, dq, rfl, hbq, hcq, hdq, hpar⟩ := hdig QR.out.2.2.1
      have T2 := hide (T1.out.trans (hb2.mono T1.out.size))
      have NS2 := hide (NS.out.below hb2)
      have NQ := hide nq
      have NRR := hide nr
      have CQ : Hid (∀ W, Below v2.heap.size v2 W → W.cell? ⟨bq, fq, none⟩ = some (.int .u32 (dq : Int))) := fun W hW => by rw [World.cell?_of_block (w := v2) (hW.block bq hbq)]; exact hcq
      have DP : Hid (dq % 2 = q % 2) := hpar
      have ML := hide (nr_mul _ _ q u v2 nq (NS.out.below hb2) (OK.out.small _ (by have := QR.out.1; have : q ≤ q * u := Nat.le_mul_of_pos_right _ (by have := QR.out.2.2.2.2; omega); omega)) (OK.out.small _ (by have := QR.out.2.2.2.1; omega)))
      clear nq nr hb2 hdig hcq hbq hpar DVH T1 NS
      go_wp2_with fail
      refine ML.out.mono ?_
      rintro e v3 ⟨ob, cb, lb, rfl, nb, hb3⟩
      have T23 := hide hb3
      have T3 := hide (T2.out.trans (hb3.mono T2.out.size))
      have NB := hide nb
      have AD := hide (nr_add _ _ (q * u) u v3 nb (NS2.out.below hb3) (OK.out.small _ (by have := QR.out.1; omega)) (OK.out.small _ (by have := QR.out.2.2.2.1; omega)))
      clear nb hb3 ML T2
      go_wp2_with fail
      refine AD.out.mono ?_
      rintro e v4 ⟨oab, cab, lab, rfl, nab, hb4⟩
      have T24 := hide (T23.out.trans (hb4.mono T23.out.size))
      have T4 := hide (T3.out.trans (hb4.mono T3.out.size))
      have NB4 := hide (NB.out.below hb4)
      have NA4 := hide nab
      have e1 : Hid (q * u = r.amt - rr ∧ q * u + u = r.amt + (u - rr)) := by have h1 := QR.out; show q * u = r.amt - rr ∧ q * u + u = r.amt + (u - rr); omega
      have WL := hide (within_lo r.clo (.slice o4 l4 c4) (.slice ob lb cb) (.slice o6 l6 c6) r.amt r.lo rr (r.amt + r.hi) v4 (HI.out.low.below T4.out) (by rw [← e1.out.1]; exact NB4.out) (HI.out.high.below T4.out) (OK.out.small _ (by omega)) (OK.out.small _ (by omega)) (OK.out.small _ (by have := OK.out.hi; omega)) (by have := OK.out.lo; omega) (by have := QR.out.1; omega) (by have := OK.out.good.pos; have := OK.out.good.le; omega))
      have WH := hide (fun W (hW : Below v4.heap.size v4 W) => within_hi r.clo (.slice o4 l4 c4) (.slice oab lab cab) (.slice o6 l6 c6) r.amt r.hi (u - rr) (r.amt - r.lo) W ((HI.out.low.below T4.out).below hW) (by rw [← e1.out.2]; exact NA4.out.below hW) ((HI.out.high.below T4.out).below hW) (OK.out.small _ (by omega)) (OK.out.small _ (by have := QR.out.2.2.2.1; omega)) (OK.out.small _ (by have := OK.out.hi; omega)) (by have := OK.out.good.pos; have := OK.out.lo; omega))
      clear nab hb4 AD T23 T3 NB e1
      go_wp2_with fail
      refine WL.out.mono ?_
      rintro e v5 ⟨rfl, hb5⟩
      have T45 := hide hb5
      have WH5 := hide (WH.out v5 hb5)
      clear hb5 WL WH
      go_wp2_with fail
      refine WH5.out.mono ?_
      rintro e v6 ⟨rfl, hb6⟩
      have T46 := hide (T45.out.trans (hb6.mono T45.out.size))
      have T26 := hide (T24.out.trans (T46.out.mono T24.out.size))
      have A6 := hide (nr_add _ _ rr rr v6 (NRR.out.below T26.out) (NRR.out.below T26.out) (OK.out.small _ (by have := QR.out.1; omega)) (OK.out.small _ (by have := QR.out.1; omega)))
      clear hb6 WH5 T45
      go_wp2_with fail
      refine A6.out.mono ?_
      rintro e v7 ⟨or2, cr2, lr2, rfl, nr2, hb7⟩
      have T27 := hide (T26.out.trans (hb7.mono T26.out.size))
      have T47 := hide (T46.out.trans (hb7.mono T46.out.size))
      have CM := hide (fun z hz => nr_cmp _ _ (rr + rr) u z v7 nr2 (NS2.out.below T27.out) (OK.out.small _ (by have := QR.out.1; have := QR.out.2.1; have := QR.out.2.2.2.1; omega)) (OK.out.small _ (by have := QR.out.2.2.2.1; omega)) hz)
      have FC := hide (far_cmp (a := rr) (u := u) (by have := QR.out.2.1; omega))
      clear nr2 hb7 A6 T26 T46
      -- how twice the rest stands to the step
      have CX : Hid (∃ z : Int, (z = -1 ∨ z = 0 ∨ z = 1) ∧ (z = -1 ↔ rr < u - rr) ∧ (z = 0 ↔ rr = u - rr) ∧ Calls Tryz.prog 32 #[.slice or2 lr2 cr2, .slice os ls cs] v7 fun e w' => e = .returned (.int .i64 z) ∧ Hid (Below v7.heap.size v7 w')) := by
        refine ⟨cmpN (rr + rr) u, cmpN_or _ _, FC.out.1, FC.out.2, (CM.out _ rfl).mono ?_⟩
        rintro e w' ⟨rfl, h⟩
        exact ⟨rfl, h⟩
      clear CM FC NS2
      obtain ⟨z, hz3, hz1, hz0, hzc⟩ := CX.out
      have ZC := hide hzc
      have Z1 := hide hz1
      have Z0 := hide hz0
      clear hzc hz1 hz0 CX
      go_wp2_with fail
      refine ZC.out.mono ?_
      rintro e v8 ⟨rfl, T78⟩
      have T28 := hide (T27.out.trans (T78.out.mono T27.out.size))
      have T48 := hide (T47.out.trans (T78.out.mono T47.out.size))
      have cell := CQ.out v8 T28.out
      have T8 := hide (T4.out.trans (T48.out.mono T4.out.size))
      have HB8 := hide (HW.out.trans (T8.out.mono HW.out.size))
      have BKX := hide (HI.out.blk.below T8.out HI.out.blk.lt)
      have NB8 := hide (NB4.out.below T48.out)
      have NA8 := hide (NA4.out.below T48.out)
      clear ZC T27 T47 T28 T48 CQ T4 T24 NB4 NA4 NRR NQ T78
      generalize hda : heldN r.clo rr r.lo = da
      generalize hdb : heldN r.clo (u - rr) r.hi = db
      have HDA := hide hda
      have HDB := hide hdb
      clear hda hdb
      have hlq' : (0 : Int) < (lq : Int) := by omega
      -- the one below is taken
      have LOW : Hid (pickAt r p = some q → Calls Tryz.prog 33 #[.bool neg, .slice ob lb cb, .int .i64 (0)] v8 fun e w' => e = .returned (decVal d) ∧ Below v8.heap.size v8 w') := by
        intro hpk
        have hf : fewN r sz = (q, p) := by have h := FW.out; rw [hpk] at h; exact h
        have hq0 := QR.out.2.2.1
        have hu0 := QR.out.2.2.2.2
        have e2 : d = decZ neg (q * u) (0) := by
          unfold decZ
          rw [HD.out, if_neg (Nat.mul_ne_zero hq0 hu0), UH.out, few_dec hf hq0]
        rw [e2]
        exact rdec_any neg ob lb cb (q * u) _ v8 NB8.out (by have := SZ.out.2.1; have h := QR.out.1; have : sizeN (q * u) ≤ sz := sizeN_le (by omega) hs1; omega) (OK.out.small _ (by have := QR.out.1; omega)) (by omega) (by omega)
      have HIG : Hid (pickAt r p = some (q + 1) → Calls Tryz.prog 33 #[.bool neg, .slice oab lab cab, .int .i64 (0)] v8 fun e w' => e = .returned (decVal d) ∧ Below v8.heap.size v8 w') := by
        intro hpk
        have hf : fewN r sz = (q + 1, p) := by have h := FW.out; rw [hpk] at h; exact h
        have hu0 := QR.out.2.2.2.2
        have e3 : q * u + u = (q + 1) * u := by rw [Nat.add_mul, Nat.one_mul]
        have e2 : d = decZ neg (q * u + u) (0) := by
          unfold decZ
          rw [HD.out, e3, if_neg (Nat.mul_ne_zero (by omega) hu0), UH.out, few_dec hf (by omega)]
        rw [e2]
        have h4 : q * u + u < 10 ^ (sz + 1) := by
          have h1 := SZ.out.2.1
          have h2 := QR.out
          rw [Nat.pow_succ]; omega
        exact rdec_any neg oab lab cab (q * u + u) _ v8 NA8.out (by have : sizeN (q * u + u) ≤ sz + 1 := sizeN_le h4 (by omega); omega) (OK.out.small _ (by have := QR.out; omega)) (by omega) (by omega)
      have NXT : Hid (pickAt r p = none → OfInv w r sz (n + 1) H (.slice o4 l4 c4) (.slice o5 l5 c5) (.slice o6 l6 c6) v8) := by
        intro hpk
        have hf : fewN r sz = fewN r p := by have h := FW.out; rw [hpk] at h; exact h
        exact ⟨HB8.out, BKX.out, HI.out.low.below T8.out, HI.out.mid.below T8.out, HI.out.high.below T8.out, by rw [hf, show sz - (n + 1) + 1 = p by omega]⟩
      have HZ3 : Hid (z = -1 ∨ z = 0 ∨ z = 1) := hz3
      clear NB8 NA8 T8 HI FW HW QH hz3 hp hpz hexb hlt2 hn0 hlt' hk h2 hN HEX
      cases da <;> cases db
      · -- neither
        have GO := hide (NXT.out (PK.out.trans (pick_ff rfl HDA.out HDB.out)))
        clear LOW HIG NXT PK HDA HDB Z1 Z0 DP HZ3
        go_wp2
        go_roundw
        case rel => exact ⟨n + 1, by omega, by omega, by go_num, GO.out⟩
        case measure => simp [intOf]; omega
      · -- the one above alone
        have RDH := hide (HIG.out (PK.out.trans (pick_ft rfl HDA.out HDB.out)))
        clear LOW HIG NXT PK HDA HDB Z1 Z0 DP HZ3
        go_wp2_with fail
        refine (RDH.out).mono ?_
        rintro e w9 ⟨rfl, hb9⟩
        have HB9 := hide (HB8.out.trans (hb9.mono HB8.out.size))
        have BK9 := hide (BKX.out.below hb9 BKX.out.lt)
        clear hb9 RDH BKX HB8
        have B9 := BK9.out
        have k0 : w9.cell? ⟨H, 0, none⟩ = some (.int .i64 0) := B9.cell 0
        have k1 : w9.cell? ⟨H, 1, none⟩ = some (.bool false) := B9.cell 1
        have k2 : w9.cell? ⟨H, 2, none⟩ = some (.string ⟨#[]⟩) := B9.cell 2
        have k3 : w9.cell? ⟨H, 3, none⟩ = some (.int .i64 0) := B9.cell 3
        have f0 := B9.free 0
        have f1 := B9.free 1
        have f2 := B9.free 2
        have f3 := B9.free 3
        have BL9 := hide B9
        clear B9
        rw [FIN.out]
        simp only []
        repeat (first | go_values | go_skip | go_guarded | go_step | go_upon)
        refine bodyPost_ret (results_dec rfl _ _ _ _ _ _ _ rfl (BL9.out.put4 _ _ _ _)) rfl ?_
        exact ⟨rfl, below_put4 HB9.out HLE.out _ _ _ _⟩
      · -- the one below alone
        have RDH := hide (LOW.out (PK.out.trans (pick_tf rfl HDA.out HDB.out)))
        clear LOW HIG NXT PK HDA HDB Z1 Z0 DP HZ3
        go_wp2_with fail
        refine (RDH.out).mono ?_
        rintro e w9 ⟨rfl, hb9⟩
        have HB9 := hide (HB8.out.trans (hb9.mono HB8.out.size))
        have BK9 := hide (BKX.out.below hb9 BKX.out.lt)
        clear hb9 RDH BKX HB8
        have B9 := BK9.out
        have k0 : w9.cell? ⟨H, 0, none⟩ = some (.int .i64 0) := B9.cell 0
        have k1 : w9.cell? ⟨H, 1, none⟩ = some (.bool false) := B9.cell 1
        have k2 : w9.cell? ⟨H, 2, none⟩ = some (.string ⟨#[]⟩) := B9.cell 2
        have k3 : w9.cell? ⟨H, 3, none⟩ = some (.int .i64 0) := B9.cell 3
        have f0 := B9.free 0
        have f1 := B9.free 1
        have f2 := B9.free 2
        have f3 := B9.free 3
        have BL9 := hide B9
        clear B9
        rw [FIN.out]
        simp only []
        repeat (first | go_values | go_skip | go_guarded | go_step | go_upon)
        refine bodyPost_ret (results_dec rfl _ _ _ _ _ _ _ rfl (BL9.out.put4 _ _ _ _)) rfl ?_
        exact ⟨rfl, below_put4 HB9.out HLE.out _ _ _ _⟩
      · -- both
        rcases HZ3.out with hz | hz | hz
        · have RDH := hide (LOW.out (PK.out.trans (pick_tt rfl HDA.out HDB.out (.inl (Z1.out.1 hz)))))
          subst hz
          clear LOW HIG NXT PK HDA HDB Z1 Z0 DP HZ3
          go_wp2_with fail
          refine (RDH.out).mono ?_
          rintro e w9 ⟨rfl, hb9⟩
          have HB9 := hide (HB8.out.trans (hb9.mono HB8.out.size))
          have BK9 := hide (BKX.out.below hb9 BKX.out.lt)
          clear hb9 RDH BKX HB8
          have B9 := BK9.out
          have k0 : w9.cell? ⟨H, 0, none⟩ = some (.int .i64 0) := B9.cell 0
          have k1 : w9.cell? ⟨H, 1, none⟩ = some (.bool false) := B9.cell 1
          have k2 : w9.cell? ⟨H, 2, none⟩ = some (.string ⟨#[]⟩) := B9.cell 2
          have k3 : w9.cell? ⟨H, 3, none⟩ = some (.int .i64 0) := B9.cell 3
          have f0 := B9.free 0
          have f1 := B9.free 1
          have f2 := B9.free 2
          have f3 := B9.free 3
          have BL9 := hide B9
          clear B9
          rw [FIN.out]
          simp only []
          repeat (first | go_values | go_skip | go_guarded | go_step | go_upon)
          refine bodyPost_ret (results_dec rfl _ _ _ _ _ _ _ rfl (BL9.out.put4 _ _ _ _)) rfl ?_
          exact ⟨rfl, below_put4 HB9.out HLE.out _ _ _ _⟩
        · by_cases he : q % 2 = 0
          · have RDH := hide (LOW.out (PK.out.trans (pick_tt rfl HDA.out HDB.out (.inr ⟨Z0.out.1 hz, he⟩))))
            have hpr : ((dq : Int) % 2 == 1) = false := by
              have h1 : ¬ (dq : Int) % 2 = 1 := by have := DP.out; omega
              simpa using h1
            subst hz
            clear LOW HIG NXT PK HDA HDB Z1 Z0 DP he HZ3
            go_wp2_with fail
            refine (RDH.out).mono ?_
            rintro e w9 ⟨rfl, hb9⟩
            have HB9 := hide (HB8.out.trans (hb9.mono HB8.out.size))
            have BK9 := hide (BKX.out.below hb9 BKX.out.lt)
            clear hb9 RDH BKX HB8
            have B9 := BK9.out
            have k0 : w9.cell? ⟨H, 0, none⟩ = some (.int .i64 0) := B9.cell 0
            have k1 : w9.cell? ⟨H, 1, none⟩ = some (.bool false) := B9.cell 1
            have k2 : w9.cell? ⟨H, 2, none⟩ = some (.string ⟨#[]⟩) := B9.cell 2
            have k3 : w9.cell? ⟨H, 3, none⟩ = some (.int .i64 0) := B9.cell 3
            have f0 := B9.free 0
            have f1 := B9.free 1
            have f2 := B9.free 2
            have f3 := B9.free 3
            have BL9 := hide B9
            clear B9
            rw [FIN.out]
            simp only []
            repeat (first | go_values | go_skip | go_guarded | go_step | go_upon)
            refine bodyPost_ret (results_dec rfl _ _ _ _ _ _ _ rfl (BL9.out.put4 _ _ _ _)) rfl ?_
            exact ⟨rfl, below_put4 HB9.out HLE.out _ _ _ _⟩
          · have RDH := hide (HIG.out (PK.out.trans (pick_tn rfl HDA.out HDB.out (by have := Z0.out.1 hz; omega))))
            have hpr : ((dq : Int) % 2 == 1) = true := by
              have h1 : (dq : Int) % 2 = 1 := by have := DP.out; omega
              simpa using h1
            subst hz
            clear LOW HIG NXT PK HDA HDB Z1 Z0 DP he HZ3
            go_wp2_with fail
            refine (RDH.out).mono ?_
            rintro e w9 ⟨rfl, hb9⟩
            have HB9 := hide (HB8.out.trans (hb9.mono HB8.out.size))
            have BK9 := hide (BKX.out.below hb9 BKX.out.lt)
            clear hb9 RDH BKX HB8
            have B9 := BK9.out
            have k0 : w9.cell? ⟨H, 0, none⟩ = some (.int .i64 0) := B9.cell 0
            have k1 : w9.cell? ⟨H, 1, none⟩ = some (.bool false) := B9.cell 1
            have k2 : w9.cell? ⟨H, 2, none⟩ = some (.string ⟨#[]⟩) := B9.cell 2
            have k3 : w9.cell? ⟨H, 3, none⟩ = some (.int .i64 0) := B9.cell 3
            have f0 := B9.free 0
            have f1 := B9.free 1
            have f2 := B9.free 2
            have f3 := B9.free 3
            have BL9 := hide B9
            clear B9
            rw [FIN.out]
            simp only []
            repeat (first | go_values | go_skip | go_guarded | go_step | go_upon)
            refine bodyPost_ret (results_dec rfl _ _ _ _ _ _ _ rfl (BL9.out.put4 _ _ _ _)) rfl ?_
            exact ⟨rfl, below_put4 HB9.out HLE.out _ _ _ _⟩
        · have RDH := hide (HIG.out (PK.out.trans (pick_tn rfl HDA.out HDB.out (by have a1 := Z1.out; have a2 := Z0.out; omega))))
          subst hz
          clear LOW HIG NXT PK HDA HDB Z1 Z0 DP HZ3
          go_wp2_with fail
          refine (RDH.out).mono ?_
          rintro e w9 ⟨rfl, hb9⟩
          have HB9 := hide (HB8.out.trans (hb9.mono HB8.out.size))
          have BK9 := hide (BKX.out.below hb9 BKX.out.lt)
          clear hb9 RDH BKX HB8
          have B9 := BK9.out
          have k0 : w9.cell? ⟨H, 0, none⟩ = some (.int .i64 0) := B9.cell 0
          have k1 : w9.cell? ⟨H, 1, none⟩ = some (.bool false) := B9.cell 1
          have k2 : w9.cell? ⟨H, 2, none⟩ = some (.string ⟨#[]⟩) := B9.cell 2
          have k3 : w9.cell? ⟨H, 3, none⟩ = some (.int .i64 0) := B9.cell 3
          have f0 := B9.free 0
          have f1 := B9.free 1
          have f2 := B9.free 2
          have f3 := B9.free 3
          have BL9 := hide B9
          clear B9
          rw [FIN.out]
          simp only []
          repeat (first | go_values | go_skip | go_guarded | go_step | go_upon)
          refine bodyPost_ret (results_dec rfl _ _ _ _ _ _ _ rfl (BL9.out.put4 _ _ _ _)) rfl ?_
          exact ⟨rfl, below_put4 HB9.out HLE.out _ _ _ _⟩
    · obtain rfl : n = sz := by omega
      have hlt' : ¬ (n : Int) < (n : Int) := by omega
      have hf : fewN r n = (r.amt, 0) := by
        have h := HI.out.few
        rw [show n - n + 1 = 0 + 1 by omega] at h
        rw [h]
        show (match pickAt r 0 with | some v => (v, 0) | none => fewN r 0) = (r.amt, 0)
        rw [pickAt_zero OK.out.good]
      have hA0 : r.amt ≠ 0 := by have := OK.out.lo; omega
      have RDH : Hid (Calls Tryz.prog 33 #[.bool neg, .slice o5 l5 c5, .int .i64 (0)] wr fun e w' => e = .returned (decVal d) ∧ Below wr.heap.size wr w') := by
        have e2 : d = decZ neg r.amt (0) := by
          unfold decZ
          rw [HD.out, if_neg hA0, ← few_dec hf hA0, Nat.pow_zero, Nat.mul_one]
        show Calls Tryz.prog _ _ _ _
        rw [e2]
        exact rdec_any neg o5 l5 c5 r.amt _ wr HI.out.mid (by have := sizeN_le SZ.out.2.1 hs1; omega) (OK.out.small _ (by omega)) (by omega) (by omega)
      have HB8 := hide HI.out.bel
      have BKX := hide HI.out.blk
      clear HI hf hA0 hexb hlt2 hn0 hk h2 hN HEX hlt hn2
      go_wp2_with fail
      refine (RDH.out).mono ?_
      rintro e w9 ⟨rfl, hb9⟩
      have HB9 := hide (HB8.out.trans (hb9.mono HB8.out.size))
      have BK9 := hide (BKX.out.below hb9 BKX.out.lt)
      clear hb9 RDH BKX HB8
      have B9 := BK9.out
      have k0 : w9.cell? ⟨H, 0, none⟩ = some (.int .i64 0) := B9.cell 0
      have k1 : w9.cell? ⟨H, 1, none⟩ = some (.bool false) := B9.cell 1
      have k2 : w9.cell? ⟨H, 2, none⟩ = some (.string ⟨#[]⟩) := B9.cell 2
      have k3 : w9.cell? ⟨H, 3, none⟩ = some (.int .i64 0) := B9.cell 3
      have f0 := B9.free 0
      have f1 := B9.free 1
      have f2 := B9.free 2
      have f3 := B9.free 3
      have BL9 := hide B9
      clear B9
      rw [FIN.out]
      simp only []
      repeat (first | go_values | go_skip | go_guarded | go_step | go_upon)
      refine bodyPost_ret (results_dec rfl _ _ _ _ _ _ _ rfl (BL9.out.put4 _ _ _ _)) rfl ?_
      exact ⟨rfl, below_put4 HB9.out HLE.out _ _ _ _⟩

end Go.Proofs.YtpiloigpncbccaaGreatDoor
