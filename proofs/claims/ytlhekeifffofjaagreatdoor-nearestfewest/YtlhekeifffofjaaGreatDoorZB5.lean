/-
  What nearest's binary64, binary32, sign, infinity, noNumber and join do.
  What whole.areDigits, whole.chunkOf and whole.Parse do.
  What whole.Parse does.
  nat's and whole's calls as package nearest makes them: over numbers, wherever their limbs lie.
  What nearest's divided and highest do.
  What (fraction).nearest does: the bits of the nearest float.
  Plain mathematics: which Decs may be.
  What decform's bare, areDigits, mayDigits and May do.
  What nearest's fractionOf does.
  What nearest's float, To64 and To32 do: the bits of the nearest float of a Dec that may be, or the error.
  What shortest's all and reachOf do.
-/
import Derived.Test.YtlhekeifffofjaaGreatDoorZB4
import Derived.Deep.RegionHeld3
import Derived.Test.YtlhekeifffofjaaGreatDoorZB2
import Derived.Test.YtlhekeifffofjaaGreatDoorZDown
import Derived.Test.YtlhekeifffofjaaGreatDoorZAdd
import Derived.Test.YtlhekeifffofjaaGreatDoorZUint
import Derived.Deep.QuietTactic
import Derived.BigQuiet
import Derived.WalkSmall
import Derived.Laws.BitsAllLaws
namespace Go.Proofs.YtlhekeifffofjaaGreatDoor
open Go.RowKit

theorem nbinary64_any (w : World) : Calls Tryz.prog 35 #[] w fun e w' => e = .returned w64 ∧ Below w.heap.size w w' := by
  go_enter Tryz.func35, Tryz.ntmps35
  go_wp2
  go_returns
  exact ⟨rfl, (Below.refl _ _).alloc (Nat.le_refl _) _⟩

theorem nsign64 (w : World) : Calls Tryz.prog 57 #[w64] w fun e w' => e = .returned (.int .u64 9223372036854775808) ∧ Below w.heap.size w w' := by
  go_enter Tryz.func57, Tryz.ntmps57
  go_wp2
  go_returns
  exact ⟨rfl, (Below.refl _ _).alloc (Nat.le_refl _) _⟩

set_option maxHeartbeats 1000000 in
theorem ninf64 (w : World) : Calls Tryz.prog 54 #[w64] w fun e w' => e = .returned (.int .u64 9218868437227405312) ∧ Below w.heap.size w w' := by
  have CC := fun W => nsign64 W
  have blk := Blk.new w #[.int .i64 52, .int .i64 11, .int .i64 (-1074)] 57
  obtain ⟨W, hW⟩ : ∃ W, W = w.alloc (.cells #[.int .i64 52, .int .i64 11, .int .i64 (-1074)] 57) := ⟨_, rfl⟩
  rw [← hW] at blk
  have HBW : Hid (Below w.heap.size w W) := by rw [hW]; exact (Below.refl _ _).alloc (Nat.le_refl _) _
  have BLK := hide blk
  have HW := hide hW
  have c0 : W.cell? ⟨w.heap.size, 0, none⟩ = some (.int .i64 52) := blk.cell 0
  have c1 : W.cell? ⟨w.heap.size, 1, none⟩ = some (.int .i64 11) := blk.cell 1
  have c2 : W.cell? ⟨w.heap.size, 2, none⟩ = some (.int .i64 (-1074)) := blk.cell 2
  have b0 : Hid (Below W.heap.size W W.drew) := bdrew' W
  clear blk hW
  have C1 : Hid (Calls Tryz.prog 57 #[w64] W.drew fun e w' => e = .returned (.int .u64 9223372036854775808) ∧ Hid (Below W.heap.size W w') ∧ w'.cell? ⟨w.heap.size, 0, none⟩ = some (.int .i64 52) ∧ w'.cell? ⟨w.heap.size, 1, none⟩ = some (.int .i64 11) ∧ w'.cell? ⟨w.heap.size, 2, none⟩ = some (.int .i64 (-1074))) := by
    refine (CC W.drew).mono ?_
    rintro e w' ⟨rfl, hb⟩
    have hbb := b0.out.trans (hb.mono b0.out.size)
    have q := BLK.out.below hbb BLK.out.lt
    exact ⟨rfl, hbb, q.cell 0, q.cell 1, q.cell 2⟩
  clear CC
  go_enter Tryz.func54, Tryz.ntmps54
  go_wp2_with fail
  simp only [← HW.out]
  have mk0 : True := trivial
  go_region_held3 (fun w' => w'.cell? ⟨w.heap.size, 0, none⟩ = some (.int .i64 52) ∧ w'.cell? ⟨w.heap.size, 1, none⟩ = some (.int .i64 11) ∧ w'.cell? ⟨w.heap.size, 2, none⟩ = some (.int .i64 (-1074))) (go_keep) (first
    | (clear mk0; go_at_call 57; refine C1.out.mono ?_; rintro e w1 ⟨rfl, b1, k0, k1, k2⟩; have mk1 : True := trivial))
  all_goals (
    have FIN := hide (HBW.out.trans (b1.out.mono HBW.out.size))
    clear b1
    go_wp2
    go_ret
    exact ⟨rfl, FIN.out⟩)

set_option maxHeartbeats 1000000 in
theorem nnan64 (w : World) : Calls Tryz.prog 53 #[w64] w fun e w' => e = .returned (.int .u64 9221120237041090561) ∧ Below w.heap.size w w' := by
  have CC := fun W => ninf64 W
  have blk := Blk.new w #[.int .i64 52, .int .i64 11, .int .i64 (-1074)] 57
  obtain ⟨W, hW⟩ : ∃ W, W = w.alloc (.cells #[.int .i64 52, .int .i64 11, .int .i64 (-1074)] 57) := ⟨_, rfl⟩
  rw [← hW] at blk
  have HBW : Hid (Below w.heap.size w W) := by rw [hW]; exact (Below.refl _ _).alloc (Nat.le_refl _) _
  have BLK := hide blk
  have HW := hide hW
  have c0 : W.cell? ⟨w.heap.size, 0, none⟩ = some (.int .i64 52) := blk.cell 0
  have c1 : W.cell? ⟨w.heap.size, 1, none⟩ = some (.int .i64 11) := blk.cell 1
  have c2 : W.cell? ⟨w.heap.size, 2, none⟩ = some (.int .i64 (-1074)) := blk.cell 2
  have b0 : Hid (Below W.heap.size W W.drew) := bdrew' W
  clear blk hW
  have C1 : Hid (Calls Tryz.prog 54 #[w64] W.drew fun e w' => e = .returned (.int .u64 9218868437227405312) ∧ Hid (Below W.heap.size W w') ∧ w'.cell? ⟨w.heap.size, 0, none⟩ = some (.int .i64 52) ∧ w'.cell? ⟨w.heap.size, 1, none⟩ = some (.int .i64 11) ∧ w'.cell? ⟨w.heap.size, 2, none⟩ = some (.int .i64 (-1074))) := by
    refine (CC W.drew).mono ?_
    rintro e w' ⟨rfl, hb⟩
    have hbb := b0.out.trans (hb.mono b0.out.size)
    have q := BLK.out.below hbb BLK.out.lt
    exact ⟨rfl, hbb, q.cell 0, q.cell 1, q.cell 2⟩
  clear CC
  have ew : IntKind.i64.wrap 51 = 51 := by decide
  go_enter Tryz.func53, Tryz.ntmps53
  go_wp2_with fail
  simp only [← HW.out]
  have mk0 : True := trivial
  go_region_held3 (fun w' => w'.cell? ⟨w.heap.size, 0, none⟩ = some (.int .i64 52) ∧ w'.cell? ⟨w.heap.size, 1, none⟩ = some (.int .i64 11) ∧ w'.cell? ⟨w.heap.size, 2, none⟩ = some (.int .i64 (-1074))) (go_keep) (first
    | (clear mk0; go_at_call 54; refine C1.out.mono ?_; rintro e w1 ⟨rfl, b1, k0, k1, k2⟩; have mk1 : True := trivial))
  all_goals (
    have FIN := hide (HBW.out.trans (b1.out.mono HBW.out.size))
    clear b1
    go_wp2
    go_ret
    exact ⟨rfl, FIN.out⟩)

theorem nbinary32_any (w : World) : Calls Tryz.prog 41 #[] w fun e w' => e = .returned w32 ∧ Below w.heap.size w w' := by
  go_enter Tryz.func41, Tryz.ntmps41
  go_wp2
  go_returns
  exact ⟨rfl, (Below.refl _ _).alloc (Nat.le_refl _) _⟩

theorem nsign32 (w : World) : Calls Tryz.prog 57 #[w32] w fun e w' => e = .returned (.int .u64 2147483648) ∧ Below w.heap.size w w' := by
  go_enter Tryz.func57, Tryz.ntmps57
  go_wp2
  go_returns
  exact ⟨rfl, (Below.refl _ _).alloc (Nat.le_refl _) _⟩

set_option maxHeartbeats 1000000 in
theorem ninf32 (w : World) : Calls Tryz.prog 54 #[w32] w fun e w' => e = .returned (.int .u64 2139095040) ∧ Below w.heap.size w w' := by
  have CC := fun W => nsign32 W
  have blk := Blk.new w #[.int .i64 23, .int .i64 8, .int .i64 (-149)] 57
  obtain ⟨W, hW⟩ : ∃ W, W = w.alloc (.cells #[.int .i64 23, .int .i64 8, .int .i64 (-149)] 57) := ⟨_, rfl⟩
  rw [← hW] at blk
  have HBW : Hid (Below w.heap.size w W) := by rw [hW]; exact (Below.refl _ _).alloc (Nat.le_refl _) _
  have BLK := hide blk
  have HW := hide hW
  have c0 : W.cell? ⟨w.heap.size, 0, none⟩ = some (.int .i64 23) := blk.cell 0
  have c1 : W.cell? ⟨w.heap.size, 1, none⟩ = some (.int .i64 8) := blk.cell 1
  have c2 : W.cell? ⟨w.heap.size, 2, none⟩ = some (.int .i64 (-149)) := blk.cell 2
  have b0 : Hid (Below W.heap.size W W.drew) := bdrew' W
  clear blk hW
  have C1 : Hid (Calls Tryz.prog 57 #[w32] W.drew fun e w' => e = .returned (.int .u64 2147483648) ∧ Hid (Below W.heap.size W w') ∧ w'.cell? ⟨w.heap.size, 0, none⟩ = some (.int .i64 23) ∧ w'.cell? ⟨w.heap.size, 1, none⟩ = some (.int .i64 8) ∧ w'.cell? ⟨w.heap.size, 2, none⟩ = some (.int .i64 (-149))) := by
    refine (CC W.drew).mono ?_
    rintro e w' ⟨rfl, hb⟩
    have hbb := b0.out.trans (hb.mono b0.out.size)
    have q := BLK.out.below hbb BLK.out.lt
    exact ⟨rfl, hbb, q.cell 0, q.cell 1, q.cell 2⟩
  clear CC
  go_enter Tryz.func54, Tryz.ntmps54
  go_wp2_with fail
  simp only [← HW.out]
  have mk0 : True := trivial
  go_region_held3 (fun w' => w'.cell? ⟨w.heap.size, 0, none⟩ = some (.int .i64 23) ∧ w'.cell? ⟨w.heap.size, 1, none⟩ = some (.int .i64 8) ∧ w'.cell? ⟨w.heap.size, 2, none⟩ = some (.int .i64 (-149))) (go_keep) (first
    | (clear mk0; go_at_call 57; refine C1.out.mono ?_; rintro e w1 ⟨rfl, b1, k0, k1, k2⟩; have mk1 : True := trivial))
  all_goals (
    have FIN := hide (HBW.out.trans (b1.out.mono HBW.out.size))
    clear b1
    go_wp2
    go_ret
    exact ⟨rfl, FIN.out⟩)

set_option maxHeartbeats 1000000 in
theorem nnan32 (w : World) : Calls Tryz.prog 53 #[w32] w fun e w' => e = .returned (.int .u64 2143289345) ∧ Below w.heap.size w w' := by
  have CC := fun W => ninf32 W
  have blk := Blk.new w #[.int .i64 23, .int .i64 8, .int .i64 (-149)] 57
  obtain ⟨W, hW⟩ : ∃ W, W = w.alloc (.cells #[.int .i64 23, .int .i64 8, .int .i64 (-149)] 57) := ⟨_, rfl⟩
  rw [← hW] at blk
  have HBW : Hid (Below w.heap.size w W) := by rw [hW]; exact (Below.refl _ _).alloc (Nat.le_refl _) _
  have BLK := hide blk
  have HW := hide hW
  have c0 : W.cell? ⟨w.heap.size, 0, none⟩ = some (.int .i64 23) := blk.cell 0
  have c1 : W.cell? ⟨w.heap.size, 1, none⟩ = some (.int .i64 8) := blk.cell 1
  have c2 : W.cell? ⟨w.heap.size, 2, none⟩ = some (.int .i64 (-149)) := blk.cell 2
  have b0 : Hid (Below W.heap.size W W.drew) := bdrew' W
  clear blk hW
  have C1 : Hid (Calls Tryz.prog 54 #[w32] W.drew fun e w' => e = .returned (.int .u64 2139095040) ∧ Hid (Below W.heap.size W w') ∧ w'.cell? ⟨w.heap.size, 0, none⟩ = some (.int .i64 23) ∧ w'.cell? ⟨w.heap.size, 1, none⟩ = some (.int .i64 8) ∧ w'.cell? ⟨w.heap.size, 2, none⟩ = some (.int .i64 (-149))) := by
    refine (CC W.drew).mono ?_
    rintro e w' ⟨rfl, hb⟩
    have hbb := b0.out.trans (hb.mono b0.out.size)
    have q := BLK.out.below hbb BLK.out.lt
    exact ⟨rfl, hbb, q.cell 0, q.cell 1, q.cell 2⟩
  clear CC
  have ew : IntKind.i64.wrap 22 = 22 := by decide
  go_enter Tryz.func53, Tryz.ntmps53
  go_wp2_with fail
  simp only [← HW.out]
  have mk0 : True := trivial
  go_region_held3 (fun w' => w'.cell? ⟨w.heap.size, 0, none⟩ = some (.int .i64 23) ∧ w'.cell? ⟨w.heap.size, 1, none⟩ = some (.int .i64 8) ∧ w'.cell? ⟨w.heap.size, 2, none⟩ = some (.int .i64 (-149))) (go_keep) (first
    | (clear mk0; go_at_call 54; refine C1.out.mono ?_; rintro e w1 ⟨rfl, b1, k0, k1, k2⟩; have mk1 : True := trivial))
  all_goals (
    have FIN := hide (HBW.out.trans (b1.out.mono HBW.out.size))
    clear b1
    go_wp2
    go_ret
    exact ⟨rfl, FIN.out⟩)

set_option maxHeartbeats 1000000 in
theorem join64_inf (N s : Nat) (p : Int) (w : World) (hp : p + 1074 = (s : Int)) (hs : 2048 ≤ (s : Int)) (hs2 : s ≤ 1000000) :
    Calls Tryz.prog 82 #[w64, .int .u64 (N : Int), .int .i64 p] w fun e w' => e = .returned (.int .u64 9218868437227405312) ∧ Below w.heap.size w w' := by
  have IV := hide (fun W => ninf64 W)
  have hp1 : -1074 ≤ p := by omega
  have hp2 : p ≤ 1000000 := by omega
  have hge : 2048 ≤ p + 1074 := by omega
  clear hp hs hs2
  go_enter Tryz.func82, Tryz.ntmps82
  go_wp2_with fail
  refine (IV.out _).mono ?_
  rintro e w1 ⟨rfl, hb1⟩
  have HB1 : Hid (Below w.heap.size w w1) := ((Below.refl _ _).alloc (Nat.le_refl _) _).trans (hb1.mono (by simp))
  clear hb1 IV
  go_wp2
  go_ret
  exact ⟨rfl, HB1.out⟩

set_option maxRecDepth 100000 in
set_option maxHeartbeats 1000000 in
theorem join64_fin (N s : Nat) (r : Int) (w : World) (hs : s < 2048) (hN : N ≤ 9007199254740992) (hr : r = min ((s : Int) * 4503599627370496 + (N : Int)) 9218868437227405312) :
    Calls Tryz.prog 82 #[w64, .int .u64 (N : Int), .int .i64 ((s : Int) - 1074)] w fun e w' => e = .returned (.int .u64 r) ∧ Below w.heap.size w w' := by
  have CC := fun W => ninf64 W
  have blk := Blk.new w #[.int .i64 52, .int .i64 11, .int .i64 (-1074)] 57
  obtain ⟨W, hW⟩ : ∃ W, W = w.alloc (.cells #[.int .i64 52, .int .i64 11, .int .i64 (-1074)] 57) := ⟨_, rfl⟩
  rw [← hW] at blk
  have HBW : Hid (Below w.heap.size w W) := by rw [hW]; exact (Below.refl _ _).alloc (Nat.le_refl _) _
  have BLK := hide blk
  have HW := hide hW
  have c0 : W.cell? ⟨w.heap.size, 0, none⟩ = some (.int .i64 52) := blk.cell 0
  have c1 : W.cell? ⟨w.heap.size, 1, none⟩ = some (.int .i64 11) := blk.cell 1
  have c2 : W.cell? ⟨w.heap.size, 2, none⟩ = some (.int .i64 (-1074)) := blk.cell 2
  have b0 : Hid (Below W.heap.size W W.drew) := bdrew' W
  clear blk hW
  have C1 : Hid (Calls Tryz.prog 54 #[w64] W.drew fun e w' => e = .returned (.int .u64 9218868437227405312) ∧ Hid (Below W.heap.size W w') ∧ w'.cell? ⟨w.heap.size, 0, none⟩ = some (.int .i64 52) ∧ w'.cell? ⟨w.heap.size, 1, none⟩ = some (.int .i64 11) ∧ w'.cell? ⟨w.heap.size, 2, none⟩ = some (.int .i64 (-1074))) := by
    refine (CC W.drew).mono ?_
    rintro e w' ⟨rfl, hb⟩
    have hbb := b0.out.trans (hb.mono b0.out.size)
    have q := BLK.out.below hbb BLK.out.lt
    exact ⟨rfl, hbb, q.cell 0, q.cell 1, q.cell 2⟩
  clear CC
  have hlt : ¬ 2048 ≤ (s : Int) := by omega
  have e1 : (s : Int) - 1074 + 1074 = (s : Int) := by omega
  have EQ : Hid (min (IntKind.u64.wrap (IntKind.u64.wrap (IntKind.u64.wrap (s : Int) * 4503599627370496) + (N : Int))) 9218868437227405312 = r) := by
    show min _ _ = r
    rw [hr, IntKind.wrap_u64, IntKind.wrap_u64, IntKind.wrap_u64]; omega
  clear hr
  go_enter Tryz.func82, Tryz.ntmps82
  go_wp2_with fail
  simp only [← HW.out]
  have mk0 : True := trivial
  go_region_held3 (fun w' => w'.cell? ⟨w.heap.size, 0, none⟩ = some (.int .i64 52) ∧ w'.cell? ⟨w.heap.size, 1, none⟩ = some (.int .i64 11) ∧ w'.cell? ⟨w.heap.size, 2, none⟩ = some (.int .i64 (-1074))) (go_keep) (first
    | (clear mk0; go_at_call 54; refine C1.out.mono ?_; rintro e w1 ⟨rfl, b1, k0, k1, k2⟩; have mk1 : True := trivial))
  all_goals (
    have FIN := hide (HBW.out.trans (b1.out.mono HBW.out.size))
    clear b1
    go_wp2
    go_ret
    refine ⟨?_, FIN.out⟩
    rw [← EQ.out]
    rfl)

set_option maxHeartbeats 1000000 in
theorem join32_inf (N s : Nat) (p : Int) (w : World) (hp : p + 149 = (s : Int)) (hs : 256 ≤ (s : Int)) (hs2 : s ≤ 1000000) :
    Calls Tryz.prog 82 #[w32, .int .u64 (N : Int), .int .i64 p] w fun e w' => e = .returned (.int .u64 2139095040) ∧ Below w.heap.size w w' := by
  have IV := hide (fun W => ninf32 W)
  have hp1 : -149 ≤ p := by omega
  have hp2 : p ≤ 1000000 := by omega
  have hge : 256 ≤ p + 149 := by omega
  clear hp hs hs2
  go_enter Tryz.func82, Tryz.ntmps82
  go_wp2_with fail
  refine (IV.out _).mono ?_
  rintro e w1 ⟨rfl, hb1⟩
  have HB1 : Hid (Below w.heap.size w w1) := ((Below.refl _ _).alloc (Nat.le_refl _) _).trans (hb1.mono (by simp))
  clear hb1 IV
  go_wp2
  go_ret
  exact ⟨rfl, HB1.out⟩

set_option maxRecDepth 100000 in
set_option maxHeartbeats 1000000 in
theorem join32_fin (N s : Nat) (r : Int) (w : World) (hs : s < 256) (hN : N ≤ 16777216) (hr : r = min ((s : Int) * 8388608 + (N : Int)) 2139095040) :
    Calls Tryz.prog 82 #[w32, .int .u64 (N : Int), .int .i64 ((s : Int) - 149)] w fun e w' => e = .returned (.int .u64 r) ∧ Below w.heap.size w w' := by
  have CC := fun W => ninf32 W
  have blk := Blk.new w #[.int .i64 23, .int .i64 8, .int .i64 (-149)] 57
  obtain ⟨W, hW⟩ : ∃ W, W = w.alloc (.cells #[.int .i64 23, .int .i64 8, .int .i64 (-149)] 57) := ⟨_, rfl⟩
  rw [← hW] at blk
  have HBW : Hid (Below w.heap.size w W) := by rw [hW]; exact (Below.refl _ _).alloc (Nat.le_refl _) _
  have BLK := hide blk
  have HW := hide hW
  have c0 : W.cell? ⟨w.heap.size, 0, none⟩ = some (.int .i64 23) := blk.cell 0
  have c1 : W.cell? ⟨w.heap.size, 1, none⟩ = some (.int .i64 8) := blk.cell 1
  have c2 : W.cell? ⟨w.heap.size, 2, none⟩ = some (.int .i64 (-149)) := blk.cell 2
  have b0 : Hid (Below W.heap.size W W.drew) := bdrew' W
  clear blk hW
  have C1 : Hid (Calls Tryz.prog 54 #[w32] W.drew fun e w' => e = .returned (.int .u64 2139095040) ∧ Hid (Below W.heap.size W w') ∧ w'.cell? ⟨w.heap.size, 0, none⟩ = some (.int .i64 23) ∧ w'.cell? ⟨w.heap.size, 1, none⟩ = some (.int .i64 8) ∧ w'.cell? ⟨w.heap.size, 2, none⟩ = some (.int .i64 (-149))) := by
    refine (CC W.drew).mono ?_
    rintro e w' ⟨rfl, hb⟩
    have hbb := b0.out.trans (hb.mono b0.out.size)
    have q := BLK.out.below hbb BLK.out.lt
    exact ⟨rfl, hbb, q.cell 0, q.cell 1, q.cell 2⟩
  clear CC
  have hlt : ¬ 256 ≤ (s : Int) := by omega
  have e1 : (s : Int) - 149 + 149 = (s : Int) := by omega
  have EQ : Hid (min (IntKind.u64.wrap (IntKind.u64.wrap (IntKind.u64.wrap (s : Int) * 8388608) + (N : Int))) 2139095040 = r) := by
    show min _ _ = r
    rw [hr, IntKind.wrap_u64, IntKind.wrap_u64, IntKind.wrap_u64]; omega
  clear hr
  go_enter Tryz.func82, Tryz.ntmps82
  go_wp2_with fail
  simp only [← HW.out]
  have mk0 : True := trivial
  go_region_held3 (fun w' => w'.cell? ⟨w.heap.size, 0, none⟩ = some (.int .i64 23) ∧ w'.cell? ⟨w.heap.size, 1, none⟩ = some (.int .i64 8) ∧ w'.cell? ⟨w.heap.size, 2, none⟩ = some (.int .i64 (-149))) (go_keep) (first
    | (clear mk0; go_at_call 54; refine C1.out.mono ?_; rintro e w1 ⟨rfl, b1, k0, k1, k2⟩; have mk1 : True := trivial))
  all_goals (
    have FIN := hide (HBW.out.trans (b1.out.mono HBW.out.size))
    clear b1
    go_wp2
    go_ret
    refine ⟨?_, FIN.out⟩
    rw [← EQ.out]
    rfl)

end Go.Proofs.YtlhekeifffofjaaGreatDoor

namespace Go.Proofs.YtlhekeifffofjaaGreatDoor
open Go.RowKit

set_option maxRecDepth 100000 in
set_option maxHeartbeats 1000000 in
theorem chunkOf_any (s : ByteArray) (w : World) (hn : s.size ≤ 19) (hd : DigB (bys s)) :
    Calls Tryz.prog 105 #[.string s] w fun e w' => e = .returned (.int .u64 ((decV (bys s) : Nat) : Int)) ∧ w' = w := by
  obtain ⟨n, hnn⟩ : ∃ n, n = s.size := ⟨_, rfl⟩
  have HD : Hid (DigB (bys s)) := hd
  have hl := bys_len s
  have HL : Hid ((bys s).length = n) := by rw [hnn]; exact hl
  clear hd hl
  go_enter Tryz.func105, Tryz.ntmps105
  go_wp2
  go_loopw [3, 4, 7] (fun c _ i wr => ∃ k : Nat, k ≤ n ∧ c = .int .u64 ((decV ((bys s).take k) : Nat) : Int) ∧ i = .int .i64 (k : Int) ∧ wr = w) (fun _ _ i _ => n - (intOf i).toNat)
  case atStart => exact ⟨0, Nat.zero_le _, by simp [decV], rfl, rfl⟩
  case round =>
    obtain ⟨k, hk, rfl, rfl, rfl⟩ := hrel
    by_cases hlt : k < n
    · have hlt' : (k : Int) < (s.size : Int) := by omega
      have hks : k < s.size := by omega
      have hb := HD.out k (by rw [HL.out]; exact hlt)
      have hg := byt_get s k hks
      have hv := decV_lt k ((bys s).take k) (by rw [List.length_take, HL.out]; omega) (HD.out.take k)
      have hp : (10 : Nat) ^ k ≤ 10 ^ 18 := Nat.pow_le_pow_right (by omega) (by omega)
      have hp18 : (10 : Nat) ^ 18 = 1000000000000000000 := by decide +kernel
      have hs := decV_succ (bys s) (k := k) (by rw [HL.out]; exact hlt)
      obtain ⟨x, hx⟩ : ∃ x, x = decV ((bys s).take k) := ⟨_, rfl⟩
      obtain ⟨b, hbb⟩ : ∃ b, b = byt (bys s) k := ⟨_, rfl⟩
      rw [← hx, ← hbb] at hs
      rw [← hx] at hv ⊢
      rw [← hbb] at hb hg
      have hx18 : x < 1000000000000000000 := by omega
      have w1 : IntKind.u64.wrap (IntKind.u64.wrap ((x : Int) * 10) + ((b : Int) - 48) % 256) = ((decV ((bys s).take (k + 1)) : Nat) : Int) := by
        rw [hs, IntKind.wrap_u64, IntKind.wrap_u64]; omega
      have W1 := hide w1
      have HG := hide hg
      clear hs hv hp hp18 hx hbb w1 hg hx18
      go_wp2
      rw [HG.out, W1.out]
      exact ⟨⟨k + 1, by omega, rfl, by go_num, trivial⟩, by simp [intOf]; omega⟩
    · obtain rfl : k = n := by omega
      have hlt' : ¬ (k : Int) < (s.size : Int) := by omega
      have e : (bys s).take k = bys s := List.take_of_length_le (by rw [HL.out]; omega)
      rw [e]
      go_wp2
      go_ret
      exact ⟨rfl, rfl⟩

set_option maxRecDepth 100000 in
set_option maxHeartbeats 1000000 in
theorem areDigits_zero (s : ByteArray) (w : World) (n : Nat) (hn : s.size = n) (hle : n ≤ 10000) (hpos : 0 < s.size) (z : Bool) (hz : z = true ↔ DigB (bys s)) (he : s.toList.isEmpty = false) (h48 : ∀ h : 0 < s.size, s[0].toNat = 48) (hq : (s.toList == [48]) = true) :
    Calls Tryz.prog 104 #[.string s] w fun e w' => e = .returned (.bool z) ∧ w' = w := by
  have HZ := hide hz
  have hl := bys_len s
  have HL : Hid ((bys s).length = n) := by rw [← hn]; exact hl
  clear hz hl
  go_enter Tryz.func104, Tryz.ntmps104
  go_wp2
  go_loopw [3, 17] (fun _ i wr => ∃ k : Nat, k ≤ n ∧ i = .int .i64 (k : Int) ∧ wr = w ∧ (∀ j, j < k → 48 ≤ byt (bys s) j ∧ byt (bys s) j ≤ 57)) (fun _ i _ => n - (intOf i).toNat)
  case atStart => exact ⟨0, Nat.zero_le _, rfl, rfl, fun j hj => by omega⟩
  case round =>
    obtain ⟨k, hk, rfl, rfl, hall⟩ := hrel
    have HA := hide hall
    clear hall
    by_cases hlt : k < n
    · have hlt' : (k : Int) < (s.size : Int) := by omega
      have hks : k < s.size := by omega
      have hg : ∀ h : k < s.size, s[k].toNat = byt (bys s) k := fun h => byt_get s k h
      obtain ⟨b, hb⟩ : ∃ b, b = byt (bys s) k := ⟨_, rfl⟩
      rw [← hb] at hg
      have HB := hide hb
      clear hb
      by_cases h1 : b < 48
      · have h1' : (b : Int) < 48 := by omega
        have ez : z = false := by
          rcases hzz : z with _ | _
          · rfl
          · exfalso
            have := (HZ.out.1 hzz) k (by rw [HL.out]; exact hlt)
            rw [← HB.out] at this; omega
        subst ez
        go_wp2
        go_ret
        exact ⟨rfl, rfl⟩
      · have h1' : ¬ (b : Int) < 48 := by omega
        by_cases h2 : 57 < b
        · have h2' : (57 : Int) < (b : Int) := by omega
          have ez : z = false := by
            rcases hzz : z with _ | _
            · rfl
            · exfalso
              have := (HZ.out.1 hzz) k (by rw [HL.out]; exact hlt)
              rw [← HB.out] at this; omega
          subst ez
          go_wp2
          go_ret
          exact ⟨rfl, rfl⟩
        · have h2' : ¬ (57 : Int) < (b : Int) := by omega
          have hn' : ∀ j, j < k + 1 → 48 ≤ byt (bys s) j ∧ byt (bys s) j ≤ 57 := by
            intro j hj
            by_cases e : j = k
            · rw [e, ← HB.out]; omega
            · exact HA.out j (by omega)
          have HN := hide hn'
          clear hn'
          go_wp2
          exact ⟨⟨k + 1, by omega, by go_num, trivial, HN.out⟩, by simp [intOf]; omega⟩
    · obtain rfl : k = n := by omega
      have hlt' : ¬ (k : Int) < (s.size : Int) := by omega
      have ez : z = true := HZ.out.2 (fun j hj => HA.out j (by rw [HL.out] at hj; exact hj))
      subst ez
      go_wp2
      go_ret
      exact ⟨rfl, rfl⟩

set_option maxRecDepth 100000 in
set_option maxHeartbeats 1000000 in
theorem areDigits_other (s : ByteArray) (w : World) (n : Nat) (hn : s.size = n) (hle : n ≤ 10000) (hpos : 0 < s.size) (z : Bool) (hz : z = true ↔ DigB (bys s)) (he : s.toList.isEmpty = false) (d : Nat) (hd : ∀ h : 0 < s.size, s[0].toNat = d) (h48 : ((d : Int) == 48) = false) :
    Calls Tryz.prog 104 #[.string s] w fun e w' => e = .returned (.bool z) ∧ w' = w := by
  have HZ := hide hz
  have hl := bys_len s
  have HL : Hid ((bys s).length = n) := by rw [← hn]; exact hl
  clear hz hl
  go_enter Tryz.func104, Tryz.ntmps104
  go_wp2
  go_loopw [3, 17] (fun _ i wr => ∃ k : Nat, k ≤ n ∧ i = .int .i64 (k : Int) ∧ wr = w ∧ (∀ j, j < k → 48 ≤ byt (bys s) j ∧ byt (bys s) j ≤ 57)) (fun _ i _ => n - (intOf i).toNat)
  case atStart => exact ⟨0, Nat.zero_le _, rfl, rfl, fun j hj => by omega⟩
  case round =>
    obtain ⟨k, hk, rfl, rfl, hall⟩ := hrel
    have HA := hide hall
    clear hall
    by_cases hlt : k < n
    · have hlt' : (k : Int) < (s.size : Int) := by omega
      have hks : k < s.size := by omega
      have hg : ∀ h : k < s.size, s[k].toNat = byt (bys s) k := fun h => byt_get s k h
      obtain ⟨b, hb⟩ : ∃ b, b = byt (bys s) k := ⟨_, rfl⟩
      rw [← hb] at hg
      have HB := hide hb
      clear hb
      by_cases h1 : b < 48
      · have h1' : (b : Int) < 48 := by omega
        have ez : z = false := by
          rcases hzz : z with _ | _
          · rfl
          · exfalso
            have := (HZ.out.1 hzz) k (by rw [HL.out]; exact hlt)
            rw [← HB.out] at this; omega
        subst ez
        go_wp2
        go_ret
        exact ⟨rfl, rfl⟩
      · have h1' : ¬ (b : Int) < 48 := by omega
        by_cases h2 : 57 < b
        · have h2' : (57 : Int) < (b : Int) := by omega
          have ez : z = false := by
            rcases hzz : z with _ | _
            · rfl
            · exfalso
              have := (HZ.out.1 hzz) k (by rw [HL.out]; exact hlt)
              rw [← HB.out] at this; omega
          subst ez
          go_wp2
          go_ret
          exact ⟨rfl, rfl⟩
        · have h2' : ¬ (57 : Int) < (b : Int) := by omega
          have hn' : ∀ j, j < k + 1 → 48 ≤ byt (bys s) j ∧ byt (bys s) j ≤ 57 := by
            intro j hj
            by_cases e : j = k
            · rw [e, ← HB.out]; omega
            · exact HA.out j (by omega)
          have HN := hide hn'
          clear hn'
          go_wp2
          exact ⟨⟨k + 1, by omega, by go_num, trivial, HN.out⟩, by simp [intOf]; omega⟩
    · obtain rfl : k = n := by omega
      have hlt' : ¬ (k : Int) < (s.size : Int) := by omega
      have ez : z = true := HZ.out.2 (fun j hj => HA.out j (by rw [HL.out] at hj; exact hj))
      subst ez
      go_wp2
      go_ret
      exact ⟨rfl, rfl⟩

set_option maxRecDepth 100000 in
set_option maxHeartbeats 400000 in
theorem areDigits_empty (s : ByteArray) (w : World) (he : s.toList.isEmpty = true) :
    Calls Tryz.prog 104 #[.string s] w fun e w' => e = .returned (.bool false) ∧ w' = w := by
  go_enter Tryz.func104, Tryz.ntmps104
  go_wp2
  go_ret
  exact ⟨rfl, rfl⟩

set_option maxRecDepth 100000 in
set_option maxHeartbeats 400000 in
theorem areDigits_ahead (s : ByteArray) (w : World) (he : s.toList.isEmpty = false) (hpos : 0 < s.size) (h48 : ∀ h : 0 < s.size, s[0].toNat = 48) (hq : (s.toList == [48]) = false) :
    Calls Tryz.prog 104 #[.string s] w fun e w' => e = .returned (.bool false) ∧ w' = w := by
  go_enter Tryz.func104, Tryz.ntmps104
  go_wp2
  go_ret
  exact ⟨rfl, rfl⟩

theorem areDigits_any (s : ByteArray) (w : World) (hle : s.size ≤ 10000) (z : Bool) (hz : z = true ↔ OkT (bys s)) :
    Calls Tryz.prog 104 #[.string s] w fun e w' => e = .returned (.bool z) ∧ w' = w := by
  have hl := bys_len s
  rcases Nat.eq_zero_or_pos s.size with h0 | hpos
  · have hb : bys s = [] := List.length_eq_zero_iff.1 (by rw [hl]; exact h0)
    have ez : z = false := by
      rcases hzz : z with _ | _
      · rfl
      · exact absurd hb (hz.1 hzz).1
    subst ez
    exact areDigits_empty s w (by rw [sl, hb]; rfl)
  · have hne : bys s ≠ [] := fun h => by rw [h] at hl; simp at hl; omega
    have he : s.toList.isEmpty = false := by rw [sl]; simp [hne]
    have hg : ∀ h : 0 < s.size, s[0].toNat = byt (bys s) 0 := fun h => byt_get s 0 h
    by_cases h48 : byt (bys s) 0 = 48
    · rw [h48] at hg
      by_cases hq : bys s = [48]
      · refine areDigits_zero s w _ rfl hle hpos z ?_ he hg (by rw [sl, hq]; rfl)
        rw [hz]; unfold OkT
        exact ⟨fun h => h.2.2, fun h => ⟨hne, fun _ => hq, h⟩⟩
      · have ez : z = false := by
          rcases hzz : z with _ | _
          · rfl
          · exact absurd ((hz.1 hzz).2.1 h48) hq
        subst ez
        exact areDigits_ahead s w he hpos hg (by rw [sl]; simp [hq])
    · refine areDigits_other s w _ rfl hle hpos z ?_ he _ hg (by rw [beq_eq_false_iff_ne]; omega)
      rw [hz]; unfold OkT
      exact ⟨fun h => h.2.2, fun h => ⟨hne, fun e => absurd e h48, h⟩⟩

end Go.Proofs.YtlhekeifffofjaaGreatDoor

namespace Go.Proofs.YtlhekeifffofjaaGreatDoor
open Go.RowKit

theorem num_few {r : List Nat} {n : Nat} (h : Is B64 r n) (hn : n < B64 ^ 500) : r.length ≤ 500 := by
  have h3 := trimmed_small (xs := r) (t := 500) (by rw [h.2.2]; exact hn)
  rw [trimmed_of_top h.2.1] at h3
  exact h3

theorem pow_few : (10 : Nat) ^ 8192 < B64 ^ 500 := by decide +kernel

theorem bys_to (t : ByteArray) (i : Nat) : bys (t.extract 0 i) = (bys t).take i := by
  unfold bys
  rw [ByteArray.data_extract]
  simp
theorem bys_from (t : ByteArray) (i n : Nat) (hn : t.size ≤ n) : bys (t.extract i n) = (bys t).drop i := by
  unfold bys
  rw [ByteArray.data_extract]
  have hl : t.data.toList.length ≤ n := by simpa using hn
  simp only [Array.toList_extract, List.extract_eq_take_drop]
  exact List.take_of_length_le (by rw [List.length_drop]; omega)

theorem decV_chunk {L : List UInt8} {j q : Nat} (hj : j + (q + 1) ≤ L.length) (hp : j = 0 ∨ q = 18) : decV (L.take j) * U19 + decV ((L.drop j).take (q + 1)) = decV (L.take (j + (q + 1))) := by
  have e : L.take (j + (q + 1)) = L.take j ++ (L.drop j).take (q + 1) := by rw [List.take_add]
  rw [e, decV_append]
  have hl : ((L.drop j).take (q + 1)).length = q + 1 := by rw [List.length_take, List.length_drop]; omega
  rw [hl]
  rcases hp with rfl | rfl
  · simp [decV]
  · rfl

/-- Behind the product; behind the chunk; behind the sum. -/
def P2 (wr w' : World) (n : Nat) (v : Value) (r : List Nat) : Prop := Below wr.heap.size wr w' ∧ Own .u64 24 w' wr.heap.size 2000 v r ∧ Is B64 r n

/-- At the head of Parse's loop, behind j bytes. -/
structure ParseInv (w : World) (L : List UInt8) (uo : Option Addr) (us : List Nat) (j : Nat) (t : ByteArray) (v : Value) (wr : World) : Prop where
  bel : Below w.heap.size w wr
  le : j ≤ L.length
  str : bys t = L.drop j
  part : j = 0 ∨ (L.length - j) % 19 = 0
  unit : At .u64 wr uo us
  num : ∃ r, Own .u64 24 wr w.heap.size 2000 v r ∧ Is B64 r (decV (L.take j))

set_option maxRecDepth 100000 in
set_option maxHeartbeats 1000000 in
theorem parse_ok (s : ByteArray) (w : World) (h : s.size ≤ 8192) (hn : OkT (bys s)) :
    Calls Tryz.prog 77 #[.string s] w (ShPost w 2000 (decV (bys s)) 0) := by
  have h' : ¬ 8192 < (s.size : Int) := by omega
  have ad := fun w => areDigits_any s w (by omega) true ⟨fun _ => hn, fun _ => rfl⟩
  obtain ⟨L, hL⟩ : ∃ L, L = bys s := ⟨_, rfl⟩
  have HD : Hid (DigB L) := by rw [hL]; exact hn.2.2
  have HLL : Hid (L.length ≤ 8192) := by rw [hL, bys_len]; exact h
  rw [← hL]
  have AD := hide ad
  have HL := hide hL
  clear ad hL hn
  go_enter Tryz.func77, Tryz.ntmps77
  go_wp2_with fail
  refine (AD.out _).mono ?_
  rintro e w0 ⟨rfl, hw0⟩
  replace hw0 := hw0.symm
  subst hw0
  go_wp2_with fail
  refine (of_any U19 _ u19_lt).mono ?_
  rintro e w1 ⟨v, us, rfl, hou, isu, hb1⟩
  obtain ⟨uo, uc, rfl, hlu, hmu, atu⟩ := hou.shape
  have hst : ParseInv w L uo us 0 s (.slice none 0 0) w1 := ⟨hb1, Nat.zero_le _, by rw [HL.out]; rfl, .inl rfl, atu, [], .inl ⟨rfl, rfl⟩, Is.none (by decide)⟩
  have HST := hide hst
  have HU := hide isu
  have lu : us.length ≤ 1 := by omega
  clear hst hou atu isu hb1
  go_wp2
  go_loopw [0, 5, 6] (fun sv v _ wr => ∃ (j : Nat) (t : ByteArray), sv = .string t ∧ ParseInv w L uo us j t v wr) (fun sv _ _ _ => match sv with | .string t => t.size | _ => 0)
  case atStart => exact ⟨0, s, rfl, HST.out⟩
  case round =>
    clear HST
    obtain ⟨j, t, rfl, hinv⟩ := hrel
    obtain ⟨hbr, hjl, hstr, hpart, hut, r, hown, his⟩ := hinv
    have htl : t.size = L.length - j := by rw [← bys_len, hstr, List.length_drop]
    by_cases hend : j = L.length
    · have hz : bys t = [] := by rw [hstr, hend]; simp
      have he : t.toList.isEmpty = true := by rw [sl, hz]; rfl
      have hq : t.toList = [] := by rw [sl, hz]
      rw [hend, List.take_length] at his
      obtain ⟨o, c, rfl, hl, hm, hat⟩ := hown.shape
      clear hut hstr hpart
      go_wp2
      go_ret2
      exact ⟨_, r, rfl, hown, his, hbr⟩
    · obtain ⟨m1, hm1⟩ : ∃ m1, L.length - j = m1 + 1 := ⟨L.length - j - 1, by omega⟩
      have hne : bys t ≠ [] := fun h => by rw [h] at hstr; have := congrArg List.length hstr; simp at this; omega
      have he : t.toList.isEmpty = false := by rw [sl]; simp [hne]
      have hq : ¬ t.toList = [] := by rw [sl]; exact hne
      have hts : t.size = m1 + 1 := by omega
      obtain ⟨q, hqq⟩ : ∃ q, q = m1 % 19 := ⟨_, rfl⟩
      have e1 : (m1 : Int) % 19 = (q : Int) := by omega
      have e2 : ((t.size : Nat) : Int) - 1 = (m1 : Int) := by omega
      obtain ⟨z, hz⟩ : ∃ z, z = q + 1 := ⟨_, rfl⟩
      have e3 : (q : Int) + 1 = (z : Int) := by omega
      have e4 : (z : Int) ≤ ((t.size : Nat) : Int) := by omega
      have e5 : (0 : Int) ≤ (z : Int) := by omega
      have hsl : ∀ W, (Instr.slice 9 (.string t) none (some (.int .i64 (z : Int))) none).run Tryz.prog W = .ok (.string (t.extract 0 z)) W := fun W => by
        have h := run_slice_string_h (P := Tryz.prog) W 9 t Tryz.underlying9 .i64 (z : Int) e5 e4
        rwa [Int.toNat_natCast] at h
      have hsr : ∀ W, (Instr.slice 9 (.string t) (some (.int .i64 (z : Int))) none none).run Tryz.prog W = .ok (.string (t.extract z t.size)) W := fun W => by
        have h := run_slice_string_l (P := Tryz.prog) W 9 t Tryz.underlying9 .i64 (z : Int) e5 e4
        rwa [Int.toNat_natCast] at h
      have hm8 : m1 ≤ 8192 := by have := HLL.out; omega
      have hz19 : z ≤ 19 := by omega
      have w4 : Int.tmod (m1 : Int) 19 = (q : Int) := by rw [Int.tmod_eq_emod_of_nonneg (by omega)]; exact e1
      obtain ⟨o, c, rfl, hl, hm, hat⟩ := hown.shape
      have hq18 : q ≤ 18 := by omega
      have hqm : q ≤ m1 := by omega
      have hrl := num_few his (Nat.lt_trans (Nat.lt_of_lt_of_le (decV_lt j _ (by rw [List.length_take]; omega) (HD.out.take j)) (Nat.pow_le_pow_right (by omega) (Nat.le_trans hjl HLL.out))) pow_few)
      have hjq : j + (q + 1) ≤ L.length := by omega
      have hpq : j = 0 ∨ q = 18 := by
        rcases hpart with h | h
        · exact .inl h
        · right; omega
      have hval := decV_chunk hjq hpq
      have hdt : DigB (bys (t.extract 0 (q + 1))) := by rw [bys_to, hstr]; exact (HD.out.drop j).take _
      have hct : decV (bys (t.extract 0 (q + 1))) = decV ((L.drop j).take (q + 1)) := by rw [bys_to, hstr]
      have hcl : decV ((L.drop j).take (q + 1)) < B64 := by
        have h1 := decV_lt (q + 1) ((L.drop j).take (q + 1)) (by rw [List.length_take, List.length_drop]; omega) ((HD.out.drop j).take _)
        have h2 : (10 : Nat) ^ (q + 1) ≤ 10 ^ 19 := Nat.pow_le_pow_right (by omega) (by omega)
        have h3 : (10 : Nat) ^ 19 < B64 := by decide +kernel
        omega
      have hts1 : (t.extract 0 (q + 1)).size ≤ 19 := by rw [← bys_len, bys_to, List.length_take]; omega
      have hnum : decV (L.take (j + (q + 1))) < B64 ^ 500 := Nat.lt_trans (Nat.lt_of_lt_of_le (decV_lt (j + (q + 1)) _ (by rw [List.length_take]; omega) (HD.out.take _)) (Nat.pow_le_pow_right (by omega) (Nat.le_trans hjq HLL.out))) pow_few
      have ch := fun w => chunkOf_any (t.extract 0 (q + 1)) w hts1 hdt
      rw [hct] at ch
      obtain ⟨x, hx⟩ : ∃ x, x = decV ((L.drop j).take (q + 1)) := ⟨_, rfl⟩
      rw [← hx] at ch hval hcl
      rw [← hz] at ch
      have CH : Hid (∀ w, Calls Tryz.prog 105 #[.string (t.extract 0 z)] w fun e w' => e = .returned (.int .u64 (x : Int)) ∧ w' = w) := ch
      have MU : Hid (∀ w', Like w' wr → Calls Tryz.prog 73 #[.slice o (List.length r) c, .slice uo (List.length us) uc] w' fun e w2 => ∃ o2 c2 r2, e = .returned (.slice o2 (List.length r2) c2) ∧ Hid (P2 wr w2 (decV (L.take j) * U19) (.slice o2 (List.length r2) c2) r2)) := by
        intro w' hw
        refine (mul_any o uo _ c _ uc r us _ hl (by omega) hlu (by omega) rfl rfl (hat.like hw) (hut.like hw) his.1 HU.out.1).mono ?_
        rintro e w2 ⟨v, r2, rfl, ho, hi, hb⟩
        obtain ⟨o2, c2, rfl, _, _, _⟩ := ho.shape
        rw [his.2.2, HU.out.2.2] at hi
        rw [hw.1] at ho hb
        exact ⟨o2, c2, r2, rfl, (Like.bel hw _).trans hb, ho.mono (Nat.le_refl _) (by omega), hi⟩
      have OF : Hid (∀ w2 w3 n v r2, Hid (P2 wr w2 n v r2) → Like w3 w2 → Calls Tryz.prog 70 #[.int .u64 (x : Int)] w3 fun e w4 => ∃ o4 c4 r4, e = .returned (.slice o4 (List.length r4) c4) ∧ Hid (P2 wr w4 n v r2) ∧ Hid (P2 wr w4 x (.slice o4 (List.length r4) c4) r4 ∧ c4 ≤ 1)) := by
        intro w2 w3 n v r2 hp hw
        obtain ⟨h1, h2, h3⟩ := hp.out
        refine (of_any x _ hcl).mono ?_
        rintro e w4 ⟨v4, r4, rfl, ho, hi, hb⟩
        obtain ⟨o4, c4, rfl, _, hm4, _⟩ := ho.shape
        rw [hw.1] at ho hb
        have hb2 : Below w2.heap.size w2 w4 := (Like.bel hw _).trans hb
        have hbr4 := h1.trans (hb2.mono h1.size)
        exact ⟨o4, c4, r4, rfl, ⟨hbr4, h2.below hb2, h3⟩, ⟨hbr4, ho.mono h1.size (by omega), hi⟩, hm4⟩
      have AD2 : Hid (∀ w2 w3 o2 c2 r2 o4 c4 r4, Hid (P2 wr w2 (decV (L.take j) * U19) (.slice o2 (List.length r2) c2) r2) → Hid (P2 wr w2 x (.slice o4 (List.length r4) c4) r4 ∧ c4 ≤ 1) → Like w3 w2 → Calls Tryz.prog 81 #[.slice o2 (List.length r2) c2, .slice o4 (List.length r4) c4] w3 fun e w5 => ∃ o5 c5 r5, e = .returned (.slice o5 (List.length r5) c5) ∧ Hid (P2 wr w5 (decV (L.take (j + (q + 1)))) (.slice o5 (List.length r5) c5) r5)) := by
        intro w2 w3 o2 c2 r2 o4 c4 r4 hp hp4 hw
        obtain ⟨h1, h2, h3⟩ := hp.out
        obtain ⟨⟨_, k2, k3⟩, k4⟩ := hp4.out
        obtain ⟨_, _, e2, l2, m2, a2⟩ := h2.shape
        obtain ⟨_, _, e4, l4, m4, a4⟩ := k2.shape
        simp only [Value.slice.injEq] at e2 e4
        obtain ⟨rfl, _, rfl⟩ := e2
        obtain ⟨rfl, _, rfl⟩ := e4
        refine (add_any _ _ _ _ _ _ r2 r4 _ l2 (by omega) l4 (by omega) rfl rfl (a2.like hw) (a4.like hw) h3.1 k3.1).mono ?_
        rintro e w5 ⟨v, r5, rfl, ho, hi, hb⟩
        obtain ⟨o5, c5, rfl, _, _, _⟩ := ho.shape
        rw [h3.2.2, k3.2.2, hval] at hi
        rw [hw.1] at ho hb
        have hb2 : Below w2.heap.size w2 w5 := (Like.bel hw _).trans hb
        have r2l := num_few h3 (by rw [← hval] at hnum; omega)
        exact ⟨o5, c5, r5, rfl, h1.trans (hb2.mono h1.size), ho.mono h1.size (by omega), hi⟩
      rw [← hz] at AD2
      have HSTR := hide hstr
      have HZ := hide hz
      have HPT : Hid (j + z = 0 ∨ (L.length - (j + z)) % 19 = 0) := by right; omega
      have HUT := hide hut
      have HBR := hide hbr
      clear hval hdt hct hcl hts1 hnum ch hx hstr hut hbr hown his hat hpart hpq hz hqq hts htl hm1
      go_wp2
      go_region_held3 (fun _ => True) (go_keep) (first | (go_at_call 73; refine (MU.out _ (by exact ⟨rfl, rfl, rfl, rfl⟩)).mono ?_; rintro e w2 ⟨o2, c2, r2, rfl, hp2⟩) | (go_at_call 105; refine (CH.out _).mono ?_; rintro e w3 ⟨rfl, rfl⟩) | (go_at_call 70; refine (OF.out _ _ _ _ _ hp2 (by exact ⟨rfl, rfl, rfl, rfl⟩)).mono ?_; rintro e w4 ⟨o4, c4, r4, rfl, hp3, hp4⟩) | (go_at_call 81; refine (AD2.out _ _ _ _ _ _ _ _ hp3 hp4 (by exact ⟨rfl, rfl, rfl, rfl⟩)).mono ?_; rintro e w5 ⟨o5, c5, r5, rfl, hp5⟩))
      have hnx : ParseInv w L uo us (j + z) (t.extract z t.size) (.slice o5 (List.length r5) c5) w5 := by
        obtain ⟨h1, h2, h3⟩ := hp5.out
        have hzz := HZ.out
        refine ⟨HBR.out.trans (h1.mono HBR.out.size), by omega, ?_, HPT.out, HUT.out.below h1, r5, h2.mono HBR.out.size (Nat.le_refl _), h3⟩
        rw [bys_from t z _ (Nat.le_refl _), HSTR.out, List.drop_drop]
      have HNX := hide hnx
      have hdec : (t.extract z t.size).size < t.size := by
        have h1 := bys_len (t.extract z t.size)
        rw [bys_from t z _ (Nat.le_refl _), List.length_drop, bys_len] at h1
        have := HZ.out
        omega
      clear hnx hp2 hp3 hp4 hp5
      go_wp2
      exact ⟨⟨j + z, _, rfl, HNX.out⟩, hdec⟩

end Go.Proofs.YtlhekeifffofjaaGreatDoor

namespace Go.Proofs.YtlhekeifffofjaaGreatDoor
open Go.RowKit

theorem nt_bits (a : Value) (x : Nat) (w : World) (ha : Nt w a x) (hx : Sm x) : Calls Tryz.prog 106 #[a] w fun e w' => e = .returned (.int .i64 (bitsN x : Int)) ∧ w = w' := by
  obtain ⟨o, c, xs, rfl, h1, h2, h3, h4⟩ := ha
  have l1 := is_len h4 hx
  have h := bits_any o _ c xs w h1 (by omega) rfl h3 h4.1
  rw [h4.2.2] at h
  exact h

theorem nt_add (a b : Value) (x y : Nat) (w : World) (ha : Nt w a x) (hb : Nt w b y) (hx : Sm x) (hy : Sm y) : Calls Tryz.prog 81 #[a, b] w (NtPost w (x + y)) := by
  obtain ⟨o, c, xs, rfl, h1, h2, h3, h4⟩ := ha
  obtain ⟨o', c', ys, rfl, h1', h2', h3', h4'⟩ := hb
  have l1 := is_len h4 hx
  have l2 := is_len h4' hy
  refine (add_any o o' _ c _ c' xs ys w h1 (by omega) h1' (by omega) rfl rfl h3 h3' h4.1 h4'.1).mono ?_
  rintro e w' ⟨v, r, rfl, g1, g2, g3⟩
  rw [h4.2.2, h4'.2.2] at g2
  exact ⟨v, rfl, Nt.of g1 g2 (by omega), g3, Far.of g1⟩

theorem nt_shl (a : Value) (x n : Nat) (z : Int) (w : World) (hz : z = (n : Int)) (ha : Nt w a x) (hx : Sm x) (hn : n ≤ 65536) : Calls Tryz.prog 93 #[a, .int .i64 z] w (NtErr w (x * 2 ^ n) 0) := by
  subst hz
  obtain ⟨o, c, xs, rfl, h1, h2, h3, h4⟩ := ha
  have l1 := is_len h4 hx
  refine (shl_any o _ c n xs w hn h1 (by omega) rfl h3 h4.1).mono ?_
  rintro e w' ⟨v, r, rfl, g1, g2, g3⟩
  rw [h4.2.2] at g2
  exact ⟨v, rfl, Nt.of g1 g2 (by omega), g3, Far.of g1⟩

theorem nt_parse (s : ByteArray) (w : World) (hs : s.size ≤ 8192) (hok : OkT (bys s)) : Calls Tryz.prog 77 #[.string s] w (NtErr w (decV (bys s)) 0) := by
  refine (parse_ok s w hs hok).mono ?_
  rintro e w' ⟨v, r, rfl, g1, g2, g3⟩
  exact ⟨v, rfl, Nt.of g1 g2 (by omega), g3, Far.of g1⟩

/-- A fraction. -/
abbrev fracV (f x l : Int) (vo vu : Value) : Value := .agg #[.int .i64 f, .int .i64 x, .int .i64 l, vo, vu]

theorem Blk.put5 {w : World} {b : Nat} {t : TypeId} {x0 x1 x2 x3 x4 : Value} (h : Blk w b #[x0, x1, x2, x3, x4] t) (y0 y1 y2 y3 y4 : Value) : Blk (((((w.setCell ⟨b, 0, none⟩ y0).setCell ⟨b, 1, none⟩ y1).setCell ⟨b, 2, none⟩ y2).setCell ⟨b, 3, none⟩ y3).setCell ⟨b, 4, none⟩ y4) b #[y0, y1, y2, y3, y4] t := by
  unfold Blk at *
  simp only [World.setCell, Array.getElem?_modify, if_true, h, Option.map_some]
  rfl

theorem results_frac {fn : Func} {a : Tmp} (h : fn.results = #[.cell a 76]) (tmps : Array Value) (H : Nat) (x0 x1 x2 x3 x4 : Value) (w : World) (ht : tmps.getD a undef = .pointer (some ⟨H, 0, none⟩)) (hp : Blk w H #[x0, x1, x2, x3, x4] 76) :
    (results fn tmps).run Tryz.prog w = .ok (.agg #[x0, x1, x2, x3, x4]) w := by
  have c0 := hp.cell 0
  have c1 := hp.cell 1
  have c2 := hp.cell 2
  have c3 := hp.cell 3
  have c4 := hp.cell 4
  simp at c0 c1 c2 c3 c4
  rw [Array.getD_eq_getD_getElem?] at ht
  simp [results, h, ht, go_sem, c0, c1, c2, c3, c4]

end Go.Proofs.YtlhekeifffofjaaGreatDoor

namespace Go.Proofs.YtlhekeifffofjaaGreatDoor
open Go.RowKit

/-- A fraction is answered. -/
def FrPost (w : World) (f x l : Int) (o u : Nat) (e : Ending) (w' : World) : Prop :=
  ∃ oo lo co ou lu cu, e = .returned (fracV f x l (.slice oo lo co) (.slice ou lu cu)) ∧ Nt w' (.slice oo lo co) o ∧ Nt w' (.slice ou lu cu) u ∧ Below w.heap.size w w'

theorem below_put5 {w W : World} {H : Nat} (h : Below w.heap.size w W) (hH : w.heap.size ≤ H) (y0 y1 y2 y3 y4 : Value) : Below w.heap.size w (((((W.setCell ⟨H, 0, none⟩ y0).setCell ⟨H, 1, none⟩ y1).setCell ⟨H, 2, none⟩ y2).setCell ⟨H, 3, none⟩ y3).setCell ⟨H, 4, none⟩ y4) :=
  ((((h.setCell hH _).setCell hH _).setCell hH _).setCell hH _).setCell hH _

theorem Nt.put5 {w : World} {v : Value} {n base H : Nat} (h : Nt w v n) (hf : Far base v) (hH : H < base) (y0 y1 y2 y3 y4 : Value) : Nt (((((w.setCell ⟨H, 0, none⟩ y0).setCell ⟨H, 1, none⟩ y1).setCell ⟨H, 2, none⟩ y2).setCell ⟨H, 3, none⟩ y3).setCell ⟨H, 4, none⟩ y4) v n :=
  ((((h.put hf hH _).put hf hH _).put hf hH _).put hf hH _).put hf hH _

set_option maxHeartbeats 1000000 in
theorem divided_neg (f x l : Int) (oo ou : Option Addr) (lo co lu cu o u k : Nat) (w : World) (ho : Nt w (.slice oo lo co) o) (hu : Nt w (.slice ou lu cu) u) (sm : Sm o) (hk : k ≤ 65536) (h0 : -(k : Int) < 0) :
    Calls Tryz.prog 79 #[fracV f x l (.slice oo lo co) (.slice ou lu cu), .int .i64 (-(k : Int))] w (FrPost w f x l (o * 2 ^ k) u) := by
  have SH : Hid (∀ W, Below w.heap.size w W → Calls Tryz.prog 93 #[.slice oo lo co, .int .i64 (k : Int)] W (NtErr W (o * 2 ^ k) 0)) := fun W hW => nt_shl _ o k _ W rfl (ho.below hW) sm hk
  have HO := hide hu
  have blk := (Blk.new w #[.int .i64 f, .int .i64 x, .int .i64 l, .slice oo lo co, .slice ou lu cu] 76).alloc (.cells #[.int .i64 0, .int .i64 0, .int .i64 0, .slice none 0 0, .slice none 0 0] 76)
  have blk1 := Blk.newAt (w.alloc (.cells #[.int .i64 f, .int .i64 x, .int .i64 l, .slice oo lo co, .slice ou lu cu] 76)) (w.heap.size + 1) (by simp) #[.int .i64 0, .int .i64 0, .int .i64 0, .slice none 0 0, .slice none 0 0] 76
  obtain ⟨W, hW⟩ : ∃ W, W = (w.alloc (.cells #[.int .i64 f, .int .i64 x, .int .i64 l, .slice oo lo co, .slice ou lu cu] 76)).alloc (.cells #[.int .i64 0, .int .i64 0, .int .i64 0, .slice none 0 0, .slice none 0 0] 76) := ⟨_, rfl⟩
  rw [← hW] at blk blk1
  have HBW : Hid (Below w.heap.size w W) := by rw [hW]; exact ((Below.refl _ _).alloc (Nat.le_refl _) _).alloc (by simp) _
  have BLK := hide blk
  have BLK1 := hide blk1
  have c3 : W.cell? ⟨w.heap.size, 3, none⟩ = some (.slice oo lo co) := blk.cell 3
  have HW := hide hW
  clear ho hu sm blk blk1 hW
  go_enter Tryz.func79, Tryz.ntmps79
  go_wp2_with fail
  simp only [← HW.out]
  refine (SH.out _ HBW.out).mono ?_
  rintro e w1 ⟨v1, rfl, n1, b1, f1⟩
  obtain ⟨o1, c1, x1, rfl, _⟩ := id n1
  have q := BLK.out.below b1 BLK.out.lt
  have q1 := BLK1.out.below b1 BLK1.out.lt
  have a0 : w1.cell? ⟨w.heap.size, 0, none⟩ = some (.int .i64 f) := q.cell 0
  have a1 : w1.cell? ⟨w.heap.size, 1, none⟩ = some (.int .i64 x) := q.cell 1
  have a2 : w1.cell? ⟨w.heap.size, 2, none⟩ = some (.int .i64 l) := q.cell 2
  have a3 : w1.cell? ⟨w.heap.size, 3, none⟩ = some (.slice oo lo co) := q.cell 3
  have a4 : w1.cell? ⟨w.heap.size, 4, none⟩ = some (.slice ou lu cu) := q.cell 4
  have z3 := q.free 3
  have k0 : w1.cell? ⟨w.heap.size + 1, 0, none⟩ = some (.int .i64 0) := q1.cell 0
  have k1 : w1.cell? ⟨w.heap.size + 1, 1, none⟩ = some (.int .i64 0) := q1.cell 1
  have k2 : w1.cell? ⟨w.heap.size + 1, 2, none⟩ = some (.int .i64 0) := q1.cell 2
  have k3 : w1.cell? ⟨w.heap.size + 1, 3, none⟩ = some (.slice none 0 0) := q1.cell 3
  have k4 : w1.cell? ⟨w.heap.size + 1, 4, none⟩ = some (.slice none 0 0) := q1.cell 4
  have g0 := q1.free 0
  have g1 := q1.free 1
  have g2 := q1.free 2
  have g3 := q1.free 3
  have g4 := q1.free 4
  have Q1 := hide (q1.other (a := ⟨w.heap.size, 3, none⟩) (by simp) (.slice o1 x1.length c1))
  have hlt := BLK1.out.lt
  have NEWH : Hid (Nt (w1.setCell ⟨w.heap.size, 3, none⟩ (.slice o1 x1.length c1)) (.slice o1 x1.length c1) (o * 2 ^ k) ∧ Far (w.heap.size + 2) (.slice o1 x1.length c1)) := ⟨n1.put f1 (by simp; omega) _, f1.mono (by omega)⟩
  have BELH : Hid (Below w.heap.size w (w1.setCell ⟨w.heap.size, 3, none⟩ (.slice o1 x1.length c1))) := (HBW.out.trans (b1.mono HBW.out.size)).setCell (Nat.le_refl _) _
  clear n1 b1 f1 q q1 BLK BLK1 HBW SH hlt c3
  simp only []
  repeat (first | go_values | go_skip | go_guarded | go_step | go_upon)
  refine bodyPost_ret (results_frac rfl _ _ _ _ _ _ _ _ rfl (Q1.out.put5 _ _ _ _ _)) rfl ?_
  have BEL := below_put5 BELH.out (H := w.heap.size + 1) (by omega) (.int .i64 f) (.int .i64 x) (.int .i64 l) (.slice o1 x1.length c1) (.slice ou lu cu)
  have NEW := NEWH.out.1.put5 NEWH.out.2 (H := w.heap.size + 1) (by omega) (.int .i64 f) (.int .i64 x) (.int .i64 l) (.slice o1 x1.length c1) (.slice ou lu cu)
  have OLD := HO.out.below BEL
  exact ⟨o1, x1.length, c1, ou, lu, cu, rfl, NEW, OLD, BEL⟩

set_option maxHeartbeats 1000000 in
theorem divided_pos (f x l : Int) (oo ou : Option Addr) (lo co lu cu o u k : Nat) (w : World) (ho : Nt w (.slice oo lo co) o) (hu : Nt w (.slice ou lu cu) u) (sm : Sm u) (hk : k ≤ 65536) (h0 : ¬ (k : Int) < 0) :
    Calls Tryz.prog 79 #[fracV f x l (.slice oo lo co) (.slice ou lu cu), .int .i64 ((k : Int))] w (FrPost w f x l o (u * 2 ^ k)) := by
  have SH : Hid (∀ W, Below w.heap.size w W → Calls Tryz.prog 93 #[.slice ou lu cu, .int .i64 (k : Int)] W (NtErr W (u * 2 ^ k) 0)) := fun W hW => nt_shl _ u k _ W rfl (hu.below hW) sm hk
  have HO := hide ho
  have blk := (Blk.new w #[.int .i64 f, .int .i64 x, .int .i64 l, .slice oo lo co, .slice ou lu cu] 76).alloc (.cells #[.int .i64 0, .int .i64 0, .int .i64 0, .slice none 0 0, .slice none 0 0] 76)
  have blk1 := Blk.newAt (w.alloc (.cells #[.int .i64 f, .int .i64 x, .int .i64 l, .slice oo lo co, .slice ou lu cu] 76)) (w.heap.size + 1) (by simp) #[.int .i64 0, .int .i64 0, .int .i64 0, .slice none 0 0, .slice none 0 0] 76
  obtain ⟨W, hW⟩ : ∃ W, W = (w.alloc (.cells #[.int .i64 f, .int .i64 x, .int .i64 l, .slice oo lo co, .slice ou lu cu] 76)).alloc (.cells #[.int .i64 0, .int .i64 0, .int .i64 0, .slice none 0 0, .slice none 0 0] 76) := ⟨_, rfl⟩
  rw [← hW] at blk blk1
  have HBW : Hid (Below w.heap.size w W) := by rw [hW]; exact ((Below.refl _ _).alloc (Nat.le_refl _) _).alloc (by simp) _
  have BLK := hide blk
  have BLK1 := hide blk1
  have c4 : W.cell? ⟨w.heap.size, 4, none⟩ = some (.slice ou lu cu) := blk.cell 4
  have HW := hide hW
  clear ho hu sm blk blk1 hW
  go_enter Tryz.func79, Tryz.ntmps79
  go_wp2_with fail
  simp only [← HW.out]
  refine (SH.out _ HBW.out).mono ?_
  rintro e w1 ⟨v1, rfl, n1, b1, f1⟩
  obtain ⟨o1, c1, x1, rfl, _⟩ := id n1
  have q := BLK.out.below b1 BLK.out.lt
  have q1 := BLK1.out.below b1 BLK1.out.lt
  have a0 : w1.cell? ⟨w.heap.size, 0, none⟩ = some (.int .i64 f) := q.cell 0
  have a1 : w1.cell? ⟨w.heap.size, 1, none⟩ = some (.int .i64 x) := q.cell 1
  have a2 : w1.cell? ⟨w.heap.size, 2, none⟩ = some (.int .i64 l) := q.cell 2
  have a3 : w1.cell? ⟨w.heap.size, 3, none⟩ = some (.slice oo lo co) := q.cell 3
  have a4 : w1.cell? ⟨w.heap.size, 4, none⟩ = some (.slice ou lu cu) := q.cell 4
  have z4 := q.free 4
  have k0 : w1.cell? ⟨w.heap.size + 1, 0, none⟩ = some (.int .i64 0) := q1.cell 0
  have k1 : w1.cell? ⟨w.heap.size + 1, 1, none⟩ = some (.int .i64 0) := q1.cell 1
  have k2 : w1.cell? ⟨w.heap.size + 1, 2, none⟩ = some (.int .i64 0) := q1.cell 2
  have k3 : w1.cell? ⟨w.heap.size + 1, 3, none⟩ = some (.slice none 0 0) := q1.cell 3
  have k4 : w1.cell? ⟨w.heap.size + 1, 4, none⟩ = some (.slice none 0 0) := q1.cell 4
  have g0 := q1.free 0
  have g1 := q1.free 1
  have g2 := q1.free 2
  have g3 := q1.free 3
  have g4 := q1.free 4
  have Q1 := hide (q1.other (a := ⟨w.heap.size, 4, none⟩) (by simp) (.slice o1 x1.length c1))
  have hlt := BLK1.out.lt
  have NEWH : Hid (Nt (w1.setCell ⟨w.heap.size, 4, none⟩ (.slice o1 x1.length c1)) (.slice o1 x1.length c1) (u * 2 ^ k) ∧ Far (w.heap.size + 2) (.slice o1 x1.length c1)) := ⟨n1.put f1 (by simp; omega) _, f1.mono (by omega)⟩
  have BELH : Hid (Below w.heap.size w (w1.setCell ⟨w.heap.size, 4, none⟩ (.slice o1 x1.length c1))) := (HBW.out.trans (b1.mono HBW.out.size)).setCell (Nat.le_refl _) _
  clear n1 b1 f1 q q1 BLK BLK1 HBW SH hlt c4
  simp only []
  repeat (first | go_values | go_skip | go_guarded | go_step | go_upon)
  refine bodyPost_ret (results_frac rfl _ _ _ _ _ _ _ _ rfl (Q1.out.put5 _ _ _ _ _)) rfl ?_
  have BEL := below_put5 BELH.out (H := w.heap.size + 1) (by omega) (.int .i64 f) (.int .i64 x) (.int .i64 l) (.slice oo lo co) (.slice o1 x1.length c1)
  have NEW := NEWH.out.1.put5 NEWH.out.2 (H := w.heap.size + 1) (by omega) (.int .i64 f) (.int .i64 x) (.int .i64 l) (.slice oo lo co) (.slice o1 x1.length c1)
  have OLD := HO.out.below BEL
  exact ⟨oo, lo, co, o1, x1.length, c1, rfl, OLD, NEW, BEL⟩

/-- A fraction by 2^n. -/
theorem divided_any (f x l : Int) (oo ou : Option Addr) (lo co lu cu o u : Nat) (n : Int) (w : World) (ho : Nt w (.slice oo lo co) o) (hu : Nt w (.slice ou lu cu) u) (so : Sm o) (su : Sm u) (h1 : -65536 ≤ n) (h2 : n ≤ 65536) :
    Calls Tryz.prog 79 #[fracV f x l (.slice oo lo co) (.slice ou lu cu), .int .i64 n] w (FrPost w f x l (o * 2 ^ (-n).toNat) (u * 2 ^ n.toNat)) := by
  by_cases h : n < 0
  · obtain ⟨k, rfl⟩ : ∃ k : Nat, n = -(k : Int) := ⟨(-n).toNat, by omega⟩
    rw [show (- -(k : Int)).toNat = k by omega, show (-(k : Int)).toNat = 0 by omega, Nat.pow_zero, Nat.mul_one]
    exact divided_neg f x l oo ou lo co lu cu o u k w ho hu so (by omega) h
  · obtain ⟨k, rfl⟩ : ∃ k : Nat, n = (k : Int) := ⟨n.toNat, by omega⟩
    rw [show (-(k : Int)).toNat = 0 by omega, show ((k : Int)).toNat = k by omega, Nat.pow_zero, Nat.mul_one]
    exact divided_pos f x l oo ou lo co lu cu o u k w ho hu su (by omega) h

/-- A number that is not too great to be shifted by as many bits as it has. -/
def Fit (n : Nat) : Prop := n < powT 2 30000

theorem Fit.bits {n : Nat} (h : Fit n) : bitsN n ≤ 30000 := by
  by_cases h0 : n = 0
  · subst h0; exact Nat.zero_le _
  · obtain ⟨k, e, h1, _⟩ := bitsN_spec h0
    obtain ⟨E, hE⟩ : ∃ E, E = 30000 := ⟨_, rfl⟩
    unfold Fit powT at h
    rw [← hE] at h ⊢
    have : k < E := (Nat.pow_lt_pow_iff_right (by omega : 1 < 2)).1 (Nat.lt_of_le_of_lt h1 h)
    omega

theorem pow60 : powT 2 30000 * powT 2 32000 < B64 ^ 10000 := by decide +kernel

theorem Fit.sm {n : Nat} (h : Fit n) {k : Nat} (hk : k ≤ 32000) : Sm (n * 2 ^ k) := by
  have h1 : 2 ^ k ≤ powT 2 32000 := powT_ge (by omega) hk
  have h2 : n * 2 ^ k ≤ powT 2 30000 * powT 2 32000 := Nat.mul_le_mul (Nat.le_of_lt h) h1
  exact Nat.lt_of_le_of_lt h2 pow60

theorem Fit.sm0 {n : Nat} (h : Fit n) : Sm n := by have := h.sm (k := 0) (by omega); rwa [Nat.pow_zero, Nat.mul_one] at this

set_option maxRecDepth 100000 in
set_option maxHeartbeats 1000000 in
theorem highest_any (f x l : Int) (oo ou : Option Addr) (lo co lu cu o u : Nat) (w : World) (ho : Nt w (.slice oo lo co) o) (hu : Nt w (.slice ou lu cu) u) (fo : Fit o) (fu : Fit u) :
    Calls Tryz.prog 78 #[fracV f x l (.slice oo lo co) (.slice ou lu cu)] w fun e w' => e = .returned (.int .i64 (highN o u)) ∧ Below w.heap.size w w' := by
  obtain ⟨bo, hbo⟩ : ∃ b, b = bitsN o := ⟨_, rfl⟩
  obtain ⟨bu, hbu⟩ : ∃ b, b = bitsN u := ⟨_, rfl⟩
  have lbo : bo ≤ 30000 := by rw [hbo]; exact fo.bits
  have lbu : bu ≤ 30000 := by rw [hbu]; exact fu.bits
  have blk := Blk.new w #[.int .i64 f, .int .i64 x, .int .i64 l, .slice oo lo co, .slice ou lu cu] 76
  obtain ⟨W, hW⟩ : ∃ W, W = w.alloc (.cells #[.int .i64 f, .int .i64 x, .int .i64 l, .slice oo lo co, .slice ou lu cu] 76) := ⟨_, rfl⟩
  rw [← hW] at blk
  have HBW : Hid (Below w.heap.size w W) := by rw [hW]; exact (Below.refl _ _).alloc (Nat.le_refl _) _
  have BO : Hid (∀ n, Calls Tryz.prog 106 #[.slice oo lo co] (W.drewN n) fun e w' => e = .returned (.int .i64 (bo : Int)) ∧ w' = W.drewN n) := fun n => by
    refine (nt_bits _ o _ ((ho.below HBW.out).below (below_drewN (Below.refl _ _) n)) fo.sm0).mono ?_
    rintro e w' ⟨rfl, rfl⟩
    rw [hbo]; exact ⟨rfl, rfl⟩
  have BU : Hid (∀ n, Calls Tryz.prog 106 #[.slice ou lu cu] (W.drewN n) fun e w' => e = .returned (.int .i64 (bu : Int)) ∧ w' = W.drewN n) := fun n => by
    refine (nt_bits _ u _ ((hu.below HBW.out).below (below_drewN (Below.refl _ _) n)) fu.sm0).mono ?_
    rintro e w' ⟨rfl, rfl⟩
    rw [hbu]; exact ⟨rfl, rfl⟩
  have BLK := hide blk
  have HW := hide hW
  have c0 : W.cell? ⟨w.heap.size, 0, none⟩ = some (.int .i64 f) := blk.cell 0
  have c1 : W.cell? ⟨w.heap.size, 1, none⟩ = some (.int .i64 x) := blk.cell 1
  have c2 : W.cell? ⟨w.heap.size, 2, none⟩ = some (.int .i64 l) := blk.cell 2
  have c3 : W.cell? ⟨w.heap.size, 3, none⟩ = some (.slice oo lo co) := blk.cell 3
  have c4 : W.cell? ⟨w.heap.size, 4, none⟩ = some (.slice ou lu cu) := blk.cell 4
  obtain ⟨n, hn⟩ : ∃ n : Int, n = (bo : Int) - (bu : Int) := ⟨_, rfl⟩
  have DV : Hid (∀ W', Below w.heap.size w W' → Calls Tryz.prog 79 #[fracV f x l (.slice oo lo co) (.slice ou lu cu), .int .i64 ((bo : Int) - (bu : Int))] W' (FrPost W' f x l (o * 2 ^ (-n).toNat) (u * 2 ^ n.toNat))) := fun W' hW' => by
    rw [← hn]
    exact divided_any f x l oo ou lo co lu cu o u n W' (ho.below hW') (hu.below hW') fo.sm0 fu.sm0 (by omega) (by omega)
  have SS : Hid (Sm (o * 2 ^ (-n).toNat) ∧ Sm (u * 2 ^ n.toNat)) := ⟨fo.sm (by omega), fu.sm (by omega)⟩
  have HH : Hid (highN o u = if o * 2 ^ (-n).toNat < u * 2 ^ n.toNat then n - 1 else n) := by
    show highN o u = _
    unfold highN
    rw [← hbo, ← hbu, ← hn]
  have HN := hide hn
  clear ho hu fo fu hbo hbu blk hW hn
  go_enter Tryz.func78, Tryz.ntmps78
  go_wp2_with fail
  simp only [← HW.out]
  go_quiet (first | (go_at_call 106; with_reducible refine Calls.quiet_of_same (BO.out _)) | (go_at_call 106; with_reducible refine Calls.quiet_of_same (BU.out _)))
  go_wp2_with fail
  refine (DV.out _ (below_drewN HBW.out _)).mono ?_
  rintro e w1 ⟨o1, l1, p1, o2, l2, p2, rfl, n1, n2, b1⟩
  have N1 := hide n1
  have N2 := hide n2
  have HB1 := hide (HBW.out.trans ((below_drewN (Below.refl _ _) _).trans (b1.mono (Nat.le_refl _)) |>.mono HBW.out.size))
  clear n1 n2 b1 DV BO BU c0 c1 c2 c3 c4
  have AL : Hid (∀ O, Below w1.heap.size w1 (w1.alloc O)) := fun O => (Below.refl _ _).alloc (Nat.le_refl _) _
  have CM : Hid (∀ O z, cmpN (o * 2 ^ (-n).toNat) (u * 2 ^ n.toNat) = z → Calls Tryz.prog 80 #[.slice o1 l1 p1, .slice o2 l2 p2] (w1.alloc O) fun e w' => e = .returned (.int .i64 z) ∧ Below (w1.alloc O).heap.size (w1.alloc O) w') := fun O z hz => nt_cmp _ _ _ _ z _ (N1.out.below (AL.out O)) (N2.out.below (AL.out O)) SS.out.1 SS.out.2 hz
  have HB2 : Hid (∀ O w', Below (w1.alloc O).heap.size (w1.alloc O) w' → Below w.heap.size w w') := fun O w' h => HB1.out.trans (((AL.out O).trans (h.mono (AL.out O).size)).mono HB1.out.size)
  clear N1 N2 SS HB1 AL HBW
  by_cases hlt : o * 2 ^ (-n).toNat < u * 2 ^ n.toNat
  · have CM1 := hide (fun O => CM.out O (-1) (by unfold cmpN; rw [if_pos hlt]))
    have HR : Hid (highN o u = (bo : Int) - (bu : Int) - 1) := by
      show highN o u = _
      rw [HH.out, if_pos hlt, HN.out]
    clear hlt CM HH HN
    go_wp2_with fail
    refine (CM1.out _).mono ?_
    rintro e w2 ⟨rfl, b2⟩
    have FIN := hide (HB2.out _ _ b2)
    clear b2 CM1 HB2
    go_wp2
    go_ret
    exact ⟨by rw [HR.out]; rfl, FIN.out⟩
  · obtain ⟨z, hz, hz0⟩ : ∃ z, cmpN (o * 2 ^ (-n).toNat) (u * 2 ^ n.toNat) = z ∧ ¬ z < 0 := by
      refine ⟨_, rfl, ?_⟩
      unfold cmpN; rw [if_neg hlt]; split <;> omega
    have CM1 := hide (fun O => CM.out O z hz)
    have HR : Hid (highN o u = (bo : Int) - (bu : Int)) := by
      show highN o u = _
      rw [HH.out, if_neg hlt, HN.out]
    clear hlt CM HH HN hz
    go_wp2_with fail
    refine (CM1.out _).mono ?_
    rintro e w2 ⟨rfl, b2⟩
    have FIN := hide (HB2.out _ _ b2)
    clear b2 CM1 HB2
    go_wp2
    go_ret
    exact ⟨by rw [HR.out]; rfl, FIN.out⟩

end Go.Proofs.YtlhekeifffofjaaGreatDoor

namespace Go.Proofs.YtlhekeifffofjaaGreatDoor
open Go.RowKit

/-- The quotient is not too great. -/
theorem quot_lt {F B o u : Nat} (ho : o ≠ 0) (hu : u ≠ 0) : o * 2 ^ (-(powN F B o u)).toNat / (u * 2 ^ (powN F B o u).toNat) < 2 * 2 ^ F := by
  have hb := (numN_bounds (F := F) (B := B) ho hu).1
  have hr := ratio_at (o := o) (u := u) (B := B) (pw := powN F B o u) (by unfold powN; omega)
  have hq : 0 < u * 2 ^ (powN F B o u + B).toNat := Nat.mul_pos (by omega) (Nat.pow_pos (by omega))
  have hu' : 0 < u * 2 ^ (powN F B o u).toNat := Nat.mul_pos (by omega) (Nat.pow_pos (by omega))
  refine (Nat.div_lt_iff_lt_mul hu').2 ?_
  refine Nat.lt_of_mul_lt_mul_right (a := u * 2 ^ (powN F B o u + B).toNat) ?_
  rw [hr]
  have h1 := (Nat.mul_lt_mul_right hu').2 hb
  refine Nat.lt_of_lt_of_le h1 (Nat.le_of_eq ?_)
  generalize u * 2 ^ (powN F B o u + B).toNat = x
  generalize u * 2 ^ (powN F B o u).toNat = y
  generalize 2 * 2 ^ F = z
  rw [Nat.mul_comm x z, Nat.mul_assoc, Nat.mul_comm x y, ← Nat.mul_assoc]

theorem highN_le {o u : Nat} (fo : Fit o) (fu : Fit u) : -30001 ≤ highN o u ∧ highN o u ≤ 30000 := by
  have h1 := fo.bits
  have h2 := fu.bits
  unfold highN; split <;> omega

theorem rne_up {p q : Nat} (h : q < 2 * (p % q) ∨ (2 * (p % q) = q ∧ p / q % 2 = 1)) : rne p q = p / q + 1 := if_pos h
theorem rne_down {p q : Nat} (h : ¬ (q < 2 * (p % q) ∨ (2 * (p % q) = q ∧ p / q % 2 = 1))) : rne p q = p / q := if_neg h

theorem Fit.sum {n : Nat} (h : Fit n) {k m : Nat} (hk : k ≤ 31000) (hm : m ≤ 2 * (n * 2 ^ k)) : Sm m := by
  have h1 := h.sm (k := k + 1) (by omega)
  have e : n * 2 ^ (k + 1) = 2 * (n * 2 ^ k) := by rw [Nat.pow_succ, ← Nat.mul_assoc, Nat.mul_comm]
  rw [e] at h1
  exact Nat.lt_of_le_of_lt hm h1

theorem join64_any (N s : Nat) (w : World) (hs : s ≤ 1000000) (hN : N ≤ 9007199254740992) :
    Calls Tryz.prog 82 #[w64, .int .u64 (N : Int), .int .i64 ((s : Int) - 1074)] w fun e w' => e = .returned (.int .u64 ((min (s * 2 ^ 52 + N) (infN 52 11) : Nat) : Int)) ∧ Below w.heap.size w w' := by
  have e1 : (2 : Nat) ^ 52 = 4503599627370496 := by decide
  rw [inf64, e1]
  rcases Nat.lt_or_ge s 2048 with h | h
  · exact join64_fin N s _ w h hN (by omega)
  · have hm : min (s * 4503599627370496 + N) 9218868437227405312 = 9218868437227405312 := by omega
    rw [hm]
    exact join64_inf N s _ w (by omega) (by omega) hs

set_option maxRecDepth 100000 in
set_option maxHeartbeats 2000000 in
theorem near64_any (oo ou : Option Addr) (lo co lu cu o u : Nat) (w : World) (ho : Nt w (.slice oo lo co) o) (hu : Nt w (.slice ou lu cu) u) (fo : Fit o) (fu : Fit u) (ho0 : o ≠ 0) (hu0 : u ≠ 0) :
    Calls Tryz.prog 56 #[(fracV 52 11 (-1074) (.slice oo lo co) (.slice ou lu cu))] w fun e w' => e = .returned (.int .u64 ((bitsOf 52 1074 (infN 52 11) o u : Nat) : Int)) ∧ Below w.heap.size w w' := by
  have hh := highN_le fo fu
  obtain ⟨pw, hpw⟩ : ∃ p, p = powN 52 1074 o u := ⟨_, rfl⟩
  obtain ⟨h, hhe⟩ : ∃ h, h = highN o u := ⟨_, rfl⟩
  have hmax : pw = max (h - 52) (-1074) := by rw [hpw, hhe]; rfl
  have bitsE : bitsOf 52 1074 (infN 52 11) o u = min ((pw + 1074).toNat * 2 ^ 52 + numN 52 1074 o u) (infN 52 11) := by rw [hpw]; rfl
  rw [← hhe] at hh
  obtain ⟨s, hs⟩ : ∃ s : Nat, pw = (s : Int) - 1074 := ⟨(pw + 1074).toNat, by omega⟩
  have hs1 : s ≤ 40000 := by omega
  rw [show (pw + 1074).toNat = s by omega] at bitsE
  obtain ⟨o', ho'⟩ : ∃ z, z = o * 2 ^ (-pw).toNat := ⟨_, rfl⟩
  obtain ⟨u', hu'⟩ : ∃ z, z = u * 2 ^ pw.toNat := ⟨_, rfl⟩
  have u0 : u' ≠ 0 := by rw [hu']; exact Nat.mul_ne_zero hu0 (by have : 0 < 2 ^ pw.toNat := Nat.pow_pos (by omega); omega)
  have numE : numN 52 1074 o u = rne o' u' := by rw [ho', hu', hpw]; rfl
  have e53 : 2 * 2 ^ 52 = 9007199254740992 := by decide
  have qlt : o' / u' < 9007199254740992 := by rw [ho', hu', hpw, ← e53]; exact quot_lt ho0 hu0
  have nle : rne o' u' ≤ 9007199254740992 := by rw [← numE, ← e53]; exact (numN_le ho0 hu0).1
  have rlt := Nat.mod_lt o' (Nat.pos_of_ne_zero u0)
  have HIG := hide (fun W (hW : Below w.heap.size w W) => highest_any 52 11 (-1074) oo ou lo co lu cu o u W (ho.below hW) (hu.below hW) fo fu)
  rw [← hhe] at HIG
  have DIV : Hid (∀ W, Below w.heap.size w W → Calls Tryz.prog 79 #[(fracV 52 11 (-1074) (.slice oo lo co) (.slice ou lu cu)), .int .i64 pw] W (FrPost W 52 11 (-1074) o' u')) := fun W hW => by
    rw [ho', hu']
    exact divided_any 52 11 (-1074) oo ou lo co lu cu o u pw W (ho.below hW) (hu.below hW) fo.sm0 fu.sm0 (by omega) (by omega)
  have SM : Hid (Sm o' ∧ Sm u' ∧ Sm (o' % u') ∧ Sm (o' % u' + o' % u')) := ⟨by rw [ho']; exact fo.sm (by omega), by rw [hu']; exact fu.sm (by omega), fu.sum (k := pw.toNat) (by omega) (by rw [← hu']; omega), fu.sum (k := pw.toNat) (by omega) (by rw [← hu']; omega)⟩
  have BE : Hid (∀ N, rne o' u' = N → bitsOf 52 1074 (infN 52 11) o u = min (s * 2 ^ 52 + N) (infN 52 11)) := fun N hN => by rw [bitsE, numE, hN]
  have B64' : Hid (o' / u' < B64) := by show o' / u' < B64; unfold B64; omega
  have blk := Blk.new w #[.int .i64 52, .int .i64 11, .int .i64 (-1074), .slice oo lo co, .slice ou lu cu] 76
  obtain ⟨W, hW⟩ : ∃ W, W = w.alloc (.cells #[.int .i64 52, .int .i64 11, .int .i64 (-1074), .slice oo lo co, .slice ou lu cu] 76) := ⟨_, rfl⟩
  rw [← hW] at blk
  have HBW : Hid (Below w.heap.size w W) := by rw [hW]; exact (Below.refl _ _).alloc (Nat.le_refl _) _
  have BLK := hide blk
  have HW := hide hW
  have U0 := hide u0
  have c0 : W.cell? ⟨w.heap.size, 0, none⟩ = some (.int .i64 52) := blk.cell 0
  have c1 : W.cell? ⟨w.heap.size, 1, none⟩ = some (.int .i64 11) := blk.cell 1
  have c2 : W.cell? ⟨w.heap.size, 2, none⟩ = some (.int .i64 (-1074)) := blk.cell 2
  have c3 : W.cell? ⟨w.heap.size, 3, none⟩ = some (.slice oo lo co) := blk.cell 3
  have c4 : W.cell? ⟨w.heap.size, 4, none⟩ = some (.slice ou lu cu) := blk.cell 4
  have b0 : Hid (Below W.heap.size W W.drew) := bdrew' W
  have C1 : Hid (Calls Tryz.prog 78 #[(fracV 52 11 (-1074) (.slice oo lo co) (.slice ou lu cu))] W.drew fun e w' => e = .returned (.int .i64 h) ∧ Hid (Below W.heap.size W w') ∧ w'.cell? ⟨w.heap.size, 0, none⟩ = some (.int .i64 52) ∧ w'.cell? ⟨w.heap.size, 1, none⟩ = some (.int .i64 11) ∧ w'.cell? ⟨w.heap.size, 2, none⟩ = some (.int .i64 (-1074)) ∧ w'.cell? ⟨w.heap.size, 3, none⟩ = some (.slice oo lo co) ∧ w'.cell? ⟨w.heap.size, 4, none⟩ = some (.slice ou lu cu)) := by
    refine (HIG.out W.drew (HBW.out.trans (b0.out.mono HBW.out.size))).mono ?_
    rintro e w' ⟨rfl, hb⟩
    have hbb := b0.out.trans (hb.mono b0.out.size)
    have q := BLK.out.below hbb BLK.out.lt
    exact ⟨rfl, hbb, q.cell 0, q.cell 1, q.cell 2, q.cell 3, q.cell 4⟩
  have HMX := hide hmax
  have HS := hide hs
  have QLT : Hid (o' / u' < 9007199254740992 ∧ rne o' u' ≤ 9007199254740992 ∧ o' % u' < u') := ⟨qlt, nle, rlt⟩
  have HH2 := hide hh
  clear ho hu fo fu ho0 hu0 hpw hhe bitsE ho' hu' u0 numE e53 qlt nle rlt HIG blk hW hmax hs
  go_enter Tryz.func56, Tryz.ntmps56
  go_wp2_with fail
  simp only [← HW.out]
  have mk0 : True := trivial
  go_region_held3 (fun w' => w'.cell? ⟨w.heap.size, 0, none⟩ = some (.int .i64 52) ∧ w'.cell? ⟨w.heap.size, 1, none⟩ = some (.int .i64 11) ∧ w'.cell? ⟨w.heap.size, 2, none⟩ = some (.int .i64 (-1074)) ∧ w'.cell? ⟨w.heap.size, 3, none⟩ = some (.slice oo lo co) ∧ w'.cell? ⟨w.heap.size, 4, none⟩ = some (.slice ou lu cu)) (go_keep) (first
    | (clear mk0; go_at_call 78; refine C1.out.mono ?_; rintro e w1 ⟨rfl, b1, k0, k1, k2, k3, k4⟩; have mk1 : True := trivial))
  have EM : max (IntKind.i64.wrap (h - 52)) (-1074) = pw := by
    have h1 := HMX.out
    have h2 := HH2.out
    rw [IntKind.wrap_i64]; omega
  simp only [EM]
  have HB1 := hide (HBW.out.trans (b1.out.mono HBW.out.size))
  have BLK1 := hide (BLK.out.below b1.out BLK.out.lt)
  have hlt1 := BLK1.out.lt
  clear EM b1 C1 BLK HBW b0 c0 c1 c2 c3 c4 HMX HH2 HW
  go_wp2_with fail
  refine (DIV.out _ HB1.out).mono ?_
  rintro e w2 ⟨o1, l1, p1, o2, l2, p2, rfl, n1, n2, b2⟩
  have OV : Hid (Below w2.heap.size w2 (w2.alloc (.cells #[.int .i64 52, .int .i64 11, .int .i64 (-1074), .slice o1 l1 p1, .slice o2 l2 p2] 76))) := (Below.refl _ _).alloc (Nat.le_refl _) _
  have BLS := hide (Blk.new w2 #[.int .i64 52, .int .i64 11, .int .i64 (-1074), .slice o1 l1 p1, .slice o2 l2 p2] 76)
  have N1 := hide (n1.below OV.out)
  have N2 := hide (n2.below OV.out)
  have HB2 := hide (HB1.out.trans ((b2.trans (OV.out.mono b2.size)).mono HB1.out.size))
  have BLK2 := hide (BLK1.out.below (b2.trans (OV.out.mono b2.size)) BLK1.out.lt)
  clear n1 n2 b2 DIV HB1 BLK1 k0 k1 k2 k3 k4 OV
  go_wp2_with fail
  obtain ⟨V, hV⟩ : ∃ V, V = w2.alloc (.cells #[.int .i64 52, .int .i64 11, .int .i64 (-1074), .slice o1 l1 p1, .slice o2 l2 p2] 76) := ⟨_, rfl⟩
  simp only [← hV]
  rw [← hV] at N1 N2 HB2 BLK2 BLS
  clear hV
  refine (nt_div _ _ o' u' V N1.out N2.out SM.out.1 SM.out.2.1 U0.out).mono ?_
  rintro e w3 ⟨vq, vr, rfl, nq, nr, b3⟩
  obtain ⟨q, hq⟩ : ∃ q, q = o' / u' := ⟨_, rfl⟩
  rw [← hq] at nq
  have BQ : Hid (q < B64) := by rw [hq]; exact B64'.out
  have HQ := hide hq
  clear hq
  obtain ⟨oq, cq, xq, rfl, _⟩ := id nq
  obtain ⟨or, cr, xr, rfl, _⟩ := id nr
  have NQ := hide nq
  have NR := hide nr
  have N3 := hide (N2.out.below b3)
  have HB3 := hide (HB2.out.trans (b3.mono HB2.out.size))
  have BLK3 := hide (BLK2.out.below b3 BLK2.out.lt)
  have BLS3 := hide (BLS.out.below b3 BLS.out.lt)
  clear nq nr b3 N1 N2 HB2 BLK2 BLS
  go_wp2_with fail
  refine (nt_uint _ q w3 NQ.out BQ.out).mono ?_
  rintro e w4 ⟨rfl, rfl⟩
  clear NQ
  go_wp2_with fail
  obtain ⟨G, hG⟩ : ∃ G, G = w2.heap.size := ⟨_, rfl⟩
  simp only [← hG]
  rw [← hG] at BLS3
  clear hG
  have d4 : w3.cell? ⟨G, 4, none⟩ = some (.slice o2 l2 p2) := BLS3.out.cell 4
  have bd : Hid (Below w3.heap.size w3 w3.drew) := bdrew' w3
  obtain ⟨r, hr⟩ : ∃ r, r = o' % u' := ⟨_, rfl⟩
  have hq := HQ.out
  obtain ⟨z, hz⟩ : ∃ z, cmpN (r + r) u' = z := ⟨_, rfl⟩
  have A1 : Hid (Calls Tryz.prog 81 #[.slice or xr.length cr, .slice or xr.length cr] w3.drew fun e w' => ∃ oa la ca, e = .returned (.slice oa la ca) ∧ Hid (Nt w' (.slice oa la ca) (r + r)) ∧ Hid (Below w3.heap.size w3 w') ∧ w'.cell? ⟨G, 4, none⟩ = some (.slice o2 l2 p2)) := by
    rw [hr]
    refine (nt_add _ _ _ _ w3.drew (NR.out.below bd.out) (NR.out.below bd.out) SM.out.2.2.1 SM.out.2.2.1).mono ?_
    rintro e w' ⟨v, rfl, nv, hb, _⟩
    obtain ⟨oa, ca, xa, rfl, _⟩ := id nv
    have hbb := bd.out.trans (hb.mono bd.out.size)
    exact ⟨_, _, _, rfl, nv, hbb, (BLS3.out.below hbb BLS3.out.lt).cell 4⟩
  have A2 : Hid (∀ w' oa la ca, Hid (Nt w' (.slice oa la ca) (r + r)) → Hid (Below w3.heap.size w3 w') → Calls Tryz.prog 80 #[.slice oa la ca, .slice o2 l2 p2] w' fun e w'' => e = .returned (.int .i64 z) ∧ Hid (Below w3.heap.size w3 w'') ∧ w''.cell? ⟨G, 4, none⟩ = some (.slice o2 l2 p2)) := by
    intro w' oa la ca nv hb
    refine (nt_cmp _ _ _ _ z w' nv.out (N3.out.below hb.out) (by rw [hr]; exact SM.out.2.2.2) SM.out.2.1 hz).mono ?_
    rintro e w'' ⟨rfl, hb2⟩
    have hbb := hb.out.trans (hb2.mono hb.out.size)
    exact ⟨rfl, hbb, (BLS3.out.below hbb BLS3.out.lt).cell 4⟩
  have JN : Hid (∀ (W' : World) (N : Nat) (zn : Int), zn = (N : Int) → rne o' u' = N → Calls Tryz.prog 82 #[.agg #[.int .i64 52, .int .i64 11, .int .i64 (-1074)], .int .u64 zn, .int .i64 pw] W' fun e w' => e = .returned (.int .u64 ((bitsOf 52 1074 (infN 52 11) o u : Nat) : Int)) ∧ Below W'.heap.size W' w') := by
    intro W' N zn hzn hN
    rw [hzn, BE.out N hN, HS.out]
    exact join64_any N s W' (by omega) (by rw [← hN]; exact QLT.out.2.1)
  have ZC : Hid ((z = 1 ∧ rne o' u' = q + 1) ∨ (z = 0 ∧ q % 2 = 1 ∧ rne o' u' = q + 1) ∨ (z = 0 ∧ q % 2 = 0 ∧ rne o' u' = q) ∨ (z = -1 ∧ rne o' u' = q)) := by
    have h2 := QLT.out.2.2
    rw [← hr] at h2
    rcases cmpN_or (r + r) u' with h1 | h1 | h1
    · have h3 := cmpN_lt h1
      refine .inr (.inr (.inr ⟨by rw [← hz, h1], ?_⟩))
      rw [hq]; exact rne_down (by rw [← hr]; omega)
    · have h3 := cmpN_eq h1
      by_cases hp : q % 2 = 1
      · refine .inr (.inl ⟨by rw [← hz, h1], hp, ?_⟩)
        rw [hq]; exact rne_up (by rw [← hr, ← hq]; omega)
      · refine .inr (.inr (.inl ⟨by rw [← hz, h1], by omega, ?_⟩))
        rw [hq]; exact rne_down (by rw [← hr, ← hq]; omega)
    · have h3 := cmpN_gt h1
      refine .inl ⟨by rw [← hz, h1], ?_⟩
      rw [hq]; exact rne_up (by rw [← hr]; omega)
  have hql : q ≤ 9007199254740992 := by have := QLT.out.1; omega
  have BK : Hid (∀ w', Below w3.heap.size w3 w' → Below w.heap.size w w' ∧ w'.cell? ⟨w.heap.size, 0, none⟩ = some (.int .i64 52) ∧ w'.cell? ⟨w.heap.size, 1, none⟩ = some (.int .i64 11) ∧ w'.cell? ⟨w.heap.size, 2, none⟩ = some (.int .i64 (-1074))) := fun w' h => by
    have q1 := BLK3.out.below h BLK3.out.lt
    exact ⟨HB3.out.trans (h.mono HB3.out.size), q1.cell 0, q1.cell 1, q1.cell 2⟩
  clear hz hr hq HQ BQ BE HS QLT NR N3 SM B64' U0 HB3 BLK3 BLS3 hs1 hh hlt1
  have mk0 : True := trivial
  go_region_held3 (fun w' => w'.cell? ⟨G, 4, none⟩ = some (.slice o2 l2 p2)) (go_keep) (first
    | (clear mk0; go_at_call 81; refine A1.out.mono ?_; rintro e w5 ⟨oa, la, ca, rfl, na, b5, k5⟩; have mk1 : True := trivial)
    | (clear mk1; go_at_call 80; refine (A2.out _ _ _ _ na b5).mono ?_; rintro e w6 ⟨rfl, b6, k6⟩; have mk2 : True := trivial))
  all_goals (
    obtain ⟨hbel, k0, k1, k2⟩ := BK.out _ b6.out
    have HB6 := hide hbel
    clear hbel b5 b6 na A1 A2 BK bd k5 k6 d4
    rcases ZC.out with ⟨rfl, hN⟩ | ⟨rfl, hp, hN⟩ | ⟨rfl, hp, hN⟩ | ⟨rfl, hN⟩)
  · have J1 := hide (fun W' => JN.out W' (q + 1) ((q : Int) + 1) (by omega) hN)
    clear JN ZC hN
    go_wp2_with fail
    refine (J1.out _).mono ?_
    rintro e w7 ⟨rfl, b7⟩
    have FIN := hide (HB6.out.trans (b7.mono HB6.out.size))
    clear b7 J1 HB6
    go_wp2
    go_ret
    exact ⟨rfl, FIN.out⟩
  · have hp' : ((q : Int) % 2 == 1) = true := by
      have h1 : (q : Int) % 2 = 1 := by omega
      simpa using h1
    clear hp
    have J1 := hide (fun W' => JN.out W' (q + 1) ((q : Int) + 1) (by omega) hN)
    clear JN ZC hN
    go_wp2_with fail
    refine (J1.out _).mono ?_
    rintro e w7 ⟨rfl, b7⟩
    have FIN := hide (HB6.out.trans (b7.mono HB6.out.size))
    clear b7 J1 HB6
    go_wp2
    go_ret
    exact ⟨rfl, FIN.out⟩
  · have hp' : ((q : Int) % 2 == 1) = false := by
      have h1 : ¬ (q : Int) % 2 = 1 := by omega
      simpa using h1
    clear hp
    have J1 := hide (fun W' => JN.out W' (q) ((q : Int)) (by omega) hN)
    clear JN ZC hN
    go_wp2_with fail
    refine (J1.out _).mono ?_
    rintro e w7 ⟨rfl, b7⟩
    have FIN := hide (HB6.out.trans (b7.mono HB6.out.size))
    clear b7 J1 HB6
    go_wp2
    go_ret
    exact ⟨rfl, FIN.out⟩
  · have J1 := hide (fun W' => JN.out W' (q) ((q : Int)) (by omega) hN)
    clear JN ZC hN
    go_wp2_with fail
    refine (J1.out _).mono ?_
    rintro e w7 ⟨rfl, b7⟩
    have FIN := hide (HB6.out.trans (b7.mono HB6.out.size))
    clear b7 J1 HB6
    go_wp2
    go_ret
    exact ⟨rfl, FIN.out⟩

theorem join32_any (N s : Nat) (w : World) (hs : s ≤ 1000000) (hN : N ≤ 16777216) :
    Calls Tryz.prog 82 #[w32, .int .u64 (N : Int), .int .i64 ((s : Int) - 149)] w fun e w' => e = .returned (.int .u64 ((min (s * 2 ^ 23 + N) (infN 23 8) : Nat) : Int)) ∧ Below w.heap.size w w' := by
  have e1 : (2 : Nat) ^ 23 = 8388608 := by decide
  rw [inf32, e1]
  rcases Nat.lt_or_ge s 256 with h | h
  · exact join32_fin N s _ w h hN (by omega)
  · have hm : min (s * 8388608 + N) 2139095040 = 2139095040 := by omega
    rw [hm]
    exact join32_inf N s _ w (by omega) (by omega) hs

set_option maxRecDepth 100000 in
set_option maxHeartbeats 2000000 in
theorem near32_any (oo ou : Option Addr) (lo co lu cu o u : Nat) (w : World) (ho : Nt w (.slice oo lo co) o) (hu : Nt w (.slice ou lu cu) u) (fo : Fit o) (fu : Fit u) (ho0 : o ≠ 0) (hu0 : u ≠ 0) :
    Calls Tryz.prog 56 #[(fracV 23 8 (-149) (.slice oo lo co) (.slice ou lu cu))] w fun e w' => e = .returned (.int .u64 ((bitsOf 23 149 (infN 23 8) o u : Nat) : Int)) ∧ Below w.heap.size w w' := by
  have hh := highN_le fo fu
  obtain ⟨pw, hpw⟩ : ∃ p, p = powN 23 149 o u := ⟨_, rfl⟩
  obtain ⟨h, hhe⟩ : ∃ h, h = highN o u := ⟨_, rfl⟩
  have hmax : pw = max (h - 23) (-149) := by rw [hpw, hhe]; rfl
  have bitsE : bitsOf 23 149 (infN 23 8) o u = min ((pw + 149).toNat * 2 ^ 23 + numN 23 149 o u) (infN 23 8) := by rw [hpw]; rfl
  rw [← hhe] at hh
  obtain ⟨s, hs⟩ : ∃ s : Nat, pw = (s : Int) - 149 := ⟨(pw + 149).toNat, by omega⟩
  have hs1 : s ≤ 40000 := by omega
  rw [show (pw + 149).toNat = s by omega] at bitsE
  obtain ⟨o', ho'⟩ : ∃ z, z = o * 2 ^ (-pw).toNat := ⟨_, rfl⟩
  obtain ⟨u', hu'⟩ : ∃ z, z = u * 2 ^ pw.toNat := ⟨_, rfl⟩
  have u0 : u' ≠ 0 := by rw [hu']; exact Nat.mul_ne_zero hu0 (by have : 0 < 2 ^ pw.toNat := Nat.pow_pos (by omega); omega)
  have numE : numN 23 149 o u = rne o' u' := by rw [ho', hu', hpw]; rfl
  have e53 : 2 * 2 ^ 23 = 16777216 := by decide
  have qlt : o' / u' < 16777216 := by rw [ho', hu', hpw, ← e53]; exact quot_lt ho0 hu0
  have nle : rne o' u' ≤ 16777216 := by rw [← numE, ← e53]; exact (numN_le ho0 hu0).1
  have rlt := Nat.mod_lt o' (Nat.pos_of_ne_zero u0)
  have HIG := hide (fun W (hW : Below w.heap.size w W) => highest_any 23 8 (-149) oo ou lo co lu cu o u W (ho.below hW) (hu.below hW) fo fu)
  rw [← hhe] at HIG
  have DIV : Hid (∀ W, Below w.heap.size w W → Calls Tryz.prog 79 #[(fracV 23 8 (-149) (.slice oo lo co) (.slice ou lu cu)), .int .i64 pw] W (FrPost W 23 8 (-149) o' u')) := fun W hW => by
    rw [ho', hu']
    exact divided_any 23 8 (-149) oo ou lo co lu cu o u pw W (ho.below hW) (hu.below hW) fo.sm0 fu.sm0 (by omega) (by omega)
  have SM : Hid (Sm o' ∧ Sm u' ∧ Sm (o' % u') ∧ Sm (o' % u' + o' % u')) := ⟨by rw [ho']; exact fo.sm (by omega), by rw [hu']; exact fu.sm (by omega), fu.sum (k := pw.toNat) (by omega) (by rw [← hu']; omega), fu.sum (k := pw.toNat) (by omega) (by rw [← hu']; omega)⟩
  have BE : Hid (∀ N, rne o' u' = N → bitsOf 23 149 (infN 23 8) o u = min (s * 2 ^ 23 + N) (infN 23 8)) := fun N hN => by rw [bitsE, numE, hN]
  have B64' : Hid (o' / u' < B64) := by show o' / u' < B64; unfold B64; omega
  have blk := Blk.new w #[.int .i64 23, .int .i64 8, .int .i64 (-149), .slice oo lo co, .slice ou lu cu] 76
  obtain ⟨W, hW⟩ : ∃ W, W = w.alloc (.cells #[.int .i64 23, .int .i64 8, .int .i64 (-149), .slice oo lo co, .slice ou lu cu] 76) := ⟨_, rfl⟩
  rw [← hW] at blk
  have HBW : Hid (Below w.heap.size w W) := by rw [hW]; exact (Below.refl _ _).alloc (Nat.le_refl _) _
  have BLK := hide blk
  have HW := hide hW
  have U0 := hide u0
  have c0 : W.cell? ⟨w.heap.size, 0, none⟩ = some (.int .i64 23) := blk.cell 0
  have c1 : W.cell? ⟨w.heap.size, 1, none⟩ = some (.int .i64 8) := blk.cell 1
  have c2 : W.cell? ⟨w.heap.size, 2, none⟩ = some (.int .i64 (-149)) := blk.cell 2
  have c3 : W.cell? ⟨w.heap.size, 3, none⟩ = some (.slice oo lo co) := blk.cell 3
  have c4 : W.cell? ⟨w.heap.size, 4, none⟩ = some (.slice ou lu cu) := blk.cell 4
  have b0 : Hid (Below W.heap.size W W.drew) := bdrew' W
  have C1 : Hid (Calls Tryz.prog 78 #[(fracV 23 8 (-149) (.slice oo lo co) (.slice ou lu cu))] W.drew fun e w' => e = .returned (.int .i64 h) ∧ Hid (Below W.heap.size W w') ∧ w'.cell? ⟨w.heap.size, 0, none⟩ = some (.int .i64 23) ∧ w'.cell? ⟨w.heap.size, 1, none⟩ = some (.int .i64 8) ∧ w'.cell? ⟨w.heap.size, 2, none⟩ = some (.int .i64 (-149)) ∧ w'.cell? ⟨w.heap.size, 3, none⟩ = some (.slice oo lo co) ∧ w'.cell? ⟨w.heap.size, 4, none⟩ = some (.slice ou lu cu)) := by
    refine (HIG.out W.drew (HBW.out.trans (b0.out.mono HBW.out.size))).mono ?_
    rintro e w' ⟨rfl, hb⟩
    have hbb := b0.out.trans (hb.mono b0.out.size)
    have q := BLK.out.below hbb BLK.out.lt
    exact ⟨rfl, hbb, q.cell 0, q.cell 1, q.cell 2, q.cell 3, q.cell 4⟩
  have HMX := hide hmax
  have HS := hide hs
  have QLT : Hid (o' / u' < 16777216 ∧ rne o' u' ≤ 16777216 ∧ o' % u' < u') := ⟨qlt, nle, rlt⟩
  have HH2 := hide hh
  clear ho hu fo fu ho0 hu0 hpw hhe bitsE ho' hu' u0 numE e53 qlt nle rlt HIG blk hW hmax hs
  go_enter Tryz.func56, Tryz.ntmps56
  go_wp2_with fail
  simp only [← HW.out]
  have mk0 : True := trivial
  go_region_held3 (fun w' => w'.cell? ⟨w.heap.size, 0, none⟩ = some (.int .i64 23) ∧ w'.cell? ⟨w.heap.size, 1, none⟩ = some (.int .i64 8) ∧ w'.cell? ⟨w.heap.size, 2, none⟩ = some (.int .i64 (-149)) ∧ w'.cell? ⟨w.heap.size, 3, none⟩ = some (.slice oo lo co) ∧ w'.cell? ⟨w.heap.size, 4, none⟩ = some (.slice ou lu cu)) (go_keep) (first
    | (clear mk0; go_at_call 78; refine C1.out.mono ?_; rintro e w1 ⟨rfl, b1, k0, k1, k2, k3, k4⟩; have mk1 : True := trivial))
  have EM : max (IntKind.i64.wrap (h - 23)) (-149) = pw := by
    have h1 := HMX.out
    have h2 := HH2.out
    rw [IntKind.wrap_i64]; omega
  simp only [EM]
  have HB1 := hide (HBW.out.trans (b1.out.mono HBW.out.size))
  have BLK1 := hide (BLK.out.below b1.out BLK.out.lt)
  have hlt1 := BLK1.out.lt
  clear EM b1 C1 BLK HBW b0 c0 c1 c2 c3 c4 HMX HH2 HW
  go_wp2_with fail
  refine (DIV.out _ HB1.out).mono ?_
  rintro e w2 ⟨o1, l1, p1, o2, l2, p2, rfl, n1, n2, b2⟩
  have OV : Hid (Below w2.heap.size w2 (w2.alloc (.cells #[.int .i64 23, .int .i64 8, .int .i64 (-149), .slice o1 l1 p1, .slice o2 l2 p2] 76))) := (Below.refl _ _).alloc (Nat.le_refl _) _
  have BLS := hide (Blk.new w2 #[.int .i64 23, .int .i64 8, .int .i64 (-149), .slice o1 l1 p1, .slice o2 l2 p2] 76)
  have N1 := hide (n1.below OV.out)
  have N2 := hide (n2.below OV.out)
  have HB2 := hide (HB1.out.trans ((b2.trans (OV.out.mono b2.size)).mono HB1.out.size))
  have BLK2 := hide (BLK1.out.below (b2.trans (OV.out.mono b2.size)) BLK1.out.lt)
  clear n1 n2 b2 DIV HB1 BLK1 k0 k1 k2 k3 k4 OV
  go_wp2_with fail
  obtain ⟨V, hV⟩ : ∃ V, V = w2.alloc (.cells #[.int .i64 23, .int .i64 8, .int .i64 (-149), .slice o1 l1 p1, .slice o2 l2 p2] 76) := ⟨_, rfl⟩
  simp only [← hV]
  rw [← hV] at N1 N2 HB2 BLK2 BLS
  clear hV
  refine (nt_div _ _ o' u' V N1.out N2.out SM.out.1 SM.out.2.1 U0.out).mono ?_
  rintro e w3 ⟨vq, vr, rfl, nq, nr, b3⟩
  obtain ⟨q, hq⟩ : ∃ q, q = o' / u' := ⟨_, rfl⟩
  rw [← hq] at nq
  have BQ : Hid (q < B64) := by rw [hq]; exact B64'.out
  have HQ := hide hq
  clear hq
  obtain ⟨oq, cq, xq, rfl, _⟩ := id nq
  obtain ⟨or, cr, xr, rfl, _⟩ := id nr
  have NQ := hide nq
  have NR := hide nr
  have N3 := hide (N2.out.below b3)
  have HB3 := hide (HB2.out.trans (b3.mono HB2.out.size))
  have BLK3 := hide (BLK2.out.below b3 BLK2.out.lt)
  have BLS3 := hide (BLS.out.below b3 BLS.out.lt)
  clear nq nr b3 N1 N2 HB2 BLK2 BLS
  go_wp2_with fail
  refine (nt_uint _ q w3 NQ.out BQ.out).mono ?_
  rintro e w4 ⟨rfl, rfl⟩
  clear NQ
  go_wp2_with fail
  obtain ⟨G, hG⟩ : ∃ G, G = w2.heap.size := ⟨_, rfl⟩
  simp only [← hG]
  rw [← hG] at BLS3
  clear hG
  have d4 : w3.cell? ⟨G, 4, none⟩ = some (.slice o2 l2 p2) := BLS3.out.cell 4
  have bd : Hid (Below w3.heap.size w3 w3.drew) := bdrew' w3
  obtain ⟨r, hr⟩ : ∃ r, r = o' % u' := ⟨_, rfl⟩
  have hq := HQ.out
  obtain ⟨z, hz⟩ : ∃ z, cmpN (r + r) u' = z := ⟨_, rfl⟩
  have A1 : Hid (Calls Tryz.prog 81 #[.slice or xr.length cr, .slice or xr.length cr] w3.drew fun e w' => ∃ oa la ca, e = .returned (.slice oa la ca) ∧ Hid (Nt w' (.slice oa la ca) (r + r)) ∧ Hid (Below w3.heap.size w3 w') ∧ w'.cell? ⟨G, 4, none⟩ = some (.slice o2 l2 p2)) := by
    rw [hr]
    refine (nt_add _ _ _ _ w3.drew (NR.out.below bd.out) (NR.out.below bd.out) SM.out.2.2.1 SM.out.2.2.1).mono ?_
    rintro e w' ⟨v, rfl, nv, hb, _⟩
    obtain ⟨oa, ca, xa, rfl, _⟩ := id nv
    have hbb := bd.out.trans (hb.mono bd.out.size)
    exact ⟨_, _, _, rfl, nv, hbb, (BLS3.out.below hbb BLS3.out.lt).cell 4⟩
  have A2 : Hid (∀ w' oa la ca, Hid (Nt w' (.slice oa la ca) (r + r)) → Hid (Below w3.heap.size w3 w') → Calls Tryz.prog 80 #[.slice oa la ca, .slice o2 l2 p2] w' fun e w'' => e = .returned (.int .i64 z) ∧ Hid (Below w3.heap.size w3 w'') ∧ w''.cell? ⟨G, 4, none⟩ = some (.slice o2 l2 p2)) := by
    intro w' oa la ca nv hb
    refine (nt_cmp _ _ _ _ z w' nv.out (N3.out.below hb.out) (by rw [hr]; exact SM.out.2.2.2) SM.out.2.1 hz).mono ?_
    rintro e w'' ⟨rfl, hb2⟩
    have hbb := hb.out.trans (hb2.mono hb.out.size)
    exact ⟨rfl, hbb, (BLS3.out.below hbb BLS3.out.lt).cell 4⟩
  have JN : Hid (∀ (W' : World) (N : Nat) (zn : Int), zn = (N : Int) → rne o' u' = N → Calls Tryz.prog 82 #[.agg #[.int .i64 23, .int .i64 8, .int .i64 (-149)], .int .u64 zn, .int .i64 pw] W' fun e w' => e = .returned (.int .u64 ((bitsOf 23 149 (infN 23 8) o u : Nat) : Int)) ∧ Below W'.heap.size W' w') := by
    intro W' N zn hzn hN
    rw [hzn, BE.out N hN, HS.out]
    exact join32_any N s W' (by omega) (by rw [← hN]; exact QLT.out.2.1)
  have ZC : Hid ((z = 1 ∧ rne o' u' = q + 1) ∨ (z = 0 ∧ q % 2 = 1 ∧ rne o' u' = q + 1) ∨ (z = 0 ∧ q % 2 = 0 ∧ rne o' u' = q) ∨ (z = -1 ∧ rne o' u' = q)) := by
    have h2 := QLT.out.2.2
    rw [← hr] at h2
    rcases cmpN_or (r + r) u' with h1 | h1 | h1
    · have h3 := cmpN_lt h1
      refine .inr (.inr (.inr ⟨by rw [← hz, h1], ?_⟩))
      rw [hq]; exact rne_down (by rw [← hr]; omega)
    · have h3 := cmpN_eq h1
      by_cases hp : q % 2 = 1
      · refine .inr (.inl ⟨by rw [← hz, h1], hp, ?_⟩)
        rw [hq]; exact rne_up (by rw [← hr, ← hq]; omega)
      · refine .inr (.inr (.inl ⟨by rw [← hz, h1], by omega, ?_⟩))
        rw [hq]; exact rne_down (by rw [← hr, ← hq]; omega)
    · have h3 := cmpN_gt h1
      refine .inl ⟨by rw [← hz, h1], ?_⟩
      rw [hq]; exact rne_up (by rw [← hr]; omega)
  have hql : q ≤ 16777216 := by have := QLT.out.1; omega
  have BK : Hid (∀ w', Below w3.heap.size w3 w' → Below w.heap.size w w' ∧ w'.cell? ⟨w.heap.size, 0, none⟩ = some (.int .i64 23) ∧ w'.cell? ⟨w.heap.size, 1, none⟩ = some (.int .i64 8) ∧ w'.cell? ⟨w.heap.size, 2, none⟩ = some (.int .i64 (-149))) := fun w' h => by
    have q1 := BLK3.out.below h BLK3.out.lt
    exact ⟨HB3.out.trans (h.mono HB3.out.size), q1.cell 0, q1.cell 1, q1.cell 2⟩
  clear hz hr hq HQ BQ BE HS QLT NR N3 SM B64' U0 HB3 BLK3 BLS3 hs1 hh hlt1
  have mk0 : True := trivial
  go_region_held3 (fun w' => w'.cell? ⟨G, 4, none⟩ = some (.slice o2 l2 p2)) (go_keep) (first
    | (clear mk0; go_at_call 81; refine A1.out.mono ?_; rintro e w5 ⟨oa, la, ca, rfl, na, b5, k5⟩; have mk1 : True := trivial)
    | (clear mk1; go_at_call 80; refine (A2.out _ _ _ _ na b5).mono ?_; rintro e w6 ⟨rfl, b6, k6⟩; have mk2 : True := trivial))
  all_goals (
    obtain ⟨hbel, k0, k1, k2⟩ := BK.out _ b6.out
    have HB6 := hide hbel
    clear hbel b5 b6 na A1 A2 BK bd k5 k6 d4
    rcases ZC.out with ⟨rfl, hN⟩ | ⟨rfl, hp, hN⟩ | ⟨rfl, hp, hN⟩ | ⟨rfl, hN⟩)
  · have J1 := hide (fun W' => JN.out W' (q + 1) ((q : Int) + 1) (by omega) hN)
    clear JN ZC hN
    go_wp2_with fail
    refine (J1.out _).mono ?_
    rintro e w7 ⟨rfl, b7⟩
    have FIN := hide (HB6.out.trans (b7.mono HB6.out.size))
    clear b7 J1 HB6
    go_wp2
    go_ret
    exact ⟨rfl, FIN.out⟩
  · have hp' : ((q : Int) % 2 == 1) = true := by
      have h1 : (q : Int) % 2 = 1 := by omega
      simpa using h1
    clear hp
    have J1 := hide (fun W' => JN.out W' (q + 1) ((q : Int) + 1) (by omega) hN)
    clear JN ZC hN
    go_wp2_with fail
    refine (J1.out _).mono ?_
    rintro e w7 ⟨rfl, b7⟩
    have FIN := hide (HB6.out.trans (b7.mono HB6.out.size))
    clear b7 J1 HB6
    go_wp2
    go_ret
    exact ⟨rfl, FIN.out⟩
  · have hp' : ((q : Int) % 2 == 1) = false := by
      have h1 : ¬ (q : Int) % 2 = 1 := by omega
      simpa using h1
    clear hp
    have J1 := hide (fun W' => JN.out W' (q) ((q : Int)) (by omega) hN)
    clear JN ZC hN
    go_wp2_with fail
    refine (J1.out _).mono ?_
    rintro e w7 ⟨rfl, b7⟩
    have FIN := hide (HB6.out.trans (b7.mono HB6.out.size))
    clear b7 J1 HB6
    go_wp2
    go_ret
    exact ⟨rfl, FIN.out⟩
  · have J1 := hide (fun W' => JN.out W' (q) ((q : Int)) (by omega) hN)
    clear JN ZC hN
    go_wp2_with fail
    refine (J1.out _).mono ?_
    rintro e w7 ⟨rfl, b7⟩
    have FIN := hide (HB6.out.trans (b7.mono HB6.out.size))
    clear b7 J1 HB6
    go_wp2
    go_ret
    exact ⟨rfl, FIN.out⟩

end Go.Proofs.YtlhekeifffofjaaGreatDoor

namespace Go.Proofs.YtlhekeifffofjaaGreatDoor

/-- Which Decs may be: class, sign, digits, exponent. -/
def MayD (c : Int) (neg : Bool) (dig : List UInt8) (e : Int) : Prop :=
  (c = 0 ∧ ((dig = [] ∧ e = 0) ∨ (dig ≠ [] ∧ dig.length ≤ 1000 ∧ -2000 ≤ e + dig.length ∧ e + dig.length ≤ 2000 ∧ byt dig 0 ≠ 48 ∧ byt dig (dig.length - 1) ≠ 48 ∧ DigB dig))) ∨
  (c = 1 ∧ dig = [] ∧ e = 0) ∨ (c = 2 ∧ neg = false ∧ dig = [] ∧ e = 0)

/-- Digits that do not begin with a nought are a number above 0. -/
theorem decV_ne {l : List UInt8} (h : l ≠ []) (h0 : byt l 0 ≠ 48) (hd : DigB l) : decV l ≠ 0 := by
  have ok : OkT l := ⟨h, fun e => absurd e h0, hd⟩
  rcases hl : l.length with _ | n
  · exact absurd (List.length_eq_zero_iff.1 hl) h
  · have hb := dd_back n l hl ok
    intro e
    rw [e, Lib.decDigits_one (by omega)] at hb
    apply h0
    rw [← hb]; rfl

end Go.Proofs.YtlhekeifffofjaaGreatDoor

namespace Go.Proofs.YtlhekeifffofjaaGreatDoor
open Go.RowKit

/-- A Dec as a value. -/
abbrev dcV (c : Int) (neg : Bool) (t : ByteArray) (e : Int) : Value := .agg #[.int .i64 c, .bool neg, .string t, .int .i64 e]

theorem size_nil {t : ByteArray} (h : t.size = 0) : t = ⟨#[]⟩ := by
  cases t with | mk d => simp [ByteArray.size] at h; rw [h]

theorem toList_ne {t : ByteArray} (h : t.size ≠ 0) : (t.toList == []) = false := by
  have : t.toList ≠ [] := fun e => h (by
    rw [ByteArray.toList_eq] at e
    have h1 := congrArg List.length e
    rw [← bys_len]
    exact h1)
  cases hl : t.toList with
  | nil => exact absurd hl this
  | cons a l => rfl

theorem bare_yes (c : Int) (neg : Bool) (w : World) : Calls Tryz.prog 75 #[dcV c neg ⟨#[]⟩ 0] w fun e w' => e = .returned (.bool true) ∧ Below w.heap.size w w' := by
  go_enter Tryz.func75, Tryz.ntmps75
  go_wp2
  go_ret
  exact ⟨rfl, (Below.refl _ _).alloc (Nat.le_refl _) _⟩

theorem bare_exp (c ex : Int) (neg : Bool) (w : World) (h : ¬ ex = 0) : Calls Tryz.prog 75 #[dcV c neg ⟨#[]⟩ ex] w fun e w' => e = .returned (.bool false) ∧ Below w.heap.size w w' := by
  have h' : (ex == 0) = false := by simpa using h
  go_enter Tryz.func75, Tryz.ntmps75
  go_wp2
  go_ret
  exact ⟨rfl, (Below.refl _ _).alloc (Nat.le_refl _) _⟩

theorem bare_dig (c ex : Int) (neg : Bool) (t : ByteArray) (w : World) (h : t.size ≠ 0) : Calls Tryz.prog 75 #[dcV c neg t ex] w fun e w' => e = .returned (.bool false) ∧ Below w.heap.size w w' := by
  have h2 := toList_ne h
  clear h
  go_enter Tryz.func75, Tryz.ntmps75
  go_wp2
  go_ret
  exact ⟨rfl, (Below.refl _ _).alloc (Nat.le_refl _) _⟩

theorem bare_no (c ex : Int) (neg : Bool) (t : ByteArray) (w : World) (h : ¬ (t.size = 0 ∧ ex = 0)) : Calls Tryz.prog 75 #[dcV c neg t ex] w fun e w' => e = .returned (.bool false) ∧ Below w.heap.size w w' := by
  by_cases h0 : t.size = 0
  · rw [size_nil h0]; exact bare_exp c ex neg w (fun e => h ⟨h0, e⟩)
  · exact bare_dig c ex neg t w h0

set_option maxHeartbeats 1000000 in
theorem digits_yes (t : ByteArray) (n : Nat) (w : World) (hn : t.size = n) (hm : n ≤ 1000) (hd : DigB (bys t)) : Calls Tryz.prog 103 #[.string t] w fun e w' => e = .returned (.bool true) ∧ w = w' := by
  have HD := hide hd
  have HL : Hid ((bys t).length = n) := by rw [← hn]; exact bys_len t
  clear hd
  go_enter Tryz.func103, Tryz.ntmps103
  go_wp2
  go_loopw [6] (fun i wr => ∃ k : Nat, k ≤ n ∧ i = .int .i64 (k : Int) ∧ wr = w) (fun i _ => n - (intOf i).toNat)
  case atStart => exact ⟨0, Nat.zero_le _, rfl, rfl⟩
  case round =>
    obtain ⟨k, hk, rfl, rfl⟩ := hrel
    by_cases hlt : k < n
    · have hlt' : (k : Int) < (t.size : Int) := by omega
      have hks : k < t.size := by omega
      have hg : ∀ h : k < t.size, t[k].toNat = byt (bys t) k := fun h => byt_get t k h
      have hb := HD.out k (by rw [HL.out]; exact hlt)
      obtain ⟨b, hbb⟩ : ∃ b, b = byt (bys t) k := ⟨_, rfl⟩
      rw [← hbb] at hg hb
      have h1' : ¬ (b : Int) < 48 := by omega
      have h2' : ¬ (57 : Int) < (b : Int) := by omega
      clear hbb
      go_wp2
      exact ⟨⟨k + 1, by omega, by go_num, trivial⟩, by simp [intOf]; omega⟩
    · have hlt' : ¬ (k : Int) < (t.size : Int) := by omega
      go_wp2
      go_ret
      exact ⟨rfl, rfl⟩

set_option maxHeartbeats 1000000 in
theorem digits_no (t : ByteArray) (n j : Nat) (w : World) (hn : t.size = n) (hm : n ≤ 1000) (hj : j < n) (hd : ¬ (48 ≤ byt (bys t) j ∧ byt (bys t) j ≤ 57)) : Calls Tryz.prog 103 #[.string t] w fun e w' => e = .returned (.bool false) ∧ w = w' := by
  have HD := hide hd
  clear hd
  go_enter Tryz.func103, Tryz.ntmps103
  go_wp2
  go_loopw [6] (fun i wr => ∃ k : Nat, k ≤ j ∧ i = .int .i64 (k : Int) ∧ wr = w) (fun i _ => n - (intOf i).toNat)
  case atStart => exact ⟨0, Nat.zero_le _, rfl, rfl⟩
  case round =>
    obtain ⟨k, hk, rfl, rfl⟩ := hrel
    have hlt' : (k : Int) < (t.size : Int) := by omega
    have hks : k < t.size := by omega
    have hg : ∀ h : k < t.size, t[k].toNat = byt (bys t) k := fun h => byt_get t k h
    obtain ⟨b, hbb⟩ : ∃ b, b = byt (bys t) k := ⟨_, rfl⟩
    rw [← hbb] at hg
    have HBB := hide hbb
    clear hbb
    by_cases h1 : b < 48
    · have h1' : (b : Int) < 48 := by omega
      go_wp2
      go_ret
      exact ⟨rfl, rfl⟩
    · have h1' : ¬ (b : Int) < 48 := by omega
      by_cases h2 : 57 < b
      · have h2' : (57 : Int) < (b : Int) := by omega
        go_wp2
        go_ret
        exact ⟨rfl, rfl⟩
      · have h2' : ¬ (57 : Int) < (b : Int) := by omega
        have hne : k ≠ j := fun e => HD.out (by rw [← e, ← HBB.out]; omega)
        go_wp2
        exact ⟨⟨k + 1, by omega, by go_num, trivial⟩, by simp [intOf]; omega⟩

/-- The digits of a Dec that may be. -/
def DigD (dig : List UInt8) (e : Int) : Prop :=
  dig ≠ [] ∧ dig.length ≤ 1000 ∧ -2000 ≤ e + dig.length ∧ e + dig.length ≤ 2000 ∧ byt dig 0 ≠ 48 ∧ byt dig (dig.length - 1) ≠ 48 ∧ DigB dig

theorem bys_nil {t : ByteArray} : bys t = [] ↔ t.size = 0 := by
  rw [← bys_len]; exact List.length_eq_zero_iff.symm

set_option maxRecDepth 100000 in
set_option maxHeartbeats 1000000 in
theorem mdig_yes (t : ByteArray) (ex : Int) (w : World) (h : DigD (bys t) ex) : Calls Tryz.prog 76 #[.string t, .int .i64 ex] w fun e w' => e = .returned (.bool true) ∧ w = w' := by
  obtain ⟨h0, h1, h2, h3, h4, h5, h6⟩ := h
  rw [bys_len] at h1 h2 h3 h5
  have hn0 : t.size ≠ 0 := fun e => h0 (bys_nil.2 e)
  obtain ⟨j, hj⟩ : ∃ j, t.size = j + 1 := ⟨t.size - 1, by omega⟩
  have DG := hide (digits_yes t (j + 1) w hj (by omega) h6)
  have hg0 : ∀ h : 0 < t.size, t[0].toNat = byt (bys t) 0 := fun h => byt_get t 0 h
  have hgz : ∀ h : j < t.size, t[j].toNat = byt (bys t) j := fun h => byt_get t j h
  rw [show t.size - 1 = j by omega] at h5
  obtain ⟨a, ha⟩ : ∃ b, b = byt (bys t) 0 := ⟨_, rfl⟩
  obtain ⟨z, hz⟩ : ∃ b, b = byt (bys t) j := ⟨_, rfl⟩
  rw [← ha] at hg0 h4
  rw [← hz] at hgz h5
  have hp0 : 0 < t.size := by omega
  have hp1 : j < t.size := by omega
  have hp1' : (j : Int) < (t.size : Int) := by omega
  have e0 : ((j : Int) + 1 == 0) = false := by
    have : ¬ (j : Int) + 1 = 0 := by omega
    simpa using this
  have e1 : decide ((1000 : Int) < (j : Int) + 1) = false := decide_eq_false (by omega)
  have e2 : decide (ex < -2000 - ((j : Int) + 1)) = false := decide_eq_false (by omega)
  have e3 : decide (2000 - ((j : Int) + 1) < ex) = false := decide_eq_false (by omega)
  have c1 : ((a : Int) != 48) = true := by
    have : ¬ (a : Int) = 48 := by omega
    simpa using this
  have c2 : ((z : Int) != 48) = true := by
    have : ¬ (z : Int) = 48 := by omega
    simpa using this
  clear ha hz h4 h5 h0 h6
  go_enter Tryz.func76, Tryz.ntmps76
  go_wp2_with fail
  refine DG.out.mono ?_
  rintro e w1 ⟨rfl, rfl⟩
  clear DG
  go_wp2
  go_ret
  exact ⟨rfl, rfl⟩

theorem mdig_nil (ex : Int) (w : World) : Calls Tryz.prog 76 #[.string ⟨#[]⟩, .int .i64 ex] w fun e w' => e = .returned (.bool false) ∧ w = w' := by
  go_enter Tryz.func76, Tryz.ntmps76
  go_wp2
  go_ret
  exact ⟨rfl, rfl⟩

set_option maxRecDepth 100000 in
set_option maxHeartbeats 1000000 in
theorem mdig_long (t : ByteArray) (ex : Int) (w : World) (h : 1000 < t.size) : Calls Tryz.prog 76 #[.string t, .int .i64 ex] w fun e w' => e = .returned (.bool false) ∧ w = w' := by
  have e0 : ((t.size : Int) == 0) = false := by
    have : ¬ (t.size : Int) = 0 := by omega
    simpa using this
  have e1 : decide ((1000 : Int) < (t.size : Int)) = true := decide_eq_true (by omega)
  go_enter Tryz.func76, Tryz.ntmps76
  go_wp2
  go_ret
  exact ⟨rfl, rfl⟩

set_option maxRecDepth 100000 in
set_option maxHeartbeats 1000000 in
theorem mdig_low (t : ByteArray) (ex : Int) (w : World) (j : Nat) (hj : t.size = j + 1) (h : j + 1 ≤ 1000) (he : ex < -2000 - ((j : Int) + 1)) : Calls Tryz.prog 76 #[.string t, .int .i64 ex] w fun e w' => e = .returned (.bool false) ∧ w = w' := by
  have e0 : ((j : Int) + 1 == 0) = false := by
    have : ¬ (j : Int) + 1 = 0 := by omega
    simpa using this
  have e1 : decide ((1000 : Int) < (j : Int) + 1) = false := decide_eq_false (by omega)
  have e2 : decide (ex < -2000 - ((j : Int) + 1)) = true := decide_eq_true (by omega)
  go_enter Tryz.func76, Tryz.ntmps76
  go_wp2
  go_ret
  exact ⟨rfl, rfl⟩

set_option maxRecDepth 100000 in
set_option maxHeartbeats 1000000 in
theorem mdig_high (t : ByteArray) (ex : Int) (w : World) (j : Nat) (hj : t.size = j + 1) (h : j + 1 ≤ 1000) (he : 2000 - ((j : Int) + 1) < ex) : Calls Tryz.prog 76 #[.string t, .int .i64 ex] w fun e w' => e = .returned (.bool false) ∧ w = w' := by
  have e0 : ((j : Int) + 1 == 0) = false := by
    have : ¬ (j : Int) + 1 = 0 := by omega
    simpa using this
  have e1 : decide ((1000 : Int) < (j : Int) + 1) = false := decide_eq_false (by omega)
  have e2 : decide (ex < -2000 - ((j : Int) + 1)) = false := decide_eq_false (by omega)
  have e3 : decide (2000 - ((j : Int) + 1) < ex) = true := decide_eq_true (by omega)
  go_enter Tryz.func76, Tryz.ntmps76
  go_wp2
  go_ret
  exact ⟨rfl, rfl⟩

set_option maxRecDepth 100000 in
set_option maxHeartbeats 1000000 in
theorem mdig_first (t : ByteArray) (ex : Int) (w : World) (j : Nat) (hj : t.size = j + 1) (h : j + 1 ≤ 1000) (hl : -2000 - ((j : Int) + 1) ≤ ex) (he : ex ≤ 2000 - ((j : Int) + 1)) (hf : byt (bys t) 0 = 48) : Calls Tryz.prog 76 #[.string t, .int .i64 ex] w fun e w' => e = .returned (.bool false) ∧ w = w' := by
  have e0 : ((j : Int) + 1 == 0) = false := by
    have : ¬ (j : Int) + 1 = 0 := by omega
    simpa using this
  have e1 : decide ((1000 : Int) < (j : Int) + 1) = false := decide_eq_false (by omega)
  have e2 : decide (ex < -2000 - ((j : Int) + 1)) = false := decide_eq_false (by omega)
  have e3 : decide (2000 - ((j : Int) + 1) < ex) = false := decide_eq_false (by omega)
  have hg0 : ∀ h : 0 < t.size, t[0].toNat = byt (bys t) 0 := fun h => byt_get t 0 h
  have hgz : ∀ h : j < t.size, t[j].toNat = byt (bys t) j := fun h => byt_get t j h
  have hp0 : 0 < t.size := by omega
  have hp1 : j < t.size := by omega
  have hp1' : (j : Int) < (t.size : Int) := by omega
  obtain ⟨a, ha⟩ : ∃ b, b = byt (bys t) 0 := ⟨_, rfl⟩
  obtain ⟨z, hz⟩ : ∃ b, b = byt (bys t) j := ⟨_, rfl⟩
  rw [← ha] at hg0
  rw [← hz] at hgz
  rw [← ha] at hf
  have ca : ((a : Int) != 48) = false := by
    have : (a : Int) = 48 := by omega
    rw [this]; rfl
  clear ha hz hf
  go_enter Tryz.func76, Tryz.ntmps76
  go_wp2
  go_ret
  exact ⟨rfl, rfl⟩

set_option maxRecDepth 100000 in
set_option maxHeartbeats 1000000 in
theorem mdig_last (t : ByteArray) (ex : Int) (w : World) (j : Nat) (hj : t.size = j + 1) (h : j + 1 ≤ 1000) (hl : -2000 - ((j : Int) + 1) ≤ ex) (he : ex ≤ 2000 - ((j : Int) + 1)) (hf : byt (bys t) 0 ≠ 48) (hla : byt (bys t) j = 48) : Calls Tryz.prog 76 #[.string t, .int .i64 ex] w fun e w' => e = .returned (.bool false) ∧ w = w' := by
  have e0 : ((j : Int) + 1 == 0) = false := by
    have : ¬ (j : Int) + 1 = 0 := by omega
    simpa using this
  have e1 : decide ((1000 : Int) < (j : Int) + 1) = false := decide_eq_false (by omega)
  have e2 : decide (ex < -2000 - ((j : Int) + 1)) = false := decide_eq_false (by omega)
  have e3 : decide (2000 - ((j : Int) + 1) < ex) = false := decide_eq_false (by omega)
  have hg0 : ∀ h : 0 < t.size, t[0].toNat = byt (bys t) 0 := fun h => byt_get t 0 h
  have hgz : ∀ h : j < t.size, t[j].toNat = byt (bys t) j := fun h => byt_get t j h
  have hp0 : 0 < t.size := by omega
  have hp1 : j < t.size := by omega
  have hp1' : (j : Int) < (t.size : Int) := by omega
  obtain ⟨a, ha⟩ : ∃ b, b = byt (bys t) 0 := ⟨_, rfl⟩
  obtain ⟨z, hz⟩ : ∃ b, b = byt (bys t) j := ⟨_, rfl⟩
  rw [← ha] at hg0
  rw [← hz] at hgz
  rw [← ha] at hf
  rw [← hz] at hla
  have ca : ((a : Int) != 48) = true := by
    have : ¬ (a : Int) = 48 := by omega
    simpa using this
  have cz : ((z : Int) != 48) = false := by
    have : (z : Int) = 48 := by omega
    rw [this]; rfl
  clear ha hz hf hla
  go_enter Tryz.func76, Tryz.ntmps76
  go_wp2
  go_ret
  exact ⟨rfl, rfl⟩

set_option maxRecDepth 100000 in
set_option maxHeartbeats 1000000 in
theorem mdig_bad (t : ByteArray) (ex : Int) (w : World) (j : Nat) (hj : t.size = j + 1) (h : j + 1 ≤ 1000) (hl : -2000 - ((j : Int) + 1) ≤ ex) (he : ex ≤ 2000 - ((j : Int) + 1)) (k : Nat) (hk : k < j + 1) (hf : byt (bys t) 0 ≠ 48) (hla : byt (bys t) j ≠ 48) (hd : ¬ (48 ≤ byt (bys t) k ∧ byt (bys t) k ≤ 57)) : Calls Tryz.prog 76 #[.string t, .int .i64 ex] w fun e w' => e = .returned (.bool false) ∧ w = w' := by
  have DG := hide (digits_no t (j + 1) k w hj h hk hd)
  have e0 : ((j : Int) + 1 == 0) = false := by
    have : ¬ (j : Int) + 1 = 0 := by omega
    simpa using this
  have e1 : decide ((1000 : Int) < (j : Int) + 1) = false := decide_eq_false (by omega)
  have e2 : decide (ex < -2000 - ((j : Int) + 1)) = false := decide_eq_false (by omega)
  have e3 : decide (2000 - ((j : Int) + 1) < ex) = false := decide_eq_false (by omega)
  have hg0 : ∀ h : 0 < t.size, t[0].toNat = byt (bys t) 0 := fun h => byt_get t 0 h
  have hgz : ∀ h : j < t.size, t[j].toNat = byt (bys t) j := fun h => byt_get t j h
  have hp0 : 0 < t.size := by omega
  have hp1 : j < t.size := by omega
  have hp1' : (j : Int) < (t.size : Int) := by omega
  obtain ⟨a, ha⟩ : ∃ b, b = byt (bys t) 0 := ⟨_, rfl⟩
  obtain ⟨z, hz⟩ : ∃ b, b = byt (bys t) j := ⟨_, rfl⟩
  rw [← ha] at hg0
  rw [← hz] at hgz
  rw [← ha] at hf
  rw [← hz] at hla
  have ca : ((a : Int) != 48) = true := by
    have : ¬ (a : Int) = 48 := by omega
    simpa using this
  have cz : ((z : Int) != 48) = true := by
    have : ¬ (z : Int) = 48 := by omega
    simpa using this
  clear ha hz hf hla hd
  go_enter Tryz.func76, Tryz.ntmps76
  go_wp2_with fail
  refine DG.out.mono ?_
  rintro e w1 ⟨rfl, rfl⟩
  clear DG
  go_wp2
  go_ret
  exact ⟨rfl, rfl⟩

theorem mdig_no (t : ByteArray) (ex : Int) (w : World) (h : ¬ DigD (bys t) ex) : Calls Tryz.prog 76 #[.string t, .int .i64 ex] w fun e w' => e = .returned (.bool false) ∧ w = w' := by
  by_cases h0 : t.size = 0
  · rw [size_nil h0]; exact mdig_nil ex w
  · obtain ⟨j, hj⟩ : ∃ j, t.size = j + 1 := ⟨t.size - 1, by omega⟩
    rcases Nat.lt_or_ge 1000 t.size with h1 | h1
    · exact mdig_long t ex w h1
    · by_cases h2 : ex < -2000 - ((j : Int) + 1)
      · exact mdig_low t ex w j hj (by omega) h2
      · by_cases h3 : 2000 - ((j : Int) + 1) < ex
        · exact mdig_high t ex w j hj (by omega) h3
        · by_cases h4 : byt (bys t) 0 = 48
          · exact mdig_first t ex w j hj (by omega) (by omega) (by omega) h4
          · by_cases h5 : byt (bys t) j = 48
            · exact mdig_last t ex w j hj (by omega) (by omega) (by omega) h4 h5
            · have hd : ¬ DigB (bys t) := by
                intro hd
                apply h
                unfold DigD
                rw [bys_len, hj]
                exact ⟨fun e => h0 (bys_nil.1 e), by omega, by omega, by omega, h4, by rw [Nat.add_sub_cancel]; exact h5, hd⟩
              obtain ⟨k, hk⟩ := Classical.not_forall.1 hd
              obtain ⟨hk1, hk2⟩ := Classical.not_imp.1 hk
              rw [bys_len, hj] at hk1
              exact mdig_bad t ex w j hj (by omega) (by omega) (by omega) k hk1 h4 h5 hk2

theorem mayD_0 (neg : Bool) (t : ByteArray) (ex : Int) : MayD 0 neg (bys t) ex ↔ ((t.size = 0 ∧ ex = 0) ∨ DigD (bys t) ex) := by
  unfold MayD DigD
  rw [bys_nil]
  constructor
  · rintro (⟨_, h⟩ | ⟨h, _⟩ | ⟨h, _⟩)
    · exact h
    · omega
    · omega
  · intro h; exact .inl ⟨rfl, h⟩

set_option maxHeartbeats 1000000 in
theorem may0_bare (neg : Bool) (w : World) : Calls Tryz.prog 52 #[dcV 0 neg ⟨#[]⟩ 0] w fun e w' => e = .returned (.bool true) ∧ Below w.heap.size w w' := by
  have HB0 : Hid (Below w.heap.size w (w.alloc (.cells #[.int .i64 0, .bool neg, .string ⟨#[]⟩, .int .i64 0] 23))) := (Below.refl _ _).alloc (Nat.le_refl _) _
  have BLK := hide (Blk.new w #[.int .i64 0, .bool neg, .string ⟨#[]⟩, .int .i64 0] 23)
  go_enter Tryz.func52, Tryz.ntmps52
  go_wp2_with fail
  refine (bare_yes 0 neg _).mono ?_
  rintro e w1 ⟨rfl, hb⟩
  have q := BLK.out.below hb BLK.out.lt
  have k1 : w1.cell? ⟨w.heap.size, 1, none⟩ = some (.bool neg) := q.cell 1
  have k2 : w1.cell? ⟨w.heap.size, 2, none⟩ = some (.string ⟨#[]⟩) := q.cell 2
  have k3 : w1.cell? ⟨w.heap.size, 3, none⟩ = some (.int .i64 0) := q.cell 3
  have HB1 : Hid (Below w.heap.size w w1) := HB0.out.trans (hb.mono HB0.out.size)
  clear q hb BLK HB0
  go_wp2
  go_ret
  exact ⟨rfl, HB1.out⟩

set_option maxHeartbeats 1000000 in
theorem may0_yes (neg : Bool) (t : ByteArray) (ex : Int) (w : World) (hb : ¬ (t.size = 0 ∧ ex = 0)) (hd : DigD (bys t) ex) : Calls Tryz.prog 52 #[dcV 0 neg t ex] w fun e w' => e = .returned (.bool true) ∧ Below w.heap.size w w' := by
  have BA := hide (fun W => bare_no 0 ex neg t W hb)
  have MD := hide (fun W => mdig_yes t ex W hd)
  clear hb hd
  have HB0 : Hid (Below w.heap.size w (w.alloc (.cells #[.int .i64 0, .bool neg, .string t, .int .i64 ex] 23))) := (Below.refl _ _).alloc (Nat.le_refl _) _
  have BLK := hide (Blk.new w #[.int .i64 0, .bool neg, .string t, .int .i64 ex] 23)
  go_enter Tryz.func52, Tryz.ntmps52
  go_wp2_with fail
  refine (BA.out _).mono ?_
  rintro e w1 ⟨rfl, hb⟩
  have q := BLK.out.below hb BLK.out.lt
  have k1 : w1.cell? ⟨w.heap.size, 1, none⟩ = some (.bool neg) := q.cell 1
  have k2 : w1.cell? ⟨w.heap.size, 2, none⟩ = some (.string t) := q.cell 2
  have k3 : w1.cell? ⟨w.heap.size, 3, none⟩ = some (.int .i64 ex) := q.cell 3
  have HB1 : Hid (Below w.heap.size w w1) := HB0.out.trans (hb.mono HB0.out.size)
  clear q hb BLK HB0
  go_wp2_with fail
  refine (MD.out _).mono ?_
  rintro e w2 ⟨rfl, rfl⟩
  go_wp2
  go_ret
  exact ⟨rfl, HB1.out⟩

set_option maxHeartbeats 1000000 in
theorem may0_no (neg : Bool) (t : ByteArray) (ex : Int) (w : World) (hb : ¬ (t.size = 0 ∧ ex = 0)) (hd : ¬ DigD (bys t) ex) : Calls Tryz.prog 52 #[dcV 0 neg t ex] w fun e w' => e = .returned (.bool false) ∧ Below w.heap.size w w' := by
  have BA := hide (fun W => bare_no 0 ex neg t W hb)
  have MD := hide (fun W => mdig_no t ex W hd)
  clear hb hd
  have HB0 : Hid (Below w.heap.size w (w.alloc (.cells #[.int .i64 0, .bool neg, .string t, .int .i64 ex] 23))) := (Below.refl _ _).alloc (Nat.le_refl _) _
  have BLK := hide (Blk.new w #[.int .i64 0, .bool neg, .string t, .int .i64 ex] 23)
  go_enter Tryz.func52, Tryz.ntmps52
  go_wp2_with fail
  refine (BA.out _).mono ?_
  rintro e w1 ⟨rfl, hb⟩
  have q := BLK.out.below hb BLK.out.lt
  have k1 : w1.cell? ⟨w.heap.size, 1, none⟩ = some (.bool neg) := q.cell 1
  have k2 : w1.cell? ⟨w.heap.size, 2, none⟩ = some (.string t) := q.cell 2
  have k3 : w1.cell? ⟨w.heap.size, 3, none⟩ = some (.int .i64 ex) := q.cell 3
  have HB1 : Hid (Below w.heap.size w w1) := HB0.out.trans (hb.mono HB0.out.size)
  clear q hb BLK HB0
  go_wp2_with fail
  refine (MD.out _).mono ?_
  rintro e w2 ⟨rfl, rfl⟩
  go_wp2
  go_ret
  exact ⟨rfl, HB1.out⟩

set_option maxHeartbeats 1000000 in
theorem may1_yes (neg : Bool) (w : World) : Calls Tryz.prog 52 #[dcV 1 neg ⟨#[]⟩ 0] w fun e w' => e = .returned (.bool true) ∧ Below w.heap.size w w' := by
  have HB0 : Hid (Below w.heap.size w (w.alloc (.cells #[.int .i64 1, .bool neg, .string ⟨#[]⟩, .int .i64 0] 23))) := (Below.refl _ _).alloc (Nat.le_refl _) _
  have BLK := hide (Blk.new w #[.int .i64 1, .bool neg, .string ⟨#[]⟩, .int .i64 0] 23)
  go_enter Tryz.func52, Tryz.ntmps52
  go_wp2_with fail
  refine (bare_yes 1 neg _).mono ?_
  rintro e w1 ⟨rfl, hb⟩
  have q := BLK.out.below hb BLK.out.lt
  have k1 : w1.cell? ⟨w.heap.size, 1, none⟩ = some (.bool neg) := q.cell 1
  have k2 : w1.cell? ⟨w.heap.size, 2, none⟩ = some (.string ⟨#[]⟩) := q.cell 2
  have k3 : w1.cell? ⟨w.heap.size, 3, none⟩ = some (.int .i64 0) := q.cell 3
  have HB1 : Hid (Below w.heap.size w w1) := HB0.out.trans (hb.mono HB0.out.size)
  clear q hb BLK HB0
  go_wp2
  go_ret
  exact ⟨rfl, HB1.out⟩

set_option maxHeartbeats 1000000 in
theorem may1_no (neg : Bool) (t : ByteArray) (ex : Int) (w : World) (hb : ¬ (t.size = 0 ∧ ex = 0)) : Calls Tryz.prog 52 #[dcV 1 neg t ex] w fun e w' => e = .returned (.bool false) ∧ Below w.heap.size w w' := by
  have BA := hide (fun W => bare_no 1 ex neg t W hb)
  clear hb
  have HB0 : Hid (Below w.heap.size w (w.alloc (.cells #[.int .i64 1, .bool neg, .string t, .int .i64 ex] 23))) := (Below.refl _ _).alloc (Nat.le_refl _) _
  have BLK := hide (Blk.new w #[.int .i64 1, .bool neg, .string t, .int .i64 ex] 23)
  go_enter Tryz.func52, Tryz.ntmps52
  go_wp2_with fail
  refine (BA.out _).mono ?_
  rintro e w1 ⟨rfl, hb⟩
  have q := BLK.out.below hb BLK.out.lt
  have k1 : w1.cell? ⟨w.heap.size, 1, none⟩ = some (.bool neg) := q.cell 1
  have k2 : w1.cell? ⟨w.heap.size, 2, none⟩ = some (.string t) := q.cell 2
  have k3 : w1.cell? ⟨w.heap.size, 3, none⟩ = some (.int .i64 ex) := q.cell 3
  have HB1 : Hid (Below w.heap.size w w1) := HB0.out.trans (hb.mono HB0.out.size)
  clear q hb BLK HB0
  go_wp2
  go_ret
  exact ⟨rfl, HB1.out⟩

set_option maxHeartbeats 1000000 in
theorem may2_yes (w : World) : Calls Tryz.prog 52 #[dcV 2 false ⟨#[]⟩ 0] w fun e w' => e = .returned (.bool true) ∧ Below w.heap.size w w' := by
  have HB0 : Hid (Below w.heap.size w (w.alloc (.cells #[.int .i64 2, .bool false, .string ⟨#[]⟩, .int .i64 0] 23))) := (Below.refl _ _).alloc (Nat.le_refl _) _
  have BLK := hide (Blk.new w #[.int .i64 2, .bool false, .string ⟨#[]⟩, .int .i64 0] 23)
  go_enter Tryz.func52, Tryz.ntmps52
  go_wp2_with fail
  refine (bare_yes 2 false _).mono ?_
  rintro e w1 ⟨rfl, hb⟩
  have q := BLK.out.below hb BLK.out.lt
  have k1 : w1.cell? ⟨w.heap.size, 1, none⟩ = some (.bool false) := q.cell 1
  have k2 : w1.cell? ⟨w.heap.size, 2, none⟩ = some (.string ⟨#[]⟩) := q.cell 2
  have k3 : w1.cell? ⟨w.heap.size, 3, none⟩ = some (.int .i64 0) := q.cell 3
  have HB1 : Hid (Below w.heap.size w w1) := HB0.out.trans (hb.mono HB0.out.size)
  clear q hb BLK HB0
  go_wp2
  go_ret
  exact ⟨rfl, HB1.out⟩

set_option maxHeartbeats 1000000 in
theorem may2_neg (w : World) : Calls Tryz.prog 52 #[dcV 2 true ⟨#[]⟩ 0] w fun e w' => e = .returned (.bool false) ∧ Below w.heap.size w w' := by
  have HB0 : Hid (Below w.heap.size w (w.alloc (.cells #[.int .i64 2, .bool true, .string ⟨#[]⟩, .int .i64 0] 23))) := (Below.refl _ _).alloc (Nat.le_refl _) _
  have BLK := hide (Blk.new w #[.int .i64 2, .bool true, .string ⟨#[]⟩, .int .i64 0] 23)
  go_enter Tryz.func52, Tryz.ntmps52
  go_wp2_with fail
  refine (bare_yes 2 true _).mono ?_
  rintro e w1 ⟨rfl, hb⟩
  have q := BLK.out.below hb BLK.out.lt
  have k1 : w1.cell? ⟨w.heap.size, 1, none⟩ = some (.bool true) := q.cell 1
  have k2 : w1.cell? ⟨w.heap.size, 2, none⟩ = some (.string ⟨#[]⟩) := q.cell 2
  have k3 : w1.cell? ⟨w.heap.size, 3, none⟩ = some (.int .i64 0) := q.cell 3
  have HB1 : Hid (Below w.heap.size w w1) := HB0.out.trans (hb.mono HB0.out.size)
  clear q hb BLK HB0
  go_wp2
  go_ret
  exact ⟨rfl, HB1.out⟩

set_option maxHeartbeats 1000000 in
theorem may2_no (neg : Bool) (t : ByteArray) (ex : Int) (w : World) (hb : ¬ (t.size = 0 ∧ ex = 0)) : Calls Tryz.prog 52 #[dcV 2 neg t ex] w fun e w' => e = .returned (.bool false) ∧ Below w.heap.size w w' := by
  have BA := hide (fun W => bare_no 2 ex neg t W hb)
  clear hb
  have HB0 : Hid (Below w.heap.size w (w.alloc (.cells #[.int .i64 2, .bool neg, .string t, .int .i64 ex] 23))) := (Below.refl _ _).alloc (Nat.le_refl _) _
  have BLK := hide (Blk.new w #[.int .i64 2, .bool neg, .string t, .int .i64 ex] 23)
  go_enter Tryz.func52, Tryz.ntmps52
  go_wp2_with fail
  refine (BA.out _).mono ?_
  rintro e w1 ⟨rfl, hb⟩
  have q := BLK.out.below hb BLK.out.lt
  have k1 : w1.cell? ⟨w.heap.size, 1, none⟩ = some (.bool neg) := q.cell 1
  have k2 : w1.cell? ⟨w.heap.size, 2, none⟩ = some (.string t) := q.cell 2
  have k3 : w1.cell? ⟨w.heap.size, 3, none⟩ = some (.int .i64 ex) := q.cell 3
  have HB1 : Hid (Below w.heap.size w w1) := HB0.out.trans (hb.mono HB0.out.size)
  clear q hb BLK HB0
  go_wp2
  go_ret
  exact ⟨rfl, HB1.out⟩

set_option maxHeartbeats 1000000 in
theorem may9_no (c : Int) (neg : Bool) (t : ByteArray) (ex : Int) (w : World) (h0 : ¬ c = 0) (h1 : ¬ c = 1) (h2 : ¬ c = 2) : Calls Tryz.prog 52 #[dcV c neg t ex] w fun e w' => e = .returned (.bool false) ∧ Below w.heap.size w w' := by
  have HB0 : Hid (Below w.heap.size w (w.alloc (.cells #[.int .i64 c, .bool neg, .string t, .int .i64 ex] 23))) := (Below.refl _ _).alloc (Nat.le_refl _) _
  have BLK := hide (Blk.new w #[.int .i64 c, .bool neg, .string t, .int .i64 ex] 23)
  go_enter Tryz.func52, Tryz.ntmps52
  go_wp2
  go_ret
  exact ⟨rfl, HB0.out⟩

theorem may_no (c : Int) (neg : Bool) (t : ByteArray) (ex : Int) (w : World) (h : ¬ MayD c neg (bys t) ex) : Calls Tryz.prog 52 #[dcV c neg t ex] w fun e w' => e = .returned (.bool false) ∧ Below w.heap.size w w' := by
  by_cases h0 : c = 0
  · subst h0
    rw [mayD_0] at h
    exact may0_no neg t ex w (fun e => h (.inl e)) (fun e => h (.inr e))
  · by_cases h1 : c = 1
    · subst h1
      exact may1_no neg t ex w (fun e => h (.inr (.inl ⟨rfl, bys_nil.2 e.1, e.2⟩)))
    · by_cases h2 : c = 2
      · subst h2
        by_cases hb : t.size = 0 ∧ ex = 0
        · obtain ⟨hb1, rfl⟩ := hb
          cases neg with
          | false => exact absurd (.inr (.inr ⟨rfl, rfl, bys_nil.2 hb1, rfl⟩)) h
          | true => rw [size_nil hb1]; exact may2_neg w
        · exact may2_no neg t ex w hb
      · exact may9_no c neg t ex w h0 h1 h2

end Go.Proofs.YtlhekeifffofjaaGreatDoor

namespace Go.Proofs.YtlhekeifffofjaaGreatDoor
open Go.RowKit

theorem fit_pow (k : Nat) (hk : k ≤ 3000) : Fit (10 ^ k) := by
  have h1 : (10 : Nat) ^ k ≤ powT 10 3000 := powT_ge (by omega) hk
  have h2 : powT 10 3000 < powT 2 30000 := by decide +kernel
  exact Nat.lt_of_le_of_lt h1 h2

theorem fit_lt {n k : Nat} (h : n < 10 ^ k) (hk : k ≤ 3000) : Fit n := Nat.lt_trans h (fit_pow k hk)

/-- The numbers of a Dec that may be, and has digits. -/
structure Nums (dig : List UInt8) (e : Int) (o u : Nat) : Prop where
  over : o = decV dig * 10 ^ e.toNat
  under : u = 10 ^ (-e).toNat
  fo : Fit o
  fu : Fit u
  o0 : o ≠ 0
  u0 : u ≠ 0

theorem Nums.of {dig : List UInt8} {e : Int} (h : DigD dig e) : Nums dig e (decV dig * 10 ^ e.toNat) (10 ^ (-e).toNat) := by
  obtain ⟨h0, h1, h2, h3, h4, _, h6⟩ := h
  have hv := decV_lt _ dig rfl h6
  have hn := decV_ne h0 h4 h6
  have hp : ∀ k, 0 < 10 ^ k := fun k => Nat.pow_pos (by omega)
  refine ⟨rfl, rfl, fit_lt (k := dig.length + e.toNat) ?_ (by omega), fit_pow _ (by omega), Nat.mul_ne_zero hn (by have := hp e.toNat; omega), by have := hp (-e).toNat; omega⟩
  rw [Nat.pow_add]
  exact Nat.mul_lt_mul_of_pos_right hv (hp _)

set_option maxHeartbeats 1000000 in
theorem frac64_neg (neg : Bool) (t : ByteArray) (n : Nat) (w : World) (h : DigD (bys t) (-(n : Int))) (hn : -(n : Int) < 0) :
    Calls Tryz.prog 55 #[w64, .agg #[.int .i64 0, .bool neg, .string t, .int .i64 (-(n : Int))]] w (FrPost w 52 11 (-1074) (decV (bys t)) (10 ^ n)) := by
  obtain ⟨h0, h1, h2, h3, h4, h5, h6⟩ := h
  rw [bys_len] at h1 h2 h3
  have hok : OkT (bys t) := ⟨h0, fun e => absurd e h4, h6⟩
  have hnl : n ≤ 3000 := by omega
  have PA := hide (fun W => nt_parse t W (by omega) hok)
  have PW := hide (fun W => nt_pow10 (n : Int) n W rfl (by omega))
  clear h0 h1 h2 h3 h4 h5 h6 hok
  obtain ⟨ex, hex⟩ : ∃ e : Int, e = -(n : Int) := ⟨_, rfl⟩
  rw [← hex] at hn
  have hen : -ex = (n : Int) := by omega
  have HEX := hide hex
  rw [← hex]
  clear hex
  have blkd := ((Blk.newAt (w.alloc (.cells #[.int .i64 52, .int .i64 11, .int .i64 (-1074)] 57)) (w.heap.size + 1) (by simp) #[.int .i64 0, .bool neg, .string t, .int .i64 ex] 23).alloc (.cells #[.int .i64 0, .int .i64 0, .int .i64 0, .slice none 0 0, .slice none 0 0] 76))
  have blkw := ((Blk.new w #[.int .i64 52, .int .i64 11, .int .i64 (-1074)] 57).alloc (.cells #[.int .i64 0, .bool neg, .string t, .int .i64 ex] 23)).alloc (.cells #[.int .i64 0, .int .i64 0, .int .i64 0, .slice none 0 0, .slice none 0 0] 76)
  have blkz := Blk.newAt ((w.alloc (.cells #[.int .i64 52, .int .i64 11, .int .i64 (-1074)] 57)).alloc (.cells #[.int .i64 0, .bool neg, .string t, .int .i64 ex] 23)) (w.heap.size + 1 + 1) (by simp) #[.int .i64 0, .int .i64 0, .int .i64 0, .slice none 0 0, .slice none 0 0] 76
  obtain ⟨W, hW⟩ : ∃ W, W = ((w.alloc (.cells #[.int .i64 52, .int .i64 11, .int .i64 (-1074)] 57)).alloc (.cells #[.int .i64 0, .bool neg, .string t, .int .i64 ex] 23)).alloc (.cells #[.int .i64 0, .int .i64 0, .int .i64 0, .slice none 0 0, .slice none 0 0] 76) := ⟨_, rfl⟩
  rw [← hW] at blkd blkw blkz
  have HBW : Hid (Below w.heap.size w W) := by rw [hW]; exact (((Below.refl _ _).alloc (Nat.le_refl _) _).alloc (by simp) _).alloc (by simp; omega) _
  have BLD := hide blkd
  have BLW := hide blkw
  have BLZ := hide blkz
  have c2 : W.cell? ⟨w.heap.size + 1, 2, none⟩ = some (.string t) := blkd.cell 2
  have HW := hide hW
  clear blkd blkw blkz hW
  go_enter Tryz.func55, Tryz.ntmps55
  go_wp2_with fail
  simp only [← HW.out]
  refine (PA.out _).mono ?_
  rintro e w1 ⟨v1, rfl, n1, b1, f1⟩
  obtain ⟨o1, p1, x1, rfl, _⟩ := id n1
  have N1 := hide n1
  have F1 := hide (f1.mono (i := w.heap.size + 3) (by have := BLZ.out.lt; omega))
  have BD1 := hide (BLD.out.below b1 BLD.out.lt)
  have BW1 := hide (BLW.out.below b1 BLW.out.lt)
  have BZ1 := hide (BLZ.out.below b1 BLZ.out.lt)
  have HB1 := hide (HBW.out.trans (b1.mono HBW.out.size))
  have d3 : w1.cell? ⟨w.heap.size + 1, 3, none⟩ = some (.int .i64 ex) := BD1.out.cell 3
  clear n1 b1 f1 BLD BLW BLZ HBW PA c2
  go_wp2_with fail
  refine (PW.out _).mono ?_
  rintro e w2 ⟨v2, rfl, n2, b2, f2⟩
  obtain ⟨o2, p2, x2, rfl, _⟩ := id n2
  have q := BW1.out.below b2 BW1.out.lt
  have qz := BZ1.out.below b2 BZ1.out.lt
  have a0 : w2.cell? ⟨w.heap.size, 0, none⟩ = some (.int .i64 52) := q.cell 0
  have a1 : w2.cell? ⟨w.heap.size, 1, none⟩ = some (.int .i64 11) := q.cell 1
  have a2 : w2.cell? ⟨w.heap.size, 2, none⟩ = some (.int .i64 (-1074)) := q.cell 2
  have k0 : w2.cell? ⟨w.heap.size + 1 + 1, 0, none⟩ = some (.int .i64 0) := qz.cell 0
  have k1 : w2.cell? ⟨w.heap.size + 1 + 1, 1, none⟩ = some (.int .i64 0) := qz.cell 1
  have k2 : w2.cell? ⟨w.heap.size + 1 + 1, 2, none⟩ = some (.int .i64 0) := qz.cell 2
  have k3 : w2.cell? ⟨w.heap.size + 1 + 1, 3, none⟩ = some (.slice none 0 0) := qz.cell 3
  have k4 : w2.cell? ⟨w.heap.size + 1 + 1, 4, none⟩ = some (.slice none 0 0) := qz.cell 4
  have g0 := qz.free 0
  have g1 := qz.free 1
  have g2 := qz.free 2
  have g3 := qz.free 3
  have g4 := qz.free 4
  have QZ := hide qz
  have HB2 := hide (HB1.out.trans (b2.mono HB1.out.size))
  have N12 := hide (N1.out.below b2)
  have N2 := hide n2
  have F2 := hide (f2.mono (i := w.heap.size + 3) (by have := BZ1.out.lt; omega))
  clear n2 b2 f2 q qz BD1 BW1 BZ1 HB1 N1 PW d3
  simp only []
  repeat (first | go_values | go_skip | go_guarded | go_step | go_upon)
  refine bodyPost_ret (results_frac rfl _ _ _ _ _ _ _ _ rfl (QZ.out.put5 _ _ _ _ _)) rfl ?_
  exact ⟨o1, x1.length, p1, o2, x2.length, p2, rfl, N12.out.put5 F1.out (by omega) _ _ _ _ _, N2.out.put5 F2.out (by omega) _ _ _ _ _, below_put5 HB2.out (by omega) _ _ _ _ _⟩

set_option maxRecDepth 100000 in
set_option maxHeartbeats 2000000 in
theorem frac64_pos (neg : Bool) (t : ByteArray) (n : Nat) (w : World) (h : DigD (bys t) (n : Int)) (hn : ¬ (n : Int) < 0) :
    Calls Tryz.prog 55 #[w64, .agg #[.int .i64 0, .bool neg, .string t, .int .i64 (n : Int)]] w (FrPost w 52 11 (-1074) (decV (bys t) * 10 ^ n) 1) := by
  have NS := Nums.of h
  have s1 : Sm (decV (bys t)) := by
    obtain ⟨h0, h1, h2, h3, h4, h5, h6⟩ := h
    exact Sm.of (decV_lt _ _ rfl h6) (by omega)
  obtain ⟨h0, h1, h2, h3, h4, h5, h6⟩ := h
  rw [bys_len] at h1 h2 h3
  have hok : OkT (bys t) := ⟨h0, fun e => absurd e h4, h6⟩
  have hnl : n ≤ 3000 := by omega
  have SS : Hid (Sm (decV (bys t)) ∧ Sm (10 ^ n)) := ⟨s1, (fit_pow n hnl).sm0⟩
  have PA := hide (fun W => nt_parse t W (by omega) hok)
  have PW := hide (fun W => nt_pow10 (n : Int) n W rfl (by omega))
  clear h0 h1 h2 h3 h4 h5 h6 hok NS s1
  obtain ⟨ex, hex⟩ : ∃ e : Int, e = (n : Int) := ⟨_, rfl⟩
  rw [← hex] at hn PW
  have HEX := hide hex
  rw [← hex]
  clear hex
  have blkd := ((Blk.newAt (w.alloc (.cells #[.int .i64 52, .int .i64 11, .int .i64 (-1074)] 57)) (w.heap.size + 1) (by simp) #[.int .i64 0, .bool neg, .string t, .int .i64 ex] 23).alloc (.cells #[.int .i64 0, .int .i64 0, .int .i64 0, .slice none 0 0, .slice none 0 0] 76))
  have blkw := ((Blk.new w #[.int .i64 52, .int .i64 11, .int .i64 (-1074)] 57).alloc (.cells #[.int .i64 0, .bool neg, .string t, .int .i64 ex] 23)).alloc (.cells #[.int .i64 0, .int .i64 0, .int .i64 0, .slice none 0 0, .slice none 0 0] 76)
  have blkz := Blk.newAt ((w.alloc (.cells #[.int .i64 52, .int .i64 11, .int .i64 (-1074)] 57)).alloc (.cells #[.int .i64 0, .bool neg, .string t, .int .i64 ex] 23)) (w.heap.size + 1 + 1) (by simp) #[.int .i64 0, .int .i64 0, .int .i64 0, .slice none 0 0, .slice none 0 0] 76
  obtain ⟨W, hW⟩ : ∃ W, W = ((w.alloc (.cells #[.int .i64 52, .int .i64 11, .int .i64 (-1074)] 57)).alloc (.cells #[.int .i64 0, .bool neg, .string t, .int .i64 ex] 23)).alloc (.cells #[.int .i64 0, .int .i64 0, .int .i64 0, .slice none 0 0, .slice none 0 0] 76) := ⟨_, rfl⟩
  rw [← hW] at blkd blkw blkz
  have HBW : Hid (Below w.heap.size w W) := by rw [hW]; exact (((Below.refl _ _).alloc (Nat.le_refl _) _).alloc (by simp) _).alloc (by simp; omega) _
  have BLD := hide blkd
  have BLW := hide blkw
  have BLZ := hide blkz
  have c2 : W.cell? ⟨w.heap.size + 1, 2, none⟩ = some (.string t) := blkd.cell 2
  have HW := hide hW
  clear blkd blkw blkz hW
  go_enter Tryz.func55, Tryz.ntmps55
  go_wp2_with fail
  simp only [← HW.out]
  refine (PA.out _).mono ?_
  rintro e w1 ⟨v1, rfl, n1, b1, f1⟩
  obtain ⟨o1, p1, x1, rfl, _⟩ := id n1
  have N1 := hide n1
  have BD1 := hide (BLD.out.below b1 BLD.out.lt)
  have BW1 := hide (BLW.out.below b1 BLW.out.lt)
  have BZ1 := hide (BLZ.out.below b1 BLZ.out.lt)
  have HB1 := hide (HBW.out.trans (b1.mono HBW.out.size))
  have d3 : w1.cell? ⟨w.heap.size + 1, 3, none⟩ = some (.int .i64 ex) := BD1.out.cell 3
  clear n1 b1 f1 BLD BLW BLZ HBW PA c2
  go_wp2_with fail
  refine (PW.out _).mono ?_
  rintro e w2 ⟨v2, rfl, n2, b2, f2⟩
  obtain ⟨o2, p2, x2, rfl, _⟩ := id n2
  have BW2 := hide (BW1.out.below b2 BW1.out.lt)
  have BZ2 := hide (BZ1.out.below b2 BZ1.out.lt)
  have HB2 := hide (HB1.out.trans (b2.mono HB1.out.size))
  have N12 := hide (N1.out.below b2)
  have N2 := hide n2
  have hlt := BZ2.out.lt
  obtain ⟨G, hG⟩ : ∃ G, G = w.heap.size + 1 + 1 := ⟨_, rfl⟩
  rw [← hG] at BZ2 hlt
  have ne1 : ¬ G = w.heap.size := by omega
  have ne2 : ¬ w.heap.size = G := by omega
  have hG3 : G < w.heap.size + 3 := by omega
  have hG2 : w.heap.size ≤ G := by omega
  have HG := hide hG
  clear hG
  have HC : Hid (∀ w', Below w2.heap.size w2 w' → w'.cell? ⟨w.heap.size, 0, none⟩ = some (.int .i64 52) ∧ w'.cell? ⟨w.heap.size, 1, none⟩ = some (.int .i64 11) ∧ w'.cell? ⟨w.heap.size, 2, none⟩ = some (.int .i64 (-1074)) ∧ w'.cell? ⟨G, 0, none⟩ = some (.int .i64 0) ∧ w'.cell? ⟨G, 1, none⟩ = some (.int .i64 0) ∧ w'.cell? ⟨G, 2, none⟩ = some (.int .i64 0) ∧ w'.cell? ⟨G, 3, none⟩ = some (.slice none 0 0) ∧ w'.cell? ⟨G, 4, none⟩ = some (.slice none 0 0) ∧ w'.frozen? ⟨G, 0, none⟩ = false ∧ w'.frozen? ⟨G, 1, none⟩ = false ∧ w'.frozen? ⟨G, 2, none⟩ = false ∧ w'.frozen? ⟨G, 3, none⟩ = false ∧ w'.frozen? ⟨G, 4, none⟩ = false) := fun w' hb => by
    have q := BW2.out.below hb BW2.out.lt
    have qz := BZ2.out.below hb BZ2.out.lt
    exact ⟨q.cell 0, q.cell 1, q.cell 2, qz.cell 0, qz.cell 1, qz.cell 2, qz.cell 3, qz.cell 4, qz.free 0, qz.free 1, qz.free 2, qz.free 3, qz.free 4⟩
  obtain ⟨c0, c1, c2, c3, c4, c5, c6, c7, c8, c9, c10, c11, c12⟩ := HC.out w2 (Below.refl _ _)
  have b0 : Hid (Below w2.heap.size w2 w2.drew) := bdrew' w2
  have MUL : Hid (∀ w', Hid (Below w2.heap.size w2 w') → Calls Tryz.prog 73 #[.slice o1 x1.length p1, .slice o2 x2.length p2] w' fun e w'' => ∃ oa la ca, e = .returned (.slice oa la ca) ∧ Hid (Nt w'' (.slice oa la ca) (decV (bys t) * 10 ^ n) ∧ Far (w.heap.size + 3) (.slice oa la ca) ∧ Below w'.heap.size w' w'') ∧ Hid (Below w2.heap.size w2 w'') ∧ w''.cell? ⟨w.heap.size, 0, none⟩ = some (.int .i64 52) ∧ w''.cell? ⟨w.heap.size, 1, none⟩ = some (.int .i64 11) ∧ w''.cell? ⟨w.heap.size, 2, none⟩ = some (.int .i64 (-1074)) ∧ w''.cell? ⟨G, 0, none⟩ = some (.int .i64 0) ∧ w''.cell? ⟨G, 1, none⟩ = some (.int .i64 0) ∧ w''.cell? ⟨G, 2, none⟩ = some (.int .i64 0) ∧ w''.cell? ⟨G, 3, none⟩ = some (.slice none 0 0) ∧ w''.cell? ⟨G, 4, none⟩ = some (.slice none 0 0) ∧ w''.frozen? ⟨G, 0, none⟩ = false ∧ w''.frozen? ⟨G, 1, none⟩ = false ∧ w''.frozen? ⟨G, 2, none⟩ = false ∧ w''.frozen? ⟨G, 3, none⟩ = false ∧ w''.frozen? ⟨G, 4, none⟩ = false) := by
    intro w' hw'
    refine (nt_mul _ _ _ _ w' (N12.out.below hw'.out) (N2.out.below hw'.out) SS.out.1 SS.out.2).mono ?_
    rintro e w'' ⟨v, rfl, nv, hb, fv⟩
    obtain ⟨oa, ca, xa, rfl, _⟩ := id nv
    have hbb := hw'.out.trans (hb.mono hw'.out.size)
    exact ⟨_, _, _, rfl, ⟨nv, fv.mono (by have := hw'.out.size; have := HG.out; omega), hb⟩, hbb, HC.out _ hbb⟩
  have OFF : Hid (∀ w', Hid (Below w2.heap.size w2 w') → Calls Tryz.prog 70 #[.int .u64 1] w' fun e w'' => ∃ oa la ca, e = .returned (.slice oa la ca) ∧ Hid (Nt w'' (.slice oa la ca) 1 ∧ Far (w.heap.size + 3) (.slice oa la ca) ∧ Below w'.heap.size w' w'') ∧ Hid (Below w2.heap.size w2 w'') ∧ w''.cell? ⟨w.heap.size, 0, none⟩ = some (.int .i64 52) ∧ w''.cell? ⟨w.heap.size, 1, none⟩ = some (.int .i64 11) ∧ w''.cell? ⟨w.heap.size, 2, none⟩ = some (.int .i64 (-1074)) ∧ w''.cell? ⟨G, 0, none⟩ = some (.int .i64 0) ∧ w''.cell? ⟨G, 1, none⟩ = some (.int .i64 0) ∧ w''.cell? ⟨G, 2, none⟩ = some (.int .i64 0) ∧ w''.cell? ⟨G, 3, none⟩ = some (.slice none 0 0) ∧ w''.cell? ⟨G, 4, none⟩ = some (.slice none 0 0) ∧ w''.frozen? ⟨G, 0, none⟩ = false ∧ w''.frozen? ⟨G, 1, none⟩ = false ∧ w''.frozen? ⟨G, 2, none⟩ = false ∧ w''.frozen? ⟨G, 3, none⟩ = false ∧ w''.frozen? ⟨G, 4, none⟩ = false) := by
    intro w' hw'
    refine (nt_of 1 w' (by decide)).mono ?_
    rintro e w'' ⟨v, rfl, nv, hb, fv⟩
    obtain ⟨oa, ca, xa, rfl, _⟩ := id nv
    have hbb := hw'.out.trans (hb.mono hw'.out.size)
    exact ⟨_, _, _, rfl, ⟨nv, fv.mono (by have := hw'.out.size; have := HG.out; omega), hb⟩, hbb, HC.out _ hbb⟩
  have BZF : Hid (∀ w', Below w2.heap.size w2 w' → Below w.heap.size w w' ∧ Blk w' G #[.int .i64 0, .int .i64 0, .int .i64 0, .slice none 0 0, .slice none 0 0] 76) := fun w' hb => ⟨HB2.out.trans (hb.mono HB2.out.size), BZ2.out.below hb BZ2.out.lt⟩
  clear n2 b2 f2 BD1 BW1 BZ1 HB1 N1 PW d3 N12 N2 HC BW2 BZ2 HB2 SS hlt
  go_wp2_with fail
  simp only [← HG.out]
  have mk0 : True := trivial
  go_region_held3 (fun w' => w'.cell? ⟨w.heap.size, 0, none⟩ = some (.int .i64 52) ∧ w'.cell? ⟨w.heap.size, 1, none⟩ = some (.int .i64 11) ∧ w'.cell? ⟨w.heap.size, 2, none⟩ = some (.int .i64 (-1074))) (go_keep) (first
    | (clear mk0; go_at_call 73; refine (MUL.out _ b0).mono ?_; rintro e w3 ⟨oa, la, ca, rfl, na, b3, r0, r1, r2, r3, r4, r5, r6, r7, r8, r9, r10, r11, r12⟩; have mkM : True := trivial)
    | (clear mkM; go_at_call 70; refine (OFF.out _ b3).mono ?_; rintro e w4 ⟨ob, lb, cb, rfl, nb, b4, y0, y1, y2, y3, y4, y5, y6, y7, y8, y9, y10, y11, y12⟩; have FIN : Hid ((Nt w4 (.slice oa la ca) (decV (bys t) * 10 ^ n) ∧ Far (w.heap.size + 3) (.slice oa la ca)) ∧ (Nt w4 (.slice ob lb cb) 1 ∧ Far (w.heap.size + 3) (.slice ob lb cb)) ∧ Below w2.heap.size w2 w4) := ⟨⟨na.out.1.below nb.out.2.2, na.out.2.1⟩, ⟨nb.out.1, nb.out.2.1⟩, b4.out⟩; have mk2 : True := trivial)
    | (clear mk0; go_at_call 70; refine (OFF.out _ b0).mono ?_; rintro e w3 ⟨ob, lb, cb, rfl, nb, b3, r0, r1, r2, r3, r4, r5, r6, r7, r8, r9, r10, r11, r12⟩; have mkO : True := trivial)
    | (clear mkO; go_at_call 73; refine (MUL.out _ b3).mono ?_; rintro e w4 ⟨oa, la, ca, rfl, na, b4, y0, y1, y2, y3, y4, y5, y6, y7, y8, y9, y10, y11, y12⟩; have FIN : Hid ((Nt w4 (.slice oa la ca) (decV (bys t) * 10 ^ n) ∧ Far (w.heap.size + 3) (.slice oa la ca)) ∧ (Nt w4 (.slice ob lb cb) 1 ∧ Far (w.heap.size + 3) (.slice ob lb cb)) ∧ Below w2.heap.size w2 w4) := ⟨⟨na.out.1, na.out.2.1⟩, ⟨nb.out.1.below na.out.2.2, nb.out.2.1⟩, b4.out⟩; have mk2 : True := trivial))
  all_goals (
    obtain ⟨hbel, hblk⟩ := BZF.out _ FIN.out.2.2
    have HBL := hide hbel
    have QZ := hide hblk
    clear hbel hblk BZF na nb b3 b4 MUL OFF
    repeat (first | go_values | go_skip | go_guarded | go_step | go_upon)
    refine bodyPost_ret (results_frac rfl _ _ _ _ _ _ _ _ rfl (QZ.out.put5 _ _ _ _ _)) rfl ?_
    exact ⟨oa, la, ca, ob, lb, cb, rfl, FIN.out.1.1.put5 FIN.out.1.2 hG3 _ _ _ _ _, FIN.out.2.1.1.put5 FIN.out.2.1.2 hG3 _ _ _ _ _, below_put5 HBL.out hG2 _ _ _ _ _⟩)

set_option maxHeartbeats 1000000 in
theorem frac32_neg (neg : Bool) (t : ByteArray) (n : Nat) (w : World) (h : DigD (bys t) (-(n : Int))) (hn : -(n : Int) < 0) :
    Calls Tryz.prog 55 #[w32, .agg #[.int .i64 0, .bool neg, .string t, .int .i64 (-(n : Int))]] w (FrPost w 23 8 (-149) (decV (bys t)) (10 ^ n)) := by
  obtain ⟨h0, h1, h2, h3, h4, h5, h6⟩ := h
  rw [bys_len] at h1 h2 h3
  have hok : OkT (bys t) := ⟨h0, fun e => absurd e h4, h6⟩
  have hnl : n ≤ 3000 := by omega
  have PA := hide (fun W => nt_parse t W (by omega) hok)
  have PW := hide (fun W => nt_pow10 (n : Int) n W rfl (by omega))
  clear h0 h1 h2 h3 h4 h5 h6 hok
  obtain ⟨ex, hex⟩ : ∃ e : Int, e = -(n : Int) := ⟨_, rfl⟩
  rw [← hex] at hn
  have hen : -ex = (n : Int) := by omega
  have HEX := hide hex
  rw [← hex]
  clear hex
  have blkd := ((Blk.newAt (w.alloc (.cells #[.int .i64 23, .int .i64 8, .int .i64 (-149)] 57)) (w.heap.size + 1) (by simp) #[.int .i64 0, .bool neg, .string t, .int .i64 ex] 23).alloc (.cells #[.int .i64 0, .int .i64 0, .int .i64 0, .slice none 0 0, .slice none 0 0] 76))
  have blkw := ((Blk.new w #[.int .i64 23, .int .i64 8, .int .i64 (-149)] 57).alloc (.cells #[.int .i64 0, .bool neg, .string t, .int .i64 ex] 23)).alloc (.cells #[.int .i64 0, .int .i64 0, .int .i64 0, .slice none 0 0, .slice none 0 0] 76)
  have blkz := Blk.newAt ((w.alloc (.cells #[.int .i64 23, .int .i64 8, .int .i64 (-149)] 57)).alloc (.cells #[.int .i64 0, .bool neg, .string t, .int .i64 ex] 23)) (w.heap.size + 1 + 1) (by simp) #[.int .i64 0, .int .i64 0, .int .i64 0, .slice none 0 0, .slice none 0 0] 76
  obtain ⟨W, hW⟩ : ∃ W, W = ((w.alloc (.cells #[.int .i64 23, .int .i64 8, .int .i64 (-149)] 57)).alloc (.cells #[.int .i64 0, .bool neg, .string t, .int .i64 ex] 23)).alloc (.cells #[.int .i64 0, .int .i64 0, .int .i64 0, .slice none 0 0, .slice none 0 0] 76) := ⟨_, rfl⟩
  rw [← hW] at blkd blkw blkz
  have HBW : Hid (Below w.heap.size w W) := by rw [hW]; exact (((Below.refl _ _).alloc (Nat.le_refl _) _).alloc (by simp) _).alloc (by simp; omega) _
  have BLD := hide blkd
  have BLW := hide blkw
  have BLZ := hide blkz
  have c2 : W.cell? ⟨w.heap.size + 1, 2, none⟩ = some (.string t) := blkd.cell 2
  have HW := hide hW
  clear blkd blkw blkz hW
  go_enter Tryz.func55, Tryz.ntmps55
  go_wp2_with fail
  simp only [← HW.out]
  refine (PA.out _).mono ?_
  rintro e w1 ⟨v1, rfl, n1, b1, f1⟩
  obtain ⟨o1, p1, x1, rfl, _⟩ := id n1
  have N1 := hide n1
  have F1 := hide (f1.mono (i := w.heap.size + 3) (by have := BLZ.out.lt; omega))
  have BD1 := hide (BLD.out.below b1 BLD.out.lt)
  have BW1 := hide (BLW.out.below b1 BLW.out.lt)
  have BZ1 := hide (BLZ.out.below b1 BLZ.out.lt)
  have HB1 := hide (HBW.out.trans (b1.mono HBW.out.size))
  have d3 : w1.cell? ⟨w.heap.size + 1, 3, none⟩ = some (.int .i64 ex) := BD1.out.cell 3
  clear n1 b1 f1 BLD BLW BLZ HBW PA c2
  go_wp2_with fail
  refine (PW.out _).mono ?_
  rintro e w2 ⟨v2, rfl, n2, b2, f2⟩
  obtain ⟨o2, p2, x2, rfl, _⟩ := id n2
  have q := BW1.out.below b2 BW1.out.lt
  have qz := BZ1.out.below b2 BZ1.out.lt
  have a0 : w2.cell? ⟨w.heap.size, 0, none⟩ = some (.int .i64 23) := q.cell 0
  have a1 : w2.cell? ⟨w.heap.size, 1, none⟩ = some (.int .i64 8) := q.cell 1
  have a2 : w2.cell? ⟨w.heap.size, 2, none⟩ = some (.int .i64 (-149)) := q.cell 2
  have k0 : w2.cell? ⟨w.heap.size + 1 + 1, 0, none⟩ = some (.int .i64 0) := qz.cell 0
  have k1 : w2.cell? ⟨w.heap.size + 1 + 1, 1, none⟩ = some (.int .i64 0) := qz.cell 1
  have k2 : w2.cell? ⟨w.heap.size + 1 + 1, 2, none⟩ = some (.int .i64 0) := qz.cell 2
  have k3 : w2.cell? ⟨w.heap.size + 1 + 1, 3, none⟩ = some (.slice none 0 0) := qz.cell 3
  have k4 : w2.cell? ⟨w.heap.size + 1 + 1, 4, none⟩ = some (.slice none 0 0) := qz.cell 4
  have g0 := qz.free 0
  have g1 := qz.free 1
  have g2 := qz.free 2
  have g3 := qz.free 3
  have g4 := qz.free 4
  have QZ := hide qz
  have HB2 := hide (HB1.out.trans (b2.mono HB1.out.size))
  have N12 := hide (N1.out.below b2)
  have N2 := hide n2
  have F2 := hide (f2.mono (i := w.heap.size + 3) (by have := BZ1.out.lt; omega))
  clear n2 b2 f2 q qz BD1 BW1 BZ1 HB1 N1 PW d3
  simp only []
  repeat (first | go_values | go_skip | go_guarded | go_step | go_upon)
  refine bodyPost_ret (results_frac rfl _ _ _ _ _ _ _ _ rfl (QZ.out.put5 _ _ _ _ _)) rfl ?_
  exact ⟨o1, x1.length, p1, o2, x2.length, p2, rfl, N12.out.put5 F1.out (by omega) _ _ _ _ _, N2.out.put5 F2.out (by omega) _ _ _ _ _, below_put5 HB2.out (by omega) _ _ _ _ _⟩

set_option maxRecDepth 100000 in
set_option maxHeartbeats 2000000 in
theorem frac32_pos (neg : Bool) (t : ByteArray) (n : Nat) (w : World) (h : DigD (bys t) (n : Int)) (hn : ¬ (n : Int) < 0) :
    Calls Tryz.prog 55 #[w32, .agg #[.int .i64 0, .bool neg, .string t, .int .i64 (n : Int)]] w (FrPost w 23 8 (-149) (decV (bys t) * 10 ^ n) 1) := by
  have NS := Nums.of h
  have s1 : Sm (decV (bys t)) := by
    obtain ⟨h0, h1, h2, h3, h4, h5, h6⟩ := h
    exact Sm.of (decV_lt _ _ rfl h6) (by omega)
  obtain ⟨h0, h1, h2, h3, h4, h5, h6⟩ := h
  rw [bys_len] at h1 h2 h3
  have hok : OkT (bys t) := ⟨h0, fun e => absurd e h4, h6⟩
  have hnl : n ≤ 3000 := by omega
  have SS : Hid (Sm (decV (bys t)) ∧ Sm (10 ^ n)) := ⟨s1, (fit_pow n hnl).sm0⟩
  have PA := hide (fun W => nt_parse t W (by omega) hok)
  have PW := hide (fun W => nt_pow10 (n : Int) n W rfl (by omega))
  clear h0 h1 h2 h3 h4 h5 h6 hok NS s1
  obtain ⟨ex, hex⟩ : ∃ e : Int, e = (n : Int) := ⟨_, rfl⟩
  rw [← hex] at hn PW
  have HEX := hide hex
  rw [← hex]
  clear hex
  have blkd := ((Blk.newAt (w.alloc (.cells #[.int .i64 23, .int .i64 8, .int .i64 (-149)] 57)) (w.heap.size + 1) (by simp) #[.int .i64 0, .bool neg, .string t, .int .i64 ex] 23).alloc (.cells #[.int .i64 0, .int .i64 0, .int .i64 0, .slice none 0 0, .slice none 0 0] 76))
  have blkw := ((Blk.new w #[.int .i64 23, .int .i64 8, .int .i64 (-149)] 57).alloc (.cells #[.int .i64 0, .bool neg, .string t, .int .i64 ex] 23)).alloc (.cells #[.int .i64 0, .int .i64 0, .int .i64 0, .slice none 0 0, .slice none 0 0] 76)
  have blkz := Blk.newAt ((w.alloc (.cells #[.int .i64 23, .int .i64 8, .int .i64 (-149)] 57)).alloc (.cells #[.int .i64 0, .bool neg, .string t, .int .i64 ex] 23)) (w.heap.size + 1 + 1) (by simp) #[.int .i64 0, .int .i64 0, .int .i64 0, .slice none 0 0, .slice none 0 0] 76
  obtain ⟨W, hW⟩ : ∃ W, W = ((w.alloc (.cells #[.int .i64 23, .int .i64 8, .int .i64 (-149)] 57)).alloc (.cells #[.int .i64 0, .bool neg, .string t, .int .i64 ex] 23)).alloc (.cells #[.int .i64 0, .int .i64 0, .int .i64 0, .slice none 0 0, .slice none 0 0] 76) := ⟨_, rfl⟩
  rw [← hW] at blkd blkw blkz
  have HBW : Hid (Below w.heap.size w W) := by rw [hW]; exact (((Below.refl _ _).alloc (Nat.le_refl _) _).alloc (by simp) _).alloc (by simp; omega) _
  have BLD := hide blkd
  have BLW := hide blkw
  have BLZ := hide blkz
  have c2 : W.cell? ⟨w.heap.size + 1, 2, none⟩ = some (.string t) := blkd.cell 2
  have HW := hide hW
  clear blkd blkw blkz hW
  go_enter Tryz.func55, Tryz.ntmps55
  go_wp2_with fail
  simp only [← HW.out]
  refine (PA.out _).mono ?_
  rintro e w1 ⟨v1, rfl, n1, b1, f1⟩
  obtain ⟨o1, p1, x1, rfl, _⟩ := id n1
  have N1 := hide n1
  have BD1 := hide (BLD.out.below b1 BLD.out.lt)
  have BW1 := hide (BLW.out.below b1 BLW.out.lt)
  have BZ1 := hide (BLZ.out.below b1 BLZ.out.lt)
  have HB1 := hide (HBW.out.trans (b1.mono HBW.out.size))
  have d3 : w1.cell? ⟨w.heap.size + 1, 3, none⟩ = some (.int .i64 ex) := BD1.out.cell 3
  clear n1 b1 f1 BLD BLW BLZ HBW PA c2
  go_wp2_with fail
  refine (PW.out _).mono ?_
  rintro e w2 ⟨v2, rfl, n2, b2, f2⟩
  obtain ⟨o2, p2, x2, rfl, _⟩ := id n2
  have BW2 := hide (BW1.out.below b2 BW1.out.lt)
  have BZ2 := hide (BZ1.out.below b2 BZ1.out.lt)
  have HB2 := hide (HB1.out.trans (b2.mono HB1.out.size))
  have N12 := hide (N1.out.below b2)
  have N2 := hide n2
  have hlt := BZ2.out.lt
  obtain ⟨G, hG⟩ : ∃ G, G = w.heap.size + 1 + 1 := ⟨_, rfl⟩
  rw [← hG] at BZ2 hlt
  have ne1 : ¬ G = w.heap.size := by omega
  have ne2 : ¬ w.heap.size = G := by omega
  have hG3 : G < w.heap.size + 3 := by omega
  have hG2 : w.heap.size ≤ G := by omega
  have HG := hide hG
  clear hG
  have HC : Hid (∀ w', Below w2.heap.size w2 w' → w'.cell? ⟨w.heap.size, 0, none⟩ = some (.int .i64 23) ∧ w'.cell? ⟨w.heap.size, 1, none⟩ = some (.int .i64 8) ∧ w'.cell? ⟨w.heap.size, 2, none⟩ = some (.int .i64 (-149)) ∧ w'.cell? ⟨G, 0, none⟩ = some (.int .i64 0) ∧ w'.cell? ⟨G, 1, none⟩ = some (.int .i64 0) ∧ w'.cell? ⟨G, 2, none⟩ = some (.int .i64 0) ∧ w'.cell? ⟨G, 3, none⟩ = some (.slice none 0 0) ∧ w'.cell? ⟨G, 4, none⟩ = some (.slice none 0 0) ∧ w'.frozen? ⟨G, 0, none⟩ = false ∧ w'.frozen? ⟨G, 1, none⟩ = false ∧ w'.frozen? ⟨G, 2, none⟩ = false ∧ w'.frozen? ⟨G, 3, none⟩ = false ∧ w'.frozen? ⟨G, 4, none⟩ = false) := fun w' hb => by
    have q := BW2.out.below hb BW2.out.lt
    have qz := BZ2.out.below hb BZ2.out.lt
    exact ⟨q.cell 0, q.cell 1, q.cell 2, qz.cell 0, qz.cell 1, qz.cell 2, qz.cell 3, qz.cell 4, qz.free 0, qz.free 1, qz.free 2, qz.free 3, qz.free 4⟩
  obtain ⟨c0, c1, c2, c3, c4, c5, c6, c7, c8, c9, c10, c11, c12⟩ := HC.out w2 (Below.refl _ _)
  have b0 : Hid (Below w2.heap.size w2 w2.drew) := bdrew' w2
  have MUL : Hid (∀ w', Hid (Below w2.heap.size w2 w') → Calls Tryz.prog 73 #[.slice o1 x1.length p1, .slice o2 x2.length p2] w' fun e w'' => ∃ oa la ca, e = .returned (.slice oa la ca) ∧ Hid (Nt w'' (.slice oa la ca) (decV (bys t) * 10 ^ n) ∧ Far (w.heap.size + 3) (.slice oa la ca) ∧ Below w'.heap.size w' w'') ∧ Hid (Below w2.heap.size w2 w'') ∧ w''.cell? ⟨w.heap.size, 0, none⟩ = some (.int .i64 23) ∧ w''.cell? ⟨w.heap.size, 1, none⟩ = some (.int .i64 8) ∧ w''.cell? ⟨w.heap.size, 2, none⟩ = some (.int .i64 (-149)) ∧ w''.cell? ⟨G, 0, none⟩ = some (.int .i64 0) ∧ w''.cell? ⟨G, 1, none⟩ = some (.int .i64 0) ∧ w''.cell? ⟨G, 2, none⟩ = some (.int .i64 0) ∧ w''.cell? ⟨G, 3, none⟩ = some (.slice none 0 0) ∧ w''.cell? ⟨G, 4, none⟩ = some (.slice none 0 0) ∧ w''.frozen? ⟨G, 0, none⟩ = false ∧ w''.frozen? ⟨G, 1, none⟩ = false ∧ w''.frozen? ⟨G, 2, none⟩ = false ∧ w''.frozen? ⟨G, 3, none⟩ = false ∧ w''.frozen? ⟨G, 4, none⟩ = false) := by
    intro w' hw'
    refine (nt_mul _ _ _ _ w' (N12.out.below hw'.out) (N2.out.below hw'.out) SS.out.1 SS.out.2).mono ?_
    rintro e w'' ⟨v, rfl, nv, hb, fv⟩
    obtain ⟨oa, ca, xa, rfl, _⟩ := id nv
    have hbb := hw'.out.trans (hb.mono hw'.out.size)
    exact ⟨_, _, _, rfl, ⟨nv, fv.mono (by have := hw'.out.size; have := HG.out; omega), hb⟩, hbb, HC.out _ hbb⟩
  have OFF : Hid (∀ w', Hid (Below w2.heap.size w2 w') → Calls Tryz.prog 70 #[.int .u64 1] w' fun e w'' => ∃ oa la ca, e = .returned (.slice oa la ca) ∧ Hid (Nt w'' (.slice oa la ca) 1 ∧ Far (w.heap.size + 3) (.slice oa la ca) ∧ Below w'.heap.size w' w'') ∧ Hid (Below w2.heap.size w2 w'') ∧ w''.cell? ⟨w.heap.size, 0, none⟩ = some (.int .i64 23) ∧ w''.cell? ⟨w.heap.size, 1, none⟩ = some (.int .i64 8) ∧ w''.cell? ⟨w.heap.size, 2, none⟩ = some (.int .i64 (-149)) ∧ w''.cell? ⟨G, 0, none⟩ = some (.int .i64 0) ∧ w''.cell? ⟨G, 1, none⟩ = some (.int .i64 0) ∧ w''.cell? ⟨G, 2, none⟩ = some (.int .i64 0) ∧ w''.cell? ⟨G, 3, none⟩ = some (.slice none 0 0) ∧ w''.cell? ⟨G, 4, none⟩ = some (.slice none 0 0) ∧ w''.frozen? ⟨G, 0, none⟩ = false ∧ w''.frozen? ⟨G, 1, none⟩ = false ∧ w''.frozen? ⟨G, 2, none⟩ = false ∧ w''.frozen? ⟨G, 3, none⟩ = false ∧ w''.frozen? ⟨G, 4, none⟩ = false) := by
    intro w' hw'
    refine (nt_of 1 w' (by decide)).mono ?_
    rintro e w'' ⟨v, rfl, nv, hb, fv⟩
    obtain ⟨oa, ca, xa, rfl, _⟩ := id nv
    have hbb := hw'.out.trans (hb.mono hw'.out.size)
    exact ⟨_, _, _, rfl, ⟨nv, fv.mono (by have := hw'.out.size; have := HG.out; omega), hb⟩, hbb, HC.out _ hbb⟩
  have BZF : Hid (∀ w', Below w2.heap.size w2 w' → Below w.heap.size w w' ∧ Blk w' G #[.int .i64 0, .int .i64 0, .int .i64 0, .slice none 0 0, .slice none 0 0] 76) := fun w' hb => ⟨HB2.out.trans (hb.mono HB2.out.size), BZ2.out.below hb BZ2.out.lt⟩
  clear n2 b2 f2 BD1 BW1 BZ1 HB1 N1 PW d3 N12 N2 HC BW2 BZ2 HB2 SS hlt
  go_wp2_with fail
  simp only [← HG.out]
  have mk0 : True := trivial
  go_region_held3 (fun w' => w'.cell? ⟨w.heap.size, 0, none⟩ = some (.int .i64 23) ∧ w'.cell? ⟨w.heap.size, 1, none⟩ = some (.int .i64 8) ∧ w'.cell? ⟨w.heap.size, 2, none⟩ = some (.int .i64 (-149))) (go_keep) (first
    | (clear mk0; go_at_call 73; refine (MUL.out _ b0).mono ?_; rintro e w3 ⟨oa, la, ca, rfl, na, b3, r0, r1, r2, r3, r4, r5, r6, r7, r8, r9, r10, r11, r12⟩; have mkM : True := trivial)
    | (clear mkM; go_at_call 70; refine (OFF.out _ b3).mono ?_; rintro e w4 ⟨ob, lb, cb, rfl, nb, b4, y0, y1, y2, y3, y4, y5, y6, y7, y8, y9, y10, y11, y12⟩; have FIN : Hid ((Nt w4 (.slice oa la ca) (decV (bys t) * 10 ^ n) ∧ Far (w.heap.size + 3) (.slice oa la ca)) ∧ (Nt w4 (.slice ob lb cb) 1 ∧ Far (w.heap.size + 3) (.slice ob lb cb)) ∧ Below w2.heap.size w2 w4) := ⟨⟨na.out.1.below nb.out.2.2, na.out.2.1⟩, ⟨nb.out.1, nb.out.2.1⟩, b4.out⟩; have mk2 : True := trivial)
    | (clear mk0; go_at_call 70; refine (OFF.out _ b0).mono ?_; rintro e w3 ⟨ob, lb, cb, rfl, nb, b3, r0, r1, r2, r3, r4, r5, r6, r7, r8, r9, r10, r11, r12⟩; have mkO : True := trivial)
    | (clear mkO; go_at_call 73; refine (MUL.out _ b3).mono ?_; rintro e w4 ⟨oa, la, ca, rfl, na, b4, y0, y1, y2, y3, y4, y5, y6, y7, y8, y9, y10, y11, y12⟩; have FIN : Hid ((Nt w4 (.slice oa la ca) (decV (bys t) * 10 ^ n) ∧ Far (w.heap.size + 3) (.slice oa la ca)) ∧ (Nt w4 (.slice ob lb cb) 1 ∧ Far (w.heap.size + 3) (.slice ob lb cb)) ∧ Below w2.heap.size w2 w4) := ⟨⟨na.out.1, na.out.2.1⟩, ⟨nb.out.1.below na.out.2.2, nb.out.2.1⟩, b4.out⟩; have mk2 : True := trivial))
  all_goals (
    obtain ⟨hbel, hblk⟩ := BZF.out _ FIN.out.2.2
    have HBL := hide hbel
    have QZ := hide hblk
    clear hbel hblk BZF na nb b3 b4 MUL OFF
    repeat (first | go_values | go_skip | go_guarded | go_step | go_upon)
    refine bodyPost_ret (results_frac rfl _ _ _ _ _ _ _ _ rfl (QZ.out.put5 _ _ _ _ _)) rfl ?_
    exact ⟨oa, la, ca, ob, lb, cb, rfl, FIN.out.1.1.put5 FIN.out.1.2 hG3 _ _ _ _ _, FIN.out.2.1.1.put5 FIN.out.2.1.2 hG3 _ _ _ _ _, below_put5 HBL.out hG2 _ _ _ _ _⟩)

end Go.Proofs.YtlhekeifffofjaaGreatDoor

namespace Go.Proofs.YtlhekeifffofjaaGreatDoor
open Go.RowKit

theorem or_top {a k : Nat} (n : Nat) (hn : n = 2 ^ k) (h : a < n) (hn2 : n < 18446744073709551616) : bits .or .u64 (a : Int) (n : Int) = ((a + n : Nat) : Int) := by
  have h1 := Nat.two_pow_add_eq_or_of_lt (b := a) (i := k) (by rw [← hn]; exact h) 1
  rw [Nat.mul_one, ← hn] at h1
  have h2 := bits_or_u64_nat a n (by omega) hn2
  rw [h2, Nat.or_comm, ← h1, Nat.add_comm]

theorem bitsOf_le (F B I o u : Nat) : bitsOf F B I o u ≤ I := Nat.min_le_right _ _

theorem frac64_any (neg : Bool) (t : ByteArray) (ex : Int) (w : World) (h : DigD (bys t) ex) :
    Calls Tryz.prog 55 #[w64, dcV 0 neg t ex] w (FrPost w 52 11 (-1074) (decV (bys t) * 10 ^ ex.toNat) (10 ^ (-ex).toNat)) := by
  by_cases hn : ex < 0
  · obtain ⟨n, rfl⟩ : ∃ n : Nat, ex = -(n : Int) := ⟨(-ex).toNat, by omega⟩
    rw [show (-(n : Int)).toNat = 0 by omega, show (- -(n : Int)).toNat = n by omega, Nat.pow_zero, Nat.mul_one]
    exact frac64_neg neg t n w h hn
  · obtain ⟨n, rfl⟩ : ∃ n : Nat, ex = (n : Int) := ⟨ex.toNat, by omega⟩
    rw [show (-(n : Int)).toNat = 0 by omega, show ((n : Int)).toNat = n by omega, Nat.pow_zero]
    exact frac64_pos neg t n w h hn

set_option maxHeartbeats 1000000 in
theorem float64_no (c : Int) (neg : Bool) (t : ByteArray) (ex : Int) (w : World) (h : ¬ MayD c neg (bys t) ex) : Calls Tryz.prog 36 #[w64, dcV c neg t ex] w fun e w' => e = .returned (.tuple #[.int .u64 0, .int .i64 40]) ∧ Below w.heap.size w w' := by
  have MY := hide (fun W => may_no c neg t ex W h)
  clear h
  have BLW := hide ((Blk.new w #[.int .i64 52, .int .i64 11, .int .i64 (-1074)] 57).alloc (.cells #[.int .i64 c, .bool neg, .string t, .int .i64 ex] 23))
  have BLD := hide (Blk.newAt (w.alloc (.cells #[.int .i64 52, .int .i64 11, .int .i64 (-1074)] 57)) (w.heap.size + 1) (by simp) #[.int .i64 c, .bool neg, .string t, .int .i64 ex] 23)
  have HB0 : Hid (Below w.heap.size w ((w.alloc (.cells #[.int .i64 52, .int .i64 11, .int .i64 (-1074)] 57)).alloc (.cells #[.int .i64 c, .bool neg, .string t, .int .i64 ex] 23))) := ((Below.refl _ _).alloc (Nat.le_refl _) _).alloc (by simp) _
  go_enter Tryz.func36, Tryz.ntmps36
  go_wp2_with fail
  refine (MY.out _).mono ?_
  rintro e w1 ⟨rfl, hb⟩
  have BW1 := hide (BLW.out.below hb BLW.out.lt)
  have BD1 := hide (BLD.out.below hb BLD.out.lt)
  have HB1 := hide (HB0.out.trans (hb.mono HB0.out.size))
  clear hb BLW BLD HB0
  have x0 : w1.cell? ⟨w.heap.size, 0, none⟩ = some (.int .i64 52) := BW1.out.cell 0
  have x1 : w1.cell? ⟨w.heap.size, 1, none⟩ = some (.int .i64 11) := BW1.out.cell 1
  have x2 : w1.cell? ⟨w.heap.size, 2, none⟩ = some (.int .i64 (-1074)) := BW1.out.cell 2
  have y0 : w1.cell? ⟨w.heap.size + 1, 0, none⟩ = some (.int .i64 c) := BD1.out.cell 0
  have y1 : w1.cell? ⟨w.heap.size + 1, 1, none⟩ = some (.bool neg) := BD1.out.cell 1
  have y2 : w1.cell? ⟨w.heap.size + 1, 2, none⟩ = some (.string t) := BD1.out.cell 2
  have y3 : w1.cell? ⟨w.heap.size + 1, 3, none⟩ = some (.int .i64 ex) := BD1.out.cell 3
  go_wp2
  go_ret2
  exact ⟨rfl, HB1.out⟩

set_option maxHeartbeats 1000000 in
theorem float64_nan (w : World) : Calls Tryz.prog 36 #[w64, dcV 2 false ⟨#[]⟩ 0] w fun e w' => e = .returned (.tuple #[.int .u64 9221120237041090561, .int .i64 0]) ∧ Below w.heap.size w w' := by
  have MY := hide (fun W => may2_yes W)
  have NN := hide (fun W => nnan64 W)
  have BLW := hide ((Blk.new w #[.int .i64 52, .int .i64 11, .int .i64 (-1074)] 57).alloc (.cells #[.int .i64 2, .bool false, .string ⟨#[]⟩, .int .i64 0] 23))
  have BLD := hide (Blk.newAt (w.alloc (.cells #[.int .i64 52, .int .i64 11, .int .i64 (-1074)] 57)) (w.heap.size + 1) (by simp) #[.int .i64 2, .bool false, .string ⟨#[]⟩, .int .i64 0] 23)
  have HB0 : Hid (Below w.heap.size w ((w.alloc (.cells #[.int .i64 52, .int .i64 11, .int .i64 (-1074)] 57)).alloc (.cells #[.int .i64 2, .bool false, .string ⟨#[]⟩, .int .i64 0] 23))) := ((Below.refl _ _).alloc (Nat.le_refl _) _).alloc (by simp) _
  go_enter Tryz.func36, Tryz.ntmps36
  go_wp2_with fail
  refine (MY.out _).mono ?_
  rintro e w1 ⟨rfl, hb⟩
  have BW1 := hide (BLW.out.below hb BLW.out.lt)
  have BD1 := hide (BLD.out.below hb BLD.out.lt)
  have HB1 := hide (HB0.out.trans (hb.mono HB0.out.size))
  clear hb BLW BLD HB0
  have x0 : w1.cell? ⟨w.heap.size, 0, none⟩ = some (.int .i64 52) := BW1.out.cell 0
  have x1 : w1.cell? ⟨w.heap.size, 1, none⟩ = some (.int .i64 11) := BW1.out.cell 1
  have x2 : w1.cell? ⟨w.heap.size, 2, none⟩ = some (.int .i64 (-1074)) := BW1.out.cell 2
  have y0 : w1.cell? ⟨w.heap.size + 1, 0, none⟩ = some (.int .i64 2) := BD1.out.cell 0
  have y1 : w1.cell? ⟨w.heap.size + 1, 1, none⟩ = some (.bool false) := BD1.out.cell 1
  have y2 : w1.cell? ⟨w.heap.size + 1, 2, none⟩ = some (.string ⟨#[]⟩) := BD1.out.cell 2
  have y3 : w1.cell? ⟨w.heap.size + 1, 3, none⟩ = some (.int .i64 0) := BD1.out.cell 3
  go_wp2_with fail
  refine (NN.out _).mono ?_
  rintro e w2 ⟨rfl, hb⟩
  have BW2 := hide (BW1.out.below hb BW1.out.lt)
  have BD2 := hide (BD1.out.below hb BD1.out.lt)
  have HB2 := hide (HB1.out.trans (hb.mono HB1.out.size))
  clear hb BW1 BD1 HB1 x0 x1 x2 y0 y1 y2 y3
  have x0 : w2.cell? ⟨w.heap.size, 0, none⟩ = some (.int .i64 52) := BW2.out.cell 0
  have x1 : w2.cell? ⟨w.heap.size, 1, none⟩ = some (.int .i64 11) := BW2.out.cell 1
  have x2 : w2.cell? ⟨w.heap.size, 2, none⟩ = some (.int .i64 (-1074)) := BW2.out.cell 2
  have y0 : w2.cell? ⟨w.heap.size + 1, 0, none⟩ = some (.int .i64 2) := BD2.out.cell 0
  have y1 : w2.cell? ⟨w.heap.size + 1, 1, none⟩ = some (.bool false) := BD2.out.cell 1
  have y2 : w2.cell? ⟨w.heap.size + 1, 2, none⟩ = some (.string ⟨#[]⟩) := BD2.out.cell 2
  have y3 : w2.cell? ⟨w.heap.size + 1, 3, none⟩ = some (.int .i64 0) := BD2.out.cell 3
  go_wp2
  go_ret2
  exact ⟨rfl, HB2.out⟩

set_option maxHeartbeats 1000000 in
theorem float64_inf_false (w : World) : Calls Tryz.prog 36 #[w64, dcV 1 false ⟨#[]⟩ 0] w fun e w' => e = .returned (.tuple #[.int .u64 9218868437227405312, .int .i64 0]) ∧ Below w.heap.size w w' := by
  have MY := hide (fun W => may1_yes false W)
  have IN := hide (fun W => ninf64 W)
  have BLW := hide ((Blk.new w #[.int .i64 52, .int .i64 11, .int .i64 (-1074)] 57).alloc (.cells #[.int .i64 1, .bool false, .string ⟨#[]⟩, .int .i64 0] 23))
  have BLD := hide (Blk.newAt (w.alloc (.cells #[.int .i64 52, .int .i64 11, .int .i64 (-1074)] 57)) (w.heap.size + 1) (by simp) #[.int .i64 1, .bool false, .string ⟨#[]⟩, .int .i64 0] 23)
  have HB0 : Hid (Below w.heap.size w ((w.alloc (.cells #[.int .i64 52, .int .i64 11, .int .i64 (-1074)] 57)).alloc (.cells #[.int .i64 1, .bool false, .string ⟨#[]⟩, .int .i64 0] 23))) := ((Below.refl _ _).alloc (Nat.le_refl _) _).alloc (by simp) _
  go_enter Tryz.func36, Tryz.ntmps36
  go_wp2_with fail
  refine (MY.out _).mono ?_
  rintro e w1 ⟨rfl, hb⟩
  have BW1 := hide (BLW.out.below hb BLW.out.lt)
  have BD1 := hide (BLD.out.below hb BLD.out.lt)
  have HB1 := hide (HB0.out.trans (hb.mono HB0.out.size))
  clear hb BLW BLD HB0
  have x0 : w1.cell? ⟨w.heap.size, 0, none⟩ = some (.int .i64 52) := BW1.out.cell 0
  have x1 : w1.cell? ⟨w.heap.size, 1, none⟩ = some (.int .i64 11) := BW1.out.cell 1
  have x2 : w1.cell? ⟨w.heap.size, 2, none⟩ = some (.int .i64 (-1074)) := BW1.out.cell 2
  have y0 : w1.cell? ⟨w.heap.size + 1, 0, none⟩ = some (.int .i64 1) := BD1.out.cell 0
  have y1 : w1.cell? ⟨w.heap.size + 1, 1, none⟩ = some (.bool false) := BD1.out.cell 1
  have y2 : w1.cell? ⟨w.heap.size + 1, 2, none⟩ = some (.string ⟨#[]⟩) := BD1.out.cell 2
  have y3 : w1.cell? ⟨w.heap.size + 1, 3, none⟩ = some (.int .i64 0) := BD1.out.cell 3
  go_wp2_with fail
  refine (IN.out _).mono ?_
  rintro e w2 ⟨rfl, hb⟩
  have BW2 := hide (BW1.out.below hb BW1.out.lt)
  have BD2 := hide (BD1.out.below hb BD1.out.lt)
  have HB2 := hide (HB1.out.trans (hb.mono HB1.out.size))
  clear hb BW1 BD1 HB1 x0 x1 x2 y0 y1 y2 y3
  have x0 : w2.cell? ⟨w.heap.size, 0, none⟩ = some (.int .i64 52) := BW2.out.cell 0
  have x1 : w2.cell? ⟨w.heap.size, 1, none⟩ = some (.int .i64 11) := BW2.out.cell 1
  have x2 : w2.cell? ⟨w.heap.size, 2, none⟩ = some (.int .i64 (-1074)) := BW2.out.cell 2
  have y0 : w2.cell? ⟨w.heap.size + 1, 0, none⟩ = some (.int .i64 1) := BD2.out.cell 0
  have y1 : w2.cell? ⟨w.heap.size + 1, 1, none⟩ = some (.bool false) := BD2.out.cell 1
  have y2 : w2.cell? ⟨w.heap.size + 1, 2, none⟩ = some (.string ⟨#[]⟩) := BD2.out.cell 2
  have y3 : w2.cell? ⟨w.heap.size + 1, 3, none⟩ = some (.int .i64 0) := BD2.out.cell 3
  go_wp2
  go_ret2
  exact ⟨rfl, HB2.out⟩

set_option maxHeartbeats 1000000 in
theorem float64_zero_false (w : World) : Calls Tryz.prog 36 #[w64, dcV 0 false ⟨#[]⟩ 0] w fun e w' => e = .returned (.tuple #[.int .u64 0, .int .i64 0]) ∧ Below w.heap.size w w' := by
  have MY := hide (fun W => may0_bare false W)
  have BLW := hide ((Blk.new w #[.int .i64 52, .int .i64 11, .int .i64 (-1074)] 57).alloc (.cells #[.int .i64 0, .bool false, .string ⟨#[]⟩, .int .i64 0] 23))
  have BLD := hide (Blk.newAt (w.alloc (.cells #[.int .i64 52, .int .i64 11, .int .i64 (-1074)] 57)) (w.heap.size + 1) (by simp) #[.int .i64 0, .bool false, .string ⟨#[]⟩, .int .i64 0] 23)
  have HB0 : Hid (Below w.heap.size w ((w.alloc (.cells #[.int .i64 52, .int .i64 11, .int .i64 (-1074)] 57)).alloc (.cells #[.int .i64 0, .bool false, .string ⟨#[]⟩, .int .i64 0] 23))) := ((Below.refl _ _).alloc (Nat.le_refl _) _).alloc (by simp) _
  go_enter Tryz.func36, Tryz.ntmps36
  go_wp2_with fail
  refine (MY.out _).mono ?_
  rintro e w1 ⟨rfl, hb⟩
  have BW1 := hide (BLW.out.below hb BLW.out.lt)
  have BD1 := hide (BLD.out.below hb BLD.out.lt)
  have HB1 := hide (HB0.out.trans (hb.mono HB0.out.size))
  clear hb BLW BLD HB0
  have x0 : w1.cell? ⟨w.heap.size, 0, none⟩ = some (.int .i64 52) := BW1.out.cell 0
  have x1 : w1.cell? ⟨w.heap.size, 1, none⟩ = some (.int .i64 11) := BW1.out.cell 1
  have x2 : w1.cell? ⟨w.heap.size, 2, none⟩ = some (.int .i64 (-1074)) := BW1.out.cell 2
  have y0 : w1.cell? ⟨w.heap.size + 1, 0, none⟩ = some (.int .i64 0) := BD1.out.cell 0
  have y1 : w1.cell? ⟨w.heap.size + 1, 1, none⟩ = some (.bool false) := BD1.out.cell 1
  have y2 : w1.cell? ⟨w.heap.size + 1, 2, none⟩ = some (.string ⟨#[]⟩) := BD1.out.cell 2
  have y3 : w1.cell? ⟨w.heap.size + 1, 3, none⟩ = some (.int .i64 0) := BD1.out.cell 3
  go_wp2
  go_ret2
  exact ⟨rfl, HB1.out⟩

set_option maxHeartbeats 1000000 in
theorem float64_fin_false (t : ByteArray) (ex : Int) (w : World) (h : DigD (bys t) ex) : Calls Tryz.prog 36 #[w64, dcV 0 false t ex] w fun e w' => e = .returned (.tuple #[.int .u64 ((bitsOf 52 1074 (infN 52 11) (decV (bys t) * 10 ^ ex.toNat) (10 ^ (-ex).toNat)) : Int), .int .i64 0]) ∧ Below w.heap.size w w' := by
  have NS := Nums.of h
  have hne : t.size ≠ 0 := fun e => h.1 (bys_nil.2 e)
  have MY := hide (fun W => may0_yes false t ex W (fun e => hne e.1) h)
  have FR := hide (fun W => frac64_any false t ex W h)
  obtain ⟨o, ho⟩ : ∃ o, o = decV (bys t) * 10 ^ ex.toNat := ⟨_, rfl⟩
  obtain ⟨u, hu⟩ : ∃ u, u = 10 ^ (-ex).toNat := ⟨_, rfl⟩
  rw [← ho, ← hu] at NS FR ⊢
  have NR := hide (fun oo lo co ou lu cu W a1 a2 => near64_any oo ou lo co lu cu o u W a1 a2 NS.fo NS.fu NS.o0 NS.u0)
  obtain ⟨r, hr⟩ : ∃ r, r = bitsOf 52 1074 (infN 52 11) o u := ⟨_, rfl⟩
  have hrl : r ≤ 9218868437227405312 := by rw [hr, ← inf64]; exact bitsOf_le _ _ _ _ _
  rw [← hr] at NR ⊢
  have ht := toList_ne hne
  clear h NS hne ho hu hr
  have BLW := hide ((Blk.new w #[.int .i64 52, .int .i64 11, .int .i64 (-1074)] 57).alloc (.cells #[.int .i64 0, .bool false, .string t, .int .i64 ex] 23))
  have BLD := hide (Blk.newAt (w.alloc (.cells #[.int .i64 52, .int .i64 11, .int .i64 (-1074)] 57)) (w.heap.size + 1) (by simp) #[.int .i64 0, .bool false, .string t, .int .i64 ex] 23)
  have HB0 : Hid (Below w.heap.size w ((w.alloc (.cells #[.int .i64 52, .int .i64 11, .int .i64 (-1074)] 57)).alloc (.cells #[.int .i64 0, .bool false, .string t, .int .i64 ex] 23))) := ((Below.refl _ _).alloc (Nat.le_refl _) _).alloc (by simp) _
  go_enter Tryz.func36, Tryz.ntmps36
  go_wp2_with fail
  refine (MY.out _).mono ?_
  rintro e w1 ⟨rfl, hb⟩
  have BW1 := hide (BLW.out.below hb BLW.out.lt)
  have BD1 := hide (BLD.out.below hb BLD.out.lt)
  have HB1 := hide (HB0.out.trans (hb.mono HB0.out.size))
  clear hb BLW BLD HB0
  have x0 : w1.cell? ⟨w.heap.size, 0, none⟩ = some (.int .i64 52) := BW1.out.cell 0
  have x1 : w1.cell? ⟨w.heap.size, 1, none⟩ = some (.int .i64 11) := BW1.out.cell 1
  have x2 : w1.cell? ⟨w.heap.size, 2, none⟩ = some (.int .i64 (-1074)) := BW1.out.cell 2
  have y0 : w1.cell? ⟨w.heap.size + 1, 0, none⟩ = some (.int .i64 0) := BD1.out.cell 0
  have y1 : w1.cell? ⟨w.heap.size + 1, 1, none⟩ = some (.bool false) := BD1.out.cell 1
  have y2 : w1.cell? ⟨w.heap.size + 1, 2, none⟩ = some (.string t) := BD1.out.cell 2
  have y3 : w1.cell? ⟨w.heap.size + 1, 3, none⟩ = some (.int .i64 ex) := BD1.out.cell 3
  go_wp2_with fail
  refine (FR.out _).mono ?_
  rintro e w2 ⟨oo, lo, co, ou, lu, cu, rfl, no, nu, hb⟩
  have BW2 := hide (BW1.out.below hb BW1.out.lt)
  have BD2 := hide (BD1.out.below hb BD1.out.lt)
  have HB2 := hide (HB1.out.trans (hb.mono HB1.out.size))
  have NO := hide no
  have NU := hide nu
  clear no nu
  clear hb BW1 BD1 HB1 x0 x1 x2 y0 y1 y2 y3
  have x0 : w2.cell? ⟨w.heap.size, 0, none⟩ = some (.int .i64 52) := BW2.out.cell 0
  have x1 : w2.cell? ⟨w.heap.size, 1, none⟩ = some (.int .i64 11) := BW2.out.cell 1
  have x2 : w2.cell? ⟨w.heap.size, 2, none⟩ = some (.int .i64 (-1074)) := BW2.out.cell 2
  have y0 : w2.cell? ⟨w.heap.size + 1, 0, none⟩ = some (.int .i64 0) := BD2.out.cell 0
  have y1 : w2.cell? ⟨w.heap.size + 1, 1, none⟩ = some (.bool false) := BD2.out.cell 1
  have y2 : w2.cell? ⟨w.heap.size + 1, 2, none⟩ = some (.string t) := BD2.out.cell 2
  have y3 : w2.cell? ⟨w.heap.size + 1, 3, none⟩ = some (.int .i64 ex) := BD2.out.cell 3
  go_wp2_with fail
  refine (NR.out _ _ _ _ _ _ _ NO.out NU.out).mono ?_
  rintro e w3 ⟨rfl, hb⟩
  have BW3 := hide (BW2.out.below hb BW2.out.lt)
  have BD3 := hide (BD2.out.below hb BD2.out.lt)
  have HB3 := hide (HB2.out.trans (hb.mono HB2.out.size))
  clear hb BW2 BD2 HB2 x0 x1 x2 y0 y1 y2 y3
  have x0 : w3.cell? ⟨w.heap.size, 0, none⟩ = some (.int .i64 52) := BW3.out.cell 0
  have x1 : w3.cell? ⟨w.heap.size, 1, none⟩ = some (.int .i64 11) := BW3.out.cell 1
  have x2 : w3.cell? ⟨w.heap.size, 2, none⟩ = some (.int .i64 (-1074)) := BW3.out.cell 2
  have y0 : w3.cell? ⟨w.heap.size + 1, 0, none⟩ = some (.int .i64 0) := BD3.out.cell 0
  have y1 : w3.cell? ⟨w.heap.size + 1, 1, none⟩ = some (.bool false) := BD3.out.cell 1
  have y2 : w3.cell? ⟨w.heap.size + 1, 2, none⟩ = some (.string t) := BD3.out.cell 2
  have y3 : w3.cell? ⟨w.heap.size + 1, 3, none⟩ = some (.int .i64 ex) := BD3.out.cell 3
  go_wp2
  go_ret2
  exact ⟨rfl, HB3.out⟩

set_option maxHeartbeats 1000000 in
theorem float64_inf_true (w : World) : Calls Tryz.prog 36 #[w64, dcV 1 true ⟨#[]⟩ 0] w fun e w' => e = .returned (.tuple #[.int .u64 18442240474082181120, .int .i64 0]) ∧ Below w.heap.size w w' := by
  have MY := hide (fun W => may1_yes true W)
  have IN := hide (fun W => ninf64 W)
  have SGN := hide (fun W => nsign64 W)
  have OR := hide (show bits .or .u64 9218868437227405312 9223372036854775808 = 18442240474082181120 by decide +kernel)
  have BLW := hide ((Blk.new w #[.int .i64 52, .int .i64 11, .int .i64 (-1074)] 57).alloc (.cells #[.int .i64 1, .bool true, .string ⟨#[]⟩, .int .i64 0] 23))
  have BLD := hide (Blk.newAt (w.alloc (.cells #[.int .i64 52, .int .i64 11, .int .i64 (-1074)] 57)) (w.heap.size + 1) (by simp) #[.int .i64 1, .bool true, .string ⟨#[]⟩, .int .i64 0] 23)
  have HB0 : Hid (Below w.heap.size w ((w.alloc (.cells #[.int .i64 52, .int .i64 11, .int .i64 (-1074)] 57)).alloc (.cells #[.int .i64 1, .bool true, .string ⟨#[]⟩, .int .i64 0] 23))) := ((Below.refl _ _).alloc (Nat.le_refl _) _).alloc (by simp) _
  go_enter Tryz.func36, Tryz.ntmps36
  go_wp2_with fail
  refine (MY.out _).mono ?_
  rintro e w1 ⟨rfl, hb⟩
  have BW1 := hide (BLW.out.below hb BLW.out.lt)
  have BD1 := hide (BLD.out.below hb BLD.out.lt)
  have HB1 := hide (HB0.out.trans (hb.mono HB0.out.size))
  clear hb BLW BLD HB0
  have x0 : w1.cell? ⟨w.heap.size, 0, none⟩ = some (.int .i64 52) := BW1.out.cell 0
  have x1 : w1.cell? ⟨w.heap.size, 1, none⟩ = some (.int .i64 11) := BW1.out.cell 1
  have x2 : w1.cell? ⟨w.heap.size, 2, none⟩ = some (.int .i64 (-1074)) := BW1.out.cell 2
  have y0 : w1.cell? ⟨w.heap.size + 1, 0, none⟩ = some (.int .i64 1) := BD1.out.cell 0
  have y1 : w1.cell? ⟨w.heap.size + 1, 1, none⟩ = some (.bool true) := BD1.out.cell 1
  have y2 : w1.cell? ⟨w.heap.size + 1, 2, none⟩ = some (.string ⟨#[]⟩) := BD1.out.cell 2
  have y3 : w1.cell? ⟨w.heap.size + 1, 3, none⟩ = some (.int .i64 0) := BD1.out.cell 3
  go_wp2_with fail
  refine (IN.out _).mono ?_
  rintro e w2 ⟨rfl, hb⟩
  have BW2 := hide (BW1.out.below hb BW1.out.lt)
  have BD2 := hide (BD1.out.below hb BD1.out.lt)
  have HB2 := hide (HB1.out.trans (hb.mono HB1.out.size))
  clear hb BW1 BD1 HB1 x0 x1 x2 y0 y1 y2 y3
  have x0 : w2.cell? ⟨w.heap.size, 0, none⟩ = some (.int .i64 52) := BW2.out.cell 0
  have x1 : w2.cell? ⟨w.heap.size, 1, none⟩ = some (.int .i64 11) := BW2.out.cell 1
  have x2 : w2.cell? ⟨w.heap.size, 2, none⟩ = some (.int .i64 (-1074)) := BW2.out.cell 2
  have y0 : w2.cell? ⟨w.heap.size + 1, 0, none⟩ = some (.int .i64 1) := BD2.out.cell 0
  have y1 : w2.cell? ⟨w.heap.size + 1, 1, none⟩ = some (.bool true) := BD2.out.cell 1
  have y2 : w2.cell? ⟨w.heap.size + 1, 2, none⟩ = some (.string ⟨#[]⟩) := BD2.out.cell 2
  have y3 : w2.cell? ⟨w.heap.size + 1, 3, none⟩ = some (.int .i64 0) := BD2.out.cell 3
  go_wp2_with fail
  refine (SGN.out _).mono ?_
  rintro e w3 ⟨rfl, hb⟩
  have BW3 := hide (BW2.out.below hb BW2.out.lt)
  have BD3 := hide (BD2.out.below hb BD2.out.lt)
  have HB3 := hide (HB2.out.trans (hb.mono HB2.out.size))
  clear hb BW2 BD2 HB2 x0 x1 x2 y0 y1 y2 y3
  have x0 : w3.cell? ⟨w.heap.size, 0, none⟩ = some (.int .i64 52) := BW3.out.cell 0
  have x1 : w3.cell? ⟨w.heap.size, 1, none⟩ = some (.int .i64 11) := BW3.out.cell 1
  have x2 : w3.cell? ⟨w.heap.size, 2, none⟩ = some (.int .i64 (-1074)) := BW3.out.cell 2
  have y0 : w3.cell? ⟨w.heap.size + 1, 0, none⟩ = some (.int .i64 1) := BD3.out.cell 0
  have y1 : w3.cell? ⟨w.heap.size + 1, 1, none⟩ = some (.bool true) := BD3.out.cell 1
  have y2 : w3.cell? ⟨w.heap.size + 1, 2, none⟩ = some (.string ⟨#[]⟩) := BD3.out.cell 2
  have y3 : w3.cell? ⟨w.heap.size + 1, 3, none⟩ = some (.int .i64 0) := BD3.out.cell 3
  go_wp2
  go_ret2
  refine ⟨?_, HB3.out⟩
  rw [← OR.out]
  rfl

set_option maxHeartbeats 1000000 in
theorem float64_zero_true (w : World) : Calls Tryz.prog 36 #[w64, dcV 0 true ⟨#[]⟩ 0] w fun e w' => e = .returned (.tuple #[.int .u64 9223372036854775808, .int .i64 0]) ∧ Below w.heap.size w w' := by
  have MY := hide (fun W => may0_bare true W)
  have SGN := hide (fun W => nsign64 W)
  have OR := hide (show bits .or .u64 0 9223372036854775808 = 9223372036854775808 by decide +kernel)
  have BLW := hide ((Blk.new w #[.int .i64 52, .int .i64 11, .int .i64 (-1074)] 57).alloc (.cells #[.int .i64 0, .bool true, .string ⟨#[]⟩, .int .i64 0] 23))
  have BLD := hide (Blk.newAt (w.alloc (.cells #[.int .i64 52, .int .i64 11, .int .i64 (-1074)] 57)) (w.heap.size + 1) (by simp) #[.int .i64 0, .bool true, .string ⟨#[]⟩, .int .i64 0] 23)
  have HB0 : Hid (Below w.heap.size w ((w.alloc (.cells #[.int .i64 52, .int .i64 11, .int .i64 (-1074)] 57)).alloc (.cells #[.int .i64 0, .bool true, .string ⟨#[]⟩, .int .i64 0] 23))) := ((Below.refl _ _).alloc (Nat.le_refl _) _).alloc (by simp) _
  go_enter Tryz.func36, Tryz.ntmps36
  go_wp2_with fail
  refine (MY.out _).mono ?_
  rintro e w1 ⟨rfl, hb⟩
  have BW1 := hide (BLW.out.below hb BLW.out.lt)
  have BD1 := hide (BLD.out.below hb BLD.out.lt)
  have HB1 := hide (HB0.out.trans (hb.mono HB0.out.size))
  clear hb BLW BLD HB0
  have x0 : w1.cell? ⟨w.heap.size, 0, none⟩ = some (.int .i64 52) := BW1.out.cell 0
  have x1 : w1.cell? ⟨w.heap.size, 1, none⟩ = some (.int .i64 11) := BW1.out.cell 1
  have x2 : w1.cell? ⟨w.heap.size, 2, none⟩ = some (.int .i64 (-1074)) := BW1.out.cell 2
  have y0 : w1.cell? ⟨w.heap.size + 1, 0, none⟩ = some (.int .i64 0) := BD1.out.cell 0
  have y1 : w1.cell? ⟨w.heap.size + 1, 1, none⟩ = some (.bool true) := BD1.out.cell 1
  have y2 : w1.cell? ⟨w.heap.size + 1, 2, none⟩ = some (.string ⟨#[]⟩) := BD1.out.cell 2
  have y3 : w1.cell? ⟨w.heap.size + 1, 3, none⟩ = some (.int .i64 0) := BD1.out.cell 3
  go_wp2_with fail
  refine (SGN.out _).mono ?_
  rintro e w2 ⟨rfl, hb⟩
  have BW2 := hide (BW1.out.below hb BW1.out.lt)
  have BD2 := hide (BD1.out.below hb BD1.out.lt)
  have HB2 := hide (HB1.out.trans (hb.mono HB1.out.size))
  clear hb BW1 BD1 HB1 x0 x1 x2 y0 y1 y2 y3
  have x0 : w2.cell? ⟨w.heap.size, 0, none⟩ = some (.int .i64 52) := BW2.out.cell 0
  have x1 : w2.cell? ⟨w.heap.size, 1, none⟩ = some (.int .i64 11) := BW2.out.cell 1
  have x2 : w2.cell? ⟨w.heap.size, 2, none⟩ = some (.int .i64 (-1074)) := BW2.out.cell 2
  have y0 : w2.cell? ⟨w.heap.size + 1, 0, none⟩ = some (.int .i64 0) := BD2.out.cell 0
  have y1 : w2.cell? ⟨w.heap.size + 1, 1, none⟩ = some (.bool true) := BD2.out.cell 1
  have y2 : w2.cell? ⟨w.heap.size + 1, 2, none⟩ = some (.string ⟨#[]⟩) := BD2.out.cell 2
  have y3 : w2.cell? ⟨w.heap.size + 1, 3, none⟩ = some (.int .i64 0) := BD2.out.cell 3
  go_wp2
  go_ret2
  refine ⟨?_, HB2.out⟩
  rw [← OR.out]
  rfl

set_option maxHeartbeats 1000000 in
theorem float64_fin_true (t : ByteArray) (ex : Int) (w : World) (h : DigD (bys t) ex) : Calls Tryz.prog 36 #[w64, dcV 0 true t ex] w fun e w' => e = .returned (.tuple #[.int .u64 (((bitsOf 52 1074 (infN 52 11) (decV (bys t) * 10 ^ ex.toNat) (10 ^ (-ex).toNat)) + 9223372036854775808 : Nat) : Int), .int .i64 0]) ∧ Below w.heap.size w w' := by
  have NS := Nums.of h
  have hne : t.size ≠ 0 := fun e => h.1 (bys_nil.2 e)
  have MY := hide (fun W => may0_yes true t ex W (fun e => hne e.1) h)
  have FR := hide (fun W => frac64_any true t ex W h)
  obtain ⟨o, ho⟩ : ∃ o, o = decV (bys t) * 10 ^ ex.toNat := ⟨_, rfl⟩
  obtain ⟨u, hu⟩ : ∃ u, u = 10 ^ (-ex).toNat := ⟨_, rfl⟩
  rw [← ho, ← hu] at NS FR ⊢
  have NR := hide (fun oo lo co ou lu cu W a1 a2 => near64_any oo ou lo co lu cu o u W a1 a2 NS.fo NS.fu NS.o0 NS.u0)
  obtain ⟨r, hr⟩ : ∃ r, r = bitsOf 52 1074 (infN 52 11) o u := ⟨_, rfl⟩
  have hrl : r ≤ 9218868437227405312 := by rw [hr, ← inf64]; exact bitsOf_le _ _ _ _ _
  rw [← hr] at NR ⊢
  have OR : Hid (bits .or .u64 (r : Int) 9223372036854775808 = ((r + 9223372036854775808 : Nat) : Int)) := or_top (k := 63) 9223372036854775808 (by decide) (by omega) (by omega)
  have SGN := hide (fun W => nsign64 W)
  have ht := toList_ne hne
  clear h NS hne ho hu hr
  have BLW := hide ((Blk.new w #[.int .i64 52, .int .i64 11, .int .i64 (-1074)] 57).alloc (.cells #[.int .i64 0, .bool true, .string t, .int .i64 ex] 23))
  have BLD := hide (Blk.newAt (w.alloc (.cells #[.int .i64 52, .int .i64 11, .int .i64 (-1074)] 57)) (w.heap.size + 1) (by simp) #[.int .i64 0, .bool true, .string t, .int .i64 ex] 23)
  have HB0 : Hid (Below w.heap.size w ((w.alloc (.cells #[.int .i64 52, .int .i64 11, .int .i64 (-1074)] 57)).alloc (.cells #[.int .i64 0, .bool true, .string t, .int .i64 ex] 23))) := ((Below.refl _ _).alloc (Nat.le_refl _) _).alloc (by simp) _
  go_enter Tryz.func36, Tryz.ntmps36
  go_wp2_with fail
  refine (MY.out _).mono ?_
  rintro e w1 ⟨rfl, hb⟩
  have BW1 := hide (BLW.out.below hb BLW.out.lt)
  have BD1 := hide (BLD.out.below hb BLD.out.lt)
  have HB1 := hide (HB0.out.trans (hb.mono HB0.out.size))
  clear hb BLW BLD HB0
  have x0 : w1.cell? ⟨w.heap.size, 0, none⟩ = some (.int .i64 52) := BW1.out.cell 0
  have x1 : w1.cell? ⟨w.heap.size, 1, none⟩ = some (.int .i64 11) := BW1.out.cell 1
  have x2 : w1.cell? ⟨w.heap.size, 2, none⟩ = some (.int .i64 (-1074)) := BW1.out.cell 2
  have y0 : w1.cell? ⟨w.heap.size + 1, 0, none⟩ = some (.int .i64 0) := BD1.out.cell 0
  have y1 : w1.cell? ⟨w.heap.size + 1, 1, none⟩ = some (.bool true) := BD1.out.cell 1
  have y2 : w1.cell? ⟨w.heap.size + 1, 2, none⟩ = some (.string t) := BD1.out.cell 2
  have y3 : w1.cell? ⟨w.heap.size + 1, 3, none⟩ = some (.int .i64 ex) := BD1.out.cell 3
  go_wp2_with fail
  refine (FR.out _).mono ?_
  rintro e w2 ⟨oo, lo, co, ou, lu, cu, rfl, no, nu, hb⟩
  have BW2 := hide (BW1.out.below hb BW1.out.lt)
  have BD2 := hide (BD1.out.below hb BD1.out.lt)
  have HB2 := hide (HB1.out.trans (hb.mono HB1.out.size))
  have NO := hide no
  have NU := hide nu
  clear no nu
  clear hb BW1 BD1 HB1 x0 x1 x2 y0 y1 y2 y3
  have x0 : w2.cell? ⟨w.heap.size, 0, none⟩ = some (.int .i64 52) := BW2.out.cell 0
  have x1 : w2.cell? ⟨w.heap.size, 1, none⟩ = some (.int .i64 11) := BW2.out.cell 1
  have x2 : w2.cell? ⟨w.heap.size, 2, none⟩ = some (.int .i64 (-1074)) := BW2.out.cell 2
  have y0 : w2.cell? ⟨w.heap.size + 1, 0, none⟩ = some (.int .i64 0) := BD2.out.cell 0
  have y1 : w2.cell? ⟨w.heap.size + 1, 1, none⟩ = some (.bool true) := BD2.out.cell 1
  have y2 : w2.cell? ⟨w.heap.size + 1, 2, none⟩ = some (.string t) := BD2.out.cell 2
  have y3 : w2.cell? ⟨w.heap.size + 1, 3, none⟩ = some (.int .i64 ex) := BD2.out.cell 3
  go_wp2_with fail
  refine (NR.out _ _ _ _ _ _ _ NO.out NU.out).mono ?_
  rintro e w3 ⟨rfl, hb⟩
  have BW3 := hide (BW2.out.below hb BW2.out.lt)
  have BD3 := hide (BD2.out.below hb BD2.out.lt)
  have HB3 := hide (HB2.out.trans (hb.mono HB2.out.size))
  clear hb BW2 BD2 HB2 x0 x1 x2 y0 y1 y2 y3
  have x0 : w3.cell? ⟨w.heap.size, 0, none⟩ = some (.int .i64 52) := BW3.out.cell 0
  have x1 : w3.cell? ⟨w.heap.size, 1, none⟩ = some (.int .i64 11) := BW3.out.cell 1
  have x2 : w3.cell? ⟨w.heap.size, 2, none⟩ = some (.int .i64 (-1074)) := BW3.out.cell 2
  have y0 : w3.cell? ⟨w.heap.size + 1, 0, none⟩ = some (.int .i64 0) := BD3.out.cell 0
  have y1 : w3.cell? ⟨w.heap.size + 1, 1, none⟩ = some (.bool true) := BD3.out.cell 1
  have y2 : w3.cell? ⟨w.heap.size + 1, 2, none⟩ = some (.string t) := BD3.out.cell 2
  have y3 : w3.cell? ⟨w.heap.size + 1, 3, none⟩ = some (.int .i64 ex) := BD3.out.cell 3
  go_wp2_with fail
  refine (SGN.out _).mono ?_
  rintro e w4 ⟨rfl, hb⟩
  have BW4 := hide (BW3.out.below hb BW3.out.lt)
  have BD4 := hide (BD3.out.below hb BD3.out.lt)
  have HB4 := hide (HB3.out.trans (hb.mono HB3.out.size))
  clear hb BW3 BD3 HB3 x0 x1 x2 y0 y1 y2 y3
  have x0 : w4.cell? ⟨w.heap.size, 0, none⟩ = some (.int .i64 52) := BW4.out.cell 0
  have x1 : w4.cell? ⟨w.heap.size, 1, none⟩ = some (.int .i64 11) := BW4.out.cell 1
  have x2 : w4.cell? ⟨w.heap.size, 2, none⟩ = some (.int .i64 (-1074)) := BW4.out.cell 2
  have y0 : w4.cell? ⟨w.heap.size + 1, 0, none⟩ = some (.int .i64 0) := BD4.out.cell 0
  have y1 : w4.cell? ⟨w.heap.size + 1, 1, none⟩ = some (.bool true) := BD4.out.cell 1
  have y2 : w4.cell? ⟨w.heap.size + 1, 2, none⟩ = some (.string t) := BD4.out.cell 2
  have y3 : w4.cell? ⟨w.heap.size + 1, 3, none⟩ = some (.int .i64 ex) := BD4.out.cell 3
  go_wp2
  go_ret2
  refine ⟨?_, HB4.out⟩
  rw [← OR.out]
  rfl

theorem sig64_f : sigN 52 11 false = 0 := rfl
theorem sig64_t : sigN 52 11 true = 9223372036854775808 := by decide

/-- A Dec that may be: its float's bits. -/
theorem float64_yes (c : Int) (neg : Bool) (t : ByteArray) (ex : Int) (w : World) (h : MayD c neg (bys t) ex) : Calls Tryz.prog 36 #[w64, dcV c neg t ex] w fun e w' => e = .returned (.tuple #[.int .u64 ((toD 52 11 1074 ⟨c.toNat, neg, bys t, ex⟩ : Nat) : Int), .int .i64 0]) ∧ Below w.heap.size w w' := by
  have h' := h
  rcases h with ⟨rfl, _⟩ | ⟨rfl, h1, rfl⟩ | ⟨rfl, rfl, h1, rfl⟩
  · rcases (mayD_0 neg t ex).1 h' with h1 | h1
    · obtain ⟨h1, rfl⟩ := h1
      rw [size_nil h1]
      have hd : toD 52 11 1074 ⟨(0 : Int).toNat, neg, bys ⟨#[]⟩, 0⟩ = sigN 52 11 neg := by
        unfold toD
        rw [if_neg (by simp), if_neg (by simp), if_pos (by simp [bys])]
      rw [hd]
      cases neg with
      | false =>
        rw [sig64_f]
        exact float64_zero_false w
      | true =>
        rw [sig64_t]
        exact float64_zero_true w
    · have hd : toD 52 11 1074 ⟨(0 : Int).toNat, neg, bys t, ex⟩ = bitsOf 52 1074 (infN 52 11) (decV (bys t) * 10 ^ ex.toNat) (10 ^ (-ex).toNat) + sigN 52 11 neg := by
        unfold toD
        rw [if_neg (by simp), if_neg (by simp), if_neg h1.1]
        rfl
      rw [hd]
      cases neg with
      | false =>
        rw [sig64_f, Nat.add_zero]
        exact float64_fin_false t ex w h1
      | true =>
        rw [sig64_t]
        exact float64_fin_true t ex w h1
  · rw [size_nil (bys_nil.1 h1)]
    have hd : toD 52 11 1074 ⟨(1 : Int).toNat, neg, bys ⟨#[]⟩, 0⟩ = infN 52 11 + sigN 52 11 neg := by
      unfold toD
      rw [if_neg (by simp), if_pos (by simp)]
    rw [hd, inf64]
    cases neg with
    | false =>
      rw [sig64_f, Nat.add_zero]
      exact float64_inf_false w
    | true =>
      rw [sig64_t, show 9218868437227405312 + 9223372036854775808 = 18442240474082181120 by decide]
      exact float64_inf_true w
  · rw [size_nil (bys_nil.1 h1)]
    have hd : toD 52 11 1074 ⟨(2 : Int).toNat, false, bys ⟨#[]⟩, 0⟩ = 9221120237041090561 := by
      unfold toD
      rw [if_pos (by simp), inf64]
    rw [hd]
    exact float64_nan w

set_option maxRecDepth 100000 in
set_option maxHeartbeats 1000000 in
theorem to64_of (c : Int) (neg : Bool) (t : ByteArray) (ex : Int) (r : Nat) (er : Int) (w : World)
    (FL : ∀ W, Calls Tryz.prog 36 #[w64, dcV c neg t ex] W fun e w' => e = .returned (.tuple #[.int .u64 (r : Int), .int .i64 er]) ∧ Below W.heap.size W w') :
    Calls Tryz.prog 10 #[dcV c neg t ex] w fun e w' => e = .returned (.tuple #[.int .u64 (r : Int), .int .i64 er]) ∧ Below w.heap.size w w' := by
  have FLH := hide FL
  have blk := Blk.new w #[.int .i64 c, .bool neg, .string t, .int .i64 ex] 23
  obtain ⟨W, hW⟩ : ∃ W, W = w.alloc (.cells #[.int .i64 c, .bool neg, .string t, .int .i64 ex] 23) := ⟨_, rfl⟩
  rw [← hW] at blk
  have HBW : Hid (Below w.heap.size w W) := by rw [hW]; exact (Below.refl _ _).alloc (Nat.le_refl _) _
  have BLK := hide blk
  have HW := hide hW
  have c0 : W.cell? ⟨w.heap.size, 0, none⟩ = some (.int .i64 c) := blk.cell 0
  have c1 : W.cell? ⟨w.heap.size, 1, none⟩ = some (.bool neg) := blk.cell 1
  have c2 : W.cell? ⟨w.heap.size, 2, none⟩ = some (.string t) := blk.cell 2
  have c3 : W.cell? ⟨w.heap.size, 3, none⟩ = some (.int .i64 ex) := blk.cell 3
  have b0 : Hid (Below W.heap.size W W.drew) := bdrew' W
  have C1 : Hid (Calls Tryz.prog 35 #[] W.drew fun e w' => e = .returned w64 ∧ Hid (Below W.heap.size W w') ∧ w'.cell? ⟨w.heap.size, 0, none⟩ = some (.int .i64 c) ∧ w'.cell? ⟨w.heap.size, 1, none⟩ = some (.bool neg) ∧ w'.cell? ⟨w.heap.size, 2, none⟩ = some (.string t) ∧ w'.cell? ⟨w.heap.size, 3, none⟩ = some (.int .i64 ex)) := by
    refine (nbinary64_any W.drew).mono ?_
    rintro e w' ⟨rfl, hb⟩
    have hbb := b0.out.trans (hb.mono b0.out.size)
    have q := BLK.out.below hbb BLK.out.lt
    exact ⟨rfl, hbb, q.cell 0, q.cell 1, q.cell 2, q.cell 3⟩
  have C2 : Hid (∀ w1, Hid (Below W.heap.size W w1) → Calls Tryz.prog 36 #[w64, .agg #[.int .i64 c, .bool neg, .string t, .int .i64 ex]] w1 fun e w' => e = .returned (.tuple #[.int .u64 (r : Int), .int .i64 er]) ∧ Hid (Below W.heap.size W w') ∧ w'.cell? ⟨w.heap.size, 0, none⟩ = some (.int .i64 c) ∧ w'.cell? ⟨w.heap.size, 1, none⟩ = some (.bool neg) ∧ w'.cell? ⟨w.heap.size, 2, none⟩ = some (.string t) ∧ w'.cell? ⟨w.heap.size, 3, none⟩ = some (.int .i64 ex)) := by
    intro w1 h1
    refine (FLH.out w1).mono ?_
    rintro e w' ⟨rfl, hb⟩
    have hbb := h1.out.trans (hb.mono h1.out.size)
    have q := BLK.out.below hbb BLK.out.lt
    exact ⟨rfl, hbb, q.cell 0, q.cell 1, q.cell 2, q.cell 3⟩
  clear FL blk hW FLH
  go_enter Tryz.func10, Tryz.ntmps10
  go_wp2_with fail
  simp only [← HW.out]
  have mk0 : True := trivial
  go_region_held3 (fun w' => w'.cell? ⟨w.heap.size, 0, none⟩ = some (.int .i64 c) ∧ w'.cell? ⟨w.heap.size, 1, none⟩ = some (.bool neg) ∧ w'.cell? ⟨w.heap.size, 2, none⟩ = some (.string t) ∧ w'.cell? ⟨w.heap.size, 3, none⟩ = some (.int .i64 ex)) (go_keep) (first
    | (clear mk0; go_at_call 35; refine C1.out.mono ?_; rintro e w1 ⟨rfl, b1, k0, k1, k2, k3⟩; have mk1 : True := trivial)
    | (clear mk1; go_at_call 36; refine (C2.out _ b1).mono ?_; rintro e w2 ⟨rfl, b2, m0, m1, m2, m3⟩; have mk2 : True := trivial))
  all_goals (
    have FIN := hide (HBW.out.trans (b2.out.mono HBW.out.size))
    clear b1 b2 C1 C2
    go_wp2
    go_ret2
    exact ⟨rfl, FIN.out⟩)

theorem to64_no (c : Int) (neg : Bool) (t : ByteArray) (ex : Int) (w : World) (h : ¬ MayD c neg (bys t) ex) : Calls Tryz.prog 10 #[dcV c neg t ex] w fun e w' => e = .returned (.tuple #[.int .u64 0, .int .i64 40]) ∧ Below w.heap.size w w' :=
  to64_of c neg t ex 0 40 w (fun W => float64_no c neg t ex W h)

theorem to64_yes (c : Int) (neg : Bool) (t : ByteArray) (ex : Int) (w : World) (h : MayD c neg (bys t) ex) : Calls Tryz.prog 10 #[dcV c neg t ex] w fun e w' => e = .returned (.tuple #[.int .u64 ((toD 52 11 1074 ⟨c.toNat, neg, bys t, ex⟩ : Nat) : Int), .int .i64 0]) ∧ Below w.heap.size w w' :=
  to64_of c neg t ex _ 0 w (fun W => float64_yes c neg t ex W h)

theorem frac32_any (neg : Bool) (t : ByteArray) (ex : Int) (w : World) (h : DigD (bys t) ex) :
    Calls Tryz.prog 55 #[w32, dcV 0 neg t ex] w (FrPost w 23 8 (-149) (decV (bys t) * 10 ^ ex.toNat) (10 ^ (-ex).toNat)) := by
  by_cases hn : ex < 0
  · obtain ⟨n, rfl⟩ : ∃ n : Nat, ex = -(n : Int) := ⟨(-ex).toNat, by omega⟩
    rw [show (-(n : Int)).toNat = 0 by omega, show (- -(n : Int)).toNat = n by omega, Nat.pow_zero, Nat.mul_one]
    exact frac32_neg neg t n w h hn
  · obtain ⟨n, rfl⟩ : ∃ n : Nat, ex = (n : Int) := ⟨ex.toNat, by omega⟩
    rw [show (-(n : Int)).toNat = 0 by omega, show ((n : Int)).toNat = n by omega, Nat.pow_zero]
    exact frac32_pos neg t n w h hn

set_option maxHeartbeats 1000000 in
theorem float32_no (c : Int) (neg : Bool) (t : ByteArray) (ex : Int) (w : World) (h : ¬ MayD c neg (bys t) ex) : Calls Tryz.prog 36 #[w32, dcV c neg t ex] w fun e w' => e = .returned (.tuple #[.int .u64 0, .int .i64 40]) ∧ Below w.heap.size w w' := by
  have MY := hide (fun W => may_no c neg t ex W h)
  clear h
  have BLW := hide ((Blk.new w #[.int .i64 23, .int .i64 8, .int .i64 (-149)] 57).alloc (.cells #[.int .i64 c, .bool neg, .string t, .int .i64 ex] 23))
  have BLD := hide (Blk.newAt (w.alloc (.cells #[.int .i64 23, .int .i64 8, .int .i64 (-149)] 57)) (w.heap.size + 1) (by simp) #[.int .i64 c, .bool neg, .string t, .int .i64 ex] 23)
  have HB0 : Hid (Below w.heap.size w ((w.alloc (.cells #[.int .i64 23, .int .i64 8, .int .i64 (-149)] 57)).alloc (.cells #[.int .i64 c, .bool neg, .string t, .int .i64 ex] 23))) := ((Below.refl _ _).alloc (Nat.le_refl _) _).alloc (by simp) _
  go_enter Tryz.func36, Tryz.ntmps36
  go_wp2_with fail
  refine (MY.out _).mono ?_
  rintro e w1 ⟨rfl, hb⟩
  have BW1 := hide (BLW.out.below hb BLW.out.lt)
  have BD1 := hide (BLD.out.below hb BLD.out.lt)
  have HB1 := hide (HB0.out.trans (hb.mono HB0.out.size))
  clear hb BLW BLD HB0
  have x0 : w1.cell? ⟨w.heap.size, 0, none⟩ = some (.int .i64 23) := BW1.out.cell 0
  have x1 : w1.cell? ⟨w.heap.size, 1, none⟩ = some (.int .i64 8) := BW1.out.cell 1
  have x2 : w1.cell? ⟨w.heap.size, 2, none⟩ = some (.int .i64 (-149)) := BW1.out.cell 2
  have y0 : w1.cell? ⟨w.heap.size + 1, 0, none⟩ = some (.int .i64 c) := BD1.out.cell 0
  have y1 : w1.cell? ⟨w.heap.size + 1, 1, none⟩ = some (.bool neg) := BD1.out.cell 1
  have y2 : w1.cell? ⟨w.heap.size + 1, 2, none⟩ = some (.string t) := BD1.out.cell 2
  have y3 : w1.cell? ⟨w.heap.size + 1, 3, none⟩ = some (.int .i64 ex) := BD1.out.cell 3
  go_wp2
  go_ret2
  exact ⟨rfl, HB1.out⟩

set_option maxHeartbeats 1000000 in
theorem float32_nan (w : World) : Calls Tryz.prog 36 #[w32, dcV 2 false ⟨#[]⟩ 0] w fun e w' => e = .returned (.tuple #[.int .u64 2143289345, .int .i64 0]) ∧ Below w.heap.size w w' := by
  have MY := hide (fun W => may2_yes W)
  have NN := hide (fun W => nnan32 W)
  have BLW := hide ((Blk.new w #[.int .i64 23, .int .i64 8, .int .i64 (-149)] 57).alloc (.cells #[.int .i64 2, .bool false, .string ⟨#[]⟩, .int .i64 0] 23))
  have BLD := hide (Blk.newAt (w.alloc (.cells #[.int .i64 23, .int .i64 8, .int .i64 (-149)] 57)) (w.heap.size + 1) (by simp) #[.int .i64 2, .bool false, .string ⟨#[]⟩, .int .i64 0] 23)
  have HB0 : Hid (Below w.heap.size w ((w.alloc (.cells #[.int .i64 23, .int .i64 8, .int .i64 (-149)] 57)).alloc (.cells #[.int .i64 2, .bool false, .string ⟨#[]⟩, .int .i64 0] 23))) := ((Below.refl _ _).alloc (Nat.le_refl _) _).alloc (by simp) _
  go_enter Tryz.func36, Tryz.ntmps36
  go_wp2_with fail
  refine (MY.out _).mono ?_
  rintro e w1 ⟨rfl, hb⟩
  have BW1 := hide (BLW.out.below hb BLW.out.lt)
  have BD1 := hide (BLD.out.below hb BLD.out.lt)
  have HB1 := hide (HB0.out.trans (hb.mono HB0.out.size))
  clear hb BLW BLD HB0
  have x0 : w1.cell? ⟨w.heap.size, 0, none⟩ = some (.int .i64 23) := BW1.out.cell 0
  have x1 : w1.cell? ⟨w.heap.size, 1, none⟩ = some (.int .i64 8) := BW1.out.cell 1
  have x2 : w1.cell? ⟨w.heap.size, 2, none⟩ = some (.int .i64 (-149)) := BW1.out.cell 2
  have y0 : w1.cell? ⟨w.heap.size + 1, 0, none⟩ = some (.int .i64 2) := BD1.out.cell 0
  have y1 : w1.cell? ⟨w.heap.size + 1, 1, none⟩ = some (.bool false) := BD1.out.cell 1
  have y2 : w1.cell? ⟨w.heap.size + 1, 2, none⟩ = some (.string ⟨#[]⟩) := BD1.out.cell 2
  have y3 : w1.cell? ⟨w.heap.size + 1, 3, none⟩ = some (.int .i64 0) := BD1.out.cell 3
  go_wp2_with fail
  refine (NN.out _).mono ?_
  rintro e w2 ⟨rfl, hb⟩
  have BW2 := hide (BW1.out.below hb BW1.out.lt)
  have BD2 := hide (BD1.out.below hb BD1.out.lt)
  have HB2 := hide (HB1.out.trans (hb.mono HB1.out.size))
  clear hb BW1 BD1 HB1 x0 x1 x2 y0 y1 y2 y3
  have x0 : w2.cell? ⟨w.heap.size, 0, none⟩ = some (.int .i64 23) := BW2.out.cell 0
  have x1 : w2.cell? ⟨w.heap.size, 1, none⟩ = some (.int .i64 8) := BW2.out.cell 1
  have x2 : w2.cell? ⟨w.heap.size, 2, none⟩ = some (.int .i64 (-149)) := BW2.out.cell 2
  have y0 : w2.cell? ⟨w.heap.size + 1, 0, none⟩ = some (.int .i64 2) := BD2.out.cell 0
  have y1 : w2.cell? ⟨w.heap.size + 1, 1, none⟩ = some (.bool false) := BD2.out.cell 1
  have y2 : w2.cell? ⟨w.heap.size + 1, 2, none⟩ = some (.string ⟨#[]⟩) := BD2.out.cell 2
  have y3 : w2.cell? ⟨w.heap.size + 1, 3, none⟩ = some (.int .i64 0) := BD2.out.cell 3
  go_wp2
  go_ret2
  exact ⟨rfl, HB2.out⟩

set_option maxHeartbeats 1000000 in
theorem float32_inf_false (w : World) : Calls Tryz.prog 36 #[w32, dcV 1 false ⟨#[]⟩ 0] w fun e w' => e = .returned (.tuple #[.int .u64 2139095040, .int .i64 0]) ∧ Below w.heap.size w w' := by
  have MY := hide (fun W => may1_yes false W)
  have IN := hide (fun W => ninf32 W)
  have BLW := hide ((Blk.new w #[.int .i64 23, .int .i64 8, .int .i64 (-149)] 57).alloc (.cells #[.int .i64 1, .bool false, .string ⟨#[]⟩, .int .i64 0] 23))
  have BLD := hide (Blk.newAt (w.alloc (.cells #[.int .i64 23, .int .i64 8, .int .i64 (-149)] 57)) (w.heap.size + 1) (by simp) #[.int .i64 1, .bool false, .string ⟨#[]⟩, .int .i64 0] 23)
  have HB0 : Hid (Below w.heap.size w ((w.alloc (.cells #[.int .i64 23, .int .i64 8, .int .i64 (-149)] 57)).alloc (.cells #[.int .i64 1, .bool false, .string ⟨#[]⟩, .int .i64 0] 23))) := ((Below.refl _ _).alloc (Nat.le_refl _) _).alloc (by simp) _
  go_enter Tryz.func36, Tryz.ntmps36
  go_wp2_with fail
  refine (MY.out _).mono ?_
  rintro e w1 ⟨rfl, hb⟩
  have BW1 := hide (BLW.out.below hb BLW.out.lt)
  have BD1 := hide (BLD.out.below hb BLD.out.lt)
  have HB1 := hide (HB0.out.trans (hb.mono HB0.out.size))
  clear hb BLW BLD HB0
  have x0 : w1.cell? ⟨w.heap.size, 0, none⟩ = some (.int .i64 23) := BW1.out.cell 0
  have x1 : w1.cell? ⟨w.heap.size, 1, none⟩ = some (.int .i64 8) := BW1.out.cell 1
  have x2 : w1.cell? ⟨w.heap.size, 2, none⟩ = some (.int .i64 (-149)) := BW1.out.cell 2
  have y0 : w1.cell? ⟨w.heap.size + 1, 0, none⟩ = some (.int .i64 1) := BD1.out.cell 0
  have y1 : w1.cell? ⟨w.heap.size + 1, 1, none⟩ = some (.bool false) := BD1.out.cell 1
  have y2 : w1.cell? ⟨w.heap.size + 1, 2, none⟩ = some (.string ⟨#[]⟩) := BD1.out.cell 2
  have y3 : w1.cell? ⟨w.heap.size + 1, 3, none⟩ = some (.int .i64 0) := BD1.out.cell 3
  go_wp2_with fail
  refine (IN.out _).mono ?_
  rintro e w2 ⟨rfl, hb⟩
  have BW2 := hide (BW1.out.below hb BW1.out.lt)
  have BD2 := hide (BD1.out.below hb BD1.out.lt)
  have HB2 := hide (HB1.out.trans (hb.mono HB1.out.size))
  clear hb BW1 BD1 HB1 x0 x1 x2 y0 y1 y2 y3
  have x0 : w2.cell? ⟨w.heap.size, 0, none⟩ = some (.int .i64 23) := BW2.out.cell 0
  have x1 : w2.cell? ⟨w.heap.size, 1, none⟩ = some (.int .i64 8) := BW2.out.cell 1
  have x2 : w2.cell? ⟨w.heap.size, 2, none⟩ = some (.int .i64 (-149)) := BW2.out.cell 2
  have y0 : w2.cell? ⟨w.heap.size + 1, 0, none⟩ = some (.int .i64 1) := BD2.out.cell 0
  have y1 : w2.cell? ⟨w.heap.size + 1, 1, none⟩ = some (.bool false) := BD2.out.cell 1
  have y2 : w2.cell? ⟨w.heap.size + 1, 2, none⟩ = some (.string ⟨#[]⟩) := BD2.out.cell 2
  have y3 : w2.cell? ⟨w.heap.size + 1, 3, none⟩ = some (.int .i64 0) := BD2.out.cell 3
  go_wp2
  go_ret2
  exact ⟨rfl, HB2.out⟩

set_option maxHeartbeats 1000000 in
theorem float32_zero_false (w : World) : Calls Tryz.prog 36 #[w32, dcV 0 false ⟨#[]⟩ 0] w fun e w' => e = .returned (.tuple #[.int .u64 0, .int .i64 0]) ∧ Below w.heap.size w w' := by
  have MY := hide (fun W => may0_bare false W)
  have BLW := hide ((Blk.new w #[.int .i64 23, .int .i64 8, .int .i64 (-149)] 57).alloc (.cells #[.int .i64 0, .bool false, .string ⟨#[]⟩, .int .i64 0] 23))
  have BLD := hide (Blk.newAt (w.alloc (.cells #[.int .i64 23, .int .i64 8, .int .i64 (-149)] 57)) (w.heap.size + 1) (by simp) #[.int .i64 0, .bool false, .string ⟨#[]⟩, .int .i64 0] 23)
  have HB0 : Hid (Below w.heap.size w ((w.alloc (.cells #[.int .i64 23, .int .i64 8, .int .i64 (-149)] 57)).alloc (.cells #[.int .i64 0, .bool false, .string ⟨#[]⟩, .int .i64 0] 23))) := ((Below.refl _ _).alloc (Nat.le_refl _) _).alloc (by simp) _
  go_enter Tryz.func36, Tryz.ntmps36
  go_wp2_with fail
  refine (MY.out _).mono ?_
  rintro e w1 ⟨rfl, hb⟩
  have BW1 := hide (BLW.out.below hb BLW.out.lt)
  have BD1 := hide (BLD.out.below hb BLD.out.lt)
  have HB1 := hide (HB0.out.trans (hb.mono HB0.out.size))
  clear hb BLW BLD HB0
  have x0 : w1.cell? ⟨w.heap.size, 0, none⟩ = some (.int .i64 23) := BW1.out.cell 0
  have x1 : w1.cell? ⟨w.heap.size, 1, none⟩ = some (.int .i64 8) := BW1.out.cell 1
  have x2 : w1.cell? ⟨w.heap.size, 2, none⟩ = some (.int .i64 (-149)) := BW1.out.cell 2
  have y0 : w1.cell? ⟨w.heap.size + 1, 0, none⟩ = some (.int .i64 0) := BD1.out.cell 0
  have y1 : w1.cell? ⟨w.heap.size + 1, 1, none⟩ = some (.bool false) := BD1.out.cell 1
  have y2 : w1.cell? ⟨w.heap.size + 1, 2, none⟩ = some (.string ⟨#[]⟩) := BD1.out.cell 2
  have y3 : w1.cell? ⟨w.heap.size + 1, 3, none⟩ = some (.int .i64 0) := BD1.out.cell 3
  go_wp2
  go_ret2
  exact ⟨rfl, HB1.out⟩

set_option maxHeartbeats 1000000 in
theorem float32_fin_false (t : ByteArray) (ex : Int) (w : World) (h : DigD (bys t) ex) : Calls Tryz.prog 36 #[w32, dcV 0 false t ex] w fun e w' => e = .returned (.tuple #[.int .u64 ((bitsOf 23 149 (infN 23 8) (decV (bys t) * 10 ^ ex.toNat) (10 ^ (-ex).toNat)) : Int), .int .i64 0]) ∧ Below w.heap.size w w' := by
  have NS := Nums.of h
  have hne : t.size ≠ 0 := fun e => h.1 (bys_nil.2 e)
  have MY := hide (fun W => may0_yes false t ex W (fun e => hne e.1) h)
  have FR := hide (fun W => frac32_any false t ex W h)
  obtain ⟨o, ho⟩ : ∃ o, o = decV (bys t) * 10 ^ ex.toNat := ⟨_, rfl⟩
  obtain ⟨u, hu⟩ : ∃ u, u = 10 ^ (-ex).toNat := ⟨_, rfl⟩
  rw [← ho, ← hu] at NS FR ⊢
  have NR := hide (fun oo lo co ou lu cu W a1 a2 => near32_any oo ou lo co lu cu o u W a1 a2 NS.fo NS.fu NS.o0 NS.u0)
  obtain ⟨r, hr⟩ : ∃ r, r = bitsOf 23 149 (infN 23 8) o u := ⟨_, rfl⟩
  have hrl : r ≤ 2139095040 := by rw [hr, ← inf32]; exact bitsOf_le _ _ _ _ _
  rw [← hr] at NR ⊢
  have ht := toList_ne hne
  clear h NS hne ho hu hr
  have BLW := hide ((Blk.new w #[.int .i64 23, .int .i64 8, .int .i64 (-149)] 57).alloc (.cells #[.int .i64 0, .bool false, .string t, .int .i64 ex] 23))
  have BLD := hide (Blk.newAt (w.alloc (.cells #[.int .i64 23, .int .i64 8, .int .i64 (-149)] 57)) (w.heap.size + 1) (by simp) #[.int .i64 0, .bool false, .string t, .int .i64 ex] 23)
  have HB0 : Hid (Below w.heap.size w ((w.alloc (.cells #[.int .i64 23, .int .i64 8, .int .i64 (-149)] 57)).alloc (.cells #[.int .i64 0, .bool false, .string t, .int .i64 ex] 23))) := ((Below.refl _ _).alloc (Nat.le_refl _) _).alloc (by simp) _
  go_enter Tryz.func36, Tryz.ntmps36
  go_wp2_with fail
  refine (MY.out _).mono ?_
  rintro e w1 ⟨rfl, hb⟩
  have BW1 := hide (BLW.out.below hb BLW.out.lt)
  have BD1 := hide (BLD.out.below hb BLD.out.lt)
  have HB1 := hide (HB0.out.trans (hb.mono HB0.out.size))
  clear hb BLW BLD HB0
  have x0 : w1.cell? ⟨w.heap.size, 0, none⟩ = some (.int .i64 23) := BW1.out.cell 0
  have x1 : w1.cell? ⟨w.heap.size, 1, none⟩ = some (.int .i64 8) := BW1.out.cell 1
  have x2 : w1.cell? ⟨w.heap.size, 2, none⟩ = some (.int .i64 (-149)) := BW1.out.cell 2
  have y0 : w1.cell? ⟨w.heap.size + 1, 0, none⟩ = some (.int .i64 0) := BD1.out.cell 0
  have y1 : w1.cell? ⟨w.heap.size + 1, 1, none⟩ = some (.bool false) := BD1.out.cell 1
  have y2 : w1.cell? ⟨w.heap.size + 1, 2, none⟩ = some (.string t) := BD1.out.cell 2
  have y3 : w1.cell? ⟨w.heap.size + 1, 3, none⟩ = some (.int .i64 ex) := BD1.out.cell 3
  go_wp2_with fail
  refine (FR.out _).mono ?_
  rintro e w2 ⟨oo, lo, co, ou, lu, cu, rfl, no, nu, hb⟩
  have BW2 := hide (BW1.out.below hb BW1.out.lt)
  have BD2 := hide (BD1.out.below hb BD1.out.lt)
  have HB2 := hide (HB1.out.trans (hb.mono HB1.out.size))
  have NO := hide no
  have NU := hide nu
  clear no nu
  clear hb BW1 BD1 HB1 x0 x1 x2 y0 y1 y2 y3
  have x0 : w2.cell? ⟨w.heap.size, 0, none⟩ = some (.int .i64 23) := BW2.out.cell 0
  have x1 : w2.cell? ⟨w.heap.size, 1, none⟩ = some (.int .i64 8) := BW2.out.cell 1
  have x2 : w2.cell? ⟨w.heap.size, 2, none⟩ = some (.int .i64 (-149)) := BW2.out.cell 2
  have y0 : w2.cell? ⟨w.heap.size + 1, 0, none⟩ = some (.int .i64 0) := BD2.out.cell 0
  have y1 : w2.cell? ⟨w.heap.size + 1, 1, none⟩ = some (.bool false) := BD2.out.cell 1
  have y2 : w2.cell? ⟨w.heap.size + 1, 2, none⟩ = some (.string t) := BD2.out.cell 2
  have y3 : w2.cell? ⟨w.heap.size + 1, 3, none⟩ = some (.int .i64 ex) := BD2.out.cell 3
  go_wp2_with fail
  refine (NR.out _ _ _ _ _ _ _ NO.out NU.out).mono ?_
  rintro e w3 ⟨rfl, hb⟩
  have BW3 := hide (BW2.out.below hb BW2.out.lt)
  have BD3 := hide (BD2.out.below hb BD2.out.lt)
  have HB3 := hide (HB2.out.trans (hb.mono HB2.out.size))
  clear hb BW2 BD2 HB2 x0 x1 x2 y0 y1 y2 y3
  have x0 : w3.cell? ⟨w.heap.size, 0, none⟩ = some (.int .i64 23) := BW3.out.cell 0
  have x1 : w3.cell? ⟨w.heap.size, 1, none⟩ = some (.int .i64 8) := BW3.out.cell 1
  have x2 : w3.cell? ⟨w.heap.size, 2, none⟩ = some (.int .i64 (-149)) := BW3.out.cell 2
  have y0 : w3.cell? ⟨w.heap.size + 1, 0, none⟩ = some (.int .i64 0) := BD3.out.cell 0
  have y1 : w3.cell? ⟨w.heap.size + 1, 1, none⟩ = some (.bool false) := BD3.out.cell 1
  have y2 : w3.cell? ⟨w.heap.size + 1, 2, none⟩ = some (.string t) := BD3.out.cell 2
  have y3 : w3.cell? ⟨w.heap.size + 1, 3, none⟩ = some (.int .i64 ex) := BD3.out.cell 3
  go_wp2
  go_ret2
  exact ⟨rfl, HB3.out⟩

set_option maxHeartbeats 1000000 in
theorem float32_inf_true (w : World) : Calls Tryz.prog 36 #[w32, dcV 1 true ⟨#[]⟩ 0] w fun e w' => e = .returned (.tuple #[.int .u64 4286578688, .int .i64 0]) ∧ Below w.heap.size w w' := by
  have MY := hide (fun W => may1_yes true W)
  have IN := hide (fun W => ninf32 W)
  have SGN := hide (fun W => nsign32 W)
  have OR := hide (show bits .or .u64 2139095040 2147483648 = 4286578688 by decide +kernel)
  have BLW := hide ((Blk.new w #[.int .i64 23, .int .i64 8, .int .i64 (-149)] 57).alloc (.cells #[.int .i64 1, .bool true, .string ⟨#[]⟩, .int .i64 0] 23))
  have BLD := hide (Blk.newAt (w.alloc (.cells #[.int .i64 23, .int .i64 8, .int .i64 (-149)] 57)) (w.heap.size + 1) (by simp) #[.int .i64 1, .bool true, .string ⟨#[]⟩, .int .i64 0] 23)
  have HB0 : Hid (Below w.heap.size w ((w.alloc (.cells #[.int .i64 23, .int .i64 8, .int .i64 (-149)] 57)).alloc (.cells #[.int .i64 1, .bool true, .string ⟨#[]⟩, .int .i64 0] 23))) := ((Below.refl _ _).alloc (Nat.le_refl _) _).alloc (by simp) _
  go_enter Tryz.func36, Tryz.ntmps36
  go_wp2_with fail
  refine (MY.out _).mono ?_
  rintro e w1 ⟨rfl, hb⟩
  have BW1 := hide (BLW.out.below hb BLW.out.lt)
  have BD1 := hide (BLD.out.below hb BLD.out.lt)
  have HB1 := hide (HB0.out.trans (hb.mono HB0.out.size))
  clear hb BLW BLD HB0
  have x0 : w1.cell? ⟨w.heap.size, 0, none⟩ = some (.int .i64 23) := BW1.out.cell 0
  have x1 : w1.cell? ⟨w.heap.size, 1, none⟩ = some (.int .i64 8) := BW1.out.cell 1
  have x2 : w1.cell? ⟨w.heap.size, 2, none⟩ = some (.int .i64 (-149)) := BW1.out.cell 2
  have y0 : w1.cell? ⟨w.heap.size + 1, 0, none⟩ = some (.int .i64 1) := BD1.out.cell 0
  have y1 : w1.cell? ⟨w.heap.size + 1, 1, none⟩ = some (.bool true) := BD1.out.cell 1
  have y2 : w1.cell? ⟨w.heap.size + 1, 2, none⟩ = some (.string ⟨#[]⟩) := BD1.out.cell 2
  have y3 : w1.cell? ⟨w.heap.size + 1, 3, none⟩ = some (.int .i64 0) := BD1.out.cell 3
  go_wp2_with fail
  refine (IN.out _).mono ?_
  rintro e w2 ⟨rfl, hb⟩
  have BW2 := hide (BW1.out.below hb BW1.out.lt)
  have BD2 := hide (BD1.out.below hb BD1.out.lt)
  have HB2 := hide (HB1.out.trans (hb.mono HB1.out.size))
  clear hb BW1 BD1 HB1 x0 x1 x2 y0 y1 y2 y3
  have x0 : w2.cell? ⟨w.heap.size, 0, none⟩ = some (.int .i64 23) := BW2.out.cell 0
  have x1 : w2.cell? ⟨w.heap.size, 1, none⟩ = some (.int .i64 8) := BW2.out.cell 1
  have x2 : w2.cell? ⟨w.heap.size, 2, none⟩ = some (.int .i64 (-149)) := BW2.out.cell 2
  have y0 : w2.cell? ⟨w.heap.size + 1, 0, none⟩ = some (.int .i64 1) := BD2.out.cell 0
  have y1 : w2.cell? ⟨w.heap.size + 1, 1, none⟩ = some (.bool true) := BD2.out.cell 1
  have y2 : w2.cell? ⟨w.heap.size + 1, 2, none⟩ = some (.string ⟨#[]⟩) := BD2.out.cell 2
  have y3 : w2.cell? ⟨w.heap.size + 1, 3, none⟩ = some (.int .i64 0) := BD2.out.cell 3
  go_wp2_with fail
  refine (SGN.out _).mono ?_
  rintro e w3 ⟨rfl, hb⟩
  have BW3 := hide (BW2.out.below hb BW2.out.lt)
  have BD3 := hide (BD2.out.below hb BD2.out.lt)
  have HB3 := hide (HB2.out.trans (hb.mono HB2.out.size))
  clear hb BW2 BD2 HB2 x0 x1 x2 y0 y1 y2 y3
  have x0 : w3.cell? ⟨w.heap.size, 0, none⟩ = some (.int .i64 23) := BW3.out.cell 0
  have x1 : w3.cell? ⟨w.heap.size, 1, none⟩ = some (.int .i64 8) := BW3.out.cell 1
  have x2 : w3.cell? ⟨w.heap.size, 2, none⟩ = some (.int .i64 (-149)) := BW3.out.cell 2
  have y0 : w3.cell? ⟨w.heap.size + 1, 0, none⟩ = some (.int .i64 1) := BD3.out.cell 0
  have y1 : w3.cell? ⟨w.heap.size + 1, 1, none⟩ = some (.bool true) := BD3.out.cell 1
  have y2 : w3.cell? ⟨w.heap.size + 1, 2, none⟩ = some (.string ⟨#[]⟩) := BD3.out.cell 2
  have y3 : w3.cell? ⟨w.heap.size + 1, 3, none⟩ = some (.int .i64 0) := BD3.out.cell 3
  go_wp2
  go_ret2
  refine ⟨?_, HB3.out⟩
  rw [← OR.out]
  rfl

set_option maxHeartbeats 1000000 in
theorem float32_zero_true (w : World) : Calls Tryz.prog 36 #[w32, dcV 0 true ⟨#[]⟩ 0] w fun e w' => e = .returned (.tuple #[.int .u64 2147483648, .int .i64 0]) ∧ Below w.heap.size w w' := by
  have MY := hide (fun W => may0_bare true W)
  have SGN := hide (fun W => nsign32 W)
  have OR := hide (show bits .or .u64 0 2147483648 = 2147483648 by decide +kernel)
  have BLW := hide ((Blk.new w #[.int .i64 23, .int .i64 8, .int .i64 (-149)] 57).alloc (.cells #[.int .i64 0, .bool true, .string ⟨#[]⟩, .int .i64 0] 23))
  have BLD := hide (Blk.newAt (w.alloc (.cells #[.int .i64 23, .int .i64 8, .int .i64 (-149)] 57)) (w.heap.size + 1) (by simp) #[.int .i64 0, .bool true, .string ⟨#[]⟩, .int .i64 0] 23)
  have HB0 : Hid (Below w.heap.size w ((w.alloc (.cells #[.int .i64 23, .int .i64 8, .int .i64 (-149)] 57)).alloc (.cells #[.int .i64 0, .bool true, .string ⟨#[]⟩, .int .i64 0] 23))) := ((Below.refl _ _).alloc (Nat.le_refl _) _).alloc (by simp) _
  go_enter Tryz.func36, Tryz.ntmps36
  go_wp2_with fail
  refine (MY.out _).mono ?_
  rintro e w1 ⟨rfl, hb⟩
  have BW1 := hide (BLW.out.below hb BLW.out.lt)
  have BD1 := hide (BLD.out.below hb BLD.out.lt)
  have HB1 := hide (HB0.out.trans (hb.mono HB0.out.size))
  clear hb BLW BLD HB0
  have x0 : w1.cell? ⟨w.heap.size, 0, none⟩ = some (.int .i64 23) := BW1.out.cell 0
  have x1 : w1.cell? ⟨w.heap.size, 1, none⟩ = some (.int .i64 8) := BW1.out.cell 1
  have x2 : w1.cell? ⟨w.heap.size, 2, none⟩ = some (.int .i64 (-149)) := BW1.out.cell 2
  have y0 : w1.cell? ⟨w.heap.size + 1, 0, none⟩ = some (.int .i64 0) := BD1.out.cell 0
  have y1 : w1.cell? ⟨w.heap.size + 1, 1, none⟩ = some (.bool true) := BD1.out.cell 1
  have y2 : w1.cell? ⟨w.heap.size + 1, 2, none⟩ = some (.string ⟨#[]⟩) := BD1.out.cell 2
  have y3 : w1.cell? ⟨w.heap.size + 1, 3, none⟩ = some (.int .i64 0) := BD1.out.cell 3
  go_wp2_with fail
  refine (SGN.out _).mono ?_
  rintro e w2 ⟨rfl, hb⟩
  have BW2 := hide (BW1.out.below hb BW1.out.lt)
  have BD2 := hide (BD1.out.below hb BD1.out.lt)
  have HB2 := hide (HB1.out.trans (hb.mono HB1.out.size))
  clear hb BW1 BD1 HB1 x0 x1 x2 y0 y1 y2 y3
  have x0 : w2.cell? ⟨w.heap.size, 0, none⟩ = some (.int .i64 23) := BW2.out.cell 0
  have x1 : w2.cell? ⟨w.heap.size, 1, none⟩ = some (.int .i64 8) := BW2.out.cell 1
  have x2 : w2.cell? ⟨w.heap.size, 2, none⟩ = some (.int .i64 (-149)) := BW2.out.cell 2
  have y0 : w2.cell? ⟨w.heap.size + 1, 0, none⟩ = some (.int .i64 0) := BD2.out.cell 0
  have y1 : w2.cell? ⟨w.heap.size + 1, 1, none⟩ = some (.bool true) := BD2.out.cell 1
  have y2 : w2.cell? ⟨w.heap.size + 1, 2, none⟩ = some (.string ⟨#[]⟩) := BD2.out.cell 2
  have y3 : w2.cell? ⟨w.heap.size + 1, 3, none⟩ = some (.int .i64 0) := BD2.out.cell 3
  go_wp2
  go_ret2
  refine ⟨?_, HB2.out⟩
  rw [← OR.out]
  rfl

set_option maxHeartbeats 1000000 in
theorem float32_fin_true (t : ByteArray) (ex : Int) (w : World) (h : DigD (bys t) ex) : Calls Tryz.prog 36 #[w32, dcV 0 true t ex] w fun e w' => e = .returned (.tuple #[.int .u64 (((bitsOf 23 149 (infN 23 8) (decV (bys t) * 10 ^ ex.toNat) (10 ^ (-ex).toNat)) + 2147483648 : Nat) : Int), .int .i64 0]) ∧ Below w.heap.size w w' := by
  have NS := Nums.of h
  have hne : t.size ≠ 0 := fun e => h.1 (bys_nil.2 e)
  have MY := hide (fun W => may0_yes true t ex W (fun e => hne e.1) h)
  have FR := hide (fun W => frac32_any true t ex W h)
  obtain ⟨o, ho⟩ : ∃ o, o = decV (bys t) * 10 ^ ex.toNat := ⟨_, rfl⟩
  obtain ⟨u, hu⟩ : ∃ u, u = 10 ^ (-ex).toNat := ⟨_, rfl⟩
  rw [← ho, ← hu] at NS FR ⊢
  have NR := hide (fun oo lo co ou lu cu W a1 a2 => near32_any oo ou lo co lu cu o u W a1 a2 NS.fo NS.fu NS.o0 NS.u0)
  obtain ⟨r, hr⟩ : ∃ r, r = bitsOf 23 149 (infN 23 8) o u := ⟨_, rfl⟩
  have hrl : r ≤ 2139095040 := by rw [hr, ← inf32]; exact bitsOf_le _ _ _ _ _
  rw [← hr] at NR ⊢
  have OR : Hid (bits .or .u64 (r : Int) 2147483648 = ((r + 2147483648 : Nat) : Int)) := or_top (k := 31) 2147483648 (by decide) (by omega) (by omega)
  have SGN := hide (fun W => nsign32 W)
  have ht := toList_ne hne
  clear h NS hne ho hu hr
  have BLW := hide ((Blk.new w #[.int .i64 23, .int .i64 8, .int .i64 (-149)] 57).alloc (.cells #[.int .i64 0, .bool true, .string t, .int .i64 ex] 23))
  have BLD := hide (Blk.newAt (w.alloc (.cells #[.int .i64 23, .int .i64 8, .int .i64 (-149)] 57)) (w.heap.size + 1) (by simp) #[.int .i64 0, .bool true, .string t, .int .i64 ex] 23)
  have HB0 : Hid (Below w.heap.size w ((w.alloc (.cells #[.int .i64 23, .int .i64 8, .int .i64 (-149)] 57)).alloc (.cells #[.int .i64 0, .bool true, .string t, .int .i64 ex] 23))) := ((Below.refl _ _).alloc (Nat.le_refl _) _).alloc (by simp) _
  go_enter Tryz.func36, Tryz.ntmps36
  go_wp2_with fail
  refine (MY.out _).mono ?_
  rintro e w1 ⟨rfl, hb⟩
  have BW1 := hide (BLW.out.below hb BLW.out.lt)
  have BD1 := hide (BLD.out.below hb BLD.out.lt)
  have HB1 := hide (HB0.out.trans (hb.mono HB0.out.size))
  clear hb BLW BLD HB0
  have x0 : w1.cell? ⟨w.heap.size, 0, none⟩ = some (.int .i64 23) := BW1.out.cell 0
  have x1 : w1.cell? ⟨w.heap.size, 1, none⟩ = some (.int .i64 8) := BW1.out.cell 1
  have x2 : w1.cell? ⟨w.heap.size, 2, none⟩ = some (.int .i64 (-149)) := BW1.out.cell 2
  have y0 : w1.cell? ⟨w.heap.size + 1, 0, none⟩ = some (.int .i64 0) := BD1.out.cell 0
  have y1 : w1.cell? ⟨w.heap.size + 1, 1, none⟩ = some (.bool true) := BD1.out.cell 1
  have y2 : w1.cell? ⟨w.heap.size + 1, 2, none⟩ = some (.string t) := BD1.out.cell 2
  have y3 : w1.cell? ⟨w.heap.size + 1, 3, none⟩ = some (.int .i64 ex) := BD1.out.cell 3
  go_wp2_with fail
  refine (FR.out _).mono ?_
  rintro e w2 ⟨oo, lo, co, ou, lu, cu, rfl, no, nu, hb⟩
  have BW2 := hide (BW1.out.below hb BW1.out.lt)
  have BD2 := hide (BD1.out.below hb BD1.out.lt)
  have HB2 := hide (HB1.out.trans (hb.mono HB1.out.size))
  have NO := hide no
  have NU := hide nu
  clear no nu
  clear hb BW1 BD1 HB1 x0 x1 x2 y0 y1 y2 y3
  have x0 : w2.cell? ⟨w.heap.size, 0, none⟩ = some (.int .i64 23) := BW2.out.cell 0
  have x1 : w2.cell? ⟨w.heap.size, 1, none⟩ = some (.int .i64 8) := BW2.out.cell 1
  have x2 : w2.cell? ⟨w.heap.size, 2, none⟩ = some (.int .i64 (-149)) := BW2.out.cell 2
  have y0 : w2.cell? ⟨w.heap.size + 1, 0, none⟩ = some (.int .i64 0) := BD2.out.cell 0
  have y1 : w2.cell? ⟨w.heap.size + 1, 1, none⟩ = some (.bool true) := BD2.out.cell 1
  have y2 : w2.cell? ⟨w.heap.size + 1, 2, none⟩ = some (.string t) := BD2.out.cell 2
  have y3 : w2.cell? ⟨w.heap.size + 1, 3, none⟩ = some (.int .i64 ex) := BD2.out.cell 3
  go_wp2_with fail
  refine (NR.out _ _ _ _ _ _ _ NO.out NU.out).mono ?_
  rintro e w3 ⟨rfl, hb⟩
  have BW3 := hide (BW2.out.below hb BW2.out.lt)
  have BD3 := hide (BD2.out.below hb BD2.out.lt)
  have HB3 := hide (HB2.out.trans (hb.mono HB2.out.size))
  clear hb BW2 BD2 HB2 x0 x1 x2 y0 y1 y2 y3
  have x0 : w3.cell? ⟨w.heap.size, 0, none⟩ = some (.int .i64 23) := BW3.out.cell 0
  have x1 : w3.cell? ⟨w.heap.size, 1, none⟩ = some (.int .i64 8) := BW3.out.cell 1
  have x2 : w3.cell? ⟨w.heap.size, 2, none⟩ = some (.int .i64 (-149)) := BW3.out.cell 2
  have y0 : w3.cell? ⟨w.heap.size + 1, 0, none⟩ = some (.int .i64 0) := BD3.out.cell 0
  have y1 : w3.cell? ⟨w.heap.size + 1, 1, none⟩ = some (.bool true) := BD3.out.cell 1
  have y2 : w3.cell? ⟨w.heap.size + 1, 2, none⟩ = some (.string t) := BD3.out.cell 2
  have y3 : w3.cell? ⟨w.heap.size + 1, 3, none⟩ = some (.int .i64 ex) := BD3.out.cell 3
  go_wp2_with fail
  refine (SGN.out _).mono ?_
  rintro e w4 ⟨rfl, hb⟩
  have BW4 := hide (BW3.out.below hb BW3.out.lt)
  have BD4 := hide (BD3.out.below hb BD3.out.lt)
  have HB4 := hide (HB3.out.trans (hb.mono HB3.out.size))
  clear hb BW3 BD3 HB3 x0 x1 x2 y0 y1 y2 y3
  have x0 : w4.cell? ⟨w.heap.size, 0, none⟩ = some (.int .i64 23) := BW4.out.cell 0
  have x1 : w4.cell? ⟨w.heap.size, 1, none⟩ = some (.int .i64 8) := BW4.out.cell 1
  have x2 : w4.cell? ⟨w.heap.size, 2, none⟩ = some (.int .i64 (-149)) := BW4.out.cell 2
  have y0 : w4.cell? ⟨w.heap.size + 1, 0, none⟩ = some (.int .i64 0) := BD4.out.cell 0
  have y1 : w4.cell? ⟨w.heap.size + 1, 1, none⟩ = some (.bool true) := BD4.out.cell 1
  have y2 : w4.cell? ⟨w.heap.size + 1, 2, none⟩ = some (.string t) := BD4.out.cell 2
  have y3 : w4.cell? ⟨w.heap.size + 1, 3, none⟩ = some (.int .i64 ex) := BD4.out.cell 3
  go_wp2
  go_ret2
  refine ⟨?_, HB4.out⟩
  rw [← OR.out]
  rfl

theorem sig32_f : sigN 23 8 false = 0 := rfl
theorem sig32_t : sigN 23 8 true = 2147483648 := by decide

/-- A Dec that may be: its float's bits. -/
theorem float32_yes (c : Int) (neg : Bool) (t : ByteArray) (ex : Int) (w : World) (h : MayD c neg (bys t) ex) : Calls Tryz.prog 36 #[w32, dcV c neg t ex] w fun e w' => e = .returned (.tuple #[.int .u64 ((toD 23 8 149 ⟨c.toNat, neg, bys t, ex⟩ : Nat) : Int), .int .i64 0]) ∧ Below w.heap.size w w' := by
  have h' := h
  rcases h with ⟨rfl, _⟩ | ⟨rfl, h1, rfl⟩ | ⟨rfl, rfl, h1, rfl⟩
  · rcases (mayD_0 neg t ex).1 h' with h1 | h1
    · obtain ⟨h1, rfl⟩ := h1
      rw [size_nil h1]
      have hd : toD 23 8 149 ⟨(0 : Int).toNat, neg, bys ⟨#[]⟩, 0⟩ = sigN 23 8 neg := by
        unfold toD
        rw [if_neg (by simp), if_neg (by simp), if_pos (by simp [bys])]
      rw [hd]
      cases neg with
      | false =>
        rw [sig32_f]
        exact float32_zero_false w
      | true =>
        rw [sig32_t]
        exact float32_zero_true w
    · have hd : toD 23 8 149 ⟨(0 : Int).toNat, neg, bys t, ex⟩ = bitsOf 23 149 (infN 23 8) (decV (bys t) * 10 ^ ex.toNat) (10 ^ (-ex).toNat) + sigN 23 8 neg := by
        unfold toD
        rw [if_neg (by simp), if_neg (by simp), if_neg h1.1]
        rfl
      rw [hd]
      cases neg with
      | false =>
        rw [sig32_f, Nat.add_zero]
        exact float32_fin_false t ex w h1
      | true =>
        rw [sig32_t]
        exact float32_fin_true t ex w h1
  · rw [size_nil (bys_nil.1 h1)]
    have hd : toD 23 8 149 ⟨(1 : Int).toNat, neg, bys ⟨#[]⟩, 0⟩ = infN 23 8 + sigN 23 8 neg := by
      unfold toD
      rw [if_neg (by simp), if_pos (by simp)]
    rw [hd, inf32]
    cases neg with
    | false =>
      rw [sig32_f, Nat.add_zero]
      exact float32_inf_false w
    | true =>
      rw [sig32_t, show 2139095040 + 2147483648 = 4286578688 by decide]
      exact float32_inf_true w
  · rw [size_nil (bys_nil.1 h1)]
    have hd : toD 23 8 149 ⟨(2 : Int).toNat, false, bys ⟨#[]⟩, 0⟩ = 2143289345 := by
      unfold toD
      rw [if_pos (by simp), inf32]
    rw [hd]
    exact float32_nan w

set_option maxRecDepth 100000 in
set_option maxHeartbeats 1000000 in
theorem to32_of (c : Int) (neg : Bool) (t : ByteArray) (ex : Int) (r : Nat) (er : Int) (w : World) (hr : (r : Int) < 4294967296)
    (FL : ∀ W, Calls Tryz.prog 36 #[w32, dcV c neg t ex] W fun e w' => e = .returned (.tuple #[.int .u64 (r : Int), .int .i64 er]) ∧ Below W.heap.size W w') :
    Calls Tryz.prog 15 #[dcV c neg t ex] w fun e w' => e = .returned (.tuple #[.int .u32 (r : Int), .int .i64 er]) ∧ Below w.heap.size w w' := by
  have FLH := hide FL
  have blk := Blk.new w #[.int .i64 c, .bool neg, .string t, .int .i64 ex] 23
  obtain ⟨W, hW⟩ : ∃ W, W = w.alloc (.cells #[.int .i64 c, .bool neg, .string t, .int .i64 ex] 23) := ⟨_, rfl⟩
  rw [← hW] at blk
  have HBW : Hid (Below w.heap.size w W) := by rw [hW]; exact (Below.refl _ _).alloc (Nat.le_refl _) _
  have BLK := hide blk
  have HW := hide hW
  have c0 : W.cell? ⟨w.heap.size, 0, none⟩ = some (.int .i64 c) := blk.cell 0
  have c1 : W.cell? ⟨w.heap.size, 1, none⟩ = some (.bool neg) := blk.cell 1
  have c2 : W.cell? ⟨w.heap.size, 2, none⟩ = some (.string t) := blk.cell 2
  have c3 : W.cell? ⟨w.heap.size, 3, none⟩ = some (.int .i64 ex) := blk.cell 3
  have b0 : Hid (Below W.heap.size W W.drew) := bdrew' W
  have C1 : Hid (Calls Tryz.prog 41 #[] W.drew fun e w' => e = .returned w32 ∧ Hid (Below W.heap.size W w') ∧ w'.cell? ⟨w.heap.size, 0, none⟩ = some (.int .i64 c) ∧ w'.cell? ⟨w.heap.size, 1, none⟩ = some (.bool neg) ∧ w'.cell? ⟨w.heap.size, 2, none⟩ = some (.string t) ∧ w'.cell? ⟨w.heap.size, 3, none⟩ = some (.int .i64 ex)) := by
    refine (nbinary32_any W.drew).mono ?_
    rintro e w' ⟨rfl, hb⟩
    have hbb := b0.out.trans (hb.mono b0.out.size)
    have q := BLK.out.below hbb BLK.out.lt
    exact ⟨rfl, hbb, q.cell 0, q.cell 1, q.cell 2, q.cell 3⟩
  have C2 : Hid (∀ w1, Hid (Below W.heap.size W w1) → Calls Tryz.prog 36 #[w32, .agg #[.int .i64 c, .bool neg, .string t, .int .i64 ex]] w1 fun e w' => e = .returned (.tuple #[.int .u64 (r : Int), .int .i64 er]) ∧ Hid (Below W.heap.size W w') ∧ w'.cell? ⟨w.heap.size, 0, none⟩ = some (.int .i64 c) ∧ w'.cell? ⟨w.heap.size, 1, none⟩ = some (.bool neg) ∧ w'.cell? ⟨w.heap.size, 2, none⟩ = some (.string t) ∧ w'.cell? ⟨w.heap.size, 3, none⟩ = some (.int .i64 ex)) := by
    intro w1 h1
    refine (FLH.out w1).mono ?_
    rintro e w' ⟨rfl, hb⟩
    have hbb := h1.out.trans (hb.mono h1.out.size)
    have q := BLK.out.below hbb BLK.out.lt
    exact ⟨rfl, hbb, q.cell 0, q.cell 1, q.cell 2, q.cell 3⟩
  clear FL blk hW FLH
  go_enter Tryz.func15, Tryz.ntmps15
  go_wp2_with fail
  simp only [← HW.out]
  have mk0 : True := trivial
  go_region_held3 (fun w' => w'.cell? ⟨w.heap.size, 0, none⟩ = some (.int .i64 c) ∧ w'.cell? ⟨w.heap.size, 1, none⟩ = some (.bool neg) ∧ w'.cell? ⟨w.heap.size, 2, none⟩ = some (.string t) ∧ w'.cell? ⟨w.heap.size, 3, none⟩ = some (.int .i64 ex)) (go_keep) (first
    | (clear mk0; go_at_call 41; refine C1.out.mono ?_; rintro e w1 ⟨rfl, b1, k0, k1, k2, k3⟩; have mk1 : True := trivial)
    | (clear mk1; go_at_call 36; refine (C2.out _ b1).mono ?_; rintro e w2 ⟨rfl, b2, m0, m1, m2, m3⟩; have mk2 : True := trivial))
  all_goals (
    have FIN := hide (HBW.out.trans (b2.out.mono HBW.out.size))
    clear b1 b2 C1 C2
    go_wp2
    go_ret2
    exact ⟨rfl, FIN.out⟩)

theorem to32_no (c : Int) (neg : Bool) (t : ByteArray) (ex : Int) (w : World) (h : ¬ MayD c neg (bys t) ex) : Calls Tryz.prog 15 #[dcV c neg t ex] w fun e w' => e = .returned (.tuple #[.int .u32 0, .int .i64 40]) ∧ Below w.heap.size w w' :=
  to32_of c neg t ex 0 40 w (by omega) (fun W => float32_no c neg t ex W h)

theorem toD_lt32 (d : DecT) : toD 23 8 149 d < 4294967296 := by
  have h1 := bitsOf_le 23 149 (infN 23 8) (dOver d) (dUnder d)
  have h2 : sigN 23 8 d.neg ≤ 2147483648 := by unfold sigN; split <;> decide
  unfold toD
  rw [inf32] at *
  split
  · decide
  · split
    · omega
    · split <;> omega

theorem to32_yes (c : Int) (neg : Bool) (t : ByteArray) (ex : Int) (w : World) (h : MayD c neg (bys t) ex) : Calls Tryz.prog 15 #[dcV c neg t ex] w fun e w' => e = .returned (.tuple #[.int .u32 ((toD 23 8 149 ⟨c.toNat, neg, bys t, ex⟩ : Nat) : Int), .int .i64 0]) ∧ Below w.heap.size w w' :=
  to32_of c neg t ex _ 0 w (by have := toD_lt32 ⟨c.toNat, neg, bys t, ex⟩; omega) (fun W => float32_yes c neg t ex W h)

end Go.Proofs.YtlhekeifffofjaaGreatDoor

namespace Go.Proofs.YtlhekeifffofjaaGreatDoor
open Go.RowKit

theorem p2N_lt {n : Int} {j : Nat} (h1 : -(j : Int) < n) (h2 : n < j) : p2N n < 10 ^ j := by
  have key : ∀ k : Nat, k < j → 10 ^ k < 10 ^ j := fun k hk => (Nat.pow_lt_pow_iff_right (by omega : 1 < 10)).2 hk
  unfold p2N
  split
  · exact Nat.lt_of_le_of_lt (Nat.pow_le_pow_left (by omega) _) (key _ (by omega))
  · exact Nat.lt_of_le_of_lt (Nat.pow_le_pow_left (by omega) _) (key _ (by omega))

theorem p2N_sm {n : Int} (j : Nat) (h1 : -(j : Int) < n) (h2 : n < j) (hj : j ≤ 8000) : Sm (p2N n) := Sm.of (p2N_lt h1 h2) hj

theorem small17 {n : Nat} (h : n < 10 ^ 17) : n < B64 ∧ Sm n := by
  have : (10 : Nat) ^ 17 = 100000000000000000 := by decide
  exact ⟨by unfold B64; omega, Sm.of h (by omega)⟩

theorem mul_lt10 {a b i j : Nat} (h1 : a < 10 ^ i) (h2 : b < 10 ^ j) : a * b < 10 ^ (i + j) := by
  rw [Nat.pow_add]
  exact Nat.mul_lt_mul_of_lt_of_lt h1 h2

theorem fNum_lt17 {F x m : Nat} (hF : F ≤ 52) (hm : m < 2 ^ F) : fNum F x m * 4 < 10 ^ 17 := by
  have a := fNum_lt (x := x) hm
  have b : (2 : Nat) ^ (F + 1) ≤ 2 ^ 53 := Nat.pow_le_pow_right (by omega) (by omega)
  have e1 : (2 : Nat) ^ 53 * 4 < 10 ^ 17 := by decide
  omega

/-- Text and exponent are answered. -/
def TxtPost (w : World) (N : Nat) (ex : Int) (e : Ending) (w' : World) : Prop := e = .returned (.tuple #[.string ⟨(Lib.decDigits N).toArray⟩, .int .i64 ex]) ∧ Below w.heap.size w w'

set_option maxHeartbeats 1000000 in
theorem all_any (F X B x m : Nat) (w : World) (hF : F ≤ 52) (hB : B ≤ 2000) (hx : x ≤ 5000) (hm : m < 2 ^ F) (h1 : -1074 ≤ fPow B x) (h2 : fPow B x ≤ 971) (htab : Tab w) :
    Calls Tryz.prog 46 #[widV F X B, .int .u64 (x : Int), .int .u64 (m : Int)] w (TxtPost w (allD F B x m).1 (allD F B x m).2) := by
  have AM := fun W => amount_any F X B x m W hF hB hx hm
  have h17 := fNum_lt17 (x := x) hF hm
  have s17 := small17 (n := fNum F x m) (by omega)
  have hf : Hid (fNum F x m < B64 ∧ Sm (fNum F x m) ∧ Sm (p2N (fPow B x))) := ⟨s17.1, s17.2, p2N_sm 1081 (by omega) (by omega) (by omega)⟩
  clear s17
  obtain ⟨nn, hnn⟩ : ∃ nn, nn = fNum F x m := ⟨_, rfl⟩
  obtain ⟨pp, hpp⟩ : ∃ pp, pp = fPow B x := ⟨_, rfl⟩
  have AM' : Hid (∀ W, Calls Tryz.prog 71 #[widV F X B, .int .u64 (x : Int), .int .u64 (m : Int)] W fun e w' => e = .returned (.tuple #[.int .u64 (nn : Int), .int .i64 pp]) ∧ Below W.heap.size W w') := by rw [hnn, hpp]; exact AM
  unfold allD
  rw [← hpp] at h1 h2 hf ⊢
  rw [← hnn] at hf ⊢
  have HT := hide htab
  clear AM hnn hpp h17 hm htab
  go_enter Tryz.func46, Tryz.ntmps46
  go_wp2_with fail
  refine (AM'.out _).mono ?_
  rintro e w1 ⟨rfl, hb1⟩
  go_wp2_with fail
  refine (nt_power pp _ (by omega) (by omega)).mono ?_
  rintro e w2 ⟨v, rfl, hv, hb2, _⟩
  obtain ⟨o, c, xs, rfl, _⟩ := id hv
  have HV := hide hv
  have hbw : Below w.heap.size w w2 := ((Below.refl _ _).alloc (Nat.le_refl _) _).trans ((hb1.mono (by simp)).trans (hb2.mono (by have := hb1.size; simp at this; omega)))
  have HB := hide hbw
  clear hv hb1 hb2 hbw
  go_wp2_with fail
  refine (nt_of nn _ hf.out.1).mono ?_
  rintro e w3 ⟨v3, rfl, hv3, hb3, _⟩
  go_wp2_with fail
  refine (nt_mul v3 _ nn (p2N pp) _ hv3 (HV.out.below hb3) hf.out.2.1 hf.out.2.2).mono ?_
  rintro e w4 ⟨v4, rfl, hv4, hb4, _⟩
  have hb04 : Below w.heap.size w w4 := HB.out.trans ((hb3.mono HB.out.size).trans (hb4.mono (by have := HB.out.size; have := hb3.size; omega)))
  have HB4 := hide hb04
  clear hb3 hb4 hv3 hb04
  go_wp2_with fail
  refine (nt_text v4 _ _ hv4 (HT.out.below HB4.out)).mono ?_
  rintro e w5 ⟨rfl, hb5⟩
  have HB5 := hide (HB4.out.trans (hb5.mono HB4.out.size))
  clear hb5 hv4
  go_wp2
  go_ret2
  exact ⟨rfl, HB5.out⟩

/-- What reachOf answers: three numbers, whether the ends are in reach, and the exponent. -/
structure ReachAt (w' : World) (r : Near) (va vl vh : Value) : Prop where
  amt : Nt w' va r.amt
  lo : Nt w' vl r.lo
  hi : Nt w' vh r.hi

def ReachPost (w : World) (r : Near) (ex : Int) (e : Ending) (w' : World) : Prop :=
  ∃ oa la ca ol ll cl oh lh ch, e = .returned (.tuple #[reachV (.slice oa la ca) (.slice ol ll cl) (.slice oh lh ch) r.clo, .int .i64 ex]) ∧ ReachAt w' r (.slice oa la ca) (.slice ol ll cl) (.slice oh lh ch) ∧ Below w.heap.size w w'

theorem results_cell2 {fn : Func} {a b : Tmp} (h : fn.results = #[.cell a 88, .tmp b]) (tmps : Array Value) (H : Nat) (x0 x1 x2 x3 y : Value) (w : World) (ht : tmps.getD a undef = .pointer (some ⟨H, 0, none⟩)) (hy : tmps.getD b undef = y) (hp : Blk w H #[x0, x1, x2, x3] 88) :
    (results fn tmps).run Tryz.prog w = .ok (.tuple #[.agg #[x0, x1, x2, x3], y]) w := by
  have c0 := hp.cell 0
  have c1 := hp.cell 1
  have c2 := hp.cell 2
  have c3 := hp.cell 3
  simp at c0 c1 c2 c3
  rw [Array.getD_eq_getD_getElem?] at ht hy
  simp [results, h, ht, hy, go_sem, c0, c1, c2, c3]

set_option maxHeartbeats 2000000 in
theorem reach_any (F X B x m : Nat) (w : World) (hF : F ≤ 52) (hB : B ≤ 2000) (hx : x ≤ 5000) (hm : m < 2 ^ F) (h1 : -1074 ≤ fPow B x) (h2 : fPow B x ≤ 971) :
    Calls Tryz.prog 63 #[widV F X B, .int .u64 (x : Int), .int .u64 (m : Int)] w (ReachPost w (nearOf F B x m) (p2E (fPow B x - 2))) := by
  have AM := fun W => amount_any F X B x m W hF hB hx hm
  have h17 := fNum_lt17 (x := x) hF hm
  have s17 := small17 h17
  have hm64 : m < 4503599627370496 := Nat.lt_of_lt_of_le hm (Nat.pow_le_pow_right (by omega) hF)
  obtain ⟨nn, hnn⟩ : ∃ nn, nn = fNum F x m := ⟨_, rfl⟩
  obtain ⟨pp, hpp⟩ : ∃ pp, pp = fPow B x := ⟨_, rfl⟩
  obtain ⟨q, hq⟩ : ∃ q, q = p2N (pp - 2) := ⟨_, rfl⟩
  have hf : Hid (nn * 4 < B64 ∧ Sm (nn * 4) ∧ Sm q ∧ Sm 2) := ⟨by rw [hnn]; exact s17.1, by rw [hnn]; exact s17.2, by rw [hq]; exact p2N_sm 1081 (by omega) (by omega) (by omega), Sm.of (k := 1) (by omega) (by omega)⟩
  have PW : Hid (∀ W, Calls Tryz.prog 72 #[.int .i64 (pp - 2)] W (NtErr W q (p2E (pp - 2)))) := by
    intro W; rw [hq]; exact nt_power _ W (by omega) (by omega)
  have AM' : Hid (∀ W, Calls Tryz.prog 71 #[widV F X B, .int .u64 (x : Int), .int .u64 (m : Int)] W fun e w' => e = .returned (.tuple #[.int .u64 (nn : Int), .int .i64 pp]) ∧ Below W.heap.size W w') := by rw [hnn, hpp]; exact AM
  have NR : Hid (nearOf F B x m = ⟨q * (nn * 4), if m = 0 ∧ 1 < x then q else q * 2, q * 2, decide (m % 2 = 0)⟩) := by rw [hq, hnn, hpp]; rfl
  have h4 : nn < 4611686018427387904 := by
    have : (10 : Nat) ^ 17 = 100000000000000000 := by decide
    omega
  rw [← hpp] at h1 h2 ⊢
  clear AM hnn hpp h17 hm s17 hq hF
  have blk := Blk.newAt (w.alloc (.cells #[.int .i64 (F : Int), .int .i64 (X : Int), .int .i64 (-(B : Int))] 65)) (w.heap.size + 1) (by simp) #[.slice none 0 0, .slice none 0 0, .slice none 0 0, .bool false] 88
  have BLK := hide blk
  have hb0 : Below w.heap.size w ((w.alloc (.cells #[.int .i64 (F : Int), .int .i64 (X : Int), .int .i64 (-(B : Int))] 65)).alloc (.cells #[.slice none 0 0, .slice none 0 0, .slice none 0 0, .bool false] 88)) := ((Below.refl _ _).alloc (Nat.le_refl _) _).alloc (by simp) _
  have HB0 := hide hb0
  clear blk hb0
  go_enter Tryz.func63, Tryz.ntmps63
  go_wp2_with fail
  refine (AM'.out _).mono ?_
  rintro e w1 ⟨rfl, hb1⟩
  have BLK1 := hide (BLK.out.below hb1 BLK.out.lt)
  have HB1 := hide (HB0.out.trans (hb1.mono (by simp; omega)))
  clear hb1 BLK HB0 AM'
  go_wp2_with fail
  refine (PW.out _).mono ?_
  rintro e w2 ⟨vq, rfl, hvq, hb2, fq⟩
  obtain ⟨oq, cq, xq, rfl, _⟩ := id hvq
  have BLK2 := hide (BLK1.out.below hb2 BLK1.out.lt)
  have HB2 := hide (HB1.out.trans (hb2.mono HB1.out.size))
  have FQ : Hid (Far (w.heap.size + 2) (.slice oq xq.length cq)) := fq.mono (by have := BLK1.out.lt; omega)
  have HQ := hide hvq
  clear hb2 BLK1 HB1 PW fq hvq
  go_wp2_with fail
  refine (nt_of 2 _ (by decide)).mono ?_
  rintro e w3 ⟨v3, rfl, hv3, hb3, _⟩
  go_wp2_with fail
  refine (nt_mul _ v3 q 2 _ (HQ.out.below hb3) hv3 hf.out.2.2.1 hf.out.2.2.2).mono ?_
  rintro e w4 ⟨v4, rfl, hv4, hb4, f4⟩
  obtain ⟨o4, c4, x4, rfl, _⟩ := id hv4
  have hb34 := hb3.trans (hb4.mono hb3.size)
  have BLK4 := hide (BLK2.out.below hb34 BLK2.out.lt)
  have HB4 := hide (HB2.out.trans (hb34.mono HB2.out.size))
  have F4 : Hid (Far (w.heap.size + 2) (.slice o4 x4.length c4)) := f4.mono (by have := BLK2.out.lt; have := hb3.size; omega)
  have H4 := hide hv4
  have HQ4 := hide (HQ.out.below hb34)
  clear hb3 hb4 hb34 hv3 hv4 f4 BLK2 HB2 HQ
  have END : ∀ (ol : Option Addr) (ll cl : Nat) (lo : Nat), (if m = 0 ∧ 1 < x then q else q * 2) = lo → Nt w4 (.slice ol ll cl) lo → Far (w.heap.size + 2) (.slice ol ll cl) → ∀ (w5 : World) (o5 : Option Addr) (l5 c5 : Nat), Below w4.heap.size w4 w5 → Nt w5 (.slice o5 l5 c5) (q * (nn * 4)) → Far w4.heap.size (.slice o5 l5 c5) →
      ReachPost w (nearOf F B x m) (p2E (pp - 2)) (.returned (.tuple #[.agg #[.slice o5 l5 c5, .slice ol ll cl, .slice o4 x4.length c4, .bool (decide (m % 2 = 0))], .int .i64 (p2E (pp - 2))]))
        ((((w5.setCell ⟨w.heap.size + 1, 0, none⟩ (.slice o5 l5 c5)).setCell ⟨w.heap.size + 1, 1, none⟩ (.slice ol ll cl)).setCell ⟨w.heap.size + 1, 2, none⟩ (.slice o4 x4.length c4)).setCell ⟨w.heap.size + 1, 3, none⟩ (.bool (decide (m % 2 = 0)))) := by
    intro ol ll cl lo hlo n1 g1 w5 o5 l5 c5 hb5 n5 g5
    have hlt := BLK4.out.lt
    have hb := HB4.out.trans (hb5.mono HB4.out.size)
    have put : ∀ {v : Value} {n : Nat}, Nt w5 v n → Far (w.heap.size + 2) v → Nt ((((w5.setCell ⟨w.heap.size + 1, 0, none⟩ (.slice o5 l5 c5)).setCell ⟨w.heap.size + 1, 1, none⟩ (.slice ol ll cl)).setCell ⟨w.heap.size + 1, 2, none⟩ (.slice o4 x4.length c4)).setCell ⟨w.heap.size + 1, 3, none⟩ (.bool (decide (m % 2 = 0)))) v n := fun h g =>
      (((h.put g (by simp) _).put g (by simp) _).put g (by simp) _).put g (by simp) _
    refine ⟨o5, l5, c5, ol, ll, cl, o4, x4.length, c4, by rw [NR.out], ?_, (((hb.setCell (by simp) _).setCell (by simp) _).setCell (by simp) _).setCell (by simp) _⟩
    rw [NR.out]
    exact ⟨put n5 (g5.mono (by omega)), by rw [hlo]; exact put (n1.below hb5) g1, put (H4.out.below hb5) F4.out⟩
  have HE := hide END
  have OF : Hid (∀ W, Calls Tryz.prog 70 #[.int .u64 ((nn : Int) * 4)] W (NtPost W (nn * 4))) := by
    intro W
    rw [show (nn : Int) * 4 = ((nn * 4 : Nat) : Int) by omega]
    exact nt_of _ W hf.out.1
  have ODD : Hid (((m : Int) % 2 == 0) = decide (m % 2 = 0)) := by
    by_cases h : m % 2 = 0
    · have : (m : Int) % 2 = 0 := by omega
      show ((m : Int) % 2 == 0) = decide (m % 2 = 0)
      rw [this, decide_eq_true h]; rfl
    · have h' : ¬ (m : Int) % 2 = 0 := by omega
      show ((m : Int) % 2 == 0) = decide (m % 2 = 0)
      rw [decide_eq_false h]; simpa using h'
  clear END
  by_cases hmx : m = 0
  · by_cases hx1 : 1 < x
    · have e1 : (m : Int) = 0 := by omega
      have e2 : (1 : Int) < (x : Int) := by omega
      have IF : Hid ((if m = 0 ∧ 1 < x then q else q * 2) = q) := if_pos ⟨hmx, hx1⟩
      have EV : Hid (decide (m % 2 = 0) = true) := decide_eq_true (by rw [hmx])
      clear hmx hx1 ODD
      go_wp2_with fail
      refine (OF.out _).mono ?_
      rintro e w5 ⟨v5, rfl, hv5, hb5, _⟩
      go_wp2_with fail
      refine (nt_mul _ v5 q (nn * 4) _ (HQ4.out.below hb5) hv5 hf.out.2.2.1 hf.out.2.1).mono ?_
      rintro e w6 ⟨v6, rfl, hv6, hb6, f6⟩
      obtain ⟨o6, c6, x6, rfl, _⟩ := id hv6
      have hb46 := hb5.trans (hb6.mono hb5.size)
      have pr := BLK4.out.below hb46 BLK4.out.lt
      have PR := hide pr
      have k0 := pr.cell 0
      have f0r := pr.free 0
      have k1 := pr.cell 1
      have f1r := pr.free 1
      have k2 := pr.cell 2
      have f2r := pr.free 2
      have k3 := pr.cell 3
      have f3r := pr.free 3
      simp only [List.getElem?_toArray, List.getElem?_cons_succ, List.getElem?_cons_zero] at k0 k1 k2 k3
      have FIN := hide (HE.out oq xq.length cq q IF.out HQ4.out FQ.out w6 o6 x6.length c6 hb46 hv6 (f6.mono hb5.size))
      clear pr hb5 hb6 hb46 hv5 hv6 f6 HE
      go_wp2
      refine bodyPost_ret (results_cell2 rfl _ _ _ _ _ _ _ _ rfl rfl (PR.out.put4 _ _ _ _)) rfl ?_
      have fin := FIN.out
      rw [EV.out] at fin
      exact fin
    · have e1 : (m : Int) = 0 := by omega
      have e2 : ¬ (1 : Int) < (x : Int) := by omega
      have IF : Hid ((if m = 0 ∧ 1 < x then q else q * 2) = q * 2) := if_neg (fun h => hx1 h.2)
      have EV : Hid (decide (m % 2 = 0) = true) := decide_eq_true (by rw [hmx])
      clear hmx hx1 ODD
      go_wp2_with fail
      refine (OF.out _).mono ?_
      rintro e w5 ⟨v5, rfl, hv5, hb5, _⟩
      go_wp2_with fail
      refine (nt_mul _ v5 q (nn * 4) _ (HQ4.out.below hb5) hv5 hf.out.2.2.1 hf.out.2.1).mono ?_
      rintro e w6 ⟨v6, rfl, hv6, hb6, f6⟩
      obtain ⟨o6, c6, x6, rfl, _⟩ := id hv6
      have hb46 := hb5.trans (hb6.mono hb5.size)
      have pr := BLK4.out.below hb46 BLK4.out.lt
      have PR := hide pr
      have k0 := pr.cell 0
      have f0r := pr.free 0
      have k1 := pr.cell 1
      have f1r := pr.free 1
      have k2 := pr.cell 2
      have f2r := pr.free 2
      have k3 := pr.cell 3
      have f3r := pr.free 3
      simp only [List.getElem?_toArray, List.getElem?_cons_succ, List.getElem?_cons_zero] at k0 k1 k2 k3
      have FIN := hide (HE.out o4 x4.length c4 (q * 2) IF.out H4.out F4.out w6 o6 x6.length c6 hb46 hv6 (f6.mono hb5.size))
      clear pr hb5 hb6 hb46 hv5 hv6 f6 HE
      go_wp2
      refine bodyPost_ret (results_cell2 rfl _ _ _ _ _ _ _ _ rfl rfl (PR.out.put4 _ _ _ _)) rfl ?_
      have fin := FIN.out
      rw [EV.out] at fin
      exact fin
  · have e1 : ¬ (m : Int) = 0 := by omega
    have IF : Hid ((if m = 0 ∧ 1 < x then q else q * 2) = q * 2) := if_neg (fun h => hmx h.1)
    clear hmx
    go_wp2_with fail
    refine (OF.out _).mono ?_
    rintro e w5 ⟨v5, rfl, hv5, hb5, _⟩
    go_wp2_with fail
    refine (nt_mul _ v5 q (nn * 4) _ (HQ4.out.below hb5) hv5 hf.out.2.2.1 hf.out.2.1).mono ?_
    rintro e w6 ⟨v6, rfl, hv6, hb6, f6⟩
    obtain ⟨o6, c6, x6, rfl, _⟩ := id hv6
    have hb46 := hb5.trans (hb6.mono hb5.size)
    have pr := BLK4.out.below hb46 BLK4.out.lt
    have PR := hide pr
    have k0 := pr.cell 0
    have f0r := pr.free 0
    have k1 := pr.cell 1
    have f1r := pr.free 1
    have k2 := pr.cell 2
    have f2r := pr.free 2
    have k3 := pr.cell 3
    have f3r := pr.free 3
    simp only [List.getElem?_toArray, List.getElem?_cons_succ, List.getElem?_cons_zero] at k0 k1 k2 k3
    have FIN := hide (HE.out o4 x4.length c4 (q * 2) IF.out H4.out F4.out w6 o6 x6.length c6 hb46 hv6 (f6.mono hb5.size))
    clear pr hb5 hb6 hb46 hv5 hv6 f6 HE
    go_wp2
    rw [ODD.out]
    refine bodyPost_ret (results_cell2 rfl _ _ _ _ _ _ _ _ rfl rfl (PR.out.put4 _ _ _ _)) rfl ?_
    exact FIN.out

end Go.Proofs.YtlhekeifffofjaaGreatDoor
