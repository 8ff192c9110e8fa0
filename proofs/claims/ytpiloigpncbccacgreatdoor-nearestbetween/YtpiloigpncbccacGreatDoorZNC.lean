/-
  What nearest's binary64, binary32, sign, infinity, noNumber and join do.
  nat's and whole's calls as package nearest makes them: over numbers, wherever their limbs lie.
  What nearest's divided and highest do.
  What (fraction).nearest does: the bits of the nearest float.
  What nearest's bare, areDigits, mayDigits and may do.
-/
import Derived.Test.YtpiloigpncbccacGreatDoorZSC
import Derived.Test.YtpiloigpncbccacGreatDoorZNM
import Derived.Deep.RegionHeld3
import Derived.Test.YtpiloigpncbccacGreatDoorAdd
import Derived.Test.YtpiloigpncbccacGreatDoorUint
import Derived.Test.YtpiloigpncbccacGreatDoorZParse
import Derived.Deep.QuietTactic
import Derived.BigQuiet
import Derived.WalkSmall
namespace Go.Proofs.YtpiloigpncbccacGreatDoor
open Go.RowKit

theorem nbinary64_any (w : World) : Calls Tryz.prog 27 #[] w fun e w' => e = .returned w64 ∧ Below w.heap.size w w' := by
  go_enter Tryz.func27, Tryz.ntmps27
  go_wp2
  go_returns
  exact ⟨rfl, (Below.refl _ _).alloc (Nat.le_refl _) _⟩

theorem nsign64 (w : World) : Calls Tryz.prog 51 #[w64] w fun e w' => e = .returned (.int .u64 9223372036854775808) ∧ Below w.heap.size w w' := by
  go_enter Tryz.func51, Tryz.ntmps51
  go_wp2
  go_returns
  exact ⟨rfl, (Below.refl _ _).alloc (Nat.le_refl _) _⟩

set_option maxHeartbeats 1000000 in
theorem ninf64 (w : World) : Calls Tryz.prog 48 #[w64] w fun e w' => e = .returned (.int .u64 9218868437227405312) ∧ Below w.heap.size w w' := by
  have CC := fun W => nsign64 W
  have blk := Blk.new w #[.int .i64 52, .int .i64 11, .int .i64 (-1074)] 56
  obtain ⟨W, hW⟩ : ∃ W, W = w.alloc (.cells #[.int .i64 52, .int .i64 11, .int .i64 (-1074)] 56) := ⟨_, rfl⟩
  rw [← hW] at blk
  have HBW : Hid (Below w.heap.size w W) := by rw [hW]; exact (Below.refl _ _).alloc (Nat.le_refl _) _
  have BLK := hide blk
  have HW := hide hW
  have c0 : W.cell? ⟨w.heap.size, 0, none⟩ = some (.int .i64 52) := blk.cell 0
  have c1 : W.cell? ⟨w.heap.size, 1, none⟩ = some (.int .i64 11) := blk.cell 1
  have c2 : W.cell? ⟨w.heap.size, 2, none⟩ = some (.int .i64 (-1074)) := blk.cell 2
  have b0 : Hid (Below W.heap.size W W.drew) := bdrew' W
  clear blk hW
  have C1 : Hid (Calls Tryz.prog 51 #[w64] W.drew fun e w' => e = .returned (.int .u64 9223372036854775808) ∧ Hid (Below W.heap.size W w') ∧ w'.cell? ⟨w.heap.size, 0, none⟩ = some (.int .i64 52) ∧ w'.cell? ⟨w.heap.size, 1, none⟩ = some (.int .i64 11) ∧ w'.cell? ⟨w.heap.size, 2, none⟩ = some (.int .i64 (-1074))) := by
    refine (CC W.drew).mono ?_
    rintro e w' ⟨rfl, hb⟩
    have hbb := b0.out.trans (hb.mono b0.out.size)
    have q := BLK.out.below hbb BLK.out.lt
    exact ⟨rfl, hbb, q.cell 0, q.cell 1, q.cell 2⟩
  clear CC
  go_enter Tryz.func48, Tryz.ntmps48
  go_wp2_with fail
  simp only [← HW.out]
  have mk0 : True := trivial
  go_region_held3 (fun w' => w'.cell? ⟨w.heap.size, 0, none⟩ = some (.int .i64 52) ∧ w'.cell? ⟨w.heap.size, 1, none⟩ = some (.int .i64 11) ∧ w'.cell? ⟨w.heap.size, 2, none⟩ = some (.int .i64 (-1074))) (go_keep) (first
    | (clear mk0; go_at_call 51; refine C1.out.mono ?_; rintro e w1 ⟨rfl, b1, k0, k1, k2⟩; have mk1 : True := trivial))
  all_goals (
    have FIN := hide (HBW.out.trans (b1.out.mono HBW.out.size))
    clear b1
    go_wp2
    go_ret
    exact ⟨rfl, FIN.out⟩)

set_option maxHeartbeats 1000000 in
theorem nnan64 (w : World) : Calls Tryz.prog 47 #[w64] w fun e w' => e = .returned (.int .u64 9221120237041090561) ∧ Below w.heap.size w w' := by
  have CC := fun W => ninf64 W
  have blk := Blk.new w #[.int .i64 52, .int .i64 11, .int .i64 (-1074)] 56
  obtain ⟨W, hW⟩ : ∃ W, W = w.alloc (.cells #[.int .i64 52, .int .i64 11, .int .i64 (-1074)] 56) := ⟨_, rfl⟩
  rw [← hW] at blk
  have HBW : Hid (Below w.heap.size w W) := by rw [hW]; exact (Below.refl _ _).alloc (Nat.le_refl _) _
  have BLK := hide blk
  have HW := hide hW
  have c0 : W.cell? ⟨w.heap.size, 0, none⟩ = some (.int .i64 52) := blk.cell 0
  have c1 : W.cell? ⟨w.heap.size, 1, none⟩ = some (.int .i64 11) := blk.cell 1
  have c2 : W.cell? ⟨w.heap.size, 2, none⟩ = some (.int .i64 (-1074)) := blk.cell 2
  have b0 : Hid (Below W.heap.size W W.drew) := bdrew' W
  clear blk hW
  have C1 : Hid (Calls Tryz.prog 48 #[w64] W.drew fun e w' => e = .returned (.int .u64 9218868437227405312) ∧ Hid (Below W.heap.size W w') ∧ w'.cell? ⟨w.heap.size, 0, none⟩ = some (.int .i64 52) ∧ w'.cell? ⟨w.heap.size, 1, none⟩ = some (.int .i64 11) ∧ w'.cell? ⟨w.heap.size, 2, none⟩ = some (.int .i64 (-1074))) := by
    refine (CC W.drew).mono ?_
    rintro e w' ⟨rfl, hb⟩
    have hbb := b0.out.trans (hb.mono b0.out.size)
    have q := BLK.out.below hbb BLK.out.lt
    exact ⟨rfl, hbb, q.cell 0, q.cell 1, q.cell 2⟩
  clear CC
  have ew : IntKind.i64.wrap 51 = 51 := by decide
  go_enter Tryz.func47, Tryz.ntmps47
  go_wp2_with fail
  simp only [← HW.out]
  have mk0 : True := trivial
  go_region_held3 (fun w' => w'.cell? ⟨w.heap.size, 0, none⟩ = some (.int .i64 52) ∧ w'.cell? ⟨w.heap.size, 1, none⟩ = some (.int .i64 11) ∧ w'.cell? ⟨w.heap.size, 2, none⟩ = some (.int .i64 (-1074))) (go_keep) (first
    | (clear mk0; go_at_call 48; refine C1.out.mono ?_; rintro e w1 ⟨rfl, b1, k0, k1, k2⟩; have mk1 : True := trivial))
  all_goals (
    have FIN := hide (HBW.out.trans (b1.out.mono HBW.out.size))
    clear b1
    go_wp2
    go_ret
    exact ⟨rfl, FIN.out⟩)

theorem nbinary32_any (w : World) : Calls Tryz.prog 44 #[] w fun e w' => e = .returned w32 ∧ Below w.heap.size w w' := by
  go_enter Tryz.func44, Tryz.ntmps44
  go_wp2
  go_returns
  exact ⟨rfl, (Below.refl _ _).alloc (Nat.le_refl _) _⟩

theorem nsign32 (w : World) : Calls Tryz.prog 51 #[w32] w fun e w' => e = .returned (.int .u64 2147483648) ∧ Below w.heap.size w w' := by
  go_enter Tryz.func51, Tryz.ntmps51
  go_wp2
  go_returns
  exact ⟨rfl, (Below.refl _ _).alloc (Nat.le_refl _) _⟩

set_option maxHeartbeats 1000000 in
theorem ninf32 (w : World) : Calls Tryz.prog 48 #[w32] w fun e w' => e = .returned (.int .u64 2139095040) ∧ Below w.heap.size w w' := by
  have CC := fun W => nsign32 W
  have blk := Blk.new w #[.int .i64 23, .int .i64 8, .int .i64 (-149)] 56
  obtain ⟨W, hW⟩ : ∃ W, W = w.alloc (.cells #[.int .i64 23, .int .i64 8, .int .i64 (-149)] 56) := ⟨_, rfl⟩
  rw [← hW] at blk
  have HBW : Hid (Below w.heap.size w W) := by rw [hW]; exact (Below.refl _ _).alloc (Nat.le_refl _) _
  have BLK := hide blk
  have HW := hide hW
  have c0 : W.cell? ⟨w.heap.size, 0, none⟩ = some (.int .i64 23) := blk.cell 0
  have c1 : W.cell? ⟨w.heap.size, 1, none⟩ = some (.int .i64 8) := blk.cell 1
  have c2 : W.cell? ⟨w.heap.size, 2, none⟩ = some (.int .i64 (-149)) := blk.cell 2
  have b0 : Hid (Below W.heap.size W W.drew) := bdrew' W
  clear blk hW
  have C1 : Hid (Calls Tryz.prog 51 #[w32] W.drew fun e w' => e = .returned (.int .u64 2147483648) ∧ Hid (Below W.heap.size W w') ∧ w'.cell? ⟨w.heap.size, 0, none⟩ = some (.int .i64 23) ∧ w'.cell? ⟨w.heap.size, 1, none⟩ = some (.int .i64 8) ∧ w'.cell? ⟨w.heap.size, 2, none⟩ = some (.int .i64 (-149))) := by
    refine (CC W.drew).mono ?_
    rintro e w' ⟨rfl, hb⟩
    have hbb := b0.out.trans (hb.mono b0.out.size)
    have q := BLK.out.below hbb BLK.out.lt
    exact ⟨rfl, hbb, q.cell 0, q.cell 1, q.cell 2⟩
  clear CC
  go_enter Tryz.func48, Tryz.ntmps48
  go_wp2_with fail
  simp only [← HW.out]
  have mk0 : True := trivial
  go_region_held3 (fun w' => w'.cell? ⟨w.heap.size, 0, none⟩ = some (.int .i64 23) ∧ w'.cell? ⟨w.heap.size, 1, none⟩ = some (.int .i64 8) ∧ w'.cell? ⟨w.heap.size, 2, none⟩ = some (.int .i64 (-149))) (go_keep) (first
    | (clear mk0; go_at_call 51; refine C1.out.mono ?_; rintro e w1 ⟨rfl, b1, k0, k1, k2⟩; have mk1 : True := trivial))
  all_goals (
    have FIN := hide (HBW.out.trans (b1.out.mono HBW.out.size))
    clear b1
    go_wp2
    go_ret
    exact ⟨rfl, FIN.out⟩)

set_option maxHeartbeats 1000000 in
theorem nnan32 (w : World) : Calls Tryz.prog 47 #[w32] w fun e w' => e = .returned (.int .u64 2143289345) ∧ Below w.heap.size w w' := by
  have CC := fun W => ninf32 W
  have blk := Blk.new w #[.int .i64 23, .int .i64 8, .int .i64 (-149)] 56
  obtain ⟨W, hW⟩ : ∃ W, W = w.alloc (.cells #[.int .i64 23, .int .i64 8, .int .i64 (-149)] 56) := ⟨_, rfl⟩
  rw [← hW] at blk
  have HBW : Hid (Below w.heap.size w W) := by rw [hW]; exact (Below.refl _ _).alloc (Nat.le_refl _) _
  have BLK := hide blk
  have HW := hide hW
  have c0 : W.cell? ⟨w.heap.size, 0, none⟩ = some (.int .i64 23) := blk.cell 0
  have c1 : W.cell? ⟨w.heap.size, 1, none⟩ = some (.int .i64 8) := blk.cell 1
  have c2 : W.cell? ⟨w.heap.size, 2, none⟩ = some (.int .i64 (-149)) := blk.cell 2
  have b0 : Hid (Below W.heap.size W W.drew) := bdrew' W
  clear blk hW
  have C1 : Hid (Calls Tryz.prog 48 #[w32] W.drew fun e w' => e = .returned (.int .u64 2139095040) ∧ Hid (Below W.heap.size W w') ∧ w'.cell? ⟨w.heap.size, 0, none⟩ = some (.int .i64 23) ∧ w'.cell? ⟨w.heap.size, 1, none⟩ = some (.int .i64 8) ∧ w'.cell? ⟨w.heap.size, 2, none⟩ = some (.int .i64 (-149))) := by
    refine (CC W.drew).mono ?_
    rintro e w' ⟨rfl, hb⟩
    have hbb := b0.out.trans (hb.mono b0.out.size)
    have q := BLK.out.below hbb BLK.out.lt
    exact ⟨rfl, hbb, q.cell 0, q.cell 1, q.cell 2⟩
  clear CC
  have ew : IntKind.i64.wrap 22 = 22 := by decide
  go_enter Tryz.func47, Tryz.ntmps47
  go_wp2_with fail
  simp only [← HW.out]
  have mk0 : True := trivial
  go_region_held3 (fun w' => w'.cell? ⟨w.heap.size, 0, none⟩ = some (.int .i64 23) ∧ w'.cell? ⟨w.heap.size, 1, none⟩ = some (.int .i64 8) ∧ w'.cell? ⟨w.heap.size, 2, none⟩ = some (.int .i64 (-149))) (go_keep) (first
    | (clear mk0; go_at_call 48; refine C1.out.mono ?_; rintro e w1 ⟨rfl, b1, k0, k1, k2⟩; have mk1 : True := trivial))
  all_goals (
    have FIN := hide (HBW.out.trans (b1.out.mono HBW.out.size))
    clear b1
    go_wp2
    go_ret
    exact ⟨rfl, FIN.out⟩)

set_option maxHeartbeats 1000000 in
theorem join64_inf (N s : Nat) (p : Int) (w : World) (hp : p + 1074 = (s : Int)) (hs : 2048 ≤ (s : Int)) (hs2 : s ≤ 1000000) :
    Calls Tryz.prog 82 #[w64, .int .u64 (N : Int), .int .i64 p] w fun e w' => e = .returned (.int .u64 9218868437227405312) ∧ Below w.heap.size w w' := by
  have IV := hide (fun W => ninf64 W)
  have hp1 : -1074 ≤ p := by omega
  have hp2 : p ≤ 1000000 := by omega
  have hge : 2048 ≤ p + 1074 := by omega
  clear hp hs hs2
  go_enter Tryz.func82, Tryz.ntmps82
  go_wp2_with fail
  refine (IV.out _).mono ?_
  rintro e w1 ⟨rfl, hb1⟩
  have HB1 : Hid (Below w.heap.size w w1) := ((Below.refl _ _).alloc (Nat.le_refl _) _).trans (hb1.mono (by simp))
  clear hb1 IV
  go_wp2
  go_ret
  exact ⟨rfl, HB1.out⟩

set_option maxRecDepth 100000 in
set_option maxHeartbeats 1000000 in
theorem join64_fin (N s : Nat) (r : Int) (w : World) (hs : s < 2048) (hN : N ≤ 9007199254740992) (hr : r = min ((s : Int) * 4503599627370496 + (N : Int)) 9218868437227405312) :
    Calls Tryz.prog 82 #[w64, .int .u64 (N : Int), .int .i64 ((s : Int) - 1074)] w fun e w' => e = .returned (.int .u64 r) ∧ Below w.heap.size w w' := by
  have CC := fun W => ninf64 W
  have blk := Blk.new w #[.int .i64 52, .int .i64 11, .int .i64 (-1074)] 56
  obtain ⟨W, hW⟩ : ∃ W, W = w.alloc (.cells #[.int .i64 52, .int .i64 11, .int .i64 (-1074)] 56) := ⟨_, rfl⟩
  rw [← hW] at blk
  have HBW : Hid (Below w.heap.size w W) := by rw [hW]; exact (Below.refl _ _).alloc (Nat.le_refl _) _
  have BLK := hide blk
  have HW := hide hW
  have c0 : W.cell? ⟨w.heap.size, 0, none⟩ = some (.int .i64 52) := blk.cell 0
  have c1 : W.cell? ⟨w.heap.size, 1, none⟩ = some (.int .i64 11) := blk.cell 1
  have c2 : W.cell? ⟨w.heap.size, 2, none⟩ = some (.int .i64 (-1074)) := blk.cell 2
  have b0 : Hid (Below W.heap.size W W.drew) := bdrew' W
  clear blk hW
  have C1 : Hid (Calls Tryz.prog 48 #[w64] W.drew fun e w' => e = .returned (.int .u64 9218868437227405312) ∧ Hid (Below W.heap.size W w') ∧ w'.cell? ⟨w.heap.size, 0, none⟩ = some (.int .i64 52) ∧ w'.cell? ⟨w.heap.size, 1, none⟩ = some (.int .i64 11) ∧ w'.cell? ⟨w.heap.size, 2, none⟩ = some (.int .i64 (-1074))) := by
    refine (CC W.drew).mono ?_
    rintro e w' ⟨rfl, hb⟩
    have hbb := b0.out.trans (hb.mono b0.out.size)
    have q := BLK.out.below hbb BLK.out.lt
    exact ⟨rfl, hbb, q.cell 0, q.cell 1, q.cell 2⟩
  clear CC
  have hlt : ¬ 2048 ≤ (s : Int) := by omega
  have e1 : (s : Int) - 1074 + 1074 = (s : Int) := by omega
  have EQ : Hid (min (IntKind.u64.wrap (IntKind.u64.wrap (IntKind.u64.wrap (s : Int) * 4503599627370496) + (N : Int))) 9218868437227405312 = r) := by
    show min _ _ = r
    rw [hr, IntKind.wrap_u64, IntKind.wrap_u64, IntKind.wrap_u64]; omega
  clear hr
  go_enter Tryz.func82, Tryz.ntmps82
  go_wp2_with fail
  simp only [← HW.out]
  have mk0 : True := trivial
  go_region_held3 (fun w' => w'.cell? ⟨w.heap.size, 0, none⟩ = some (.int .i64 52) ∧ w'.cell? ⟨w.heap.size, 1, none⟩ = some (.int .i64 11) ∧ w'.cell? ⟨w.heap.size, 2, none⟩ = some (.int .i64 (-1074))) (go_keep) (first
    | (clear mk0; go_at_call 48; refine C1.out.mono ?_; rintro e w1 ⟨rfl, b1, k0, k1, k2⟩; have mk1 : True := trivial))
  all_goals (
    have FIN := hide (HBW.out.trans (b1.out.mono HBW.out.size))
    clear b1
    go_wp2
    go_ret
    refine ⟨?_, FIN.out⟩
    rw [← EQ.out]
    rfl)

set_option maxHeartbeats 1000000 in
theorem join32_inf (N s : Nat) (p : Int) (w : World) (hp : p + 149 = (s : Int)) (hs : 256 ≤ (s : Int)) (hs2 : s ≤ 1000000) :
    Calls Tryz.prog 82 #[w32, .int .u64 (N : Int), .int .i64 p] w fun e w' => e = .returned (.int .u64 2139095040) ∧ Below w.heap.size w w' := by
  have IV := hide (fun W => ninf32 W)
  have hp1 : -149 ≤ p := by omega
  have hp2 : p ≤ 1000000 := by omega
  have hge : 256 ≤ p + 149 := by omega
  clear hp hs hs2
  go_enter Tryz.func82, Tryz.ntmps82
  go_wp2_with fail
  refine (IV.out _).mono ?_
  rintro e w1 ⟨rfl, hb1⟩
  have HB1 : Hid (Below w.heap.size w w1) := ((Below.refl _ _).alloc (Nat.le_refl _) _).trans (hb1.mono (by simp))
  clear hb1 IV
  go_wp2
  go_ret
  exact ⟨rfl, HB1.out⟩

set_option maxRecDepth 100000 in
set_option maxHeartbeats 1000000 in
theorem join32_fin (N s : Nat) (r : Int) (w : World) (hs : s < 256) (hN : N ≤ 16777216) (hr : r = min ((s : Int) * 8388608 + (N : Int)) 2139095040) :
    Calls Tryz.prog 82 #[w32, .int .u64 (N : Int), .int .i64 ((s : Int) - 149)] w fun e w' => e = .returned (.int .u64 r) ∧ Below w.heap.size w w' := by
  have CC := fun W => ninf32 W
  have blk := Blk.new w #[.int .i64 23, .int .i64 8, .int .i64 (-149)] 56
  obtain ⟨W, hW⟩ : ∃ W, W = w.alloc (.cells #[.int .i64 23, .int .i64 8, .int .i64 (-149)] 56) := ⟨_, rfl⟩
  rw [← hW] at blk
  have HBW : Hid (Below w.heap.size w W) := by rw [hW]; exact (Below.refl _ _).alloc (Nat.le_refl _) _
  have BLK := hide blk
  have HW := hide hW
  have c0 : W.cell? ⟨w.heap.size, 0, none⟩ = some (.int .i64 23) := blk.cell 0
  have c1 : W.cell? ⟨w.heap.size, 1, none⟩ = some (.int .i64 8) := blk.cell 1
  have c2 : W.cell? ⟨w.heap.size, 2, none⟩ = some (.int .i64 (-149)) := blk.cell 2
  have b0 : Hid (Below W.heap.size W W.drew) := bdrew' W
  clear blk hW
  have C1 : Hid (Calls Tryz.prog 48 #[w32] W.drew fun e w' => e = .returned (.int .u64 2139095040) ∧ Hid (Below W.heap.size W w') ∧ w'.cell? ⟨w.heap.size, 0, none⟩ = some (.int .i64 23) ∧ w'.cell? ⟨w.heap.size, 1, none⟩ = some (.int .i64 8) ∧ w'.cell? ⟨w.heap.size, 2, none⟩ = some (.int .i64 (-149))) := by
    refine (CC W.drew).mono ?_
    rintro e w' ⟨rfl, hb⟩
    have hbb := b0.out.trans (hb.mono b0.out.size)
    have q := BLK.out.below hbb BLK.out.lt
    exact ⟨rfl, hbb, q.cell 0, q.cell 1, q.cell 2⟩
  clear CC
  have hlt : ¬ 256 ≤ (s : Int) := by omega
  have e1 : (s : Int) - 149 + 149 = (s : Int) := by omega
  have EQ : Hid (min (IntKind.u64.wrap (IntKind.u64.wrap (IntKind.u64.wrap (s : Int) * 8388608) + (N : Int))) 2139095040 = r) := by
    show min _ _ = r
    rw [hr, IntKind.wrap_u64, IntKind.wrap_u64, IntKind.wrap_u64]; omega
  clear hr
  go_enter Tryz.func82, Tryz.ntmps82
  go_wp2_with fail
  simp only [← HW.out]
  have mk0 : True := trivial
  go_region_held3 (fun w' => w'.cell? ⟨w.heap.size, 0, none⟩ = some (.int .i64 23) ∧ w'.cell? ⟨w.heap.size, 1, none⟩ = some (.int .i64 8) ∧ w'.cell? ⟨w.heap.size, 2, none⟩ = some (.int .i64 (-149))) (go_keep) (first
    | (clear mk0; go_at_call 48; refine C1.out.mono ?_; rintro e w1 ⟨rfl, b1, k0, k1, k2⟩; have mk1 : True := trivial))
  all_goals (
    have FIN := hide (HBW.out.trans (b1.out.mono HBW.out.size))
    clear b1
    go_wp2
    go_ret
    refine ⟨?_, FIN.out⟩
    rw [← EQ.out]
    rfl)

end Go.Proofs.YtpiloigpncbccacGreatDoor

namespace Go.Proofs.YtpiloigpncbccacGreatDoor
open Go.RowKit

theorem nt_bits (a : Value) (x : Nat) (w : World) (ha : Nt w a x) (hx : Sm x) : Calls Tryz.prog 87 #[a] w fun e w' => e = .returned (.int .i64 (bitsN x : Int)) ∧ w = w' := by
  obtain ⟨o, c, xs, rfl, h1, h2, h3, h4⟩ := ha
  have l1 := is_len h4 hx
  have h := bits_any o _ c xs w h1 (by omega) rfl h3 h4.1
  rw [h4.2.2] at h
  exact h

theorem nt_add (a b : Value) (x y : Nat) (w : World) (ha : Nt w a x) (hb : Nt w b y) (hx : Sm x) (hy : Sm y) : Calls Tryz.prog 81 #[a, b] w (NtPost w (x + y)) := by
  obtain ⟨o, c, xs, rfl, h1, h2, h3, h4⟩ := ha
  obtain ⟨o', c', ys, rfl, h1', h2', h3', h4'⟩ := hb
  have l1 := is_len h4 hx
  have l2 := is_len h4' hy
  refine (add_any o o' _ c _ c' xs ys w h1 (by omega) h1' (by omega) rfl rfl h3 h3' h4.1 h4'.1).mono ?_
  rintro e w' ⟨v, r, rfl, g1, g2, g3⟩
  rw [h4.2.2, h4'.2.2] at g2
  exact ⟨v, rfl, Nt.of g1 g2 (by omega), g3, Far.of g1⟩

theorem nt_shl (a : Value) (x n : Nat) (z : Int) (w : World) (hz : z = (n : Int)) (ha : Nt w a x) (hx : Sm x) (hn : n ≤ 65536) : Calls Tryz.prog 65 #[a, .int .i64 z] w (NtErr w (x * 2 ^ n) 0) := by
  subst hz
  obtain ⟨o, c, xs, rfl, h1, h2, h3, h4⟩ := ha
  have l1 := is_len h4 hx
  refine (shl_any o _ c n xs w hn h1 (by omega) rfl h3 h4.1).mono ?_
  rintro e w' ⟨v, r, rfl, g1, g2, g3⟩
  rw [h4.2.2] at g2
  exact ⟨v, rfl, Nt.of g1 g2 (by omega), g3, Far.of g1⟩

theorem nt_parse (s : ByteArray) (w : World) (hs : s.size ≤ 8192) (hok : OkT (bys s)) : Calls Tryz.prog 78 #[.string s] w (NtErr w (decV (bys s)) 0) := by
  refine (parse_ok s w hs hok).mono ?_
  rintro e w' ⟨v, r, rfl, g1, g2, g3⟩
  exact ⟨v, rfl, Nt.of g1 g2 (by omega), g3, Far.of g1⟩

/-- A fraction. -/
abbrev fracV (f x l : Int) (vo vu : Value) : Value := .agg #[.int .i64 f, .int .i64 x, .int .i64 l, vo, vu]

theorem Blk.put5 {w : World} {b : Nat} {t : TypeId} {x0 x1 x2 x3 x4 : Value} (h : Blk w b #[x0, x1, x2, x3, x4] t) (y0 y1 y2 y3 y4 : Value) : Blk (((((w.setCell ⟨b, 0, none⟩ y0).setCell ⟨b, 1, none⟩ y1).setCell ⟨b, 2, none⟩ y2).setCell ⟨b, 3, none⟩ y3).setCell ⟨b, 4, none⟩ y4) b #[y0, y1, y2, y3, y4] t := by
  unfold Blk at *
  simp only [World.setCell, Array.getElem?_modify, if_true, h, Option.map_some]
  rfl

theorem Blk.other {w : World} {b : Nat} {t : TypeId} {cs : Array Value} (h : Blk w b cs t) {a : Addr} (ha : a.block ≠ b) (v : Value) : Blk (w.setCell a v) b cs t := by
  unfold Blk at *
  simp only [World.setCell, Array.getElem?_modify, if_neg ha, h]

theorem results_frac {fn : Func} {a : Tmp} (h : fn.results = #[.cell a 85]) (tmps : Array Value) (H : Nat) (x0 x1 x2 x3 x4 : Value) (w : World) (ht : tmps.getD a undef = .pointer (some ⟨H, 0, none⟩)) (hp : Blk w H #[x0, x1, x2, x3, x4] 85) :
    (results fn tmps).run Tryz.prog w = .ok (.agg #[x0, x1, x2, x3, x4]) w := by
  have c0 := hp.cell 0
  have c1 := hp.cell 1
  have c2 := hp.cell 2
  have c3 := hp.cell 3
  have c4 := hp.cell 4
  simp at c0 c1 c2 c3 c4
  rw [Array.getD_eq_getD_getElem?] at ht
  simp [results, h, ht, go_sem, c0, c1, c2, c3, c4]

end Go.Proofs.YtpiloigpncbccacGreatDoor

namespace Go.Proofs.YtpiloigpncbccacGreatDoor
open Go.RowKit

/-- A fraction is answered. -/
def FrPost (w : World) (f x l : Int) (o u : Nat) (e : Ending) (w' : World) : Prop :=
  ∃ oo lo co ou lu cu, e = .returned (fracV f x l (.slice oo lo co) (.slice ou lu cu)) ∧ Nt w' (.slice oo lo co) o ∧ Nt w' (.slice ou lu cu) u ∧ Below w.heap.size w w'

theorem below_put5 {w W : World} {H : Nat} (h : Below w.heap.size w W) (hH : w.heap.size ≤ H) (y0 y1 y2 y3 y4 : Value) : Below w.heap.size w (((((W.setCell ⟨H, 0, none⟩ y0).setCell ⟨H, 1, none⟩ y1).setCell ⟨H, 2, none⟩ y2).setCell ⟨H, 3, none⟩ y3).setCell ⟨H, 4, none⟩ y4) :=
  ((((h.setCell hH _).setCell hH _).setCell hH _).setCell hH _).setCell hH _

theorem Nt.put5 {w : World} {v : Value} {n base H : Nat} (h : Nt w v n) (hf : Far base v) (hH : H < base) (y0 y1 y2 y3 y4 : Value) : Nt (((((w.setCell ⟨H, 0, none⟩ y0).setCell ⟨H, 1, none⟩ y1).setCell ⟨H, 2, none⟩ y2).setCell ⟨H, 3, none⟩ y3).setCell ⟨H, 4, none⟩ y4) v n :=
  ((((h.put hf hH _).put hf hH _).put hf hH _).put hf hH _).put hf hH _

set_option maxHeartbeats 1000000 in
theorem divided_neg (f x l : Int) (oo ou : Option Addr) (lo co lu cu o u k : Nat) (w : World) (ho : Nt w (.slice oo lo co) o) (hu : Nt w (.slice ou lu cu) u) (sm : Sm o) (hk : k ≤ 65536) (h0 : -(k : Int) < 0) :
    Calls Tryz.prog 80 #[fracV f x l (.slice oo lo co) (.slice ou lu cu), .int .i64 (-(k : Int))] w (FrPost w f x l (o * 2 ^ k) u) := by
  have SH : Hid (∀ W, Below w.heap.size w W → Calls Tryz.prog 65 #[.slice oo lo co, .int .i64 (k : Int)] W (NtErr W (o * 2 ^ k) 0)) := fun W hW => nt_shl _ o k _ W rfl (ho.below hW) sm hk
  have HO := hide hu
  have blk := (Blk.new w #[.int .i64 f, .int .i64 x, .int .i64 l, .slice oo lo co, .slice ou lu cu] 85).alloc (.cells #[.int .i64 0, .int .i64 0, .int .i64 0, .slice none 0 0, .slice none 0 0] 85)
  have blk1 := Blk.newAt (w.alloc (.cells #[.int .i64 f, .int .i64 x, .int .i64 l, .slice oo lo co, .slice ou lu cu] 85)) (w.heap.size + 1) (by simp) #[.int .i64 0, .int .i64 0, .int .i64 0, .slice none 0 0, .slice none 0 0] 85
  obtain ⟨W, hW⟩ : ∃ W, W = (w.alloc (.cells #[.int .i64 f, .int .i64 x, .int .i64 l, .slice oo lo co, .slice ou lu cu] 85)).alloc (.cells #[.int .i64 0, .int .i64 0, .int .i64 0, .slice none 0 0, .slice none 0 0] 85) := ⟨_, rfl⟩
  rw [← hW] at blk blk1
  have HBW : Hid (Below w.heap.size w W) := by rw [hW]; exact ((Below.refl _ _).alloc (Nat.le_refl _) _).alloc (by simp) _
  have BLK := hide blk
  have BLK1 := hide blk1
  have c3 : W.cell? ⟨w.heap.size, 3, none⟩ = some (.slice oo lo co) := blk.cell 3
  have HW := hide hW
  clear ho hu sm blk blk1 hW
  go_enter Tryz.func80, Tryz.ntmps80
  go_wp2_with fail
  simp only [← HW.out]
  refine (SH.out _ HBW.out).mono ?_
  rintro e w1 ⟨v1, rfl, n1, b1, f1⟩
  obtain ⟨o1, c1, x1, rfl, _⟩ := id n1
  have q := BLK.out.below b1 BLK.out.lt
  have q1 := BLK1.out.below b1 BLK1.out.lt
  have a0 : w1.cell? ⟨w.heap.size, 0, none⟩ = some (.int .i64 f) := q.cell 0
  have a1 : w1.cell? ⟨w.heap.size, 1, none⟩ = some (.int .i64 x) := q.cell 1
  have a2 : w1.cell? ⟨w.heap.size, 2, none⟩ = some (.int .i64 l) := q.cell 2
  have a3 : w1.cell? ⟨w.heap.size, 3, none⟩ = some (.slice oo lo co) := q.cell 3
  have a4 : w1.cell? ⟨w.heap.size, 4, none⟩ = some (.slice ou lu cu) := q.cell 4
  have z3 := q.free 3
  have k0 : w1.cell? ⟨w.heap.size + 1, 0, none⟩ = some (.int .i64 0) := q1.cell 0
  have k1 : w1.cell? ⟨w.heap.size + 1, 1, none⟩ = some (.int .i64 0) := q1.cell 1
  have k2 : w1.cell? ⟨w.heap.size + 1, 2, none⟩ = some (.int .i64 0) := q1.cell 2
  have k3 : w1.cell? ⟨w.heap.size + 1, 3, none⟩ = some (.slice none 0 0) := q1.cell 3
  have k4 : w1.cell? ⟨w.heap.size + 1, 4, none⟩ = some (.slice none 0 0) := q1.cell 4
  have g0 := q1.free 0
  have g1 := q1.free 1
  have g2 := q1.free 2
  have g3 := q1.free 3
  have g4 := q1.free 4
  have Q1 := hide (q1.other (a := ⟨w.heap.size, 3, none⟩) (by simp) (.slice o1 x1.length c1))
  have hlt := BLK1.out.lt
  have NEWH : Hid (Nt (w1.setCell ⟨w.heap.size, 3, none⟩ (.slice o1 x1.length c1)) (.slice o1 x1.length c1) (o * 2 ^ k) ∧ Far (w.heap.size + 2) (.slice o1 x1.length c1)) := ⟨n1.put f1 (by simp; omega) _, f1.mono (by omega)⟩
  have BELH : Hid (Below w.heap.size w (w1.setCell ⟨w.heap.size, 3, none⟩ (.slice o1 x1.length c1))) := (HBW.out.trans (b1.mono HBW.out.size)).setCell (Nat.le_refl _) _
  clear n1 b1 f1 q q1 BLK BLK1 HBW SH hlt c3
  simp only []
  repeat (first | go_values | go_skip | go_guarded | go_step | go_upon)
  refine bodyPost_ret (results_frac rfl _ _ _ _ _ _ _ _ rfl (Q1.out.put5 _ _ _ _ _)) rfl ?_
  have BEL := below_put5 BELH.out (H := w.heap.size + 1) (by omega) (.int .i64 f) (.int .i64 x) (.int .i64 l) (.slice o1 x1.length c1) (.slice ou lu cu)
  have NEW := NEWH.out.1.put5 NEWH.out.2 (H := w.heap.size + 1) (by omega) (.int .i64 f) (.int .i64 x) (.int .i64 l) (.slice o1 x1.length c1) (.slice ou lu cu)
  have OLD := HO.out.below BEL
  exact ⟨o1, x1.length, c1, ou, lu, cu, rfl, NEW, OLD, BEL⟩

set_option maxHeartbeats 1000000 in
theorem divided_pos (f x l : Int) (oo ou : Option Addr) (lo co lu cu o u k : Nat) (w : World) (ho : Nt w (.slice oo lo co) o) (hu : Nt w (.slice ou lu cu) u) (sm : Sm u) (hk : k ≤ 65536) (h0 : ¬ (k : Int) < 0) :
    Calls Tryz.prog 80 #[fracV f x l (.slice oo lo co) (.slice ou lu cu), .int .i64 ((k : Int))] w (FrPost w f x l o (u * 2 ^ k)) := by
  have SH : Hid (∀ W, Below w.heap.size w W → Calls Tryz.prog 65 #[.slice ou lu cu, .int .i64 (k : Int)] W (NtErr W (u * 2 ^ k) 0)) := fun W hW => nt_shl _ u k _ W rfl (hu.below hW) sm hk
  have HO := hide ho
  have blk := (Blk.new w #[.int .i64 f, .int .i64 x, .int .i64 l, .slice oo lo co, .slice ou lu cu] 85).alloc (.cells #[.int .i64 0, .int .i64 0, .int .i64 0, .slice none 0 0, .slice none 0 0] 85)
  have blk1 := Blk.newAt (w.alloc (.cells #[.int .i64 f, .int .i64 x, .int .i64 l, .slice oo lo co, .slice ou lu cu] 85)) (w.heap.size + 1) (by simp) #[.int .i64 0, .int .i64 0, .int .i64 0, .slice none 0 0, .slice none 0 0] 85
  obtain ⟨W, hW⟩ : ∃ W, W = (w.alloc (.cells #[.int .i64 f, .int .i64 x, .int .i64 l, .slice oo lo co, .slice ou lu cu] 85)).alloc (.cells #[.int .i64 0, .int .i64 0, .int .i64 0, .slice none 0 0, .slice none 0 0] 85) := ⟨_, rfl⟩
  rw [← hW] at blk blk1
  have HBW : Hid (Below w.heap.size w W) := by rw [hW]; exact ((Below.refl _ _).alloc (Nat.le_refl _) _).alloc (by simp) _
  have BLK := hide blk
  have BLK1 := hide blk1
  have c4 : W.cell? ⟨w.heap.size, 4, none⟩ = some (.slice ou lu cu) := blk.cell 4
  have HW := hide hW
  clear ho hu sm blk blk1 hW
  go_enter Tryz.func80, Tryz.ntmps80
  go_wp2_with fail
  simp only [← HW.out]
  refine (SH.out _ HBW.out).mono ?_
  rintro e w1 ⟨v1, rfl, n1, b1, f1⟩
  obtain ⟨o1, c1, x1, rfl, _⟩ := id n1
  have q := BLK.out.below b1 BLK.out.lt
  have q1 := BLK1.out.below b1 BLK1.out.lt
  have a0 : w1.cell? ⟨w.heap.size, 0, none⟩ = some (.int .i64 f) := q.cell 0
  have a1 : w1.cell? ⟨w.heap.size, 1, none⟩ = some (.int .i64 x) := q.cell 1
  have a2 : w1.cell? ⟨w.heap.size, 2, none⟩ = some (.int .i64 l) := q.cell 2
  have a3 : w1.cell? ⟨w.heap.size, 3, none⟩ = some (.slice oo lo co) := q.cell 3
  have a4 : w1.cell? ⟨w.heap.size, 4, none⟩ = some (.slice ou lu cu) := q.cell 4
  have z4 := q.free 4
  have k0 : w1.cell? ⟨w.heap.size + 1, 0, none⟩ = some (.int .i64 0) := q1.cell 0
  have k1 : w1.cell? ⟨w.heap.size + 1, 1, none⟩ = some (.int .i64 0) := q1.cell 1
  have k2 : w1.cell? ⟨w.heap.size + 1, 2, none⟩ = some (.int .i64 0) := q1.cell 2
  have k3 : w1.cell? ⟨w.heap.size + 1, 3, none⟩ = some (.slice none 0 0) := q1.cell 3
  have k4 : w1.cell? ⟨w.heap.size + 1, 4, none⟩ = some (.slice none 0 0) := q1.cell 4
  have g0 := q1.free 0
  have g1 := q1.free 1
  have g2 := q1.free 2
  have g3 := q1.free 3
  have g4 := q1.free 4
  have Q1 := hide (q1.other (a := ⟨w.heap.size, 4, none⟩) (by simp) (.slice o1 x1.length c1))
  have hlt := BLK1.out.lt
  have NEWH : Hid (Nt (w1.setCell ⟨w.heap.size, 4, none⟩ (.slice o1 x1.length c1)) (.slice o1 x1.length c1) (u * 2 ^ k) ∧ Far (w.heap.size + 2) (.slice o1 x1.length c1)) := ⟨n1.put f1 (by simp; omega) _, f1.mono (by omega)⟩
  have BELH : Hid (Below w.heap.size w (w1.setCell ⟨w.heap.size, 4, none⟩ (.slice o1 x1.length c1))) := (HBW.out.trans (b1.mono HBW.out.size)).setCell (Nat.le_refl _) _
  clear n1 b1 f1 q q1 BLK BLK1 HBW SH hlt c4
  simp only []
  repeat (first | go_values | go_skip | go_guarded | go_step | go_upon)
  refine bodyPost_ret (results_frac rfl _ _ _ _ _ _ _ _ rfl (Q1.out.put5 _ _ _ _ _)) rfl ?_
  have BEL := below_put5 BELH.out (H := w.heap.size + 1) (by omega) (.int .i64 f) (.int .i64 x) (.int .i64 l) (.slice oo lo co) (.slice o1 x1.length c1)
  have NEW := NEWH.out.1.put5 NEWH.out.2 (H := w.heap.size + 1) (by omega) (.int .i64 f) (.int .i64 x) (.int .i64 l) (.slice oo lo co) (.slice o1 x1.length c1)
  have OLD := HO.out.below BEL
  exact ⟨oo, lo, co, o1, x1.length, c1, rfl, OLD, NEW, BEL⟩

/-- A fraction by 2^n. -/
theorem divided_any (f x l : Int) (oo ou : Option Addr) (lo co lu cu o u : Nat) (n : Int) (w : World) (ho : Nt w (.slice oo lo co) o) (hu : Nt w (.slice ou lu cu) u) (so : Sm o) (su : Sm u) (h1 : -65536 ≤ n) (h2 : n ≤ 65536) :
    Calls Tryz.prog 80 #[fracV f x l (.slice oo lo co) (.slice ou lu cu), .int .i64 n] w (FrPost w f x l (o * 2 ^ (-n).toNat) (u * 2 ^ n.toNat)) := by
  by_cases h : n < 0
  · obtain ⟨k, rfl⟩ : ∃ k : Nat, n = -(k : Int) := ⟨(-n).toNat, by omega⟩
    rw [show (- -(k : Int)).toNat = k by omega, show (-(k : Int)).toNat = 0 by omega, Nat.pow_zero, Nat.mul_one]
    exact divided_neg f x l oo ou lo co lu cu o u k w ho hu so (by omega) h
  · obtain ⟨k, rfl⟩ : ∃ k : Nat, n = (k : Int) := ⟨n.toNat, by omega⟩
    rw [show (-(k : Int)).toNat = 0 by omega, show ((k : Int)).toNat = k by omega, Nat.pow_zero, Nat.mul_one]
    exact divided_pos f x l oo ou lo co lu cu o u k w ho hu su (by omega) h

/-- A number that is not too great to be shifted by as many bits as it has. -/
def Fit (n : Nat) : Prop := n < powT 2 30000

theorem Fit.bits {n : Nat} (h : Fit n) : bitsN n ≤ 30000 := by
  by_cases h0 : n = 0
  · subst h0; exact Nat.zero_le _
  · obtain ⟨k, e, h1, _⟩ := bitsN_spec h0
    obtain ⟨E, hE⟩ : ∃ E, E = 30000 := ⟨_, rfl⟩
    unfold Fit powT at h
    rw [← hE] at h ⊢
    have : k < E := (Nat.pow_lt_pow_iff_right (by omega : 1 < 2)).1 (Nat.lt_of_le_of_lt h1 h)
    omega

theorem pow60 : powT 2 30000 * powT 2 32000 < B64 ^ 10000 := by decide +kernel

theorem Fit.sm {n : Nat} (h : Fit n) {k : Nat} (hk : k ≤ 32000) : Sm (n * 2 ^ k) := by
  have h1 : 2 ^ k ≤ powT 2 32000 := powT_ge (by omega) hk
  have h2 : n * 2 ^ k ≤ powT 2 30000 * powT 2 32000 := Nat.mul_le_mul (Nat.le_of_lt h) h1
  exact Nat.lt_of_le_of_lt h2 pow60

theorem Fit.sm0 {n : Nat} (h : Fit n) : Sm n := by have := h.sm (k := 0) (by omega); rwa [Nat.pow_zero, Nat.mul_one] at this

set_option maxRecDepth 100000 in
set_option maxHeartbeats 1000000 in
theorem highest_any (f x l : Int) (oo ou : Option Addr) (lo co lu cu o u : Nat) (w : World) (ho : Nt w (.slice oo lo co) o) (hu : Nt w (.slice ou lu cu) u) (fo : Fit o) (fu : Fit u) :
    Calls Tryz.prog 79 #[fracV f x l (.slice oo lo co) (.slice ou lu cu)] w fun e w' => e = .returned (.int .i64 (highN o u)) ∧ Below w.heap.size w w' := by
  obtain ⟨bo, hbo⟩ : ∃ b, b = bitsN o := ⟨_, rfl⟩
  obtain ⟨bu, hbu⟩ : ∃ b, b = bitsN u := ⟨_, rfl⟩
  have lbo : bo ≤ 30000 := by rw [hbo]; exact fo.bits
  have lbu : bu ≤ 30000 := by rw [hbu]; exact fu.bits
  have blk := Blk.new w #[.int .i64 f, .int .i64 x, .int .i64 l, .slice oo lo co, .slice ou lu cu] 85
  obtain ⟨W, hW⟩ : ∃ W, W = w.alloc (.cells #[.int .i64 f, .int .i64 x, .int .i64 l, .slice oo lo co, .slice ou lu cu] 85) := ⟨_, rfl⟩
  rw [← hW] at blk
  have HBW : Hid (Below w.heap.size w W) := by rw [hW]; exact (Below.refl _ _).alloc (Nat.le_refl _) _
  have BO : Hid (∀ n, Calls Tryz.prog 87 #[.slice oo lo co] (W.drewN n) fun e w' => e = .returned (.int .i64 (bo : Int)) ∧ w' = W.drewN n) := fun n => by
    refine (nt_bits _ o _ ((ho.below HBW.out).below (below_drewN (Below.refl _ _) n)) fo.sm0).mono ?_
    rintro e w' ⟨rfl, rfl⟩
    rw [hbo]; exact ⟨rfl, rfl⟩
  have BU : Hid (∀ n, Calls Tryz.prog 87 #[.slice ou lu cu] (W.drewN n) fun e w' => e = .returned (.int .i64 (bu : Int)) ∧ w' = W.drewN n) := fun n => by
    refine (nt_bits _ u _ ((hu.below HBW.out).below (below_drewN (Below.refl _ _) n)) fu.sm0).mono ?_
    rintro e w' ⟨rfl, rfl⟩
    rw [hbu]; exact ⟨rfl, rfl⟩
  have BLK := hide blk
  have HW := hide hW
  have c0 : W.cell? ⟨w.heap.size, 0, none⟩ = some (.int .i64 f) := blk.cell 0
  have c1 : W.cell? ⟨w.heap.size, 1, none⟩ = some (.int .i64 x) := blk.cell 1
  have c2 : W.cell? ⟨w.heap.size, 2, none⟩ = some (.int .i64 l) := blk.cell 2
  have c3 : W.cell? ⟨w.heap.size, 3, none⟩ = some (.slice oo lo co) := blk.cell 3
  have c4 : W.cell? ⟨w.heap.size, 4, none⟩ = some (.slice ou lu cu) := blk.cell 4
  obtain ⟨n, hn⟩ : ∃ n : Int, n = (bo : Int) - (bu : Int) := ⟨_, rfl⟩
  have DV : Hid (∀ W', Below w.heap.size w W' → Calls Tryz.prog 80 #[fracV f x l (.slice oo lo co) (.slice ou lu cu), .int .i64 ((bo : Int) - (bu : Int))] W' (FrPost W' f x l (o * 2 ^ (-n).toNat) (u * 2 ^ n.toNat))) := fun W' hW' => by
    rw [← hn]
    exact divided_any f x l oo ou lo co lu cu o u n W' (ho.below hW') (hu.below hW') fo.sm0 fu.sm0 (by omega) (by omega)
  have SS : Hid (Sm (o * 2 ^ (-n).toNat) ∧ Sm (u * 2 ^ n.toNat)) := ⟨fo.sm (by omega), fu.sm (by omega)⟩
  have HH : Hid (highN o u = if o * 2 ^ (-n).toNat < u * 2 ^ n.toNat then n - 1 else n) := by
    show highN o u = _
    unfold highN
    rw [← hbo, ← hbu, ← hn]
  have HN := hide hn
  clear ho hu fo fu hbo hbu blk hW hn
  go_enter Tryz.func79, Tryz.ntmps79
  go_wp2_with fail
  simp only [← HW.out]
  go_quiet (first | (go_at_call 87; with_reducible refine Calls.quiet_of_same (BO.out _)) | (go_at_call 87; with_reducible refine Calls.quiet_of_same (BU.out _)))
  go_wp2_with fail
  refine (DV.out _ (below_drewN HBW.out _)).mono ?_
  rintro e w1 ⟨o1, l1, p1, o2, l2, p2, rfl, n1, n2, b1⟩
  have N1 := hide n1
  have N2 := hide n2
  have HB1 := hide (HBW.out.trans ((below_drewN (Below.refl _ _) _).trans (b1.mono (Nat.le_refl _)) |>.mono HBW.out.size))
  clear n1 n2 b1 DV BO BU c0 c1 c2 c3 c4
  have AL : Hid (∀ O, Below w1.heap.size w1 (w1.alloc O)) := fun O => (Below.refl _ _).alloc (Nat.le_refl _) _
  have CM : Hid (∀ O z, cmpN (o * 2 ^ (-n).toNat) (u * 2 ^ n.toNat) = z → Calls Tryz.prog 73 #[.slice o1 l1 p1, .slice o2 l2 p2] (w1.alloc O) fun e w' => e = .returned (.int .i64 z) ∧ Below (w1.alloc O).heap.size (w1.alloc O) w') := fun O z hz => nt_cmp _ _ _ _ z _ (N1.out.below (AL.out O)) (N2.out.below (AL.out O)) SS.out.1 SS.out.2 hz
  have HB2 : Hid (∀ O w', Below (w1.alloc O).heap.size (w1.alloc O) w' → Below w.heap.size w w') := fun O w' h => HB1.out.trans (((AL.out O).trans (h.mono (AL.out O).size)).mono HB1.out.size)
  clear N1 N2 SS HB1 AL HBW
  by_cases hlt : o * 2 ^ (-n).toNat < u * 2 ^ n.toNat
  · have CM1 := hide (fun O => CM.out O (-1) (by unfold cmpN; rw [if_pos hlt]))
    have HR : Hid (highN o u = (bo : Int) - (bu : Int) - 1) := by
      show highN o u = _
      rw [HH.out, if_pos hlt, HN.out]
    clear hlt CM HH HN
    go_wp2_with fail
    refine (CM1.out _).mono ?_
    rintro e w2 ⟨rfl, b2⟩
    have FIN := hide (HB2.out _ _ b2)
    clear b2 CM1 HB2
    go_wp2
    go_ret
    exact ⟨by rw [HR.out]; rfl, FIN.out⟩
  · obtain ⟨z, hz, hz0⟩ : ∃ z, cmpN (o * 2 ^ (-n).toNat) (u * 2 ^ n.toNat) = z ∧ ¬ z < 0 := by
      refine ⟨_, rfl, ?_⟩
      unfold cmpN; rw [if_neg hlt]; split <;> omega
    have CM1 := hide (fun O => CM.out O z hz)
    have HR : Hid (highN o u = (bo : Int) - (bu : Int)) := by
      show highN o u = _
      rw [HH.out, if_neg hlt, HN.out]
    clear hlt CM HH HN hz
    go_wp2_with fail
    refine (CM1.out _).mono ?_
    rintro e w2 ⟨rfl, b2⟩
    have FIN := hide (HB2.out _ _ b2)
    clear b2 CM1 HB2
    go_wp2
    go_ret
    exact ⟨by rw [HR.out]; rfl, FIN.out⟩

end Go.Proofs.YtpiloigpncbccacGreatDoor

namespace Go.Proofs.YtpiloigpncbccacGreatDoor
open Go.RowKit

/-- The quotient is not too great. -/
theorem quot_lt {F B o u : Nat} (ho : o ≠ 0) (hu : u ≠ 0) : o * 2 ^ (-(powN F B o u)).toNat / (u * 2 ^ (powN F B o u).toNat) < 2 * 2 ^ F := by
  have hb := (numN_bounds (F := F) (B := B) ho hu).1
  have hr := ratio_at (o := o) (u := u) (B := B) (pw := powN F B o u) (by unfold powN; omega)
  have hq : 0 < u * 2 ^ (powN F B o u + B).toNat := Nat.mul_pos (by omega) (Nat.pow_pos (by omega))
  have hu' : 0 < u * 2 ^ (powN F B o u).toNat := Nat.mul_pos (by omega) (Nat.pow_pos (by omega))
  refine (Nat.div_lt_iff_lt_mul hu').2 ?_
  refine Nat.lt_of_mul_lt_mul_right (a := u * 2 ^ (powN F B o u + B).toNat) ?_
  rw [hr]
  have h1 := (Nat.mul_lt_mul_right hu').2 hb
  refine Nat.lt_of_lt_of_le h1 (Nat.le_of_eq ?_)
  generalize u * 2 ^ (powN F B o u + B).toNat = x
  generalize u * 2 ^ (powN F B o u).toNat = y
  generalize 2 * 2 ^ F = z
  rw [Nat.mul_comm x z, Nat.mul_assoc, Nat.mul_comm x y, ← Nat.mul_assoc]

theorem highN_le {o u : Nat} (fo : Fit o) (fu : Fit u) : -30001 ≤ highN o u ∧ highN o u ≤ 30000 := by
  have h1 := fo.bits
  have h2 := fu.bits
  unfold highN; split <;> omega

theorem rne_up {p q : Nat} (h : q < 2 * (p % q) ∨ (2 * (p % q) = q ∧ p / q % 2 = 1)) : rne p q = p / q + 1 := if_pos h
theorem rne_down {p q : Nat} (h : ¬ (q < 2 * (p % q) ∨ (2 * (p % q) = q ∧ p / q % 2 = 1))) : rne p q = p / q := if_neg h

theorem Fit.sum {n : Nat} (h : Fit n) {k m : Nat} (hk : k ≤ 31000) (hm : m ≤ 2 * (n * 2 ^ k)) : Sm m := by
  have h1 := h.sm (k := k + 1) (by omega)
  have e : n * 2 ^ (k + 1) = 2 * (n * 2 ^ k) := by rw [Nat.pow_succ, ← Nat.mul_assoc, Nat.mul_comm]
  rw [e] at h1
  exact Nat.lt_of_le_of_lt hm h1

theorem join64_any (N s : Nat) (w : World) (hs : s ≤ 1000000) (hN : N ≤ 9007199254740992) :
    Calls Tryz.prog 82 #[w64, .int .u64 (N : Int), .int .i64 ((s : Int) - 1074)] w fun e w' => e = .returned (.int .u64 ((min (s * 2 ^ 52 + N) (infN 52 11) : Nat) : Int)) ∧ Below w.heap.size w w' := by
  have e1 : (2 : Nat) ^ 52 = 4503599627370496 := by decide
  rw [inf64, e1]
  rcases Nat.lt_or_ge s 2048 with h | h
  · exact join64_fin N s _ w h hN (by omega)
  · have hm : min (s * 4503599627370496 + N) 9218868437227405312 = 9218868437227405312 := by omega
    rw [hm]
    exact join64_inf N s _ w (by omega) (by omega) hs

set_option maxRecDepth 100000 in
set_option maxHeartbeats 2000000 in
theorem near64_any (oo ou : Option Addr) (lo co lu cu o u : Nat) (w : World) (ho : Nt w (.slice oo lo co) o) (hu : Nt w (.slice ou lu cu) u) (fo : Fit o) (fu : Fit u) (ho0 : o ≠ 0) (hu0 : u ≠ 0) :
    Calls Tryz.prog 50 #[(fracV 52 11 (-1074) (.slice oo lo co) (.slice ou lu cu))] w fun e w' => e = .returned (.int .u64 ((bitsOf 52 1074 (infN 52 11) o u : Nat) : Int)) ∧ Below w.heap.size w w' := by
  have hh := highN_le fo fu
  obtain ⟨pw, hpw⟩ : ∃ p, p = powN 52 1074 o u := ⟨_, rfl⟩
  obtain ⟨h, hhe⟩ : ∃ h, h = highN o u := ⟨_, rfl⟩
  have hmax : pw = max (h - 52) (-1074) := by rw [hpw, hhe]; rfl
  have bitsE : bitsOf 52 1074 (infN 52 11) o u = min ((pw + 1074).toNat * 2 ^ 52 + numN 52 1074 o u) (infN 52 11) := by rw [hpw]; rfl
  rw [← hhe] at hh
  obtain ⟨s, hs⟩ : ∃ s : Nat, pw = (s : Int) - 1074 := ⟨(pw + 1074).toNat, by omega⟩
  have hs1 : s ≤ 40000 := by omega
  rw [show (pw + 1074).toNat = s by omega] at bitsE
  obtain ⟨o', ho'⟩ : ∃ z, z = o * 2 ^ (-pw).toNat := ⟨_, rfl⟩
  obtain ⟨u', hu'⟩ : ∃ z, z = u * 2 ^ pw.toNat := ⟨_, rfl⟩
  have u0 : u' ≠ 0 := by rw [hu']; exact Nat.mul_ne_zero hu0 (by have : 0 < 2 ^ pw.toNat := Nat.pow_pos (by omega); omega)
  have numE : numN 52 1074 o u = rne o' u' := by rw [ho', hu', hpw]; rfl
  have e53 : 2 * 2 ^ 52 = 9007199254740992 := by decide
  have qlt : o' / u' < 9007199254740992 := by rw [ho', hu', hpw, ← e53]; exact quot_lt ho0 hu0
  have nle : rne o' u' ≤ 9007199254740992 := by rw [← numE, ← e53]; exact (numN_le ho0 hu0).1
  have rlt := Nat.mod_lt o' (Nat.pos_of_ne_zero u0)
  have HIG := hide (fun W (hW : Below w.heap.size w W) => highest_any 52 11 (-1074) oo ou lo co lu cu o u W (ho.below hW) (hu.below hW) fo fu)
  rw [← hhe] at HIG
  have DIV : Hid (∀ W, Below w.heap.size w W → Calls Tryz.prog 80 #[(fracV 52 11 (-1074) (.slice oo lo co) (.slice ou lu cu)), .int .i64 pw] W (FrPost W 52 11 (-1074) o' u')) := fun W hW => by
    rw [ho', hu']
    exact divided_any 52 11 (-1074) oo ou lo co lu cu o u pw W (ho.below hW) (hu.below hW) fo.sm0 fu.sm0 (by omega) (by omega)
  have SM : Hid (Sm o' ∧ Sm u' ∧ Sm (o' % u') ∧ Sm (o' % u' + o' % u')) := ⟨by rw [ho']; exact fo.sm (by omega), by rw [hu']; exact fu.sm (by omega), fu.sum (k := pw.toNat) (by omega) (by rw [← hu']; omega), fu.sum (k := pw.toNat) (by omega) (by rw [← hu']; omega)⟩
  have BE : Hid (∀ N, rne o' u' = N → bitsOf 52 1074 (infN 52 11) o u = min (s * 2 ^ 52 + N) (infN 52 11)) := fun N hN => by rw [bitsE, numE, hN]
  have B64' : Hid (o' / u' < B64) := by show o' / u' < B64; unfold B64; omega
  have blk := Blk.new w #[.int .i64 52, .int .i64 11, .int .i64 (-1074), .slice oo lo co, .slice ou lu cu] 85
  obtain ⟨W, hW⟩ : ∃ W, W = w.alloc (.cells #[.int .i64 52, .int .i64 11, .int .i64 (-1074), .slice oo lo co, .slice ou lu cu] 85) := ⟨_, rfl⟩
  rw [← hW] at blk
  have HBW : Hid (Below w.heap.size w W) := by rw [hW]; exact (Below.refl _ _).alloc (Nat.le_refl _) _
  have BLK := hide blk
  have HW := hide hW
  have U0 := hide u0
  have c0 : W.cell? ⟨w.heap.size, 0, none⟩ = some (.int .i64 52) := blk.cell 0
  have c1 : W.cell? ⟨w.heap.size, 1, none⟩ = some (.int .i64 11) := blk.cell 1
  have c2 : W.cell? ⟨w.heap.size, 2, none⟩ = some (.int .i64 (-1074)) := blk.cell 2
  have c3 : W.cell? ⟨w.heap.size, 3, none⟩ = some (.slice oo lo co) := blk.cell 3
  have c4 : W.cell? ⟨w.heap.size, 4, none⟩ = some (.slice ou lu cu) := blk.cell 4
  have b0 : Hid (Below W.heap.size W W.drew) := bdrew' W
  have C1 : Hid (Calls Tryz.prog 79 #[(fracV 52 11 (-1074) (.slice oo lo co) (.slice ou lu cu))] W.drew fun e w' => e = .returned (.int .i64 h) ∧ Hid (Below W.heap.size W w') ∧ w'.cell? ⟨w.heap.size, 0, none⟩ = some (.int .i64 52) ∧ w'.cell? ⟨w.heap.size, 1, none⟩ = some (.int .i64 11) ∧ w'.cell? ⟨w.heap.size, 2, none⟩ = some (.int .i64 (-1074)) ∧ w'.cell? ⟨w.heap.size, 3, none⟩ = some (.slice oo lo co) ∧ w'.cell? ⟨w.heap.size, 4, none⟩ = some (.slice ou lu cu)) := by
    refine (HIG.out W.drew (HBW.out.trans (b0.out.mono HBW.out.size))).mono ?_
    rintro e w' ⟨rfl, hb⟩
    have hbb := b0.out.trans (hb.mono b0.out.size)
    have q := BLK.out.below hbb BLK.out.lt
    exact ⟨rfl, hbb, q.cell 0, q.cell 1, q.cell 2, q.cell 3, q.cell 4⟩
  have HMX := hide hmax
  have HS := hide hs
  have QLT : Hid (o' / u' < 9007199254740992 ∧ rne o' u' ≤ 9007199254740992 ∧ o' % u' < u') := ⟨qlt, nle, rlt⟩
  have HH2 := hide hh
  clear ho hu fo fu ho0 hu0 hpw hhe bitsE ho' hu' u0 numE e53 qlt nle rlt HIG blk hW hmax hs
  go_enter Tryz.func50, Tryz.ntmps50
  go_wp2_with fail
  simp only [← HW.out]
  have mk0 : True := trivial
  go_region_held3 (fun w' => w'.cell? ⟨w.heap.size, 0, none⟩ = some (.int .i64 52) ∧ w'.cell? ⟨w.heap.size, 1, none⟩ = some (.int .i64 11) ∧ w'.cell? ⟨w.heap.size, 2, none⟩ = some (.int .i64 (-1074)) ∧ w'.cell? ⟨w.heap.size, 3, none⟩ = some (.slice oo lo co) ∧ w'.cell? ⟨w.heap.size, 4, none⟩ = some (.slice ou lu cu)) (go_keep) (first
    | (clear mk0; go_at_call 79; refine C1.out.mono ?_; rintro e w1 ⟨rfl, b1, k0, k1, k2, k3, k4⟩; have mk1 : True := trivial))
  have EM : max (IntKind.i64.wrap (h - 52)) (-1074) = pw := by
    have h1 := HMX.out
    have h2 := HH2.out
    rw [IntKind.wrap_i64]; omega
  simp only [EM]
  have HB1 := hide (HBW.out.trans (b1.out.mono HBW.out.size))
  have BLK1 := hide (BLK.out.below b1.out BLK.out.lt)
  have hlt1 := BLK1.out.lt
  clear EM b1 C1 BLK HBW b0 c0 c1 c2 c3 c4 HMX HH2 HW
  go_wp2_with fail
  refine (DIV.out _ HB1.out).mono ?_
  rintro e w2 ⟨o1, l1, p1, o2, l2, p2, rfl, n1, n2, b2⟩
  have OV : Hid (Below w2.heap.size w2 (w2.alloc (.cells #[.int .i64 52, .int .i64 11, .int .i64 (-1074), .slice o1 l1 p1, .slice o2 l2 p2] 85))) := (Below.refl _ _).alloc (Nat.le_refl _) _
  have BLS := hide (Blk.new w2 #[.int .i64 52, .int .i64 11, .int .i64 (-1074), .slice o1 l1 p1, .slice o2 l2 p2] 85)
  have N1 := hide (n1.below OV.out)
  have N2 := hide (n2.below OV.out)
  have HB2 := hide (HB1.out.trans ((b2.trans (OV.out.mono b2.size)).mono HB1.out.size))
  have BLK2 := hide (BLK1.out.below (b2.trans (OV.out.mono b2.size)) BLK1.out.lt)
  clear n1 n2 b2 DIV HB1 BLK1 k0 k1 k2 k3 k4 OV
  go_wp2_with fail
  obtain ⟨V, hV⟩ : ∃ V, V = w2.alloc (.cells #[.int .i64 52, .int .i64 11, .int .i64 (-1074), .slice o1 l1 p1, .slice o2 l2 p2] 85) := ⟨_, rfl⟩
  simp only [← hV]
  rw [← hV] at N1 N2 HB2 BLK2 BLS
  clear hV
  refine (nt_div _ _ o' u' V N1.out N2.out SM.out.1 SM.out.2.1 U0.out).mono ?_
  rintro e w3 ⟨vq, vr, rfl, nq, nr, b3⟩
  obtain ⟨q, hq⟩ : ∃ q, q = o' / u' := ⟨_, rfl⟩
  rw [← hq] at nq
  have BQ : Hid (q < B64) := by rw [hq]; exact B64'.out
  have HQ := hide hq
  clear hq
  obtain ⟨oq, cq, xq, rfl, _⟩ := id nq
  obtain ⟨or, cr, xr, rfl, _⟩ := id nr
  have NQ := hide nq
  have NR := hide nr
  have N3 := hide (N2.out.below b3)
  have HB3 := hide (HB2.out.trans (b3.mono HB2.out.size))
  have BLK3 := hide (BLK2.out.below b3 BLK2.out.lt)
  have BLS3 := hide (BLS.out.below b3 BLS.out.lt)
  clear nq nr b3 N1 N2 HB2 BLK2 BLS
  go_wp2_with fail
  refine (nt_uint _ q w3 NQ.out BQ.out).mono ?_
  rintro e w4 ⟨rfl, rfl⟩
  clear NQ
  go_wp2_with fail
  obtain ⟨G, hG⟩ : ∃ G, G = w2.heap.size := ⟨_, rfl⟩
  simp only [← hG]
  rw [← hG] at BLS3
  clear hG
  have d4 : w3.cell? ⟨G, 4, none⟩ = some (.slice o2 l2 p2) := BLS3.out.cell 4
  have bd : Hid (Below w3.heap.size w3 w3.drew) := bdrew' w3
  obtain ⟨r, hr⟩ : ∃ r, r = o' % u' := ⟨_, rfl⟩
  have hq := HQ.out
  obtain ⟨z, hz⟩ : ∃ z, cmpN (r + r) u' = z := ⟨_, rfl⟩
  have A1 : Hid (Calls Tryz.prog 81 #[.slice or xr.length cr, .slice or xr.length cr] w3.drew fun e w' => ∃ oa la ca, e = .returned (.slice oa la ca) ∧ Hid (Nt w' (.slice oa la ca) (r + r)) ∧ Hid (Below w3.heap.size w3 w') ∧ w'.cell? ⟨G, 4, none⟩ = some (.slice o2 l2 p2)) := by
    rw [hr]
    refine (nt_add _ _ _ _ w3.drew (NR.out.below bd.out) (NR.out.below bd.out) SM.out.2.2.1 SM.out.2.2.1).mono ?_
    rintro e w' ⟨v, rfl, nv, hb, _⟩
    obtain ⟨oa, ca, xa, rfl, _⟩ := id nv
    have hbb := bd.out.trans (hb.mono bd.out.size)
    exact ⟨_, _, _, rfl, nv, hbb, (BLS3.out.below hbb BLS3.out.lt).cell 4⟩
  have A2 : Hid (∀ w' oa la ca, Hid (Nt w' (.slice oa la ca) (r + r)) → Hid (Below w3.heap.size w3 w') → Calls Tryz.prog 73 #[.slice oa la ca, .slice o2 l2 p2] w' fun e w'' => e = .returned (.int .i64 z) ∧ Hid (Below w3.heap.size w3 w'') ∧ w''.cell? ⟨G, 4, none⟩ = some (.slice o2 l2 p2)) := by
    intro w' oa la ca nv hb
    refine (nt_cmp _ _ _ _ z w' nv.out (N3.out.below hb.out) (by rw [hr]; exact SM.out.2.2.2) SM.out.2.1 hz).mono ?_
    rintro e w'' ⟨rfl, hb2⟩
    have hbb := hb.out.trans (hb2.mono hb.out.size)
    exact ⟨rfl, hbb, (BLS3.out.below hbb BLS3.out.lt).cell 4⟩
  have JN : Hid (∀ (W' : World) (N : Nat) (zn : Int), zn = (N : Int) → rne o' u' = N → Calls Tryz.prog 82 #[.agg #[.int .i64 52, .int .i64 11, .int .i64 (-1074)], .int .u64 zn, .int .i64 pw] W' fun e w' => e = .returned (.int .u64 ((bitsOf 52 1074 (infN 52 11) o u : Nat) : Int)) ∧ Below W'.heap.size W' w') := by
    intro W' N zn hzn hN
    rw [hzn, BE.out N hN, HS.out]
    exact join64_any N s W' (by omega) (by rw [← hN]; exact QLT.out.2.1)
  have ZC : Hid ((z = 1 ∧ rne o' u' = q + 1) ∨ (z = 0 ∧ q % 2 = 1 ∧ rne o' u' = q + 1) ∨ (z = 0 ∧ q % 2 = 0 ∧ rne o' u' = q) ∨ (z = -1 ∧ rne o' u' = q)) := by
    have h2 := QLT.out.2.2
    rw [← hr] at h2
    rcases cmpN_or (r + r) u' with h1 | h1 | h1
    · have h3 := cmpN_lt h1
      refine .inr (.inr (.inr ⟨by rw [← hz, h1], ?_⟩))
      rw [hq]; exact rne_down (by rw [← hr]; omega)
    · have h3 := cmpN_eq h1
      by_cases hp : q % 2 = 1
      · refine .inr (.inl ⟨by rw [← hz, h1], hp, ?_⟩)
        rw [hq]; exact rne_up (by rw [← hr, ← hq]; omega)
      · refine .inr (.inr (.inl ⟨by rw [← hz, h1], by omega, ?_⟩))
        rw [hq]; exact rne_down (by rw [← hr, ← hq]; omega)
    · have h3 := cmpN_gt h1
      refine .inl ⟨by rw [← hz, h1], ?_⟩
      rw [hq]; exact rne_up (by rw [← hr]; omega)
  have hql : q ≤ 9007199254740992 := by have := QLT.out.1; omega
  have BK : Hid (∀ w', Below w3.heap.size w3 w' → Below w.heap.size w w' ∧ w'.cell? ⟨w.heap.size, 0, none⟩ = some (.int .i64 52) ∧ w'.cell? ⟨w.heap.size, 1, none⟩ = some (.int .i64 11) ∧ w'.cell? ⟨w.heap.size, 2, none⟩ = some (.int .i64 (-1074))) := fun w' h => by
    have q1 := BLK3.out.below h BLK3.out.lt
    exact ⟨HB3.out.trans (h.mono HB3.out.size), q1.cell 0, q1.cell 1, q1.cell 2⟩
  clear hz hr hq HQ BQ BE HS QLT NR N3 SM B64' U0 HB3 BLK3 BLS3 hs1 hh hlt1
  have mk0 : True := trivial
  go_region_held3 (fun w' => w'.cell? ⟨G, 4, none⟩ = some (.slice o2 l2 p2)) (go_keep) (first
    | (clear mk0; go_at_call 81; refine A1.out.mono ?_; rintro e w5 ⟨oa, la, ca, rfl, na, b5, k5⟩; have mk1 : True := trivial)
    | (clear mk1; go_at_call 73; refine (A2.out _ _ _ _ na b5).mono ?_; rintro e w6 ⟨rfl, b6, k6⟩; have mk2 : True := trivial))
  all_goals (
    obtain ⟨hbel, k0, k1, k2⟩ := BK.out _ b6.out
    have HB6 := hide hbel
    clear hbel b5 b6 na A1 A2 BK bd k5 k6 d4
    rcases ZC.out with ⟨rfl, hN⟩ | ⟨rfl, hp, hN⟩ | ⟨rfl, hp, hN⟩ | ⟨rfl, hN⟩)
  · have J1 := hide (fun W' => JN.out W' (q + 1) ((q : Int) + 1) (by omega) hN)
    clear JN ZC hN
    go_wp2_with fail
    refine (J1.out _).mono ?_
    rintro e w7 ⟨rfl, b7⟩
    have FIN := hide (HB6.out.trans (b7.mono HB6.out.size))
    clear b7 J1 HB6
    go_wp2
    go_ret
    exact ⟨rfl, FIN.out⟩
  · have hp' : ((q : Int) % 2 == 1) = true := by
      have h1 : (q : Int) % 2 = 1 := by omega
      simpa using h1
    clear hp
    have J1 := hide (fun W' => JN.out W' (q + 1) ((q : Int) + 1) (by omega) hN)
    clear JN ZC hN
    go_wp2_with fail
    refine (J1.out _).mono ?_
    rintro e w7 ⟨rfl, b7⟩
    have FIN := hide (HB6.out.trans (b7.mono HB6.out.size))
    clear b7 J1 HB6
    go_wp2
    go_ret
    exact ⟨rfl, FIN.out⟩
  · have hp' : ((q : Int) % 2 == 1) = false := by
      have h1 : ¬ (q : Int) % 2 = 1 := by omega
      simpa using h1
    clear hp
    have J1 := hide (fun W' => JN.out W' (q) ((q : Int)) (by omega) hN)
    clear JN ZC hN
    go_wp2_with fail
    refine (J1.out _).mono ?_
    rintro e w7 ⟨rfl, b7⟩
    have FIN := hide (HB6.out.trans (b7.mono HB6.out.size))
    clear b7 J1 HB6
    go_wp2
    go_ret
    exact ⟨rfl, FIN.out⟩
  · have J1 := hide (fun W' => JN.out W' (q) ((q : Int)) (by omega) hN)
    clear JN ZC hN
    go_wp2_with fail
    refine (J1.out _).mono ?_
    rintro e w7 ⟨rfl, b7⟩
    have FIN := hide (HB6.out.trans (b7.mono HB6.out.size))
    clear b7 J1 HB6
    go_wp2
    go_ret
    exact ⟨rfl, FIN.out⟩

theorem join32_any (N s : Nat) (w : World) (hs : s ≤ 1000000) (hN : N ≤ 16777216) :
    Calls Tryz.prog 82 #[w32, .int .u64 (N : Int), .int .i64 ((s : Int) - 149)] w fun e w' => e = .returned (.int .u64 ((min (s * 2 ^ 23 + N) (infN 23 8) : Nat) : Int)) ∧ Below w.heap.size w w' := by
  have e1 : (2 : Nat) ^ 23 = 8388608 := by decide
  rw [inf32, e1]
  rcases Nat.lt_or_ge s 256 with h | h
  · exact join32_fin N s _ w h hN (by omega)
  · have hm : min (s * 8388608 + N) 2139095040 = 2139095040 := by omega
    rw [hm]
    exact join32_inf N s _ w (by omega) (by omega) hs

set_option maxRecDepth 100000 in
set_option maxHeartbeats 2000000 in
theorem near32_any (oo ou : Option Addr) (lo co lu cu o u : Nat) (w : World) (ho : Nt w (.slice oo lo co) o) (hu : Nt w (.slice ou lu cu) u) (fo : Fit o) (fu : Fit u) (ho0 : o ≠ 0) (hu0 : u ≠ 0) :
    Calls Tryz.prog 50 #[(fracV 23 8 (-149) (.slice oo lo co) (.slice ou lu cu))] w fun e w' => e = .returned (.int .u64 ((bitsOf 23 149 (infN 23 8) o u : Nat) : Int)) ∧ Below w.heap.size w w' := by
  have hh := highN_le fo fu
  obtain ⟨pw, hpw⟩ : ∃ p, p = powN 23 149 o u := ⟨_, rfl⟩
  obtain ⟨h, hhe⟩ : ∃ h, h = highN o u := ⟨_, rfl⟩
  have hmax : pw = max (h - 23) (-149) := by rw [hpw, hhe]; rfl
  have bitsE : bitsOf 23 149 (infN 23 8) o u = min ((pw + 149).toNat * 2 ^ 23 + numN 23 149 o u) (infN 23 8) := by rw [hpw]; rfl
  rw [← hhe] at hh
  obtain ⟨s, hs⟩ : ∃ s : Nat, pw = (s : Int) - 149 := ⟨(pw + 149).toNat, by omega⟩
  have hs1 : s ≤ 40000 := by omega
  rw [show (pw + 149).toNat = s by omega] at bitsE
  obtain ⟨o', ho'⟩ : ∃ z, z = o * 2 ^ (-pw).toNat := ⟨_, rfl⟩
  obtain ⟨u', hu'⟩ : ∃ z, z = u * 2 ^ pw.toNat := ⟨_, rfl⟩
  have u0 : u' ≠ 0 := by rw [hu']; exact Nat.mul_ne_zero hu0 (by have : 0 < 2 ^ pw.toNat := Nat.pow_pos (by omega); omega)
  have numE : numN 23 149 o u = rne o' u' := by rw [ho', hu', hpw]; rfl
  have e53 : 2 * 2 ^ 23 = 16777216 := by decide
  have qlt : o' / u' < 16777216 := by rw [ho', hu', hpw, ← e53]; exact quot_lt ho0 hu0
  have nle : rne o' u' ≤ 16777216 := by rw [← numE, ← e53]; exact (numN_le ho0 hu0).1
  have rlt := Nat.mod_lt o' (Nat.pos_of_ne_zero u0)
  have HIG := hide (fun W (hW : Below w.heap.size w W) => highest_any 23 8 (-149) oo ou lo co lu cu o u W (ho.below hW) (hu.below hW) fo fu)
  rw [← hhe] at HIG
  have DIV : Hid (∀ W, Below w.heap.size w W → Calls Tryz.prog 80 #[(fracV 23 8 (-149) (.slice oo lo co) (.slice ou lu cu)), .int .i64 pw] W (FrPost W 23 8 (-149) o' u')) := fun W hW => by
    rw [ho', hu']
    exact divided_any 23 8 (-149) oo ou lo co lu cu o u pw W (ho.below hW) (hu.below hW) fo.sm0 fu.sm0 (by omega) (by omega)
  have SM : Hid (Sm o' ∧ Sm u' ∧ Sm (o' % u') ∧ Sm (o' % u' + o' % u')) := ⟨by rw [ho']; exact fo.sm (by omega), by rw [hu']; exact fu.sm (by omega), fu.sum (k := pw.toNat) (by omega) (by rw [← hu']; omega), fu.sum (k := pw.toNat) (by omega) (by rw [← hu']; omega)⟩
  have BE : Hid (∀ N, rne o' u' = N → bitsOf 23 149 (infN 23 8) o u = min (s * 2 ^ 23 + N) (infN 23 8)) := fun N hN => by rw [bitsE, numE, hN]
  have B64' : Hid (o' / u' < B64) := by show o' / u' < B64; unfold B64; omega
  have blk := Blk.new w #[.int .i64 23, .int .i64 8, .int .i64 (-149), .slice oo lo co, .slice ou lu cu] 85
  obtain ⟨W, hW⟩ : ∃ W, W = w.alloc (.cells #[.int .i64 23, .int .i64 8, .int .i64 (-149), .slice oo lo co, .slice ou lu cu] 85) := ⟨_, rfl⟩
  rw [← hW] at blk
  have HBW : Hid (Below w.heap.size w W) := by rw [hW]; exact (Below.refl _ _).alloc (Nat.le_refl _) _
  have BLK := hide blk
  have HW := hide hW
  have U0 := hide u0
  have c0 : W.cell? ⟨w.heap.size, 0, none⟩ = some (.int .i64 23) := blk.cell 0
  have c1 : W.cell? ⟨w.heap.size, 1, none⟩ = some (.int .i64 8) := blk.cell 1
  have c2 : W.cell? ⟨w.heap.size, 2, none⟩ = some (.int .i64 (-149)) := blk.cell 2
  have c3 : W.cell? ⟨w.heap.size, 3, none⟩ = some (.slice oo lo co) := blk.cell 3
  have c4 : W.cell? ⟨w.heap.size, 4, none⟩ = some (.slice ou lu cu) := blk.cell 4
  have b0 : Hid (Below W.heap.size W W.drew) := bdrew' W
  have C1 : Hid (Calls Tryz.prog 79 #[(fracV 23 8 (-149) (.slice oo lo co) (.slice ou lu cu))] W.drew fun e w' => e = .returned (.int .i64 h) ∧ Hid (Below W.heap.size W w') ∧ w'.cell? ⟨w.heap.size, 0, none⟩ = some (.int .i64 23) ∧ w'.cell? ⟨w.heap.size, 1, none⟩ = some (.int .i64 8) ∧ w'.cell? ⟨w.heap.size, 2, none⟩ = some (.int .i64 (-149)) ∧ w'.cell? ⟨w.heap.size, 3, none⟩ = some (.slice oo lo co) ∧ w'.cell? ⟨w.heap.size, 4, none⟩ = some (.slice ou lu cu)) := by
    refine (HIG.out W.drew (HBW.out.trans (b0.out.mono HBW.out.size))).mono ?_
    rintro e w' ⟨rfl, hb⟩
    have hbb := b0.out.trans (hb.mono b0.out.size)
    have q := BLK.out.below hbb BLK.out.lt
    exact ⟨rfl, hbb, q.cell 0, q.cell 1, q.cell 2, q.cell 3, q.cell 4⟩
  have HMX := hide hmax
  have HS := hide hs
  have QLT : Hid (o' / u' < 16777216 ∧ rne o' u' ≤ 16777216 ∧ o' % u' < u') := ⟨qlt, nle, rlt⟩
  have HH2 := hide hh
  clear ho hu fo fu ho0 hu0 hpw hhe bitsE ho' hu' u0 numE e53 qlt nle rlt HIG blk hW hmax hs
  go_enter Tryz.func50, Tryz.ntmps50
  go_wp2_with fail
  simp only [← HW.out]
  have mk0 : True := trivial
  go_region_held3 (fun w' => w'.cell? ⟨w.heap.size, 0, none⟩ = some (.int .i64 23) ∧ w'.cell? ⟨w.heap.size, 1, none⟩ = some (.int .i64 8) ∧ w'.cell? ⟨w.heap.size, 2, none⟩ = some (.int .i64 (-149)) ∧ w'.cell? ⟨w.heap.size, 3, none⟩ = some (.slice oo lo co) ∧ w'.cell? ⟨w.heap.size, 4, none⟩ = some (.slice ou lu cu)) (go_keep) (first
    | (clear mk0; go_at_call 79; refine C1.out.mono ?_; rintro e w1 ⟨rfl, b1, k0, k1, k2, k3, k4⟩; have mk1 : True := trivial))
  have EM : max (IntKind.i64.wrap (h - 23)) (-149) = pw := by
    have h1 := HMX.out
    have h2 := HH2.out
    rw [IntKind.wrap_i64]; omega
  simp only [EM]
  have HB1 := hide (HBW.out.trans (b1.out.mono HBW.out.size))
  have BLK1 := hide (BLK.out.below b1.out BLK.out.lt)
  have hlt1 := BLK1.out.lt
  clear EM b1 C1 BLK HBW b0 c0 c1 c2 c3 c4 HMX HH2 HW
  go_wp2_with fail
  refine (DIV.out _ HB1.out).mono ?_
  rintro e w2 ⟨o1, l1, p1, o2, l2, p2, rfl, n1, n2, b2⟩
  have OV : Hid (Below w2.heap.size w2 (w2.alloc (.cells #[.int .i64 23, .int .i64 8, .int .i64 (-149), .slice o1 l1 p1, .slice o2 l2 p2] 85))) := (Below.refl _ _).alloc (Nat.le_refl _) _
  have BLS := hide (Blk.new w2 #[.int .i64 23, .int .i64 8, .int .i64 (-149), .slice o1 l1 p1, .slice o2 l2 p2] 85)
  have N1 := hide (n1.below OV.out)
  have N2 := hide (n2.below OV.out)
  have HB2 := hide (HB1.out.trans ((b2.trans (OV.out.mono b2.size)).mono HB1.out.size))
  have BLK2 := hide (BLK1.out.below (b2.trans (OV.out.mono b2.size)) BLK1.out.lt)
  clear n1 n2 b2 DIV HB1 BLK1 k0 k1 k2 k3 k4 OV
  go_wp2_with fail
  obtain ⟨V, hV⟩ : ∃ V, V = w2.alloc (.cells #[.int .i64 23, .int .i64 8, .int .i64 (-149), .slice o1 l1 p1, .slice o2 l2 p2] 85) := ⟨_, rfl⟩
  simp only [← hV]
  rw [← hV] at N1 N2 HB2 BLK2 BLS
  clear hV
  refine (nt_div _ _ o' u' V N1.out N2.out SM.out.1 SM.out.2.1 U0.out).mono ?_
  rintro e w3 ⟨vq, vr, rfl, nq, nr, b3⟩
  obtain ⟨q, hq⟩ : ∃ q, q = o' / u' := ⟨_, rfl⟩
  rw [← hq] at nq
  have BQ : Hid (q < B64) := by rw [hq]; exact B64'.out
  have HQ := hide hq
  clear hq
  obtain ⟨oq, cq, xq, rfl, _⟩ := id nq
  obtain ⟨or, cr, xr, rfl, _⟩ := id nr
  have NQ := hide nq
  have NR := hide nr
  have N3 := hide (N2.out.below b3)
  have HB3 := hide (HB2.out.trans (b3.mono HB2.out.size))
  have BLK3 := hide (BLK2.out.below b3 BLK2.out.lt)
  have BLS3 := hide (BLS.out.below b3 BLS.out.lt)
  clear nq nr b3 N1 N2 HB2 BLK2 BLS
  go_wp2_with fail
  refine (nt_uint _ q w3 NQ.out BQ.out).mono ?_
  rintro e w4 ⟨rfl, rfl⟩
  clear NQ
  go_wp2_with fail
  obtain ⟨G, hG⟩ : ∃ G, G = w2.heap.size := ⟨_, rfl⟩
  simp only [← hG]
  rw [← hG] at BLS3
  clear hG
  have d4 : w3.cell? ⟨G, 4, none⟩ = some (.slice o2 l2 p2) := BLS3.out.cell 4
  have bd : Hid (Below w3.heap.size w3 w3.drew) := bdrew' w3
  obtain ⟨r, hr⟩ : ∃ r, r = o' % u' := ⟨_, rfl⟩
  have hq := HQ.out
  obtain ⟨z, hz⟩ : ∃ z, cmpN (r + r) u' = z := ⟨_, rfl⟩
  have A1 : Hid (Calls Tryz.prog 81 #[.slice or xr.length cr, .slice or xr.length cr] w3.drew fun e w' => ∃ oa la ca, e = .returned (.slice oa la ca) ∧ Hid (Nt w' (.slice oa la ca) (r + r)) ∧ Hid (Below w3.heap.size w3 w') ∧ w'.cell? ⟨G, 4, none⟩ = some (.slice o2 l2 p2)) := by
    rw [hr]
    refine (nt_add _ _ _ _ w3.drew (NR.out.below bd.out) (NR.out.below bd.out) SM.out.2.2.1 SM.out.2.2.1).mono ?_
    rintro e w' ⟨v, rfl, nv, hb, _⟩
    obtain ⟨oa, ca, xa, rfl, _⟩ := id nv
    have hbb := bd.out.trans (hb.mono bd.out.size)
    exact ⟨_, _, _, rfl, nv, hbb, (BLS3.out.below hbb BLS3.out.lt).cell 4⟩
  have A2 : Hid (∀ w' oa la ca, Hid (Nt w' (.slice oa la ca) (r + r)) → Hid (Below w3.heap.size w3 w') → Calls Tryz.prog 73 #[.slice oa la ca, .slice o2 l2 p2] w' fun e w'' => e = .returned (.int .i64 z) ∧ Hid (Below w3.heap.size w3 w'') ∧ w''.cell? ⟨G, 4, none⟩ = some (.slice o2 l2 p2)) := by
    intro w' oa la ca nv hb
    refine (nt_cmp _ _ _ _ z w' nv.out (N3.out.below hb.out) (by rw [hr]; exact SM.out.2.2.2) SM.out.2.1 hz).mono ?_
    rintro e w'' ⟨rfl, hb2⟩
    have hbb := hb.out.trans (hb2.mono hb.out.size)
    exact ⟨rfl, hbb, (BLS3.out.below hbb BLS3.out.lt).cell 4⟩
  have JN : Hid (∀ (W' : World) (N : Nat) (zn : Int), zn = (N : Int) → rne o' u' = N → Calls Tryz.prog 82 #[.agg #[.int .i64 23, .int .i64 8, .int .i64 (-149)], .int .u64 zn, .int .i64 pw] W' fun e w' => e = .returned (.int .u64 ((bitsOf 23 149 (infN 23 8) o u : Nat) : Int)) ∧ Below W'.heap.size W' w') := by
    intro W' N zn hzn hN
    rw [hzn, BE.out N hN, HS.out]
    exact join32_any N s W' (by omega) (by rw [← hN]; exact QLT.out.2.1)
  have ZC : Hid ((z = 1 ∧ rne o' u' = q + 1) ∨ (z = 0 ∧ q % 2 = 1 ∧ rne o' u' = q + 1) ∨ (z = 0 ∧ q % 2 = 0 ∧ rne o' u' = q) ∨ (z = -1 ∧ rne o' u' = q)) := by
    have h2 := QLT.out.2.2
    rw [← hr] at h2
    rcases cmpN_or (r + r) u' with h1 | h1 | h1
    · have h3 := cmpN_lt h1
      refine .inr (.inr (.inr ⟨by rw [← hz, h1], ?_⟩))
      rw [hq]; exact rne_down (by rw [← hr]; omega)
    · have h3 := cmpN_eq h1
      by_cases hp : q % 2 = 1
      · refine .inr (.inl ⟨by rw [← hz, h1], hp, ?_⟩)
        rw [hq]; exact rne_up (by rw [← hr, ← hq]; omega)
      · refine .inr (.inr (.inl ⟨by rw [← hz, h1], by omega, ?_⟩))
        rw [hq]; exact rne_down (by rw [← hr, ← hq]; omega)
    · have h3 := cmpN_gt h1
      refine .inl ⟨by rw [← hz, h1], ?_⟩
      rw [hq]; exact rne_up (by rw [← hr]; omega)
  have hql : q ≤ 16777216 := by have := QLT.out.1; omega
  have BK : Hid (∀ w', Below w3.heap.size w3 w' → Below w.heap.size w w' ∧ w'.cell? ⟨w.heap.size, 0, none⟩ = some (.int .i64 23) ∧ w'.cell? ⟨w.heap.size, 1, none⟩ = some (.int .i64 8) ∧ w'.cell? ⟨w.heap.size, 2, none⟩ = some (.int .i64 (-149))) := fun w' h => by
    have q1 := BLK3.out.below h BLK3.out.lt
    exact ⟨HB3.out.trans (h.mono HB3.out.size), q1.cell 0, q1.cell 1, q1.cell 2⟩
  clear hz hr hq HQ BQ BE HS QLT NR N3 SM B64' U0 HB3 BLK3 BLS3 hs1 hh hlt1
  have mk0 : True := trivial
  go_region_held3 (fun w' => w'.cell? ⟨G, 4, none⟩ = some (.slice o2 l2 p2)) (go_keep) (first
    | (clear mk0; go_at_call 81; refine A1.out.mono ?_; rintro e w5 ⟨oa, la, ca, rfl, na, b5, k5⟩; have mk1 : True := trivial)
    | (clear mk1; go_at_call 73; refine (A2.out _ _ _ _ na b5).mono ?_; rintro e w6 ⟨rfl, b6, k6⟩; have mk2 : True := trivial))
  all_goals (
    obtain ⟨hbel, k0, k1, k2⟩ := BK.out _ b6.out
    have HB6 := hide hbel
    clear hbel b5 b6 na A1 A2 BK bd k5 k6 d4
    rcases ZC.out with ⟨rfl, hN⟩ | ⟨rfl, hp, hN⟩ | ⟨rfl, hp, hN⟩ | ⟨rfl, hN⟩)
  · have J1 := hide (fun W' => JN.out W' (q + 1) ((q : Int) + 1) (by omega) hN)
    clear JN ZC hN
    go_wp2_with fail
    refine (J1.out _).mono ?_
    rintro e w7 ⟨rfl, b7⟩
    have FIN := hide (HB6.out.trans (b7.mono HB6.out.size))
    clear b7 J1 HB6
    go_wp2
    go_ret
    exact ⟨rfl, FIN.out⟩
  · have hp' : ((q : Int) % 2 == 1) = true := by
      have h1 : (q : Int) % 2 = 1 := by omega
      simpa using h1
    clear hp
    have J1 := hide (fun W' => JN.out W' (q + 1) ((q : Int) + 1) (by omega) hN)
    clear JN ZC hN
    go_wp2_with fail
    refine (J1.out _).mono ?_
    rintro e w7 ⟨rfl, b7⟩
    have FIN := hide (HB6.out.trans (b7.mono HB6.out.size))
    clear b7 J1 HB6
    go_wp2
    go_ret
    exact ⟨rfl, FIN.out⟩
  · have hp' : ((q : Int) % 2 == 1) = false := by
      have h1 : ¬ (q : Int) % 2 = 1 := by omega
      simpa using h1
    clear hp
    have J1 := hide (fun W' => JN.out W' (q) ((q : Int)) (by omega) hN)
    clear JN ZC hN
    go_wp2_with fail
    refine (J1.out _).mono ?_
    rintro e w7 ⟨rfl, b7⟩
    have FIN := hide (HB6.out.trans (b7.mono HB6.out.size))
    clear b7 J1 HB6
    go_wp2
    go_ret
    exact ⟨rfl, FIN.out⟩
  · have J1 := hide (fun W' => JN.out W' (q) ((q : Int)) (by omega) hN)
    clear JN ZC hN
    go_wp2_with fail
    refine (J1.out _).mono ?_
    rintro e w7 ⟨rfl, b7⟩
    have FIN := hide (HB6.out.trans (b7.mono HB6.out.size))
    clear b7 J1 HB6
    go_wp2
    go_ret
    exact ⟨rfl, FIN.out⟩

end Go.Proofs.YtpiloigpncbccacGreatDoor

namespace Go.Proofs.YtpiloigpncbccacGreatDoor
open Go.RowKit

/-- A Dec as a value. -/
abbrev dcV (c : Int) (neg : Bool) (t : ByteArray) (e : Int) : Value := .agg #[.int .i64 c, .bool neg, .string t, .int .i64 e]

theorem size_nil {t : ByteArray} (h : t.size = 0) : t = ⟨#[]⟩ := by
  cases t with | mk d => simp [ByteArray.size] at h; rw [h]

theorem toList_ne {t : ByteArray} (h : t.size ≠ 0) : (t.toList == []) = false := by
  have : t.toList ≠ [] := fun e => h (by
    rw [ByteArray.toList_eq] at e
    have h1 := congrArg List.length e
    rw [← bys_len]
    exact h1)
  cases hl : t.toList with
  | nil => exact absurd hl this
  | cons a l => rfl

theorem bare_yes (c : Int) (neg : Bool) (w : World) : Calls Tryz.prog 76 #[dcV c neg ⟨#[]⟩ 0] w fun e w' => e = .returned (.bool true) ∧ Below w.heap.size w w' := by
  go_enter Tryz.func76, Tryz.ntmps76
  go_wp2
  go_ret
  exact ⟨rfl, (Below.refl _ _).alloc (Nat.le_refl _) _⟩

theorem bare_exp (c ex : Int) (neg : Bool) (w : World) (h : ¬ ex = 0) : Calls Tryz.prog 76 #[dcV c neg ⟨#[]⟩ ex] w fun e w' => e = .returned (.bool false) ∧ Below w.heap.size w w' := by
  have h' : (ex == 0) = false := by simpa using h
  go_enter Tryz.func76, Tryz.ntmps76
  go_wp2
  go_ret
  exact ⟨rfl, (Below.refl _ _).alloc (Nat.le_refl _) _⟩

theorem bare_dig (c ex : Int) (neg : Bool) (t : ByteArray) (w : World) (h : t.size ≠ 0) : Calls Tryz.prog 76 #[dcV c neg t ex] w fun e w' => e = .returned (.bool false) ∧ Below w.heap.size w w' := by
  have h2 := toList_ne h
  clear h
  go_enter Tryz.func76, Tryz.ntmps76
  go_wp2
  go_ret
  exact ⟨rfl, (Below.refl _ _).alloc (Nat.le_refl _) _⟩

theorem bare_no (c ex : Int) (neg : Bool) (t : ByteArray) (w : World) (h : ¬ (t.size = 0 ∧ ex = 0)) : Calls Tryz.prog 76 #[dcV c neg t ex] w fun e w' => e = .returned (.bool false) ∧ Below w.heap.size w w' := by
  by_cases h0 : t.size = 0
  · rw [size_nil h0]; exact bare_exp c ex neg w (fun e => h ⟨h0, e⟩)
  · exact bare_dig c ex neg t w h0

set_option maxHeartbeats 1000000 in
theorem digits_yes (t : ByteArray) (n : Nat) (w : World) (hn : t.size = n) (hm : n ≤ 1000) (hd : DigB (bys t)) : Calls Tryz.prog 109 #[.string t] w fun e w' => e = .returned (.bool true) ∧ w = w' := by
  have HD := hide hd
  have HL : Hid ((bys t).length = n) := by rw [← hn]; exact bys_len t
  clear hd
  go_enter Tryz.func109, Tryz.ntmps109
  go_wp2
  go_loopw [6] (fun i wr => ∃ k : Nat, k ≤ n ∧ i = .int .i64 (k : Int) ∧ wr = w) (fun i _ => n - (intOf i).toNat)
  case atStart => exact ⟨0, Nat.zero_le _, rfl, rfl⟩
  case round =>
    obtain ⟨k, hk, rfl, rfl⟩ := hrel
    by_cases hlt : k < n
    · have hlt' : (k : Int) < (t.size : Int) := by omega
      have hks : k < t.size := by omega
      have hg : ∀ h : k < t.size, t[k].toNat = byt (bys t) k := fun h => byt_get t k h
      have hb := HD.out k (by rw [HL.out]; exact hlt)
      obtain ⟨b, hbb⟩ : ∃ b, b = byt (bys t) k := ⟨_, rfl⟩
      rw [← hbb] at hg hb
      have h1' : ¬ (b : Int) < 48 := by omega
      have h2' : ¬ (57 : Int) < (b : Int) := by omega
      clear hbb
      go_wp2
      exact ⟨⟨k + 1, by omega, by go_num, trivial⟩, by simp [intOf]; omega⟩
    · have hlt' : ¬ (k : Int) < (t.size : Int) := by omega
      go_wp2
      go_ret
      exact ⟨rfl, rfl⟩

set_option maxHeartbeats 1000000 in
theorem digits_no (t : ByteArray) (n j : Nat) (w : World) (hn : t.size = n) (hm : n ≤ 1000) (hj : j < n) (hd : ¬ (48 ≤ byt (bys t) j ∧ byt (bys t) j ≤ 57)) : Calls Tryz.prog 109 #[.string t] w fun e w' => e = .returned (.bool false) ∧ w = w' := by
  have HD := hide hd
  clear hd
  go_enter Tryz.func109, Tryz.ntmps109
  go_wp2
  go_loopw [6] (fun i wr => ∃ k : Nat, k ≤ j ∧ i = .int .i64 (k : Int) ∧ wr = w) (fun i _ => n - (intOf i).toNat)
  case atStart => exact ⟨0, Nat.zero_le _, rfl, rfl⟩
  case round =>
    obtain ⟨k, hk, rfl, rfl⟩ := hrel
    have hlt' : (k : Int) < (t.size : Int) := by omega
    have hks : k < t.size := by omega
    have hg : ∀ h : k < t.size, t[k].toNat = byt (bys t) k := fun h => byt_get t k h
    obtain ⟨b, hbb⟩ : ∃ b, b = byt (bys t) k := ⟨_, rfl⟩
    rw [← hbb] at hg
    have HBB := hide hbb
    clear hbb
    by_cases h1 : b < 48
    · have h1' : (b : Int) < 48 := by omega
      go_wp2
      go_ret
      exact ⟨rfl, rfl⟩
    · have h1' : ¬ (b : Int) < 48 := by omega
      by_cases h2 : 57 < b
      · have h2' : (57 : Int) < (b : Int) := by omega
        go_wp2
        go_ret
        exact ⟨rfl, rfl⟩
      · have h2' : ¬ (57 : Int) < (b : Int) := by omega
        have hne : k ≠ j := fun e => HD.out (by rw [← e, ← HBB.out]; omega)
        go_wp2
        exact ⟨⟨k + 1, by omega, by go_num, trivial⟩, by simp [intOf]; omega⟩

/-- The digits of a Dec that may be. -/
def DigD (dig : List UInt8) (e : Int) : Prop :=
  dig ≠ [] ∧ dig.length ≤ 1000 ∧ -2000 ≤ e + dig.length ∧ e + dig.length ≤ 2000 ∧ byt dig 0 ≠ 48 ∧ byt dig (dig.length - 1) ≠ 48 ∧ DigB dig

theorem bys_nil {t : ByteArray} : bys t = [] ↔ t.size = 0 := by
  rw [← bys_len]; exact List.length_eq_zero_iff.symm

set_option maxRecDepth 100000 in
set_option maxHeartbeats 1000000 in
theorem mdig_yes (t : ByteArray) (ex : Int) (w : World) (h : DigD (bys t) ex) : Calls Tryz.prog 77 #[.string t, .int .i64 ex] w fun e w' => e = .returned (.bool true) ∧ w = w' := by
  obtain ⟨h0, h1, h2, h3, h4, h5, h6⟩ := h
  rw [bys_len] at h1 h2 h3 h5
  have hn0 : t.size ≠ 0 := fun e => h0 (bys_nil.2 e)
  obtain ⟨j, hj⟩ : ∃ j, t.size = j + 1 := ⟨t.size - 1, by omega⟩
  have DG := hide (digits_yes t (j + 1) w hj (by omega) h6)
  have hg0 : ∀ h : 0 < t.size, t[0].toNat = byt (bys t) 0 := fun h => byt_get t 0 h
  have hgz : ∀ h : j < t.size, t[j].toNat = byt (bys t) j := fun h => byt_get t j h
  rw [show t.size - 1 = j by omega] at h5
  obtain ⟨a, ha⟩ : ∃ b, b = byt (bys t) 0 := ⟨_, rfl⟩
  obtain ⟨z, hz⟩ : ∃ b, b = byt (bys t) j := ⟨_, rfl⟩
  rw [← ha] at hg0 h4
  rw [← hz] at hgz h5
  have hp0 : 0 < t.size := by omega
  have hp1 : j < t.size := by omega
  have hp1' : (j : Int) < (t.size : Int) := by omega
  have e0 : ((j : Int) + 1 == 0) = false := by
    have : ¬ (j : Int) + 1 = 0 := by omega
    simpa using this
  have e1 : decide ((1000 : Int) < (j : Int) + 1) = false := decide_eq_false (by omega)
  have e2 : decide (ex < -2000 - ((j : Int) + 1)) = false := decide_eq_false (by omega)
  have e3 : decide (2000 - ((j : Int) + 1) < ex) = false := decide_eq_false (by omega)
  have c1 : ((a : Int) != 48) = true := by
    have : ¬ (a : Int) = 48 := by omega
    simpa using this
  have c2 : ((z : Int) != 48) = true := by
    have : ¬ (z : Int) = 48 := by omega
    simpa using this
  clear ha hz h4 h5 h0 h6
  go_enter Tryz.func77, Tryz.ntmps77
  go_wp2_with fail
  refine DG.out.mono ?_
  rintro e w1 ⟨rfl, rfl⟩
  clear DG
  go_wp2
  go_ret
  exact ⟨rfl, rfl⟩

theorem mdig_nil (ex : Int) (w : World) : Calls Tryz.prog 77 #[.string ⟨#[]⟩, .int .i64 ex] w fun e w' => e = .returned (.bool false) ∧ w = w' := by
  go_enter Tryz.func77, Tryz.ntmps77
  go_wp2
  go_ret
  exact ⟨rfl, rfl⟩

set_option maxRecDepth 100000 in
set_option maxHeartbeats 1000000 in
theorem mdig_long (t : ByteArray) (ex : Int) (w : World) (h : 1000 < t.size) : Calls Tryz.prog 77 #[.string t, .int .i64 ex] w fun e w' => e = .returned (.bool false) ∧ w = w' := by
  have e0 : ((t.size : Int) == 0) = false := by
    have : ¬ (t.size : Int) = 0 := by omega
    simpa using this
  have e1 : decide ((1000 : Int) < (t.size : Int)) = true := decide_eq_true (by omega)
  go_enter Tryz.func77, Tryz.ntmps77
  go_wp2
  go_ret
  exact ⟨rfl, rfl⟩

set_option maxRecDepth 100000 in
set_option maxHeartbeats 1000000 in
theorem mdig_low (t : ByteArray) (ex : Int) (w : World) (j : Nat) (hj : t.size = j + 1) (h : j + 1 ≤ 1000) (he : ex < -2000 - ((j : Int) + 1)) : Calls Tryz.prog 77 #[.string t, .int .i64 ex] w fun e w' => e = .returned (.bool false) ∧ w = w' := by
  have e0 : ((j : Int) + 1 == 0) = false := by
    have : ¬ (j : Int) + 1 = 0 := by omega
    simpa using this
  have e1 : decide ((1000 : Int) < (j : Int) + 1) = false := decide_eq_false (by omega)
  have e2 : decide (ex < -2000 - ((j : Int) + 1)) = true := decide_eq_true (by omega)
  go_enter Tryz.func77, Tryz.ntmps77
  go_wp2
  go_ret
  exact ⟨rfl, rfl⟩

set_option maxRecDepth 100000 in
set_option maxHeartbeats 1000000 in
theorem mdig_high (t : ByteArray) (ex : Int) (w : World) (j : Nat) (hj : t.size = j + 1) (h : j + 1 ≤ 1000) (he : 2000 - ((j : Int) + 1) < ex) : Calls Tryz.prog 77 #[.string t, .int .i64 ex] w fun e w' => e = .returned (.bool false) ∧ w = w' := by
  have e0 : ((j : Int) + 1 == 0) = false := by
    have : ¬ (j : Int) + 1 = 0 := by omega
    simpa using this
  have e1 : decide ((1000 : Int) < (j : Int) + 1) = false := decide_eq_false (by omega)
  have e2 : decide (ex < -2000 - ((j : Int) + 1)) = false := decide_eq_false (by omega)
  have e3 : decide (2000 - ((j : Int) + 1) < ex) = true := decide_eq_true (by omega)
  go_enter Tryz.func77, Tryz.ntmps77
  go_wp2
  go_ret
  exact ⟨rfl, rfl⟩

set_option maxRecDepth 100000 in
set_option maxHeartbeats 1000000 in
theorem mdig_first (t : ByteArray) (ex : Int) (w : World) (j : Nat) (hj : t.size = j + 1) (h : j + 1 ≤ 1000) (hl : -2000 - ((j : Int) + 1) ≤ ex) (he : ex ≤ 2000 - ((j : Int) + 1)) (hf : byt (bys t) 0 = 48) : Calls Tryz.prog 77 #[.string t, .int .i64 ex] w fun e w' => e = .returned (.bool false) ∧ w = w' := by
  have e0 : ((j : Int) + 1 == 0) = false := by
    have : ¬ (j : Int) + 1 = 0 := by omega
    simpa using this
  have e1 : decide ((1000 : Int) < (j : Int) + 1) = false := decide_eq_false (by omega)
  have e2 : decide (ex < -2000 - ((j : Int) + 1)) = false := decide_eq_false (by omega)
  have e3 : decide (2000 - ((j : Int) + 1) < ex) = false := decide_eq_false (by omega)
  have hg0 : ∀ h : 0 < t.size, t[0].toNat = byt (bys t) 0 := fun h => byt_get t 0 h
  have hgz : ∀ h : j < t.size, t[j].toNat = byt (bys t) j := fun h => byt_get t j h
  have hp0 : 0 < t.size := by omega
  have hp1 : j < t.size := by omega
  have hp1' : (j : Int) < (t.size : Int) := by omega
  obtain ⟨a, ha⟩ : ∃ b, b = byt (bys t) 0 := ⟨_, rfl⟩
  obtain ⟨z, hz⟩ : ∃ b, b = byt (bys t) j := ⟨_, rfl⟩
  rw [← ha] at hg0
  rw [← hz] at hgz
  rw [← ha] at hf
  have ca : ((a : Int) != 48) = false := by
    have : (a : Int) = 48 := by omega
    rw [this]; rfl
  clear ha hz hf
  go_enter Tryz.func77, Tryz.ntmps77
  go_wp2
  go_ret
  exact ⟨rfl, rfl⟩

set_option maxRecDepth 100000 in
set_option maxHeartbeats 1000000 in
theorem mdig_last (t : ByteArray) (ex : Int) (w : World) (j : Nat) (hj : t.size = j + 1) (h : j + 1 ≤ 1000) (hl : -2000 - ((j : Int) + 1) ≤ ex) (he : ex ≤ 2000 - ((j : Int) + 1)) (hf : byt (bys t) 0 ≠ 48) (hla : byt (bys t) j = 48) : Calls Tryz.prog 77 #[.string t, .int .i64 ex] w fun e w' => e = .returned (.bool false) ∧ w = w' := by
  have e0 : ((j : Int) + 1 == 0) = false := by
    have : ¬ (j : Int) + 1 = 0 := by omega
    simpa using this
  have e1 : decide ((1000 : Int) < (j : Int) + 1) = false := decide_eq_false (by omega)
  have e2 : decide (ex < -2000 - ((j : Int) + 1)) = false := decide_eq_false (by omega)
  have e3 : decide (2000 - ((j : Int) + 1) < ex) = false := decide_eq_false (by omega)
  have hg0 : ∀ h : 0 < t.size, t[0].toNat = byt (bys t) 0 := fun h => byt_get t 0 h
  have hgz : ∀ h : j < t.size, t[j].toNat = byt (bys t) j := fun h => byt_get t j h
  have hp0 : 0 < t.size := by omega
  have hp1 : j < t.size := by omega
  have hp1' : (j : Int) < (t.size : Int) := by omega
  obtain ⟨a, ha⟩ : ∃ b, b = byt (bys t) 0 := ⟨_, rfl⟩
  obtain ⟨z, hz⟩ : ∃ b, b = byt (bys t) j := ⟨_, rfl⟩
  rw [← ha] at hg0
  rw [← hz] at hgz
  rw [← ha] at hf
  rw [← hz] at hla
  have ca : ((a : Int) != 48) = true := by
    have : ¬ (a : Int) = 48 := by omega
    simpa using this
  have cz : ((z : Int) != 48) = false := by
    have : (z : Int) = 48 := by omega
    rw [this]; rfl
  clear ha hz hf hla
  go_enter Tryz.func77, Tryz.ntmps77
  go_wp2
  go_ret
  exact ⟨rfl, rfl⟩

set_option maxRecDepth 100000 in
set_option maxHeartbeats 1000000 in
theorem mdig_bad (t : ByteArray) (ex : Int) (w : World) (j : Nat) (hj : t.size = j + 1) (h : j + 1 ≤ 1000) (hl : -2000 - ((j : Int) + 1) ≤ ex) (he : ex ≤ 2000 - ((j : Int) + 1)) (k : Nat) (hk : k < j + 1) (hf : byt (bys t) 0 ≠ 48) (hla : byt (bys t) j ≠ 48) (hd : ¬ (48 ≤ byt (bys t) k ∧ byt (bys t) k ≤ 57)) : Calls Tryz.prog 77 #[.string t, .int .i64 ex] w fun e w' => e = .returned (.bool false) ∧ w = w' := by
  have DG := hide (digits_no t (j + 1) k w hj h hk hd)
  have e0 : ((j : Int) + 1 == 0) = false := by
    have : ¬ (j : Int) + 1 = 0 := by omega
    simpa using this
  have e1 : decide ((1000 : Int) < (j : Int) + 1) = false := decide_eq_false (by omega)
  have e2 : decide (ex < -2000 - ((j : Int) + 1)) = false := decide_eq_false (by omega)
  have e3 : decide (2000 - ((j : Int) + 1) < ex) = false := decide_eq_false (by omega)
  have hg0 : ∀ h : 0 < t.size, t[0].toNat = byt (bys t) 0 := fun h => byt_get t 0 h
  have hgz : ∀ h : j < t.size, t[j].toNat = byt (bys t) j := fun h => byt_get t j h
  have hp0 : 0 < t.size := by omega
  have hp1 : j < t.size := by omega
  have hp1' : (j : Int) < (t.size : Int) := by omega
  obtain ⟨a, ha⟩ : ∃ b, b = byt (bys t) 0 := ⟨_, rfl⟩
  obtain ⟨z, hz⟩ : ∃ b, b = byt (bys t) j := ⟨_, rfl⟩
  rw [← ha] at hg0
  rw [← hz] at hgz
  rw [← ha] at hf
  rw [← hz] at hla
  have ca : ((a : Int) != 48) = true := by
    have : ¬ (a : Int) = 48 := by omega
    simpa using this
  have cz : ((z : Int) != 48) = true := by
    have : ¬ (z : Int) = 48 := by omega
    simpa using this
  clear ha hz hf hla hd
  go_enter Tryz.func77, Tryz.ntmps77
  go_wp2_with fail
  refine DG.out.mono ?_
  rintro e w1 ⟨rfl, rfl⟩
  clear DG
  go_wp2
  go_ret
  exact ⟨rfl, rfl⟩

theorem mdig_no (t : ByteArray) (ex : Int) (w : World) (h : ¬ DigD (bys t) ex) : Calls Tryz.prog 77 #[.string t, .int .i64 ex] w fun e w' => e = .returned (.bool false) ∧ w = w' := by
  by_cases h0 : t.size = 0
  · rw [size_nil h0]; exact mdig_nil ex w
  · obtain ⟨j, hj⟩ : ∃ j, t.size = j + 1 := ⟨t.size - 1, by omega⟩
    rcases Nat.lt_or_ge 1000 t.size with h1 | h1
    · exact mdig_long t ex w h1
    · by_cases h2 : ex < -2000 - ((j : Int) + 1)
      · exact mdig_low t ex w j hj (by omega) h2
      · by_cases h3 : 2000 - ((j : Int) + 1) < ex
        · exact mdig_high t ex w j hj (by omega) h3
        · by_cases h4 : byt (bys t) 0 = 48
          · exact mdig_first t ex w j hj (by omega) (by omega) (by omega) h4
          · by_cases h5 : byt (bys t) j = 48
            · exact mdig_last t ex w j hj (by omega) (by omega) (by omega) h4 h5
            · have hd : ¬ DigB (bys t) := by
                intro hd
                apply h
                unfold DigD
                rw [bys_len, hj]
                exact ⟨fun e => h0 (bys_nil.1 e), by omega, by omega, by omega, h4, by rw [Nat.add_sub_cancel]; exact h5, hd⟩
              obtain ⟨k, hk⟩ := Classical.not_forall.1 hd
              obtain ⟨hk1, hk2⟩ := Classical.not_imp.1 hk
              rw [bys_len, hj] at hk1
              exact mdig_bad t ex w j hj (by omega) (by omega) (by omega) k hk1 h4 h5 hk2

theorem mayD_0 (neg : Bool) (t : ByteArray) (ex : Int) : MayD 0 neg (bys t) ex ↔ ((t.size = 0 ∧ ex = 0) ∨ DigD (bys t) ex) := by
  unfold MayD DigD
  rw [bys_nil]
  constructor
  · rintro (⟨_, h⟩ | ⟨h, _⟩ | ⟨h, _⟩)
    · exact h
    · omega
    · omega
  · intro h; exact .inl ⟨rfl, h⟩

set_option maxHeartbeats 1000000 in
theorem may0_bare (neg : Bool) (w : World) : Calls Tryz.prog 46 #[dcV 0 neg ⟨#[]⟩ 0] w fun e w' => e = .returned (.bool true) ∧ Below w.heap.size w w' := by
  have HB0 : Hid (Below w.heap.size w (w.alloc (.cells #[.int .i64 0, .bool neg, .string ⟨#[]⟩, .int .i64 0] 24))) := (Below.refl _ _).alloc (Nat.le_refl _) _
  have BLK := hide (Blk.new w #[.int .i64 0, .bool neg, .string ⟨#[]⟩, .int .i64 0] 24)
  go_enter Tryz.func46, Tryz.ntmps46
  go_wp2_with fail
  refine (bare_yes 0 neg _).mono ?_
  rintro e w1 ⟨rfl, hb⟩
  have q := BLK.out.below hb BLK.out.lt
  have k1 : w1.cell? ⟨w.heap.size, 1, none⟩ = some (.bool neg) := q.cell 1
  have k2 : w1.cell? ⟨w.heap.size, 2, none⟩ = some (.string ⟨#[]⟩) := q.cell 2
  have k3 : w1.cell? ⟨w.heap.size, 3, none⟩ = some (.int .i64 0) := q.cell 3
  have HB1 : Hid (Below w.heap.size w w1) := HB0.out.trans (hb.mono HB0.out.size)
  clear q hb BLK HB0
  go_wp2
  go_ret
  exact ⟨rfl, HB1.out⟩

set_option maxHeartbeats 1000000 in
theorem may0_yes (neg : Bool) (t : ByteArray) (ex : Int) (w : World) (hb : ¬ (t.size = 0 ∧ ex = 0)) (hd : DigD (bys t) ex) : Calls Tryz.prog 46 #[dcV 0 neg t ex] w fun e w' => e = .returned (.bool true) ∧ Below w.heap.size w w' := by
  have BA := hide (fun W => bare_no 0 ex neg t W hb)
  have MD := hide (fun W => mdig_yes t ex W hd)
  clear hb hd
  have HB0 : Hid (Below w.heap.size w (w.alloc (.cells #[.int .i64 0, .bool neg, .string t, .int .i64 ex] 24))) := (Below.refl _ _).alloc (Nat.le_refl _) _
  have BLK := hide (Blk.new w #[.int .i64 0, .bool neg, .string t, .int .i64 ex] 24)
  go_enter Tryz.func46, Tryz.ntmps46
  go_wp2_with fail
  refine (BA.out _).mono ?_
  rintro e w1 ⟨rfl, hb⟩
  have q := BLK.out.below hb BLK.out.lt
  have k1 : w1.cell? ⟨w.heap.size, 1, none⟩ = some (.bool neg) := q.cell 1
  have k2 : w1.cell? ⟨w.heap.size, 2, none⟩ = some (.string t) := q.cell 2
  have k3 : w1.cell? ⟨w.heap.size, 3, none⟩ = some (.int .i64 ex) := q.cell 3
  have HB1 : Hid (Below w.heap.size w w1) := HB0.out.trans (hb.mono HB0.out.size)
  clear q hb BLK HB0
  go_wp2_with fail
  refine (MD.out _).mono ?_
  rintro e w2 ⟨rfl, rfl⟩
  go_wp2
  go_ret
  exact ⟨rfl, HB1.out⟩

set_option maxHeartbeats 1000000 in
theorem may0_no (neg : Bool) (t : ByteArray) (ex : Int) (w : World) (hb : ¬ (t.size = 0 ∧ ex = 0)) (hd : ¬ DigD (bys t) ex) : Calls Tryz.prog 46 #[dcV 0 neg t ex] w fun e w' => e = .returned (.bool false) ∧ Below w.heap.size w w' := by
  have BA := hide (fun W => bare_no 0 ex neg t W hb)
  have MD := hide (fun W => mdig_no t ex W hd)
  clear hb hd
  have HB0 : Hid (Below w.heap.size w (w.alloc (.cells #[.int .i64 0, .bool neg, .string t, .int .i64 ex] 24))) := (Below.refl _ _).alloc (Nat.le_refl _) _
  have BLK := hide (Blk.new w #[.int .i64 0, .bool neg, .string t, .int .i64 ex] 24)
  go_enter Tryz.func46, Tryz.ntmps46
  go_wp2_with fail
  refine (BA.out _).mono ?_
  rintro e w1 ⟨rfl, hb⟩
  have q := BLK.out.below hb BLK.out.lt
  have k1 : w1.cell? ⟨w.heap.size, 1, none⟩ = some (.bool neg) := q.cell 1
  have k2 : w1.cell? ⟨w.heap.size, 2, none⟩ = some (.string t) := q.cell 2
  have k3 : w1.cell? ⟨w.heap.size, 3, none⟩ = some (.int .i64 ex) := q.cell 3
  have HB1 : Hid (Below w.heap.size w w1) := HB0.out.trans (hb.mono HB0.out.size)
  clear q hb BLK HB0
  go_wp2_with fail
  refine (MD.out _).mono ?_
  rintro e w2 ⟨rfl, rfl⟩
  go_wp2
  go_ret
  exact ⟨rfl, HB1.out⟩

set_option maxHeartbeats 1000000 in
theorem may1_yes (neg : Bool) (w : World) : Calls Tryz.prog 46 #[dcV 1 neg ⟨#[]⟩ 0] w fun e w' => e = .returned (.bool true) ∧ Below w.heap.size w w' := by
  have HB0 : Hid (Below w.heap.size w (w.alloc (.cells #[.int .i64 1, .bool neg, .string ⟨#[]⟩, .int .i64 0] 24))) := (Below.refl _ _).alloc (Nat.le_refl _) _
  have BLK := hide (Blk.new w #[.int .i64 1, .bool neg, .string ⟨#[]⟩, .int .i64 0] 24)
  go_enter Tryz.func46, Tryz.ntmps46
  go_wp2_with fail
  refine (bare_yes 1 neg _).mono ?_
  rintro e w1 ⟨rfl, hb⟩
  have q := BLK.out.below hb BLK.out.lt
  have k1 : w1.cell? ⟨w.heap.size, 1, none⟩ = some (.bool neg) := q.cell 1
  have k2 : w1.cell? ⟨w.heap.size, 2, none⟩ = some (.string ⟨#[]⟩) := q.cell 2
  have k3 : w1.cell? ⟨w.heap.size, 3, none⟩ = some (.int .i64 0) := q.cell 3
  have HB1 : Hid (Below w.heap.size w w1) := HB0.out.trans (hb.mono HB0.out.size)
  clear q hb BLK HB0
  go_wp2
  go_ret
  exact ⟨rfl, HB1.out⟩

set_option maxHeartbeats 1000000 in
theorem may1_no (neg : Bool) (t : ByteArray) (ex : Int) (w : World) (hb : ¬ (t.size = 0 ∧ ex = 0)) : Calls Tryz.prog 46 #[dcV 1 neg t ex] w fun e w' => e = .returned (.bool false) ∧ Below w.heap.size w w' := by
  have BA := hide (fun W => bare_no 1 ex neg t W hb)
  clear hb
  have HB0 : Hid (Below w.heap.size w (w.alloc (.cells #[.int .i64 1, .bool neg, .string t, .int .i64 ex] 24))) := (Below.refl _ _).alloc (Nat.le_refl _) _
  have BLK := hide (Blk.new w #[.int .i64 1, .bool neg, .string t, .int .i64 ex] 24)
  go_enter Tryz.func46, Tryz.ntmps46
  go_wp2_with fail
  refine (BA.out _).mono ?_
  rintro e w1 ⟨rfl, hb⟩
  have q := BLK.out.below hb BLK.out.lt
  have k1 : w1.cell? ⟨w.heap.size, 1, none⟩ = some (.bool neg) := q.cell 1
  have k2 : w1.cell? ⟨w.heap.size, 2, none⟩ = some (.string t) := q.cell 2
  have k3 : w1.cell? ⟨w.heap.size, 3, none⟩ = some (.int .i64 ex) := q.cell 3
  have HB1 : Hid (Below w.heap.size w w1) := HB0.out.trans (hb.mono HB0.out.size)
  clear q hb BLK HB0
  go_wp2
  go_ret
  exact ⟨rfl, HB1.out⟩

set_option maxHeartbeats 1000000 in
theorem may2_yes (w : World) : Calls Tryz.prog 46 #[dcV 2 false ⟨#[]⟩ 0] w fun e w' => e = .returned (.bool true) ∧ Below w.heap.size w w' := by
  have HB0 : Hid (Below w.heap.size w (w.alloc (.cells #[.int .i64 2, .bool false, .string ⟨#[]⟩, .int .i64 0] 24))) := (Below.refl _ _).alloc (Nat.le_refl _) _
  have BLK := hide (Blk.new w #[.int .i64 2, .bool false, .string ⟨#[]⟩, .int .i64 0] 24)
  go_enter Tryz.func46, Tryz.ntmps46
  go_wp2_with fail
  refine (bare_yes 2 false _).mono ?_
  rintro e w1 ⟨rfl, hb⟩
  have q := BLK.out.below hb BLK.out.lt
  have k1 : w1.cell? ⟨w.heap.size, 1, none⟩ = some (.bool false) := q.cell 1
  have k2 : w1.cell? ⟨w.heap.size, 2, none⟩ = some (.string ⟨#[]⟩) := q.cell 2
  have k3 : w1.cell? ⟨w.heap.size, 3, none⟩ = some (.int .i64 0) := q.cell 3
  have HB1 : Hid (Below w.heap.size w w1) := HB0.out.trans (hb.mono HB0.out.size)
  clear q hb BLK HB0
  go_wp2
  go_ret
  exact ⟨rfl, HB1.out⟩

set_option maxHeartbeats 1000000 in
theorem may2_neg (w : World) : Calls Tryz.prog 46 #[dcV 2 true ⟨#[]⟩ 0] w fun e w' => e = .returned (.bool false) ∧ Below w.heap.size w w' := by
  have HB0 : Hid (Below w.heap.size w (w.alloc (.cells #[.int .i64 2, .bool true, .string ⟨#[]⟩, .int .i64 0] 24))) := (Below.refl _ _).alloc (Nat.le_refl _) _
  have BLK := hide (Blk.new w #[.int .i64 2, .bool true, .string ⟨#[]⟩, .int .i64 0] 24)
  go_enter Tryz.func46, Tryz.ntmps46
  go_wp2_with fail
  refine (bare_yes 2 true _).mono ?_
  rintro e w1 ⟨rfl, hb⟩
  have q := BLK.out.below hb BLK.out.lt
  have k1 : w1.cell? ⟨w.heap.size, 1, none⟩ = some (.bool true) := q.cell 1
  have k2 : w1.cell? ⟨w.heap.size, 2, none⟩ = some (.string ⟨#[]⟩) := q.cell 2
  have k3 : w1.cell? ⟨w.heap.size, 3, none⟩ = some (.int .i64 0) := q.cell 3
  have HB1 : Hid (Below w.heap.size w w1) := HB0.out.trans (hb.mono HB0.out.size)
  clear q hb BLK HB0
  go_wp2
  go_ret
  exact ⟨rfl, HB1.out⟩

set_option maxHeartbeats 1000000 in
theorem may2_no (neg : Bool) (t : ByteArray) (ex : Int) (w : World) (hb : ¬ (t.size = 0 ∧ ex = 0)) : Calls Tryz.prog 46 #[dcV 2 neg t ex] w fun e w' => e = .returned (.bool false) ∧ Below w.heap.size w w' := by
  have BA := hide (fun W => bare_no 2 ex neg t W hb)
  clear hb
  have HB0 : Hid (Below w.heap.size w (w.alloc (.cells #[.int .i64 2, .bool neg, .string t, .int .i64 ex] 24))) := (Below.refl _ _).alloc (Nat.le_refl _) _
  have BLK := hide (Blk.new w #[.int .i64 2, .bool neg, .string t, .int .i64 ex] 24)
  go_enter Tryz.func46, Tryz.ntmps46
  go_wp2_with fail
  refine (BA.out _).mono ?_
  rintro e w1 ⟨rfl, hb⟩
  have q := BLK.out.below hb BLK.out.lt
  have k1 : w1.cell? ⟨w.heap.size, 1, none⟩ = some (.bool neg) := q.cell 1
  have k2 : w1.cell? ⟨w.heap.size, 2, none⟩ = some (.string t) := q.cell 2
  have k3 : w1.cell? ⟨w.heap.size, 3, none⟩ = some (.int .i64 ex) := q.cell 3
  have HB1 : Hid (Below w.heap.size w w1) := HB0.out.trans (hb.mono HB0.out.size)
  clear q hb BLK HB0
  go_wp2
  go_ret
  exact ⟨rfl, HB1.out⟩

set_option maxHeartbeats 1000000 in
theorem may9_no (c : Int) (neg : Bool) (t : ByteArray) (ex : Int) (w : World) (h0 : ¬ c = 0) (h1 : ¬ c = 1) (h2 : ¬ c = 2) : Calls Tryz.prog 46 #[dcV c neg t ex] w fun e w' => e = .returned (.bool false) ∧ Below w.heap.size w w' := by
  have HB0 : Hid (Below w.heap.size w (w.alloc (.cells #[.int .i64 c, .bool neg, .string t, .int .i64 ex] 24))) := (Below.refl _ _).alloc (Nat.le_refl _) _
  have BLK := hide (Blk.new w #[.int .i64 c, .bool neg, .string t, .int .i64 ex] 24)
  go_enter Tryz.func46, Tryz.ntmps46
  go_wp2
  go_ret
  exact ⟨rfl, HB0.out⟩

theorem may_yes (c : Int) (neg : Bool) (t : ByteArray) (ex : Int) (w : World) (h : MayD c neg (bys t) ex) : Calls Tryz.prog 46 #[dcV c neg t ex] w fun e w' => e = .returned (.bool true) ∧ Below w.heap.size w w' := by
  have h' := h
  rcases h with ⟨rfl, _⟩ | ⟨rfl, h1, rfl⟩ | ⟨rfl, rfl, h1, rfl⟩
  · rcases (mayD_0 neg t ex).1 h' with h1 | h1
    · obtain ⟨h1, rfl⟩ := h1
      rw [size_nil h1]; exact may0_bare neg w
    · exact may0_yes neg t ex w (fun e => h1.1 (bys_nil.2 e.1)) h1
  · rw [size_nil (bys_nil.1 h1)]; exact may1_yes neg w
  · rw [size_nil (bys_nil.1 h1)]; exact may2_yes w

theorem may_no (c : Int) (neg : Bool) (t : ByteArray) (ex : Int) (w : World) (h : ¬ MayD c neg (bys t) ex) : Calls Tryz.prog 46 #[dcV c neg t ex] w fun e w' => e = .returned (.bool false) ∧ Below w.heap.size w w' := by
  by_cases h0 : c = 0
  · subst h0
    rw [mayD_0] at h
    exact may0_no neg t ex w (fun e => h (.inl e)) (fun e => h (.inr e))
  · by_cases h1 : c = 1
    · subst h1
      exact may1_no neg t ex w (fun e => h (.inr (.inl ⟨rfl, bys_nil.2 e.1, e.2⟩)))
    · by_cases h2 : c = 2
      · subst h2
        by_cases hb : t.size = 0 ∧ ex = 0
        · obtain ⟨hb1, rfl⟩ := hb
          cases neg with
          | false => exact absurd (.inr (.inr ⟨rfl, rfl, bys_nil.2 hb1, rfl⟩)) h
          | true => rw [size_nil hb1]; exact may2_neg w
        · exact may2_no neg t ex w hb
      · exact may9_no c neg t ex w h0 h1 h2

end Go.Proofs.YtpiloigpncbccacGreatDoor
