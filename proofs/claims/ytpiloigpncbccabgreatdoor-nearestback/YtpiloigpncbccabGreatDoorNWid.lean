/-
  What nearest's binary64, binary32, sign, infinity, noNumber and join do.
-/
import Derived.Test.YtpiloigpncbccabGreatDoorZSC
import Derived.Test.YtpiloigpncbccabGreatDoorNLies
import Derived.Deep.RegionHeld3
namespace Go.Proofs.YtpiloigpncbccabGreatDoor
open Go.RowKit

theorem nbinary64_any (w : World) : Calls Tryz.prog 37 #[] w fun e w' => e = .returned w64 ∧ Below w.heap.size w w' := by
  go_enter Tryz.func37, Tryz.ntmps37
  go_wp2
  go_returns
  exact ⟨rfl, (Below.refl _ _).alloc (Nat.le_refl _) _⟩

theorem nsign64 (w : World) : Calls Tryz.prog 66 #[w64] w fun e w' => e = .returned (.int .u64 9223372036854775808) ∧ Below w.heap.size w w' := by
  go_enter Tryz.func66, Tryz.ntmps66
  go_wp2
  go_returns
  exact ⟨rfl, (Below.refl _ _).alloc (Nat.le_refl _) _⟩

set_option maxHeartbeats 1000000 in
theorem ninf64 (w : World) : Calls Tryz.prog 63 #[w64] w fun e w' => e = .returned (.int .u64 9218868437227405312) ∧ Below w.heap.size w w' := by
  have CC := fun W => nsign64 W
  have blk := Blk.new w #[.int .i64 52, .int .i64 11, .int .i64 (-1074)] 60
  obtain ⟨W, hW⟩ : ∃ W, W = w.alloc (.cells #[.int .i64 52, .int .i64 11, .int .i64 (-1074)] 60) := ⟨_, rfl⟩
  rw [← hW] at blk
  have HBW : Hid (Below w.heap.size w W) := by rw [hW]; exact (Below.refl _ _).alloc (Nat.le_refl _) _
  have BLK := hide blk
  have HW := hide hW
  have c0 : W.cell? ⟨w.heap.size, 0, none⟩ = some (.int .i64 52) := blk.cell 0
  have c1 : W.cell? ⟨w.heap.size, 1, none⟩ = some (.int .i64 11) := blk.cell 1
  have c2 : W.cell? ⟨w.heap.size, 2, none⟩ = some (.int .i64 (-1074)) := blk.cell 2
  have b0 : Hid (Below W.heap.size W W.drew) := bdrew' W
  clear blk hW
  have C1 : Hid (Calls Tryz.prog 66 #[w64] W.drew fun e w' => e = .returned (.int .u64 9223372036854775808) ∧ Hid (Below W.heap.size W w') ∧ w'.cell? ⟨w.heap.size, 0, none⟩ = some (.int .i64 52) ∧ w'.cell? ⟨w.heap.size, 1, none⟩ = some (.int .i64 11) ∧ w'.cell? ⟨w.heap.size, 2, none⟩ = some (.int .i64 (-1074))) := by
    refine (CC W.drew).mono ?_
    rintro e w' ⟨rfl, hb⟩
    have hbb := b0.out.trans (hb.mono b0.out.size)
    have q := BLK.out.below hbb BLK.out.lt
    exact ⟨rfl, hbb, q.cell 0, q.cell 1, q.cell 2⟩
  clear CC
  go_enter Tryz.func63, Tryz.ntmps63
  go_wp2_with fail
  simp only [← HW.out]
  have mk0 : True := trivial
  go_region_held3 (fun w' => w'.cell? ⟨w.heap.size, 0, none⟩ = some (.int .i64 52) ∧ w'.cell? ⟨w.heap.size, 1, none⟩ = some (.int .i64 11) ∧ w'.cell? ⟨w.heap.size, 2, none⟩ = some (.int .i64 (-1074))) (go_keep) (first
    | (clear mk0; go_at_call 66; refine C1.out.mono ?_; rintro e w1 ⟨rfl, b1, k0, k1, k2⟩; have mk1 : True := trivial))
  all_goals (
    have FIN := hide (HBW.out.trans (b1.out.mono HBW.out.size))
    clear b1
    go_wp2
    go_ret
    exact ⟨rfl, FIN.out⟩)

set_option maxHeartbeats 1000000 in
theorem nnan64 (w : World) : Calls Tryz.prog 62 #[w64] w fun e w' => e = .returned (.int .u64 9221120237041090561) ∧ Below w.heap.size w w' := by
  have CC := fun W => ninf64 W
  have blk := Blk.new w #[.int .i64 52, .int .i64 11, .int .i64 (-1074)] 60
  obtain ⟨W, hW⟩ : ∃ W, W = w.alloc (.cells #[.int .i64 52, .int .i64 11, .int .i64 (-1074)] 60) := ⟨_, rfl⟩
  rw [← hW] at blk
  have HBW : Hid (Below w.heap.size w W) := by rw [hW]; exact (Below.refl _ _).alloc (Nat.le_refl _) _
  have BLK := hide blk
  have HW := hide hW
  have c0 : W.cell? ⟨w.heap.size, 0, none⟩ = some (.int .i64 52) := blk.cell 0
  have c1 : W.cell? ⟨w.heap.size, 1, none⟩ = some (.int .i64 11) := blk.cell 1
  have c2 : W.cell? ⟨w.heap.size, 2, none⟩ = some (.int .i64 (-1074)) := blk.cell 2
  have b0 : Hid (Below W.heap.size W W.drew) := bdrew' W
  clear blk hW
  have C1 : Hid (Calls Tryz.prog 63 #[w64] W.drew fun e w' => e = .returned (.int .u64 9218868437227405312) ∧ Hid (Below W.heap.size W w') ∧ w'.cell? ⟨w.heap.size, 0, none⟩ = some (.int .i64 52) ∧ w'.cell? ⟨w.heap.size, 1, none⟩ = some (.int .i64 11) ∧ w'.cell? ⟨w.heap.size, 2, none⟩ = some (.int .i64 (-1074))) := by
    refine (CC W.drew).mono ?_
    rintro e w' ⟨rfl, hb⟩
    have hbb := b0.out.trans (hb.mono b0.out.size)
    have q := BLK.out.below hbb BLK.out.lt
    exact ⟨rfl, hbb, q.cell 0, q.cell 1, q.cell 2⟩
  clear CC
  have ew : IntKind.i64.wrap 51 = 51 := by decide
  go_enter Tryz.func62, Tryz.ntmps62
  go_wp2_with fail
  simp only [← HW.out]
  have mk0 : True := trivial
  go_region_held3 (fun w' => w'.cell? ⟨w.heap.size, 0, none⟩ = some (.int .i64 52) ∧ w'.cell? ⟨w.heap.size, 1, none⟩ = some (.int .i64 11) ∧ w'.cell? ⟨w.heap.size, 2, none⟩ = some (.int .i64 (-1074))) (go_keep) (first
    | (clear mk0; go_at_call 63; refine C1.out.mono ?_; rintro e w1 ⟨rfl, b1, k0, k1, k2⟩; have mk1 : True := trivial))
  all_goals (
    have FIN := hide (HBW.out.trans (b1.out.mono HBW.out.size))
    clear b1
    go_wp2
    go_ret
    exact ⟨rfl, FIN.out⟩)

theorem nbinary32_any (w : World) : Calls Tryz.prog 43 #[] w fun e w' => e = .returned w32 ∧ Below w.heap.size w w' := by
  go_enter Tryz.func43, Tryz.ntmps43
  go_wp2
  go_returns
  exact ⟨rfl, (Below.refl _ _).alloc (Nat.le_refl _) _⟩

theorem nsign32 (w : World) : Calls Tryz.prog 66 #[w32] w fun e w' => e = .returned (.int .u64 2147483648) ∧ Below w.heap.size w w' := by
  go_enter Tryz.func66, Tryz.ntmps66
  go_wp2
  go_returns
  exact ⟨rfl, (Below.refl _ _).alloc (Nat.le_refl _) _⟩

set_option maxHeartbeats 1000000 in
theorem ninf32 (w : World) : Calls Tryz.prog 63 #[w32] w fun e w' => e = .returned (.int .u64 2139095040) ∧ Below w.heap.size w w' := by
  have CC := fun W => nsign32 W
  have blk := Blk.new w #[.int .i64 23, .int .i64 8, .int .i64 (-149)] 60
  obtain ⟨W, hW⟩ : ∃ W, W = w.alloc (.cells #[.int .i64 23, .int .i64 8, .int .i64 (-149)] 60) := ⟨_, rfl⟩
  rw [← hW] at blk
  have HBW : Hid (Below w.heap.size w W) := by rw [hW]; exact (Below.refl _ _).alloc (Nat.le_refl _) _
  have BLK := hide blk
  have HW := hide hW
  have c0 : W.cell? ⟨w.heap.size, 0, none⟩ = some (.int .i64 23) := blk.cell 0
  have c1 : W.cell? ⟨w.heap.size, 1, none⟩ = some (.int .i64 8) := blk.cell 1
  have c2 : W.cell? ⟨w.heap.size, 2, none⟩ = some (.int .i64 (-149)) := blk.cell 2
  have b0 : Hid (Below W.heap.size W W.drew) := bdrew' W
  clear blk hW
  have C1 : Hid (Calls Tryz.prog 66 #[w32] W.drew fun e w' => e = .returned (.int .u64 2147483648) ∧ Hid (Below W.heap.size W w') ∧ w'.cell? ⟨w.heap.size, 0, none⟩ = some (.int .i64 23) ∧ w'.cell? ⟨w.heap.size, 1, none⟩ = some (.int .i64 8) ∧ w'.cell? ⟨w.heap.size, 2, none⟩ = some (.int .i64 (-149))) := by
    refine (CC W.drew).mono ?_
    rintro e w' ⟨rfl, hb⟩
    have hbb := b0.out.trans (hb.mono b0.out.size)
    have q := BLK.out.below hbb BLK.out.lt
    exact ⟨rfl, hbb, q.cell 0, q.cell 1, q.cell 2⟩
  clear CC
  go_enter Tryz.func63, Tryz.ntmps63
  go_wp2_with fail
  simp only [← HW.out]
  have mk0 : True := trivial
  go_region_held3 (fun w' => w'.cell? ⟨w.heap.size, 0, none⟩ = some (.int .i64 23) ∧ w'.cell? ⟨w.heap.size, 1, none⟩ = some (.int .i64 8) ∧ w'.cell? ⟨w.heap.size, 2, none⟩ = some (.int .i64 (-149))) (go_keep) (first
    | (clear mk0; go_at_call 66; refine C1.out.mono ?_; rintro e w1 ⟨rfl, b1, k0, k1, k2⟩; have mk1 : True := trivial))
  all_goals (
    have FIN := hide (HBW.out.trans (b1.out.mono HBW.out.size))
    clear b1
    go_wp2
    go_ret
    exact ⟨rfl, FIN.out⟩)

set_option maxHeartbeats 1000000 in
theorem nnan32 (w : World) : Calls Tryz.prog 62 #[w32] w fun e w' => e = .returned (.int .u64 2143289345) ∧ Below w.heap.size w w' := by
  have CC := fun W => ninf32 W
  have blk := Blk.new w #[.int .i64 23, .int .i64 8, .int .i64 (-149)] 60
  obtain ⟨W, hW⟩ : ∃ W, W = w.alloc (.cells #[.int .i64 23, .int .i64 8, .int .i64 (-149)] 60) := ⟨_, rfl⟩
  rw [← hW] at blk
  have HBW : Hid (Below w.heap.size w W) := by rw [hW]; exact (Below.refl _ _).alloc (Nat.le_refl _) _
  have BLK := hide blk
  have HW := hide hW
  have c0 : W.cell? ⟨w.heap.size, 0, none⟩ = some (.int .i64 23) := blk.cell 0
  have c1 : W.cell? ⟨w.heap.size, 1, none⟩ = some (.int .i64 8) := blk.cell 1
  have c2 : W.cell? ⟨w.heap.size, 2, none⟩ = some (.int .i64 (-149)) := blk.cell 2
  have b0 : Hid (Below W.heap.size W W.drew) := bdrew' W
  clear blk hW
  have C1 : Hid (Calls Tryz.prog 63 #[w32] W.drew fun e w' => e = .returned (.int .u64 2139095040) ∧ Hid (Below W.heap.size W w') ∧ w'.cell? ⟨w.heap.size, 0, none⟩ = some (.int .i64 23) ∧ w'.cell? ⟨w.heap.size, 1, none⟩ = some (.int .i64 8) ∧ w'.cell? ⟨w.heap.size, 2, none⟩ = some (.int .i64 (-149))) := by
    refine (CC W.drew).mono ?_
    rintro e w' ⟨rfl, hb⟩
    have hbb := b0.out.trans (hb.mono b0.out.size)
    have q := BLK.out.below hbb BLK.out.lt
    exact ⟨rfl, hbb, q.cell 0, q.cell 1, q.cell 2⟩
  clear CC
  have ew : IntKind.i64.wrap 22 = 22 := by decide
  go_enter Tryz.func62, Tryz.ntmps62
  go_wp2_with fail
  simp only [← HW.out]
  have mk0 : True := trivial
  go_region_held3 (fun w' => w'.cell? ⟨w.heap.size, 0, none⟩ = some (.int .i64 23) ∧ w'.cell? ⟨w.heap.size, 1, none⟩ = some (.int .i64 8) ∧ w'.cell? ⟨w.heap.size, 2, none⟩ = some (.int .i64 (-149))) (go_keep) (first
    | (clear mk0; go_at_call 63; refine C1.out.mono ?_; rintro e w1 ⟨rfl, b1, k0, k1, k2⟩; have mk1 : True := trivial))
  all_goals (
    have FIN := hide (HBW.out.trans (b1.out.mono HBW.out.size))
    clear b1
    go_wp2
    go_ret
    exact ⟨rfl, FIN.out⟩)

set_option maxHeartbeats 1000000 in
theorem join64_inf (N s : Nat) (p : Int) (w : World) (hp : p + 1074 = (s : Int)) (hs : 2048 ≤ (s : Int)) (hs2 : s ≤ 1000000) :
    Calls Tryz.prog 99 #[w64, .int .u64 (N : Int), .int .i64 p] w fun e w' => e = .returned (.int .u64 9218868437227405312) ∧ Below w.heap.size w w' := by
  have IV := hide (fun W => ninf64 W)
  have hp1 : -1074 ≤ p := by omega
  have hp2 : p ≤ 1000000 := by omega
  have hge : 2048 ≤ p + 1074 := by omega
  clear hp hs hs2
  go_enter Tryz.func99, Tryz.ntmps99
  go_wp2_with fail
  refine (IV.out _).mono ?_
  rintro e w1 ⟨rfl, hb1⟩
  have HB1 : Hid (Below w.heap.size w w1) := ((Below.refl _ _).alloc (Nat.le_refl _) _).trans (hb1.mono (by simp))
  clear hb1 IV
  go_wp2
  go_ret
  exact ⟨rfl, HB1.out⟩

set_option maxRecDepth 100000 in
set_option maxHeartbeats 1000000 in
theorem join64_fin (N s : Nat) (r : Int) (w : World) (hs : s < 2048) (hN : N ≤ 9007199254740992) (hr : r = min ((s : Int) * 4503599627370496 + (N : Int)) 9218868437227405312) :
    Calls Tryz.prog 99 #[w64, .int .u64 (N : Int), .int .i64 ((s : Int) - 1074)] w fun e w' => e = .returned (.int .u64 r) ∧ Below w.heap.size w w' := by
  have CC := fun W => ninf64 W
  have blk := Blk.new w #[.int .i64 52, .int .i64 11, .int .i64 (-1074)] 60
  obtain ⟨W, hW⟩ : ∃ W, W = w.alloc (.cells #[.int .i64 52, .int .i64 11, .int .i64 (-1074)] 60) := ⟨_, rfl⟩
  rw [← hW] at blk
  have HBW : Hid (Below w.heap.size w W) := by rw [hW]; exact (Below.refl _ _).alloc (Nat.le_refl _) _
  have BLK := hide blk
  have HW := hide hW
  have c0 : W.cell? ⟨w.heap.size, 0, none⟩ = some (.int .i64 52) := blk.cell 0
  have c1 : W.cell? ⟨w.heap.size, 1, none⟩ = some (.int .i64 11) := blk.cell 1
  have c2 : W.cell? ⟨w.heap.size, 2, none⟩ = some (.int .i64 (-1074)) := blk.cell 2
  have b0 : Hid (Below W.heap.size W W.drew) := bdrew' W
  clear blk hW
  have C1 : Hid (Calls Tryz.prog 63 #[w64] W.drew fun e w' => e = .returned (.int .u64 9218868437227405312) ∧ Hid (Below W.heap.size W w') ∧ w'.cell? ⟨w.heap.size, 0, none⟩ = some (.int .i64 52) ∧ w'.cell? ⟨w.heap.size, 1, none⟩ = some (.int .i64 11) ∧ w'.cell? ⟨w.heap.size, 2, none⟩ = some (.int .i64 (-1074))) := by
    refine (CC W.drew).mono ?_
    rintro e w' ⟨rfl, hb⟩
    have hbb := b0.out.trans (hb.mono b0.out.size)
    have q := BLK.out.below hbb BLK.out.lt
    exact ⟨rfl, hbb, q.cell 0, q.cell 1, q.cell 2⟩
  clear CC
  have hlt : ¬ 2048 ≤ (s : Int) := by omega
  have e1 : (s : Int) - 1074 + 1074 = (s : Int) := by omega
  have EQ : Hid (min (IntKind.u64.wrap (IntKind.u64.wrap (IntKind.u64.wrap (s : Int) * 4503599627370496) + (N : Int))) 9218868437227405312 = r) := by
    show min _ _ = r
    rw [hr, IntKind.wrap_u64, IntKind.wrap_u64, IntKind.wrap_u64]; omega
  clear hr
  go_enter Tryz.func99, Tryz.ntmps99
  go_wp2_with fail
  simp only [← HW.out]
  have mk0 : True := trivial
  go_region_held3 (fun w' => w'.cell? ⟨w.heap.size, 0, none⟩ = some (.int .i64 52) ∧ w'.cell? ⟨w.heap.size, 1, none⟩ = some (.int .i64 11) ∧ w'.cell? ⟨w.heap.size, 2, none⟩ = some (.int .i64 (-1074))) (go_keep) (first
    | (clear mk0; go_at_call 63; refine C1.out.mono ?_; rintro e w1 ⟨rfl, b1, k0, k1, k2⟩; have mk1 : True := trivial))
  all_goals (
    have FIN := hide (HBW.out.trans (b1.out.mono HBW.out.size))
    clear b1
    go_wp2
    go_ret
    refine ⟨?_, FIN.out⟩
    rw [← EQ.out]
    rfl)

set_option maxHeartbeats 1000000 in
theorem join32_inf (N s : Nat) (p : Int) (w : World) (hp : p + 149 = (s : Int)) (hs : 256 ≤ (s : Int)) (hs2 : s ≤ 1000000) :
    Calls Tryz.prog 99 #[w32, .int .u64 (N : Int), .int .i64 p] w fun e w' => e = .returned (.int .u64 2139095040) ∧ Below w.heap.size w w' := by
  have IV := hide (fun W => ninf32 W)
  have hp1 : -149 ≤ p := by omega
  have hp2 : p ≤ 1000000 := by omega
  have hge : 256 ≤ p + 149 := by omega
  clear hp hs hs2
  go_enter Tryz.func99, Tryz.ntmps99
  go_wp2_with fail
  refine (IV.out _).mono ?_
  rintro e w1 ⟨rfl, hb1⟩
  have HB1 : Hid (Below w.heap.size w w1) := ((Below.refl _ _).alloc (Nat.le_refl _) _).trans (hb1.mono (by simp))
  clear hb1 IV
  go_wp2
  go_ret
  exact ⟨rfl, HB1.out⟩

set_option maxRecDepth 100000 in
set_option maxHeartbeats 1000000 in
theorem join32_fin (N s : Nat) (r : Int) (w : World) (hs : s < 256) (hN : N ≤ 16777216) (hr : r = min ((s : Int) * 8388608 + (N : Int)) 2139095040) :
    Calls Tryz.prog 99 #[w32, .int .u64 (N : Int), .int .i64 ((s : Int) - 149)] w fun e w' => e = .returned (.int .u64 r) ∧ Below w.heap.size w w' := by
  have CC := fun W => ninf32 W
  have blk := Blk.new w #[.int .i64 23, .int .i64 8, .int .i64 (-149)] 60
  obtain ⟨W, hW⟩ : ∃ W, W = w.alloc (.cells #[.int .i64 23, .int .i64 8, .int .i64 (-149)] 60) := ⟨_, rfl⟩
  rw [← hW] at blk
  have HBW : Hid (Below w.heap.size w W) := by rw [hW]; exact (Below.refl _ _).alloc (Nat.le_refl _) _
  have BLK := hide blk
  have HW := hide hW
  have c0 : W.cell? ⟨w.heap.size, 0, none⟩ = some (.int .i64 23) := blk.cell 0
  have c1 : W.cell? ⟨w.heap.size, 1, none⟩ = some (.int .i64 8) := blk.cell 1
  have c2 : W.cell? ⟨w.heap.size, 2, none⟩ = some (.int .i64 (-149)) := blk.cell 2
  have b0 : Hid (Below W.heap.size W W.drew) := bdrew' W
  clear blk hW
  have C1 : Hid (Calls Tryz.prog 63 #[w32] W.drew fun e w' => e = .returned (.int .u64 2139095040) ∧ Hid (Below W.heap.size W w') ∧ w'.cell? ⟨w.heap.size, 0, none⟩ = some (.int .i64 23) ∧ w'.cell? ⟨w.heap.size, 1, none⟩ = some (.int .i64 8) ∧ w'.cell? ⟨w.heap.size, 2, none⟩ = some (.int .i64 (-149))) := by
    refine (CC W.drew).mono ?_
    rintro e w' ⟨rfl, hb⟩
    have hbb := b0.out.trans (hb.mono b0.out.size)
    have q := BLK.out.below hbb BLK.out.lt
    exact ⟨rfl, hbb, q.cell 0, q.cell 1, q.cell 2⟩
  clear CC
  have hlt : ¬ 256 ≤ (s : Int) := by omega
  have e1 : (s : Int) - 149 + 149 = (s : Int) := by omega
  have EQ : Hid (min (IntKind.u64.wrap (IntKind.u64.wrap (IntKind.u64.wrap (s : Int) * 8388608) + (N : Int))) 2139095040 = r) := by
    show min _ _ = r
    rw [hr, IntKind.wrap_u64, IntKind.wrap_u64, IntKind.wrap_u64]; omega
  clear hr
  go_enter Tryz.func99, Tryz.ntmps99
  go_wp2_with fail
  simp only [← HW.out]
  have mk0 : True := trivial
  go_region_held3 (fun w' => w'.cell? ⟨w.heap.size, 0, none⟩ = some (.int .i64 23) ∧ w'.cell? ⟨w.heap.size, 1, none⟩ = some (.int .i64 8) ∧ w'.cell? ⟨w.heap.size, 2, none⟩ = some (.int .i64 (-149))) (go_keep) (first
    | (clear mk0; go_at_call 63; refine C1.out.mono ?_; rintro e w1 ⟨rfl, b1, k0, k1, k2⟩; have mk1 : True := trivial))
  all_goals (
    have FIN := hide (HBW.out.trans (b1.out.mono HBW.out.size))
    clear b1
    go_wp2
    go_ret
    refine ⟨?_, FIN.out⟩
    rw [← EQ.out]
    rfl)

end Go.Proofs.YtpiloigpncbccabGreatDoor
