/-
  What the reference's Small and Pow do of 10.
-/
import Derived.Test.YtpiloigpncbccaaGreatDoorZRMul
namespace Go.Proofs.YtpiloigpncbccaaGreatDoor
open Go.RowKit

set_option maxRecDepth 100000 in
set_option maxHeartbeats 400000 in
theorem small10 (w : World) : Calls Tryz.prog 50 #[.int .i64 10] w (RPost w 2 10) := by
  have hat : At .u32 (w.alloc (.cells #[.int .u32 10, .int .u32 0] 31)) (some ⟨w.heap.size, 0, none⟩) [10, 0] := Row.at (k := .u32) (e := 31) (heap_alloc_new w _)
  go_enter Tryz.func50, Tryz.ntmps50
  go_wp2_with fail
  refine (rtrim_to (some ⟨w.heap.size, 0, none⟩) 2 2 1 [10, 0] _ (Nat.le_refl _) (by omega) rfl hat (by decide +kernel)).mono ?_
  rintro e w' ⟨rfl, rfl⟩
  go_wp2
  go_ret
  refine ⟨some ⟨w.heap.size, 0, none⟩, 2, [10], rfl, by decide, hat.take 1, ⟨ok32 (by decide +kernel), ?_, by decide +kernel⟩, by decide, (Below.refl _ _).alloc (Nat.le_refl _) _⟩
  intro n hn
  have : n = 0 := by simp at hn; omega
  subst this; decide

theorem ten32 : (10 : Nat) ^ 8192 < 65536 ^ 1800 := by decide +kernel

set_option maxRecDepth 100000 in
set_option maxHeartbeats 1000000 in
theorem rpow10 (n : Nat) (hn : n ≤ 8192) (w : World) :
    Calls Tryz.prog 25 #[.int .i64 10, .int .i64 (n : Int)] w (RPost w 1800 (10 ^ n)) := by
  have hst : At .u32 (w.alloc (.cells #[.int .u32 1] 31)) (some ⟨w.heap.size, 0, none⟩) [1] := Row.at (k := .u32) (e := 31) (heap_alloc_new w _)
  have i1 : Is 65536 [1] 1 := ⟨ok32 (by decide +kernel), by intro n hn; have : n = 0 := by { simp at hn; omega }; subst this; decide, by decide +kernel⟩
  have HST := hide hst
  have HI1 := hide i1
  clear hst i1
  go_enter Tryz.func25, Tryz.ntmps25
  go_wp2
  go_loopw [5, 6] (fun v i wr => ∃ (k : Nat) (o : Option Addr) (c : Nat) (r : List Nat), k ≤ n ∧ i = .int .i64 (k : Int) ∧ v = .slice o r.length c ∧ r.length ≤ c ∧ At .u32 wr o r ∧ Is 65536 r (10 ^ k) ∧ Below w.heap.size w wr) (fun _ i _ => n - (intOf i).toNat)
  case atStart => exact ⟨0, _, _, [1], Nat.zero_le _, rfl, rfl, by decide, HST.out, HI1.out, (Below.refl _ _).alloc (Nat.le_refl _) _⟩
  case round =>
    clear HST HI1
    obtain ⟨k, o, c, r, hk, rfl, rfl, hl, hat, his, hb⟩ := hrel
    have hrl := len32 his (Nat.lt_of_le_of_lt (Nat.pow_le_pow_right (show 0 < 10 by omega) (Nat.le_trans hk hn)) ten32)
    by_cases hlt : k < n
    · have h1 : (k : Int) < (n : Int) := by omega
      go_wp2_with fail
      refine (small10 _).mono ?_
      rintro e w1 ⟨o1, c1, r1, rfl, hl1, hat1, his1, hm1, hb1⟩
      have hat' := hat.below hb1
      clear hat
      go_wp2_with fail
      refine (rmul_any o o1 _ c _ c1 r r1 _ (by omega) (by omega) rfl rfl hat' hat1 his.1 his1.1).mono ?_
      rintro e w2 ⟨o2, c2, r2, rfl, hl2, hat2, his2, hm2, hb2⟩
      rw [his.2.2, his1.2.2, ← Nat.pow_succ] at his2
      have hbw := hb.trans ((hb1.mono hb.size).trans (hb2.mono (Nat.le_trans hb.size hb1.size)))
      have HAT := hide hat2
      have HIS := hide his2
      have HBW := hide hbw
      clear hat' hat1 his1 his hb hb1 hb2 hat2 his2 hbw
      go_wp2
      go_roundw
      case rel => exact ⟨k + 1, o2, c2, r2, by omega, by go_num, rfl, hl2, HAT.out, HIS.out, HBW.out⟩
      case measure => simp [intOf]; omega
    · obtain rfl : k = n := by omega
      have h1 : ¬ (k : Int) < (k : Int) := by omega
      go_wp2
      go_ret
      exact ⟨o, c, r, rfl, hl, hat, his, hrl, hb⟩

end Go.Proofs.YtpiloigpncbccaaGreatDoor
