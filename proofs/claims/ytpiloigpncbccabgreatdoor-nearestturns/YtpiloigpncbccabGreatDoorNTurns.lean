/-
  What quipuref04's Narrow and Widen do, and the walk of NearestTurns.
-/
import Derived.Test.YtpiloigpncbccabGreatDoorNRToN
import Derived.Test.YtpiloigpncbccabGreatDoorZNT
import Derived.Test.YtpiloigpncbccabGreatDoorZSE
namespace Go.Proofs.YtpiloigpncbccabGreatDoor
open Go.RowKit

theorem rto64_dec (d : DecT) (w : World) (h : May d) : Calls Tryz.prog 18 #[k64, decVal d] w fun e w' => e = .returned (.int .u64 ((toD 52 11 1074 d : Nat) : Int)) ∧ Below w.heap.size w w' := by
  have hb : bys ⟨d.dig.toArray⟩ = d.dig := by simp [bys]
  have g := rto64_any (d.cls : Int) d.neg ⟨d.dig.toArray⟩ d.exp w (by rw [hb]; exact h)
  rw [hb, Int.toNat_natCast] at g
  exact g

theorem rto32_dec (d : DecT) (w : World) (h : May d) : Calls Tryz.prog 18 #[k32, decVal d] w fun e w' => e = .returned (.int .u64 ((toD 23 8 149 d : Nat) : Int)) ∧ Below w.heap.size w w' := by
  have hb : bys ⟨d.dig.toArray⟩ = d.dig := by simp [bys]
  have g := rto32_any (d.cls : Int) d.neg ⟨d.dig.toArray⟩ d.exp w (by rw [hb]; exact h)
  rw [hb, Int.toNat_natCast] at g
  exact g

set_option maxHeartbeats 1000000 in
theorem rnarrow_call (b : Nat) (w : World) (hb : b < 18446744073709551616) : Calls Tryz.prog 23 #[.int .u64 (b : Int)] w fun e w' => e = .returned (.int .u32 ((toD 23 8 149 (ex64D b) : Nat) : Int)) ∧ Below w.heap.size w w' := by
  have E := hide (fun W => rexact64_any b W hb)
  have T := hide (fun W => rto32_dec (ex64D b) W (may_ex64 b))
  obtain ⟨r, hr⟩ : ∃ r, r = toD 23 8 149 (ex64D b) := ⟨_, rfl⟩
  have hrl : (r : Int) < 4294967296 := by have := toD_lt32 (ex64D b); omega
  rw [← hr] at T ⊢
  clear hr
  go_enter Tryz.func23, Tryz.ntmps23
  go_wp2_with fail
  refine (narrow_any _).mono ?_
  rintro e w1 ⟨rfl, hb1⟩
  have HB1 := hide hb1
  clear hb1
  go_wp2_with fail
  refine (wide_any _).mono ?_
  rintro e w2 ⟨rfl, hb2⟩
  have HB2 := hide (HB1.out.trans (hb2.mono HB1.out.size))
  clear hb2 HB1
  go_wp2_with fail
  refine (E.out _).mono ?_
  rintro e w3 ⟨rfl, hb3⟩
  have HB3 := hide (HB2.out.trans (hb3.mono HB2.out.size))
  clear hb3 HB2 E
  go_wp2_with fail
  refine (T.out _).mono ?_
  rintro e w4 ⟨rfl, hb4⟩
  have HB4 := hide (HB3.out.trans (hb4.mono HB3.out.size))
  clear hb4 HB3 T
  go_wp2
  go_ret
  exact ⟨rfl, HB4.out⟩

set_option maxHeartbeats 1000000 in
theorem rwiden_call (b : Nat) (w : World) (hb : b < 4294967296) : Calls Tryz.prog 25 #[.int .u32 (b : Int)] w fun e w' => e = .returned (.int .u64 ((toD 52 11 1074 (ex32D b) : Nat) : Int)) ∧ Below w.heap.size w w' := by
  have E := hide (fun W => rexact32_any b W hb)
  have T := hide (fun W => rto64_dec (ex32D b) W (may_ex32 b))
  obtain ⟨r, hr⟩ : ∃ r, r = toD 52 11 1074 (ex32D b) := ⟨_, rfl⟩
  have hb2 : (b : Int) < 4294967296 := by omega
  rw [← hr] at T ⊢
  clear hr
  go_enter Tryz.func25, Tryz.ntmps25
  go_wp2_with fail
  refine (wide_any _).mono ?_
  rintro e w1 ⟨rfl, hb1⟩
  have HB1 := hide hb1
  clear hb1
  go_wp2_with fail
  refine (narrow_any _).mono ?_
  rintro e w2 ⟨rfl, hb2⟩
  have HB2 := hide (HB1.out.trans (hb2.mono HB1.out.size))
  clear hb2 HB1
  go_wp2_with fail
  refine (E.out _).mono ?_
  rintro e w3 ⟨rfl, hb3⟩
  have HB3 := hide (HB2.out.trans (hb3.mono HB2.out.size))
  clear hb3 HB2 E
  go_wp2_with fail
  refine (T.out _).mono ?_
  rintro e w4 ⟨rfl, hb4⟩
  have HB4 := hide (HB3.out.trans (hb4.mono HB3.out.size))
  clear hb4 HB3 T
  go_wp2
  go_ret
  exact ⟨rfl, HB4.out⟩

set_option maxHeartbeats 1000000 in
theorem turns_walk (w : World) (htab : Tab w) (a : Nat) (ha : a < 18446744073709551616) (b : Nat) (hb : b < 4294967296) :
    Calls Tryz.prog 6 #[.int .u64 (a : Int), .int .u32 (b : Int)] w fun e w' => e = .returned (.bool true) ∧ Below w.heap.size w w' := by
  have AW := hide (nawake_any w htab)
  have N1 := hide (fun W => narrow_call a W ha)
  have N2 := hide (fun W => rnarrow_call a W ha)
  have W1 := hide (fun W => widen_call b W hb)
  have W2 := hide (fun W => rwiden_call b W hb)
  obtain ⟨r1, hr1⟩ : ∃ r, r = toD 23 8 149 (ex64D a) := ⟨_, rfl⟩
  obtain ⟨r2, hr2⟩ : ∃ r, r = toD 52 11 1074 (ex32D b) := ⟨_, rfl⟩
  rw [← hr1] at N1 N2
  rw [← hr2] at W1 W2
  have HT := hide htab
  clear htab hr1 hr2
  go_enter Tryz.func6, Tryz.ntmps6
  go_wp2_with fail
  refine AW.out.mono ?_
  rintro e w1 ⟨rfl, hb1⟩
  have HB1 := hide hb1
  clear hb1 AW
  go_wp2_with fail
  refine (N1.out _ (HT.out.below HB1.out)).mono ?_
  rintro e w2 ⟨rfl, hb2⟩
  have HB2 := hide (HB1.out.trans (hb2.mono HB1.out.size))
  clear hb2 HB1 N1
  go_wp2_with fail
  refine (N2.out _).mono ?_
  rintro e w3 ⟨rfl, hb3⟩
  have HB3 := hide (HB2.out.trans (hb3.mono HB2.out.size))
  clear hb3 HB2 N2
  go_wp2_with fail
  refine (W1.out _ (HT.out.below HB3.out)).mono ?_
  rintro e w4 ⟨rfl, hb4⟩
  have HB4 := hide (HB3.out.trans (hb4.mono HB3.out.size))
  clear hb4 HB3 W1
  go_wp2_with fail
  refine (W2.out _).mono ?_
  rintro e w5 ⟨rfl, hb5⟩
  have HB5 := hide (HB4.out.trans (hb5.mono HB4.out.size))
  clear hb5 HB4 W2
  go_wp2
  go_ret
  exact ⟨rfl, HB5.out⟩

end Go.Proofs.YtpiloigpncbccabGreatDoor
