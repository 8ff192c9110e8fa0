/-
  What nearest's Narrow and Widen do, and quipulaw04's awake: the calls answer what the document fixes.
-/
import Derived.Test.YtpiloigpncbccabGreatDoorNFloat
import Derived.Test.YtpiloigpncbccabGreatDoorZSD
import Derived.Test.YtpiloigpncbccabGreatDoorZSM
namespace Go.Proofs.YtpiloigpncbccabGreatDoor
open Go.RowKit

/-- May a Dec be? -/
def May (d : DecT) : Prop := MayD (d.cls : Int) d.neg d.dig d.exp

theorem may_formed {d : DecT} {most : Nat} (h : Formed d most) (hm : most ≤ 1000) : May d := by
  unfold May MayD
  rw [h.cls]
  refine .inl ⟨rfl, ?_⟩
  by_cases h0 : d.dig = []
  · exact .inl ⟨h0, h.nil h0⟩
  · obtain ⟨c1, c2, c3, c4⟩ := h.cons h0
    have hl := h.len
    have hp := List.length_pos_iff.2 h0
    exact .inr ⟨h0, by omega, by omega, by omega, c1, c2, h.dig⟩

theorem may_dec {F X : Nat} {tell : Nat → Nat → Nat × Int} {b most : Nat} (hm : most ≤ 1000)
    (hf : ∀ neg, ¬ (b / 2 ^ F % 2 ^ X = 0 ∧ b % 2 ^ F = 0) → b / 2 ^ F % 2 ^ X ≠ 2 ^ X - 1 → Formed (decA neg (tell (b / 2 ^ F % 2 ^ X) (b % 2 ^ F)).1 (tell (b / 2 ^ F % 2 ^ X) (b % 2 ^ F)).2) most) : May (decOf F X tell b) := by
  unfold decOf
  split
  · split
    · exact .inr (.inl ⟨rfl, rfl, rfl⟩)
    · exact .inr (.inr ⟨rfl, rfl, rfl, rfl⟩)
  · next h1 =>
    split
    · exact .inl ⟨rfl, .inl ⟨rfl, rfl⟩⟩
    · next h2 => exact may_formed (hf _ h2 h1) hm

theorem fp64 {b : Nat} (h : b / 2 ^ 52 % 2 ^ 11 ≠ 2 ^ 11 - 1) : -1074 ≤ fPow 1074 (b / 2 ^ 52 % 2 ^ 11) ∧ fPow 1074 (b / 2 ^ 52 % 2 ^ 11) ≤ 971 := by
  have e : (2 : Nat) ^ 11 = 2048 := by decide
  rw [e] at *
  have := Nat.mod_lt (b / 2 ^ 52) (show 0 < 2048 by omega)
  generalize b / 2 ^ 52 % 2048 = x at *
  unfold fPow; split <;> omega

theorem fp32 {b : Nat} (_h : b / 2 ^ 23 % 2 ^ 8 ≠ 2 ^ 8 - 1) : -1074 ≤ fPow 149 (b / 2 ^ 23 % 2 ^ 8) ∧ fPow 149 (b / 2 ^ 23 % 2 ^ 8) ≤ 971 := by
  have e : (2 : Nat) ^ 8 = 256 := by decide
  rw [e] at *
  have := Nat.mod_lt (b / 2 ^ 23) (show 0 < 256 by omega)
  generalize b / 2 ^ 23 % 256 = x at *
  unfold fPow; split <;> omega

theorem may_of64 (b : Nat) : May (of64D b) := may_dec (most := 17) (by omega) fun neg h0 h1 => (fewD_formed neg (by omega) (Nat.mod_lt _ (Nat.pow_pos (by omega))) h0 (fp64 h1).1 (fp64 h1).2).1
theorem may_ex64 (b : Nat) : May (ex64D b) := may_dec (most := 767) (by omega) fun neg h0 h1 => (allD_formed neg (by omega) (Nat.mod_lt _ (Nat.pow_pos (by omega))) h0 (fp64 h1).1 (fp64 h1).2).1
theorem may_of32 (b : Nat) : May (of32D b) := may_dec (most := 17) (by omega) fun neg h0 h1 => (fewD_formed neg (by omega) (Nat.mod_lt _ (Nat.pow_pos (by omega))) h0 (fp32 h1).1 (fp32 h1).2).1
theorem may_ex32 (b : Nat) : May (ex32D b) := may_dec (most := 767) (by omega) fun neg h0 h1 => (allD_formed neg (by omega) (Nat.mod_lt _ (Nat.pow_pos (by omega))) h0 (fp32 h1).1 (fp32 h1).2).1

theorem to64_dec (d : DecT) (w : World) (h : May d) : Calls Tryz.prog 15 #[decVal d] w fun e w' => e = .returned (.tuple #[.int .u64 ((toD 52 11 1074 d : Nat) : Int), .int .i64 0]) ∧ Below w.heap.size w w' := by
  have hb : bys ⟨d.dig.toArray⟩ = d.dig := by simp [bys]
  have g := to64_yes (d.cls : Int) d.neg ⟨d.dig.toArray⟩ d.exp w (by rw [hb]; exact h)
  rw [hb, Int.toNat_natCast] at g
  exact g

theorem to32_dec (d : DecT) (w : World) (h : May d) : Calls Tryz.prog 20 #[decVal d] w fun e w' => e = .returned (.tuple #[.int .u32 ((toD 23 8 149 d : Nat) : Int), .int .i64 0]) ∧ Below w.heap.size w w' := by
  have hb : bys ⟨d.dig.toArray⟩ = d.dig := by simp [bys]
  have g := to32_yes (d.cls : Int) d.neg ⟨d.dig.toArray⟩ d.exp w (by rw [hb]; exact h)
  rw [hb, Int.toNat_natCast] at g
  exact g

set_option maxHeartbeats 1000000 in
theorem narrow_call (b : Nat) (w : World) (hb : b < 18446744073709551616) (htab : Tab w) : Calls Tryz.prog 22 #[.int .u64 (b : Int)] w fun e w' => e = .returned (.int .u32 ((toD 23 8 149 (ex64D b) : Nat) : Int)) ∧ Below w.heap.size w w' := by
  have E := hide (exact64_any b w hb htab)
  have T := hide (fun W => to32_dec (ex64D b) W (may_ex64 b))
  obtain ⟨r, hr⟩ : ∃ r, r = toD 23 8 149 (ex64D b) := ⟨_, rfl⟩
  rw [← hr] at T ⊢
  clear hr htab
  go_enter Tryz.func22, Tryz.ntmps22
  go_wp2_with fail
  refine E.out.mono ?_
  rintro e w1 ⟨rfl, hb1⟩
  have HB1 := hide hb1
  clear hb1 E
  go_wp2_with fail
  refine (T.out _).mono ?_
  rintro e w2 ⟨rfl, hb2⟩
  have HB2 := hide (HB1.out.trans (hb2.mono HB1.out.size))
  clear hb2 HB1 T
  go_wp2
  go_ret
  exact ⟨rfl, HB2.out⟩

set_option maxHeartbeats 1000000 in
theorem widen_call (b : Nat) (w : World) (hb : b < 4294967296) (htab : Tab w) : Calls Tryz.prog 24 #[.int .u32 (b : Int)] w fun e w' => e = .returned (.int .u64 ((toD 52 11 1074 (ex32D b) : Nat) : Int)) ∧ Below w.heap.size w w' := by
  have E := hide (exact32_any b w hb htab)
  have T := hide (fun W => to64_dec (ex32D b) W (may_ex32 b))
  obtain ⟨r, hr⟩ : ∃ r, r = toD 52 11 1074 (ex32D b) := ⟨_, rfl⟩
  rw [← hr] at T ⊢
  clear hr htab
  go_enter Tryz.func24, Tryz.ntmps24
  go_wp2_with fail
  refine E.out.mono ?_
  rintro e w1 ⟨rfl, hb1⟩
  have HB1 := hide hb1
  clear hb1 E
  go_wp2_with fail
  refine (T.out _).mono ?_
  rintro e w2 ⟨rfl, hb2⟩
  have HB2 := hide (HB1.out.trans (hb2.mono HB1.out.size))
  clear hb2 HB1 T
  go_wp2
  go_ret
  exact ⟨rfl, HB2.out⟩

theorem one64 : ex64D 0x3ff0000000000000 = ⟨0, false, [49], 0⟩ := by
  have h : ex64D 0x3ff0000000000000 = decA false (allD 52 1074 1023 0).1 (allD 52 1074 1023 0).2 := by unfold ex64D decOf; rw [if_neg (by decide), if_neg (by decide)]; rfl
  have h2 : (allD 52 1074 1023 0).1 = 1 * 10 ^ 52 := by decide +kernel
  have h3 : (allD 52 1074 1023 0).2 = -52 := by decide +kernel
  rw [h, h2, h3, decA_tens (by decide), decA_digit (by decide) (by decide)]
  rfl

theorem one32 : ex32D 0x3f800000 = ⟨0, false, [49], 0⟩ := by
  have h : ex32D 0x3f800000 = decA false (allD 23 149 127 0).1 (allD 23 149 127 0).2 := by unfold ex32D decOf; rw [if_neg (by decide), if_neg (by decide)]; rfl
  have h2 : (allD 23 149 127 0).1 = 1 * 10 ^ 23 := by decide +kernel
  have h3 : (allD 23 149 127 0).2 = -23 := by decide +kernel
  rw [h, h2, h3, decA_tens (by decide), decA_digit (by decide) (by decide)]
  rfl

theorem nw1 (w : World) : Calls Tryz.prog 15 #[.agg #[.int .i64 0, .bool false, .string ⟨#[49]⟩, .int .i64 (-1)]] w fun e w' => e = .returned (.tuple #[.int .u64 4591870180066957722, .int .i64 0]) ∧ Below w.heap.size w w' := by
  have h := to64_dec (of64D 0x3fb999999999999a) w (may_of64 _)
  rw [back64_of _ (by omega), show same64 0x3fb999999999999a = 4591870180066957722 by decide, awk1] at h
  exact h

theorem nw2 (w : World) : Calls Tryz.prog 20 #[.agg #[.int .i64 0, .bool false, .string ⟨#[49]⟩, .int .i64 (-1)]] w fun e w' => e = .returned (.tuple #[.int .u32 1036831949, .int .i64 0]) ∧ Below w.heap.size w w' := by
  have h := to32_dec (of32D 0x3dcccccd) w (may_of32 _)
  rw [back32_of _ (by omega), show same32 0x3dcccccd = 1036831949 by decide, awk3] at h
  exact h

theorem nw3 (w : World) : Calls Tryz.prog 15 #[.agg #[.int .i64 0, .bool false, .string ⟨#[48, 49]⟩, .int .i64 0]] w fun e w' => e = .returned (.tuple #[.int .u64 0, .int .i64 40]) ∧ Below w.heap.size w w' :=
  to64_no 0 false ⟨#[48, 49]⟩ 0 w (by
    rw [mayD_0]
    rintro (⟨h, _⟩ | ⟨_, _, _, _, h, _⟩)
    · exact absurd h (by decide)
    · exact h rfl)

theorem nw4 (w : World) : Calls Tryz.prog 20 #[.agg #[.int .i64 2, .bool true, .string ⟨#[]⟩, .int .i64 0]] w fun e w' => e = .returned (.tuple #[.int .u32 0, .int .i64 40]) ∧ Below w.heap.size w w' :=
  to32_no 2 true ⟨#[]⟩ 0 w (by
    rintro (⟨h, _⟩ | ⟨h, _⟩ | ⟨_, h, _⟩)
    · omega
    · omega
    · cases h)

theorem one_val64 : toD 52 11 1074 ⟨0, false, [49], 0⟩ = 4607182418800017408 := by
  have h := back64_ex 0x3ff0000000000000 (by omega)
  rw [one64] at h
  rw [h]; decide
theorem one_val32 : toD 23 8 149 ⟨0, false, [49], 0⟩ = 1065353216 := by
  have h := back32_ex 0x3f800000 (by omega)
  rw [one32] at h
  rw [h]; decide

theorem nw5 (w : World) (htab : Tab w) : Calls Tryz.prog 22 #[.int .u64 4607182418800017408] w fun e w' => e = .returned (.int .u32 1065353216) ∧ Below w.heap.size w w' := by
  have h := narrow_call 4607182418800017408 w (by omega) htab
  rw [show ex64D 4607182418800017408 = _ from one64, one_val32] at h
  exact h

theorem nw6 (w : World) (htab : Tab w) : Calls Tryz.prog 24 #[.int .u32 1065353216] w fun e w' => e = .returned (.int .u64 4607182418800017408) ∧ Below w.heap.size w w' := by
  have h := widen_call 1065353216 w (by omega) htab
  rw [show ex32D 1065353216 = _ from one32, one_val64] at h
  exact h

set_option maxRecDepth 100000 in
set_option maxHeartbeats 2000000 in
theorem nawake_any (w : World) (htab : Tab w) : Calls Tryz.prog 16 #[] w fun e w' => e = .returned (.bool true) ∧ Below w.heap.size w w' := by
  have HT := hide htab
  clear htab
  go_enter Tryz.func16, Tryz.ntmps16
  go_wp2_with fail
  refine (nw1 _).mono ?_
  rintro e w1 ⟨rfl, hb⟩
  have HB1 := hide hb
  clear hb
  go_wp2_with fail
  refine (nw2 _).mono ?_
  rintro e w2 ⟨rfl, hb⟩
  have HB2 := hide (HB1.out.trans (hb.mono HB1.out.size))
  clear hb HB1
  go_wp2_with fail
  refine (nw3 _).mono ?_
  rintro e w3 ⟨rfl, hb⟩
  have HB3 := hide (HB2.out.trans (hb.mono HB2.out.size))
  clear hb HB2
  go_wp2_with fail
  refine (nw4 _).mono ?_
  rintro e w4 ⟨rfl, hb⟩
  have HB4 := hide (HB3.out.trans (hb.mono HB3.out.size))
  clear hb HB3
  go_wp2_with fail
  refine (nw5 _ (HT.out.below HB4.out)).mono ?_
  rintro e w5 ⟨rfl, hb⟩
  have HB5 := hide (HB4.out.trans (hb.mono HB4.out.size))
  clear hb HB4
  go_wp2_with fail
  refine (nw6 _ (HT.out.below HB5.out)).mono ?_
  rintro e w6 ⟨rfl, hb⟩
  have HB6 := hide (HB5.out.trans (hb.mono HB5.out.size))
  clear hb HB5
  go_wp2
  go_ret
  exact ⟨rfl, HB6.out⟩

end Go.Proofs.YtpiloigpncbccabGreatDoor
