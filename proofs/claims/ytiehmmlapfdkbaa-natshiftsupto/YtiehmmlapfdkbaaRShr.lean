/-
  What the reference's Shr does.
-/
import Derived.Test.YtiehmmlapfdkbaaRShl
namespace Go.Proofs.Ytiehmmlapfdkbaa
open Go.RowKit

theorem shr_nums {x y s : Nat} (hx : x < 65536) (hy : y < 65536) (hs : s ≤ 15) :
    IntKind.u32.wrap ((y : Int) * 2 ^ (16 - s)) = ((y * 2 ^ (16 - s) : Nat) : Int) ∧ bits .and .u32 ((y * 2 ^ (16 - s) : Nat) : Int) 65535 = ((y * 2 ^ (16 - s) % 65536 : Nat) : Int) ∧
    bits .or .u32 ((x / 2 ^ s : Nat) : Int) ((y * 2 ^ (16 - s) % 65536 : Nat) : Int) = ((x / 2 ^ s + y % 2 ^ s * 2 ^ (16 - s) : Nat) : Int) := by
  have h1 : (2 : Nat) ^ (16 - s) ≤ 2 ^ 16 := Nat.pow_le_pow_right (by omega) (by omega)
  have h16 : (2 : Nat) ^ 16 = 65536 := by decide +kernel
  have h2 : y * 2 ^ (16 - s) ≤ 65535 * 65536 := Nat.mul_le_mul (by omega) (by omega)
  refine ⟨?_, and16u _ (by omega), ?_⟩
  · rw [IntKind.wrap_u32', show (y : Int) * 2 ^ (16 - s) = ((y * 2 ^ (16 - s) : Nat) : Int) by push_cast; rfl]; omega
  · have h3 : x / 2 ^ s ≤ x := Nat.div_le_self _ _
    have h4 : y * 2 ^ (16 - s) % 65536 < 65536 := Nat.mod_lt _ (by omega)
    rw [u32_or_nat _ _ (by omega) (by omega)]
    have := or_down (n := 16) (s := s) (a := x) (b := y) (by omega) (by rw [h16]; exact hx)
    rw [h16] at this
    rw [this]

set_option maxRecDepth 100000 in
set_option maxHeartbeats 1000000 in
theorem rshr_at (b o m cap n la ca : Nat) (xs : List Nat) (w : World) (hn : n ≤ 9223372036854775807) (hm : m ≤ 100000000) (hx : xs.length = m) (hb : b < w.heap.size)
    (hcell : ∀ i, i < m → w.cell? ⟨b, o + i, none⟩ = some (.int .u32 ((dg xs i : Nat) : Int))) (ox : Ok 65536 xs)
    (c1 : ∀ w' : World, w'.heap = w.heap → Calls Try.prog 33 #[.slice (some ⟨b, o, none⟩) la ca] w' fun e w'' => e = .returned (.slice (some ⟨b, o, none⟩) m cap) ∧ w' = w'') :
    Calls Try.prog 26 #[.slice (some ⟨b, o, none⟩) la ca, .int .i64 (n : Int)] w (RPost w m (num 65536 xs / 2 ^ n)) := by
  obtain ⟨i0, hi, hz0, hz1, hz2⟩ := info_parts Try.infoD
  have C1 : Hid (∀ w' : World, w'.heap = w.heap → Calls Try.prog 33 #[.slice (some ⟨b, o, none⟩) la ca] w' fun e w'' => e = .returned (.slice (some ⟨b, o, none⟩) m cap) ∧ w' = w'') := c1
  obtain ⟨lm, hlm⟩ : ∃ lm, lm = n / 16 := ⟨_, rfl⟩
  obtain ⟨s, hs⟩ : ∃ s, s = n % 16 := ⟨_, rfl⟩
  have hlb : lm ≤ 1000000000000000000 := by omega
  have hsb : s ≤ 15 := by omega
  have q1 : (n : Int) / 16 = (lm : Int) := by omega
  have q2 : (n : Int) % 16 = (s : Int) := by omega
  have HP : Hid (num 65536 xs / 65536 ^ lm / 2 ^ s = num 65536 xs / 2 ^ n) := by
    rw [Nat.div_div_eq_div_mul, hlm, hs, show (65536 : Nat) = 2 ^ 16 by decide +kernel, ← Nat.pow_mul, ← Nat.pow_add]
    show num (2 ^ 16) xs / 2 ^ (16 * (n / 16) + n % 16) = num (2 ^ 16) xs / 2 ^ n
    congr 2; omega
  obtain ⟨D, hD⟩ : ∃ D, D = downD 16 s (fun i => dg xs (lm + i)) := ⟨_, rfl⟩
  have HDF : Hid (D = downD 16 s (fun i => dg xs (lm + i))) := hD
  have h0 : (0 : Int) ≤ (n : Int) := by omega
  clear c1 hlm hs hD hn
  go_enter Try.func26, Try.ntmps26
  go_wp2_with fail
  refine (C1.out _ rfl).mono ?_
  rintro e w' ⟨rfl, rfl⟩
  go_wp2
  go_loopw [5, 6, 7] (fun v i _ wr => ∃ k : Nat, (lm + k ≤ m ∨ k = 0) ∧ i = .int .i64 ((lm + k : Nat) : Int) ∧ Grows w wr v (mk D k)) (fun _ i _ _ => m - (intOf i).toNat)
  case atStart => exact ⟨0, .inr rfl, rfl, (Below.refl _ _).alloc (Nat.le_refl _) _, World.ownsRow_lit _ #[] 0 (Nat.le_refl _) (by unfold maxLen; omega) rfl⟩
  case round =>
    obtain ⟨k, hk, rfl, hgr⟩ := hrel
    have HG : Hid (Grows w wr u5 (mk D k)) := hgr
    have hdl := mk_len D k
    have hown := hgr.2
    rw [hdl] at hown
    have hsz := hgr.1.size
    by_cases hlt : lm + k < m
    · obtain ⟨j, hj⟩ : ∃ j, lm + k = j := ⟨_, rfl⟩
      rw [hj]
      have t1 : (j : Int) < (m : Int) := by omega
      have c0 : wr.cell? ⟨b, o + j, none⟩ = some (.int .u32 ((dg xs j : Nat) : Int)) := (hgr.1.cell hb).trans (hcell j (by omega))
      obtain ⟨x, hxk⟩ : ∃ x, x = dg xs j := ⟨_, rfl⟩
      obtain ⟨y, hyk⟩ : ∃ y, y = dg xs (j + 1) := ⟨_, rfl⟩
      rw [← hxk] at c0
      have hxl : x < 65536 := by rw [hxk]; exact ox j
      have hyl : y < 65536 := by rw [hyk]; exact ox (j + 1)
      obtain ⟨m1, m2, m3⟩ := shr_nums (x := x) (y := y) (s := s) hxl hyl hsb
      have eD : D k = x / 2 ^ s + y % 2 ^ s * 2 ^ (16 - s) := by rw [HDF.out, hxk, hyk, ← hj]; rfl
      have m0 : (x : Int) / 2 ^ s = ((x / 2 ^ s : Nat) : Int) := by push_cast; rfl
      obtain ⟨u, hu⟩ : ∃ u, u = x / 2 ^ s := ⟨_, rfl⟩
      have hul : u ≤ 65535 := by have := Nat.div_le_self x (2 ^ s); omega
      rw [← hu] at m0 m3 eD
      obtain ⟨v1, hv1⟩ : ∃ v, v = y * 2 ^ (16 - s) := ⟨_, rfl⟩
      rw [← hv1] at m1 m2 m3
      obtain ⟨v2, hv2⟩ : ∃ v, v = v1 % 65536 := ⟨_, rfl⟩
      rw [← hv2] at m2 m3
      obtain ⟨d, hd⟩ : ∃ d, d = u + y % 2 ^ s * 2 ^ (16 - s) := ⟨_, rfl⟩
      rw [← hd] at m3 eD
      have HDD : Hid (D k = d) := eD
      by_cases hnx : j + 1 < m
      · have t2 : (j : Int) + 1 < (m : Int) := by omega
        have c2 : wr.cell? ⟨b, o + (j + 1), none⟩ = some (.int .u32 (y : Int)) := by rw [hyk]; exact (hgr.1.cell hb).trans (hcell (j + 1) hnx)
        have HJ : Hid (lm + k = j) := hj
        clear hgr hxk hyk eD hu hv1 hv2 hd hcell ox hj
        go_wp2_with (at_builtin; refine wpList_append_own _ rfl _ _ 24 rfl w.heap.size 53 i0 (.int .u32 0) 1 4 Try.underlying24 hi hz0 hz1 hz2 rfl (by decide) _ _ _ rfl (hown.alloc _) ⟨wr.heap.size, 0, none⟩ 1 1 [.int .u32 (d : Int)] rfl rfl ?c1A ?c2A ?c3A ?c4A ?c5A ?_)
        try case c1A => exact new_cell wr _ _
        case c2A => first | exact one_one _ _ | rfl
        case c3A => unfold maxLen; omega
        case c4A => omega
        case c5A => first | (simp; omega) | omega
        intro v' w1 hown' hgrow _
        have hg' := HG.out.step _ (by rw [hdl]; exact hown') hgrow
        have HG' : Hid (Grows w w1 v' (mk D (k + 1))) := by show Grows _ _ _ _; rw [mk_succ, HDD.out]; exact hg'
        clear hown hown' hgrow hg' HG
        go_wp2
        go_roundw
        case rel => exact ⟨k + 1, .inl (by have := HJ.out; omega), congrArg (Value.int IntKind.i64) (by have := HJ.out; omega), HG'.out⟩
        case measure => simp [intOf]; omega
      · have t2 : ¬ (j : Int) + 1 < (m : Int) := by omega
        have hy0 : y = 0 := by rw [hyk]; exact dg_out (by omega)
        have hdu : d = u := by rw [hd, hy0]; simp
        have HDU : Hid (D k = u) := by rw [HDD.out]; exact hdu
        have HJ : Hid (lm + k = j) := hj
        clear hgr hxk hyk eD hu hv1 hv2 hd hcell ox hj hy0 hdu m1 m2 m3 HDD
        go_wp2_with (at_builtin; refine wpList_append_own _ rfl _ _ 24 rfl w.heap.size 53 i0 (.int .u32 0) 1 4 Try.underlying24 hi hz0 hz1 hz2 rfl (by decide) _ _ _ rfl (hown.alloc _) ⟨wr.heap.size, 0, none⟩ 1 1 [.int .u32 (u : Int)] rfl rfl ?c1B ?c2B ?c3B ?c4B ?c5B ?_)
        try case c1B => exact new_cell wr _ _
        case c2B => first | exact one_one _ _ | rfl
        case c3B => unfold maxLen; omega
        case c4B => omega
        case c5B => first | (simp; omega) | omega
        intro v' w1 hown' hgrow _
        have hg' := HG.out.step _ (by rw [hdl]; exact hown') hgrow
        have HG' : Hid (Grows w w1 v' (mk D (k + 1))) := by show Grows _ _ _ _; rw [mk_succ, HDU.out]; exact hg'
        clear hown hown' hgrow hg' HG
        go_wp2
        go_roundw
        case rel => exact ⟨k + 1, .inl (by have := HJ.out; omega), congrArg (Value.int IntKind.i64) (by have := HJ.out; omega), HG'.out⟩
        case measure => simp [intOf]; omega
    · have t1 : ¬ ((lm + k : Nat) : Int) < (m : Int) := by omega
      obtain ⟨ao', cp, rfl, hcp, hat⟩ := hgr.at
      have hbel := hgr.1
      obtain ⟨z, hz⟩ : ∃ z, z = mk D k := ⟨_, rfl⟩
      have hzl : z.length = k := by rw [hz]; exact mk_len D k
      have HI : Hid (Ok 65536 z ∧ num 65536 z = num 65536 xs / 2 ^ n) := by
        rw [← HP.out]
        have h16 : (2 : Nat) ^ 16 = 65536 := by decide +kernel
        by_cases hl : lm ≤ m
        · have hdn := down_num (n := 16) (s := s) (lm := lm) (by omega) (xs := xs) (r := z) (by rw [h16]; exact ox) (by omega) (by omega) (fun i hi => by rw [hz, dg_mk _ _ _ (by omega), HDF.out])
          rw [h16] at hdn; exact hdn
        · obtain rfl : k = 0 := by omega
          obtain rfl : z = [] := List.length_eq_zero_iff.1 hzl
          refine ⟨fun i => by rw [dg_out (by simp)]; omega, ?_⟩
          have h1 := num_lt ox
          have h2 : num 65536 xs / 65536 ^ lm = 0 := Nat.div_eq_of_lt (Nat.lt_of_lt_of_le h1 (Nat.pow_le_pow_right (by omega) (by omega)))
          rw [h2, Nat.zero_div]; rfl
      rw [← hz] at hat hcp
      obtain ⟨q, hq⟩ : ∃ q, q = (trimmed z).length := ⟨_, rfl⟩
      have HQ : Hid ((trimmed z).length = q) := hq.symm
      have HZ : Hid (z.length = k) := hzl
      have hqle : q ≤ k := by rw [hq, ← hzl]; exact length_trimmed_le z
      rw [← hz, hzl]
      rw [hzl] at hcp
      clear hown hgr HG hz hzl hq hcell ox
      go_wp2_with fail
      refine (rtrim_to ao' k cp q z _ hcp (by omega) HZ.out hat HQ.out).mono ?_
      rintro e w' ⟨rfl, rfl⟩
      go_wp2
      go_ret
      refine ⟨ao', cp, trimmed z, by rw [HQ.out]; rfl, by rw [HQ.out]; omega, hat.trimmed, ?_, by rw [HQ.out]; omega, hbel⟩
      rw [← HI.out.2]; exact Is.trimmed HI.out.1

set_option maxRecDepth 100000 in
set_option maxHeartbeats 1000000 in
theorem rshr_none (ao : Option Addr) (cap la ca : Nat) (n : Nat) (w : World)
    (c1 : ∀ w' : World, w'.heap = w.heap → Calls Try.prog 33 #[.slice ao la ca] w' fun e w'' => e = .returned (.slice ao 0 cap) ∧ w' = w'') (hn : n ≤ 9223372036854775807) :
    Calls Try.prog 26 #[.slice ao la ca, .int .i64 (n : Int)] w (RPost w 0 0) := by
  have C1 : Hid (∀ w' : World, w'.heap = w.heap → Calls Try.prog 33 #[.slice ao la ca] w' fun e w'' => e = .returned (.slice ao 0 cap) ∧ w' = w'') := c1
  obtain ⟨lm, hlm⟩ : ∃ lm, lm = n / 16 := ⟨_, rfl⟩
  have q1 : (n : Int) / 16 = (lm : Int) := by omega
  have hlb : lm ≤ 1000000000000000000 := by omega
  have h0 : (0 : Int) ≤ (n : Int) := by omega
  clear c1 hlm hn
  go_enter Try.func26, Try.ntmps26
  go_wp2_with fail
  refine (C1.out _ rfl).mono ?_
  rintro e w' ⟨rfl, rfl⟩
  go_wp2
  refine wp_loop_rounds 1 ?_
  rw [rounds_succ]
  go_wp2_with fail
  refine (rtrim_to _ 0 0 0 [] _ (Nat.le_refl _) (by omega) rfl (At.nil _ _ _) rfl).mono ?_
  rintro e w' ⟨rfl, rfl⟩
  go_wp2
  go_ret
  exact ⟨_, _, [], rfl, Nat.le_refl _, At.nil _ _ _, Is.none (by decide), Nat.le_refl _, (Below.refl _ _).alloc (Nat.le_refl _) _⟩

theorem rshr_any (ao : Option Addr) (la ca n : Nat) (xs : List Nat) (w : World) (hn : n ≤ 9223372036854775807) (hla : la ≤ ca) (hl : la ≤ 100000000) (hx : xs.length = la) (hat : At .u32 w ao xs) (ox : Ok 65536 xs) :
    Calls Try.prog 26 #[.slice ao la ca, .int .i64 (n : Int)] w (RPost w la (num 65536 xs / 2 ^ n)) := by
  have l1 := length_trimmed_le xs
  rw [← num_trimmed]
  rcases hat.trimmed with h | ⟨b, o, rfl, hb, hc⟩
  · refine (rshr_none ao ca la ca n w (fun w' hw => rtrim_to ao la ca 0 xs w' hla (by omega) hx (hat.same hw) (by rw [h]; rfl)) hn).mono ?_
    rintro e w' ⟨o', c', z, a1, a2, a3, a4, a5, a6⟩
    refine ⟨o', c', z, a1, a2, a3, ?_, by omega, a6⟩
    rw [h, show num 65536 [] = 0 from rfl, Nat.zero_div]; exact a4
  · refine (rshr_at b o (trimmed xs).length ca n la ca (trimmed xs) w hn (by omega) rfl hb hc (trimmed_ok ox) (fun w' hw => rtrim_to _ la ca _ xs w' hla (by omega) hx (hat.same hw) rfl)).mono ?_
    rintro e w' ⟨o', c', z, a1, a2, a3, a4, a5, a6⟩
    exact ⟨o', c', z, a1, a2, a3, a4, by omega, a6⟩

end Go.Proofs.Ytiehmmlapfdkbaa
