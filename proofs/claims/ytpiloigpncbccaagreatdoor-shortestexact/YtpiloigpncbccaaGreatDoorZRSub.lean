/-
  What the reference's Shl does.
-/
import Derived.Test.YtpiloigpncbccaaGreatDoorZRAdd
namespace Go.Proofs.YtpiloigpncbccaaGreatDoor
open Go.RowKit

theorem shl_nums {x c s : Nat} (hx : x < 65536) (hs : s ≤ 15) (hc : c < 2 ^ s) :
    IntKind.u32.wrap ((x : Int) * 2 ^ s) = ((x * 2 ^ s : Nat) : Int) ∧ bits .or .u32 ((x * 2 ^ s : Nat) : Int) (c : Int) = ((x * 2 ^ s + c : Nat) : Int) ∧ bits .and .u32 ((x * 2 ^ s + c : Nat) : Int) 65535 = (((x * 2 ^ s + c) % 65536 : Nat) : Int) ∧ x * 2 ^ s + c < 4294967296 := by
  have hp := pow_lt16 hs
  have h1 : x * 2 ^ s ≤ 65535 * 65535 := Nat.mul_le_mul (by omega) (by omega)
  have hlt : x * 2 ^ s + c < 4294967296 := by omega
  refine ⟨?_, ?_, and16u _ hlt, hlt⟩
  · rw [IntKind.wrap_u32', show (x : Int) * 2 ^ s = ((x * 2 ^ s : Nat) : Int) by push_cast; rfl]; omega
  · rw [u32_or_nat _ _ (by omega) (by omega), Nat.or_comm, or_low hc, Nat.add_comm]

theorem Grows.made {w w1 : World} {n : Nat} (hb : Below w.heap.size w w1) (h : w1.ownsRow w.heap.size 31 1 (.slice (some ⟨w.heap.size, 0, none⟩) n n) n (madeCells #[Value.int .u32 0] n).toList) :
    Grows w w1 (.slice (some ⟨w.heap.size, 0, none⟩) n n) (List.replicate n 0) := by
  refine ⟨hb, ?_⟩
  rw [vals_replicate, List.length_replicate]
  rw [toList_madeCells_one] at h
  exact h

set_option maxRecDepth 100000 in
set_option maxHeartbeats 1000000 in
theorem rshl_at (b o m cap n la ca : Nat) (xs : List Nat) (w : World) (hn : n ≤ 65536) (hm0 : 0 < m) (hm : m ≤ 100000000) (hx : xs.length = m) (hb : b < w.heap.size)
    (hcell : ∀ i, i < m → w.cell? ⟨b, o + i, none⟩ = some (.int .u32 ((dg xs i : Nat) : Int))) (ox : Ok 65536 xs)
    (c1 : ∀ w' : World, w'.heap = w.heap → Calls Tryz.prog 51 #[.slice (some ⟨b, o, none⟩) la ca] w' fun e w'' => e = .returned (.slice (some ⟨b, o, none⟩) m cap) ∧ w' = w'') :
    Calls Tryz.prog 27 #[.slice (some ⟨b, o, none⟩) la ca, .int .i64 (n : Int)] w (RPost w (m + 4097) (num 65536 xs * 2 ^ n)) := by
  obtain ⟨i0, hi, hz0, hz1, hz2⟩ := info_parts Tryz.infoD
  have C1 : Hid (∀ w' : World, w'.heap = w.heap → Calls Tryz.prog 51 #[.slice (some ⟨b, o, none⟩) la ca] w' fun e w'' => e = .returned (.slice (some ⟨b, o, none⟩) m cap) ∧ w' = w'') := c1
  obtain ⟨lm, hlm⟩ : ∃ lm, lm = n / 16 := ⟨_, rfl⟩
  obtain ⟨s, hs⟩ : ∃ s, s = n % 16 := ⟨_, rfl⟩
  have hlb : lm ≤ 4096 := by omega
  have hsb : s ≤ 15 := by omega
  have q1 : (n : Int) / 16 = (lm : Int) := by omega
  have q2 : (n : Int) % 16 = (s : Int) := by omega
  have HP : Hid (65536 ^ lm * 2 ^ s = 2 ^ n) := by
    rw [hlm, hs, show (65536 : Nat) = 2 ^ 16 by decide +kernel, ← Nat.pow_mul, ← Nat.pow_add]
    show 2 ^ (16 * (n / 16) + n % 16) = 2 ^ n
    congr 1; omega
  have hne : ((m : Int) == 0) = false := by rw [beq_eq_false_iff_ne]; omega
  obtain ⟨D, hD⟩ : ∃ D, D = shlD s (dg xs) := ⟨_, rfl⟩
  have HDF : Hid (D = shlD s (dg xs)) := hD
  clear c1 hlm hs hD
  go_enter Tryz.func27, Tryz.ntmps27
  go_wp2_with fail
  refine (C1.out _ rfl).mono ?_
  rintro e w' ⟨rfl, rfl⟩
  go_wp2_with (at_make; refine wpList_make_full _ rfl _ _ 48 rfl w.heap.size 31 i0 (.int .u32 0) 1 Tryz.underlying48 hi hz0 hz1 _ _ _ _ lm rfl rfl (by omega) (by omega) (by rw [hz2]; omega) (by unfold maxLen; omega) (Nat.le_refl _) ?_)
  intro w1 hown hgrow
  have hb1 : Below w.heap.size w w1 := (Below.refl _ _).grown hgrow (Nat.le_refl _) (fun k hk => by cases hk)
  have HG0 : Hid (Grows w w1 (.slice (some ⟨w.heap.size, 0, none⟩) lm lm) (List.replicate lm 0)) := Grows.made hb1 hown
  clear hown hgrow hb1
  go_wp2
  go_loopw [5, 6, 7, 8] (fun v cv i _ wr => ∃ k c : Nat, k ≤ m ∧ cv = .int .u32 (c : Int) ∧ i = .int .i64 k ∧ c = shlC s (dg xs) k ∧ Grows w wr v (List.replicate lm 0 ++ mk D k)) (fun _ _ i _ _ => m - (intOf i).toNat)
  case atStart => exact ⟨0, 0, Nat.zero_le _, rfl, rfl, rfl, by simpa [mk] using HG0.out⟩
  case round =>
    clear HG0
    obtain ⟨k, c, hk, rfl, rfl, hc, hgr⟩ := hrel
    have hcl : c < 2 ^ s := by rw [hc]; exact shlC_lt ox k
    have hp := pow_lt16 hsb
    have HC : Hid (c = shlC s (dg xs) k) := hc
    have HG : Hid (Grows w wr u5 (List.replicate lm 0 ++ mk D k)) := hgr
    have hdl : (List.replicate lm 0 ++ mk D k).length = lm + k := by simp [mk]
    have hown := hgr.2
    rw [hdl] at hown
    have hsz := hgr.1.size
    have hcl16 : c ≤ 65535 := by omega
    have HCL : Hid (c < 2 ^ s) := hcl
    clear hc hcl hp
    by_cases hlt : k < m
    · have t1 : (k : Int) < (m : Int) := by omega
      have c0 : wr.cell? ⟨b, o + k, none⟩ = some (.int .u32 ((dg xs k : Nat) : Int)) := (hgr.1.cell hb).trans (hcell k hlt)
      obtain ⟨x, hxk⟩ : ∃ x, x = dg xs k := ⟨_, rfl⟩
      rw [← hxk] at c0
      have hxl : x < 65536 := by rw [hxk]; exact ox k
      obtain ⟨m1, m2, m3, m4⟩ := shl_nums (x := x) (c := c) (s := s) hxl hsb HCL.out
      have eD : D k = (x * 2 ^ s + c) % 65536 := by rw [HDF.out, HC.out, hxk]; show (0 + dg xs k * 2 ^ s + shlC s (dg xs) k) % 65536 = _; rw [Nat.zero_add]
      have eC : shlC s (dg xs) (k + 1) = (x * 2 ^ s + c) / 65536 := by rw [HC.out, hxk]; show (0 + dg xs k * 2 ^ s + shlC s (dg xs) k) / 65536 = _; rw [Nat.zero_add]
      obtain ⟨u, hu⟩ : ∃ u, u = x * 2 ^ s := ⟨_, rfl⟩
      rw [← hu] at m1 m2 m3 m4 eD eC
      obtain ⟨t, ht⟩ : ∃ t, t = u + c := ⟨_, rfl⟩
      rw [← ht] at m2 m3 m4 eD eC
      obtain ⟨d, hd⟩ : ∃ d, d = t % 65536 := ⟨_, rfl⟩
      rw [← hd] at m3 eD
      obtain ⟨c', hc'⟩ : ∃ c', c' = t / 65536 := ⟨_, rfl⟩
      rw [← hc'] at eC
      have hsh : (t : Int) / 65536 = (c' : Int) := by omega
      have HDD : Hid (D k = d) := eD
      have HCC : Hid (c' = shlC s (dg xs) (k + 1)) := eC.symm
      have ht4 : t ≤ 4294967295 := by omega
      clear hgr hxk eD eC hu ht hd hc' hcell ox m4
      go_wp2_with (at_builtin; refine wpList_append_own _ rfl _ _ 48 rfl w.heap.size 31 i0 (.int .u32 0) 1 4 Tryz.underlying48 hi hz0 hz1 hz2 rfl (by decide) _ _ _ rfl (hown.alloc _) ⟨wr.heap.size, 0, none⟩ 1 1 [.int .u32 (d : Int)] rfl rfl ?c1A ?c2A ?c3A ?c4A ?c5A ?_)
      try case c1A => exact new_cell wr _ _
      case c2A => first | exact one_one _ _ | rfl
      case c3A => unfold maxLen; omega
      case c4A => omega
      case c5A => first | (simp; omega) | omega
      intro v' w1 hown' hgrow _
      have hg' := HG.out.step _ (by rw [hdl]; exact hown') hgrow
      have HG' : Hid (Grows w w1 v' (List.replicate lm 0 ++ mk D (k + 1))) := by show Grows _ _ _ _; rw [mk_succ, HDD.out, ← List.append_assoc]; exact hg'
      clear hown hown' hgrow hg' HG
      go_wp2
      go_roundw
      case rel => exact ⟨k + 1, c', by omega, rfl, by go_num, HCC.out, HG'.out⟩
      case measure => simp [intOf]; omega
    · obtain rfl : k = m := by omega
      have t1 : ¬ (k : Int) < (k : Int) := by omega
      have his := shl_is (lm := lm) ox hx hsb
      rw [← HDF.out, ← HC.out, HP.out] at his
      have HI : Hid (Ok 65536 (List.replicate lm 0 ++ mk D k ++ [c]) ∧ num 65536 (List.replicate lm 0 ++ mk D k ++ [c]) = num 65536 xs * 2 ^ n) := his
      clear hgr his hcell
      go_wp2_with (at_builtin; refine wpList_append_own _ rfl _ _ 48 rfl w.heap.size 31 i0 (.int .u32 0) 1 4 Tryz.underlying48 hi hz0 hz1 hz2 rfl (by decide) _ _ _ rfl (hown.alloc _) ⟨wr.heap.size, 0, none⟩ 1 1 [.int .u32 (c : Int)] rfl rfl ?c1B ?c2B ?c3B ?c4B ?c5B ?_)
      try case c1B => exact new_cell wr _ _
      case c2B => first | exact one_one _ _ | rfl
      case c3B => unfold maxLen; omega
      case c4B => omega
      case c5B => first | (simp; omega) | omega
      intro v' w1 hown' hgrow _
      have hg' := HG.out.step _ (by rw [hdl]; exact hown') hgrow
      obtain ⟨ao', cp, rfl, hcp, hat⟩ := hg'.at
      have hbel := hg'.1
      obtain ⟨z, hz⟩ : ∃ z, z = List.replicate lm 0 ++ mk D k ++ [c] := ⟨_, rfl⟩
      rw [← hz] at hat hcp HI
      have hzl : z.length = lm + k + 1 := by rw [hz]; simp [mk]; omega
      obtain ⟨q, hq⟩ : ∃ q, q = (trimmed z).length := ⟨_, rfl⟩
      have HQ : Hid ((trimmed z).length = q) := hq.symm
      have HZ : Hid (z.length = lm + k + 1) := hzl
      have hqle : q ≤ lm + k + 1 := by rw [hq, ← hzl]; exact length_trimmed_le z
      rw [← hz, hzl]
      rw [hzl] at hcp
      clear hown hown' hgrow hg' HG hz hzl hq
      go_wp2_with fail
      refine (rtrim_to ao' (lm + k + 1) cp q z _ hcp (by omega) HZ.out hat HQ.out).mono ?_
      rintro e w' ⟨rfl, rfl⟩
      go_wp2
      go_ret
      refine ⟨ao', cp, trimmed z, by rw [HQ.out]; rfl, by rw [HQ.out]; omega, hat.trimmed, ?_, by rw [HQ.out]; omega, hbel⟩
      rw [← HI.out.2]; exact Is.trimmed HI.out.1

set_option maxRecDepth 100000 in
set_option maxHeartbeats 1000000 in
theorem rshl_none (ao : Option Addr) (cap la ca : Nat) (n : Int) (w : World)
    (c1 : ∀ w' : World, w'.heap = w.heap → Calls Tryz.prog 51 #[.slice ao la ca] w' fun e w'' => e = .returned (.slice ao 0 cap) ∧ w' = w'') :
    Calls Tryz.prog 27 #[.slice ao la ca, .int .i64 n] w (RPost w 0 0) := by
  have C1 : Hid (∀ w' : World, w'.heap = w.heap → Calls Tryz.prog 51 #[.slice ao la ca] w' fun e w'' => e = .returned (.slice ao 0 cap) ∧ w' = w'') := c1
  clear c1
  go_enter Tryz.func27, Tryz.ntmps27
  go_wp2_with fail
  refine (C1.out _ rfl).mono ?_
  rintro e w' ⟨rfl, rfl⟩
  go_wp2
  go_ret
  exact ⟨_, _, [], rfl, Nat.le_refl _, At.nil _ _ _, Is.none (by decide), Nat.le_refl _, (Below.refl _ _).alloc (Nat.le_refl _) _⟩

theorem rshl_any (ao : Option Addr) (la ca n : Nat) (xs : List Nat) (w : World) (hn : n ≤ 65536) (hla : la ≤ ca) (hl : la ≤ 100000000) (hx : xs.length = la) (hat : At .u32 w ao xs) (ox : Ok 65536 xs) :
    Calls Tryz.prog 27 #[.slice ao la ca, .int .i64 (n : Int)] w (RPost w (la + 4097) (num 65536 xs * 2 ^ n)) := by
  have l1 := length_trimmed_le xs
  rw [← num_trimmed]
  rcases hat.trimmed with h | ⟨b, o, rfl, hb, hc⟩
  · refine (rshl_none ao ca la ca n w (fun w' hw => rtrim_to ao la ca 0 xs w' hla (by omega) hx (hat.same hw) (by rw [h]; rfl))).mono ?_
    rintro e w' ⟨o', c', z, a1, a2, a3, a4, a5, a6⟩
    refine ⟨o', c', z, a1, a2, a3, ?_, by omega, a6⟩
    rw [h, show num 65536 [] = 0 from rfl, Nat.zero_mul]; exact a4
  · by_cases h0 : (trimmed xs).length = 0
    · have h := List.length_eq_zero_iff.1 h0
      refine (rshl_none _ ca la ca n w (fun w' hw => rtrim_to _ la ca 0 xs w' hla (by omega) hx (hat.same hw) h0)).mono ?_
      rintro e w' ⟨o', c', z, a1, a2, a3, a4, a5, a6⟩
      refine ⟨o', c', z, a1, a2, a3, ?_, by omega, a6⟩
      rw [h, show num 65536 [] = 0 from rfl, Nat.zero_mul]; exact a4
    · refine (rshl_at b o (trimmed xs).length ca n la ca (trimmed xs) w hn (by omega) (by omega) rfl hb hc (trimmed_ok ox) (fun w' hw => rtrim_to _ la ca _ xs w' hla (by omega) hx (hat.same hw) rfl)).mono ?_
      rintro e w' ⟨o', c', z, a1, a2, a3, a4, a5, a6⟩
      exact ⟨o', c', z, a1, a2, a3, a4, by omega, a6⟩

end Go.Proofs.YtpiloigpncbccaaGreatDoor
