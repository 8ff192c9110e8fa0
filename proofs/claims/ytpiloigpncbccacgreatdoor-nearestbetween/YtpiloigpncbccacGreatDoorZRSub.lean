/-
  What the reference's Shl does.
  What the reference's Sub does: the difference, digit by digit, of a number and one that is not above it.
  What the reference's Cmp and SubErr do.
-/
import Derived.Test.YtpiloigpncbccacGreatDoorZRAdd
import Derived.Test.YtpiloigpncbccacGreatDoorZQ2
import Derived.Deep.QuietTactic
import Derived.BigQuiet
import Derived.WalkSmall
namespace Go.Proofs.YtpiloigpncbccacGreatDoor
open Go.RowKit

theorem shl_nums {x c s : Nat} (hx : x < 65536) (hs : s ≤ 15) (hc : c < 2 ^ s) :
    IntKind.u32.wrap ((x : Int) * 2 ^ s) = ((x * 2 ^ s : Nat) : Int) ∧ bits .or .u32 ((x * 2 ^ s : Nat) : Int) (c : Int) = ((x * 2 ^ s + c : Nat) : Int) ∧ bits .and .u32 ((x * 2 ^ s + c : Nat) : Int) 65535 = (((x * 2 ^ s + c) % 65536 : Nat) : Int) ∧ x * 2 ^ s + c < 4294967296 := by
  have hp := pow_lt16 hs
  have h1 : x * 2 ^ s ≤ 65535 * 65535 := Nat.mul_le_mul (by omega) (by omega)
  have hlt : x * 2 ^ s + c < 4294967296 := by omega
  refine ⟨?_, ?_, and16u _ hlt, hlt⟩
  · rw [IntKind.wrap_u32', show (x : Int) * 2 ^ s = ((x * 2 ^ s : Nat) : Int) by push_cast; rfl]; omega
  · rw [u32_or_nat _ _ (by omega) (by omega), Nat.or_comm, or_low hc, Nat.add_comm]

theorem Grows.made {w w1 : World} {n : Nat} (hb : Below w.heap.size w w1) (h : w1.ownsRow w.heap.size 50 1 (.slice (some ⟨w.heap.size, 0, none⟩) n n) n (madeCells #[Value.int .u32 0] n).toList) :
    Grows w w1 (.slice (some ⟨w.heap.size, 0, none⟩) n n) (List.replicate n 0) := by
  refine ⟨hb, ?_⟩
  rw [vals_replicate, List.length_replicate]
  rw [toList_madeCells_one] at h
  exact h

set_option maxRecDepth 100000 in
set_option maxHeartbeats 1000000 in
theorem rshl_at (b o m cap n la ca : Nat) (xs : List Nat) (w : World) (hn : n ≤ 65536) (hm0 : 0 < m) (hm : m ≤ 100000000) (hx : xs.length = m) (hb : b < w.heap.size)
    (hcell : ∀ i, i < m → w.cell? ⟨b, o + i, none⟩ = some (.int .u32 ((dg xs i : Nat) : Int))) (ox : Ok 65536 xs)
    (c1 : ∀ w' : World, w'.heap = w.heap → Calls Tryz.prog 29 #[.slice (some ⟨b, o, none⟩) la ca] w' fun e w'' => e = .returned (.slice (some ⟨b, o, none⟩) m cap) ∧ w' = w'') :
    Calls Tryz.prog 32 #[.slice (some ⟨b, o, none⟩) la ca, .int .i64 (n : Int)] w (RPost w (m + 4097) (num 65536 xs * 2 ^ n)) := by
  obtain ⟨i0, hi, hz0, hz1, hz2⟩ := info_parts Tryz.infoD
  have C1 : Hid (∀ w' : World, w'.heap = w.heap → Calls Tryz.prog 29 #[.slice (some ⟨b, o, none⟩) la ca] w' fun e w'' => e = .returned (.slice (some ⟨b, o, none⟩) m cap) ∧ w' = w'') := c1
  obtain ⟨lm, hlm⟩ : ∃ lm, lm = n / 16 := ⟨_, rfl⟩
  obtain ⟨s, hs⟩ : ∃ s, s = n % 16 := ⟨_, rfl⟩
  have hlb : lm ≤ 4096 := by omega
  have hsb : s ≤ 15 := by omega
  have q1 : (n : Int) / 16 = (lm : Int) := by omega
  have q2 : (n : Int) % 16 = (s : Int) := by omega
  have HP : Hid (65536 ^ lm * 2 ^ s = 2 ^ n) := by
    rw [hlm, hs, show (65536 : Nat) = 2 ^ 16 by decide +kernel, ← Nat.pow_mul, ← Nat.pow_add]
    show 2 ^ (16 * (n / 16) + n % 16) = 2 ^ n
    congr 1; omega
  have hne : ((m : Int) == 0) = false := by rw [beq_eq_false_iff_ne]; omega
  obtain ⟨D, hD⟩ : ∃ D, D = shlD s (dg xs) := ⟨_, rfl⟩
  have HDF : Hid (D = shlD s (dg xs)) := hD
  clear c1 hlm hs hD
  go_enter Tryz.func32, Tryz.ntmps32
  go_wp2_with fail
  refine (C1.out _ rfl).mono ?_
  rintro e w' ⟨rfl, rfl⟩
  go_wp2_with (at_make; refine wpList_make_full _ rfl _ _ 35 rfl w.heap.size 50 i0 (.int .u32 0) 1 Tryz.underlying35 hi hz0 hz1 _ _ _ _ lm rfl rfl (by omega) (by omega) (by rw [hz2]; omega) (by unfold maxLen; omega) (Nat.le_refl _) ?_)
  intro w1 hown hgrow
  have hb1 : Below w.heap.size w w1 := (Below.refl _ _).grown hgrow (Nat.le_refl _) (fun k hk => by cases hk)
  have HG0 : Hid (Grows w w1 (.slice (some ⟨w.heap.size, 0, none⟩) lm lm) (List.replicate lm 0)) := Grows.made hb1 hown
  clear hown hgrow hb1
  go_wp2
  go_loopw [5, 6, 7, 8] (fun v cv i _ wr => ∃ k c : Nat, k ≤ m ∧ cv = .int .u32 (c : Int) ∧ i = .int .i64 k ∧ c = shlC s (dg xs) k ∧ Grows w wr v (List.replicate lm 0 ++ mk D k)) (fun _ _ i _ _ => m - (intOf i).toNat)
  case atStart => exact ⟨0, 0, Nat.zero_le _, rfl, rfl, rfl, by simpa [mk] using HG0.out⟩
  case round =>
    clear HG0
    obtain ⟨k, c, hk, rfl, rfl, hc, hgr⟩ := hrel
    have hcl : c < 2 ^ s := by rw [hc]; exact shlC_lt ox k
    have hp := pow_lt16 hsb
    have HC : Hid (c = shlC s (dg xs) k) := hc
    have HG : Hid (Grows w wr u5 (List.replicate lm 0 ++ mk D k)) := hgr
    have hdl : (List.replicate lm 0 ++ mk D k).length = lm + k := by simp [mk]
    have hown := hgr.2
    rw [hdl] at hown
    have hsz := hgr.1.size
    have hcl16 : c ≤ 65535 := by omega
    have HCL : Hid (c < 2 ^ s) := hcl
    clear hc hcl hp
    by_cases hlt : k < m
    · have t1 : (k : Int) < (m : Int) := by omega
      have c0 : wr.cell? ⟨b, o + k, none⟩ = some (.int .u32 ((dg xs k : Nat) : Int)) := (hgr.1.cell hb).trans (hcell k hlt)
      obtain ⟨x, hxk⟩ : ∃ x, x = dg xs k := ⟨_, rfl⟩
      rw [← hxk] at c0
      have hxl : x < 65536 := by rw [hxk]; exact ox k
      obtain ⟨m1, m2, m3, m4⟩ := shl_nums (x := x) (c := c) (s := s) hxl hsb HCL.out
      have eD : D k = (x * 2 ^ s + c) % 65536 := by rw [HDF.out, HC.out, hxk]; show (0 + dg xs k * 2 ^ s + shlC s (dg xs) k) % 65536 = _; rw [Nat.zero_add]
      have eC : shlC s (dg xs) (k + 1) = (x * 2 ^ s + c) / 65536 := by rw [HC.out, hxk]; show (0 + dg xs k * 2 ^ s + shlC s (dg xs) k) / 65536 = _; rw [Nat.zero_add]
      obtain ⟨u, hu⟩ : ∃ u, u = x * 2 ^ s := ⟨_, rfl⟩
      rw [← hu] at m1 m2 m3 m4 eD eC
      obtain ⟨t, ht⟩ : ∃ t, t = u + c := ⟨_, rfl⟩
      rw [← ht] at m2 m3 m4 eD eC
      obtain ⟨d, hd⟩ : ∃ d, d = t % 65536 := ⟨_, rfl⟩
      rw [← hd] at m3 eD
      obtain ⟨c', hc'⟩ : ∃ c', c' = t / 65536 := ⟨_, rfl⟩
      rw [← hc'] at eC
      have hsh : (t : Int) / 65536 = (c' : Int) := by omega
      have HDD : Hid (D k = d) := eD
      have HCC : Hid (c' = shlC s (dg xs) (k + 1)) := eC.symm
      have ht4 : t ≤ 4294967295 := by omega
      clear hgr hxk eD eC hu ht hd hc' hcell ox m4
      go_wp2_with (at_builtin; refine wpList_append_own _ rfl _ _ 35 rfl w.heap.size 50 i0 (.int .u32 0) 1 4 Tryz.underlying35 hi hz0 hz1 hz2 rfl (by decide) _ _ _ rfl (hown.alloc _) ⟨wr.heap.size, 0, none⟩ 1 1 [.int .u32 (d : Int)] rfl rfl ?c1A ?c2A ?c3A ?c4A ?c5A ?_)
      try case c1A => exact new_cell wr _ _
      case c2A => first | exact one_one _ _ | rfl
      case c3A => unfold maxLen; omega
      case c4A => omega
      case c5A => first | (simp; omega) | omega
      intro v' w1 hown' hgrow _
      have hg' := HG.out.step _ (by rw [hdl]; exact hown') hgrow
      have HG' : Hid (Grows w w1 v' (List.replicate lm 0 ++ mk D (k + 1))) := by show Grows _ _ _ _; rw [mk_succ, HDD.out, ← List.append_assoc]; exact hg'
      clear hown hown' hgrow hg' HG
      go_wp2
      go_roundw
      case rel => exact ⟨k + 1, c', by omega, rfl, by go_num, HCC.out, HG'.out⟩
      case measure => simp [intOf]; omega
    · obtain rfl : k = m := by omega
      have t1 : ¬ (k : Int) < (k : Int) := by omega
      have his := shl_is (lm := lm) ox hx hsb
      rw [← HDF.out, ← HC.out, HP.out] at his
      have HI : Hid (Ok 65536 (List.replicate lm 0 ++ mk D k ++ [c]) ∧ num 65536 (List.replicate lm 0 ++ mk D k ++ [c]) = num 65536 xs * 2 ^ n) := his
      clear hgr his hcell
      go_wp2_with (at_builtin; refine wpList_append_own _ rfl _ _ 35 rfl w.heap.size 50 i0 (.int .u32 0) 1 4 Tryz.underlying35 hi hz0 hz1 hz2 rfl (by decide) _ _ _ rfl (hown.alloc _) ⟨wr.heap.size, 0, none⟩ 1 1 [.int .u32 (c : Int)] rfl rfl ?c1B ?c2B ?c3B ?c4B ?c5B ?_)
      try case c1B => exact new_cell wr _ _
      case c2B => first | exact one_one _ _ | rfl
      case c3B => unfold maxLen; omega
      case c4B => omega
      case c5B => first | (simp; omega) | omega
      intro v' w1 hown' hgrow _
      have hg' := HG.out.step _ (by rw [hdl]; exact hown') hgrow
      obtain ⟨ao', cp, rfl, hcp, hat⟩ := hg'.at
      have hbel := hg'.1
      obtain ⟨z, hz⟩ : ∃ z, z = List.replicate lm 0 ++ mk D k ++ [c] := ⟨_, rfl⟩
      rw [← hz] at hat hcp HI
      have hzl : z.length = lm + k + 1 := by rw [hz]; simp [mk]; omega
      obtain ⟨q, hq⟩ : ∃ q, q = (trimmed z).length := ⟨_, rfl⟩
      have HQ : Hid ((trimmed z).length = q) := hq.symm
      have HZ : Hid (z.length = lm + k + 1) := hzl
      have hqle : q ≤ lm + k + 1 := by rw [hq, ← hzl]; exact length_trimmed_le z
      rw [← hz, hzl]
      rw [hzl] at hcp
      clear hown hown' hgrow hg' HG hz hzl hq
      go_wp2_with fail
      refine (rtrim_to ao' (lm + k + 1) cp q z _ hcp (by omega) HZ.out hat HQ.out).mono ?_
      rintro e w' ⟨rfl, rfl⟩
      go_wp2
      go_ret
      refine ⟨ao', cp, trimmed z, by rw [HQ.out]; rfl, by rw [HQ.out]; omega, hat.trimmed, ?_, by rw [HQ.out]; omega, hbel⟩
      rw [← HI.out.2]; exact Is.trimmed HI.out.1

set_option maxRecDepth 100000 in
set_option maxHeartbeats 1000000 in
theorem rshl_none (ao : Option Addr) (cap la ca : Nat) (n : Int) (w : World)
    (c1 : ∀ w' : World, w'.heap = w.heap → Calls Tryz.prog 29 #[.slice ao la ca] w' fun e w'' => e = .returned (.slice ao 0 cap) ∧ w' = w'') :
    Calls Tryz.prog 32 #[.slice ao la ca, .int .i64 n] w (RPost w 0 0) := by
  have C1 : Hid (∀ w' : World, w'.heap = w.heap → Calls Tryz.prog 29 #[.slice ao la ca] w' fun e w'' => e = .returned (.slice ao 0 cap) ∧ w' = w'') := c1
  clear c1
  go_enter Tryz.func32, Tryz.ntmps32
  go_wp2_with fail
  refine (C1.out _ rfl).mono ?_
  rintro e w' ⟨rfl, rfl⟩
  go_wp2
  go_ret
  exact ⟨_, _, [], rfl, Nat.le_refl _, At.nil _ _ _, Is.none (by decide), Nat.le_refl _, (Below.refl _ _).alloc (Nat.le_refl _) _⟩

theorem rshl_any (ao : Option Addr) (la ca n : Nat) (xs : List Nat) (w : World) (hn : n ≤ 65536) (hla : la ≤ ca) (hl : la ≤ 100000000) (hx : xs.length = la) (hat : At .u32 w ao xs) (ox : Ok 65536 xs) :
    Calls Tryz.prog 32 #[.slice ao la ca, .int .i64 (n : Int)] w (RPost w (la + 4097) (num 65536 xs * 2 ^ n)) := by
  have l1 := length_trimmed_le xs
  rw [← num_trimmed]
  rcases hat.trimmed with h | ⟨b, o, rfl, hb, hc⟩
  · refine (rshl_none ao ca la ca n w (fun w' hw => rtrim_to ao la ca 0 xs w' hla (by omega) hx (hat.same hw) (by rw [h]; rfl))).mono ?_
    rintro e w' ⟨o', c', z, a1, a2, a3, a4, a5, a6⟩
    refine ⟨o', c', z, a1, a2, a3, ?_, by omega, a6⟩
    rw [h, show num 65536 [] = 0 from rfl, Nat.zero_mul]; exact a4
  · by_cases h0 : (trimmed xs).length = 0
    · have h := List.length_eq_zero_iff.1 h0
      refine (rshl_none _ ca la ca n w (fun w' hw => rtrim_to _ la ca 0 xs w' hla (by omega) hx (hat.same hw) h0)).mono ?_
      rintro e w' ⟨o', c', z, a1, a2, a3, a4, a5, a6⟩
      refine ⟨o', c', z, a1, a2, a3, ?_, by omega, a6⟩
      rw [h, show num 65536 [] = 0 from rfl, Nat.zero_mul]; exact a4
    · refine (rshl_at b o (trimmed xs).length ca n la ca (trimmed xs) w hn (by omega) (by omega) rfl hb hc (trimmed_ok ox) (fun w' hw => rtrim_to _ la ca _ xs w' hla (by omega) hx (hat.same hw) rfl)).mono ?_
      rintro e w' ⟨o', c', z, a1, a2, a3, a4, a5, a6⟩
      exact ⟨o', c', z, a1, a2, a3, a4, by omega, a6⟩

end Go.Proofs.YtpiloigpncbccacGreatDoor

namespace Go.Proofs.YtpiloigpncbccacGreatDoor
open Go.RowKit

theorem rsub_is {xs ys : List Nat} {n : Nat} (hx : Ok 65536 xs) (hy : Ok 65536 ys) (hnx : xs.length = n) (hny : ys.length ≤ n) (hle : num 65536 ys ≤ num 65536 xs) :
    Ok 65536 (mk (subD 65536 (dg xs) (dg ys)) n) ∧ num 65536 (mk (subD 65536 (dg xs) (dg ys)) n) = num 65536 xs - num 65536 ys := by
  refine ⟨?_, ?_⟩
  · intro j
    by_cases h : j < n
    · rw [dg_mk _ _ _ h]; exact Nat.mod_lt _ (by omega)
    · rw [dg_out (by rw [mk_len]; omega)]; omega
  · have h := sub_val hx hy n
    have h0 := (V_sub_lt hx hy n).2 (by rw [num_eq (xs := xs) (by omega), num_eq hny]; exact hle)
    rw [num_eq (xs := xs) (by omega), num_eq hny, h0] at h
    have e : num 65536 (mk (subD 65536 (dg xs) (dg ys)) n) = V 65536 (subD 65536 (dg xs) (dg ys)) n := by
      unfold num; rw [mk_len]; exact V_congr n (fun i hi => dg_mk _ n i hi)
    rw [e]; omega

/-- As RPost, and the answer is new memory. -/
def RNew (w : World) (m n : Nat) (e : Ending) (w' : World) : Prop :=
  ∃ ao cap ys, e = .returned (.slice ao ys.length cap) ∧ ys.length ≤ cap ∧ At .u32 w' ao ys ∧ Is 65536 ys n ∧ ys.length ≤ m ∧ Below w.heap.size w w' ∧ ∀ b o, ao = some ⟨b, o, none⟩ → w.heap.size ≤ b

theorem Grows.new {w wr : World} {v : Value} {ys : List Nat} (h : Grows w wr v ys) : ∀ b o l c, v = .slice (some ⟨b, o, none⟩) l c → w.heap.size ≤ b := by
  rcases h.2.2 with ⟨rfl, _⟩ | ⟨g, cap, cur, rfl, hgb, _⟩
  · intro b o l c h; cases h
  · intro b o l c h
    simp only [Value.slice.injEq, Option.some.injEq, Addr.mk.injEq] at h
    omega

set_option maxRecDepth 100000 in
set_option maxHeartbeats 1000000 in
theorem rsub_new (ao bo : Option Addr) (la ca lb cb : Nat) (xs ys : List Nat) (w : World) (hla : la ≤ 100000000) (hlb : lb ≤ la) (hx : xs.length = la) (hy : ys.length = lb)
    (hax : At .u32 w ao xs) (hay : At .u32 w bo ys) (ox : Ok 65536 xs) (oy : Ok 65536 ys) (hle : num 65536 ys ≤ num 65536 xs) :
    Calls Tryz.prog 17 #[.slice ao la ca, .slice bo lb cb] w (RNew w la (num 65536 xs - num 65536 ys)) := by
  obtain ⟨i0, hi, hz0, hz1, hz2⟩ := info_parts Tryz.infoD
  obtain ⟨D, hD⟩ : ∃ D, D = subD 65536 (dg xs) (dg ys) := ⟨_, rfl⟩
  have HDF : Hid (D = subD 65536 (dg xs) (dg ys)) := hD
  have HLE : Hid (num 65536 ys ≤ num 65536 xs) := hle
  clear hD hle
  go_enter Tryz.func17, Tryz.ntmps17
  go_wp2
  go_loopw [5, 6, 7] (fun v cv i wr => ∃ k c : Nat, k ≤ la ∧ cv = .int .u32 (c : Int) ∧ i = .int .i64 k ∧ c = subC 65536 (dg xs) (dg ys) k ∧ Grows w wr v (mk D k)) (fun _ _ i _ => la - (intOf i).toNat)
  case atStart => exact ⟨0, 0, Nat.zero_le _, rfl, rfl, rfl, (Below.refl _ _).alloc (Nat.le_refl _) _, World.ownsRow_lit _ #[] 0 (Nat.le_refl _) (by unfold maxLen; omega) rfl⟩
  case round =>
    obtain ⟨k, c, hk, rfl, rfl, hc, hgr⟩ := hrel
    have hcl : c ≤ 1 := by rw [hc]; exact subC_le k
    have HC : Hid (c = subC 65536 (dg xs) (dg ys) k) := hc
    clear hc
    by_cases hlt : k < la
    · have HG : Hid (Grows w wr u5 (mk D k)) := hgr
      obtain ⟨x, hxk⟩ : ∃ x, x = dg xs k := ⟨_, rfl⟩
      obtain ⟨y, hyk⟩ : ∃ y, y = dg ys k := ⟨_, rfl⟩
      have hxl : x < 65536 := by rw [hxk]; exact ox k
      have hyl : y < 65536 := by rw [hyk]; exact oy k
      have HX : Hid (x = dg xs k) := hxk
      have HY : Hid (y = dg ys k) := hyk
      obtain ⟨d, hdk⟩ : ∃ d, d = (x + 65536 - y - c) % 65536 := ⟨_, rfl⟩
      obtain ⟨c', hck⟩ : ∃ c', c' = if x < y + c then 1 else 0 := ⟨_, rfl⟩
      have HD : Hid (d = (x + 65536 - y - c) % 65536) := hdk
      have HC' : Hid (c' = if x < y + c then 1 else 0) := hck
      have HC1 : Hid (c' = subC 65536 (dg xs) (dg ys) (k + 1)) := by rw [hck, hxk, hyk, HC.out]; rfl
      have HDD : Hid (d = D k) := by rw [hdk, hxk, hyk, HC.out, HDF.out]; rfl
      have hdl := mk_len D k
      clear hxk hyk hdk hck
      by_cases hb : k < lb
      · have t1 : (k : Int) < (la : Int) := by omega
        have t2 : (k : Int) < (lb : Int) := by omega
        obtain ⟨b1, o1, rfl, hc1⟩ : ∃ b1 o1, ao = some ⟨b1, o1, none⟩ ∧ wr.cell? ⟨b1, o1 + k, none⟩ = some (.int .u32 (x : Int)) := by
          rcases hax.below hgr.1 with h | ⟨b, o, h1, _, h3⟩
          · rw [h] at hx; simp at hx; omega
          · exact ⟨b, o, h1, by rw [HX.out]; exact h3 k (by omega)⟩
        obtain ⟨b2, o2, rfl, hc2⟩ : ∃ b2 o2, bo = some ⟨b2, o2, none⟩ ∧ wr.cell? ⟨b2, o2 + k, none⟩ = some (.int .u32 (y : Int)) := by
          rcases hay.below hgr.1 with h | ⟨b, o, h1, _, h3⟩
          · rw [h] at hy; simp at hy; omega
          · exact ⟨b, o, h1, by rw [HY.out]; exact h3 k (by omega)⟩
        have hd : bits .and .u32 (65536 + (x : Int) - (c : Int) - (y : Int)) 65535 = (d : Int) := by rw [show (65536 + (x : Int) - (c : Int) - (y : Int)) = ((x + 65536 - y - c : Nat) : Int) by omega, and16u _ (by omega)]; exact congrArg _ HD.out.symm
        have hs : 1 - (65536 + (x : Int) - (c : Int) - (y : Int)) / 65536 = (c' : Int) := by have := HC'.out; split at this <;> omega
        have hown := hgr.2
        rw [hdl] at hown
        have hsz := hgr.1.size
        clear hgr hax hay
        go_wp2_with (at_builtin; refine wpList_append_own _ rfl _ _ 35 rfl w.heap.size 50 i0 (.int .u32 0) 1 4 Tryz.underlying35 hi hz0 hz1 hz2 rfl (by decide) _ _ _ rfl (hown.alloc _) ⟨wr.heap.size, 0, none⟩ 1 1 [.int .u32 (d : Int)] rfl rfl ?c1A ?c2A ?c3A ?c4A ?c5A ?_)
        try case c1A => exact new_cell wr _ _
        case c2A => first | exact one_one _ _ | rfl
        case c3A => unfold maxLen; omega
        case c4A => omega
        case c5A => first | (simp; omega) | omega
        intro v' w1 hown' hgrow _
        have hg' := HG.out.step _ (by rw [hdl]; exact hown') hgrow
        have HG' : Hid (Grows w w1 v' (mk D (k + 1))) := by show Grows _ _ _ _; rw [mk_succ, ← HDD.out]; exact hg'
        clear hown hown' hgrow hg' HG hd
        go_wp2
        go_roundw
        case rel => exact ⟨k + 1, c', by omega, rfl, by go_num, HC1.out, HG'.out⟩
        case measure => simp [intOf]; omega
      · have t1 : (k : Int) < (la : Int) := by omega
        have t2 : ¬ (k : Int) < (lb : Int) := by omega
        obtain ⟨b1, o1, rfl, hc1⟩ : ∃ b1 o1, ao = some ⟨b1, o1, none⟩ ∧ wr.cell? ⟨b1, o1 + k, none⟩ = some (.int .u32 (x : Int)) := by
          rcases hax.below hgr.1 with h | ⟨b, o, h1, _, h3⟩
          · rw [h] at hx; simp at hx; omega
          · exact ⟨b, o, h1, by rw [HX.out]; exact h3 k (by omega)⟩
        have ey : y = 0 := by rw [HY.out]; exact dg_out (by omega)
        have hd : bits .and .u32 (65536 + (x : Int) - (c : Int)) 65535 = (d : Int) := by rw [show (65536 + (x : Int) - (c : Int)) = ((x + 65536 - y - c : Nat) : Int) by omega, and16u _ (by omega)]; exact congrArg _ HD.out.symm
        have hs : 1 - (65536 + (x : Int) - (c : Int)) / 65536 = (c' : Int) := by have := HC'.out; split at this <;> omega
        clear ey
        have hown := hgr.2
        rw [hdl] at hown
        have hsz := hgr.1.size
        clear hgr hax hay
        go_wp2_with (at_builtin; refine wpList_append_own _ rfl _ _ 35 rfl w.heap.size 50 i0 (.int .u32 0) 1 4 Tryz.underlying35 hi hz0 hz1 hz2 rfl (by decide) _ _ _ rfl (hown.alloc _) ⟨wr.heap.size, 0, none⟩ 1 1 [.int .u32 (d : Int)] rfl rfl ?c1B ?c2B ?c3B ?c4B ?c5B ?_)
        try case c1B => exact new_cell wr _ _
        case c2B => first | exact one_one _ _ | rfl
        case c3B => unfold maxLen; omega
        case c4B => omega
        case c5B => first | (simp; omega) | omega
        intro v' w1 hown' hgrow _
        have hg' := HG.out.step _ (by rw [hdl]; exact hown') hgrow
        have HG' : Hid (Grows w w1 v' (mk D (k + 1))) := by show Grows _ _ _ _; rw [mk_succ, ← HDD.out]; exact hg'
        clear hown hown' hgrow hg' HG hd
        go_wp2
        go_roundw
        case rel => exact ⟨k + 1, c', by omega, rfl, by go_num, HC1.out, HG'.out⟩
        case measure => simp [intOf]; omega
    · obtain rfl : k = la := by omega
      have hnew := hgr.new
      obtain ⟨ao', cp, rfl, hcp, hat⟩ := hgr.at
      have HNW : Hid (∀ b o, ao' = some ⟨b, o, none⟩ → w.heap.size ≤ b) := fun b o h => hnew b o _ _ (by rw [h])
      clear hnew
      have hbel := hgr.1
      have his := rsub_is (n := k) ox oy hx (by omega) HLE.out
      rw [← HDF.out] at his
      obtain ⟨z, hz⟩ : ∃ z, z = mk D k := ⟨_, rfl⟩
      have hzl : z.length = k := by rw [hz]; exact mk_len D k
      rw [← hz] at hat hcp his
      have HI : Hid (Ok 65536 z ∧ num 65536 z = num 65536 xs - num 65536 ys) := his
      obtain ⟨q, hq⟩ : ∃ q, q = (trimmed z).length := ⟨_, rfl⟩
      have HQ : Hid ((trimmed z).length = q) := hq.symm
      have HZ : Hid (z.length = k) := hzl
      have hqle : q ≤ k := by rw [hq, ← hzl]; exact length_trimmed_le z
      rw [← hz, hzl]
      rw [hzl] at hcp
      clear hgr hz hzl hq his hax hay
      go_wp2_with fail
      refine (rtrim_to ao' k cp q z _ hcp (by omega) HZ.out hat HQ.out).mono ?_
      rintro e w' ⟨rfl, rfl⟩
      go_wp2
      go_ret
      refine ⟨ao', cp, trimmed z, by rw [HQ.out]; rfl, by rw [HQ.out]; omega, hat.trimmed, ?_, by rw [HQ.out]; exact hqle, hbel, HNW.out⟩
      rw [← HI.out.2]; exact Is.trimmed HI.out.1

theorem rsub_any (ao bo : Option Addr) (la ca lb cb : Nat) (xs ys : List Nat) (w : World) (hla : la ≤ 100000000) (hlb : lb ≤ la) (hx : xs.length = la) (hy : ys.length = lb)
    (hax : At .u32 w ao xs) (hay : At .u32 w bo ys) (ox : Ok 65536 xs) (oy : Ok 65536 ys) (hle : num 65536 ys ≤ num 65536 xs) :
    Calls Tryz.prog 17 #[.slice ao la ca, .slice bo lb cb] w (RPost w la (num 65536 xs - num 65536 ys)) := by
  refine (rsub_new ao bo la ca lb cb xs ys w hla hlb hx hy hax hay ox oy hle).mono ?_
  rintro e w' ⟨a, c, y, h1, h2, h3, h4, h5, h6, _⟩
  exact ⟨a, c, y, h1, h2, h3, h4, h5, h6⟩

end Go.Proofs.YtpiloigpncbccacGreatDoor

namespace Go.Proofs.YtpiloigpncbccacGreatDoor
open Go.RowKit

theorem cmpN_len {xs ys : List Nat} (ox : Ok 65536 xs) (ty : Top ys) (h : xs.length < ys.length) : cmpN (num 65536 xs) (num 65536 ys) = -1 := by
  unfold cmpN
  rw [if_pos]
  rcases Nat.lt_or_ge (num 65536 xs) (num 65536 ys) with e | e
  · exact e
  · have := len_le (by omega) ox ty e; omega

set_option maxRecDepth 100000 in
set_option maxHeartbeats 1000000 in
/-- Two lists without noughts on top, of unlike length. -/
theorem rcmp_len (ao bo : Option Addr) (la ca lb cb m p : Nat) (w : World) (z : Int) (hz : (m < p ∧ z = -1) ∨ (p < m ∧ z = 1)) (_hm : m ≤ 1000000000) (_hp : p ≤ 1000000000)
    (c1 : ∀ w' : World, w'.heap = w.heap → Calls Tryz.prog 29 #[.slice ao la ca] w' fun e w'' => e = .returned (.slice ao m ca) ∧ w' = w'')
    (c2 : ∀ w' : World, w'.heap = w.heap → Calls Tryz.prog 29 #[.slice bo lb cb] w' fun e w'' => e = .returned (.slice bo p cb) ∧ w' = w'') :
    Calls Tryz.prog 11 #[.slice ao la ca, .slice bo lb cb] w fun e w' => e = .returned (.int .i64 z) ∧ Below w.heap.size w w' := by
  have C1 : Hid (∀ w' : World, w'.heap = w.heap → Calls Tryz.prog 29 #[.slice ao la ca] w' fun e w'' => e = .returned (.slice ao m ca) ∧ w' = w'') := c1
  have C2 : Hid (∀ w' : World, w'.heap = w.heap → Calls Tryz.prog 29 #[.slice bo lb cb] w' fun e w'' => e = .returned (.slice bo p cb) ∧ w' = w'') := c2
  clear c1 c2
  have hne : ((m : Int) != (p : Int)) = true := by rw [bne_iff_ne]; rcases hz with h | h <;> omega
  rcases hz with ⟨h, rfl⟩ | ⟨h, rfl⟩
  · have h1 : (m : Int) < (p : Int) := by omega
    go_enter Tryz.func11, Tryz.ntmps11
    go_wp2_with fail
    refine (C1.out _ rfl).mono ?_
    rintro e w' ⟨rfl, rfl⟩
    go_wp2_with fail
    refine (C2.out _ rfl).mono ?_
    rintro e w' ⟨rfl, rfl⟩
    go_wp2
    go_ret
    exact ⟨rfl, Below.refl _ _⟩
  · have h1 : ¬ (m : Int) < (p : Int) := by omega
    go_enter Tryz.func11, Tryz.ntmps11
    go_wp2_with fail
    refine (C1.out _ rfl).mono ?_
    rintro e w' ⟨rfl, rfl⟩
    go_wp2_with fail
    refine (C2.out _ rfl).mono ?_
    rintro e w' ⟨rfl, rfl⟩
    go_wp2
    go_ret
    exact ⟨rfl, Below.refl _ _⟩

set_option maxRecDepth 100000 in
set_option maxHeartbeats 1000000 in
theorem rcmp_none (ao bo : Option Addr) (la ca lb cb : Nat) (w : World)
    (c1 : ∀ w' : World, w'.heap = w.heap → Calls Tryz.prog 29 #[.slice ao la ca] w' fun e w'' => e = .returned (.slice ao 0 ca) ∧ w' = w'')
    (c2 : ∀ w' : World, w'.heap = w.heap → Calls Tryz.prog 29 #[.slice bo lb cb] w' fun e w'' => e = .returned (.slice bo 0 cb) ∧ w' = w'') :
    Calls Tryz.prog 11 #[.slice ao la ca, .slice bo lb cb] w fun e w' => e = .returned (.int .i64 0) ∧ Below w.heap.size w w' := by
  have C1 : Hid (∀ w' : World, w'.heap = w.heap → Calls Tryz.prog 29 #[.slice ao la ca] w' fun e w'' => e = .returned (.slice ao 0 ca) ∧ w' = w'') := c1
  have C2 : Hid (∀ w' : World, w'.heap = w.heap → Calls Tryz.prog 29 #[.slice bo lb cb] w' fun e w'' => e = .returned (.slice bo 0 cb) ∧ w' = w'') := c2
  clear c1 c2
  go_enter Tryz.func11, Tryz.ntmps11
  go_wp2_with fail
  refine (C1.out _ rfl).mono ?_
  rintro e w' ⟨rfl, rfl⟩
  go_wp2_with fail
  refine (C2.out _ rfl).mono ?_
  rintro e w' ⟨rfl, rfl⟩
  go_wp2
  refine wp_loop_rounds 1 ?_
  rw [rounds_succ]
  go_wp2
  go_ret
  exact ⟨rfl, Below.refl _ _⟩

set_option maxRecDepth 100000 in
set_option maxHeartbeats 1000000 in
theorem rcmp_at (b1 o1 b2 o2 la ca lb cb m : Nat) (xs ys : List Nat) (w : World) (hm : m ≤ 1000000000) (hx : xs.length = m) (hy : ys.length = m)
    (h1 : ∀ i, i < m → w.cell? ⟨b1, o1 + i, none⟩ = some (.int .u32 ((dg xs i : Nat) : Int))) (h2 : ∀ i, i < m → w.cell? ⟨b2, o2 + i, none⟩ = some (.int .u32 ((dg ys i : Nat) : Int)))
    (c1 : ∀ w' : World, w'.heap = w.heap → Calls Tryz.prog 29 #[.slice (some ⟨b1, o1, none⟩) la ca] w' fun e w'' => e = .returned (.slice (some ⟨b1, o1, none⟩) m ca) ∧ w' = w'')
    (c2 : ∀ w' : World, w'.heap = w.heap → Calls Tryz.prog 29 #[.slice (some ⟨b2, o2, none⟩) lb cb] w' fun e w'' => e = .returned (.slice (some ⟨b2, o2, none⟩) m cb) ∧ w' = w'') :
    Calls Tryz.prog 11 #[.slice (some ⟨b1, o1, none⟩) la ca, .slice (some ⟨b2, o2, none⟩) lb cb] w fun e w' => e = .returned (.int .i64 (cmpTo xs ys m)) ∧ Below w.heap.size w w' := by
  have C1 : Hid (∀ w' : World, w'.heap = w.heap → Calls Tryz.prog 29 #[.slice (some ⟨b1, o1, none⟩) la ca] w' fun e w'' => e = .returned (.slice (some ⟨b1, o1, none⟩) m ca) ∧ w' = w'') := c1
  have C2 : Hid (∀ w' : World, w'.heap = w.heap → Calls Tryz.prog 29 #[.slice (some ⟨b2, o2, none⟩) lb cb] w' fun e w'' => e = .returned (.slice (some ⟨b2, o2, none⟩) m cb) ∧ w' = w'') := c2
  clear c1 c2
  obtain ⟨zz, hzz⟩ : ∃ z, z = cmpTo xs ys m := ⟨_, rfl⟩
  rw [← hzz]
  have HZ : Hid (zz = cmpTo xs ys m) := hzz
  have hne : ((m : Int) != (m : Int)) = false := by simp
  clear hzz
  go_enter Tryz.func11, Tryz.ntmps11
  go_wp2_with fail
  refine (C1.out _ rfl).mono ?_
  rintro e w' ⟨rfl, rfl⟩
  go_wp2_with fail
  refine (C2.out _ rfl).mono ?_
  rintro e w' ⟨rfl, rfl⟩
  go_wp2
  go_loopw [5] (fun i wr => ∃ k : Nat, k ≤ m ∧ i = .int .i64 ((k : Int) - 1) ∧ zz = cmpTo xs ys k ∧ Below w.heap.size w wr ∧ wr.heap = w.heap) (fun i _ => (intOf i + 1).toNat)
  case atStart => exact ⟨m, Nat.le_refl _, rfl, HZ.out, Below.refl _ _, rfl⟩
  case round =>
    obtain ⟨k, hk, rfl, hz, hbel, hheap⟩ := hrel
    have HK : Hid (zz = cmpTo xs ys k) := hz
    have HH : Hid (wr.heap = w.heap) := hheap
    clear hz hheap HZ
    rcases k with _ | k
    · go_wp2
      go_ret
      exact ⟨by rw [HK.out]; rfl, hbel⟩
    · have d1 : wr.cell? ⟨b1, o1 + k, none⟩ = some (.int .u32 ((dg xs k : Nat) : Int)) := by rw [World.cell?_of_block (w := w) (by rw [HH.out])]; exact h1 k (by omega)
      have d2 : wr.cell? ⟨b2, o2 + k, none⟩ = some (.int .u32 ((dg ys k : Nat) : Int)) := by rw [World.cell?_of_block (w := w) (by rw [HH.out])]; exact h2 k (by omega)
      have e0 : (k : Int) < (m : Int) := by omega
      obtain ⟨x, hxk⟩ : ∃ x, x = dg xs k := ⟨_, rfl⟩
      obtain ⟨y, hyk⟩ : ∃ y, y = dg ys k := ⟨_, rfl⟩
      have hstep : zz = if x < y then -1 else if y < x then 1 else cmpTo xs ys k := by rw [HK.out, hxk, hyk]; rfl
      rw [← hxk] at d1
      rw [← hyk] at d2
      have HS : Hid (zz = if x < y then -1 else if y < x then 1 else cmpTo xs ys k) := hstep
      clear hxk hyk hstep HK h1 h2 C1 C2
      rcases Nat.lt_trichotomy x y with h | h | h
      · have t1 : (x : Int) < (y : Int) := by omega
        go_wp2
        go_quiet (fail)
        go_wp2
        go_ret
        exact ⟨by rw [HS.out, if_pos h]; rfl, below_drewN hbel _⟩
      · have t1 : ¬ (x : Int) < (y : Int) := by omega
        have t2 : ¬ (y : Int) < (x : Int) := by omega
        have HE : Hid (zz = cmpTo xs ys k) := by rw [HS.out, if_neg (by omega), if_neg (by omega)]; rfl
        clear h
        go_wp2
        go_quiet (fail)
        go_wp2
        go_quiet (fail)
        go_wp2
        go_roundw
        case rel => exact ⟨k, by omega, by go_num, HE.out, below_drewN hbel _, HH.out⟩
        case measure => simp [intOf]
      · have t1 : ¬ (x : Int) < (y : Int) := by omega
        have t2 : (y : Int) < (x : Int) := by omega
        go_wp2
        go_quiet (fail)
        go_wp2
        go_quiet (fail)
        go_wp2
        go_ret
        exact ⟨by rw [HS.out, if_neg (by omega), if_pos h]; rfl, below_drewN (below_drewN hbel _) _⟩

theorem rcmp_any (ao bo : Option Addr) (la ca lb cb : Nat) (xs ys : List Nat) (w : World) (hla : la ≤ ca) (hlal : la ≤ 1000000000) (hlb : lb ≤ cb) (hlbl : lb ≤ 1000000000) (hx : xs.length = la) (hy : ys.length = lb)
    (hax : At .u32 w ao xs) (hay : At .u32 w bo ys) (ox : Ok 65536 xs) (oy : Ok 65536 ys) (z : Int) (hz : cmpN (num 65536 xs) (num 65536 ys) = z) :
    Calls Tryz.prog 11 #[.slice ao la ca, .slice bo lb cb] w fun e w' => e = .returned (.int .i64 z) ∧ Below w.heap.size w w' := by
  have l1 := length_trimmed_le xs
  have l2 := length_trimmed_le ys
  have c1 := fun (w' : World) (h : w'.heap = w.heap) => rtrim_to ao la ca (trimmed xs).length xs w' hla (by omega) hx (hax.same h) rfl
  have c2 := fun (w' : World) (h : w'.heap = w.heap) => rtrim_to bo lb cb (trimmed ys).length ys w' hlb (by omega) hy (hay.same h) rfl
  rw [← num_trimmed 65536 xs, ← num_trimmed 65536 ys] at hz
  rcases Nat.lt_trichotomy (trimmed xs).length (trimmed ys).length with h | h | h
  · exact rcmp_len ao bo la ca lb cb _ _ w z (.inl ⟨h, by rw [← hz]; exact cmpN_len (trimmed_ok ox) (trimmed_top ys) h⟩) (by omega) (by omega) c1 c2
  · rcases hax.trimmed with e1 | ⟨b1, o1, rfl, _, h1⟩
    · have e2 : trimmed ys = [] := List.length_eq_zero_iff.1 (by rw [← h, e1]; rfl)
      rw [e1] at c1
      rw [e2] at c2
      rw [e1, e2] at hz
      have := rcmp_none ao bo la ca lb cb w c1 c2
      rw [← hz]; exact this
    · rcases hay.trimmed with e2 | ⟨b2, o2, rfl, _, h2⟩
      · have e1 : trimmed xs = [] := List.length_eq_zero_iff.1 (by rw [h, e2]; rfl)
        rw [e1] at c1
        rw [e2] at c2
        rw [e1, e2] at hz
        have := rcmp_none _ bo la ca lb cb w c1 c2
        rw [← hz]; exact this
      · rw [← h] at c2
        have := rcmp_at b1 o1 b2 o2 la ca lb cb (trimmed xs).length (trimmed xs) (trimmed ys) w (by omega) rfl h.symm h1 (fun i hi => h2 i (by omega)) c1 c2
        rw [cmpTo_V (trimmed_ok ox) (trimmed_ok oy), num_eq (Nat.le_refl _), num_eq (by omega), hz] at this
        exact this
  · refine rcmp_len ao bo la ca lb cb _ _ w z (.inr ⟨h, ?_⟩) (by omega) (by omega) c1 c2
    have := cmpN_len (trimmed_ok oy) (trimmed_top xs) h
    rw [← hz]
    unfold cmpN at this ⊢
    split at this
    · rw [if_neg (by omega), if_pos (by assumption)]
    · split at this <;> simp at this

end Go.Proofs.YtpiloigpncbccacGreatDoor
