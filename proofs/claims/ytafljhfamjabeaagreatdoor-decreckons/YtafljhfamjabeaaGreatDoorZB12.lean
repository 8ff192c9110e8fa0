/-
  What the reference's Add does: the sum, digit by digit.
  What the reference's Mul does: the product, digit by digit.
-/
import Derived.Test.YtafljhfamjabeaaGreatDoorZOut
import Derived.Test.YtafljhfamjabeaaGreatDoorZB4
import Derived.Laws.BitsAllLaws
import Derived.Test.YtafljhfamjabeaaGreatDoorZB2
import Derived.Deep.QuietTactic
import Derived.BigQuiet
import Derived.WalkSmall
namespace Go.Proofs.YtafljhfamjabeaaGreatDoor
open Go.RowKit

theorem and16u (a : Nat) (ha : a < 4294967296) : bits .and .u32 (a : Int) 65535 = ((a % 65536 : Nat) : Int) := by
  have h := u32_and_nat a 65535 ha (by omega)
  rw [Nat.and_two_pow_sub_one_eq_mod a 16] at h
  exact h

/-- The sum's digits, with the last carry behind them. -/
theorem radd_is {xs ys : List Nat} {n : Nat} (hx : Ok 65536 xs) (hy : Ok 65536 ys) (hnx : xs.length ≤ n) (hny : ys.length ≤ n) :
    Ok 65536 (mk (addD 65536 (dg xs) (dg ys)) n ++ [addC 65536 (dg xs) (dg ys) n]) ∧ num 65536 (mk (addD 65536 (dg xs) (dg ys)) n ++ [addC 65536 (dg xs) (dg ys) n]) = num 65536 xs + num 65536 ys := by
  have hl : (mk (addD 65536 (dg xs) (dg ys)) n ++ [addC 65536 (dg xs) (dg ys) n]).length = n + 1 := by simp [mk]
  have hd : ∀ j, j < n → dg (mk (addD 65536 (dg xs) (dg ys)) n ++ [addC 65536 (dg xs) (dg ys) n]) j = addD 65536 (dg xs) (dg ys) j := by
    intro j hj
    unfold dg
    rw [List.getElem?_append_left (by rw [mk_len]; exact hj)]
    exact dg_mk _ n j hj
  have hn : dg (mk (addD 65536 (dg xs) (dg ys)) n ++ [addC 65536 (dg xs) (dg ys) n]) n = addC 65536 (dg xs) (dg ys) n := by
    unfold dg
    rw [List.getElem?_append_right (by rw [mk_len]; exact Nat.le_refl _), mk_len]; simp
  refine ⟨?_, ?_⟩
  · intro j
    rcases Nat.lt_trichotomy j n with h | h | h
    · rw [hd j h]; exact addD_lt (by omega) _ _ _
    · rw [h, hn]; have := addC_le hx hy n; omega
    · rw [dg_out (by omega)]; omega
  · have h := add_val 65536 (dg xs) (dg ys) n
    rw [num_eq hnx, num_eq hny] at h
    rw [h]
    unfold num
    rw [hl]
    simp only [V]
    rw [hn, V_congr n hd]

set_option maxRecDepth 100000 in
set_option maxHeartbeats 1000000 in
theorem radd_any (ao bo : Option Addr) (la ca lb cb : Nat) (xs ys : List Nat) (w : World) (hla : la ≤ 100000000) (hlb : lb ≤ 100000000) (hx : xs.length = la) (hy : ys.length = lb)
    (hax : At .u32 w ao xs) (hay : At .u32 w bo ys) (ox : Ok 65536 xs) (oy : Ok 65536 ys) :
    Calls Tryz.prog 91 #[.slice ao la ca, .slice bo lb cb] w (RPost w (max la lb + 1) (num 65536 xs + num 65536 ys)) := by
  obtain ⟨i0, hi, hz0, hz1, hz2⟩ := info_parts Tryz.infoD
  obtain ⟨n, hn⟩ : ∃ n, n = max la lb := ⟨_, rfl⟩
  rw [← hn]
  obtain ⟨D, hD⟩ : ∃ D, D = addD 65536 (dg xs) (dg ys) := ⟨_, rfl⟩
  have HDF : Hid (D = addD 65536 (dg xs) (dg ys)) := hD
  have hnl : la ≤ n ∧ lb ≤ n ∧ n ≤ 100000000 := by omega
  have HN : Hid (n = max la lb) := hn
  clear hn hD
  go_enter Tryz.func91, Tryz.ntmps91
  go_wp2
  go_loopw [5, 6, 7] (fun v cv i wr => ∃ k c : Nat, k ≤ n ∧ cv = .int .u32 (c : Int) ∧ i = .int .i64 k ∧ c = addC 65536 (dg xs) (dg ys) k ∧ Grows w wr v (mk D k)) (fun _ _ i _ => n - (intOf i).toNat)
  case atStart => exact ⟨0, 0, Nat.zero_le _, rfl, rfl, rfl, (Below.refl _ _).alloc (Nat.le_refl _) _, World.ownsRow_lit _ #[] 0 (Nat.le_refl _) (by unfold maxLen; omega) rfl⟩
  case round =>
    obtain ⟨k, c, hk, rfl, rfl, hc, hgr⟩ := hrel
    have hcl : c ≤ 1 := by rw [hc]; exact addC_le ox oy k
    have HC : Hid (c = addC 65536 (dg xs) (dg ys) k) := hc
    clear hc
    by_cases hlt : k < n
    · have HG : Hid (Grows w wr u5 (mk D k)) := hgr
      obtain ⟨x, hxk⟩ : ∃ x, x = dg xs k := ⟨_, rfl⟩
      obtain ⟨y, hyk⟩ : ∃ y, y = dg ys k := ⟨_, rfl⟩
      have hxl : x < 65536 := by rw [hxk]; exact ox k
      have hyl : y < 65536 := by rw [hyk]; exact oy k
      have HX : Hid (x = dg xs k) := hxk
      have HY : Hid (y = dg ys k) := hyk
      obtain ⟨d, hdk⟩ : ∃ d, d = (x + y + c) % 65536 := ⟨_, rfl⟩
      obtain ⟨c', hck⟩ : ∃ c', c' = (x + y + c) / 65536 := ⟨_, rfl⟩
      have HD : Hid (d = (x + y + c) % 65536) := hdk
      have HC' : Hid (c' = (x + y + c) / 65536) := hck
      have HC1 : Hid (c' = addC 65536 (dg xs) (dg ys) (k + 1)) := by rw [hck, hxk, hyk, HC.out]; rfl
      have HDD : Hid (d = D k) := by rw [hdk, hxk, hyk, HC.out, HDF.out]; rfl
      have hdl := mk_len D k
      clear hxk hyk hdk hck
      have hor : k < la ∨ k < lb := by have := HN.out; omega
      by_cases ha : k < la
      · by_cases hb : k < lb
        · clear hor
          have t1 : (k : Int) < (la : Int) := by omega
          have t2 : (k : Int) < (lb : Int) := by omega
          obtain ⟨b1, o1, rfl, hc1⟩ : ∃ b1 o1, ao = some ⟨b1, o1, none⟩ ∧ wr.cell? ⟨b1, o1 + k, none⟩ = some (.int .u32 (x : Int)) := by
            rcases hax.below hgr.1 with h | ⟨b, o, h1, _, h3⟩
            · rw [h] at hx; simp at hx; omega
            · exact ⟨b, o, h1, by rw [HX.out]; exact h3 k (by omega)⟩
          obtain ⟨b2, o2, rfl, hc2⟩ : ∃ b2 o2, bo = some ⟨b2, o2, none⟩ ∧ wr.cell? ⟨b2, o2 + k, none⟩ = some (.int .u32 (y : Int)) := by
            rcases hay.below hgr.1 with h | ⟨b, o, h1, _, h3⟩
            · rw [h] at hy; simp at hy; omega
            · exact ⟨b, o, h1, by rw [HY.out]; exact h3 k (by omega)⟩
          have hd : bits .and .u32 ((c : Int) + (x : Int) + (y : Int)) 65535 = (d : Int) := by rw [show ((c : Int) + (x : Int) + (y : Int)) = ((x + y + c : Nat) : Int) by omega, and16u _ (by omega)]; exact congrArg _ HD.out.symm
          have hs : ((c : Int) + (x : Int) + (y : Int)) / 65536 = (c' : Int) := by have := HC'.out; omega
          have hown := hgr.2
          rw [hdl] at hown
          have hsz := hgr.1.size
          clear hgr hax hay
          go_wp2_with (at_builtin; refine wpList_append_own _ rfl _ _ 56 rfl w.heap.size 101 i0 (.int .u32 0) 1 4 Tryz.underlying56 hi hz0 hz1 hz2 rfl (by decide) _ _ _ rfl (hown.alloc _) ⟨wr.heap.size, 0, none⟩ 1 1 [.int .u32 (d : Int)] rfl rfl ?c1A ?c2A ?c3A ?c4A ?c5A ?_)
          try case c1A => exact new_cell wr _ _
          case c2A => first | exact one_one _ _ | rfl
          case c3A => unfold maxLen; omega
          case c4A => omega
          case c5A => first | (simp; omega) | omega
          intro v' w1 hown' hgrow _
          have hg' := HG.out.step _ (by rw [hdl]; exact hown') hgrow
          have HG' : Hid (Grows w w1 v' (mk D (k + 1))) := by show Grows _ _ _ _; rw [mk_succ, ← HDD.out]; exact hg'
          clear hown hown' hgrow hg' HG hd
          go_wp2
          go_roundw
          case rel => exact ⟨k + 1, c', by omega, rfl, by go_num, HC1.out, HG'.out⟩
          case measure => simp [intOf]; omega
        · clear hor
          have t1 : (k : Int) < (la : Int) := by omega
          have t2 : ¬ (k : Int) < (lb : Int) := by omega
          obtain ⟨b1, o1, rfl, hc1⟩ : ∃ b1 o1, ao = some ⟨b1, o1, none⟩ ∧ wr.cell? ⟨b1, o1 + k, none⟩ = some (.int .u32 (x : Int)) := by
            rcases hax.below hgr.1 with h | ⟨b, o, h1, _, h3⟩
            · rw [h] at hx; simp at hx; omega
            · exact ⟨b, o, h1, by rw [HX.out]; exact h3 k (by omega)⟩
          have ey : y = 0 := by rw [HY.out]; exact dg_out (by omega)
          have hd : bits .and .u32 ((c : Int) + (x : Int)) 65535 = (d : Int) := by rw [show ((c : Int) + (x : Int)) = ((x + y + c : Nat) : Int) by omega, and16u _ (by omega)]; exact congrArg _ HD.out.symm
          have hs : ((c : Int) + (x : Int)) / 65536 = (c' : Int) := by have := HC'.out; omega
          clear ey
          have hown := hgr.2
          rw [hdl] at hown
          have hsz := hgr.1.size
          clear hgr hax hay
          go_wp2_with (at_builtin; refine wpList_append_own _ rfl _ _ 56 rfl w.heap.size 101 i0 (.int .u32 0) 1 4 Tryz.underlying56 hi hz0 hz1 hz2 rfl (by decide) _ _ _ rfl (hown.alloc _) ⟨wr.heap.size, 0, none⟩ 1 1 [.int .u32 (d : Int)] rfl rfl ?c1B ?c2B ?c3B ?c4B ?c5B ?_)
          try case c1B => exact new_cell wr _ _
          case c2B => first | exact one_one _ _ | rfl
          case c3B => unfold maxLen; omega
          case c4B => omega
          case c5B => first | (simp; omega) | omega
          intro v' w1 hown' hgrow _
          have hg' := HG.out.step _ (by rw [hdl]; exact hown') hgrow
          have HG' : Hid (Grows w w1 v' (mk D (k + 1))) := by show Grows _ _ _ _; rw [mk_succ, ← HDD.out]; exact hg'
          clear hown hown' hgrow hg' HG hd
          go_wp2
          go_roundw
          case rel => exact ⟨k + 1, c', by omega, rfl, by go_num, HC1.out, HG'.out⟩
          case measure => simp [intOf]; omega
      · have hb : k < lb := by omega
        clear hor
        have t1 : ¬ (k : Int) < (la : Int) := by omega
        have t2 : (k : Int) < (lb : Int) := by omega
        obtain ⟨b2, o2, rfl, hc2⟩ : ∃ b2 o2, bo = some ⟨b2, o2, none⟩ ∧ wr.cell? ⟨b2, o2 + k, none⟩ = some (.int .u32 (y : Int)) := by
          rcases hay.below hgr.1 with h | ⟨b, o, h1, _, h3⟩
          · rw [h] at hy; simp at hy; omega
          · exact ⟨b, o, h1, by rw [HY.out]; exact h3 k (by omega)⟩
        have ex : x = 0 := by rw [HX.out]; exact dg_out (by omega)
        have hd : bits .and .u32 ((c : Int) + (y : Int)) 65535 = (d : Int) := by rw [show ((c : Int) + (y : Int)) = ((x + y + c : Nat) : Int) by omega, and16u _ (by omega)]; exact congrArg _ HD.out.symm
        have hs : ((c : Int) + (y : Int)) / 65536 = (c' : Int) := by have := HC'.out; omega
        clear ex
        have hown := hgr.2
        rw [hdl] at hown
        have hsz := hgr.1.size
        clear hgr hax hay
        go_wp2_with (at_builtin; refine wpList_append_own _ rfl _ _ 56 rfl w.heap.size 101 i0 (.int .u32 0) 1 4 Tryz.underlying56 hi hz0 hz1 hz2 rfl (by decide) _ _ _ rfl (hown.alloc _) ⟨wr.heap.size, 0, none⟩ 1 1 [.int .u32 (d : Int)] rfl rfl ?c1C ?c2C ?c3C ?c4C ?c5C ?_)
        try case c1C => exact new_cell wr _ _
        case c2C => first | exact one_one _ _ | rfl
        case c3C => unfold maxLen; omega
        case c4C => omega
        case c5C => first | (simp; omega) | omega
        intro v' w1 hown' hgrow _
        have hg' := HG.out.step _ (by rw [hdl]; exact hown') hgrow
        have HG' : Hid (Grows w w1 v' (mk D (k + 1))) := by show Grows _ _ _ _; rw [mk_succ, ← HDD.out]; exact hg'
        clear hown hown' hgrow hg' HG hd
        go_wp2
        go_roundw
        case rel => exact ⟨k + 1, c', by omega, rfl, by go_num, HC1.out, HG'.out⟩
        case measure => simp [intOf]; omega
    · obtain rfl : k = n := by omega
      have t1 : ¬ (k : Int) < (la : Int) := by omega
      have t2 : ¬ (k : Int) < (lb : Int) := by omega
      have hdl := mk_len D k
      have HG : Hid (Grows w wr u5 (mk D k)) := hgr
      have hown := hgr.2
      rw [hdl] at hown
      have hsz := hgr.1.size
      have his := radd_is (n := k) ox oy (by omega) (by omega)
      rw [← HDF.out, ← HC.out] at his
      have HI : Hid (Ok 65536 (mk D k ++ [c]) ∧ num 65536 (mk D k ++ [c]) = num 65536 xs + num 65536 ys) := his
      clear hgr his hax hay
      go_wp2_with (at_builtin; refine wpList_append_own _ rfl _ _ 56 rfl w.heap.size 101 i0 (.int .u32 0) 1 4 Tryz.underlying56 hi hz0 hz1 hz2 rfl (by decide) _ _ _ rfl (hown.alloc _) ⟨wr.heap.size, 0, none⟩ 1 1 [.int .u32 (c : Int)] rfl rfl ?c1D ?c2D ?c3D ?c4D ?c5D ?_)
      try case c1D => exact new_cell wr _ _
      case c2D => first | exact one_one _ _ | rfl
      case c3D => unfold maxLen; omega
      case c4D => omega
      case c5D => first | (simp; omega) | omega
      intro v' w1 hown' hgrow _
      have hg' := HG.out.step _ (by rw [hdl]; exact hown') hgrow
      obtain ⟨ao', cp, rfl, hcp, hat⟩ := hg'.at
      have hbel := hg'.1
      obtain ⟨z, hz⟩ : ∃ z, z = mk D k ++ [c] := ⟨_, rfl⟩
      rw [← hz] at hat hcp HI
      have hzl : z.length = k + 1 := by rw [hz]; simp [mk]
      obtain ⟨q, hq⟩ : ∃ q, q = (trimmed z).length := ⟨_, rfl⟩
      have HQ : Hid ((trimmed z).length = q) := hq.symm
      have HZ : Hid (z.length = k + 1) := hzl
      have hqle : q ≤ k + 1 := by rw [hq, ← hzl]; exact length_trimmed_le z
      rw [← hz, hzl]
      rw [hzl] at hcp
      clear hown hown' hgrow hg' HG hz hzl hq
      go_wp2_with fail
      refine (rtrim_to ao' (k + 1) cp q z _ hcp (by omega) HZ.out hat HQ.out).mono ?_
      rintro e w' ⟨rfl, rfl⟩
      go_wp2
      go_ret
      refine ⟨ao', cp, trimmed z, by rw [HQ.out]; rfl, by rw [HQ.out]; omega, hat.trimmed, ?_, by rw [HQ.out]; exact hqle, hbel⟩
      rw [← HI.out.2]; exact Is.trimmed HI.out.1

end Go.Proofs.YtafljhfamjabeaaGreatDoor

namespace Go.Proofs.YtafljhfamjabeaaGreatDoor
open Go.RowKit

/-- Behind k rounds of the inner loop; r0: the row at its start. -/
structure RMulIn (w : World) (r0 : List Nat) (y : Nat → Nat) (x i k c : Nat) (wr : World) : Prop where
  bel : Below w.heap.size w wr
  car : c = mulC 65536 (fun j => dg r0 (i + j)) y x k
  row : ∃ r, Row .u32 101 wr w.heap.size r ∧ r.length = r0.length ∧ Ok 65536 r ∧ (∀ j, i + k ≤ j → dg r j = dg r0 j) ∧
    num 65536 r + c * 65536 ^ (i + k) = num 65536 r0 + V 65536 y k * x * 65536 ^ i

theorem RMulIn.step {w wr wr' : World} {r0 r : List Nat} {y : Nat → Nat} {x i k c : Nat} (hb : Below w.heap.size w wr) (hc : c = mulC 65536 (fun j => dg r0 (i + j)) y x k) (hr : Row .u32 101 wr w.heap.size r) (hl : r.length = r0.length) (ho : Ok 65536 r)
    (hd : ∀ j, i + k ≤ j → dg r j = dg r0 j) (hn : num 65536 r + c * 65536 ^ (i + k) = num 65536 r0 + V 65536 y k * x * 65536 ^ i) (hk : i + k < r0.length)
    (hw : Like wr' (wr.setCell ⟨w.heap.size, i + k, none⟩ (.int .u32 ((mulD 65536 (fun j => dg r0 (i + j)) y x k : Nat) : Int)))) :
    RMulIn w r0 y x i (k + 1) (mulC 65536 (fun j => dg r0 (i + j)) y x (k + 1)) wr' := by
  refine ⟨hw.below (hb.setCell (Nat.le_refl _) _), rfl, _, (hr.set (i + k) _).alike hw, by simp [hl], ho.set (by omega) (mulD_lt (by omega) _ _ _ _), ?_, ?_⟩
  · intro j hj
    rw [dg_set _ _ _ _ (by omega), if_neg (by omega)]
    exact hd j (by omega)
  · subst hc
    exact mul_step (by omega) (hd _ (by omega)) hn

/-- Behind i rounds of the outer loop. -/
structure RMulOut (w : World) (n p : Nat) (x : Nat → Nat) (ny i : Nat) (wr : World) : Prop where
  bel : Below w.heap.size w wr
  row : ∃ r, Row .u32 101 wr w.heap.size r ∧ r.length = n ∧ Ok 65536 r ∧ (∀ j, i + p ≤ j → dg r j = 0) ∧ num 65536 r = V 65536 x i * ny

theorem RMulOut.start {w w1 : World} {n p ny : Nat} {x : Nat → Nat} (hb : Below w.heap.size w w1) (hr : Row .u32 101 w1 w.heap.size (List.replicate n 0)) : RMulOut w n p x ny 0 w1 :=
  ⟨hb, _, hr, by simp, Ok.replicate (by omega) n, fun j _ => dg_replicate n j, by rw [num_replicate]; simp [V]⟩

theorem RMulOut.step {w wr wr' : World} {n p i c : Nat} {x : Nat → Nat} {ys r0 : List Nat} (hp : ys.length = p) (h : RMulIn w r0 (dg ys) (x i) i p c wr) (hl : r0.length = n) (hz : ∀ j, i + p ≤ j → dg r0 j = 0) (hn : num 65536 r0 = V 65536 x i * num 65536 ys) (hk : i + p < n) (hcl : c < 65536)
    (hw : Like wr' (wr.setCell ⟨w.heap.size, i + p, none⟩ (.int .u32 (c : Int)))) : RMulOut w n p x (num 65536 ys) (i + 1) wr' := by
  obtain ⟨r, hr, hl', ho, hd, hv⟩ := h.row
  refine ⟨hw.below (h.bel.setCell (Nat.le_refl _) _), _, (hr.set (i + p) c).alike hw, by simp; omega, ho.set (by omega) hcl, ?_, ?_⟩
  · intro j hj
    rw [dg_set _ _ _ _ (by omega), if_neg (by omega), hd j (by omega)]
    exact hz j (by omega)
  · have e := num_set 65536 r (i + p) c (by omega)
    rw [hd _ (Nat.le_refl _), hz _ (Nat.le_refl _), Nat.zero_mul, Nat.add_zero] at e
    rw [e, hv, hn, num_eq (by omega)]
    simp only [V]
    rw [Nat.add_mul, Nat.mul_comm (num 65536 ys), Nat.mul_assoc (x i), Nat.mul_assoc (x i), Nat.mul_comm (65536 ^ i)]

theorem rmul_math {f x y c : Nat} (hf : f < 65536) (hx : x < 65536) (hy : y < 65536) (hc : c < 65536) (p : Nat) (hp : p = y * x) :
    bits .and .u64 ((f : Int) + (p : Int) + (c : Int)) 65535 % 4294967296 = (((f + y * x + c) % 65536 : Nat) : Int) ∧ ((f : Int) + (p : Int) + (c : Int)) / 65536 = (((f + y * x + c) / 65536 : Nat) : Int) ∧ p < 4294967296 := by
  have hb := mul_bound hf hy hx hc
  have e : (f : Int) + (p : Int) + (c : Int) = ((f + p + c : Nat) : Int) := by omega
  rw [← hp] at hb ⊢
  rw [e]
  refine ⟨and16 _ (Nat.lt_trans hb (by decide)), ?_, by omega⟩
  omega

set_option maxRecDepth 100000 in
set_option maxHeartbeats 1000000 in
theorem rmul_at (b1 o1 la ca lb cb : Nat) (bo : Option Addr) (xs ys : List Nat) (w : World) (hla : la ≤ 100000000) (hlb : lb ≤ 100000000) (hx : xs.length = la) (hy : ys.length = lb) (hb1 : b1 < w.heap.size)
    (h1 : ∀ i, i < la → w.cell? ⟨b1, o1 + i, none⟩ = some (.int .u32 ((dg xs i : Nat) : Int))) (ay : At .u32 w bo ys) (ox : Ok 65536 xs) (oy : Ok 65536 ys) :
    Calls Tryz.prog 77 #[.slice (some ⟨b1, o1, none⟩) la ca, .slice bo lb cb] w (RPost w (la + lb) (num 65536 xs * num 65536 ys)) := by
  obtain ⟨i0, hi, hz0, hz1, hz2⟩ := info_parts Tryz.infoD
  go_enter Tryz.func77, Tryz.ntmps77
  go_wp2_with (at_make; refine wpList_make_full _ rfl _ _ 56 rfl w.heap.size 101 i0 (.int .u32 0) 1 Tryz.underlying56 hi hz0 hz1 _ _ _ _ (la + lb) rfl rfl (by omega) (by omega) (by rw [hz2]; omega) (by unfold maxLen; omega) (Nat.le_refl _) ?_)
  intro w1 hown hgrow
  have hr1 : Row .u32 101 w1 w.heap.size (List.replicate (la + lb) 0) := Row.made hown
  have hbl1 : Below w.heap.size w w1 := (Below.refl _ _).grown hgrow (Nat.le_refl _) (fun k hk => by cases hk)
  clear hown hgrow
  go_wp2
  go_loopw [6, 7, 8, 9] (fun i _ _ _ wr => ∃ k : Nat, k ≤ la ∧ i = .int .i64 k ∧ RMulOut w (la + lb) lb (dg xs) (num 65536 ys) k wr) (fun i _ _ _ _ => la - (intOf i).toNat)
  case atStart => exact ⟨0, Nat.zero_le _, rfl, RMulOut.start hbl1 hr1⟩
  case round =>
    obtain ⟨i, hil, rfl, hout⟩ := hrel
    clear hbl1 hr1
    by_cases hlt : i < la
    · have t1 : (i : Int) < (la : Int) := by omega
      obtain ⟨r0, hr0, hl0, hok0, hz0', hn0⟩ := hout.row
      have hbel0 := hout.bel
      have HO : Hid (RMulOut w (la + lb) lb (dg xs) (num 65536 ys) i wr) := hout
      have HIN : Hid (RMulIn w r0 (dg ys) (dg xs i) i 0 0 wr) := ⟨hbel0, rfl, r0, hr0, rfl, hok0, fun _ _ => rfl, by simp [V]⟩
      have HR0 : Hid (r0.length = la + lb ∧ Ok 65536 r0 ∧ (∀ j, i + lb ≤ j → dg r0 j = 0) ∧ num 65536 r0 = V 65536 (dg xs) i * num 65536 ys) := ⟨hl0, hok0, hz0', hn0⟩
      clear hout hr0 hl0 hok0 hz0' hn0 hbel0
      go_wp2
      go_loopw [7, 8, 9] (fun cv kk _ wr => ∃ k c : Nat, k ≤ lb ∧ cv = .int .u32 (c : Int) ∧ kk = .int .i64 k ∧ RMulIn w r0 (dg ys) (dg xs i) i k c wr) (fun _ kk _ _ => lb - (intOf kk).toNat)
      case atStart => exact ⟨0, 0, Nat.zero_le _, rfl, rfl, HIN.out⟩
      case round =>
        clear HIN HO
        obtain ⟨k, c, hkl, rfl, rfl, hin⟩ := hrel
        obtain ⟨r, hr, hrl, hro, hrd, hrn⟩ := hin.row
        have hbr := hin.bel
        have hcar := hin.car
        have hcl : c < 65536 := by rw [hcar]; exact mulC_lt (by omega) (fun j => HR0.out.2.1 _) oy (ox i) k
        have hrlen : r.length = la + lb := by rw [hrl]; exact HR0.out.1
        obtain ⟨j, hj⟩ : ∃ j, j = i + k := ⟨_, rfl⟩
        have hjl : (j : Int) < ((la + lb : Nat) : Int) := by omega
        have hsum : (i : Int) + (k : Int) = (j : Int) := by omega
        have hwj : IntKind.i64.wrap (j : Int) = (j : Int) := by simp [IntKind.wrap, IntKind.bits, IntKind.signed]; omega
        have c3 := hr.cell (i + k) (by omega)
        have f3 := hr.free (i + k)
        rw [hrd _ (Nat.le_refl _), ← hj] at c3
        rw [← hj] at f3
        by_cases hk : k < lb
        · have t2 : (k : Int) < (lb : Int) := by omega
          have c1 : wr.cell? ⟨b1, o1 + i, none⟩ = some (.int .u32 ((dg xs i : Nat) : Int)) := (hbr.cell hb1).trans (h1 i hlt)
          obtain ⟨b2, o2, rfl, c2⟩ : ∃ b2 o2, bo = some ⟨b2, o2, none⟩ ∧ wr.cell? ⟨b2, o2 + k, none⟩ = some (.int .u32 ((dg ys k : Nat) : Int)) := by
            rcases ay.below hbr with h | ⟨b2, o2, e, _, h2⟩
            · rw [h] at hy; simp at hy; omega
            · exact ⟨b2, o2, e, h2 k (by omega)⟩
          have hst := fun wr' hw => RMulIn.step (wr' := wr') hbr hcar hr hrl hro hrd hrn (by have := HR0.out.1; omega) hw
          obtain ⟨p, hp⟩ : ∃ p, p = dg ys k * dg xs i := ⟨_, rfl⟩
          obtain ⟨m1, m2, m3⟩ := rmul_math (f := dg r0 (i + k)) (x := dg xs i) (y := dg ys k) (c := c) (HR0.out.2.1 _) (ox i) (oy k) hcl p hp
          have eD : mulD 65536 (fun j => dg r0 (i + j)) (dg ys) (dg xs i) k = (dg r0 (i + k) + dg ys k * dg xs i + c) % 65536 := by rw [hcar]; rfl
          have eC : mulC 65536 (fun j => dg r0 (i + j)) (dg ys) (dg xs i) (k + 1) = (dg r0 (i + k) + dg ys k * dg xs i + c) / 65536 := by rw [hcar]; rfl
          rw [← eD] at m1
          rw [← eC] at m2
          obtain ⟨d, hd⟩ : ∃ d, d = mulD 65536 (fun j => dg r0 (i + j)) (dg ys) (dg xs i) k := ⟨_, rfl⟩
          obtain ⟨c', hc'⟩ : ∃ c', c' = mulC 65536 (fun j => dg r0 (i + j)) (dg ys) (dg xs i) (k + 1) := ⟨_, rfl⟩
          rw [← hd] at m1 hst
          rw [← hc'] at m2 hst
          rw [← hj] at hst m1 m2
          obtain ⟨f, hf⟩ : ∃ f, f = dg r0 j := ⟨_, rfl⟩
          obtain ⟨x, hxi⟩ : ∃ x, x = dg xs i := ⟨_, rfl⟩
          obtain ⟨y, hyk⟩ : ∃ y, y = dg ys k := ⟨_, rfl⟩
          have hfl : f < 65536 := by rw [hf]; exact HR0.out.2.1 _
          have hxl : x < 65536 := by rw [hxi]; exact ox i
          have hyl : y < 65536 := by rw [hyk]; exact oy k
          have hpp : (x : Int) * (y : Int) = (p : Int) := by rw [hp, ← hxi, ← hyk, Nat.mul_comm]; exact (Int.natCast_mul x y).symm
          rw [← hf] at c3 m1 m2
          rw [← hxi] at c1
          rw [← hyk] at c2
          have hp4 : p ≤ 4294967295 := by omega
          have HS : Hid (∀ wr', Like wr' (wr.setCell ⟨w.heap.size, j, none⟩ (.int .u32 (d : Int))) → RMulIn w r0 (dg ys) (dg xs i) i (k + 1) c' wr') := hst
          clear hst hin hr hrl hro hrd hrn hcar eD eC hd hc' hf hxi hyk hp hj m3 h1 ay ox oy HR0 hrlen
          go_wp2
          go_quiet (fail)
          go_wp2
          go_roundw
          case rel => exact ⟨k + 1, c', by omega, rfl, by go_num, HS.out _ ⟨rfl, rfl, rfl, rfl⟩⟩
          case measure => simp [intOf]; omega
        · have t2 : ¬ (k : Int) < (lb : Int) := by omega
          obtain rfl : k = lb := by omega
          have hst := fun wr' hw => RMulOut.step (n := la + k) (x := dg xs) (wr' := wr') hy hin HR0.out.1 HR0.out.2.2.1 HR0.out.2.2.2 (by omega) hcl hw
          rw [← hj] at hst
          have HS : Hid (∀ wr', Like wr' (wr.setCell ⟨w.heap.size, j, none⟩ (.int .u32 (c : Int))) → RMulOut w (la + k) k (dg xs) (num 65536 ys) (i + 1) wr') := hst
          clear hst hin hr hrl hro hrd hrn hcar hj h1 ay ox oy HR0 hrlen
          go_wp2
          go_roundw
          case rel => exact ⟨i + 1, by omega, by go_num, HS.out _ ⟨rfl, rfl, rfl, rfl⟩⟩
          case measure => simp [intOf]; omega
    · obtain rfl : i = la := by omega
      obtain ⟨r, hr, hrl, hro, hrz, hrn⟩ := hout.row
      have hbel := hout.bel
      obtain ⟨q, hq⟩ : ∃ q, q = (trimmed r).length := ⟨_, rfl⟩
      have HQ : Hid ((trimmed r).length = q) := hq.symm
      have hqle : q ≤ i + lb := by rw [hq, ← hrl]; exact length_trimmed_le r
      have HL : Hid (r.length = i + lb) := hrl
      have HR : Hid (num 65536 r = num 65536 xs * num 65536 ys) := by rw [← hx] at hrn; exact hrn
      clear hq hrl hrn hrz hout
      go_wp2_with fail
      refine (rtrim_to _ _ _ q r _ (Nat.le_refl _) (by omega) HL.out hr.at HQ.out).mono ?_
      rintro e w' ⟨rfl, rfl⟩
      go_wp2
      go_ret
      refine ⟨_, _, trimmed r, by rw [HQ.out]; rfl, by rw [HQ.out]; exact hqle, hr.at.trimmed, ?_, by rw [HQ.out]; exact hqle, hbel⟩
      rw [← HR.out]; exact Is.trimmed hro

set_option maxRecDepth 100000 in
set_option maxHeartbeats 1000000 in
/-- Nought times a number. -/
theorem rmul_none (ao bo : Option Addr) (ca lb cb : Nat) (w : World) (hlb : lb ≤ 100000000) :
    Calls Tryz.prog 77 #[.slice ao 0 ca, .slice bo lb cb] w (RPost w lb 0) := by
  obtain ⟨i0, hi, hz0, hz1, hz2⟩ := info_parts Tryz.infoD
  obtain ⟨r, hrr⟩ : ∃ r, r = List.replicate lb 0 := ⟨_, rfl⟩
  obtain ⟨q, hq⟩ : ∃ q, q = (trimmed r).length := ⟨_, rfl⟩
  have HL : Hid (r.length = lb) := by rw [hrr]; simp [Hid]
  have hqle : q ≤ lb := by have h := length_trimmed_le r; rw [HL.out, ← hq] at h; exact h
  have HQ : Hid ((trimmed r).length = q) := hq.symm
  have HI : Hid (Is 65536 (trimmed r) 0) := by
    have := Is.trimmed (b := 65536) (xs := r) (by rw [hrr]; exact Ok.replicate (by omega) _)
    rw [hrr, num_replicate] at this
    rw [hrr]; exact this
  have HR : Hid (∀ w1 : World, Row .u32 101 w1 w.heap.size (List.replicate lb 0) → Row .u32 101 w1 w.heap.size r) := by intro w1 h; rw [hrr]; exact h
  clear hrr hq
  go_enter Tryz.func77, Tryz.ntmps77
  go_wp2_with (at_make; refine wpList_make_full _ rfl _ _ 56 rfl w.heap.size 101 i0 (.int .u32 0) 1 Tryz.underlying56 hi hz0 hz1 _ _ _ _ lb rfl rfl (by omega) (by omega) (by rw [hz2]; omega) (by unfold maxLen; omega) (Nat.le_refl _) ?_)
  intro w1 hown hgrow
  have hr1 := HR.out w1 (Row.made hown)
  have hbl1 : Below w.heap.size w w1 := (Below.refl _ _).grown hgrow (Nat.le_refl _) (fun k hk => by cases hk)
  clear hown hgrow HR
  go_wp2
  refine wp_loop_rounds 1 ?_
  rw [rounds_succ]
  go_wp2_with fail
  refine (rtrim_to _ _ _ q r _ (Nat.le_refl _) (by omega) HL.out hr1.at HQ.out).mono ?_
  rintro e w' ⟨rfl, rfl⟩
  go_wp2
  go_ret
  exact ⟨_, _, trimmed r, by rw [HQ.out]; rfl, by rw [HQ.out]; exact hqle, hr1.at.trimmed, HI.out, by rw [HQ.out]; exact hqle, hbl1⟩

theorem rmul_any (ao bo : Option Addr) (la ca lb cb : Nat) (xs ys : List Nat) (w : World) (hla : la ≤ 100000000) (hlb : lb ≤ 100000000) (hx : xs.length = la) (hy : ys.length = lb)
    (hax : At .u32 w ao xs) (hay : At .u32 w bo ys) (ox : Ok 65536 xs) (oy : Ok 65536 ys) :
    Calls Tryz.prog 77 #[.slice ao la ca, .slice bo lb cb] w (RPost w (la + lb) (num 65536 xs * num 65536 ys)) := by
  rcases hax with rfl | ⟨b1, o1, rfl, hb1, h1⟩
  · obtain rfl : la = 0 := hx.symm
    refine (rmul_none ao bo ca lb cb w hlb).mono ?_
    rintro e w' ⟨o', c', z, a1, a2, a3, a4, a5, a6⟩
    refine ⟨o', c', z, a1, a2, a3, ?_, by omega, a6⟩
    rw [show num 65536 [] = 0 from rfl, Nat.zero_mul]; exact a4
  · exact rmul_at b1 o1 la ca lb cb bo xs ys w hla hlb hx hy hb1 (fun i hi => h1 i (by omega)) hay ox oy

end Go.Proofs.YtafljhfamjabeaaGreatDoor
