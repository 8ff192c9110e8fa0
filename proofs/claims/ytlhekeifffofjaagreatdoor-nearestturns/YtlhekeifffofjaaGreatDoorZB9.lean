/-
  What the reference's Add does: the sum, digit by digit.
  What the reference's Mul does: the product, digit by digit.
  What the reference's by does: the quotient by 10000, and the rest.
  What the reference's Text does: the number's decimal digits.
  What the reference's Small and Pow do of 5.
  What the reference's Shl does.
  The reference's calls over numbers, wherever their digits lie: quipuref01's and quipuref02's, and quipuref03's limb, Amount, Wide, Narrow, Bias.
  What quipuref03's Dec does: a number times a power of 10, as a Dec.
  What the reference's Small and Pow do of 10.
  What the reference's Sub does: the difference, digit by digit, of a number and one that is not above it.
  What the reference's Cmp and SubErr do.
  What the reference's DivMod does.
  What the reference's DivMod does: the walk.
  What the reference's DivMod does, of any number.
  More of the reference's calls over numbers: Cmp, Add, DivMod, powers of 10; quipuref03's within.
  What the reference's times does: a number times 10, and a digit more.
  What the reference's Of does: the number of a row of digits.
-/
import Derived.Test.YtlhekeifffofjaaGreatDoorZOut
import Derived.Test.YtlhekeifffofjaaGreatDoorZB4
import Derived.Laws.BitsAllLaws
import Derived.Test.YtlhekeifffofjaaGreatDoorZB1
import Derived.Deep.QuietTactic
import Derived.BigQuiet
import Derived.WalkSmall
import Derived.Laws.BytesArg
import Derived.Test.YtlhekeifffofjaaGreatDoorZB8
import Derived.Test.YtlhekeifffofjaaGreatDoorZB5
namespace Go.Proofs.YtlhekeifffofjaaGreatDoor
open Go.RowKit

theorem and16u (a : Nat) (ha : a < 4294967296) : bits .and .u32 (a : Int) 65535 = ((a % 65536 : Nat) : Int) := by
  have h := u32_and_nat a 65535 ha (by omega)
  rw [Nat.and_two_pow_sub_one_eq_mod a 16] at h
  exact h

/-- The sum's digits, with the last carry behind them. -/
theorem radd_is {xs ys : List Nat} {n : Nat} (hx : Ok 65536 xs) (hy : Ok 65536 ys) (hnx : xs.length ≤ n) (hny : ys.length ≤ n) :
    Ok 65536 (mk (addD 65536 (dg xs) (dg ys)) n ++ [addC 65536 (dg xs) (dg ys) n]) ∧ num 65536 (mk (addD 65536 (dg xs) (dg ys)) n ++ [addC 65536 (dg xs) (dg ys) n]) = num 65536 xs + num 65536 ys := by
  have hl : (mk (addD 65536 (dg xs) (dg ys)) n ++ [addC 65536 (dg xs) (dg ys) n]).length = n + 1 := by simp [mk]
  have hd : ∀ j, j < n → dg (mk (addD 65536 (dg xs) (dg ys)) n ++ [addC 65536 (dg xs) (dg ys) n]) j = addD 65536 (dg xs) (dg ys) j := by
    intro j hj
    unfold dg
    rw [List.getElem?_append_left (by rw [mk_len]; exact hj)]
    exact dg_mk _ n j hj
  have hn : dg (mk (addD 65536 (dg xs) (dg ys)) n ++ [addC 65536 (dg xs) (dg ys) n]) n = addC 65536 (dg xs) (dg ys) n := by
    unfold dg
    rw [List.getElem?_append_right (by rw [mk_len]; exact Nat.le_refl _), mk_len]; simp
  refine ⟨?_, ?_⟩
  · intro j
    rcases Nat.lt_trichotomy j n with h | h | h
    · rw [hd j h]; exact addD_lt (by omega) _ _ _
    · rw [h, hn]; have := addC_le hx hy n; omega
    · rw [dg_out (by omega)]; omega
  · have h := add_val 65536 (dg xs) (dg ys) n
    rw [num_eq hnx, num_eq hny] at h
    rw [h]
    unfold num
    rw [hl]
    simp only [V]
    rw [hn, V_congr n hd]

set_option maxRecDepth 100000 in
set_option maxHeartbeats 1000000 in
theorem radd_any (ao bo : Option Addr) (la ca lb cb : Nat) (xs ys : List Nat) (w : World) (hla : la ≤ 100000000) (hlb : lb ≤ 100000000) (hx : xs.length = la) (hy : ys.length = lb)
    (hax : At .u32 w ao xs) (hay : At .u32 w bo ys) (ox : Ok 65536 xs) (oy : Ok 65536 ys) :
    Calls Tryz.prog 33 #[.slice ao la ca, .slice bo lb cb] w (RPost w (max la lb + 1) (num 65536 xs + num 65536 ys)) := by
  obtain ⟨i0, hi, hz0, hz1, hz2⟩ := info_parts Tryz.infoD
  obtain ⟨n, hn⟩ : ∃ n, n = max la lb := ⟨_, rfl⟩
  rw [← hn]
  obtain ⟨D, hD⟩ : ∃ D, D = addD 65536 (dg xs) (dg ys) := ⟨_, rfl⟩
  have HDF : Hid (D = addD 65536 (dg xs) (dg ys)) := hD
  have hnl : la ≤ n ∧ lb ≤ n ∧ n ≤ 100000000 := by omega
  have HN : Hid (n = max la lb) := hn
  clear hn hD
  go_enter Tryz.func33, Tryz.ntmps33
  go_wp2
  go_loopw [5, 6, 7] (fun v cv i wr => ∃ k c : Nat, k ≤ n ∧ cv = .int .u32 (c : Int) ∧ i = .int .i64 k ∧ c = addC 65536 (dg xs) (dg ys) k ∧ Grows w wr v (mk D k)) (fun _ _ i _ => n - (intOf i).toNat)
  case atStart => exact ⟨0, 0, Nat.zero_le _, rfl, rfl, rfl, (Below.refl _ _).alloc (Nat.le_refl _) _, World.ownsRow_lit _ #[] 0 (Nat.le_refl _) (by unfold maxLen; omega) rfl⟩
  case round =>
    obtain ⟨k, c, hk, rfl, rfl, hc, hgr⟩ := hrel
    have hcl : c ≤ 1 := by rw [hc]; exact addC_le ox oy k
    have HC : Hid (c = addC 65536 (dg xs) (dg ys) k) := hc
    clear hc
    by_cases hlt : k < n
    · have HG : Hid (Grows w wr u5 (mk D k)) := hgr
      obtain ⟨x, hxk⟩ : ∃ x, x = dg xs k := ⟨_, rfl⟩
      obtain ⟨y, hyk⟩ : ∃ y, y = dg ys k := ⟨_, rfl⟩
      have hxl : x < 65536 := by rw [hxk]; exact ox k
      have hyl : y < 65536 := by rw [hyk]; exact oy k
      have HX : Hid (x = dg xs k) := hxk
      have HY : Hid (y = dg ys k) := hyk
      obtain ⟨d, hdk⟩ : ∃ d, d = (x + y + c) % 65536 := ⟨_, rfl⟩
      obtain ⟨c', hck⟩ : ∃ c', c' = (x + y + c) / 65536 := ⟨_, rfl⟩
      have HD : Hid (d = (x + y + c) % 65536) := hdk
      have HC' : Hid (c' = (x + y + c) / 65536) := hck
      have HC1 : Hid (c' = addC 65536 (dg xs) (dg ys) (k + 1)) := by rw [hck, hxk, hyk, HC.out]; rfl
      have HDD : Hid (d = D k) := by rw [hdk, hxk, hyk, HC.out, HDF.out]; rfl
      have hdl := mk_len D k
      clear hxk hyk hdk hck
      have hor : k < la ∨ k < lb := by have := HN.out; omega
      by_cases ha : k < la
      · by_cases hb : k < lb
        · clear hor
          have t1 : (k : Int) < (la : Int) := by omega
          have t2 : (k : Int) < (lb : Int) := by omega
          obtain ⟨b1, o1, rfl, hc1⟩ : ∃ b1 o1, ao = some ⟨b1, o1, none⟩ ∧ wr.cell? ⟨b1, o1 + k, none⟩ = some (.int .u32 (x : Int)) := by
            rcases hax.below hgr.1 with h | ⟨b, o, h1, _, h3⟩
            · rw [h] at hx; simp at hx; omega
            · exact ⟨b, o, h1, by rw [HX.out]; exact h3 k (by omega)⟩
          obtain ⟨b2, o2, rfl, hc2⟩ : ∃ b2 o2, bo = some ⟨b2, o2, none⟩ ∧ wr.cell? ⟨b2, o2 + k, none⟩ = some (.int .u32 (y : Int)) := by
            rcases hay.below hgr.1 with h | ⟨b, o, h1, _, h3⟩
            · rw [h] at hy; simp at hy; omega
            · exact ⟨b, o, h1, by rw [HY.out]; exact h3 k (by omega)⟩
          have hd : bits .and .u32 ((c : Int) + (x : Int) + (y : Int)) 65535 = (d : Int) := by rw [show ((c : Int) + (x : Int) + (y : Int)) = ((x + y + c : Nat) : Int) by omega, and16u _ (by omega)]; exact congrArg _ HD.out.symm
          have hs : ((c : Int) + (x : Int) + (y : Int)) / 65536 = (c' : Int) := by have := HC'.out; omega
          have hown := hgr.2
          rw [hdl] at hown
          have hsz := hgr.1.size
          clear hgr hax hay
          go_wp2_with (at_builtin; refine wpList_append_own _ rfl _ _ 46 rfl w.heap.size 34 i0 (.int .u32 0) 1 4 Tryz.underlying46 hi hz0 hz1 hz2 rfl (by decide) _ _ _ rfl (hown.alloc _) ⟨wr.heap.size, 0, none⟩ 1 1 [.int .u32 (d : Int)] rfl rfl ?c1A ?c2A ?c3A ?c4A ?c5A ?_)
          try case c1A => exact new_cell wr _ _
          case c2A => first | exact one_one _ _ | rfl
          case c3A => unfold maxLen; omega
          case c4A => omega
          case c5A => first | (simp; omega) | omega
          intro v' w1 hown' hgrow _
          have hg' := HG.out.step _ (by rw [hdl]; exact hown') hgrow
          have HG' : Hid (Grows w w1 v' (mk D (k + 1))) := by show Grows _ _ _ _; rw [mk_succ, ← HDD.out]; exact hg'
          clear hown hown' hgrow hg' HG hd
          go_wp2
          go_roundw
          case rel => exact ⟨k + 1, c', by omega, rfl, by go_num, HC1.out, HG'.out⟩
          case measure => simp [intOf]; omega
        · clear hor
          have t1 : (k : Int) < (la : Int) := by omega
          have t2 : ¬ (k : Int) < (lb : Int) := by omega
          obtain ⟨b1, o1, rfl, hc1⟩ : ∃ b1 o1, ao = some ⟨b1, o1, none⟩ ∧ wr.cell? ⟨b1, o1 + k, none⟩ = some (.int .u32 (x : Int)) := by
            rcases hax.below hgr.1 with h | ⟨b, o, h1, _, h3⟩
            · rw [h] at hx; simp at hx; omega
            · exact ⟨b, o, h1, by rw [HX.out]; exact h3 k (by omega)⟩
          have ey : y = 0 := by rw [HY.out]; exact dg_out (by omega)
          have hd : bits .and .u32 ((c : Int) + (x : Int)) 65535 = (d : Int) := by rw [show ((c : Int) + (x : Int)) = ((x + y + c : Nat) : Int) by omega, and16u _ (by omega)]; exact congrArg _ HD.out.symm
          have hs : ((c : Int) + (x : Int)) / 65536 = (c' : Int) := by have := HC'.out; omega
          clear ey
          have hown := hgr.2
          rw [hdl] at hown
          have hsz := hgr.1.size
          clear hgr hax hay
          go_wp2_with (at_builtin; refine wpList_append_own _ rfl _ _ 46 rfl w.heap.size 34 i0 (.int .u32 0) 1 4 Tryz.underlying46 hi hz0 hz1 hz2 rfl (by decide) _ _ _ rfl (hown.alloc _) ⟨wr.heap.size, 0, none⟩ 1 1 [.int .u32 (d : Int)] rfl rfl ?c1B ?c2B ?c3B ?c4B ?c5B ?_)
          try case c1B => exact new_cell wr _ _
          case c2B => first | exact one_one _ _ | rfl
          case c3B => unfold maxLen; omega
          case c4B => omega
          case c5B => first | (simp; omega) | omega
          intro v' w1 hown' hgrow _
          have hg' := HG.out.step _ (by rw [hdl]; exact hown') hgrow
          have HG' : Hid (Grows w w1 v' (mk D (k + 1))) := by show Grows _ _ _ _; rw [mk_succ, ← HDD.out]; exact hg'
          clear hown hown' hgrow hg' HG hd
          go_wp2
          go_roundw
          case rel => exact ⟨k + 1, c', by omega, rfl, by go_num, HC1.out, HG'.out⟩
          case measure => simp [intOf]; omega
      · have hb : k < lb := by omega
        clear hor
        have t1 : ¬ (k : Int) < (la : Int) := by omega
        have t2 : (k : Int) < (lb : Int) := by omega
        obtain ⟨b2, o2, rfl, hc2⟩ : ∃ b2 o2, bo = some ⟨b2, o2, none⟩ ∧ wr.cell? ⟨b2, o2 + k, none⟩ = some (.int .u32 (y : Int)) := by
          rcases hay.below hgr.1 with h | ⟨b, o, h1, _, h3⟩
          · rw [h] at hy; simp at hy; omega
          · exact ⟨b, o, h1, by rw [HY.out]; exact h3 k (by omega)⟩
        have ex : x = 0 := by rw [HX.out]; exact dg_out (by omega)
        have hd : bits .and .u32 ((c : Int) + (y : Int)) 65535 = (d : Int) := by rw [show ((c : Int) + (y : Int)) = ((x + y + c : Nat) : Int) by omega, and16u _ (by omega)]; exact congrArg _ HD.out.symm
        have hs : ((c : Int) + (y : Int)) / 65536 = (c' : Int) := by have := HC'.out; omega
        clear ex
        have hown := hgr.2
        rw [hdl] at hown
        have hsz := hgr.1.size
        clear hgr hax hay
        go_wp2_with (at_builtin; refine wpList_append_own _ rfl _ _ 46 rfl w.heap.size 34 i0 (.int .u32 0) 1 4 Tryz.underlying46 hi hz0 hz1 hz2 rfl (by decide) _ _ _ rfl (hown.alloc _) ⟨wr.heap.size, 0, none⟩ 1 1 [.int .u32 (d : Int)] rfl rfl ?c1C ?c2C ?c3C ?c4C ?c5C ?_)
        try case c1C => exact new_cell wr _ _
        case c2C => first | exact one_one _ _ | rfl
        case c3C => unfold maxLen; omega
        case c4C => omega
        case c5C => first | (simp; omega) | omega
        intro v' w1 hown' hgrow _
        have hg' := HG.out.step _ (by rw [hdl]; exact hown') hgrow
        have HG' : Hid (Grows w w1 v' (mk D (k + 1))) := by show Grows _ _ _ _; rw [mk_succ, ← HDD.out]; exact hg'
        clear hown hown' hgrow hg' HG hd
        go_wp2
        go_roundw
        case rel => exact ⟨k + 1, c', by omega, rfl, by go_num, HC1.out, HG'.out⟩
        case measure => simp [intOf]; omega
    · obtain rfl : k = n := by omega
      have t1 : ¬ (k : Int) < (la : Int) := by omega
      have t2 : ¬ (k : Int) < (lb : Int) := by omega
      have hdl := mk_len D k
      have HG : Hid (Grows w wr u5 (mk D k)) := hgr
      have hown := hgr.2
      rw [hdl] at hown
      have hsz := hgr.1.size
      have his := radd_is (n := k) ox oy (by omega) (by omega)
      rw [← HDF.out, ← HC.out] at his
      have HI : Hid (Ok 65536 (mk D k ++ [c]) ∧ num 65536 (mk D k ++ [c]) = num 65536 xs + num 65536 ys) := his
      clear hgr his hax hay
      go_wp2_with (at_builtin; refine wpList_append_own _ rfl _ _ 46 rfl w.heap.size 34 i0 (.int .u32 0) 1 4 Tryz.underlying46 hi hz0 hz1 hz2 rfl (by decide) _ _ _ rfl (hown.alloc _) ⟨wr.heap.size, 0, none⟩ 1 1 [.int .u32 (c : Int)] rfl rfl ?c1D ?c2D ?c3D ?c4D ?c5D ?_)
      try case c1D => exact new_cell wr _ _
      case c2D => first | exact one_one _ _ | rfl
      case c3D => unfold maxLen; omega
      case c4D => omega
      case c5D => first | (simp; omega) | omega
      intro v' w1 hown' hgrow _
      have hg' := HG.out.step _ (by rw [hdl]; exact hown') hgrow
      obtain ⟨ao', cp, rfl, hcp, hat⟩ := hg'.at
      have hbel := hg'.1
      obtain ⟨z, hz⟩ : ∃ z, z = mk D k ++ [c] := ⟨_, rfl⟩
      rw [← hz] at hat hcp HI
      have hzl : z.length = k + 1 := by rw [hz]; simp [mk]
      obtain ⟨q, hq⟩ : ∃ q, q = (trimmed z).length := ⟨_, rfl⟩
      have HQ : Hid ((trimmed z).length = q) := hq.symm
      have HZ : Hid (z.length = k + 1) := hzl
      have hqle : q ≤ k + 1 := by rw [hq, ← hzl]; exact length_trimmed_le z
      rw [← hz, hzl]
      rw [hzl] at hcp
      clear hown hown' hgrow hg' HG hz hzl hq
      go_wp2_with fail
      refine (rtrim_to ao' (k + 1) cp q z _ hcp (by omega) HZ.out hat HQ.out).mono ?_
      rintro e w' ⟨rfl, rfl⟩
      go_wp2
      go_ret
      refine ⟨ao', cp, trimmed z, by rw [HQ.out]; rfl, by rw [HQ.out]; omega, hat.trimmed, ?_, by rw [HQ.out]; exact hqle, hbel⟩
      rw [← HI.out.2]; exact Is.trimmed HI.out.1

end Go.Proofs.YtlhekeifffofjaaGreatDoor

namespace Go.Proofs.YtlhekeifffofjaaGreatDoor
open Go.RowKit

/-- Behind k rounds of the inner loop; r0: the row at its start. -/
structure RMulIn (w : World) (r0 : List Nat) (y : Nat → Nat) (x i k c : Nat) (wr : World) : Prop where
  bel : Below w.heap.size w wr
  car : c = mulC 65536 (fun j => dg r0 (i + j)) y x k
  row : ∃ r, Row .u32 34 wr w.heap.size r ∧ r.length = r0.length ∧ Ok 65536 r ∧ (∀ j, i + k ≤ j → dg r j = dg r0 j) ∧
    num 65536 r + c * 65536 ^ (i + k) = num 65536 r0 + V 65536 y k * x * 65536 ^ i

theorem RMulIn.step {w wr wr' : World} {r0 r : List Nat} {y : Nat → Nat} {x i k c : Nat} (hb : Below w.heap.size w wr) (hc : c = mulC 65536 (fun j => dg r0 (i + j)) y x k) (hr : Row .u32 34 wr w.heap.size r) (hl : r.length = r0.length) (ho : Ok 65536 r)
    (hd : ∀ j, i + k ≤ j → dg r j = dg r0 j) (hn : num 65536 r + c * 65536 ^ (i + k) = num 65536 r0 + V 65536 y k * x * 65536 ^ i) (hk : i + k < r0.length)
    (hw : Like wr' (wr.setCell ⟨w.heap.size, i + k, none⟩ (.int .u32 ((mulD 65536 (fun j => dg r0 (i + j)) y x k : Nat) : Int)))) :
    RMulIn w r0 y x i (k + 1) (mulC 65536 (fun j => dg r0 (i + j)) y x (k + 1)) wr' := by
  refine ⟨hw.below (hb.setCell (Nat.le_refl _) _), rfl, _, (hr.set (i + k) _).alike hw, by simp [hl], ho.set (by omega) (mulD_lt (by omega) _ _ _ _), ?_, ?_⟩
  · intro j hj
    rw [dg_set _ _ _ _ (by omega), if_neg (by omega)]
    exact hd j (by omega)
  · subst hc
    exact mul_step (by omega) (hd _ (by omega)) hn

/-- Behind i rounds of the outer loop. -/
structure RMulOut (w : World) (n p : Nat) (x : Nat → Nat) (ny i : Nat) (wr : World) : Prop where
  bel : Below w.heap.size w wr
  row : ∃ r, Row .u32 34 wr w.heap.size r ∧ r.length = n ∧ Ok 65536 r ∧ (∀ j, i + p ≤ j → dg r j = 0) ∧ num 65536 r = V 65536 x i * ny

theorem RMulOut.start {w w1 : World} {n p ny : Nat} {x : Nat → Nat} (hb : Below w.heap.size w w1) (hr : Row .u32 34 w1 w.heap.size (List.replicate n 0)) : RMulOut w n p x ny 0 w1 :=
  ⟨hb, _, hr, by simp, Ok.replicate (by omega) n, fun j _ => dg_replicate n j, by rw [num_replicate]; simp [V]⟩

theorem RMulOut.step {w wr wr' : World} {n p i c : Nat} {x : Nat → Nat} {ys r0 : List Nat} (hp : ys.length = p) (h : RMulIn w r0 (dg ys) (x i) i p c wr) (hl : r0.length = n) (hz : ∀ j, i + p ≤ j → dg r0 j = 0) (hn : num 65536 r0 = V 65536 x i * num 65536 ys) (hk : i + p < n) (hcl : c < 65536)
    (hw : Like wr' (wr.setCell ⟨w.heap.size, i + p, none⟩ (.int .u32 (c : Int)))) : RMulOut w n p x (num 65536 ys) (i + 1) wr' := by
  obtain ⟨r, hr, hl', ho, hd, hv⟩ := h.row
  refine ⟨hw.below (h.bel.setCell (Nat.le_refl _) _), _, (hr.set (i + p) c).alike hw, by simp; omega, ho.set (by omega) hcl, ?_, ?_⟩
  · intro j hj
    rw [dg_set _ _ _ _ (by omega), if_neg (by omega), hd j (by omega)]
    exact hz j (by omega)
  · have e := num_set 65536 r (i + p) c (by omega)
    rw [hd _ (Nat.le_refl _), hz _ (Nat.le_refl _), Nat.zero_mul, Nat.add_zero] at e
    rw [e, hv, hn, num_eq (by omega)]
    simp only [V]
    rw [Nat.add_mul, Nat.mul_comm (num 65536 ys), Nat.mul_assoc (x i), Nat.mul_assoc (x i), Nat.mul_comm (65536 ^ i)]

theorem rmul_math {f x y c : Nat} (hf : f < 65536) (hx : x < 65536) (hy : y < 65536) (hc : c < 65536) (p : Nat) (hp : p = y * x) :
    bits .and .u64 ((f : Int) + (p : Int) + (c : Int)) 65535 % 4294967296 = (((f + y * x + c) % 65536 : Nat) : Int) ∧ ((f : Int) + (p : Int) + (c : Int)) / 65536 = (((f + y * x + c) / 65536 : Nat) : Int) ∧ p < 4294967296 := by
  have hb := mul_bound hf hy hx hc
  have e : (f : Int) + (p : Int) + (c : Int) = ((f + p + c : Nat) : Int) := by omega
  rw [← hp] at hb ⊢
  rw [e]
  refine ⟨and16 _ (Nat.lt_trans hb (by decide)), ?_, by omega⟩
  omega

set_option maxRecDepth 100000 in
set_option maxHeartbeats 1000000 in
theorem rmul_at (b1 o1 la ca lb cb : Nat) (bo : Option Addr) (xs ys : List Nat) (w : World) (hla : la ≤ 100000000) (hlb : lb ≤ 100000000) (hx : xs.length = la) (hy : ys.length = lb) (hb1 : b1 < w.heap.size)
    (h1 : ∀ i, i < la → w.cell? ⟨b1, o1 + i, none⟩ = some (.int .u32 ((dg xs i : Nat) : Int))) (ay : At .u32 w bo ys) (ox : Ok 65536 xs) (oy : Ok 65536 ys) :
    Calls Tryz.prog 27 #[.slice (some ⟨b1, o1, none⟩) la ca, .slice bo lb cb] w (RPost w (la + lb) (num 65536 xs * num 65536 ys)) := by
  obtain ⟨i0, hi, hz0, hz1, hz2⟩ := info_parts Tryz.infoD
  go_enter Tryz.func27, Tryz.ntmps27
  go_wp2_with (at_make; refine wpList_make_full _ rfl _ _ 46 rfl w.heap.size 34 i0 (.int .u32 0) 1 Tryz.underlying46 hi hz0 hz1 _ _ _ _ (la + lb) rfl rfl (by omega) (by omega) (by rw [hz2]; omega) (by unfold maxLen; omega) (Nat.le_refl _) ?_)
  intro w1 hown hgrow
  have hr1 : Row .u32 34 w1 w.heap.size (List.replicate (la + lb) 0) := Row.made hown
  have hbl1 : Below w.heap.size w w1 := (Below.refl _ _).grown hgrow (Nat.le_refl _) (fun k hk => by cases hk)
  clear hown hgrow
  go_wp2
  go_loopw [6, 7, 8, 9] (fun i _ _ _ wr => ∃ k : Nat, k ≤ la ∧ i = .int .i64 k ∧ RMulOut w (la + lb) lb (dg xs) (num 65536 ys) k wr) (fun i _ _ _ _ => la - (intOf i).toNat)
  case atStart => exact ⟨0, Nat.zero_le _, rfl, RMulOut.start hbl1 hr1⟩
  case round =>
    obtain ⟨i, hil, rfl, hout⟩ := hrel
    clear hbl1 hr1
    by_cases hlt : i < la
    · have t1 : (i : Int) < (la : Int) := by omega
      obtain ⟨r0, hr0, hl0, hok0, hz0', hn0⟩ := hout.row
      have hbel0 := hout.bel
      have HO : Hid (RMulOut w (la + lb) lb (dg xs) (num 65536 ys) i wr) := hout
      have HIN : Hid (RMulIn w r0 (dg ys) (dg xs i) i 0 0 wr) := ⟨hbel0, rfl, r0, hr0, rfl, hok0, fun _ _ => rfl, by simp [V]⟩
      have HR0 : Hid (r0.length = la + lb ∧ Ok 65536 r0 ∧ (∀ j, i + lb ≤ j → dg r0 j = 0) ∧ num 65536 r0 = V 65536 (dg xs) i * num 65536 ys) := ⟨hl0, hok0, hz0', hn0⟩
      clear hout hr0 hl0 hok0 hz0' hn0 hbel0
      go_wp2
      go_loopw [7, 8, 9] (fun cv kk _ wr => ∃ k c : Nat, k ≤ lb ∧ cv = .int .u32 (c : Int) ∧ kk = .int .i64 k ∧ RMulIn w r0 (dg ys) (dg xs i) i k c wr) (fun _ kk _ _ => lb - (intOf kk).toNat)
      case atStart => exact ⟨0, 0, Nat.zero_le _, rfl, rfl, HIN.out⟩
      case round =>
        clear HIN HO
        obtain ⟨k, c, hkl, rfl, rfl, hin⟩ := hrel
        obtain ⟨r, hr, hrl, hro, hrd, hrn⟩ := hin.row
        have hbr := hin.bel
        have hcar := hin.car
        have hcl : c < 65536 := by rw [hcar]; exact mulC_lt (by omega) (fun j => HR0.out.2.1 _) oy (ox i) k
        have hrlen : r.length = la + lb := by rw [hrl]; exact HR0.out.1
        obtain ⟨j, hj⟩ : ∃ j, j = i + k := ⟨_, rfl⟩
        have hjl : (j : Int) < ((la + lb : Nat) : Int) := by omega
        have hsum : (i : Int) + (k : Int) = (j : Int) := by omega
        have hwj : IntKind.i64.wrap (j : Int) = (j : Int) := by simp [IntKind.wrap, IntKind.bits, IntKind.signed]; omega
        have c3 := hr.cell (i + k) (by omega)
        have f3 := hr.free (i + k)
        rw [hrd _ (Nat.le_refl _), ← hj] at c3
        rw [← hj] at f3
        by_cases hk : k < lb
        · have t2 : (k : Int) < (lb : Int) := by omega
          have c1 : wr.cell? ⟨b1, o1 + i, none⟩ = some (.int .u32 ((dg xs i : Nat) : Int)) := (hbr.cell hb1).trans (h1 i hlt)
          obtain ⟨b2, o2, rfl, c2⟩ : ∃ b2 o2, bo = some ⟨b2, o2, none⟩ ∧ wr.cell? ⟨b2, o2 + k, none⟩ = some (.int .u32 ((dg ys k : Nat) : Int)) := by
            rcases ay.below hbr with h | ⟨b2, o2, e, _, h2⟩
            · rw [h] at hy; simp at hy; omega
            · exact ⟨b2, o2, e, h2 k (by omega)⟩
          have hst := fun wr' hw => RMulIn.step (wr' := wr') hbr hcar hr hrl hro hrd hrn (by have := HR0.out.1; omega) hw
          obtain ⟨p, hp⟩ : ∃ p, p = dg ys k * dg xs i := ⟨_, rfl⟩
          obtain ⟨m1, m2, m3⟩ := rmul_math (f := dg r0 (i + k)) (x := dg xs i) (y := dg ys k) (c := c) (HR0.out.2.1 _) (ox i) (oy k) hcl p hp
          have eD : mulD 65536 (fun j => dg r0 (i + j)) (dg ys) (dg xs i) k = (dg r0 (i + k) + dg ys k * dg xs i + c) % 65536 := by rw [hcar]; rfl
          have eC : mulC 65536 (fun j => dg r0 (i + j)) (dg ys) (dg xs i) (k + 1) = (dg r0 (i + k) + dg ys k * dg xs i + c) / 65536 := by rw [hcar]; rfl
          rw [← eD] at m1
          rw [← eC] at m2
          obtain ⟨d, hd⟩ : ∃ d, d = mulD 65536 (fun j => dg r0 (i + j)) (dg ys) (dg xs i) k := ⟨_, rfl⟩
          obtain ⟨c', hc'⟩ : ∃ c', c' = mulC 65536 (fun j => dg r0 (i + j)) (dg ys) (dg xs i) (k + 1) := ⟨_, rfl⟩
          rw [← hd] at m1 hst
          rw [← hc'] at m2 hst
          rw [← hj] at hst m1 m2
          obtain ⟨f, hf⟩ : ∃ f, f = dg r0 j := ⟨_, rfl⟩
          obtain ⟨x, hxi⟩ : ∃ x, x = dg xs i := ⟨_, rfl⟩
          obtain ⟨y, hyk⟩ : ∃ y, y = dg ys k := ⟨_, rfl⟩
          have hfl : f < 65536 := by rw [hf]; exact HR0.out.2.1 _
          have hxl : x < 65536 := by rw [hxi]; exact ox i
          have hyl : y < 65536 := by rw [hyk]; exact oy k
          have hpp : (x : Int) * (y : Int) = (p : Int) := by rw [hp, ← hxi, ← hyk, Nat.mul_comm]; exact (Int.natCast_mul x y).symm
          rw [← hf] at c3 m1 m2
          rw [← hxi] at c1
          rw [← hyk] at c2
          have hp4 : p ≤ 4294967295 := by omega
          have HS : Hid (∀ wr', Like wr' (wr.setCell ⟨w.heap.size, j, none⟩ (.int .u32 (d : Int))) → RMulIn w r0 (dg ys) (dg xs i) i (k + 1) c' wr') := hst
          clear hst hin hr hrl hro hrd hrn hcar eD eC hd hc' hf hxi hyk hp hj m3 h1 ay ox oy HR0 hrlen
          go_wp2
          go_quiet (fail)
          go_wp2
          go_roundw
          case rel => exact ⟨k + 1, c', by omega, rfl, by go_num, HS.out _ ⟨rfl, rfl, rfl, rfl⟩⟩
          case measure => simp [intOf]; omega
        · have t2 : ¬ (k : Int) < (lb : Int) := by omega
          obtain rfl : k = lb := by omega
          have hst := fun wr' hw => RMulOut.step (n := la + k) (x := dg xs) (wr' := wr') hy hin HR0.out.1 HR0.out.2.2.1 HR0.out.2.2.2 (by omega) hcl hw
          rw [← hj] at hst
          have HS : Hid (∀ wr', Like wr' (wr.setCell ⟨w.heap.size, j, none⟩ (.int .u32 (c : Int))) → RMulOut w (la + k) k (dg xs) (num 65536 ys) (i + 1) wr') := hst
          clear hst hin hr hrl hro hrd hrn hcar hj h1 ay ox oy HR0 hrlen
          go_wp2
          go_roundw
          case rel => exact ⟨i + 1, by omega, by go_num, HS.out _ ⟨rfl, rfl, rfl, rfl⟩⟩
          case measure => simp [intOf]; omega
    · obtain rfl : i = la := by omega
      obtain ⟨r, hr, hrl, hro, hrz, hrn⟩ := hout.row
      have hbel := hout.bel
      obtain ⟨q, hq⟩ : ∃ q, q = (trimmed r).length := ⟨_, rfl⟩
      have HQ : Hid ((trimmed r).length = q) := hq.symm
      have hqle : q ≤ i + lb := by rw [hq, ← hrl]; exact length_trimmed_le r
      have HL : Hid (r.length = i + lb) := hrl
      have HR : Hid (num 65536 r = num 65536 xs * num 65536 ys) := by rw [← hx] at hrn; exact hrn
      clear hq hrl hrn hrz hout
      go_wp2_with fail
      refine (rtrim_to _ _ _ q r _ (Nat.le_refl _) (by omega) HL.out hr.at HQ.out).mono ?_
      rintro e w' ⟨rfl, rfl⟩
      go_wp2
      go_ret
      refine ⟨_, _, trimmed r, by rw [HQ.out]; rfl, by rw [HQ.out]; exact hqle, hr.at.trimmed, ?_, by rw [HQ.out]; exact hqle, hbel⟩
      rw [← HR.out]; exact Is.trimmed hro

set_option maxRecDepth 100000 in
set_option maxHeartbeats 1000000 in
/-- Nought times a number. -/
theorem rmul_none (ao bo : Option Addr) (ca lb cb : Nat) (w : World) (hlb : lb ≤ 100000000) :
    Calls Tryz.prog 27 #[.slice ao 0 ca, .slice bo lb cb] w (RPost w lb 0) := by
  obtain ⟨i0, hi, hz0, hz1, hz2⟩ := info_parts Tryz.infoD
  obtain ⟨r, hrr⟩ : ∃ r, r = List.replicate lb 0 := ⟨_, rfl⟩
  obtain ⟨q, hq⟩ : ∃ q, q = (trimmed r).length := ⟨_, rfl⟩
  have HL : Hid (r.length = lb) := by rw [hrr]; simp [Hid]
  have hqle : q ≤ lb := by have h := length_trimmed_le r; rw [HL.out, ← hq] at h; exact h
  have HQ : Hid ((trimmed r).length = q) := hq.symm
  have HI : Hid (Is 65536 (trimmed r) 0) := by
    have := Is.trimmed (b := 65536) (xs := r) (by rw [hrr]; exact Ok.replicate (by omega) _)
    rw [hrr, num_replicate] at this
    rw [hrr]; exact this
  have HR : Hid (∀ w1 : World, Row .u32 34 w1 w.heap.size (List.replicate lb 0) → Row .u32 34 w1 w.heap.size r) := by intro w1 h; rw [hrr]; exact h
  clear hrr hq
  go_enter Tryz.func27, Tryz.ntmps27
  go_wp2_with (at_make; refine wpList_make_full _ rfl _ _ 46 rfl w.heap.size 34 i0 (.int .u32 0) 1 Tryz.underlying46 hi hz0 hz1 _ _ _ _ lb rfl rfl (by omega) (by omega) (by rw [hz2]; omega) (by unfold maxLen; omega) (Nat.le_refl _) ?_)
  intro w1 hown hgrow
  have hr1 := HR.out w1 (Row.made hown)
  have hbl1 : Below w.heap.size w w1 := (Below.refl _ _).grown hgrow (Nat.le_refl _) (fun k hk => by cases hk)
  clear hown hgrow HR
  go_wp2
  refine wp_loop_rounds 1 ?_
  rw [rounds_succ]
  go_wp2_with fail
  refine (rtrim_to _ _ _ q r _ (Nat.le_refl _) (by omega) HL.out hr1.at HQ.out).mono ?_
  rintro e w' ⟨rfl, rfl⟩
  go_wp2
  go_ret
  exact ⟨_, _, trimmed r, by rw [HQ.out]; rfl, by rw [HQ.out]; exact hqle, hr1.at.trimmed, HI.out, by rw [HQ.out]; exact hqle, hbl1⟩

theorem rmul_any (ao bo : Option Addr) (la ca lb cb : Nat) (xs ys : List Nat) (w : World) (hla : la ≤ 100000000) (hlb : lb ≤ 100000000) (hx : xs.length = la) (hy : ys.length = lb)
    (hax : At .u32 w ao xs) (hay : At .u32 w bo ys) (ox : Ok 65536 xs) (oy : Ok 65536 ys) :
    Calls Tryz.prog 27 #[.slice ao la ca, .slice bo lb cb] w (RPost w (la + lb) (num 65536 xs * num 65536 ys)) := by
  rcases hax with rfl | ⟨b1, o1, rfl, hb1, h1⟩
  · obtain rfl : la = 0 := hx.symm
    refine (rmul_none ao bo ca lb cb w hlb).mono ?_
    rintro e w' ⟨o', c', z, a1, a2, a3, a4, a5, a6⟩
    refine ⟨o', c', z, a1, a2, a3, ?_, by omega, a6⟩
    rw [show num 65536 [] = 0 from rfl, Nat.zero_mul]; exact a4
  · exact rmul_at b1 o1 la ca lb cb bo xs ys w hla hlb hx hy hb1 (fun i hi => h1 i (by omega)) hay ox oy

end Go.Proofs.YtlhekeifffofjaaGreatDoor

namespace Go.Proofs.YtlhekeifffofjaaGreatDoor
open Go.RowKit

/-- What by answers: the quotient's digits, without noughts on top, and the rest. -/
def ByPost (w : World) (m n : Nat) (e : Ending) (w' : World) : Prop :=
  ∃ g ys cap, e = .returned (.tuple #[.slice (some ⟨g, 0, none⟩) (List.length ys) cap, .int .u32 ((n % 10000 : Nat) : Int)]) ∧ w.heap.size ≤ g ∧ g < w'.heap.size ∧ ys.length ≤ cap ∧ At .u32 w' (some ⟨g, 0, none⟩) ys ∧ Is 65536 ys (n / 10000) ∧ ys.length ≤ m ∧ Below w.heap.size w w'

/-- Ahead of the digit k: the digits from k on are divided. -/
structure ByIn (w : World) (xs : List Nat) (la k r : Nat) (wr : World) : Prop where
  bel : Below w.heap.size w wr
  small : r < 10000
  row : ∃ q, Row .u32 34 wr w.heap.size q ∧ q.length = la ∧ Ok 65536 q ∧ (∀ j, j < k → dg q j = 0) ∧ num 65536 q * 10000 + r * 65536 ^ k + V 65536 (dg xs) k = num 65536 xs

set_option maxRecDepth 20000 in
theorem by_step {B q r a k v N : Nat} (h : q * 10000 + r * B ^ (k + 1) + (v + a * B ^ k) = N) :
    (q + (r * B + a) / 10000 * B ^ k) * 10000 + (r * B + a) % 10000 * B ^ k + v = N := by
  have h1 := Nat.div_add_mod (r * B + a) 10000
  rw [Nat.pow_succ] at h
  generalize B ^ k = P at h ⊢
  generalize hx : r * B + a = x at h1 ⊢
  generalize x / 10000 = u at h1 ⊢
  generalize x % 10000 = t at h1 ⊢
  have h2 : (10000 * u + t) * P = (r * B + a) * P := by rw [h1, hx]
  rw [Nat.add_mul, Nat.add_mul, Nat.mul_assoc r, Nat.mul_comm B P, Nat.mul_assoc 10000] at h2
  rw [Nat.add_mul, Nat.mul_comm (u * P)]
  generalize u * P = U at h2 ⊢
  generalize t * P = T at h2 ⊢
  generalize a * P = A at h h2
  generalize r * (P * B) = R at h h2
  clear h1 hx
  rw [Nat.mul_comm q] at h ⊢
  omega

theorem ByIn.step {w wr wr' : World} {xs : List Nat} {la k r : Nat} (hb : Below w.heap.size w wr) (hr : r < 10000) (hk : k < la) {q : List Nat} (hq : Row .u32 34 wr w.heap.size q) (hl : q.length = la) (ho : Ok 65536 q) (hz : ∀ j, j < k + 1 → dg q j = 0)
    (hn : num 65536 q * 10000 + r * 65536 ^ (k + 1) + V 65536 (dg xs) (k + 1) = num 65536 xs) (hx : dg xs k < 65536)
    (hw : Like wr' (wr.setCell ⟨w.heap.size, k, none⟩ (.int .u32 (((r * 65536 + dg xs k) / 10000 : Nat) : Int)))) :
    ByIn w xs la k ((r * 65536 + dg xs k) % 10000) wr' := by
  refine ⟨hw.below (hb.setCell (Nat.le_refl _) _), Nat.mod_lt _ (by omega), _, (hq.set k _).alike hw, by simp [hl], ho.set (by omega) (by omega), ?_, ?_⟩
  · intro j hj
    rw [dg_set _ _ _ _ (by omega), if_neg (by omega)]
    exact hz j (by omega)
  · have e := num_set 65536 q k ((r * 65536 + dg xs k) / 10000) (by omega)
    rw [hz k (by omega), Nat.zero_mul, Nat.add_zero] at e
    rw [e]
    exact by_step hn

theorem by_or {r a : Nat} (hr : r < 10000) (ha : a < 65536) : bits .or .u32 ((r : Int) * 65536) (a : Int) = ((r * 65536 + a : Nat) : Int) := by
  rw [show (r : Int) * 65536 = ((r * 65536 : Nat) : Int) by omega, u32_or_nat _ _ (by omega) (by omega), Nat.or_comm]
  have h := or_low (y := a) (a := r) (s := 16) (by simpa using ha)
  rw [show (2 : Nat) ^ 16 = 65536 by decide +kernel] at h
  rw [h, Nat.add_comm]

set_option maxRecDepth 100000 in
set_option maxHeartbeats 1000000 in
theorem by_at (b o la ca : Nat) (xs : List Nat) (w : World) (hla : la ≤ 100000000) (hx : xs.length = la) (hb : b < w.heap.size)
    (hcell : ∀ i, i < la → w.cell? ⟨b, o + i, none⟩ = some (.int .u32 ((dg xs i : Nat) : Int))) (ox : Ok 65536 xs) :
    Calls Tryz.prog 74 #[.slice (some ⟨b, o, none⟩) la ca, .int .u32 10000] w (ByPost w la (num 65536 xs)) := by
  obtain ⟨i0, hi, hz0, hz1, hz2⟩ := info_parts Tryz.infoD
  go_enter Tryz.func74, Tryz.ntmps74
  go_wp2_with (at_make; refine wpList_make_full _ rfl _ _ 46 rfl w.heap.size 34 i0 (.int .u32 0) 1 Tryz.underlying46 hi hz0 hz1 _ _ _ _ la rfl rfl (by omega) (by omega) (by rw [hz2]; omega) (by unfold maxLen; omega) (Nat.le_refl _) ?_)
  intro w1 hown hgrow
  have hr1 : Row .u32 34 w1 w.heap.size (List.replicate la 0) := Row.made hown
  have hbl1 : Below w.heap.size w w1 := (Below.refl _ _).grown hgrow (Nat.le_refl _) (fun k hk => by cases hk)
  have HST : Hid (ByIn w xs la la 0 w1) := ⟨hbl1, by omega, _, hr1, by simp, Ok.replicate (by omega) la, fun j _ => dg_replicate la j, by rw [num_replicate, ← hx]; simp [num]⟩
  clear hown hgrow hr1 hbl1
  go_wp2
  go_loopw [7, 8, 9] (fun rv i _ wr => ∃ k r : Nat, k ≤ la ∧ rv = .int .u32 (r : Int) ∧ i = .int .i64 ((k : Int) - 1) ∧ ByIn w xs la k r wr) (fun _ i _ _ => (intOf i + 1).toNat)
  case atStart => exact ⟨la, 0, Nat.le_refl _, rfl, rfl, HST.out⟩
  case round =>
    clear HST
    obtain ⟨k, r, hk, rfl, rfl, hin⟩ := hrel
    obtain ⟨q, hq, hql, hqo, hqz, hqn⟩ := hin.row
    have hbr := hin.bel
    have hrs := hin.small
    rcases k with _ | k
    · obtain ⟨n, hn⟩ : ∃ n, n = num 65536 xs := ⟨_, rfl⟩
      rw [Nat.pow_zero, Nat.mul_one, show V 65536 (dg xs) 0 = 0 from rfl, Nat.add_zero, ← hn] at hqn
      have e1 : num 65536 q = n / 10000 := by omega
      have e2 : r = n % 10000 := by omega
      rw [hn] at e1 e2
      have hat := hq.at
      have HIS : Hid (Is 65536 (trimmed q) (num 65536 xs / 10000)) := by rw [← e1]; exact Is.trimmed hqo
      have HE2 : Hid (r = num 65536 xs % 10000) := e2
      have hg := hq.lt
      have HLE : Hid ((trimmed q).length ≤ la) := by rw [← hql]; exact length_trimmed_le q
      have HTL : Hid ((trimmed q).length = tops q la) := by rw [← hql]; exact length_trimmed q
      have HAT := hide hat.trimmed
      have hcq : ∀ i, i < la → wr.cell? ⟨w.heap.size, i, none⟩ = some (.int .u32 ((q[i]?.getD 0 : Nat) : Int)) := fun i hi => by have := hq.cell i (by omega); exact this
      have HCQ := hide hcq
      clear hin hq hqo hqz hqn hat e1 e2 hn hcq hcell
      go_wp2
      go_loop [10] (fun n => ∃ k : Nat, k ≤ la ∧ n = .int .i64 k ∧ tops q la = tops q k) (fun n => (intOf n).toNat)
      case atStart => exact ⟨la, Nat.le_refl _, rfl, rfl⟩
      case round =>
        obtain ⟨k, hk, rfl, ht⟩ := hrel
        have HT : Hid (tops q la = tops q k) := ht
        clear ht
        have htl := tops_le q k
        rcases k with _ | k
        · have et : tops q la = 0 := by rw [HT.out]; rfl
          have HET := hide et
          clear et
          go_wp2
          go_ret2
          exact ⟨w.heap.size, trimmed q, la, by rw [HTL.out, HET.out, HE2.out]; rfl, Nat.le_refl _, hg, HLE.out, HAT.out, HIS.out, HLE.out, hbr⟩
        · have hck := HCQ.out k (by omega)
          have hpos : (0 : Int) < ((k + 1 : Nat) : Int) := by omega
          by_cases hz : q[k]?.getD 0 = 0
          · rw [hz] at hck
            have HT2 : Hid (tops q la = tops q k) := by rw [HT.out]; simp [tops, hz, Hid]
            go_wp2
            go_round
            case rel => exact ⟨k, by omega, by go_num, HT2.out⟩
            case measure => simp [intOf]
          · have HET : Hid (tops q la = k + 1) := by rw [HT.out]; simp [tops, hz, Hid]
            go_wp2
            go_ret2
            exact ⟨w.heap.size, trimmed q, la, by rw [HTL.out, HET.out, HE2.out]; rfl, Nat.le_refl _, hg, HLE.out, HAT.out, HIS.out, HLE.out, hbr⟩
    · have c0 : wr.cell? ⟨b, o + k, none⟩ = some (.int .u32 ((dg xs k : Nat) : Int)) := (hbr.cell hb).trans (hcell k (by omega))
      have c3 := hq.cell k (by omega)
      have f3 := hq.free k
      rw [hqz k (by omega)] at c3
      have hst := fun wr' hw => ByIn.step (wr' := wr') hbr hrs (by omega) hq hql hqo hqz hqn (ox k) hw
      obtain ⟨a, ha⟩ : ∃ a, a = dg xs k := ⟨_, rfl⟩
      have hal : a < 65536 := by rw [ha]; exact ox k
      rw [← ha] at c0 hst
      have e1 := by_or hrs hal
      obtain ⟨x, hxx⟩ : ∃ x, x = r * 65536 + a := ⟨_, rfl⟩
      rw [← hxx] at e1 hst
      have hxl : x < 655360000 := by omega
      obtain ⟨d, hd⟩ : ∃ d, d = x / 10000 := ⟨_, rfl⟩
      obtain ⟨m, hm⟩ : ∃ m, m = x % 10000 := ⟨_, rfl⟩
      rw [← hd, ← hm] at hst
      have e2 : (x : Int) / 10000 = (d : Int) := by omega
      have e3 : (x : Int) % 10000 = (m : Int) := by omega
      have HS : Hid (∀ wr', Like wr' (wr.setCell ⟨w.heap.size, k, none⟩ (.int .u32 (d : Int))) → ByIn w xs la k m wr') := hst
      have hkl : (k : Int) < (la : Int) := by omega
      clear hst hin hq hqo hqz hqn ha hxx hd hm hcell ox
      go_wp2
      go_roundw
      case rel => exact ⟨k, m, by omega, by rw [e3], by go_num, HS.out _ ⟨rfl, rfl, rfl, rfl⟩⟩
      case measure => simp [intOf]

end Go.Proofs.YtlhekeifffofjaaGreatDoor

namespace Go.Proofs.YtlhekeifffofjaaGreatDoor
open Go.RowKit

/-- A list of bytes that is being built by append. -/
def G8 (w wr : World) (v : Value) (ys : List Nat) : Prop := Below w.heap.size w wr ∧ wr.ownsRow w.heap.size 5 1 v ys.length (vals .u8 ys)

theorem G8.at {w wr : World} {v : Value} {ys : List Nat} (h : G8 w wr v ys) : ∃ ao cap, v = .slice ao ys.length cap ∧ ys.length ≤ cap ∧ At .u8 wr ao ys := by
  obtain ⟨hb, hl, ho⟩ := h
  rcases ho with ⟨rfl, h0⟩ | ⟨g, cap, cur, rfl, hg, hh, hn, _, hs, ht⟩
  · obtain rfl : ys = [] := List.length_eq_zero_iff.1 h0
    exact ⟨none, 0, rfl, Nat.le_refl _, At.nil _ _ _⟩
  · refine ⟨_, cap, rfl, hn, .inr ⟨g, 0, rfl, lt_of_block hh, fun i hi => ?_⟩⟩
    simp only [World.cell?, hh]
    have hc : cur[i]? = (vals .u8 ys)[i]? := by
      rw [← ht, List.getElem?_take_of_lt (by omega), Array.getElem?_toList]
    simp only [Option.isSome_none, Bool.false_eq_true, if_false, Nat.zero_add, hc]
    simp [vals, hi]

theorem G8.step {w wr w1 : World} {v v' : Value} {ys : List Nat} {d : Nat} (o : Obj) (h : G8 w wr v ys) (ho : w1.ownsRow w.heap.size 5 1 v' (ys.length + 1) (vals .u8 ys ++ [.int .u8 (d : Int)])) (hg : (wr.alloc o).grownBy w1 v.ownBlock) :
    G8 w w1 v' (ys ++ [d]) := by
  have hb := h.1.alloc (h.1.size) o
  refine ⟨hb.grown hg hb.size ?_, ?_⟩
  · intro k hk
    rcases h.2.2 with ⟨rfl, _⟩ | ⟨g, cap, cur, rfl, hgb, _⟩
    · simp [Value.ownBlock] at hk
    · simp [Value.ownBlock] at hk; omega
  · rw [List.length_append]
    have : vals .u8 (ys ++ [d]) = vals .u8 ys ++ [.int .u8 (d : Int)] := by simp [vals]
    rw [this]; exact ho

theorem G8.below {w wr w' : World} {v : Value} {ys : List Nat} (h : G8 w wr v ys) (hb : Below wr.heap.size wr w') : G8 w w' v ys := by
  refine ⟨h.1.trans (hb.mono h.1.size), h.2.kept (row := none) ⟨hb.os, hb.tape, hb.output, hb.size, fun k hk _ => hb.block k hk⟩ ?_⟩
  cases hv : v.ownBlock with
  | none => exact .inl rfl
  | some g => exact .inr (by simp)

theorem Tryz.infoB : (Tryz.prog.info? 5).map (fun i => (i.zero, i.size, i.bytes)) = some (some (.int .u8 0), 1, 1) := by kernel_rfl

theorem At.keep32 {wr w1 : World} {v : Value} {xs : List Nat} {g : Nat} (o : Obj) (hg : (wr.alloc o).grownBy w1 v.ownBlock) (hat : At .u32 wr (some ⟨g, 0, none⟩) xs) (hne : v.ownBlock ≠ some g) : At .u32 w1 (some ⟨g, 0, none⟩) xs := by
  rcases hat with h' | ⟨b, o', h1, h2, h3⟩
  · exact .inl h'
  · refine .inr ⟨b, o', h1, Nat.lt_of_lt_of_le h2 (Nat.le_trans (by simp) hg.size), fun i hi => ?_⟩
    have hb : b = g := by simp only [Option.some.injEq, Addr.mk.injEq] at h1; omega
    rw [World.cell?_of_block (w := wr) ((hg.block b (by simp; omega) (fun e => hne (by rw [← hb]; exact e.symm))).trans (Below.heap_alloc _ _ _ h2))]
    exact h3 i hi

/-- The n lowest decimal digits of N as bytes, the lowest first. -/
def lowD (N n : Nat) : List Nat := mk (fun j => 48 + N / 10 ^ j % 10) n

theorem lowD_len (N n : Nat) : (lowD N n).length = n := mk_len _ _
theorem lowD_succ (N n : Nat) : lowD N (n + 1) = lowD N n ++ [48 + N / 10 ^ n % 10] := mk_succ _ _
theorem lowD_get (N n j : Nat) (h : j < n) : (lowD N n)[j]?.getD 0 = 48 + N / 10 ^ j % 10 := dg_mk _ n j h

/-- In the inner loop: t digits of the rest are laid. -/
structure TxtIn (w : World) (N k g : Nat) (ys : List Nat) (t : Nat) (low : Value) (wr : World) : Prop where
  gr : G8 w wr low (lowD N (4 * k + t))
  at' : At .u32 wr (some ⟨g, 0, none⟩) ys
  lt : g < wr.heap.size
  ne : low.ownBlock ≠ some g

/-- At the head of the outer loop: k times four digits are laid. -/
structure TxtOut (w : World) (N la k : Nat) (a low : Value) (wr : World) : Prop where
  rst : ∃ o c ys, a = .slice o (List.length ys) c ∧ ys.length ≤ la ∧ At .u32 wr o ys ∧ Is 65536 ys (N / 10000 ^ k) ∧ ∀ b o', ys ≠ [] → o = some ⟨b, o', none⟩ → low.ownBlock ≠ some b
  gr : G8 w wr low (lowD N (4 * k))
  top : ∀ j, k = j + 1 → N / 10000 ^ j ≠ 0

theorem txt_few {N k la : Nat} (hN : N < 65536 ^ la) (ht : ∀ j, k = j + 1 → N / 10000 ^ j ≠ 0) : k ≤ 2 * la + 1 := by
  rcases k with _ | j
  · omega
  · have h := ht j rfl
    have h1 : 10000 ^ j ≤ N := by
      rcases Nat.lt_or_ge N (10000 ^ j) with h' | h'
      · exact absurd (Nat.div_eq_of_lt h') h
      · exact h'
    have h2 : (65536 : Nat) ≤ 10000 ^ 2 := by decide +kernel
    have h3 : 65536 ^ la ≤ (10000 ^ 2) ^ la := Nat.pow_le_pow_left h2 la
    rw [← Nat.pow_mul] at h3
    rcases Nat.lt_or_ge j (2 * la) with h' | h'
    · omega
    · have := Nat.pow_le_pow_right (show 0 < 10000 by decide) h'; omega

theorem pow4 (k : Nat) : (10000 : Nat) ^ k = 10 ^ (4 * k) := by rw [Nat.pow_mul]

theorem txt_digit (N k t : Nat) (ht : t < 4) : N / 10000 ^ k % 10000 / 10 ^ t % 10 = N / 10 ^ (4 * k + t) % 10 := by
  rw [Nat.pow_add, ← Nat.div_div_eq_div_mul, ← pow4]
  generalize N / 10000 ^ k = M
  rcases (show t = 0 ∨ t = 1 ∨ t = 2 ∨ t = 3 by omega) with rfl | rfl | rfl | rfl
  · show M % 10000 / 1 % 10 = M / 1 % 10; omega
  · show M % 10000 / 10 % 10 = M / 10 % 10; omega
  · show M % 10000 / 100 % 10 = M / 100 % 10; omega
  · show M % 10000 / 1000 % 10 = M / 1000 % 10; omega

/-- The bytes of the m lowest digits of r, the highest first. -/
def padB (m r : Nat) : List Nat := (padD m r).map UInt8.toNat

theorem padB_succ (m r : Nat) : padB (m + 1) r = padB m (r / 10) ++ [48 + r % 10] := by
  unfold padB
  rw [padD, List.map_append]
  simp
  omega

theorem padB_len : ∀ m r : Nat, (padB m r).length = m
  | 0, _ => rfl
  | m + 1, r => by rw [padB_succ, List.length_append, padB_len m]; rfl

theorem padB_str (N j : Nat) (h1 : N < 10 ^ (j + 1)) (h2 : 10 ^ j ≤ N) : strOfNums ((padB (j + 1) N).map fun (x : Nat) => (x : Int)) = ⟨(Lib.decDigits N).toArray⟩ := by
  have hl : (Lib.decDigits N).length = j + 1 := by rw [Lib.decDigits_length]; exact Lib.nDigits_unique j N h2 h1
  have hp := padD_eq (j + 1) N (by omega) h1
  rw [hl, Nat.sub_self] at hp
  unfold padB
  rw [hp]
  simp only [List.replicate_zero, List.nil_append, List.map_map]
  apply ByteArray.ext
  apply Array.toList_inj.1
  rw [strOfNums_data, List.map_map]
  show _ = Lib.decDigits N
  conv => rhs; rw [← List.map_id (Lib.decDigits N)]
  apply List.map_congr_left
  intro x _
  simp

set_option maxRecDepth 100000 in
set_option maxHeartbeats 2000000 in
theorem rtext_any (ao : Option Addr) (la ca N : Nat) (xs : List Nat) (w : World) (hla : la ≤ 10000000) (hx : xs.length = la) (hax : At .u32 w ao xs) (his : Is 65536 xs N) :
    Calls Tryz.prog 51 #[.slice ao la ca] w fun e w' => e = .returned (.string ⟨(Lib.decDigits N).toArray⟩) ∧ Below w.heap.size w w' := by
  obtain ⟨i0, hi, hz0, hz1, hz2⟩ := info_parts Tryz.infoB
  have HN : Hid (N < 65536 ^ la) := by rw [← his.2.2, ← hx]; exact num_lt his.1
  have HST : Hid (TxtOut w N la 0 (.slice ao la ca) (.slice (some ⟨w.heap.size, 0, none⟩) 0 0) (w.alloc (.cells #[] 5))) := by
    refine ⟨⟨ao, ca, xs, by rw [hx], by omega, hax.alloc _, by simpa using his, ?_⟩, ⟨(Below.refl _ _).alloc (Nat.le_refl _) _, World.ownsRow_lit _ #[] 0 (Nat.le_refl _) (by unfold maxLen; omega) rfl⟩, fun j hj => by omega⟩
    intro b o' hne e h
    rcases hax with h1 | ⟨b', o'', h1, h2, _⟩
    · exact hne h1
    · rw [e] at h1
      simp only [Option.some.injEq, Addr.mk.injEq] at h1
      simp [Value.ownBlock] at h
      omega
  clear hax his
  go_enter Tryz.func51, Tryz.ntmps51
  go_wp2
  go_loopw [0, 3, 4, 5, 6] (fun a low _ _ _ wr => ∃ k : Nat, TxtOut w N la k a low wr) (fun _ low _ _ _ _ => 8 * la + 8 - lenV low)
  case atStart => exact ⟨0, HST.out⟩
  case round =>
    clear HST
    obtain ⟨wq, hwq⟩ : ∃ x, x = wr := ⟨_, rfl⟩
    subst hwq
    obtain ⟨k, ⟨⟨o, c, ys, rfl, hyl, hyat, hyis, hyne⟩, hgr, htop⟩⟩ := hrel
    have hk := txt_few HN.out htop
    obtain ⟨lo, lc, rfl, hlc, hlat⟩ := hgr.at
    rw [lowD_len] at *
    have hbel := hgr.1
    have hsz := hbel.size
    by_cases hy0 : ys.length = 0
    · have hN : N < 10 ^ (4 * k) := by
        have h1 : N / 10000 ^ k = 0 := by
          rw [← hyis.2.2]
          rw [List.length_eq_zero_iff.1 hy0]; rfl
        rw [pow4] at h1
        rcases Nat.lt_or_ge N (10 ^ (4 * k)) with h | h
        · exact h
        · have := Nat.div_pos h (Nat.pow_pos (show 0 < 10 by omega)); omega
      have HN0 := hide hN
      rw [hy0]
      have HLAT := hide hlat
      have HBEL := hide hbel
      clear hyis hyne hyat hgr htop hN hlat hbel hyl hy0
      go_wp2
      go_loop [7] (fun n => ∃ j : Nat, j ≤ 4 * k ∧ n = .int .i64 j ∧ N < 10 ^ j) (fun n => (intOf n).toNat)
      case atStart => exact ⟨4 * k, Nat.le_refl _, by go_num, HN0.out⟩
      case round =>
        clear HN0
        obtain ⟨j, hj, rfl, hNj⟩ := hrel
        have HNJ := hide hNj
        clear hNj
        rcases j with _ | j
        · have hz : N = 0 := by have := HNJ.out; simp at this; exact this
          have hd : (⟨#[48]⟩ : ByteArray) = ⟨(Lib.decDigits N).toArray⟩ := by rw [hz, Lib.decDigits_one (by omega)]; rfl
          have HD := hide hd
          clear hd hz
          go_wp2
          go_ret
          exact ⟨by rw [← HD.out]; rfl, HBEL.out⟩
        · obtain ⟨lb, lf, rfl, hlb, hlcell⟩ : ∃ lb lf, lo = some ⟨lb, lf, none⟩ ∧ lb < wq.heap.size ∧ ∀ i, i < 4 * k → wq.cell? ⟨lb, lf + i, none⟩ = some (.int .u8 ((48 + N / 10 ^ i % 10 : Nat) : Int)) := by
            rcases HLAT.out with h | ⟨b, f, h1, h2, h3⟩
            · have := lowD_len N (4 * k); rw [h] at this; simp at this; omega
            · exact ⟨b, f, h1, h2, fun i hi => by rw [h3 i (by rw [lowD_len]; exact hi), lowD_get N _ i hi]⟩
          have c0 := hlcell j (by omega)
          have HLC := hide hlcell
          have hpos : (0 : Int) < ((j + 1 : Nat) : Int) := by omega
          have hjl : (j : Int) < ((4 * k : Nat) : Int) := by omega
          obtain ⟨x, hx'⟩ : ∃ x, x = N / 10 ^ j % 10 := ⟨_, rfl⟩
          rw [← hx'] at c0
          have hx10 : x < 10 := by rw [hx']; exact Nat.mod_lt _ (by omega)
          have hq : N / 10 ^ j < 10 := by
            have := HNJ.out
            rw [Nat.pow_succ] at this
            exact (Nat.div_lt_iff_lt_mul (Nat.pow_pos (by omega))).2 (by rw [Nat.mul_comm]; exact this)
          clear hlcell
          by_cases hx0 : x = 0
          · have HN1 : Hid (N < 10 ^ j) := by
              have h1 : N / 10 ^ j = 0 := by rw [Nat.mod_eq_of_lt hq] at hx'; rw [← hx']; exact hx0
              rcases Nat.lt_or_ge N (10 ^ j) with h | h
              · exact h
              · have := Nat.div_pos h (Nat.pow_pos (show 0 < 10 by omega)); omega
            rw [hx0] at c0
            clear hx' hq
            go_wp2
            go_round
            case rel => exact ⟨j, by omega, by go_num, HN1.out⟩
            case measure => simp [intOf]
          · have hge : 10 ^ j ≤ N := by
              rcases Nat.lt_or_ge N (10 ^ j) with h | h
              · rw [Nat.div_eq_of_lt h] at hx'; exact absurd (by simpa using hx') hx0
              · exact h
            have hc48 : (((48 + x : Nat) : Int) == 48) = false := by rw [beq_eq_false_iff_ne]; omega
            have HSTR := hide (padB_str N j HNJ.out hge)
            have HS0 : Hid (G8 wq (wq.alloc (.cells #[] 5)) (.slice (some ⟨wq.heap.size, 0, none⟩) 0 0) (padB (j + 1 - (j + 1)) (N / 10 ^ (j + 1)))) := by
              rw [Nat.sub_self]
              exact ⟨(Below.refl _ _).alloc (Nat.le_refl _) _, World.ownsRow_lit _ #[] 0 (Nat.le_refl _) (by unfold maxLen; omega) rfl⟩
            clear hx' hq hge
            go_wp2
            clear c0
            go_loopw [8, 9] (fun v i wr' => ∃ m : Nat, m ≤ j + 1 ∧ i = .int .i64 ((m : Int) - 1) ∧ G8 wq wr' v (padB (j + 1 - m) (N / 10 ^ m))) (fun _ i _ => (intOf i + 1).toNat)
            case atStart => exact ⟨j + 1, Nat.le_refl _, by go_num, HS0.out⟩
            case round =>
              clear HS0
              obtain ⟨m, hm, rfl, hgm⟩ := hrel
              rcases m with _ | m
              · rw [Nat.sub_zero, Nat.pow_zero, Nat.div_one] at hgm
                obtain ⟨po, pc, rfl, hpc, hpat⟩ := hgm.at
                rw [padB_len] at *
                obtain ⟨pb, pf, rfl, hpcell⟩ : ∃ pb pf, po = some ⟨pb, pf, none⟩ ∧ ∀ i, i < j + 1 → wr.cell? ⟨pb, pf + i, none⟩ = some (.int .u8 (((padB (j + 1) N).map fun (x : Nat) => (x : Int)).getD i 0)) := by
                  rcases hpat with h | ⟨b, f, h1, _, h3⟩
                  · have := padB_len (j + 1) N; rw [h] at this; simp at this
                  · refine ⟨b, f, h1, fun i hi => ?_⟩
                    rw [h3 i (by rw [padB_len]; exact hi)]
                    have : i < (padB (j + 1) N).length := by rw [padB_len]; exact hi
                    simp [List.getD, this]
                have kc := run_convert_bytes_arg (P := Tryz.prog) wr 106 5 Tryz.underlying106 Tryz.underlying5 pb pf (j + 1) pc ((padB (j + 1) N).map fun (x : Nat) => (x : Int)) (by rw [List.length_map, padB_len]) hpcell 9 Tryz.underlying9
                rw [HSTR.out] at kc
                have hbw := HBEL.out.trans (hgm.1.mono HBEL.out.size)
                clear hgm hpat hpcell
                go_wp2
                go_ret
                exact ⟨rfl, hbw⟩
              · have c1 : wr.cell? ⟨lb, lf + m, none⟩ = some (.int .u8 ((48 + N / 10 ^ m % 10 : Nat) : Int)) := (hgm.1.cell hlb).trans (HLC.out m (by omega))
                have hml : (m : Int) < ((4 * k : Nat) : Int) := by omega
                obtain ⟨l, hl⟩ : ∃ l, l = j + 1 - (m + 1) := ⟨_, rfl⟩
                have hown := hgm.2
                rw [padB_len, ← hl] at hown
                have hsz1 := hgm.1.size
                have HG := hide hgm
                obtain ⟨d, hd⟩ : ∃ d, d = 48 + N / 10 ^ m % 10 := ⟨_, rfl⟩
                rw [← hd] at c1
                have hd57 : d ≤ 57 := by have := Nat.mod_lt (N / 10 ^ m) (show 0 < 10 by omega); omega
                have HPS : Hid (padB l (N / 10 ^ (m + 1)) ++ [d] = padB (j + 1 - m) (N / 10 ^ m)) := by
                  have e1 : j + 1 - m = l + 1 := by omega
                  rw [e1, padB_succ, ← hd, Nat.div_div_eq_div_mul, ← Nat.pow_succ]; rfl
                have HL := hide hl
                rw [← hl] at HG
                have hll : l ≤ 4 * k := by omega
                clear hgm hd hl
                go_wp2_with (at_builtin; refine wpList_append_own _ rfl _ _ 106 rfl wq.heap.size 5 i0 (.int .u8 0) 1 1 Tryz.underlying106 hi hz0 hz1 hz2 rfl (by decide) _ _ _ rfl (hown.alloc _) ⟨wr.heap.size, 0, none⟩ 1 1 [.int .u8 (d : Int)] rfl rfl ?c1B ?c2B ?c3B ?c4B ?c5B ?_)
                try case c1B => exact new_cell wr _ _
                case c2B => first | exact one_one _ _ | rfl
                case c3B => unfold maxLen; omega
                case c4B => omega
                case c5B => first | (simp; omega) | omega
                intro v' w1 hown' hgrow _
                have hg' := HG.out.step _ (by rw [padB_len]; exact hown') hgrow
                rw [HPS.out] at hg'
                have HI := hide hg'
                clear hown hown' hgrow hg' HG HPS
                go_wp2
                go_roundw
                case rel => exact ⟨m, by omega, by go_num, HI.out⟩
                case measure => simp [intOf]
    · have hpos : (0 : Int) < (ys.length : Int) := by omega
      obtain ⟨b, f, rfl, hb, hcell⟩ : ∃ b f, o = some ⟨b, f, none⟩ ∧ b < wq.heap.size ∧ ∀ i, i < ys.length → wq.cell? ⟨b, f + i, none⟩ = some (.int .u32 ((dg ys i : Nat) : Int)) := by
        rcases hyat with h | h
        · rw [h] at hy0; simp at hy0
        · exact h
      have hM : N / 10000 ^ k ≠ 0 := by
        rw [← hyis.2.2]
        intro h
        have := num_zero (by omega) hyis.2.1 h
        rw [this] at hy0; simp at hy0
      have HTOP : Hid (∀ j, k + 1 = j + 1 → N / 10000 ^ j ≠ 0) := by
        intro j hj
        rw [show j = k by omega]
        exact hM
      have by' := by_at b f ys.length c ys wq (by omega) rfl hb hcell hyis.1
      rw [hyis.2.2] at by'
      have BY := hide by'
      have HGR := hide hgr
      have HGL := hide hgr.2.lt
      clear hyis hyne hyat hgr htop hlat hcell hM by' hb
      go_wp2_with fail
      refine BY.out.mono ?_
      rintro e w4 ⟨g, qs, qc, rfl, hg1, hg2, hqc, hqat, hqis, hql, hb4⟩
      have hbel4 := hbel.trans (hb4.mono hsz)
      have HIN : Hid (TxtIn w N k g qs 0 (.slice lo (4 * k) lc) w4) := by
        refine ⟨HGR.out.below hb4, hqat, hg2, fun h => ?_⟩
        have := (HGL.out g h).2
        omega
      obtain ⟨r0, hr0⟩ : ∃ r0, r0 = N / 10000 ^ k % 10000 := ⟨_, rfl⟩
      rw [← hr0]
      have HR0 := hide hr0
      have HQIS := hide hqis
      clear BY HGR HGL hqat hqis hbel hb4 hbel4 hr0
      go_wp2
      go_loopw [3, 5, 6] (fun low r kk wr => ∃ t : Nat, t ≤ 4 ∧ kk = .int .i64 t ∧ r = .int .u32 ((r0 / 10 ^ t : Nat) : Int) ∧ TxtIn w N k g qs t low wr) (fun _ _ kk _ => 4 - (intOf kk).toNat)
      case atStart => exact ⟨0, by omega, rfl, by simp, HIN.out⟩
      case round =>
        clear HIN
        obtain ⟨t, ht, rfl, rfl, hin⟩ := hrel
        by_cases h4 : t = 4
        · subst h4
          have HO : Hid (TxtOut w N la (k + 1) (.slice (some ⟨g, 0, none⟩) qs.length qc) u3 wr) := by
            refine ⟨⟨_, qc, qs, rfl, by omega, hin.at', ?_, ?_⟩, hin.gr, HTOP.out⟩
            · have := HQIS.out
              rw [Nat.div_div_eq_div_mul, ← Nat.pow_succ] at this
              exact this
            · intro b' o' _ e
              simp only [Option.some.injEq, Addr.mk.injEq] at e
              rw [← e.1]; exact hin.ne
          have hlv : lenV u3 = 4 * k + 4 := by
            obtain ⟨_, _, e, _⟩ := hin.gr.at
            rw [e, lowD_len]; rfl
          have HLV := hide hlv
          clear hin hlv
          go_wp2
          go_roundw
          case rel => exact ⟨k + 1, HO.out⟩
          case measure => rw [HLV.out]; simp [lenV]; omega
        · have hown := hin.gr.2
          rw [lowD_len] at hown
          have hsz1 := hin.gr.1.size
          have ht4 : t < 4 := by omega
          obtain ⟨r, hr⟩ : ∃ r, r = r0 / 10 ^ t := ⟨_, rfl⟩
          have hdig : 48 + r % 10 = 48 + N / 10 ^ (4 * k + t) % 10 := by rw [hr, HR0.out, txt_digit N k t ht4]
          have hnext : r / 10 = r0 / 10 ^ (t + 1) := by rw [hr, Nat.div_div_eq_div_mul, ← Nat.pow_succ]
          have hrl : r < 10000 := by
            have h1 : r ≤ r0 := by rw [hr]; exact Nat.div_le_self _ _
            have h2 : r0 < 10000 := by rw [HR0.out]; exact Nat.mod_lt _ (by omega)
            omega
          rw [← hr]
          obtain ⟨d, hd⟩ : ∃ d, d = 48 + r % 10 := ⟨_, rfl⟩
          obtain ⟨r', hr'⟩ : ∃ r', r' = r / 10 := ⟨_, rfl⟩
          have e1 : 48 + (r : Int) % 10 = (d : Int) := by omega
          have e2 : (r : Int) / 10 = (r' : Int) := by omega
          have hd57 : d ≤ 57 := by omega
          have HD : Hid (d = 48 + N / 10 ^ (4 * k + t) % 10) := hd.trans hdig
          have HR' : Hid (r' = r0 / 10 ^ (t + 1)) := hr'.trans hnext
          have HIN := hide hin
          have HOL := hide hin.gr.2.lt
          clear hin hdig hnext hd hr hr'
          go_wp2_with (at_builtin; refine wpList_append_lies _ rfl _ _ 106 rfl w.heap.size 5 i0 (.int .u8 0) 1 1 Tryz.underlying106 hi hz0 hz1 hz2 rfl (by decide) _ _ _ rfl (hown.alloc _) ⟨wr.heap.size, 0, none⟩ 1 1 [.int .u8 (d : Int)] rfl rfl ?c1A ?c2A (by omega) ?c3A ?c4A ?c5A (wr.heap.size + 1) (by simp) ?_)
          try case c1A => exact new_cell wr _ _
          case c2A => first | exact one_one _ _ | rfl
          case c3A => unfold maxLen; omega
          case c4A => omega
          case c5A => first | (simp; omega) | omega
          intro g' cap w5 hown' hgrow hlies hlt
          have HI : Hid (TxtIn w N k g qs (t + 1) (.slice (some ⟨g', 0, none⟩) (4 * k + t + 1) cap) w5) := by
            have hgs := HIN.out.gr.step _ (by rw [lowD_len]; exact hown') hgrow
            rw [HD.out, ← lowD_succ] at hgs
            have hlt5 := HIN.out.lt
            refine ⟨hgs, At.keep32 _ hgrow HIN.out.at' HIN.out.ne, Nat.lt_of_lt_of_le hlt5 (Nat.le_trans (by simp) hgrow.size), ?_⟩
            show some g' ≠ some g
            intro h
            injection h with h
            subst h
            rcases hlies with h | h
            · exact HIN.out.ne h
            · omega
          clear hown hown' hgrow hlies hlt HIN HOL
          go_wp2
          go_roundw
          case rel => exact ⟨t + 1, by omega, by go_num, by first | rw [← HR'.out, e2] | rw [← HR'.out], HI.out⟩
          case measure => simp [intOf]; omega

end Go.Proofs.YtlhekeifffofjaaGreatDoor

namespace Go.Proofs.YtlhekeifffofjaaGreatDoor
open Go.RowKit

theorem ok32 {xs : List Nat} (h : (xs.all fun x => decide (x < 65536)) = true) : Ok 65536 xs := by
  intro i
  by_cases hi : i < xs.length
  · have := List.all_eq_true.1 h (xs[i]) (List.getElem_mem hi)
    simpa [dg, hi] using this
  · rw [dg_out (by omega)]; omega

set_option maxRecDepth 100000 in
set_option maxHeartbeats 400000 in
theorem small5 (w : World) : Calls Tryz.prog 32 #[.int .i64 5] w (RPost w 2 5) := by
  have hat : At .u32 (w.alloc (.cells #[.int .u32 5, .int .u32 0] 34)) (some ⟨w.heap.size, 0, none⟩) [5, 0] := Row.at (k := .u32) (e := 34) (heap_alloc_new w _)
  go_enter Tryz.func32, Tryz.ntmps32
  go_wp2_with fail
  refine (rtrim_to (some ⟨w.heap.size, 0, none⟩) 2 2 1 [5, 0] _ (Nat.le_refl _) (by omega) rfl hat (by decide +kernel)).mono ?_
  rintro e w' ⟨rfl, rfl⟩
  go_wp2
  go_ret
  refine ⟨some ⟨w.heap.size, 0, none⟩, 2, [5], rfl, by decide, hat.take 1, ⟨ok32 (by decide +kernel), ?_, by decide +kernel⟩, by decide, (Below.refl _ _).alloc (Nat.le_refl _) _⟩
  intro n hn
  have : n = 0 := by simp at hn; omega
  subst this; decide

theorem five32 : (5 : Nat) ^ 8192 < 65536 ^ 1300 := by decide +kernel

theorem len32 {r : List Nat} {n t : Nat} (h : Is 65536 r n) (hn : n < 65536 ^ t) : r.length ≤ t := by
  rcases hl : r.length with _ | j
  · omega
  · have h1 := num_ge (b := 65536) h.2.1 hl
    rw [h.2.2] at h1
    rcases Nat.lt_or_ge j t with h' | h'
    · omega
    · have := Nat.pow_le_pow_right (show 0 < 65536 by omega) h'; omega

set_option maxRecDepth 100000 in
set_option maxHeartbeats 1000000 in
theorem rpow5 (n : Nat) (hn : n ≤ 8192) (w : World) :
    Calls Tryz.prog 29 #[.int .i64 5, .int .i64 (n : Int)] w (RPost w 1300 (5 ^ n)) := by
  have hst : At .u32 (w.alloc (.cells #[.int .u32 1] 34)) (some ⟨w.heap.size, 0, none⟩) [1] := Row.at (k := .u32) (e := 34) (heap_alloc_new w _)
  have i1 : Is 65536 [1] 1 := ⟨ok32 (by decide +kernel), by intro n hn; have : n = 0 := by { simp at hn; omega }; subst this; decide, by decide +kernel⟩
  have HST := hide hst
  have HI1 := hide i1
  clear hst i1
  go_enter Tryz.func29, Tryz.ntmps29
  go_wp2
  go_loopw [5, 6] (fun v i wr => ∃ (k : Nat) (o : Option Addr) (c : Nat) (r : List Nat), k ≤ n ∧ i = .int .i64 (k : Int) ∧ v = .slice o r.length c ∧ r.length ≤ c ∧ At .u32 wr o r ∧ Is 65536 r (5 ^ k) ∧ Below w.heap.size w wr) (fun _ i _ => n - (intOf i).toNat)
  case atStart => exact ⟨0, _, _, [1], Nat.zero_le _, rfl, rfl, by decide, HST.out, HI1.out, (Below.refl _ _).alloc (Nat.le_refl _) _⟩
  case round =>
    clear HST HI1
    obtain ⟨k, o, c, r, hk, rfl, rfl, hl, hat, his, hb⟩ := hrel
    have hrl := len32 his (Nat.lt_of_le_of_lt (Nat.pow_le_pow_right (show 0 < 5 by omega) (Nat.le_trans hk hn)) five32)
    by_cases hlt : k < n
    · have h1 : (k : Int) < (n : Int) := by omega
      go_wp2_with fail
      refine (small5 _).mono ?_
      rintro e w1 ⟨o1, c1, r1, rfl, hl1, hat1, his1, hm1, hb1⟩
      have hat' := hat.below hb1
      clear hat
      go_wp2_with fail
      refine (rmul_any o o1 _ c _ c1 r r1 _ (by omega) (by omega) rfl rfl hat' hat1 his.1 his1.1).mono ?_
      rintro e w2 ⟨o2, c2, r2, rfl, hl2, hat2, his2, hm2, hb2⟩
      rw [his.2.2, his1.2.2, ← Nat.pow_succ] at his2
      have hbw := hb.trans ((hb1.mono hb.size).trans (hb2.mono (Nat.le_trans hb.size hb1.size)))
      have HAT := hide hat2
      have HIS := hide his2
      have HBW := hide hbw
      clear hat' hat1 his1 his hb hb1 hb2 hat2 his2 hbw
      go_wp2
      go_roundw
      case rel => exact ⟨k + 1, o2, c2, r2, by omega, by go_num, rfl, hl2, HAT.out, HIS.out, HBW.out⟩
      case measure => simp [intOf]; omega
    · obtain rfl : k = n := by omega
      have h1 : ¬ (k : Int) < (k : Int) := by omega
      go_wp2
      go_ret
      exact ⟨o, c, r, rfl, hl, hat, his, hrl, hb⟩

end Go.Proofs.YtlhekeifffofjaaGreatDoor

namespace Go.Proofs.YtlhekeifffofjaaGreatDoor
open Go.RowKit

theorem shl_nums {x c s : Nat} (hx : x < 65536) (hs : s ≤ 15) (hc : c < 2 ^ s) :
    IntKind.u32.wrap ((x : Int) * 2 ^ s) = ((x * 2 ^ s : Nat) : Int) ∧ bits .or .u32 ((x * 2 ^ s : Nat) : Int) (c : Int) = ((x * 2 ^ s + c : Nat) : Int) ∧ bits .and .u32 ((x * 2 ^ s + c : Nat) : Int) 65535 = (((x * 2 ^ s + c) % 65536 : Nat) : Int) ∧ x * 2 ^ s + c < 4294967296 := by
  have hp := pow_lt16 hs
  have h1 : x * 2 ^ s ≤ 65535 * 65535 := Nat.mul_le_mul (by omega) (by omega)
  have hlt : x * 2 ^ s + c < 4294967296 := by omega
  refine ⟨?_, ?_, and16u _ hlt, hlt⟩
  · rw [IntKind.wrap_u32', show (x : Int) * 2 ^ s = ((x * 2 ^ s : Nat) : Int) by push_cast; rfl]; omega
  · rw [u32_or_nat _ _ (by omega) (by omega), Nat.or_comm, or_low hc, Nat.add_comm]

theorem Grows.made {w w1 : World} {n : Nat} (hb : Below w.heap.size w w1) (h : w1.ownsRow w.heap.size 34 1 (.slice (some ⟨w.heap.size, 0, none⟩) n n) n (madeCells #[Value.int .u32 0] n).toList) :
    Grows w w1 (.slice (some ⟨w.heap.size, 0, none⟩) n n) (List.replicate n 0) := by
  refine ⟨hb, ?_⟩
  rw [vals_replicate, List.length_replicate]
  rw [toList_madeCells_one] at h
  exact h

set_option maxRecDepth 100000 in
set_option maxHeartbeats 1000000 in
theorem rshl_at (b o m cap n la ca : Nat) (xs : List Nat) (w : World) (hn : n ≤ 65536) (hm0 : 0 < m) (hm : m ≤ 100000000) (hx : xs.length = m) (hb : b < w.heap.size)
    (hcell : ∀ i, i < m → w.cell? ⟨b, o + i, none⟩ = some (.int .u32 ((dg xs i : Nat) : Int))) (ox : Ok 65536 xs)
    (c1 : ∀ w' : World, w'.heap = w.heap → Calls Tryz.prog 48 #[.slice (some ⟨b, o, none⟩) la ca] w' fun e w'' => e = .returned (.slice (some ⟨b, o, none⟩) m cap) ∧ w' = w'') :
    Calls Tryz.prog 50 #[.slice (some ⟨b, o, none⟩) la ca, .int .i64 (n : Int)] w (RPost w (m + 4097) (num 65536 xs * 2 ^ n)) := by
  obtain ⟨i0, hi, hz0, hz1, hz2⟩ := info_parts Tryz.infoD
  have C1 : Hid (∀ w' : World, w'.heap = w.heap → Calls Tryz.prog 48 #[.slice (some ⟨b, o, none⟩) la ca] w' fun e w'' => e = .returned (.slice (some ⟨b, o, none⟩) m cap) ∧ w' = w'') := c1
  obtain ⟨lm, hlm⟩ : ∃ lm, lm = n / 16 := ⟨_, rfl⟩
  obtain ⟨s, hs⟩ : ∃ s, s = n % 16 := ⟨_, rfl⟩
  have hlb : lm ≤ 4096 := by omega
  have hsb : s ≤ 15 := by omega
  have q1 : (n : Int) / 16 = (lm : Int) := by omega
  have q2 : (n : Int) % 16 = (s : Int) := by omega
  have HP : Hid (65536 ^ lm * 2 ^ s = 2 ^ n) := by
    rw [hlm, hs, show (65536 : Nat) = 2 ^ 16 by decide +kernel, ← Nat.pow_mul, ← Nat.pow_add]
    show 2 ^ (16 * (n / 16) + n % 16) = 2 ^ n
    congr 1; omega
  have hne : ((m : Int) == 0) = false := by rw [beq_eq_false_iff_ne]; omega
  obtain ⟨D, hD⟩ : ∃ D, D = shlD s (dg xs) := ⟨_, rfl⟩
  have HDF : Hid (D = shlD s (dg xs)) := hD
  clear c1 hlm hs hD
  go_enter Tryz.func50, Tryz.ntmps50
  go_wp2_with fail
  refine (C1.out _ rfl).mono ?_
  rintro e w' ⟨rfl, rfl⟩
  go_wp2_with (at_make; refine wpList_make_full _ rfl _ _ 46 rfl w.heap.size 34 i0 (.int .u32 0) 1 Tryz.underlying46 hi hz0 hz1 _ _ _ _ lm rfl rfl (by omega) (by omega) (by rw [hz2]; omega) (by unfold maxLen; omega) (Nat.le_refl _) ?_)
  intro w1 hown hgrow
  have hb1 : Below w.heap.size w w1 := (Below.refl _ _).grown hgrow (Nat.le_refl _) (fun k hk => by cases hk)
  have HG0 : Hid (Grows w w1 (.slice (some ⟨w.heap.size, 0, none⟩) lm lm) (List.replicate lm 0)) := Grows.made hb1 hown
  clear hown hgrow hb1
  go_wp2
  go_loopw [5, 6, 7, 8] (fun v cv i _ wr => ∃ k c : Nat, k ≤ m ∧ cv = .int .u32 (c : Int) ∧ i = .int .i64 k ∧ c = shlC s (dg xs) k ∧ Grows w wr v (List.replicate lm 0 ++ mk D k)) (fun _ _ i _ _ => m - (intOf i).toNat)
  case atStart => exact ⟨0, 0, Nat.zero_le _, rfl, rfl, rfl, by simpa [mk] using HG0.out⟩
  case round =>
    clear HG0
    obtain ⟨k, c, hk, rfl, rfl, hc, hgr⟩ := hrel
    have hcl : c < 2 ^ s := by rw [hc]; exact shlC_lt ox k
    have hp := pow_lt16 hsb
    have HC : Hid (c = shlC s (dg xs) k) := hc
    have HG : Hid (Grows w wr u5 (List.replicate lm 0 ++ mk D k)) := hgr
    have hdl : (List.replicate lm 0 ++ mk D k).length = lm + k := by simp [mk]
    have hown := hgr.2
    rw [hdl] at hown
    have hsz := hgr.1.size
    have hcl16 : c ≤ 65535 := by omega
    have HCL : Hid (c < 2 ^ s) := hcl
    clear hc hcl hp
    by_cases hlt : k < m
    · have t1 : (k : Int) < (m : Int) := by omega
      have c0 : wr.cell? ⟨b, o + k, none⟩ = some (.int .u32 ((dg xs k : Nat) : Int)) := (hgr.1.cell hb).trans (hcell k hlt)
      obtain ⟨x, hxk⟩ : ∃ x, x = dg xs k := ⟨_, rfl⟩
      rw [← hxk] at c0
      have hxl : x < 65536 := by rw [hxk]; exact ox k
      obtain ⟨m1, m2, m3, m4⟩ := shl_nums (x := x) (c := c) (s := s) hxl hsb HCL.out
      have eD : D k = (x * 2 ^ s + c) % 65536 := by rw [HDF.out, HC.out, hxk]; show (0 + dg xs k * 2 ^ s + shlC s (dg xs) k) % 65536 = _; rw [Nat.zero_add]
      have eC : shlC s (dg xs) (k + 1) = (x * 2 ^ s + c) / 65536 := by rw [HC.out, hxk]; show (0 + dg xs k * 2 ^ s + shlC s (dg xs) k) / 65536 = _; rw [Nat.zero_add]
      obtain ⟨u, hu⟩ : ∃ u, u = x * 2 ^ s := ⟨_, rfl⟩
      rw [← hu] at m1 m2 m3 m4 eD eC
      obtain ⟨t, ht⟩ : ∃ t, t = u + c := ⟨_, rfl⟩
      rw [← ht] at m2 m3 m4 eD eC
      obtain ⟨d, hd⟩ : ∃ d, d = t % 65536 := ⟨_, rfl⟩
      rw [← hd] at m3 eD
      obtain ⟨c', hc'⟩ : ∃ c', c' = t / 65536 := ⟨_, rfl⟩
      rw [← hc'] at eC
      have hsh : (t : Int) / 65536 = (c' : Int) := by omega
      have HDD : Hid (D k = d) := eD
      have HCC : Hid (c' = shlC s (dg xs) (k + 1)) := eC.symm
      have ht4 : t ≤ 4294967295 := by omega
      clear hgr hxk eD eC hu ht hd hc' hcell ox m4
      go_wp2_with (at_builtin; refine wpList_append_own _ rfl _ _ 46 rfl w.heap.size 34 i0 (.int .u32 0) 1 4 Tryz.underlying46 hi hz0 hz1 hz2 rfl (by decide) _ _ _ rfl (hown.alloc _) ⟨wr.heap.size, 0, none⟩ 1 1 [.int .u32 (d : Int)] rfl rfl ?c1A ?c2A ?c3A ?c4A ?c5A ?_)
      try case c1A => exact new_cell wr _ _
      case c2A => first | exact one_one _ _ | rfl
      case c3A => unfold maxLen; omega
      case c4A => omega
      case c5A => first | (simp; omega) | omega
      intro v' w1 hown' hgrow _
      have hg' := HG.out.step _ (by rw [hdl]; exact hown') hgrow
      have HG' : Hid (Grows w w1 v' (List.replicate lm 0 ++ mk D (k + 1))) := by show Grows _ _ _ _; rw [mk_succ, HDD.out, ← List.append_assoc]; exact hg'
      clear hown hown' hgrow hg' HG
      go_wp2
      go_roundw
      case rel => exact ⟨k + 1, c', by omega, rfl, by go_num, HCC.out, HG'.out⟩
      case measure => simp [intOf]; omega
    · obtain rfl : k = m := by omega
      have t1 : ¬ (k : Int) < (k : Int) := by omega
      have his := shl_is (lm := lm) ox hx hsb
      rw [← HDF.out, ← HC.out, HP.out] at his
      have HI : Hid (Ok 65536 (List.replicate lm 0 ++ mk D k ++ [c]) ∧ num 65536 (List.replicate lm 0 ++ mk D k ++ [c]) = num 65536 xs * 2 ^ n) := his
      clear hgr his hcell
      go_wp2_with (at_builtin; refine wpList_append_own _ rfl _ _ 46 rfl w.heap.size 34 i0 (.int .u32 0) 1 4 Tryz.underlying46 hi hz0 hz1 hz2 rfl (by decide) _ _ _ rfl (hown.alloc _) ⟨wr.heap.size, 0, none⟩ 1 1 [.int .u32 (c : Int)] rfl rfl ?c1B ?c2B ?c3B ?c4B ?c5B ?_)
      try case c1B => exact new_cell wr _ _
      case c2B => first | exact one_one _ _ | rfl
      case c3B => unfold maxLen; omega
      case c4B => omega
      case c5B => first | (simp; omega) | omega
      intro v' w1 hown' hgrow _
      have hg' := HG.out.step _ (by rw [hdl]; exact hown') hgrow
      obtain ⟨ao', cp, rfl, hcp, hat⟩ := hg'.at
      have hbel := hg'.1
      obtain ⟨z, hz⟩ : ∃ z, z = List.replicate lm 0 ++ mk D k ++ [c] := ⟨_, rfl⟩
      rw [← hz] at hat hcp HI
      have hzl : z.length = lm + k + 1 := by rw [hz]; simp [mk]; omega
      obtain ⟨q, hq⟩ : ∃ q, q = (trimmed z).length := ⟨_, rfl⟩
      have HQ : Hid ((trimmed z).length = q) := hq.symm
      have HZ : Hid (z.length = lm + k + 1) := hzl
      have hqle : q ≤ lm + k + 1 := by rw [hq, ← hzl]; exact length_trimmed_le z
      rw [← hz, hzl]
      rw [hzl] at hcp
      clear hown hown' hgrow hg' HG hz hzl hq
      go_wp2_with fail
      refine (rtrim_to ao' (lm + k + 1) cp q z _ hcp (by omega) HZ.out hat HQ.out).mono ?_
      rintro e w' ⟨rfl, rfl⟩
      go_wp2
      go_ret
      refine ⟨ao', cp, trimmed z, by rw [HQ.out]; rfl, by rw [HQ.out]; omega, hat.trimmed, ?_, by rw [HQ.out]; omega, hbel⟩
      rw [← HI.out.2]; exact Is.trimmed HI.out.1

set_option maxRecDepth 100000 in
set_option maxHeartbeats 1000000 in
theorem rshl_none (ao : Option Addr) (cap la ca : Nat) (n : Int) (w : World)
    (c1 : ∀ w' : World, w'.heap = w.heap → Calls Tryz.prog 48 #[.slice ao la ca] w' fun e w'' => e = .returned (.slice ao 0 cap) ∧ w' = w'') :
    Calls Tryz.prog 50 #[.slice ao la ca, .int .i64 n] w (RPost w 0 0) := by
  have C1 : Hid (∀ w' : World, w'.heap = w.heap → Calls Tryz.prog 48 #[.slice ao la ca] w' fun e w'' => e = .returned (.slice ao 0 cap) ∧ w' = w'') := c1
  clear c1
  go_enter Tryz.func50, Tryz.ntmps50
  go_wp2_with fail
  refine (C1.out _ rfl).mono ?_
  rintro e w' ⟨rfl, rfl⟩
  go_wp2
  go_ret
  exact ⟨_, _, [], rfl, Nat.le_refl _, At.nil _ _ _, Is.none (by decide), Nat.le_refl _, (Below.refl _ _).alloc (Nat.le_refl _) _⟩

theorem rshl_any (ao : Option Addr) (la ca n : Nat) (xs : List Nat) (w : World) (hn : n ≤ 65536) (hla : la ≤ ca) (hl : la ≤ 100000000) (hx : xs.length = la) (hat : At .u32 w ao xs) (ox : Ok 65536 xs) :
    Calls Tryz.prog 50 #[.slice ao la ca, .int .i64 (n : Int)] w (RPost w (la + 4097) (num 65536 xs * 2 ^ n)) := by
  have l1 := length_trimmed_le xs
  rw [← num_trimmed]
  rcases hat.trimmed with h | ⟨b, o, rfl, hb, hc⟩
  · refine (rshl_none ao ca la ca n w (fun w' hw => rtrim_to ao la ca 0 xs w' hla (by omega) hx (hat.same hw) (by rw [h]; rfl))).mono ?_
    rintro e w' ⟨o', c', z, a1, a2, a3, a4, a5, a6⟩
    refine ⟨o', c', z, a1, a2, a3, ?_, by omega, a6⟩
    rw [h, show num 65536 [] = 0 from rfl, Nat.zero_mul]; exact a4
  · by_cases h0 : (trimmed xs).length = 0
    · have h := List.length_eq_zero_iff.1 h0
      refine (rshl_none _ ca la ca n w (fun w' hw => rtrim_to _ la ca 0 xs w' hla (by omega) hx (hat.same hw) h0)).mono ?_
      rintro e w' ⟨o', c', z, a1, a2, a3, a4, a5, a6⟩
      refine ⟨o', c', z, a1, a2, a3, ?_, by omega, a6⟩
      rw [h, show num 65536 [] = 0 from rfl, Nat.zero_mul]; exact a4
    · refine (rshl_at b o (trimmed xs).length ca n la ca (trimmed xs) w hn (by omega) (by omega) rfl hb hc (trimmed_ok ox) (fun w' hw => rtrim_to _ la ca _ xs w' hla (by omega) hx (hat.same hw) rfl)).mono ?_
      rintro e w' ⟨o', c', z, a1, a2, a3, a4, a5, a6⟩
      exact ⟨o', c', z, a1, a2, a3, a4, by omega, a6⟩

end Go.Proofs.YtlhekeifffofjaaGreatDoor

namespace Go.Proofs.YtlhekeifffofjaaGreatDoor
open Go.RowKit

/-- v is a list of digits to the base 65536 without noughts on top, the number n. -/
def Nr (w : World) (v : Value) (n : Nat) : Prop := ∃ o c xs, v = .slice o (List.length xs) c ∧ xs.length ≤ c ∧ At .u32 w o xs ∧ Is 65536 xs n

theorem Nr.below {w w' : World} {v : Value} {n : Nat} (h : Nr w v n) (hb : Below w.heap.size w w') : Nr w' v n := by
  obtain ⟨o, c, xs, h1, h2, h4, h5⟩ := h
  exact ⟨o, c, xs, h1, h2, h4.below hb, h5⟩

theorem b64_16 (k : Nat) : B64 ^ k = 65536 ^ (4 * k) := by
  rw [Nat.pow_mul]; rfl

theorem len_of {xs : List Nat} {n k : Nat} (h : Is 65536 xs n) (hs : n < B64 ^ k) : xs.length ≤ 4 * k := len32 h (by rw [← b64_16]; exact hs)

theorem nr_len {xs : List Nat} {n : Nat} (h : Is 65536 xs n) (hs : Sm n) : xs.length ≤ 40000 := len_of h hs

def NrPost (w : World) (n : Nat) (e : Ending) (w' : World) : Prop := ∃ o c l, e = .returned (.slice o l c) ∧ Nr w' (.slice o l c) n ∧ Below w.heap.size w w'

theorem NrPost.of {w w' : World} {m n : Nat} {e : Ending} (h : RPost w m n e w') : NrPost w n e w' := by
  obtain ⟨o, c, ys, rfl, h1, h2, h3, _, h5⟩ := h
  exact ⟨o, c, ys.length, rfl, ⟨o, c, ys, rfl, h1, h2, h3⟩, h5⟩

theorem nr_mul (a b : Value) (x y : Nat) (w : World) (ha : Nr w a x) (hb : Nr w b y) (hx : Sm x) (hy : Sm y) : Calls Tryz.prog 27 #[a, b] w (NrPost w (x * y)) := by
  obtain ⟨o, c, xs, rfl, h1, h3, h4⟩ := ha
  obtain ⟨o', c', ys, rfl, h1', h3', h4'⟩ := hb
  have l1 := nr_len h4 hx
  have l2 := nr_len h4' hy
  refine (rmul_any o o' _ c _ c' xs ys w (by omega) (by omega) rfl rfl h3 h3' h4.1 h4'.1).mono ?_
  intro e w' h
  rw [h4.2.2, h4'.2.2] at h
  exact NrPost.of h

theorem nr_shl (a : Value) (x n : Nat) (w : World) (ha : Nr w a x) (hx : Sm x) (hn : n ≤ 65536) : Calls Tryz.prog 50 #[a, .int .i64 (n : Int)] w (NrPost w (x * 2 ^ n)) := by
  obtain ⟨o, c, xs, rfl, h1, h3, h4⟩ := ha
  have l1 := nr_len h4 hx
  refine (rshl_any o _ c n xs w hn h1 (by omega) rfl h3 h4.1).mono ?_
  intro e w' h
  rw [h4.2.2] at h
  exact NrPost.of h

theorem nr_pow5 (n : Int) (k : Nat) (w : World) (hn : n = (k : Int)) (hk : k ≤ 8192) : Calls Tryz.prog 29 #[.int .i64 5, .int .i64 n] w (NrPost w (5 ^ k)) := by
  subst hn
  exact (rpow5 k hk w).mono fun e w' h => NrPost.of h

theorem nr_text (a : Value) (x : Nat) (w : World) (ha : Nr w a x) (hx : Sm x) : Calls Tryz.prog 51 #[a] w fun e w' => e = .returned (.string ⟨(Lib.decDigits x).toArray⟩) ∧ Below w.heap.size w w' := by
  obtain ⟨o, c, xs, rfl, h1, h3, h4⟩ := ha
  have l1 := nr_len h4 hx
  exact rtext_any o _ c x xs w (by omega) rfl h3 h4

theorem row_new1 (w : World) (m : Nat) : At .u64 (w.alloc (.cells #[.int .u64 (m : Int)] 24)) (some ⟨w.heap.size, 0, none⟩) [m] := Row.at (k := .u64) (e := 24) (heap_alloc_new w _)

set_option maxHeartbeats 400000 in
theorem limb_call (m : Nat) (w : World) (hm : m < B64) : Calls Tryz.prog 60 #[.int .u64 (m : Int)] w (NrPost w m) := by
  have hat := hide (row_new1 w m)
  have hok : Hid (Ok B64 [m]) := by
    intro i
    rcases i with _ | i
    · exact hm
    · simp [dg]; decide
  have hnum : Hid (num B64 [m] = m) := by show num B64 [m] = m; simp [num, V, dg]
  clear hm
  go_enter Tryz.func60, Tryz.ntmps60
  go_wp2_with fail
  refine (in_any _ 1 1 [m] _ (by omega) rfl hat.out hok.out).mono ?_
  rintro e w1 ⟨o, c, ys, rfl, h1, h2, h3, _, h5⟩
  rw [hnum.out] at h3
  have FIN : Hid (NrPost w m (.returned (.slice o ys.length c)) w1) := ⟨o, c, ys.length, rfl, ⟨o, c, ys, rfl, h1, h2, h3⟩, ((Below.refl _ _).alloc (Nat.le_refl _) _).trans (h5.mono (by simp))⟩
  clear h1 h2 h3 h5
  go_wp2
  go_ret
  exact FIN.out

/-- A number and an exponent are answered. -/
def NrPair (w : World) (n : Nat) (ex : Int) (e : Ending) (w' : World) : Prop := ∃ o c l, e = .returned (.tuple #[.slice o l c, .int .i64 ex]) ∧ Nr w' (.slice o l c) n ∧ Below w.heap.size w w'

set_option maxHeartbeats 400000 in
theorem amount_call (oa : Option Addr) (la ca : Nat) (x : Nat) (n : Int) (w : World) (ha : Nr w (.slice oa la ca) x) (hx : Sm x) (h1 : -1080 ≤ n) (h2 : n ≤ 1080) :
    Calls Tryz.prog 59 #[.slice oa la ca, .int .i64 n] w (NrPair w (x * p2N n) (p2E n)) := by
  by_cases h0 : n < 0
  · obtain ⟨k, rfl⟩ : ∃ k : Nat, n = -(k : Int) := ⟨(-n).toNat, by omega⟩
    have e1 : p2N (-(k : Int)) = 5 ^ k := by unfold p2N; rw [if_pos h0, show (-(-(k : Int))).toNat = k by omega]
    have e2 : p2E (-(k : Int)) = -(k : Int) := by unfold p2E; rw [if_pos h0]
    have hs : Sm (5 ^ k) := by rw [← e1]; exact p2N_sm 1081 (by omega) (by omega) (by omega)
    rw [e1, e2]
    have HA := hide ha
    have HS : Hid (Sm x ∧ Sm (5 ^ k)) := ⟨hx, hs⟩
    clear e1 e2 ha hx hs
    go_enter Tryz.func59, Tryz.ntmps59
    go_wp2_with fail
    refine (nr_pow5 _ k _ (by omega) (by omega)).mono ?_
    rintro e w1 ⟨o1, c1, l1, rfl, g1, b1⟩
    have G := hide (nr_mul _ _ x (5 ^ k) w1 (HA.out.below b1) g1 HS.out.1 HS.out.2)
    have HB := hide b1
    clear g1 b1
    go_wp2_with fail
    refine G.out.mono ?_
    rintro e w2 ⟨o2, c2, l2, rfl, g2, b2⟩
    have FIN : Hid (NrPair w (x * 5 ^ k) (-(k : Int)) (.returned (.tuple #[.slice o2 l2 c2, .int .i64 (-(k : Int))])) w2) := ⟨o2, c2, l2, rfl, g2, HB.out.trans (b2.mono HB.out.size)⟩
    clear g2 b2 G HB
    go_wp2
    go_ret2
    exact FIN.out
  · obtain ⟨k, rfl⟩ : ∃ k : Nat, n = (k : Int) := ⟨n.toNat, by omega⟩
    have e1 : p2N (k : Int) = 2 ^ k := by unfold p2N; rw [if_neg h0, Int.toNat_natCast]
    have e2 : p2E (k : Int) = 0 := by unfold p2E; rw [if_neg h0]
    rw [e1, e2]
    have G := hide (nr_shl _ x k w ha hx (by omega))
    clear e1 e2 ha hx
    go_enter Tryz.func59, Tryz.ntmps59
    go_wp2_with fail
    refine G.out.mono ?_
    rintro e w2 ⟨o2, c2, l2, rfl, g2, b2⟩
    have FIN : Hid (NrPair w (x * 2 ^ k) 0 (.returned (.tuple #[.slice o2 l2 c2, .int .i64 0])) w2) := ⟨o2, c2, l2, rfl, g2, b2⟩
    clear g2 b2 G
    go_wp2
    go_ret2
    exact FIN.out

/-- A kind of floats. -/
abbrev k64 : Value := .agg #[.int .i64 52, .int .i64 11]
abbrev k32 : Value := .agg #[.int .i64 23, .int .i64 8]

theorem wide_any (w : World) : Calls Tryz.prog 14 #[] w fun e w' => e = .returned k64 ∧ Below w.heap.size w w' := by
  go_enter Tryz.func14, Tryz.ntmps14
  go_wp2
  go_returns
  exact ⟨rfl, (Below.refl _ _).alloc (Nat.le_refl _) _⟩
theorem narrow_any (w : World) : Calls Tryz.prog 16 #[] w fun e w' => e = .returned k32 ∧ Below w.heap.size w w' := by
  go_enter Tryz.func16, Tryz.ntmps16
  go_wp2
  go_returns
  exact ⟨rfl, (Below.refl _ _).alloc (Nat.le_refl _) _⟩

set_option maxHeartbeats 400000 in
theorem bias64 (w : World) : Calls Tryz.prog 38 #[k64] w fun e w' => e = .returned (.int .i64 1074) ∧ Below w.heap.size w w' := by
  go_enter Tryz.func38, Tryz.ntmps38
  go_wp2
  go_region
  go_wp2
  go_ret
  exact ⟨rfl, ((Below.refl _ _).alloc (Nat.le_refl _) _).drew⟩
set_option maxHeartbeats 400000 in
theorem bias32 (w : World) : Calls Tryz.prog 38 #[k32] w fun e w' => e = .returned (.int .i64 149) ∧ Below w.heap.size w w' := by
  go_enter Tryz.func38, Tryz.ntmps38
  go_wp2
  go_region
  go_wp2
  go_ret
  exact ⟨rfl, ((Below.refl _ _).alloc (Nat.le_refl _) _).drew⟩

end Go.Proofs.YtlhekeifffofjaaGreatDoor

namespace Go.Proofs.YtlhekeifffofjaaGreatDoor
open Go.RowKit

/-- The Dec of N times 10^e, of a zero too. -/
def decZ (neg : Bool) (N : Nat) (e : Int) : DecT := if N = 0 then ⟨0, neg, [], 0⟩ else decA neg N e

/-- The text of a number. -/
def strN (N : Nat) : ByteArray := ⟨(Lib.decDigits N).toArray⟩

theorem strN_size (N : Nat) : (strN N).size = sizeN N := by simp [strN, sizeN, ByteArray.size]
theorem strN_bys (N : Nat) : bys (strN N) = Lib.decDigits N := by simp [strN, bys]
theorem strN_cut {N : Nat} (h : N ≠ 0) : (strN (N * 10)).extract 0 (sizeN N) = strN N := by
  unfold strN sizeN
  rw [dd_ten h, Lib.extract_mk]
  simp
theorem sizeN_ten {N : Nat} (h : N ≠ 0) : sizeN (N * 10) = sizeN N + 1 := by
  unfold sizeN; rw [dd_ten h]; simp

set_option maxHeartbeats 1000000 in
theorem rdec_zero (neg : Bool) (oa : Option Addr) (la ca : Nat) (n : Int) (w : World) (ha : Nr w (.slice oa la ca) 0) :
    Calls Tryz.prog 34 #[.bool neg, .slice oa la ca, .int .i64 n] w fun e w' => e = .returned (decVal (decZ neg 0 n)) ∧ Below w.heap.size w w' := by
  have hb0 : Below w.heap.size w (w.alloc (.cells #[.int .i64 0, .bool false, .string ⟨#[]⟩, .int .i64 0] 23)) := (Below.refl _ _).alloc (Nat.le_refl _) _
  have TX := nr_text _ 0 _ (ha.below hb0) (Sm.of (k := 1) (by omega) (by omega))
  obtain ⟨t, ht⟩ : ∃ t : ByteArray, t = ⟨(Lib.decDigits 0).toArray⟩ := ⟨_, rfl⟩
  rw [← ht] at TX
  have hq : (t.toList == [48]) = true := by rw [ht, ByteArray.toList_eq, Lib.decDigits_one (by omega)]; rfl
  have TXH := hide TX
  have HB0 := hide hb0
  have BLK := hide (Blk.new w #[.int .i64 0, .bool false, .string ⟨#[]⟩, .int .i64 0] 23)
  clear TX hb0 ha ht
  go_enter Tryz.func34, Tryz.ntmps34
  go_wp2_with fail
  refine TXH.out.mono ?_
  rintro e w1 ⟨rfl, hb1⟩
  have B1 := BLK.out.below hb1 BLK.out.lt
  have k0 : w1.cell? ⟨w.heap.size, 0, none⟩ = some (.int .i64 0) := B1.cell 0
  have k1 : w1.cell? ⟨w.heap.size, 1, none⟩ = some (.bool false) := B1.cell 1
  have k2 : w1.cell? ⟨w.heap.size, 2, none⟩ = some (.string ⟨#[]⟩) := B1.cell 2
  have k3 : w1.cell? ⟨w.heap.size, 3, none⟩ = some (.int .i64 0) := B1.cell 3
  have f0 := B1.free 0
  have f1 := B1.free 1
  have f2 := B1.free 2
  have f3 := B1.free 3
  have BL1 := hide B1
  have HB1 := hide (HB0.out.trans (hb1.mono (by simp)))
  clear B1 hb1 HB0 BLK TXH
  go_wp2
  refine bodyPost_ret (results_dec rfl _ _ _ _ _ _ _ rfl (BL1.out.put4 _ _ _ _)) rfl ?_
  exact ⟨rfl, below_put4 HB1.out (by omega) _ _ _ _⟩

set_option maxHeartbeats 2000000 in
theorem rdec_some (neg : Bool) (oa : Option Addr) (la ca N : Nat) (n : Int) (w : World) (ha : Nr w (.slice oa la ca) N) (h0 : N ≠ 0) (hs : sizeN N ≤ 5000) (hsm : Sm N) (h1 : -5000 ≤ n) (h2 : n ≤ 5000) :
    Calls Tryz.prog 34 #[.bool neg, .slice oa la ca, .int .i64 n] w fun e w' => e = .returned (decVal (decA neg N n)) ∧ Below w.heap.size w w' := by
  have hb0 : Below w.heap.size w (w.alloc (.cells #[.int .i64 0, .bool false, .string ⟨#[]⟩, .int .i64 0] 23)) := (Below.refl _ _).alloc (Nat.le_refl _) _
  have TX := nr_text _ N _ (ha.below hb0) hsm
  obtain ⟨M, k, hN, hM, hD⟩ := decA_form neg n h0
  have hM0 : M ≠ 0 := by omega
  have hk0 : ∀ i, M * 10 ^ i ≠ 0 := fun i => Nat.mul_ne_zero hM0 (by have := Nat.pow_pos (n := i) (show 0 < 10 by omega); omega)
  have hsz : ∀ i, sizeN (M * 10 ^ i) = sizeN M + i := by
    intro i
    induction i with
    | zero => simp
    | succ i ih => rw [Nat.pow_succ, ← Nat.mul_assoc, sizeN_ten (hk0 i), ih]; omega
  have hkl : sizeN M + k ≤ 5000 := by rw [← hsz, ← hN]; exact hs
  rw [hD]
  rw [hN] at TX
  have hMp := sizeN_pos M
  have hq : ((strN (M * 10 ^ k)).toList == [48]) = false := by
    have : Lib.decDigits (M * 10 ^ k) ≠ [48] := fun e => hk0 k (dd_zero e)
    rw [strN, ByteArray.toList_eq]
    simpa using this
  have TXH : Hid (Calls Tryz.prog 51 #[.slice oa la ca] (w.alloc (.cells #[.int .i64 0, .bool false, .string ⟨#[]⟩, .int .i64 0] 23)) fun e w' => e = .returned (.string (strN (M * 10 ^ k))) ∧ Below (w.alloc (.cells #[.int .i64 0, .bool false, .string ⟨#[]⟩, .int .i64 0] 23)).heap.size (w.alloc (.cells #[.int .i64 0, .bool false, .string ⟨#[]⟩, .int .i64 0] 23)) w') := TX
  have HB0 := hide hb0
  have BLK := hide (Blk.new w #[.int .i64 0, .bool false, .string ⟨#[]⟩, .int .i64 0] 23)
  have HSZ := hide hsz
  have HK0 := hide hk0
  have HL : Hid (byt (Lib.decDigits M) (sizeN M - 1) ≠ 48) := dd_last hM
  have FIN : Hid (decVal ⟨0, neg, Lib.decDigits M, n + (k : Int)⟩ = .agg #[.int .i64 0, .bool neg, .string (strN M), .int .i64 (n + (k : Int))]) := rfl
  clear TX hb0 ha hN hD hM hM0 hsz hk0 hs hsm h0
  rw [FIN.out]
  obtain ⟨t, ht⟩ : ∃ t, t = strN (M * 10 ^ k) := ⟨_, rfl⟩
  rw [← ht] at TXH hq
  have HTT := hide ht
  clear ht
  go_enter Tryz.func34, Tryz.ntmps34
  go_wp2_with fail
  refine TXH.out.mono ?_
  rintro e w1 ⟨rfl, hb1⟩
  have B1 := BLK.out.below hb1 BLK.out.lt
  have k0 : w1.cell? ⟨w.heap.size, 0, none⟩ = some (.int .i64 0) := B1.cell 0
  have k1 : w1.cell? ⟨w.heap.size, 1, none⟩ = some (.bool false) := B1.cell 1
  have k2 : w1.cell? ⟨w.heap.size, 2, none⟩ = some (.string ⟨#[]⟩) := B1.cell 2
  have k3 : w1.cell? ⟨w.heap.size, 3, none⟩ = some (.int .i64 0) := B1.cell 3
  have f0 := B1.free 0
  have f1 := B1.free 1
  have f2 := B1.free 2
  have f3 := B1.free 3
  have BL1 := hide B1
  have HB1 := hide (HB0.out.trans (hb1.mono (by simp)))
  clear B1 hb1 HB0 BLK TXH
  go_wp2
  go_loopw [2, 7] (fun ve vs wr => ∃ (i j : Nat) (s : ByteArray), i + j = k ∧ Hid (s = strN (M * 10 ^ i)) ∧ vs = .string s ∧ ve = .int .i64 (n + (j : Int)) ∧ wr = w1) (fun _ vs _ => Lib.strSize vs)
  case atStart => exact ⟨k, 0, t, rfl, HTT.out, rfl, by simp, rfl⟩
  case round =>
    clear hq HTT
    obtain ⟨i, j, s, hij, hs, rfl, rfl, rfl⟩ := hrel
    have hss : s.size = sizeN M + i := by rw [hs.out, strN_size, HSZ.out]
    obtain ⟨q, hqq⟩ : ∃ q, q = sizeN M + i - 1 := ⟨_, rfl⟩
    have hsq : s.size = q + 1 := by omega
    have hg : ∀ h : q < s.size, s[q].toNat = byt (bys s) q := fun h => byt_get s q h
    have hlt : q < s.size := by omega
    have hlt' : (q : Int) < (s.size : Int) := by omega
    have hqb : q ≤ 5000 := by omega
    rcases i with _ | i
    · obtain ⟨a, ha⟩ : ∃ a, a = byt (bys s) q := ⟨_, rfl⟩
      rw [← ha] at hg
      have hne : ((a : Int) == 48) = false := by
        have h1 := HL.out
        have e1 : bys s = Lib.decDigits M := by rw [hs.out, Nat.pow_zero, Nat.mul_one, strN_bys]
        rw [e1, hqq, Nat.add_zero] at ha
        rw [← ha] at h1
        have : ¬ (a : Int) = 48 := by omega
        simpa using this
      have hst : Hid (s = strN M) := by show s = strN M; rw [hs.out]; simp
      have hj : Hid ((j : Int) = (k : Int)) := by show (j : Int) = (k : Int); omega
      clear ha hs hij hss hqq
      go_wp2
      refine bodyPost_ret (results_dec rfl _ _ _ _ _ _ _ rfl (BL1.out.put4 _ _ _ _)) rfl ?_
      refine ⟨?_, below_put4 HB1.out (by omega) _ _ _ _⟩
      rw [hst.out, hj.out]
    · have hb : byt (bys s) q = 48 := by
        rw [hs.out, strN_bys, Nat.pow_succ, ← Nat.mul_assoc, dd_ten (HK0.out i), show q = (Lib.decDigits (M * 10 ^ i)).length by have := HSZ.out i; unfold sizeN at this; rw [this]; unfold sizeN at hqq; omega, byt_last]
        rfl
      rw [hb] at hg
      have hcut : s.extract 0 q = strN (M * 10 ^ i) := by
        have h := strN_cut (HK0.out i)
        rw [HSZ.out i] at h
        rw [hs.out, Nat.pow_succ, ← Nat.mul_assoc, hqq]
        exact h
      have hsl : ∀ W, (Instr.slice 9 (.string s) none (some (.int .i64 (q : Int))) none).run Tryz.prog W = .ok (.string (s.extract 0 q)) W := fun W => by
        simp [go_sem, Tryz.underlying9]; omega
      have HC := hide hcut
      have hsx : (s.extract 0 q).size = q := by rw [hcut, strN_size, HSZ.out]; omega
      clear hb hcut hs hss hqq
      go_wp2
      refine ⟨⟨i, j + 1, s.extract 0 q, by omega, HC.out, rfl, congrArg (Value.int IntKind.i64) (by omega), trivial⟩, ?_⟩
      rw [Lib.strSize_string, Lib.strSize_string]; omega

theorem rdec_any (neg : Bool) (oa : Option Addr) (la ca N : Nat) (n : Int) (w : World) (ha : Nr w (.slice oa la ca) N) (hs : sizeN N ≤ 5000) (hsm : Sm N) (h1 : -5000 ≤ n) (h2 : n ≤ 5000) :
    Calls Tryz.prog 34 #[.bool neg, .slice oa la ca, .int .i64 n] w fun e w' => e = .returned (decVal (decZ neg N n)) ∧ Below w.heap.size w w' := by
  by_cases h0 : N = 0
  · subst h0; exact rdec_zero neg oa la ca n w ha
  · unfold decZ; rw [if_neg h0]; exact rdec_some neg oa la ca N n w ha h0 hs hsm h1 h2

end Go.Proofs.YtlhekeifffofjaaGreatDoor

namespace Go.Proofs.YtlhekeifffofjaaGreatDoor
open Go.RowKit

set_option maxRecDepth 100000 in
set_option maxHeartbeats 400000 in
theorem small10 (w : World) : Calls Tryz.prog 32 #[.int .i64 10] w (RPost w 2 10) := by
  have hat : At .u32 (w.alloc (.cells #[.int .u32 10, .int .u32 0] 34)) (some ⟨w.heap.size, 0, none⟩) [10, 0] := Row.at (k := .u32) (e := 34) (heap_alloc_new w _)
  go_enter Tryz.func32, Tryz.ntmps32
  go_wp2_with fail
  refine (rtrim_to (some ⟨w.heap.size, 0, none⟩) 2 2 1 [10, 0] _ (Nat.le_refl _) (by omega) rfl hat (by decide +kernel)).mono ?_
  rintro e w' ⟨rfl, rfl⟩
  go_wp2
  go_ret
  refine ⟨some ⟨w.heap.size, 0, none⟩, 2, [10], rfl, by decide, hat.take 1, ⟨ok32 (by decide +kernel), ?_, by decide +kernel⟩, by decide, (Below.refl _ _).alloc (Nat.le_refl _) _⟩
  intro n hn
  have : n = 0 := by simp at hn; omega
  subst this; decide

theorem ten32 : (10 : Nat) ^ 8192 < 65536 ^ 1800 := by decide +kernel

set_option maxRecDepth 100000 in
set_option maxHeartbeats 1000000 in
theorem rpow10 (n : Nat) (hn : n ≤ 8192) (w : World) :
    Calls Tryz.prog 29 #[.int .i64 10, .int .i64 (n : Int)] w (RPost w 1800 (10 ^ n)) := by
  have hst : At .u32 (w.alloc (.cells #[.int .u32 1] 34)) (some ⟨w.heap.size, 0, none⟩) [1] := Row.at (k := .u32) (e := 34) (heap_alloc_new w _)
  have i1 : Is 65536 [1] 1 := ⟨ok32 (by decide +kernel), by intro n hn; have : n = 0 := by { simp at hn; omega }; subst this; decide, by decide +kernel⟩
  have HST := hide hst
  have HI1 := hide i1
  clear hst i1
  go_enter Tryz.func29, Tryz.ntmps29
  go_wp2
  go_loopw [5, 6] (fun v i wr => ∃ (k : Nat) (o : Option Addr) (c : Nat) (r : List Nat), k ≤ n ∧ i = .int .i64 (k : Int) ∧ v = .slice o r.length c ∧ r.length ≤ c ∧ At .u32 wr o r ∧ Is 65536 r (10 ^ k) ∧ Below w.heap.size w wr) (fun _ i _ => n - (intOf i).toNat)
  case atStart => exact ⟨0, _, _, [1], Nat.zero_le _, rfl, rfl, by decide, HST.out, HI1.out, (Below.refl _ _).alloc (Nat.le_refl _) _⟩
  case round =>
    clear HST HI1
    obtain ⟨k, o, c, r, hk, rfl, rfl, hl, hat, his, hb⟩ := hrel
    have hrl := len32 his (Nat.lt_of_le_of_lt (Nat.pow_le_pow_right (show 0 < 10 by omega) (Nat.le_trans hk hn)) ten32)
    by_cases hlt : k < n
    · have h1 : (k : Int) < (n : Int) := by omega
      go_wp2_with fail
      refine (small10 _).mono ?_
      rintro e w1 ⟨o1, c1, r1, rfl, hl1, hat1, his1, hm1, hb1⟩
      have hat' := hat.below hb1
      clear hat
      go_wp2_with fail
      refine (rmul_any o o1 _ c _ c1 r r1 _ (by omega) (by omega) rfl rfl hat' hat1 his.1 his1.1).mono ?_
      rintro e w2 ⟨o2, c2, r2, rfl, hl2, hat2, his2, hm2, hb2⟩
      rw [his.2.2, his1.2.2, ← Nat.pow_succ] at his2
      have hbw := hb.trans ((hb1.mono hb.size).trans (hb2.mono (Nat.le_trans hb.size hb1.size)))
      have HAT := hide hat2
      have HIS := hide his2
      have HBW := hide hbw
      clear hat' hat1 his1 his hb hb1 hb2 hat2 his2 hbw
      go_wp2
      go_roundw
      case rel => exact ⟨k + 1, o2, c2, r2, by omega, by go_num, rfl, hl2, HAT.out, HIS.out, HBW.out⟩
      case measure => simp [intOf]; omega
    · obtain rfl : k = n := by omega
      have h1 : ¬ (k : Int) < (k : Int) := by omega
      go_wp2
      go_ret
      exact ⟨o, c, r, rfl, hl, hat, his, hrl, hb⟩

end Go.Proofs.YtlhekeifffofjaaGreatDoor

namespace Go.Proofs.YtlhekeifffofjaaGreatDoor
open Go.RowKit

theorem rsub_is {xs ys : List Nat} {n : Nat} (hx : Ok 65536 xs) (hy : Ok 65536 ys) (hnx : xs.length = n) (hny : ys.length ≤ n) (hle : num 65536 ys ≤ num 65536 xs) :
    Ok 65536 (mk (subD 65536 (dg xs) (dg ys)) n) ∧ num 65536 (mk (subD 65536 (dg xs) (dg ys)) n) = num 65536 xs - num 65536 ys := by
  refine ⟨?_, ?_⟩
  · intro j
    by_cases h : j < n
    · rw [dg_mk _ _ _ h]; exact Nat.mod_lt _ (by omega)
    · rw [dg_out (by rw [mk_len]; omega)]; omega
  · have h := sub_val hx hy n
    have h0 := (V_sub_lt hx hy n).2 (by rw [num_eq (xs := xs) (by omega), num_eq hny]; exact hle)
    rw [num_eq (xs := xs) (by omega), num_eq hny, h0] at h
    have e : num 65536 (mk (subD 65536 (dg xs) (dg ys)) n) = V 65536 (subD 65536 (dg xs) (dg ys)) n := by
      unfold num; rw [mk_len]; exact V_congr n (fun i hi => dg_mk _ n i hi)
    rw [e]; omega

/-- As RPost, and the answer is new memory. -/
def RNew (w : World) (m n : Nat) (e : Ending) (w' : World) : Prop :=
  ∃ ao cap ys, e = .returned (.slice ao ys.length cap) ∧ ys.length ≤ cap ∧ At .u32 w' ao ys ∧ Is 65536 ys n ∧ ys.length ≤ m ∧ Below w.heap.size w w' ∧ ∀ b o, ao = some ⟨b, o, none⟩ → w.heap.size ≤ b

theorem Grows.new {w wr : World} {v : Value} {ys : List Nat} (h : Grows w wr v ys) : ∀ b o l c, v = .slice (some ⟨b, o, none⟩) l c → w.heap.size ≤ b := by
  rcases h.2.2 with ⟨rfl, _⟩ | ⟨g, cap, cur, rfl, hgb, _⟩
  · intro b o l c h; cases h
  · intro b o l c h
    simp only [Value.slice.injEq, Option.some.injEq, Addr.mk.injEq] at h
    omega

set_option maxRecDepth 100000 in
set_option maxHeartbeats 1000000 in
theorem rsub_new (ao bo : Option Addr) (la ca lb cb : Nat) (xs ys : List Nat) (w : World) (hla : la ≤ 100000000) (hlb : lb ≤ la) (hx : xs.length = la) (hy : ys.length = lb)
    (hax : At .u32 w ao xs) (hay : At .u32 w bo ys) (ox : Ok 65536 xs) (oy : Ok 65536 ys) (hle : num 65536 ys ≤ num 65536 xs) :
    Calls Tryz.prog 31 #[.slice ao la ca, .slice bo lb cb] w (RNew w la (num 65536 xs - num 65536 ys)) := by
  obtain ⟨i0, hi, hz0, hz1, hz2⟩ := info_parts Tryz.infoD
  obtain ⟨D, hD⟩ : ∃ D, D = subD 65536 (dg xs) (dg ys) := ⟨_, rfl⟩
  have HDF : Hid (D = subD 65536 (dg xs) (dg ys)) := hD
  have HLE : Hid (num 65536 ys ≤ num 65536 xs) := hle
  clear hD hle
  go_enter Tryz.func31, Tryz.ntmps31
  go_wp2
  go_loopw [5, 6, 7] (fun v cv i wr => ∃ k c : Nat, k ≤ la ∧ cv = .int .u32 (c : Int) ∧ i = .int .i64 k ∧ c = subC 65536 (dg xs) (dg ys) k ∧ Grows w wr v (mk D k)) (fun _ _ i _ => la - (intOf i).toNat)
  case atStart => exact ⟨0, 0, Nat.zero_le _, rfl, rfl, rfl, (Below.refl _ _).alloc (Nat.le_refl _) _, World.ownsRow_lit _ #[] 0 (Nat.le_refl _) (by unfold maxLen; omega) rfl⟩
  case round =>
    obtain ⟨k, c, hk, rfl, rfl, hc, hgr⟩ := hrel
    have hcl : c ≤ 1 := by rw [hc]; exact subC_le k
    have HC : Hid (c = subC 65536 (dg xs) (dg ys) k) := hc
    clear hc
    by_cases hlt : k < la
    · have HG : Hid (Grows w wr u5 (mk D k)) := hgr
      obtain ⟨x, hxk⟩ : ∃ x, x = dg xs k := ⟨_, rfl⟩
      obtain ⟨y, hyk⟩ : ∃ y, y = dg ys k := ⟨_, rfl⟩
      have hxl : x < 65536 := by rw [hxk]; exact ox k
      have hyl : y < 65536 := by rw [hyk]; exact oy k
      have HX : Hid (x = dg xs k) := hxk
      have HY : Hid (y = dg ys k) := hyk
      obtain ⟨d, hdk⟩ : ∃ d, d = (x + 65536 - y - c) % 65536 := ⟨_, rfl⟩
      obtain ⟨c', hck⟩ : ∃ c', c' = if x < y + c then 1 else 0 := ⟨_, rfl⟩
      have HD : Hid (d = (x + 65536 - y - c) % 65536) := hdk
      have HC' : Hid (c' = if x < y + c then 1 else 0) := hck
      have HC1 : Hid (c' = subC 65536 (dg xs) (dg ys) (k + 1)) := by rw [hck, hxk, hyk, HC.out]; rfl
      have HDD : Hid (d = D k) := by rw [hdk, hxk, hyk, HC.out, HDF.out]; rfl
      have hdl := mk_len D k
      clear hxk hyk hdk hck
      by_cases hb : k < lb
      · have t1 : (k : Int) < (la : Int) := by omega
        have t2 : (k : Int) < (lb : Int) := by omega
        obtain ⟨b1, o1, rfl, hc1⟩ : ∃ b1 o1, ao = some ⟨b1, o1, none⟩ ∧ wr.cell? ⟨b1, o1 + k, none⟩ = some (.int .u32 (x : Int)) := by
          rcases hax.below hgr.1 with h | ⟨b, o, h1, _, h3⟩
          · rw [h] at hx; simp at hx; omega
          · exact ⟨b, o, h1, by rw [HX.out]; exact h3 k (by omega)⟩
        obtain ⟨b2, o2, rfl, hc2⟩ : ∃ b2 o2, bo = some ⟨b2, o2, none⟩ ∧ wr.cell? ⟨b2, o2 + k, none⟩ = some (.int .u32 (y : Int)) := by
          rcases hay.below hgr.1 with h | ⟨b, o, h1, _, h3⟩
          · rw [h] at hy; simp at hy; omega
          · exact ⟨b, o, h1, by rw [HY.out]; exact h3 k (by omega)⟩
        have hd : bits .and .u32 (65536 + (x : Int) - (c : Int) - (y : Int)) 65535 = (d : Int) := by rw [show (65536 + (x : Int) - (c : Int) - (y : Int)) = ((x + 65536 - y - c : Nat) : Int) by omega, and16u _ (by omega)]; exact congrArg _ HD.out.symm
        have hs : 1 - (65536 + (x : Int) - (c : Int) - (y : Int)) / 65536 = (c' : Int) := by have := HC'.out; split at this <;> omega
        have hown := hgr.2
        rw [hdl] at hown
        have hsz := hgr.1.size
        clear hgr hax hay
        go_wp2_with (at_builtin; refine wpList_append_own _ rfl _ _ 46 rfl w.heap.size 34 i0 (.int .u32 0) 1 4 Tryz.underlying46 hi hz0 hz1 hz2 rfl (by decide) _ _ _ rfl (hown.alloc _) ⟨wr.heap.size, 0, none⟩ 1 1 [.int .u32 (d : Int)] rfl rfl ?c1A ?c2A ?c3A ?c4A ?c5A ?_)
        try case c1A => exact new_cell wr _ _
        case c2A => first | exact one_one _ _ | rfl
        case c3A => unfold maxLen; omega
        case c4A => omega
        case c5A => first | (simp; omega) | omega
        intro v' w1 hown' hgrow _
        have hg' := HG.out.step _ (by rw [hdl]; exact hown') hgrow
        have HG' : Hid (Grows w w1 v' (mk D (k + 1))) := by show Grows _ _ _ _; rw [mk_succ, ← HDD.out]; exact hg'
        clear hown hown' hgrow hg' HG hd
        go_wp2
        go_roundw
        case rel => exact ⟨k + 1, c', by omega, rfl, by go_num, HC1.out, HG'.out⟩
        case measure => simp [intOf]; omega
      · have t1 : (k : Int) < (la : Int) := by omega
        have t2 : ¬ (k : Int) < (lb : Int) := by omega
        obtain ⟨b1, o1, rfl, hc1⟩ : ∃ b1 o1, ao = some ⟨b1, o1, none⟩ ∧ wr.cell? ⟨b1, o1 + k, none⟩ = some (.int .u32 (x : Int)) := by
          rcases hax.below hgr.1 with h | ⟨b, o, h1, _, h3⟩
          · rw [h] at hx; simp at hx; omega
          · exact ⟨b, o, h1, by rw [HX.out]; exact h3 k (by omega)⟩
        have ey : y = 0 := by rw [HY.out]; exact dg_out (by omega)
        have hd : bits .and .u32 (65536 + (x : Int) - (c : Int)) 65535 = (d : Int) := by rw [show (65536 + (x : Int) - (c : Int)) = ((x + 65536 - y - c : Nat) : Int) by omega, and16u _ (by omega)]; exact congrArg _ HD.out.symm
        have hs : 1 - (65536 + (x : Int) - (c : Int)) / 65536 = (c' : Int) := by have := HC'.out; split at this <;> omega
        clear ey
        have hown := hgr.2
        rw [hdl] at hown
        have hsz := hgr.1.size
        clear hgr hax hay
        go_wp2_with (at_builtin; refine wpList_append_own _ rfl _ _ 46 rfl w.heap.size 34 i0 (.int .u32 0) 1 4 Tryz.underlying46 hi hz0 hz1 hz2 rfl (by decide) _ _ _ rfl (hown.alloc _) ⟨wr.heap.size, 0, none⟩ 1 1 [.int .u32 (d : Int)] rfl rfl ?c1B ?c2B ?c3B ?c4B ?c5B ?_)
        try case c1B => exact new_cell wr _ _
        case c2B => first | exact one_one _ _ | rfl
        case c3B => unfold maxLen; omega
        case c4B => omega
        case c5B => first | (simp; omega) | omega
        intro v' w1 hown' hgrow _
        have hg' := HG.out.step _ (by rw [hdl]; exact hown') hgrow
        have HG' : Hid (Grows w w1 v' (mk D (k + 1))) := by show Grows _ _ _ _; rw [mk_succ, ← HDD.out]; exact hg'
        clear hown hown' hgrow hg' HG hd
        go_wp2
        go_roundw
        case rel => exact ⟨k + 1, c', by omega, rfl, by go_num, HC1.out, HG'.out⟩
        case measure => simp [intOf]; omega
    · obtain rfl : k = la := by omega
      have hnew := hgr.new
      obtain ⟨ao', cp, rfl, hcp, hat⟩ := hgr.at
      have HNW : Hid (∀ b o, ao' = some ⟨b, o, none⟩ → w.heap.size ≤ b) := fun b o h => hnew b o _ _ (by rw [h])
      clear hnew
      have hbel := hgr.1
      have his := rsub_is (n := k) ox oy hx (by omega) HLE.out
      rw [← HDF.out] at his
      obtain ⟨z, hz⟩ : ∃ z, z = mk D k := ⟨_, rfl⟩
      have hzl : z.length = k := by rw [hz]; exact mk_len D k
      rw [← hz] at hat hcp his
      have HI : Hid (Ok 65536 z ∧ num 65536 z = num 65536 xs - num 65536 ys) := his
      obtain ⟨q, hq⟩ : ∃ q, q = (trimmed z).length := ⟨_, rfl⟩
      have HQ : Hid ((trimmed z).length = q) := hq.symm
      have HZ : Hid (z.length = k) := hzl
      have hqle : q ≤ k := by rw [hq, ← hzl]; exact length_trimmed_le z
      rw [← hz, hzl]
      rw [hzl] at hcp
      clear hgr hz hzl hq his hax hay
      go_wp2_with fail
      refine (rtrim_to ao' k cp q z _ hcp (by omega) HZ.out hat HQ.out).mono ?_
      rintro e w' ⟨rfl, rfl⟩
      go_wp2
      go_ret
      refine ⟨ao', cp, trimmed z, by rw [HQ.out]; rfl, by rw [HQ.out]; omega, hat.trimmed, ?_, by rw [HQ.out]; exact hqle, hbel, HNW.out⟩
      rw [← HI.out.2]; exact Is.trimmed HI.out.1

theorem rsub_any (ao bo : Option Addr) (la ca lb cb : Nat) (xs ys : List Nat) (w : World) (hla : la ≤ 100000000) (hlb : lb ≤ la) (hx : xs.length = la) (hy : ys.length = lb)
    (hax : At .u32 w ao xs) (hay : At .u32 w bo ys) (ox : Ok 65536 xs) (oy : Ok 65536 ys) (hle : num 65536 ys ≤ num 65536 xs) :
    Calls Tryz.prog 31 #[.slice ao la ca, .slice bo lb cb] w (RPost w la (num 65536 xs - num 65536 ys)) := by
  refine (rsub_new ao bo la ca lb cb xs ys w hla hlb hx hy hax hay ox oy hle).mono ?_
  rintro e w' ⟨a, c, y, h1, h2, h3, h4, h5, h6, _⟩
  exact ⟨a, c, y, h1, h2, h3, h4, h5, h6⟩

end Go.Proofs.YtlhekeifffofjaaGreatDoor

namespace Go.Proofs.YtlhekeifffofjaaGreatDoor
open Go.RowKit

theorem cmpN_len {xs ys : List Nat} (ox : Ok 65536 xs) (ty : Top ys) (h : xs.length < ys.length) : cmpN (num 65536 xs) (num 65536 ys) = -1 := by
  unfold cmpN
  rw [if_pos]
  rcases Nat.lt_or_ge (num 65536 xs) (num 65536 ys) with e | e
  · exact e
  · have := len_le (by omega) ox ty e; omega

set_option maxRecDepth 100000 in
set_option maxHeartbeats 1000000 in
/-- Two lists without noughts on top, of unlike length. -/
theorem rcmp_len (ao bo : Option Addr) (la ca lb cb m p : Nat) (w : World) (z : Int) (hz : (m < p ∧ z = -1) ∨ (p < m ∧ z = 1)) (_hm : m ≤ 1000000000) (_hp : p ≤ 1000000000)
    (c1 : ∀ w' : World, w'.heap = w.heap → Calls Tryz.prog 48 #[.slice ao la ca] w' fun e w'' => e = .returned (.slice ao m ca) ∧ w' = w'')
    (c2 : ∀ w' : World, w'.heap = w.heap → Calls Tryz.prog 48 #[.slice bo lb cb] w' fun e w'' => e = .returned (.slice bo p cb) ∧ w' = w'') :
    Calls Tryz.prog 26 #[.slice ao la ca, .slice bo lb cb] w fun e w' => e = .returned (.int .i64 z) ∧ Below w.heap.size w w' := by
  have C1 : Hid (∀ w' : World, w'.heap = w.heap → Calls Tryz.prog 48 #[.slice ao la ca] w' fun e w'' => e = .returned (.slice ao m ca) ∧ w' = w'') := c1
  have C2 : Hid (∀ w' : World, w'.heap = w.heap → Calls Tryz.prog 48 #[.slice bo lb cb] w' fun e w'' => e = .returned (.slice bo p cb) ∧ w' = w'') := c2
  clear c1 c2
  have hne : ((m : Int) != (p : Int)) = true := by rw [bne_iff_ne]; rcases hz with h | h <;> omega
  rcases hz with ⟨h, rfl⟩ | ⟨h, rfl⟩
  · have h1 : (m : Int) < (p : Int) := by omega
    go_enter Tryz.func26, Tryz.ntmps26
    go_wp2_with fail
    refine (C1.out _ rfl).mono ?_
    rintro e w' ⟨rfl, rfl⟩
    go_wp2_with fail
    refine (C2.out _ rfl).mono ?_
    rintro e w' ⟨rfl, rfl⟩
    go_wp2
    go_ret
    exact ⟨rfl, Below.refl _ _⟩
  · have h1 : ¬ (m : Int) < (p : Int) := by omega
    go_enter Tryz.func26, Tryz.ntmps26
    go_wp2_with fail
    refine (C1.out _ rfl).mono ?_
    rintro e w' ⟨rfl, rfl⟩
    go_wp2_with fail
    refine (C2.out _ rfl).mono ?_
    rintro e w' ⟨rfl, rfl⟩
    go_wp2
    go_ret
    exact ⟨rfl, Below.refl _ _⟩

set_option maxRecDepth 100000 in
set_option maxHeartbeats 1000000 in
theorem rcmp_none (ao bo : Option Addr) (la ca lb cb : Nat) (w : World)
    (c1 : ∀ w' : World, w'.heap = w.heap → Calls Tryz.prog 48 #[.slice ao la ca] w' fun e w'' => e = .returned (.slice ao 0 ca) ∧ w' = w'')
    (c2 : ∀ w' : World, w'.heap = w.heap → Calls Tryz.prog 48 #[.slice bo lb cb] w' fun e w'' => e = .returned (.slice bo 0 cb) ∧ w' = w'') :
    Calls Tryz.prog 26 #[.slice ao la ca, .slice bo lb cb] w fun e w' => e = .returned (.int .i64 0) ∧ Below w.heap.size w w' := by
  have C1 : Hid (∀ w' : World, w'.heap = w.heap → Calls Tryz.prog 48 #[.slice ao la ca] w' fun e w'' => e = .returned (.slice ao 0 ca) ∧ w' = w'') := c1
  have C2 : Hid (∀ w' : World, w'.heap = w.heap → Calls Tryz.prog 48 #[.slice bo lb cb] w' fun e w'' => e = .returned (.slice bo 0 cb) ∧ w' = w'') := c2
  clear c1 c2
  go_enter Tryz.func26, Tryz.ntmps26
  go_wp2_with fail
  refine (C1.out _ rfl).mono ?_
  rintro e w' ⟨rfl, rfl⟩
  go_wp2_with fail
  refine (C2.out _ rfl).mono ?_
  rintro e w' ⟨rfl, rfl⟩
  go_wp2
  refine wp_loop_rounds 1 ?_
  rw [rounds_succ]
  go_wp2
  go_ret
  exact ⟨rfl, Below.refl _ _⟩

set_option maxRecDepth 100000 in
set_option maxHeartbeats 1000000 in
theorem rcmp_at (b1 o1 b2 o2 la ca lb cb m : Nat) (xs ys : List Nat) (w : World) (hm : m ≤ 1000000000) (hx : xs.length = m) (hy : ys.length = m)
    (h1 : ∀ i, i < m → w.cell? ⟨b1, o1 + i, none⟩ = some (.int .u32 ((dg xs i : Nat) : Int))) (h2 : ∀ i, i < m → w.cell? ⟨b2, o2 + i, none⟩ = some (.int .u32 ((dg ys i : Nat) : Int)))
    (c1 : ∀ w' : World, w'.heap = w.heap → Calls Tryz.prog 48 #[.slice (some ⟨b1, o1, none⟩) la ca] w' fun e w'' => e = .returned (.slice (some ⟨b1, o1, none⟩) m ca) ∧ w' = w'')
    (c2 : ∀ w' : World, w'.heap = w.heap → Calls Tryz.prog 48 #[.slice (some ⟨b2, o2, none⟩) lb cb] w' fun e w'' => e = .returned (.slice (some ⟨b2, o2, none⟩) m cb) ∧ w' = w'') :
    Calls Tryz.prog 26 #[.slice (some ⟨b1, o1, none⟩) la ca, .slice (some ⟨b2, o2, none⟩) lb cb] w fun e w' => e = .returned (.int .i64 (cmpTo xs ys m)) ∧ Below w.heap.size w w' := by
  have C1 : Hid (∀ w' : World, w'.heap = w.heap → Calls Tryz.prog 48 #[.slice (some ⟨b1, o1, none⟩) la ca] w' fun e w'' => e = .returned (.slice (some ⟨b1, o1, none⟩) m ca) ∧ w' = w'') := c1
  have C2 : Hid (∀ w' : World, w'.heap = w.heap → Calls Tryz.prog 48 #[.slice (some ⟨b2, o2, none⟩) lb cb] w' fun e w'' => e = .returned (.slice (some ⟨b2, o2, none⟩) m cb) ∧ w' = w'') := c2
  clear c1 c2
  obtain ⟨zz, hzz⟩ : ∃ z, z = cmpTo xs ys m := ⟨_, rfl⟩
  rw [← hzz]
  have HZ : Hid (zz = cmpTo xs ys m) := hzz
  have hne : ((m : Int) != (m : Int)) = false := by simp
  clear hzz
  go_enter Tryz.func26, Tryz.ntmps26
  go_wp2_with fail
  refine (C1.out _ rfl).mono ?_
  rintro e w' ⟨rfl, rfl⟩
  go_wp2_with fail
  refine (C2.out _ rfl).mono ?_
  rintro e w' ⟨rfl, rfl⟩
  go_wp2
  go_loopw [5] (fun i wr => ∃ k : Nat, k ≤ m ∧ i = .int .i64 ((k : Int) - 1) ∧ zz = cmpTo xs ys k ∧ Below w.heap.size w wr ∧ wr.heap = w.heap) (fun i _ => (intOf i + 1).toNat)
  case atStart => exact ⟨m, Nat.le_refl _, rfl, HZ.out, Below.refl _ _, rfl⟩
  case round =>
    obtain ⟨k, hk, rfl, hz, hbel, hheap⟩ := hrel
    have HK : Hid (zz = cmpTo xs ys k) := hz
    have HH : Hid (wr.heap = w.heap) := hheap
    clear hz hheap HZ
    rcases k with _ | k
    · go_wp2
      go_ret
      exact ⟨by rw [HK.out]; rfl, hbel⟩
    · have d1 : wr.cell? ⟨b1, o1 + k, none⟩ = some (.int .u32 ((dg xs k : Nat) : Int)) := by rw [World.cell?_of_block (w := w) (by rw [HH.out])]; exact h1 k (by omega)
      have d2 : wr.cell? ⟨b2, o2 + k, none⟩ = some (.int .u32 ((dg ys k : Nat) : Int)) := by rw [World.cell?_of_block (w := w) (by rw [HH.out])]; exact h2 k (by omega)
      have e0 : (k : Int) < (m : Int) := by omega
      obtain ⟨x, hxk⟩ : ∃ x, x = dg xs k := ⟨_, rfl⟩
      obtain ⟨y, hyk⟩ : ∃ y, y = dg ys k := ⟨_, rfl⟩
      have hstep : zz = if x < y then -1 else if y < x then 1 else cmpTo xs ys k := by rw [HK.out, hxk, hyk]; rfl
      rw [← hxk] at d1
      rw [← hyk] at d2
      have HS : Hid (zz = if x < y then -1 else if y < x then 1 else cmpTo xs ys k) := hstep
      clear hxk hyk hstep HK h1 h2 C1 C2
      rcases Nat.lt_trichotomy x y with h | h | h
      · have t1 : (x : Int) < (y : Int) := by omega
        go_wp2
        go_quiet (fail)
        go_wp2
        go_ret
        exact ⟨by rw [HS.out, if_pos h]; rfl, below_drewN hbel _⟩
      · have t1 : ¬ (x : Int) < (y : Int) := by omega
        have t2 : ¬ (y : Int) < (x : Int) := by omega
        have HE : Hid (zz = cmpTo xs ys k) := by rw [HS.out, if_neg (by omega), if_neg (by omega)]; rfl
        clear h
        go_wp2
        go_quiet (fail)
        go_wp2
        go_quiet (fail)
        go_wp2
        go_roundw
        case rel => exact ⟨k, by omega, by go_num, HE.out, below_drewN hbel _, HH.out⟩
        case measure => simp [intOf]
      · have t1 : ¬ (x : Int) < (y : Int) := by omega
        have t2 : (y : Int) < (x : Int) := by omega
        go_wp2
        go_quiet (fail)
        go_wp2
        go_quiet (fail)
        go_wp2
        go_ret
        exact ⟨by rw [HS.out, if_neg (by omega), if_pos h]; rfl, below_drewN (below_drewN hbel _) _⟩

theorem rcmp_any (ao bo : Option Addr) (la ca lb cb : Nat) (xs ys : List Nat) (w : World) (hla : la ≤ ca) (hlal : la ≤ 1000000000) (hlb : lb ≤ cb) (hlbl : lb ≤ 1000000000) (hx : xs.length = la) (hy : ys.length = lb)
    (hax : At .u32 w ao xs) (hay : At .u32 w bo ys) (ox : Ok 65536 xs) (oy : Ok 65536 ys) (z : Int) (hz : cmpN (num 65536 xs) (num 65536 ys) = z) :
    Calls Tryz.prog 26 #[.slice ao la ca, .slice bo lb cb] w fun e w' => e = .returned (.int .i64 z) ∧ Below w.heap.size w w' := by
  have l1 := length_trimmed_le xs
  have l2 := length_trimmed_le ys
  have c1 := fun (w' : World) (h : w'.heap = w.heap) => rtrim_to ao la ca (trimmed xs).length xs w' hla (by omega) hx (hax.same h) rfl
  have c2 := fun (w' : World) (h : w'.heap = w.heap) => rtrim_to bo lb cb (trimmed ys).length ys w' hlb (by omega) hy (hay.same h) rfl
  rw [← num_trimmed 65536 xs, ← num_trimmed 65536 ys] at hz
  rcases Nat.lt_trichotomy (trimmed xs).length (trimmed ys).length with h | h | h
  · exact rcmp_len ao bo la ca lb cb _ _ w z (.inl ⟨h, by rw [← hz]; exact cmpN_len (trimmed_ok ox) (trimmed_top ys) h⟩) (by omega) (by omega) c1 c2
  · rcases hax.trimmed with e1 | ⟨b1, o1, rfl, _, h1⟩
    · have e2 : trimmed ys = [] := List.length_eq_zero_iff.1 (by rw [← h, e1]; rfl)
      rw [e1] at c1
      rw [e2] at c2
      rw [e1, e2] at hz
      have := rcmp_none ao bo la ca lb cb w c1 c2
      rw [← hz]; exact this
    · rcases hay.trimmed with e2 | ⟨b2, o2, rfl, _, h2⟩
      · have e1 : trimmed xs = [] := List.length_eq_zero_iff.1 (by rw [h, e2]; rfl)
        rw [e1] at c1
        rw [e2] at c2
        rw [e1, e2] at hz
        have := rcmp_none _ bo la ca lb cb w c1 c2
        rw [← hz]; exact this
      · rw [← h] at c2
        have := rcmp_at b1 o1 b2 o2 la ca lb cb (trimmed xs).length (trimmed xs) (trimmed ys) w (by omega) rfl h.symm h1 (fun i hi => h2 i (by omega)) c1 c2
        rw [cmpTo_V (trimmed_ok ox) (trimmed_ok oy), num_eq (Nat.le_refl _), num_eq (by omega), hz] at this
        exact this
  · refine rcmp_len ao bo la ca lb cb _ _ w z (.inr ⟨h, ?_⟩) (by omega) (by omega) c1 c2
    have := cmpN_len (trimmed_ok oy) (trimmed_top xs) h
    rw [← hz]
    unfold cmpN at this ⊢
    split at this
    · rw [if_neg (by omega), if_pos (by assumption)]
    · split at this <;> simp at this

end Go.Proofs.YtlhekeifffofjaaGreatDoor

namespace Go.Proofs.YtlhekeifffofjaaGreatDoor
open Go.RowKit

/- (hide is in Long, which this doesn't import) -/
theorem hide32 {p : Prop} (h : p) : Hid p := h

/-- At the head of the reference's loop, k bits being left: the bits so far, divided by B. -/
structure RDivInv (w : World) (m A B k : Nat) (v : Value) (wr : World) : Prop where
  bel : Below w.heap.size w wr
  quo : ∃ q, Row .u32 34 wr w.heap.size q ∧ q.length = m ∧ Ok 65536 q ∧ num 65536 q = A / 2 ^ k / B * 2 ^ k
  rst : ∃ ro rc rs, v = .slice ro rs.length rc ∧ rs.length ≤ rc ∧ At .u32 wr ro rs ∧ Is 65536 rs (A / 2 ^ k % B)

theorem RDivInv.stay {w wr w1 wr' : World} {m A B k : Nat} {q : List Nat} {ro : Option Addr} {rc : Nat} {rs : List Nat} (hB : 0 < B) (hb : Below w.heap.size w wr) (hq : Row .u32 34 wr w.heap.size q) (hl : q.length = m) (ho : Ok 65536 q) (hn : num 65536 q = A / 2 ^ (k + 1) / B * 2 ^ (k + 1))
    (hlt : ¬ B ≤ 2 * (A / 2 ^ (k + 1) % B) + A / 2 ^ k % 2) (hb1 : Below wr.heap.size wr w1) (hlr : rs.length ≤ rc) (hat : At .u32 w1 ro rs) (his : Is 65536 rs (2 * (A / 2 ^ (k + 1) % B) + A / 2 ^ k % 2)) (hw : Like wr' w1) :
    RDivInv w m A B k (.slice ro rs.length rc) wr' := by
  obtain ⟨e1, e2⟩ := (rdiv_next A B k hB).2 hlt
  refine ⟨hw.below (hb.trans (hb1.mono hb.size)), ⟨q, (hq.below hb1 hq.lt).alike hw, hl, ho, ?_⟩, ro, rc, rs, rfl, hlr, hat.same hw.1, ?_⟩
  · rw [hn, e1]
    generalize A / 2 ^ (k + 1) / B = Q
    rw [Nat.pow_succ, Nat.mul_comm (2 ^ k) 2, ← Nat.mul_assoc, Nat.mul_comm Q 2]
  · rw [e2]; exact his

theorem RDivInv.put {w wr w1 wr' : World} {m A B k j s : Nat} {q : List Nat} {ro : Option Addr} {rc : Nat} {rs : List Nat} (hB : 0 < B) (hb : Below w.heap.size w wr) (hq : Row .u32 34 wr w.heap.size q) (hl : q.length = m) (ho : Ok 65536 q) (hn : num 65536 q = A / 2 ^ (k + 1) / B * 2 ^ (k + 1))
    (hk : k = 16 * j + s) (hs : s ≤ 15) (hj : j < m) (hge : B ≤ 2 * (A / 2 ^ (k + 1) % B) + A / 2 ^ k % 2) (hb1 : Below wr.heap.size wr w1) (hlr : rs.length ≤ rc) (hat : At .u32 w1 ro rs) (his : Is 65536 rs (2 * (A / 2 ^ (k + 1) % B) + A / 2 ^ k % 2 - B))
    (hnw : ∀ b o, ro = some ⟨b, o, none⟩ → w.heap.size < b) (hw : Like wr' (w1.setCell ⟨w.heap.size, j, none⟩ (.int .u32 ((dg q j ||| 2 ^ s : Nat) : Int)))) :
    RDivInv w m A B k (.slice ro rs.length rc) wr' := by
  obtain ⟨e1, e2⟩ := (rdiv_next A B k hB).1 hge
  obtain ⟨b1, b2⟩ := set_bit (ho j) hs (low_zero ho hs (by rw [hn, hk]))
  have hbw := hb.trans (hb1.mono hb.size)
  have hat' : ∀ u, At .u32 (w1.setCell ⟨w.heap.size, j, none⟩ u) ro rs := by
    intro u
    rcases hat with h | ⟨b, o, h1, h2, h3⟩
    · exact .inl h
    · have hne := hnw b o h1
      refine .inr ⟨b, o, h1, by simpa [World.setCell] using h2, fun i hi => ?_⟩
      rw [World.cell?_of_block (w := w1) (Below.heap_setCell _ _ _ _ (by show b ≠ w.heap.size; omega))]
      exact h3 i hi
  refine ⟨hw.below (hbw.setCell (Nat.le_refl _) _), ⟨q.set j (dg q j ||| 2 ^ s), ((hq.below hb1 hq.lt).set j _).alike hw, by simp [hl], ho.set (by omega) (by rw [b1]; exact b2), ?_⟩, ro, rc, rs, rfl, hlr, (hat' _).same hw.1, ?_⟩
  · have h := num_set 65536 q j (dg q j ||| 2 ^ s) (by omega)
    rw [b1, Nat.add_mul] at h
    have e3 : 2 ^ s * 65536 ^ j = 2 ^ k := by rw [pow16j, ← Nat.pow_add, hk, Nat.add_comm]
    rw [b1, e1, Nat.add_mul, Nat.one_mul]
    have e4 : 2 * (A / 2 ^ (k + 1) / B) * 2 ^ k = A / 2 ^ (k + 1) / B * 2 ^ (k + 1) := by
      generalize A / 2 ^ (k + 1) / B = Q
      rw [Nat.pow_succ, Nat.mul_comm (2 ^ k) 2, ← Nat.mul_assoc, Nat.mul_comm Q 2]
    rw [e4, ← hn]
    omega
  · rw [e2]; exact his

/-- What the reference's DivMod answers. -/
def RDivPost (w : World) (m p q r : Nat) (e : Ending) (w' : World) : Prop :=
  ∃ ao ca ys bo cb zs, e = .returned (.tuple #[.slice ao ys.length ca, .slice bo zs.length cb]) ∧ ys.length ≤ ca ∧ zs.length ≤ cb ∧ At .u32 w' ao ys ∧ At .u32 w' bo zs ∧ Is 65536 ys q ∧ Is 65536 zs r ∧ ys.length ≤ m ∧ zs.length ≤ p ∧ Below w.heap.size w w'

theorem lit32 (w : World) : At .u32 (w.alloc (.cells #[.int .u32 1] 34)) (some ⟨w.heap.size, 0, none⟩) [1] :=
  Row.at (k := .u32) (e := 34) (heap_alloc_new w _)

theorem ok1 : Ok 65536 [1] := by
  intro i
  rcases i with _ | i
  · simp [dg]
  · rw [dg_out (by simp)]; omega

end Go.Proofs.YtlhekeifffofjaaGreatDoor

namespace Go.Proofs.YtlhekeifffofjaaGreatDoor
open Go.RowKit

theorem wrap2s {s : Nat} (hs : s ≤ 15) : IntKind.u32.wrap ((2 : Int) ^ s) = ((2 ^ s : Nat) : Int) := by
  have := pow_lt16 hs
  rw [IntKind.wrap_u32', show (2 : Int) ^ s = ((2 ^ s : Nat) : Int) by push_cast; rfl]
  generalize 2 ^ s = p at *
  omega

theorem and1u (a : Nat) (ha : a < 4294967296) : bits .and .u32 (a : Int) 1 = ((a % 2 : Nat) : Int) := by
  have h := u32_and_nat a 1 ha (by omega)
  rw [Nat.and_one_is_mod] at h
  exact h

set_option maxRecDepth 100000 in
set_option maxHeartbeats 1000000 in
theorem rdivmod_at (b o m ca lb cb : Nat) (bo : Option Addr) (xs ys : List Nat) (w : World) (hm : m ≤ 10000000) (hlb : lb ≤ 10000000) (hlbc : lb ≤ cb) (hx : xs.length = m) (hy : ys.length = lb) (hb : b < w.heap.size)
    (hcell : ∀ i, i < m → w.cell? ⟨b, o + i, none⟩ = some (.int .u32 ((dg xs i : Nat) : Int))) (ox : Ok 65536 xs) (hay : At .u32 w bo ys) (oy : Ok 65536 ys) (ty : Top ys) (hB : 0 < num 65536 ys) :
    Calls Tryz.prog 30 #[.slice (some ⟨b, o, none⟩) m ca, .slice bo lb cb] w (RDivPost w m lb (num 65536 xs / num 65536 ys) (num 65536 xs % num 65536 ys)) := by
  obtain ⟨i0, hi, hz0, hz1, hz2⟩ := info_parts Tryz.infoD
  obtain ⟨A, hA⟩ : ∃ A, A = num 65536 xs := ⟨_, rfl⟩
  obtain ⟨B, hBB⟩ : ∃ B, B = num 65536 ys := ⟨_, rfl⟩
  rw [← hA, ← hBB]
  rw [← hBB] at hB
  have HB : Hid (B = num 65536 ys) := hBB
  have HA : Hid (A = num 65536 xs) := hA
  have HAL : Hid (A < 2 ^ (16 * m)) := by rw [hA, ← pow16j, ← hx]; exact num_lt ox
  have HTY : Hid (Top ys) := ty
  have HC : Hid (∀ i, i < m → w.cell? ⟨b, o + i, none⟩ = some (.int .u32 ((dg xs i : Nat) : Int))) := hcell
  clear hA hBB ty hcell
  go_enter Tryz.func30, Tryz.ntmps30
  go_wp2_with (at_make; refine wpList_make_full _ rfl _ _ 46 rfl w.heap.size 34 i0 (.int .u32 0) 1 Tryz.underlying46 hi hz0 hz1 _ _ _ _ m rfl rfl (by omega) (by omega) (by rw [hz2]; omega) (by unfold maxLen; omega) (Nat.le_refl _) ?_)
  intro w1 hown hgrow
  have hr1 : Row .u32 34 w1 w.heap.size (List.replicate m 0) := Row.made hown
  have hb1 : Below w.heap.size w w1 := (Below.refl _ _).grown hgrow (Nat.le_refl _) (fun k hk => by cases hk)
  clear hown hgrow
  go_wp2
  go_loopw [7, 8] (fun v i wr => ∃ k : Nat, k ≤ 16 * m ∧ i = .int .i64 ((k : Int) - 1) ∧ RDivInv w m A B k v wr) (fun _ i _ => (intOf i + 1).toNat)
  case atStart =>
    have e0 : A / 2 ^ (16 * m) = 0 := Nat.div_eq_of_lt HAL.out
    refine ⟨16 * m, Nat.le_refl _, congrArg (Value.int IntKind.i64) (by omega), hb1.alloc hb1.size _, ⟨_, hr1.alloc _, by simp, Ok.replicate (by omega) _, ?_⟩, _, 0, [], rfl, Nat.le_refl _, At.nil _ _ _, ?_⟩
    · rw [num_replicate, e0, Nat.zero_div, Nat.zero_mul]
    · rw [e0, Nat.zero_mod]; exact Is.none (by omega)
  case round =>
    clear hb1 hr1
    obtain ⟨k, hk, rfl, hinv⟩ := hrel
    obtain ⟨q, hq, hql, hqo, hqn⟩ := hinv.quo
    obtain ⟨ro, rc, rs, rfl, hrc, hrat, hris⟩ := hinv.rst
    have hbr := hinv.bel
    have hrl : rs.length ≤ lb := by
      rw [← hy]
      refine len_le (b := 65536) (by omega) oy hris.2.1 ?_
      rw [hris.2.2, ← HB.out]; exact Nat.le_of_lt (Nat.mod_lt _ hB)
    rcases k with _ | k
    · rw [Nat.pow_zero, Nat.div_one, Nat.mul_one] at hqn
      rw [Nat.pow_zero, Nat.div_one] at hris
      obtain ⟨t1, ht1⟩ : ∃ q', q' = (trimmed q).length := ⟨_, rfl⟩
      have T1 : Hid ((trimmed q).length = t1) := ht1.symm
      have HL : Hid (q.length = m) := hql
      have htl : t1 ≤ m := by rw [ht1, ← hql]; exact length_trimmed_le q
      have HQN : Hid (num 65536 q = A / B) := hqn
      have RL : Hid (rs.length ≤ lb) := hrl
      clear ht1 hql hqn hinv hrl HC
      go_wp2_with fail
      refine (rtrim_to _ m m t1 q _ (Nat.le_refl _) (by omega) HL.out hq.at T1.out).mono ?_
      rintro e w' ⟨rfl, rfl⟩
      go_wp2
      go_ret2
      refine ⟨some ⟨w.heap.size, 0, none⟩, m, trimmed q, ro, rc, rs, by rw [T1.out]; rfl, by rw [T1.out]; exact htl, hrc, hq.at.trimmed, hrat, ?_, hris, by rw [T1.out]; exact htl, RL.out, hbr⟩
      rw [← HQN.out]; exact Is.trimmed hqo
    · obtain ⟨j, hj⟩ : ∃ j, j = k / 16 := ⟨_, rfl⟩
      obtain ⟨s, hs⟩ : ∃ s, s = k % 16 := ⟨_, rfl⟩
      have hks : k = 16 * j + s := by omega
      have hs15 : s ≤ 15 := by omega
      have hjm : j < m := by omega
      have q1 : (k : Int) / 16 = (j : Int) := by omega
      have q2 : (k : Int) % 16 = (s : Int) := by omega
      have t1 : (j : Int) < (m : Int) := by omega
      have hbit : A / 2 ^ k % 2 = dg xs j / 2 ^ s % 2 := by rw [HA.out, hks]; exact bit_at ox hs15
      have c0 : wr.cell? ⟨b, o + j, none⟩ = some (.int .u32 ((dg xs j : Nat) : Int)) := (hbr.cell hb).trans (HC.out j hjm)
      obtain ⟨x, hxj⟩ : ∃ x, x = dg xs j := ⟨_, rfl⟩
      have hxl : x < 65536 := by rw [hxj]; exact ox j
      rw [← hxj] at hbit c0
      obtain ⟨u, hu⟩ : ∃ u, u = x / 2 ^ s := ⟨_, rfl⟩
      have hul : u < 65536 := by rw [hu]; exact Nat.lt_of_le_of_lt (Nat.div_le_self _ _) hxl
      have m0 : (x : Int) / 2 ^ s = (u : Int) := by rw [hu]; push_cast; rfl
      have m1 := and1u u (by omega)
      rw [← hu] at hbit
      rw [← hbit] at m1
      have td : Int.tdiv (k : Int) 16 = (j : Int) := by rw [Int.tdiv_eq_ediv_of_nonneg (by omega)]; exact q1
      have tm : Int.tmod (k : Int) 16 = (s : Int) := by rw [Int.tmod_eq_emod_of_nonneg (by omega)]; exact q2
      have wj : IntKind.i64.wrap (j : Int) = (j : Int) := by simp [IntKind.wrap, IntKind.bits, IntKind.signed]; omega
      have ws : IntKind.i64.wrap (s : Int) = (s : Int) := by simp [IntKind.wrap, IntKind.bits, IntKind.signed]; omega
      have hb2 := Nat.mod_lt (A / 2 ^ k) (show 0 < 2 by omega)
      have stay := fun w1 wr' ro rc rs h0 h1 h2 h3 h4 h5 => RDivInv.stay (w := w) (wr := wr) (w1 := w1) (wr' := wr') (m := m) (A := A) (B := B) (k := k) (q := q) (ro := ro) (rc := rc) (rs := rs) hB hbr hq hql hqo hqn h0 h1 h2 h3 h4 h5
      have put := fun w1 wr' ro rc rs h0 h1 h2 h3 h4 h5 h6 => RDivInv.put (w := w) (wr := wr) (w1 := w1) (wr' := wr') (m := m) (A := A) (B := B) (k := k) (j := j) (s := s) (q := q) (ro := ro) (rc := rc) (rs := rs) hB hbr hq hql hqo hqn hks hs15 hjm h0 h1 h2 h3 h4 h5 h6
      have hzb := low_zero (xs := q) (j := j) (s := s) (t := A / 2 ^ (k + 1) / B) hqo hs15 (by rw [hqn, hks])
      have hsb := set_bit (hqo j) hs15 hzb
      have hor : bits .or .u32 ((dg q j : Nat) : Int) ((2 ^ s : Nat) : Int) = ((dg q j ||| 2 ^ s : Nat) : Int) := u32_or_nat _ _ (by have := hqo j; omega) (by have := pow_lt16 hs15; omega)
      have hw2 := wrap2s hs15
      obtain ⟨p, hp⟩ : ∃ p, p = 2 ^ s := ⟨_, rfl⟩
      obtain ⟨d, hd⟩ : ∃ d, d = dg q j := ⟨_, rfl⟩
      have c5 := hq.cell j (by omega)
      have f5 := hq.free j
      have hqlt := hq.lt
      have hsz := hbr.size
      rw [← hp] at hor hw2
      rw [← hd] at hor c5
      obtain ⟨v, hv⟩ : ∃ v, v = d ||| p := ⟨_, rfl⟩
      rw [← hv] at hor
      rw [← hd, ← hp, ← hv] at put
      obtain ⟨R, hR⟩ : ∃ R, R = A / 2 ^ (k + 1) % B := ⟨_, rfl⟩
      rw [← hR] at stay put hris
      obtain ⟨bt, hbt⟩ : ∃ bt, bt = A / 2 ^ k % 2 := ⟨_, rfl⟩
      rw [← hbt] at stay put m1 hb2
      have HS := hide32 stay
      have HP := hide32 put
      have HCQ := hide32 c5
      have HFQ := hide32 f5
      have nofz : ∀ w1, Below wr.heap.size wr w1 → Hid (w1.cell? ⟨w.heap.size, j, none⟩ = some (.int .u32 (d : Int)) ∧ w1.frozen? ⟨w.heap.size, j, none⟩ = false) := fun w1 h1 =>
        ⟨(World.cell?_of_block (h1.block _ hqlt)).trans HCQ.out, (World.frozen?_of_block (h1.block _ hqlt)).trans HFQ.out⟩
      have NF := hide32 nofz
      have hayr := hay.below hbr
      have hbwr : b < wr.heap.size := by omega
      have sh := rshl_any ro rs.length rc 1 rs wr (by omega) hrc (by omega) rfl hrat hris.1
      have SH : Hid (Calls Tryz.prog 50 #[.slice ro rs.length rc, .int .i64 1] wr (RPost wr (rs.length + 4097) (R * 2 ^ 1))) := by rw [hris.2.2] at sh; exact sh
      have HK1 : Hid (k + 1 ≤ 16 * m) := hk
      have HRL : Hid (rs.length ≤ lb) := hrl
      clear hj hs hks hbit hxj hu stay put hzb hsb hp hd hv hR hbt c5 f5 nofz sh hinv hq hql hqo hqn hris hrat hk hrl
      go_wp2_with fail
      refine SH.out.mono ?_
      rintro e w2 ⟨o1, c1, y1, rfl, hl1, at1, is1, hm1, hbel⟩
      have hbw := hbel
      have c0' := (hbel.cell hbwr).trans c0
      have hay2 := hayr.below hbel
      have hy1 : y1.length ≤ 20000000 := by have := HRL.out; omega
      clear hbel c0 hayr SH hm1
      have hbt01 : bt = 0 ∨ bt = 1 := by omega
      rcases hbt01 with rfl | rfl
      · rw [show R * 2 ^ 1 = 2 * R + 0 by omega] at is1
        have is2 := is1; have at2 := at1; have hl2 := hl1
        have hy2 : y1.length ≤ 30000000 := by omega
        clear is1 at1 hl1 hy1
        by_cases hge : B ≤ 2 * R + 0
        · obtain ⟨z, hz⟩ : ∃ z, z = cmpN (num 65536 y1) (num 65536 ys) := ⟨_, rfl⟩
          have hz0 : 0 ≤ z := by rw [hz, is2.2.2, ← HB.out]; unfold cmpN; rw [if_neg (by omega)]; split <;> omega
          have CZ : Hid (cmpN (num 65536 y1) (num 65536 ys) = z) := hz.symm
          have hll : lb ≤ y1.length := by rw [← hy]; exact len_le (b := 65536) (by omega) is2.1 HTY.out (by rw [is2.2.2, ← HB.out]; exact hge)
          clear hz
          go_wp2_with fail
          refine (rcmp_any o1 bo y1.length c1 lb cb y1 ys _ hl2 (by omega) hlbc (by omega) rfl hy at2 hay2 is2.1 oy z CZ.out).mono ?_
          rintro e w4 ⟨rfl, hbel⟩
          have hbw4 := hbw.trans (hbel.mono hbw.size)
          have at4 := at2.below hbel; have hay4 := hay2.below hbel
          clear hbel hbw at2 hay2
          go_wp2_with fail
          refine (rsub_new o1 bo y1.length c1 lb cb y1 ys _ (by omega) hll rfl hy at4 hay4 is2.1 oy (by rw [is2.2.2, ← HB.out]; exact hge)).mono ?_
          rintro e w5 ⟨o6, c6, y6, rfl, hl6, at6, is6, hm6, hbel, hnw⟩
          have hbw5 := hbw4.trans (hbel.mono hbw4.size)
          obtain ⟨c7, f7⟩ := (NF.out _ hbw5).out
          have hnw' : Hid (∀ b o, o6 = some ⟨b, o, none⟩ → w.heap.size < b) := fun b o h => by have := hnw b o h; have := hbw4.size; omega
          rw [is2.2.2, ← HB.out] at is6
          have hnx := fun wr' hw => HP.out _ wr' _ _ _ hge hbw5 hl6 at6 is6 hnw'.out hw
          have NX := hide32 hnx
          clear hbel hbw4 hbw5 at4 hay4 at6 is6 is2 hnx hnw hm6 hge
          go_wp2
          go_region
          go_wp2
          go_roundw
          case rel => exact ⟨k, by have := HK1.out; omega, by go_num, NX.out _ ⟨rfl, rfl, rfl, rfl⟩⟩
          case measure => simp [intOf]
        · have CZ : Hid (cmpN (num 65536 y1) (num 65536 ys) = -1) := by rw [is2.2.2, ← HB.out]; show cmpN _ _ = _; unfold cmpN; rw [if_pos (by omega)]
          go_wp2_with fail
          refine (rcmp_any o1 bo y1.length c1 lb cb y1 ys _ hl2 (by omega) hlbc (by omega) rfl hy at2 hay2 is2.1 oy (-1) CZ.out).mono ?_
          rintro e w4 ⟨rfl, hbel⟩
          have hbw4 := hbw.trans (hbel.mono hbw.size)
          have at4 := at2.below hbel
          have hnx := fun wr' hw => HS.out _ wr' _ _ _ hge hbw4 hl2 at4 is2 hw
          have NX := hide32 hnx
          clear hbel hbw hbw4 at2 hay2 at4 is2 hnx hge
          go_wp2
          go_roundw
          case rel => exact ⟨k, by have := HK1.out; omega, by go_num, NX.out _ ⟨rfl, rfl, rfl, rfl⟩⟩
          case measure => simp [intOf]
      · go_wp2_with fail
        have at1' := at1.alloc (Obj.cells #[Value.int IntKind.u32 1] 34)
        have hay3 := hay2.alloc (Obj.cells #[Value.int IntKind.u32 1] 34)
        have hbw1 := hbw.alloc (Nat.le_of_lt (Nat.lt_of_lt_of_le hqlt hbw.size) |> fun _ => hbw.size) (Obj.cells #[Value.int IntKind.u32 1] 34)
        clear at1 hay2 hbw
        refine (radd_any o1 (some ⟨w2.heap.size, 0, none⟩) y1.length c1 1 1 y1 [1] _ (by omega) (by omega) rfl rfl at1' (lit32 w2) is1.1 ok1).mono ?_
        rintro e w3 ⟨o2, c2, y2, rfl, hl2, at2, is2, hm2, hbel⟩
        have hbw := hbw1.trans (hbel.mono hbw1.size)
        have hay2 := hay3.below hbel
        rw [is1.2.2, show num 65536 [1] = 1 from rfl, show R * 2 ^ 1 + 1 = 2 * R + 1 by omega] at is2
        have hy2 : y2.length ≤ 30000000 := by omega
        clear hbel hbw1 hay3 at1' is1 hl1 hm2 hy1
        by_cases hge : B ≤ 2 * R + 1
        · obtain ⟨z, hz⟩ : ∃ z, z = cmpN (num 65536 y2) (num 65536 ys) := ⟨_, rfl⟩
          have hz0 : 0 ≤ z := by rw [hz, is2.2.2, ← HB.out]; unfold cmpN; rw [if_neg (by omega)]; split <;> omega
          have CZ : Hid (cmpN (num 65536 y2) (num 65536 ys) = z) := hz.symm
          have hll : lb ≤ y2.length := by rw [← hy]; exact len_le (b := 65536) (by omega) is2.1 HTY.out (by rw [is2.2.2, ← HB.out]; exact hge)
          clear hz
          go_wp2_with fail
          refine (rcmp_any o2 bo y2.length c2 lb cb y2 ys _ hl2 (by omega) hlbc (by omega) rfl hy at2 hay2 is2.1 oy z CZ.out).mono ?_
          rintro e w4 ⟨rfl, hbel⟩
          have hbw4 := hbw.trans (hbel.mono hbw.size)
          have at4 := at2.below hbel; have hay4 := hay2.below hbel
          clear hbel hbw at2 hay2
          go_wp2_with fail
          refine (rsub_new o2 bo y2.length c2 lb cb y2 ys _ (by omega) hll rfl hy at4 hay4 is2.1 oy (by rw [is2.2.2, ← HB.out]; exact hge)).mono ?_
          rintro e w5 ⟨o6, c6, y6, rfl, hl6, at6, is6, hm6, hbel, hnw⟩
          have hbw5 := hbw4.trans (hbel.mono hbw4.size)
          obtain ⟨c7, f7⟩ := (NF.out _ hbw5).out
          have hnw' : Hid (∀ b o, o6 = some ⟨b, o, none⟩ → w.heap.size < b) := fun b o h => by have := hnw b o h; have := hbw4.size; omega
          rw [is2.2.2, ← HB.out] at is6
          have hnx := fun wr' hw => HP.out _ wr' _ _ _ hge hbw5 hl6 at6 is6 hnw'.out hw
          have NX := hide32 hnx
          clear hbel hbw4 hbw5 at4 hay4 at6 is6 is2 hnx hnw hm6 hge
          go_wp2
          go_region
          go_wp2
          go_roundw
          case rel => exact ⟨k, by have := HK1.out; omega, by go_num, NX.out _ ⟨rfl, rfl, rfl, rfl⟩⟩
          case measure => simp [intOf]
        · have CZ : Hid (cmpN (num 65536 y2) (num 65536 ys) = -1) := by rw [is2.2.2, ← HB.out]; show cmpN _ _ = _; unfold cmpN; rw [if_pos (by omega)]
          go_wp2_with fail
          refine (rcmp_any o2 bo y2.length c2 lb cb y2 ys _ hl2 (by omega) hlbc (by omega) rfl hy at2 hay2 is2.1 oy (-1) CZ.out).mono ?_
          rintro e w4 ⟨rfl, hbel⟩
          have hbw4 := hbw.trans (hbel.mono hbw.size)
          have at4 := at2.below hbel
          have hnx := fun wr' hw => HS.out _ wr' _ _ _ hge hbw4 hl2 at4 is2 hw
          have NX := hide32 hnx
          clear hbel hbw hbw4 at2 hay2 at4 is2 hnx hge
          go_wp2
          go_roundw
          case rel => exact ⟨k, by have := HK1.out; omega, by go_num, NX.out _ ⟨rfl, rfl, rfl, rfl⟩⟩
          case measure => simp [intOf]

end Go.Proofs.YtlhekeifffofjaaGreatDoor

namespace Go.Proofs.YtlhekeifffofjaaGreatDoor
open Go.RowKit

set_option maxHeartbeats 1000000 in
theorem rdivmod_nil (ao bo : Option Addr) (ca lb cb B : Nat) (w : World) :
    Calls Tryz.prog 30 #[.slice ao 0 ca, .slice bo lb cb] w (RDivPost w 0 lb (0 / B) (0 % B)) := by
  obtain ⟨i0, hi, hz0, hz1, hz2⟩ := info_parts Tryz.infoD
  go_enter Tryz.func30, Tryz.ntmps30
  go_wp2_with (at_make; refine wpList_make_full _ rfl _ _ 46 rfl w.heap.size 34 i0 (.int .u32 0) 1 Tryz.underlying46 hi hz0 hz1 _ _ _ _ 0 rfl rfl (by omega) (by omega) (by rw [hz2]; omega) (by unfold maxLen; omega) (Nat.le_refl _) ?_)
  intro w1 hown hgrow
  have hb1 : Below w.heap.size w w1 := (Below.refl _ _).grown hgrow (Nat.le_refl _) (fun k hk => by cases hk)
  clear hown hgrow
  go_wp2
  refine wp_loop_rounds 1 ?_
  rw [rounds_succ]
  go_wp2_with fail
  refine (rtrim_nil _ _ _).mono ?_
  rintro e w' ⟨rfl, rfl⟩
  go_wp2
  go_ret2
  refine ⟨_, _, [], _, _, [], rfl, Nat.zero_le _, Nat.zero_le _, At.nil _ _ _, At.nil _ _ _, ?_, ?_, Nat.zero_le _, Nat.zero_le _, hb1.alloc hb1.size _⟩
  · rw [Nat.zero_div]; exact Is.none (by omega)
  · rw [Nat.zero_mod]; exact Is.none (by omega)

theorem rdivmod_any (ao bo : Option Addr) (la ca lb cb : Nat) (xs ys : List Nat) (w : World) (hla : la ≤ 10000000) (hlb : lb ≤ 10000000) (hlbc : lb ≤ cb) (hx : xs.length = la) (hy : ys.length = lb)
    (hax : At .u32 w ao xs) (hay : At .u32 w bo ys) (ox : Ok 65536 xs) (oy : Ok 65536 ys) (ty : Top ys) (hB : 0 < num 65536 ys) :
    Calls Tryz.prog 30 #[.slice ao la ca, .slice bo lb cb] w (RDivPost w la lb (num 65536 xs / num 65536 ys) (num 65536 xs % num 65536 ys)) := by
  rcases hax with rfl | ⟨b, o, rfl, hb, hc⟩
  · obtain rfl : la = 0 := hx.symm
    exact rdivmod_nil ao bo ca lb cb (num 65536 ys) w
  · exact rdivmod_at b o la ca lb cb bo xs ys w hla hlb hlbc hx hy hb (fun i hi => hc i (by omega)) ox hay oy ty hB

end Go.Proofs.YtlhekeifffofjaaGreatDoor

namespace Go.Proofs.YtlhekeifffofjaaGreatDoor
open Go.RowKit

theorem nr_cmp (a b : Value) (x y : Nat) (z : Int) (w : World) (ha : Nr w a x) (hb : Nr w b y) (hx : Sm x) (hy : Sm y) (hz : cmpN x y = z) : Calls Tryz.prog 26 #[a, b] w fun e w' => e = .returned (.int .i64 z) ∧ Below w.heap.size w w' := by
  obtain ⟨o, c, xs, rfl, h1, h3, h4⟩ := ha
  obtain ⟨o', c', ys, rfl, h1', h3', h4'⟩ := hb
  have l1 := nr_len h4 hx
  have l2 := nr_len h4' hy
  exact rcmp_any o o' _ c _ c' xs ys w h1 (by omega) h1' (by omega) rfl rfl h3 h3' h4.1 h4'.1 z (by rw [h4.2.2, h4'.2.2]; exact hz)

theorem nr_add (a b : Value) (x y : Nat) (w : World) (ha : Nr w a x) (hb : Nr w b y) (hx : Sm x) (hy : Sm y) : Calls Tryz.prog 33 #[a, b] w (NrPost w (x + y)) := by
  obtain ⟨o, c, xs, rfl, h1, h3, h4⟩ := ha
  obtain ⟨o', c', ys, rfl, h1', h3', h4'⟩ := hb
  have l1 := nr_len h4 hx
  have l2 := nr_len h4' hy
  refine (radd_any o o' _ c _ c' xs ys w (by omega) (by omega) rfl rfl h3 h3' h4.1 h4'.1).mono ?_
  intro e w' h
  rw [h4.2.2, h4'.2.2] at h
  exact NrPost.of h

/-- Quotient and rest are answered; the quotient's lowest digit. -/
def NrDiv (w : World) (q r : Nat) (e : Ending) (w' : World) : Prop :=
  ∃ o1 c1 l1 o2 c2 l2, e = .returned (.tuple #[.slice o1 l1 c1, .slice o2 l2 c2]) ∧ Nr w' (.slice o1 l1 c1) q ∧ Nr w' (.slice o2 l2 c2) r ∧ Below w.heap.size w w' ∧ (q ≠ 0 → 0 < l1 ∧ ∃ b f d, o1 = some ⟨b, f, none⟩ ∧ b < w'.heap.size ∧ w'.cell? ⟨b, f, none⟩ = some (.int .u32 ((d : Nat) : Int)) ∧ d < 65536 ∧ d % 2 = q % 2)

theorem num_even {xs : List Nat} : num 65536 xs % 2 = dg xs 0 % 2 := by
  have key : ∀ n, V 65536 (dg xs) (n + 1) % 2 = dg xs 0 % 2 := by
    intro n
    induction n with
    | zero => simp [V]
    | succ n ih =>
      show (V 65536 (dg xs) (n + 1) + dg xs (n + 1) * 65536 ^ (n + 1)) % 2 = _
      have e : dg xs (n + 1) * 65536 ^ (n + 1) = 2 * (dg xs (n + 1) * 65536 ^ n * 32768) := by
        rw [Nat.pow_succ, ← Nat.mul_assoc]; omega
      rw [e]; omega
  unfold num
  rcases hl : xs.length with _ | n
  · have : dg xs 0 = 0 := dg_out (by omega)
    rw [this]; rfl
  · exact key n

theorem nr_div (a b : Value) (x y : Nat) (w : World) (ha : Nr w a x) (hb : Nr w b y) (hx : Sm x) (hy : Sm y) (h0 : y ≠ 0) : Calls Tryz.prog 30 #[a, b] w (NrDiv w (x / y) (x % y)) := by
  obtain ⟨o, c, xs, rfl, h1, h3, h4⟩ := ha
  obtain ⟨o', c', ys, rfl, h1', h3', h4'⟩ := hb
  have l1 := nr_len h4 hx
  have l2 := nr_len h4' hy
  refine (rdivmod_any o o' _ c _ c' xs ys w (by omega) (by omega) h1' rfl rfl h3 h3' h4.1 h4'.1 h4'.2.1 (by rw [h4'.2.2]; omega)).mono ?_
  rintro e w' ⟨ao, ca, qs, bo, cb, rs, rfl, g1, g2, g3, g4, g5, g6, _, _, g7⟩
  rw [h4.2.2, h4'.2.2] at g5 g6
  refine ⟨ao, ca, qs.length, bo, cb, rs.length, rfl, ⟨ao, ca, qs, rfl, g1, g3, g5⟩, ⟨bo, cb, rs, rfl, g2, g4, g6⟩, by first | exact g7 | exact g7.1, fun hq => ?_⟩
  rcases g3 with h | ⟨b, f, rfl, hb, hc⟩
  · exfalso
    rw [h] at g5
    exact hq g5.2.2.symm
  · have hl : 0 < qs.length := by
      rcases hq0 : qs with _ | ⟨z, t⟩
      · rw [hq0] at g5; exact absurd g5.2.2.symm hq
      · simp
    refine ⟨hl, b, f, dg qs 0, rfl, hb, ?_, g5.1 0, ?_⟩
    · exact hc 0 hl
    · rw [← g5.2.2, num_even]

theorem nr_pow10 (n : Int) (k : Nat) (w : World) (hn : n = (k : Int)) (hk : k ≤ 8192) : Calls Tryz.prog 29 #[.int .i64 10, .int .i64 n] w (NrPost w (10 ^ k)) := by
  subst hn
  exact (rpow10 k hk w).mono fun e w' h => NrPost.of h

end Go.Proofs.YtlhekeifffofjaaGreatDoor

namespace Go.Proofs.YtlhekeifffofjaaGreatDoor
open Go.RowKit

theorem num_snoc (b : Nat) (r : List Nat) (y : Nat) : num b (r ++ [y]) = num b r + y * b ^ r.length := by
  unfold num
  rw [List.length_append, List.length_singleton]
  simp only [V]
  have e : dg (r ++ [y]) r.length = y := by simp [dg]
  rw [e, V_congr (f := dg (r ++ [y])) (g := dg r) r.length (fun i hi => by simp [dg, List.getElem?_append_left hi])]

theorem Ok.snoc {b : Nat} {r : List Nat} {y : Nat} (h : Ok b r) (hy : y < b) : Ok b (r ++ [y]) := by
  intro i
  rcases Nat.lt_trichotomy i r.length with h1 | h1 | h1
  · rw [show dg (r ++ [y]) i = dg r i by simp [dg, List.getElem?_append_left h1]]; exact h i
  · rw [show dg (r ++ [y]) i = y by simp [dg, h1]]; exact hy
  · rw [dg_out (by simp; omega)]; omega

theorem carry_put (x b k : Nat) : x % b * b ^ k + x / b * b ^ (k + 1) = x * b ^ k := by
  have h := Nat.div_add_mod x b
  rw [Nat.pow_succ, Nat.mul_comm (b ^ k) b, ← Nat.mul_assoc, ← Nat.add_mul, Nat.mul_comm (x / b) b, Nat.add_comm, h]

theorem times_step {a c d k N S : Nat} (h : S + c * 65536 ^ k = N * 10 + d) :
    S + (a * 10 + c) % 65536 * 65536 ^ k + (a * 10 + c) / 65536 * 65536 ^ (k + 1) = (N + a * 65536 ^ k) * 10 + d := by
  have h1 := carry_put (a * 10 + c) 65536 k
  generalize 65536 ^ (k + 1) = Q at h1 ⊢
  generalize 65536 ^ k = P at h h1 ⊢
  have h2 : (a * 10 + c) * P = a * P * 10 + c * P := by
    rw [Nat.add_mul, Nat.mul_assoc, Nat.mul_comm 10, ← Nat.mul_assoc]
  omega

/-- What times answers: a list of digits, noughts on top or not, that is the number n. -/
def TPost (w : World) (m n : Nat) (e : Ending) (w' : World) : Prop :=
  ∃ ao cap ys, e = .returned (.slice ao (List.length ys) cap) ∧ ys.length ≤ cap ∧ At .u32 w' ao ys ∧ Ok 65536 ys ∧ num 65536 ys = n ∧ ys.length ≤ m ∧ Below w.heap.size w w'

/-- Behind k digits of the first loop. -/
structure TIn (w : World) (xs : List Nat) (d k c : Nat) (v : Value) (wr : World) : Prop where
  small : c ≤ 9
  row : ∃ r, Grows w wr v r ∧ r.length = k ∧ Ok 65536 r ∧ num 65536 r + c * 65536 ^ k = V 65536 (dg xs) k * 10 + d

/-- In the second loop. -/
structure TOut (w : World) (N la c : Nat) (v : Value) (wr : World) : Prop where
  small : c ≤ 9
  row : ∃ r, Grows w wr v r ∧ r.length ≤ la + 1 ∧ (c ≠ 0 → r.length ≤ la) ∧ Ok 65536 r ∧ num 65536 r + c * 65536 ^ r.length = N

theorem TIn.out {w wr : World} {xs : List Nat} {d k c : Nat} {v : Value} (h : TIn w xs d k c v wr) (hk : xs.length = k) : TOut w (num 65536 xs * 10 + d) k c v wr := by
  obtain ⟨h1, r, h2, h3, h4, h5⟩ := h
  refine ⟨h1, r, h2, by omega, fun _ => by omega, h4, ?_⟩
  rw [h3, h5, ← hk]; rfl

set_option maxRecDepth 100000 in
set_option maxHeartbeats 1000000 in
theorem times_any (ao : Option Addr) (la ca d : Nat) (xs : List Nat) (w : World) (hla : la ≤ 1000000) (hd : d ≤ 9) (hx : xs.length = la) (hax : At .u32 w ao xs) (ox : Ok 65536 xs) :
    Calls Tryz.prog 49 #[.slice ao la ca, .int .u32 10, .int .u32 (d : Int)] w (TPost w (la + 1) (num 65536 xs * 10 + d)) := by
  obtain ⟨i0, hi, hz0, hz1, hz2⟩ := info_parts Tryz.infoD
  go_enter Tryz.func49, Tryz.ntmps49
  go_wp2
  go_loopw [7, 8, 9, 10] (fun v cv i _ wr => ∃ k c : Nat, k ≤ la ∧ cv = .int .u64 (c : Int) ∧ i = .int .i64 k ∧ TIn w xs d k c v wr) (fun _ _ i _ _ => la - (intOf i).toNat)
  case atStart => exact ⟨0, d, Nat.zero_le _, rfl, rfl, hd, [], ⟨(Below.refl _ _).alloc (Nat.le_refl _) _, World.ownsRow_lit _ #[] 0 (Nat.le_refl _) (by unfold maxLen; omega) rfl⟩, rfl, (Is.none (by decide)).1, by simp [V, num]⟩
  case round =>
    obtain ⟨k, c, hk, rfl, rfl, hin⟩ := hrel
    have hc9 := hin.small
    by_cases hlt : k < la
    · obtain ⟨r, hgr, hrl, hro, hrn⟩ := hin.row
      have t1 : (k : Int) < (la : Int) := by omega
      obtain ⟨x, hxk⟩ : ∃ x, x = dg xs k := ⟨_, rfl⟩
      have hxl : x < 65536 := by rw [hxk]; exact ox k
      obtain ⟨b1, o1, rfl, hc1⟩ : ∃ b1 o1, ao = some ⟨b1, o1, none⟩ ∧ wr.cell? ⟨b1, o1 + k, none⟩ = some (.int .u32 (x : Int)) := by
        rcases hax.below hgr.1 with h | ⟨b, o, h1, _, h3⟩
        · rw [h] at hx; simp at hx; omega
        · exact ⟨b, o, h1, by rw [hxk]; exact h3 k (by omega)⟩
      have hst := times_step (a := x) hrn
      obtain ⟨y, hy⟩ : ∃ y, y = (x * 10 + c) % 65536 := ⟨_, rfl⟩
      obtain ⟨c', hc'⟩ : ∃ c', c' = (x * 10 + c) / 65536 := ⟨_, rfl⟩
      have hyl : y < 65536 := by rw [hy]; exact Nat.mod_lt _ (by omega)
      have hc9' : c' ≤ 9 := by omega
      rw [← hy, ← hc'] at hst
      have e1 : bits .and .u64 ((x : Int) * 10 + (c : Int)) 65535 % 4294967296 = (y : Int) := by
        rw [show ((x : Int) * 10 + (c : Int)) = ((x * 10 + c : Nat) : Int) by omega, and16 _ (Nat.lt_trans (show x * 10 + c < 1000000 by omega) (by decide)), hy]
      have e2 : ((x : Int) * 10 + (c : Int)) / 65536 = (c' : Int) := by omega
      have hown := hgr.2
      rw [hrl] at hown
      have hsz := hgr.1.size
      have HIN : Hid (∀ v' w1, Grows w w1 v' (r ++ [y]) → TIn w xs d (k + 1) c' v' w1) := by
        intro v' w1 hg
        refine ⟨hc9', _, hg, by simp [hrl], hro.snoc hyl, ?_⟩
        rw [num_snoc, hrl, hst, hxk]; rfl
      have HG : Hid (Grows w wr u7 r) := hgr
      have HRL : Hid (r.length = k) := hrl
      clear hgr hax hst hin hro hrn hy hc' hxk hrl
      go_wp2_with (at_builtin; refine wpList_append_own _ rfl _ _ 46 rfl w.heap.size 34 i0 (.int .u32 0) 1 4 Tryz.underlying46 hi hz0 hz1 hz2 rfl (by decide) _ _ _ rfl (hown.alloc _) ⟨wr.heap.size, 0, none⟩ 1 1 [.int .u32 (y : Int)] rfl rfl ?c1A ?c2A ?c3A ?c4A ?c5A ?_)
      try case c1A => exact new_cell wr _ _
      case c2A => first | exact one_one _ _ | rfl
      case c3A => unfold maxLen; omega
      case c4A => omega
      case c5A => first | (simp; omega) | omega
      intro v' w1 hown' hgrow _
      have hg' := HG.out.step _ (by rw [HRL.out]; exact hown') hgrow
      have HI := hide (HIN.out _ _ hg')
      clear hown hown' hgrow hg' HG HIN e1 HRL
      go_wp2
      go_roundw
      case rel => exact ⟨k + 1, c', by omega, rfl, by go_num, HI.out⟩
      case measure => simp [intOf]; omega
    · obtain rfl : k = la := by omega
      have t1 : ¬ (k : Int) < (k : Int) := by omega
      have HO := hide (hin.out hx)
      obtain ⟨N, hN⟩ : ∃ N, N = num 65536 xs * 10 + d := ⟨_, rfl⟩
      have HN := hide hN
      rw [← hN] at HO
      clear hin hN hax ox
      go_wp2
      go_loopw [7, 8] (fun v cv wr => ∃ c : Nat, cv = .int .u64 (c : Int) ∧ TOut w N k c v wr) (fun _ cv _ => (intOf cv).toNat)
      case atStart => exact ⟨c, rfl, HO.out⟩
      case round =>
        clear HO hc9
        obtain ⟨c, rfl, hout⟩ := hrel
        obtain ⟨r, hgr, hrl, hrc, hro, hrn⟩ := hout.row
        have hc9 := hout.small
        by_cases h0 : c = 0
        · subst h0
          obtain ⟨ao', cp, rfl, hcp, hat⟩ := hgr.at
          have hbel := hgr.1
          have HR : Hid (Ok 65536 r ∧ num 65536 r = N ∧ r.length ≤ k + 1) := ⟨hro, by rw [Nat.zero_mul] at hrn; exact hrn, hrl⟩
          clear hgr hout hro hrn hrc hrl
          go_wp2
          go_ret
          exact ⟨ao', cp, r, rfl, hcp, hat, HR.out.1, HR.out.2.1.trans HN.out, HR.out.2.2, hbel⟩
        · have hpos : (0 : Int) < (c : Int) := by omega
          have hrk := hrc h0
          have hown := hgr.2
          obtain ⟨l, hl⟩ : ∃ l, l = r.length := ⟨_, rfl⟩
          rw [← hl] at hown hrk hrn
          have e1 : bits .and .u64 (c : Int) 65535 % 4294967296 = (c : Int) := by
            rw [and16 _ (Nat.lt_trans (show c < 1000000 by omega) (by decide))]; omega
          have e2 : (c : Int) / 65536 = 0 := by omega
          have hsz := hgr.1.size
          have HIN : Hid (∀ v' w1, Grows w w1 v' (r ++ [c]) → TOut w N k 0 v' w1) := by
            intro v' w1 hg
            refine ⟨by omega, _, hg, by simp; omega, fun h => absurd rfl h, hro.snoc (by omega), ?_⟩
            rw [num_snoc, Nat.zero_mul, ← hl]; exact hrn
          have HG : Hid (Grows w wr u7 r) := hgr
          have HRL : Hid (r.length = l) := hl.symm
          clear hgr hout hro hrn hrc hrl hl
          go_wp2_with (at_builtin; refine wpList_append_own _ rfl _ _ 46 rfl w.heap.size 34 i0 (.int .u32 0) 1 4 Tryz.underlying46 hi hz0 hz1 hz2 rfl (by decide) _ _ _ rfl (hown.alloc _) ⟨wr.heap.size, 0, none⟩ 1 1 [.int .u32 (c : Int)] rfl rfl ?c1B ?c2B ?c3B ?c4B ?c5B ?_)
          try case c1B => exact new_cell wr _ _
          case c2B => first | exact one_one _ _ | rfl
          case c3B => unfold maxLen; omega
          case c4B => omega
          case c5B => first | (simp; omega) | omega
          intro v' w1 hown' hgrow _
          have hg' := HG.out.step _ (by rw [HRL.out]; exact hown') hgrow
          have HI := hide (HIN.out _ _ hg')
          clear hown hown' hgrow hg' HG HIN e1 HRL
          go_wp2
          go_roundw
          case rel => exact ⟨0, rfl, HI.out⟩
          case measure => simp [intOf]; omega

end Go.Proofs.YtlhekeifffofjaaGreatDoor

namespace Go.Proofs.YtlhekeifffofjaaGreatDoor
open Go.RowKit

set_option maxRecDepth 100000 in
set_option maxHeartbeats 1000000 in
theorem rof_any (s : ByteArray) (w : World) (hn : s.size ≤ 100000) (hd : DigB (bys s)) :
    Calls Tryz.prog 28 #[.string s] w (RPost w (s.size + 1) (decV (bys s))) := by
  obtain ⟨n, hnn⟩ : ∃ n, n = s.size := ⟨_, rfl⟩
  have HD : Hid (DigB (bys s)) := hd
  have HL : Hid ((bys s).length = n) := by rw [hnn]; exact bys_len s
  clear hd
  go_enter Tryz.func28, Tryz.ntmps28
  go_wp2
  go_loopw [3, 4] (fun v i wr => ∃ (k : Nat) (o : Option Addr) (c : Nat) (r : List Nat), k ≤ n ∧ i = .int .i64 (k : Int) ∧ v = .slice o r.length c ∧ r.length ≤ c ∧ r.length ≤ k ∧ At .u32 wr o r ∧ Ok 65536 r ∧ num 65536 r = decV ((bys s).take k) ∧ Below w.heap.size w wr) (fun _ i _ => n - (intOf i).toNat)
  case atStart => exact ⟨0, _, _, [], Nat.zero_le _, rfl, rfl, Nat.le_refl _, Nat.le_refl _, At.nil _ _ _, (Is.none (by decide)).1, by simp [decV, num, V], (Below.refl _ _).alloc (Nat.le_refl _) _⟩
  case round =>
    obtain ⟨k, o, c, r, hk, rfl, rfl, hrc, hrk, hat, hro, hrn, hb⟩ := hrel
    by_cases hlt : k < n
    · have hlt' : (k : Int) < (s.size : Int) := by omega
      have hks : k < s.size := by omega
      have hbb := HD.out k (by rw [HL.out]; exact hlt)
      have hg : ∀ h : k < s.size, s[k].toNat = byt (bys s) k := fun h => byt_get s k h
      have hs := decV_succ (bys s) (k := k) (by rw [HL.out]; exact hlt)
      obtain ⟨b, hbe⟩ : ∃ b, b = byt (bys s) k := ⟨_, rfl⟩
      rw [← hbe] at hbb hg hs
      obtain ⟨d, hd⟩ : ∃ d, d = b - 48 := ⟨_, rfl⟩
      rw [← hd, ← hrn] at hs
      have e1 : (b : Int) - 48 = (d : Int) := by omega
      have hd9 : d ≤ 9 := by omega
      have HS := hide hs
      clear hs hrn hbe hd
      go_wp2_with fail
      refine (times_any o r.length c d r _ (by omega) hd9 rfl hat hro).mono ?_
      rintro e w1 ⟨o1, c1, r1, rfl, hl1, hat1, hok1, hn1, hm1, hb1⟩
      rw [← HS.out] at hn1
      have hbw := hb.trans (hb1.mono hb.size)
      have HAT := hide hat1
      have HN1 := hide hn1
      have HBW := hide hbw
      have HOK := hide hok1
      clear hat hro hb hb1 hat1 hn1 hbw hok1 hg
      go_wp2
      go_roundw
      case rel => exact ⟨k + 1, o1, c1, r1, by omega, by go_num, rfl, hl1, by omega, HAT.out, HOK.out, HN1.out, HBW.out⟩
      case measure => simp [intOf]; omega
    · obtain rfl : k = n := by omega
      have hlt' : ¬ (k : Int) < (s.size : Int) := by omega
      have e : (bys s).take k = bys s := List.take_of_length_le (by rw [HL.out]; omega)
      rw [e] at hrn
      have HRN := hide hrn
      have ha := hat.alloc (Obj.cells #[] 34)
      have hb2 := hb.alloc hb.size (Obj.cells #[] 34)
      clear hat hrn e hb
      go_wp2_with fail
      refine (radd_any o _ r.length c 0 0 r [] _ (by omega) (by omega) rfl rfl ha (At.nil _ _ _) hro (Is.none (by decide)).1).mono ?_
      rintro e w1 ⟨o1, c1, r1, rfl, hl1, hat1, his1, hm1, hb1⟩
      rw [HRN.out, show num 65536 [] = 0 from rfl, Nat.add_zero] at his1
      have hbw := hb2.trans (hb1.mono hb2.size)
      clear ha hb2 hb1
      go_wp2
      go_ret
      exact ⟨o1, c1, r1, rfl, hl1, hat1, his1, by omega, hbw⟩

end Go.Proofs.YtlhekeifffofjaaGreatDoor
