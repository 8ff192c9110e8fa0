/-
  What the reference's Add does: the sum, digit by digit.
  Numbers that calls answer in a region that draws its order: where they lie, and what stays.
  What the reference's Add answers lies in new memory.
  What the reference's Make, In, Neg and Same do, and quipulaw02's in and is.
  What the reference's Sub does: the difference, digit by digit, of a number and one that is not above it.
  What the reference's Cmp and SubErr do.
  What the reference's Mul does: the product, digit by digit.
  What the reference's Mul, Add and Cmp of whole numbers do.
  What the reference's Small and Pow do of 5.
  What the reference's Small and Pow do of 10.
  What the reference's times does: a number times 10, and a digit more.
  What the reference's Of does: the number of a row of digits.
  What quipuref05's Of and at do: a whole number times a power of 10.
  What the reference's Shl does.
  What the reference's DivMod does.
  What the reference's DivMod does: the walk.
  What the reference's DivMod does, of any number.
-/
import Derived.Test.YtckijnlolmbdiaaGreatDoorZOut
import Derived.Test.YtckijnlolmbdiaaGreatDoorZB4
import Derived.Laws.BitsAllLaws
import Derived.Test.YtckijnlolmbdiaaGreatDoorZB5
import Derived.Deep.RegionHeld3
import Derived.Deep.DeepCutAuto
import Derived.Test.YtckijnlolmbdiaaGreatDoorZB1
import Derived.Deep.QuietTactic
import Derived.BigQuiet
import Derived.WalkSmall
import Derived.Test.YtckijnlolmbdiaaGreatDoorZB2
namespace Go.Proofs.YtckijnlolmbdiaaGreatDoor
open Go.RowKit

theorem and16u (a : Nat) (ha : a < 4294967296) : bits .and .u32 (a : Int) 65535 = ((a % 65536 : Nat) : Int) := by
  have h := u32_and_nat a 65535 ha (by omega)
  rw [Nat.and_two_pow_sub_one_eq_mod a 16] at h
  exact h

/-- The sum's digits, with the last carry behind them. -/
theorem radd_is {xs ys : List Nat} {n : Nat} (hx : Ok 65536 xs) (hy : Ok 65536 ys) (hnx : xs.length ≤ n) (hny : ys.length ≤ n) :
    Ok 65536 (mk (addD 65536 (dg xs) (dg ys)) n ++ [addC 65536 (dg xs) (dg ys) n]) ∧ num 65536 (mk (addD 65536 (dg xs) (dg ys)) n ++ [addC 65536 (dg xs) (dg ys) n]) = num 65536 xs + num 65536 ys := by
  have hl : (mk (addD 65536 (dg xs) (dg ys)) n ++ [addC 65536 (dg xs) (dg ys) n]).length = n + 1 := by simp [mk]
  have hd : ∀ j, j < n → dg (mk (addD 65536 (dg xs) (dg ys)) n ++ [addC 65536 (dg xs) (dg ys) n]) j = addD 65536 (dg xs) (dg ys) j := by
    intro j hj
    unfold dg
    rw [List.getElem?_append_left (by rw [mk_len]; exact hj)]
    exact dg_mk _ n j hj
  have hn : dg (mk (addD 65536 (dg xs) (dg ys)) n ++ [addC 65536 (dg xs) (dg ys) n]) n = addC 65536 (dg xs) (dg ys) n := by
    unfold dg
    rw [List.getElem?_append_right (by rw [mk_len]; exact Nat.le_refl _), mk_len]; simp
  refine ⟨?_, ?_⟩
  · intro j
    rcases Nat.lt_trichotomy j n with h | h | h
    · rw [hd j h]; exact addD_lt (by omega) _ _ _
    · rw [h, hn]; have := addC_le hx hy n; omega
    · rw [dg_out (by omega)]; omega
  · have h := add_val 65536 (dg xs) (dg ys) n
    rw [num_eq hnx, num_eq hny] at h
    rw [h]
    unfold num
    rw [hl]
    simp only [V]
    rw [hn, V_congr n hd]

set_option maxRecDepth 100000 in
set_option maxHeartbeats 1000000 in
theorem radd_any (ao bo : Option Addr) (la ca lb cb : Nat) (xs ys : List Nat) (w : World) (hla : la ≤ 100000000) (hlb : lb ≤ 100000000) (hx : xs.length = la) (hy : ys.length = lb)
    (hax : At .u32 w ao xs) (hay : At .u32 w bo ys) (ox : Ok 65536 xs) (oy : Ok 65536 ys) :
    Calls Tryz.prog 94 #[.slice ao la ca, .slice bo lb cb] w (RPost w (max la lb + 1) (num 65536 xs + num 65536 ys)) := by
  obtain ⟨i0, hi, hz0, hz1, hz2⟩ := info_parts Tryz.infoD
  obtain ⟨n, hn⟩ : ∃ n, n = max la lb := ⟨_, rfl⟩
  rw [← hn]
  obtain ⟨D, hD⟩ : ∃ D, D = addD 65536 (dg xs) (dg ys) := ⟨_, rfl⟩
  have HDF : Hid (D = addD 65536 (dg xs) (dg ys)) := hD
  have hnl : la ≤ n ∧ lb ≤ n ∧ n ≤ 100000000 := by omega
  have HN : Hid (n = max la lb) := hn
  clear hn hD
  go_enter Tryz.func94, Tryz.ntmps94
  go_wp2
  go_loopw [5, 6, 7] (fun v cv i wr => ∃ k c : Nat, k ≤ n ∧ cv = .int .u32 (c : Int) ∧ i = .int .i64 k ∧ c = addC 65536 (dg xs) (dg ys) k ∧ Grows w wr v (mk D k)) (fun _ _ i _ => n - (intOf i).toNat)
  case atStart => exact ⟨0, 0, Nat.zero_le _, rfl, rfl, rfl, (Below.refl _ _).alloc (Nat.le_refl _) _, World.ownsRow_lit _ #[] 0 (Nat.le_refl _) (by unfold maxLen; omega) rfl⟩
  case round =>
    obtain ⟨k, c, hk, rfl, rfl, hc, hgr⟩ := hrel
    have hcl : c ≤ 1 := by rw [hc]; exact addC_le ox oy k
    have HC : Hid (c = addC 65536 (dg xs) (dg ys) k) := hc
    clear hc
    by_cases hlt : k < n
    · have HG : Hid (Grows w wr u5 (mk D k)) := hgr
      obtain ⟨x, hxk⟩ : ∃ x, x = dg xs k := ⟨_, rfl⟩
      obtain ⟨y, hyk⟩ : ∃ y, y = dg ys k := ⟨_, rfl⟩
      have hxl : x < 65536 := by rw [hxk]; exact ox k
      have hyl : y < 65536 := by rw [hyk]; exact oy k
      have HX : Hid (x = dg xs k) := hxk
      have HY : Hid (y = dg ys k) := hyk
      obtain ⟨d, hdk⟩ : ∃ d, d = (x + y + c) % 65536 := ⟨_, rfl⟩
      obtain ⟨c', hck⟩ : ∃ c', c' = (x + y + c) / 65536 := ⟨_, rfl⟩
      have HD : Hid (d = (x + y + c) % 65536) := hdk
      have HC' : Hid (c' = (x + y + c) / 65536) := hck
      have HC1 : Hid (c' = addC 65536 (dg xs) (dg ys) (k + 1)) := by rw [hck, hxk, hyk, HC.out]; rfl
      have HDD : Hid (d = D k) := by rw [hdk, hxk, hyk, HC.out, HDF.out]; rfl
      have hdl := mk_len D k
      clear hxk hyk hdk hck
      have hor : k < la ∨ k < lb := by have := HN.out; omega
      by_cases ha : k < la
      · by_cases hb : k < lb
        · clear hor
          have t1 : (k : Int) < (la : Int) := by omega
          have t2 : (k : Int) < (lb : Int) := by omega
          obtain ⟨b1, o1, rfl, hc1⟩ : ∃ b1 o1, ao = some ⟨b1, o1, none⟩ ∧ wr.cell? ⟨b1, o1 + k, none⟩ = some (.int .u32 (x : Int)) := by
            rcases hax.below hgr.1 with h | ⟨b, o, h1, _, h3⟩
            · rw [h] at hx; simp at hx; omega
            · exact ⟨b, o, h1, by rw [HX.out]; exact h3 k (by omega)⟩
          obtain ⟨b2, o2, rfl, hc2⟩ : ∃ b2 o2, bo = some ⟨b2, o2, none⟩ ∧ wr.cell? ⟨b2, o2 + k, none⟩ = some (.int .u32 (y : Int)) := by
            rcases hay.below hgr.1 with h | ⟨b, o, h1, _, h3⟩
            · rw [h] at hy; simp at hy; omega
            · exact ⟨b, o, h1, by rw [HY.out]; exact h3 k (by omega)⟩
          have hd : bits .and .u32 ((c : Int) + (x : Int) + (y : Int)) 65535 = (d : Int) := by rw [show ((c : Int) + (x : Int) + (y : Int)) = ((x + y + c : Nat) : Int) by omega, and16u _ (by omega)]; exact congrArg _ HD.out.symm
          have hs : ((c : Int) + (x : Int) + (y : Int)) / 65536 = (c' : Int) := by have := HC'.out; omega
          have hown := hgr.2
          rw [hdl] at hown
          have hsz := hgr.1.size
          clear hgr hax hay
          go_wp2_with (at_builtin; refine wpList_append_own _ rfl _ _ 67 rfl w.heap.size 76 i0 (.int .u32 0) 1 4 Tryz.underlying67 hi hz0 hz1 hz2 rfl (by decide) _ _ _ rfl (hown.alloc _) ⟨wr.heap.size, 0, none⟩ 1 1 [.int .u32 (d : Int)] rfl rfl ?c1A ?c2A ?c3A ?c4A ?c5A ?_)
          try case c1A => exact new_cell wr _ _
          case c2A => first | exact one_one _ _ | rfl
          case c3A => unfold maxLen; omega
          case c4A => omega
          case c5A => first | (simp; omega) | omega
          intro v' w1 hown' hgrow _
          have hg' := HG.out.step _ (by rw [hdl]; exact hown') hgrow
          have HG' : Hid (Grows w w1 v' (mk D (k + 1))) := by show Grows _ _ _ _; rw [mk_succ, ← HDD.out]; exact hg'
          clear hown hown' hgrow hg' HG hd
          go_wp2
          go_roundw
          case rel => exact ⟨k + 1, c', by omega, rfl, by go_num, HC1.out, HG'.out⟩
          case measure => simp [intOf]; omega
        · clear hor
          have t1 : (k : Int) < (la : Int) := by omega
          have t2 : ¬ (k : Int) < (lb : Int) := by omega
          obtain ⟨b1, o1, rfl, hc1⟩ : ∃ b1 o1, ao = some ⟨b1, o1, none⟩ ∧ wr.cell? ⟨b1, o1 + k, none⟩ = some (.int .u32 (x : Int)) := by
            rcases hax.below hgr.1 with h | ⟨b, o, h1, _, h3⟩
            · rw [h] at hx; simp at hx; omega
            · exact ⟨b, o, h1, by rw [HX.out]; exact h3 k (by omega)⟩
          have ey : y = 0 := by rw [HY.out]; exact dg_out (by omega)
          have hd : bits .and .u32 ((c : Int) + (x : Int)) 65535 = (d : Int) := by rw [show ((c : Int) + (x : Int)) = ((x + y + c : Nat) : Int) by omega, and16u _ (by omega)]; exact congrArg _ HD.out.symm
          have hs : ((c : Int) + (x : Int)) / 65536 = (c' : Int) := by have := HC'.out; omega
          clear ey
          have hown := hgr.2
          rw [hdl] at hown
          have hsz := hgr.1.size
          clear hgr hax hay
          go_wp2_with (at_builtin; refine wpList_append_own _ rfl _ _ 67 rfl w.heap.size 76 i0 (.int .u32 0) 1 4 Tryz.underlying67 hi hz0 hz1 hz2 rfl (by decide) _ _ _ rfl (hown.alloc _) ⟨wr.heap.size, 0, none⟩ 1 1 [.int .u32 (d : Int)] rfl rfl ?c1B ?c2B ?c3B ?c4B ?c5B ?_)
          try case c1B => exact new_cell wr _ _
          case c2B => first | exact one_one _ _ | rfl
          case c3B => unfold maxLen; omega
          case c4B => omega
          case c5B => first | (simp; omega) | omega
          intro v' w1 hown' hgrow _
          have hg' := HG.out.step _ (by rw [hdl]; exact hown') hgrow
          have HG' : Hid (Grows w w1 v' (mk D (k + 1))) := by show Grows _ _ _ _; rw [mk_succ, ← HDD.out]; exact hg'
          clear hown hown' hgrow hg' HG hd
          go_wp2
          go_roundw
          case rel => exact ⟨k + 1, c', by omega, rfl, by go_num, HC1.out, HG'.out⟩
          case measure => simp [intOf]; omega
      · have hb : k < lb := by omega
        clear hor
        have t1 : ¬ (k : Int) < (la : Int) := by omega
        have t2 : (k : Int) < (lb : Int) := by omega
        obtain ⟨b2, o2, rfl, hc2⟩ : ∃ b2 o2, bo = some ⟨b2, o2, none⟩ ∧ wr.cell? ⟨b2, o2 + k, none⟩ = some (.int .u32 (y : Int)) := by
          rcases hay.below hgr.1 with h | ⟨b, o, h1, _, h3⟩
          · rw [h] at hy; simp at hy; omega
          · exact ⟨b, o, h1, by rw [HY.out]; exact h3 k (by omega)⟩
        have ex : x = 0 := by rw [HX.out]; exact dg_out (by omega)
        have hd : bits .and .u32 ((c : Int) + (y : Int)) 65535 = (d : Int) := by rw [show ((c : Int) + (y : Int)) = ((x + y + c : Nat) : Int) by omega, and16u _ (by omega)]; exact congrArg _ HD.out.symm
        have hs : ((c : Int) + (y : Int)) / 65536 = (c' : Int) := by have := HC'.out; omega
        clear ex
        have hown := hgr.2
        rw [hdl] at hown
        have hsz := hgr.1.size
        clear hgr hax hay
        go_wp2_with (at_builtin; refine wpList_append_own _ rfl _ _ 67 rfl w.heap.size 76 i0 (.int .u32 0) 1 4 Tryz.underlying67 hi hz0 hz1 hz2 rfl (by decide) _ _ _ rfl (hown.alloc _) ⟨wr.heap.size, 0, none⟩ 1 1 [.int .u32 (d : Int)] rfl rfl ?c1C ?c2C ?c3C ?c4C ?c5C ?_)
        try case c1C => exact new_cell wr _ _
        case c2C => first | exact one_one _ _ | rfl
        case c3C => unfold maxLen; omega
        case c4C => omega
        case c5C => first | (simp; omega) | omega
        intro v' w1 hown' hgrow _
        have hg' := HG.out.step _ (by rw [hdl]; exact hown') hgrow
        have HG' : Hid (Grows w w1 v' (mk D (k + 1))) := by show Grows _ _ _ _; rw [mk_succ, ← HDD.out]; exact hg'
        clear hown hown' hgrow hg' HG hd
        go_wp2
        go_roundw
        case rel => exact ⟨k + 1, c', by omega, rfl, by go_num, HC1.out, HG'.out⟩
        case measure => simp [intOf]; omega
    · obtain rfl : k = n := by omega
      have t1 : ¬ (k : Int) < (la : Int) := by omega
      have t2 : ¬ (k : Int) < (lb : Int) := by omega
      have hdl := mk_len D k
      have HG : Hid (Grows w wr u5 (mk D k)) := hgr
      have hown := hgr.2
      rw [hdl] at hown
      have hsz := hgr.1.size
      have his := radd_is (n := k) ox oy (by omega) (by omega)
      rw [← HDF.out, ← HC.out] at his
      have HI : Hid (Ok 65536 (mk D k ++ [c]) ∧ num 65536 (mk D k ++ [c]) = num 65536 xs + num 65536 ys) := his
      clear hgr his hax hay
      go_wp2_with (at_builtin; refine wpList_append_own _ rfl _ _ 67 rfl w.heap.size 76 i0 (.int .u32 0) 1 4 Tryz.underlying67 hi hz0 hz1 hz2 rfl (by decide) _ _ _ rfl (hown.alloc _) ⟨wr.heap.size, 0, none⟩ 1 1 [.int .u32 (c : Int)] rfl rfl ?c1D ?c2D ?c3D ?c4D ?c5D ?_)
      try case c1D => exact new_cell wr _ _
      case c2D => first | exact one_one _ _ | rfl
      case c3D => unfold maxLen; omega
      case c4D => omega
      case c5D => first | (simp; omega) | omega
      intro v' w1 hown' hgrow _
      have hg' := HG.out.step _ (by rw [hdl]; exact hown') hgrow
      obtain ⟨ao', cp, rfl, hcp, hat⟩ := hg'.at
      have hbel := hg'.1
      obtain ⟨z, hz⟩ : ∃ z, z = mk D k ++ [c] := ⟨_, rfl⟩
      rw [← hz] at hat hcp HI
      have hzl : z.length = k + 1 := by rw [hz]; simp [mk]
      obtain ⟨q, hq⟩ : ∃ q, q = (trimmed z).length := ⟨_, rfl⟩
      have HQ : Hid ((trimmed z).length = q) := hq.symm
      have HZ : Hid (z.length = k + 1) := hzl
      have hqle : q ≤ k + 1 := by rw [hq, ← hzl]; exact length_trimmed_le z
      rw [← hz, hzl]
      rw [hzl] at hcp
      clear hown hown' hgrow hg' HG hz hzl hq
      go_wp2_with fail
      refine (rtrim_to ao' (k + 1) cp q z _ hcp (by omega) HZ.out hat HQ.out).mono ?_
      rintro e w' ⟨rfl, rfl⟩
      go_wp2
      go_ret
      refine ⟨ao', cp, trimmed z, by rw [HQ.out]; rfl, by rw [HQ.out]; omega, hat.trimmed, ?_, by rw [HQ.out]; exact hqle, hbel⟩
      rw [← HI.out.2]; exact Is.trimmed HI.out.1

end Go.Proofs.YtckijnlolmbdiaaGreatDoor

namespace Go.Proofs.YtckijnlolmbdiaaGreatDoor
open Go.RowKit

/-- The numbers x lie at o, in a block from lo on and below hi. -/
def Res (k : IntKind) (W : World) (o : Option Addr) (x : List Nat) (lo hi : Nat) : Prop := At k W o x ∧ ∀ b f, x ≠ [] → o = some ⟨b, f, none⟩ → lo ≤ b ∧ b < hi

theorem Res.below {k : IntKind} {W W' : World} {o : Option Addr} {x : List Nat} {lo hi : Nat} (h : Res k W o x lo hi) (hb : Below W.heap.size W W') : Res k W' o x lo hi := ⟨h.1.below hb, h.2⟩

theorem Res.set {k : IntKind} {W : World} {o : Option Addr} {x : List Nat} {lo hi H i : Nat} (h : Res k W o x lo hi) (hH : H < lo ∨ hi ≤ H) (v : Value) : Res k (W.setCell ⟨H, i, none⟩ v) o x lo hi := by
  refine ⟨?_, h.2⟩
  rcases h.1 with h' | ⟨b, f, h1, h2, h3⟩
  · exact .inl h'
  · by_cases hx : x = []
    · exact .inl hx
    · have h4 := h.2 b f hx h1
      refine .inr ⟨b, f, h1, by simpa [World.setCell] using h2, fun j hj => ?_⟩
      rw [← h3 j hj]
      have hne : H ≠ b := by omega
      refine World.cell?_of_block ?_
      simp [World.setCell, Array.getElem?_modify, hne]

theorem Res.of_own {k : IntKind} {e : TypeId} {W : World} {base m cap : Nat} {o : Option Addr} {x : List Nat} (h : Own k e W base m (.slice o x.length cap) x) (hat : At k W o x) : Res k W o x base W.heap.size := by
  refine ⟨hat, fun b f hx e => ?_⟩
  rcases h with ⟨_, h2⟩ | ⟨g, full, h1, h2, h3, _⟩
  · exact absurd h2 hx
  · simp only [Value.slice.injEq] at h1
    rw [e] at h1
    simp only [Option.some.injEq, Addr.mk.injEq] at h1
    have := h3.lt
    omega

theorem bdrew (w : World) : Below w.heap.size w w.drew := ⟨rfl, rfl, rfl, Nat.le_refl _, fun _ _ => rfl⟩
/-- What a call of whole answers in a region: the number z, in its one form. -/
structure WR (W W' : World) (m : Nat) (z : Int) (s : Bool) (o : Option Addr) (c : Nat) (r : List Nat) : Prop where
  ni : NI s r z
  le : r.length ≤ c
  few : c ≤ m
  res : Res .u64 W' o r W.heap.size W'.heap.size
  bel : Below W.heap.size W W'

theorem WR.of {W W' : World} {m : Nat} {z : Int} {e : Ending} (h : WPost W m z e W') : ∃ s o c r, e = .returned (.agg #[.bool s, .slice o (List.length r) c]) ∧ Hid (WR W W' m z s o c r) := by
  obtain ⟨s, v, r, hs, rfl, hown, his, hb⟩ := h
  obtain ⟨o, c, rfl, h1, h2, h3⟩ := hown.shape
  exact ⟨s, o, c, r, rfl, NI.mk hs his, h1, h2, Res.of_own hown h3, hb⟩

/-- Behind a region that calls twice and lays both answers in variables: block H holds the first, block K the second. -/
structure Both (w W : World) (T : TypeId) (H K : Nat) (x1 y1 x2 y2 : Value) (o1 : Option Addr) (r1 : List Nat) (o2 : Option Addr) (r2 : List Nat) (k : IntKind) : Prop where
  bel : Below w.heap.size w W
  p1 : Pair W H x1 y1 T
  p2 : Pair W K x2 y2 T
  at1 : At k W o1 r1
  at2 : At k W o2 r2

theorem both {w W : World} {T : TypeId} {H K : Nat} {a b c d x1 y1 x2 y2 : Value} {o1 o2 : Option Addr} {r1 r2 : List Nat} {k : IntKind} {l1 h1 l2 h2 : Nat} (hb : Below w.heap.size w W) (p1 : Pair W H a b T) (p2 : Pair W K c d T) (hH : w.heap.size ≤ H) (hK : w.heap.size ≤ K) (hne : H ≠ K)
    (f1 : Res k W o1 r1 l1 h1) (f2 : Res k W o2 r2 l2 h2) (e1 : (H < l1 ∨ h1 ≤ H) ∧ (K < l1 ∨ h1 ≤ K)) (e2 : (H < l2 ∨ h2 ≤ H) ∧ (K < l2 ∨ h2 ≤ K)) :
    Both w ((((W.setCell ⟨H, 0, none⟩ x1).setCell ⟨H, 1, none⟩ y1).setCell ⟨K, 0, none⟩ x2).setCell ⟨K, 1, none⟩ y2) T H K x1 y1 x2 y2 o1 r1 o2 r2 k := by
  refine ⟨(((hb.setCell hH _).setCell hH _).setCell hK _).setCell hK _, ?_, ?_, ?_, ?_⟩
  · exact ((p1.put _ _).other (by exact hne) _).other (by exact hne) _
  · exact ((p2.other (by exact Ne.symm hne) _).other (by exact Ne.symm hne) _).put _ _
  · exact ((((f1.set e1.1 _).set e1.1 _).set e1.2 _).set e1.2 _).1
  · exact ((((f2.set e2.1 _).set e2.1 _).set e2.2 _).set e2.2 _).1

section
variable {w W : World} {T : TypeId} {H : Nat} {a b x1 y1 x2 y2 : Value} {o1 o2 : Option Addr} {r1 r2 : List Nat} {k : IntKind} {l1 h1 l2 h2 : Nat}
end

end Go.Proofs.YtckijnlolmbdiaaGreatDoor

namespace Go.Proofs.YtckijnlolmbdiaaGreatDoor
open Go.RowKit

/-- As RPost, and the digits lie in a block that the call has laid. -/
def RFPost (w : World) (m n : Nat) (e : Ending) (w' : World) : Prop :=
  ∃ ao cap ys, e = .returned (.slice ao (List.length ys) cap) ∧ ys.length ≤ cap ∧ Res .u32 w' ao ys w.heap.size w'.heap.size ∧ Is 65536 ys n ∧ ys.length ≤ m ∧ Below w.heap.size w w'

theorem Grows.fresh {w wr : World} {v : Value} {ys : List Nat} (h : Grows w wr v ys) : ∃ ao cap, v = .slice ao ys.length cap ∧ ys.length ≤ cap ∧ At .u32 wr ao ys ∧ ∀ b f, ys ≠ [] → ao = some ⟨b, f, none⟩ → w.heap.size ≤ b ∧ b < wr.heap.size := by
  obtain ⟨ao, cap, rfl, h1, h2⟩ := h.at
  refine ⟨ao, cap, rfl, h1, h2, fun b f hx e => ?_⟩
  have h3 := h.2.lt b (by rw [e]; rfl)
  exact h3

set_option maxRecDepth 100000 in
set_option maxHeartbeats 1000000 in
theorem radd_fresh (ao bo : Option Addr) (la ca lb cb : Nat) (xs ys : List Nat) (w : World) (hla : la ≤ 100000000) (hlb : lb ≤ 100000000) (hx : xs.length = la) (hy : ys.length = lb)
    (hax : At .u32 w ao xs) (hay : At .u32 w bo ys) (ox : Ok 65536 xs) (oy : Ok 65536 ys) :
    Calls Tryz.prog 94 #[.slice ao la ca, .slice bo lb cb] w (RFPost w (max la lb + 1) (num 65536 xs + num 65536 ys)) := by
  obtain ⟨i0, hi, hz0, hz1, hz2⟩ := info_parts Tryz.infoD
  obtain ⟨n, hn⟩ : ∃ n, n = max la lb := ⟨_, rfl⟩
  rw [← hn]
  obtain ⟨D, hD⟩ : ∃ D, D = addD 65536 (dg xs) (dg ys) := ⟨_, rfl⟩
  have HDF : Hid (D = addD 65536 (dg xs) (dg ys)) := hD
  have hnl : la ≤ n ∧ lb ≤ n ∧ n ≤ 100000000 := by omega
  have HN : Hid (n = max la lb) := hn
  clear hn hD
  go_enter Tryz.func94, Tryz.ntmps94
  go_wp2
  go_loopw [5, 6, 7] (fun v cv i wr => ∃ k c : Nat, k ≤ n ∧ cv = .int .u32 (c : Int) ∧ i = .int .i64 k ∧ c = addC 65536 (dg xs) (dg ys) k ∧ Grows w wr v (mk D k)) (fun _ _ i _ => n - (intOf i).toNat)
  case atStart => exact ⟨0, 0, Nat.zero_le _, rfl, rfl, rfl, (Below.refl _ _).alloc (Nat.le_refl _) _, World.ownsRow_lit _ #[] 0 (Nat.le_refl _) (by unfold maxLen; omega) rfl⟩
  case round =>
    obtain ⟨k, c, hk, rfl, rfl, hc, hgr⟩ := hrel
    have hcl : c ≤ 1 := by rw [hc]; exact addC_le ox oy k
    have HC : Hid (c = addC 65536 (dg xs) (dg ys) k) := hc
    clear hc
    by_cases hlt : k < n
    · have HG : Hid (Grows w wr u5 (mk D k)) := hgr
      obtain ⟨x, hxk⟩ : ∃ x, x = dg xs k := ⟨_, rfl⟩
      obtain ⟨y, hyk⟩ : ∃ y, y = dg ys k := ⟨_, rfl⟩
      have hxl : x < 65536 := by rw [hxk]; exact ox k
      have hyl : y < 65536 := by rw [hyk]; exact oy k
      have HX : Hid (x = dg xs k) := hxk
      have HY : Hid (y = dg ys k) := hyk
      obtain ⟨d, hdk⟩ : ∃ d, d = (x + y + c) % 65536 := ⟨_, rfl⟩
      obtain ⟨c', hck⟩ : ∃ c', c' = (x + y + c) / 65536 := ⟨_, rfl⟩
      have HD : Hid (d = (x + y + c) % 65536) := hdk
      have HC' : Hid (c' = (x + y + c) / 65536) := hck
      have HC1 : Hid (c' = addC 65536 (dg xs) (dg ys) (k + 1)) := by rw [hck, hxk, hyk, HC.out]; rfl
      have HDD : Hid (d = D k) := by rw [hdk, hxk, hyk, HC.out, HDF.out]; rfl
      have hdl := mk_len D k
      clear hxk hyk hdk hck
      have hor : k < la ∨ k < lb := by have := HN.out; omega
      by_cases ha : k < la
      · by_cases hb : k < lb
        · clear hor
          have t1 : (k : Int) < (la : Int) := by omega
          have t2 : (k : Int) < (lb : Int) := by omega
          obtain ⟨b1, o1, rfl, hc1⟩ : ∃ b1 o1, ao = some ⟨b1, o1, none⟩ ∧ wr.cell? ⟨b1, o1 + k, none⟩ = some (.int .u32 (x : Int)) := by
            rcases hax.below hgr.1 with h | ⟨b, o, h1, _, h3⟩
            · rw [h] at hx; simp at hx; omega
            · exact ⟨b, o, h1, by rw [HX.out]; exact h3 k (by omega)⟩
          obtain ⟨b2, o2, rfl, hc2⟩ : ∃ b2 o2, bo = some ⟨b2, o2, none⟩ ∧ wr.cell? ⟨b2, o2 + k, none⟩ = some (.int .u32 (y : Int)) := by
            rcases hay.below hgr.1 with h | ⟨b, o, h1, _, h3⟩
            · rw [h] at hy; simp at hy; omega
            · exact ⟨b, o, h1, by rw [HY.out]; exact h3 k (by omega)⟩
          have hd : bits .and .u32 ((c : Int) + (x : Int) + (y : Int)) 65535 = (d : Int) := by rw [show ((c : Int) + (x : Int) + (y : Int)) = ((x + y + c : Nat) : Int) by omega, and16u _ (by omega)]; exact congrArg _ HD.out.symm
          have hs : ((c : Int) + (x : Int) + (y : Int)) / 65536 = (c' : Int) := by have := HC'.out; omega
          have hown := hgr.2
          rw [hdl] at hown
          have hsz := hgr.1.size
          clear hgr hax hay
          go_wp2_with (at_builtin; refine wpList_append_own _ rfl _ _ 67 rfl w.heap.size 76 i0 (.int .u32 0) 1 4 Tryz.underlying67 hi hz0 hz1 hz2 rfl (by decide) _ _ _ rfl (hown.alloc _) ⟨wr.heap.size, 0, none⟩ 1 1 [.int .u32 (d : Int)] rfl rfl ?c1A ?c2A ?c3A ?c4A ?c5A ?_)
          try case c1A => exact new_cell wr _ _
          case c2A => first | exact one_one _ _ | rfl
          case c3A => unfold maxLen; omega
          case c4A => omega
          case c5A => first | (simp; omega) | omega
          intro v' w1 hown' hgrow _
          have hg' := HG.out.step _ (by rw [hdl]; exact hown') hgrow
          have HG' : Hid (Grows w w1 v' (mk D (k + 1))) := by show Grows _ _ _ _; rw [mk_succ, ← HDD.out]; exact hg'
          clear hown hown' hgrow hg' HG hd
          go_wp2
          go_roundw
          case rel => exact ⟨k + 1, c', by omega, rfl, by go_num, HC1.out, HG'.out⟩
          case measure => simp [intOf]; omega
        · clear hor
          have t1 : (k : Int) < (la : Int) := by omega
          have t2 : ¬ (k : Int) < (lb : Int) := by omega
          obtain ⟨b1, o1, rfl, hc1⟩ : ∃ b1 o1, ao = some ⟨b1, o1, none⟩ ∧ wr.cell? ⟨b1, o1 + k, none⟩ = some (.int .u32 (x : Int)) := by
            rcases hax.below hgr.1 with h | ⟨b, o, h1, _, h3⟩
            · rw [h] at hx; simp at hx; omega
            · exact ⟨b, o, h1, by rw [HX.out]; exact h3 k (by omega)⟩
          have ey : y = 0 := by rw [HY.out]; exact dg_out (by omega)
          have hd : bits .and .u32 ((c : Int) + (x : Int)) 65535 = (d : Int) := by rw [show ((c : Int) + (x : Int)) = ((x + y + c : Nat) : Int) by omega, and16u _ (by omega)]; exact congrArg _ HD.out.symm
          have hs : ((c : Int) + (x : Int)) / 65536 = (c' : Int) := by have := HC'.out; omega
          clear ey
          have hown := hgr.2
          rw [hdl] at hown
          have hsz := hgr.1.size
          clear hgr hax hay
          go_wp2_with (at_builtin; refine wpList_append_own _ rfl _ _ 67 rfl w.heap.size 76 i0 (.int .u32 0) 1 4 Tryz.underlying67 hi hz0 hz1 hz2 rfl (by decide) _ _ _ rfl (hown.alloc _) ⟨wr.heap.size, 0, none⟩ 1 1 [.int .u32 (d : Int)] rfl rfl ?c1B ?c2B ?c3B ?c4B ?c5B ?_)
          try case c1B => exact new_cell wr _ _
          case c2B => first | exact one_one _ _ | rfl
          case c3B => unfold maxLen; omega
          case c4B => omega
          case c5B => first | (simp; omega) | omega
          intro v' w1 hown' hgrow _
          have hg' := HG.out.step _ (by rw [hdl]; exact hown') hgrow
          have HG' : Hid (Grows w w1 v' (mk D (k + 1))) := by show Grows _ _ _ _; rw [mk_succ, ← HDD.out]; exact hg'
          clear hown hown' hgrow hg' HG hd
          go_wp2
          go_roundw
          case rel => exact ⟨k + 1, c', by omega, rfl, by go_num, HC1.out, HG'.out⟩
          case measure => simp [intOf]; omega
      · have hb : k < lb := by omega
        clear hor
        have t1 : ¬ (k : Int) < (la : Int) := by omega
        have t2 : (k : Int) < (lb : Int) := by omega
        obtain ⟨b2, o2, rfl, hc2⟩ : ∃ b2 o2, bo = some ⟨b2, o2, none⟩ ∧ wr.cell? ⟨b2, o2 + k, none⟩ = some (.int .u32 (y : Int)) := by
          rcases hay.below hgr.1 with h | ⟨b, o, h1, _, h3⟩
          · rw [h] at hy; simp at hy; omega
          · exact ⟨b, o, h1, by rw [HY.out]; exact h3 k (by omega)⟩
        have ex : x = 0 := by rw [HX.out]; exact dg_out (by omega)
        have hd : bits .and .u32 ((c : Int) + (y : Int)) 65535 = (d : Int) := by rw [show ((c : Int) + (y : Int)) = ((x + y + c : Nat) : Int) by omega, and16u _ (by omega)]; exact congrArg _ HD.out.symm
        have hs : ((c : Int) + (y : Int)) / 65536 = (c' : Int) := by have := HC'.out; omega
        clear ex
        have hown := hgr.2
        rw [hdl] at hown
        have hsz := hgr.1.size
        clear hgr hax hay
        go_wp2_with (at_builtin; refine wpList_append_own _ rfl _ _ 67 rfl w.heap.size 76 i0 (.int .u32 0) 1 4 Tryz.underlying67 hi hz0 hz1 hz2 rfl (by decide) _ _ _ rfl (hown.alloc _) ⟨wr.heap.size, 0, none⟩ 1 1 [.int .u32 (d : Int)] rfl rfl ?c1C ?c2C ?c3C ?c4C ?c5C ?_)
        try case c1C => exact new_cell wr _ _
        case c2C => first | exact one_one _ _ | rfl
        case c3C => unfold maxLen; omega
        case c4C => omega
        case c5C => first | (simp; omega) | omega
        intro v' w1 hown' hgrow _
        have hg' := HG.out.step _ (by rw [hdl]; exact hown') hgrow
        have HG' : Hid (Grows w w1 v' (mk D (k + 1))) := by show Grows _ _ _ _; rw [mk_succ, ← HDD.out]; exact hg'
        clear hown hown' hgrow hg' HG hd
        go_wp2
        go_roundw
        case rel => exact ⟨k + 1, c', by omega, rfl, by go_num, HC1.out, HG'.out⟩
        case measure => simp [intOf]; omega
    · obtain rfl : k = n := by omega
      have t1 : ¬ (k : Int) < (la : Int) := by omega
      have t2 : ¬ (k : Int) < (lb : Int) := by omega
      have hdl := mk_len D k
      have HG : Hid (Grows w wr u5 (mk D k)) := hgr
      have hown := hgr.2
      rw [hdl] at hown
      have hsz := hgr.1.size
      have his := radd_is (n := k) ox oy (by omega) (by omega)
      rw [← HDF.out, ← HC.out] at his
      have HI : Hid (Ok 65536 (mk D k ++ [c]) ∧ num 65536 (mk D k ++ [c]) = num 65536 xs + num 65536 ys) := his
      clear hgr his hax hay
      go_wp2_with (at_builtin; refine wpList_append_own _ rfl _ _ 67 rfl w.heap.size 76 i0 (.int .u32 0) 1 4 Tryz.underlying67 hi hz0 hz1 hz2 rfl (by decide) _ _ _ rfl (hown.alloc _) ⟨wr.heap.size, 0, none⟩ 1 1 [.int .u32 (c : Int)] rfl rfl ?c1D ?c2D ?c3D ?c4D ?c5D ?_)
      try case c1D => exact new_cell wr _ _
      case c2D => first | exact one_one _ _ | rfl
      case c3D => unfold maxLen; omega
      case c4D => omega
      case c5D => first | (simp; omega) | omega
      intro v' w1 hown' hgrow _
      have hg' := HG.out.step _ (by rw [hdl]; exact hown') hgrow
      obtain ⟨ao', cp, rfl, hcp, hat, hrs⟩ := hg'.fresh
      have HRS := hide hrs
      clear hrs
      have hbel := hg'.1
      obtain ⟨z, hz⟩ : ∃ z, z = mk D k ++ [c] := ⟨_, rfl⟩
      rw [← hz] at hat hcp HI HRS
      have hzl : z.length = k + 1 := by rw [hz]; simp [mk]
      obtain ⟨q, hq⟩ : ∃ q, q = (trimmed z).length := ⟨_, rfl⟩
      have HQ : Hid ((trimmed z).length = q) := hq.symm
      have HZ : Hid (z.length = k + 1) := hzl
      have hqle : q ≤ k + 1 := by rw [hq, ← hzl]; exact length_trimmed_le z
      rw [← hz, hzl]
      rw [hzl] at hcp
      clear hown hown' hgrow hg' HG hz hzl hq
      go_wp2_with fail
      refine (rtrim_to ao' (k + 1) cp q z _ hcp (by omega) HZ.out hat HQ.out).mono ?_
      rintro e w' ⟨rfl, rfl⟩
      go_wp2
      go_ret
      refine ⟨ao', cp, trimmed z, by rw [HQ.out]; rfl, by rw [HQ.out]; omega, ⟨hat.trimmed, fun b f hx e => HRS.out b f (fun h => hx (by rw [h]; rfl)) e⟩, ?_, by rw [HQ.out]; exact hqle, hbel⟩
      rw [← HI.out.2]; exact Is.trimmed HI.out.1

end Go.Proofs.YtckijnlolmbdiaaGreatDoor

namespace Go.Proofs.YtckijnlolmbdiaaGreatDoor
open Go.RowKit

theorem Res.mono {k : IntKind} {W : World} {o : Option Addr} {x : List Nat} {lo hi lo' hi' : Nat} (h : Res k W o x lo hi) (h1 : lo' ≤ lo) (h2 : hi ≤ hi') : Res k W o x lo' hi' :=
  ⟨h.1, fun b f hx e => by have := h.2 b f hx e; omega⟩

/-- What the reference's functions answer: the number z in its one form, in new memory. -/
def RWPost (w : World) (m : Nat) (z : Int) (e : Ending) (w' : World) : Prop :=
  ∃ s o c r, Hid (s = decide (z < 0)) ∧ e = .returned (.agg #[.bool s, .slice o (List.length r) c]) ∧ List.length r ≤ c ∧ Res .u32 w' o r w.heap.size w'.heap.size ∧ Is 65536 r z.natAbs ∧ r.length ≤ m ∧ Below w.heap.size w w'

theorem zv_lt32 {neg : Bool} {n : Nat} {r : List Nat} (h : Is 65536 r n) : decide (zv neg n < 0) = (neg && decide (0 < r.length)) := by
  cases neg
  · simp [zv]
  · have : (0 < r.length) ↔ n ≠ 0 := by
      constructor
      · intro h1 h2
        have := num_zero (by decide) h.2.1 (h.2.2.trans h2)
        rw [this] at h1; simp at h1
      · intro h1
        rcases hr : r with _ | ⟨x, t⟩
        · rw [hr] at h; exact absurd h.2.2.symm h1
        · simp
    simp only [zv, if_true, Bool.true_and]
    by_cases hn : n = 0
    · subst hn; simp [this]
    · rw [decide_eq_true (by omega), decide_eq_true (this.2 hn)]

theorem results_pairR {fn : Func} {a : Tmp} (h : fn.results = #[.cell a 69]) (tmps : Array Value) (H : Nat) (x y : Value) (w : World) (ht : tmps.getD a undef = .pointer (some ⟨H, 0, none⟩)) (hp : Pair w H x y 69) :
    (results fn tmps).run Tryz.prog w = .ok (.agg #[x, y]) w := by
  have c0 := hp.cell0
  have c1 := hp.cell1
  rw [Array.getD_eq_getD_getElem?] at ht
  simp [results, h, ht, go_sem, c0, c1]

theorem RWPost.ret {w w2 : World} {m lo hi H c : Nat} {z : Int} {s : Bool} {o : Option Addr} {x y : Value} {r : List Nat} (hs : Hid (s = decide (z < 0))) (hle : r.length ≤ c) (hr : Res .u32 w2 o r lo hi) (h1 : w.heap.size ≤ H) (h2 : H < lo) (h3 : hi ≤ w2.heap.size) (his : Is 65536 r z.natAbs) (hm : r.length ≤ m) (hb : Below w.heap.size w w2) :
    RWPost w m z (.returned (.agg #[.bool s, .slice o r.length c])) ((w2.setCell ⟨H, 0, none⟩ x).setCell ⟨H, 1, none⟩ y) :=
  ⟨s, o, c, r, hs, rfl, hle, ((hr.set (.inl h2) _).set (.inl h2) _).mono (by omega) (by simpa [World.setCell] using h3), his, hm, (hb.setCell h1 _).setCell h1 _⟩


set_option maxHeartbeats 1000000 in
theorem rmake_f (o : Option Addr) (l c : Nat) (xs : List Nat) (w : World) (hl : l ≤ 100000000) (hx : xs.length = l) (hax : At .u32 w o xs) (ox : Ok 65536 xs) :
    Calls Tryz.prog 47 #[.bool false, .slice o l c] w (RWPost w (l + 1) (zv false (num 65536 xs))) := by
  have hb0 : Below w.heap.size w ((w.alloc (Obj.cells #[Value.bool false, Value.slice none 0 0] 69)).alloc (Obj.cells #[] 76)) := ((Below.refl _ _).alloc (Nat.le_refl _) _).alloc (by simp) _
  have p0 := (Pair.new w (.bool false) (.slice none 0 0) 69).alloc (Obj.cells #[] 76)
  have ha := (hax.alloc (Obj.cells #[Value.bool false, Value.slice none 0 0] 69)).alloc (Obj.cells #[] 76)
  go_enter Tryz.func47, Tryz.ntmps47
  go_wp2_with fail
  refine (radd_fresh o _ l c 0 0 xs [] _ hl (by omega) hx rfl ha (At.nil _ _ _) ox (Is.none (by decide)).1).mono ?_
  rintro e w1 ⟨o1, c1, r1, rfl, hl1, rs1, is1, hm1, hb1⟩
  rw [show num 65536 [] = 0 from rfl, Nat.add_zero] at is1
  have pr := p0.below hb1 p0.lt
  have hs := zv_lt32 (neg := false) is1
  have hbw := hb0.trans (hb1.mono hb0.size)
  have HS := hide hs
  have RS := hide rs1
  have HBW := hide hbw
  have HIS : Hid (Is 65536 r1 (zv false (num 65536 xs)).natAbs) := by rw [zv_abs]; exact is1
  have q0 := pr.cell0
  have q1 := pr.cell1
  have f0 := pr.free 0
  have f1 := pr.free 1
  have PR := hide pr
  clear hs rs1 hbw is1 hb1 p0 ha hax ox hb0 pr
  go_wp2
  refine bodyPost_ret (results_pairR rfl _ _ _ _ _ rfl (PR.out.put _ _)) rfl ?_
  exact RWPost.ret (s := false) (H := w.heap.size) (by show false = decide _; rw [HS.out]; rfl) hl1 RS.out (Nat.le_refl _) (by simp <;> omega) (Nat.le_refl _) HIS.out (by omega) HBW.out


set_option maxHeartbeats 1000000 in
theorem rmake_t (o : Option Addr) (l c : Nat) (xs : List Nat) (w : World) (hl : l ≤ 100000000) (hx : xs.length = l) (hax : At .u32 w o xs) (ox : Ok 65536 xs) :
    Calls Tryz.prog 47 #[.bool true, .slice o l c] w (RWPost w (l + 1) (zv true (num 65536 xs))) := by
  have hb0 : Below w.heap.size w ((w.alloc (Obj.cells #[Value.bool false, Value.slice none 0 0] 69)).alloc (Obj.cells #[] 76)) := ((Below.refl _ _).alloc (Nat.le_refl _) _).alloc (by simp) _
  have p0 := (Pair.new w (.bool false) (.slice none 0 0) 69).alloc (Obj.cells #[] 76)
  have ha := (hax.alloc (Obj.cells #[Value.bool false, Value.slice none 0 0] 69)).alloc (Obj.cells #[] 76)
  go_enter Tryz.func47, Tryz.ntmps47
  go_wp2_with fail
  refine (radd_fresh o _ l c 0 0 xs [] _ hl (by omega) hx rfl ha (At.nil _ _ _) ox (Is.none (by decide)).1).mono ?_
  rintro e w1 ⟨o1, c1, r1, rfl, hl1, rs1, is1, hm1, hb1⟩
  rw [show num 65536 [] = 0 from rfl, Nat.add_zero] at is1
  have pr := p0.below hb1 p0.lt
  have hs := zv_lt32 (neg := true) is1
  have hbw := hb0.trans (hb1.mono hb0.size)
  have HS := hide hs
  have RS := hide rs1
  have HBW := hide hbw
  have HIS : Hid (Is 65536 r1 (zv true (num 65536 xs)).natAbs) := by rw [zv_abs]; exact is1
  have q0 := pr.cell0
  have q1 := pr.cell1
  have f0 := pr.free 0
  have f1 := pr.free 1
  have PR := hide pr
  clear hs rs1 hbw is1 hb1 p0 ha hax ox hb0 pr
  go_wp2
  refine bodyPost_ret (results_pairR rfl _ _ _ _ _ rfl (PR.out.put _ _)) rfl ?_
  exact RWPost.ret (s := decide (0 < r1.length)) (H := w.heap.size) (by show decide (0 < r1.length) = decide _; rw [HS.out]; rfl) hl1 RS.out (Nat.le_refl _) (by simp <;> omega) (Nat.le_refl _) HIS.out (by omega) HBW.out


theorem rmake (neg : Bool) (o : Option Addr) (l c : Nat) (xs : List Nat) (w : World) (hl : l ≤ 100000000) (hx : xs.length = l) (hax : At .u32 w o xs) (ox : Ok 65536 xs) :
    Calls Tryz.prog 47 #[.bool neg, .slice o l c] w (RWPost w (l + 1) (zv neg (num 65536 xs))) := by
  cases neg
  · exact rmake_f o l c xs w hl hx hax ox
  · exact rmake_t o l c xs w hl hx hax ox

/-- A sign and digits are the number z, in whatever form. -/
def NV32 (s : Bool) (x : List Nat) (z : Int) : Prop := Ok 65536 x ∧ zv s (num 65536 x) = z
/-- A sign and digits are the number z in its one form. -/
def NI32 (s : Bool) (x : List Nat) (z : Int) : Prop := s = decide (z < 0) ∧ Is 65536 x z.natAbs

theorem NI32.nv {s : Bool} {x : List Nat} {z : Int} (h : NI32 s x z) : NV32 s x z := by
  refine ⟨h.2.1, ?_⟩
  rw [h.2.2.2, h.1]
  unfold zv
  by_cases hz : z < 0
  · simp [hz]; omega
  · simp [hz]; omega

theorem NI32.mk {s : Bool} {x : List Nat} {z : Int} (h : Hid (s = decide (z < 0))) (hi : Is 65536 x z.natAbs) : NI32 s x z := ⟨h.out, hi⟩

end Go.Proofs.YtckijnlolmbdiaaGreatDoor

namespace Go.Proofs.YtckijnlolmbdiaaGreatDoor
open Go.RowKit

theorem rsub_is {xs ys : List Nat} {n : Nat} (hx : Ok 65536 xs) (hy : Ok 65536 ys) (hnx : xs.length = n) (hny : ys.length ≤ n) (hle : num 65536 ys ≤ num 65536 xs) :
    Ok 65536 (mk (subD 65536 (dg xs) (dg ys)) n) ∧ num 65536 (mk (subD 65536 (dg xs) (dg ys)) n) = num 65536 xs - num 65536 ys := by
  refine ⟨?_, ?_⟩
  · intro j
    by_cases h : j < n
    · rw [dg_mk _ _ _ h]; exact Nat.mod_lt _ (by omega)
    · rw [dg_out (by rw [mk_len]; omega)]; omega
  · have h := sub_val hx hy n
    have h0 := (V_sub_lt hx hy n).2 (by rw [num_eq (xs := xs) (by omega), num_eq hny]; exact hle)
    rw [num_eq (xs := xs) (by omega), num_eq hny, h0] at h
    have e : num 65536 (mk (subD 65536 (dg xs) (dg ys)) n) = V 65536 (subD 65536 (dg xs) (dg ys)) n := by
      unfold num; rw [mk_len]; exact V_congr n (fun i hi => dg_mk _ n i hi)
    rw [e]; omega

/-- As RPost, and the answer is new memory. -/
def RNew (w : World) (m n : Nat) (e : Ending) (w' : World) : Prop :=
  ∃ ao cap ys, e = .returned (.slice ao ys.length cap) ∧ ys.length ≤ cap ∧ At .u32 w' ao ys ∧ Is 65536 ys n ∧ ys.length ≤ m ∧ Below w.heap.size w w' ∧ ∀ b o, ao = some ⟨b, o, none⟩ → w.heap.size ≤ b

theorem Grows.new {w wr : World} {v : Value} {ys : List Nat} (h : Grows w wr v ys) : ∀ b o l c, v = .slice (some ⟨b, o, none⟩) l c → w.heap.size ≤ b := by
  rcases h.2.2 with ⟨rfl, _⟩ | ⟨g, cap, cur, rfl, hgb, _⟩
  · intro b o l c h; cases h
  · intro b o l c h
    simp only [Value.slice.injEq, Option.some.injEq, Addr.mk.injEq] at h
    omega

set_option maxRecDepth 100000 in
set_option maxHeartbeats 1000000 in
theorem rsub_new (ao bo : Option Addr) (la ca lb cb : Nat) (xs ys : List Nat) (w : World) (hla : la ≤ 100000000) (hlb : lb ≤ la) (hx : xs.length = la) (hy : ys.length = lb)
    (hax : At .u32 w ao xs) (hay : At .u32 w bo ys) (ox : Ok 65536 xs) (oy : Ok 65536 ys) (hle : num 65536 ys ≤ num 65536 xs) :
    Calls Tryz.prog 162 #[.slice ao la ca, .slice bo lb cb] w (RNew w la (num 65536 xs - num 65536 ys)) := by
  obtain ⟨i0, hi, hz0, hz1, hz2⟩ := info_parts Tryz.infoD
  obtain ⟨D, hD⟩ : ∃ D, D = subD 65536 (dg xs) (dg ys) := ⟨_, rfl⟩
  have HDF : Hid (D = subD 65536 (dg xs) (dg ys)) := hD
  have HLE : Hid (num 65536 ys ≤ num 65536 xs) := hle
  clear hD hle
  go_enter Tryz.func162, Tryz.ntmps162
  go_wp2
  go_loopw [5, 6, 7] (fun v cv i wr => ∃ k c : Nat, k ≤ la ∧ cv = .int .u32 (c : Int) ∧ i = .int .i64 k ∧ c = subC 65536 (dg xs) (dg ys) k ∧ Grows w wr v (mk D k)) (fun _ _ i _ => la - (intOf i).toNat)
  case atStart => exact ⟨0, 0, Nat.zero_le _, rfl, rfl, rfl, (Below.refl _ _).alloc (Nat.le_refl _) _, World.ownsRow_lit _ #[] 0 (Nat.le_refl _) (by unfold maxLen; omega) rfl⟩
  case round =>
    obtain ⟨k, c, hk, rfl, rfl, hc, hgr⟩ := hrel
    have hcl : c ≤ 1 := by rw [hc]; exact subC_le k
    have HC : Hid (c = subC 65536 (dg xs) (dg ys) k) := hc
    clear hc
    by_cases hlt : k < la
    · have HG : Hid (Grows w wr u5 (mk D k)) := hgr
      obtain ⟨x, hxk⟩ : ∃ x, x = dg xs k := ⟨_, rfl⟩
      obtain ⟨y, hyk⟩ : ∃ y, y = dg ys k := ⟨_, rfl⟩
      have hxl : x < 65536 := by rw [hxk]; exact ox k
      have hyl : y < 65536 := by rw [hyk]; exact oy k
      have HX : Hid (x = dg xs k) := hxk
      have HY : Hid (y = dg ys k) := hyk
      obtain ⟨d, hdk⟩ : ∃ d, d = (x + 65536 - y - c) % 65536 := ⟨_, rfl⟩
      obtain ⟨c', hck⟩ : ∃ c', c' = if x < y + c then 1 else 0 := ⟨_, rfl⟩
      have HD : Hid (d = (x + 65536 - y - c) % 65536) := hdk
      have HC' : Hid (c' = if x < y + c then 1 else 0) := hck
      have HC1 : Hid (c' = subC 65536 (dg xs) (dg ys) (k + 1)) := by rw [hck, hxk, hyk, HC.out]; rfl
      have HDD : Hid (d = D k) := by rw [hdk, hxk, hyk, HC.out, HDF.out]; rfl
      have hdl := mk_len D k
      clear hxk hyk hdk hck
      by_cases hb : k < lb
      · have t1 : (k : Int) < (la : Int) := by omega
        have t2 : (k : Int) < (lb : Int) := by omega
        obtain ⟨b1, o1, rfl, hc1⟩ : ∃ b1 o1, ao = some ⟨b1, o1, none⟩ ∧ wr.cell? ⟨b1, o1 + k, none⟩ = some (.int .u32 (x : Int)) := by
          rcases hax.below hgr.1 with h | ⟨b, o, h1, _, h3⟩
          · rw [h] at hx; simp at hx; omega
          · exact ⟨b, o, h1, by rw [HX.out]; exact h3 k (by omega)⟩
        obtain ⟨b2, o2, rfl, hc2⟩ : ∃ b2 o2, bo = some ⟨b2, o2, none⟩ ∧ wr.cell? ⟨b2, o2 + k, none⟩ = some (.int .u32 (y : Int)) := by
          rcases hay.below hgr.1 with h | ⟨b, o, h1, _, h3⟩
          · rw [h] at hy; simp at hy; omega
          · exact ⟨b, o, h1, by rw [HY.out]; exact h3 k (by omega)⟩
        have hd : bits .and .u32 (65536 + (x : Int) - (c : Int) - (y : Int)) 65535 = (d : Int) := by rw [show (65536 + (x : Int) - (c : Int) - (y : Int)) = ((x + 65536 - y - c : Nat) : Int) by omega, and16u _ (by omega)]; exact congrArg _ HD.out.symm
        have hs : 1 - (65536 + (x : Int) - (c : Int) - (y : Int)) / 65536 = (c' : Int) := by have := HC'.out; split at this <;> omega
        have hown := hgr.2
        rw [hdl] at hown
        have hsz := hgr.1.size
        clear hgr hax hay
        go_wp2_with (at_builtin; refine wpList_append_own _ rfl _ _ 67 rfl w.heap.size 76 i0 (.int .u32 0) 1 4 Tryz.underlying67 hi hz0 hz1 hz2 rfl (by decide) _ _ _ rfl (hown.alloc _) ⟨wr.heap.size, 0, none⟩ 1 1 [.int .u32 (d : Int)] rfl rfl ?c1A ?c2A ?c3A ?c4A ?c5A ?_)
        try case c1A => exact new_cell wr _ _
        case c2A => first | exact one_one _ _ | rfl
        case c3A => unfold maxLen; omega
        case c4A => omega
        case c5A => first | (simp; omega) | omega
        intro v' w1 hown' hgrow _
        have hg' := HG.out.step _ (by rw [hdl]; exact hown') hgrow
        have HG' : Hid (Grows w w1 v' (mk D (k + 1))) := by show Grows _ _ _ _; rw [mk_succ, ← HDD.out]; exact hg'
        clear hown hown' hgrow hg' HG hd
        go_wp2
        go_roundw
        case rel => exact ⟨k + 1, c', by omega, rfl, by go_num, HC1.out, HG'.out⟩
        case measure => simp [intOf]; omega
      · have t1 : (k : Int) < (la : Int) := by omega
        have t2 : ¬ (k : Int) < (lb : Int) := by omega
        obtain ⟨b1, o1, rfl, hc1⟩ : ∃ b1 o1, ao = some ⟨b1, o1, none⟩ ∧ wr.cell? ⟨b1, o1 + k, none⟩ = some (.int .u32 (x : Int)) := by
          rcases hax.below hgr.1 with h | ⟨b, o, h1, _, h3⟩
          · rw [h] at hx; simp at hx; omega
          · exact ⟨b, o, h1, by rw [HX.out]; exact h3 k (by omega)⟩
        have ey : y = 0 := by rw [HY.out]; exact dg_out (by omega)
        have hd : bits .and .u32 (65536 + (x : Int) - (c : Int)) 65535 = (d : Int) := by rw [show (65536 + (x : Int) - (c : Int)) = ((x + 65536 - y - c : Nat) : Int) by omega, and16u _ (by omega)]; exact congrArg _ HD.out.symm
        have hs : 1 - (65536 + (x : Int) - (c : Int)) / 65536 = (c' : Int) := by have := HC'.out; split at this <;> omega
        clear ey
        have hown := hgr.2
        rw [hdl] at hown
        have hsz := hgr.1.size
        clear hgr hax hay
        go_wp2_with (at_builtin; refine wpList_append_own _ rfl _ _ 67 rfl w.heap.size 76 i0 (.int .u32 0) 1 4 Tryz.underlying67 hi hz0 hz1 hz2 rfl (by decide) _ _ _ rfl (hown.alloc _) ⟨wr.heap.size, 0, none⟩ 1 1 [.int .u32 (d : Int)] rfl rfl ?c1B ?c2B ?c3B ?c4B ?c5B ?_)
        try case c1B => exact new_cell wr _ _
        case c2B => first | exact one_one _ _ | rfl
        case c3B => unfold maxLen; omega
        case c4B => omega
        case c5B => first | (simp; omega) | omega
        intro v' w1 hown' hgrow _
        have hg' := HG.out.step _ (by rw [hdl]; exact hown') hgrow
        have HG' : Hid (Grows w w1 v' (mk D (k + 1))) := by show Grows _ _ _ _; rw [mk_succ, ← HDD.out]; exact hg'
        clear hown hown' hgrow hg' HG hd
        go_wp2
        go_roundw
        case rel => exact ⟨k + 1, c', by omega, rfl, by go_num, HC1.out, HG'.out⟩
        case measure => simp [intOf]; omega
    · obtain rfl : k = la := by omega
      have hnew := hgr.new
      obtain ⟨ao', cp, rfl, hcp, hat⟩ := hgr.at
      have HNW : Hid (∀ b o, ao' = some ⟨b, o, none⟩ → w.heap.size ≤ b) := fun b o h => hnew b o _ _ (by rw [h])
      clear hnew
      have hbel := hgr.1
      have his := rsub_is (n := k) ox oy hx (by omega) HLE.out
      rw [← HDF.out] at his
      obtain ⟨z, hz⟩ : ∃ z, z = mk D k := ⟨_, rfl⟩
      have hzl : z.length = k := by rw [hz]; exact mk_len D k
      rw [← hz] at hat hcp his
      have HI : Hid (Ok 65536 z ∧ num 65536 z = num 65536 xs - num 65536 ys) := his
      obtain ⟨q, hq⟩ : ∃ q, q = (trimmed z).length := ⟨_, rfl⟩
      have HQ : Hid ((trimmed z).length = q) := hq.symm
      have HZ : Hid (z.length = k) := hzl
      have hqle : q ≤ k := by rw [hq, ← hzl]; exact length_trimmed_le z
      rw [← hz, hzl]
      rw [hzl] at hcp
      clear hgr hz hzl hq his hax hay
      go_wp2_with fail
      refine (rtrim_to ao' k cp q z _ hcp (by omega) HZ.out hat HQ.out).mono ?_
      rintro e w' ⟨rfl, rfl⟩
      go_wp2
      go_ret
      refine ⟨ao', cp, trimmed z, by rw [HQ.out]; rfl, by rw [HQ.out]; omega, hat.trimmed, ?_, by rw [HQ.out]; exact hqle, hbel, HNW.out⟩
      rw [← HI.out.2]; exact Is.trimmed HI.out.1

theorem rsub_any (ao bo : Option Addr) (la ca lb cb : Nat) (xs ys : List Nat) (w : World) (hla : la ≤ 100000000) (hlb : lb ≤ la) (hx : xs.length = la) (hy : ys.length = lb)
    (hax : At .u32 w ao xs) (hay : At .u32 w bo ys) (ox : Ok 65536 xs) (oy : Ok 65536 ys) (hle : num 65536 ys ≤ num 65536 xs) :
    Calls Tryz.prog 162 #[.slice ao la ca, .slice bo lb cb] w (RPost w la (num 65536 xs - num 65536 ys)) := by
  refine (rsub_new ao bo la ca lb cb xs ys w hla hlb hx hy hax hay ox oy hle).mono ?_
  rintro e w' ⟨a, c, y, h1, h2, h3, h4, h5, h6, _⟩
  exact ⟨a, c, y, h1, h2, h3, h4, h5, h6⟩

end Go.Proofs.YtckijnlolmbdiaaGreatDoor

namespace Go.Proofs.YtckijnlolmbdiaaGreatDoor
open Go.RowKit

theorem cmpN_len {xs ys : List Nat} (ox : Ok 65536 xs) (ty : Top ys) (h : xs.length < ys.length) : cmpN (num 65536 xs) (num 65536 ys) = -1 := by
  unfold cmpN
  rw [if_pos]
  rcases Nat.lt_or_ge (num 65536 xs) (num 65536 ys) with e | e
  · exact e
  · have := len_le (by omega) ox ty e; omega

set_option maxRecDepth 100000 in
set_option maxHeartbeats 1000000 in
/-- Two lists without noughts on top, of unlike length. -/
theorem rcmp_len (ao bo : Option Addr) (la ca lb cb m p : Nat) (w : World) (z : Int) (hz : (m < p ∧ z = -1) ∨ (p < m ∧ z = 1)) (_hm : m ≤ 1000000000) (_hp : p ≤ 1000000000)
    (c1 : ∀ w' : World, w'.heap = w.heap → Calls Tryz.prog 159 #[.slice ao la ca] w' fun e w'' => e = .returned (.slice ao m ca) ∧ w' = w'')
    (c2 : ∀ w' : World, w'.heap = w.heap → Calls Tryz.prog 159 #[.slice bo lb cb] w' fun e w'' => e = .returned (.slice bo p cb) ∧ w' = w'') :
    Calls Tryz.prog 93 #[.slice ao la ca, .slice bo lb cb] w fun e w' => e = .returned (.int .i64 z) ∧ Below w.heap.size w w' := by
  have C1 : Hid (∀ w' : World, w'.heap = w.heap → Calls Tryz.prog 159 #[.slice ao la ca] w' fun e w'' => e = .returned (.slice ao m ca) ∧ w' = w'') := c1
  have C2 : Hid (∀ w' : World, w'.heap = w.heap → Calls Tryz.prog 159 #[.slice bo lb cb] w' fun e w'' => e = .returned (.slice bo p cb) ∧ w' = w'') := c2
  clear c1 c2
  have hne : ((m : Int) != (p : Int)) = true := by rw [bne_iff_ne]; rcases hz with h | h <;> omega
  rcases hz with ⟨h, rfl⟩ | ⟨h, rfl⟩
  · have h1 : (m : Int) < (p : Int) := by omega
    go_enter Tryz.func93, Tryz.ntmps93
    go_wp2_with fail
    refine (C1.out _ rfl).mono ?_
    rintro e w' ⟨rfl, rfl⟩
    go_wp2_with fail
    refine (C2.out _ rfl).mono ?_
    rintro e w' ⟨rfl, rfl⟩
    go_wp2
    go_ret
    exact ⟨rfl, Below.refl _ _⟩
  · have h1 : ¬ (m : Int) < (p : Int) := by omega
    go_enter Tryz.func93, Tryz.ntmps93
    go_wp2_with fail
    refine (C1.out _ rfl).mono ?_
    rintro e w' ⟨rfl, rfl⟩
    go_wp2_with fail
    refine (C2.out _ rfl).mono ?_
    rintro e w' ⟨rfl, rfl⟩
    go_wp2
    go_ret
    exact ⟨rfl, Below.refl _ _⟩

set_option maxRecDepth 100000 in
set_option maxHeartbeats 1000000 in
theorem rcmp_none (ao bo : Option Addr) (la ca lb cb : Nat) (w : World)
    (c1 : ∀ w' : World, w'.heap = w.heap → Calls Tryz.prog 159 #[.slice ao la ca] w' fun e w'' => e = .returned (.slice ao 0 ca) ∧ w' = w'')
    (c2 : ∀ w' : World, w'.heap = w.heap → Calls Tryz.prog 159 #[.slice bo lb cb] w' fun e w'' => e = .returned (.slice bo 0 cb) ∧ w' = w'') :
    Calls Tryz.prog 93 #[.slice ao la ca, .slice bo lb cb] w fun e w' => e = .returned (.int .i64 0) ∧ Below w.heap.size w w' := by
  have C1 : Hid (∀ w' : World, w'.heap = w.heap → Calls Tryz.prog 159 #[.slice ao la ca] w' fun e w'' => e = .returned (.slice ao 0 ca) ∧ w' = w'') := c1
  have C2 : Hid (∀ w' : World, w'.heap = w.heap → Calls Tryz.prog 159 #[.slice bo lb cb] w' fun e w'' => e = .returned (.slice bo 0 cb) ∧ w' = w'') := c2
  clear c1 c2
  go_enter Tryz.func93, Tryz.ntmps93
  go_wp2_with fail
  refine (C1.out _ rfl).mono ?_
  rintro e w' ⟨rfl, rfl⟩
  go_wp2_with fail
  refine (C2.out _ rfl).mono ?_
  rintro e w' ⟨rfl, rfl⟩
  go_wp2
  refine wp_loop_rounds 1 ?_
  rw [rounds_succ]
  go_wp2
  go_ret
  exact ⟨rfl, Below.refl _ _⟩

set_option maxRecDepth 100000 in
set_option maxHeartbeats 1000000 in
theorem rcmp_at (b1 o1 b2 o2 la ca lb cb m : Nat) (xs ys : List Nat) (w : World) (hm : m ≤ 1000000000) (hx : xs.length = m) (hy : ys.length = m)
    (h1 : ∀ i, i < m → w.cell? ⟨b1, o1 + i, none⟩ = some (.int .u32 ((dg xs i : Nat) : Int))) (h2 : ∀ i, i < m → w.cell? ⟨b2, o2 + i, none⟩ = some (.int .u32 ((dg ys i : Nat) : Int)))
    (c1 : ∀ w' : World, w'.heap = w.heap → Calls Tryz.prog 159 #[.slice (some ⟨b1, o1, none⟩) la ca] w' fun e w'' => e = .returned (.slice (some ⟨b1, o1, none⟩) m ca) ∧ w' = w'')
    (c2 : ∀ w' : World, w'.heap = w.heap → Calls Tryz.prog 159 #[.slice (some ⟨b2, o2, none⟩) lb cb] w' fun e w'' => e = .returned (.slice (some ⟨b2, o2, none⟩) m cb) ∧ w' = w'') :
    Calls Tryz.prog 93 #[.slice (some ⟨b1, o1, none⟩) la ca, .slice (some ⟨b2, o2, none⟩) lb cb] w fun e w' => e = .returned (.int .i64 (cmpTo xs ys m)) ∧ Below w.heap.size w w' := by
  have C1 : Hid (∀ w' : World, w'.heap = w.heap → Calls Tryz.prog 159 #[.slice (some ⟨b1, o1, none⟩) la ca] w' fun e w'' => e = .returned (.slice (some ⟨b1, o1, none⟩) m ca) ∧ w' = w'') := c1
  have C2 : Hid (∀ w' : World, w'.heap = w.heap → Calls Tryz.prog 159 #[.slice (some ⟨b2, o2, none⟩) lb cb] w' fun e w'' => e = .returned (.slice (some ⟨b2, o2, none⟩) m cb) ∧ w' = w'') := c2
  clear c1 c2
  obtain ⟨zz, hzz⟩ : ∃ z, z = cmpTo xs ys m := ⟨_, rfl⟩
  rw [← hzz]
  have HZ : Hid (zz = cmpTo xs ys m) := hzz
  have hne : ((m : Int) != (m : Int)) = false := by simp
  clear hzz
  go_enter Tryz.func93, Tryz.ntmps93
  go_wp2_with fail
  refine (C1.out _ rfl).mono ?_
  rintro e w' ⟨rfl, rfl⟩
  go_wp2_with fail
  refine (C2.out _ rfl).mono ?_
  rintro e w' ⟨rfl, rfl⟩
  go_wp2
  go_loopw [5] (fun i wr => ∃ k : Nat, k ≤ m ∧ i = .int .i64 ((k : Int) - 1) ∧ zz = cmpTo xs ys k ∧ Below w.heap.size w wr ∧ wr.heap = w.heap) (fun i _ => (intOf i + 1).toNat)
  case atStart => exact ⟨m, Nat.le_refl _, rfl, HZ.out, Below.refl _ _, rfl⟩
  case round =>
    obtain ⟨k, hk, rfl, hz, hbel, hheap⟩ := hrel
    have HK : Hid (zz = cmpTo xs ys k) := hz
    have HH : Hid (wr.heap = w.heap) := hheap
    clear hz hheap HZ
    rcases k with _ | k
    · go_wp2
      go_ret
      exact ⟨by rw [HK.out]; rfl, hbel⟩
    · have d1 : wr.cell? ⟨b1, o1 + k, none⟩ = some (.int .u32 ((dg xs k : Nat) : Int)) := by rw [World.cell?_of_block (w := w) (by rw [HH.out])]; exact h1 k (by omega)
      have d2 : wr.cell? ⟨b2, o2 + k, none⟩ = some (.int .u32 ((dg ys k : Nat) : Int)) := by rw [World.cell?_of_block (w := w) (by rw [HH.out])]; exact h2 k (by omega)
      have e0 : (k : Int) < (m : Int) := by omega
      obtain ⟨x, hxk⟩ : ∃ x, x = dg xs k := ⟨_, rfl⟩
      obtain ⟨y, hyk⟩ : ∃ y, y = dg ys k := ⟨_, rfl⟩
      have hstep : zz = if x < y then -1 else if y < x then 1 else cmpTo xs ys k := by rw [HK.out, hxk, hyk]; rfl
      rw [← hxk] at d1
      rw [← hyk] at d2
      have HS : Hid (zz = if x < y then -1 else if y < x then 1 else cmpTo xs ys k) := hstep
      clear hxk hyk hstep HK h1 h2 C1 C2
      rcases Nat.lt_trichotomy x y with h | h | h
      · have t1 : (x : Int) < (y : Int) := by omega
        go_wp2
        go_quiet (fail)
        go_wp2
        go_ret
        exact ⟨by rw [HS.out, if_pos h]; rfl, below_drewN hbel _⟩
      · have t1 : ¬ (x : Int) < (y : Int) := by omega
        have t2 : ¬ (y : Int) < (x : Int) := by omega
        have HE : Hid (zz = cmpTo xs ys k) := by rw [HS.out, if_neg (by omega), if_neg (by omega)]; rfl
        clear h
        go_wp2
        go_quiet (fail)
        go_wp2
        go_quiet (fail)
        go_wp2
        go_roundw
        case rel => exact ⟨k, by omega, by go_num, HE.out, below_drewN hbel _, HH.out⟩
        case measure => simp [intOf]
      · have t1 : ¬ (x : Int) < (y : Int) := by omega
        have t2 : (y : Int) < (x : Int) := by omega
        go_wp2
        go_quiet (fail)
        go_wp2
        go_quiet (fail)
        go_wp2
        go_ret
        exact ⟨by rw [HS.out, if_neg (by omega), if_pos h]; rfl, below_drewN (below_drewN hbel _) _⟩

theorem rcmp_any (ao bo : Option Addr) (la ca lb cb : Nat) (xs ys : List Nat) (w : World) (hla : la ≤ ca) (hlal : la ≤ 1000000000) (hlb : lb ≤ cb) (hlbl : lb ≤ 1000000000) (hx : xs.length = la) (hy : ys.length = lb)
    (hax : At .u32 w ao xs) (hay : At .u32 w bo ys) (ox : Ok 65536 xs) (oy : Ok 65536 ys) (z : Int) (hz : cmpN (num 65536 xs) (num 65536 ys) = z) :
    Calls Tryz.prog 93 #[.slice ao la ca, .slice bo lb cb] w fun e w' => e = .returned (.int .i64 z) ∧ Below w.heap.size w w' := by
  have l1 := length_trimmed_le xs
  have l2 := length_trimmed_le ys
  have c1 := fun (w' : World) (h : w'.heap = w.heap) => rtrim_to ao la ca (trimmed xs).length xs w' hla (by omega) hx (hax.same h) rfl
  have c2 := fun (w' : World) (h : w'.heap = w.heap) => rtrim_to bo lb cb (trimmed ys).length ys w' hlb (by omega) hy (hay.same h) rfl
  rw [← num_trimmed 65536 xs, ← num_trimmed 65536 ys] at hz
  rcases Nat.lt_trichotomy (trimmed xs).length (trimmed ys).length with h | h | h
  · exact rcmp_len ao bo la ca lb cb _ _ w z (.inl ⟨h, by rw [← hz]; exact cmpN_len (trimmed_ok ox) (trimmed_top ys) h⟩) (by omega) (by omega) c1 c2
  · rcases hax.trimmed with e1 | ⟨b1, o1, rfl, _, h1⟩
    · have e2 : trimmed ys = [] := List.length_eq_zero_iff.1 (by rw [← h, e1]; rfl)
      rw [e1] at c1
      rw [e2] at c2
      rw [e1, e2] at hz
      have := rcmp_none ao bo la ca lb cb w c1 c2
      rw [← hz]; exact this
    · rcases hay.trimmed with e2 | ⟨b2, o2, rfl, _, h2⟩
      · have e1 : trimmed xs = [] := List.length_eq_zero_iff.1 (by rw [h, e2]; rfl)
        rw [e1] at c1
        rw [e2] at c2
        rw [e1, e2] at hz
        have := rcmp_none _ bo la ca lb cb w c1 c2
        rw [← hz]; exact this
      · rw [← h] at c2
        have := rcmp_at b1 o1 b2 o2 la ca lb cb (trimmed xs).length (trimmed xs) (trimmed ys) w (by omega) rfl h.symm h1 (fun i hi => h2 i (by omega)) c1 c2
        rw [cmpTo_V (trimmed_ok ox) (trimmed_ok oy), num_eq (Nat.le_refl _), num_eq (by omega), hz] at this
        exact this
  · refine rcmp_len ao bo la ca lb cb _ _ w z (.inr ⟨h, ?_⟩) (by omega) (by omega) c1 c2
    have := cmpN_len (trimmed_ok oy) (trimmed_top xs) h
    rw [← hz]
    unfold cmpN at this ⊢
    split at this
    · rw [if_neg (by omega), if_pos (by assumption)]
    · split at this <;> simp at this

end Go.Proofs.YtckijnlolmbdiaaGreatDoor

namespace Go.Proofs.YtckijnlolmbdiaaGreatDoor
open Go.RowKit

/-- Behind k rounds of the inner loop; r0: the row at its start. -/
structure RMulIn (w : World) (r0 : List Nat) (y : Nat → Nat) (x i k c : Nat) (wr : World) : Prop where
  bel : Below w.heap.size w wr
  car : c = mulC 65536 (fun j => dg r0 (i + j)) y x k
  row : ∃ r, Row .u32 76 wr w.heap.size r ∧ r.length = r0.length ∧ Ok 65536 r ∧ (∀ j, i + k ≤ j → dg r j = dg r0 j) ∧
    num 65536 r + c * 65536 ^ (i + k) = num 65536 r0 + V 65536 y k * x * 65536 ^ i

theorem RMulIn.step {w wr wr' : World} {r0 r : List Nat} {y : Nat → Nat} {x i k c : Nat} (hb : Below w.heap.size w wr) (hc : c = mulC 65536 (fun j => dg r0 (i + j)) y x k) (hr : Row .u32 76 wr w.heap.size r) (hl : r.length = r0.length) (ho : Ok 65536 r)
    (hd : ∀ j, i + k ≤ j → dg r j = dg r0 j) (hn : num 65536 r + c * 65536 ^ (i + k) = num 65536 r0 + V 65536 y k * x * 65536 ^ i) (hk : i + k < r0.length)
    (hw : Like wr' (wr.setCell ⟨w.heap.size, i + k, none⟩ (.int .u32 ((mulD 65536 (fun j => dg r0 (i + j)) y x k : Nat) : Int)))) :
    RMulIn w r0 y x i (k + 1) (mulC 65536 (fun j => dg r0 (i + j)) y x (k + 1)) wr' := by
  refine ⟨hw.below (hb.setCell (Nat.le_refl _) _), rfl, _, (hr.set (i + k) _).alike hw, by simp [hl], ho.set (by omega) (mulD_lt (by omega) _ _ _ _), ?_, ?_⟩
  · intro j hj
    rw [dg_set _ _ _ _ (by omega), if_neg (by omega)]
    exact hd j (by omega)
  · subst hc
    exact mul_step (by omega) (hd _ (by omega)) hn

/-- Behind i rounds of the outer loop. -/
structure RMulOut (w : World) (n p : Nat) (x : Nat → Nat) (ny i : Nat) (wr : World) : Prop where
  bel : Below w.heap.size w wr
  row : ∃ r, Row .u32 76 wr w.heap.size r ∧ r.length = n ∧ Ok 65536 r ∧ (∀ j, i + p ≤ j → dg r j = 0) ∧ num 65536 r = V 65536 x i * ny

theorem RMulOut.start {w w1 : World} {n p ny : Nat} {x : Nat → Nat} (hb : Below w.heap.size w w1) (hr : Row .u32 76 w1 w.heap.size (List.replicate n 0)) : RMulOut w n p x ny 0 w1 :=
  ⟨hb, _, hr, by simp, Ok.replicate (by omega) n, fun j _ => dg_replicate n j, by rw [num_replicate]; simp [V]⟩

theorem RMulOut.step {w wr wr' : World} {n p i c : Nat} {x : Nat → Nat} {ys r0 : List Nat} (hp : ys.length = p) (h : RMulIn w r0 (dg ys) (x i) i p c wr) (hl : r0.length = n) (hz : ∀ j, i + p ≤ j → dg r0 j = 0) (hn : num 65536 r0 = V 65536 x i * num 65536 ys) (hk : i + p < n) (hcl : c < 65536)
    (hw : Like wr' (wr.setCell ⟨w.heap.size, i + p, none⟩ (.int .u32 (c : Int)))) : RMulOut w n p x (num 65536 ys) (i + 1) wr' := by
  obtain ⟨r, hr, hl', ho, hd, hv⟩ := h.row
  refine ⟨hw.below (h.bel.setCell (Nat.le_refl _) _), _, (hr.set (i + p) c).alike hw, by simp; omega, ho.set (by omega) hcl, ?_, ?_⟩
  · intro j hj
    rw [dg_set _ _ _ _ (by omega), if_neg (by omega), hd j (by omega)]
    exact hz j (by omega)
  · have e := num_set 65536 r (i + p) c (by omega)
    rw [hd _ (Nat.le_refl _), hz _ (Nat.le_refl _), Nat.zero_mul, Nat.add_zero] at e
    rw [e, hv, hn, num_eq (by omega)]
    simp only [V]
    rw [Nat.add_mul, Nat.mul_comm (num 65536 ys), Nat.mul_assoc (x i), Nat.mul_assoc (x i), Nat.mul_comm (65536 ^ i)]

theorem rmul_math {f x y c : Nat} (hf : f < 65536) (hx : x < 65536) (hy : y < 65536) (hc : c < 65536) (p : Nat) (hp : p = y * x) :
    bits .and .u64 ((f : Int) + (p : Int) + (c : Int)) 65535 % 4294967296 = (((f + y * x + c) % 65536 : Nat) : Int) ∧ ((f : Int) + (p : Int) + (c : Int)) / 65536 = (((f + y * x + c) / 65536 : Nat) : Int) ∧ p < 4294967296 := by
  have hb := mul_bound hf hy hx hc
  have e : (f : Int) + (p : Int) + (c : Int) = ((f + p + c : Nat) : Int) := by omega
  rw [← hp] at hb ⊢
  rw [e]
  refine ⟨and16 _ (Nat.lt_trans hb (by decide)), ?_, by omega⟩
  omega

set_option maxRecDepth 100000 in
set_option maxHeartbeats 1000000 in
theorem rmul_at (b1 o1 la ca lb cb : Nat) (bo : Option Addr) (xs ys : List Nat) (w : World) (hla : la ≤ 100000000) (hlb : lb ≤ 100000000) (hx : xs.length = la) (hy : ys.length = lb) (hb1 : b1 < w.heap.size)
    (h1 : ∀ i, i < la → w.cell? ⟨b1, o1 + i, none⟩ = some (.int .u32 ((dg xs i : Nat) : Int))) (ay : At .u32 w bo ys) (ox : Ok 65536 xs) (oy : Ok 65536 ys) :
    Calls Tryz.prog 90 #[.slice (some ⟨b1, o1, none⟩) la ca, .slice bo lb cb] w (RPost w (la + lb) (num 65536 xs * num 65536 ys)) := by
  obtain ⟨i0, hi, hz0, hz1, hz2⟩ := info_parts Tryz.infoD
  go_enter Tryz.func90, Tryz.ntmps90
  go_wp2_with (at_make; refine wpList_make_full _ rfl _ _ 67 rfl w.heap.size 76 i0 (.int .u32 0) 1 Tryz.underlying67 hi hz0 hz1 _ _ _ _ (la + lb) rfl rfl (by omega) (by omega) (by rw [hz2]; omega) (by unfold maxLen; omega) (Nat.le_refl _) ?_)
  intro w1 hown hgrow
  have hr1 : Row .u32 76 w1 w.heap.size (List.replicate (la + lb) 0) := Row.made hown
  have hbl1 : Below w.heap.size w w1 := (Below.refl _ _).grown hgrow (Nat.le_refl _) (fun k hk => by cases hk)
  clear hown hgrow
  go_wp2
  go_loopw [6, 7, 8, 9] (fun i _ _ _ wr => ∃ k : Nat, k ≤ la ∧ i = .int .i64 k ∧ RMulOut w (la + lb) lb (dg xs) (num 65536 ys) k wr) (fun i _ _ _ _ => la - (intOf i).toNat)
  case atStart => exact ⟨0, Nat.zero_le _, rfl, RMulOut.start hbl1 hr1⟩
  case round =>
    obtain ⟨i, hil, rfl, hout⟩ := hrel
    clear hbl1 hr1
    by_cases hlt : i < la
    · have t1 : (i : Int) < (la : Int) := by omega
      obtain ⟨r0, hr0, hl0, hok0, hz0', hn0⟩ := hout.row
      have hbel0 := hout.bel
      have HO : Hid (RMulOut w (la + lb) lb (dg xs) (num 65536 ys) i wr) := hout
      have HIN : Hid (RMulIn w r0 (dg ys) (dg xs i) i 0 0 wr) := ⟨hbel0, rfl, r0, hr0, rfl, hok0, fun _ _ => rfl, by simp [V]⟩
      have HR0 : Hid (r0.length = la + lb ∧ Ok 65536 r0 ∧ (∀ j, i + lb ≤ j → dg r0 j = 0) ∧ num 65536 r0 = V 65536 (dg xs) i * num 65536 ys) := ⟨hl0, hok0, hz0', hn0⟩
      clear hout hr0 hl0 hok0 hz0' hn0 hbel0
      go_wp2
      go_loopw [7, 8, 9] (fun cv kk _ wr => ∃ k c : Nat, k ≤ lb ∧ cv = .int .u32 (c : Int) ∧ kk = .int .i64 k ∧ RMulIn w r0 (dg ys) (dg xs i) i k c wr) (fun _ kk _ _ => lb - (intOf kk).toNat)
      case atStart => exact ⟨0, 0, Nat.zero_le _, rfl, rfl, HIN.out⟩
      case round =>
        clear HIN HO
        obtain ⟨k, c, hkl, rfl, rfl, hin⟩ := hrel
        obtain ⟨r, hr, hrl, hro, hrd, hrn⟩ := hin.row
        have hbr := hin.bel
        have hcar := hin.car
        have hcl : c < 65536 := by rw [hcar]; exact mulC_lt (by omega) (fun j => HR0.out.2.1 _) oy (ox i) k
        have hrlen : r.length = la + lb := by rw [hrl]; exact HR0.out.1
        obtain ⟨j, hj⟩ : ∃ j, j = i + k := ⟨_, rfl⟩
        have hjl : (j : Int) < ((la + lb : Nat) : Int) := by omega
        have hsum : (i : Int) + (k : Int) = (j : Int) := by omega
        have hwj : IntKind.i64.wrap (j : Int) = (j : Int) := by simp [IntKind.wrap, IntKind.bits, IntKind.signed]; omega
        have c3 := hr.cell (i + k) (by omega)
        have f3 := hr.free (i + k)
        rw [hrd _ (Nat.le_refl _), ← hj] at c3
        rw [← hj] at f3
        by_cases hk : k < lb
        · have t2 : (k : Int) < (lb : Int) := by omega
          have c1 : wr.cell? ⟨b1, o1 + i, none⟩ = some (.int .u32 ((dg xs i : Nat) : Int)) := (hbr.cell hb1).trans (h1 i hlt)
          obtain ⟨b2, o2, rfl, c2⟩ : ∃ b2 o2, bo = some ⟨b2, o2, none⟩ ∧ wr.cell? ⟨b2, o2 + k, none⟩ = some (.int .u32 ((dg ys k : Nat) : Int)) := by
            rcases ay.below hbr with h | ⟨b2, o2, e, _, h2⟩
            · rw [h] at hy; simp at hy; omega
            · exact ⟨b2, o2, e, h2 k (by omega)⟩
          have hst := fun wr' hw => RMulIn.step (wr' := wr') hbr hcar hr hrl hro hrd hrn (by have := HR0.out.1; omega) hw
          obtain ⟨p, hp⟩ : ∃ p, p = dg ys k * dg xs i := ⟨_, rfl⟩
          obtain ⟨m1, m2, m3⟩ := rmul_math (f := dg r0 (i + k)) (x := dg xs i) (y := dg ys k) (c := c) (HR0.out.2.1 _) (ox i) (oy k) hcl p hp
          have eD : mulD 65536 (fun j => dg r0 (i + j)) (dg ys) (dg xs i) k = (dg r0 (i + k) + dg ys k * dg xs i + c) % 65536 := by rw [hcar]; rfl
          have eC : mulC 65536 (fun j => dg r0 (i + j)) (dg ys) (dg xs i) (k + 1) = (dg r0 (i + k) + dg ys k * dg xs i + c) / 65536 := by rw [hcar]; rfl
          rw [← eD] at m1
          rw [← eC] at m2
          obtain ⟨d, hd⟩ : ∃ d, d = mulD 65536 (fun j => dg r0 (i + j)) (dg ys) (dg xs i) k := ⟨_, rfl⟩
          obtain ⟨c', hc'⟩ : ∃ c', c' = mulC 65536 (fun j => dg r0 (i + j)) (dg ys) (dg xs i) (k + 1) := ⟨_, rfl⟩
          rw [← hd] at m1 hst
          rw [← hc'] at m2 hst
          rw [← hj] at hst m1 m2
          obtain ⟨f, hf⟩ : ∃ f, f = dg r0 j := ⟨_, rfl⟩
          obtain ⟨x, hxi⟩ : ∃ x, x = dg xs i := ⟨_, rfl⟩
          obtain ⟨y, hyk⟩ : ∃ y, y = dg ys k := ⟨_, rfl⟩
          have hfl : f < 65536 := by rw [hf]; exact HR0.out.2.1 _
          have hxl : x < 65536 := by rw [hxi]; exact ox i
          have hyl : y < 65536 := by rw [hyk]; exact oy k
          have hpp : (x : Int) * (y : Int) = (p : Int) := by rw [hp, ← hxi, ← hyk, Nat.mul_comm]; exact (Int.natCast_mul x y).symm
          rw [← hf] at c3 m1 m2
          rw [← hxi] at c1
          rw [← hyk] at c2
          have hp4 : p ≤ 4294967295 := by omega
          have HS : Hid (∀ wr', Like wr' (wr.setCell ⟨w.heap.size, j, none⟩ (.int .u32 (d : Int))) → RMulIn w r0 (dg ys) (dg xs i) i (k + 1) c' wr') := hst
          clear hst hin hr hrl hro hrd hrn hcar eD eC hd hc' hf hxi hyk hp hj m3 h1 ay ox oy HR0 hrlen
          go_wp2
          go_quiet (fail)
          go_wp2
          go_roundw
          case rel => exact ⟨k + 1, c', by omega, rfl, by go_num, HS.out _ ⟨rfl, rfl, rfl, rfl⟩⟩
          case measure => simp [intOf]; omega
        · have t2 : ¬ (k : Int) < (lb : Int) := by omega
          obtain rfl : k = lb := by omega
          have hst := fun wr' hw => RMulOut.step (n := la + k) (x := dg xs) (wr' := wr') hy hin HR0.out.1 HR0.out.2.2.1 HR0.out.2.2.2 (by omega) hcl hw
          rw [← hj] at hst
          have HS : Hid (∀ wr', Like wr' (wr.setCell ⟨w.heap.size, j, none⟩ (.int .u32 (c : Int))) → RMulOut w (la + k) k (dg xs) (num 65536 ys) (i + 1) wr') := hst
          clear hst hin hr hrl hro hrd hrn hcar hj h1 ay ox oy HR0 hrlen
          go_wp2
          go_roundw
          case rel => exact ⟨i + 1, by omega, by go_num, HS.out _ ⟨rfl, rfl, rfl, rfl⟩⟩
          case measure => simp [intOf]; omega
    · obtain rfl : i = la := by omega
      obtain ⟨r, hr, hrl, hro, hrz, hrn⟩ := hout.row
      have hbel := hout.bel
      obtain ⟨q, hq⟩ : ∃ q, q = (trimmed r).length := ⟨_, rfl⟩
      have HQ : Hid ((trimmed r).length = q) := hq.symm
      have hqle : q ≤ i + lb := by rw [hq, ← hrl]; exact length_trimmed_le r
      have HL : Hid (r.length = i + lb) := hrl
      have HR : Hid (num 65536 r = num 65536 xs * num 65536 ys) := by rw [← hx] at hrn; exact hrn
      clear hq hrl hrn hrz hout
      go_wp2_with fail
      refine (rtrim_to _ _ _ q r _ (Nat.le_refl _) (by omega) HL.out hr.at HQ.out).mono ?_
      rintro e w' ⟨rfl, rfl⟩
      go_wp2
      go_ret
      refine ⟨_, _, trimmed r, by rw [HQ.out]; rfl, by rw [HQ.out]; exact hqle, hr.at.trimmed, ?_, by rw [HQ.out]; exact hqle, hbel⟩
      rw [← HR.out]; exact Is.trimmed hro

set_option maxRecDepth 100000 in
set_option maxHeartbeats 1000000 in
/-- Nought times a number. -/
theorem rmul_none (ao bo : Option Addr) (ca lb cb : Nat) (w : World) (hlb : lb ≤ 100000000) :
    Calls Tryz.prog 90 #[.slice ao 0 ca, .slice bo lb cb] w (RPost w lb 0) := by
  obtain ⟨i0, hi, hz0, hz1, hz2⟩ := info_parts Tryz.infoD
  obtain ⟨r, hrr⟩ : ∃ r, r = List.replicate lb 0 := ⟨_, rfl⟩
  obtain ⟨q, hq⟩ : ∃ q, q = (trimmed r).length := ⟨_, rfl⟩
  have HL : Hid (r.length = lb) := by rw [hrr]; simp [Hid]
  have hqle : q ≤ lb := by have h := length_trimmed_le r; rw [HL.out, ← hq] at h; exact h
  have HQ : Hid ((trimmed r).length = q) := hq.symm
  have HI : Hid (Is 65536 (trimmed r) 0) := by
    have := Is.trimmed (b := 65536) (xs := r) (by rw [hrr]; exact Ok.replicate (by omega) _)
    rw [hrr, num_replicate] at this
    rw [hrr]; exact this
  have HR : Hid (∀ w1 : World, Row .u32 76 w1 w.heap.size (List.replicate lb 0) → Row .u32 76 w1 w.heap.size r) := by intro w1 h; rw [hrr]; exact h
  clear hrr hq
  go_enter Tryz.func90, Tryz.ntmps90
  go_wp2_with (at_make; refine wpList_make_full _ rfl _ _ 67 rfl w.heap.size 76 i0 (.int .u32 0) 1 Tryz.underlying67 hi hz0 hz1 _ _ _ _ lb rfl rfl (by omega) (by omega) (by rw [hz2]; omega) (by unfold maxLen; omega) (Nat.le_refl _) ?_)
  intro w1 hown hgrow
  have hr1 := HR.out w1 (Row.made hown)
  have hbl1 : Below w.heap.size w w1 := (Below.refl _ _).grown hgrow (Nat.le_refl _) (fun k hk => by cases hk)
  clear hown hgrow HR
  go_wp2
  refine wp_loop_rounds 1 ?_
  rw [rounds_succ]
  go_wp2_with fail
  refine (rtrim_to _ _ _ q r _ (Nat.le_refl _) (by omega) HL.out hr1.at HQ.out).mono ?_
  rintro e w' ⟨rfl, rfl⟩
  go_wp2
  go_ret
  exact ⟨_, _, trimmed r, by rw [HQ.out]; rfl, by rw [HQ.out]; exact hqle, hr1.at.trimmed, HI.out, by rw [HQ.out]; exact hqle, hbl1⟩

theorem rmul_any (ao bo : Option Addr) (la ca lb cb : Nat) (xs ys : List Nat) (w : World) (hla : la ≤ 100000000) (hlb : lb ≤ 100000000) (hx : xs.length = la) (hy : ys.length = lb)
    (hax : At .u32 w ao xs) (hay : At .u32 w bo ys) (ox : Ok 65536 xs) (oy : Ok 65536 ys) :
    Calls Tryz.prog 90 #[.slice ao la ca, .slice bo lb cb] w (RPost w (la + lb) (num 65536 xs * num 65536 ys)) := by
  rcases hax with rfl | ⟨b1, o1, rfl, hb1, h1⟩
  · obtain rfl : la = 0 := hx.symm
    refine (rmul_none ao bo ca lb cb w hlb).mono ?_
    rintro e w' ⟨o', c', z, a1, a2, a3, a4, a5, a6⟩
    refine ⟨o', c', z, a1, a2, a3, ?_, by omega, a6⟩
    rw [show num 65536 [] = 0 from rfl, Nat.zero_mul]; exact a4
  · exact rmul_at b1 o1 la ca lb cb bo xs ys w hla hlb hx hy hb1 (fun i hi => h1 i (by omega)) hay ox oy

end Go.Proofs.YtckijnlolmbdiaaGreatDoor

namespace Go.Proofs.YtckijnlolmbdiaaGreatDoor
open Go.RowKit

set_option maxRecDepth 100000 in
set_option maxHeartbeats 2000000 in
theorem rmulz (s t : Bool) (oa ob : Option Addr) (la ca lb cb : Nat) (xa xb : List Nat) (w : World) (hla : la ≤ 20000000) (hlb : lb ≤ 20000000) (_hlac : la ≤ ca) (_hlbc : lb ≤ cb) (hxa : xa.length = la) (hxb : xb.length = lb) (ata : At .u32 w oa xa) (atb : At .u32 w ob xb) (z u : Int) (hz : Hid (NV32 s xa z)) (hu : Hid (NV32 t xb u)) :
    Calls Tryz.prog 97 #[.agg #[.bool s, .slice oa la ca], .agg #[.bool t, .slice ob lb cb]] w (RWPost w (la + lb + 1) (z * u)) := by
  have ez : z * u = zv (s != t) (num 65536 xa * num 65536 xb) := by rw [zv_mul, hz.out.2, hu.out.2]
  have EZ := hide ez
  clear ez
  go_enter Tryz.func97, Tryz.ntmps97
  go_wp2_with fail
  have hb0 : Below w.heap.size w (((w.alloc (Obj.cells #[Value.bool s, Value.slice oa la ca] 69)).alloc (Obj.cells #[Value.bool t, Value.slice ob lb cb] 69)).alloc (Obj.cells #[Value.bool false, Value.slice none 0 0] 69)) := (((Below.refl _ _).alloc (Nat.le_refl _) _).alloc (by simp) _).alloc (by simp; omega) _
  have pa := ((Pair.new w (.bool s) (.slice oa la ca) 69).alloc (Obj.cells #[Value.bool t, Value.slice ob lb cb] 69)).alloc (Obj.cells #[Value.bool false, Value.slice none 0 0] 69)
  have pb := (Pair.newAt (w.alloc (Obj.cells #[Value.bool s, Value.slice oa la ca] 69)) (w.heap.size + 1) (by simp) (.bool t) (.slice ob lb cb) 69).alloc (Obj.cells #[Value.bool false, Value.slice none 0 0] 69)
  have p4 := Pair.newAt ((w.alloc (Obj.cells #[Value.bool s, Value.slice oa la ca] 69)).alloc (Obj.cells #[Value.bool t, Value.slice ob lb cb] 69)) (w.heap.size + 1 + 1) (by simp) (.bool false) (.slice none 0 0) 69
  have ax := ((ata.alloc (Obj.cells #[Value.bool s, Value.slice oa la ca] 69)).alloc (Obj.cells #[Value.bool t, Value.slice ob lb cb] 69)).alloc (Obj.cells #[Value.bool false, Value.slice none 0 0] 69)
  have ay := ((atb.alloc (Obj.cells #[Value.bool s, Value.slice oa la ca] 69)).alloc (Obj.cells #[Value.bool t, Value.slice ob lb cb] 69)).alloc (Obj.cells #[Value.bool false, Value.slice none 0 0] 69)
  clear ata atb
  generalize (((w.alloc (Obj.cells #[Value.bool s, Value.slice oa la ca] 69)).alloc (Obj.cells #[Value.bool t, Value.slice ob lb cb] 69)).alloc (Obj.cells #[Value.bool false, Value.slice none 0 0] 69)) = w0 at *
  obtain ⟨H4, e4⟩ : ∃ H, H = w.heap.size + 1 + 1 := ⟨_, rfl⟩
  obtain ⟨Hb, eb⟩ : ∃ H, H = w.heap.size + 1 := ⟨_, rfl⟩
  obtain ⟨Ha, ea⟩ : ∃ H, H = w.heap.size := ⟨_, rfl⟩
  rw [← e4] at p4
  rw [← eb] at pb
  rw [← ea] at pa
  simp only [← e4]
  simp only [← eb]
  simp only [← ea]
  have n1 : H4 ≠ Ha := by omega
  have n2 : H4 ≠ Hb := by omega
  have n3 : Ha ≠ H4 := by omega
  have n4 : Hb ≠ H4 := by omega
  have HLE : Hid (w.heap.size ≤ H4) := by show _ ≤ _; omega
  clear e4 eb ea
  have AX := hide (ax.below (bdrew w0))
  have AY := hide (ay.below (bdrew w0))
  have PA := hide (pa.below (bdrew w0) pa.lt)
  have PB := hide (pb.below (bdrew w0) pb.lt)
  have P4 := hide (p4.below (bdrew w0) p4.lt)
  have a0 := pa.cell0
  have a1 := pa.cell1
  have b0 := pb.cell0
  have b1 := pb.cell1
  have HLT : Hid (H4 < w0.heap.size) := p4.lt
  have HB0 := hide (hb0.trans ((bdrew w0).mono hb0.size))
  have bw : Hid (Below w0.drew.heap.size w0.drew w0.drew) := Below.refl _ _
  have mk0 : True := trivial
  clear ax ay pa pb p4 hb0
  go_region_held3 (fun w' => w'.cell? ⟨Ha, 0, none⟩ = some (.bool s) ∧ w'.cell? ⟨Ha, 1, none⟩ = some (.slice oa la ca) ∧ w'.cell? ⟨Hb, 0, none⟩ = some (.bool t) ∧ w'.cell? ⟨Hb, 1, none⟩ = some (.slice ob lb cb)) (go_keep) (first | (clear mk0; go_at_call 90; refine (rmul_any oa ob la ca lb cb xa xb _ (by omega) (by omega) hxa hxb AX.out AY.out hz.out.1 hu.out.1).mono ?_; rintro e v2 ⟨o1, c1, y1, rfl, hl1, at1, is1, hm1, hbel⟩; have AT1 := hide at1; have IS1 := hide is1; clear at1 is1; replace bw : Hid (Below w0.drew.heap.size w0.drew v2) := bw.out.trans (hbel.mono bw.out.size); have hsz := hbel.size; clear hbel; have tPA := PA.out.below bw.out PA.out.lt; replace a0 := tPA.cell0; replace a1 := tPA.cell1; clear tPA; have tPB := PB.out.below bw.out PB.out.lt; replace b0 := tPB.cell0; replace b1 := tPB.cell1; clear tPB; have HV2 : Hid (w0.heap.size ≤ v2.heap.size) := (by have h := bw.out.size; simpa [Hid] using h); clear hsz; have mk1 : True := trivial) | (clear mk1; go_at_call 47; refine (rmake (s != t) o1 y1.length c1 y1 _ (by omega) rfl AT1.out IS1.out.1).mono ?_; rintro e v3 ⟨sg, o2, c2, r2, hs, rfl, hl2, rs2, is2, hm2, hbel⟩; rw [IS1.out.2.2] at hs is2; have F2 := hide rs2; have IS2 := hide is2; clear rs2 is2; replace bw : Hid (Below w0.drew.heap.size w0.drew v3) := bw.out.trans (hbel.mono bw.out.size); have hsz := hbel.size; clear hbel; have tPA := PA.out.below bw.out PA.out.lt; replace a0 := tPA.cell0; replace a1 := tPA.cell1; clear tPA; have tPB := PB.out.below bw.out PB.out.lt; replace b0 := tPB.cell0; replace b1 := tPB.cell1; clear tPB; have p4' := P4.out.below bw.out P4.out.lt; have d0 := p4'.cell0; have d1 := p4'.cell1; have f0 := p4'.free 0; have f1 := p4'.free 1; have P4L := hide p4'; clear p4'; clear hsz))
  have hfin := HB0.out.trans (bw.out.mono HB0.out.size)
  clear a0 a1 b0 b1 PA PB AX AY
  go_wp2
  refine bodyPost_ret (results_pairR rfl _ _ _ _ _ rfl (P4L.out.put _ _)) rfl ?_
  exact RWPost.ret (H := H4) (by rw [EZ.out]; exact hs) hl2 F2.out HLE.out (by have := HLT.out; have := HV2.out; omega) (Nat.le_refl _) (by rw [EZ.out]; exact IS2.out) (by omega) hfin

set_option maxRecDepth 100000 in
set_option maxHeartbeats 2000000 in
theorem raddw_ff (oa ob : Option Addr) (la ca lb cb : Nat) (xa xb : List Nat) (w : World) (hla : la ≤ 20000000) (hlb : lb ≤ 20000000) (_hlac : la ≤ ca) (_hlbc : lb ≤ cb) (hxa : xa.length = la) (hxb : xb.length = lb) (ata : At .u32 w oa xa) (atb : At .u32 w ob xb) (oka : Ok 65536 xa) (okb : Ok 65536 xb)  :
    Calls Tryz.prog 96 #[.agg #[.bool false, .slice oa la ca], .agg #[.bool false, .slice ob lb cb]] w (RWPost w (max la lb + 2) (zv false (num 65536 xa + num 65536 xb))) := by
  go_enter Tryz.func96, Tryz.ntmps96
  go_wp2_with fail
  have hb0 : Below w.heap.size w (((w.alloc (Obj.cells #[Value.bool false, Value.slice oa la ca] 69)).alloc (Obj.cells #[Value.bool false, Value.slice ob lb cb] 69)).alloc (Obj.cells #[Value.bool false, Value.slice none 0 0] 69)) := (((Below.refl _ _).alloc (Nat.le_refl _) _).alloc (by simp) _).alloc (by simp; omega) _
  have pa := ((Pair.new w (.bool false) (.slice oa la ca) 69).alloc (Obj.cells #[Value.bool false, Value.slice ob lb cb] 69)).alloc (Obj.cells #[Value.bool false, Value.slice none 0 0] 69)
  have pb := (Pair.newAt (w.alloc (Obj.cells #[Value.bool false, Value.slice oa la ca] 69)) (w.heap.size + 1) (by simp) (.bool false) (.slice ob lb cb) 69).alloc (Obj.cells #[Value.bool false, Value.slice none 0 0] 69)
  have p4 := Pair.newAt ((w.alloc (Obj.cells #[Value.bool false, Value.slice oa la ca] 69)).alloc (Obj.cells #[Value.bool false, Value.slice ob lb cb] 69)) (w.heap.size + 1 + 1) (by simp) (.bool false) (.slice none 0 0) 69
  have ax := ((ata.alloc (Obj.cells #[Value.bool false, Value.slice oa la ca] 69)).alloc (Obj.cells #[Value.bool false, Value.slice ob lb cb] 69)).alloc (Obj.cells #[Value.bool false, Value.slice none 0 0] 69)
  have ay := ((atb.alloc (Obj.cells #[Value.bool false, Value.slice oa la ca] 69)).alloc (Obj.cells #[Value.bool false, Value.slice ob lb cb] 69)).alloc (Obj.cells #[Value.bool false, Value.slice none 0 0] 69)
  clear ata atb
  generalize (((w.alloc (Obj.cells #[Value.bool false, Value.slice oa la ca] 69)).alloc (Obj.cells #[Value.bool false, Value.slice ob lb cb] 69)).alloc (Obj.cells #[Value.bool false, Value.slice none 0 0] 69)) = w0 at *
  obtain ⟨H4, e4⟩ : ∃ H, H = w.heap.size + 1 + 1 := ⟨_, rfl⟩
  obtain ⟨Hb, eb⟩ : ∃ H, H = w.heap.size + 1 := ⟨_, rfl⟩
  obtain ⟨Ha, ea⟩ : ∃ H, H = w.heap.size := ⟨_, rfl⟩
  rw [← e4] at p4
  rw [← eb] at pb
  rw [← ea] at pa
  simp only [← e4]
  simp only [← eb]
  simp only [← ea]
  have n1 : H4 ≠ Ha := by omega
  have n2 : H4 ≠ Hb := by omega
  have n3 : Ha ≠ H4 := by omega
  have n4 : Hb ≠ H4 := by omega
  have HLE : Hid (w.heap.size ≤ H4) := by show _ ≤ _; omega
  clear e4 eb ea
  have AX := hide (ax.below (bdrew w0))
  have AY := hide (ay.below (bdrew w0))
  have PA := hide (pa.below (bdrew w0) pa.lt)
  have PB := hide (pb.below (bdrew w0) pb.lt)
  have P4 := hide (p4.below (bdrew w0) p4.lt)
  have a0 := pa.cell0
  have a1 := pa.cell1
  have b0 := pb.cell0
  have b1 := pb.cell1
  have HLT : Hid (H4 < w0.heap.size) := p4.lt
  have HB0 := hide (hb0.trans ((bdrew w0).mono hb0.size))
  have bw : Hid (Below w0.drew.heap.size w0.drew w0.drew) := Below.refl _ _
  have mk0 : True := trivial
  clear ax ay pa pb p4 hb0
  go_region_held3 (fun w' => w'.cell? ⟨Ha, 0, none⟩ = some (.bool false) ∧ w'.cell? ⟨Ha, 1, none⟩ = some (.slice oa la ca) ∧ w'.cell? ⟨Hb, 0, none⟩ = some (.bool false) ∧ w'.cell? ⟨Hb, 1, none⟩ = some (.slice ob lb cb)) (go_keep) (first | (clear mk0; go_at_call 94; refine (radd_any oa ob la ca lb cb xa xb _ (by omega) (by omega) hxa hxb AX.out AY.out oka okb).mono ?_; rintro e v2 ⟨o1, c1, y1, rfl, hl1, at1, is1, hm1, hbel⟩; have AT1 := hide at1; have IS1 := hide is1; clear at1 is1; replace bw : Hid (Below w0.drew.heap.size w0.drew v2) := bw.out.trans (hbel.mono bw.out.size); have hsz := hbel.size; clear hbel; have tPA := PA.out.below bw.out PA.out.lt; replace a0 := tPA.cell0; replace a1 := tPA.cell1; clear tPA; have tPB := PB.out.below bw.out PB.out.lt; replace b0 := tPB.cell0; replace b1 := tPB.cell1; clear tPB; have HV2 : Hid (w0.heap.size ≤ v2.heap.size) := (by have h := bw.out.size; simpa [Hid] using h); clear hsz; have mk1 : True := trivial) | (clear mk1; go_at_call 47; refine (rmake false o1 y1.length c1 y1 _ (by omega) rfl AT1.out IS1.out.1).mono ?_; rintro e v3 ⟨sg, o2, c2, r2, hs, rfl, hl2, rs2, is2, hm2, hbel⟩; rw [IS1.out.2.2] at hs is2; have F2 := hide rs2; have IS2 := hide is2; clear rs2 is2; replace bw : Hid (Below w0.drew.heap.size w0.drew v3) := bw.out.trans (hbel.mono bw.out.size); have hsz := hbel.size; clear hbel; have tPA := PA.out.below bw.out PA.out.lt; replace a0 := tPA.cell0; replace a1 := tPA.cell1; clear tPA; have tPB := PB.out.below bw.out PB.out.lt; replace b0 := tPB.cell0; replace b1 := tPB.cell1; clear tPB; have p4' := P4.out.below bw.out P4.out.lt; have d0 := p4'.cell0; have d1 := p4'.cell1; have f0 := p4'.free 0; have f1 := p4'.free 1; have P4L := hide p4'; clear p4'; clear hsz))
  have hfin := HB0.out.trans (bw.out.mono HB0.out.size)
  clear a0 a1 b0 b1 PA PB AX AY
  go_wp2
  refine bodyPost_ret (results_pairR rfl _ _ _ _ _ rfl (P4L.out.put _ _)) rfl ?_
  exact RWPost.ret (H := H4) hs hl2 F2.out HLE.out (by have := HLT.out; have := HV2.out; omega) (Nat.le_refl _) IS2.out (by omega) hfin

set_option maxRecDepth 100000 in
set_option maxHeartbeats 2000000 in
theorem raddw_tt (oa ob : Option Addr) (la ca lb cb : Nat) (xa xb : List Nat) (w : World) (hla : la ≤ 20000000) (hlb : lb ≤ 20000000) (_hlac : la ≤ ca) (_hlbc : lb ≤ cb) (hxa : xa.length = la) (hxb : xb.length = lb) (ata : At .u32 w oa xa) (atb : At .u32 w ob xb) (oka : Ok 65536 xa) (okb : Ok 65536 xb)  :
    Calls Tryz.prog 96 #[.agg #[.bool true, .slice oa la ca], .agg #[.bool true, .slice ob lb cb]] w (RWPost w (max la lb + 2) (zv true (num 65536 xa + num 65536 xb))) := by
  go_enter Tryz.func96, Tryz.ntmps96
  go_wp2_with fail
  have hb0 : Below w.heap.size w (((w.alloc (Obj.cells #[Value.bool true, Value.slice oa la ca] 69)).alloc (Obj.cells #[Value.bool true, Value.slice ob lb cb] 69)).alloc (Obj.cells #[Value.bool false, Value.slice none 0 0] 69)) := (((Below.refl _ _).alloc (Nat.le_refl _) _).alloc (by simp) _).alloc (by simp; omega) _
  have pa := ((Pair.new w (.bool true) (.slice oa la ca) 69).alloc (Obj.cells #[Value.bool true, Value.slice ob lb cb] 69)).alloc (Obj.cells #[Value.bool false, Value.slice none 0 0] 69)
  have pb := (Pair.newAt (w.alloc (Obj.cells #[Value.bool true, Value.slice oa la ca] 69)) (w.heap.size + 1) (by simp) (.bool true) (.slice ob lb cb) 69).alloc (Obj.cells #[Value.bool false, Value.slice none 0 0] 69)
  have p4 := Pair.newAt ((w.alloc (Obj.cells #[Value.bool true, Value.slice oa la ca] 69)).alloc (Obj.cells #[Value.bool true, Value.slice ob lb cb] 69)) (w.heap.size + 1 + 1) (by simp) (.bool false) (.slice none 0 0) 69
  have ax := ((ata.alloc (Obj.cells #[Value.bool true, Value.slice oa la ca] 69)).alloc (Obj.cells #[Value.bool true, Value.slice ob lb cb] 69)).alloc (Obj.cells #[Value.bool false, Value.slice none 0 0] 69)
  have ay := ((atb.alloc (Obj.cells #[Value.bool true, Value.slice oa la ca] 69)).alloc (Obj.cells #[Value.bool true, Value.slice ob lb cb] 69)).alloc (Obj.cells #[Value.bool false, Value.slice none 0 0] 69)
  clear ata atb
  generalize (((w.alloc (Obj.cells #[Value.bool true, Value.slice oa la ca] 69)).alloc (Obj.cells #[Value.bool true, Value.slice ob lb cb] 69)).alloc (Obj.cells #[Value.bool false, Value.slice none 0 0] 69)) = w0 at *
  obtain ⟨H4, e4⟩ : ∃ H, H = w.heap.size + 1 + 1 := ⟨_, rfl⟩
  obtain ⟨Hb, eb⟩ : ∃ H, H = w.heap.size + 1 := ⟨_, rfl⟩
  obtain ⟨Ha, ea⟩ : ∃ H, H = w.heap.size := ⟨_, rfl⟩
  rw [← e4] at p4
  rw [← eb] at pb
  rw [← ea] at pa
  simp only [← e4]
  simp only [← eb]
  simp only [← ea]
  have n1 : H4 ≠ Ha := by omega
  have n2 : H4 ≠ Hb := by omega
  have n3 : Ha ≠ H4 := by omega
  have n4 : Hb ≠ H4 := by omega
  have HLE : Hid (w.heap.size ≤ H4) := by show _ ≤ _; omega
  clear e4 eb ea
  have AX := hide (ax.below (bdrew w0))
  have AY := hide (ay.below (bdrew w0))
  have PA := hide (pa.below (bdrew w0) pa.lt)
  have PB := hide (pb.below (bdrew w0) pb.lt)
  have P4 := hide (p4.below (bdrew w0) p4.lt)
  have a0 := pa.cell0
  have a1 := pa.cell1
  have b0 := pb.cell0
  have b1 := pb.cell1
  have HLT : Hid (H4 < w0.heap.size) := p4.lt
  have HB0 := hide (hb0.trans ((bdrew w0).mono hb0.size))
  have bw : Hid (Below w0.drew.heap.size w0.drew w0.drew) := Below.refl _ _
  have mk0 : True := trivial
  clear ax ay pa pb p4 hb0
  go_region_held3 (fun w' => w'.cell? ⟨Ha, 0, none⟩ = some (.bool true) ∧ w'.cell? ⟨Ha, 1, none⟩ = some (.slice oa la ca) ∧ w'.cell? ⟨Hb, 0, none⟩ = some (.bool true) ∧ w'.cell? ⟨Hb, 1, none⟩ = some (.slice ob lb cb)) (go_keep) (first | (clear mk0; go_at_call 94; refine (radd_any oa ob la ca lb cb xa xb _ (by omega) (by omega) hxa hxb AX.out AY.out oka okb).mono ?_; rintro e v2 ⟨o1, c1, y1, rfl, hl1, at1, is1, hm1, hbel⟩; have AT1 := hide at1; have IS1 := hide is1; clear at1 is1; replace bw : Hid (Below w0.drew.heap.size w0.drew v2) := bw.out.trans (hbel.mono bw.out.size); have hsz := hbel.size; clear hbel; have tPA := PA.out.below bw.out PA.out.lt; replace a0 := tPA.cell0; replace a1 := tPA.cell1; clear tPA; have tPB := PB.out.below bw.out PB.out.lt; replace b0 := tPB.cell0; replace b1 := tPB.cell1; clear tPB; have HV2 : Hid (w0.heap.size ≤ v2.heap.size) := (by have h := bw.out.size; simpa [Hid] using h); clear hsz; have mk1 : True := trivial) | (clear mk1; go_at_call 47; refine (rmake true o1 y1.length c1 y1 _ (by omega) rfl AT1.out IS1.out.1).mono ?_; rintro e v3 ⟨sg, o2, c2, r2, hs, rfl, hl2, rs2, is2, hm2, hbel⟩; rw [IS1.out.2.2] at hs is2; have F2 := hide rs2; have IS2 := hide is2; clear rs2 is2; replace bw : Hid (Below w0.drew.heap.size w0.drew v3) := bw.out.trans (hbel.mono bw.out.size); have hsz := hbel.size; clear hbel; have tPA := PA.out.below bw.out PA.out.lt; replace a0 := tPA.cell0; replace a1 := tPA.cell1; clear tPA; have tPB := PB.out.below bw.out PB.out.lt; replace b0 := tPB.cell0; replace b1 := tPB.cell1; clear tPB; have p4' := P4.out.below bw.out P4.out.lt; have d0 := p4'.cell0; have d1 := p4'.cell1; have f0 := p4'.free 0; have f1 := p4'.free 1; have P4L := hide p4'; clear p4'; clear hsz))
  have hfin := HB0.out.trans (bw.out.mono HB0.out.size)
  clear a0 a1 b0 b1 PA PB AX AY
  go_wp2
  refine bodyPost_ret (results_pairR rfl _ _ _ _ _ rfl (P4L.out.put _ _)) rfl ?_
  exact RWPost.ret (H := H4) hs hl2 F2.out HLE.out (by have := HLT.out; have := HV2.out; omega) (Nat.le_refl _) IS2.out (by omega) hfin

set_option maxRecDepth 100000 in
set_option maxHeartbeats 2000000 in
theorem raddw_ftg (oa ob : Option Addr) (la ca lb cb : Nat) (xa xb : List Nat) (w : World) (hla : la ≤ 20000000) (hlb : lb ≤ 20000000) (hlac : la ≤ ca) (hlbc : lb ≤ cb) (hxa : xa.length = la) (hxb : xb.length = lb) (ata : At .u32 w oa xa) (atb : At .u32 w ob xb) (oka : Ok 65536 xa) (okb : Ok 65536 xb) (hlen : lb ≤ la) (hc : Hid (¬ num 65536 xa < num 65536 xb)) :
    Calls Tryz.prog 96 #[.agg #[.bool false, .slice oa la ca], .agg #[.bool true, .slice ob lb cb]] w (RWPost w (max la lb + 2) (zv false (num 65536 xa - num 65536 xb))) := by
  obtain ⟨cz, hcz⟩ : ∃ c, c = cmpN (num 65536 xa) (num 65536 xb) := ⟨_, rfl⟩
  have CZ : Hid (cmpN (num 65536 xa) (num 65536 xb) = cz) := hcz.symm
  have hc0 : 0 ≤ cz := by rw [hcz]; unfold cmpN; rw [if_neg hc.out]; split <;> omega
  clear hcz
  go_enter Tryz.func96, Tryz.ntmps96
  go_wp2_with fail
  have hb0 : Below w.heap.size w (((w.alloc (Obj.cells #[Value.bool false, Value.slice oa la ca] 69)).alloc (Obj.cells #[Value.bool true, Value.slice ob lb cb] 69)).alloc (Obj.cells #[Value.bool false, Value.slice none 0 0] 69)) := (((Below.refl _ _).alloc (Nat.le_refl _) _).alloc (by simp) _).alloc (by simp; omega) _
  have pa := ((Pair.new w (.bool false) (.slice oa la ca) 69).alloc (Obj.cells #[Value.bool true, Value.slice ob lb cb] 69)).alloc (Obj.cells #[Value.bool false, Value.slice none 0 0] 69)
  have pb := (Pair.newAt (w.alloc (Obj.cells #[Value.bool false, Value.slice oa la ca] 69)) (w.heap.size + 1) (by simp) (.bool true) (.slice ob lb cb) 69).alloc (Obj.cells #[Value.bool false, Value.slice none 0 0] 69)
  have p4 := Pair.newAt ((w.alloc (Obj.cells #[Value.bool false, Value.slice oa la ca] 69)).alloc (Obj.cells #[Value.bool true, Value.slice ob lb cb] 69)) (w.heap.size + 1 + 1) (by simp) (.bool false) (.slice none 0 0) 69
  have ax := ((ata.alloc (Obj.cells #[Value.bool false, Value.slice oa la ca] 69)).alloc (Obj.cells #[Value.bool true, Value.slice ob lb cb] 69)).alloc (Obj.cells #[Value.bool false, Value.slice none 0 0] 69)
  have ay := ((atb.alloc (Obj.cells #[Value.bool false, Value.slice oa la ca] 69)).alloc (Obj.cells #[Value.bool true, Value.slice ob lb cb] 69)).alloc (Obj.cells #[Value.bool false, Value.slice none 0 0] 69)
  clear ata atb
  generalize (((w.alloc (Obj.cells #[Value.bool false, Value.slice oa la ca] 69)).alloc (Obj.cells #[Value.bool true, Value.slice ob lb cb] 69)).alloc (Obj.cells #[Value.bool false, Value.slice none 0 0] 69)) = w0 at *
  obtain ⟨H4, e4⟩ : ∃ H, H = w.heap.size + 1 + 1 := ⟨_, rfl⟩
  obtain ⟨Hb, eb⟩ : ∃ H, H = w.heap.size + 1 := ⟨_, rfl⟩
  obtain ⟨Ha, ea⟩ : ∃ H, H = w.heap.size := ⟨_, rfl⟩
  rw [← e4] at p4
  rw [← eb] at pb
  rw [← ea] at pa
  simp only [← e4]
  simp only [← eb]
  simp only [← ea]
  have n1 : H4 ≠ Ha := by omega
  have n2 : H4 ≠ Hb := by omega
  have n3 : Ha ≠ H4 := by omega
  have n4 : Hb ≠ H4 := by omega
  have HLE : Hid (w.heap.size ≤ H4) := by show _ ≤ _; omega
  clear e4 eb ea
  refine (rcmp_any oa ob la ca lb cb xa xb _ hlac (by omega) hlbc (by omega) hxa hxb ax ay oka okb cz CZ.out).mono ?_
  rintro e w1 ⟨rfl, hbel⟩
  replace hb0 := hb0.trans (hbel.mono hb0.size)
  replace ax := ax.below hbel
  replace ay := ay.below hbel
  replace pa := pa.below hbel pa.lt
  replace pb := pb.below hbel pb.lt
  replace p4 := p4.below hbel p4.lt
  clear hbel
  go_wp2_with fail
  have AX := hide (ax.below (bdrew w1))
  have AY := hide (ay.below (bdrew w1))
  have PA := hide (pa.below (bdrew w1) pa.lt)
  have PB := hide (pb.below (bdrew w1) pb.lt)
  have P4 := hide (p4.below (bdrew w1) p4.lt)
  have a0 := pa.cell0
  have a1 := pa.cell1
  have b0 := pb.cell0
  have b1 := pb.cell1
  have HLT : Hid (H4 < w1.heap.size) := p4.lt
  have HB0 := hide (hb0.trans ((bdrew w1).mono hb0.size))
  have bw : Hid (Below w1.drew.heap.size w1.drew w1.drew) := Below.refl _ _
  have mk0 : True := trivial
  clear ax ay pa pb p4 hb0
  go_region_held3 (fun w' => w'.cell? ⟨Ha, 0, none⟩ = some (.bool false) ∧ w'.cell? ⟨Ha, 1, none⟩ = some (.slice oa la ca) ∧ w'.cell? ⟨Hb, 0, none⟩ = some (.bool true) ∧ w'.cell? ⟨Hb, 1, none⟩ = some (.slice ob lb cb)) (go_keep) (first | (clear mk0; go_at_call 162; refine (rsub_any oa ob la ca lb cb xa xb _ (by omega) hlen hxa hxb AX.out AY.out oka okb (by have := hc.out; omega)).mono ?_; rintro e v2 ⟨o1, c1, y1, rfl, hl1, at1, is1, hm1, hbel⟩; have AT1 := hide at1; have IS1 := hide is1; clear at1 is1; replace bw : Hid (Below w1.drew.heap.size w1.drew v2) := bw.out.trans (hbel.mono bw.out.size); have hsz := hbel.size; clear hbel; have tPA := PA.out.below bw.out PA.out.lt; replace a0 := tPA.cell0; replace a1 := tPA.cell1; clear tPA; have tPB := PB.out.below bw.out PB.out.lt; replace b0 := tPB.cell0; replace b1 := tPB.cell1; clear tPB; have HV2 : Hid (w1.heap.size ≤ v2.heap.size) := (by have h := bw.out.size; simpa [Hid] using h); clear hsz; have mk1 : True := trivial) | (clear mk1; go_at_call 47; refine (rmake false o1 y1.length c1 y1 _ (by omega) rfl AT1.out IS1.out.1).mono ?_; rintro e v3 ⟨sg, o2, c2, r2, hs, rfl, hl2, rs2, is2, hm2, hbel⟩; rw [IS1.out.2.2] at hs is2; have F2 := hide rs2; have IS2 := hide is2; clear rs2 is2; replace bw : Hid (Below w1.drew.heap.size w1.drew v3) := bw.out.trans (hbel.mono bw.out.size); have hsz := hbel.size; clear hbel; have tPA := PA.out.below bw.out PA.out.lt; replace a0 := tPA.cell0; replace a1 := tPA.cell1; clear tPA; have tPB := PB.out.below bw.out PB.out.lt; replace b0 := tPB.cell0; replace b1 := tPB.cell1; clear tPB; have p4' := P4.out.below bw.out P4.out.lt; have d0 := p4'.cell0; have d1 := p4'.cell1; have f0 := p4'.free 0; have f1 := p4'.free 1; have P4L := hide p4'; clear p4'; clear hsz))
  have hfin := HB0.out.trans (bw.out.mono HB0.out.size)
  clear a0 a1 b0 b1 PA PB AX AY
  go_wp2
  refine bodyPost_ret (results_pairR rfl _ _ _ _ _ rfl (P4L.out.put _ _)) rfl ?_
  exact RWPost.ret (H := H4) hs hl2 F2.out HLE.out (by have := HLT.out; have := HV2.out; omega) (Nat.le_refl _) IS2.out (by omega) hfin

set_option maxRecDepth 100000 in
set_option maxHeartbeats 2000000 in
theorem raddw_ftl (oa ob : Option Addr) (la ca lb cb : Nat) (xa xb : List Nat) (w : World) (hla : la ≤ 20000000) (hlb : lb ≤ 20000000) (hlac : la ≤ ca) (hlbc : lb ≤ cb) (hxa : xa.length = la) (hxb : xb.length = lb) (ata : At .u32 w oa xa) (atb : At .u32 w ob xb) (oka : Ok 65536 xa) (okb : Ok 65536 xb) (hlen : la ≤ lb) (hc : Hid (num 65536 xa < num 65536 xb)) :
    Calls Tryz.prog 96 #[.agg #[.bool false, .slice oa la ca], .agg #[.bool true, .slice ob lb cb]] w (RWPost w (max la lb + 2) (zv true (num 65536 xb - num 65536 xa))) := by
  obtain ⟨cz, hcz⟩ : ∃ c, c = cmpN (num 65536 xa) (num 65536 xb) := ⟨_, rfl⟩
  have CZ : Hid (cmpN (num 65536 xa) (num 65536 xb) = cz) := hcz.symm
  have hc0 : ¬ 0 ≤ cz := by rw [hcz]; unfold cmpN; rw [if_pos hc.out]; omega
  clear hcz
  go_enter Tryz.func96, Tryz.ntmps96
  go_wp2_with fail
  have hb0 : Below w.heap.size w (((w.alloc (Obj.cells #[Value.bool false, Value.slice oa la ca] 69)).alloc (Obj.cells #[Value.bool true, Value.slice ob lb cb] 69)).alloc (Obj.cells #[Value.bool false, Value.slice none 0 0] 69)) := (((Below.refl _ _).alloc (Nat.le_refl _) _).alloc (by simp) _).alloc (by simp; omega) _
  have pa := ((Pair.new w (.bool false) (.slice oa la ca) 69).alloc (Obj.cells #[Value.bool true, Value.slice ob lb cb] 69)).alloc (Obj.cells #[Value.bool false, Value.slice none 0 0] 69)
  have pb := (Pair.newAt (w.alloc (Obj.cells #[Value.bool false, Value.slice oa la ca] 69)) (w.heap.size + 1) (by simp) (.bool true) (.slice ob lb cb) 69).alloc (Obj.cells #[Value.bool false, Value.slice none 0 0] 69)
  have p4 := Pair.newAt ((w.alloc (Obj.cells #[Value.bool false, Value.slice oa la ca] 69)).alloc (Obj.cells #[Value.bool true, Value.slice ob lb cb] 69)) (w.heap.size + 1 + 1) (by simp) (.bool false) (.slice none 0 0) 69
  have ax := ((ata.alloc (Obj.cells #[Value.bool false, Value.slice oa la ca] 69)).alloc (Obj.cells #[Value.bool true, Value.slice ob lb cb] 69)).alloc (Obj.cells #[Value.bool false, Value.slice none 0 0] 69)
  have ay := ((atb.alloc (Obj.cells #[Value.bool false, Value.slice oa la ca] 69)).alloc (Obj.cells #[Value.bool true, Value.slice ob lb cb] 69)).alloc (Obj.cells #[Value.bool false, Value.slice none 0 0] 69)
  clear ata atb
  generalize (((w.alloc (Obj.cells #[Value.bool false, Value.slice oa la ca] 69)).alloc (Obj.cells #[Value.bool true, Value.slice ob lb cb] 69)).alloc (Obj.cells #[Value.bool false, Value.slice none 0 0] 69)) = w0 at *
  obtain ⟨H4, e4⟩ : ∃ H, H = w.heap.size + 1 + 1 := ⟨_, rfl⟩
  obtain ⟨Hb, eb⟩ : ∃ H, H = w.heap.size + 1 := ⟨_, rfl⟩
  obtain ⟨Ha, ea⟩ : ∃ H, H = w.heap.size := ⟨_, rfl⟩
  rw [← e4] at p4
  rw [← eb] at pb
  rw [← ea] at pa
  simp only [← e4]
  simp only [← eb]
  simp only [← ea]
  have n1 : H4 ≠ Ha := by omega
  have n2 : H4 ≠ Hb := by omega
  have n3 : Ha ≠ H4 := by omega
  have n4 : Hb ≠ H4 := by omega
  have HLE : Hid (w.heap.size ≤ H4) := by show _ ≤ _; omega
  clear e4 eb ea
  refine (rcmp_any oa ob la ca lb cb xa xb _ hlac (by omega) hlbc (by omega) hxa hxb ax ay oka okb cz CZ.out).mono ?_
  rintro e w1 ⟨rfl, hbel⟩
  replace hb0 := hb0.trans (hbel.mono hb0.size)
  replace ax := ax.below hbel
  replace ay := ay.below hbel
  replace pa := pa.below hbel pa.lt
  replace pb := pb.below hbel pb.lt
  replace p4 := p4.below hbel p4.lt
  clear hbel
  go_wp2_with fail
  have AX := hide (ax.below (bdrew w1))
  have AY := hide (ay.below (bdrew w1))
  have PA := hide (pa.below (bdrew w1) pa.lt)
  have PB := hide (pb.below (bdrew w1) pb.lt)
  have P4 := hide (p4.below (bdrew w1) p4.lt)
  have a0 := pa.cell0
  have a1 := pa.cell1
  have b0 := pb.cell0
  have b1 := pb.cell1
  have HLT : Hid (H4 < w1.heap.size) := p4.lt
  have HB0 := hide (hb0.trans ((bdrew w1).mono hb0.size))
  have bw : Hid (Below w1.drew.heap.size w1.drew w1.drew) := Below.refl _ _
  have mk0 : True := trivial
  clear ax ay pa pb p4 hb0
  go_region_held3 (fun w' => w'.cell? ⟨Ha, 0, none⟩ = some (.bool false) ∧ w'.cell? ⟨Ha, 1, none⟩ = some (.slice oa la ca) ∧ w'.cell? ⟨Hb, 0, none⟩ = some (.bool true) ∧ w'.cell? ⟨Hb, 1, none⟩ = some (.slice ob lb cb)) (go_keep) (first | (clear mk0; go_at_call 162; refine (rsub_any ob oa lb cb la ca xb xa _ (by omega) hlen hxb hxa AY.out AX.out okb oka (by have := hc.out; omega)).mono ?_; rintro e v2 ⟨o1, c1, y1, rfl, hl1, at1, is1, hm1, hbel⟩; have AT1 := hide at1; have IS1 := hide is1; clear at1 is1; replace bw : Hid (Below w1.drew.heap.size w1.drew v2) := bw.out.trans (hbel.mono bw.out.size); have hsz := hbel.size; clear hbel; have tPA := PA.out.below bw.out PA.out.lt; replace a0 := tPA.cell0; replace a1 := tPA.cell1; clear tPA; have tPB := PB.out.below bw.out PB.out.lt; replace b0 := tPB.cell0; replace b1 := tPB.cell1; clear tPB; have HV2 : Hid (w1.heap.size ≤ v2.heap.size) := (by have h := bw.out.size; simpa [Hid] using h); clear hsz; have mk1 : True := trivial) | (clear mk1; go_at_call 47; refine (rmake true o1 y1.length c1 y1 _ (by omega) rfl AT1.out IS1.out.1).mono ?_; rintro e v3 ⟨sg, o2, c2, r2, hs, rfl, hl2, rs2, is2, hm2, hbel⟩; rw [IS1.out.2.2] at hs is2; have F2 := hide rs2; have IS2 := hide is2; clear rs2 is2; replace bw : Hid (Below w1.drew.heap.size w1.drew v3) := bw.out.trans (hbel.mono bw.out.size); have hsz := hbel.size; clear hbel; have tPA := PA.out.below bw.out PA.out.lt; replace a0 := tPA.cell0; replace a1 := tPA.cell1; clear tPA; have tPB := PB.out.below bw.out PB.out.lt; replace b0 := tPB.cell0; replace b1 := tPB.cell1; clear tPB; have p4' := P4.out.below bw.out P4.out.lt; have d0 := p4'.cell0; have d1 := p4'.cell1; have f0 := p4'.free 0; have f1 := p4'.free 1; have P4L := hide p4'; clear p4'; clear hsz))
  have hfin := HB0.out.trans (bw.out.mono HB0.out.size)
  clear a0 a1 b0 b1 PA PB AX AY
  go_wp2
  refine bodyPost_ret (results_pairR rfl _ _ _ _ _ rfl (P4L.out.put _ _)) rfl ?_
  exact RWPost.ret (H := H4) hs hl2 F2.out HLE.out (by have := HLT.out; have := HV2.out; omega) (Nat.le_refl _) IS2.out (by omega) hfin

set_option maxRecDepth 100000 in
set_option maxHeartbeats 2000000 in
theorem raddw_tfg (oa ob : Option Addr) (la ca lb cb : Nat) (xa xb : List Nat) (w : World) (hla : la ≤ 20000000) (hlb : lb ≤ 20000000) (hlac : la ≤ ca) (hlbc : lb ≤ cb) (hxa : xa.length = la) (hxb : xb.length = lb) (ata : At .u32 w oa xa) (atb : At .u32 w ob xb) (oka : Ok 65536 xa) (okb : Ok 65536 xb) (hlen : lb ≤ la) (hc : Hid (¬ num 65536 xa < num 65536 xb)) :
    Calls Tryz.prog 96 #[.agg #[.bool true, .slice oa la ca], .agg #[.bool false, .slice ob lb cb]] w (RWPost w (max la lb + 2) (zv true (num 65536 xa - num 65536 xb))) := by
  obtain ⟨cz, hcz⟩ : ∃ c, c = cmpN (num 65536 xa) (num 65536 xb) := ⟨_, rfl⟩
  have CZ : Hid (cmpN (num 65536 xa) (num 65536 xb) = cz) := hcz.symm
  have hc0 : 0 ≤ cz := by rw [hcz]; unfold cmpN; rw [if_neg hc.out]; split <;> omega
  clear hcz
  go_enter Tryz.func96, Tryz.ntmps96
  go_wp2_with fail
  have hb0 : Below w.heap.size w (((w.alloc (Obj.cells #[Value.bool true, Value.slice oa la ca] 69)).alloc (Obj.cells #[Value.bool false, Value.slice ob lb cb] 69)).alloc (Obj.cells #[Value.bool false, Value.slice none 0 0] 69)) := (((Below.refl _ _).alloc (Nat.le_refl _) _).alloc (by simp) _).alloc (by simp; omega) _
  have pa := ((Pair.new w (.bool true) (.slice oa la ca) 69).alloc (Obj.cells #[Value.bool false, Value.slice ob lb cb] 69)).alloc (Obj.cells #[Value.bool false, Value.slice none 0 0] 69)
  have pb := (Pair.newAt (w.alloc (Obj.cells #[Value.bool true, Value.slice oa la ca] 69)) (w.heap.size + 1) (by simp) (.bool false) (.slice ob lb cb) 69).alloc (Obj.cells #[Value.bool false, Value.slice none 0 0] 69)
  have p4 := Pair.newAt ((w.alloc (Obj.cells #[Value.bool true, Value.slice oa la ca] 69)).alloc (Obj.cells #[Value.bool false, Value.slice ob lb cb] 69)) (w.heap.size + 1 + 1) (by simp) (.bool false) (.slice none 0 0) 69
  have ax := ((ata.alloc (Obj.cells #[Value.bool true, Value.slice oa la ca] 69)).alloc (Obj.cells #[Value.bool false, Value.slice ob lb cb] 69)).alloc (Obj.cells #[Value.bool false, Value.slice none 0 0] 69)
  have ay := ((atb.alloc (Obj.cells #[Value.bool true, Value.slice oa la ca] 69)).alloc (Obj.cells #[Value.bool false, Value.slice ob lb cb] 69)).alloc (Obj.cells #[Value.bool false, Value.slice none 0 0] 69)
  clear ata atb
  generalize (((w.alloc (Obj.cells #[Value.bool true, Value.slice oa la ca] 69)).alloc (Obj.cells #[Value.bool false, Value.slice ob lb cb] 69)).alloc (Obj.cells #[Value.bool false, Value.slice none 0 0] 69)) = w0 at *
  obtain ⟨H4, e4⟩ : ∃ H, H = w.heap.size + 1 + 1 := ⟨_, rfl⟩
  obtain ⟨Hb, eb⟩ : ∃ H, H = w.heap.size + 1 := ⟨_, rfl⟩
  obtain ⟨Ha, ea⟩ : ∃ H, H = w.heap.size := ⟨_, rfl⟩
  rw [← e4] at p4
  rw [← eb] at pb
  rw [← ea] at pa
  simp only [← e4]
  simp only [← eb]
  simp only [← ea]
  have n1 : H4 ≠ Ha := by omega
  have n2 : H4 ≠ Hb := by omega
  have n3 : Ha ≠ H4 := by omega
  have n4 : Hb ≠ H4 := by omega
  have HLE : Hid (w.heap.size ≤ H4) := by show _ ≤ _; omega
  clear e4 eb ea
  refine (rcmp_any oa ob la ca lb cb xa xb _ hlac (by omega) hlbc (by omega) hxa hxb ax ay oka okb cz CZ.out).mono ?_
  rintro e w1 ⟨rfl, hbel⟩
  replace hb0 := hb0.trans (hbel.mono hb0.size)
  replace ax := ax.below hbel
  replace ay := ay.below hbel
  replace pa := pa.below hbel pa.lt
  replace pb := pb.below hbel pb.lt
  replace p4 := p4.below hbel p4.lt
  clear hbel
  go_wp2_with fail
  have AX := hide (ax.below (bdrew w1))
  have AY := hide (ay.below (bdrew w1))
  have PA := hide (pa.below (bdrew w1) pa.lt)
  have PB := hide (pb.below (bdrew w1) pb.lt)
  have P4 := hide (p4.below (bdrew w1) p4.lt)
  have a0 := pa.cell0
  have a1 := pa.cell1
  have b0 := pb.cell0
  have b1 := pb.cell1
  have HLT : Hid (H4 < w1.heap.size) := p4.lt
  have HB0 := hide (hb0.trans ((bdrew w1).mono hb0.size))
  have bw : Hid (Below w1.drew.heap.size w1.drew w1.drew) := Below.refl _ _
  have mk0 : True := trivial
  clear ax ay pa pb p4 hb0
  go_region_held3 (fun w' => w'.cell? ⟨Ha, 0, none⟩ = some (.bool true) ∧ w'.cell? ⟨Ha, 1, none⟩ = some (.slice oa la ca) ∧ w'.cell? ⟨Hb, 0, none⟩ = some (.bool false) ∧ w'.cell? ⟨Hb, 1, none⟩ = some (.slice ob lb cb)) (go_keep) (first | (clear mk0; go_at_call 162; refine (rsub_any oa ob la ca lb cb xa xb _ (by omega) hlen hxa hxb AX.out AY.out oka okb (by have := hc.out; omega)).mono ?_; rintro e v2 ⟨o1, c1, y1, rfl, hl1, at1, is1, hm1, hbel⟩; have AT1 := hide at1; have IS1 := hide is1; clear at1 is1; replace bw : Hid (Below w1.drew.heap.size w1.drew v2) := bw.out.trans (hbel.mono bw.out.size); have hsz := hbel.size; clear hbel; have tPA := PA.out.below bw.out PA.out.lt; replace a0 := tPA.cell0; replace a1 := tPA.cell1; clear tPA; have tPB := PB.out.below bw.out PB.out.lt; replace b0 := tPB.cell0; replace b1 := tPB.cell1; clear tPB; have HV2 : Hid (w1.heap.size ≤ v2.heap.size) := (by have h := bw.out.size; simpa [Hid] using h); clear hsz; have mk1 : True := trivial) | (clear mk1; go_at_call 47; refine (rmake true o1 y1.length c1 y1 _ (by omega) rfl AT1.out IS1.out.1).mono ?_; rintro e v3 ⟨sg, o2, c2, r2, hs, rfl, hl2, rs2, is2, hm2, hbel⟩; rw [IS1.out.2.2] at hs is2; have F2 := hide rs2; have IS2 := hide is2; clear rs2 is2; replace bw : Hid (Below w1.drew.heap.size w1.drew v3) := bw.out.trans (hbel.mono bw.out.size); have hsz := hbel.size; clear hbel; have tPA := PA.out.below bw.out PA.out.lt; replace a0 := tPA.cell0; replace a1 := tPA.cell1; clear tPA; have tPB := PB.out.below bw.out PB.out.lt; replace b0 := tPB.cell0; replace b1 := tPB.cell1; clear tPB; have p4' := P4.out.below bw.out P4.out.lt; have d0 := p4'.cell0; have d1 := p4'.cell1; have f0 := p4'.free 0; have f1 := p4'.free 1; have P4L := hide p4'; clear p4'; clear hsz))
  have hfin := HB0.out.trans (bw.out.mono HB0.out.size)
  clear a0 a1 b0 b1 PA PB AX AY
  go_wp2
  refine bodyPost_ret (results_pairR rfl _ _ _ _ _ rfl (P4L.out.put _ _)) rfl ?_
  exact RWPost.ret (H := H4) hs hl2 F2.out HLE.out (by have := HLT.out; have := HV2.out; omega) (Nat.le_refl _) IS2.out (by omega) hfin

set_option maxRecDepth 100000 in
set_option maxHeartbeats 2000000 in
theorem raddw_tfl (oa ob : Option Addr) (la ca lb cb : Nat) (xa xb : List Nat) (w : World) (hla : la ≤ 20000000) (hlb : lb ≤ 20000000) (hlac : la ≤ ca) (hlbc : lb ≤ cb) (hxa : xa.length = la) (hxb : xb.length = lb) (ata : At .u32 w oa xa) (atb : At .u32 w ob xb) (oka : Ok 65536 xa) (okb : Ok 65536 xb) (hlen : la ≤ lb) (hc : Hid (num 65536 xa < num 65536 xb)) :
    Calls Tryz.prog 96 #[.agg #[.bool true, .slice oa la ca], .agg #[.bool false, .slice ob lb cb]] w (RWPost w (max la lb + 2) (zv false (num 65536 xb - num 65536 xa))) := by
  obtain ⟨cz, hcz⟩ : ∃ c, c = cmpN (num 65536 xa) (num 65536 xb) := ⟨_, rfl⟩
  have CZ : Hid (cmpN (num 65536 xa) (num 65536 xb) = cz) := hcz.symm
  have hc0 : ¬ 0 ≤ cz := by rw [hcz]; unfold cmpN; rw [if_pos hc.out]; omega
  clear hcz
  go_enter Tryz.func96, Tryz.ntmps96
  go_wp2_with fail
  have hb0 : Below w.heap.size w (((w.alloc (Obj.cells #[Value.bool true, Value.slice oa la ca] 69)).alloc (Obj.cells #[Value.bool false, Value.slice ob lb cb] 69)).alloc (Obj.cells #[Value.bool false, Value.slice none 0 0] 69)) := (((Below.refl _ _).alloc (Nat.le_refl _) _).alloc (by simp) _).alloc (by simp; omega) _
  have pa := ((Pair.new w (.bool true) (.slice oa la ca) 69).alloc (Obj.cells #[Value.bool false, Value.slice ob lb cb] 69)).alloc (Obj.cells #[Value.bool false, Value.slice none 0 0] 69)
  have pb := (Pair.newAt (w.alloc (Obj.cells #[Value.bool true, Value.slice oa la ca] 69)) (w.heap.size + 1) (by simp) (.bool false) (.slice ob lb cb) 69).alloc (Obj.cells #[Value.bool false, Value.slice none 0 0] 69)
  have p4 := Pair.newAt ((w.alloc (Obj.cells #[Value.bool true, Value.slice oa la ca] 69)).alloc (Obj.cells #[Value.bool false, Value.slice ob lb cb] 69)) (w.heap.size + 1 + 1) (by simp) (.bool false) (.slice none 0 0) 69
  have ax := ((ata.alloc (Obj.cells #[Value.bool true, Value.slice oa la ca] 69)).alloc (Obj.cells #[Value.bool false, Value.slice ob lb cb] 69)).alloc (Obj.cells #[Value.bool false, Value.slice none 0 0] 69)
  have ay := ((atb.alloc (Obj.cells #[Value.bool true, Value.slice oa la ca] 69)).alloc (Obj.cells #[Value.bool false, Value.slice ob lb cb] 69)).alloc (Obj.cells #[Value.bool false, Value.slice none 0 0] 69)
  clear ata atb
  generalize (((w.alloc (Obj.cells #[Value.bool true, Value.slice oa la ca] 69)).alloc (Obj.cells #[Value.bool false, Value.slice ob lb cb] 69)).alloc (Obj.cells #[Value.bool false, Value.slice none 0 0] 69)) = w0 at *
  obtain ⟨H4, e4⟩ : ∃ H, H = w.heap.size + 1 + 1 := ⟨_, rfl⟩
  obtain ⟨Hb, eb⟩ : ∃ H, H = w.heap.size + 1 := ⟨_, rfl⟩
  obtain ⟨Ha, ea⟩ : ∃ H, H = w.heap.size := ⟨_, rfl⟩
  rw [← e4] at p4
  rw [← eb] at pb
  rw [← ea] at pa
  simp only [← e4]
  simp only [← eb]
  simp only [← ea]
  have n1 : H4 ≠ Ha := by omega
  have n2 : H4 ≠ Hb := by omega
  have n3 : Ha ≠ H4 := by omega
  have n4 : Hb ≠ H4 := by omega
  have HLE : Hid (w.heap.size ≤ H4) := by show _ ≤ _; omega
  clear e4 eb ea
  refine (rcmp_any oa ob la ca lb cb xa xb _ hlac (by omega) hlbc (by omega) hxa hxb ax ay oka okb cz CZ.out).mono ?_
  rintro e w1 ⟨rfl, hbel⟩
  replace hb0 := hb0.trans (hbel.mono hb0.size)
  replace ax := ax.below hbel
  replace ay := ay.below hbel
  replace pa := pa.below hbel pa.lt
  replace pb := pb.below hbel pb.lt
  replace p4 := p4.below hbel p4.lt
  clear hbel
  go_wp2_with fail
  have AX := hide (ax.below (bdrew w1))
  have AY := hide (ay.below (bdrew w1))
  have PA := hide (pa.below (bdrew w1) pa.lt)
  have PB := hide (pb.below (bdrew w1) pb.lt)
  have P4 := hide (p4.below (bdrew w1) p4.lt)
  have a0 := pa.cell0
  have a1 := pa.cell1
  have b0 := pb.cell0
  have b1 := pb.cell1
  have HLT : Hid (H4 < w1.heap.size) := p4.lt
  have HB0 := hide (hb0.trans ((bdrew w1).mono hb0.size))
  have bw : Hid (Below w1.drew.heap.size w1.drew w1.drew) := Below.refl _ _
  have mk0 : True := trivial
  clear ax ay pa pb p4 hb0
  go_region_held3 (fun w' => w'.cell? ⟨Ha, 0, none⟩ = some (.bool true) ∧ w'.cell? ⟨Ha, 1, none⟩ = some (.slice oa la ca) ∧ w'.cell? ⟨Hb, 0, none⟩ = some (.bool false) ∧ w'.cell? ⟨Hb, 1, none⟩ = some (.slice ob lb cb)) (go_keep) (first | (clear mk0; go_at_call 162; refine (rsub_any ob oa lb cb la ca xb xa _ (by omega) hlen hxb hxa AY.out AX.out okb oka (by have := hc.out; omega)).mono ?_; rintro e v2 ⟨o1, c1, y1, rfl, hl1, at1, is1, hm1, hbel⟩; have AT1 := hide at1; have IS1 := hide is1; clear at1 is1; replace bw : Hid (Below w1.drew.heap.size w1.drew v2) := bw.out.trans (hbel.mono bw.out.size); have hsz := hbel.size; clear hbel; have tPA := PA.out.below bw.out PA.out.lt; replace a0 := tPA.cell0; replace a1 := tPA.cell1; clear tPA; have tPB := PB.out.below bw.out PB.out.lt; replace b0 := tPB.cell0; replace b1 := tPB.cell1; clear tPB; have HV2 : Hid (w1.heap.size ≤ v2.heap.size) := (by have h := bw.out.size; simpa [Hid] using h); clear hsz; have mk1 : True := trivial) | (clear mk1; go_at_call 47; refine (rmake false o1 y1.length c1 y1 _ (by omega) rfl AT1.out IS1.out.1).mono ?_; rintro e v3 ⟨sg, o2, c2, r2, hs, rfl, hl2, rs2, is2, hm2, hbel⟩; rw [IS1.out.2.2] at hs is2; have F2 := hide rs2; have IS2 := hide is2; clear rs2 is2; replace bw : Hid (Below w1.drew.heap.size w1.drew v3) := bw.out.trans (hbel.mono bw.out.size); have hsz := hbel.size; clear hbel; have tPA := PA.out.below bw.out PA.out.lt; replace a0 := tPA.cell0; replace a1 := tPA.cell1; clear tPA; have tPB := PB.out.below bw.out PB.out.lt; replace b0 := tPB.cell0; replace b1 := tPB.cell1; clear tPB; have p4' := P4.out.below bw.out P4.out.lt; have d0 := p4'.cell0; have d1 := p4'.cell1; have f0 := p4'.free 0; have f1 := p4'.free 1; have P4L := hide p4'; clear p4'; clear hsz))
  have hfin := HB0.out.trans (bw.out.mono HB0.out.size)
  clear a0 a1 b0 b1 PA PB AX AY
  go_wp2
  refine bodyPost_ret (results_pairR rfl _ _ _ _ _ rfl (P4L.out.put _ _)) rfl ?_
  exact RWPost.ret (H := H4) hs hl2 F2.out HLE.out (by have := HLT.out; have := HV2.out; omega) (Nat.le_refl _) IS2.out (by omega) hfin

theorem raddz (s t : Bool) (oa ob : Option Addr) (la ca lb cb : Nat) (xa xb : List Nat) (w : World) (hla : la ≤ 20000000) (hlb : lb ≤ 20000000) (hlac : la ≤ ca) (hlbc : lb ≤ cb) (hxa : xa.length = la) (hxb : xb.length = lb) (ata : At .u32 w oa xa) (atb : At .u32 w ob xb) (z u : Int) (hz : Hid (NI32 s xa z)) (hu : Hid (NI32 t xb u)) :
    Calls Tryz.prog 96 #[.agg #[.bool s, .slice oa la ca], .agg #[.bool t, .slice ob lb cb]] w (RWPost w (max la lb + 2) (z + u)) := by
  rw [← hz.out.nv.2, ← hu.out.nv.2]
  have h1 : ¬ num 65536 xa < num 65536 xb → lb ≤ la := fun h => by rw [← hxa, ← hxb]; exact len_le (b := 65536) (by omega) hz.out.2.1 hu.out.2.2.1 (by omega)
  have h2 : num 65536 xa < num 65536 xb → la ≤ lb := fun h => by rw [← hxa, ← hxb]; exact len_le (b := 65536) (by omega) hu.out.2.1 hz.out.2.2.1 (by omega)
  cases s
  · cases t
    · rw [outward_val]; exact raddw_ff oa ob la ca lb cb xa xb w hla hlb hlac hlbc hxa hxb ata atb hz.out.2.1 hu.out.2.1
    · rw [inward_val (by simp)]
      by_cases h : num 65536 xa < num 65536 xb
      · rw [if_pos h]; exact raddw_ftl oa ob la ca lb cb xa xb w hla hlb hlac hlbc hxa hxb ata atb hz.out.2.1 hu.out.2.1 (h2 h) h
      · rw [if_neg h]; exact raddw_ftg oa ob la ca lb cb xa xb w hla hlb hlac hlbc hxa hxb ata atb hz.out.2.1 hu.out.2.1 (h1 h) h
  · cases t
    · rw [inward_val (by simp)]
      by_cases h : num 65536 xa < num 65536 xb
      · rw [if_pos h]; exact raddw_tfl oa ob la ca lb cb xa xb w hla hlb hlac hlbc hxa hxb ata atb hz.out.2.1 hu.out.2.1 (h2 h) h
      · rw [if_neg h]; exact raddw_tfg oa ob la ca lb cb xa xb w hla hlb hlac hlbc hxa hxb ata atb hz.out.2.1 hu.out.2.1 (h1 h) h
    · rw [outward_val]; exact raddw_tt oa ob la ca lb cb xa xb w hla hlb hlac hlbc hxa hxb ata atb hz.out.2.1 hu.out.2.1

end Go.Proofs.YtckijnlolmbdiaaGreatDoor

namespace Go.Proofs.YtckijnlolmbdiaaGreatDoor
open Go.RowKit

theorem ok32 {xs : List Nat} (h : (xs.all fun x => decide (x < 65536)) = true) : Ok 65536 xs := by
  intro i
  by_cases hi : i < xs.length
  · have := List.all_eq_true.1 h (xs[i]) (List.getElem_mem hi)
    simpa [dg, hi] using this
  · rw [dg_out (by omega)]; omega

theorem len32 {r : List Nat} {n t : Nat} (h : Is 65536 r n) (hn : n < 65536 ^ t) : r.length ≤ t := by
  rcases hl : r.length with _ | j
  · omega
  · have h1 := num_ge (b := 65536) h.2.1 hl
    rw [h.2.2] at h1
    rcases Nat.lt_or_ge j t with h' | h'
    · omega
    · have := Nat.pow_le_pow_right (show 0 < 65536 by omega) h'; omega

end Go.Proofs.YtckijnlolmbdiaaGreatDoor

namespace Go.Proofs.YtckijnlolmbdiaaGreatDoor
open Go.RowKit

set_option maxRecDepth 100000 in
set_option maxHeartbeats 400000 in
theorem small10 (w : World) : Calls Tryz.prog 160 #[.int .i64 10] w (RPost w 2 10) := by
  have hat : At .u32 (w.alloc (.cells #[.int .u32 10, .int .u32 0] 76)) (some ⟨w.heap.size, 0, none⟩) [10, 0] := Row.at (k := .u32) (e := 76) (heap_alloc_new w _)
  go_enter Tryz.func160, Tryz.ntmps160
  go_wp2_with fail
  refine (rtrim_to (some ⟨w.heap.size, 0, none⟩) 2 2 1 [10, 0] _ (Nat.le_refl _) (by omega) rfl hat (by decide +kernel)).mono ?_
  rintro e w' ⟨rfl, rfl⟩
  go_wp2
  go_ret
  refine ⟨some ⟨w.heap.size, 0, none⟩, 2, [10], rfl, by decide, hat.take 1, ⟨ok32 (by decide +kernel), ?_, by decide +kernel⟩, by decide, (Below.refl _ _).alloc (Nat.le_refl _) _⟩
  intro n hn
  have : n = 0 := by simp at hn; omega
  subst this; decide

theorem ten32 : (10 : Nat) ^ 8192 < 65536 ^ 1800 := by decide +kernel

set_option maxRecDepth 100000 in
set_option maxHeartbeats 1000000 in
theorem rpow10 (n : Nat) (hn : n ≤ 8192) (w : World) :
    Calls Tryz.prog 91 #[.int .i64 10, .int .i64 (n : Int)] w (RPost w 1800 (10 ^ n)) := by
  have hst : At .u32 (w.alloc (.cells #[.int .u32 1] 76)) (some ⟨w.heap.size, 0, none⟩) [1] := Row.at (k := .u32) (e := 76) (heap_alloc_new w _)
  have i1 : Is 65536 [1] 1 := ⟨ok32 (by decide +kernel), by intro n hn; have : n = 0 := by { simp at hn; omega }; subst this; decide, by decide +kernel⟩
  have HST := hide hst
  have HI1 := hide i1
  clear hst i1
  go_enter Tryz.func91, Tryz.ntmps91
  go_wp2
  go_loopw [5, 6] (fun v i wr => ∃ (k : Nat) (o : Option Addr) (c : Nat) (r : List Nat), k ≤ n ∧ i = .int .i64 (k : Int) ∧ v = .slice o r.length c ∧ r.length ≤ c ∧ At .u32 wr o r ∧ Is 65536 r (10 ^ k) ∧ Below w.heap.size w wr) (fun _ i _ => n - (intOf i).toNat)
  case atStart => exact ⟨0, _, _, [1], Nat.zero_le _, rfl, rfl, by decide, HST.out, HI1.out, (Below.refl _ _).alloc (Nat.le_refl _) _⟩
  case round =>
    clear HST HI1
    obtain ⟨k, o, c, r, hk, rfl, rfl, hl, hat, his, hb⟩ := hrel
    have hrl := len32 his (Nat.lt_of_le_of_lt (Nat.pow_le_pow_right (show 0 < 10 by omega) (Nat.le_trans hk hn)) ten32)
    by_cases hlt : k < n
    · have h1 : (k : Int) < (n : Int) := by omega
      go_wp2_with fail
      refine (small10 _).mono ?_
      rintro e w1 ⟨o1, c1, r1, rfl, hl1, hat1, his1, hm1, hb1⟩
      have hat' := hat.below hb1
      clear hat
      go_wp2_with fail
      refine (rmul_any o o1 _ c _ c1 r r1 _ (by omega) (by omega) rfl rfl hat' hat1 his.1 his1.1).mono ?_
      rintro e w2 ⟨o2, c2, r2, rfl, hl2, hat2, his2, hm2, hb2⟩
      rw [his.2.2, his1.2.2, ← Nat.pow_succ] at his2
      have hbw := hb.trans ((hb1.mono hb.size).trans (hb2.mono (Nat.le_trans hb.size hb1.size)))
      have HAT := hide hat2
      have HIS := hide his2
      have HBW := hide hbw
      clear hat' hat1 his1 his hb hb1 hb2 hat2 his2 hbw
      go_wp2
      go_roundw
      case rel => exact ⟨k + 1, o2, c2, r2, by omega, by go_num, rfl, hl2, HAT.out, HIS.out, HBW.out⟩
      case measure => simp [intOf]; omega
    · obtain rfl : k = n := by omega
      have h1 : ¬ (k : Int) < (k : Int) := by omega
      go_wp2
      go_ret
      exact ⟨o, c, r, rfl, hl, hat, his, hrl, hb⟩

end Go.Proofs.YtckijnlolmbdiaaGreatDoor

namespace Go.Proofs.YtckijnlolmbdiaaGreatDoor
open Go.RowKit

theorem num_snoc (b : Nat) (r : List Nat) (y : Nat) : num b (r ++ [y]) = num b r + y * b ^ r.length := by
  unfold num
  rw [List.length_append, List.length_singleton]
  simp only [V]
  have e : dg (r ++ [y]) r.length = y := by simp [dg]
  rw [e, V_congr (f := dg (r ++ [y])) (g := dg r) r.length (fun i hi => by simp [dg, List.getElem?_append_left hi])]

theorem Ok.snoc {b : Nat} {r : List Nat} {y : Nat} (h : Ok b r) (hy : y < b) : Ok b (r ++ [y]) := by
  intro i
  rcases Nat.lt_trichotomy i r.length with h1 | h1 | h1
  · rw [show dg (r ++ [y]) i = dg r i by simp [dg, List.getElem?_append_left h1]]; exact h i
  · rw [show dg (r ++ [y]) i = y by simp [dg, h1]]; exact hy
  · rw [dg_out (by simp; omega)]; omega

theorem carry_put (x b k : Nat) : x % b * b ^ k + x / b * b ^ (k + 1) = x * b ^ k := by
  have h := Nat.div_add_mod x b
  rw [Nat.pow_succ, Nat.mul_comm (b ^ k) b, ← Nat.mul_assoc, ← Nat.add_mul, Nat.mul_comm (x / b) b, Nat.add_comm, h]

theorem times_step {a c d k N S : Nat} (h : S + c * 65536 ^ k = N * 10 + d) :
    S + (a * 10 + c) % 65536 * 65536 ^ k + (a * 10 + c) / 65536 * 65536 ^ (k + 1) = (N + a * 65536 ^ k) * 10 + d := by
  have h1 := carry_put (a * 10 + c) 65536 k
  generalize 65536 ^ (k + 1) = Q at h1 ⊢
  generalize 65536 ^ k = P at h h1 ⊢
  have h2 : (a * 10 + c) * P = a * P * 10 + c * P := by
    rw [Nat.add_mul, Nat.mul_assoc, Nat.mul_comm 10, ← Nat.mul_assoc]
  omega

/-- What times answers: a list of digits, noughts on top or not, that is the number n. -/
def TPost (w : World) (m n : Nat) (e : Ending) (w' : World) : Prop :=
  ∃ ao cap ys, e = .returned (.slice ao (List.length ys) cap) ∧ ys.length ≤ cap ∧ At .u32 w' ao ys ∧ Ok 65536 ys ∧ num 65536 ys = n ∧ ys.length ≤ m ∧ Below w.heap.size w w'

/-- Behind k digits of the first loop. -/
structure TIn (w : World) (xs : List Nat) (d k c : Nat) (v : Value) (wr : World) : Prop where
  small : c ≤ 9
  row : ∃ r, Grows w wr v r ∧ r.length = k ∧ Ok 65536 r ∧ num 65536 r + c * 65536 ^ k = V 65536 (dg xs) k * 10 + d

/-- In the second loop. -/
structure TOut (w : World) (N la c : Nat) (v : Value) (wr : World) : Prop where
  small : c ≤ 9
  row : ∃ r, Grows w wr v r ∧ r.length ≤ la + 1 ∧ (c ≠ 0 → r.length ≤ la) ∧ Ok 65536 r ∧ num 65536 r + c * 65536 ^ r.length = N

theorem TIn.out {w wr : World} {xs : List Nat} {d k c : Nat} {v : Value} (h : TIn w xs d k c v wr) (hk : xs.length = k) : TOut w (num 65536 xs * 10 + d) k c v wr := by
  obtain ⟨h1, r, h2, h3, h4, h5⟩ := h
  refine ⟨h1, r, h2, by omega, fun _ => by omega, h4, ?_⟩
  rw [h3, h5, ← hk]; rfl

set_option maxRecDepth 100000 in
set_option maxHeartbeats 1000000 in
theorem times_any (ao : Option Addr) (la ca d : Nat) (xs : List Nat) (w : World) (hla : la ≤ 1000000) (hd : d ≤ 9) (hx : xs.length = la) (hax : At .u32 w ao xs) (ox : Ok 65536 xs) :
    Calls Tryz.prog 124 #[.slice ao la ca, .int .u32 10, .int .u32 (d : Int)] w (TPost w (la + 1) (num 65536 xs * 10 + d)) := by
  obtain ⟨i0, hi, hz0, hz1, hz2⟩ := info_parts Tryz.infoD
  go_enter Tryz.func124, Tryz.ntmps124
  go_wp2
  go_loopw [7, 8, 9, 10] (fun v cv i _ wr => ∃ k c : Nat, k ≤ la ∧ cv = .int .u64 (c : Int) ∧ i = .int .i64 k ∧ TIn w xs d k c v wr) (fun _ _ i _ _ => la - (intOf i).toNat)
  case atStart => exact ⟨0, d, Nat.zero_le _, rfl, rfl, hd, [], ⟨(Below.refl _ _).alloc (Nat.le_refl _) _, World.ownsRow_lit _ #[] 0 (Nat.le_refl _) (by unfold maxLen; omega) rfl⟩, rfl, (Is.none (by decide)).1, by simp [V, num]⟩
  case round =>
    obtain ⟨k, c, hk, rfl, rfl, hin⟩ := hrel
    have hc9 := hin.small
    by_cases hlt : k < la
    · obtain ⟨r, hgr, hrl, hro, hrn⟩ := hin.row
      have t1 : (k : Int) < (la : Int) := by omega
      obtain ⟨x, hxk⟩ : ∃ x, x = dg xs k := ⟨_, rfl⟩
      have hxl : x < 65536 := by rw [hxk]; exact ox k
      obtain ⟨b1, o1, rfl, hc1⟩ : ∃ b1 o1, ao = some ⟨b1, o1, none⟩ ∧ wr.cell? ⟨b1, o1 + k, none⟩ = some (.int .u32 (x : Int)) := by
        rcases hax.below hgr.1 with h | ⟨b, o, h1, _, h3⟩
        · rw [h] at hx; simp at hx; omega
        · exact ⟨b, o, h1, by rw [hxk]; exact h3 k (by omega)⟩
      have hst := times_step (a := x) hrn
      obtain ⟨y, hy⟩ : ∃ y, y = (x * 10 + c) % 65536 := ⟨_, rfl⟩
      obtain ⟨c', hc'⟩ : ∃ c', c' = (x * 10 + c) / 65536 := ⟨_, rfl⟩
      have hyl : y < 65536 := by rw [hy]; exact Nat.mod_lt _ (by omega)
      have hc9' : c' ≤ 9 := by omega
      rw [← hy, ← hc'] at hst
      have e1 : bits .and .u64 ((x : Int) * 10 + (c : Int)) 65535 % 4294967296 = (y : Int) := by
        rw [show ((x : Int) * 10 + (c : Int)) = ((x * 10 + c : Nat) : Int) by omega, and16 _ (Nat.lt_trans (show x * 10 + c < 1000000 by omega) (by decide)), hy]
      have e2 : ((x : Int) * 10 + (c : Int)) / 65536 = (c' : Int) := by omega
      have hown := hgr.2
      rw [hrl] at hown
      have hsz := hgr.1.size
      have HIN : Hid (∀ v' w1, Grows w w1 v' (r ++ [y]) → TIn w xs d (k + 1) c' v' w1) := by
        intro v' w1 hg
        refine ⟨hc9', _, hg, by simp [hrl], hro.snoc hyl, ?_⟩
        rw [num_snoc, hrl, hst, hxk]; rfl
      have HG : Hid (Grows w wr u7 r) := hgr
      have HRL : Hid (r.length = k) := hrl
      clear hgr hax hst hin hro hrn hy hc' hxk hrl
      go_wp2_with (at_builtin; refine wpList_append_own _ rfl _ _ 67 rfl w.heap.size 76 i0 (.int .u32 0) 1 4 Tryz.underlying67 hi hz0 hz1 hz2 rfl (by decide) _ _ _ rfl (hown.alloc _) ⟨wr.heap.size, 0, none⟩ 1 1 [.int .u32 (y : Int)] rfl rfl ?c1A ?c2A ?c3A ?c4A ?c5A ?_)
      try case c1A => exact new_cell wr _ _
      case c2A => first | exact one_one _ _ | rfl
      case c3A => unfold maxLen; omega
      case c4A => omega
      case c5A => first | (simp; omega) | omega
      intro v' w1 hown' hgrow _
      have hg' := HG.out.step _ (by rw [HRL.out]; exact hown') hgrow
      have HI := hide (HIN.out _ _ hg')
      clear hown hown' hgrow hg' HG HIN e1 HRL
      go_wp2
      go_roundw
      case rel => exact ⟨k + 1, c', by omega, rfl, by go_num, HI.out⟩
      case measure => simp [intOf]; omega
    · obtain rfl : k = la := by omega
      have t1 : ¬ (k : Int) < (k : Int) := by omega
      have HO := hide (hin.out hx)
      obtain ⟨N, hN⟩ : ∃ N, N = num 65536 xs * 10 + d := ⟨_, rfl⟩
      have HN := hide hN
      rw [← hN] at HO
      clear hin hN hax ox
      go_wp2
      go_loopw [7, 8] (fun v cv wr => ∃ c : Nat, cv = .int .u64 (c : Int) ∧ TOut w N k c v wr) (fun _ cv _ => (intOf cv).toNat)
      case atStart => exact ⟨c, rfl, HO.out⟩
      case round =>
        clear HO hc9
        obtain ⟨c, rfl, hout⟩ := hrel
        obtain ⟨r, hgr, hrl, hrc, hro, hrn⟩ := hout.row
        have hc9 := hout.small
        by_cases h0 : c = 0
        · subst h0
          obtain ⟨ao', cp, rfl, hcp, hat⟩ := hgr.at
          have hbel := hgr.1
          have HR : Hid (Ok 65536 r ∧ num 65536 r = N ∧ r.length ≤ k + 1) := ⟨hro, by rw [Nat.zero_mul] at hrn; exact hrn, hrl⟩
          clear hgr hout hro hrn hrc hrl
          go_wp2
          go_ret
          exact ⟨ao', cp, r, rfl, hcp, hat, HR.out.1, HR.out.2.1.trans HN.out, HR.out.2.2, hbel⟩
        · have hpos : (0 : Int) < (c : Int) := by omega
          have hrk := hrc h0
          have hown := hgr.2
          obtain ⟨l, hl⟩ : ∃ l, l = r.length := ⟨_, rfl⟩
          rw [← hl] at hown hrk hrn
          have e1 : bits .and .u64 (c : Int) 65535 % 4294967296 = (c : Int) := by
            rw [and16 _ (Nat.lt_trans (show c < 1000000 by omega) (by decide))]; omega
          have e2 : (c : Int) / 65536 = 0 := by omega
          have hsz := hgr.1.size
          have HIN : Hid (∀ v' w1, Grows w w1 v' (r ++ [c]) → TOut w N k 0 v' w1) := by
            intro v' w1 hg
            refine ⟨by omega, _, hg, by simp; omega, fun h => absurd rfl h, hro.snoc (by omega), ?_⟩
            rw [num_snoc, Nat.zero_mul, ← hl]; exact hrn
          have HG : Hid (Grows w wr u7 r) := hgr
          have HRL : Hid (r.length = l) := hl.symm
          clear hgr hout hro hrn hrc hrl hl
          go_wp2_with (at_builtin; refine wpList_append_own _ rfl _ _ 67 rfl w.heap.size 76 i0 (.int .u32 0) 1 4 Tryz.underlying67 hi hz0 hz1 hz2 rfl (by decide) _ _ _ rfl (hown.alloc _) ⟨wr.heap.size, 0, none⟩ 1 1 [.int .u32 (c : Int)] rfl rfl ?c1B ?c2B ?c3B ?c4B ?c5B ?_)
          try case c1B => exact new_cell wr _ _
          case c2B => first | exact one_one _ _ | rfl
          case c3B => unfold maxLen; omega
          case c4B => omega
          case c5B => first | (simp; omega) | omega
          intro v' w1 hown' hgrow _
          have hg' := HG.out.step _ (by rw [HRL.out]; exact hown') hgrow
          have HI := hide (HIN.out _ _ hg')
          clear hown hown' hgrow hg' HG HIN e1 HRL
          go_wp2
          go_roundw
          case rel => exact ⟨0, rfl, HI.out⟩
          case measure => simp [intOf]; omega

end Go.Proofs.YtckijnlolmbdiaaGreatDoor

namespace Go.Proofs.YtckijnlolmbdiaaGreatDoor
open Go.RowKit

set_option maxRecDepth 100000 in
set_option maxHeartbeats 1000000 in
theorem rof_any (s : ByteArray) (w : World) (hn : s.size ≤ 100000) (hd : DigB (bys s)) :
    Calls Tryz.prog 64 #[.string s] w (RPost w (s.size + 1) (decV (bys s))) := by
  obtain ⟨n, hnn⟩ : ∃ n, n = s.size := ⟨_, rfl⟩
  have HD : Hid (DigB (bys s)) := hd
  have HL : Hid ((bys s).length = n) := by rw [hnn]; exact bys_len s
  clear hd
  go_enter Tryz.func64, Tryz.ntmps64
  go_wp2
  go_loopw [3, 4] (fun v i wr => ∃ (k : Nat) (o : Option Addr) (c : Nat) (r : List Nat), k ≤ n ∧ i = .int .i64 (k : Int) ∧ v = .slice o r.length c ∧ r.length ≤ c ∧ r.length ≤ k ∧ At .u32 wr o r ∧ Ok 65536 r ∧ num 65536 r = decV ((bys s).take k) ∧ Below w.heap.size w wr) (fun _ i _ => n - (intOf i).toNat)
  case atStart => exact ⟨0, _, _, [], Nat.zero_le _, rfl, rfl, Nat.le_refl _, Nat.le_refl _, At.nil _ _ _, (Is.none (by decide)).1, by simp [decV, num, V], (Below.refl _ _).alloc (Nat.le_refl _) _⟩
  case round =>
    obtain ⟨k, o, c, r, hk, rfl, rfl, hrc, hrk, hat, hro, hrn, hb⟩ := hrel
    by_cases hlt : k < n
    · have hlt' : (k : Int) < (s.size : Int) := by omega
      have hks : k < s.size := by omega
      have hbb := HD.out k (by rw [HL.out]; exact hlt)
      have hg : ∀ h : k < s.size, s[k].toNat = byt (bys s) k := fun h => byt_get s k h
      have hs := decV_succ (bys s) (k := k) (by rw [HL.out]; exact hlt)
      obtain ⟨b, hbe⟩ : ∃ b, b = byt (bys s) k := ⟨_, rfl⟩
      rw [← hbe] at hbb hg hs
      obtain ⟨d, hd⟩ : ∃ d, d = b - 48 := ⟨_, rfl⟩
      rw [← hd, ← hrn] at hs
      have e1 : (b : Int) - 48 = (d : Int) := by omega
      have hd9 : d ≤ 9 := by omega
      have HS := hide hs
      clear hs hrn hbe hd
      go_wp2_with fail
      refine (times_any o r.length c d r _ (by omega) hd9 rfl hat hro).mono ?_
      rintro e w1 ⟨o1, c1, r1, rfl, hl1, hat1, hok1, hn1, hm1, hb1⟩
      rw [← HS.out] at hn1
      have hbw := hb.trans (hb1.mono hb.size)
      have HAT := hide hat1
      have HN1 := hide hn1
      have HBW := hide hbw
      have HOK := hide hok1
      clear hat hro hb hb1 hat1 hn1 hbw hok1 hg
      go_wp2
      go_roundw
      case rel => exact ⟨k + 1, o1, c1, r1, by omega, by go_num, rfl, hl1, by omega, HAT.out, HOK.out, HN1.out, HBW.out⟩
      case measure => simp [intOf]; omega
    · obtain rfl : k = n := by omega
      have hlt' : ¬ (k : Int) < (s.size : Int) := by omega
      have e : (bys s).take k = bys s := List.take_of_length_le (by rw [HL.out]; omega)
      rw [e] at hrn
      have HRN := hide hrn
      have ha := hat.alloc (Obj.cells #[] 76)
      have hb2 := hb.alloc hb.size (Obj.cells #[] 76)
      clear hat hrn e hb
      go_wp2_with fail
      refine (radd_any o _ r.length c 0 0 r [] _ (by omega) (by omega) rfl rfl ha (At.nil _ _ _) hro (Is.none (by decide)).1).mono ?_
      rintro e w1 ⟨o1, c1, r1, rfl, hl1, hat1, his1, hm1, hb1⟩
      rw [HRN.out, show num 65536 [] = 0 from rfl, Nat.add_zero] at his1
      have hbw := hb2.trans (hb1.mono hb2.size)
      clear ha hb2 hb1
      go_wp2
      go_ret
      exact ⟨o1, c1, r1, rfl, hl1, hat1, his1, by omega, hbw⟩

end Go.Proofs.YtckijnlolmbdiaaGreatDoor

namespace Go.Proofs.YtckijnlolmbdiaaGreatDoor
open Go.RowKit

/-- A list of the reference's digits is the number n, with at most m digits. -/
def Rl (W : World) (o : Option Addr) (l c n m : Nat) : Prop := ∃ r : List Nat, r.length = l ∧ l ≤ c ∧ l ≤ m ∧ At .u32 W o r ∧ Is 65536 r n
/-- A sign and a list are the whole number z in its one form; the list lies at lo or above. -/
def RI (W : World) (s : Bool) (o : Option Addr) (l c : Nat) (z : Int) (m lo : Nat) : Prop := ∃ r : List Nat, r.length = l ∧ l ≤ c ∧ l ≤ m ∧ s = decide (z < 0) ∧ Res .u32 W o r lo W.heap.size ∧ Is 65536 r z.natAbs

theorem RI.below {W W' : World} {s : Bool} {o : Option Addr} {l c m lo : Nat} {z : Int} (h : RI W s o l c z m lo) (hb : Below W.heap.size W W') : RI W' s o l c z m lo := by
  obtain ⟨r, h1, h2, h3, h4, h5, h6⟩ := h
  exact ⟨r, h1, h2, h3, h4, (h5.below hb).mono (Nat.le_refl _) hb.size, h6⟩
theorem RI.set {W : World} {s : Bool} {o : Option Addr} {l c m lo H i : Nat} {z : Int} (h : RI W s o l c z m lo) (hH : H < lo) (v : Value) : RI (W.setCell ⟨H, i, none⟩ v) s o l c z m lo := by
  obtain ⟨r, h1, h2, h3, h4, h5, h6⟩ := h
  exact ⟨r, h1, h2, h3, h4, (h5.set (.inl hH) v).mono (Nat.le_refl _) (by simp [World.setCell]), h6⟩
theorem RI.lo {W : World} {s : Bool} {o : Option Addr} {l c m lo lo' m' : Nat} {z : Int} (h : RI W s o l c z m lo) (hl : lo' ≤ lo) (hm : m ≤ m') : RI W s o l c z m' lo' := by
  obtain ⟨r, h1, h2, h3, h4, h5, h6⟩ := h
  exact ⟨r, h1, h2, by omega, h4, h5.mono hl (Nat.le_refl _), h6⟩
theorem Rl.below {W W' : World} {o : Option Addr} {l c n m : Nat} (h : Rl W o l c n m) (hb : Below W.heap.size W W') : Rl W' o l c n m := by
  obtain ⟨r, h1, h2, h3, h4, h5⟩ := h
  exact ⟨r, h1, h2, h3, h4.below hb, h5⟩
theorem RI.abs {W : World} {s : Bool} {o : Option Addr} {l c m lo : Nat} {z : Int} (h : RI W s o l c z m lo) : Rl W o l c z.natAbs m := by
  obtain ⟨r, h1, h2, h3, h4, h5, h6⟩ := h
  exact ⟨r, h1, h2, h3, h5.1, h6⟩

theorem rmakeI (neg : Bool) (o : Option Addr) (l c n m : Nat) (w : World) (hm : m ≤ 100000) (h : Rl w o l c n m) :
    Calls Tryz.prog 47 #[.bool neg, .slice o l c] w fun e w' => (∃ s o l c, e = .returned (.agg #[.bool s, .slice o l c]) ∧ RI w' s o l c (zv neg n) (m + 1) w.heap.size) ∧ Below w.heap.size w w' := by
  obtain ⟨r, h1, h2, h3, h4, h5⟩ := h
  have g := rmake neg o l c r w (by omega) h1 h4 h5.1
  rw [h5.2.2] at g
  refine g.mono ?_
  rintro e w' ⟨s, o', c', r', hs, rfl, hle, hres, his, hlen, hb⟩
  exact ⟨⟨s, o', r'.length, c', rfl, r', rfl, hle, by omega, hs.out, hres.mono (Nat.le_refl _) (Nat.le_refl _), his⟩, hb⟩

theorem results_num {fn : Func} {a : Tmp} (h : fn.results = #[.cell a 71]) (tmps : Array Value) (H : Nat) (x0 x1 x2 : Value) (w : World) (ht : tmps.getD a undef = .pointer (some ⟨H, 0, none⟩)) (hp : Blk w H #[x0, x1, x2] 71) :
    (results fn tmps).run Tryz.prog w = .ok (.agg #[x0, x1, x2]) w := by
  have c0 := hp.cell 0
  have c1 := hp.cell 1
  have c2 := hp.cell 2
  simp at c0 c1 c2
  rw [Array.getD_eq_getD_getElem?] at ht
  simp [results, h, ht, go_sem, c0, c1, c2]
theorem Blk.put3 {w : World} {b : Nat} {t : TypeId} {x0 x1 x2 : Value} (h : Blk w b #[x0, x1, x2] t) (y0 y1 y2 : Value) : Blk (((w.setCell ⟨b, 0, none⟩ y0).setCell ⟨b, 1, none⟩ y1).setCell ⟨b, 2, none⟩ y2) b #[y0, y1, y2] t := by
  unfold Blk at *
  simp only [World.setCell, Array.getElem?_modify, if_true, h, Option.map_some]
  rfl
theorem Blk.putI2 {w : World} {b : Nat} {t : TypeId} {x0 x1 : Value} (h : Blk w b #[x0, x1] t) (y0 y1 : Value) : Blk ((w.setCell ⟨b, 0, none⟩ y0).setCell ⟨b, 1, none⟩ y1) b #[y0, y1] t := by
  unfold Blk at *
  simp only [World.setCell, Array.getElem?_modify, if_true, h, Option.map_some]
  rfl

set_option maxRecDepth 100000 in
set_option maxHeartbeats 2000000 in
theorem rnof (ca : Int) (na : Bool) (ta : ByteArray) (ea : Int) (w : World) (hn : ta.size ≤ 1000) (hd : DigB (bys ta)) : Calls Tryz.prog 45 #[dcV ca na ta ea] w fun e w' => (∃ s o l c, e = .returned (.agg #[.bool s, .slice o l c, .int .i64 ea]) ∧ RI w' s o l c (zv na (decV (bys ta))) 1002 (w.heap.size + 1)) ∧ Below w.heap.size w w' := by
  have HD := hide hd
  have HS := hide hn
  clear hd
  have Ba0 := hide ((Blk.newAt w (w.heap.size) (rfl) #[.int .i64 ca, .bool na, .string ta, .int .i64 ea] 23).alloc (.cells #[.bool false, .slice none 0 0, .int .i64 0] 71))
  have Br0 := hide (Blk.newAt (w.alloc (.cells #[.int .i64 ca, .bool na, .string ta, .int .i64 ea] 23)) (w.heap.size + 1) (by simp) #[.bool false, .slice none 0 0, .int .i64 0] 71)
  have HB0 : Hid (Below w.heap.size w ((w.alloc (.cells #[.int .i64 ca, .bool na, .string ta, .int .i64 ea] 23)).alloc (.cells #[.bool false, .slice none 0 0, .int .i64 0] 71))) := (((Below.refl _ _).alloc (Nat.le_refl _) _).alloc (by simp <;> omega) _)
  obtain ⟨W, hW⟩ : ∃ W, W = ((w.alloc (.cells #[.int .i64 ca, .bool na, .string ta, .int .i64 ea] 23)).alloc (.cells #[.bool false, .slice none 0 0, .int .i64 0] 71)) := ⟨_, rfl⟩
  rw [← hW] at HB0 Ba0 Br0 
  have HW := hide hW
  clear hW
  have ya0 : W.cell? ⟨w.heap.size, 0, none⟩ = some (.int .i64 ca) := Ba0.out.cell 0
  have ya1 : W.cell? ⟨w.heap.size, 1, none⟩ = some (.bool na) := Ba0.out.cell 1
  have ya2 : W.cell? ⟨w.heap.size, 2, none⟩ = some (.string ta) := Ba0.out.cell 2
  have ya3 : W.cell? ⟨w.heap.size, 3, none⟩ = some (.int .i64 ea) := Ba0.out.cell 3
  have yr0 : W.cell? ⟨w.heap.size + 1, 0, none⟩ = some (.bool false) := Br0.out.cell 0
  have yr1 : W.cell? ⟨w.heap.size + 1, 1, none⟩ = some (.slice none 0 0) := Br0.out.cell 1
  have yr2 : W.cell? ⟨w.heap.size + 1, 2, none⟩ = some (.int .i64 0) := Br0.out.cell 2
  obtain ⟨G, hG⟩ : ∃ G, G = w.heap.size + 1 := ⟨_, rfl⟩
  have gn1 : ¬ G = w.heap.size := by omega
  have gn2 : ¬ w.heap.size = G := by omega
  have gle : w.heap.size ≤ G := by omega
  rw [← hG] at Br0 yr0 yr1 yr2
  have HG := hide hG
  have HLT : Hid (G < W.heap.size) := Br0.out.lt
  clear hG yr0 yr1 yr2
  go_enter Tryz.func45, Tryz.ntmps45
  have C0 : Hid (∀ X, Hid (Below W.heap.size W X) → Calls Tryz.prog 64 #[.string ta] X fun e w' => (∃ o l c, e = .returned (.slice o l c) ∧ Hid (Rl w' o l c (decV (bys ta)) 1001)) ∧ Hid (Below W.heap.size W w') ∧ w'.cell? ⟨w.heap.size, 0, none⟩ = some (.int .i64 ca) ∧ w'.cell? ⟨w.heap.size, 1, none⟩ = some (.bool na) ∧ w'.cell? ⟨w.heap.size, 2, none⟩ = some (.string ta) ∧ w'.cell? ⟨w.heap.size, 3, none⟩ = some (.int .i64 ea)) := by
    intro X bX
    refine (rof_any ta X (by have := HS.out; omega) HD.out).mono ?_
    rintro e w' ⟨o, c, r, rfl, hle, hat, his, hm, hb⟩
    have bb := bX.out.trans (hb.mono bX.out.size)
    have Baq := Ba0.out.below bb Ba0.out.lt
    exact ⟨⟨o, r.length, c, rfl, r, rfl, hle, by have := HS.out; omega, hat, his⟩, bb, Baq.cell 0, Baq.cell 1, Baq.cell 2, Baq.cell 3⟩
  have C1 : Hid (∀ X o l c, Hid (Below W.heap.size W X) → Hid (Rl X o l c (decV (bys ta)) 1001) → Calls Tryz.prog 47 #[.bool na, .slice o l c] X fun e w' => (∃ s o l c, e = .returned (.agg #[.bool s, .slice o l c]) ∧ Hid (RI w' s o l c (zv na (decV (bys ta))) 1002 W.heap.size)) ∧ Hid (Below W.heap.size W w') ∧ w'.cell? ⟨w.heap.size, 0, none⟩ = some (.int .i64 ca) ∧ w'.cell? ⟨w.heap.size, 1, none⟩ = some (.bool na) ∧ w'.cell? ⟨w.heap.size, 2, none⟩ = some (.string ta) ∧ w'.cell? ⟨w.heap.size, 3, none⟩ = some (.int .i64 ea)) := by
    intro X o l c bX hz
    refine (rmakeI na o l c _ _ X (by omega) hz.out).mono ?_
    rintro e w' ⟨⟨s, o, l, c, rfl, hz⟩, hb⟩
    have bb := bX.out.trans (hb.mono bX.out.size)
    have Baq := Ba0.out.below bb Ba0.out.lt
    exact ⟨⟨s, o, l, c, rfl, hz.lo bX.out.size (Nat.le_refl _)⟩, bb, Baq.cell 0, Baq.cell 1, Baq.cell 2, Baq.cell 3⟩
  have b0 : Hid (Below W.heap.size W W.drew) := bdrewD W
  go_wp2_with fail
  simp only [← HW.out]
  simp only [← HG.out]
  have mk0 : True := trivial
  go_region_held3 (fun w' => w'.cell? ⟨w.heap.size, 0, none⟩ = some (.int .i64 ca) ∧ w'.cell? ⟨w.heap.size, 1, none⟩ = some (.bool na) ∧ w'.cell? ⟨w.heap.size, 2, none⟩ = some (.string ta) ∧ w'.cell? ⟨w.heap.size, 3, none⟩ = some (.int .i64 ea)) (go_keep) (first
    | (clear mk0; go_at_call 64; refine (C0.out _ b0).mono ?_; rintro e w1 ⟨⟨o1, l1, c1, rfl, Z1⟩, b1, q0_0, q0_1, q0_2, q0_3⟩; have mk1 : True := trivial)
    | (clear mk1; go_at_call 47; refine (C1.out _ o1 l1 c1 b1 Z1).mono ?_; rintro e w2 ⟨⟨s2, o2, l2, c2, rfl, Z2⟩, b2, q1_0, q1_1, q1_2, q1_3⟩; have Brq := hide (Br0.out.below b2.out Br0.out.lt); have fr0 := Brq.out.free 0; have fr1 := Brq.out.free 1; have fr2 := Brq.out.free 2; have gr0 : w2.cell? ⟨G, 0, none⟩ = some (.bool false) := Brq.out.cell 0; have gr1 : w2.cell? ⟨G, 1, none⟩ = some (.slice none 0 0) := Brq.out.cell 1; have gr2 : w2.cell? ⟨G, 2, none⟩ = some (.int .i64 0) := Brq.out.cell 2; have mk2 : True := trivial))
  have HBq := hide (HB0.out.trans (b2.out.mono HB0.out.size))
  go_wp2
  refine bodyPost_ret (results_num rfl _ _ _ _ _ _ rfl (Brq.out.put3 _ _ _)) rfl ?_
  exact ⟨⟨_, _, _, _, rfl, ((Z2.out.set HLT.out _).set HLT.out _).set HLT.out _ |>.lo (by have := HLT.out; have := HG.out; omega) (Nat.le_refl _)⟩, ((HBq.out.setCell gle _).setCell gle _).setCell gle _⟩

end Go.Proofs.YtckijnlolmbdiaaGreatDoor

namespace Go.Proofs.YtckijnlolmbdiaaGreatDoor
open Go.RowKit

theorem shl_nums {x c s : Nat} (hx : x < 65536) (hs : s ≤ 15) (hc : c < 2 ^ s) :
    IntKind.u32.wrap ((x : Int) * 2 ^ s) = ((x * 2 ^ s : Nat) : Int) ∧ bits .or .u32 ((x * 2 ^ s : Nat) : Int) (c : Int) = ((x * 2 ^ s + c : Nat) : Int) ∧ bits .and .u32 ((x * 2 ^ s + c : Nat) : Int) 65535 = (((x * 2 ^ s + c) % 65536 : Nat) : Int) ∧ x * 2 ^ s + c < 4294967296 := by
  have hp := pow_lt16 hs
  have h1 : x * 2 ^ s ≤ 65535 * 65535 := Nat.mul_le_mul (by omega) (by omega)
  have hlt : x * 2 ^ s + c < 4294967296 := by omega
  refine ⟨?_, ?_, and16u _ hlt, hlt⟩
  · rw [IntKind.wrap_u32', show (x : Int) * 2 ^ s = ((x * 2 ^ s : Nat) : Int) by push_cast; rfl]; omega
  · rw [u32_or_nat _ _ (by omega) (by omega), Nat.or_comm, or_low hc, Nat.add_comm]

theorem Grows.made {w w1 : World} {n : Nat} (hb : Below w.heap.size w w1) (h : w1.ownsRow w.heap.size 76 1 (.slice (some ⟨w.heap.size, 0, none⟩) n n) n (madeCells #[Value.int .u32 0] n).toList) :
    Grows w w1 (.slice (some ⟨w.heap.size, 0, none⟩) n n) (List.replicate n 0) := by
  refine ⟨hb, ?_⟩
  rw [vals_replicate, List.length_replicate]
  rw [toList_madeCells_one] at h
  exact h

set_option maxRecDepth 100000 in
set_option maxHeartbeats 1000000 in
theorem rshl_at (b o m cap n la ca : Nat) (xs : List Nat) (w : World) (hn : n ≤ 65536) (hm0 : 0 < m) (hm : m ≤ 100000000) (hx : xs.length = m) (hb : b < w.heap.size)
    (hcell : ∀ i, i < m → w.cell? ⟨b, o + i, none⟩ = some (.int .u32 ((dg xs i : Nat) : Int))) (ox : Ok 65536 xs)
    (c1 : ∀ w' : World, w'.heap = w.heap → Calls Tryz.prog 159 #[.slice (some ⟨b, o, none⟩) la ca] w' fun e w'' => e = .returned (.slice (some ⟨b, o, none⟩) m cap) ∧ w' = w'') :
    Calls Tryz.prog 212 #[.slice (some ⟨b, o, none⟩) la ca, .int .i64 (n : Int)] w (RPost w (m + 4097) (num 65536 xs * 2 ^ n)) := by
  obtain ⟨i0, hi, hz0, hz1, hz2⟩ := info_parts Tryz.infoD
  have C1 : Hid (∀ w' : World, w'.heap = w.heap → Calls Tryz.prog 159 #[.slice (some ⟨b, o, none⟩) la ca] w' fun e w'' => e = .returned (.slice (some ⟨b, o, none⟩) m cap) ∧ w' = w'') := c1
  obtain ⟨lm, hlm⟩ : ∃ lm, lm = n / 16 := ⟨_, rfl⟩
  obtain ⟨s, hs⟩ : ∃ s, s = n % 16 := ⟨_, rfl⟩
  have hlb : lm ≤ 4096 := by omega
  have hsb : s ≤ 15 := by omega
  have q1 : (n : Int) / 16 = (lm : Int) := by omega
  have q2 : (n : Int) % 16 = (s : Int) := by omega
  have HP : Hid (65536 ^ lm * 2 ^ s = 2 ^ n) := by
    rw [hlm, hs, show (65536 : Nat) = 2 ^ 16 by decide +kernel, ← Nat.pow_mul, ← Nat.pow_add]
    show 2 ^ (16 * (n / 16) + n % 16) = 2 ^ n
    congr 1; omega
  have hne : ((m : Int) == 0) = false := by rw [beq_eq_false_iff_ne]; omega
  obtain ⟨D, hD⟩ : ∃ D, D = shlD s (dg xs) := ⟨_, rfl⟩
  have HDF : Hid (D = shlD s (dg xs)) := hD
  clear c1 hlm hs hD
  go_enter Tryz.func212, Tryz.ntmps212
  go_wp2_with fail
  refine (C1.out _ rfl).mono ?_
  rintro e w' ⟨rfl, rfl⟩
  go_wp2_with (at_make; refine wpList_make_full _ rfl _ _ 67 rfl w.heap.size 76 i0 (.int .u32 0) 1 Tryz.underlying67 hi hz0 hz1 _ _ _ _ lm rfl rfl (by omega) (by omega) (by rw [hz2]; omega) (by unfold maxLen; omega) (Nat.le_refl _) ?_)
  intro w1 hown hgrow
  have hb1 : Below w.heap.size w w1 := (Below.refl _ _).grown hgrow (Nat.le_refl _) (fun k hk => by cases hk)
  have HG0 : Hid (Grows w w1 (.slice (some ⟨w.heap.size, 0, none⟩) lm lm) (List.replicate lm 0)) := Grows.made hb1 hown
  clear hown hgrow hb1
  go_wp2
  go_loopw [5, 6, 7, 8] (fun v cv i _ wr => ∃ k c : Nat, k ≤ m ∧ cv = .int .u32 (c : Int) ∧ i = .int .i64 k ∧ c = shlC s (dg xs) k ∧ Grows w wr v (List.replicate lm 0 ++ mk D k)) (fun _ _ i _ _ => m - (intOf i).toNat)
  case atStart => exact ⟨0, 0, Nat.zero_le _, rfl, rfl, rfl, by simpa [mk] using HG0.out⟩
  case round =>
    clear HG0
    obtain ⟨k, c, hk, rfl, rfl, hc, hgr⟩ := hrel
    have hcl : c < 2 ^ s := by rw [hc]; exact shlC_lt ox k
    have hp := pow_lt16 hsb
    have HC : Hid (c = shlC s (dg xs) k) := hc
    have HG : Hid (Grows w wr u5 (List.replicate lm 0 ++ mk D k)) := hgr
    have hdl : (List.replicate lm 0 ++ mk D k).length = lm + k := by simp [mk]
    have hown := hgr.2
    rw [hdl] at hown
    have hsz := hgr.1.size
    have hcl16 : c ≤ 65535 := by omega
    have HCL : Hid (c < 2 ^ s) := hcl
    clear hc hcl hp
    by_cases hlt : k < m
    · have t1 : (k : Int) < (m : Int) := by omega
      have c0 : wr.cell? ⟨b, o + k, none⟩ = some (.int .u32 ((dg xs k : Nat) : Int)) := (hgr.1.cell hb).trans (hcell k hlt)
      obtain ⟨x, hxk⟩ : ∃ x, x = dg xs k := ⟨_, rfl⟩
      rw [← hxk] at c0
      have hxl : x < 65536 := by rw [hxk]; exact ox k
      obtain ⟨m1, m2, m3, m4⟩ := shl_nums (x := x) (c := c) (s := s) hxl hsb HCL.out
      have eD : D k = (x * 2 ^ s + c) % 65536 := by rw [HDF.out, HC.out, hxk]; show (0 + dg xs k * 2 ^ s + shlC s (dg xs) k) % 65536 = _; rw [Nat.zero_add]
      have eC : shlC s (dg xs) (k + 1) = (x * 2 ^ s + c) / 65536 := by rw [HC.out, hxk]; show (0 + dg xs k * 2 ^ s + shlC s (dg xs) k) / 65536 = _; rw [Nat.zero_add]
      obtain ⟨u, hu⟩ : ∃ u, u = x * 2 ^ s := ⟨_, rfl⟩
      rw [← hu] at m1 m2 m3 m4 eD eC
      obtain ⟨t, ht⟩ : ∃ t, t = u + c := ⟨_, rfl⟩
      rw [← ht] at m2 m3 m4 eD eC
      obtain ⟨d, hd⟩ : ∃ d, d = t % 65536 := ⟨_, rfl⟩
      rw [← hd] at m3 eD
      obtain ⟨c', hc'⟩ : ∃ c', c' = t / 65536 := ⟨_, rfl⟩
      rw [← hc'] at eC
      have hsh : (t : Int) / 65536 = (c' : Int) := by omega
      have HDD : Hid (D k = d) := eD
      have HCC : Hid (c' = shlC s (dg xs) (k + 1)) := eC.symm
      have ht4 : t ≤ 4294967295 := by omega
      clear hgr hxk eD eC hu ht hd hc' hcell ox m4
      go_wp2_with (at_builtin; refine wpList_append_own _ rfl _ _ 67 rfl w.heap.size 76 i0 (.int .u32 0) 1 4 Tryz.underlying67 hi hz0 hz1 hz2 rfl (by decide) _ _ _ rfl (hown.alloc _) ⟨wr.heap.size, 0, none⟩ 1 1 [.int .u32 (d : Int)] rfl rfl ?c1A ?c2A ?c3A ?c4A ?c5A ?_)
      try case c1A => exact new_cell wr _ _
      case c2A => first | exact one_one _ _ | rfl
      case c3A => unfold maxLen; omega
      case c4A => omega
      case c5A => first | (simp; omega) | omega
      intro v' w1 hown' hgrow _
      have hg' := HG.out.step _ (by rw [hdl]; exact hown') hgrow
      have HG' : Hid (Grows w w1 v' (List.replicate lm 0 ++ mk D (k + 1))) := by show Grows _ _ _ _; rw [mk_succ, HDD.out, ← List.append_assoc]; exact hg'
      clear hown hown' hgrow hg' HG
      go_wp2
      go_roundw
      case rel => exact ⟨k + 1, c', by omega, rfl, by go_num, HCC.out, HG'.out⟩
      case measure => simp [intOf]; omega
    · obtain rfl : k = m := by omega
      have t1 : ¬ (k : Int) < (k : Int) := by omega
      have his := shl_is (lm := lm) ox hx hsb
      rw [← HDF.out, ← HC.out, HP.out] at his
      have HI : Hid (Ok 65536 (List.replicate lm 0 ++ mk D k ++ [c]) ∧ num 65536 (List.replicate lm 0 ++ mk D k ++ [c]) = num 65536 xs * 2 ^ n) := his
      clear hgr his hcell
      go_wp2_with (at_builtin; refine wpList_append_own _ rfl _ _ 67 rfl w.heap.size 76 i0 (.int .u32 0) 1 4 Tryz.underlying67 hi hz0 hz1 hz2 rfl (by decide) _ _ _ rfl (hown.alloc _) ⟨wr.heap.size, 0, none⟩ 1 1 [.int .u32 (c : Int)] rfl rfl ?c1B ?c2B ?c3B ?c4B ?c5B ?_)
      try case c1B => exact new_cell wr _ _
      case c2B => first | exact one_one _ _ | rfl
      case c3B => unfold maxLen; omega
      case c4B => omega
      case c5B => first | (simp; omega) | omega
      intro v' w1 hown' hgrow _
      have hg' := HG.out.step _ (by rw [hdl]; exact hown') hgrow
      obtain ⟨ao', cp, rfl, hcp, hat⟩ := hg'.at
      have hbel := hg'.1
      obtain ⟨z, hz⟩ : ∃ z, z = List.replicate lm 0 ++ mk D k ++ [c] := ⟨_, rfl⟩
      rw [← hz] at hat hcp HI
      have hzl : z.length = lm + k + 1 := by rw [hz]; simp [mk]; omega
      obtain ⟨q, hq⟩ : ∃ q, q = (trimmed z).length := ⟨_, rfl⟩
      have HQ : Hid ((trimmed z).length = q) := hq.symm
      have HZ : Hid (z.length = lm + k + 1) := hzl
      have hqle : q ≤ lm + k + 1 := by rw [hq, ← hzl]; exact length_trimmed_le z
      rw [← hz, hzl]
      rw [hzl] at hcp
      clear hown hown' hgrow hg' HG hz hzl hq
      go_wp2_with fail
      refine (rtrim_to ao' (lm + k + 1) cp q z _ hcp (by omega) HZ.out hat HQ.out).mono ?_
      rintro e w' ⟨rfl, rfl⟩
      go_wp2
      go_ret
      refine ⟨ao', cp, trimmed z, by rw [HQ.out]; rfl, by rw [HQ.out]; omega, hat.trimmed, ?_, by rw [HQ.out]; omega, hbel⟩
      rw [← HI.out.2]; exact Is.trimmed HI.out.1

set_option maxRecDepth 100000 in
set_option maxHeartbeats 1000000 in
theorem rshl_none (ao : Option Addr) (cap la ca : Nat) (n : Int) (w : World)
    (c1 : ∀ w' : World, w'.heap = w.heap → Calls Tryz.prog 159 #[.slice ao la ca] w' fun e w'' => e = .returned (.slice ao 0 cap) ∧ w' = w'') :
    Calls Tryz.prog 212 #[.slice ao la ca, .int .i64 n] w (RPost w 0 0) := by
  have C1 : Hid (∀ w' : World, w'.heap = w.heap → Calls Tryz.prog 159 #[.slice ao la ca] w' fun e w'' => e = .returned (.slice ao 0 cap) ∧ w' = w'') := c1
  clear c1
  go_enter Tryz.func212, Tryz.ntmps212
  go_wp2_with fail
  refine (C1.out _ rfl).mono ?_
  rintro e w' ⟨rfl, rfl⟩
  go_wp2
  go_ret
  exact ⟨_, _, [], rfl, Nat.le_refl _, At.nil _ _ _, Is.none (by decide), Nat.le_refl _, (Below.refl _ _).alloc (Nat.le_refl _) _⟩

theorem rshl_any (ao : Option Addr) (la ca n : Nat) (xs : List Nat) (w : World) (hn : n ≤ 65536) (hla : la ≤ ca) (hl : la ≤ 100000000) (hx : xs.length = la) (hat : At .u32 w ao xs) (ox : Ok 65536 xs) :
    Calls Tryz.prog 212 #[.slice ao la ca, .int .i64 (n : Int)] w (RPost w (la + 4097) (num 65536 xs * 2 ^ n)) := by
  have l1 := length_trimmed_le xs
  rw [← num_trimmed]
  rcases hat.trimmed with h | ⟨b, o, rfl, hb, hc⟩
  · refine (rshl_none ao ca la ca n w (fun w' hw => rtrim_to ao la ca 0 xs w' hla (by omega) hx (hat.same hw) (by rw [h]; rfl))).mono ?_
    rintro e w' ⟨o', c', z, a1, a2, a3, a4, a5, a6⟩
    refine ⟨o', c', z, a1, a2, a3, ?_, by omega, a6⟩
    rw [h, show num 65536 [] = 0 from rfl, Nat.zero_mul]; exact a4
  · by_cases h0 : (trimmed xs).length = 0
    · have h := List.length_eq_zero_iff.1 h0
      refine (rshl_none _ ca la ca n w (fun w' hw => rtrim_to _ la ca 0 xs w' hla (by omega) hx (hat.same hw) h0)).mono ?_
      rintro e w' ⟨o', c', z, a1, a2, a3, a4, a5, a6⟩
      refine ⟨o', c', z, a1, a2, a3, ?_, by omega, a6⟩
      rw [h, show num 65536 [] = 0 from rfl, Nat.zero_mul]; exact a4
    · refine (rshl_at b o (trimmed xs).length ca n la ca (trimmed xs) w hn (by omega) (by omega) rfl hb hc (trimmed_ok ox) (fun w' hw => rtrim_to _ la ca _ xs w' hla (by omega) hx (hat.same hw) rfl)).mono ?_
      rintro e w' ⟨o', c', z, a1, a2, a3, a4, a5, a6⟩
      exact ⟨o', c', z, a1, a2, a3, a4, by omega, a6⟩

end Go.Proofs.YtckijnlolmbdiaaGreatDoor

namespace Go.Proofs.YtckijnlolmbdiaaGreatDoor
open Go.RowKit

/- (hide is in Long, which this doesn't import) -/
theorem hide32 {p : Prop} (h : p) : Hid p := h

/-- At the head of the reference's loop, k bits being left: the bits so far, divided by B. -/
structure RDivInv (w : World) (m A B k : Nat) (v : Value) (wr : World) : Prop where
  bel : Below w.heap.size w wr
  quo : ∃ q, Row .u32 76 wr w.heap.size q ∧ q.length = m ∧ Ok 65536 q ∧ num 65536 q = A / 2 ^ k / B * 2 ^ k
  rst : ∃ ro rc rs, v = .slice ro rs.length rc ∧ rs.length ≤ rc ∧ At .u32 wr ro rs ∧ Is 65536 rs (A / 2 ^ k % B)

theorem RDivInv.stay {w wr w1 wr' : World} {m A B k : Nat} {q : List Nat} {ro : Option Addr} {rc : Nat} {rs : List Nat} (hB : 0 < B) (hb : Below w.heap.size w wr) (hq : Row .u32 76 wr w.heap.size q) (hl : q.length = m) (ho : Ok 65536 q) (hn : num 65536 q = A / 2 ^ (k + 1) / B * 2 ^ (k + 1))
    (hlt : ¬ B ≤ 2 * (A / 2 ^ (k + 1) % B) + A / 2 ^ k % 2) (hb1 : Below wr.heap.size wr w1) (hlr : rs.length ≤ rc) (hat : At .u32 w1 ro rs) (his : Is 65536 rs (2 * (A / 2 ^ (k + 1) % B) + A / 2 ^ k % 2)) (hw : Like wr' w1) :
    RDivInv w m A B k (.slice ro rs.length rc) wr' := by
  obtain ⟨e1, e2⟩ := (rdiv_next A B k hB).2 hlt
  refine ⟨hw.below (hb.trans (hb1.mono hb.size)), ⟨q, (hq.below hb1 hq.lt).alike hw, hl, ho, ?_⟩, ro, rc, rs, rfl, hlr, hat.same hw.1, ?_⟩
  · rw [hn, e1]
    generalize A / 2 ^ (k + 1) / B = Q
    rw [Nat.pow_succ, Nat.mul_comm (2 ^ k) 2, ← Nat.mul_assoc, Nat.mul_comm Q 2]
  · rw [e2]; exact his

theorem RDivInv.put {w wr w1 wr' : World} {m A B k j s : Nat} {q : List Nat} {ro : Option Addr} {rc : Nat} {rs : List Nat} (hB : 0 < B) (hb : Below w.heap.size w wr) (hq : Row .u32 76 wr w.heap.size q) (hl : q.length = m) (ho : Ok 65536 q) (hn : num 65536 q = A / 2 ^ (k + 1) / B * 2 ^ (k + 1))
    (hk : k = 16 * j + s) (hs : s ≤ 15) (hj : j < m) (hge : B ≤ 2 * (A / 2 ^ (k + 1) % B) + A / 2 ^ k % 2) (hb1 : Below wr.heap.size wr w1) (hlr : rs.length ≤ rc) (hat : At .u32 w1 ro rs) (his : Is 65536 rs (2 * (A / 2 ^ (k + 1) % B) + A / 2 ^ k % 2 - B))
    (hnw : ∀ b o, ro = some ⟨b, o, none⟩ → w.heap.size < b) (hw : Like wr' (w1.setCell ⟨w.heap.size, j, none⟩ (.int .u32 ((dg q j ||| 2 ^ s : Nat) : Int)))) :
    RDivInv w m A B k (.slice ro rs.length rc) wr' := by
  obtain ⟨e1, e2⟩ := (rdiv_next A B k hB).1 hge
  obtain ⟨b1, b2⟩ := set_bit (ho j) hs (low_zero ho hs (by rw [hn, hk]))
  have hbw := hb.trans (hb1.mono hb.size)
  have hat' : ∀ u, At .u32 (w1.setCell ⟨w.heap.size, j, none⟩ u) ro rs := by
    intro u
    rcases hat with h | ⟨b, o, h1, h2, h3⟩
    · exact .inl h
    · have hne := hnw b o h1
      refine .inr ⟨b, o, h1, by simpa [World.setCell] using h2, fun i hi => ?_⟩
      rw [World.cell?_of_block (w := w1) (Below.heap_setCell _ _ _ _ (by show b ≠ w.heap.size; omega))]
      exact h3 i hi
  refine ⟨hw.below (hbw.setCell (Nat.le_refl _) _), ⟨q.set j (dg q j ||| 2 ^ s), ((hq.below hb1 hq.lt).set j _).alike hw, by simp [hl], ho.set (by omega) (by rw [b1]; exact b2), ?_⟩, ro, rc, rs, rfl, hlr, (hat' _).same hw.1, ?_⟩
  · have h := num_set 65536 q j (dg q j ||| 2 ^ s) (by omega)
    rw [b1, Nat.add_mul] at h
    have e3 : 2 ^ s * 65536 ^ j = 2 ^ k := by rw [pow16j, ← Nat.pow_add, hk, Nat.add_comm]
    rw [b1, e1, Nat.add_mul, Nat.one_mul]
    have e4 : 2 * (A / 2 ^ (k + 1) / B) * 2 ^ k = A / 2 ^ (k + 1) / B * 2 ^ (k + 1) := by
      generalize A / 2 ^ (k + 1) / B = Q
      rw [Nat.pow_succ, Nat.mul_comm (2 ^ k) 2, ← Nat.mul_assoc, Nat.mul_comm Q 2]
    rw [e4, ← hn]
    omega
  · rw [e2]; exact his

/-- What the reference's DivMod answers. -/
def RDivPost (w : World) (m p q r : Nat) (e : Ending) (w' : World) : Prop :=
  ∃ ao ca ys bo cb zs, e = .returned (.tuple #[.slice ao ys.length ca, .slice bo zs.length cb]) ∧ ys.length ≤ ca ∧ zs.length ≤ cb ∧ At .u32 w' ao ys ∧ At .u32 w' bo zs ∧ Is 65536 ys q ∧ Is 65536 zs r ∧ ys.length ≤ m ∧ zs.length ≤ p ∧ Below w.heap.size w w'

theorem lit32 (w : World) : At .u32 (w.alloc (.cells #[.int .u32 1] 76)) (some ⟨w.heap.size, 0, none⟩) [1] :=
  Row.at (k := .u32) (e := 76) (heap_alloc_new w _)

theorem ok1 : Ok 65536 [1] := by
  intro i
  rcases i with _ | i
  · simp [dg]
  · rw [dg_out (by simp)]; omega

end Go.Proofs.YtckijnlolmbdiaaGreatDoor

namespace Go.Proofs.YtckijnlolmbdiaaGreatDoor
open Go.RowKit

theorem wrap2s {s : Nat} (hs : s ≤ 15) : IntKind.u32.wrap ((2 : Int) ^ s) = ((2 ^ s : Nat) : Int) := by
  have := pow_lt16 hs
  rw [IntKind.wrap_u32', show (2 : Int) ^ s = ((2 ^ s : Nat) : Int) by push_cast; rfl]
  generalize 2 ^ s = p at *
  omega

theorem and1u (a : Nat) (ha : a < 4294967296) : bits .and .u32 (a : Int) 1 = ((a % 2 : Nat) : Int) := by
  have h := u32_and_nat a 1 ha (by omega)
  rw [Nat.and_one_is_mod] at h
  exact h

set_option maxRecDepth 100000 in
set_option maxHeartbeats 1000000 in
theorem rdivmod_at (b o m ca lb cb : Nat) (bo : Option Addr) (xs ys : List Nat) (w : World) (hm : m ≤ 10000000) (hlb : lb ≤ 10000000) (hlbc : lb ≤ cb) (hx : xs.length = m) (hy : ys.length = lb) (hb : b < w.heap.size)
    (hcell : ∀ i, i < m → w.cell? ⟨b, o + i, none⟩ = some (.int .u32 ((dg xs i : Nat) : Int))) (ox : Ok 65536 xs) (hay : At .u32 w bo ys) (oy : Ok 65536 ys) (ty : Top ys) (hB : 0 < num 65536 ys) :
    Calls Tryz.prog 161 #[.slice (some ⟨b, o, none⟩) m ca, .slice bo lb cb] w (RDivPost w m lb (num 65536 xs / num 65536 ys) (num 65536 xs % num 65536 ys)) := by
  obtain ⟨i0, hi, hz0, hz1, hz2⟩ := info_parts Tryz.infoD
  obtain ⟨A, hA⟩ : ∃ A, A = num 65536 xs := ⟨_, rfl⟩
  obtain ⟨B, hBB⟩ : ∃ B, B = num 65536 ys := ⟨_, rfl⟩
  rw [← hA, ← hBB]
  rw [← hBB] at hB
  have HB : Hid (B = num 65536 ys) := hBB
  have HA : Hid (A = num 65536 xs) := hA
  have HAL : Hid (A < 2 ^ (16 * m)) := by rw [hA, ← pow16j, ← hx]; exact num_lt ox
  have HTY : Hid (Top ys) := ty
  have HC : Hid (∀ i, i < m → w.cell? ⟨b, o + i, none⟩ = some (.int .u32 ((dg xs i : Nat) : Int))) := hcell
  clear hA hBB ty hcell
  go_enter Tryz.func161, Tryz.ntmps161
  go_wp2_with (at_make; refine wpList_make_full _ rfl _ _ 67 rfl w.heap.size 76 i0 (.int .u32 0) 1 Tryz.underlying67 hi hz0 hz1 _ _ _ _ m rfl rfl (by omega) (by omega) (by rw [hz2]; omega) (by unfold maxLen; omega) (Nat.le_refl _) ?_)
  intro w1 hown hgrow
  have hr1 : Row .u32 76 w1 w.heap.size (List.replicate m 0) := Row.made hown
  have hb1 : Below w.heap.size w w1 := (Below.refl _ _).grown hgrow (Nat.le_refl _) (fun k hk => by cases hk)
  clear hown hgrow
  go_wp2
  go_loopw [7, 8] (fun v i wr => ∃ k : Nat, k ≤ 16 * m ∧ i = .int .i64 ((k : Int) - 1) ∧ RDivInv w m A B k v wr) (fun _ i _ => (intOf i + 1).toNat)
  case atStart =>
    have e0 : A / 2 ^ (16 * m) = 0 := Nat.div_eq_of_lt HAL.out
    refine ⟨16 * m, Nat.le_refl _, congrArg (Value.int IntKind.i64) (by omega), hb1.alloc hb1.size _, ⟨_, hr1.alloc _, by simp, Ok.replicate (by omega) _, ?_⟩, _, 0, [], rfl, Nat.le_refl _, At.nil _ _ _, ?_⟩
    · rw [num_replicate, e0, Nat.zero_div, Nat.zero_mul]
    · rw [e0, Nat.zero_mod]; exact Is.none (by omega)
  case round =>
    clear hb1 hr1
    obtain ⟨k, hk, rfl, hinv⟩ := hrel
    obtain ⟨q, hq, hql, hqo, hqn⟩ := hinv.quo
    obtain ⟨ro, rc, rs, rfl, hrc, hrat, hris⟩ := hinv.rst
    have hbr := hinv.bel
    have hrl : rs.length ≤ lb := by
      rw [← hy]
      refine len_le (b := 65536) (by omega) oy hris.2.1 ?_
      rw [hris.2.2, ← HB.out]; exact Nat.le_of_lt (Nat.mod_lt _ hB)
    rcases k with _ | k
    · rw [Nat.pow_zero, Nat.div_one, Nat.mul_one] at hqn
      rw [Nat.pow_zero, Nat.div_one] at hris
      obtain ⟨t1, ht1⟩ : ∃ q', q' = (trimmed q).length := ⟨_, rfl⟩
      have T1 : Hid ((trimmed q).length = t1) := ht1.symm
      have HL : Hid (q.length = m) := hql
      have htl : t1 ≤ m := by rw [ht1, ← hql]; exact length_trimmed_le q
      have HQN : Hid (num 65536 q = A / B) := hqn
      have RL : Hid (rs.length ≤ lb) := hrl
      clear ht1 hql hqn hinv hrl HC
      go_wp2_with fail
      refine (rtrim_to _ m m t1 q _ (Nat.le_refl _) (by omega) HL.out hq.at T1.out).mono ?_
      rintro e w' ⟨rfl, rfl⟩
      go_wp2
      go_ret2
      refine ⟨some ⟨w.heap.size, 0, none⟩, m, trimmed q, ro, rc, rs, by rw [T1.out]; rfl, by rw [T1.out]; exact htl, hrc, hq.at.trimmed, hrat, ?_, hris, by rw [T1.out]; exact htl, RL.out, hbr⟩
      rw [← HQN.out]; exact Is.trimmed hqo
    · obtain ⟨j, hj⟩ : ∃ j, j = k / 16 := ⟨_, rfl⟩
      obtain ⟨s, hs⟩ : ∃ s, s = k % 16 := ⟨_, rfl⟩
      have hks : k = 16 * j + s := by omega
      have hs15 : s ≤ 15 := by omega
      have hjm : j < m := by omega
      have q1 : (k : Int) / 16 = (j : Int) := by omega
      have q2 : (k : Int) % 16 = (s : Int) := by omega
      have t1 : (j : Int) < (m : Int) := by omega
      have hbit : A / 2 ^ k % 2 = dg xs j / 2 ^ s % 2 := by rw [HA.out, hks]; exact bit_at ox hs15
      have c0 : wr.cell? ⟨b, o + j, none⟩ = some (.int .u32 ((dg xs j : Nat) : Int)) := (hbr.cell hb).trans (HC.out j hjm)
      obtain ⟨x, hxj⟩ : ∃ x, x = dg xs j := ⟨_, rfl⟩
      have hxl : x < 65536 := by rw [hxj]; exact ox j
      rw [← hxj] at hbit c0
      obtain ⟨u, hu⟩ : ∃ u, u = x / 2 ^ s := ⟨_, rfl⟩
      have hul : u < 65536 := by rw [hu]; exact Nat.lt_of_le_of_lt (Nat.div_le_self _ _) hxl
      have m0 : (x : Int) / 2 ^ s = (u : Int) := by rw [hu]; push_cast; rfl
      have m1 := and1u u (by omega)
      rw [← hu] at hbit
      rw [← hbit] at m1
      have td : Int.tdiv (k : Int) 16 = (j : Int) := by rw [Int.tdiv_eq_ediv_of_nonneg (by omega)]; exact q1
      have tm : Int.tmod (k : Int) 16 = (s : Int) := by rw [Int.tmod_eq_emod_of_nonneg (by omega)]; exact q2
      have wj : IntKind.i64.wrap (j : Int) = (j : Int) := by simp [IntKind.wrap, IntKind.bits, IntKind.signed]; omega
      have ws : IntKind.i64.wrap (s : Int) = (s : Int) := by simp [IntKind.wrap, IntKind.bits, IntKind.signed]; omega
      have hb2 := Nat.mod_lt (A / 2 ^ k) (show 0 < 2 by omega)
      have stay := fun w1 wr' ro rc rs h0 h1 h2 h3 h4 h5 => RDivInv.stay (w := w) (wr := wr) (w1 := w1) (wr' := wr') (m := m) (A := A) (B := B) (k := k) (q := q) (ro := ro) (rc := rc) (rs := rs) hB hbr hq hql hqo hqn h0 h1 h2 h3 h4 h5
      have put := fun w1 wr' ro rc rs h0 h1 h2 h3 h4 h5 h6 => RDivInv.put (w := w) (wr := wr) (w1 := w1) (wr' := wr') (m := m) (A := A) (B := B) (k := k) (j := j) (s := s) (q := q) (ro := ro) (rc := rc) (rs := rs) hB hbr hq hql hqo hqn hks hs15 hjm h0 h1 h2 h3 h4 h5 h6
      have hzb := low_zero (xs := q) (j := j) (s := s) (t := A / 2 ^ (k + 1) / B) hqo hs15 (by rw [hqn, hks])
      have hsb := set_bit (hqo j) hs15 hzb
      have hor : bits .or .u32 ((dg q j : Nat) : Int) ((2 ^ s : Nat) : Int) = ((dg q j ||| 2 ^ s : Nat) : Int) := u32_or_nat _ _ (by have := hqo j; omega) (by have := pow_lt16 hs15; omega)
      have hw2 := wrap2s hs15
      obtain ⟨p, hp⟩ : ∃ p, p = 2 ^ s := ⟨_, rfl⟩
      obtain ⟨d, hd⟩ : ∃ d, d = dg q j := ⟨_, rfl⟩
      have c5 := hq.cell j (by omega)
      have f5 := hq.free j
      have hqlt := hq.lt
      have hsz := hbr.size
      rw [← hp] at hor hw2
      rw [← hd] at hor c5
      obtain ⟨v, hv⟩ : ∃ v, v = d ||| p := ⟨_, rfl⟩
      rw [← hv] at hor
      rw [← hd, ← hp, ← hv] at put
      obtain ⟨R, hR⟩ : ∃ R, R = A / 2 ^ (k + 1) % B := ⟨_, rfl⟩
      rw [← hR] at stay put hris
      obtain ⟨bt, hbt⟩ : ∃ bt, bt = A / 2 ^ k % 2 := ⟨_, rfl⟩
      rw [← hbt] at stay put m1 hb2
      have HS := hide32 stay
      have HP := hide32 put
      have HCQ := hide32 c5
      have HFQ := hide32 f5
      have nofz : ∀ w1, Below wr.heap.size wr w1 → Hid (w1.cell? ⟨w.heap.size, j, none⟩ = some (.int .u32 (d : Int)) ∧ w1.frozen? ⟨w.heap.size, j, none⟩ = false) := fun w1 h1 =>
        ⟨(World.cell?_of_block (h1.block _ hqlt)).trans HCQ.out, (World.frozen?_of_block (h1.block _ hqlt)).trans HFQ.out⟩
      have NF := hide32 nofz
      have hayr := hay.below hbr
      have hbwr : b < wr.heap.size := by omega
      have sh := rshl_any ro rs.length rc 1 rs wr (by omega) hrc (by omega) rfl hrat hris.1
      have SH : Hid (Calls Tryz.prog 212 #[.slice ro rs.length rc, .int .i64 1] wr (RPost wr (rs.length + 4097) (R * 2 ^ 1))) := by rw [hris.2.2] at sh; exact sh
      have HK1 : Hid (k + 1 ≤ 16 * m) := hk
      have HRL : Hid (rs.length ≤ lb) := hrl
      clear hj hs hks hbit hxj hu stay put hzb hsb hp hd hv hR hbt c5 f5 nofz sh hinv hq hql hqo hqn hris hrat hk hrl
      go_wp2_with fail
      refine SH.out.mono ?_
      rintro e w2 ⟨o1, c1, y1, rfl, hl1, at1, is1, hm1, hbel⟩
      have hbw := hbel
      have c0' := (hbel.cell hbwr).trans c0
      have hay2 := hayr.below hbel
      have hy1 : y1.length ≤ 20000000 := by have := HRL.out; omega
      clear hbel c0 hayr SH hm1
      have hbt01 : bt = 0 ∨ bt = 1 := by omega
      rcases hbt01 with rfl | rfl
      · rw [show R * 2 ^ 1 = 2 * R + 0 by omega] at is1
        have is2 := is1; have at2 := at1; have hl2 := hl1
        have hy2 : y1.length ≤ 30000000 := by omega
        clear is1 at1 hl1 hy1
        by_cases hge : B ≤ 2 * R + 0
        · obtain ⟨z, hz⟩ : ∃ z, z = cmpN (num 65536 y1) (num 65536 ys) := ⟨_, rfl⟩
          have hz0 : 0 ≤ z := by rw [hz, is2.2.2, ← HB.out]; unfold cmpN; rw [if_neg (by omega)]; split <;> omega
          have CZ : Hid (cmpN (num 65536 y1) (num 65536 ys) = z) := hz.symm
          have hll : lb ≤ y1.length := by rw [← hy]; exact len_le (b := 65536) (by omega) is2.1 HTY.out (by rw [is2.2.2, ← HB.out]; exact hge)
          clear hz
          go_wp2_with fail
          refine (rcmp_any o1 bo y1.length c1 lb cb y1 ys _ hl2 (by omega) hlbc (by omega) rfl hy at2 hay2 is2.1 oy z CZ.out).mono ?_
          rintro e w4 ⟨rfl, hbel⟩
          have hbw4 := hbw.trans (hbel.mono hbw.size)
          have at4 := at2.below hbel; have hay4 := hay2.below hbel
          clear hbel hbw at2 hay2
          go_wp2_with fail
          refine (rsub_new o1 bo y1.length c1 lb cb y1 ys _ (by omega) hll rfl hy at4 hay4 is2.1 oy (by rw [is2.2.2, ← HB.out]; exact hge)).mono ?_
          rintro e w5 ⟨o6, c6, y6, rfl, hl6, at6, is6, hm6, hbel, hnw⟩
          have hbw5 := hbw4.trans (hbel.mono hbw4.size)
          obtain ⟨c7, f7⟩ := (NF.out _ hbw5).out
          have hnw' : Hid (∀ b o, o6 = some ⟨b, o, none⟩ → w.heap.size < b) := fun b o h => by have := hnw b o h; have := hbw4.size; omega
          rw [is2.2.2, ← HB.out] at is6
          have hnx := fun wr' hw => HP.out _ wr' _ _ _ hge hbw5 hl6 at6 is6 hnw'.out hw
          have NX := hide32 hnx
          clear hbel hbw4 hbw5 at4 hay4 at6 is6 is2 hnx hnw hm6 hge
          go_wp2
          go_region
          go_wp2
          go_roundw
          case rel => exact ⟨k, by have := HK1.out; omega, by go_num, NX.out _ ⟨rfl, rfl, rfl, rfl⟩⟩
          case measure => simp [intOf]
        · have CZ : Hid (cmpN (num 65536 y1) (num 65536 ys) = -1) := by rw [is2.2.2, ← HB.out]; show cmpN _ _ = _; unfold cmpN; rw [if_pos (by omega)]
          go_wp2_with fail
          refine (rcmp_any o1 bo y1.length c1 lb cb y1 ys _ hl2 (by omega) hlbc (by omega) rfl hy at2 hay2 is2.1 oy (-1) CZ.out).mono ?_
          rintro e w4 ⟨rfl, hbel⟩
          have hbw4 := hbw.trans (hbel.mono hbw.size)
          have at4 := at2.below hbel
          have hnx := fun wr' hw => HS.out _ wr' _ _ _ hge hbw4 hl2 at4 is2 hw
          have NX := hide32 hnx
          clear hbel hbw hbw4 at2 hay2 at4 is2 hnx hge
          go_wp2
          go_roundw
          case rel => exact ⟨k, by have := HK1.out; omega, by go_num, NX.out _ ⟨rfl, rfl, rfl, rfl⟩⟩
          case measure => simp [intOf]
      · go_wp2_with fail
        have at1' := at1.alloc (Obj.cells #[Value.int IntKind.u32 1] 76)
        have hay3 := hay2.alloc (Obj.cells #[Value.int IntKind.u32 1] 76)
        have hbw1 := hbw.alloc (Nat.le_of_lt (Nat.lt_of_lt_of_le hqlt hbw.size) |> fun _ => hbw.size) (Obj.cells #[Value.int IntKind.u32 1] 76)
        clear at1 hay2 hbw
        refine (radd_any o1 (some ⟨w2.heap.size, 0, none⟩) y1.length c1 1 1 y1 [1] _ (by omega) (by omega) rfl rfl at1' (lit32 w2) is1.1 ok1).mono ?_
        rintro e w3 ⟨o2, c2, y2, rfl, hl2, at2, is2, hm2, hbel⟩
        have hbw := hbw1.trans (hbel.mono hbw1.size)
        have hay2 := hay3.below hbel
        rw [is1.2.2, show num 65536 [1] = 1 from rfl, show R * 2 ^ 1 + 1 = 2 * R + 1 by omega] at is2
        have hy2 : y2.length ≤ 30000000 := by omega
        clear hbel hbw1 hay3 at1' is1 hl1 hm2 hy1
        by_cases hge : B ≤ 2 * R + 1
        · obtain ⟨z, hz⟩ : ∃ z, z = cmpN (num 65536 y2) (num 65536 ys) := ⟨_, rfl⟩
          have hz0 : 0 ≤ z := by rw [hz, is2.2.2, ← HB.out]; unfold cmpN; rw [if_neg (by omega)]; split <;> omega
          have CZ : Hid (cmpN (num 65536 y2) (num 65536 ys) = z) := hz.symm
          have hll : lb ≤ y2.length := by rw [← hy]; exact len_le (b := 65536) (by omega) is2.1 HTY.out (by rw [is2.2.2, ← HB.out]; exact hge)
          clear hz
          go_wp2_with fail
          refine (rcmp_any o2 bo y2.length c2 lb cb y2 ys _ hl2 (by omega) hlbc (by omega) rfl hy at2 hay2 is2.1 oy z CZ.out).mono ?_
          rintro e w4 ⟨rfl, hbel⟩
          have hbw4 := hbw.trans (hbel.mono hbw.size)
          have at4 := at2.below hbel; have hay4 := hay2.below hbel
          clear hbel hbw at2 hay2
          go_wp2_with fail
          refine (rsub_new o2 bo y2.length c2 lb cb y2 ys _ (by omega) hll rfl hy at4 hay4 is2.1 oy (by rw [is2.2.2, ← HB.out]; exact hge)).mono ?_
          rintro e w5 ⟨o6, c6, y6, rfl, hl6, at6, is6, hm6, hbel, hnw⟩
          have hbw5 := hbw4.trans (hbel.mono hbw4.size)
          obtain ⟨c7, f7⟩ := (NF.out _ hbw5).out
          have hnw' : Hid (∀ b o, o6 = some ⟨b, o, none⟩ → w.heap.size < b) := fun b o h => by have := hnw b o h; have := hbw4.size; omega
          rw [is2.2.2, ← HB.out] at is6
          have hnx := fun wr' hw => HP.out _ wr' _ _ _ hge hbw5 hl6 at6 is6 hnw'.out hw
          have NX := hide32 hnx
          clear hbel hbw4 hbw5 at4 hay4 at6 is6 is2 hnx hnw hm6 hge
          go_wp2
          go_region
          go_wp2
          go_roundw
          case rel => exact ⟨k, by have := HK1.out; omega, by go_num, NX.out _ ⟨rfl, rfl, rfl, rfl⟩⟩
          case measure => simp [intOf]
        · have CZ : Hid (cmpN (num 65536 y2) (num 65536 ys) = -1) := by rw [is2.2.2, ← HB.out]; show cmpN _ _ = _; unfold cmpN; rw [if_pos (by omega)]
          go_wp2_with fail
          refine (rcmp_any o2 bo y2.length c2 lb cb y2 ys _ hl2 (by omega) hlbc (by omega) rfl hy at2 hay2 is2.1 oy (-1) CZ.out).mono ?_
          rintro e w4 ⟨rfl, hbel⟩
          have hbw4 := hbw.trans (hbel.mono hbw.size)
          have at4 := at2.below hbel
          have hnx := fun wr' hw => HS.out _ wr' _ _ _ hge hbw4 hl2 at4 is2 hw
          have NX := hide32 hnx
          clear hbel hbw hbw4 at2 hay2 at4 is2 hnx hge
          go_wp2
          go_roundw
          case rel => exact ⟨k, by have := HK1.out; omega, by go_num, NX.out _ ⟨rfl, rfl, rfl, rfl⟩⟩
          case measure => simp [intOf]

end Go.Proofs.YtckijnlolmbdiaaGreatDoor

namespace Go.Proofs.YtckijnlolmbdiaaGreatDoor
open Go.RowKit

set_option maxHeartbeats 1000000 in
theorem rdivmod_nil (ao bo : Option Addr) (ca lb cb B : Nat) (w : World) :
    Calls Tryz.prog 161 #[.slice ao 0 ca, .slice bo lb cb] w (RDivPost w 0 lb (0 / B) (0 % B)) := by
  obtain ⟨i0, hi, hz0, hz1, hz2⟩ := info_parts Tryz.infoD
  go_enter Tryz.func161, Tryz.ntmps161
  go_wp2_with (at_make; refine wpList_make_full _ rfl _ _ 67 rfl w.heap.size 76 i0 (.int .u32 0) 1 Tryz.underlying67 hi hz0 hz1 _ _ _ _ 0 rfl rfl (by omega) (by omega) (by rw [hz2]; omega) (by unfold maxLen; omega) (Nat.le_refl _) ?_)
  intro w1 hown hgrow
  have hb1 : Below w.heap.size w w1 := (Below.refl _ _).grown hgrow (Nat.le_refl _) (fun k hk => by cases hk)
  clear hown hgrow
  go_wp2
  refine wp_loop_rounds 1 ?_
  rw [rounds_succ]
  go_wp2_with fail
  refine (rtrim_nil _ _ _).mono ?_
  rintro e w' ⟨rfl, rfl⟩
  go_wp2
  go_ret2
  refine ⟨_, _, [], _, _, [], rfl, Nat.zero_le _, Nat.zero_le _, At.nil _ _ _, At.nil _ _ _, ?_, ?_, Nat.zero_le _, Nat.zero_le _, hb1.alloc hb1.size _⟩
  · rw [Nat.zero_div]; exact Is.none (by omega)
  · rw [Nat.zero_mod]; exact Is.none (by omega)

theorem rdivmod_any (ao bo : Option Addr) (la ca lb cb : Nat) (xs ys : List Nat) (w : World) (hla : la ≤ 10000000) (hlb : lb ≤ 10000000) (hlbc : lb ≤ cb) (hx : xs.length = la) (hy : ys.length = lb)
    (hax : At .u32 w ao xs) (hay : At .u32 w bo ys) (ox : Ok 65536 xs) (oy : Ok 65536 ys) (ty : Top ys) (hB : 0 < num 65536 ys) :
    Calls Tryz.prog 161 #[.slice ao la ca, .slice bo lb cb] w (RDivPost w la lb (num 65536 xs / num 65536 ys) (num 65536 xs % num 65536 ys)) := by
  rcases hax with rfl | ⟨b, o, rfl, hb, hc⟩
  · obtain rfl : la = 0 := hx.symm
    exact rdivmod_nil ao bo ca lb cb (num 65536 ys) w
  · exact rdivmod_at b o la ca lb cb bo xs ys w hla hlb hlbc hx hy hb (fun i hi => hc i (by omega)) ox hay oy ty hB

end Go.Proofs.YtckijnlolmbdiaaGreatDoor
