/-
  What the reference's Add does: the sum, digit by digit.
  Numbers that calls answer in a region that draws its order: where they lie, and what stays.
  What the reference's Add answers lies in new memory.
  What the reference's Make, In, Neg and Same do, and quipulaw02's in and is.
  What the reference's Sub does: the difference, digit by digit, of a number and one that is not above it.
  What the reference's Cmp and SubErr do.
  What the reference's Mul does: the product, digit by digit.
-/
import Derived.Test.YtobloamnaemfnaaGreatDoorUOut
import Derived.Test.YtobloamnaemfnaaGreatDoorUB6
import Derived.Laws.BitsAllLaws
import Derived.Test.YtobloamnaemfnaaGreatDoorUB8
import Derived.Deep.RegionHeld3
import Derived.Deep.DeepCutAuto
import Derived.Test.YtobloamnaemfnaaGreatDoorUB2
import Derived.Deep.QuietTactic
import Derived.BigQuiet
import Derived.WalkSmall
namespace Go.Proofs.YtobloamnaemfnaaGreatDoor
open Go.RowKit

theorem and16u (a : Nat) (ha : a < 4294967296) : bits .and .u32 (a : Int) 65535 = ((a % 65536 : Nat) : Int) := by
  have h := u32_and_nat a 65535 ha (by omega)
  rw [Nat.and_two_pow_sub_one_eq_mod a 16] at h
  exact h

theorem radd_is {xs ys : List Nat} {n : Nat} (hx : Ok 65536 xs) (hy : Ok 65536 ys) (hnx : xs.length ≤ n) (hny : ys.length ≤ n) :
    Ok 65536 (mk (addD 65536 (dg xs) (dg ys)) n ++ [addC 65536 (dg xs) (dg ys) n]) ∧ num 65536 (mk (addD 65536 (dg xs) (dg ys)) n ++ [addC 65536 (dg xs) (dg ys) n]) = num 65536 xs + num 65536 ys := by
  have hl : (mk (addD 65536 (dg xs) (dg ys)) n ++ [addC 65536 (dg xs) (dg ys) n]).length = n + 1 := by simp [mk]
  have hd : ∀ j, j < n → dg (mk (addD 65536 (dg xs) (dg ys)) n ++ [addC 65536 (dg xs) (dg ys) n]) j = addD 65536 (dg xs) (dg ys) j := by
    intro j hj
    unfold dg
    rw [List.getElem?_append_left (by rw [mk_len]; exact hj)]
    exact dg_mk _ n j hj
  have hn : dg (mk (addD 65536 (dg xs) (dg ys)) n ++ [addC 65536 (dg xs) (dg ys) n]) n = addC 65536 (dg xs) (dg ys) n := by
    unfold dg
    rw [List.getElem?_append_right (by rw [mk_len]; exact Nat.le_refl _), mk_len]; simp
  refine ⟨?_, ?_⟩
  · intro j
    rcases Nat.lt_trichotomy j n with h | h | h
    · rw [hd j h]; exact addD_lt (by omega) _ _ _
    · rw [h, hn]; have := addC_le hx hy n; omega
    · rw [dg_out (by omega)]; omega
  · have h := add_val 65536 (dg xs) (dg ys) n
    rw [num_eq hnx, num_eq hny] at h
    rw [h]
    unfold num
    rw [hl]
    simp only [V]
    rw [hn, V_congr n hd]

set_option maxRecDepth 100000 in
set_option maxHeartbeats 1000000 in
theorem radd_any (ao bo : Option Addr) (la ca lb cb : Nat) (xs ys : List Nat) (w : World) (hla : la ≤ 100000000) (hlb : lb ≤ 100000000) (hx : xs.length = la) (hy : ys.length = lb)
    (hax : At .u32 w ao xs) (hay : At .u32 w bo ys) (ox : Ok 65536 xs) (oy : Ok 65536 ys) :
    Calls Tryz.prog 96 #[.slice ao la ca, .slice bo lb cb] w (RPost w (max la lb + 1) (num 65536 xs + num 65536 ys)) := by
  obtain ⟨i0, hi, hz0, hz1, hz2⟩ := info_parts Tryz.infoD
  obtain ⟨n, hn⟩ : ∃ n, n = max la lb := ⟨_, rfl⟩
  rw [← hn]
  obtain ⟨D, hD⟩ : ∃ D, D = addD 65536 (dg xs) (dg ys) := ⟨_, rfl⟩
  have HDF : Hid (D = addD 65536 (dg xs) (dg ys)) := hD
  have hnl : la ≤ n ∧ lb ≤ n ∧ n ≤ 100000000 := by omega
  have HN : Hid (n = max la lb) := hn
  clear hn hD
  go_enter Tryz.func96, Tryz.ntmps96
  go_wp2
  go_loopw [5, 6, 7] (fun v cv i wr => ∃ k c : Nat, k ≤ n ∧ cv = .int .u32 (c : Int) ∧ i = .int .i64 k ∧ c = addC 65536 (dg xs) (dg ys) k ∧ Grows w wr v (mk D k)) (fun _ _ i _ => n - (intOf i).toNat)
  case atStart => exact ⟨0, 0, Nat.zero_le _, rfl, rfl, rfl, (Below.refl _ _).alloc (Nat.le_refl _) _, World.ownsRow_lit _ #[] 0 (Nat.le_refl _) (by unfold maxLen; omega) rfl⟩
  case round =>
    obtain ⟨k, c, hk, rfl, rfl, hc, hgr⟩ := hrel
    have hcl : c ≤ 1 := by rw [hc]; exact addC_le ox oy k
    have HC : Hid (c = addC 65536 (dg xs) (dg ys) k) := hc
    clear hc
    by_cases hlt : k < n
    · have HG : Hid (Grows w wr u5 (mk D k)) := hgr
      obtain ⟨x, hxk⟩ : ∃ x, x = dg xs k := ⟨_, rfl⟩
      obtain ⟨y, hyk⟩ : ∃ y, y = dg ys k := ⟨_, rfl⟩
      have hxl : x < 65536 := by rw [hxk]; exact ox k
      have hyl : y < 65536 := by rw [hyk]; exact oy k
      have HX : Hid (x = dg xs k) := hxk
      have HY : Hid (y = dg ys k) := hyk
      obtain ⟨d, hdk⟩ : ∃ d, d = (x + y + c) % 65536 := ⟨_, rfl⟩
      obtain ⟨c', hck⟩ : ∃ c', c' = (x + y + c) / 65536 := ⟨_, rfl⟩
      have HD : Hid (d = (x + y + c) % 65536) := hdk
      have HC' : Hid (c' = (x + y + c) / 65536) := hck
      have HC1 : Hid (c' = addC 65536 (dg xs) (dg ys) (k + 1)) := by rw [hck, hxk, hyk, HC.out]; rfl
      have HDD : Hid (d = D k) := by rw [hdk, hxk, hyk, HC.out, HDF.out]; rfl
      have hdl := mk_len D k
      clear hxk hyk hdk hck
      have hor : k < la ∨ k < lb := by have := HN.out; omega
      by_cases ha : k < la
      · by_cases hb : k < lb
        · clear hor
          have t1 : (k : Int) < (la : Int) := by omega
          have t2 : (k : Int) < (lb : Int) := by omega
          obtain ⟨b1, o1, rfl, hc1⟩ : ∃ b1 o1, ao = some ⟨b1, o1, none⟩ ∧ wr.cell? ⟨b1, o1 + k, none⟩ = some (.int .u32 (x : Int)) := by
            rcases hax.below hgr.1 with h | ⟨b, o, h1, _, h3⟩
            · rw [h] at hx; simp at hx; omega
            · exact ⟨b, o, h1, by rw [HX.out]; exact h3 k (by omega)⟩
          obtain ⟨b2, o2, rfl, hc2⟩ : ∃ b2 o2, bo = some ⟨b2, o2, none⟩ ∧ wr.cell? ⟨b2, o2 + k, none⟩ = some (.int .u32 (y : Int)) := by
            rcases hay.below hgr.1 with h | ⟨b, o, h1, _, h3⟩
            · rw [h] at hy; simp at hy; omega
            · exact ⟨b, o, h1, by rw [HY.out]; exact h3 k (by omega)⟩
          have hd : bits .and .u32 ((c : Int) + (x : Int) + (y : Int)) 65535 = (d : Int) := by rw [show ((c : Int) + (x : Int) + (y : Int)) = ((x + y + c : Nat) : Int) by omega, and16u _ (by omega)]; exact congrArg _ HD.out.symm
          have hs : ((c : Int) + (x : Int) + (y : Int)) / 65536 = (c' : Int) := by have := HC'.out; omega
          have hown := hgr.2
          rw [hdl] at hown
          have hsz := hgr.1.size
          clear hgr hax hay
          go_wp2_with (at_builtin; refine wpList_append_own _ rfl _ _ 79 rfl w.heap.size 110 i0 (.int .u32 0) 1 4 Tryz.underlying79 hi hz0 hz1 hz2 rfl (by decide) _ _ _ rfl (hown.alloc _) ⟨wr.heap.size, 0, none⟩ 1 1 [.int .u32 (d : Int)] rfl rfl ?c1A ?c2A ?c3A ?c4A ?c5A ?_)
          try case c1A => exact new_cell wr _ _
          case c2A => first | exact one_one _ _ | rfl
          case c3A => unfold maxLen; omega
          case c4A => omega
          case c5A => first | (simp; omega) | omega
          intro v' w1 hown' hgrow _
          have hg' := HG.out.step _ (by rw [hdl]; exact hown') hgrow
          have HG' : Hid (Grows w w1 v' (mk D (k + 1))) := by show Grows _ _ _ _; rw [mk_succ, ← HDD.out]; exact hg'
          clear hown hown' hgrow hg' HG hd
          go_wp2
          go_roundw
          case rel => exact ⟨k + 1, c', by omega, rfl, by go_num, HC1.out, HG'.out⟩
          case measure => simp [intOf]; omega
        · clear hor
          have t1 : (k : Int) < (la : Int) := by omega
          have t2 : ¬ (k : Int) < (lb : Int) := by omega
          obtain ⟨b1, o1, rfl, hc1⟩ : ∃ b1 o1, ao = some ⟨b1, o1, none⟩ ∧ wr.cell? ⟨b1, o1 + k, none⟩ = some (.int .u32 (x : Int)) := by
            rcases hax.below hgr.1 with h | ⟨b, o, h1, _, h3⟩
            · rw [h] at hx; simp at hx; omega
            · exact ⟨b, o, h1, by rw [HX.out]; exact h3 k (by omega)⟩
          have ey : y = 0 := by rw [HY.out]; exact dg_out (by omega)
          have hd : bits .and .u32 ((c : Int) + (x : Int)) 65535 = (d : Int) := by rw [show ((c : Int) + (x : Int)) = ((x + y + c : Nat) : Int) by omega, and16u _ (by omega)]; exact congrArg _ HD.out.symm
          have hs : ((c : Int) + (x : Int)) / 65536 = (c' : Int) := by have := HC'.out; omega
          clear ey
          have hown := hgr.2
          rw [hdl] at hown
          have hsz := hgr.1.size
          clear hgr hax hay
          go_wp2_with (at_builtin; refine wpList_append_own _ rfl _ _ 79 rfl w.heap.size 110 i0 (.int .u32 0) 1 4 Tryz.underlying79 hi hz0 hz1 hz2 rfl (by decide) _ _ _ rfl (hown.alloc _) ⟨wr.heap.size, 0, none⟩ 1 1 [.int .u32 (d : Int)] rfl rfl ?c1B ?c2B ?c3B ?c4B ?c5B ?_)
          try case c1B => exact new_cell wr _ _
          case c2B => first | exact one_one _ _ | rfl
          case c3B => unfold maxLen; omega
          case c4B => omega
          case c5B => first | (simp; omega) | omega
          intro v' w1 hown' hgrow _
          have hg' := HG.out.step _ (by rw [hdl]; exact hown') hgrow
          have HG' : Hid (Grows w w1 v' (mk D (k + 1))) := by show Grows _ _ _ _; rw [mk_succ, ← HDD.out]; exact hg'
          clear hown hown' hgrow hg' HG hd
          go_wp2
          go_roundw
          case rel => exact ⟨k + 1, c', by omega, rfl, by go_num, HC1.out, HG'.out⟩
          case measure => simp [intOf]; omega
      · have hb : k < lb := by omega
        clear hor
        have t1 : ¬ (k : Int) < (la : Int) := by omega
        have t2 : (k : Int) < (lb : Int) := by omega
        obtain ⟨b2, o2, rfl, hc2⟩ : ∃ b2 o2, bo = some ⟨b2, o2, none⟩ ∧ wr.cell? ⟨b2, o2 + k, none⟩ = some (.int .u32 (y : Int)) := by
          rcases hay.below hgr.1 with h | ⟨b, o, h1, _, h3⟩
          · rw [h] at hy; simp at hy; omega
          · exact ⟨b, o, h1, by rw [HY.out]; exact h3 k (by omega)⟩
        have ex : x = 0 := by rw [HX.out]; exact dg_out (by omega)
        have hd : bits .and .u32 ((c : Int) + (y : Int)) 65535 = (d : Int) := by rw [show ((c : Int) + (y : Int)) = ((x + y + c : Nat) : Int) by omega, and16u _ (by omega)]; exact congrArg _ HD.out.symm
        have hs : ((c : Int) + (y : Int)) / 65536 = (c' : Int) := by have := HC'.out; omega
        clear ex
        have hown := hgr.2
        rw [hdl] at hown
        have hsz := hgr.1.size
        clear hgr hax hay
        go_wp2_with (at_builtin; refine wpList_append_own _ rfl _ _ 79 rfl w.heap.size 110 i0 (.int .u32 0) 1 4 Tryz.underlying79 hi hz0 hz1 hz2 rfl (by decide) _ _ _ rfl (hown.alloc _) ⟨wr.heap.size, 0, none⟩ 1 1 [.int .u32 (d : Int)] rfl rfl ?c1C ?c2C ?c3C ?c4C ?c5C ?_)
        try case c1C => exact new_cell wr _ _
        case c2C => first | exact one_one _ _ | rfl
        case c3C => unfold maxLen; omega
        case c4C => omega
        case c5C => first | (simp; omega) | omega
        intro v' w1 hown' hgrow _
        have hg' := HG.out.step _ (by rw [hdl]; exact hown') hgrow
        have HG' : Hid (Grows w w1 v' (mk D (k + 1))) := by show Grows _ _ _ _; rw [mk_succ, ← HDD.out]; exact hg'
        clear hown hown' hgrow hg' HG hd
        go_wp2
        go_roundw
        case rel => exact ⟨k + 1, c', by omega, rfl, by go_num, HC1.out, HG'.out⟩
        case measure => simp [intOf]; omega
    · obtain rfl : k = n := by omega
      have t1 : ¬ (k : Int) < (la : Int) := by omega
      have t2 : ¬ (k : Int) < (lb : Int) := by omega
      have hdl := mk_len D k
      have HG : Hid (Grows w wr u5 (mk D k)) := hgr
      have hown := hgr.2
      rw [hdl] at hown
      have hsz := hgr.1.size
      have his := radd_is (n := k) ox oy (by omega) (by omega)
      rw [← HDF.out, ← HC.out] at his
      have HI : Hid (Ok 65536 (mk D k ++ [c]) ∧ num 65536 (mk D k ++ [c]) = num 65536 xs + num 65536 ys) := his
      clear hgr his hax hay
      go_wp2_with (at_builtin; refine wpList_append_own _ rfl _ _ 79 rfl w.heap.size 110 i0 (.int .u32 0) 1 4 Tryz.underlying79 hi hz0 hz1 hz2 rfl (by decide) _ _ _ rfl (hown.alloc _) ⟨wr.heap.size, 0, none⟩ 1 1 [.int .u32 (c : Int)] rfl rfl ?c1D ?c2D ?c3D ?c4D ?c5D ?_)
      try case c1D => exact new_cell wr _ _
      case c2D => first | exact one_one _ _ | rfl
      case c3D => unfold maxLen; omega
      case c4D => omega
      case c5D => first | (simp; omega) | omega
      intro v' w1 hown' hgrow _
      have hg' := HG.out.step _ (by rw [hdl]; exact hown') hgrow
      obtain ⟨ao', cp, rfl, hcp, hat⟩ := hg'.at
      have hbel := hg'.1
      obtain ⟨z, hz⟩ : ∃ z, z = mk D k ++ [c] := ⟨_, rfl⟩
      rw [← hz] at hat hcp HI
      have hzl : z.length = k + 1 := by rw [hz]; simp [mk]
      obtain ⟨q, hq⟩ : ∃ q, q = (trimmed z).length := ⟨_, rfl⟩
      have HQ : Hid ((trimmed z).length = q) := hq.symm
      have HZ : Hid (z.length = k + 1) := hzl
      have hqle : q ≤ k + 1 := by rw [hq, ← hzl]; exact length_trimmed_le z
      rw [← hz, hzl]
      rw [hzl] at hcp
      clear hown hown' hgrow hg' HG hz hzl hq
      go_wp2_with fail
      refine (rtrim_to ao' (k + 1) cp q z _ hcp (by omega) HZ.out hat HQ.out).mono ?_
      rintro e w' ⟨rfl, rfl⟩
      go_wp2
      go_ret
      refine ⟨ao', cp, trimmed z, by rw [HQ.out]; rfl, by rw [HQ.out]; omega, hat.trimmed, ?_, by rw [HQ.out]; exact hqle, hbel⟩
      rw [← HI.out.2]; exact Is.trimmed HI.out.1

end Go.Proofs.YtobloamnaemfnaaGreatDoor

namespace Go.Proofs.YtobloamnaemfnaaGreatDoor
open Go.RowKit

def Res (k : IntKind) (W : World) (o : Option Addr) (x : List Nat) (lo hi : Nat) : Prop := At k W o x ∧ ∀ b f, x ≠ [] → o = some ⟨b, f, none⟩ → lo ≤ b ∧ b < hi

theorem Res.below {k : IntKind} {W W' : World} {o : Option Addr} {x : List Nat} {lo hi : Nat} (h : Res k W o x lo hi) (hb : Below W.heap.size W W') : Res k W' o x lo hi := ⟨h.1.below hb, h.2⟩

theorem Res.set {k : IntKind} {W : World} {o : Option Addr} {x : List Nat} {lo hi H i : Nat} (h : Res k W o x lo hi) (hH : H < lo ∨ hi ≤ H) (v : Value) : Res k (W.setCell ⟨H, i, none⟩ v) o x lo hi := by
  refine ⟨?_, h.2⟩
  rcases h.1 with h' | ⟨b, f, h1, h2, h3⟩
  · exact .inl h'
  · by_cases hx : x = []
    · exact .inl hx
    · have h4 := h.2 b f hx h1
      refine .inr ⟨b, f, h1, by simpa [World.setCell] using h2, fun j hj => ?_⟩
      rw [← h3 j hj]
      have hne : H ≠ b := by omega
      refine World.cell?_of_block ?_
      simp [World.setCell, Array.getElem?_modify, hne]

theorem bal {w W : World} (h : Hid (Below w.heap.size w W)) (o : Obj) : Hid (Below w.heap.size w (W.alloc o)) := h.out.alloc h.out.size o

section
variable {w W : World} {T : TypeId} {H : Nat} {a b x1 y1 x2 y2 : Value} {o1 o2 : Option Addr} {r1 r2 : List Nat} {k : IntKind} {l1 h1 l2 h2 : Nat}
end

end Go.Proofs.YtobloamnaemfnaaGreatDoor

namespace Go.Proofs.YtobloamnaemfnaaGreatDoor
open Go.RowKit

def RFPost (w : World) (m n : Nat) (e : Ending) (w' : World) : Prop :=
  ∃ ao cap ys, e = .returned (.slice ao (List.length ys) cap) ∧ ys.length ≤ cap ∧ Res .u32 w' ao ys w.heap.size w'.heap.size ∧ Is 65536 ys n ∧ ys.length ≤ m ∧ Below w.heap.size w w'

theorem Grows.fresh {w wr : World} {v : Value} {ys : List Nat} (h : Grows w wr v ys) : ∃ ao cap, v = .slice ao ys.length cap ∧ ys.length ≤ cap ∧ At .u32 wr ao ys ∧ ∀ b f, ys ≠ [] → ao = some ⟨b, f, none⟩ → w.heap.size ≤ b ∧ b < wr.heap.size := by
  obtain ⟨ao, cap, rfl, h1, h2⟩ := h.at
  refine ⟨ao, cap, rfl, h1, h2, fun b f hx e => ?_⟩
  have h3 := h.2.lt b (by rw [e]; rfl)
  exact h3

set_option maxRecDepth 100000 in
set_option maxHeartbeats 1000000 in
theorem radd_fresh (ao bo : Option Addr) (la ca lb cb : Nat) (xs ys : List Nat) (w : World) (hla : la ≤ 100000000) (hlb : lb ≤ 100000000) (hx : xs.length = la) (hy : ys.length = lb)
    (hax : At .u32 w ao xs) (hay : At .u32 w bo ys) (ox : Ok 65536 xs) (oy : Ok 65536 ys) :
    Calls Tryz.prog 96 #[.slice ao la ca, .slice bo lb cb] w (RFPost w (max la lb + 1) (num 65536 xs + num 65536 ys)) := by
  obtain ⟨i0, hi, hz0, hz1, hz2⟩ := info_parts Tryz.infoD
  obtain ⟨n, hn⟩ : ∃ n, n = max la lb := ⟨_, rfl⟩
  rw [← hn]
  obtain ⟨D, hD⟩ : ∃ D, D = addD 65536 (dg xs) (dg ys) := ⟨_, rfl⟩
  have HDF : Hid (D = addD 65536 (dg xs) (dg ys)) := hD
  have hnl : la ≤ n ∧ lb ≤ n ∧ n ≤ 100000000 := by omega
  have HN : Hid (n = max la lb) := hn
  clear hn hD
  go_enter Tryz.func96, Tryz.ntmps96
  go_wp2
  go_loopw [5, 6, 7] (fun v cv i wr => ∃ k c : Nat, k ≤ n ∧ cv = .int .u32 (c : Int) ∧ i = .int .i64 k ∧ c = addC 65536 (dg xs) (dg ys) k ∧ Grows w wr v (mk D k)) (fun _ _ i _ => n - (intOf i).toNat)
  case atStart => exact ⟨0, 0, Nat.zero_le _, rfl, rfl, rfl, (Below.refl _ _).alloc (Nat.le_refl _) _, World.ownsRow_lit _ #[] 0 (Nat.le_refl _) (by unfold maxLen; omega) rfl⟩
  case round =>
    obtain ⟨k, c, hk, rfl, rfl, hc, hgr⟩ := hrel
    have hcl : c ≤ 1 := by rw [hc]; exact addC_le ox oy k
    have HC : Hid (c = addC 65536 (dg xs) (dg ys) k) := hc
    clear hc
    by_cases hlt : k < n
    · have HG : Hid (Grows w wr u5 (mk D k)) := hgr
      obtain ⟨x, hxk⟩ : ∃ x, x = dg xs k := ⟨_, rfl⟩
      obtain ⟨y, hyk⟩ : ∃ y, y = dg ys k := ⟨_, rfl⟩
      have hxl : x < 65536 := by rw [hxk]; exact ox k
      have hyl : y < 65536 := by rw [hyk]; exact oy k
      have HX : Hid (x = dg xs k) := hxk
      have HY : Hid (y = dg ys k) := hyk
      obtain ⟨d, hdk⟩ : ∃ d, d = (x + y + c) % 65536 := ⟨_, rfl⟩
      obtain ⟨c', hck⟩ : ∃ c', c' = (x + y + c) / 65536 := ⟨_, rfl⟩
      have HD : Hid (d = (x + y + c) % 65536) := hdk
      have HC' : Hid (c' = (x + y + c) / 65536) := hck
      have HC1 : Hid (c' = addC 65536 (dg xs) (dg ys) (k + 1)) := by rw [hck, hxk, hyk, HC.out]; rfl
      have HDD : Hid (d = D k) := by rw [hdk, hxk, hyk, HC.out, HDF.out]; rfl
      have hdl := mk_len D k
      clear hxk hyk hdk hck
      have hor : k < la ∨ k < lb := by have := HN.out; omega
      by_cases ha : k < la
      · by_cases hb : k < lb
        · clear hor
          have t1 : (k : Int) < (la : Int) := by omega
          have t2 : (k : Int) < (lb : Int) := by omega
          obtain ⟨b1, o1, rfl, hc1⟩ : ∃ b1 o1, ao = some ⟨b1, o1, none⟩ ∧ wr.cell? ⟨b1, o1 + k, none⟩ = some (.int .u32 (x : Int)) := by
            rcases hax.below hgr.1 with h | ⟨b, o, h1, _, h3⟩
            · rw [h] at hx; simp at hx; omega
            · exact ⟨b, o, h1, by rw [HX.out]; exact h3 k (by omega)⟩
          obtain ⟨b2, o2, rfl, hc2⟩ : ∃ b2 o2, bo = some ⟨b2, o2, none⟩ ∧ wr.cell? ⟨b2, o2 + k, none⟩ = some (.int .u32 (y : Int)) := by
            rcases hay.below hgr.1 with h | ⟨b, o, h1, _, h3⟩
            · rw [h] at hy; simp at hy; omega
            · exact ⟨b, o, h1, by rw [HY.out]; exact h3 k (by omega)⟩
          have hd : bits .and .u32 ((c : Int) + (x : Int) + (y : Int)) 65535 = (d : Int) := by rw [show ((c : Int) + (x : Int) + (y : Int)) = ((x + y + c : Nat) : Int) by omega, and16u _ (by omega)]; exact congrArg _ HD.out.symm
          have hs : ((c : Int) + (x : Int) + (y : Int)) / 65536 = (c' : Int) := by have := HC'.out; omega
          have hown := hgr.2
          rw [hdl] at hown
          have hsz := hgr.1.size
          clear hgr hax hay
          go_wp2_with (at_builtin; refine wpList_append_own _ rfl _ _ 79 rfl w.heap.size 110 i0 (.int .u32 0) 1 4 Tryz.underlying79 hi hz0 hz1 hz2 rfl (by decide) _ _ _ rfl (hown.alloc _) ⟨wr.heap.size, 0, none⟩ 1 1 [.int .u32 (d : Int)] rfl rfl ?c1A ?c2A ?c3A ?c4A ?c5A ?_)
          try case c1A => exact new_cell wr _ _
          case c2A => first | exact one_one _ _ | rfl
          case c3A => unfold maxLen; omega
          case c4A => omega
          case c5A => first | (simp; omega) | omega
          intro v' w1 hown' hgrow _
          have hg' := HG.out.step _ (by rw [hdl]; exact hown') hgrow
          have HG' : Hid (Grows w w1 v' (mk D (k + 1))) := by show Grows _ _ _ _; rw [mk_succ, ← HDD.out]; exact hg'
          clear hown hown' hgrow hg' HG hd
          go_wp2
          go_roundw
          case rel => exact ⟨k + 1, c', by omega, rfl, by go_num, HC1.out, HG'.out⟩
          case measure => simp [intOf]; omega
        · clear hor
          have t1 : (k : Int) < (la : Int) := by omega
          have t2 : ¬ (k : Int) < (lb : Int) := by omega
          obtain ⟨b1, o1, rfl, hc1⟩ : ∃ b1 o1, ao = some ⟨b1, o1, none⟩ ∧ wr.cell? ⟨b1, o1 + k, none⟩ = some (.int .u32 (x : Int)) := by
            rcases hax.below hgr.1 with h | ⟨b, o, h1, _, h3⟩
            · rw [h] at hx; simp at hx; omega
            · exact ⟨b, o, h1, by rw [HX.out]; exact h3 k (by omega)⟩
          have ey : y = 0 := by rw [HY.out]; exact dg_out (by omega)
          have hd : bits .and .u32 ((c : Int) + (x : Int)) 65535 = (d : Int) := by rw [show ((c : Int) + (x : Int)) = ((x + y + c : Nat) : Int) by omega, and16u _ (by omega)]; exact congrArg _ HD.out.symm
          have hs : ((c : Int) + (x : Int)) / 65536 = (c' : Int) := by have := HC'.out; omega
          clear ey
          have hown := hgr.2
          rw [hdl] at hown
          have hsz := hgr.1.size
          clear hgr hax hay
          go_wp2_with (at_builtin; refine wpList_append_own _ rfl _ _ 79 rfl w.heap.size 110 i0 (.int .u32 0) 1 4 Tryz.underlying79 hi hz0 hz1 hz2 rfl (by decide) _ _ _ rfl (hown.alloc _) ⟨wr.heap.size, 0, none⟩ 1 1 [.int .u32 (d : Int)] rfl rfl ?c1B ?c2B ?c3B ?c4B ?c5B ?_)
          try case c1B => exact new_cell wr _ _
          case c2B => first | exact one_one _ _ | rfl
          case c3B => unfold maxLen; omega
          case c4B => omega
          case c5B => first | (simp; omega) | omega
          intro v' w1 hown' hgrow _
          have hg' := HG.out.step _ (by rw [hdl]; exact hown') hgrow
          have HG' : Hid (Grows w w1 v' (mk D (k + 1))) := by show Grows _ _ _ _; rw [mk_succ, ← HDD.out]; exact hg'
          clear hown hown' hgrow hg' HG hd
          go_wp2
          go_roundw
          case rel => exact ⟨k + 1, c', by omega, rfl, by go_num, HC1.out, HG'.out⟩
          case measure => simp [intOf]; omega
      · have hb : k < lb := by omega
        clear hor
        have t1 : ¬ (k : Int) < (la : Int) := by omega
        have t2 : (k : Int) < (lb : Int) := by omega
        obtain ⟨b2, o2, rfl, hc2⟩ : ∃ b2 o2, bo = some ⟨b2, o2, none⟩ ∧ wr.cell? ⟨b2, o2 + k, none⟩ = some (.int .u32 (y : Int)) := by
          rcases hay.below hgr.1 with h | ⟨b, o, h1, _, h3⟩
          · rw [h] at hy; simp at hy; omega
          · exact ⟨b, o, h1, by rw [HY.out]; exact h3 k (by omega)⟩
        have ex : x = 0 := by rw [HX.out]; exact dg_out (by omega)
        have hd : bits .and .u32 ((c : Int) + (y : Int)) 65535 = (d : Int) := by rw [show ((c : Int) + (y : Int)) = ((x + y + c : Nat) : Int) by omega, and16u _ (by omega)]; exact congrArg _ HD.out.symm
        have hs : ((c : Int) + (y : Int)) / 65536 = (c' : Int) := by have := HC'.out; omega
        clear ex
        have hown := hgr.2
        rw [hdl] at hown
        have hsz := hgr.1.size
        clear hgr hax hay
        go_wp2_with (at_builtin; refine wpList_append_own _ rfl _ _ 79 rfl w.heap.size 110 i0 (.int .u32 0) 1 4 Tryz.underlying79 hi hz0 hz1 hz2 rfl (by decide) _ _ _ rfl (hown.alloc _) ⟨wr.heap.size, 0, none⟩ 1 1 [.int .u32 (d : Int)] rfl rfl ?c1C ?c2C ?c3C ?c4C ?c5C ?_)
        try case c1C => exact new_cell wr _ _
        case c2C => first | exact one_one _ _ | rfl
        case c3C => unfold maxLen; omega
        case c4C => omega
        case c5C => first | (simp; omega) | omega
        intro v' w1 hown' hgrow _
        have hg' := HG.out.step _ (by rw [hdl]; exact hown') hgrow
        have HG' : Hid (Grows w w1 v' (mk D (k + 1))) := by show Grows _ _ _ _; rw [mk_succ, ← HDD.out]; exact hg'
        clear hown hown' hgrow hg' HG hd
        go_wp2
        go_roundw
        case rel => exact ⟨k + 1, c', by omega, rfl, by go_num, HC1.out, HG'.out⟩
        case measure => simp [intOf]; omega
    · obtain rfl : k = n := by omega
      have t1 : ¬ (k : Int) < (la : Int) := by omega
      have t2 : ¬ (k : Int) < (lb : Int) := by omega
      have hdl := mk_len D k
      have HG : Hid (Grows w wr u5 (mk D k)) := hgr
      have hown := hgr.2
      rw [hdl] at hown
      have hsz := hgr.1.size
      have his := radd_is (n := k) ox oy (by omega) (by omega)
      rw [← HDF.out, ← HC.out] at his
      have HI : Hid (Ok 65536 (mk D k ++ [c]) ∧ num 65536 (mk D k ++ [c]) = num 65536 xs + num 65536 ys) := his
      clear hgr his hax hay
      go_wp2_with (at_builtin; refine wpList_append_own _ rfl _ _ 79 rfl w.heap.size 110 i0 (.int .u32 0) 1 4 Tryz.underlying79 hi hz0 hz1 hz2 rfl (by decide) _ _ _ rfl (hown.alloc _) ⟨wr.heap.size, 0, none⟩ 1 1 [.int .u32 (c : Int)] rfl rfl ?c1D ?c2D ?c3D ?c4D ?c5D ?_)
      try case c1D => exact new_cell wr _ _
      case c2D => first | exact one_one _ _ | rfl
      case c3D => unfold maxLen; omega
      case c4D => omega
      case c5D => first | (simp; omega) | omega
      intro v' w1 hown' hgrow _
      have hg' := HG.out.step _ (by rw [hdl]; exact hown') hgrow
      obtain ⟨ao', cp, rfl, hcp, hat, hrs⟩ := hg'.fresh
      have HRS := hide hrs
      clear hrs
      have hbel := hg'.1
      obtain ⟨z, hz⟩ : ∃ z, z = mk D k ++ [c] := ⟨_, rfl⟩
      rw [← hz] at hat hcp HI HRS
      have hzl : z.length = k + 1 := by rw [hz]; simp [mk]
      obtain ⟨q, hq⟩ : ∃ q, q = (trimmed z).length := ⟨_, rfl⟩
      have HQ : Hid ((trimmed z).length = q) := hq.symm
      have HZ : Hid (z.length = k + 1) := hzl
      have hqle : q ≤ k + 1 := by rw [hq, ← hzl]; exact length_trimmed_le z
      rw [← hz, hzl]
      rw [hzl] at hcp
      clear hown hown' hgrow hg' HG hz hzl hq
      go_wp2_with fail
      refine (rtrim_to ao' (k + 1) cp q z _ hcp (by omega) HZ.out hat HQ.out).mono ?_
      rintro e w' ⟨rfl, rfl⟩
      go_wp2
      go_ret
      refine ⟨ao', cp, trimmed z, by rw [HQ.out]; rfl, by rw [HQ.out]; omega, ⟨hat.trimmed, fun b f hx e => HRS.out b f (fun h => hx (by rw [h]; rfl)) e⟩, ?_, by rw [HQ.out]; exact hqle, hbel⟩
      rw [← HI.out.2]; exact Is.trimmed HI.out.1

end Go.Proofs.YtobloamnaemfnaaGreatDoor

namespace Go.Proofs.YtobloamnaemfnaaGreatDoor
open Go.RowKit

theorem Res.mono {k : IntKind} {W : World} {o : Option Addr} {x : List Nat} {lo hi lo' hi' : Nat} (h : Res k W o x lo hi) (h1 : lo' ≤ lo) (h2 : hi ≤ hi') : Res k W o x lo' hi' :=
  ⟨h.1, fun b f hx e => by have := h.2 b f hx e; omega⟩

def RWPost (w : World) (m : Nat) (z : Int) (e : Ending) (w' : World) : Prop :=
  ∃ s o c r, Hid (s = decide (z < 0)) ∧ e = .returned (.agg #[.bool s, .slice o (List.length r) c]) ∧ List.length r ≤ c ∧ Res .u32 w' o r w.heap.size w'.heap.size ∧ Is 65536 r z.natAbs ∧ r.length ≤ m ∧ Below w.heap.size w w'

theorem zv_lt32 {neg : Bool} {n : Nat} {r : List Nat} (h : Is 65536 r n) : decide (zv neg n < 0) = (neg && decide (0 < r.length)) := by
  cases neg
  · simp [zv]
  · have : (0 < r.length) ↔ n ≠ 0 := by
      constructor
      · intro h1 h2
        have := num_zero (by decide) h.2.1 (h.2.2.trans h2)
        rw [this] at h1; simp at h1
      · intro h1
        rcases hr : r with _ | ⟨x, t⟩
        · rw [hr] at h; exact absurd h.2.2.symm h1
        · simp
    simp only [zv, if_true, Bool.true_and]
    by_cases hn : n = 0
    · subst hn; simp [this]
    · rw [decide_eq_true (by omega), decide_eq_true (this.2 hn)]

theorem results_pairR {fn : Func} {a : Tmp} (h : fn.results = #[.cell a 81]) (tmps : Array Value) (H : Nat) (x y : Value) (w : World) (ht : tmps.getD a undef = .pointer (some ⟨H, 0, none⟩)) (hp : Pair w H x y 81) :
    (results fn tmps).run Tryz.prog w = .ok (.agg #[x, y]) w := by
  have c0 := hp.cell0
  have c1 := hp.cell1
  rw [Array.getD_eq_getD_getElem?] at ht
  simp [results, h, ht, go_sem, c0, c1]

theorem RWPost.ret {w w2 : World} {m lo hi H c : Nat} {z : Int} {s : Bool} {o : Option Addr} {x y : Value} {r : List Nat} (hs : Hid (s = decide (z < 0))) (hle : r.length ≤ c) (hr : Res .u32 w2 o r lo hi) (h1 : w.heap.size ≤ H) (h2 : H < lo) (h3 : hi ≤ w2.heap.size) (his : Is 65536 r z.natAbs) (hm : r.length ≤ m) (hb : Below w.heap.size w w2) :
    RWPost w m z (.returned (.agg #[.bool s, .slice o r.length c])) ((w2.setCell ⟨H, 0, none⟩ x).setCell ⟨H, 1, none⟩ y) :=
  ⟨s, o, c, r, hs, rfl, hle, ((hr.set (.inl h2) _).set (.inl h2) _).mono (by omega) (by simpa [World.setCell] using h3), his, hm, (hb.setCell h1 _).setCell h1 _⟩


set_option maxHeartbeats 1000000 in
theorem rmake_f (o : Option Addr) (l c : Nat) (xs : List Nat) (w : World) (hl : l ≤ 100000000) (hx : xs.length = l) (hax : At .u32 w o xs) (ox : Ok 65536 xs) :
    Calls Tryz.prog 46 #[.bool false, .slice o l c] w (RWPost w (l + 1) (zv false (num 65536 xs))) := by
  have hb0 : Below w.heap.size w ((w.alloc (Obj.cells #[Value.bool false, Value.slice none 0 0] 81)).alloc (Obj.cells #[] 110)) := ((Below.refl _ _).alloc (Nat.le_refl _) _).alloc (by simp) _
  have p0 := (Pair.new w (.bool false) (.slice none 0 0) 81).alloc (Obj.cells #[] 110)
  have ha := (hax.alloc (Obj.cells #[Value.bool false, Value.slice none 0 0] 81)).alloc (Obj.cells #[] 110)
  go_enter Tryz.func46, Tryz.ntmps46
  go_wp2_with fail
  refine (radd_fresh o _ l c 0 0 xs [] _ hl (by omega) hx rfl ha (At.nil _ _ _) ox (Is.none (by decide)).1).mono ?_
  rintro e w1 ⟨o1, c1, r1, rfl, hl1, rs1, is1, hm1, hb1⟩
  rw [show num 65536 [] = 0 from rfl, Nat.add_zero] at is1
  have pr := p0.below hb1 p0.lt
  have hs := zv_lt32 (neg := false) is1
  have hbw := hb0.trans (hb1.mono hb0.size)
  have HS := hide hs
  have RS := hide rs1
  have HBW := hide hbw
  have HIS : Hid (Is 65536 r1 (zv false (num 65536 xs)).natAbs) := by rw [zv_abs]; exact is1
  have q0 := pr.cell0
  have q1 := pr.cell1
  have f0 := pr.free 0
  have f1 := pr.free 1
  have PR := hide pr
  clear hs rs1 hbw is1 hb1 p0 ha hax ox hb0 pr
  go_wp2
  refine bodyPost_ret (results_pairR rfl _ _ _ _ _ rfl (PR.out.put _ _)) rfl ?_
  exact RWPost.ret (s := false) (H := w.heap.size) (by show false = decide _; rw [HS.out]; rfl) hl1 RS.out (Nat.le_refl _) (by simp <;> omega) (Nat.le_refl _) HIS.out (by omega) HBW.out


set_option maxHeartbeats 1000000 in
theorem rmake_t (o : Option Addr) (l c : Nat) (xs : List Nat) (w : World) (hl : l ≤ 100000000) (hx : xs.length = l) (hax : At .u32 w o xs) (ox : Ok 65536 xs) :
    Calls Tryz.prog 46 #[.bool true, .slice o l c] w (RWPost w (l + 1) (zv true (num 65536 xs))) := by
  have hb0 : Below w.heap.size w ((w.alloc (Obj.cells #[Value.bool false, Value.slice none 0 0] 81)).alloc (Obj.cells #[] 110)) := ((Below.refl _ _).alloc (Nat.le_refl _) _).alloc (by simp) _
  have p0 := (Pair.new w (.bool false) (.slice none 0 0) 81).alloc (Obj.cells #[] 110)
  have ha := (hax.alloc (Obj.cells #[Value.bool false, Value.slice none 0 0] 81)).alloc (Obj.cells #[] 110)
  go_enter Tryz.func46, Tryz.ntmps46
  go_wp2_with fail
  refine (radd_fresh o _ l c 0 0 xs [] _ hl (by omega) hx rfl ha (At.nil _ _ _) ox (Is.none (by decide)).1).mono ?_
  rintro e w1 ⟨o1, c1, r1, rfl, hl1, rs1, is1, hm1, hb1⟩
  rw [show num 65536 [] = 0 from rfl, Nat.add_zero] at is1
  have pr := p0.below hb1 p0.lt
  have hs := zv_lt32 (neg := true) is1
  have hbw := hb0.trans (hb1.mono hb0.size)
  have HS := hide hs
  have RS := hide rs1
  have HBW := hide hbw
  have HIS : Hid (Is 65536 r1 (zv true (num 65536 xs)).natAbs) := by rw [zv_abs]; exact is1
  have q0 := pr.cell0
  have q1 := pr.cell1
  have f0 := pr.free 0
  have f1 := pr.free 1
  have PR := hide pr
  clear hs rs1 hbw is1 hb1 p0 ha hax ox hb0 pr
  go_wp2
  refine bodyPost_ret (results_pairR rfl _ _ _ _ _ rfl (PR.out.put _ _)) rfl ?_
  exact RWPost.ret (s := decide (0 < r1.length)) (H := w.heap.size) (by show decide (0 < r1.length) = decide _; rw [HS.out]; rfl) hl1 RS.out (Nat.le_refl _) (by simp <;> omega) (Nat.le_refl _) HIS.out (by omega) HBW.out


theorem rmake (neg : Bool) (o : Option Addr) (l c : Nat) (xs : List Nat) (w : World) (hl : l ≤ 100000000) (hx : xs.length = l) (hax : At .u32 w o xs) (ox : Ok 65536 xs) :
    Calls Tryz.prog 46 #[.bool neg, .slice o l c] w (RWPost w (l + 1) (zv neg (num 65536 xs))) := by
  cases neg
  · exact rmake_f o l c xs w hl hx hax ox
  · exact rmake_t o l c xs w hl hx hax ox

end Go.Proofs.YtobloamnaemfnaaGreatDoor

namespace Go.Proofs.YtobloamnaemfnaaGreatDoor
open Go.RowKit

end Go.Proofs.YtobloamnaemfnaaGreatDoor

namespace Go.Proofs.YtobloamnaemfnaaGreatDoor
open Go.RowKit

end Go.Proofs.YtobloamnaemfnaaGreatDoor

namespace Go.Proofs.YtobloamnaemfnaaGreatDoor
open Go.RowKit

end Go.Proofs.YtobloamnaemfnaaGreatDoor
