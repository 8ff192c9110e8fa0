/-
  What the reference's Add answers lies in new memory.
  What the reference's Make, In, Neg and Same do, and quipulaw02's in and is.
  What the reference's DivMod of whole numbers does.
-/
import Derived.Test.YtfcdjhjdiadbfaaDoorZRAdd
import Derived.Test.YtfcdjhjdiadbfaaDoorZWNum
import Derived.Test.YtfcdjhjdiadbfaaDoorOut
import Derived.Test.YtfcdjhjdiadbfaaDoorZRDiv
import Derived.Test.YtfcdjhjdiadbfaaDoorZWhole
namespace Go.Proofs.YtfcdjhjdiadbfaaDoor
open Go.RowKit

/-- As RPost, and the digits lie in a block that the call has laid. -/
def RFPost (w : World) (m n : Nat) (e : Ending) (w' : World) : Prop :=
  ∃ ao cap ys, e = .returned (.slice ao (List.length ys) cap) ∧ ys.length ≤ cap ∧ Res .u32 w' ao ys w.heap.size w'.heap.size ∧ Is 65536 ys n ∧ ys.length ≤ m ∧ Below w.heap.size w w'

theorem Grows.fresh {w wr : World} {v : Value} {ys : List Nat} (h : Grows w wr v ys) : ∃ ao cap, v = .slice ao ys.length cap ∧ ys.length ≤ cap ∧ At .u32 wr ao ys ∧ ∀ b f, ys ≠ [] → ao = some ⟨b, f, none⟩ → w.heap.size ≤ b ∧ b < wr.heap.size := by
  obtain ⟨ao, cap, rfl, h1, h2⟩ := h.at
  refine ⟨ao, cap, rfl, h1, h2, fun b f hx e => ?_⟩
  have h3 := h.2.lt b (by rw [e]; rfl)
  exact h3

set_option maxRecDepth 100000 in
set_option maxHeartbeats 1000000 in
theorem radd_fresh (ao bo : Option Addr) (la ca lb cb : Nat) (xs ys : List Nat) (w : World) (hla : la ≤ 100000000) (hlb : lb ≤ 100000000) (hx : xs.length = la) (hy : ys.length = lb)
    (hax : At .u32 w ao xs) (hay : At .u32 w bo ys) (ox : Ok 65536 xs) (oy : Ok 65536 ys) :
    Calls Tryd.prog 41 #[.slice ao la ca, .slice bo lb cb] w (RFPost w (max la lb + 1) (num 65536 xs + num 65536 ys)) := by
  obtain ⟨i0, hi, hz0, hz1, hz2⟩ := info_parts Tryd.infoD
  obtain ⟨n, hn⟩ : ∃ n, n = max la lb := ⟨_, rfl⟩
  rw [← hn]
  obtain ⟨D, hD⟩ : ∃ D, D = addD 65536 (dg xs) (dg ys) := ⟨_, rfl⟩
  have HDF : Hid (D = addD 65536 (dg xs) (dg ys)) := hD
  have hnl : la ≤ n ∧ lb ≤ n ∧ n ≤ 100000000 := by omega
  have HN : Hid (n = max la lb) := hn
  clear hn hD
  go_enter Tryd.func41, Tryd.ntmps41
  go_wp2
  go_loopw [5, 6, 7] (fun v cv i wr => ∃ k c : Nat, k ≤ n ∧ cv = .int .u32 (c : Int) ∧ i = .int .i64 k ∧ c = addC 65536 (dg xs) (dg ys) k ∧ Grows w wr v (mk D k)) (fun _ _ i _ => n - (intOf i).toNat)
  case atStart => exact ⟨0, 0, Nat.zero_le _, rfl, rfl, rfl, (Below.refl _ _).alloc (Nat.le_refl _) _, World.ownsRow_lit _ #[] 0 (Nat.le_refl _) (by unfold maxLen; omega) rfl⟩
  case round =>
    obtain ⟨k, c, hk, rfl, rfl, hc, hgr⟩ := hrel
    have hcl : c ≤ 1 := by rw [hc]; exact addC_le ox oy k
    have HC : Hid (c = addC 65536 (dg xs) (dg ys) k) := hc
    clear hc
    by_cases hlt : k < n
    · have HG : Hid (Grows w wr u5 (mk D k)) := hgr
      obtain ⟨x, hxk⟩ : ∃ x, x = dg xs k := ⟨_, rfl⟩
      obtain ⟨y, hyk⟩ : ∃ y, y = dg ys k := ⟨_, rfl⟩
      have hxl : x < 65536 := by rw [hxk]; exact ox k
      have hyl : y < 65536 := by rw [hyk]; exact oy k
      have HX : Hid (x = dg xs k) := hxk
      have HY : Hid (y = dg ys k) := hyk
      obtain ⟨d, hdk⟩ : ∃ d, d = (x + y + c) % 65536 := ⟨_, rfl⟩
      obtain ⟨c', hck⟩ : ∃ c', c' = (x + y + c) / 65536 := ⟨_, rfl⟩
      have HD : Hid (d = (x + y + c) % 65536) := hdk
      have HC' : Hid (c' = (x + y + c) / 65536) := hck
      have HC1 : Hid (c' = addC 65536 (dg xs) (dg ys) (k + 1)) := by rw [hck, hxk, hyk, HC.out]; rfl
      have HDD : Hid (d = D k) := by rw [hdk, hxk, hyk, HC.out, HDF.out]; rfl
      have hdl := mk_len D k
      clear hxk hyk hdk hck
      have hor : k < la ∨ k < lb := by have := HN.out; omega
      by_cases ha : k < la
      · by_cases hb : k < lb
        · clear hor
          have t1 : (k : Int) < (la : Int) := by omega
          have t2 : (k : Int) < (lb : Int) := by omega
          obtain ⟨b1, o1, rfl, hc1⟩ : ∃ b1 o1, ao = some ⟨b1, o1, none⟩ ∧ wr.cell? ⟨b1, o1 + k, none⟩ = some (.int .u32 (x : Int)) := by
            rcases hax.below hgr.1 with h | ⟨b, o, h1, _, h3⟩
            · rw [h] at hx; simp at hx; omega
            · exact ⟨b, o, h1, by rw [HX.out]; exact h3 k (by omega)⟩
          obtain ⟨b2, o2, rfl, hc2⟩ : ∃ b2 o2, bo = some ⟨b2, o2, none⟩ ∧ wr.cell? ⟨b2, o2 + k, none⟩ = some (.int .u32 (y : Int)) := by
            rcases hay.below hgr.1 with h | ⟨b, o, h1, _, h3⟩
            · rw [h] at hy; simp at hy; omega
            · exact ⟨b, o, h1, by rw [HY.out]; exact h3 k (by omega)⟩
          have hd : bits .and .u32 ((c : Int) + (x : Int) + (y : Int)) 65535 = (d : Int) := by rw [show ((c : Int) + (x : Int) + (y : Int)) = ((x + y + c : Nat) : Int) by omega, and16u _ (by omega)]; exact congrArg _ HD.out.symm
          have hs : ((c : Int) + (x : Int) + (y : Int)) / 65536 = (c' : Int) := by have := HC'.out; omega
          have hown := hgr.2
          rw [hdl] at hown
          have hsz := hgr.1.size
          clear hgr hax hay
          go_wp2_with (at_builtin; refine wpList_append_own _ rfl _ _ 26 rfl w.heap.size 73 i0 (.int .u32 0) 1 4 Tryd.underlying26 hi hz0 hz1 hz2 rfl (by decide) _ _ _ rfl (hown.alloc _) ⟨wr.heap.size, 0, none⟩ 1 1 [.int .u32 (d : Int)] rfl rfl ?c1A ?c2A ?c3A ?c4A ?c5A ?_)
          try case c1A => exact new_cell wr _ _
          case c2A => first | exact one_one _ _ | rfl
          case c3A => unfold maxLen; omega
          case c4A => omega
          case c5A => first | (simp; omega) | omega
          intro v' w1 hown' hgrow _
          have hg' := HG.out.step _ (by rw [hdl]; exact hown') hgrow
          have HG' : Hid (Grows w w1 v' (mk D (k + 1))) := by show Grows _ _ _ _; rw [mk_succ, ← HDD.out]; exact hg'
          clear hown hown' hgrow hg' HG hd
          go_wp2
          go_roundw
          case rel => exact ⟨k + 1, c', by omega, rfl, by go_num, HC1.out, HG'.out⟩
          case measure => simp [intOf]; omega
        · clear hor
          have t1 : (k : Int) < (la : Int) := by omega
          have t2 : ¬ (k : Int) < (lb : Int) := by omega
          obtain ⟨b1, o1, rfl, hc1⟩ : ∃ b1 o1, ao = some ⟨b1, o1, none⟩ ∧ wr.cell? ⟨b1, o1 + k, none⟩ = some (.int .u32 (x : Int)) := by
            rcases hax.below hgr.1 with h | ⟨b, o, h1, _, h3⟩
            · rw [h] at hx; simp at hx; omega
            · exact ⟨b, o, h1, by rw [HX.out]; exact h3 k (by omega)⟩
          have ey : y = 0 := by rw [HY.out]; exact dg_out (by omega)
          have hd : bits .and .u32 ((c : Int) + (x : Int)) 65535 = (d : Int) := by rw [show ((c : Int) + (x : Int)) = ((x + y + c : Nat) : Int) by omega, and16u _ (by omega)]; exact congrArg _ HD.out.symm
          have hs : ((c : Int) + (x : Int)) / 65536 = (c' : Int) := by have := HC'.out; omega
          clear ey
          have hown := hgr.2
          rw [hdl] at hown
          have hsz := hgr.1.size
          clear hgr hax hay
          go_wp2_with (at_builtin; refine wpList_append_own _ rfl _ _ 26 rfl w.heap.size 73 i0 (.int .u32 0) 1 4 Tryd.underlying26 hi hz0 hz1 hz2 rfl (by decide) _ _ _ rfl (hown.alloc _) ⟨wr.heap.size, 0, none⟩ 1 1 [.int .u32 (d : Int)] rfl rfl ?c1B ?c2B ?c3B ?c4B ?c5B ?_)
          try case c1B => exact new_cell wr _ _
          case c2B => first | exact one_one _ _ | rfl
          case c3B => unfold maxLen; omega
          case c4B => omega
          case c5B => first | (simp; omega) | omega
          intro v' w1 hown' hgrow _
          have hg' := HG.out.step _ (by rw [hdl]; exact hown') hgrow
          have HG' : Hid (Grows w w1 v' (mk D (k + 1))) := by show Grows _ _ _ _; rw [mk_succ, ← HDD.out]; exact hg'
          clear hown hown' hgrow hg' HG hd
          go_wp2
          go_roundw
          case rel => exact ⟨k + 1, c', by omega, rfl, by go_num, HC1.out, HG'.out⟩
          case measure => simp [intOf]; omega
      · have hb : k < lb := by omega
        clear hor
        have t1 : ¬ (k : Int) < (la : Int) := by omega
        have t2 : (k : Int) < (lb : Int) := by omega
        obtain ⟨b2, o2, rfl, hc2⟩ : ∃ b2 o2, bo = some ⟨b2, o2, none⟩ ∧ wr.cell? ⟨b2, o2 + k, none⟩ = some (.int .u32 (y : Int)) := by
          rcases hay.below hgr.1 with h | ⟨b, o, h1, _, h3⟩
          · rw [h] at hy; simp at hy; omega
          · exact ⟨b, o, h1, by rw [HY.out]; exact h3 k (by omega)⟩
        have ex : x = 0 := by rw [HX.out]; exact dg_out (by omega)
        have hd : bits .and .u32 ((c : Int) + (y : Int)) 65535 = (d : Int) := by rw [show ((c : Int) + (y : Int)) = ((x + y + c : Nat) : Int) by omega, and16u _ (by omega)]; exact congrArg _ HD.out.symm
        have hs : ((c : Int) + (y : Int)) / 65536 = (c' : Int) := by have := HC'.out; omega
        clear ex
        have hown := hgr.2
        rw [hdl] at hown
        have hsz := hgr.1.size
        clear hgr hax hay
        go_wp2_with (at_builtin; refine wpList_append_own _ rfl _ _ 26 rfl w.heap.size 73 i0 (.int .u32 0) 1 4 Tryd.underlying26 hi hz0 hz1 hz2 rfl (by decide) _ _ _ rfl (hown.alloc _) ⟨wr.heap.size, 0, none⟩ 1 1 [.int .u32 (d : Int)] rfl rfl ?c1C ?c2C ?c3C ?c4C ?c5C ?_)
        try case c1C => exact new_cell wr _ _
        case c2C => first | exact one_one _ _ | rfl
        case c3C => unfold maxLen; omega
        case c4C => omega
        case c5C => first | (simp; omega) | omega
        intro v' w1 hown' hgrow _
        have hg' := HG.out.step _ (by rw [hdl]; exact hown') hgrow
        have HG' : Hid (Grows w w1 v' (mk D (k + 1))) := by show Grows _ _ _ _; rw [mk_succ, ← HDD.out]; exact hg'
        clear hown hown' hgrow hg' HG hd
        go_wp2
        go_roundw
        case rel => exact ⟨k + 1, c', by omega, rfl, by go_num, HC1.out, HG'.out⟩
        case measure => simp [intOf]; omega
    · obtain rfl : k = n := by omega
      have t1 : ¬ (k : Int) < (la : Int) := by omega
      have t2 : ¬ (k : Int) < (lb : Int) := by omega
      have hdl := mk_len D k
      have HG : Hid (Grows w wr u5 (mk D k)) := hgr
      have hown := hgr.2
      rw [hdl] at hown
      have hsz := hgr.1.size
      have his := radd_is (n := k) ox oy (by omega) (by omega)
      rw [← HDF.out, ← HC.out] at his
      have HI : Hid (Ok 65536 (mk D k ++ [c]) ∧ num 65536 (mk D k ++ [c]) = num 65536 xs + num 65536 ys) := his
      clear hgr his hax hay
      go_wp2_with (at_builtin; refine wpList_append_own _ rfl _ _ 26 rfl w.heap.size 73 i0 (.int .u32 0) 1 4 Tryd.underlying26 hi hz0 hz1 hz2 rfl (by decide) _ _ _ rfl (hown.alloc _) ⟨wr.heap.size, 0, none⟩ 1 1 [.int .u32 (c : Int)] rfl rfl ?c1D ?c2D ?c3D ?c4D ?c5D ?_)
      try case c1D => exact new_cell wr _ _
      case c2D => first | exact one_one _ _ | rfl
      case c3D => unfold maxLen; omega
      case c4D => omega
      case c5D => first | (simp; omega) | omega
      intro v' w1 hown' hgrow _
      have hg' := HG.out.step _ (by rw [hdl]; exact hown') hgrow
      obtain ⟨ao', cp, rfl, hcp, hat, hrs⟩ := hg'.fresh
      have HRS := hide hrs
      clear hrs
      have hbel := hg'.1
      obtain ⟨z, hz⟩ : ∃ z, z = mk D k ++ [c] := ⟨_, rfl⟩
      rw [← hz] at hat hcp HI HRS
      have hzl : z.length = k + 1 := by rw [hz]; simp [mk]
      obtain ⟨q, hq⟩ : ∃ q, q = (trimmed z).length := ⟨_, rfl⟩
      have HQ : Hid ((trimmed z).length = q) := hq.symm
      have HZ : Hid (z.length = k + 1) := hzl
      have hqle : q ≤ k + 1 := by rw [hq, ← hzl]; exact length_trimmed_le z
      rw [← hz, hzl]
      rw [hzl] at hcp
      clear hown hown' hgrow hg' HG hz hzl hq
      go_wp2_with fail
      refine (rtrim_to ao' (k + 1) cp q z _ hcp (by omega) HZ.out hat HQ.out).mono ?_
      rintro e w' ⟨rfl, rfl⟩
      go_wp2
      go_ret
      refine ⟨ao', cp, trimmed z, by rw [HQ.out]; rfl, by rw [HQ.out]; omega, ⟨hat.trimmed, fun b f hx e => HRS.out b f (fun h => hx (by rw [h]; rfl)) e⟩, ?_, by rw [HQ.out]; exact hqle, hbel⟩
      rw [← HI.out.2]; exact Is.trimmed HI.out.1

end Go.Proofs.YtfcdjhjdiadbfaaDoor

namespace Go.Proofs.YtfcdjhjdiadbfaaDoor
open Go.RowKit

theorem Res.mono {k : IntKind} {W : World} {o : Option Addr} {x : List Nat} {lo hi lo' hi' : Nat} (h : Res k W o x lo hi) (h1 : lo' ≤ lo) (h2 : hi ≤ hi') : Res k W o x lo' hi' :=
  ⟨h.1, fun b f hx e => by have := h.2 b f hx e; omega⟩

/-- What the reference's functions answer: the number z in its one form, in new memory. -/
def RWPost (w : World) (m : Nat) (z : Int) (e : Ending) (w' : World) : Prop :=
  ∃ s o c r, Hid (s = decide (z < 0)) ∧ e = .returned (.agg #[.bool s, .slice o (List.length r) c]) ∧ List.length r ≤ c ∧ Res .u32 w' o r w.heap.size w'.heap.size ∧ Is 65536 r z.natAbs ∧ r.length ≤ m ∧ Below w.heap.size w w'

theorem zv_lt32 {neg : Bool} {n : Nat} {r : List Nat} (h : Is 65536 r n) : decide (zv neg n < 0) = (neg && decide (0 < r.length)) := by
  cases neg
  · simp [zv]
  · have : (0 < r.length) ↔ n ≠ 0 := by
      constructor
      · intro h1 h2
        have := num_zero (by decide) h.2.1 (h.2.2.trans h2)
        rw [this] at h1; simp at h1
      · intro h1
        rcases hr : r with _ | ⟨x, t⟩
        · rw [hr] at h; exact absurd h.2.2.symm h1
        · simp
    simp only [zv, if_true, Bool.true_and]
    by_cases hn : n = 0
    · subst hn; simp [this]
    · rw [decide_eq_true (by omega), decide_eq_true (this.2 hn)]

theorem results_pairR {fn : Func} {a : Tmp} (h : fn.results = #[.cell a 28]) (tmps : Array Value) (H : Nat) (x y : Value) (w : World) (ht : tmps.getD a undef = .pointer (some ⟨H, 0, none⟩)) (hp : Pair w H x y 28) :
    (results fn tmps).run Tryd.prog w = .ok (.agg #[x, y]) w := by
  have c0 := hp.cell0
  have c1 := hp.cell1
  rw [Array.getD_eq_getD_getElem?] at ht
  simp [results, h, ht, go_sem, c0, c1]

theorem RWPost.ret {w w2 : World} {m lo hi H c : Nat} {z : Int} {s : Bool} {o : Option Addr} {x y : Value} {r : List Nat} (hs : Hid (s = decide (z < 0))) (hle : r.length ≤ c) (hr : Res .u32 w2 o r lo hi) (h1 : w.heap.size ≤ H) (h2 : H < lo) (h3 : hi ≤ w2.heap.size) (his : Is 65536 r z.natAbs) (hm : r.length ≤ m) (hb : Below w.heap.size w w2) :
    RWPost w m z (.returned (.agg #[.bool s, .slice o r.length c])) ((w2.setCell ⟨H, 0, none⟩ x).setCell ⟨H, 1, none⟩ y) :=
  ⟨s, o, c, r, hs, rfl, hle, ((hr.set (.inl h2) _).set (.inl h2) _).mono (by omega) (by simpa [World.setCell] using h3), his, hm, (hb.setCell h1 _).setCell h1 _⟩


set_option maxHeartbeats 1000000 in
theorem rmake_f (o : Option Addr) (l c : Nat) (xs : List Nat) (w : World) (hl : l ≤ 100000000) (hx : xs.length = l) (hax : At .u32 w o xs) (ox : Ok 65536 xs) :
    Calls Tryd.prog 38 #[.bool false, .slice o l c] w (RWPost w (l + 1) (zv false (num 65536 xs))) := by
  have hb0 : Below w.heap.size w ((w.alloc (Obj.cells #[Value.bool false, Value.slice none 0 0] 28)).alloc (Obj.cells #[] 73)) := ((Below.refl _ _).alloc (Nat.le_refl _) _).alloc (by simp) _
  have p0 := (Pair.new w (.bool false) (.slice none 0 0) 28).alloc (Obj.cells #[] 73)
  have ha := (hax.alloc (Obj.cells #[Value.bool false, Value.slice none 0 0] 28)).alloc (Obj.cells #[] 73)
  go_enter Tryd.func38, Tryd.ntmps38
  go_wp2_with fail
  refine (radd_fresh o _ l c 0 0 xs [] _ hl (by omega) hx rfl ha (At.nil _ _ _) ox (Is.none (by decide)).1).mono ?_
  rintro e w1 ⟨o1, c1, r1, rfl, hl1, rs1, is1, hm1, hb1⟩
  rw [show num 65536 [] = 0 from rfl, Nat.add_zero] at is1
  have pr := p0.below hb1 p0.lt
  have hs := zv_lt32 (neg := false) is1
  have hbw := hb0.trans (hb1.mono hb0.size)
  have HS := hide hs
  have RS := hide rs1
  have HBW := hide hbw
  have HIS : Hid (Is 65536 r1 (zv false (num 65536 xs)).natAbs) := by rw [zv_abs]; exact is1
  have q0 := pr.cell0
  have q1 := pr.cell1
  have f0 := pr.free 0
  have f1 := pr.free 1
  have PR := hide pr
  clear hs rs1 hbw is1 hb1 p0 ha hax ox hb0 pr
  go_wp2
  refine bodyPost_ret (results_pairR rfl _ _ _ _ _ rfl (PR.out.put _ _)) rfl ?_
  exact RWPost.ret (s := false) (H := w.heap.size) (by show false = decide _; rw [HS.out]; rfl) hl1 RS.out (Nat.le_refl _) (by simp <;> omega) (Nat.le_refl _) HIS.out (by omega) HBW.out


set_option maxHeartbeats 1000000 in
theorem rmake_t (o : Option Addr) (l c : Nat) (xs : List Nat) (w : World) (hl : l ≤ 100000000) (hx : xs.length = l) (hax : At .u32 w o xs) (ox : Ok 65536 xs) :
    Calls Tryd.prog 38 #[.bool true, .slice o l c] w (RWPost w (l + 1) (zv true (num 65536 xs))) := by
  have hb0 : Below w.heap.size w ((w.alloc (Obj.cells #[Value.bool false, Value.slice none 0 0] 28)).alloc (Obj.cells #[] 73)) := ((Below.refl _ _).alloc (Nat.le_refl _) _).alloc (by simp) _
  have p0 := (Pair.new w (.bool false) (.slice none 0 0) 28).alloc (Obj.cells #[] 73)
  have ha := (hax.alloc (Obj.cells #[Value.bool false, Value.slice none 0 0] 28)).alloc (Obj.cells #[] 73)
  go_enter Tryd.func38, Tryd.ntmps38
  go_wp2_with fail
  refine (radd_fresh o _ l c 0 0 xs [] _ hl (by omega) hx rfl ha (At.nil _ _ _) ox (Is.none (by decide)).1).mono ?_
  rintro e w1 ⟨o1, c1, r1, rfl, hl1, rs1, is1, hm1, hb1⟩
  rw [show num 65536 [] = 0 from rfl, Nat.add_zero] at is1
  have pr := p0.below hb1 p0.lt
  have hs := zv_lt32 (neg := true) is1
  have hbw := hb0.trans (hb1.mono hb0.size)
  have HS := hide hs
  have RS := hide rs1
  have HBW := hide hbw
  have HIS : Hid (Is 65536 r1 (zv true (num 65536 xs)).natAbs) := by rw [zv_abs]; exact is1
  have q0 := pr.cell0
  have q1 := pr.cell1
  have f0 := pr.free 0
  have f1 := pr.free 1
  have PR := hide pr
  clear hs rs1 hbw is1 hb1 p0 ha hax ox hb0 pr
  go_wp2
  refine bodyPost_ret (results_pairR rfl _ _ _ _ _ rfl (PR.out.put _ _)) rfl ?_
  exact RWPost.ret (s := decide (0 < r1.length)) (H := w.heap.size) (by show decide (0 < r1.length) = decide _; rw [HS.out]; rfl) hl1 RS.out (Nat.le_refl _) (by simp <;> omega) (Nat.le_refl _) HIS.out (by omega) HBW.out


theorem rmake (neg : Bool) (o : Option Addr) (l c : Nat) (xs : List Nat) (w : World) (hl : l ≤ 100000000) (hx : xs.length = l) (hax : At .u32 w o xs) (ox : Ok 65536 xs) :
    Calls Tryd.prog 38 #[.bool neg, .slice o l c] w (RWPost w (l + 1) (zv neg (num 65536 xs))) := by
  cases neg
  · exact rmake_f o l c xs w hl hx hax ox
  · exact rmake_t o l c xs w hl hx hax ox

set_option maxHeartbeats 1000000 in
theorem rin_any (neg : Bool) (o : Option Addr) (l c : Nat) (xs : List Nat) (w : World) (hl : l ≤ 20000000) (hx : xs.length = l) (hax : At .u64 w o xs) (ox : Ok B64 xs) :
    Calls Tryd.prog 32 #[.bool neg, .slice o l c] w (RWPost w (4 * l + 1) (zv neg (num B64 xs))) := by
  have hb0 : Below w.heap.size w (w.alloc (Obj.cells #[Value.bool false, Value.slice none 0 0] 28)) := (Below.refl _ _).alloc (Nat.le_refl _) _
  have p0 := Pair.new w (.bool false) (.slice none 0 0) 28
  go_enter Tryd.func32, Tryd.ntmps32
  go_wp2_with fail
  refine (in_any o l c xs _ (by omega) hx (hax.alloc _) ox).mono ?_
  rintro e w1 ⟨o1, c1, y1, rfl, hl1, at1, is1, hm1, hb1⟩
  have p1 := p0.below hb1 p0.lt
  go_wp2_with fail
  refine (rmake neg o1 y1.length c1 y1 _ (by omega) rfl at1 is1.1).mono ?_
  rintro e w2 ⟨s, o2, c2, r2, hs, rfl, hl2, rs2, is2, hm2, hb2⟩
  rw [is1.2.2] at hs is2
  have pr := p1.below hb2 p1.lt
  have hlt := p1.lt
  have hbw := hb0.trans ((hb1.mono hb0.size).trans (hb2.mono (Nat.le_trans hb0.size hb1.size)))
  have q0 := pr.cell0
  have q1 := pr.cell1
  have f0 := pr.free 0
  have f1 := pr.free 1
  clear at1 is1 hb1 hb2 p0 p1 hax ox hb0
  go_wp2
  refine bodyPost_ret (results_pairR rfl _ _ _ _ _ rfl (pr.put _ _)) rfl ?_
  exact RWPost.ret (H := w.heap.size) hs hl2 rs2 (Nat.le_refl _) hlt (Nat.le_refl _) is2 (by omega) hbw

set_option maxHeartbeats 1000000 in
/-- quipulaw02.in: a number, for the document's answer. -/
theorem lawin (neg : Bool) (o : Option Addr) (l c : Nat) (xs : List Nat) (w : World) (hl : l ≤ 20000000) (hx : xs.length = l) (hax : At .u64 w o xs) (z : Int) (hz : Hid (NV neg xs z)) :
    Calls Tryd.prog 8 #[.agg #[.bool neg, .slice o l c]] w (RWPost w (4 * l + 1) z) := by
  have hb0 : Below w.heap.size w ((w.alloc (Obj.cells #[Value.bool neg, Value.slice o l c] 24)).alloc (Obj.cells #[Value.bool false, Value.slice none 0 0] 28)) := ((Below.refl _ _).alloc (Nat.le_refl _) _).alloc (by simp) _
  have p0 := Pair.newAt (w.alloc (Obj.cells #[Value.bool neg, Value.slice o l c] 24)) (w.heap.size + 1) (by simp) (.bool false) (.slice none 0 0) 28
  have ri := fun w h => rin_any neg o l c xs w hl hx h hz.out.1
  rw [hz.out.2] at ri
  have RI := hide ri
  clear ri
  go_enter Tryd.func8, Tryd.ntmps8
  go_wp2_with fail
  refine (RI.out _ ((hax.alloc _).alloc _)).mono ?_
  rintro e w2 ⟨s, o2, c2, r2, hs, rfl, hl2, rs2, is2, hm2, hb2⟩
  have pr := p0.below hb2 p0.lt
  have hlt := p0.lt
  have hbw := hb0.trans (hb2.mono hb0.size)
  have q0 := pr.cell0
  have q1 := pr.cell1
  have f0 := pr.free 0
  have f1 := pr.free 1
  clear hb2 p0 hax hb0 RI
  go_wp2
  refine bodyPost_ret (results_pairR rfl _ _ _ _ _ rfl (pr.put _ _)) rfl ?_
  exact RWPost.ret (H := w.heap.size + 1) hs hl2 rs2 (by omega) hlt (Nat.le_refl _) is2 hm2 hbw

/-- A sign and digits are the number z, in whatever form. -/
def NV32 (s : Bool) (x : List Nat) (z : Int) : Prop := Ok 65536 x ∧ zv s (num 65536 x) = z
/-- A sign and digits are the number z in its one form. -/
def NI32 (s : Bool) (x : List Nat) (z : Int) : Prop := s = decide (z < 0) ∧ Is 65536 x z.natAbs

theorem NI32.nv {s : Bool} {x : List Nat} {z : Int} (h : NI32 s x z) : NV32 s x z := by
  refine ⟨h.2.1, ?_⟩
  rw [h.2.2.2, h.1]
  unfold zv
  by_cases hz : z < 0
  · simp [hz]; omega
  · simp [hz]; omega

theorem NI32.mk {s : Bool} {x : List Nat} {z : Int} (h : Hid (s = decide (z < 0))) (hi : Is 65536 x z.natAbs) : NI32 s x z := ⟨h.out, hi⟩

set_option maxHeartbeats 1000000 in
theorem rnegz (neg : Bool) (o : Option Addr) (l c : Nat) (xs : List Nat) (w : World) (hl : l ≤ 100000000) (hx : xs.length = l) (hax : At .u32 w o xs) (z : Int) (hz : Hid (NV32 neg xs z)) :
    Calls Tryd.prog 13 #[.agg #[.bool neg, .slice o l c]] w (RWPost w (l + 1) (-z)) := by
  have hb0 : Below w.heap.size w ((w.alloc (Obj.cells #[Value.bool neg, Value.slice o l c] 28)).alloc (Obj.cells #[Value.bool false, Value.slice none 0 0] 28)) := ((Below.refl _ _).alloc (Nat.le_refl _) _).alloc (by simp) _
  have p0 := Pair.newAt (w.alloc (Obj.cells #[Value.bool neg, Value.slice o l c] 28)) (w.heap.size + 1) (by simp) (.bool false) (.slice none 0 0) 28
  have ri := fun w h => rmake (!neg) o l c xs w hl hx h hz.out.1
  rw [zv_neg, hz.out.2] at ri
  have RI := hide ri
  clear ri
  go_enter Tryd.func13, Tryd.ntmps13
  go_wp2_with fail
  refine (RI.out _ ((hax.alloc _).alloc _)).mono ?_
  rintro e w2 ⟨s, o2, c2, r2, hs, rfl, hl2, rs2, is2, hm2, hb2⟩
  have pr := p0.below hb2 p0.lt
  have hlt := p0.lt
  have hbw := hb0.trans (hb2.mono hb0.size)
  have q0 := pr.cell0
  have q1 := pr.cell1
  have f0 := pr.free 0
  have f1 := pr.free 1
  clear hb2 p0 hax hb0 RI
  go_wp2
  refine bodyPost_ret (results_pairR rfl _ _ _ _ _ rfl (pr.put _ _)) rfl ?_
  exact RWPost.ret (H := w.heap.size + 1) hs hl2 rs2 (by omega) hlt (Nat.le_refl _) is2 hm2 hbw

set_option maxHeartbeats 1000000 in
/-- The method Same, of what is the same. -/
theorem rsame_true (n : Bool) (o p : Option Addr) (l c d : Nat) (x y : List Nat) (w : World) (hl : l ≤ 100000000) (hlc : l ≤ c) (hx : x.length = l) (hax : At .u32 w o x) (hay : At .u64 w p y) (ox : Ok 65536 x) (hy : Is B64 y (num 65536 x)) :
    Calls Tryd.prog 35 #[.agg #[.bool n, .slice o l c], .bool n, .slice p y.length d] w fun e w' => e = .returned (.bool true) ∧ Below w.heap.size w w' := by
  have hb0 : Below w.heap.size w (w.alloc (Obj.cells #[Value.bool n, Value.slice o l c] 28)) := (Below.refl _ _).alloc (Nat.le_refl _) _
  have ax0 := hax.alloc (Obj.cells #[Value.bool n, Value.slice o l c] 28)
  have ay0 := hay.alloc (Obj.cells #[Value.bool n, Value.slice o l c] 28)
  clear hax hay
  cases n
  all_goals
    go_enter Tryd.func35, Tryd.ntmps35
    go_wp2_with fail
    refine (out_any o l c x _ (by omega) hlc hx ax0 ox).mono ?_
    rintro e w1 ⟨o1, c1, r1, rfl, hl1, at1, is1, hm1, hb1⟩
    have eq : Hid (r1 = y) := is1.uniq (by decide) hy
    have ay1 := ay0.below hb1
    clear ax0 ay0
    go_wp2_with fail
    refine (same_any o1 p r1.length c1 y.length d r1 y _ (by omega) rfl rfl at1 ay1).mono ?_
    rintro e w2 ⟨rfl, hb2⟩
    rw [show decide (r1 = y) = true from decide_eq_true eq.out]
    have hbw := hb0.trans ((hb1.mono hb0.size).trans (hb2.mono (Nat.le_trans hb0.size hb1.size)))
    clear at1 ay1 eq is1
    go_wp2
    go_ret
    exact ⟨rfl, hbw⟩

set_option maxHeartbeats 1000000 in
/-- quipulaw02.is, of what it is. -/
theorem isz (s t : Bool) (o p : Option Addr) (l c m d : Nat) (y x : List Nat) (w : World) (hm : m ≤ 100000000) (hmd : m ≤ d) (hy : y.length = l) (hx : x.length = m) (hay : At .u64 w o y) (hax : At .u32 w p x) (z u : Int) (hz : Hid (NI s y z)) (hu : Hid (NI32 t x u)) (e : z = u) :
    Calls Tryd.prog 10 #[.agg #[.bool s, .slice o l c], .agg #[.bool t, .slice p m d]] w fun e w' => e = .returned (.bool true) ∧ Below w.heap.size w w' := by
  subst e
  obtain rfl : s = t := hz.out.1.trans hu.out.1.symm
  subst hy
  have hb0 : Below w.heap.size w ((w.alloc (Obj.cells #[Value.bool s, Value.slice o y.length c] 24)).alloc (Obj.cells #[Value.bool s, Value.slice p m d] 28)) := ((Below.refl _ _).alloc (Nat.le_refl _) _).alloc (by simp) _
  have rs := fun w h1 h2 => rsame_true s p o m d c x y w hm hmd hx h1 h2 hu.out.2.1 (by rw [hu.out.2.2.2]; exact hz.out.2)
  have RS := hide rs
  clear rs
  go_enter Tryd.func10, Tryd.ntmps10
  go_wp2_with fail
  refine (RS.out _ ((hax.alloc _).alloc _) ((hay.alloc _).alloc _)).mono ?_
  rintro e w1 ⟨rfl, hb⟩
  have hbw := hb0.trans (hb.mono hb0.size)
  clear hb hb0 hax hay RS
  go_wp2
  go_ret
  exact ⟨rfl, hbw⟩

end Go.Proofs.YtfcdjhjdiadbfaaDoor

namespace Go.Proofs.YtfcdjhjdiadbfaaDoor
open Go.RowKit

/-- Quotient and rest, each in its one form, in new memory. -/
def RDWPost (w : World) (m : Nat) (zq zr : Int) (e : Ending) (w' : World) : Prop :=
  ∃ s1 o1 c1 r1 s2 o2 c2 r2, e = .returned (.tuple #[.agg #[.bool s1, .slice o1 (List.length r1) c1], .agg #[.bool s2, .slice o2 (List.length r2) c2]]) ∧ Hid (NI32 s1 r1 zq) ∧ Hid (NI32 s2 r2 zr) ∧ List.length r1 ≤ c1 ∧ List.length r2 ≤ c2 ∧
    r1.length ≤ m ∧ r2.length ≤ m ∧ Hid (Res .u32 w' o1 r1 w.heap.size w'.heap.size) ∧ Hid (Res .u32 w' o2 r2 w.heap.size w'.heap.size) ∧ Below w.heap.size w w'

theorem results_pairsR {fn : Func} {a b : Tmp} (h : fn.results = #[.cell a 28, .cell b 28]) (tmps : Array Value) (H K : Nat) (x y x' y' : Value) (w : World)
    (ht : tmps.getD a undef = .pointer (some ⟨H, 0, none⟩)) (hu : tmps.getD b undef = .pointer (some ⟨K, 0, none⟩)) (hp : Pair w H x y 28) (hq : Pair w K x' y' 28) :
    (results fn tmps).run Tryd.prog w = .ok (.tuple #[.agg #[x, y], .agg #[x', y']]) w := by
  have c0 := hp.cell0
  have c1 := hp.cell1
  have d0 := hq.cell0
  have d1 := hq.cell1
  rw [Array.getD_eq_getD_getElem?] at ht hu
  simp [results, h, ht, hu, go_sem, c0, c1, d0, d1]

theorem RDWPost.ret {w W : World} {m H K c1 c2 l1 h1 l2 h2 : Nat} {zq zr : Int} {s1 s2 : Bool} {o1 o2 : Option Addr} {x y x' y' : Value} {r1 r2 : List Nat} (n1 : NI32 s1 r1 zq) (n2 : NI32 s2 r2 zr) (e1 : r1.length ≤ c1) (e2 : r2.length ≤ c2) (m1 : r1.length ≤ m) (m2 : r2.length ≤ m)
    (f1 : Res .u32 W o1 r1 l1 h1) (f2 : Res .u32 W o2 r2 l2 h2) (a1 : H < l1 ∧ K < l1) (a2 : H < l2 ∧ K < l2) (g1 : w.heap.size ≤ H) (g2 : w.heap.size ≤ K) (t1 : h1 ≤ W.heap.size) (t2 : h2 ≤ W.heap.size) (hb : Below w.heap.size w W) :
    RDWPost w m zq zr (.returned (.tuple #[.agg #[.bool s1, .slice o1 r1.length c1], .agg #[.bool s2, .slice o2 r2.length c2]])) ((((W.setCell ⟨H, 0, none⟩ x).setCell ⟨H, 1, none⟩ y).setCell ⟨K, 0, none⟩ x').setCell ⟨K, 1, none⟩ y') := by
  refine ⟨s1, o1, c1, r1, s2, o2, c2, r2, rfl, n1, n2, e1, e2, m1, m2, ?_, ?_, (((hb.setCell g1 _).setCell g1 _).setCell g2 _).setCell g2 _⟩
  · exact ((((f1.set (.inl a1.1) _).set (.inl a1.1) _).set (.inl a1.2) _).set (.inl a1.2) _).mono (by omega) (by simpa [World.setCell] using t1)
  · exact ((((f2.set (.inl a2.1) _).set (.inl a2.1) _).set (.inl a2.2) _).set (.inl a2.2) _).mono (by omega) (by simpa [World.setCell] using t2)


set_option maxRecDepth 100000 in
set_option maxHeartbeats 2000000 in
theorem rdivw_ffn (oa ob : Option Addr) (la ca lb cb B : Nat) (xa xb : List Nat) (w : World) (hla : la ≤ 5000000) (hlb : lb ≤ 5000000) (hlbc : lb ≤ cb) (hxa : xa.length = la) (hxb : xb.length = lb) (ata : At .u32 w oa xa) (atb : At .u32 w ob xb) (oka : Ok 65536 xa) (isb : Hid (Is 65536 xb B)) (h0 : Hid (0 < B)) :
    Calls Tryd.prog 23 #[.agg #[.bool false, .slice oa la ca], .agg #[.bool false, .slice ob lb cb]] w (RDWPost w (la + lb + 3) (zv false (num 65536 xa) / zv false B) (zv false (num 65536 xa) % zv false B)) := by
  go_enter Tryd.func23, Tryd.ntmps23
  go_wp2_with fail
  have hb0 : Below w.heap.size w ((((w.alloc (Obj.cells #[Value.bool false, Value.slice oa la ca] 28)).alloc (Obj.cells #[Value.bool false, Value.slice ob lb cb] 28)).alloc (Obj.cells #[Value.bool false, Value.slice none 0 0] 28)).alloc (Obj.cells #[Value.bool false, Value.slice none 0 0] 28)) := ((((Below.refl _ _).alloc (Nat.le_refl _) _).alloc (by simp) _).alloc (by simp; omega) _).alloc (by simp; omega) _
  have pa := (((Pair.new w (.bool false) (.slice oa la ca) 28).alloc (Obj.cells #[Value.bool false, Value.slice ob lb cb] 28)).alloc (Obj.cells #[Value.bool false, Value.slice none 0 0] 28)).alloc (Obj.cells #[Value.bool false, Value.slice none 0 0] 28)
  have pb := ((Pair.newAt (w.alloc (Obj.cells #[Value.bool false, Value.slice oa la ca] 28)) (w.heap.size + 1) (by simp) (.bool false) (.slice ob lb cb) 28).alloc (Obj.cells #[Value.bool false, Value.slice none 0 0] 28)).alloc (Obj.cells #[Value.bool false, Value.slice none 0 0] 28)
  have p4 := (Pair.newAt ((w.alloc (Obj.cells #[Value.bool false, Value.slice oa la ca] 28)).alloc (Obj.cells #[Value.bool false, Value.slice ob lb cb] 28)) (w.heap.size + 1 + 1) (by simp) (.bool false) (.slice none 0 0) 28).alloc (Obj.cells #[Value.bool false, Value.slice none 0 0] 28)
  have p5 := Pair.newAt (((w.alloc (Obj.cells #[Value.bool false, Value.slice oa la ca] 28)).alloc (Obj.cells #[Value.bool false, Value.slice ob lb cb] 28)).alloc (Obj.cells #[Value.bool false, Value.slice none 0 0] 28)) (w.heap.size + 1 + 1 + 1) (by simp) (.bool false) (.slice none 0 0) 28
  have ax := (((ata.alloc (Obj.cells #[Value.bool false, Value.slice oa la ca] 28)).alloc (Obj.cells #[Value.bool false, Value.slice ob lb cb] 28)).alloc (Obj.cells #[Value.bool false, Value.slice none 0 0] 28)).alloc (Obj.cells #[Value.bool false, Value.slice none 0 0] 28)
  have ay := (((atb.alloc (Obj.cells #[Value.bool false, Value.slice oa la ca] 28)).alloc (Obj.cells #[Value.bool false, Value.slice ob lb cb] 28)).alloc (Obj.cells #[Value.bool false, Value.slice none 0 0] 28)).alloc (Obj.cells #[Value.bool false, Value.slice none 0 0] 28)
  clear ata atb
  generalize ((((w.alloc (Obj.cells #[Value.bool false, Value.slice oa la ca] 28)).alloc (Obj.cells #[Value.bool false, Value.slice ob lb cb] 28)).alloc (Obj.cells #[Value.bool false, Value.slice none 0 0] 28)).alloc (Obj.cells #[Value.bool false, Value.slice none 0 0] 28)) = w0 at *
  have hl4 := p4.lt
  have hl5 := p5.lt
  refine (rdivmod_any oa ob la ca lb cb xa xb _ (by omega) (by omega) hlbc hxa hxb ax ay oka isb.out.1 isb.out.2.1 (by rw [isb.out.2.2]; exact h0.out)).mono ?_
  rintro e w1 ⟨oq, cq, q, ot, ct, t, rfl, hlq, hlt, atq, att, isq, ist, hmq, hmt, hb1⟩
  rw [isb.out.2.2] at isq ist
  replace pa := pa.below hb1 pa.lt
  replace pb := pb.below hb1 pb.lt
  replace p4 := p4.below hb1 p4.lt
  replace p5 := p5.below hb1 p5.lt
  have ay1 := ay.below hb1
  have hbw := hb0.trans (hb1.mono hb0.size)
  have hz1 := hb1.size
  clear ax ay hb1 hb0
  have a0 := pa.cell0; have b0 := pb.cell0; have b1 := pb.cell1
  have e1 := wdiv_plain (na := false) (nb := false) (x := num 65536 xa) (y := B) (by have := h0.out; omega) (.inl rfl)
  have E1 := hide e1
  clear e1 ay1
  go_wp2_with fail
  refine (rmake false oq q.length cq q _ (by omega) rfl atq isq.1).mono ?_
  rintro e w2 ⟨s1, o1, c1, r1, hs1, rfl, hl1, rs1, is1, hm1, hbel⟩
  rw [isq.2.2] at hs1 is1
  replace pa := pa.below hbel pa.lt
  replace pb := pb.below hbel pb.lt
  replace p4 := p4.below hbel p4.lt
  replace p5 := p5.below hbel p5.lt
  replace a0 := pa.cell0
  replace b0 := pb.cell0
  replace b1 := pb.cell1
  have hz2 := hbel.size
  replace hbw := hbw.trans (hbel.mono hbw.size)
  have atR := att.below hbel
  have RS1 := hide rs1
  clear hbel rs1
  go_wp2_with fail
  refine (rmake false ot t.length ct t _ (by omega) rfl atR ist.1).mono ?_
  rintro e w3 ⟨s2, o2, c2, r2, hs2, rfl, hl2, rs2, is2, hm2, hbel⟩
  rw [ist.2.2] at hs2 is2
  replace pa := pa.below hbel pa.lt
  replace pb := pb.below hbel pb.lt
  replace p4 := p4.below hbel p4.lt
  replace p5 := p5.below hbel p5.lt
  replace a0 := pa.cell0
  replace b0 := pb.cell0
  replace b1 := pb.cell1
  have hz3 := hbel.size
  replace hbw := hbw.trans (hbel.mono hbw.size)
  have F1 := hide (RS1.out.below hbel)
  have F2 := hide rs2
  clear hbel rs2 RS1 atR a0 b0 b1 pa pb
  have N1 : Hid (NI32 s1 r1 (zv false (num 65536 xa) / zv false B)) := by show NI32 _ _ _; rw [E1.out.1]; exact NI32.mk hs1 is1
  have N2 : Hid (NI32 s2 r2 (zv false (num 65536 xa) % zv false B)) := by show NI32 _ _ _; rw [E1.out.2]; exact NI32.mk hs2 is2
  have c40 := p4.cell0; have c41 := p4.cell1; have f40 := p4.free 0; have f41 := p4.free 1
  have c50 := p5.cell0; have c51 := p5.cell1; have f50 := p5.free 0; have f51 := p5.free 1
  clear hs1 is1 hs2 is2 isq ist
  go_wp2
  refine bodyPost_ret (results_pairsR rfl _ _ _ _ _ _ _ _ rfl rfl ((p4.put _ _).other (by simp) _ |>.other (by simp) _) ((p5.other (by simp) _ |>.other (by simp) _).put _ _)) rfl ?_
  exact RDWPost.ret (H := w.heap.size + 1 + 1) (K := w.heap.size + 1 + 1 + 1) N1.out N2.out hl1 hl2 (by omega) (by omega) F1.out F2.out ⟨by omega, by omega⟩ ⟨by omega, by omega⟩ (by omega) (by omega) (by omega) (Nat.le_refl _) hbw


set_option maxRecDepth 100000 in
set_option maxHeartbeats 2000000 in
theorem rdivw_ftn (oa ob : Option Addr) (la ca lb cb B : Nat) (xa xb : List Nat) (w : World) (hla : la ≤ 5000000) (hlb : lb ≤ 5000000) (hlbc : lb ≤ cb) (hxa : xa.length = la) (hxb : xb.length = lb) (ata : At .u32 w oa xa) (atb : At .u32 w ob xb) (oka : Ok 65536 xa) (isb : Hid (Is 65536 xb B)) (h0 : Hid (0 < B)) :
    Calls Tryd.prog 23 #[.agg #[.bool false, .slice oa la ca], .agg #[.bool true, .slice ob lb cb]] w (RDWPost w (la + lb + 3) (zv false (num 65536 xa) / zv true B) (zv false (num 65536 xa) % zv true B)) := by
  go_enter Tryd.func23, Tryd.ntmps23
  go_wp2_with fail
  have hb0 : Below w.heap.size w ((((w.alloc (Obj.cells #[Value.bool false, Value.slice oa la ca] 28)).alloc (Obj.cells #[Value.bool true, Value.slice ob lb cb] 28)).alloc (Obj.cells #[Value.bool false, Value.slice none 0 0] 28)).alloc (Obj.cells #[Value.bool false, Value.slice none 0 0] 28)) := ((((Below.refl _ _).alloc (Nat.le_refl _) _).alloc (by simp) _).alloc (by simp; omega) _).alloc (by simp; omega) _
  have pa := (((Pair.new w (.bool false) (.slice oa la ca) 28).alloc (Obj.cells #[Value.bool true, Value.slice ob lb cb] 28)).alloc (Obj.cells #[Value.bool false, Value.slice none 0 0] 28)).alloc (Obj.cells #[Value.bool false, Value.slice none 0 0] 28)
  have pb := ((Pair.newAt (w.alloc (Obj.cells #[Value.bool false, Value.slice oa la ca] 28)) (w.heap.size + 1) (by simp) (.bool true) (.slice ob lb cb) 28).alloc (Obj.cells #[Value.bool false, Value.slice none 0 0] 28)).alloc (Obj.cells #[Value.bool false, Value.slice none 0 0] 28)
  have p4 := (Pair.newAt ((w.alloc (Obj.cells #[Value.bool false, Value.slice oa la ca] 28)).alloc (Obj.cells #[Value.bool true, Value.slice ob lb cb] 28)) (w.heap.size + 1 + 1) (by simp) (.bool false) (.slice none 0 0) 28).alloc (Obj.cells #[Value.bool false, Value.slice none 0 0] 28)
  have p5 := Pair.newAt (((w.alloc (Obj.cells #[Value.bool false, Value.slice oa la ca] 28)).alloc (Obj.cells #[Value.bool true, Value.slice ob lb cb] 28)).alloc (Obj.cells #[Value.bool false, Value.slice none 0 0] 28)) (w.heap.size + 1 + 1 + 1) (by simp) (.bool false) (.slice none 0 0) 28
  have ax := (((ata.alloc (Obj.cells #[Value.bool false, Value.slice oa la ca] 28)).alloc (Obj.cells #[Value.bool true, Value.slice ob lb cb] 28)).alloc (Obj.cells #[Value.bool false, Value.slice none 0 0] 28)).alloc (Obj.cells #[Value.bool false, Value.slice none 0 0] 28)
  have ay := (((atb.alloc (Obj.cells #[Value.bool false, Value.slice oa la ca] 28)).alloc (Obj.cells #[Value.bool true, Value.slice ob lb cb] 28)).alloc (Obj.cells #[Value.bool false, Value.slice none 0 0] 28)).alloc (Obj.cells #[Value.bool false, Value.slice none 0 0] 28)
  clear ata atb
  generalize ((((w.alloc (Obj.cells #[Value.bool false, Value.slice oa la ca] 28)).alloc (Obj.cells #[Value.bool true, Value.slice ob lb cb] 28)).alloc (Obj.cells #[Value.bool false, Value.slice none 0 0] 28)).alloc (Obj.cells #[Value.bool false, Value.slice none 0 0] 28)) = w0 at *
  have hl4 := p4.lt
  have hl5 := p5.lt
  refine (rdivmod_any oa ob la ca lb cb xa xb _ (by omega) (by omega) hlbc hxa hxb ax ay oka isb.out.1 isb.out.2.1 (by rw [isb.out.2.2]; exact h0.out)).mono ?_
  rintro e w1 ⟨oq, cq, q, ot, ct, t, rfl, hlq, hlt, atq, att, isq, ist, hmq, hmt, hb1⟩
  rw [isb.out.2.2] at isq ist
  replace pa := pa.below hb1 pa.lt
  replace pb := pb.below hb1 pb.lt
  replace p4 := p4.below hb1 p4.lt
  replace p5 := p5.below hb1 p5.lt
  have ay1 := ay.below hb1
  have hbw := hb0.trans (hb1.mono hb0.size)
  have hz1 := hb1.size
  clear ax ay hb1 hb0
  have a0 := pa.cell0; have b0 := pb.cell0; have b1 := pb.cell1
  have e1 := wdiv_plain (na := false) (nb := true) (x := num 65536 xa) (y := B) (by have := h0.out; omega) (.inl rfl)
  have E1 := hide e1
  clear e1 ay1
  go_wp2_with fail
  refine (rmake true oq q.length cq q _ (by omega) rfl atq isq.1).mono ?_
  rintro e w2 ⟨s1, o1, c1, r1, hs1, rfl, hl1, rs1, is1, hm1, hbel⟩
  rw [isq.2.2] at hs1 is1
  replace pa := pa.below hbel pa.lt
  replace pb := pb.below hbel pb.lt
  replace p4 := p4.below hbel p4.lt
  replace p5 := p5.below hbel p5.lt
  replace a0 := pa.cell0
  replace b0 := pb.cell0
  replace b1 := pb.cell1
  have hz2 := hbel.size
  replace hbw := hbw.trans (hbel.mono hbw.size)
  have atR := att.below hbel
  have RS1 := hide rs1
  clear hbel rs1
  go_wp2_with fail
  refine (rmake false ot t.length ct t _ (by omega) rfl atR ist.1).mono ?_
  rintro e w3 ⟨s2, o2, c2, r2, hs2, rfl, hl2, rs2, is2, hm2, hbel⟩
  rw [ist.2.2] at hs2 is2
  replace pa := pa.below hbel pa.lt
  replace pb := pb.below hbel pb.lt
  replace p4 := p4.below hbel p4.lt
  replace p5 := p5.below hbel p5.lt
  replace a0 := pa.cell0
  replace b0 := pb.cell0
  replace b1 := pb.cell1
  have hz3 := hbel.size
  replace hbw := hbw.trans (hbel.mono hbw.size)
  have F1 := hide (RS1.out.below hbel)
  have F2 := hide rs2
  clear hbel rs2 RS1 atR a0 b0 b1 pa pb
  have N1 : Hid (NI32 s1 r1 (zv false (num 65536 xa) / zv true B)) := by show NI32 _ _ _; rw [E1.out.1]; exact NI32.mk hs1 is1
  have N2 : Hid (NI32 s2 r2 (zv false (num 65536 xa) % zv true B)) := by show NI32 _ _ _; rw [E1.out.2]; exact NI32.mk hs2 is2
  have c40 := p4.cell0; have c41 := p4.cell1; have f40 := p4.free 0; have f41 := p4.free 1
  have c50 := p5.cell0; have c51 := p5.cell1; have f50 := p5.free 0; have f51 := p5.free 1
  clear hs1 is1 hs2 is2 isq ist
  go_wp2
  refine bodyPost_ret (results_pairsR rfl _ _ _ _ _ _ _ _ rfl rfl ((p4.put _ _).other (by simp) _ |>.other (by simp) _) ((p5.other (by simp) _ |>.other (by simp) _).put _ _)) rfl ?_
  exact RDWPost.ret (H := w.heap.size + 1 + 1) (K := w.heap.size + 1 + 1 + 1) N1.out N2.out hl1 hl2 (by omega) (by omega) F1.out F2.out ⟨by omega, by omega⟩ ⟨by omega, by omega⟩ (by omega) (by omega) (by omega) (Nat.le_refl _) hbw


set_option maxRecDepth 100000 in
set_option maxHeartbeats 2000000 in
theorem rdivw_tfn (oa ob : Option Addr) (la ca lb cb B : Nat) (xa xb : List Nat) (w : World) (hla : la ≤ 5000000) (hlb : lb ≤ 5000000) (hlbc : lb ≤ cb) (hxa : xa.length = la) (hxb : xb.length = lb) (ata : At .u32 w oa xa) (atb : At .u32 w ob xb) (oka : Ok 65536 xa) (isb : Hid (Is 65536 xb B)) (h0 : Hid (0 < B)) (hr : Hid (num 65536 xa % B = 0)) :
    Calls Tryd.prog 23 #[.agg #[.bool true, .slice oa la ca], .agg #[.bool false, .slice ob lb cb]] w (RDWPost w (la + lb + 3) (zv true (num 65536 xa) / zv false B) (zv true (num 65536 xa) % zv false B)) := by
  go_enter Tryd.func23, Tryd.ntmps23
  go_wp2_with fail
  have hb0 : Below w.heap.size w ((((w.alloc (Obj.cells #[Value.bool true, Value.slice oa la ca] 28)).alloc (Obj.cells #[Value.bool false, Value.slice ob lb cb] 28)).alloc (Obj.cells #[Value.bool false, Value.slice none 0 0] 28)).alloc (Obj.cells #[Value.bool false, Value.slice none 0 0] 28)) := ((((Below.refl _ _).alloc (Nat.le_refl _) _).alloc (by simp) _).alloc (by simp; omega) _).alloc (by simp; omega) _
  have pa := (((Pair.new w (.bool true) (.slice oa la ca) 28).alloc (Obj.cells #[Value.bool false, Value.slice ob lb cb] 28)).alloc (Obj.cells #[Value.bool false, Value.slice none 0 0] 28)).alloc (Obj.cells #[Value.bool false, Value.slice none 0 0] 28)
  have pb := ((Pair.newAt (w.alloc (Obj.cells #[Value.bool true, Value.slice oa la ca] 28)) (w.heap.size + 1) (by simp) (.bool false) (.slice ob lb cb) 28).alloc (Obj.cells #[Value.bool false, Value.slice none 0 0] 28)).alloc (Obj.cells #[Value.bool false, Value.slice none 0 0] 28)
  have p4 := (Pair.newAt ((w.alloc (Obj.cells #[Value.bool true, Value.slice oa la ca] 28)).alloc (Obj.cells #[Value.bool false, Value.slice ob lb cb] 28)) (w.heap.size + 1 + 1) (by simp) (.bool false) (.slice none 0 0) 28).alloc (Obj.cells #[Value.bool false, Value.slice none 0 0] 28)
  have p5 := Pair.newAt (((w.alloc (Obj.cells #[Value.bool true, Value.slice oa la ca] 28)).alloc (Obj.cells #[Value.bool false, Value.slice ob lb cb] 28)).alloc (Obj.cells #[Value.bool false, Value.slice none 0 0] 28)) (w.heap.size + 1 + 1 + 1) (by simp) (.bool false) (.slice none 0 0) 28
  have ax := (((ata.alloc (Obj.cells #[Value.bool true, Value.slice oa la ca] 28)).alloc (Obj.cells #[Value.bool false, Value.slice ob lb cb] 28)).alloc (Obj.cells #[Value.bool false, Value.slice none 0 0] 28)).alloc (Obj.cells #[Value.bool false, Value.slice none 0 0] 28)
  have ay := (((atb.alloc (Obj.cells #[Value.bool true, Value.slice oa la ca] 28)).alloc (Obj.cells #[Value.bool false, Value.slice ob lb cb] 28)).alloc (Obj.cells #[Value.bool false, Value.slice none 0 0] 28)).alloc (Obj.cells #[Value.bool false, Value.slice none 0 0] 28)
  clear ata atb
  generalize ((((w.alloc (Obj.cells #[Value.bool true, Value.slice oa la ca] 28)).alloc (Obj.cells #[Value.bool false, Value.slice ob lb cb] 28)).alloc (Obj.cells #[Value.bool false, Value.slice none 0 0] 28)).alloc (Obj.cells #[Value.bool false, Value.slice none 0 0] 28)) = w0 at *
  have hl4 := p4.lt
  have hl5 := p5.lt
  refine (rdivmod_any oa ob la ca lb cb xa xb _ (by omega) (by omega) hlbc hxa hxb ax ay oka isb.out.1 isb.out.2.1 (by rw [isb.out.2.2]; exact h0.out)).mono ?_
  rintro e w1 ⟨oq, cq, q, ot, ct, t, rfl, hlq, hlt, atq, att, isq, ist, hmq, hmt, hb1⟩
  rw [isb.out.2.2] at isq ist
  replace pa := pa.below hb1 pa.lt
  replace pb := pb.below hb1 pb.lt
  replace p4 := p4.below hb1 p4.lt
  replace p5 := p5.below hb1 p5.lt
  have ay1 := ay.below hb1
  have hbw := hb0.trans (hb1.mono hb0.size)
  have hz1 := hb1.size
  clear ax ay hb1 hb0
  have a0 := pa.cell0; have b0 := pb.cell0; have b1 := pb.cell1
  have e1 := wdiv_plain (na := true) (nb := false) (x := num 65536 xa) (y := B) (by have := h0.out; omega) (.inr hr.out)
  have ht0 : t.length = 0 := by rw [hr.out] at ist; rw [num_zero (by omega) ist.2.1 ist.2.2]; rfl
  have E1 := hide e1
  clear e1 ay1
  go_wp2_with fail
  refine (rmake true oq q.length cq q _ (by omega) rfl atq isq.1).mono ?_
  rintro e w2 ⟨s1, o1, c1, r1, hs1, rfl, hl1, rs1, is1, hm1, hbel⟩
  rw [isq.2.2] at hs1 is1
  replace pa := pa.below hbel pa.lt
  replace pb := pb.below hbel pb.lt
  replace p4 := p4.below hbel p4.lt
  replace p5 := p5.below hbel p5.lt
  replace a0 := pa.cell0
  replace b0 := pb.cell0
  replace b1 := pb.cell1
  have hz2 := hbel.size
  replace hbw := hbw.trans (hbel.mono hbw.size)
  have atR := att.below hbel
  have RS1 := hide rs1
  clear hbel rs1
  go_wp2_with fail
  refine (rmake false ot 0 ct t _ (by omega) ht0 atR ist.1).mono ?_
  rintro e w3 ⟨s2, o2, c2, r2, hs2, rfl, hl2, rs2, is2, hm2, hbel⟩
  rw [ist.2.2] at hs2 is2
  replace pa := pa.below hbel pa.lt
  replace pb := pb.below hbel pb.lt
  replace p4 := p4.below hbel p4.lt
  replace p5 := p5.below hbel p5.lt
  replace a0 := pa.cell0
  replace b0 := pb.cell0
  replace b1 := pb.cell1
  have hz3 := hbel.size
  replace hbw := hbw.trans (hbel.mono hbw.size)
  have F1 := hide (RS1.out.below hbel)
  have F2 := hide rs2
  clear hbel rs2 RS1 atR a0 b0 b1 pa pb
  have N1 : Hid (NI32 s1 r1 (zv true (num 65536 xa) / zv false B)) := by show NI32 _ _ _; rw [E1.out.1]; exact NI32.mk hs1 is1
  have N2 : Hid (NI32 s2 r2 (zv true (num 65536 xa) % zv false B)) := by show NI32 _ _ _; rw [E1.out.2]; exact NI32.mk hs2 is2
  have c40 := p4.cell0; have c41 := p4.cell1; have f40 := p4.free 0; have f41 := p4.free 1
  have c50 := p5.cell0; have c51 := p5.cell1; have f50 := p5.free 0; have f51 := p5.free 1
  clear hs1 is1 hs2 is2 isq ist
  go_wp2
  refine bodyPost_ret (results_pairsR rfl _ _ _ _ _ _ _ _ rfl rfl ((p4.put _ _).other (by simp) _ |>.other (by simp) _) ((p5.other (by simp) _ |>.other (by simp) _).put _ _)) rfl ?_
  exact RDWPost.ret (H := w.heap.size + 1 + 1) (K := w.heap.size + 1 + 1 + 1) N1.out N2.out hl1 hl2 (by omega) (by omega) F1.out F2.out ⟨by omega, by omega⟩ ⟨by omega, by omega⟩ (by omega) (by omega) (by omega) (Nat.le_refl _) hbw


set_option maxRecDepth 100000 in
set_option maxHeartbeats 2000000 in
theorem rdivw_tfs (oa ob : Option Addr) (la ca lb cb B : Nat) (xa xb : List Nat) (w : World) (hla : la ≤ 5000000) (hlb : lb ≤ 5000000) (hlbc : lb ≤ cb) (hxa : xa.length = la) (hxb : xb.length = lb) (ata : At .u32 w oa xa) (atb : At .u32 w ob xb) (oka : Ok 65536 xa) (isb : Hid (Is 65536 xb B)) (h0 : Hid (0 < B)) (hr : Hid (num 65536 xa % B ≠ 0)) :
    Calls Tryd.prog 23 #[.agg #[.bool true, .slice oa la ca], .agg #[.bool false, .slice ob lb cb]] w (RDWPost w (la + lb + 3) (zv true (num 65536 xa) / zv false B) (zv true (num 65536 xa) % zv false B)) := by
  go_enter Tryd.func23, Tryd.ntmps23
  go_wp2_with fail
  have hb0 : Below w.heap.size w ((((w.alloc (Obj.cells #[Value.bool true, Value.slice oa la ca] 28)).alloc (Obj.cells #[Value.bool false, Value.slice ob lb cb] 28)).alloc (Obj.cells #[Value.bool false, Value.slice none 0 0] 28)).alloc (Obj.cells #[Value.bool false, Value.slice none 0 0] 28)) := ((((Below.refl _ _).alloc (Nat.le_refl _) _).alloc (by simp) _).alloc (by simp; omega) _).alloc (by simp; omega) _
  have pa := (((Pair.new w (.bool true) (.slice oa la ca) 28).alloc (Obj.cells #[Value.bool false, Value.slice ob lb cb] 28)).alloc (Obj.cells #[Value.bool false, Value.slice none 0 0] 28)).alloc (Obj.cells #[Value.bool false, Value.slice none 0 0] 28)
  have pb := ((Pair.newAt (w.alloc (Obj.cells #[Value.bool true, Value.slice oa la ca] 28)) (w.heap.size + 1) (by simp) (.bool false) (.slice ob lb cb) 28).alloc (Obj.cells #[Value.bool false, Value.slice none 0 0] 28)).alloc (Obj.cells #[Value.bool false, Value.slice none 0 0] 28)
  have p4 := (Pair.newAt ((w.alloc (Obj.cells #[Value.bool true, Value.slice oa la ca] 28)).alloc (Obj.cells #[Value.bool false, Value.slice ob lb cb] 28)) (w.heap.size + 1 + 1) (by simp) (.bool false) (.slice none 0 0) 28).alloc (Obj.cells #[Value.bool false, Value.slice none 0 0] 28)
  have p5 := Pair.newAt (((w.alloc (Obj.cells #[Value.bool true, Value.slice oa la ca] 28)).alloc (Obj.cells #[Value.bool false, Value.slice ob lb cb] 28)).alloc (Obj.cells #[Value.bool false, Value.slice none 0 0] 28)) (w.heap.size + 1 + 1 + 1) (by simp) (.bool false) (.slice none 0 0) 28
  have ax := (((ata.alloc (Obj.cells #[Value.bool true, Value.slice oa la ca] 28)).alloc (Obj.cells #[Value.bool false, Value.slice ob lb cb] 28)).alloc (Obj.cells #[Value.bool false, Value.slice none 0 0] 28)).alloc (Obj.cells #[Value.bool false, Value.slice none 0 0] 28)
  have ay := (((atb.alloc (Obj.cells #[Value.bool true, Value.slice oa la ca] 28)).alloc (Obj.cells #[Value.bool false, Value.slice ob lb cb] 28)).alloc (Obj.cells #[Value.bool false, Value.slice none 0 0] 28)).alloc (Obj.cells #[Value.bool false, Value.slice none 0 0] 28)
  clear ata atb
  generalize ((((w.alloc (Obj.cells #[Value.bool true, Value.slice oa la ca] 28)).alloc (Obj.cells #[Value.bool false, Value.slice ob lb cb] 28)).alloc (Obj.cells #[Value.bool false, Value.slice none 0 0] 28)).alloc (Obj.cells #[Value.bool false, Value.slice none 0 0] 28)) = w0 at *
  have hl4 := p4.lt
  have hl5 := p5.lt
  refine (rdivmod_any oa ob la ca lb cb xa xb _ (by omega) (by omega) hlbc hxa hxb ax ay oka isb.out.1 isb.out.2.1 (by rw [isb.out.2.2]; exact h0.out)).mono ?_
  rintro e w1 ⟨oq, cq, q, ot, ct, t, rfl, hlq, hlt, atq, att, isq, ist, hmq, hmt, hb1⟩
  rw [isb.out.2.2] at isq ist
  replace pa := pa.below hb1 pa.lt
  replace pb := pb.below hb1 pb.lt
  replace p4 := p4.below hb1 p4.lt
  replace p5 := p5.below hb1 p5.lt
  have ay1 := ay.below hb1
  have hbw := hb0.trans (hb1.mono hb0.size)
  have hz1 := hb1.size
  clear ax ay hb1 hb0
  have a0 := pa.cell0; have b0 := pb.cell0; have b1 := pb.cell1
  have e1 := wdiv_left (nb := false) (x := num 65536 xa) (y := B) (by have := h0.out; omega) hr.out
  have htl : 0 < t.length := by
    rcases Nat.eq_zero_or_pos t.length with h | h
    · rw [List.length_eq_zero_iff.1 h] at ist; exact absurd ist.2.2.symm hr.out
    · exact h
  have htl' : (0 : Int) < (t.length : Int) := by omega
  have htb : t.length ≤ lb := hmt
  have E1 := hide e1
  have HLE : Hid (num 65536 xa % B ≤ B) := Nat.le_of_lt (Nat.mod_lt _ h0.out)
  clear e1
  go_wp2_with fail
  replace pa := pa.alloc (Obj.cells #[Value.int IntKind.u32 1] 73)
  replace pb := pb.alloc (Obj.cells #[Value.int IntKind.u32 1] 73)
  replace p4 := p4.alloc (Obj.cells #[Value.int IntKind.u32 1] 73)
  replace p5 := p5.alloc (Obj.cells #[Value.int IntKind.u32 1] 73)
  have aq := atq.alloc (Obj.cells #[Value.int IntKind.u32 1] 73)
  have at' := att.alloc (Obj.cells #[Value.int IntKind.u32 1] 73)
  have ay2 := ay1.alloc (Obj.cells #[Value.int IntKind.u32 1] 73)
  replace hbw := hbw.alloc hbw.size (Obj.cells #[Value.int IntKind.u32 1] 73)
  clear atq att ay1
  have hza : (w1.alloc (Obj.cells #[Value.int IntKind.u32 1] 73)).heap.size = w1.heap.size + 1 := by simp
  refine (radd_any oq (some ⟨w1.heap.size, 0, none⟩) q.length cq 1 1 q [1] _ (by omega) (by omega) rfl rfl aq (lit32 w1) isq.1 ok1).mono ?_
  rintro e w2 ⟨o5, c5, y5, rfl, hl5', at5, is5, hm5, hbel⟩
  rw [isq.2.2, show num 65536 [1] = 1 from rfl] at is5
  replace pa := pa.below hbel pa.lt
  replace pb := pb.below hbel pb.lt
  replace p4 := p4.below hbel p4.lt
  replace p5 := p5.below hbel p5.lt
  replace a0 := pa.cell0
  replace b0 := pb.cell0
  replace b1 := pb.cell1
  have hz2 := hbel.size
  replace hbw := hbw.trans (hbel.mono hbw.size)
  have att := at'.below hbel
  have ay3 := ay2.below hbel
  clear hbel aq at' ay2
  go_wp2_with fail
  refine (rsub_any ob ot lb cb t.length ct xb t _ (by omega) htb hxb rfl ay3 att isb.out.1 ist.1 (by rw [isb.out.2.2, ist.2.2]; exact HLE.out)).mono ?_
  rintro e w3 ⟨o6, c6, y6, rfl, hl6, at6, is6, hm6, hbel⟩
  rw [isb.out.2.2, ist.2.2] at is6
  replace pa := pa.below hbel pa.lt
  replace pb := pb.below hbel pb.lt
  replace p4 := p4.below hbel p4.lt
  replace p5 := p5.below hbel p5.lt
  replace a0 := pa.cell0
  replace b0 := pb.cell0
  replace b1 := pb.cell1
  have hz3 := hbel.size
  replace hbw := hbw.trans (hbel.mono hbw.size)
  have at5' := at5.below hbel
  clear hbel at5 att ay3
  go_wp2_with fail
  refine (rmake true o5 y5.length c5 y5 _ (by omega) rfl at5' is5.1).mono ?_
  rintro e w4 ⟨s1, o1, c1, r1, hs1, rfl, hl1, rs1, is1, hm1, hbel⟩
  rw [is5.2.2] at hs1 is1
  replace pa := pa.below hbel pa.lt
  replace pb := pb.below hbel pb.lt
  replace p4 := p4.below hbel p4.lt
  replace p5 := p5.below hbel p5.lt
  replace a0 := pa.cell0
  replace b0 := pb.cell0
  replace b1 := pb.cell1
  have hz4 := hbel.size
  replace hbw := hbw.trans (hbel.mono hbw.size)
  have atR := at6.below hbel
  have RS1 := hide rs1
  clear hbel rs1
  go_wp2_with fail
  refine (rmake false o6 y6.length c6 y6 _ (by omega) rfl atR is6.1).mono ?_
  rintro e w5 ⟨s2, o2, c2, r2, hs2, rfl, hl2, rs2, is2, hm2, hbel⟩
  rw [is6.2.2] at hs2 is2
  replace pa := pa.below hbel pa.lt
  replace pb := pb.below hbel pb.lt
  replace p4 := p4.below hbel p4.lt
  replace p5 := p5.below hbel p5.lt
  replace a0 := pa.cell0
  replace b0 := pb.cell0
  replace b1 := pb.cell1
  have hz5 := hbel.size
  replace hbw := hbw.trans (hbel.mono hbw.size)
  have F1 := hide (RS1.out.below hbel)
  have F2 := hide rs2
  clear hbel rs2 RS1 atR a0 b0 b1 pa pb
  have N1 : Hid (NI32 s1 r1 (zv true (num 65536 xa) / zv false B)) := by show NI32 _ _ _; rw [E1.out.1]; exact NI32.mk hs1 is1
  have N2 : Hid (NI32 s2 r2 (zv true (num 65536 xa) % zv false B)) := by show NI32 _ _ _; rw [E1.out.2]; exact NI32.mk hs2 is2
  have c40 := p4.cell0; have c41 := p4.cell1; have f40 := p4.free 0; have f41 := p4.free 1
  have c50 := p5.cell0; have c51 := p5.cell1; have f50 := p5.free 0; have f51 := p5.free 1
  clear hs1 is1 hs2 is2 isq ist
  go_wp2
  refine bodyPost_ret (results_pairsR rfl _ _ _ _ _ _ _ _ rfl rfl ((p4.put _ _).other (by simp) _ |>.other (by simp) _) ((p5.other (by simp) _ |>.other (by simp) _).put _ _)) rfl ?_
  exact RDWPost.ret (H := w.heap.size + 1 + 1) (K := w.heap.size + 1 + 1 + 1) N1.out N2.out hl1 hl2 (by omega) (by omega) F1.out F2.out ⟨by omega, by omega⟩ ⟨by omega, by omega⟩ (by omega) (by omega) (by omega) (Nat.le_refl _) hbw


set_option maxRecDepth 100000 in
set_option maxHeartbeats 2000000 in
theorem rdivw_ttn (oa ob : Option Addr) (la ca lb cb B : Nat) (xa xb : List Nat) (w : World) (hla : la ≤ 5000000) (hlb : lb ≤ 5000000) (hlbc : lb ≤ cb) (hxa : xa.length = la) (hxb : xb.length = lb) (ata : At .u32 w oa xa) (atb : At .u32 w ob xb) (oka : Ok 65536 xa) (isb : Hid (Is 65536 xb B)) (h0 : Hid (0 < B)) (hr : Hid (num 65536 xa % B = 0)) :
    Calls Tryd.prog 23 #[.agg #[.bool true, .slice oa la ca], .agg #[.bool true, .slice ob lb cb]] w (RDWPost w (la + lb + 3) (zv true (num 65536 xa) / zv true B) (zv true (num 65536 xa) % zv true B)) := by
  go_enter Tryd.func23, Tryd.ntmps23
  go_wp2_with fail
  have hb0 : Below w.heap.size w ((((w.alloc (Obj.cells #[Value.bool true, Value.slice oa la ca] 28)).alloc (Obj.cells #[Value.bool true, Value.slice ob lb cb] 28)).alloc (Obj.cells #[Value.bool false, Value.slice none 0 0] 28)).alloc (Obj.cells #[Value.bool false, Value.slice none 0 0] 28)) := ((((Below.refl _ _).alloc (Nat.le_refl _) _).alloc (by simp) _).alloc (by simp; omega) _).alloc (by simp; omega) _
  have pa := (((Pair.new w (.bool true) (.slice oa la ca) 28).alloc (Obj.cells #[Value.bool true, Value.slice ob lb cb] 28)).alloc (Obj.cells #[Value.bool false, Value.slice none 0 0] 28)).alloc (Obj.cells #[Value.bool false, Value.slice none 0 0] 28)
  have pb := ((Pair.newAt (w.alloc (Obj.cells #[Value.bool true, Value.slice oa la ca] 28)) (w.heap.size + 1) (by simp) (.bool true) (.slice ob lb cb) 28).alloc (Obj.cells #[Value.bool false, Value.slice none 0 0] 28)).alloc (Obj.cells #[Value.bool false, Value.slice none 0 0] 28)
  have p4 := (Pair.newAt ((w.alloc (Obj.cells #[Value.bool true, Value.slice oa la ca] 28)).alloc (Obj.cells #[Value.bool true, Value.slice ob lb cb] 28)) (w.heap.size + 1 + 1) (by simp) (.bool false) (.slice none 0 0) 28).alloc (Obj.cells #[Value.bool false, Value.slice none 0 0] 28)
  have p5 := Pair.newAt (((w.alloc (Obj.cells #[Value.bool true, Value.slice oa la ca] 28)).alloc (Obj.cells #[Value.bool true, Value.slice ob lb cb] 28)).alloc (Obj.cells #[Value.bool false, Value.slice none 0 0] 28)) (w.heap.size + 1 + 1 + 1) (by simp) (.bool false) (.slice none 0 0) 28
  have ax := (((ata.alloc (Obj.cells #[Value.bool true, Value.slice oa la ca] 28)).alloc (Obj.cells #[Value.bool true, Value.slice ob lb cb] 28)).alloc (Obj.cells #[Value.bool false, Value.slice none 0 0] 28)).alloc (Obj.cells #[Value.bool false, Value.slice none 0 0] 28)
  have ay := (((atb.alloc (Obj.cells #[Value.bool true, Value.slice oa la ca] 28)).alloc (Obj.cells #[Value.bool true, Value.slice ob lb cb] 28)).alloc (Obj.cells #[Value.bool false, Value.slice none 0 0] 28)).alloc (Obj.cells #[Value.bool false, Value.slice none 0 0] 28)
  clear ata atb
  generalize ((((w.alloc (Obj.cells #[Value.bool true, Value.slice oa la ca] 28)).alloc (Obj.cells #[Value.bool true, Value.slice ob lb cb] 28)).alloc (Obj.cells #[Value.bool false, Value.slice none 0 0] 28)).alloc (Obj.cells #[Value.bool false, Value.slice none 0 0] 28)) = w0 at *
  have hl4 := p4.lt
  have hl5 := p5.lt
  refine (rdivmod_any oa ob la ca lb cb xa xb _ (by omega) (by omega) hlbc hxa hxb ax ay oka isb.out.1 isb.out.2.1 (by rw [isb.out.2.2]; exact h0.out)).mono ?_
  rintro e w1 ⟨oq, cq, q, ot, ct, t, rfl, hlq, hlt, atq, att, isq, ist, hmq, hmt, hb1⟩
  rw [isb.out.2.2] at isq ist
  replace pa := pa.below hb1 pa.lt
  replace pb := pb.below hb1 pb.lt
  replace p4 := p4.below hb1 p4.lt
  replace p5 := p5.below hb1 p5.lt
  have ay1 := ay.below hb1
  have hbw := hb0.trans (hb1.mono hb0.size)
  have hz1 := hb1.size
  clear ax ay hb1 hb0
  have a0 := pa.cell0; have b0 := pb.cell0; have b1 := pb.cell1
  have e1 := wdiv_plain (na := true) (nb := true) (x := num 65536 xa) (y := B) (by have := h0.out; omega) (.inr hr.out)
  have ht0 : t.length = 0 := by rw [hr.out] at ist; rw [num_zero (by omega) ist.2.1 ist.2.2]; rfl
  have E1 := hide e1
  clear e1 ay1
  go_wp2_with fail
  refine (rmake false oq q.length cq q _ (by omega) rfl atq isq.1).mono ?_
  rintro e w2 ⟨s1, o1, c1, r1, hs1, rfl, hl1, rs1, is1, hm1, hbel⟩
  rw [isq.2.2] at hs1 is1
  replace pa := pa.below hbel pa.lt
  replace pb := pb.below hbel pb.lt
  replace p4 := p4.below hbel p4.lt
  replace p5 := p5.below hbel p5.lt
  replace a0 := pa.cell0
  replace b0 := pb.cell0
  replace b1 := pb.cell1
  have hz2 := hbel.size
  replace hbw := hbw.trans (hbel.mono hbw.size)
  have atR := att.below hbel
  have RS1 := hide rs1
  clear hbel rs1
  go_wp2_with fail
  refine (rmake false ot 0 ct t _ (by omega) ht0 atR ist.1).mono ?_
  rintro e w3 ⟨s2, o2, c2, r2, hs2, rfl, hl2, rs2, is2, hm2, hbel⟩
  rw [ist.2.2] at hs2 is2
  replace pa := pa.below hbel pa.lt
  replace pb := pb.below hbel pb.lt
  replace p4 := p4.below hbel p4.lt
  replace p5 := p5.below hbel p5.lt
  replace a0 := pa.cell0
  replace b0 := pb.cell0
  replace b1 := pb.cell1
  have hz3 := hbel.size
  replace hbw := hbw.trans (hbel.mono hbw.size)
  have F1 := hide (RS1.out.below hbel)
  have F2 := hide rs2
  clear hbel rs2 RS1 atR a0 b0 b1 pa pb
  have N1 : Hid (NI32 s1 r1 (zv true (num 65536 xa) / zv true B)) := by show NI32 _ _ _; rw [E1.out.1]; exact NI32.mk hs1 is1
  have N2 : Hid (NI32 s2 r2 (zv true (num 65536 xa) % zv true B)) := by show NI32 _ _ _; rw [E1.out.2]; exact NI32.mk hs2 is2
  have c40 := p4.cell0; have c41 := p4.cell1; have f40 := p4.free 0; have f41 := p4.free 1
  have c50 := p5.cell0; have c51 := p5.cell1; have f50 := p5.free 0; have f51 := p5.free 1
  clear hs1 is1 hs2 is2 isq ist
  go_wp2
  refine bodyPost_ret (results_pairsR rfl _ _ _ _ _ _ _ _ rfl rfl ((p4.put _ _).other (by simp) _ |>.other (by simp) _) ((p5.other (by simp) _ |>.other (by simp) _).put _ _)) rfl ?_
  exact RDWPost.ret (H := w.heap.size + 1 + 1) (K := w.heap.size + 1 + 1 + 1) N1.out N2.out hl1 hl2 (by omega) (by omega) F1.out F2.out ⟨by omega, by omega⟩ ⟨by omega, by omega⟩ (by omega) (by omega) (by omega) (Nat.le_refl _) hbw


set_option maxRecDepth 100000 in
set_option maxHeartbeats 2000000 in
theorem rdivw_tts (oa ob : Option Addr) (la ca lb cb B : Nat) (xa xb : List Nat) (w : World) (hla : la ≤ 5000000) (hlb : lb ≤ 5000000) (hlbc : lb ≤ cb) (hxa : xa.length = la) (hxb : xb.length = lb) (ata : At .u32 w oa xa) (atb : At .u32 w ob xb) (oka : Ok 65536 xa) (isb : Hid (Is 65536 xb B)) (h0 : Hid (0 < B)) (hr : Hid (num 65536 xa % B ≠ 0)) :
    Calls Tryd.prog 23 #[.agg #[.bool true, .slice oa la ca], .agg #[.bool true, .slice ob lb cb]] w (RDWPost w (la + lb + 3) (zv true (num 65536 xa) / zv true B) (zv true (num 65536 xa) % zv true B)) := by
  go_enter Tryd.func23, Tryd.ntmps23
  go_wp2_with fail
  have hb0 : Below w.heap.size w ((((w.alloc (Obj.cells #[Value.bool true, Value.slice oa la ca] 28)).alloc (Obj.cells #[Value.bool true, Value.slice ob lb cb] 28)).alloc (Obj.cells #[Value.bool false, Value.slice none 0 0] 28)).alloc (Obj.cells #[Value.bool false, Value.slice none 0 0] 28)) := ((((Below.refl _ _).alloc (Nat.le_refl _) _).alloc (by simp) _).alloc (by simp; omega) _).alloc (by simp; omega) _
  have pa := (((Pair.new w (.bool true) (.slice oa la ca) 28).alloc (Obj.cells #[Value.bool true, Value.slice ob lb cb] 28)).alloc (Obj.cells #[Value.bool false, Value.slice none 0 0] 28)).alloc (Obj.cells #[Value.bool false, Value.slice none 0 0] 28)
  have pb := ((Pair.newAt (w.alloc (Obj.cells #[Value.bool true, Value.slice oa la ca] 28)) (w.heap.size + 1) (by simp) (.bool true) (.slice ob lb cb) 28).alloc (Obj.cells #[Value.bool false, Value.slice none 0 0] 28)).alloc (Obj.cells #[Value.bool false, Value.slice none 0 0] 28)
  have p4 := (Pair.newAt ((w.alloc (Obj.cells #[Value.bool true, Value.slice oa la ca] 28)).alloc (Obj.cells #[Value.bool true, Value.slice ob lb cb] 28)) (w.heap.size + 1 + 1) (by simp) (.bool false) (.slice none 0 0) 28).alloc (Obj.cells #[Value.bool false, Value.slice none 0 0] 28)
  have p5 := Pair.newAt (((w.alloc (Obj.cells #[Value.bool true, Value.slice oa la ca] 28)).alloc (Obj.cells #[Value.bool true, Value.slice ob lb cb] 28)).alloc (Obj.cells #[Value.bool false, Value.slice none 0 0] 28)) (w.heap.size + 1 + 1 + 1) (by simp) (.bool false) (.slice none 0 0) 28
  have ax := (((ata.alloc (Obj.cells #[Value.bool true, Value.slice oa la ca] 28)).alloc (Obj.cells #[Value.bool true, Value.slice ob lb cb] 28)).alloc (Obj.cells #[Value.bool false, Value.slice none 0 0] 28)).alloc (Obj.cells #[Value.bool false, Value.slice none 0 0] 28)
  have ay := (((atb.alloc (Obj.cells #[Value.bool true, Value.slice oa la ca] 28)).alloc (Obj.cells #[Value.bool true, Value.slice ob lb cb] 28)).alloc (Obj.cells #[Value.bool false, Value.slice none 0 0] 28)).alloc (Obj.cells #[Value.bool false, Value.slice none 0 0] 28)
  clear ata atb
  generalize ((((w.alloc (Obj.cells #[Value.bool true, Value.slice oa la ca] 28)).alloc (Obj.cells #[Value.bool true, Value.slice ob lb cb] 28)).alloc (Obj.cells #[Value.bool false, Value.slice none 0 0] 28)).alloc (Obj.cells #[Value.bool false, Value.slice none 0 0] 28)) = w0 at *
  have hl4 := p4.lt
  have hl5 := p5.lt
  refine (rdivmod_any oa ob la ca lb cb xa xb _ (by omega) (by omega) hlbc hxa hxb ax ay oka isb.out.1 isb.out.2.1 (by rw [isb.out.2.2]; exact h0.out)).mono ?_
  rintro e w1 ⟨oq, cq, q, ot, ct, t, rfl, hlq, hlt, atq, att, isq, ist, hmq, hmt, hb1⟩
  rw [isb.out.2.2] at isq ist
  replace pa := pa.below hb1 pa.lt
  replace pb := pb.below hb1 pb.lt
  replace p4 := p4.below hb1 p4.lt
  replace p5 := p5.below hb1 p5.lt
  have ay1 := ay.below hb1
  have hbw := hb0.trans (hb1.mono hb0.size)
  have hz1 := hb1.size
  clear ax ay hb1 hb0
  have a0 := pa.cell0; have b0 := pb.cell0; have b1 := pb.cell1
  have e1 := wdiv_left (nb := true) (x := num 65536 xa) (y := B) (by have := h0.out; omega) hr.out
  have htl : 0 < t.length := by
    rcases Nat.eq_zero_or_pos t.length with h | h
    · rw [List.length_eq_zero_iff.1 h] at ist; exact absurd ist.2.2.symm hr.out
    · exact h
  have htl' : (0 : Int) < (t.length : Int) := by omega
  have htb : t.length ≤ lb := hmt
  have E1 := hide e1
  have HLE : Hid (num 65536 xa % B ≤ B) := Nat.le_of_lt (Nat.mod_lt _ h0.out)
  clear e1
  go_wp2_with fail
  replace pa := pa.alloc (Obj.cells #[Value.int IntKind.u32 1] 73)
  replace pb := pb.alloc (Obj.cells #[Value.int IntKind.u32 1] 73)
  replace p4 := p4.alloc (Obj.cells #[Value.int IntKind.u32 1] 73)
  replace p5 := p5.alloc (Obj.cells #[Value.int IntKind.u32 1] 73)
  have aq := atq.alloc (Obj.cells #[Value.int IntKind.u32 1] 73)
  have at' := att.alloc (Obj.cells #[Value.int IntKind.u32 1] 73)
  have ay2 := ay1.alloc (Obj.cells #[Value.int IntKind.u32 1] 73)
  replace hbw := hbw.alloc hbw.size (Obj.cells #[Value.int IntKind.u32 1] 73)
  clear atq att ay1
  have hza : (w1.alloc (Obj.cells #[Value.int IntKind.u32 1] 73)).heap.size = w1.heap.size + 1 := by simp
  refine (radd_any oq (some ⟨w1.heap.size, 0, none⟩) q.length cq 1 1 q [1] _ (by omega) (by omega) rfl rfl aq (lit32 w1) isq.1 ok1).mono ?_
  rintro e w2 ⟨o5, c5, y5, rfl, hl5', at5, is5, hm5, hbel⟩
  rw [isq.2.2, show num 65536 [1] = 1 from rfl] at is5
  replace pa := pa.below hbel pa.lt
  replace pb := pb.below hbel pb.lt
  replace p4 := p4.below hbel p4.lt
  replace p5 := p5.below hbel p5.lt
  replace a0 := pa.cell0
  replace b0 := pb.cell0
  replace b1 := pb.cell1
  have hz2 := hbel.size
  replace hbw := hbw.trans (hbel.mono hbw.size)
  have att := at'.below hbel
  have ay3 := ay2.below hbel
  clear hbel aq at' ay2
  go_wp2_with fail
  refine (rsub_any ob ot lb cb t.length ct xb t _ (by omega) htb hxb rfl ay3 att isb.out.1 ist.1 (by rw [isb.out.2.2, ist.2.2]; exact HLE.out)).mono ?_
  rintro e w3 ⟨o6, c6, y6, rfl, hl6, at6, is6, hm6, hbel⟩
  rw [isb.out.2.2, ist.2.2] at is6
  replace pa := pa.below hbel pa.lt
  replace pb := pb.below hbel pb.lt
  replace p4 := p4.below hbel p4.lt
  replace p5 := p5.below hbel p5.lt
  replace a0 := pa.cell0
  replace b0 := pb.cell0
  replace b1 := pb.cell1
  have hz3 := hbel.size
  replace hbw := hbw.trans (hbel.mono hbw.size)
  have at5' := at5.below hbel
  clear hbel at5 att ay3
  go_wp2_with fail
  refine (rmake false o5 y5.length c5 y5 _ (by omega) rfl at5' is5.1).mono ?_
  rintro e w4 ⟨s1, o1, c1, r1, hs1, rfl, hl1, rs1, is1, hm1, hbel⟩
  rw [is5.2.2] at hs1 is1
  replace pa := pa.below hbel pa.lt
  replace pb := pb.below hbel pb.lt
  replace p4 := p4.below hbel p4.lt
  replace p5 := p5.below hbel p5.lt
  replace a0 := pa.cell0
  replace b0 := pb.cell0
  replace b1 := pb.cell1
  have hz4 := hbel.size
  replace hbw := hbw.trans (hbel.mono hbw.size)
  have atR := at6.below hbel
  have RS1 := hide rs1
  clear hbel rs1
  go_wp2_with fail
  refine (rmake false o6 y6.length c6 y6 _ (by omega) rfl atR is6.1).mono ?_
  rintro e w5 ⟨s2, o2, c2, r2, hs2, rfl, hl2, rs2, is2, hm2, hbel⟩
  rw [is6.2.2] at hs2 is2
  replace pa := pa.below hbel pa.lt
  replace pb := pb.below hbel pb.lt
  replace p4 := p4.below hbel p4.lt
  replace p5 := p5.below hbel p5.lt
  replace a0 := pa.cell0
  replace b0 := pb.cell0
  replace b1 := pb.cell1
  have hz5 := hbel.size
  replace hbw := hbw.trans (hbel.mono hbw.size)
  have F1 := hide (RS1.out.below hbel)
  have F2 := hide rs2
  clear hbel rs2 RS1 atR a0 b0 b1 pa pb
  have N1 : Hid (NI32 s1 r1 (zv true (num 65536 xa) / zv true B)) := by show NI32 _ _ _; rw [E1.out.1]; exact NI32.mk hs1 is1
  have N2 : Hid (NI32 s2 r2 (zv true (num 65536 xa) % zv true B)) := by show NI32 _ _ _; rw [E1.out.2]; exact NI32.mk hs2 is2
  have c40 := p4.cell0; have c41 := p4.cell1; have f40 := p4.free 0; have f41 := p4.free 1
  have c50 := p5.cell0; have c51 := p5.cell1; have f50 := p5.free 0; have f51 := p5.free 1
  clear hs1 is1 hs2 is2 isq ist
  go_wp2
  refine bodyPost_ret (results_pairsR rfl _ _ _ _ _ _ _ _ rfl rfl ((p4.put _ _).other (by simp) _ |>.other (by simp) _) ((p5.other (by simp) _ |>.other (by simp) _).put _ _)) rfl ?_
  exact RDWPost.ret (H := w.heap.size + 1 + 1) (K := w.heap.size + 1 + 1 + 1) N1.out N2.out hl1 hl2 (by omega) (by omega) F1.out F2.out ⟨by omega, by omega⟩ ⟨by omega, by omega⟩ (by omega) (by omega) (by omega) (Nat.le_refl _) hbw


theorem rdivwz (s t : Bool) (oa ob : Option Addr) (la ca lb cb : Nat) (xa xb : List Nat) (w : World) (hla : la ≤ 5000000) (hlb : lb ≤ 5000000) (hlbc : lb ≤ cb) (hxa : xa.length = la) (hxb : xb.length = lb) (ata : At .u32 w oa xa) (atb : At .u32 w ob xb) (z u : Int) (hz : Hid (NI32 s xa z)) (hu : Hid (NI32 t xb u)) (h0 : Hid (u ≠ 0)) :
    Calls Tryd.prog 23 #[.agg #[.bool s, .slice oa la ca], .agg #[.bool t, .slice ob lb cb]] w (RDWPost w (la + lb + 3) (z / u) (z % u)) := by
  have hB : Hid (0 < u.natAbs) := by have := h0.out; show 0 < _; omega
  have v1 := hz.out.nv
  have v2 : zv t u.natAbs = u := by rw [← hu.out.2.2.2]; exact hu.out.nv.2
  rw [← v1.2, ← v2]
  cases s
  · cases t
    · exact rdivw_ffn oa ob la ca lb cb _ xa xb w hla hlb hlbc hxa hxb ata atb v1.1 hu.out.2 hB
    · exact rdivw_ftn oa ob la ca lb cb _ xa xb w hla hlb hlbc hxa hxb ata atb v1.1 hu.out.2 hB
  · by_cases hr : num 65536 xa % u.natAbs = 0
    · cases t
      · exact rdivw_tfn oa ob la ca lb cb _ xa xb w hla hlb hlbc hxa hxb ata atb v1.1 hu.out.2 hB hr
      · exact rdivw_ttn oa ob la ca lb cb _ xa xb w hla hlb hlbc hxa hxb ata atb v1.1 hu.out.2 hB hr
    · cases t
      · exact rdivw_tfs oa ob la ca lb cb _ xa xb w hla hlb hlbc hxa hxb ata atb v1.1 hu.out.2 hB hr
      · exact rdivw_tts oa ob la ca lb cb _ xa xb w hla hlb hlbc hxa hxb ata atb v1.1 hu.out.2 hB hr

end Go.Proofs.YtfcdjhjdiadbfaaDoor
