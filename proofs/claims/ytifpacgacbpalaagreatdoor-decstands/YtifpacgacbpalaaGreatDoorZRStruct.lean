/-
  What the reference's Add answers lies in new memory.
  What the reference's Make, In, Neg and Same do, and quipulaw02's in and is.
  What the reference's Mul, Add and Cmp of whole numbers do.
  What the reference's Cmp of whole numbers does.
-/
import Derived.Test.YtifpacgacbpalaaGreatDoorZQ20
import Derived.Test.YtifpacgacbpalaaGreatDoorZQ14
import Derived.Test.YtifpacgacbpalaaGreatDoorOut
import Derived.Test.YtifpacgacbpalaaGreatDoorZRMul
import Derived.Test.YtifpacgacbpalaaGreatDoorZWhole
namespace Go.Proofs.YtifpacgacbpalaaGreatDoor
open Go.RowKit

/-- As RPost, and the digits lie in a block that the call has laid. -/
def RFPost (w : World) (m n : Nat) (e : Ending) (w' : World) : Prop :=
  ∃ ao cap ys, e = .returned (.slice ao (List.length ys) cap) ∧ ys.length ≤ cap ∧ Res .u32 w' ao ys w.heap.size w'.heap.size ∧ Is 65536 ys n ∧ ys.length ≤ m ∧ Below w.heap.size w w'

theorem Grows.fresh {w wr : World} {v : Value} {ys : List Nat} (h : Grows w wr v ys) : ∃ ao cap, v = .slice ao ys.length cap ∧ ys.length ≤ cap ∧ At .u32 wr ao ys ∧ ∀ b f, ys ≠ [] → ao = some ⟨b, f, none⟩ → w.heap.size ≤ b ∧ b < wr.heap.size := by
  obtain ⟨ao, cap, rfl, h1, h2⟩ := h.at
  refine ⟨ao, cap, rfl, h1, h2, fun b f hx e => ?_⟩
  have h3 := h.2.lt b (by rw [e]; rfl)
  exact h3

set_option maxRecDepth 100000 in
set_option maxHeartbeats 1000000 in
theorem radd_fresh (ao bo : Option Addr) (la ca lb cb : Nat) (xs ys : List Nat) (w : World) (hla : la ≤ 100000000) (hlb : lb ≤ 100000000) (hx : xs.length = la) (hy : ys.length = lb)
    (hax : At .u32 w ao xs) (hay : At .u32 w bo ys) (ox : Ok 65536 xs) (oy : Ok 65536 ys) :
    Calls Tryz.prog 87 #[.slice ao la ca, .slice bo lb cb] w (RFPost w (max la lb + 1) (num 65536 xs + num 65536 ys)) := by
  obtain ⟨i0, hi, hz0, hz1, hz2⟩ := info_parts Tryz.infoD
  obtain ⟨n, hn⟩ : ∃ n, n = max la lb := ⟨_, rfl⟩
  rw [← hn]
  obtain ⟨D, hD⟩ : ∃ D, D = addD 65536 (dg xs) (dg ys) := ⟨_, rfl⟩
  have HDF : Hid (D = addD 65536 (dg xs) (dg ys)) := hD
  have hnl : la ≤ n ∧ lb ≤ n ∧ n ≤ 100000000 := by omega
  have HN : Hid (n = max la lb) := hn
  clear hn hD
  go_enter Tryz.func87, Tryz.ntmps87
  go_wp2
  go_loopw [5, 6, 7] (fun v cv i wr => ∃ k c : Nat, k ≤ n ∧ cv = .int .u32 (c : Int) ∧ i = .int .i64 k ∧ c = addC 65536 (dg xs) (dg ys) k ∧ Grows w wr v (mk D k)) (fun _ _ i _ => n - (intOf i).toNat)
  case atStart => exact ⟨0, 0, Nat.zero_le _, rfl, rfl, rfl, (Below.refl _ _).alloc (Nat.le_refl _) _, World.ownsRow_lit _ #[] 0 (Nat.le_refl _) (by unfold maxLen; omega) rfl⟩
  case round =>
    obtain ⟨k, c, hk, rfl, rfl, hc, hgr⟩ := hrel
    have hcl : c ≤ 1 := by rw [hc]; exact addC_le ox oy k
    have HC : Hid (c = addC 65536 (dg xs) (dg ys) k) := hc
    clear hc
    by_cases hlt : k < n
    · have HG : Hid (Grows w wr u5 (mk D k)) := hgr
      obtain ⟨x, hxk⟩ : ∃ x, x = dg xs k := ⟨_, rfl⟩
      obtain ⟨y, hyk⟩ : ∃ y, y = dg ys k := ⟨_, rfl⟩
      have hxl : x < 65536 := by rw [hxk]; exact ox k
      have hyl : y < 65536 := by rw [hyk]; exact oy k
      have HX : Hid (x = dg xs k) := hxk
      have HY : Hid (y = dg ys k) := hyk
      obtain ⟨d, hdk⟩ : ∃ d, d = (x + y + c) % 65536 := ⟨_, rfl⟩
      obtain ⟨c', hck⟩ : ∃ c', c' = (x + y + c) / 65536 := ⟨_, rfl⟩
      have HD : Hid (d = (x + y + c) % 65536) := hdk
      have HC' : Hid (c' = (x + y + c) / 65536) := hck
      have HC1 : Hid (c' = addC 65536 (dg xs) (dg ys) (k + 1)) := by rw [hck, hxk, hyk, HC.out]; rfl
      have HDD : Hid (d = D k) := by rw [hdk, hxk, hyk, HC.out, HDF.out]; rfl
      have hdl := mk_len D k
      clear hxk hyk hdk hck
      have hor : k < la ∨ k < lb := by have := HN.out; omega
      by_cases ha : k < la
      · by_cases hb : k < lb
        · clear hor
          have t1 : (k : Int) < (la : Int) := by omega
          have t2 : (k : Int) < (lb : Int) := by omega
          obtain ⟨b1, o1, rfl, hc1⟩ : ∃ b1 o1, ao = some ⟨b1, o1, none⟩ ∧ wr.cell? ⟨b1, o1 + k, none⟩ = some (.int .u32 (x : Int)) := by
            rcases hax.below hgr.1 with h | ⟨b, o, h1, _, h3⟩
            · rw [h] at hx; simp at hx; omega
            · exact ⟨b, o, h1, by rw [HX.out]; exact h3 k (by omega)⟩
          obtain ⟨b2, o2, rfl, hc2⟩ : ∃ b2 o2, bo = some ⟨b2, o2, none⟩ ∧ wr.cell? ⟨b2, o2 + k, none⟩ = some (.int .u32 (y : Int)) := by
            rcases hay.below hgr.1 with h | ⟨b, o, h1, _, h3⟩
            · rw [h] at hy; simp at hy; omega
            · exact ⟨b, o, h1, by rw [HY.out]; exact h3 k (by omega)⟩
          have hd : bits .and .u32 ((c : Int) + (x : Int) + (y : Int)) 65535 = (d : Int) := by rw [show ((c : Int) + (x : Int) + (y : Int)) = ((x + y + c : Nat) : Int) by omega, and16u _ (by omega)]; exact congrArg _ HD.out.symm
          have hs : ((c : Int) + (x : Int) + (y : Int)) / 65536 = (c' : Int) := by have := HC'.out; omega
          have hown := hgr.2
          rw [hdl] at hown
          have hsz := hgr.1.size
          clear hgr hax hay
          go_wp2_with (at_builtin; refine wpList_append_own _ rfl _ _ 54 rfl w.heap.size 99 i0 (.int .u32 0) 1 4 Tryz.underlying54 hi hz0 hz1 hz2 rfl (by decide) _ _ _ rfl (hown.alloc _) ⟨wr.heap.size, 0, none⟩ 1 1 [.int .u32 (d : Int)] rfl rfl ?c1A ?c2A ?c3A ?c4A ?c5A ?_)
          try case c1A => exact new_cell wr _ _
          case c2A => first | exact one_one _ _ | rfl
          case c3A => unfold maxLen; omega
          case c4A => omega
          case c5A => first | (simp; omega) | omega
          intro v' w1 hown' hgrow _
          have hg' := HG.out.step _ (by rw [hdl]; exact hown') hgrow
          have HG' : Hid (Grows w w1 v' (mk D (k + 1))) := by show Grows _ _ _ _; rw [mk_succ, ← HDD.out]; exact hg'
          clear hown hown' hgrow hg' HG hd
          go_wp2
          go_roundw
          case rel => exact ⟨k + 1, c', by omega, rfl, by go_num, HC1.out, HG'.out⟩
          case measure => simp [intOf]; omega
        · clear hor
          have t1 : (k : Int) < (la : Int) := by omega
          have t2 : ¬ (k : Int) < (lb : Int) := by omega
          obtain ⟨b1, o1, rfl, hc1⟩ : ∃ b1 o1, ao = some ⟨b1, o1, none⟩ ∧ wr.cell? ⟨b1, o1 + k, none⟩ = some (.int .u32 (x : Int)) := by
            rcases hax.below hgr.1 with h | ⟨b, o, h1, _, h3⟩
            · rw [h] at hx; simp at hx; omega
            · exact ⟨b, o, h1, by rw [HX.out]; exact h3 k (by omega)⟩
          have ey : y = 0 := by rw [HY.out]; exact dg_out (by omega)
          have hd : bits .and .u32 ((c : Int) + (x : Int)) 65535 = (d : Int) := by rw [show ((c : Int) + (x : Int)) = ((x + y + c : Nat) : Int) by omega, and16u _ (by omega)]; exact congrArg _ HD.out.symm
          have hs : ((c : Int) + (x : Int)) / 65536 = (c' : Int) := by have := HC'.out; omega
          clear ey
          have hown := hgr.2
          rw [hdl] at hown
          have hsz := hgr.1.size
          clear hgr hax hay
          go_wp2_with (at_builtin; refine wpList_append_own _ rfl _ _ 54 rfl w.heap.size 99 i0 (.int .u32 0) 1 4 Tryz.underlying54 hi hz0 hz1 hz2 rfl (by decide) _ _ _ rfl (hown.alloc _) ⟨wr.heap.size, 0, none⟩ 1 1 [.int .u32 (d : Int)] rfl rfl ?c1B ?c2B ?c3B ?c4B ?c5B ?_)
          try case c1B => exact new_cell wr _ _
          case c2B => first | exact one_one _ _ | rfl
          case c3B => unfold maxLen; omega
          case c4B => omega
          case c5B => first | (simp; omega) | omega
          intro v' w1 hown' hgrow _
          have hg' := HG.out.step _ (by rw [hdl]; exact hown') hgrow
          have HG' : Hid (Grows w w1 v' (mk D (k + 1))) := by show Grows _ _ _ _; rw [mk_succ, ← HDD.out]; exact hg'
          clear hown hown' hgrow hg' HG hd
          go_wp2
          go_roundw
          case rel => exact ⟨k + 1, c', by omega, rfl, by go_num, HC1.out, HG'.out⟩
          case measure => simp [intOf]; omega
      · have hb : k < lb := by omega
        clear hor
        have t1 : ¬ (k : Int) < (la : Int) := by omega
        have t2 : (k : Int) < (lb : Int) := by omega
        obtain ⟨b2, o2, rfl, hc2⟩ : ∃ b2 o2, bo = some ⟨b2, o2, none⟩ ∧ wr.cell? ⟨b2, o2 + k, none⟩ = some (.int .u32 (y : Int)) := by
          rcases hay.below hgr.1 with h | ⟨b, o, h1, _, h3⟩
          · rw [h] at hy; simp at hy; omega
          · exact ⟨b, o, h1, by rw [HY.out]; exact h3 k (by omega)⟩
        have ex : x = 0 := by rw [HX.out]; exact dg_out (by omega)
        have hd : bits .and .u32 ((c : Int) + (y : Int)) 65535 = (d : Int) := by rw [show ((c : Int) + (y : Int)) = ((x + y + c : Nat) : Int) by omega, and16u _ (by omega)]; exact congrArg _ HD.out.symm
        have hs : ((c : Int) + (y : Int)) / 65536 = (c' : Int) := by have := HC'.out; omega
        clear ex
        have hown := hgr.2
        rw [hdl] at hown
        have hsz := hgr.1.size
        clear hgr hax hay
        go_wp2_with (at_builtin; refine wpList_append_own _ rfl _ _ 54 rfl w.heap.size 99 i0 (.int .u32 0) 1 4 Tryz.underlying54 hi hz0 hz1 hz2 rfl (by decide) _ _ _ rfl (hown.alloc _) ⟨wr.heap.size, 0, none⟩ 1 1 [.int .u32 (d : Int)] rfl rfl ?c1C ?c2C ?c3C ?c4C ?c5C ?_)
        try case c1C => exact new_cell wr _ _
        case c2C => first | exact one_one _ _ | rfl
        case c3C => unfold maxLen; omega
        case c4C => omega
        case c5C => first | (simp; omega) | omega
        intro v' w1 hown' hgrow _
        have hg' := HG.out.step _ (by rw [hdl]; exact hown') hgrow
        have HG' : Hid (Grows w w1 v' (mk D (k + 1))) := by show Grows _ _ _ _; rw [mk_succ, ← HDD.out]; exact hg'
        clear hown hown' hgrow hg' HG hd
        go_wp2
        go_roundw
        case rel => exact ⟨k + 1, c', by omega, rfl, by go_num, HC1.out, HG'.out⟩
        case measure => simp [intOf]; omega
    · obtain rfl : k = n := by omega
      have t1 : ¬ (k : Int) < (la : Int) := by omega
      have t2 : ¬ (k : Int) < (lb : Int) := by omega
      have hdl := mk_len D k
      have HG : Hid (Grows w wr u5 (mk D k)) := hgr
      have hown := hgr.2
      rw [hdl] at hown
      have hsz := hgr.1.size
      have his := radd_is (n := k) ox oy (by omega) (by omega)
      rw [← HDF.out, ← HC.out] at his
      have HI : Hid (Ok 65536 (mk D k ++ [c]) ∧ num 65536 (mk D k ++ [c]) = num 65536 xs + num 65536 ys) := his
      clear hgr his hax hay
      go_wp2_with (at_builtin; refine wpList_append_own _ rfl _ _ 54 rfl w.heap.size 99 i0 (.int .u32 0) 1 4 Tryz.underlying54 hi hz0 hz1 hz2 rfl (by decide) _ _ _ rfl (hown.alloc _) ⟨wr.heap.size, 0, none⟩ 1 1 [.int .u32 (c : Int)] rfl rfl ?c1D ?c2D ?c3D ?c4D ?c5D ?_)
      try case c1D => exact new_cell wr _ _
      case c2D => first | exact one_one _ _ | rfl
      case c3D => unfold maxLen; omega
      case c4D => omega
      case c5D => first | (simp; omega) | omega
      intro v' w1 hown' hgrow _
      have hg' := HG.out.step _ (by rw [hdl]; exact hown') hgrow
      obtain ⟨ao', cp, rfl, hcp, hat, hrs⟩ := hg'.fresh
      have HRS := hide hrs
      clear hrs
      have hbel := hg'.1
      obtain ⟨z, hz⟩ : ∃ z, z = mk D k ++ [c] := ⟨_, rfl⟩
      rw [← hz] at hat hcp HI HRS
      have hzl : z.length = k + 1 := by rw [hz]; simp [mk]
      obtain ⟨q, hq⟩ : ∃ q, q = (trimmed z).length := ⟨_, rfl⟩
      have HQ : Hid ((trimmed z).length = q) := hq.symm
      have HZ : Hid (z.length = k + 1) := hzl
      have hqle : q ≤ k + 1 := by rw [hq, ← hzl]; exact length_trimmed_le z
      rw [← hz, hzl]
      rw [hzl] at hcp
      clear hown hown' hgrow hg' HG hz hzl hq
      go_wp2_with fail
      refine (rtrim_to ao' (k + 1) cp q z _ hcp (by omega) HZ.out hat HQ.out).mono ?_
      rintro e w' ⟨rfl, rfl⟩
      go_wp2
      go_ret
      refine ⟨ao', cp, trimmed z, by rw [HQ.out]; rfl, by rw [HQ.out]; omega, ⟨hat.trimmed, fun b f hx e => HRS.out b f (fun h => hx (by rw [h]; rfl)) e⟩, ?_, by rw [HQ.out]; exact hqle, hbel⟩
      rw [← HI.out.2]; exact Is.trimmed HI.out.1

end Go.Proofs.YtifpacgacbpalaaGreatDoor

namespace Go.Proofs.YtifpacgacbpalaaGreatDoor
open Go.RowKit

theorem Res.mono {k : IntKind} {W : World} {o : Option Addr} {x : List Nat} {lo hi lo' hi' : Nat} (h : Res k W o x lo hi) (h1 : lo' ≤ lo) (h2 : hi ≤ hi') : Res k W o x lo' hi' :=
  ⟨h.1, fun b f hx e => by have := h.2 b f hx e; omega⟩

/-- What the reference's functions answer: the number z in its one form, in new memory. -/
def RWPost (w : World) (m : Nat) (z : Int) (e : Ending) (w' : World) : Prop :=
  ∃ s o c r, Hid (s = decide (z < 0)) ∧ e = .returned (.agg #[.bool s, .slice o (List.length r) c]) ∧ List.length r ≤ c ∧ Res .u32 w' o r w.heap.size w'.heap.size ∧ Is 65536 r z.natAbs ∧ r.length ≤ m ∧ Below w.heap.size w w'

theorem zv_lt32 {neg : Bool} {n : Nat} {r : List Nat} (h : Is 65536 r n) : decide (zv neg n < 0) = (neg && decide (0 < r.length)) := by
  cases neg
  · simp [zv]
  · have : (0 < r.length) ↔ n ≠ 0 := by
      constructor
      · intro h1 h2
        have := num_zero (by decide) h.2.1 (h.2.2.trans h2)
        rw [this] at h1; simp at h1
      · intro h1
        rcases hr : r with _ | ⟨x, t⟩
        · rw [hr] at h; exact absurd h.2.2.symm h1
        · simp
    simp only [zv, if_true, Bool.true_and]
    by_cases hn : n = 0
    · subst hn; simp [this]
    · rw [decide_eq_true (by omega), decide_eq_true (this.2 hn)]

theorem results_pairR {fn : Func} {a : Tmp} (h : fn.results = #[.cell a 56]) (tmps : Array Value) (H : Nat) (x y : Value) (w : World) (ht : tmps.getD a undef = .pointer (some ⟨H, 0, none⟩)) (hp : Pair w H x y 56) :
    (results fn tmps).run Tryz.prog w = .ok (.agg #[x, y]) w := by
  have c0 := hp.cell0
  have c1 := hp.cell1
  rw [Array.getD_eq_getD_getElem?] at ht
  simp [results, h, ht, go_sem, c0, c1]

theorem RWPost.ret {w w2 : World} {m lo hi H c : Nat} {z : Int} {s : Bool} {o : Option Addr} {x y : Value} {r : List Nat} (hs : Hid (s = decide (z < 0))) (hle : r.length ≤ c) (hr : Res .u32 w2 o r lo hi) (h1 : w.heap.size ≤ H) (h2 : H < lo) (h3 : hi ≤ w2.heap.size) (his : Is 65536 r z.natAbs) (hm : r.length ≤ m) (hb : Below w.heap.size w w2) :
    RWPost w m z (.returned (.agg #[.bool s, .slice o r.length c])) ((w2.setCell ⟨H, 0, none⟩ x).setCell ⟨H, 1, none⟩ y) :=
  ⟨s, o, c, r, hs, rfl, hle, ((hr.set (.inl h2) _).set (.inl h2) _).mono (by omega) (by simpa [World.setCell] using h3), his, hm, (hb.setCell h1 _).setCell h1 _⟩


set_option maxHeartbeats 1000000 in
theorem rmake_f (o : Option Addr) (l c : Nat) (xs : List Nat) (w : World) (hl : l ≤ 100000000) (hx : xs.length = l) (hax : At .u32 w o xs) (ox : Ok 65536 xs) :
    Calls Tryz.prog 65 #[.bool false, .slice o l c] w (RWPost w (l + 1) (zv false (num 65536 xs))) := by
  have hb0 : Below w.heap.size w ((w.alloc (Obj.cells #[Value.bool false, Value.slice none 0 0] 56)).alloc (Obj.cells #[] 99)) := ((Below.refl _ _).alloc (Nat.le_refl _) _).alloc (by simp) _
  have p0 := (Pair.new w (.bool false) (.slice none 0 0) 56).alloc (Obj.cells #[] 99)
  have ha := (hax.alloc (Obj.cells #[Value.bool false, Value.slice none 0 0] 56)).alloc (Obj.cells #[] 99)
  go_enter Tryz.func65, Tryz.ntmps65
  go_wp2_with fail
  refine (radd_fresh o _ l c 0 0 xs [] _ hl (by omega) hx rfl ha (At.nil _ _ _) ox (Is.none (by decide)).1).mono ?_
  rintro e w1 ⟨o1, c1, r1, rfl, hl1, rs1, is1, hm1, hb1⟩
  rw [show num 65536 [] = 0 from rfl, Nat.add_zero] at is1
  have pr := p0.below hb1 p0.lt
  have hs := zv_lt32 (neg := false) is1
  have hbw := hb0.trans (hb1.mono hb0.size)
  have HS := hide hs
  have RS := hide rs1
  have HBW := hide hbw
  have HIS : Hid (Is 65536 r1 (zv false (num 65536 xs)).natAbs) := by rw [zv_abs]; exact is1
  have q0 := pr.cell0
  have q1 := pr.cell1
  have f0 := pr.free 0
  have f1 := pr.free 1
  have PR := hide pr
  clear hs rs1 hbw is1 hb1 p0 ha hax ox hb0 pr
  go_wp2
  refine bodyPost_ret (results_pairR rfl _ _ _ _ _ rfl (PR.out.put _ _)) rfl ?_
  exact RWPost.ret (s := false) (H := w.heap.size) (by show false = decide _; rw [HS.out]; rfl) hl1 RS.out (Nat.le_refl _) (by simp <;> omega) (Nat.le_refl _) HIS.out (by omega) HBW.out


set_option maxHeartbeats 1000000 in
theorem rmake_t (o : Option Addr) (l c : Nat) (xs : List Nat) (w : World) (hl : l ≤ 100000000) (hx : xs.length = l) (hax : At .u32 w o xs) (ox : Ok 65536 xs) :
    Calls Tryz.prog 65 #[.bool true, .slice o l c] w (RWPost w (l + 1) (zv true (num 65536 xs))) := by
  have hb0 : Below w.heap.size w ((w.alloc (Obj.cells #[Value.bool false, Value.slice none 0 0] 56)).alloc (Obj.cells #[] 99)) := ((Below.refl _ _).alloc (Nat.le_refl _) _).alloc (by simp) _
  have p0 := (Pair.new w (.bool false) (.slice none 0 0) 56).alloc (Obj.cells #[] 99)
  have ha := (hax.alloc (Obj.cells #[Value.bool false, Value.slice none 0 0] 56)).alloc (Obj.cells #[] 99)
  go_enter Tryz.func65, Tryz.ntmps65
  go_wp2_with fail
  refine (radd_fresh o _ l c 0 0 xs [] _ hl (by omega) hx rfl ha (At.nil _ _ _) ox (Is.none (by decide)).1).mono ?_
  rintro e w1 ⟨o1, c1, r1, rfl, hl1, rs1, is1, hm1, hb1⟩
  rw [show num 65536 [] = 0 from rfl, Nat.add_zero] at is1
  have pr := p0.below hb1 p0.lt
  have hs := zv_lt32 (neg := true) is1
  have hbw := hb0.trans (hb1.mono hb0.size)
  have HS := hide hs
  have RS := hide rs1
  have HBW := hide hbw
  have HIS : Hid (Is 65536 r1 (zv true (num 65536 xs)).natAbs) := by rw [zv_abs]; exact is1
  have q0 := pr.cell0
  have q1 := pr.cell1
  have f0 := pr.free 0
  have f1 := pr.free 1
  have PR := hide pr
  clear hs rs1 hbw is1 hb1 p0 ha hax ox hb0 pr
  go_wp2
  refine bodyPost_ret (results_pairR rfl _ _ _ _ _ rfl (PR.out.put _ _)) rfl ?_
  exact RWPost.ret (s := decide (0 < r1.length)) (H := w.heap.size) (by show decide (0 < r1.length) = decide _; rw [HS.out]; rfl) hl1 RS.out (Nat.le_refl _) (by simp <;> omega) (Nat.le_refl _) HIS.out (by omega) HBW.out


theorem rmake (neg : Bool) (o : Option Addr) (l c : Nat) (xs : List Nat) (w : World) (hl : l ≤ 100000000) (hx : xs.length = l) (hax : At .u32 w o xs) (ox : Ok 65536 xs) :
    Calls Tryz.prog 65 #[.bool neg, .slice o l c] w (RWPost w (l + 1) (zv neg (num 65536 xs))) := by
  cases neg
  · exact rmake_f o l c xs w hl hx hax ox
  · exact rmake_t o l c xs w hl hx hax ox

/-- A sign and digits are the number z, in whatever form. -/
def NV32 (s : Bool) (x : List Nat) (z : Int) : Prop := Ok 65536 x ∧ zv s (num 65536 x) = z
/-- A sign and digits are the number z in its one form. -/
def NI32 (s : Bool) (x : List Nat) (z : Int) : Prop := s = decide (z < 0) ∧ Is 65536 x z.natAbs

theorem NI32.nv {s : Bool} {x : List Nat} {z : Int} (h : NI32 s x z) : NV32 s x z := by
  refine ⟨h.2.1, ?_⟩
  rw [h.2.2.2, h.1]
  unfold zv
  by_cases hz : z < 0
  · simp [hz]; omega
  · simp [hz]; omega

theorem NI32.mk {s : Bool} {x : List Nat} {z : Int} (h : Hid (s = decide (z < 0))) (hi : Is 65536 x z.natAbs) : NI32 s x z := ⟨h.out, hi⟩

set_option maxHeartbeats 1000000 in
theorem rnegz (neg : Bool) (o : Option Addr) (l c : Nat) (xs : List Nat) (w : World) (hl : l ≤ 100000000) (hx : xs.length = l) (hax : At .u32 w o xs) (z : Int) (hz : Hid (NV32 neg xs z)) :
    Calls Tryz.prog 85 #[.agg #[.bool neg, .slice o l c]] w (RWPost w (l + 1) (-z)) := by
  have hb0 : Below w.heap.size w ((w.alloc (Obj.cells #[Value.bool neg, Value.slice o l c] 56)).alloc (Obj.cells #[Value.bool false, Value.slice none 0 0] 56)) := ((Below.refl _ _).alloc (Nat.le_refl _) _).alloc (by simp) _
  have p0 := Pair.newAt (w.alloc (Obj.cells #[Value.bool neg, Value.slice o l c] 56)) (w.heap.size + 1) (by simp) (.bool false) (.slice none 0 0) 56
  have ri := fun w h => rmake (!neg) o l c xs w hl hx h hz.out.1
  rw [zv_neg, hz.out.2] at ri
  have RI := hide ri
  clear ri
  go_enter Tryz.func85, Tryz.ntmps85
  go_wp2_with fail
  refine (RI.out _ ((hax.alloc _).alloc _)).mono ?_
  rintro e w2 ⟨s, o2, c2, r2, hs, rfl, hl2, rs2, is2, hm2, hb2⟩
  have pr := p0.below hb2 p0.lt
  have hlt := p0.lt
  have hbw := hb0.trans (hb2.mono hb0.size)
  have q0 := pr.cell0
  have q1 := pr.cell1
  have f0 := pr.free 0
  have f1 := pr.free 1
  clear hb2 p0 hax hb0 RI
  go_wp2
  refine bodyPost_ret (results_pairR rfl _ _ _ _ _ rfl (pr.put _ _)) rfl ?_
  exact RWPost.ret (H := w.heap.size + 1) hs hl2 rs2 (by omega) hlt (Nat.le_refl _) is2 hm2 hbw

end Go.Proofs.YtifpacgacbpalaaGreatDoor

namespace Go.Proofs.YtifpacgacbpalaaGreatDoor
open Go.RowKit

set_option maxRecDepth 100000 in
set_option maxHeartbeats 2000000 in
theorem rmulz (s t : Bool) (oa ob : Option Addr) (la ca lb cb : Nat) (xa xb : List Nat) (w : World) (hla : la ≤ 20000000) (hlb : lb ≤ 20000000) (_hlac : la ≤ ca) (_hlbc : lb ≤ cb) (hxa : xa.length = la) (hxb : xb.length = lb) (ata : At .u32 w oa xa) (atb : At .u32 w ob xb) (z u : Int) (hz : Hid (NV32 s xa z)) (hu : Hid (NV32 t xb u)) :
    Calls Tryz.prog 47 #[.agg #[.bool s, .slice oa la ca], .agg #[.bool t, .slice ob lb cb]] w (RWPost w (la + lb + 1) (z * u)) := by
  have ez : z * u = zv (s != t) (num 65536 xa * num 65536 xb) := by rw [zv_mul, hz.out.2, hu.out.2]
  have EZ := hide ez
  clear ez
  go_enter Tryz.func47, Tryz.ntmps47
  go_wp2_with fail
  have hb0 : Below w.heap.size w (((w.alloc (Obj.cells #[Value.bool s, Value.slice oa la ca] 56)).alloc (Obj.cells #[Value.bool t, Value.slice ob lb cb] 56)).alloc (Obj.cells #[Value.bool false, Value.slice none 0 0] 56)) := (((Below.refl _ _).alloc (Nat.le_refl _) _).alloc (by simp) _).alloc (by simp; omega) _
  have pa := ((Pair.new w (.bool s) (.slice oa la ca) 56).alloc (Obj.cells #[Value.bool t, Value.slice ob lb cb] 56)).alloc (Obj.cells #[Value.bool false, Value.slice none 0 0] 56)
  have pb := (Pair.newAt (w.alloc (Obj.cells #[Value.bool s, Value.slice oa la ca] 56)) (w.heap.size + 1) (by simp) (.bool t) (.slice ob lb cb) 56).alloc (Obj.cells #[Value.bool false, Value.slice none 0 0] 56)
  have p4 := Pair.newAt ((w.alloc (Obj.cells #[Value.bool s, Value.slice oa la ca] 56)).alloc (Obj.cells #[Value.bool t, Value.slice ob lb cb] 56)) (w.heap.size + 1 + 1) (by simp) (.bool false) (.slice none 0 0) 56
  have ax := ((ata.alloc (Obj.cells #[Value.bool s, Value.slice oa la ca] 56)).alloc (Obj.cells #[Value.bool t, Value.slice ob lb cb] 56)).alloc (Obj.cells #[Value.bool false, Value.slice none 0 0] 56)
  have ay := ((atb.alloc (Obj.cells #[Value.bool s, Value.slice oa la ca] 56)).alloc (Obj.cells #[Value.bool t, Value.slice ob lb cb] 56)).alloc (Obj.cells #[Value.bool false, Value.slice none 0 0] 56)
  clear ata atb
  generalize (((w.alloc (Obj.cells #[Value.bool s, Value.slice oa la ca] 56)).alloc (Obj.cells #[Value.bool t, Value.slice ob lb cb] 56)).alloc (Obj.cells #[Value.bool false, Value.slice none 0 0] 56)) = w0 at *
  obtain ⟨H4, e4⟩ : ∃ H, H = w.heap.size + 1 + 1 := ⟨_, rfl⟩
  obtain ⟨Hb, eb⟩ : ∃ H, H = w.heap.size + 1 := ⟨_, rfl⟩
  obtain ⟨Ha, ea⟩ : ∃ H, H = w.heap.size := ⟨_, rfl⟩
  rw [← e4] at p4
  rw [← eb] at pb
  rw [← ea] at pa
  simp only [← e4]
  simp only [← eb]
  simp only [← ea]
  have n1 : H4 ≠ Ha := by omega
  have n2 : H4 ≠ Hb := by omega
  have n3 : Ha ≠ H4 := by omega
  have n4 : Hb ≠ H4 := by omega
  have HLE : Hid (w.heap.size ≤ H4) := by show _ ≤ _; omega
  clear e4 eb ea
  have AX := hide (ax.below (bdrew w0))
  have AY := hide (ay.below (bdrew w0))
  have PA := hide (pa.below (bdrew w0) pa.lt)
  have PB := hide (pb.below (bdrew w0) pb.lt)
  have P4 := hide (p4.below (bdrew w0) p4.lt)
  have a0 := pa.cell0
  have a1 := pa.cell1
  have b0 := pb.cell0
  have b1 := pb.cell1
  have HLT : Hid (H4 < w0.heap.size) := p4.lt
  have HB0 := hide (hb0.trans ((bdrew w0).mono hb0.size))
  have bw : Hid (Below w0.drew.heap.size w0.drew w0.drew) := Below.refl _ _
  have mk0 : True := trivial
  clear ax ay pa pb p4 hb0
  go_region_held3 (fun w' => w'.cell? ⟨Ha, 0, none⟩ = some (.bool s) ∧ w'.cell? ⟨Ha, 1, none⟩ = some (.slice oa la ca) ∧ w'.cell? ⟨Hb, 0, none⟩ = some (.bool t) ∧ w'.cell? ⟨Hb, 1, none⟩ = some (.slice ob lb cb)) (go_keep) (first | (clear mk0; go_at_call 73; refine (rmul_any oa ob la ca lb cb xa xb _ (by omega) (by omega) hxa hxb AX.out AY.out hz.out.1 hu.out.1).mono ?_; rintro e v2 ⟨o1, c1, y1, rfl, hl1, at1, is1, hm1, hbel⟩; have AT1 := hide at1; have IS1 := hide is1; clear at1 is1; replace bw : Hid (Below w0.drew.heap.size w0.drew v2) := bw.out.trans (hbel.mono bw.out.size); have hsz := hbel.size; clear hbel; have tPA := PA.out.below bw.out PA.out.lt; replace a0 := tPA.cell0; replace a1 := tPA.cell1; clear tPA; have tPB := PB.out.below bw.out PB.out.lt; replace b0 := tPB.cell0; replace b1 := tPB.cell1; clear tPB; have HV2 : Hid (w0.heap.size ≤ v2.heap.size) := (by have h := bw.out.size; simpa [Hid] using h); clear hsz; have mk1 : True := trivial) | (clear mk1; go_at_call 65; refine (rmake (s != t) o1 y1.length c1 y1 _ (by omega) rfl AT1.out IS1.out.1).mono ?_; rintro e v3 ⟨sg, o2, c2, r2, hs, rfl, hl2, rs2, is2, hm2, hbel⟩; rw [IS1.out.2.2] at hs is2; have F2 := hide rs2; have IS2 := hide is2; clear rs2 is2; replace bw : Hid (Below w0.drew.heap.size w0.drew v3) := bw.out.trans (hbel.mono bw.out.size); have hsz := hbel.size; clear hbel; have tPA := PA.out.below bw.out PA.out.lt; replace a0 := tPA.cell0; replace a1 := tPA.cell1; clear tPA; have tPB := PB.out.below bw.out PB.out.lt; replace b0 := tPB.cell0; replace b1 := tPB.cell1; clear tPB; have p4' := P4.out.below bw.out P4.out.lt; have d0 := p4'.cell0; have d1 := p4'.cell1; have f0 := p4'.free 0; have f1 := p4'.free 1; have P4L := hide p4'; clear p4'; clear hsz))
  have hfin := HB0.out.trans (bw.out.mono HB0.out.size)
  clear a0 a1 b0 b1 PA PB AX AY
  go_wp2
  refine bodyPost_ret (results_pairR rfl _ _ _ _ _ rfl (P4L.out.put _ _)) rfl ?_
  exact RWPost.ret (H := H4) (by rw [EZ.out]; exact hs) hl2 F2.out HLE.out (by have := HLT.out; have := HV2.out; omega) (Nat.le_refl _) (by rw [EZ.out]; exact IS2.out) (by omega) hfin

set_option maxRecDepth 100000 in
set_option maxHeartbeats 2000000 in
theorem raddw_ff (oa ob : Option Addr) (la ca lb cb : Nat) (xa xb : List Nat) (w : World) (hla : la ≤ 20000000) (hlb : lb ≤ 20000000) (_hlac : la ≤ ca) (_hlbc : lb ≤ cb) (hxa : xa.length = la) (hxb : xb.length = lb) (ata : At .u32 w oa xa) (atb : At .u32 w ob xb) (oka : Ok 65536 xa) (okb : Ok 65536 xb)  :
    Calls Tryz.prog 71 #[.agg #[.bool false, .slice oa la ca], .agg #[.bool false, .slice ob lb cb]] w (RWPost w (max la lb + 2) (zv false (num 65536 xa + num 65536 xb))) := by
  go_enter Tryz.func71, Tryz.ntmps71
  go_wp2_with fail
  have hb0 : Below w.heap.size w (((w.alloc (Obj.cells #[Value.bool false, Value.slice oa la ca] 56)).alloc (Obj.cells #[Value.bool false, Value.slice ob lb cb] 56)).alloc (Obj.cells #[Value.bool false, Value.slice none 0 0] 56)) := (((Below.refl _ _).alloc (Nat.le_refl _) _).alloc (by simp) _).alloc (by simp; omega) _
  have pa := ((Pair.new w (.bool false) (.slice oa la ca) 56).alloc (Obj.cells #[Value.bool false, Value.slice ob lb cb] 56)).alloc (Obj.cells #[Value.bool false, Value.slice none 0 0] 56)
  have pb := (Pair.newAt (w.alloc (Obj.cells #[Value.bool false, Value.slice oa la ca] 56)) (w.heap.size + 1) (by simp) (.bool false) (.slice ob lb cb) 56).alloc (Obj.cells #[Value.bool false, Value.slice none 0 0] 56)
  have p4 := Pair.newAt ((w.alloc (Obj.cells #[Value.bool false, Value.slice oa la ca] 56)).alloc (Obj.cells #[Value.bool false, Value.slice ob lb cb] 56)) (w.heap.size + 1 + 1) (by simp) (.bool false) (.slice none 0 0) 56
  have ax := ((ata.alloc (Obj.cells #[Value.bool false, Value.slice oa la ca] 56)).alloc (Obj.cells #[Value.bool false, Value.slice ob lb cb] 56)).alloc (Obj.cells #[Value.bool false, Value.slice none 0 0] 56)
  have ay := ((atb.alloc (Obj.cells #[Value.bool false, Value.slice oa la ca] 56)).alloc (Obj.cells #[Value.bool false, Value.slice ob lb cb] 56)).alloc (Obj.cells #[Value.bool false, Value.slice none 0 0] 56)
  clear ata atb
  generalize (((w.alloc (Obj.cells #[Value.bool false, Value.slice oa la ca] 56)).alloc (Obj.cells #[Value.bool false, Value.slice ob lb cb] 56)).alloc (Obj.cells #[Value.bool false, Value.slice none 0 0] 56)) = w0 at *
  obtain ⟨H4, e4⟩ : ∃ H, H = w.heap.size + 1 + 1 := ⟨_, rfl⟩
  obtain ⟨Hb, eb⟩ : ∃ H, H = w.heap.size + 1 := ⟨_, rfl⟩
  obtain ⟨Ha, ea⟩ : ∃ H, H = w.heap.size := ⟨_, rfl⟩
  rw [← e4] at p4
  rw [← eb] at pb
  rw [← ea] at pa
  simp only [← e4]
  simp only [← eb]
  simp only [← ea]
  have n1 : H4 ≠ Ha := by omega
  have n2 : H4 ≠ Hb := by omega
  have n3 : Ha ≠ H4 := by omega
  have n4 : Hb ≠ H4 := by omega
  have HLE : Hid (w.heap.size ≤ H4) := by show _ ≤ _; omega
  clear e4 eb ea
  have AX := hide (ax.below (bdrew w0))
  have AY := hide (ay.below (bdrew w0))
  have PA := hide (pa.below (bdrew w0) pa.lt)
  have PB := hide (pb.below (bdrew w0) pb.lt)
  have P4 := hide (p4.below (bdrew w0) p4.lt)
  have a0 := pa.cell0
  have a1 := pa.cell1
  have b0 := pb.cell0
  have b1 := pb.cell1
  have HLT : Hid (H4 < w0.heap.size) := p4.lt
  have HB0 := hide (hb0.trans ((bdrew w0).mono hb0.size))
  have bw : Hid (Below w0.drew.heap.size w0.drew w0.drew) := Below.refl _ _
  have mk0 : True := trivial
  clear ax ay pa pb p4 hb0
  go_region_held3 (fun w' => w'.cell? ⟨Ha, 0, none⟩ = some (.bool false) ∧ w'.cell? ⟨Ha, 1, none⟩ = some (.slice oa la ca) ∧ w'.cell? ⟨Hb, 0, none⟩ = some (.bool false) ∧ w'.cell? ⟨Hb, 1, none⟩ = some (.slice ob lb cb)) (go_keep) (first | (clear mk0; go_at_call 87; refine (radd_any oa ob la ca lb cb xa xb _ (by omega) (by omega) hxa hxb AX.out AY.out oka okb).mono ?_; rintro e v2 ⟨o1, c1, y1, rfl, hl1, at1, is1, hm1, hbel⟩; have AT1 := hide at1; have IS1 := hide is1; clear at1 is1; replace bw : Hid (Below w0.drew.heap.size w0.drew v2) := bw.out.trans (hbel.mono bw.out.size); have hsz := hbel.size; clear hbel; have tPA := PA.out.below bw.out PA.out.lt; replace a0 := tPA.cell0; replace a1 := tPA.cell1; clear tPA; have tPB := PB.out.below bw.out PB.out.lt; replace b0 := tPB.cell0; replace b1 := tPB.cell1; clear tPB; have HV2 : Hid (w0.heap.size ≤ v2.heap.size) := (by have h := bw.out.size; simpa [Hid] using h); clear hsz; have mk1 : True := trivial) | (clear mk1; go_at_call 65; refine (rmake false o1 y1.length c1 y1 _ (by omega) rfl AT1.out IS1.out.1).mono ?_; rintro e v3 ⟨sg, o2, c2, r2, hs, rfl, hl2, rs2, is2, hm2, hbel⟩; rw [IS1.out.2.2] at hs is2; have F2 := hide rs2; have IS2 := hide is2; clear rs2 is2; replace bw : Hid (Below w0.drew.heap.size w0.drew v3) := bw.out.trans (hbel.mono bw.out.size); have hsz := hbel.size; clear hbel; have tPA := PA.out.below bw.out PA.out.lt; replace a0 := tPA.cell0; replace a1 := tPA.cell1; clear tPA; have tPB := PB.out.below bw.out PB.out.lt; replace b0 := tPB.cell0; replace b1 := tPB.cell1; clear tPB; have p4' := P4.out.below bw.out P4.out.lt; have d0 := p4'.cell0; have d1 := p4'.cell1; have f0 := p4'.free 0; have f1 := p4'.free 1; have P4L := hide p4'; clear p4'; clear hsz))
  have hfin := HB0.out.trans (bw.out.mono HB0.out.size)
  clear a0 a1 b0 b1 PA PB AX AY
  go_wp2
  refine bodyPost_ret (results_pairR rfl _ _ _ _ _ rfl (P4L.out.put _ _)) rfl ?_
  exact RWPost.ret (H := H4) hs hl2 F2.out HLE.out (by have := HLT.out; have := HV2.out; omega) (Nat.le_refl _) IS2.out (by omega) hfin

set_option maxRecDepth 100000 in
set_option maxHeartbeats 2000000 in
theorem raddw_tt (oa ob : Option Addr) (la ca lb cb : Nat) (xa xb : List Nat) (w : World) (hla : la ≤ 20000000) (hlb : lb ≤ 20000000) (_hlac : la ≤ ca) (_hlbc : lb ≤ cb) (hxa : xa.length = la) (hxb : xb.length = lb) (ata : At .u32 w oa xa) (atb : At .u32 w ob xb) (oka : Ok 65536 xa) (okb : Ok 65536 xb)  :
    Calls Tryz.prog 71 #[.agg #[.bool true, .slice oa la ca], .agg #[.bool true, .slice ob lb cb]] w (RWPost w (max la lb + 2) (zv true (num 65536 xa + num 65536 xb))) := by
  go_enter Tryz.func71, Tryz.ntmps71
  go_wp2_with fail
  have hb0 : Below w.heap.size w (((w.alloc (Obj.cells #[Value.bool true, Value.slice oa la ca] 56)).alloc (Obj.cells #[Value.bool true, Value.slice ob lb cb] 56)).alloc (Obj.cells #[Value.bool false, Value.slice none 0 0] 56)) := (((Below.refl _ _).alloc (Nat.le_refl _) _).alloc (by simp) _).alloc (by simp; omega) _
  have pa := ((Pair.new w (.bool true) (.slice oa la ca) 56).alloc (Obj.cells #[Value.bool true, Value.slice ob lb cb] 56)).alloc (Obj.cells #[Value.bool false, Value.slice none 0 0] 56)
  have pb := (Pair.newAt (w.alloc (Obj.cells #[Value.bool true, Value.slice oa la ca] 56)) (w.heap.size + 1) (by simp) (.bool true) (.slice ob lb cb) 56).alloc (Obj.cells #[Value.bool false, Value.slice none 0 0] 56)
  have p4 := Pair.newAt ((w.alloc (Obj.cells #[Value.bool true, Value.slice oa la ca] 56)).alloc (Obj.cells #[Value.bool true, Value.slice ob lb cb] 56)) (w.heap.size + 1 + 1) (by simp) (.bool false) (.slice none 0 0) 56
  have ax := ((ata.alloc (Obj.cells #[Value.bool true, Value.slice oa la ca] 56)).alloc (Obj.cells #[Value.bool true, Value.slice ob lb cb] 56)).alloc (Obj.cells #[Value.bool false, Value.slice none 0 0] 56)
  have ay := ((atb.alloc (Obj.cells #[Value.bool true, Value.slice oa la ca] 56)).alloc (Obj.cells #[Value.bool true, Value.slice ob lb cb] 56)).alloc (Obj.cells #[Value.bool false, Value.slice none 0 0] 56)
  clear ata atb
  generalize (((w.alloc (Obj.cells #[Value.bool true, Value.slice oa la ca] 56)).alloc (Obj.cells #[Value.bool true, Value.slice ob lb cb] 56)).alloc (Obj.cells #[Value.bool false, Value.slice none 0 0] 56)) = w0 at *
  obtain ⟨H4, e4⟩ : ∃ H, H = w.heap.size + 1 + 1 := ⟨_, rfl⟩
  obtain ⟨Hb, eb⟩ : ∃ H, H = w.heap.size + 1 := ⟨_, rfl⟩
  obtain ⟨Ha, ea⟩ : ∃ H, H = w.heap.size := ⟨_, rfl⟩
  rw [← e4] at p4
  rw [← eb] at pb
  rw [← ea] at pa
  simp only [← e4]
  simp only [← eb]
  simp only [← ea]
  have n1 : H4 ≠ Ha := by omega
  have n2 : H4 ≠ Hb := by omega
  have n3 : Ha ≠ H4 := by omega
  have n4 : Hb ≠ H4 := by omega
  have HLE : Hid (w.heap.size ≤ H4) := by show _ ≤ _; omega
  clear e4 eb ea
  have AX := hide (ax.below (bdrew w0))
  have AY := hide (ay.below (bdrew w0))
  have PA := hide (pa.below (bdrew w0) pa.lt)
  have PB := hide (pb.below (bdrew w0) pb.lt)
  have P4 := hide (p4.below (bdrew w0) p4.lt)
  have a0 := pa.cell0
  have a1 := pa.cell1
  have b0 := pb.cell0
  have b1 := pb.cell1
  have HLT : Hid (H4 < w0.heap.size) := p4.lt
  have HB0 := hide (hb0.trans ((bdrew w0).mono hb0.size))
  have bw : Hid (Below w0.drew.heap.size w0.drew w0.drew) := Below.refl _ _
  have mk0 : True := trivial
  clear ax ay pa pb p4 hb0
  go_region_held3 (fun w' => w'.cell? ⟨Ha, 0, none⟩ = some (.bool true) ∧ w'.cell? ⟨Ha, 1, none⟩ = some (.slice oa la ca) ∧ w'.cell? ⟨Hb, 0, none⟩ = some (.bool true) ∧ w'.cell? ⟨Hb, 1, none⟩ = some (.slice ob lb cb)) (go_keep) (first | (clear mk0; go_at_call 87; refine (radd_any oa ob la ca lb cb xa xb _ (by omega) (by omega) hxa hxb AX.out AY.out oka okb).mono ?_; rintro e v2 ⟨o1, c1, y1, rfl, hl1, at1, is1, hm1, hbel⟩; have AT1 := hide at1; have IS1 := hide is1; clear at1 is1; replace bw : Hid (Below w0.drew.heap.size w0.drew v2) := bw.out.trans (hbel.mono bw.out.size); have hsz := hbel.size; clear hbel; have tPA := PA.out.below bw.out PA.out.lt; replace a0 := tPA.cell0; replace a1 := tPA.cell1; clear tPA; have tPB := PB.out.below bw.out PB.out.lt; replace b0 := tPB.cell0; replace b1 := tPB.cell1; clear tPB; have HV2 : Hid (w0.heap.size ≤ v2.heap.size) := (by have h := bw.out.size; simpa [Hid] using h); clear hsz; have mk1 : True := trivial) | (clear mk1; go_at_call 65; refine (rmake true o1 y1.length c1 y1 _ (by omega) rfl AT1.out IS1.out.1).mono ?_; rintro e v3 ⟨sg, o2, c2, r2, hs, rfl, hl2, rs2, is2, hm2, hbel⟩; rw [IS1.out.2.2] at hs is2; have F2 := hide rs2; have IS2 := hide is2; clear rs2 is2; replace bw : Hid (Below w0.drew.heap.size w0.drew v3) := bw.out.trans (hbel.mono bw.out.size); have hsz := hbel.size; clear hbel; have tPA := PA.out.below bw.out PA.out.lt; replace a0 := tPA.cell0; replace a1 := tPA.cell1; clear tPA; have tPB := PB.out.below bw.out PB.out.lt; replace b0 := tPB.cell0; replace b1 := tPB.cell1; clear tPB; have p4' := P4.out.below bw.out P4.out.lt; have d0 := p4'.cell0; have d1 := p4'.cell1; have f0 := p4'.free 0; have f1 := p4'.free 1; have P4L := hide p4'; clear p4'; clear hsz))
  have hfin := HB0.out.trans (bw.out.mono HB0.out.size)
  clear a0 a1 b0 b1 PA PB AX AY
  go_wp2
  refine bodyPost_ret (results_pairR rfl _ _ _ _ _ rfl (P4L.out.put _ _)) rfl ?_
  exact RWPost.ret (H := H4) hs hl2 F2.out HLE.out (by have := HLT.out; have := HV2.out; omega) (Nat.le_refl _) IS2.out (by omega) hfin

set_option maxRecDepth 100000 in
set_option maxHeartbeats 2000000 in
theorem raddw_ftg (oa ob : Option Addr) (la ca lb cb : Nat) (xa xb : List Nat) (w : World) (hla : la ≤ 20000000) (hlb : lb ≤ 20000000) (hlac : la ≤ ca) (hlbc : lb ≤ cb) (hxa : xa.length = la) (hxb : xb.length = lb) (ata : At .u32 w oa xa) (atb : At .u32 w ob xb) (oka : Ok 65536 xa) (okb : Ok 65536 xb) (hlen : lb ≤ la) (hc : Hid (¬ num 65536 xa < num 65536 xb)) :
    Calls Tryz.prog 71 #[.agg #[.bool false, .slice oa la ca], .agg #[.bool true, .slice ob lb cb]] w (RWPost w (max la lb + 2) (zv false (num 65536 xa - num 65536 xb))) := by
  obtain ⟨cz, hcz⟩ : ∃ c, c = cmpN (num 65536 xa) (num 65536 xb) := ⟨_, rfl⟩
  have CZ : Hid (cmpN (num 65536 xa) (num 65536 xb) = cz) := hcz.symm
  have hc0 : 0 ≤ cz := by rw [hcz]; unfold cmpN; rw [if_neg hc.out]; split <;> omega
  clear hcz
  go_enter Tryz.func71, Tryz.ntmps71
  go_wp2_with fail
  have hb0 : Below w.heap.size w (((w.alloc (Obj.cells #[Value.bool false, Value.slice oa la ca] 56)).alloc (Obj.cells #[Value.bool true, Value.slice ob lb cb] 56)).alloc (Obj.cells #[Value.bool false, Value.slice none 0 0] 56)) := (((Below.refl _ _).alloc (Nat.le_refl _) _).alloc (by simp) _).alloc (by simp; omega) _
  have pa := ((Pair.new w (.bool false) (.slice oa la ca) 56).alloc (Obj.cells #[Value.bool true, Value.slice ob lb cb] 56)).alloc (Obj.cells #[Value.bool false, Value.slice none 0 0] 56)
  have pb := (Pair.newAt (w.alloc (Obj.cells #[Value.bool false, Value.slice oa la ca] 56)) (w.heap.size + 1) (by simp) (.bool true) (.slice ob lb cb) 56).alloc (Obj.cells #[Value.bool false, Value.slice none 0 0] 56)
  have p4 := Pair.newAt ((w.alloc (Obj.cells #[Value.bool false, Value.slice oa la ca] 56)).alloc (Obj.cells #[Value.bool true, Value.slice ob lb cb] 56)) (w.heap.size + 1 + 1) (by simp) (.bool false) (.slice none 0 0) 56
  have ax := ((ata.alloc (Obj.cells #[Value.bool false, Value.slice oa la ca] 56)).alloc (Obj.cells #[Value.bool true, Value.slice ob lb cb] 56)).alloc (Obj.cells #[Value.bool false, Value.slice none 0 0] 56)
  have ay := ((atb.alloc (Obj.cells #[Value.bool false, Value.slice oa la ca] 56)).alloc (Obj.cells #[Value.bool true, Value.slice ob lb cb] 56)).alloc (Obj.cells #[Value.bool false, Value.slice none 0 0] 56)
  clear ata atb
  generalize (((w.alloc (Obj.cells #[Value.bool false, Value.slice oa la ca] 56)).alloc (Obj.cells #[Value.bool true, Value.slice ob lb cb] 56)).alloc (Obj.cells #[Value.bool false, Value.slice none 0 0] 56)) = w0 at *
  obtain ⟨H4, e4⟩ : ∃ H, H = w.heap.size + 1 + 1 := ⟨_, rfl⟩
  obtain ⟨Hb, eb⟩ : ∃ H, H = w.heap.size + 1 := ⟨_, rfl⟩
  obtain ⟨Ha, ea⟩ : ∃ H, H = w.heap.size := ⟨_, rfl⟩
  rw [← e4] at p4
  rw [← eb] at pb
  rw [← ea] at pa
  simp only [← e4]
  simp only [← eb]
  simp only [← ea]
  have n1 : H4 ≠ Ha := by omega
  have n2 : H4 ≠ Hb := by omega
  have n3 : Ha ≠ H4 := by omega
  have n4 : Hb ≠ H4 := by omega
  have HLE : Hid (w.heap.size ≤ H4) := by show _ ≤ _; omega
  clear e4 eb ea
  refine (rcmp_any oa ob la ca lb cb xa xb _ hlac (by omega) hlbc (by omega) hxa hxb ax ay oka okb cz CZ.out).mono ?_
  rintro e w1 ⟨rfl, hbel⟩
  replace hb0 := hb0.trans (hbel.mono hb0.size)
  replace ax := ax.below hbel
  replace ay := ay.below hbel
  replace pa := pa.below hbel pa.lt
  replace pb := pb.below hbel pb.lt
  replace p4 := p4.below hbel p4.lt
  clear hbel
  go_wp2_with fail
  have AX := hide (ax.below (bdrew w1))
  have AY := hide (ay.below (bdrew w1))
  have PA := hide (pa.below (bdrew w1) pa.lt)
  have PB := hide (pb.below (bdrew w1) pb.lt)
  have P4 := hide (p4.below (bdrew w1) p4.lt)
  have a0 := pa.cell0
  have a1 := pa.cell1
  have b0 := pb.cell0
  have b1 := pb.cell1
  have HLT : Hid (H4 < w1.heap.size) := p4.lt
  have HB0 := hide (hb0.trans ((bdrew w1).mono hb0.size))
  have bw : Hid (Below w1.drew.heap.size w1.drew w1.drew) := Below.refl _ _
  have mk0 : True := trivial
  clear ax ay pa pb p4 hb0
  go_region_held3 (fun w' => w'.cell? ⟨Ha, 0, none⟩ = some (.bool false) ∧ w'.cell? ⟨Ha, 1, none⟩ = some (.slice oa la ca) ∧ w'.cell? ⟨Hb, 0, none⟩ = some (.bool true) ∧ w'.cell? ⟨Hb, 1, none⟩ = some (.slice ob lb cb)) (go_keep) (first | (clear mk0; go_at_call 99; refine (rsub_any oa ob la ca lb cb xa xb _ (by omega) hlen hxa hxb AX.out AY.out oka okb (by have := hc.out; omega)).mono ?_; rintro e v2 ⟨o1, c1, y1, rfl, hl1, at1, is1, hm1, hbel⟩; have AT1 := hide at1; have IS1 := hide is1; clear at1 is1; replace bw : Hid (Below w1.drew.heap.size w1.drew v2) := bw.out.trans (hbel.mono bw.out.size); have hsz := hbel.size; clear hbel; have tPA := PA.out.below bw.out PA.out.lt; replace a0 := tPA.cell0; replace a1 := tPA.cell1; clear tPA; have tPB := PB.out.below bw.out PB.out.lt; replace b0 := tPB.cell0; replace b1 := tPB.cell1; clear tPB; have HV2 : Hid (w1.heap.size ≤ v2.heap.size) := (by have h := bw.out.size; simpa [Hid] using h); clear hsz; have mk1 : True := trivial) | (clear mk1; go_at_call 65; refine (rmake false o1 y1.length c1 y1 _ (by omega) rfl AT1.out IS1.out.1).mono ?_; rintro e v3 ⟨sg, o2, c2, r2, hs, rfl, hl2, rs2, is2, hm2, hbel⟩; rw [IS1.out.2.2] at hs is2; have F2 := hide rs2; have IS2 := hide is2; clear rs2 is2; replace bw : Hid (Below w1.drew.heap.size w1.drew v3) := bw.out.trans (hbel.mono bw.out.size); have hsz := hbel.size; clear hbel; have tPA := PA.out.below bw.out PA.out.lt; replace a0 := tPA.cell0; replace a1 := tPA.cell1; clear tPA; have tPB := PB.out.below bw.out PB.out.lt; replace b0 := tPB.cell0; replace b1 := tPB.cell1; clear tPB; have p4' := P4.out.below bw.out P4.out.lt; have d0 := p4'.cell0; have d1 := p4'.cell1; have f0 := p4'.free 0; have f1 := p4'.free 1; have P4L := hide p4'; clear p4'; clear hsz))
  have hfin := HB0.out.trans (bw.out.mono HB0.out.size)
  clear a0 a1 b0 b1 PA PB AX AY
  go_wp2
  refine bodyPost_ret (results_pairR rfl _ _ _ _ _ rfl (P4L.out.put _ _)) rfl ?_
  exact RWPost.ret (H := H4) hs hl2 F2.out HLE.out (by have := HLT.out; have := HV2.out; omega) (Nat.le_refl _) IS2.out (by omega) hfin

set_option maxRecDepth 100000 in
set_option maxHeartbeats 2000000 in
theorem raddw_ftl (oa ob : Option Addr) (la ca lb cb : Nat) (xa xb : List Nat) (w : World) (hla : la ≤ 20000000) (hlb : lb ≤ 20000000) (hlac : la ≤ ca) (hlbc : lb ≤ cb) (hxa : xa.length = la) (hxb : xb.length = lb) (ata : At .u32 w oa xa) (atb : At .u32 w ob xb) (oka : Ok 65536 xa) (okb : Ok 65536 xb) (hlen : la ≤ lb) (hc : Hid (num 65536 xa < num 65536 xb)) :
    Calls Tryz.prog 71 #[.agg #[.bool false, .slice oa la ca], .agg #[.bool true, .slice ob lb cb]] w (RWPost w (max la lb + 2) (zv true (num 65536 xb - num 65536 xa))) := by
  obtain ⟨cz, hcz⟩ : ∃ c, c = cmpN (num 65536 xa) (num 65536 xb) := ⟨_, rfl⟩
  have CZ : Hid (cmpN (num 65536 xa) (num 65536 xb) = cz) := hcz.symm
  have hc0 : ¬ 0 ≤ cz := by rw [hcz]; unfold cmpN; rw [if_pos hc.out]; omega
  clear hcz
  go_enter Tryz.func71, Tryz.ntmps71
  go_wp2_with fail
  have hb0 : Below w.heap.size w (((w.alloc (Obj.cells #[Value.bool false, Value.slice oa la ca] 56)).alloc (Obj.cells #[Value.bool true, Value.slice ob lb cb] 56)).alloc (Obj.cells #[Value.bool false, Value.slice none 0 0] 56)) := (((Below.refl _ _).alloc (Nat.le_refl _) _).alloc (by simp) _).alloc (by simp; omega) _
  have pa := ((Pair.new w (.bool false) (.slice oa la ca) 56).alloc (Obj.cells #[Value.bool true, Value.slice ob lb cb] 56)).alloc (Obj.cells #[Value.bool false, Value.slice none 0 0] 56)
  have pb := (Pair.newAt (w.alloc (Obj.cells #[Value.bool false, Value.slice oa la ca] 56)) (w.heap.size + 1) (by simp) (.bool true) (.slice ob lb cb) 56).alloc (Obj.cells #[Value.bool false, Value.slice none 0 0] 56)
  have p4 := Pair.newAt ((w.alloc (Obj.cells #[Value.bool false, Value.slice oa la ca] 56)).alloc (Obj.cells #[Value.bool true, Value.slice ob lb cb] 56)) (w.heap.size + 1 + 1) (by simp) (.bool false) (.slice none 0 0) 56
  have ax := ((ata.alloc (Obj.cells #[Value.bool false, Value.slice oa la ca] 56)).alloc (Obj.cells #[Value.bool true, Value.slice ob lb cb] 56)).alloc (Obj.cells #[Value.bool false, Value.slice none 0 0] 56)
  have ay := ((atb.alloc (Obj.cells #[Value.bool false, Value.slice oa la ca] 56)).alloc (Obj.cells #[Value.bool true, Value.slice ob lb cb] 56)).alloc (Obj.cells #[Value.bool false, Value.slice none 0 0] 56)
  clear ata atb
  generalize (((w.alloc (Obj.cells #[Value.bool false, Value.slice oa la ca] 56)).alloc (Obj.cells #[Value.bool true, Value.slice ob lb cb] 56)).alloc (Obj.cells #[Value.bool false, Value.slice none 0 0] 56)) = w0 at *
  obtain ⟨H4, e4⟩ : ∃ H, H = w.heap.size + 1 + 1 := ⟨_, rfl⟩
  obtain ⟨Hb, eb⟩ : ∃ H, H = w.heap.size + 1 := ⟨_, rfl⟩
  obtain ⟨Ha, ea⟩ : ∃ H, H = w.heap.size := ⟨_, rfl⟩
  rw [← e4] at p4
  rw [← eb] at pb
  rw [← ea] at pa
  simp only [← e4]
  simp only [← eb]
  simp only [← ea]
  have n1 : H4 ≠ Ha := by omega
  have n2 : H4 ≠ Hb := by omega
  have n3 : Ha ≠ H4 := by omega
  have n4 : Hb ≠ H4 := by omega
  have HLE : Hid (w.heap.size ≤ H4) := by show _ ≤ _; omega
  clear e4 eb ea
  refine (rcmp_any oa ob la ca lb cb xa xb _ hlac (by omega) hlbc (by omega) hxa hxb ax ay oka okb cz CZ.out).mono ?_
  rintro e w1 ⟨rfl, hbel⟩
  replace hb0 := hb0.trans (hbel.mono hb0.size)
  replace ax := ax.below hbel
  replace ay := ay.below hbel
  replace pa := pa.below hbel pa.lt
  replace pb := pb.below hbel pb.lt
  replace p4 := p4.below hbel p4.lt
  clear hbel
  go_wp2_with fail
  have AX := hide (ax.below (bdrew w1))
  have AY := hide (ay.below (bdrew w1))
  have PA := hide (pa.below (bdrew w1) pa.lt)
  have PB := hide (pb.below (bdrew w1) pb.lt)
  have P4 := hide (p4.below (bdrew w1) p4.lt)
  have a0 := pa.cell0
  have a1 := pa.cell1
  have b0 := pb.cell0
  have b1 := pb.cell1
  have HLT : Hid (H4 < w1.heap.size) := p4.lt
  have HB0 := hide (hb0.trans ((bdrew w1).mono hb0.size))
  have bw : Hid (Below w1.drew.heap.size w1.drew w1.drew) := Below.refl _ _
  have mk0 : True := trivial
  clear ax ay pa pb p4 hb0
  go_region_held3 (fun w' => w'.cell? ⟨Ha, 0, none⟩ = some (.bool false) ∧ w'.cell? ⟨Ha, 1, none⟩ = some (.slice oa la ca) ∧ w'.cell? ⟨Hb, 0, none⟩ = some (.bool true) ∧ w'.cell? ⟨Hb, 1, none⟩ = some (.slice ob lb cb)) (go_keep) (first | (clear mk0; go_at_call 99; refine (rsub_any ob oa lb cb la ca xb xa _ (by omega) hlen hxb hxa AY.out AX.out okb oka (by have := hc.out; omega)).mono ?_; rintro e v2 ⟨o1, c1, y1, rfl, hl1, at1, is1, hm1, hbel⟩; have AT1 := hide at1; have IS1 := hide is1; clear at1 is1; replace bw : Hid (Below w1.drew.heap.size w1.drew v2) := bw.out.trans (hbel.mono bw.out.size); have hsz := hbel.size; clear hbel; have tPA := PA.out.below bw.out PA.out.lt; replace a0 := tPA.cell0; replace a1 := tPA.cell1; clear tPA; have tPB := PB.out.below bw.out PB.out.lt; replace b0 := tPB.cell0; replace b1 := tPB.cell1; clear tPB; have HV2 : Hid (w1.heap.size ≤ v2.heap.size) := (by have h := bw.out.size; simpa [Hid] using h); clear hsz; have mk1 : True := trivial) | (clear mk1; go_at_call 65; refine (rmake true o1 y1.length c1 y1 _ (by omega) rfl AT1.out IS1.out.1).mono ?_; rintro e v3 ⟨sg, o2, c2, r2, hs, rfl, hl2, rs2, is2, hm2, hbel⟩; rw [IS1.out.2.2] at hs is2; have F2 := hide rs2; have IS2 := hide is2; clear rs2 is2; replace bw : Hid (Below w1.drew.heap.size w1.drew v3) := bw.out.trans (hbel.mono bw.out.size); have hsz := hbel.size; clear hbel; have tPA := PA.out.below bw.out PA.out.lt; replace a0 := tPA.cell0; replace a1 := tPA.cell1; clear tPA; have tPB := PB.out.below bw.out PB.out.lt; replace b0 := tPB.cell0; replace b1 := tPB.cell1; clear tPB; have p4' := P4.out.below bw.out P4.out.lt; have d0 := p4'.cell0; have d1 := p4'.cell1; have f0 := p4'.free 0; have f1 := p4'.free 1; have P4L := hide p4'; clear p4'; clear hsz))
  have hfin := HB0.out.trans (bw.out.mono HB0.out.size)
  clear a0 a1 b0 b1 PA PB AX AY
  go_wp2
  refine bodyPost_ret (results_pairR rfl _ _ _ _ _ rfl (P4L.out.put _ _)) rfl ?_
  exact RWPost.ret (H := H4) hs hl2 F2.out HLE.out (by have := HLT.out; have := HV2.out; omega) (Nat.le_refl _) IS2.out (by omega) hfin

set_option maxRecDepth 100000 in
set_option maxHeartbeats 2000000 in
theorem raddw_tfg (oa ob : Option Addr) (la ca lb cb : Nat) (xa xb : List Nat) (w : World) (hla : la ≤ 20000000) (hlb : lb ≤ 20000000) (hlac : la ≤ ca) (hlbc : lb ≤ cb) (hxa : xa.length = la) (hxb : xb.length = lb) (ata : At .u32 w oa xa) (atb : At .u32 w ob xb) (oka : Ok 65536 xa) (okb : Ok 65536 xb) (hlen : lb ≤ la) (hc : Hid (¬ num 65536 xa < num 65536 xb)) :
    Calls Tryz.prog 71 #[.agg #[.bool true, .slice oa la ca], .agg #[.bool false, .slice ob lb cb]] w (RWPost w (max la lb + 2) (zv true (num 65536 xa - num 65536 xb))) := by
  obtain ⟨cz, hcz⟩ : ∃ c, c = cmpN (num 65536 xa) (num 65536 xb) := ⟨_, rfl⟩
  have CZ : Hid (cmpN (num 65536 xa) (num 65536 xb) = cz) := hcz.symm
  have hc0 : 0 ≤ cz := by rw [hcz]; unfold cmpN; rw [if_neg hc.out]; split <;> omega
  clear hcz
  go_enter Tryz.func71, Tryz.ntmps71
  go_wp2_with fail
  have hb0 : Below w.heap.size w (((w.alloc (Obj.cells #[Value.bool true, Value.slice oa la ca] 56)).alloc (Obj.cells #[Value.bool false, Value.slice ob lb cb] 56)).alloc (Obj.cells #[Value.bool false, Value.slice none 0 0] 56)) := (((Below.refl _ _).alloc (Nat.le_refl _) _).alloc (by simp) _).alloc (by simp; omega) _
  have pa := ((Pair.new w (.bool true) (.slice oa la ca) 56).alloc (Obj.cells #[Value.bool false, Value.slice ob lb cb] 56)).alloc (Obj.cells #[Value.bool false, Value.slice none 0 0] 56)
  have pb := (Pair.newAt (w.alloc (Obj.cells #[Value.bool true, Value.slice oa la ca] 56)) (w.heap.size + 1) (by simp) (.bool false) (.slice ob lb cb) 56).alloc (Obj.cells #[Value.bool false, Value.slice none 0 0] 56)
  have p4 := Pair.newAt ((w.alloc (Obj.cells #[Value.bool true, Value.slice oa la ca] 56)).alloc (Obj.cells #[Value.bool false, Value.slice ob lb cb] 56)) (w.heap.size + 1 + 1) (by simp) (.bool false) (.slice none 0 0) 56
  have ax := ((ata.alloc (Obj.cells #[Value.bool true, Value.slice oa la ca] 56)).alloc (Obj.cells #[Value.bool false, Value.slice ob lb cb] 56)).alloc (Obj.cells #[Value.bool false, Value.slice none 0 0] 56)
  have ay := ((atb.alloc (Obj.cells #[Value.bool true, Value.slice oa la ca] 56)).alloc (Obj.cells #[Value.bool false, Value.slice ob lb cb] 56)).alloc (Obj.cells #[Value.bool false, Value.slice none 0 0] 56)
  clear ata atb
  generalize (((w.alloc (Obj.cells #[Value.bool true, Value.slice oa la ca] 56)).alloc (Obj.cells #[Value.bool false, Value.slice ob lb cb] 56)).alloc (Obj.cells #[Value.bool false, Value.slice none 0 0] 56)) = w0 at *
  obtain ⟨H4, e4⟩ : ∃ H, H = w.heap.size + 1 + 1 := ⟨_, rfl⟩
  obtain ⟨Hb, eb⟩ : ∃ H, H = w.heap.size + 1 := ⟨_, rfl⟩
  obtain ⟨Ha, ea⟩ : ∃ H, H = w.heap.size := ⟨_, rfl⟩
  rw [← e4] at p4
  rw [← eb] at pb
  rw [← ea] at pa
  simp only [← e4]
  simp only [← eb]
  simp only [← ea]
  have n1 : H4 ≠ Ha := by omega
  have n2 : H4 ≠ Hb := by omega
  have n3 : Ha ≠ H4 := by omega
  have n4 : Hb ≠ H4 := by omega
  have HLE : Hid (w.heap.size ≤ H4) := by show _ ≤ _; omega
  clear e4 eb ea
  refine (rcmp_any oa ob la ca lb cb xa xb _ hlac (by omega) hlbc (by omega) hxa hxb ax ay oka okb cz CZ.out).mono ?_
  rintro e w1 ⟨rfl, hbel⟩
  replace hb0 := hb0.trans (hbel.mono hb0.size)
  replace ax := ax.below hbel
  replace ay := ay.below hbel
  replace pa := pa.below hbel pa.lt
  replace pb := pb.below hbel pb.lt
  replace p4 := p4.below hbel p4.lt
  clear hbel
  go_wp2_with fail
  have AX := hide (ax.below (bdrew w1))
  have AY := hide (ay.below (bdrew w1))
  have PA := hide (pa.below (bdrew w1) pa.lt)
  have PB := hide (pb.below (bdrew w1) pb.lt)
  have P4 := hide (p4.below (bdrew w1) p4.lt)
  have a0 := pa.cell0
  have a1 := pa.cell1
  have b0 := pb.cell0
  have b1 := pb.cell1
  have HLT : Hid (H4 < w1.heap.size) := p4.lt
  have HB0 := hide (hb0.trans ((bdrew w1).mono hb0.size))
  have bw : Hid (Below w1.drew.heap.size w1.drew w1.drew) := Below.refl _ _
  have mk0 : True := trivial
  clear ax ay pa pb p4 hb0
  go_region_held3 (fun w' => w'.cell? ⟨Ha, 0, none⟩ = some (.bool true) ∧ w'.cell? ⟨Ha, 1, none⟩ = some (.slice oa la ca) ∧ w'.cell? ⟨Hb, 0, none⟩ = some (.bool false) ∧ w'.cell? ⟨Hb, 1, none⟩ = some (.slice ob lb cb)) (go_keep) (first | (clear mk0; go_at_call 99; refine (rsub_any oa ob la ca lb cb xa xb _ (by omega) hlen hxa hxb AX.out AY.out oka okb (by have := hc.out; omega)).mono ?_; rintro e v2 ⟨o1, c1, y1, rfl, hl1, at1, is1, hm1, hbel⟩; have AT1 := hide at1; have IS1 := hide is1; clear at1 is1; replace bw : Hid (Below w1.drew.heap.size w1.drew v2) := bw.out.trans (hbel.mono bw.out.size); have hsz := hbel.size; clear hbel; have tPA := PA.out.below bw.out PA.out.lt; replace a0 := tPA.cell0; replace a1 := tPA.cell1; clear tPA; have tPB := PB.out.below bw.out PB.out.lt; replace b0 := tPB.cell0; replace b1 := tPB.cell1; clear tPB; have HV2 : Hid (w1.heap.size ≤ v2.heap.size) := (by have h := bw.out.size; simpa [Hid] using h); clear hsz; have mk1 : True := trivial) | (clear mk1; go_at_call 65; refine (rmake true o1 y1.length c1 y1 _ (by omega) rfl AT1.out IS1.out.1).mono ?_; rintro e v3 ⟨sg, o2, c2, r2, hs, rfl, hl2, rs2, is2, hm2, hbel⟩; rw [IS1.out.2.2] at hs is2; have F2 := hide rs2; have IS2 := hide is2; clear rs2 is2; replace bw : Hid (Below w1.drew.heap.size w1.drew v3) := bw.out.trans (hbel.mono bw.out.size); have hsz := hbel.size; clear hbel; have tPA := PA.out.below bw.out PA.out.lt; replace a0 := tPA.cell0; replace a1 := tPA.cell1; clear tPA; have tPB := PB.out.below bw.out PB.out.lt; replace b0 := tPB.cell0; replace b1 := tPB.cell1; clear tPB; have p4' := P4.out.below bw.out P4.out.lt; have d0 := p4'.cell0; have d1 := p4'.cell1; have f0 := p4'.free 0; have f1 := p4'.free 1; have P4L := hide p4'; clear p4'; clear hsz))
  have hfin := HB0.out.trans (bw.out.mono HB0.out.size)
  clear a0 a1 b0 b1 PA PB AX AY
  go_wp2
  refine bodyPost_ret (results_pairR rfl _ _ _ _ _ rfl (P4L.out.put _ _)) rfl ?_
  exact RWPost.ret (H := H4) hs hl2 F2.out HLE.out (by have := HLT.out; have := HV2.out; omega) (Nat.le_refl _) IS2.out (by omega) hfin

set_option maxRecDepth 100000 in
set_option maxHeartbeats 2000000 in
theorem raddw_tfl (oa ob : Option Addr) (la ca lb cb : Nat) (xa xb : List Nat) (w : World) (hla : la ≤ 20000000) (hlb : lb ≤ 20000000) (hlac : la ≤ ca) (hlbc : lb ≤ cb) (hxa : xa.length = la) (hxb : xb.length = lb) (ata : At .u32 w oa xa) (atb : At .u32 w ob xb) (oka : Ok 65536 xa) (okb : Ok 65536 xb) (hlen : la ≤ lb) (hc : Hid (num 65536 xa < num 65536 xb)) :
    Calls Tryz.prog 71 #[.agg #[.bool true, .slice oa la ca], .agg #[.bool false, .slice ob lb cb]] w (RWPost w (max la lb + 2) (zv false (num 65536 xb - num 65536 xa))) := by
  obtain ⟨cz, hcz⟩ : ∃ c, c = cmpN (num 65536 xa) (num 65536 xb) := ⟨_, rfl⟩
  have CZ : Hid (cmpN (num 65536 xa) (num 65536 xb) = cz) := hcz.symm
  have hc0 : ¬ 0 ≤ cz := by rw [hcz]; unfold cmpN; rw [if_pos hc.out]; omega
  clear hcz
  go_enter Tryz.func71, Tryz.ntmps71
  go_wp2_with fail
  have hb0 : Below w.heap.size w (((w.alloc (Obj.cells #[Value.bool true, Value.slice oa la ca] 56)).alloc (Obj.cells #[Value.bool false, Value.slice ob lb cb] 56)).alloc (Obj.cells #[Value.bool false, Value.slice none 0 0] 56)) := (((Below.refl _ _).alloc (Nat.le_refl _) _).alloc (by simp) _).alloc (by simp; omega) _
  have pa := ((Pair.new w (.bool true) (.slice oa la ca) 56).alloc (Obj.cells #[Value.bool false, Value.slice ob lb cb] 56)).alloc (Obj.cells #[Value.bool false, Value.slice none 0 0] 56)
  have pb := (Pair.newAt (w.alloc (Obj.cells #[Value.bool true, Value.slice oa la ca] 56)) (w.heap.size + 1) (by simp) (.bool false) (.slice ob lb cb) 56).alloc (Obj.cells #[Value.bool false, Value.slice none 0 0] 56)
  have p4 := Pair.newAt ((w.alloc (Obj.cells #[Value.bool true, Value.slice oa la ca] 56)).alloc (Obj.cells #[Value.bool false, Value.slice ob lb cb] 56)) (w.heap.size + 1 + 1) (by simp) (.bool false) (.slice none 0 0) 56
  have ax := ((ata.alloc (Obj.cells #[Value.bool true, Value.slice oa la ca] 56)).alloc (Obj.cells #[Value.bool false, Value.slice ob lb cb] 56)).alloc (Obj.cells #[Value.bool false, Value.slice none 0 0] 56)
  have ay := ((atb.alloc (Obj.cells #[Value.bool true, Value.slice oa la ca] 56)).alloc (Obj.cells #[Value.bool false, Value.slice ob lb cb] 56)).alloc (Obj.cells #[Value.bool false, Value.slice none 0 0] 56)
  clear ata atb
  generalize (((w.alloc (Obj.cells #[Value.bool true, Value.slice oa la ca] 56)).alloc (Obj.cells #[Value.bool false, Value.slice ob lb cb] 56)).alloc (Obj.cells #[Value.bool false, Value.slice none 0 0] 56)) = w0 at *
  obtain ⟨H4, e4⟩ : ∃ H, H = w.heap.size + 1 + 1 := ⟨_, rfl⟩
  obtain ⟨Hb, eb⟩ : ∃ H, H = w.heap.size + 1 := ⟨_, rfl⟩
  obtain ⟨Ha, ea⟩ : ∃ H, H = w.heap.size := ⟨_, rfl⟩
  rw [← e4] at p4
  rw [← eb] at pb
  rw [← ea] at pa
  simp only [← e4]
  simp only [← eb]
  simp only [← ea]
  have n1 : H4 ≠ Ha := by omega
  have n2 : H4 ≠ Hb := by omega
  have n3 : Ha ≠ H4 := by omega
  have n4 : Hb ≠ H4 := by omega
  have HLE : Hid (w.heap.size ≤ H4) := by show _ ≤ _; omega
  clear e4 eb ea
  refine (rcmp_any oa ob la ca lb cb xa xb _ hlac (by omega) hlbc (by omega) hxa hxb ax ay oka okb cz CZ.out).mono ?_
  rintro e w1 ⟨rfl, hbel⟩
  replace hb0 := hb0.trans (hbel.mono hb0.size)
  replace ax := ax.below hbel
  replace ay := ay.below hbel
  replace pa := pa.below hbel pa.lt
  replace pb := pb.below hbel pb.lt
  replace p4 := p4.below hbel p4.lt
  clear hbel
  go_wp2_with fail
  have AX := hide (ax.below (bdrew w1))
  have AY := hide (ay.below (bdrew w1))
  have PA := hide (pa.below (bdrew w1) pa.lt)
  have PB := hide (pb.below (bdrew w1) pb.lt)
  have P4 := hide (p4.below (bdrew w1) p4.lt)
  have a0 := pa.cell0
  have a1 := pa.cell1
  have b0 := pb.cell0
  have b1 := pb.cell1
  have HLT : Hid (H4 < w1.heap.size) := p4.lt
  have HB0 := hide (hb0.trans ((bdrew w1).mono hb0.size))
  have bw : Hid (Below w1.drew.heap.size w1.drew w1.drew) := Below.refl _ _
  have mk0 : True := trivial
  clear ax ay pa pb p4 hb0
  go_region_held3 (fun w' => w'.cell? ⟨Ha, 0, none⟩ = some (.bool true) ∧ w'.cell? ⟨Ha, 1, none⟩ = some (.slice oa la ca) ∧ w'.cell? ⟨Hb, 0, none⟩ = some (.bool false) ∧ w'.cell? ⟨Hb, 1, none⟩ = some (.slice ob lb cb)) (go_keep) (first | (clear mk0; go_at_call 99; refine (rsub_any ob oa lb cb la ca xb xa _ (by omega) hlen hxb hxa AY.out AX.out okb oka (by have := hc.out; omega)).mono ?_; rintro e v2 ⟨o1, c1, y1, rfl, hl1, at1, is1, hm1, hbel⟩; have AT1 := hide at1; have IS1 := hide is1; clear at1 is1; replace bw : Hid (Below w1.drew.heap.size w1.drew v2) := bw.out.trans (hbel.mono bw.out.size); have hsz := hbel.size; clear hbel; have tPA := PA.out.below bw.out PA.out.lt; replace a0 := tPA.cell0; replace a1 := tPA.cell1; clear tPA; have tPB := PB.out.below bw.out PB.out.lt; replace b0 := tPB.cell0; replace b1 := tPB.cell1; clear tPB; have HV2 : Hid (w1.heap.size ≤ v2.heap.size) := (by have h := bw.out.size; simpa [Hid] using h); clear hsz; have mk1 : True := trivial) | (clear mk1; go_at_call 65; refine (rmake false o1 y1.length c1 y1 _ (by omega) rfl AT1.out IS1.out.1).mono ?_; rintro e v3 ⟨sg, o2, c2, r2, hs, rfl, hl2, rs2, is2, hm2, hbel⟩; rw [IS1.out.2.2] at hs is2; have F2 := hide rs2; have IS2 := hide is2; clear rs2 is2; replace bw : Hid (Below w1.drew.heap.size w1.drew v3) := bw.out.trans (hbel.mono bw.out.size); have hsz := hbel.size; clear hbel; have tPA := PA.out.below bw.out PA.out.lt; replace a0 := tPA.cell0; replace a1 := tPA.cell1; clear tPA; have tPB := PB.out.below bw.out PB.out.lt; replace b0 := tPB.cell0; replace b1 := tPB.cell1; clear tPB; have p4' := P4.out.below bw.out P4.out.lt; have d0 := p4'.cell0; have d1 := p4'.cell1; have f0 := p4'.free 0; have f1 := p4'.free 1; have P4L := hide p4'; clear p4'; clear hsz))
  have hfin := HB0.out.trans (bw.out.mono HB0.out.size)
  clear a0 a1 b0 b1 PA PB AX AY
  go_wp2
  refine bodyPost_ret (results_pairR rfl _ _ _ _ _ rfl (P4L.out.put _ _)) rfl ?_
  exact RWPost.ret (H := H4) hs hl2 F2.out HLE.out (by have := HLT.out; have := HV2.out; omega) (Nat.le_refl _) IS2.out (by omega) hfin

theorem raddz (s t : Bool) (oa ob : Option Addr) (la ca lb cb : Nat) (xa xb : List Nat) (w : World) (hla : la ≤ 20000000) (hlb : lb ≤ 20000000) (hlac : la ≤ ca) (hlbc : lb ≤ cb) (hxa : xa.length = la) (hxb : xb.length = lb) (ata : At .u32 w oa xa) (atb : At .u32 w ob xb) (z u : Int) (hz : Hid (NI32 s xa z)) (hu : Hid (NI32 t xb u)) :
    Calls Tryz.prog 71 #[.agg #[.bool s, .slice oa la ca], .agg #[.bool t, .slice ob lb cb]] w (RWPost w (max la lb + 2) (z + u)) := by
  rw [← hz.out.nv.2, ← hu.out.nv.2]
  have h1 : ¬ num 65536 xa < num 65536 xb → lb ≤ la := fun h => by rw [← hxa, ← hxb]; exact len_le (b := 65536) (by omega) hz.out.2.1 hu.out.2.2.1 (by omega)
  have h2 : num 65536 xa < num 65536 xb → la ≤ lb := fun h => by rw [← hxa, ← hxb]; exact len_le (b := 65536) (by omega) hu.out.2.1 hz.out.2.2.1 (by omega)
  cases s
  · cases t
    · rw [outward_val]; exact raddw_ff oa ob la ca lb cb xa xb w hla hlb hlac hlbc hxa hxb ata atb hz.out.2.1 hu.out.2.1
    · rw [inward_val (by simp)]
      by_cases h : num 65536 xa < num 65536 xb
      · rw [if_pos h]; exact raddw_ftl oa ob la ca lb cb xa xb w hla hlb hlac hlbc hxa hxb ata atb hz.out.2.1 hu.out.2.1 (h2 h) h
      · rw [if_neg h]; exact raddw_ftg oa ob la ca lb cb xa xb w hla hlb hlac hlbc hxa hxb ata atb hz.out.2.1 hu.out.2.1 (h1 h) h
  · cases t
    · rw [inward_val (by simp)]
      by_cases h : num 65536 xa < num 65536 xb
      · rw [if_pos h]; exact raddw_tfl oa ob la ca lb cb xa xb w hla hlb hlac hlbc hxa hxb ata atb hz.out.2.1 hu.out.2.1 (h2 h) h
      · rw [if_neg h]; exact raddw_tfg oa ob la ca lb cb xa xb w hla hlb hlac hlbc hxa hxb ata atb hz.out.2.1 hu.out.2.1 (h1 h) h
    · rw [outward_val]; exact raddw_tt oa ob la ca lb cb xa xb w hla hlb hlac hlbc hxa hxb ata atb hz.out.2.1 hu.out.2.1

end Go.Proofs.YtifpacgacbpalaaGreatDoor

namespace Go.Proofs.YtifpacgacbpalaaGreatDoor
open Go.RowKit

/-- Where the ways through Cmp's first region meet: the difference lies in a variable. -/
structure CutD (w : World) (z : Int) (v : Value) (W : World) : Prop where
  ex : ∃ (H : Nat) (s : Bool) (o : Option Addr) (c : Nat) (r : List Nat), v = .pointer (some ⟨H, 0, none⟩) ∧ Pair W H (.bool s) (.slice o r.length c) 56 ∧ NI32 s r z ∧ Below w.heap.size w W

set_option maxRecDepth 100000 in
set_option maxHeartbeats 2000000 in
theorem rcmpz (s t : Bool) (oa ob : Option Addr) (la ca lb cb : Nat) (xa xb : List Nat) (w : World) (hla : la ≤ 10000000) (hlb : lb ≤ 10000000) (hlac : la ≤ ca) (hxa : xa.length = la) (hxb : xb.length = lb) (ata : At .u32 w oa xa) (atb : At .u32 w ob xb) (z u : Int) (hz : Hid (NI32 s xa z)) (hu : Hid (NI32 t xb u)) (v : Int) (hv : Hid (cmpZ z u = v)) :
    Calls Tryz.prog 63 #[.agg #[.bool s, .slice oa la ca], .agg #[.bool t, .slice ob lb cb]] w fun e w' => e = .returned (.int .i64 v) ∧ Below w.heap.size w w' := by
  go_enter Tryz.func63, Tryz.ntmps63
  go_wp2_with fail
  have hb0 : Below w.heap.size w ((w.alloc (Obj.cells #[Value.bool s, Value.slice oa la ca] 56)).alloc (Obj.cells #[Value.bool t, Value.slice ob lb cb] 56)) := ((Below.refl _ _).alloc (Nat.le_refl _) _).alloc (by simp) _
  have pa := (Pair.new w (.bool s) (.slice oa la ca) 56).alloc (Obj.cells #[Value.bool t, Value.slice ob lb cb] 56)
  have pb := Pair.newAt (w.alloc (Obj.cells #[Value.bool s, Value.slice oa la ca] 56)) (w.heap.size + 1) (by simp) (.bool t) (.slice ob lb cb) 56
  have ax := (ata.alloc (Obj.cells #[Value.bool s, Value.slice oa la ca] 56)).alloc (Obj.cells #[Value.bool t, Value.slice ob lb cb] 56)
  have ay := (atb.alloc (Obj.cells #[Value.bool s, Value.slice oa la ca] 56)).alloc (Obj.cells #[Value.bool t, Value.slice ob lb cb] 56)
  clear ata atb
  generalize ((w.alloc (Obj.cells #[Value.bool s, Value.slice oa la ca] 56)).alloc (Obj.cells #[Value.bool t, Value.slice ob lb cb] 56)) = w0 at *
  obtain ⟨Hb, eb⟩ : ∃ H, H = w.heap.size + 1 := ⟨_, rfl⟩
  obtain ⟨Ha, ea⟩ : ∃ H, H = w.heap.size := ⟨_, rfl⟩
  rw [← eb] at pb
  rw [← ea] at pa
  simp only [← eb]
  simp only [← ea]
  clear eb ea
  go_cut [5] (fun v5 wx => CutD w0 (z + -u) v5 wx)
  case first =>
    have a0 := pa.cell0
    have a1 := pa.cell1
    have b0 := pb.cell0
    have b1 := pb.cell1
    have PA := hide pa
    have PB := hide pb
    have AX := hide ax
    have AY := hide ay
    have d0 : Hid (Below w0.heap.size w0 w0.drew) := bdrew w0
    have bw0 : Hid (Below w0.heap.size w0 w0) := Below.refl _ _
    have VU := hide hu.out.nv
    have HL : Hid (Ha < w0.heap.size ∧ Hb < w0.heap.size) := ⟨pa.lt, pb.lt⟩
    have naw00 : Ha ≠ w0.heap.size := (by have := HL.out; have := bw0.out.size; omega)
    have maw00 : w0.heap.size ≠ Ha := (by have := HL.out; have := bw0.out.size; omega)
    have nbw00 : Hb ≠ w0.heap.size := (by have := HL.out; have := bw0.out.size; omega)
    have mbw00 : w0.heap.size ≠ Hb := (by have := HL.out; have := bw0.out.size; omega)
    clear pa pb ax ay hb0 hv
    go_region_held3 (fun w' => w'.cell? ⟨Ha, 0, none⟩ = some (.bool s) ∧ w'.cell? ⟨Ha, 1, none⟩ = some (.slice oa la ca) ∧ w'.cell? ⟨Hb, 0, none⟩ = some (.bool t) ∧ w'.cell? ⟨Hb, 1, none⟩ = some (.slice ob lb cb)) (go_keep) (first | (go_at_call 85; have gw : Hid (Below w0.heap.size w0 w0.drew) := d0; refine (rnegz t ob lb cb xb w0.drew (by omega) hxb (AY.out.below gw.out) u VU).mono ?_; rintro e v2 ⟨sn, on, cn, rn, hsn, rfl, hln, rsn, isn, hmn, hbel⟩; have NN : Hid (NI32 sn rn (-u)) := NI32.mk hsn isn; have ATN : Hid (At .u32 v2 on rn) := rsn.1; have HB := hide hbel; have bv2 : Hid (Below w0.heap.size w0 v2) := gw.out.trans (hbel.mono gw.out.size); clear hsn rsn isn hbel; have ta := PA.out.below bv2.out PA.out.lt; have tb := PB.out.below bv2.out PB.out.lt; have k0 := ta.cell0; have k1 := ta.cell1; have k2 := tb.cell0; have k3 := tb.cell1; clear ta tb; clear gw HB; have nav20 : Ha ≠ v2.heap.size := (by have := HL.out; have := bv2.out.size; omega); have mav20 : v2.heap.size ≠ Ha := (by have := HL.out; have := bv2.out.size; omega); have nbv20 : Hb ≠ v2.heap.size := (by have := HL.out; have := bv2.out.size; omega); have mbv20 : v2.heap.size ≠ Hb := (by have := HL.out; have := bv2.out.size; omega); have mk0 : True := trivial) | (go_at_call 85; have gw : Hid (Below w0.heap.size w0 (w0.drew.alloc (Obj.cells #[Value.bool false, Value.slice none 0 0] 56))) := (bal d0 (Obj.cells #[Value.bool false, Value.slice none 0 0] 56)); refine (rnegz t ob lb cb xb (w0.drew.alloc (Obj.cells #[Value.bool false, Value.slice none 0 0] 56)) (by omega) hxb (AY.out.below gw.out) u VU).mono ?_; rintro e v2 ⟨sn, on, cn, rn, hsn, rfl, hln, rsn, isn, hmn, hbel⟩; have NN : Hid (NI32 sn rn (-u)) := NI32.mk hsn isn; have ATN : Hid (At .u32 v2 on rn) := rsn.1; have HB := hide hbel; have bv2 : Hid (Below w0.heap.size w0 v2) := gw.out.trans (hbel.mono gw.out.size); clear hsn rsn isn hbel; have ta := PA.out.below bv2.out PA.out.lt; have tb := PB.out.below bv2.out PB.out.lt; have k0 := ta.cell0; have k1 := ta.cell1; have k2 := tb.cell0; have k3 := tb.cell1; clear ta tb; have q00 := Pair.newAt w0.drew (w0.heap.size) (by simp) (.bool false) (.slice none 0 0) 56; have q0 := q00.below HB.out q00.lt; clear q00; have Q0 := hide q0; have q0va := q0.cell0; have q0vb := q0.cell1; have q0vc := q0.free 0; have q0vd := q0.free 1; have q0e : w0.heap.size < v2.heap.size := q0.lt; clear q0; clear gw HB; have mk1 : True := trivial) | (clear mk0; go_at_call 71; have gb : Hid (Below v2.heap.size v2 v2) := (Below.refl _ _); have gw : Hid (Below w0.heap.size w0 v2) := bv2; refine (raddz s sn oa on la ca rn.length cn xa rn v2 (by omega) (by omega) hlac hln hxa rfl (AX.out.below gw.out) (ATN.out.below gb.out) z (-u) hz NN).mono ?_; rintro e v3 ⟨sd, od, cd, rd, hsd, rfl, hld, rsd, isd, hmd, hbel⟩; have ND : Hid (NI32 sd rd (z + -u)) := NI32.mk hsd isd; have HB := hide hbel; have bv3 : Hid (Below w0.heap.size w0 v3) := gw.out.trans (hbel.mono gw.out.size); clear hsd rsd isd hbel; have ta := PA.out.below bv3.out PA.out.lt; have tb := PB.out.below bv3.out PB.out.lt; have l0 := ta.cell0; have l1 := ta.cell1; have l2 := tb.cell0; have l3 := tb.cell1; clear ta tb; clear gb gw HB; have nav30 : Ha ≠ v3.heap.size := (by have := HL.out; have := bv3.out.size; omega); have mav30 : v3.heap.size ≠ Ha := (by have := HL.out; have := bv3.out.size; omega); have nbv30 : Hb ≠ v3.heap.size := (by have := HL.out; have := bv3.out.size; omega); have mbv30 : v3.heap.size ≠ Hb := (by have := HL.out; have := bv3.out.size; omega); have mk00 : True := trivial) | (clear mk0; go_at_call 71; have gb : Hid (Below v2.heap.size v2 (v2.alloc (Obj.cells #[Value.bool false, Value.slice none 0 0] 56))) := (bal (Below.refl _ _) (Obj.cells #[Value.bool false, Value.slice none 0 0] 56)); have gw : Hid (Below w0.heap.size w0 (v2.alloc (Obj.cells #[Value.bool false, Value.slice none 0 0] 56))) := (bal bv2 (Obj.cells #[Value.bool false, Value.slice none 0 0] 56)); refine (raddz s sn oa on la ca rn.length cn xa rn (v2.alloc (Obj.cells #[Value.bool false, Value.slice none 0 0] 56)) (by omega) (by omega) hlac hln hxa rfl (AX.out.below gw.out) (ATN.out.below gb.out) z (-u) hz NN).mono ?_; rintro e v3 ⟨sd, od, cd, rd, hsd, rfl, hld, rsd, isd, hmd, hbel⟩; have ND : Hid (NI32 sd rd (z + -u)) := NI32.mk hsd isd; have HB := hide hbel; have bv3 : Hid (Below w0.heap.size w0 v3) := gw.out.trans (hbel.mono gw.out.size); clear hsd rsd isd hbel; have ta := PA.out.below bv3.out PA.out.lt; have tb := PB.out.below bv3.out PB.out.lt; have l0 := ta.cell0; have l1 := ta.cell1; have l2 := tb.cell0; have l3 := tb.cell1; clear ta tb; have p00 := Pair.new v2 (.bool false) (.slice none 0 0) 56; have p0 := p00.below HB.out p00.lt; clear p00; have P0 := hide p0; have p0wa := p0.cell0; have p0wb := p0.cell1; have p0wc := p0.free 0; have p0wd := p0.free 1; have p0j : v2.heap.size < v3.heap.size := p0.lt; clear p0; clear gb gw HB; have mk01 : True := trivial) | (clear mk1; go_at_call 71; have gb : Hid (Below v2.heap.size v2 v2) := (Below.refl _ _); have gw : Hid (Below w0.heap.size w0 v2) := bv2; refine (raddz s sn oa on la ca rn.length cn xa rn v2 (by omega) (by omega) hlac hln hxa rfl (AX.out.below gw.out) (ATN.out.below gb.out) z (-u) hz NN).mono ?_; rintro e v3 ⟨sd, od, cd, rd, hsd, rfl, hld, rsd, isd, hmd, hbel⟩; have ND : Hid (NI32 sd rd (z + -u)) := NI32.mk hsd isd; have HB := hide hbel; have bv3 : Hid (Below w0.heap.size w0 v3) := gw.out.trans (hbel.mono gw.out.size); clear hsd rsd isd hbel; have ta := PA.out.below bv3.out PA.out.lt; have tb := PB.out.below bv3.out PB.out.lt; have l0 := ta.cell0; have l1 := ta.cell1; have l2 := tb.cell0; have l3 := tb.cell1; clear ta tb; have q0 := Q0.out.below HB.out Q0.out.lt; replace Q0 := hide q0; have q0wa := q0.cell0; have q0wb := q0.cell1; have q0wc := q0.free 0; have q0wd := q0.free 1; have q0j : w0.heap.size < v3.heap.size := q0.lt; clear q0; clear gb gw HB; have mk10 : True := trivial))
    all_goals (go_wp2_with fail; go_meet)
    · clear mk00
      exact ⟨⟨v3.heap.size, sd, od, cd, rd, rfl, Pair.new _ _ _ _, ND.out, bv3.out.alloc bv3.out.size _⟩⟩
    · clear mk01
      exact ⟨⟨v2.heap.size, sd, od, cd, rd, rfl, P0.out.put _ _, ND.out, (bv3.out.setCell (by exact bv2.out.size) _).setCell (by exact bv2.out.size) _⟩⟩
    · clear mk10
      exact ⟨⟨w0.heap.size, sd, od, cd, rd, rfl, Q0.out.put _ _, ND.out, (bv3.out.setCell (by exact Nat.le_refl _) _).setCell (by exact Nat.le_refl _) _⟩⟩
  case rest =>
    obtain ⟨⟨H, sd, od, cd, rd, rfl, pd, nd, hbel⟩⟩ := hcut
    have hbw := hb0.trans (hbel.mono hb0.size)
    clear hb0 hbel ax ay pa pb
    have ND := hide nd
    clear nd
    rcases (show z + -u = 0 ∨ z + -u < 0 ∨ 0 < z + -u by omega) with h | h | h
    · obtain rfl : rd = [] := by have g := ND.out.2; rw [h] at g; exact num_zero (by omega) g.2.1 g.2.2
      have ev : (0 : Int) = v := by rw [← hv.out]; unfold cmpZ; rw [if_neg (by omega), if_neg (by omega)]
      have d1 := pd.cell1
      have EV := hide ev
      clear ev
      go_wp2
      go_ret
      exact ⟨by rw [← EV.out]; rfl, hbw⟩
    · have hne : rd.length ≠ 0 := by
        intro g
        have g1 := ND.out.2.2.2
        rw [List.length_eq_zero_iff.1 g] at g1
        have g2 : (0 : Nat) = (z + -u).natAbs := g1
        omega
      obtain rfl : sd = true := by rw [ND.out.1]; simp; omega
      have hne' : ((rd.length : Int) == 0) = false := by rw [beq_eq_false_iff_ne]; omega
      have ev : ((-1) : Int) = v := by rw [← hv.out]; unfold cmpZ; rw [if_pos (by omega)]
      have d0 := pd.cell0
      have d1 := pd.cell1
      have EV := hide ev
      clear ev hne
      go_wp2
      go_ret
      exact ⟨by rw [← EV.out]; rfl, hbw⟩
    · have hne : rd.length ≠ 0 := by
        intro g
        have g1 := ND.out.2.2.2
        rw [List.length_eq_zero_iff.1 g] at g1
        have g2 : (0 : Nat) = (z + -u).natAbs := g1
        omega
      obtain rfl : sd = false := by rw [ND.out.1]; simp; omega
      have hne' : ((rd.length : Int) == 0) = false := by rw [beq_eq_false_iff_ne]; omega
      have ev : (1 : Int) = v := by rw [← hv.out]; unfold cmpZ; rw [if_neg (by omega), if_pos (by omega)]
      have d0 := pd.cell0
      have d1 := pd.cell1
      have EV := hide ev
      clear ev hne
      go_wp2
      go_ret
      exact ⟨by rw [← EV.out]; rfl, hbw⟩

end Go.Proofs.YtifpacgacbpalaaGreatDoor
