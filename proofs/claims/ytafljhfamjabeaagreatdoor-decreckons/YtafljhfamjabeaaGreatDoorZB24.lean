/-
  What the reference's Add answers lies in new memory.
  What the reference's Make, In, Neg and Same do, and quipulaw02's in and is.
  What the reference's Sub does: the difference, digit by digit, of a number and one that is not above it.
  What the reference's Cmp and SubErr do.
  What the reference's Mul, Add and Cmp of whole numbers do.
  What the reference's Small and Pow do of 5.
  What the reference's Small and Pow do of 10.
  What the reference's times does: a number times 10, and a digit more.
  What the reference's Of does: the number of a row of digits.
  What quipuref05's Of and at do: a whole number times a power of 10.
  What shortest's holds and pick do.
  What shortest's all and reachOf do.
  What shortest's fewest does.
  Plain mathematics: the eight calls whose answers the document fixes.
  What shortest's dec, Of64, Of32, Exact64 and Exact32 do.
  What quipulaw03's dec and awake do: the eight calls answer what the document fixes.
  What the reference's by does: the quotient by 10000, and the rest.
-/
import Derived.Test.YtafljhfamjabeaaGreatDoorZB12
import Derived.Test.YtafljhfamjabeaaGreatDoorZB5
import Derived.Test.YtafljhfamjabeaaGreatDoorZOut
import Derived.Test.YtafljhfamjabeaaGreatDoorZB4
import Derived.Deep.QuietTactic
import Derived.BigQuiet
import Derived.WalkSmall
import Derived.Deep.RegionHeld3
namespace Go.Proofs.YtafljhfamjabeaaGreatDoor
open Go.RowKit

/-- As RPost, and the digits lie in a block that the call has laid. -/
def RFPost (w : World) (m n : Nat) (e : Ending) (w' : World) : Prop :=
  ∃ ao cap ys, e = .returned (.slice ao (List.length ys) cap) ∧ ys.length ≤ cap ∧ Res .u32 w' ao ys w.heap.size w'.heap.size ∧ Is 65536 ys n ∧ ys.length ≤ m ∧ Below w.heap.size w w'

theorem Grows.fresh {w wr : World} {v : Value} {ys : List Nat} (h : Grows w wr v ys) : ∃ ao cap, v = .slice ao ys.length cap ∧ ys.length ≤ cap ∧ At .u32 wr ao ys ∧ ∀ b f, ys ≠ [] → ao = some ⟨b, f, none⟩ → w.heap.size ≤ b ∧ b < wr.heap.size := by
  obtain ⟨ao, cap, rfl, h1, h2⟩ := h.at
  refine ⟨ao, cap, rfl, h1, h2, fun b f hx e => ?_⟩
  have h3 := h.2.lt b (by rw [e]; rfl)
  exact h3

set_option maxRecDepth 100000 in
set_option maxHeartbeats 1000000 in
theorem radd_fresh (ao bo : Option Addr) (la ca lb cb : Nat) (xs ys : List Nat) (w : World) (hla : la ≤ 100000000) (hlb : lb ≤ 100000000) (hx : xs.length = la) (hy : ys.length = lb)
    (hax : At .u32 w ao xs) (hay : At .u32 w bo ys) (ox : Ok 65536 xs) (oy : Ok 65536 ys) :
    Calls Tryz.prog 91 #[.slice ao la ca, .slice bo lb cb] w (RFPost w (max la lb + 1) (num 65536 xs + num 65536 ys)) := by
  obtain ⟨i0, hi, hz0, hz1, hz2⟩ := info_parts Tryz.infoD
  obtain ⟨n, hn⟩ : ∃ n, n = max la lb := ⟨_, rfl⟩
  rw [← hn]
  obtain ⟨D, hD⟩ : ∃ D, D = addD 65536 (dg xs) (dg ys) := ⟨_, rfl⟩
  have HDF : Hid (D = addD 65536 (dg xs) (dg ys)) := hD
  have hnl : la ≤ n ∧ lb ≤ n ∧ n ≤ 100000000 := by omega
  have HN : Hid (n = max la lb) := hn
  clear hn hD
  go_enter Tryz.func91, Tryz.ntmps91
  go_wp2
  go_loopw [5, 6, 7] (fun v cv i wr => ∃ k c : Nat, k ≤ n ∧ cv = .int .u32 (c : Int) ∧ i = .int .i64 k ∧ c = addC 65536 (dg xs) (dg ys) k ∧ Grows w wr v (mk D k)) (fun _ _ i _ => n - (intOf i).toNat)
  case atStart => exact ⟨0, 0, Nat.zero_le _, rfl, rfl, rfl, (Below.refl _ _).alloc (Nat.le_refl _) _, World.ownsRow_lit _ #[] 0 (Nat.le_refl _) (by unfold maxLen; omega) rfl⟩
  case round =>
    obtain ⟨k, c, hk, rfl, rfl, hc, hgr⟩ := hrel
    have hcl : c ≤ 1 := by rw [hc]; exact addC_le ox oy k
    have HC : Hid (c = addC 65536 (dg xs) (dg ys) k) := hc
    clear hc
    by_cases hlt : k < n
    · have HG : Hid (Grows w wr u5 (mk D k)) := hgr
      obtain ⟨x, hxk⟩ : ∃ x, x = dg xs k := ⟨_, rfl⟩
      obtain ⟨y, hyk⟩ : ∃ y, y = dg ys k := ⟨_, rfl⟩
      have hxl : x < 65536 := by rw [hxk]; exact ox k
      have hyl : y < 65536 := by rw [hyk]; exact oy k
      have HX : Hid (x = dg xs k) := hxk
      have HY : Hid (y = dg ys k) := hyk
      obtain ⟨d, hdk⟩ : ∃ d, d = (x + y + c) % 65536 := ⟨_, rfl⟩
      obtain ⟨c', hck⟩ : ∃ c', c' = (x + y + c) / 65536 := ⟨_, rfl⟩
      have HD : Hid (d = (x + y + c) % 65536) := hdk
      have HC' : Hid (c' = (x + y + c) / 65536) := hck
      have HC1 : Hid (c' = addC 65536 (dg xs) (dg ys) (k + 1)) := by rw [hck, hxk, hyk, HC.out]; rfl
      have HDD : Hid (d = D k) := by rw [hdk, hxk, hyk, HC.out, HDF.out]; rfl
      have hdl := mk_len D k
      clear hxk hyk hdk hck
      have hor : k < la ∨ k < lb := by have := HN.out; omega
      by_cases ha : k < la
      · by_cases hb : k < lb
        · clear hor
          have t1 : (k : Int) < (la : Int) := by omega
          have t2 : (k : Int) < (lb : Int) := by omega
          obtain ⟨b1, o1, rfl, hc1⟩ : ∃ b1 o1, ao = some ⟨b1, o1, none⟩ ∧ wr.cell? ⟨b1, o1 + k, none⟩ = some (.int .u32 (x : Int)) := by
            rcases hax.below hgr.1 with h | ⟨b, o, h1, _, h3⟩
            · rw [h] at hx; simp at hx; omega
            · exact ⟨b, o, h1, by rw [HX.out]; exact h3 k (by omega)⟩
          obtain ⟨b2, o2, rfl, hc2⟩ : ∃ b2 o2, bo = some ⟨b2, o2, none⟩ ∧ wr.cell? ⟨b2, o2 + k, none⟩ = some (.int .u32 (y : Int)) := by
            rcases hay.below hgr.1 with h | ⟨b, o, h1, _, h3⟩
            · rw [h] at hy; simp at hy; omega
            · exact ⟨b, o, h1, by rw [HY.out]; exact h3 k (by omega)⟩
          have hd : bits .and .u32 ((c : Int) + (x : Int) + (y : Int)) 65535 = (d : Int) := by rw [show ((c : Int) + (x : Int) + (y : Int)) = ((x + y + c : Nat) : Int) by omega, and16u _ (by omega)]; exact congrArg _ HD.out.symm
          have hs : ((c : Int) + (x : Int) + (y : Int)) / 65536 = (c' : Int) := by have := HC'.out; omega
          have hown := hgr.2
          rw [hdl] at hown
          have hsz := hgr.1.size
          clear hgr hax hay
          go_wp2_with (at_builtin; refine wpList_append_own _ rfl _ _ 56 rfl w.heap.size 101 i0 (.int .u32 0) 1 4 Tryz.underlying56 hi hz0 hz1 hz2 rfl (by decide) _ _ _ rfl (hown.alloc _) ⟨wr.heap.size, 0, none⟩ 1 1 [.int .u32 (d : Int)] rfl rfl ?c1A ?c2A ?c3A ?c4A ?c5A ?_)
          try case c1A => exact new_cell wr _ _
          case c2A => first | exact one_one _ _ | rfl
          case c3A => unfold maxLen; omega
          case c4A => omega
          case c5A => first | (simp; omega) | omega
          intro v' w1 hown' hgrow _
          have hg' := HG.out.step _ (by rw [hdl]; exact hown') hgrow
          have HG' : Hid (Grows w w1 v' (mk D (k + 1))) := by show Grows _ _ _ _; rw [mk_succ, ← HDD.out]; exact hg'
          clear hown hown' hgrow hg' HG hd
          go_wp2
          go_roundw
          case rel => exact ⟨k + 1, c', by omega, rfl, by go_num, HC1.out, HG'.out⟩
          case measure => simp [intOf]; omega
        · clear hor
          have t1 : (k : Int) < (la : Int) := by omega
          have t2 : ¬ (k : Int) < (lb : Int) := by omega
          obtain ⟨b1, o1, rfl, hc1⟩ : ∃ b1 o1, ao = some ⟨b1, o1, none⟩ ∧ wr.cell? ⟨b1, o1 + k, none⟩ = some (.int .u32 (x : Int)) := by
            rcases hax.below hgr.1 with h | ⟨b, o, h1, _, h3⟩
            · rw [h] at hx; simp at hx; omega
            · exact ⟨b, o, h1, by rw [HX.out]; exact h3 k (by omega)⟩
          have ey : y = 0 := by rw [HY.out]; exact dg_out (by omega)
          have hd : bits .and .u32 ((c : Int) + (x : Int)) 65535 = (d : Int) := by rw [show ((c : Int) + (x : Int)) = ((x + y + c : Nat) : Int) by omega, and16u _ (by omega)]; exact congrArg _ HD.out.symm
          have hs : ((c : Int) + (x : Int)) / 65536 = (c' : Int) := by have := HC'.out; omega
          clear ey
          have hown := hgr.2
          rw [hdl] at hown
          have hsz := hgr.1.size
          clear hgr hax hay
          go_wp2_with (at_builtin; refine wpList_append_own _ rfl _ _ 56 rfl w.heap.size 101 i0 (.int .u32 0) 1 4 Tryz.underlying56 hi hz0 hz1 hz2 rfl (by decide) _ _ _ rfl (hown.alloc _) ⟨wr.heap.size, 0, none⟩ 1 1 [.int .u32 (d : Int)] rfl rfl ?c1B ?c2B ?c3B ?c4B ?c5B ?_)
          try case c1B => exact new_cell wr _ _
          case c2B => first | exact one_one _ _ | rfl
          case c3B => unfold maxLen; omega
          case c4B => omega
          case c5B => first | (simp; omega) | omega
          intro v' w1 hown' hgrow _
          have hg' := HG.out.step _ (by rw [hdl]; exact hown') hgrow
          have HG' : Hid (Grows w w1 v' (mk D (k + 1))) := by show Grows _ _ _ _; rw [mk_succ, ← HDD.out]; exact hg'
          clear hown hown' hgrow hg' HG hd
          go_wp2
          go_roundw
          case rel => exact ⟨k + 1, c', by omega, rfl, by go_num, HC1.out, HG'.out⟩
          case measure => simp [intOf]; omega
      · have hb : k < lb := by omega
        clear hor
        have t1 : ¬ (k : Int) < (la : Int) := by omega
        have t2 : (k : Int) < (lb : Int) := by omega
        obtain ⟨b2, o2, rfl, hc2⟩ : ∃ b2 o2, bo = some ⟨b2, o2, none⟩ ∧ wr.cell? ⟨b2, o2 + k, none⟩ = some (.int .u32 (y : Int)) := by
          rcases hay.below hgr.1 with h | ⟨b, o, h1, _, h3⟩
          · rw [h] at hy; simp at hy; omega
          · exact ⟨b, o, h1, by rw [HY.out]; exact h3 k (by omega)⟩
        have ex : x = 0 := by rw [HX.out]; exact dg_out (by omega)
        have hd : bits .and .u32 ((c : Int) + (y : Int)) 65535 = (d : Int) := by rw [show ((c : Int) + (y : Int)) = ((x + y + c : Nat) : Int) by omega, and16u _ (by omega)]; exact congrArg _ HD.out.symm
        have hs : ((c : Int) + (y : Int)) / 65536 = (c' : Int) := by have := HC'.out; omega
        clear ex
        have hown := hgr.2
        rw [hdl] at hown
        have hsz := hgr.1.size
        clear hgr hax hay
        go_wp2_with (at_builtin; refine wpList_append_own _ rfl _ _ 56 rfl w.heap.size 101 i0 (.int .u32 0) 1 4 Tryz.underlying56 hi hz0 hz1 hz2 rfl (by decide) _ _ _ rfl (hown.alloc _) ⟨wr.heap.size, 0, none⟩ 1 1 [.int .u32 (d : Int)] rfl rfl ?c1C ?c2C ?c3C ?c4C ?c5C ?_)
        try case c1C => exact new_cell wr _ _
        case c2C => first | exact one_one _ _ | rfl
        case c3C => unfold maxLen; omega
        case c4C => omega
        case c5C => first | (simp; omega) | omega
        intro v' w1 hown' hgrow _
        have hg' := HG.out.step _ (by rw [hdl]; exact hown') hgrow
        have HG' : Hid (Grows w w1 v' (mk D (k + 1))) := by show Grows _ _ _ _; rw [mk_succ, ← HDD.out]; exact hg'
        clear hown hown' hgrow hg' HG hd
        go_wp2
        go_roundw
        case rel => exact ⟨k + 1, c', by omega, rfl, by go_num, HC1.out, HG'.out⟩
        case measure => simp [intOf]; omega
    · obtain rfl : k = n := by omega
      have t1 : ¬ (k : Int) < (la : Int) := by omega
      have t2 : ¬ (k : Int) < (lb : Int) := by omega
      have hdl := mk_len D k
      have HG : Hid (Grows w wr u5 (mk D k)) := hgr
      have hown := hgr.2
      rw [hdl] at hown
      have hsz := hgr.1.size
      have his := radd_is (n := k) ox oy (by omega) (by omega)
      rw [← HDF.out, ← HC.out] at his
      have HI : Hid (Ok 65536 (mk D k ++ [c]) ∧ num 65536 (mk D k ++ [c]) = num 65536 xs + num 65536 ys) := his
      clear hgr his hax hay
      go_wp2_with (at_builtin; refine wpList_append_own _ rfl _ _ 56 rfl w.heap.size 101 i0 (.int .u32 0) 1 4 Tryz.underlying56 hi hz0 hz1 hz2 rfl (by decide) _ _ _ rfl (hown.alloc _) ⟨wr.heap.size, 0, none⟩ 1 1 [.int .u32 (c : Int)] rfl rfl ?c1D ?c2D ?c3D ?c4D ?c5D ?_)
      try case c1D => exact new_cell wr _ _
      case c2D => first | exact one_one _ _ | rfl
      case c3D => unfold maxLen; omega
      case c4D => omega
      case c5D => first | (simp; omega) | omega
      intro v' w1 hown' hgrow _
      have hg' := HG.out.step _ (by rw [hdl]; exact hown') hgrow
      obtain ⟨ao', cp, rfl, hcp, hat, hrs⟩ := hg'.fresh
      have HRS := hide hrs
      clear hrs
      have hbel := hg'.1
      obtain ⟨z, hz⟩ : ∃ z, z = mk D k ++ [c] := ⟨_, rfl⟩
      rw [← hz] at hat hcp HI HRS
      have hzl : z.length = k + 1 := by rw [hz]; simp [mk]
      obtain ⟨q, hq⟩ : ∃ q, q = (trimmed z).length := ⟨_, rfl⟩
      have HQ : Hid ((trimmed z).length = q) := hq.symm
      have HZ : Hid (z.length = k + 1) := hzl
      have hqle : q ≤ k + 1 := by rw [hq, ← hzl]; exact length_trimmed_le z
      rw [← hz, hzl]
      rw [hzl] at hcp
      clear hown hown' hgrow hg' HG hz hzl hq
      go_wp2_with fail
      refine (rtrim_to ao' (k + 1) cp q z _ hcp (by omega) HZ.out hat HQ.out).mono ?_
      rintro e w' ⟨rfl, rfl⟩
      go_wp2
      go_ret
      refine ⟨ao', cp, trimmed z, by rw [HQ.out]; rfl, by rw [HQ.out]; omega, ⟨hat.trimmed, fun b f hx e => HRS.out b f (fun h => hx (by rw [h]; rfl)) e⟩, ?_, by rw [HQ.out]; exact hqle, hbel⟩
      rw [← HI.out.2]; exact Is.trimmed HI.out.1

end Go.Proofs.YtafljhfamjabeaaGreatDoor

namespace Go.Proofs.YtafljhfamjabeaaGreatDoor
open Go.RowKit

theorem Res.mono {k : IntKind} {W : World} {o : Option Addr} {x : List Nat} {lo hi lo' hi' : Nat} (h : Res k W o x lo hi) (h1 : lo' ≤ lo) (h2 : hi ≤ hi') : Res k W o x lo' hi' :=
  ⟨h.1, fun b f hx e => by have := h.2 b f hx e; omega⟩

/-- What the reference's functions answer: the number z in its one form, in new memory. -/
def RWPost (w : World) (m : Nat) (z : Int) (e : Ending) (w' : World) : Prop :=
  ∃ s o c r, Hid (s = decide (z < 0)) ∧ e = .returned (.agg #[.bool s, .slice o (List.length r) c]) ∧ List.length r ≤ c ∧ Res .u32 w' o r w.heap.size w'.heap.size ∧ Is 65536 r z.natAbs ∧ r.length ≤ m ∧ Below w.heap.size w w'

theorem zv_lt32 {neg : Bool} {n : Nat} {r : List Nat} (h : Is 65536 r n) : decide (zv neg n < 0) = (neg && decide (0 < r.length)) := by
  cases neg
  · simp [zv]
  · have : (0 < r.length) ↔ n ≠ 0 := by
      constructor
      · intro h1 h2
        have := num_zero (by decide) h.2.1 (h.2.2.trans h2)
        rw [this] at h1; simp at h1
      · intro h1
        rcases hr : r with _ | ⟨x, t⟩
        · rw [hr] at h; exact absurd h.2.2.symm h1
        · simp
    simp only [zv, if_true, Bool.true_and]
    by_cases hn : n = 0
    · subst hn; simp [this]
    · rw [decide_eq_true (by omega), decide_eq_true (this.2 hn)]

theorem results_pairR {fn : Func} {a : Tmp} (h : fn.results = #[.cell a 58]) (tmps : Array Value) (H : Nat) (x y : Value) (w : World) (ht : tmps.getD a undef = .pointer (some ⟨H, 0, none⟩)) (hp : Pair w H x y 58) :
    (results fn tmps).run Tryz.prog w = .ok (.agg #[x, y]) w := by
  have c0 := hp.cell0
  have c1 := hp.cell1
  rw [Array.getD_eq_getD_getElem?] at ht
  simp [results, h, ht, go_sem, c0, c1]

theorem RWPost.ret {w w2 : World} {m lo hi H c : Nat} {z : Int} {s : Bool} {o : Option Addr} {x y : Value} {r : List Nat} (hs : Hid (s = decide (z < 0))) (hle : r.length ≤ c) (hr : Res .u32 w2 o r lo hi) (h1 : w.heap.size ≤ H) (h2 : H < lo) (h3 : hi ≤ w2.heap.size) (his : Is 65536 r z.natAbs) (hm : r.length ≤ m) (hb : Below w.heap.size w w2) :
    RWPost w m z (.returned (.agg #[.bool s, .slice o r.length c])) ((w2.setCell ⟨H, 0, none⟩ x).setCell ⟨H, 1, none⟩ y) :=
  ⟨s, o, c, r, hs, rfl, hle, ((hr.set (.inl h2) _).set (.inl h2) _).mono (by omega) (by simpa [World.setCell] using h3), his, hm, (hb.setCell h1 _).setCell h1 _⟩


set_option maxHeartbeats 1000000 in
theorem rmake_f (o : Option Addr) (l c : Nat) (xs : List Nat) (w : World) (hl : l ≤ 100000000) (hx : xs.length = l) (hax : At .u32 w o xs) (ox : Ok 65536 xs) :
    Calls Tryz.prog 69 #[.bool false, .slice o l c] w (RWPost w (l + 1) (zv false (num 65536 xs))) := by
  have hb0 : Below w.heap.size w ((w.alloc (Obj.cells #[Value.bool false, Value.slice none 0 0] 58)).alloc (Obj.cells #[] 101)) := ((Below.refl _ _).alloc (Nat.le_refl _) _).alloc (by simp) _
  have p0 := (Pair.new w (.bool false) (.slice none 0 0) 58).alloc (Obj.cells #[] 101)
  have ha := (hax.alloc (Obj.cells #[Value.bool false, Value.slice none 0 0] 58)).alloc (Obj.cells #[] 101)
  go_enter Tryz.func69, Tryz.ntmps69
  go_wp2_with fail
  refine (radd_fresh o _ l c 0 0 xs [] _ hl (by omega) hx rfl ha (At.nil _ _ _) ox (Is.none (by decide)).1).mono ?_
  rintro e w1 ⟨o1, c1, r1, rfl, hl1, rs1, is1, hm1, hb1⟩
  rw [show num 65536 [] = 0 from rfl, Nat.add_zero] at is1
  have pr := p0.below hb1 p0.lt
  have hs := zv_lt32 (neg := false) is1
  have hbw := hb0.trans (hb1.mono hb0.size)
  have HS := hide hs
  have RS := hide rs1
  have HBW := hide hbw
  have HIS : Hid (Is 65536 r1 (zv false (num 65536 xs)).natAbs) := by rw [zv_abs]; exact is1
  have q0 := pr.cell0
  have q1 := pr.cell1
  have f0 := pr.free 0
  have f1 := pr.free 1
  have PR := hide pr
  clear hs rs1 hbw is1 hb1 p0 ha hax ox hb0 pr
  go_wp2
  refine bodyPost_ret (results_pairR rfl _ _ _ _ _ rfl (PR.out.put _ _)) rfl ?_
  exact RWPost.ret (s := false) (H := w.heap.size) (by show false = decide _; rw [HS.out]; rfl) hl1 RS.out (Nat.le_refl _) (by simp <;> omega) (Nat.le_refl _) HIS.out (by omega) HBW.out


set_option maxHeartbeats 1000000 in
theorem rmake_t (o : Option Addr) (l c : Nat) (xs : List Nat) (w : World) (hl : l ≤ 100000000) (hx : xs.length = l) (hax : At .u32 w o xs) (ox : Ok 65536 xs) :
    Calls Tryz.prog 69 #[.bool true, .slice o l c] w (RWPost w (l + 1) (zv true (num 65536 xs))) := by
  have hb0 : Below w.heap.size w ((w.alloc (Obj.cells #[Value.bool false, Value.slice none 0 0] 58)).alloc (Obj.cells #[] 101)) := ((Below.refl _ _).alloc (Nat.le_refl _) _).alloc (by simp) _
  have p0 := (Pair.new w (.bool false) (.slice none 0 0) 58).alloc (Obj.cells #[] 101)
  have ha := (hax.alloc (Obj.cells #[Value.bool false, Value.slice none 0 0] 58)).alloc (Obj.cells #[] 101)
  go_enter Tryz.func69, Tryz.ntmps69
  go_wp2_with fail
  refine (radd_fresh o _ l c 0 0 xs [] _ hl (by omega) hx rfl ha (At.nil _ _ _) ox (Is.none (by decide)).1).mono ?_
  rintro e w1 ⟨o1, c1, r1, rfl, hl1, rs1, is1, hm1, hb1⟩
  rw [show num 65536 [] = 0 from rfl, Nat.add_zero] at is1
  have pr := p0.below hb1 p0.lt
  have hs := zv_lt32 (neg := true) is1
  have hbw := hb0.trans (hb1.mono hb0.size)
  have HS := hide hs
  have RS := hide rs1
  have HBW := hide hbw
  have HIS : Hid (Is 65536 r1 (zv true (num 65536 xs)).natAbs) := by rw [zv_abs]; exact is1
  have q0 := pr.cell0
  have q1 := pr.cell1
  have f0 := pr.free 0
  have f1 := pr.free 1
  have PR := hide pr
  clear hs rs1 hbw is1 hb1 p0 ha hax ox hb0 pr
  go_wp2
  refine bodyPost_ret (results_pairR rfl _ _ _ _ _ rfl (PR.out.put _ _)) rfl ?_
  exact RWPost.ret (s := decide (0 < r1.length)) (H := w.heap.size) (by show decide (0 < r1.length) = decide _; rw [HS.out]; rfl) hl1 RS.out (Nat.le_refl _) (by simp <;> omega) (Nat.le_refl _) HIS.out (by omega) HBW.out


theorem rmake (neg : Bool) (o : Option Addr) (l c : Nat) (xs : List Nat) (w : World) (hl : l ≤ 100000000) (hx : xs.length = l) (hax : At .u32 w o xs) (ox : Ok 65536 xs) :
    Calls Tryz.prog 69 #[.bool neg, .slice o l c] w (RWPost w (l + 1) (zv neg (num 65536 xs))) := by
  cases neg
  · exact rmake_f o l c xs w hl hx hax ox
  · exact rmake_t o l c xs w hl hx hax ox

/-- A sign and digits are the number z, in whatever form. -/
def NV32 (s : Bool) (x : List Nat) (z : Int) : Prop := Ok 65536 x ∧ zv s (num 65536 x) = z
/-- A sign and digits are the number z in its one form. -/
def NI32 (s : Bool) (x : List Nat) (z : Int) : Prop := s = decide (z < 0) ∧ Is 65536 x z.natAbs

theorem NI32.nv {s : Bool} {x : List Nat} {z : Int} (h : NI32 s x z) : NV32 s x z := by
  refine ⟨h.2.1, ?_⟩
  rw [h.2.2.2, h.1]
  unfold zv
  by_cases hz : z < 0
  · simp [hz]; omega
  · simp [hz]; omega

theorem NI32.mk {s : Bool} {x : List Nat} {z : Int} (h : Hid (s = decide (z < 0))) (hi : Is 65536 x z.natAbs) : NI32 s x z := ⟨h.out, hi⟩

end Go.Proofs.YtafljhfamjabeaaGreatDoor

namespace Go.Proofs.YtafljhfamjabeaaGreatDoor
open Go.RowKit

theorem rsub_is {xs ys : List Nat} {n : Nat} (hx : Ok 65536 xs) (hy : Ok 65536 ys) (hnx : xs.length = n) (hny : ys.length ≤ n) (hle : num 65536 ys ≤ num 65536 xs) :
    Ok 65536 (mk (subD 65536 (dg xs) (dg ys)) n) ∧ num 65536 (mk (subD 65536 (dg xs) (dg ys)) n) = num 65536 xs - num 65536 ys := by
  refine ⟨?_, ?_⟩
  · intro j
    by_cases h : j < n
    · rw [dg_mk _ _ _ h]; exact Nat.mod_lt _ (by omega)
    · rw [dg_out (by rw [mk_len]; omega)]; omega
  · have h := sub_val hx hy n
    have h0 := (V_sub_lt hx hy n).2 (by rw [num_eq (xs := xs) (by omega), num_eq hny]; exact hle)
    rw [num_eq (xs := xs) (by omega), num_eq hny, h0] at h
    have e : num 65536 (mk (subD 65536 (dg xs) (dg ys)) n) = V 65536 (subD 65536 (dg xs) (dg ys)) n := by
      unfold num; rw [mk_len]; exact V_congr n (fun i hi => dg_mk _ n i hi)
    rw [e]; omega

/-- As RPost, and the answer is new memory. -/
def RNew (w : World) (m n : Nat) (e : Ending) (w' : World) : Prop :=
  ∃ ao cap ys, e = .returned (.slice ao ys.length cap) ∧ ys.length ≤ cap ∧ At .u32 w' ao ys ∧ Is 65536 ys n ∧ ys.length ≤ m ∧ Below w.heap.size w w' ∧ ∀ b o, ao = some ⟨b, o, none⟩ → w.heap.size ≤ b

theorem Grows.new {w wr : World} {v : Value} {ys : List Nat} (h : Grows w wr v ys) : ∀ b o l c, v = .slice (some ⟨b, o, none⟩) l c → w.heap.size ≤ b := by
  rcases h.2.2 with ⟨rfl, _⟩ | ⟨g, cap, cur, rfl, hgb, _⟩
  · intro b o l c h; cases h
  · intro b o l c h
    simp only [Value.slice.injEq, Option.some.injEq, Addr.mk.injEq] at h
    omega

set_option maxRecDepth 100000 in
set_option maxHeartbeats 1000000 in
theorem rsub_new (ao bo : Option Addr) (la ca lb cb : Nat) (xs ys : List Nat) (w : World) (hla : la ≤ 100000000) (hlb : lb ≤ la) (hx : xs.length = la) (hy : ys.length = lb)
    (hax : At .u32 w ao xs) (hay : At .u32 w bo ys) (ox : Ok 65536 xs) (oy : Ok 65536 ys) (hle : num 65536 ys ≤ num 65536 xs) :
    Calls Tryz.prog 103 #[.slice ao la ca, .slice bo lb cb] w (RNew w la (num 65536 xs - num 65536 ys)) := by
  obtain ⟨i0, hi, hz0, hz1, hz2⟩ := info_parts Tryz.infoD
  obtain ⟨D, hD⟩ : ∃ D, D = subD 65536 (dg xs) (dg ys) := ⟨_, rfl⟩
  have HDF : Hid (D = subD 65536 (dg xs) (dg ys)) := hD
  have HLE : Hid (num 65536 ys ≤ num 65536 xs) := hle
  clear hD hle
  go_enter Tryz.func103, Tryz.ntmps103
  go_wp2
  go_loopw [5, 6, 7] (fun v cv i wr => ∃ k c : Nat, k ≤ la ∧ cv = .int .u32 (c : Int) ∧ i = .int .i64 k ∧ c = subC 65536 (dg xs) (dg ys) k ∧ Grows w wr v (mk D k)) (fun _ _ i _ => la - (intOf i).toNat)
  case atStart => exact ⟨0, 0, Nat.zero_le _, rfl, rfl, rfl, (Below.refl _ _).alloc (Nat.le_refl _) _, World.ownsRow_lit _ #[] 0 (Nat.le_refl _) (by unfold maxLen; omega) rfl⟩
  case round =>
    obtain ⟨k, c, hk, rfl, rfl, hc, hgr⟩ := hrel
    have hcl : c ≤ 1 := by rw [hc]; exact subC_le k
    have HC : Hid (c = subC 65536 (dg xs) (dg ys) k) := hc
    clear hc
    by_cases hlt : k < la
    · have HG : Hid (Grows w wr u5 (mk D k)) := hgr
      obtain ⟨x, hxk⟩ : ∃ x, x = dg xs k := ⟨_, rfl⟩
      obtain ⟨y, hyk⟩ : ∃ y, y = dg ys k := ⟨_, rfl⟩
      have hxl : x < 65536 := by rw [hxk]; exact ox k
      have hyl : y < 65536 := by rw [hyk]; exact oy k
      have HX : Hid (x = dg xs k) := hxk
      have HY : Hid (y = dg ys k) := hyk
      obtain ⟨d, hdk⟩ : ∃ d, d = (x + 65536 - y - c) % 65536 := ⟨_, rfl⟩
      obtain ⟨c', hck⟩ : ∃ c', c' = if x < y + c then 1 else 0 := ⟨_, rfl⟩
      have HD : Hid (d = (x + 65536 - y - c) % 65536) := hdk
      have HC' : Hid (c' = if x < y + c then 1 else 0) := hck
      have HC1 : Hid (c' = subC 65536 (dg xs) (dg ys) (k + 1)) := by rw [hck, hxk, hyk, HC.out]; rfl
      have HDD : Hid (d = D k) := by rw [hdk, hxk, hyk, HC.out, HDF.out]; rfl
      have hdl := mk_len D k
      clear hxk hyk hdk hck
      by_cases hb : k < lb
      · have t1 : (k : Int) < (la : Int) := by omega
        have t2 : (k : Int) < (lb : Int) := by omega
        obtain ⟨b1, o1, rfl, hc1⟩ : ∃ b1 o1, ao = some ⟨b1, o1, none⟩ ∧ wr.cell? ⟨b1, o1 + k, none⟩ = some (.int .u32 (x : Int)) := by
          rcases hax.below hgr.1 with h | ⟨b, o, h1, _, h3⟩
          · rw [h] at hx; simp at hx; omega
          · exact ⟨b, o, h1, by rw [HX.out]; exact h3 k (by omega)⟩
        obtain ⟨b2, o2, rfl, hc2⟩ : ∃ b2 o2, bo = some ⟨b2, o2, none⟩ ∧ wr.cell? ⟨b2, o2 + k, none⟩ = some (.int .u32 (y : Int)) := by
          rcases hay.below hgr.1 with h | ⟨b, o, h1, _, h3⟩
          · rw [h] at hy; simp at hy; omega
          · exact ⟨b, o, h1, by rw [HY.out]; exact h3 k (by omega)⟩
        have hd : bits .and .u32 (65536 + (x : Int) - (c : Int) - (y : Int)) 65535 = (d : Int) := by rw [show (65536 + (x : Int) - (c : Int) - (y : Int)) = ((x + 65536 - y - c : Nat) : Int) by omega, and16u _ (by omega)]; exact congrArg _ HD.out.symm
        have hs : 1 - (65536 + (x : Int) - (c : Int) - (y : Int)) / 65536 = (c' : Int) := by have := HC'.out; split at this <;> omega
        have hown := hgr.2
        rw [hdl] at hown
        have hsz := hgr.1.size
        clear hgr hax hay
        go_wp2_with (at_builtin; refine wpList_append_own _ rfl _ _ 56 rfl w.heap.size 101 i0 (.int .u32 0) 1 4 Tryz.underlying56 hi hz0 hz1 hz2 rfl (by decide) _ _ _ rfl (hown.alloc _) ⟨wr.heap.size, 0, none⟩ 1 1 [.int .u32 (d : Int)] rfl rfl ?c1A ?c2A ?c3A ?c4A ?c5A ?_)
        try case c1A => exact new_cell wr _ _
        case c2A => first | exact one_one _ _ | rfl
        case c3A => unfold maxLen; omega
        case c4A => omega
        case c5A => first | (simp; omega) | omega
        intro v' w1 hown' hgrow _
        have hg' := HG.out.step _ (by rw [hdl]; exact hown') hgrow
        have HG' : Hid (Grows w w1 v' (mk D (k + 1))) := by show Grows _ _ _ _; rw [mk_succ, ← HDD.out]; exact hg'
        clear hown hown' hgrow hg' HG hd
        go_wp2
        go_roundw
        case rel => exact ⟨k + 1, c', by omega, rfl, by go_num, HC1.out, HG'.out⟩
        case measure => simp [intOf]; omega
      · have t1 : (k : Int) < (la : Int) := by omega
        have t2 : ¬ (k : Int) < (lb : Int) := by omega
        obtain ⟨b1, o1, rfl, hc1⟩ : ∃ b1 o1, ao = some ⟨b1, o1, none⟩ ∧ wr.cell? ⟨b1, o1 + k, none⟩ = some (.int .u32 (x : Int)) := by
          rcases hax.below hgr.1 with h | ⟨b, o, h1, _, h3⟩
          · rw [h] at hx; simp at hx; omega
          · exact ⟨b, o, h1, by rw [HX.out]; exact h3 k (by omega)⟩
        have ey : y = 0 := by rw [HY.out]; exact dg_out (by omega)
        have hd : bits .and .u32 (65536 + (x : Int) - (c : Int)) 65535 = (d : Int) := by rw [show (65536 + (x : Int) - (c : Int)) = ((x + 65536 - y - c : Nat) : Int) by omega, and16u _ (by omega)]; exact congrArg _ HD.out.symm
        have hs : 1 - (65536 + (x : Int) - (c : Int)) / 65536 = (c' : Int) := by have := HC'.out; split at this <;> omega
        clear ey
        have hown := hgr.2
        rw [hdl] at hown
        have hsz := hgr.1.size
        clear hgr hax hay
        go_wp2_with (at_builtin; refine wpList_append_own _ rfl _ _ 56 rfl w.heap.size 101 i0 (.int .u32 0) 1 4 Tryz.underlying56 hi hz0 hz1 hz2 rfl (by decide) _ _ _ rfl (hown.alloc _) ⟨wr.heap.size, 0, none⟩ 1 1 [.int .u32 (d : Int)] rfl rfl ?c1B ?c2B ?c3B ?c4B ?c5B ?_)
        try case c1B => exact new_cell wr _ _
        case c2B => first | exact one_one _ _ | rfl
        case c3B => unfold maxLen; omega
        case c4B => omega
        case c5B => first | (simp; omega) | omega
        intro v' w1 hown' hgrow _
        have hg' := HG.out.step _ (by rw [hdl]; exact hown') hgrow
        have HG' : Hid (Grows w w1 v' (mk D (k + 1))) := by show Grows _ _ _ _; rw [mk_succ, ← HDD.out]; exact hg'
        clear hown hown' hgrow hg' HG hd
        go_wp2
        go_roundw
        case rel => exact ⟨k + 1, c', by omega, rfl, by go_num, HC1.out, HG'.out⟩
        case measure => simp [intOf]; omega
    · obtain rfl : k = la := by omega
      have hnew := hgr.new
      obtain ⟨ao', cp, rfl, hcp, hat⟩ := hgr.at
      have HNW : Hid (∀ b o, ao' = some ⟨b, o, none⟩ → w.heap.size ≤ b) := fun b o h => hnew b o _ _ (by rw [h])
      clear hnew
      have hbel := hgr.1
      have his := rsub_is (n := k) ox oy hx (by omega) HLE.out
      rw [← HDF.out] at his
      obtain ⟨z, hz⟩ : ∃ z, z = mk D k := ⟨_, rfl⟩
      have hzl : z.length = k := by rw [hz]; exact mk_len D k
      rw [← hz] at hat hcp his
      have HI : Hid (Ok 65536 z ∧ num 65536 z = num 65536 xs - num 65536 ys) := his
      obtain ⟨q, hq⟩ : ∃ q, q = (trimmed z).length := ⟨_, rfl⟩
      have HQ : Hid ((trimmed z).length = q) := hq.symm
      have HZ : Hid (z.length = k) := hzl
      have hqle : q ≤ k := by rw [hq, ← hzl]; exact length_trimmed_le z
      rw [← hz, hzl]
      rw [hzl] at hcp
      clear hgr hz hzl hq his hax hay
      go_wp2_with fail
      refine (rtrim_to ao' k cp q z _ hcp (by omega) HZ.out hat HQ.out).mono ?_
      rintro e w' ⟨rfl, rfl⟩
      go_wp2
      go_ret
      refine ⟨ao', cp, trimmed z, by rw [HQ.out]; rfl, by rw [HQ.out]; omega, hat.trimmed, ?_, by rw [HQ.out]; exact hqle, hbel, HNW.out⟩
      rw [← HI.out.2]; exact Is.trimmed HI.out.1

theorem rsub_any (ao bo : Option Addr) (la ca lb cb : Nat) (xs ys : List Nat) (w : World) (hla : la ≤ 100000000) (hlb : lb ≤ la) (hx : xs.length = la) (hy : ys.length = lb)
    (hax : At .u32 w ao xs) (hay : At .u32 w bo ys) (ox : Ok 65536 xs) (oy : Ok 65536 ys) (hle : num 65536 ys ≤ num 65536 xs) :
    Calls Tryz.prog 103 #[.slice ao la ca, .slice bo lb cb] w (RPost w la (num 65536 xs - num 65536 ys)) := by
  refine (rsub_new ao bo la ca lb cb xs ys w hla hlb hx hy hax hay ox oy hle).mono ?_
  rintro e w' ⟨a, c, y, h1, h2, h3, h4, h5, h6, _⟩
  exact ⟨a, c, y, h1, h2, h3, h4, h5, h6⟩

end Go.Proofs.YtafljhfamjabeaaGreatDoor

namespace Go.Proofs.YtafljhfamjabeaaGreatDoor
open Go.RowKit

theorem cmpN_len {xs ys : List Nat} (ox : Ok 65536 xs) (ty : Top ys) (h : xs.length < ys.length) : cmpN (num 65536 xs) (num 65536 ys) = -1 := by
  unfold cmpN
  rw [if_pos]
  rcases Nat.lt_or_ge (num 65536 xs) (num 65536 ys) with e | e
  · exact e
  · have := len_le (by omega) ox ty e; omega

set_option maxRecDepth 100000 in
set_option maxHeartbeats 1000000 in
/-- Two lists without noughts on top, of unlike length. -/
theorem rcmp_len (ao bo : Option Addr) (la ca lb cb m p : Nat) (w : World) (z : Int) (hz : (m < p ∧ z = -1) ∨ (p < m ∧ z = 1)) (_hm : m ≤ 1000000000) (_hp : p ≤ 1000000000)
    (c1 : ∀ w' : World, w'.heap = w.heap → Calls Tryz.prog 87 #[.slice ao la ca] w' fun e w'' => e = .returned (.slice ao m ca) ∧ w' = w'')
    (c2 : ∀ w' : World, w'.heap = w.heap → Calls Tryz.prog 87 #[.slice bo lb cb] w' fun e w'' => e = .returned (.slice bo p cb) ∧ w' = w'') :
    Calls Tryz.prog 102 #[.slice ao la ca, .slice bo lb cb] w fun e w' => e = .returned (.int .i64 z) ∧ Below w.heap.size w w' := by
  have C1 : Hid (∀ w' : World, w'.heap = w.heap → Calls Tryz.prog 87 #[.slice ao la ca] w' fun e w'' => e = .returned (.slice ao m ca) ∧ w' = w'') := c1
  have C2 : Hid (∀ w' : World, w'.heap = w.heap → Calls Tryz.prog 87 #[.slice bo lb cb] w' fun e w'' => e = .returned (.slice bo p cb) ∧ w' = w'') := c2
  clear c1 c2
  have hne : ((m : Int) != (p : Int)) = true := by rw [bne_iff_ne]; rcases hz with h | h <;> omega
  rcases hz with ⟨h, rfl⟩ | ⟨h, rfl⟩
  · have h1 : (m : Int) < (p : Int) := by omega
    go_enter Tryz.func102, Tryz.ntmps102
    go_wp2_with fail
    refine (C1.out _ rfl).mono ?_
    rintro e w' ⟨rfl, rfl⟩
    go_wp2_with fail
    refine (C2.out _ rfl).mono ?_
    rintro e w' ⟨rfl, rfl⟩
    go_wp2
    go_ret
    exact ⟨rfl, Below.refl _ _⟩
  · have h1 : ¬ (m : Int) < (p : Int) := by omega
    go_enter Tryz.func102, Tryz.ntmps102
    go_wp2_with fail
    refine (C1.out _ rfl).mono ?_
    rintro e w' ⟨rfl, rfl⟩
    go_wp2_with fail
    refine (C2.out _ rfl).mono ?_
    rintro e w' ⟨rfl, rfl⟩
    go_wp2
    go_ret
    exact ⟨rfl, Below.refl _ _⟩

set_option maxRecDepth 100000 in
set_option maxHeartbeats 1000000 in
theorem rcmp_none (ao bo : Option Addr) (la ca lb cb : Nat) (w : World)
    (c1 : ∀ w' : World, w'.heap = w.heap → Calls Tryz.prog 87 #[.slice ao la ca] w' fun e w'' => e = .returned (.slice ao 0 ca) ∧ w' = w'')
    (c2 : ∀ w' : World, w'.heap = w.heap → Calls Tryz.prog 87 #[.slice bo lb cb] w' fun e w'' => e = .returned (.slice bo 0 cb) ∧ w' = w'') :
    Calls Tryz.prog 102 #[.slice ao la ca, .slice bo lb cb] w fun e w' => e = .returned (.int .i64 0) ∧ Below w.heap.size w w' := by
  have C1 : Hid (∀ w' : World, w'.heap = w.heap → Calls Tryz.prog 87 #[.slice ao la ca] w' fun e w'' => e = .returned (.slice ao 0 ca) ∧ w' = w'') := c1
  have C2 : Hid (∀ w' : World, w'.heap = w.heap → Calls Tryz.prog 87 #[.slice bo lb cb] w' fun e w'' => e = .returned (.slice bo 0 cb) ∧ w' = w'') := c2
  clear c1 c2
  go_enter Tryz.func102, Tryz.ntmps102
  go_wp2_with fail
  refine (C1.out _ rfl).mono ?_
  rintro e w' ⟨rfl, rfl⟩
  go_wp2_with fail
  refine (C2.out _ rfl).mono ?_
  rintro e w' ⟨rfl, rfl⟩
  go_wp2
  refine wp_loop_rounds 1 ?_
  rw [rounds_succ]
  go_wp2
  go_ret
  exact ⟨rfl, Below.refl _ _⟩

set_option maxRecDepth 100000 in
set_option maxHeartbeats 1000000 in
theorem rcmp_at (b1 o1 b2 o2 la ca lb cb m : Nat) (xs ys : List Nat) (w : World) (hm : m ≤ 1000000000) (hx : xs.length = m) (hy : ys.length = m)
    (h1 : ∀ i, i < m → w.cell? ⟨b1, o1 + i, none⟩ = some (.int .u32 ((dg xs i : Nat) : Int))) (h2 : ∀ i, i < m → w.cell? ⟨b2, o2 + i, none⟩ = some (.int .u32 ((dg ys i : Nat) : Int)))
    (c1 : ∀ w' : World, w'.heap = w.heap → Calls Tryz.prog 87 #[.slice (some ⟨b1, o1, none⟩) la ca] w' fun e w'' => e = .returned (.slice (some ⟨b1, o1, none⟩) m ca) ∧ w' = w'')
    (c2 : ∀ w' : World, w'.heap = w.heap → Calls Tryz.prog 87 #[.slice (some ⟨b2, o2, none⟩) lb cb] w' fun e w'' => e = .returned (.slice (some ⟨b2, o2, none⟩) m cb) ∧ w' = w'') :
    Calls Tryz.prog 102 #[.slice (some ⟨b1, o1, none⟩) la ca, .slice (some ⟨b2, o2, none⟩) lb cb] w fun e w' => e = .returned (.int .i64 (cmpTo xs ys m)) ∧ Below w.heap.size w w' := by
  have C1 : Hid (∀ w' : World, w'.heap = w.heap → Calls Tryz.prog 87 #[.slice (some ⟨b1, o1, none⟩) la ca] w' fun e w'' => e = .returned (.slice (some ⟨b1, o1, none⟩) m ca) ∧ w' = w'') := c1
  have C2 : Hid (∀ w' : World, w'.heap = w.heap → Calls Tryz.prog 87 #[.slice (some ⟨b2, o2, none⟩) lb cb] w' fun e w'' => e = .returned (.slice (some ⟨b2, o2, none⟩) m cb) ∧ w' = w'') := c2
  clear c1 c2
  obtain ⟨zz, hzz⟩ : ∃ z, z = cmpTo xs ys m := ⟨_, rfl⟩
  rw [← hzz]
  have HZ : Hid (zz = cmpTo xs ys m) := hzz
  have hne : ((m : Int) != (m : Int)) = false := by simp
  clear hzz
  go_enter Tryz.func102, Tryz.ntmps102
  go_wp2_with fail
  refine (C1.out _ rfl).mono ?_
  rintro e w' ⟨rfl, rfl⟩
  go_wp2_with fail
  refine (C2.out _ rfl).mono ?_
  rintro e w' ⟨rfl, rfl⟩
  go_wp2
  go_loopw [5] (fun i wr => ∃ k : Nat, k ≤ m ∧ i = .int .i64 ((k : Int) - 1) ∧ zz = cmpTo xs ys k ∧ Below w.heap.size w wr ∧ wr.heap = w.heap) (fun i _ => (intOf i + 1).toNat)
  case atStart => exact ⟨m, Nat.le_refl _, rfl, HZ.out, Below.refl _ _, rfl⟩
  case round =>
    obtain ⟨k, hk, rfl, hz, hbel, hheap⟩ := hrel
    have HK : Hid (zz = cmpTo xs ys k) := hz
    have HH : Hid (wr.heap = w.heap) := hheap
    clear hz hheap HZ
    rcases k with _ | k
    · go_wp2
      go_ret
      exact ⟨by rw [HK.out]; rfl, hbel⟩
    · have d1 : wr.cell? ⟨b1, o1 + k, none⟩ = some (.int .u32 ((dg xs k : Nat) : Int)) := by rw [World.cell?_of_block (w := w) (by rw [HH.out])]; exact h1 k (by omega)
      have d2 : wr.cell? ⟨b2, o2 + k, none⟩ = some (.int .u32 ((dg ys k : Nat) : Int)) := by rw [World.cell?_of_block (w := w) (by rw [HH.out])]; exact h2 k (by omega)
      have e0 : (k : Int) < (m : Int) := by omega
      obtain ⟨x, hxk⟩ : ∃ x, x = dg xs k := ⟨_, rfl⟩
      obtain ⟨y, hyk⟩ : ∃ y, y = dg ys k := ⟨_, rfl⟩
      have hstep : zz = if x < y then -1 else if y < x then 1 else cmpTo xs ys k := by rw [HK.out, hxk, hyk]; rfl
      rw [← hxk] at d1
      rw [← hyk] at d2
      have HS : Hid (zz = if x < y then -1 else if y < x then 1 else cmpTo xs ys k) := hstep
      clear hxk hyk hstep HK h1 h2 C1 C2
      rcases Nat.lt_trichotomy x y with h | h | h
      · have t1 : (x : Int) < (y : Int) := by omega
        go_wp2
        go_quiet (fail)
        go_wp2
        go_ret
        exact ⟨by rw [HS.out, if_pos h]; rfl, below_drewN hbel _⟩
      · have t1 : ¬ (x : Int) < (y : Int) := by omega
        have t2 : ¬ (y : Int) < (x : Int) := by omega
        have HE : Hid (zz = cmpTo xs ys k) := by rw [HS.out, if_neg (by omega), if_neg (by omega)]; rfl
        clear h
        go_wp2
        go_quiet (fail)
        go_wp2
        go_quiet (fail)
        go_wp2
        go_roundw
        case rel => exact ⟨k, by omega, by go_num, HE.out, below_drewN hbel _, HH.out⟩
        case measure => simp [intOf]
      · have t1 : ¬ (x : Int) < (y : Int) := by omega
        have t2 : (y : Int) < (x : Int) := by omega
        go_wp2
        go_quiet (fail)
        go_wp2
        go_quiet (fail)
        go_wp2
        go_ret
        exact ⟨by rw [HS.out, if_neg (by omega), if_pos h]; rfl, below_drewN (below_drewN hbel _) _⟩

theorem rcmp_any (ao bo : Option Addr) (la ca lb cb : Nat) (xs ys : List Nat) (w : World) (hla : la ≤ ca) (hlal : la ≤ 1000000000) (hlb : lb ≤ cb) (hlbl : lb ≤ 1000000000) (hx : xs.length = la) (hy : ys.length = lb)
    (hax : At .u32 w ao xs) (hay : At .u32 w bo ys) (ox : Ok 65536 xs) (oy : Ok 65536 ys) (z : Int) (hz : cmpN (num 65536 xs) (num 65536 ys) = z) :
    Calls Tryz.prog 102 #[.slice ao la ca, .slice bo lb cb] w fun e w' => e = .returned (.int .i64 z) ∧ Below w.heap.size w w' := by
  have l1 := length_trimmed_le xs
  have l2 := length_trimmed_le ys
  have c1 := fun (w' : World) (h : w'.heap = w.heap) => rtrim_to ao la ca (trimmed xs).length xs w' hla (by omega) hx (hax.same h) rfl
  have c2 := fun (w' : World) (h : w'.heap = w.heap) => rtrim_to bo lb cb (trimmed ys).length ys w' hlb (by omega) hy (hay.same h) rfl
  rw [← num_trimmed 65536 xs, ← num_trimmed 65536 ys] at hz
  rcases Nat.lt_trichotomy (trimmed xs).length (trimmed ys).length with h | h | h
  · exact rcmp_len ao bo la ca lb cb _ _ w z (.inl ⟨h, by rw [← hz]; exact cmpN_len (trimmed_ok ox) (trimmed_top ys) h⟩) (by omega) (by omega) c1 c2
  · rcases hax.trimmed with e1 | ⟨b1, o1, rfl, _, h1⟩
    · have e2 : trimmed ys = [] := List.length_eq_zero_iff.1 (by rw [← h, e1]; rfl)
      rw [e1] at c1
      rw [e2] at c2
      rw [e1, e2] at hz
      have := rcmp_none ao bo la ca lb cb w c1 c2
      rw [← hz]; exact this
    · rcases hay.trimmed with e2 | ⟨b2, o2, rfl, _, h2⟩
      · have e1 : trimmed xs = [] := List.length_eq_zero_iff.1 (by rw [h, e2]; rfl)
        rw [e1] at c1
        rw [e2] at c2
        rw [e1, e2] at hz
        have := rcmp_none _ bo la ca lb cb w c1 c2
        rw [← hz]; exact this
      · rw [← h] at c2
        have := rcmp_at b1 o1 b2 o2 la ca lb cb (trimmed xs).length (trimmed xs) (trimmed ys) w (by omega) rfl h.symm h1 (fun i hi => h2 i (by omega)) c1 c2
        rw [cmpTo_V (trimmed_ok ox) (trimmed_ok oy), num_eq (Nat.le_refl _), num_eq (by omega), hz] at this
        exact this
  · refine rcmp_len ao bo la ca lb cb _ _ w z (.inr ⟨h, ?_⟩) (by omega) (by omega) c1 c2
    have := cmpN_len (trimmed_ok oy) (trimmed_top xs) h
    rw [← hz]
    unfold cmpN at this ⊢
    split at this
    · rw [if_neg (by omega), if_pos (by assumption)]
    · split at this <;> simp at this

end Go.Proofs.YtafljhfamjabeaaGreatDoor

namespace Go.Proofs.YtafljhfamjabeaaGreatDoor
open Go.RowKit

set_option maxRecDepth 100000 in
set_option maxHeartbeats 2000000 in
theorem rmulz (s t : Bool) (oa ob : Option Addr) (la ca lb cb : Nat) (xa xb : List Nat) (w : World) (hla : la ≤ 20000000) (hlb : lb ≤ 20000000) (_hlac : la ≤ ca) (_hlbc : lb ≤ cb) (hxa : xa.length = la) (hxb : xb.length = lb) (ata : At .u32 w oa xa) (atb : At .u32 w ob xb) (z u : Int) (hz : Hid (NV32 s xa z)) (hu : Hid (NV32 t xb u)) :
    Calls Tryz.prog 51 #[.agg #[.bool s, .slice oa la ca], .agg #[.bool t, .slice ob lb cb]] w (RWPost w (la + lb + 1) (z * u)) := by
  have ez : z * u = zv (s != t) (num 65536 xa * num 65536 xb) := by rw [zv_mul, hz.out.2, hu.out.2]
  have EZ := hide ez
  clear ez
  go_enter Tryz.func51, Tryz.ntmps51
  go_wp2_with fail
  have hb0 : Below w.heap.size w (((w.alloc (Obj.cells #[Value.bool s, Value.slice oa la ca] 58)).alloc (Obj.cells #[Value.bool t, Value.slice ob lb cb] 58)).alloc (Obj.cells #[Value.bool false, Value.slice none 0 0] 58)) := (((Below.refl _ _).alloc (Nat.le_refl _) _).alloc (by simp) _).alloc (by simp; omega) _
  have pa := ((Pair.new w (.bool s) (.slice oa la ca) 58).alloc (Obj.cells #[Value.bool t, Value.slice ob lb cb] 58)).alloc (Obj.cells #[Value.bool false, Value.slice none 0 0] 58)
  have pb := (Pair.newAt (w.alloc (Obj.cells #[Value.bool s, Value.slice oa la ca] 58)) (w.heap.size + 1) (by simp) (.bool t) (.slice ob lb cb) 58).alloc (Obj.cells #[Value.bool false, Value.slice none 0 0] 58)
  have p4 := Pair.newAt ((w.alloc (Obj.cells #[Value.bool s, Value.slice oa la ca] 58)).alloc (Obj.cells #[Value.bool t, Value.slice ob lb cb] 58)) (w.heap.size + 1 + 1) (by simp) (.bool false) (.slice none 0 0) 58
  have ax := ((ata.alloc (Obj.cells #[Value.bool s, Value.slice oa la ca] 58)).alloc (Obj.cells #[Value.bool t, Value.slice ob lb cb] 58)).alloc (Obj.cells #[Value.bool false, Value.slice none 0 0] 58)
  have ay := ((atb.alloc (Obj.cells #[Value.bool s, Value.slice oa la ca] 58)).alloc (Obj.cells #[Value.bool t, Value.slice ob lb cb] 58)).alloc (Obj.cells #[Value.bool false, Value.slice none 0 0] 58)
  clear ata atb
  generalize (((w.alloc (Obj.cells #[Value.bool s, Value.slice oa la ca] 58)).alloc (Obj.cells #[Value.bool t, Value.slice ob lb cb] 58)).alloc (Obj.cells #[Value.bool false, Value.slice none 0 0] 58)) = w0 at *
  obtain ⟨H4, e4⟩ : ∃ H, H = w.heap.size + 1 + 1 := ⟨_, rfl⟩
  obtain ⟨Hb, eb⟩ : ∃ H, H = w.heap.size + 1 := ⟨_, rfl⟩
  obtain ⟨Ha, ea⟩ : ∃ H, H = w.heap.size := ⟨_, rfl⟩
  rw [← e4] at p4
  rw [← eb] at pb
  rw [← ea] at pa
  simp only [← e4]
  simp only [← eb]
  simp only [← ea]
  have n1 : H4 ≠ Ha := by omega
  have n2 : H4 ≠ Hb := by omega
  have n3 : Ha ≠ H4 := by omega
  have n4 : Hb ≠ H4 := by omega
  have HLE : Hid (w.heap.size ≤ H4) := by show _ ≤ _; omega
  clear e4 eb ea
  have AX := hide (ax.below (bdrew w0))
  have AY := hide (ay.below (bdrew w0))
  have PA := hide (pa.below (bdrew w0) pa.lt)
  have PB := hide (pb.below (bdrew w0) pb.lt)
  have P4 := hide (p4.below (bdrew w0) p4.lt)
  have a0 := pa.cell0
  have a1 := pa.cell1
  have b0 := pb.cell0
  have b1 := pb.cell1
  have HLT : Hid (H4 < w0.heap.size) := p4.lt
  have HB0 := hide (hb0.trans ((bdrew w0).mono hb0.size))
  have bw : Hid (Below w0.drew.heap.size w0.drew w0.drew) := Below.refl _ _
  have mk0 : True := trivial
  clear ax ay pa pb p4 hb0
  go_region_held3 (fun w' => w'.cell? ⟨Ha, 0, none⟩ = some (.bool s) ∧ w'.cell? ⟨Ha, 1, none⟩ = some (.slice oa la ca) ∧ w'.cell? ⟨Hb, 0, none⟩ = some (.bool t) ∧ w'.cell? ⟨Hb, 1, none⟩ = some (.slice ob lb cb)) (go_keep) (first | (clear mk0; go_at_call 77; refine (rmul_any oa ob la ca lb cb xa xb _ (by omega) (by omega) hxa hxb AX.out AY.out hz.out.1 hu.out.1).mono ?_; rintro e v2 ⟨o1, c1, y1, rfl, hl1, at1, is1, hm1, hbel⟩; have AT1 := hide at1; have IS1 := hide is1; clear at1 is1; replace bw : Hid (Below w0.drew.heap.size w0.drew v2) := bw.out.trans (hbel.mono bw.out.size); have hsz := hbel.size; clear hbel; have tPA := PA.out.below bw.out PA.out.lt; replace a0 := tPA.cell0; replace a1 := tPA.cell1; clear tPA; have tPB := PB.out.below bw.out PB.out.lt; replace b0 := tPB.cell0; replace b1 := tPB.cell1; clear tPB; have HV2 : Hid (w0.heap.size ≤ v2.heap.size) := (by have h := bw.out.size; simpa [Hid] using h); clear hsz; have mk1 : True := trivial) | (clear mk1; go_at_call 69; refine (rmake (s != t) o1 y1.length c1 y1 _ (by omega) rfl AT1.out IS1.out.1).mono ?_; rintro e v3 ⟨sg, o2, c2, r2, hs, rfl, hl2, rs2, is2, hm2, hbel⟩; rw [IS1.out.2.2] at hs is2; have F2 := hide rs2; have IS2 := hide is2; clear rs2 is2; replace bw : Hid (Below w0.drew.heap.size w0.drew v3) := bw.out.trans (hbel.mono bw.out.size); have hsz := hbel.size; clear hbel; have tPA := PA.out.below bw.out PA.out.lt; replace a0 := tPA.cell0; replace a1 := tPA.cell1; clear tPA; have tPB := PB.out.below bw.out PB.out.lt; replace b0 := tPB.cell0; replace b1 := tPB.cell1; clear tPB; have p4' := P4.out.below bw.out P4.out.lt; have d0 := p4'.cell0; have d1 := p4'.cell1; have f0 := p4'.free 0; have f1 := p4'.free 1; have P4L := hide p4'; clear p4'; clear hsz))
  have hfin := HB0.out.trans (bw.out.mono HB0.out.size)
  clear a0 a1 b0 b1 PA PB AX AY
  go_wp2
  refine bodyPost_ret (results_pairR rfl _ _ _ _ _ rfl (P4L.out.put _ _)) rfl ?_
  exact RWPost.ret (H := H4) (by rw [EZ.out]; exact hs) hl2 F2.out HLE.out (by have := HLT.out; have := HV2.out; omega) (Nat.le_refl _) (by rw [EZ.out]; exact IS2.out) (by omega) hfin

set_option maxRecDepth 100000 in
set_option maxHeartbeats 2000000 in
theorem raddw_ff (oa ob : Option Addr) (la ca lb cb : Nat) (xa xb : List Nat) (w : World) (hla : la ≤ 20000000) (hlb : lb ≤ 20000000) (_hlac : la ≤ ca) (_hlbc : lb ≤ cb) (hxa : xa.length = la) (hxb : xb.length = lb) (ata : At .u32 w oa xa) (atb : At .u32 w ob xb) (oka : Ok 65536 xa) (okb : Ok 65536 xb)  :
    Calls Tryz.prog 75 #[.agg #[.bool false, .slice oa la ca], .agg #[.bool false, .slice ob lb cb]] w (RWPost w (max la lb + 2) (zv false (num 65536 xa + num 65536 xb))) := by
  go_enter Tryz.func75, Tryz.ntmps75
  go_wp2_with fail
  have hb0 : Below w.heap.size w (((w.alloc (Obj.cells #[Value.bool false, Value.slice oa la ca] 58)).alloc (Obj.cells #[Value.bool false, Value.slice ob lb cb] 58)).alloc (Obj.cells #[Value.bool false, Value.slice none 0 0] 58)) := (((Below.refl _ _).alloc (Nat.le_refl _) _).alloc (by simp) _).alloc (by simp; omega) _
  have pa := ((Pair.new w (.bool false) (.slice oa la ca) 58).alloc (Obj.cells #[Value.bool false, Value.slice ob lb cb] 58)).alloc (Obj.cells #[Value.bool false, Value.slice none 0 0] 58)
  have pb := (Pair.newAt (w.alloc (Obj.cells #[Value.bool false, Value.slice oa la ca] 58)) (w.heap.size + 1) (by simp) (.bool false) (.slice ob lb cb) 58).alloc (Obj.cells #[Value.bool false, Value.slice none 0 0] 58)
  have p4 := Pair.newAt ((w.alloc (Obj.cells #[Value.bool false, Value.slice oa la ca] 58)).alloc (Obj.cells #[Value.bool false, Value.slice ob lb cb] 58)) (w.heap.size + 1 + 1) (by simp) (.bool false) (.slice none 0 0) 58
  have ax := ((ata.alloc (Obj.cells #[Value.bool false, Value.slice oa la ca] 58)).alloc (Obj.cells #[Value.bool false, Value.slice ob lb cb] 58)).alloc (Obj.cells #[Value.bool false, Value.slice none 0 0] 58)
  have ay := ((atb.alloc (Obj.cells #[Value.bool false, Value.slice oa la ca] 58)).alloc (Obj.cells #[Value.bool false, Value.slice ob lb cb] 58)).alloc (Obj.cells #[Value.bool false, Value.slice none 0 0] 58)
  clear ata atb
  generalize (((w.alloc (Obj.cells #[Value.bool false, Value.slice oa la ca] 58)).alloc (Obj.cells #[Value.bool false, Value.slice ob lb cb] 58)).alloc (Obj.cells #[Value.bool false, Value.slice none 0 0] 58)) = w0 at *
  obtain ⟨H4, e4⟩ : ∃ H, H = w.heap.size + 1 + 1 := ⟨_, rfl⟩
  obtain ⟨Hb, eb⟩ : ∃ H, H = w.heap.size + 1 := ⟨_, rfl⟩
  obtain ⟨Ha, ea⟩ : ∃ H, H = w.heap.size := ⟨_, rfl⟩
  rw [← e4] at p4
  rw [← eb] at pb
  rw [← ea] at pa
  simp only [← e4]
  simp only [← eb]
  simp only [← ea]
  have n1 : H4 ≠ Ha := by omega
  have n2 : H4 ≠ Hb := by omega
  have n3 : Ha ≠ H4 := by omega
  have n4 : Hb ≠ H4 := by omega
  have HLE : Hid (w.heap.size ≤ H4) := by show _ ≤ _; omega
  clear e4 eb ea
  have AX := hide (ax.below (bdrew w0))
  have AY := hide (ay.below (bdrew w0))
  have PA := hide (pa.below (bdrew w0) pa.lt)
  have PB := hide (pb.below (bdrew w0) pb.lt)
  have P4 := hide (p4.below (bdrew w0) p4.lt)
  have a0 := pa.cell0
  have a1 := pa.cell1
  have b0 := pb.cell0
  have b1 := pb.cell1
  have HLT : Hid (H4 < w0.heap.size) := p4.lt
  have HB0 := hide (hb0.trans ((bdrew w0).mono hb0.size))
  have bw : Hid (Below w0.drew.heap.size w0.drew w0.drew) := Below.refl _ _
  have mk0 : True := trivial
  clear ax ay pa pb p4 hb0
  go_region_held3 (fun w' => w'.cell? ⟨Ha, 0, none⟩ = some (.bool false) ∧ w'.cell? ⟨Ha, 1, none⟩ = some (.slice oa la ca) ∧ w'.cell? ⟨Hb, 0, none⟩ = some (.bool false) ∧ w'.cell? ⟨Hb, 1, none⟩ = some (.slice ob lb cb)) (go_keep) (first | (clear mk0; go_at_call 91; refine (radd_any oa ob la ca lb cb xa xb _ (by omega) (by omega) hxa hxb AX.out AY.out oka okb).mono ?_; rintro e v2 ⟨o1, c1, y1, rfl, hl1, at1, is1, hm1, hbel⟩; have AT1 := hide at1; have IS1 := hide is1; clear at1 is1; replace bw : Hid (Below w0.drew.heap.size w0.drew v2) := bw.out.trans (hbel.mono bw.out.size); have hsz := hbel.size; clear hbel; have tPA := PA.out.below bw.out PA.out.lt; replace a0 := tPA.cell0; replace a1 := tPA.cell1; clear tPA; have tPB := PB.out.below bw.out PB.out.lt; replace b0 := tPB.cell0; replace b1 := tPB.cell1; clear tPB; have HV2 : Hid (w0.heap.size ≤ v2.heap.size) := (by have h := bw.out.size; simpa [Hid] using h); clear hsz; have mk1 : True := trivial) | (clear mk1; go_at_call 69; refine (rmake false o1 y1.length c1 y1 _ (by omega) rfl AT1.out IS1.out.1).mono ?_; rintro e v3 ⟨sg, o2, c2, r2, hs, rfl, hl2, rs2, is2, hm2, hbel⟩; rw [IS1.out.2.2] at hs is2; have F2 := hide rs2; have IS2 := hide is2; clear rs2 is2; replace bw : Hid (Below w0.drew.heap.size w0.drew v3) := bw.out.trans (hbel.mono bw.out.size); have hsz := hbel.size; clear hbel; have tPA := PA.out.below bw.out PA.out.lt; replace a0 := tPA.cell0; replace a1 := tPA.cell1; clear tPA; have tPB := PB.out.below bw.out PB.out.lt; replace b0 := tPB.cell0; replace b1 := tPB.cell1; clear tPB; have p4' := P4.out.below bw.out P4.out.lt; have d0 := p4'.cell0; have d1 := p4'.cell1; have f0 := p4'.free 0; have f1 := p4'.free 1; have P4L := hide p4'; clear p4'; clear hsz))
  have hfin := HB0.out.trans (bw.out.mono HB0.out.size)
  clear a0 a1 b0 b1 PA PB AX AY
  go_wp2
  refine bodyPost_ret (results_pairR rfl _ _ _ _ _ rfl (P4L.out.put _ _)) rfl ?_
  exact RWPost.ret (H := H4) hs hl2 F2.out HLE.out (by have := HLT.out; have := HV2.out; omega) (Nat.le_refl _) IS2.out (by omega) hfin

set_option maxRecDepth 100000 in
set_option maxHeartbeats 2000000 in
theorem raddw_tt (oa ob : Option Addr) (la ca lb cb : Nat) (xa xb : List Nat) (w : World) (hla : la ≤ 20000000) (hlb : lb ≤ 20000000) (_hlac : la ≤ ca) (_hlbc : lb ≤ cb) (hxa : xa.length = la) (hxb : xb.length = lb) (ata : At .u32 w oa xa) (atb : At .u32 w ob xb) (oka : Ok 65536 xa) (okb : Ok 65536 xb)  :
    Calls Tryz.prog 75 #[.agg #[.bool true, .slice oa la ca], .agg #[.bool true, .slice ob lb cb]] w (RWPost w (max la lb + 2) (zv true (num 65536 xa + num 65536 xb))) := by
  go_enter Tryz.func75, Tryz.ntmps75
  go_wp2_with fail
  have hb0 : Below w.heap.size w (((w.alloc (Obj.cells #[Value.bool true, Value.slice oa la ca] 58)).alloc (Obj.cells #[Value.bool true, Value.slice ob lb cb] 58)).alloc (Obj.cells #[Value.bool false, Value.slice none 0 0] 58)) := (((Below.refl _ _).alloc (Nat.le_refl _) _).alloc (by simp) _).alloc (by simp; omega) _
  have pa := ((Pair.new w (.bool true) (.slice oa la ca) 58).alloc (Obj.cells #[Value.bool true, Value.slice ob lb cb] 58)).alloc (Obj.cells #[Value.bool false, Value.slice none 0 0] 58)
  have pb := (Pair.newAt (w.alloc (Obj.cells #[Value.bool true, Value.slice oa la ca] 58)) (w.heap.size + 1) (by simp) (.bool true) (.slice ob lb cb) 58).alloc (Obj.cells #[Value.bool false, Value.slice none 0 0] 58)
  have p4 := Pair.newAt ((w.alloc (Obj.cells #[Value.bool true, Value.slice oa la ca] 58)).alloc (Obj.cells #[Value.bool true, Value.slice ob lb cb] 58)) (w.heap.size + 1 + 1) (by simp) (.bool false) (.slice none 0 0) 58
  have ax := ((ata.alloc (Obj.cells #[Value.bool true, Value.slice oa la ca] 58)).alloc (Obj.cells #[Value.bool true, Value.slice ob lb cb] 58)).alloc (Obj.cells #[Value.bool false, Value.slice none 0 0] 58)
  have ay := ((atb.alloc (Obj.cells #[Value.bool true, Value.slice oa la ca] 58)).alloc (Obj.cells #[Value.bool true, Value.slice ob lb cb] 58)).alloc (Obj.cells #[Value.bool false, Value.slice none 0 0] 58)
  clear ata atb
  generalize (((w.alloc (Obj.cells #[Value.bool true, Value.slice oa la ca] 58)).alloc (Obj.cells #[Value.bool true, Value.slice ob lb cb] 58)).alloc (Obj.cells #[Value.bool false, Value.slice none 0 0] 58)) = w0 at *
  obtain ⟨H4, e4⟩ : ∃ H, H = w.heap.size + 1 + 1 := ⟨_, rfl⟩
  obtain ⟨Hb, eb⟩ : ∃ H, H = w.heap.size + 1 := ⟨_, rfl⟩
  obtain ⟨Ha, ea⟩ : ∃ H, H = w.heap.size := ⟨_, rfl⟩
  rw [← e4] at p4
  rw [← eb] at pb
  rw [← ea] at pa
  simp only [← e4]
  simp only [← eb]
  simp only [← ea]
  have n1 : H4 ≠ Ha := by omega
  have n2 : H4 ≠ Hb := by omega
  have n3 : Ha ≠ H4 := by omega
  have n4 : Hb ≠ H4 := by omega
  have HLE : Hid (w.heap.size ≤ H4) := by show _ ≤ _; omega
  clear e4 eb ea
  have AX := hide (ax.below (bdrew w0))
  have AY := hide (ay.below (bdrew w0))
  have PA := hide (pa.below (bdrew w0) pa.lt)
  have PB := hide (pb.below (bdrew w0) pb.lt)
  have P4 := hide (p4.below (bdrew w0) p4.lt)
  have a0 := pa.cell0
  have a1 := pa.cell1
  have b0 := pb.cell0
  have b1 := pb.cell1
  have HLT : Hid (H4 < w0.heap.size) := p4.lt
  have HB0 := hide (hb0.trans ((bdrew w0).mono hb0.size))
  have bw : Hid (Below w0.drew.heap.size w0.drew w0.drew) := Below.refl _ _
  have mk0 : True := trivial
  clear ax ay pa pb p4 hb0
  go_region_held3 (fun w' => w'.cell? ⟨Ha, 0, none⟩ = some (.bool true) ∧ w'.cell? ⟨Ha, 1, none⟩ = some (.slice oa la ca) ∧ w'.cell? ⟨Hb, 0, none⟩ = some (.bool true) ∧ w'.cell? ⟨Hb, 1, none⟩ = some (.slice ob lb cb)) (go_keep) (first | (clear mk0; go_at_call 91; refine (radd_any oa ob la ca lb cb xa xb _ (by omega) (by omega) hxa hxb AX.out AY.out oka okb).mono ?_; rintro e v2 ⟨o1, c1, y1, rfl, hl1, at1, is1, hm1, hbel⟩; have AT1 := hide at1; have IS1 := hide is1; clear at1 is1; replace bw : Hid (Below w0.drew.heap.size w0.drew v2) := bw.out.trans (hbel.mono bw.out.size); have hsz := hbel.size; clear hbel; have tPA := PA.out.below bw.out PA.out.lt; replace a0 := tPA.cell0; replace a1 := tPA.cell1; clear tPA; have tPB := PB.out.below bw.out PB.out.lt; replace b0 := tPB.cell0; replace b1 := tPB.cell1; clear tPB; have HV2 : Hid (w0.heap.size ≤ v2.heap.size) := (by have h := bw.out.size; simpa [Hid] using h); clear hsz; have mk1 : True := trivial) | (clear mk1; go_at_call 69; refine (rmake true o1 y1.length c1 y1 _ (by omega) rfl AT1.out IS1.out.1).mono ?_; rintro e v3 ⟨sg, o2, c2, r2, hs, rfl, hl2, rs2, is2, hm2, hbel⟩; rw [IS1.out.2.2] at hs is2; have F2 := hide rs2; have IS2 := hide is2; clear rs2 is2; replace bw : Hid (Below w0.drew.heap.size w0.drew v3) := bw.out.trans (hbel.mono bw.out.size); have hsz := hbel.size; clear hbel; have tPA := PA.out.below bw.out PA.out.lt; replace a0 := tPA.cell0; replace a1 := tPA.cell1; clear tPA; have tPB := PB.out.below bw.out PB.out.lt; replace b0 := tPB.cell0; replace b1 := tPB.cell1; clear tPB; have p4' := P4.out.below bw.out P4.out.lt; have d0 := p4'.cell0; have d1 := p4'.cell1; have f0 := p4'.free 0; have f1 := p4'.free 1; have P4L := hide p4'; clear p4'; clear hsz))
  have hfin := HB0.out.trans (bw.out.mono HB0.out.size)
  clear a0 a1 b0 b1 PA PB AX AY
  go_wp2
  refine bodyPost_ret (results_pairR rfl _ _ _ _ _ rfl (P4L.out.put _ _)) rfl ?_
  exact RWPost.ret (H := H4) hs hl2 F2.out HLE.out (by have := HLT.out; have := HV2.out; omega) (Nat.le_refl _) IS2.out (by omega) hfin

set_option maxRecDepth 100000 in
set_option maxHeartbeats 2000000 in
theorem raddw_ftg (oa ob : Option Addr) (la ca lb cb : Nat) (xa xb : List Nat) (w : World) (hla : la ≤ 20000000) (hlb : lb ≤ 20000000) (hlac : la ≤ ca) (hlbc : lb ≤ cb) (hxa : xa.length = la) (hxb : xb.length = lb) (ata : At .u32 w oa xa) (atb : At .u32 w ob xb) (oka : Ok 65536 xa) (okb : Ok 65536 xb) (hlen : lb ≤ la) (hc : Hid (¬ num 65536 xa < num 65536 xb)) :
    Calls Tryz.prog 75 #[.agg #[.bool false, .slice oa la ca], .agg #[.bool true, .slice ob lb cb]] w (RWPost w (max la lb + 2) (zv false (num 65536 xa - num 65536 xb))) := by
  obtain ⟨cz, hcz⟩ : ∃ c, c = cmpN (num 65536 xa) (num 65536 xb) := ⟨_, rfl⟩
  have CZ : Hid (cmpN (num 65536 xa) (num 65536 xb) = cz) := hcz.symm
  have hc0 : 0 ≤ cz := by rw [hcz]; unfold cmpN; rw [if_neg hc.out]; split <;> omega
  clear hcz
  go_enter Tryz.func75, Tryz.ntmps75
  go_wp2_with fail
  have hb0 : Below w.heap.size w (((w.alloc (Obj.cells #[Value.bool false, Value.slice oa la ca] 58)).alloc (Obj.cells #[Value.bool true, Value.slice ob lb cb] 58)).alloc (Obj.cells #[Value.bool false, Value.slice none 0 0] 58)) := (((Below.refl _ _).alloc (Nat.le_refl _) _).alloc (by simp) _).alloc (by simp; omega) _
  have pa := ((Pair.new w (.bool false) (.slice oa la ca) 58).alloc (Obj.cells #[Value.bool true, Value.slice ob lb cb] 58)).alloc (Obj.cells #[Value.bool false, Value.slice none 0 0] 58)
  have pb := (Pair.newAt (w.alloc (Obj.cells #[Value.bool false, Value.slice oa la ca] 58)) (w.heap.size + 1) (by simp) (.bool true) (.slice ob lb cb) 58).alloc (Obj.cells #[Value.bool false, Value.slice none 0 0] 58)
  have p4 := Pair.newAt ((w.alloc (Obj.cells #[Value.bool false, Value.slice oa la ca] 58)).alloc (Obj.cells #[Value.bool true, Value.slice ob lb cb] 58)) (w.heap.size + 1 + 1) (by simp) (.bool false) (.slice none 0 0) 58
  have ax := ((ata.alloc (Obj.cells #[Value.bool false, Value.slice oa la ca] 58)).alloc (Obj.cells #[Value.bool true, Value.slice ob lb cb] 58)).alloc (Obj.cells #[Value.bool false, Value.slice none 0 0] 58)
  have ay := ((atb.alloc (Obj.cells #[Value.bool false, Value.slice oa la ca] 58)).alloc (Obj.cells #[Value.bool true, Value.slice ob lb cb] 58)).alloc (Obj.cells #[Value.bool false, Value.slice none 0 0] 58)
  clear ata atb
  generalize (((w.alloc (Obj.cells #[Value.bool false, Value.slice oa la ca] 58)).alloc (Obj.cells #[Value.bool true, Value.slice ob lb cb] 58)).alloc (Obj.cells #[Value.bool false, Value.slice none 0 0] 58)) = w0 at *
  obtain ⟨H4, e4⟩ : ∃ H, H = w.heap.size + 1 + 1 := ⟨_, rfl⟩
  obtain ⟨Hb, eb⟩ : ∃ H, H = w.heap.size + 1 := ⟨_, rfl⟩
  obtain ⟨Ha, ea⟩ : ∃ H, H = w.heap.size := ⟨_, rfl⟩
  rw [← e4] at p4
  rw [← eb] at pb
  rw [← ea] at pa
  simp only [← e4]
  simp only [← eb]
  simp only [← ea]
  have n1 : H4 ≠ Ha := by omega
  have n2 : H4 ≠ Hb := by omega
  have n3 : Ha ≠ H4 := by omega
  have n4 : Hb ≠ H4 := by omega
  have HLE : Hid (w.heap.size ≤ H4) := by show _ ≤ _; omega
  clear e4 eb ea
  refine (rcmp_any oa ob la ca lb cb xa xb _ hlac (by omega) hlbc (by omega) hxa hxb ax ay oka okb cz CZ.out).mono ?_
  rintro e w1 ⟨rfl, hbel⟩
  replace hb0 := hb0.trans (hbel.mono hb0.size)
  replace ax := ax.below hbel
  replace ay := ay.below hbel
  replace pa := pa.below hbel pa.lt
  replace pb := pb.below hbel pb.lt
  replace p4 := p4.below hbel p4.lt
  clear hbel
  go_wp2_with fail
  have AX := hide (ax.below (bdrew w1))
  have AY := hide (ay.below (bdrew w1))
  have PA := hide (pa.below (bdrew w1) pa.lt)
  have PB := hide (pb.below (bdrew w1) pb.lt)
  have P4 := hide (p4.below (bdrew w1) p4.lt)
  have a0 := pa.cell0
  have a1 := pa.cell1
  have b0 := pb.cell0
  have b1 := pb.cell1
  have HLT : Hid (H4 < w1.heap.size) := p4.lt
  have HB0 := hide (hb0.trans ((bdrew w1).mono hb0.size))
  have bw : Hid (Below w1.drew.heap.size w1.drew w1.drew) := Below.refl _ _
  have mk0 : True := trivial
  clear ax ay pa pb p4 hb0
  go_region_held3 (fun w' => w'.cell? ⟨Ha, 0, none⟩ = some (.bool false) ∧ w'.cell? ⟨Ha, 1, none⟩ = some (.slice oa la ca) ∧ w'.cell? ⟨Hb, 0, none⟩ = some (.bool true) ∧ w'.cell? ⟨Hb, 1, none⟩ = some (.slice ob lb cb)) (go_keep) (first | (clear mk0; go_at_call 103; refine (rsub_any oa ob la ca lb cb xa xb _ (by omega) hlen hxa hxb AX.out AY.out oka okb (by have := hc.out; omega)).mono ?_; rintro e v2 ⟨o1, c1, y1, rfl, hl1, at1, is1, hm1, hbel⟩; have AT1 := hide at1; have IS1 := hide is1; clear at1 is1; replace bw : Hid (Below w1.drew.heap.size w1.drew v2) := bw.out.trans (hbel.mono bw.out.size); have hsz := hbel.size; clear hbel; have tPA := PA.out.below bw.out PA.out.lt; replace a0 := tPA.cell0; replace a1 := tPA.cell1; clear tPA; have tPB := PB.out.below bw.out PB.out.lt; replace b0 := tPB.cell0; replace b1 := tPB.cell1; clear tPB; have HV2 : Hid (w1.heap.size ≤ v2.heap.size) := (by have h := bw.out.size; simpa [Hid] using h); clear hsz; have mk1 : True := trivial) | (clear mk1; go_at_call 69; refine (rmake false o1 y1.length c1 y1 _ (by omega) rfl AT1.out IS1.out.1).mono ?_; rintro e v3 ⟨sg, o2, c2, r2, hs, rfl, hl2, rs2, is2, hm2, hbel⟩; rw [IS1.out.2.2] at hs is2; have F2 := hide rs2; have IS2 := hide is2; clear rs2 is2; replace bw : Hid (Below w1.drew.heap.size w1.drew v3) := bw.out.trans (hbel.mono bw.out.size); have hsz := hbel.size; clear hbel; have tPA := PA.out.below bw.out PA.out.lt; replace a0 := tPA.cell0; replace a1 := tPA.cell1; clear tPA; have tPB := PB.out.below bw.out PB.out.lt; replace b0 := tPB.cell0; replace b1 := tPB.cell1; clear tPB; have p4' := P4.out.below bw.out P4.out.lt; have d0 := p4'.cell0; have d1 := p4'.cell1; have f0 := p4'.free 0; have f1 := p4'.free 1; have P4L := hide p4'; clear p4'; clear hsz))
  have hfin := HB0.out.trans (bw.out.mono HB0.out.size)
  clear a0 a1 b0 b1 PA PB AX AY
  go_wp2
  refine bodyPost_ret (results_pairR rfl _ _ _ _ _ rfl (P4L.out.put _ _)) rfl ?_
  exact RWPost.ret (H := H4) hs hl2 F2.out HLE.out (by have := HLT.out; have := HV2.out; omega) (Nat.le_refl _) IS2.out (by omega) hfin

set_option maxRecDepth 100000 in
set_option maxHeartbeats 2000000 in
theorem raddw_ftl (oa ob : Option Addr) (la ca lb cb : Nat) (xa xb : List Nat) (w : World) (hla : la ≤ 20000000) (hlb : lb ≤ 20000000) (hlac : la ≤ ca) (hlbc : lb ≤ cb) (hxa : xa.length = la) (hxb : xb.length = lb) (ata : At .u32 w oa xa) (atb : At .u32 w ob xb) (oka : Ok 65536 xa) (okb : Ok 65536 xb) (hlen : la ≤ lb) (hc : Hid (num 65536 xa < num 65536 xb)) :
    Calls Tryz.prog 75 #[.agg #[.bool false, .slice oa la ca], .agg #[.bool true, .slice ob lb cb]] w (RWPost w (max la lb + 2) (zv true (num 65536 xb - num 65536 xa))) := by
  obtain ⟨cz, hcz⟩ : ∃ c, c = cmpN (num 65536 xa) (num 65536 xb) := ⟨_, rfl⟩
  have CZ : Hid (cmpN (num 65536 xa) (num 65536 xb) = cz) := hcz.symm
  have hc0 : ¬ 0 ≤ cz := by rw [hcz]; unfold cmpN; rw [if_pos hc.out]; omega
  clear hcz
  go_enter Tryz.func75, Tryz.ntmps75
  go_wp2_with fail
  have hb0 : Below w.heap.size w (((w.alloc (Obj.cells #[Value.bool false, Value.slice oa la ca] 58)).alloc (Obj.cells #[Value.bool true, Value.slice ob lb cb] 58)).alloc (Obj.cells #[Value.bool false, Value.slice none 0 0] 58)) := (((Below.refl _ _).alloc (Nat.le_refl _) _).alloc (by simp) _).alloc (by simp; omega) _
  have pa := ((Pair.new w (.bool false) (.slice oa la ca) 58).alloc (Obj.cells #[Value.bool true, Value.slice ob lb cb] 58)).alloc (Obj.cells #[Value.bool false, Value.slice none 0 0] 58)
  have pb := (Pair.newAt (w.alloc (Obj.cells #[Value.bool false, Value.slice oa la ca] 58)) (w.heap.size + 1) (by simp) (.bool true) (.slice ob lb cb) 58).alloc (Obj.cells #[Value.bool false, Value.slice none 0 0] 58)
  have p4 := Pair.newAt ((w.alloc (Obj.cells #[Value.bool false, Value.slice oa la ca] 58)).alloc (Obj.cells #[Value.bool true, Value.slice ob lb cb] 58)) (w.heap.size + 1 + 1) (by simp) (.bool false) (.slice none 0 0) 58
  have ax := ((ata.alloc (Obj.cells #[Value.bool false, Value.slice oa la ca] 58)).alloc (Obj.cells #[Value.bool true, Value.slice ob lb cb] 58)).alloc (Obj.cells #[Value.bool false, Value.slice none 0 0] 58)
  have ay := ((atb.alloc (Obj.cells #[Value.bool false, Value.slice oa la ca] 58)).alloc (Obj.cells #[Value.bool true, Value.slice ob lb cb] 58)).alloc (Obj.cells #[Value.bool false, Value.slice none 0 0] 58)
  clear ata atb
  generalize (((w.alloc (Obj.cells #[Value.bool false, Value.slice oa la ca] 58)).alloc (Obj.cells #[Value.bool true, Value.slice ob lb cb] 58)).alloc (Obj.cells #[Value.bool false, Value.slice none 0 0] 58)) = w0 at *
  obtain ⟨H4, e4⟩ : ∃ H, H = w.heap.size + 1 + 1 := ⟨_, rfl⟩
  obtain ⟨Hb, eb⟩ : ∃ H, H = w.heap.size + 1 := ⟨_, rfl⟩
  obtain ⟨Ha, ea⟩ : ∃ H, H = w.heap.size := ⟨_, rfl⟩
  rw [← e4] at p4
  rw [← eb] at pb
  rw [← ea] at pa
  simp only [← e4]
  simp only [← eb]
  simp only [← ea]
  have n1 : H4 ≠ Ha := by omega
  have n2 : H4 ≠ Hb := by omega
  have n3 : Ha ≠ H4 := by omega
  have n4 : Hb ≠ H4 := by omega
  have HLE : Hid (w.heap.size ≤ H4) := by show _ ≤ _; omega
  clear e4 eb ea
  refine (rcmp_any oa ob la ca lb cb xa xb _ hlac (by omega) hlbc (by omega) hxa hxb ax ay oka okb cz CZ.out).mono ?_
  rintro e w1 ⟨rfl, hbel⟩
  replace hb0 := hb0.trans (hbel.mono hb0.size)
  replace ax := ax.below hbel
  replace ay := ay.below hbel
  replace pa := pa.below hbel pa.lt
  replace pb := pb.below hbel pb.lt
  replace p4 := p4.below hbel p4.lt
  clear hbel
  go_wp2_with fail
  have AX := hide (ax.below (bdrew w1))
  have AY := hide (ay.below (bdrew w1))
  have PA := hide (pa.below (bdrew w1) pa.lt)
  have PB := hide (pb.below (bdrew w1) pb.lt)
  have P4 := hide (p4.below (bdrew w1) p4.lt)
  have a0 := pa.cell0
  have a1 := pa.cell1
  have b0 := pb.cell0
  have b1 := pb.cell1
  have HLT : Hid (H4 < w1.heap.size) := p4.lt
  have HB0 := hide (hb0.trans ((bdrew w1).mono hb0.size))
  have bw : Hid (Below w1.drew.heap.size w1.drew w1.drew) := Below.refl _ _
  have mk0 : True := trivial
  clear ax ay pa pb p4 hb0
  go_region_held3 (fun w' => w'.cell? ⟨Ha, 0, none⟩ = some (.bool false) ∧ w'.cell? ⟨Ha, 1, none⟩ = some (.slice oa la ca) ∧ w'.cell? ⟨Hb, 0, none⟩ = some (.bool true) ∧ w'.cell? ⟨Hb, 1, none⟩ = some (.slice ob lb cb)) (go_keep) (first | (clear mk0; go_at_call 103; refine (rsub_any ob oa lb cb la ca xb xa _ (by omega) hlen hxb hxa AY.out AX.out okb oka (by have := hc.out; omega)).mono ?_; rintro e v2 ⟨o1, c1, y1, rfl, hl1, at1, is1, hm1, hbel⟩; have AT1 := hide at1; have IS1 := hide is1; clear at1 is1; replace bw : Hid (Below w1.drew.heap.size w1.drew v2) := bw.out.trans (hbel.mono bw.out.size); have hsz := hbel.size; clear hbel; have tPA := PA.out.below bw.out PA.out.lt; replace a0 := tPA.cell0; replace a1 := tPA.cell1; clear tPA; have tPB := PB.out.below bw.out PB.out.lt; replace b0 := tPB.cell0; replace b1 := tPB.cell1; clear tPB; have HV2 : Hid (w1.heap.size ≤ v2.heap.size) := (by have h := bw.out.size; simpa [Hid] using h); clear hsz; have mk1 : True := trivial) | (clear mk1; go_at_call 69; refine (rmake true o1 y1.length c1 y1 _ (by omega) rfl AT1.out IS1.out.1).mono ?_; rintro e v3 ⟨sg, o2, c2, r2, hs, rfl, hl2, rs2, is2, hm2, hbel⟩; rw [IS1.out.2.2] at hs is2; have F2 := hide rs2; have IS2 := hide is2; clear rs2 is2; replace bw : Hid (Below w1.drew.heap.size w1.drew v3) := bw.out.trans (hbel.mono bw.out.size); have hsz := hbel.size; clear hbel; have tPA := PA.out.below bw.out PA.out.lt; replace a0 := tPA.cell0; replace a1 := tPA.cell1; clear tPA; have tPB := PB.out.below bw.out PB.out.lt; replace b0 := tPB.cell0; replace b1 := tPB.cell1; clear tPB; have p4' := P4.out.below bw.out P4.out.lt; have d0 := p4'.cell0; have d1 := p4'.cell1; have f0 := p4'.free 0; have f1 := p4'.free 1; have P4L := hide p4'; clear p4'; clear hsz))
  have hfin := HB0.out.trans (bw.out.mono HB0.out.size)
  clear a0 a1 b0 b1 PA PB AX AY
  go_wp2
  refine bodyPost_ret (results_pairR rfl _ _ _ _ _ rfl (P4L.out.put _ _)) rfl ?_
  exact RWPost.ret (H := H4) hs hl2 F2.out HLE.out (by have := HLT.out; have := HV2.out; omega) (Nat.le_refl _) IS2.out (by omega) hfin

set_option maxRecDepth 100000 in
set_option maxHeartbeats 2000000 in
theorem raddw_tfg (oa ob : Option Addr) (la ca lb cb : Nat) (xa xb : List Nat) (w : World) (hla : la ≤ 20000000) (hlb : lb ≤ 20000000) (hlac : la ≤ ca) (hlbc : lb ≤ cb) (hxa : xa.length = la) (hxb : xb.length = lb) (ata : At .u32 w oa xa) (atb : At .u32 w ob xb) (oka : Ok 65536 xa) (okb : Ok 65536 xb) (hlen : lb ≤ la) (hc : Hid (¬ num 65536 xa < num 65536 xb)) :
    Calls Tryz.prog 75 #[.agg #[.bool true, .slice oa la ca], .agg #[.bool false, .slice ob lb cb]] w (RWPost w (max la lb + 2) (zv true (num 65536 xa - num 65536 xb))) := by
  obtain ⟨cz, hcz⟩ : ∃ c, c = cmpN (num 65536 xa) (num 65536 xb) := ⟨_, rfl⟩
  have CZ : Hid (cmpN (num 65536 xa) (num 65536 xb) = cz) := hcz.symm
  have hc0 : 0 ≤ cz := by rw [hcz]; unfold cmpN; rw [if_neg hc.out]; split <;> omega
  clear hcz
  go_enter Tryz.func75, Tryz.ntmps75
  go_wp2_with fail
  have hb0 : Below w.heap.size w (((w.alloc (Obj.cells #[Value.bool true, Value.slice oa la ca] 58)).alloc (Obj.cells #[Value.bool false, Value.slice ob lb cb] 58)).alloc (Obj.cells #[Value.bool false, Value.slice none 0 0] 58)) := (((Below.refl _ _).alloc (Nat.le_refl _) _).alloc (by simp) _).alloc (by simp; omega) _
  have pa := ((Pair.new w (.bool true) (.slice oa la ca) 58).alloc (Obj.cells #[Value.bool false, Value.slice ob lb cb] 58)).alloc (Obj.cells #[Value.bool false, Value.slice none 0 0] 58)
  have pb := (Pair.newAt (w.alloc (Obj.cells #[Value.bool true, Value.slice oa la ca] 58)) (w.heap.size + 1) (by simp) (.bool false) (.slice ob lb cb) 58).alloc (Obj.cells #[Value.bool false, Value.slice none 0 0] 58)
  have p4 := Pair.newAt ((w.alloc (Obj.cells #[Value.bool true, Value.slice oa la ca] 58)).alloc (Obj.cells #[Value.bool false, Value.slice ob lb cb] 58)) (w.heap.size + 1 + 1) (by simp) (.bool false) (.slice none 0 0) 58
  have ax := ((ata.alloc (Obj.cells #[Value.bool true, Value.slice oa la ca] 58)).alloc (Obj.cells #[Value.bool false, Value.slice ob lb cb] 58)).alloc (Obj.cells #[Value.bool false, Value.slice none 0 0] 58)
  have ay := ((atb.alloc (Obj.cells #[Value.bool true, Value.slice oa la ca] 58)).alloc (Obj.cells #[Value.bool false, Value.slice ob lb cb] 58)).alloc (Obj.cells #[Value.bool false, Value.slice none 0 0] 58)
  clear ata atb
  generalize (((w.alloc (Obj.cells #[Value.bool true, Value.slice oa la ca] 58)).alloc (Obj.cells #[Value.bool false, Value.slice ob lb cb] 58)).alloc (Obj.cells #[Value.bool false, Value.slice none 0 0] 58)) = w0 at *
  obtain ⟨H4, e4⟩ : ∃ H, H = w.heap.size + 1 + 1 := ⟨_, rfl⟩
  obtain ⟨Hb, eb⟩ : ∃ H, H = w.heap.size + 1 := ⟨_, rfl⟩
  obtain ⟨Ha, ea⟩ : ∃ H, H = w.heap.size := ⟨_, rfl⟩
  rw [← e4] at p4
  rw [← eb] at pb
  rw [← ea] at pa
  simp only [← e4]
  simp only [← eb]
  simp only [← ea]
  have n1 : H4 ≠ Ha := by omega
  have n2 : H4 ≠ Hb := by omega
  have n3 : Ha ≠ H4 := by omega
  have n4 : Hb ≠ H4 := by omega
  have HLE : Hid (w.heap.size ≤ H4) := by show _ ≤ _; omega
  clear e4 eb ea
  refine (rcmp_any oa ob la ca lb cb xa xb _ hlac (by omega) hlbc (by omega) hxa hxb ax ay oka okb cz CZ.out).mono ?_
  rintro e w1 ⟨rfl, hbel⟩
  replace hb0 := hb0.trans (hbel.mono hb0.size)
  replace ax := ax.below hbel
  replace ay := ay.below hbel
  replace pa := pa.below hbel pa.lt
  replace pb := pb.below hbel pb.lt
  replace p4 := p4.below hbel p4.lt
  clear hbel
  go_wp2_with fail
  have AX := hide (ax.below (bdrew w1))
  have AY := hide (ay.below (bdrew w1))
  have PA := hide (pa.below (bdrew w1) pa.lt)
  have PB := hide (pb.below (bdrew w1) pb.lt)
  have P4 := hide (p4.below (bdrew w1) p4.lt)
  have a0 := pa.cell0
  have a1 := pa.cell1
  have b0 := pb.cell0
  have b1 := pb.cell1
  have HLT : Hid (H4 < w1.heap.size) := p4.lt
  have HB0 := hide (hb0.trans ((bdrew w1).mono hb0.size))
  have bw : Hid (Below w1.drew.heap.size w1.drew w1.drew) := Below.refl _ _
  have mk0 : True := trivial
  clear ax ay pa pb p4 hb0
  go_region_held3 (fun w' => w'.cell? ⟨Ha, 0, none⟩ = some (.bool true) ∧ w'.cell? ⟨Ha, 1, none⟩ = some (.slice oa la ca) ∧ w'.cell? ⟨Hb, 0, none⟩ = some (.bool false) ∧ w'.cell? ⟨Hb, 1, none⟩ = some (.slice ob lb cb)) (go_keep) (first | (clear mk0; go_at_call 103; refine (rsub_any oa ob la ca lb cb xa xb _ (by omega) hlen hxa hxb AX.out AY.out oka okb (by have := hc.out; omega)).mono ?_; rintro e v2 ⟨o1, c1, y1, rfl, hl1, at1, is1, hm1, hbel⟩; have AT1 := hide at1; have IS1 := hide is1; clear at1 is1; replace bw : Hid (Below w1.drew.heap.size w1.drew v2) := bw.out.trans (hbel.mono bw.out.size); have hsz := hbel.size; clear hbel; have tPA := PA.out.below bw.out PA.out.lt; replace a0 := tPA.cell0; replace a1 := tPA.cell1; clear tPA; have tPB := PB.out.below bw.out PB.out.lt; replace b0 := tPB.cell0; replace b1 := tPB.cell1; clear tPB; have HV2 : Hid (w1.heap.size ≤ v2.heap.size) := (by have h := bw.out.size; simpa [Hid] using h); clear hsz; have mk1 : True := trivial) | (clear mk1; go_at_call 69; refine (rmake true o1 y1.length c1 y1 _ (by omega) rfl AT1.out IS1.out.1).mono ?_; rintro e v3 ⟨sg, o2, c2, r2, hs, rfl, hl2, rs2, is2, hm2, hbel⟩; rw [IS1.out.2.2] at hs is2; have F2 := hide rs2; have IS2 := hide is2; clear rs2 is2; replace bw : Hid (Below w1.drew.heap.size w1.drew v3) := bw.out.trans (hbel.mono bw.out.size); have hsz := hbel.size; clear hbel; have tPA := PA.out.below bw.out PA.out.lt; replace a0 := tPA.cell0; replace a1 := tPA.cell1; clear tPA; have tPB := PB.out.below bw.out PB.out.lt; replace b0 := tPB.cell0; replace b1 := tPB.cell1; clear tPB; have p4' := P4.out.below bw.out P4.out.lt; have d0 := p4'.cell0; have d1 := p4'.cell1; have f0 := p4'.free 0; have f1 := p4'.free 1; have P4L := hide p4'; clear p4'; clear hsz))
  have hfin := HB0.out.trans (bw.out.mono HB0.out.size)
  clear a0 a1 b0 b1 PA PB AX AY
  go_wp2
  refine bodyPost_ret (results_pairR rfl _ _ _ _ _ rfl (P4L.out.put _ _)) rfl ?_
  exact RWPost.ret (H := H4) hs hl2 F2.out HLE.out (by have := HLT.out; have := HV2.out; omega) (Nat.le_refl _) IS2.out (by omega) hfin

set_option maxRecDepth 100000 in
set_option maxHeartbeats 2000000 in
theorem raddw_tfl (oa ob : Option Addr) (la ca lb cb : Nat) (xa xb : List Nat) (w : World) (hla : la ≤ 20000000) (hlb : lb ≤ 20000000) (hlac : la ≤ ca) (hlbc : lb ≤ cb) (hxa : xa.length = la) (hxb : xb.length = lb) (ata : At .u32 w oa xa) (atb : At .u32 w ob xb) (oka : Ok 65536 xa) (okb : Ok 65536 xb) (hlen : la ≤ lb) (hc : Hid (num 65536 xa < num 65536 xb)) :
    Calls Tryz.prog 75 #[.agg #[.bool true, .slice oa la ca], .agg #[.bool false, .slice ob lb cb]] w (RWPost w (max la lb + 2) (zv false (num 65536 xb - num 65536 xa))) := by
  obtain ⟨cz, hcz⟩ : ∃ c, c = cmpN (num 65536 xa) (num 65536 xb) := ⟨_, rfl⟩
  have CZ : Hid (cmpN (num 65536 xa) (num 65536 xb) = cz) := hcz.symm
  have hc0 : ¬ 0 ≤ cz := by rw [hcz]; unfold cmpN; rw [if_pos hc.out]; omega
  clear hcz
  go_enter Tryz.func75, Tryz.ntmps75
  go_wp2_with fail
  have hb0 : Below w.heap.size w (((w.alloc (Obj.cells #[Value.bool true, Value.slice oa la ca] 58)).alloc (Obj.cells #[Value.bool false, Value.slice ob lb cb] 58)).alloc (Obj.cells #[Value.bool false, Value.slice none 0 0] 58)) := (((Below.refl _ _).alloc (Nat.le_refl _) _).alloc (by simp) _).alloc (by simp; omega) _
  have pa := ((Pair.new w (.bool true) (.slice oa la ca) 58).alloc (Obj.cells #[Value.bool false, Value.slice ob lb cb] 58)).alloc (Obj.cells #[Value.bool false, Value.slice none 0 0] 58)
  have pb := (Pair.newAt (w.alloc (Obj.cells #[Value.bool true, Value.slice oa la ca] 58)) (w.heap.size + 1) (by simp) (.bool false) (.slice ob lb cb) 58).alloc (Obj.cells #[Value.bool false, Value.slice none 0 0] 58)
  have p4 := Pair.newAt ((w.alloc (Obj.cells #[Value.bool true, Value.slice oa la ca] 58)).alloc (Obj.cells #[Value.bool false, Value.slice ob lb cb] 58)) (w.heap.size + 1 + 1) (by simp) (.bool false) (.slice none 0 0) 58
  have ax := ((ata.alloc (Obj.cells #[Value.bool true, Value.slice oa la ca] 58)).alloc (Obj.cells #[Value.bool false, Value.slice ob lb cb] 58)).alloc (Obj.cells #[Value.bool false, Value.slice none 0 0] 58)
  have ay := ((atb.alloc (Obj.cells #[Value.bool true, Value.slice oa la ca] 58)).alloc (Obj.cells #[Value.bool false, Value.slice ob lb cb] 58)).alloc (Obj.cells #[Value.bool false, Value.slice none 0 0] 58)
  clear ata atb
  generalize (((w.alloc (Obj.cells #[Value.bool true, Value.slice oa la ca] 58)).alloc (Obj.cells #[Value.bool false, Value.slice ob lb cb] 58)).alloc (Obj.cells #[Value.bool false, Value.slice none 0 0] 58)) = w0 at *
  obtain ⟨H4, e4⟩ : ∃ H, H = w.heap.size + 1 + 1 := ⟨_, rfl⟩
  obtain ⟨Hb, eb⟩ : ∃ H, H = w.heap.size + 1 := ⟨_, rfl⟩
  obtain ⟨Ha, ea⟩ : ∃ H, H = w.heap.size := ⟨_, rfl⟩
  rw [← e4] at p4
  rw [← eb] at pb
  rw [← ea] at pa
  simp only [← e4]
  simp only [← eb]
  simp only [← ea]
  have n1 : H4 ≠ Ha := by omega
  have n2 : H4 ≠ Hb := by omega
  have n3 : Ha ≠ H4 := by omega
  have n4 : Hb ≠ H4 := by omega
  have HLE : Hid (w.heap.size ≤ H4) := by show _ ≤ _; omega
  clear e4 eb ea
  refine (rcmp_any oa ob la ca lb cb xa xb _ hlac (by omega) hlbc (by omega) hxa hxb ax ay oka okb cz CZ.out).mono ?_
  rintro e w1 ⟨rfl, hbel⟩
  replace hb0 := hb0.trans (hbel.mono hb0.size)
  replace ax := ax.below hbel
  replace ay := ay.below hbel
  replace pa := pa.below hbel pa.lt
  replace pb := pb.below hbel pb.lt
  replace p4 := p4.below hbel p4.lt
  clear hbel
  go_wp2_with fail
  have AX := hide (ax.below (bdrew w1))
  have AY := hide (ay.below (bdrew w1))
  have PA := hide (pa.below (bdrew w1) pa.lt)
  have PB := hide (pb.below (bdrew w1) pb.lt)
  have P4 := hide (p4.below (bdrew w1) p4.lt)
  have a0 := pa.cell0
  have a1 := pa.cell1
  have b0 := pb.cell0
  have b1 := pb.cell1
  have HLT : Hid (H4 < w1.heap.size) := p4.lt
  have HB0 := hide (hb0.trans ((bdrew w1).mono hb0.size))
  have bw : Hid (Below w1.drew.heap.size w1.drew w1.drew) := Below.refl _ _
  have mk0 : True := trivial
  clear ax ay pa pb p4 hb0
  go_region_held3 (fun w' => w'.cell? ⟨Ha, 0, none⟩ = some (.bool true) ∧ w'.cell? ⟨Ha, 1, none⟩ = some (.slice oa la ca) ∧ w'.cell? ⟨Hb, 0, none⟩ = some (.bool false) ∧ w'.cell? ⟨Hb, 1, none⟩ = some (.slice ob lb cb)) (go_keep) (first | (clear mk0; go_at_call 103; refine (rsub_any ob oa lb cb la ca xb xa _ (by omega) hlen hxb hxa AY.out AX.out okb oka (by have := hc.out; omega)).mono ?_; rintro e v2 ⟨o1, c1, y1, rfl, hl1, at1, is1, hm1, hbel⟩; have AT1 := hide at1; have IS1 := hide is1; clear at1 is1; replace bw : Hid (Below w1.drew.heap.size w1.drew v2) := bw.out.trans (hbel.mono bw.out.size); have hsz := hbel.size; clear hbel; have tPA := PA.out.below bw.out PA.out.lt; replace a0 := tPA.cell0; replace a1 := tPA.cell1; clear tPA; have tPB := PB.out.below bw.out PB.out.lt; replace b0 := tPB.cell0; replace b1 := tPB.cell1; clear tPB; have HV2 : Hid (w1.heap.size ≤ v2.heap.size) := (by have h := bw.out.size; simpa [Hid] using h); clear hsz; have mk1 : True := trivial) | (clear mk1; go_at_call 69; refine (rmake false o1 y1.length c1 y1 _ (by omega) rfl AT1.out IS1.out.1).mono ?_; rintro e v3 ⟨sg, o2, c2, r2, hs, rfl, hl2, rs2, is2, hm2, hbel⟩; rw [IS1.out.2.2] at hs is2; have F2 := hide rs2; have IS2 := hide is2; clear rs2 is2; replace bw : Hid (Below w1.drew.heap.size w1.drew v3) := bw.out.trans (hbel.mono bw.out.size); have hsz := hbel.size; clear hbel; have tPA := PA.out.below bw.out PA.out.lt; replace a0 := tPA.cell0; replace a1 := tPA.cell1; clear tPA; have tPB := PB.out.below bw.out PB.out.lt; replace b0 := tPB.cell0; replace b1 := tPB.cell1; clear tPB; have p4' := P4.out.below bw.out P4.out.lt; have d0 := p4'.cell0; have d1 := p4'.cell1; have f0 := p4'.free 0; have f1 := p4'.free 1; have P4L := hide p4'; clear p4'; clear hsz))
  have hfin := HB0.out.trans (bw.out.mono HB0.out.size)
  clear a0 a1 b0 b1 PA PB AX AY
  go_wp2
  refine bodyPost_ret (results_pairR rfl _ _ _ _ _ rfl (P4L.out.put _ _)) rfl ?_
  exact RWPost.ret (H := H4) hs hl2 F2.out HLE.out (by have := HLT.out; have := HV2.out; omega) (Nat.le_refl _) IS2.out (by omega) hfin

theorem raddz (s t : Bool) (oa ob : Option Addr) (la ca lb cb : Nat) (xa xb : List Nat) (w : World) (hla : la ≤ 20000000) (hlb : lb ≤ 20000000) (hlac : la ≤ ca) (hlbc : lb ≤ cb) (hxa : xa.length = la) (hxb : xb.length = lb) (ata : At .u32 w oa xa) (atb : At .u32 w ob xb) (z u : Int) (hz : Hid (NI32 s xa z)) (hu : Hid (NI32 t xb u)) :
    Calls Tryz.prog 75 #[.agg #[.bool s, .slice oa la ca], .agg #[.bool t, .slice ob lb cb]] w (RWPost w (max la lb + 2) (z + u)) := by
  rw [← hz.out.nv.2, ← hu.out.nv.2]
  have h1 : ¬ num 65536 xa < num 65536 xb → lb ≤ la := fun h => by rw [← hxa, ← hxb]; exact len_le (b := 65536) (by omega) hz.out.2.1 hu.out.2.2.1 (by omega)
  have h2 : num 65536 xa < num 65536 xb → la ≤ lb := fun h => by rw [← hxa, ← hxb]; exact len_le (b := 65536) (by omega) hu.out.2.1 hz.out.2.2.1 (by omega)
  cases s
  · cases t
    · rw [outward_val]; exact raddw_ff oa ob la ca lb cb xa xb w hla hlb hlac hlbc hxa hxb ata atb hz.out.2.1 hu.out.2.1
    · rw [inward_val (by simp)]
      by_cases h : num 65536 xa < num 65536 xb
      · rw [if_pos h]; exact raddw_ftl oa ob la ca lb cb xa xb w hla hlb hlac hlbc hxa hxb ata atb hz.out.2.1 hu.out.2.1 (h2 h) h
      · rw [if_neg h]; exact raddw_ftg oa ob la ca lb cb xa xb w hla hlb hlac hlbc hxa hxb ata atb hz.out.2.1 hu.out.2.1 (h1 h) h
  · cases t
    · rw [inward_val (by simp)]
      by_cases h : num 65536 xa < num 65536 xb
      · rw [if_pos h]; exact raddw_tfl oa ob la ca lb cb xa xb w hla hlb hlac hlbc hxa hxb ata atb hz.out.2.1 hu.out.2.1 (h2 h) h
      · rw [if_neg h]; exact raddw_tfg oa ob la ca lb cb xa xb w hla hlb hlac hlbc hxa hxb ata atb hz.out.2.1 hu.out.2.1 (h1 h) h
    · rw [outward_val]; exact raddw_tt oa ob la ca lb cb xa xb w hla hlb hlac hlbc hxa hxb ata atb hz.out.2.1 hu.out.2.1

end Go.Proofs.YtafljhfamjabeaaGreatDoor

namespace Go.Proofs.YtafljhfamjabeaaGreatDoor
open Go.RowKit

theorem ok32 {xs : List Nat} (h : (xs.all fun x => decide (x < 65536)) = true) : Ok 65536 xs := by
  intro i
  by_cases hi : i < xs.length
  · have := List.all_eq_true.1 h (xs[i]) (List.getElem_mem hi)
    simpa [dg, hi] using this
  · rw [dg_out (by omega)]; omega

theorem len32 {r : List Nat} {n t : Nat} (h : Is 65536 r n) (hn : n < 65536 ^ t) : r.length ≤ t := by
  rcases hl : r.length with _ | j
  · omega
  · have h1 := num_ge (b := 65536) h.2.1 hl
    rw [h.2.2] at h1
    rcases Nat.lt_or_ge j t with h' | h'
    · omega
    · have := Nat.pow_le_pow_right (show 0 < 65536 by omega) h'; omega

end Go.Proofs.YtafljhfamjabeaaGreatDoor

namespace Go.Proofs.YtafljhfamjabeaaGreatDoor
open Go.RowKit

set_option maxRecDepth 100000 in
set_option maxHeartbeats 400000 in
theorem small10 (w : World) : Calls Tryz.prog 121 #[.int .i64 10] w (RPost w 2 10) := by
  have hat : At .u32 (w.alloc (.cells #[.int .u32 10, .int .u32 0] 101)) (some ⟨w.heap.size, 0, none⟩) [10, 0] := Row.at (k := .u32) (e := 101) (heap_alloc_new w _)
  go_enter Tryz.func121, Tryz.ntmps121
  go_wp2_with fail
  refine (rtrim_to (some ⟨w.heap.size, 0, none⟩) 2 2 1 [10, 0] _ (Nat.le_refl _) (by omega) rfl hat (by decide +kernel)).mono ?_
  rintro e w' ⟨rfl, rfl⟩
  go_wp2
  go_ret
  refine ⟨some ⟨w.heap.size, 0, none⟩, 2, [10], rfl, by decide, hat.take 1, ⟨ok32 (by decide +kernel), ?_, by decide +kernel⟩, by decide, (Below.refl _ _).alloc (Nat.le_refl _) _⟩
  intro n hn
  have : n = 0 := by simp at hn; omega
  subst this; decide

theorem ten32 : (10 : Nat) ^ 8192 < 65536 ^ 1800 := by decide +kernel

set_option maxRecDepth 100000 in
set_option maxHeartbeats 1000000 in
theorem rpow10 (n : Nat) (hn : n ≤ 8192) (w : World) :
    Calls Tryz.prog 90 #[.int .i64 10, .int .i64 (n : Int)] w (RPost w 1800 (10 ^ n)) := by
  have hst : At .u32 (w.alloc (.cells #[.int .u32 1] 101)) (some ⟨w.heap.size, 0, none⟩) [1] := Row.at (k := .u32) (e := 101) (heap_alloc_new w _)
  have i1 : Is 65536 [1] 1 := ⟨ok32 (by decide +kernel), by intro n hn; have : n = 0 := by { simp at hn; omega }; subst this; decide, by decide +kernel⟩
  have HST := hide hst
  have HI1 := hide i1
  clear hst i1
  go_enter Tryz.func90, Tryz.ntmps90
  go_wp2
  go_loopw [5, 6] (fun v i wr => ∃ (k : Nat) (o : Option Addr) (c : Nat) (r : List Nat), k ≤ n ∧ i = .int .i64 (k : Int) ∧ v = .slice o r.length c ∧ r.length ≤ c ∧ At .u32 wr o r ∧ Is 65536 r (10 ^ k) ∧ Below w.heap.size w wr) (fun _ i _ => n - (intOf i).toNat)
  case atStart => exact ⟨0, _, _, [1], Nat.zero_le _, rfl, rfl, by decide, HST.out, HI1.out, (Below.refl _ _).alloc (Nat.le_refl _) _⟩
  case round =>
    clear HST HI1
    obtain ⟨k, o, c, r, hk, rfl, rfl, hl, hat, his, hb⟩ := hrel
    have hrl := len32 his (Nat.lt_of_le_of_lt (Nat.pow_le_pow_right (show 0 < 10 by omega) (Nat.le_trans hk hn)) ten32)
    by_cases hlt : k < n
    · have h1 : (k : Int) < (n : Int) := by omega
      go_wp2_with fail
      refine (small10 _).mono ?_
      rintro e w1 ⟨o1, c1, r1, rfl, hl1, hat1, his1, hm1, hb1⟩
      have hat' := hat.below hb1
      clear hat
      go_wp2_with fail
      refine (rmul_any o o1 _ c _ c1 r r1 _ (by omega) (by omega) rfl rfl hat' hat1 his.1 his1.1).mono ?_
      rintro e w2 ⟨o2, c2, r2, rfl, hl2, hat2, his2, hm2, hb2⟩
      rw [his.2.2, his1.2.2, ← Nat.pow_succ] at his2
      have hbw := hb.trans ((hb1.mono hb.size).trans (hb2.mono (Nat.le_trans hb.size hb1.size)))
      have HAT := hide hat2
      have HIS := hide his2
      have HBW := hide hbw
      clear hat' hat1 his1 his hb hb1 hb2 hat2 his2 hbw
      go_wp2
      go_roundw
      case rel => exact ⟨k + 1, o2, c2, r2, by omega, by go_num, rfl, hl2, HAT.out, HIS.out, HBW.out⟩
      case measure => simp [intOf]; omega
    · obtain rfl : k = n := by omega
      have h1 : ¬ (k : Int) < (k : Int) := by omega
      go_wp2
      go_ret
      exact ⟨o, c, r, rfl, hl, hat, his, hrl, hb⟩

end Go.Proofs.YtafljhfamjabeaaGreatDoor

namespace Go.Proofs.YtafljhfamjabeaaGreatDoor
open Go.RowKit

theorem num_snoc (b : Nat) (r : List Nat) (y : Nat) : num b (r ++ [y]) = num b r + y * b ^ r.length := by
  unfold num
  rw [List.length_append, List.length_singleton]
  simp only [V]
  have e : dg (r ++ [y]) r.length = y := by simp [dg]
  rw [e, V_congr (f := dg (r ++ [y])) (g := dg r) r.length (fun i hi => by simp [dg, List.getElem?_append_left hi])]

theorem Ok.snoc {b : Nat} {r : List Nat} {y : Nat} (h : Ok b r) (hy : y < b) : Ok b (r ++ [y]) := by
  intro i
  rcases Nat.lt_trichotomy i r.length with h1 | h1 | h1
  · rw [show dg (r ++ [y]) i = dg r i by simp [dg, List.getElem?_append_left h1]]; exact h i
  · rw [show dg (r ++ [y]) i = y by simp [dg, h1]]; exact hy
  · rw [dg_out (by simp; omega)]; omega

theorem carry_put (x b k : Nat) : x % b * b ^ k + x / b * b ^ (k + 1) = x * b ^ k := by
  have h := Nat.div_add_mod x b
  rw [Nat.pow_succ, Nat.mul_comm (b ^ k) b, ← Nat.mul_assoc, ← Nat.add_mul, Nat.mul_comm (x / b) b, Nat.add_comm, h]

theorem times_step {a c d k N S : Nat} (h : S + c * 65536 ^ k = N * 10 + d) :
    S + (a * 10 + c) % 65536 * 65536 ^ k + (a * 10 + c) / 65536 * 65536 ^ (k + 1) = (N + a * 65536 ^ k) * 10 + d := by
  have h1 := carry_put (a * 10 + c) 65536 k
  generalize 65536 ^ (k + 1) = Q at h1 ⊢
  generalize 65536 ^ k = P at h h1 ⊢
  have h2 : (a * 10 + c) * P = a * P * 10 + c * P := by
    rw [Nat.add_mul, Nat.mul_assoc, Nat.mul_comm 10, ← Nat.mul_assoc]
  omega

/-- What times answers: a list of digits, noughts on top or not, that is the number n. -/
def TPost (w : World) (m n : Nat) (e : Ending) (w' : World) : Prop :=
  ∃ ao cap ys, e = .returned (.slice ao (List.length ys) cap) ∧ ys.length ≤ cap ∧ At .u32 w' ao ys ∧ Ok 65536 ys ∧ num 65536 ys = n ∧ ys.length ≤ m ∧ Below w.heap.size w w'

/-- Behind k digits of the first loop. -/
structure TIn (w : World) (xs : List Nat) (d k c : Nat) (v : Value) (wr : World) : Prop where
  small : c ≤ 9
  row : ∃ r, Grows w wr v r ∧ r.length = k ∧ Ok 65536 r ∧ num 65536 r + c * 65536 ^ k = V 65536 (dg xs) k * 10 + d

/-- In the second loop. -/
structure TOut (w : World) (N la c : Nat) (v : Value) (wr : World) : Prop where
  small : c ≤ 9
  row : ∃ r, Grows w wr v r ∧ r.length ≤ la + 1 ∧ (c ≠ 0 → r.length ≤ la) ∧ Ok 65536 r ∧ num 65536 r + c * 65536 ^ r.length = N

theorem TIn.out {w wr : World} {xs : List Nat} {d k c : Nat} {v : Value} (h : TIn w xs d k c v wr) (hk : xs.length = k) : TOut w (num 65536 xs * 10 + d) k c v wr := by
  obtain ⟨h1, r, h2, h3, h4, h5⟩ := h
  refine ⟨h1, r, h2, by omega, fun _ => by omega, h4, ?_⟩
  rw [h3, h5, ← hk]; rfl

set_option maxRecDepth 100000 in
set_option maxHeartbeats 1000000 in
theorem times_any (ao : Option Addr) (la ca d : Nat) (xs : List Nat) (w : World) (hla : la ≤ 1000000) (hd : d ≤ 9) (hx : xs.length = la) (hax : At .u32 w ao xs) (ox : Ok 65536 xs) :
    Calls Tryz.prog 92 #[.slice ao la ca, .int .u32 10, .int .u32 (d : Int)] w (TPost w (la + 1) (num 65536 xs * 10 + d)) := by
  obtain ⟨i0, hi, hz0, hz1, hz2⟩ := info_parts Tryz.infoD
  go_enter Tryz.func92, Tryz.ntmps92
  go_wp2
  go_loopw [7, 8, 9, 10] (fun v cv i _ wr => ∃ k c : Nat, k ≤ la ∧ cv = .int .u64 (c : Int) ∧ i = .int .i64 k ∧ TIn w xs d k c v wr) (fun _ _ i _ _ => la - (intOf i).toNat)
  case atStart => exact ⟨0, d, Nat.zero_le _, rfl, rfl, hd, [], ⟨(Below.refl _ _).alloc (Nat.le_refl _) _, World.ownsRow_lit _ #[] 0 (Nat.le_refl _) (by unfold maxLen; omega) rfl⟩, rfl, (Is.none (by decide)).1, by simp [V, num]⟩
  case round =>
    obtain ⟨k, c, hk, rfl, rfl, hin⟩ := hrel
    have hc9 := hin.small
    by_cases hlt : k < la
    · obtain ⟨r, hgr, hrl, hro, hrn⟩ := hin.row
      have t1 : (k : Int) < (la : Int) := by omega
      obtain ⟨x, hxk⟩ : ∃ x, x = dg xs k := ⟨_, rfl⟩
      have hxl : x < 65536 := by rw [hxk]; exact ox k
      obtain ⟨b1, o1, rfl, hc1⟩ : ∃ b1 o1, ao = some ⟨b1, o1, none⟩ ∧ wr.cell? ⟨b1, o1 + k, none⟩ = some (.int .u32 (x : Int)) := by
        rcases hax.below hgr.1 with h | ⟨b, o, h1, _, h3⟩
        · rw [h] at hx; simp at hx; omega
        · exact ⟨b, o, h1, by rw [hxk]; exact h3 k (by omega)⟩
      have hst := times_step (a := x) hrn
      obtain ⟨y, hy⟩ : ∃ y, y = (x * 10 + c) % 65536 := ⟨_, rfl⟩
      obtain ⟨c', hc'⟩ : ∃ c', c' = (x * 10 + c) / 65536 := ⟨_, rfl⟩
      have hyl : y < 65536 := by rw [hy]; exact Nat.mod_lt _ (by omega)
      have hc9' : c' ≤ 9 := by omega
      rw [← hy, ← hc'] at hst
      have e1 : bits .and .u64 ((x : Int) * 10 + (c : Int)) 65535 % 4294967296 = (y : Int) := by
        rw [show ((x : Int) * 10 + (c : Int)) = ((x * 10 + c : Nat) : Int) by omega, and16 _ (Nat.lt_trans (show x * 10 + c < 1000000 by omega) (by decide)), hy]
      have e2 : ((x : Int) * 10 + (c : Int)) / 65536 = (c' : Int) := by omega
      have hown := hgr.2
      rw [hrl] at hown
      have hsz := hgr.1.size
      have HIN : Hid (∀ v' w1, Grows w w1 v' (r ++ [y]) → TIn w xs d (k + 1) c' v' w1) := by
        intro v' w1 hg
        refine ⟨hc9', _, hg, by simp [hrl], hro.snoc hyl, ?_⟩
        rw [num_snoc, hrl, hst, hxk]; rfl
      have HG : Hid (Grows w wr u7 r) := hgr
      have HRL : Hid (r.length = k) := hrl
      clear hgr hax hst hin hro hrn hy hc' hxk hrl
      go_wp2_with (at_builtin; refine wpList_append_own _ rfl _ _ 56 rfl w.heap.size 101 i0 (.int .u32 0) 1 4 Tryz.underlying56 hi hz0 hz1 hz2 rfl (by decide) _ _ _ rfl (hown.alloc _) ⟨wr.heap.size, 0, none⟩ 1 1 [.int .u32 (y : Int)] rfl rfl ?c1A ?c2A ?c3A ?c4A ?c5A ?_)
      try case c1A => exact new_cell wr _ _
      case c2A => first | exact one_one _ _ | rfl
      case c3A => unfold maxLen; omega
      case c4A => omega
      case c5A => first | (simp; omega) | omega
      intro v' w1 hown' hgrow _
      have hg' := HG.out.step _ (by rw [HRL.out]; exact hown') hgrow
      have HI := hide (HIN.out _ _ hg')
      clear hown hown' hgrow hg' HG HIN e1 HRL
      go_wp2
      go_roundw
      case rel => exact ⟨k + 1, c', by omega, rfl, by go_num, HI.out⟩
      case measure => simp [intOf]; omega
    · obtain rfl : k = la := by omega
      have t1 : ¬ (k : Int) < (k : Int) := by omega
      have HO := hide (hin.out hx)
      obtain ⟨N, hN⟩ : ∃ N, N = num 65536 xs * 10 + d := ⟨_, rfl⟩
      have HN := hide hN
      rw [← hN] at HO
      clear hin hN hax ox
      go_wp2
      go_loopw [7, 8] (fun v cv wr => ∃ c : Nat, cv = .int .u64 (c : Int) ∧ TOut w N k c v wr) (fun _ cv _ => (intOf cv).toNat)
      case atStart => exact ⟨c, rfl, HO.out⟩
      case round =>
        clear HO hc9
        obtain ⟨c, rfl, hout⟩ := hrel
        obtain ⟨r, hgr, hrl, hrc, hro, hrn⟩ := hout.row
        have hc9 := hout.small
        by_cases h0 : c = 0
        · subst h0
          obtain ⟨ao', cp, rfl, hcp, hat⟩ := hgr.at
          have hbel := hgr.1
          have HR : Hid (Ok 65536 r ∧ num 65536 r = N ∧ r.length ≤ k + 1) := ⟨hro, by rw [Nat.zero_mul] at hrn; exact hrn, hrl⟩
          clear hgr hout hro hrn hrc hrl
          go_wp2
          go_ret
          exact ⟨ao', cp, r, rfl, hcp, hat, HR.out.1, HR.out.2.1.trans HN.out, HR.out.2.2, hbel⟩
        · have hpos : (0 : Int) < (c : Int) := by omega
          have hrk := hrc h0
          have hown := hgr.2
          obtain ⟨l, hl⟩ : ∃ l, l = r.length := ⟨_, rfl⟩
          rw [← hl] at hown hrk hrn
          have e1 : bits .and .u64 (c : Int) 65535 % 4294967296 = (c : Int) := by
            rw [and16 _ (Nat.lt_trans (show c < 1000000 by omega) (by decide))]; omega
          have e2 : (c : Int) / 65536 = 0 := by omega
          have hsz := hgr.1.size
          have HIN : Hid (∀ v' w1, Grows w w1 v' (r ++ [c]) → TOut w N k 0 v' w1) := by
            intro v' w1 hg
            refine ⟨by omega, _, hg, by simp; omega, fun h => absurd rfl h, hro.snoc (by omega), ?_⟩
            rw [num_snoc, Nat.zero_mul, ← hl]; exact hrn
          have HG : Hid (Grows w wr u7 r) := hgr
          have HRL : Hid (r.length = l) := hl.symm
          clear hgr hout hro hrn hrc hrl hl
          go_wp2_with (at_builtin; refine wpList_append_own _ rfl _ _ 56 rfl w.heap.size 101 i0 (.int .u32 0) 1 4 Tryz.underlying56 hi hz0 hz1 hz2 rfl (by decide) _ _ _ rfl (hown.alloc _) ⟨wr.heap.size, 0, none⟩ 1 1 [.int .u32 (c : Int)] rfl rfl ?c1B ?c2B ?c3B ?c4B ?c5B ?_)
          try case c1B => exact new_cell wr _ _
          case c2B => first | exact one_one _ _ | rfl
          case c3B => unfold maxLen; omega
          case c4B => omega
          case c5B => first | (simp; omega) | omega
          intro v' w1 hown' hgrow _
          have hg' := HG.out.step _ (by rw [HRL.out]; exact hown') hgrow
          have HI := hide (HIN.out _ _ hg')
          clear hown hown' hgrow hg' HG HIN e1 HRL
          go_wp2
          go_roundw
          case rel => exact ⟨0, rfl, HI.out⟩
          case measure => simp [intOf]; omega

end Go.Proofs.YtafljhfamjabeaaGreatDoor

namespace Go.Proofs.YtafljhfamjabeaaGreatDoor
open Go.RowKit

set_option maxRecDepth 100000 in
set_option maxHeartbeats 1000000 in
theorem rof_any (s : ByteArray) (w : World) (hn : s.size ≤ 100000) (hd : DigB (bys s)) :
    Calls Tryz.prog 70 #[.string s] w (RPost w (s.size + 1) (decV (bys s))) := by
  obtain ⟨n, hnn⟩ : ∃ n, n = s.size := ⟨_, rfl⟩
  have HD : Hid (DigB (bys s)) := hd
  have HL : Hid ((bys s).length = n) := by rw [hnn]; exact bys_len s
  clear hd
  go_enter Tryz.func70, Tryz.ntmps70
  go_wp2
  go_loopw [3, 4] (fun v i wr => ∃ (k : Nat) (o : Option Addr) (c : Nat) (r : List Nat), k ≤ n ∧ i = .int .i64 (k : Int) ∧ v = .slice o r.length c ∧ r.length ≤ c ∧ r.length ≤ k ∧ At .u32 wr o r ∧ Ok 65536 r ∧ num 65536 r = decV ((bys s).take k) ∧ Below w.heap.size w wr) (fun _ i _ => n - (intOf i).toNat)
  case atStart => exact ⟨0, _, _, [], Nat.zero_le _, rfl, rfl, Nat.le_refl _, Nat.le_refl _, At.nil _ _ _, (Is.none (by decide)).1, by simp [decV, num, V], (Below.refl _ _).alloc (Nat.le_refl _) _⟩
  case round =>
    obtain ⟨k, o, c, r, hk, rfl, rfl, hrc, hrk, hat, hro, hrn, hb⟩ := hrel
    by_cases hlt : k < n
    · have hlt' : (k : Int) < (s.size : Int) := by omega
      have hks : k < s.size := by omega
      have hbb := HD.out k (by rw [HL.out]; exact hlt)
      have hg : ∀ h : k < s.size, s[k].toNat = byt (bys s) k := fun h => byt_get s k h
      have hs := decV_succ (bys s) (k := k) (by rw [HL.out]; exact hlt)
      obtain ⟨b, hbe⟩ : ∃ b, b = byt (bys s) k := ⟨_, rfl⟩
      rw [← hbe] at hbb hg hs
      obtain ⟨d, hd⟩ : ∃ d, d = b - 48 := ⟨_, rfl⟩
      rw [← hd, ← hrn] at hs
      have e1 : (b : Int) - 48 = (d : Int) := by omega
      have hd9 : d ≤ 9 := by omega
      have HS := hide hs
      clear hs hrn hbe hd
      go_wp2_with fail
      refine (times_any o r.length c d r _ (by omega) hd9 rfl hat hro).mono ?_
      rintro e w1 ⟨o1, c1, r1, rfl, hl1, hat1, hok1, hn1, hm1, hb1⟩
      rw [← HS.out] at hn1
      have hbw := hb.trans (hb1.mono hb.size)
      have HAT := hide hat1
      have HN1 := hide hn1
      have HBW := hide hbw
      have HOK := hide hok1
      clear hat hro hb hb1 hat1 hn1 hbw hok1 hg
      go_wp2
      go_roundw
      case rel => exact ⟨k + 1, o1, c1, r1, by omega, by go_num, rfl, hl1, by omega, HAT.out, HOK.out, HN1.out, HBW.out⟩
      case measure => simp [intOf]; omega
    · obtain rfl : k = n := by omega
      have hlt' : ¬ (k : Int) < (s.size : Int) := by omega
      have e : (bys s).take k = bys s := List.take_of_length_le (by rw [HL.out]; omega)
      rw [e] at hrn
      have HRN := hide hrn
      have ha := hat.alloc (Obj.cells #[] 101)
      have hb2 := hb.alloc hb.size (Obj.cells #[] 101)
      clear hat hrn e hb
      go_wp2_with fail
      refine (radd_any o _ r.length c 0 0 r [] _ (by omega) (by omega) rfl rfl ha (At.nil _ _ _) hro (Is.none (by decide)).1).mono ?_
      rintro e w1 ⟨o1, c1, r1, rfl, hl1, hat1, his1, hm1, hb1⟩
      rw [HRN.out, show num 65536 [] = 0 from rfl, Nat.add_zero] at his1
      have hbw := hb2.trans (hb1.mono hb2.size)
      clear ha hb2 hb1
      go_wp2
      go_ret
      exact ⟨o1, c1, r1, rfl, hl1, hat1, his1, by omega, hbw⟩

end Go.Proofs.YtafljhfamjabeaaGreatDoor

namespace Go.Proofs.YtafljhfamjabeaaGreatDoor
open Go.RowKit

/-- A list of the reference's digits is the number n, with at most m digits. -/
def Rl (W : World) (o : Option Addr) (l c n m : Nat) : Prop := ∃ r : List Nat, r.length = l ∧ l ≤ c ∧ l ≤ m ∧ At .u32 W o r ∧ Is 65536 r n
/-- A sign and a list are the whole number z in its one form; the list lies at lo or above. -/
def RI (W : World) (s : Bool) (o : Option Addr) (l c : Nat) (z : Int) (m lo : Nat) : Prop := ∃ r : List Nat, r.length = l ∧ l ≤ c ∧ l ≤ m ∧ s = decide (z < 0) ∧ Res .u32 W o r lo W.heap.size ∧ Is 65536 r z.natAbs

theorem RI.below {W W' : World} {s : Bool} {o : Option Addr} {l c m lo : Nat} {z : Int} (h : RI W s o l c z m lo) (hb : Below W.heap.size W W') : RI W' s o l c z m lo := by
  obtain ⟨r, h1, h2, h3, h4, h5, h6⟩ := h
  exact ⟨r, h1, h2, h3, h4, (h5.below hb).mono (Nat.le_refl _) hb.size, h6⟩
theorem RI.set {W : World} {s : Bool} {o : Option Addr} {l c m lo H i : Nat} {z : Int} (h : RI W s o l c z m lo) (hH : H < lo) (v : Value) : RI (W.setCell ⟨H, i, none⟩ v) s o l c z m lo := by
  obtain ⟨r, h1, h2, h3, h4, h5, h6⟩ := h
  exact ⟨r, h1, h2, h3, h4, (h5.set (.inl hH) v).mono (Nat.le_refl _) (by simp [World.setCell]), h6⟩
theorem RI.lo {W : World} {s : Bool} {o : Option Addr} {l c m lo lo' m' : Nat} {z : Int} (h : RI W s o l c z m lo) (hl : lo' ≤ lo) (hm : m ≤ m') : RI W s o l c z m' lo' := by
  obtain ⟨r, h1, h2, h3, h4, h5, h6⟩ := h
  exact ⟨r, h1, h2, by omega, h4, h5.mono hl (Nat.le_refl _), h6⟩
theorem Rl.below {W W' : World} {o : Option Addr} {l c n m : Nat} (h : Rl W o l c n m) (hb : Below W.heap.size W W') : Rl W' o l c n m := by
  obtain ⟨r, h1, h2, h3, h4, h5⟩ := h
  exact ⟨r, h1, h2, h3, h4.below hb, h5⟩
theorem RI.abs {W : World} {s : Bool} {o : Option Addr} {l c m lo : Nat} {z : Int} (h : RI W s o l c z m lo) : Rl W o l c z.natAbs m := by
  obtain ⟨r, h1, h2, h3, h4, h5, h6⟩ := h
  exact ⟨r, h1, h2, h3, h5.1, h6⟩

theorem rmakeI (neg : Bool) (o : Option Addr) (l c n m : Nat) (w : World) (hm : m ≤ 100000) (h : Rl w o l c n m) :
    Calls Tryz.prog 69 #[.bool neg, .slice o l c] w fun e w' => (∃ s o l c, e = .returned (.agg #[.bool s, .slice o l c]) ∧ RI w' s o l c (zv neg n) (m + 1) w.heap.size) ∧ Below w.heap.size w w' := by
  obtain ⟨r, h1, h2, h3, h4, h5⟩ := h
  have g := rmake neg o l c r w (by omega) h1 h4 h5.1
  rw [h5.2.2] at g
  refine g.mono ?_
  rintro e w' ⟨s, o', c', r', hs, rfl, hle, hres, his, hlen, hb⟩
  exact ⟨⟨s, o', r'.length, c', rfl, r', rfl, hle, by omega, hs.out, hres.mono (Nat.le_refl _) (Nat.le_refl _), his⟩, hb⟩

theorem results_num {fn : Func} {a : Tmp} (h : fn.results = #[.cell a 60]) (tmps : Array Value) (H : Nat) (x0 x1 x2 : Value) (w : World) (ht : tmps.getD a undef = .pointer (some ⟨H, 0, none⟩)) (hp : Blk w H #[x0, x1, x2] 60) :
    (results fn tmps).run Tryz.prog w = .ok (.agg #[x0, x1, x2]) w := by
  have c0 := hp.cell 0
  have c1 := hp.cell 1
  have c2 := hp.cell 2
  simp at c0 c1 c2
  rw [Array.getD_eq_getD_getElem?] at ht
  simp [results, h, ht, go_sem, c0, c1, c2]
theorem results_int {fn : Func} {a : Tmp} (h : fn.results = #[.cell a 58]) (tmps : Array Value) (H : Nat) (x0 x1 : Value) (w : World) (ht : tmps.getD a undef = .pointer (some ⟨H, 0, none⟩)) (hp : Blk w H #[x0, x1] 58) :
    (results fn tmps).run Tryz.prog w = .ok (.agg #[x0, x1]) w := by
  have c0 := hp.cell 0
  have c1 := hp.cell 1
  simp at c0 c1
  rw [Array.getD_eq_getD_getElem?] at ht
  simp [results, h, ht, go_sem, c0, c1]
theorem Blk.put3 {w : World} {b : Nat} {t : TypeId} {x0 x1 x2 : Value} (h : Blk w b #[x0, x1, x2] t) (y0 y1 y2 : Value) : Blk (((w.setCell ⟨b, 0, none⟩ y0).setCell ⟨b, 1, none⟩ y1).setCell ⟨b, 2, none⟩ y2) b #[y0, y1, y2] t := by
  unfold Blk at *
  simp only [World.setCell, Array.getElem?_modify, if_true, h, Option.map_some]
  rfl
theorem Blk.putI2 {w : World} {b : Nat} {t : TypeId} {x0 x1 : Value} (h : Blk w b #[x0, x1] t) (y0 y1 : Value) : Blk ((w.setCell ⟨b, 0, none⟩ y0).setCell ⟨b, 1, none⟩ y1) b #[y0, y1] t := by
  unfold Blk at *
  simp only [World.setCell, Array.getElem?_modify, if_true, h, Option.map_some]
  rfl

set_option maxRecDepth 100000 in
set_option maxHeartbeats 2000000 in
theorem rnof (ca : Int) (na : Bool) (ta : ByteArray) (ea : Int) (w : World) (hn : ta.size ≤ 1000) (hd : DigB (bys ta)) : Calls Tryz.prog 45 #[dcV ca na ta ea] w fun e w' => (∃ s o l c, e = .returned (.agg #[.bool s, .slice o l c, .int .i64 ea]) ∧ RI w' s o l c (zv na (decV (bys ta))) 1002 (w.heap.size + 1)) ∧ Below w.heap.size w w' := by
  have HD := hide hd
  have HS := hide hn
  clear hd
  have Ba0 := hide ((Blk.newAt w (w.heap.size) (rfl) #[.int .i64 ca, .bool na, .string ta, .int .i64 ea] 23).alloc (.cells #[.bool false, .slice none 0 0, .int .i64 0] 60))
  have Br0 := hide (Blk.newAt (w.alloc (.cells #[.int .i64 ca, .bool na, .string ta, .int .i64 ea] 23)) (w.heap.size + 1) (by simp) #[.bool false, .slice none 0 0, .int .i64 0] 60)
  have HB0 : Hid (Below w.heap.size w ((w.alloc (.cells #[.int .i64 ca, .bool na, .string ta, .int .i64 ea] 23)).alloc (.cells #[.bool false, .slice none 0 0, .int .i64 0] 60))) := (((Below.refl _ _).alloc (Nat.le_refl _) _).alloc (by simp <;> omega) _)
  obtain ⟨W, hW⟩ : ∃ W, W = ((w.alloc (.cells #[.int .i64 ca, .bool na, .string ta, .int .i64 ea] 23)).alloc (.cells #[.bool false, .slice none 0 0, .int .i64 0] 60)) := ⟨_, rfl⟩
  rw [← hW] at HB0 Ba0 Br0 
  have HW := hide hW
  clear hW
  have ya0 : W.cell? ⟨w.heap.size, 0, none⟩ = some (.int .i64 ca) := Ba0.out.cell 0
  have ya1 : W.cell? ⟨w.heap.size, 1, none⟩ = some (.bool na) := Ba0.out.cell 1
  have ya2 : W.cell? ⟨w.heap.size, 2, none⟩ = some (.string ta) := Ba0.out.cell 2
  have ya3 : W.cell? ⟨w.heap.size, 3, none⟩ = some (.int .i64 ea) := Ba0.out.cell 3
  have yr0 : W.cell? ⟨w.heap.size + 1, 0, none⟩ = some (.bool false) := Br0.out.cell 0
  have yr1 : W.cell? ⟨w.heap.size + 1, 1, none⟩ = some (.slice none 0 0) := Br0.out.cell 1
  have yr2 : W.cell? ⟨w.heap.size + 1, 2, none⟩ = some (.int .i64 0) := Br0.out.cell 2
  obtain ⟨G, hG⟩ : ∃ G, G = w.heap.size + 1 := ⟨_, rfl⟩
  have gn1 : ¬ G = w.heap.size := by omega
  have gn2 : ¬ w.heap.size = G := by omega
  have gle : w.heap.size ≤ G := by omega
  rw [← hG] at Br0 yr0 yr1 yr2
  have HG := hide hG
  have HLT : Hid (G < W.heap.size) := Br0.out.lt
  clear hG yr0 yr1 yr2
  go_enter Tryz.func45, Tryz.ntmps45
  have C0 : Hid (∀ X, Hid (Below W.heap.size W X) → Calls Tryz.prog 70 #[.string ta] X fun e w' => (∃ o l c, e = .returned (.slice o l c) ∧ Hid (Rl w' o l c (decV (bys ta)) 1001)) ∧ Hid (Below W.heap.size W w') ∧ w'.cell? ⟨w.heap.size, 0, none⟩ = some (.int .i64 ca) ∧ w'.cell? ⟨w.heap.size, 1, none⟩ = some (.bool na) ∧ w'.cell? ⟨w.heap.size, 2, none⟩ = some (.string ta) ∧ w'.cell? ⟨w.heap.size, 3, none⟩ = some (.int .i64 ea)) := by
    intro X bX
    refine (rof_any ta X (by have := HS.out; omega) HD.out).mono ?_
    rintro e w' ⟨o, c, r, rfl, hle, hat, his, hm, hb⟩
    have bb := bX.out.trans (hb.mono bX.out.size)
    have Baq := Ba0.out.below bb Ba0.out.lt
    exact ⟨⟨o, r.length, c, rfl, r, rfl, hle, by have := HS.out; omega, hat, his⟩, bb, Baq.cell 0, Baq.cell 1, Baq.cell 2, Baq.cell 3⟩
  have C1 : Hid (∀ X o l c, Hid (Below W.heap.size W X) → Hid (Rl X o l c (decV (bys ta)) 1001) → Calls Tryz.prog 69 #[.bool na, .slice o l c] X fun e w' => (∃ s o l c, e = .returned (.agg #[.bool s, .slice o l c]) ∧ Hid (RI w' s o l c (zv na (decV (bys ta))) 1002 W.heap.size)) ∧ Hid (Below W.heap.size W w') ∧ w'.cell? ⟨w.heap.size, 0, none⟩ = some (.int .i64 ca) ∧ w'.cell? ⟨w.heap.size, 1, none⟩ = some (.bool na) ∧ w'.cell? ⟨w.heap.size, 2, none⟩ = some (.string ta) ∧ w'.cell? ⟨w.heap.size, 3, none⟩ = some (.int .i64 ea)) := by
    intro X o l c bX hz
    refine (rmakeI na o l c _ _ X (by omega) hz.out).mono ?_
    rintro e w' ⟨⟨s, o, l, c, rfl, hz⟩, hb⟩
    have bb := bX.out.trans (hb.mono bX.out.size)
    have Baq := Ba0.out.below bb Ba0.out.lt
    exact ⟨⟨s, o, l, c, rfl, hz.lo bX.out.size (Nat.le_refl _)⟩, bb, Baq.cell 0, Baq.cell 1, Baq.cell 2, Baq.cell 3⟩
  have b0 : Hid (Below W.heap.size W W.drew) := bdrewD W
  go_wp2_with fail
  simp only [← HW.out]
  simp only [← HG.out]
  have mk0 : True := trivial
  go_region_held3 (fun w' => w'.cell? ⟨w.heap.size, 0, none⟩ = some (.int .i64 ca) ∧ w'.cell? ⟨w.heap.size, 1, none⟩ = some (.bool na) ∧ w'.cell? ⟨w.heap.size, 2, none⟩ = some (.string ta) ∧ w'.cell? ⟨w.heap.size, 3, none⟩ = some (.int .i64 ea)) (go_keep) (first
    | (clear mk0; go_at_call 70; refine (C0.out _ b0).mono ?_; rintro e w1 ⟨⟨o1, l1, c1, rfl, Z1⟩, b1, q0_0, q0_1, q0_2, q0_3⟩; have mk1 : True := trivial)
    | (clear mk1; go_at_call 69; refine (C1.out _ o1 l1 c1 b1 Z1).mono ?_; rintro e w2 ⟨⟨s2, o2, l2, c2, rfl, Z2⟩, b2, q1_0, q1_1, q1_2, q1_3⟩; have Brq := hide (Br0.out.below b2.out Br0.out.lt); have fr0 := Brq.out.free 0; have fr1 := Brq.out.free 1; have fr2 := Brq.out.free 2; have gr0 : w2.cell? ⟨G, 0, none⟩ = some (.bool false) := Brq.out.cell 0; have gr1 : w2.cell? ⟨G, 1, none⟩ = some (.slice none 0 0) := Brq.out.cell 1; have gr2 : w2.cell? ⟨G, 2, none⟩ = some (.int .i64 0) := Brq.out.cell 2; have mk2 : True := trivial))
  have HBq := hide (HB0.out.trans (b2.out.mono HB0.out.size))
  go_wp2
  refine bodyPost_ret (results_num rfl _ _ _ _ _ _ rfl (Brq.out.put3 _ _ _)) rfl ?_
  exact ⟨⟨_, _, _, _, rfl, ((Z2.out.set HLT.out _).set HLT.out _).set HLT.out _ |>.lo (by have := HLT.out; have := HG.out; omega) (Nat.le_refl _)⟩, ((HBq.out.setCell gle _).setCell gle _).setCell gle _⟩

set_option maxRecDepth 100000 in
set_option maxHeartbeats 4000000 in
theorem rnat (s : Bool) (oa : Option Addr) (la ca : Nat) (E e0 z : Int) (k lo : Nat) (w : World) (hk : E - e0 = (k : Int)) (hk2 : k ≤ 8192) (hz : RI w s oa la ca z 1002 lo) : Calls Tryz.prog 68 #[.agg #[.bool s, .slice oa la ca, .int .i64 E], .int .i64 e0] w fun e w' => (∃ s' o l c, e = .returned (.agg #[.bool s', .slice o l c]) ∧ RI w' s' o l c (zv s (z.natAbs * 10 ^ k)) 4001 (w.heap.size + 1)) ∧ Below w.heap.size w w' := by
  have HZ := hide hz
  have HK := hide hk
  have HK2 := hide hk2
  have hw : IntKind.i64.wrap (E - e0) = E - e0 := by rw [IntKind.wrap_i64]; omega
  clear hz hk
  have Ba0 := hide ((Blk.newAt w (w.heap.size) (rfl) #[.bool s, .slice oa la ca, .int .i64 E] 60).alloc (.cells #[.bool false, .slice none 0 0] 58))
  have Br0 := hide (Blk.newAt (w.alloc (.cells #[.bool s, .slice oa la ca, .int .i64 E] 60)) (w.heap.size + 1) (by simp) #[.bool false, .slice none 0 0] 58)
  have HB0 : Hid (Below w.heap.size w ((w.alloc (.cells #[.bool s, .slice oa la ca, .int .i64 E] 60)).alloc (.cells #[.bool false, .slice none 0 0] 58))) := (((Below.refl _ _).alloc (Nat.le_refl _) _).alloc (by simp <;> omega) _)
  have HZW := hide (HZ.out.below (((Below.refl _ _).alloc (Nat.le_refl _) _).alloc (by simp) _ : Below w.heap.size w ((w.alloc (.cells #[.bool s, .slice oa la ca, .int .i64 E] 60)).alloc (.cells #[.bool false, .slice none 0 0] 58))))
  obtain ⟨W, hW⟩ : ∃ W, W = ((w.alloc (.cells #[.bool s, .slice oa la ca, .int .i64 E] 60)).alloc (.cells #[.bool false, .slice none 0 0] 58)) := ⟨_, rfl⟩
  rw [← hW] at HB0 Ba0 Br0 HZW
  have HW := hide hW
  clear hW
  have ya0 : W.cell? ⟨w.heap.size, 0, none⟩ = some (.bool s) := Ba0.out.cell 0
  have ya1 : W.cell? ⟨w.heap.size, 1, none⟩ = some (.slice oa la ca) := Ba0.out.cell 1
  have ya2 : W.cell? ⟨w.heap.size, 2, none⟩ = some (.int .i64 E) := Ba0.out.cell 2
  have yr0 : W.cell? ⟨w.heap.size + 1, 0, none⟩ = some (.bool false) := Br0.out.cell 0
  have yr1 : W.cell? ⟨w.heap.size + 1, 1, none⟩ = some (.slice none 0 0) := Br0.out.cell 1
  obtain ⟨G, hG⟩ : ∃ G, G = w.heap.size + 1 := ⟨_, rfl⟩
  have gn1 : ¬ G = w.heap.size := by omega
  have gn2 : ¬ w.heap.size = G := by omega
  have gle : w.heap.size ≤ G := by omega
  rw [← hG] at Br0 yr0 yr1
  have HG := hide hG
  have HLT : Hid (G < W.heap.size) := Br0.out.lt
  clear hG yr0 yr1
  clear HZ
  go_enter Tryz.func68, Tryz.ntmps68
  have C0 : Hid (∀ X, Hid (Below W.heap.size W X) → Calls Tryz.prog 90 #[.int .i64 10, .int .i64 (E - e0)] X fun e w' => (∃ o l c, e = .returned (.slice o l c) ∧ Hid (Rl w' o l c (10 ^ k) 1800)) ∧ Hid (Below W.heap.size W w') ∧ w'.cell? ⟨w.heap.size, 0, none⟩ = some (.bool s) ∧ w'.cell? ⟨w.heap.size, 1, none⟩ = some (.slice oa la ca) ∧ w'.cell? ⟨w.heap.size, 2, none⟩ = some (.int .i64 E)) := by
    intro X bX
    rw [HK.out]
    refine (rpow10 k HK2.out X).mono ?_
    rintro e w' ⟨o, c, r, rfl, hle, hat, his, hm, hb⟩
    have bb := bX.out.trans (hb.mono bX.out.size)
    have Baq := Ba0.out.below bb Ba0.out.lt
    exact ⟨⟨o, r.length, c, rfl, r, rfl, hle, hm, hat, his⟩, bb, Baq.cell 0, Baq.cell 1, Baq.cell 2⟩
  have C1 : Hid (∀ X o l c, Hid (Below W.heap.size W X) → Hid (Rl X o l c (10 ^ k) 1800) → Calls Tryz.prog 77 #[.slice oa la ca, .slice o l c] X fun e w' => (∃ o l c, e = .returned (.slice o l c) ∧ Hid (Rl w' o l c (z.natAbs * 10 ^ k) 4000)) ∧ Hid (Below W.heap.size W w') ∧ w'.cell? ⟨w.heap.size, 0, none⟩ = some (.bool s) ∧ w'.cell? ⟨w.heap.size, 1, none⟩ = some (.slice oa la ca) ∧ w'.cell? ⟨w.heap.size, 2, none⟩ = some (.int .i64 E)) := by
    intro X o l c bX hq
    obtain ⟨r, h1, h2, h3, h4, h5⟩ := hq.out
    obtain ⟨x, g1, g2, g3, g4, g5, g6⟩ := HZW.out.below bX.out
    have g := rmul_any oa o la ca l c x r X (by omega) (by omega) g1 h1 g5.1 h4 g6.1 h5.1
    rw [g6.2.2, h5.2.2] at g
    refine g.mono ?_
    rintro e w' ⟨o, c, y, rfl, hle, hat, his, hm, hb⟩
    have bb := bX.out.trans (hb.mono bX.out.size)
    have Baq := Ba0.out.below bb Ba0.out.lt
    exact ⟨⟨o, y.length, c, rfl, y, rfl, hle, by omega, hat, his⟩, bb, Baq.cell 0, Baq.cell 1, Baq.cell 2⟩
  have C2 : Hid (∀ X o l c, Hid (Below W.heap.size W X) → Hid (Rl X o l c (z.natAbs * 10 ^ k) 4000) → Calls Tryz.prog 69 #[.bool s, .slice o l c] X fun e w' => (∃ s' o l c, e = .returned (.agg #[.bool s', .slice o l c]) ∧ Hid (RI w' s' o l c (zv s (z.natAbs * 10 ^ k)) 4001 W.heap.size)) ∧ Hid (Below W.heap.size W w') ∧ w'.cell? ⟨w.heap.size, 0, none⟩ = some (.bool s) ∧ w'.cell? ⟨w.heap.size, 1, none⟩ = some (.slice oa la ca) ∧ w'.cell? ⟨w.heap.size, 2, none⟩ = some (.int .i64 E)) := by
    intro X o l c bX hz
    refine (rmakeI s o l c _ _ X (by omega) hz.out).mono ?_
    rintro e w' ⟨⟨s', o, l, c, rfl, hz⟩, hb⟩
    have bb := bX.out.trans (hb.mono bX.out.size)
    have Baq := Ba0.out.below bb Ba0.out.lt
    exact ⟨⟨s', o, l, c, rfl, hz.lo bX.out.size (Nat.le_refl _)⟩, bb, Baq.cell 0, Baq.cell 1, Baq.cell 2⟩
  have b0 : Hid (Below W.heap.size W W.drew) := bdrewD W
  go_wp2_with fail
  simp only [← HW.out]
  simp only [← HG.out]
  have mk0 : True := trivial
  go_region_held3 (fun w' => w'.cell? ⟨w.heap.size, 0, none⟩ = some (.bool s) ∧ w'.cell? ⟨w.heap.size, 1, none⟩ = some (.slice oa la ca) ∧ w'.cell? ⟨w.heap.size, 2, none⟩ = some (.int .i64 E)) (go_keep) (first
    | (clear mk0; go_at_call 90; refine (C0.out _ b0).mono ?_; rintro e w1 ⟨⟨o1, l1, c1, rfl, Z1⟩, b1, q0_0, q0_1, q0_2⟩; have mk1 : True := trivial)
    | (clear mk1; go_at_call 77; refine (C1.out _ o1 l1 c1 b1 Z1).mono ?_; rintro e w2 ⟨⟨o2, l2, c2, rfl, Z2⟩, b2, q1_0, q1_1, q1_2⟩; have mk2 : True := trivial)
    | (clear mk2; go_at_call 69; refine (C2.out _ o2 l2 c2 b2 Z2).mono ?_; rintro e w3 ⟨⟨s3, o3, l3, c3, rfl, Z3⟩, b3, q2_0, q2_1, q2_2⟩; have Brq := hide (Br0.out.below b3.out Br0.out.lt); have fr0 := Brq.out.free 0; have fr1 := Brq.out.free 1; have gr0 : w3.cell? ⟨G, 0, none⟩ = some (.bool false) := Brq.out.cell 0; have gr1 : w3.cell? ⟨G, 1, none⟩ = some (.slice none 0 0) := Brq.out.cell 1; have mk3 : True := trivial))
  have HBq := hide (HB0.out.trans (b3.out.mono HB0.out.size))
  go_wp2
  refine bodyPost_ret (results_int rfl _ _ _ _ _ rfl (Brq.out.putI2 _ _)) rfl ?_
  exact ⟨⟨_, _, _, _, rfl, (Z3.out.set HLT.out _).set HLT.out _ |>.lo (by have := HLT.out; have := HG.out; omega) (Nat.le_refl _)⟩, (HBq.out.setCell gle _).setCell gle _⟩

end Go.Proofs.YtafljhfamjabeaaGreatDoor

namespace Go.Proofs.YtafljhfamjabeaaGreatDoor
open Go.RowKit

section
variable {r : Near} {clo : Bool} {number rest unit : Nat} (hc : r.clo = clo)
include hc
end

end Go.Proofs.YtafljhfamjabeaaGreatDoor

namespace Go.Proofs.YtafljhfamjabeaaGreatDoor
open Go.RowKit

end Go.Proofs.YtafljhfamjabeaaGreatDoor

namespace Go.Proofs.YtafljhfamjabeaaGreatDoor
open Go.RowKit

end Go.Proofs.YtafljhfamjabeaaGreatDoor

namespace Go.Proofs.YtafljhfamjabeaaGreatDoor

end Go.Proofs.YtafljhfamjabeaaGreatDoor

namespace Go.Proofs.YtafljhfamjabeaaGreatDoor
open Go.RowKit

end Go.Proofs.YtafljhfamjabeaaGreatDoor

namespace Go.Proofs.YtafljhfamjabeaaGreatDoor
open Go.RowKit

end Go.Proofs.YtafljhfamjabeaaGreatDoor

namespace Go.Proofs.YtafljhfamjabeaaGreatDoor
open Go.RowKit

/-- What by answers: the quotient's digits, without noughts on top, and the rest. -/
def ByPost (w : World) (m n : Nat) (e : Ending) (w' : World) : Prop :=
  ∃ g ys cap, e = .returned (.tuple #[.slice (some ⟨g, 0, none⟩) (List.length ys) cap, .int .u32 ((n % 10000 : Nat) : Int)]) ∧ w.heap.size ≤ g ∧ g < w'.heap.size ∧ ys.length ≤ cap ∧ At .u32 w' (some ⟨g, 0, none⟩) ys ∧ Is 65536 ys (n / 10000) ∧ ys.length ≤ m ∧ Below w.heap.size w w'

/-- Ahead of the digit k: the digits from k on are divided. -/
structure ByIn (w : World) (xs : List Nat) (la k r : Nat) (wr : World) : Prop where
  bel : Below w.heap.size w wr
  small : r < 10000
  row : ∃ q, Row .u32 101 wr w.heap.size q ∧ q.length = la ∧ Ok 65536 q ∧ (∀ j, j < k → dg q j = 0) ∧ num 65536 q * 10000 + r * 65536 ^ k + V 65536 (dg xs) k = num 65536 xs

set_option maxRecDepth 20000 in
theorem by_step {B q r a k v N : Nat} (h : q * 10000 + r * B ^ (k + 1) + (v + a * B ^ k) = N) :
    (q + (r * B + a) / 10000 * B ^ k) * 10000 + (r * B + a) % 10000 * B ^ k + v = N := by
  have h1 := Nat.div_add_mod (r * B + a) 10000
  rw [Nat.pow_succ] at h
  generalize B ^ k = P at h ⊢
  generalize hx : r * B + a = x at h1 ⊢
  generalize x / 10000 = u at h1 ⊢
  generalize x % 10000 = t at h1 ⊢
  have h2 : (10000 * u + t) * P = (r * B + a) * P := by rw [h1, hx]
  rw [Nat.add_mul, Nat.add_mul, Nat.mul_assoc r, Nat.mul_comm B P, Nat.mul_assoc 10000] at h2
  rw [Nat.add_mul, Nat.mul_comm (u * P)]
  generalize u * P = U at h2 ⊢
  generalize t * P = T at h2 ⊢
  generalize a * P = A at h h2
  generalize r * (P * B) = R at h h2
  clear h1 hx
  rw [Nat.mul_comm q] at h ⊢
  omega

theorem ByIn.step {w wr wr' : World} {xs : List Nat} {la k r : Nat} (hb : Below w.heap.size w wr) (hr : r < 10000) (hk : k < la) {q : List Nat} (hq : Row .u32 101 wr w.heap.size q) (hl : q.length = la) (ho : Ok 65536 q) (hz : ∀ j, j < k + 1 → dg q j = 0)
    (hn : num 65536 q * 10000 + r * 65536 ^ (k + 1) + V 65536 (dg xs) (k + 1) = num 65536 xs) (hx : dg xs k < 65536)
    (hw : Like wr' (wr.setCell ⟨w.heap.size, k, none⟩ (.int .u32 (((r * 65536 + dg xs k) / 10000 : Nat) : Int)))) :
    ByIn w xs la k ((r * 65536 + dg xs k) % 10000) wr' := by
  refine ⟨hw.below (hb.setCell (Nat.le_refl _) _), Nat.mod_lt _ (by omega), _, (hq.set k _).alike hw, by simp [hl], ho.set (by omega) (by omega), ?_, ?_⟩
  · intro j hj
    rw [dg_set _ _ _ _ (by omega), if_neg (by omega)]
    exact hz j (by omega)
  · have e := num_set 65536 q k ((r * 65536 + dg xs k) / 10000) (by omega)
    rw [hz k (by omega), Nat.zero_mul, Nat.add_zero] at e
    rw [e]
    exact by_step hn

theorem by_or {r a : Nat} (hr : r < 10000) (ha : a < 65536) : bits .or .u32 ((r : Int) * 65536) (a : Int) = ((r * 65536 + a : Nat) : Int) := by
  rw [show (r : Int) * 65536 = ((r * 65536 : Nat) : Int) by omega, u32_or_nat _ _ (by omega) (by omega), Nat.or_comm]
  have h := or_low (y := a) (a := r) (s := 16) (by simpa using ha)
  rw [show (2 : Nat) ^ 16 = 65536 by decide +kernel] at h
  rw [h, Nat.add_comm]

set_option maxRecDepth 100000 in
set_option maxHeartbeats 1000000 in
theorem by_at (b o la ca : Nat) (xs : List Nat) (w : World) (hla : la ≤ 100000000) (hx : xs.length = la) (hb : b < w.heap.size)
    (hcell : ∀ i, i < la → w.cell? ⟨b, o + i, none⟩ = some (.int .u32 ((dg xs i : Nat) : Int))) (ox : Ok 65536 xs) :
    Calls Tryz.prog 86 #[.slice (some ⟨b, o, none⟩) la ca, .int .u32 10000] w (ByPost w la (num 65536 xs)) := by
  obtain ⟨i0, hi, hz0, hz1, hz2⟩ := info_parts Tryz.infoD
  go_enter Tryz.func86, Tryz.ntmps86
  go_wp2_with (at_make; refine wpList_make_full _ rfl _ _ 56 rfl w.heap.size 101 i0 (.int .u32 0) 1 Tryz.underlying56 hi hz0 hz1 _ _ _ _ la rfl rfl (by omega) (by omega) (by rw [hz2]; omega) (by unfold maxLen; omega) (Nat.le_refl _) ?_)
  intro w1 hown hgrow
  have hr1 : Row .u32 101 w1 w.heap.size (List.replicate la 0) := Row.made hown
  have hbl1 : Below w.heap.size w w1 := (Below.refl _ _).grown hgrow (Nat.le_refl _) (fun k hk => by cases hk)
  have HST : Hid (ByIn w xs la la 0 w1) := ⟨hbl1, by omega, _, hr1, by simp, Ok.replicate (by omega) la, fun j _ => dg_replicate la j, by rw [num_replicate, ← hx]; simp [num]⟩
  clear hown hgrow hr1 hbl1
  go_wp2
  go_loopw [7, 8, 9] (fun rv i _ wr => ∃ k r : Nat, k ≤ la ∧ rv = .int .u32 (r : Int) ∧ i = .int .i64 ((k : Int) - 1) ∧ ByIn w xs la k r wr) (fun _ i _ _ => (intOf i + 1).toNat)
  case atStart => exact ⟨la, 0, Nat.le_refl _, rfl, rfl, HST.out⟩
  case round =>
    clear HST
    obtain ⟨k, r, hk, rfl, rfl, hin⟩ := hrel
    obtain ⟨q, hq, hql, hqo, hqz, hqn⟩ := hin.row
    have hbr := hin.bel
    have hrs := hin.small
    rcases k with _ | k
    · obtain ⟨n, hn⟩ : ∃ n, n = num 65536 xs := ⟨_, rfl⟩
      rw [Nat.pow_zero, Nat.mul_one, show V 65536 (dg xs) 0 = 0 from rfl, Nat.add_zero, ← hn] at hqn
      have e1 : num 65536 q = n / 10000 := by omega
      have e2 : r = n % 10000 := by omega
      rw [hn] at e1 e2
      have hat := hq.at
      have HIS : Hid (Is 65536 (trimmed q) (num 65536 xs / 10000)) := by rw [← e1]; exact Is.trimmed hqo
      have HE2 : Hid (r = num 65536 xs % 10000) := e2
      have hg := hq.lt
      have HLE : Hid ((trimmed q).length ≤ la) := by rw [← hql]; exact length_trimmed_le q
      have HTL : Hid ((trimmed q).length = tops q la) := by rw [← hql]; exact length_trimmed q
      have HAT := hide hat.trimmed
      have hcq : ∀ i, i < la → wr.cell? ⟨w.heap.size, i, none⟩ = some (.int .u32 ((q[i]?.getD 0 : Nat) : Int)) := fun i hi => by have := hq.cell i (by omega); exact this
      have HCQ := hide hcq
      clear hin hq hqo hqz hqn hat e1 e2 hn hcq hcell
      go_wp2
      go_loop [10] (fun n => ∃ k : Nat, k ≤ la ∧ n = .int .i64 k ∧ tops q la = tops q k) (fun n => (intOf n).toNat)
      case atStart => exact ⟨la, Nat.le_refl _, rfl, rfl⟩
      case round =>
        obtain ⟨k, hk, rfl, ht⟩ := hrel
        have HT : Hid (tops q la = tops q k) := ht
        clear ht
        have htl := tops_le q k
        rcases k with _ | k
        · have et : tops q la = 0 := by rw [HT.out]; rfl
          have HET := hide et
          clear et
          go_wp2
          go_ret2
          exact ⟨w.heap.size, trimmed q, la, by rw [HTL.out, HET.out, HE2.out]; rfl, Nat.le_refl _, hg, HLE.out, HAT.out, HIS.out, HLE.out, hbr⟩
        · have hck := HCQ.out k (by omega)
          have hpos : (0 : Int) < ((k + 1 : Nat) : Int) := by omega
          by_cases hz : q[k]?.getD 0 = 0
          · rw [hz] at hck
            have HT2 : Hid (tops q la = tops q k) := by rw [HT.out]; simp [tops, hz, Hid]
            go_wp2
            go_round
            case rel => exact ⟨k, by omega, by go_num, HT2.out⟩
            case measure => simp [intOf]
          · have HET : Hid (tops q la = k + 1) := by rw [HT.out]; simp [tops, hz, Hid]
            go_wp2
            go_ret2
            exact ⟨w.heap.size, trimmed q, la, by rw [HTL.out, HET.out, HE2.out]; rfl, Nat.le_refl _, hg, HLE.out, HAT.out, HIS.out, HLE.out, hbr⟩
    · have c0 : wr.cell? ⟨b, o + k, none⟩ = some (.int .u32 ((dg xs k : Nat) : Int)) := (hbr.cell hb).trans (hcell k (by omega))
      have c3 := hq.cell k (by omega)
      have f3 := hq.free k
      rw [hqz k (by omega)] at c3
      have hst := fun wr' hw => ByIn.step (wr' := wr') hbr hrs (by omega) hq hql hqo hqz hqn (ox k) hw
      obtain ⟨a, ha⟩ : ∃ a, a = dg xs k := ⟨_, rfl⟩
      have hal : a < 65536 := by rw [ha]; exact ox k
      rw [← ha] at c0 hst
      have e1 := by_or hrs hal
      obtain ⟨x, hxx⟩ : ∃ x, x = r * 65536 + a := ⟨_, rfl⟩
      rw [← hxx] at e1 hst
      have hxl : x < 655360000 := by omega
      obtain ⟨d, hd⟩ : ∃ d, d = x / 10000 := ⟨_, rfl⟩
      obtain ⟨m, hm⟩ : ∃ m, m = x % 10000 := ⟨_, rfl⟩
      rw [← hd, ← hm] at hst
      have e2 : (x : Int) / 10000 = (d : Int) := by omega
      have e3 : (x : Int) % 10000 = (m : Int) := by omega
      have HS : Hid (∀ wr', Like wr' (wr.setCell ⟨w.heap.size, k, none⟩ (.int .u32 (d : Int))) → ByIn w xs la k m wr') := hst
      have hkl : (k : Int) < (la : Int) := by omega
      clear hst hin hq hqo hqz hqn ha hxx hd hm hcell ox
      go_wp2
      go_roundw
      case rel => exact ⟨k, m, by omega, by rw [e3], by go_num, HS.out _ ⟨rfl, rfl, rfl, rfl⟩⟩
      case measure => simp [intOf]

end Go.Proofs.YtafljhfamjabeaaGreatDoor
