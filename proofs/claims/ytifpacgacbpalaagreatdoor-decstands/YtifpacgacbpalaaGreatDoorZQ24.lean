/-
  Plain mathematics: ranks, places and bytes tell how two numbers stand.
  What the reference's times does: a number times 10, and a digit more.
  What the reference's Of does: the number of a row of digits.
  What quipuref05's Of and at do: a whole number times a power of 10.
  What quipuref05's rank, Order and Cmp do.
-/
import Derived.Test.YtifpacgacbpalaaGreatDoorZQ23
import Derived.Lib.Small
import Derived.Test.YtifpacgacbpalaaGreatDoorZQ20
import Derived.Test.YtifpacgacbpalaaGreatDoorZQ18
import Derived.Test.YtifpacgacbpalaaGreatDoorZQ17
import Derived.Test.YtifpacgacbpalaaGreatDoorZRStruct
import Derived.Test.YtifpacgacbpalaaGreatDoorZRMul
import Derived.Test.YtifpacgacbpalaaGreatDoorZQ12
import Derived.Test.YtifpacgacbpalaaGreatDoorDRSmall
namespace Go.Proofs.YtifpacgacbpalaaGreatDoor

/-- The first of two that is not 0. -/
def orI (x y : Int) : Int := if x = 0 then y else x

/-- What rank answers. -/
def rankI (d : DecT) : Int := if d.cls = 2 then 3 else if d.cls = 1 then (if d.neg then -2 else 2) else if d.dig = [] then 0 else if d.neg then -1 else 1

theorem cmpI_lt {x y : Int} (h : x < y) : cmpI x y = -1 := by unfold cmpI; rw [if_pos h]
theorem cmpI_gt {x y : Int} (h : y < x) : cmpI x y = 1 := by unfold cmpI; rw [if_neg (by omega), if_pos h]
theorem cmpI_self (x : Int) : cmpI x x = 0 := by unfold cmpI; rw [if_neg (by omega), if_neg (by omega)]
theorem cI_lt {x y : Int} (h : x < y) : Lib.compareInt x y = -1 := by unfold Lib.compareInt; rw [if_pos h]
theorem cI_gt {x y : Int} (h : y < x) : Lib.compareInt x y = 1 := by unfold Lib.compareInt; rw [if_neg (by omega), if_pos (by omega)]
theorem cI_eq {x y : Int} (h : x = y) : Lib.compareInt x y = 0 := by unfold Lib.compareInt; rw [if_neg (by omega), if_neg (by omega)]

theorem fin_cmp {a b : DecT} (ha : Fin a) (hb : Fin b) : orI (Lib.compareInt ((a.dig.length : Int) + a.exp) ((b.dig.length : Int) + b.exp)) (Lib.compareBytes a.dig b.dig) = cmpI (amt a.dig a.exp : Int) (amt b.dig b.exp : Int) := by
  have far : ∀ {x y : DecT}, Fin x → Fin y → (x.dig.length : Int) + x.exp < (y.dig.length : Int) + y.exp → amt x.dig x.exp < amt y.dig y.exp := by
    intro x y hx hy h
    refine Nat.lt_of_lt_of_le hx.amt_lt (Nat.le_trans ?_ hy.amt_ge)
    have := hx.lo
    exact Nat.pow_le_pow_right (by omega) (by omega)
  rcases Int.lt_trichotomy ((a.dig.length : Int) + a.exp) ((b.dig.length : Int) + b.exp) with h | h | h
  · have := far ha hb h
    rw [cI_lt h, cmpI_lt (by omega)]; rfl
  · rw [cI_eq h, show orI 0 (Lib.compareBytes a.dig b.dig) = Lib.compareBytes a.dig b.dig from rfl]
    rw [cmp_bytes a.dig b.dig 1000 ha.dig hb.dig (fun _ => ha.last) (fun _ => hb.last) ha.len hb.len]
    have la := ha.len
    have lb := hb.len
    have lo := ha.lo
    have ea : amt a.dig a.exp = decV a.dig * 10 ^ (1000 - a.dig.length) * 10 ^ ((a.dig.length : Int) + a.exp + 8000).toNat := by
      unfold amt
      rw [Nat.mul_assoc, ← Nat.pow_add]
      congr 2; omega
    have eb : amt b.dig b.exp = decV b.dig * 10 ^ (1000 - b.dig.length) * 10 ^ ((a.dig.length : Int) + a.exp + 8000).toNat := by
      unfold amt
      rw [Nat.mul_assoc, ← Nat.pow_add]
      congr 2; omega
    rw [ea, eb, Int.natCast_mul (decV a.dig * 10 ^ (1000 - a.dig.length)), Int.natCast_mul (decV b.dig * 10 ^ (1000 - b.dig.length)), cmpI_mul _ _ (Nat.pow_pos (by omega))]
  · have := far hb ha h
    rw [cI_gt h, cmpI_gt (by omega)]; rfl

/-- Where a Dec stands, by its rank. -/
theorem rank_w {d : DecT} (h : May d) : (rankI d = 3 ∧ wD d = (topNN : Int)) ∨ (rankI d = 2 ∧ wD d = (topN : Int)) ∨ (rankI d = -2 ∧ wD d = -(topN : Int)) ∨ (rankI d = 0 ∧ wD d = 0) ∨ (rankI d = 1 ∧ 0 < wD d ∧ wD d < (topN : Int)) ∨ (rankI d = -1 ∧ -(topN : Int) < wD d ∧ wD d < 0) := by
  rcases may_cases h with ⟨n, rfl⟩ | h | ⟨n, rfl⟩ | rfl
  · refine .inr (.inr (.inr (.inl ⟨by simp [rankI], ?_⟩)))
    simp only [wD, vD, amt, decV, List.foldl_nil, Nat.zero_mul, zD_zero]
    simp
  · have h1 := h.amt_pos
    have h2 := h.amt_top
    have hw : wD d = zD d.neg (amt d.dig d.exp) := by unfold wD vD; rw [h.cls]; simp
    cases hn : d.neg
    · rw [hn] at hw
      refine .inr (.inr (.inr (.inr (.inl ⟨by simp [rankI, h.cls, h.ne, hn], ?_⟩))))
      rw [hw]; simp only [zD]; simp; omega
    · rw [hn] at hw
      refine .inr (.inr (.inr (.inr (.inr ⟨by simp [rankI, h.cls, h.ne, hn], ?_⟩))))
      rw [hw]; simp only [zD]; simp; omega
  · cases n
    · exact .inr (.inl ⟨by simp [rankI], by simp [wD, zD]⟩)
    · exact .inr (.inr (.inl ⟨by simp [rankI], by simp [wD, zD]⟩))
  · exact .inl ⟨by simp [rankI], by simp [wD]⟩

theorem top_pos : 0 < topN := by decide +kernel

theorem rank_lt {a b : DecT} (ha : May a) (hb : May b) (h : rankI a < rankI b) : wD a < wD b := by
  have h1 := rank_w ha
  have h2 := rank_w hb
  have t1 := top_lt
  have t2 := top_pos
  generalize rankI a = ra at *
  generalize rankI b = rb at *
  generalize wD a = x at *
  generalize wD b = y at *
  generalize topN = T at *
  generalize topNN = U at *
  omega

theorem rank_cmp {a b : DecT} (ha : May a) (hb : May b) (h : Lib.compareInt (rankI a) (rankI b) ≠ 0) : Lib.compareInt (rankI a) (rankI b) = cmpI (wD a) (wD b) := by
  rcases Int.lt_trichotomy (rankI a) (rankI b) with e | e | e
  · rw [cI_lt e, cmpI_lt (rank_lt ha hb e)]
  · exact absurd (cI_eq e) h
  · rw [cI_gt e, cmpI_gt (rank_lt hb ha e)]

theorem rank_same {a b : DecT} (h : Lib.compareInt (rankI a) (rankI b) = 0) : rankI a = rankI b := by
  rcases Int.lt_trichotomy (rankI a) (rankI b) with e | e | e
  · rw [cI_lt e] at h; cases h
  · exact e
  · rw [cI_gt e] at h; cases h

/-- What cmpAmounts answers. -/
def amtI (a b : DecT) : Int := orI (Lib.compareInt ((a.dig.length : Int) + a.exp) ((b.dig.length : Int) + b.exp)) (Lib.compareBytes a.dig b.dig)

theorem same_cmp {a b : DecT} (ha : May a) (hb : May b) (h : rankI a = rankI b) : (if a.neg then amtI b a else amtI a b) = cmpI (wD a) (wD b) := by
  have nil : ∀ {x : DecT}, May x → ¬ Fin x → x.dig = [] ∧ x.exp = 0 := by
    intro x hx hn
    rcases may_cases hx with ⟨n, rfl⟩ | h | ⟨n, rfl⟩ | rfl
    · exact ⟨rfl, rfl⟩
    · exact absurd h hn
    · exact ⟨rfl, rfl⟩
    · exact ⟨rfl, rfl⟩
  have fr : ∀ {x : DecT}, Fin x → rankI x = if x.neg then -1 else 1 := by
    intro x hx; simp [rankI, hx.cls, hx.ne]
  have nr : ∀ {x : DecT}, May x → ¬ Fin x → rankI x ≠ 1 ∧ rankI x ≠ -1 := by
    intro x hx hn
    rcases may_cases hx with ⟨n, rfl⟩ | h | ⟨n, rfl⟩ | rfl
    · simp [rankI]
    · exact absurd h hn
    · cases n <;> simp [rankI]
    · simp [rankI]
  by_cases fa : Fin a
  · by_cases fb : Fin b
    · rw [fr fa, fr fb] at h
      have wa : wD a = zD a.neg (amt a.dig a.exp) := by unfold wD vD; rw [fa.cls]; simp
      have wb : wD b = zD b.neg (amt b.dig b.exp) := by unfold wD vD; rw [fb.cls]; simp
      cases hn : a.neg <;> cases hm : b.neg <;> rw [hn, hm] at h
      · rw [wa, wb, hn, hm]
        exact fin_cmp fa fb
      · simp at h
      · simp at h
      · rw [wa, wb, hn, hm]
        simp only [if_true, zD]
        rw [cmpI_neg]
        exact fin_cmp fb fa
    · have h1 := nr hb fb
      rw [fr fa] at h
      cases hn : a.neg <;> rw [hn] at h <;> simp at h <;> omega
  · by_cases fb : Fin b
    · have h1 := nr ha fa
      rw [fr fb] at h
      cases hn : b.neg <;> rw [hn] at h <;> simp at h <;> omega
    · obtain ⟨e1, e2⟩ := nil ha fa
      obtain ⟨e3, e4⟩ := nil hb fb
      have hw : wD a = wD b := by
        have h1 := rank_w ha
        have h2 := rank_w hb
        have h3 := nr ha fa
        have h4 := nr hb fb
        generalize rankI a = ra at *
        generalize rankI b = rb at *
        omega
      rw [hw, cmpI_self]
      unfold amtI
      rw [e1, e2, e3, e4]
      simp [orI, Lib.compareInt, Lib.compareBytes]

end Go.Proofs.YtifpacgacbpalaaGreatDoor

namespace Go.Proofs.YtifpacgacbpalaaGreatDoor
open Go.RowKit

theorem num_snoc (b : Nat) (r : List Nat) (y : Nat) : num b (r ++ [y]) = num b r + y * b ^ r.length := by
  unfold num
  rw [List.length_append, List.length_singleton]
  simp only [V]
  have e : dg (r ++ [y]) r.length = y := by simp [dg]
  rw [e, V_congr (f := dg (r ++ [y])) (g := dg r) r.length (fun i hi => by simp [dg, List.getElem?_append_left hi])]

theorem Ok.snoc {b : Nat} {r : List Nat} {y : Nat} (h : Ok b r) (hy : y < b) : Ok b (r ++ [y]) := by
  intro i
  rcases Nat.lt_trichotomy i r.length with h1 | h1 | h1
  · rw [show dg (r ++ [y]) i = dg r i by simp [dg, List.getElem?_append_left h1]]; exact h i
  · rw [show dg (r ++ [y]) i = y by simp [dg, h1]]; exact hy
  · rw [dg_out (by simp; omega)]; omega

theorem carry_put (x b k : Nat) : x % b * b ^ k + x / b * b ^ (k + 1) = x * b ^ k := by
  have h := Nat.div_add_mod x b
  rw [Nat.pow_succ, Nat.mul_comm (b ^ k) b, ← Nat.mul_assoc, ← Nat.add_mul, Nat.mul_comm (x / b) b, Nat.add_comm, h]

theorem times_step {a c d k N S : Nat} (h : S + c * 65536 ^ k = N * 10 + d) :
    S + (a * 10 + c) % 65536 * 65536 ^ k + (a * 10 + c) / 65536 * 65536 ^ (k + 1) = (N + a * 65536 ^ k) * 10 + d := by
  have h1 := carry_put (a * 10 + c) 65536 k
  generalize 65536 ^ (k + 1) = Q at h1 ⊢
  generalize 65536 ^ k = P at h h1 ⊢
  have h2 : (a * 10 + c) * P = a * P * 10 + c * P := by
    rw [Nat.add_mul, Nat.mul_assoc, Nat.mul_comm 10, ← Nat.mul_assoc]
  omega

/-- What times answers: a list of digits, noughts on top or not, that is the number n. -/
def TPost (w : World) (m n : Nat) (e : Ending) (w' : World) : Prop :=
  ∃ ao cap ys, e = .returned (.slice ao (List.length ys) cap) ∧ ys.length ≤ cap ∧ At .u32 w' ao ys ∧ Ok 65536 ys ∧ num 65536 ys = n ∧ ys.length ≤ m ∧ Below w.heap.size w w'

/-- Behind k digits of the first loop. -/
structure TIn (w : World) (xs : List Nat) (d k c : Nat) (v : Value) (wr : World) : Prop where
  small : c ≤ 9
  row : ∃ r, Grows w wr v r ∧ r.length = k ∧ Ok 65536 r ∧ num 65536 r + c * 65536 ^ k = V 65536 (dg xs) k * 10 + d

/-- In the second loop. -/
structure TOut (w : World) (N la c : Nat) (v : Value) (wr : World) : Prop where
  small : c ≤ 9
  row : ∃ r, Grows w wr v r ∧ r.length ≤ la + 1 ∧ (c ≠ 0 → r.length ≤ la) ∧ Ok 65536 r ∧ num 65536 r + c * 65536 ^ r.length = N

theorem TIn.out {w wr : World} {xs : List Nat} {d k c : Nat} {v : Value} (h : TIn w xs d k c v wr) (hk : xs.length = k) : TOut w (num 65536 xs * 10 + d) k c v wr := by
  obtain ⟨h1, r, h2, h3, h4, h5⟩ := h
  refine ⟨h1, r, h2, by omega, fun _ => by omega, h4, ?_⟩
  rw [h3, h5, ← hk]; rfl

set_option maxRecDepth 100000 in
set_option maxHeartbeats 1000000 in
theorem times_any (ao : Option Addr) (la ca d : Nat) (xs : List Nat) (w : World) (hla : la ≤ 1000000) (hd : d ≤ 9) (hx : xs.length = la) (hax : At .u32 w ao xs) (ox : Ok 65536 xs) :
    Calls Tryz.prog 88 #[.slice ao la ca, .int .u32 10, .int .u32 (d : Int)] w (TPost w (la + 1) (num 65536 xs * 10 + d)) := by
  obtain ⟨i0, hi, hz0, hz1, hz2⟩ := info_parts Tryz.infoD
  go_enter Tryz.func88, Tryz.ntmps88
  go_wp2
  go_loopw [7, 8, 9, 10] (fun v cv i _ wr => ∃ k c : Nat, k ≤ la ∧ cv = .int .u64 (c : Int) ∧ i = .int .i64 k ∧ TIn w xs d k c v wr) (fun _ _ i _ _ => la - (intOf i).toNat)
  case atStart => exact ⟨0, d, Nat.zero_le _, rfl, rfl, hd, [], ⟨(Below.refl _ _).alloc (Nat.le_refl _) _, World.ownsRow_lit _ #[] 0 (Nat.le_refl _) (by unfold maxLen; omega) rfl⟩, rfl, (Is.none (by decide)).1, by simp [V, num]⟩
  case round =>
    obtain ⟨k, c, hk, rfl, rfl, hin⟩ := hrel
    have hc9 := hin.small
    by_cases hlt : k < la
    · obtain ⟨r, hgr, hrl, hro, hrn⟩ := hin.row
      have t1 : (k : Int) < (la : Int) := by omega
      obtain ⟨x, hxk⟩ : ∃ x, x = dg xs k := ⟨_, rfl⟩
      have hxl : x < 65536 := by rw [hxk]; exact ox k
      obtain ⟨b1, o1, rfl, hc1⟩ : ∃ b1 o1, ao = some ⟨b1, o1, none⟩ ∧ wr.cell? ⟨b1, o1 + k, none⟩ = some (.int .u32 (x : Int)) := by
        rcases hax.below hgr.1 with h | ⟨b, o, h1, _, h3⟩
        · rw [h] at hx; simp at hx; omega
        · exact ⟨b, o, h1, by rw [hxk]; exact h3 k (by omega)⟩
      have hst := times_step (a := x) hrn
      obtain ⟨y, hy⟩ : ∃ y, y = (x * 10 + c) % 65536 := ⟨_, rfl⟩
      obtain ⟨c', hc'⟩ : ∃ c', c' = (x * 10 + c) / 65536 := ⟨_, rfl⟩
      have hyl : y < 65536 := by rw [hy]; exact Nat.mod_lt _ (by omega)
      have hc9' : c' ≤ 9 := by omega
      rw [← hy, ← hc'] at hst
      have e1 : bits .and .u64 ((x : Int) * 10 + (c : Int)) 65535 % 4294967296 = (y : Int) := by
        rw [show ((x : Int) * 10 + (c : Int)) = ((x * 10 + c : Nat) : Int) by omega, and16 _ (Nat.lt_trans (show x * 10 + c < 1000000 by omega) (by decide)), hy]
      have e2 : ((x : Int) * 10 + (c : Int)) / 65536 = (c' : Int) := by omega
      have hown := hgr.2
      rw [hrl] at hown
      have hsz := hgr.1.size
      have HIN : Hid (∀ v' w1, Grows w w1 v' (r ++ [y]) → TIn w xs d (k + 1) c' v' w1) := by
        intro v' w1 hg
        refine ⟨hc9', _, hg, by simp [hrl], hro.snoc hyl, ?_⟩
        rw [num_snoc, hrl, hst, hxk]; rfl
      have HG : Hid (Grows w wr u7 r) := hgr
      have HRL : Hid (r.length = k) := hrl
      clear hgr hax hst hin hro hrn hy hc' hxk hrl
      go_wp2_with (at_builtin; refine wpList_append_own _ rfl _ _ 54 rfl w.heap.size 99 i0 (.int .u32 0) 1 4 Tryz.underlying54 hi hz0 hz1 hz2 rfl (by decide) _ _ _ rfl (hown.alloc _) ⟨wr.heap.size, 0, none⟩ 1 1 [.int .u32 (y : Int)] rfl rfl ?c1A ?c2A ?c3A ?c4A ?c5A ?_)
      try case c1A => exact new_cell wr _ _
      case c2A => first | exact one_one _ _ | rfl
      case c3A => unfold maxLen; omega
      case c4A => omega
      case c5A => first | (simp; omega) | omega
      intro v' w1 hown' hgrow _
      have hg' := HG.out.step _ (by rw [HRL.out]; exact hown') hgrow
      have HI := hide (HIN.out _ _ hg')
      clear hown hown' hgrow hg' HG HIN e1 HRL
      go_wp2
      go_roundw
      case rel => exact ⟨k + 1, c', by omega, rfl, by go_num, HI.out⟩
      case measure => simp [intOf]; omega
    · obtain rfl : k = la := by omega
      have t1 : ¬ (k : Int) < (k : Int) := by omega
      have HO := hide (hin.out hx)
      obtain ⟨N, hN⟩ : ∃ N, N = num 65536 xs * 10 + d := ⟨_, rfl⟩
      have HN := hide hN
      rw [← hN] at HO
      clear hin hN hax ox
      go_wp2
      go_loopw [7, 8] (fun v cv wr => ∃ c : Nat, cv = .int .u64 (c : Int) ∧ TOut w N k c v wr) (fun _ cv _ => (intOf cv).toNat)
      case atStart => exact ⟨c, rfl, HO.out⟩
      case round =>
        clear HO hc9
        obtain ⟨c, rfl, hout⟩ := hrel
        obtain ⟨r, hgr, hrl, hrc, hro, hrn⟩ := hout.row
        have hc9 := hout.small
        by_cases h0 : c = 0
        · subst h0
          obtain ⟨ao', cp, rfl, hcp, hat⟩ := hgr.at
          have hbel := hgr.1
          have HR : Hid (Ok 65536 r ∧ num 65536 r = N ∧ r.length ≤ k + 1) := ⟨hro, by rw [Nat.zero_mul] at hrn; exact hrn, hrl⟩
          clear hgr hout hro hrn hrc hrl
          go_wp2
          go_ret
          exact ⟨ao', cp, r, rfl, hcp, hat, HR.out.1, HR.out.2.1.trans HN.out, HR.out.2.2, hbel⟩
        · have hpos : (0 : Int) < (c : Int) := by omega
          have hrk := hrc h0
          have hown := hgr.2
          obtain ⟨l, hl⟩ : ∃ l, l = r.length := ⟨_, rfl⟩
          rw [← hl] at hown hrk hrn
          have e1 : bits .and .u64 (c : Int) 65535 % 4294967296 = (c : Int) := by
            rw [and16 _ (Nat.lt_trans (show c < 1000000 by omega) (by decide))]; omega
          have e2 : (c : Int) / 65536 = 0 := by omega
          have hsz := hgr.1.size
          have HIN : Hid (∀ v' w1, Grows w w1 v' (r ++ [c]) → TOut w N k 0 v' w1) := by
            intro v' w1 hg
            refine ⟨by omega, _, hg, by simp; omega, fun h => absurd rfl h, hro.snoc (by omega), ?_⟩
            rw [num_snoc, Nat.zero_mul, ← hl]; exact hrn
          have HG : Hid (Grows w wr u7 r) := hgr
          have HRL : Hid (r.length = l) := hl.symm
          clear hgr hout hro hrn hrc hrl hl
          go_wp2_with (at_builtin; refine wpList_append_own _ rfl _ _ 54 rfl w.heap.size 99 i0 (.int .u32 0) 1 4 Tryz.underlying54 hi hz0 hz1 hz2 rfl (by decide) _ _ _ rfl (hown.alloc _) ⟨wr.heap.size, 0, none⟩ 1 1 [.int .u32 (c : Int)] rfl rfl ?c1B ?c2B ?c3B ?c4B ?c5B ?_)
          try case c1B => exact new_cell wr _ _
          case c2B => first | exact one_one _ _ | rfl
          case c3B => unfold maxLen; omega
          case c4B => omega
          case c5B => first | (simp; omega) | omega
          intro v' w1 hown' hgrow _
          have hg' := HG.out.step _ (by rw [HRL.out]; exact hown') hgrow
          have HI := hide (HIN.out _ _ hg')
          clear hown hown' hgrow hg' HG HIN e1 HRL
          go_wp2
          go_roundw
          case rel => exact ⟨0, rfl, HI.out⟩
          case measure => simp [intOf]; omega

end Go.Proofs.YtifpacgacbpalaaGreatDoor

namespace Go.Proofs.YtifpacgacbpalaaGreatDoor
open Go.RowKit

set_option maxRecDepth 100000 in
set_option maxHeartbeats 1000000 in
theorem rof_any (s : ByteArray) (w : World) (hn : s.size ≤ 100000) (hd : DigB (bys s)) :
    Calls Tryz.prog 66 #[.string s] w (RPost w (s.size + 1) (decV (bys s))) := by
  obtain ⟨n, hnn⟩ : ∃ n, n = s.size := ⟨_, rfl⟩
  have HD : Hid (DigB (bys s)) := hd
  have HL : Hid ((bys s).length = n) := by rw [hnn]; exact bys_len s
  clear hd
  go_enter Tryz.func66, Tryz.ntmps66
  go_wp2
  go_loopw [3, 4] (fun v i wr => ∃ (k : Nat) (o : Option Addr) (c : Nat) (r : List Nat), k ≤ n ∧ i = .int .i64 (k : Int) ∧ v = .slice o r.length c ∧ r.length ≤ c ∧ r.length ≤ k ∧ At .u32 wr o r ∧ Ok 65536 r ∧ num 65536 r = decV ((bys s).take k) ∧ Below w.heap.size w wr) (fun _ i _ => n - (intOf i).toNat)
  case atStart => exact ⟨0, _, _, [], Nat.zero_le _, rfl, rfl, Nat.le_refl _, Nat.le_refl _, At.nil _ _ _, (Is.none (by decide)).1, by simp [decV, num, V], (Below.refl _ _).alloc (Nat.le_refl _) _⟩
  case round =>
    obtain ⟨k, o, c, r, hk, rfl, rfl, hrc, hrk, hat, hro, hrn, hb⟩ := hrel
    by_cases hlt : k < n
    · have hlt' : (k : Int) < (s.size : Int) := by omega
      have hks : k < s.size := by omega
      have hbb := HD.out k (by rw [HL.out]; exact hlt)
      have hg : ∀ h : k < s.size, s[k].toNat = byt (bys s) k := fun h => byt_get s k h
      have hs := decV_succ (bys s) (k := k) (by rw [HL.out]; exact hlt)
      obtain ⟨b, hbe⟩ : ∃ b, b = byt (bys s) k := ⟨_, rfl⟩
      rw [← hbe] at hbb hg hs
      obtain ⟨d, hd⟩ : ∃ d, d = b - 48 := ⟨_, rfl⟩
      rw [← hd, ← hrn] at hs
      have e1 : (b : Int) - 48 = (d : Int) := by omega
      have hd9 : d ≤ 9 := by omega
      have HS := hide hs
      clear hs hrn hbe hd
      go_wp2_with fail
      refine (times_any o r.length c d r _ (by omega) hd9 rfl hat hro).mono ?_
      rintro e w1 ⟨o1, c1, r1, rfl, hl1, hat1, hok1, hn1, hm1, hb1⟩
      rw [← HS.out] at hn1
      have hbw := hb.trans (hb1.mono hb.size)
      have HAT := hide hat1
      have HN1 := hide hn1
      have HBW := hide hbw
      have HOK := hide hok1
      clear hat hro hb hb1 hat1 hn1 hbw hok1 hg
      go_wp2
      go_roundw
      case rel => exact ⟨k + 1, o1, c1, r1, by omega, by go_num, rfl, hl1, by omega, HAT.out, HOK.out, HN1.out, HBW.out⟩
      case measure => simp [intOf]; omega
    · obtain rfl : k = n := by omega
      have hlt' : ¬ (k : Int) < (s.size : Int) := by omega
      have e : (bys s).take k = bys s := List.take_of_length_le (by rw [HL.out]; omega)
      rw [e] at hrn
      have HRN := hide hrn
      have ha := hat.alloc (Obj.cells #[] 99)
      have hb2 := hb.alloc hb.size (Obj.cells #[] 99)
      clear hat hrn e hb
      go_wp2_with fail
      refine (radd_any o _ r.length c 0 0 r [] _ (by omega) (by omega) rfl rfl ha (At.nil _ _ _) hro (Is.none (by decide)).1).mono ?_
      rintro e w1 ⟨o1, c1, r1, rfl, hl1, hat1, his1, hm1, hb1⟩
      rw [HRN.out, show num 65536 [] = 0 from rfl, Nat.add_zero] at his1
      have hbw := hb2.trans (hb1.mono hb2.size)
      clear ha hb2 hb1
      go_wp2
      go_ret
      exact ⟨o1, c1, r1, rfl, hl1, hat1, his1, by omega, hbw⟩

end Go.Proofs.YtifpacgacbpalaaGreatDoor

namespace Go.Proofs.YtifpacgacbpalaaGreatDoor
open Go.RowKit

/-- A list of the reference's digits is the number n, with at most m digits. -/
def Rl (W : World) (o : Option Addr) (l c n m : Nat) : Prop := ∃ r : List Nat, r.length = l ∧ l ≤ c ∧ l ≤ m ∧ At .u32 W o r ∧ Is 65536 r n
/-- A sign and a list are the whole number z in its one form; the list lies at lo or above. -/
def RI (W : World) (s : Bool) (o : Option Addr) (l c : Nat) (z : Int) (m lo : Nat) : Prop := ∃ r : List Nat, r.length = l ∧ l ≤ c ∧ l ≤ m ∧ s = decide (z < 0) ∧ Res .u32 W o r lo W.heap.size ∧ Is 65536 r z.natAbs

theorem RI.below {W W' : World} {s : Bool} {o : Option Addr} {l c m lo : Nat} {z : Int} (h : RI W s o l c z m lo) (hb : Below W.heap.size W W') : RI W' s o l c z m lo := by
  obtain ⟨r, h1, h2, h3, h4, h5, h6⟩ := h
  exact ⟨r, h1, h2, h3, h4, (h5.below hb).mono (Nat.le_refl _) hb.size, h6⟩
theorem RI.set {W : World} {s : Bool} {o : Option Addr} {l c m lo H i : Nat} {z : Int} (h : RI W s o l c z m lo) (hH : H < lo) (v : Value) : RI (W.setCell ⟨H, i, none⟩ v) s o l c z m lo := by
  obtain ⟨r, h1, h2, h3, h4, h5, h6⟩ := h
  exact ⟨r, h1, h2, h3, h4, (h5.set (.inl hH) v).mono (Nat.le_refl _) (by simp [World.setCell]), h6⟩
theorem RI.lo {W : World} {s : Bool} {o : Option Addr} {l c m lo lo' m' : Nat} {z : Int} (h : RI W s o l c z m lo) (hl : lo' ≤ lo) (hm : m ≤ m') : RI W s o l c z m' lo' := by
  obtain ⟨r, h1, h2, h3, h4, h5, h6⟩ := h
  exact ⟨r, h1, h2, by omega, h4, h5.mono hl (Nat.le_refl _), h6⟩
theorem Rl.below {W W' : World} {o : Option Addr} {l c n m : Nat} (h : Rl W o l c n m) (hb : Below W.heap.size W W') : Rl W' o l c n m := by
  obtain ⟨r, h1, h2, h3, h4, h5⟩ := h
  exact ⟨r, h1, h2, h3, h4.below hb, h5⟩
theorem RI.abs {W : World} {s : Bool} {o : Option Addr} {l c m lo : Nat} {z : Int} (h : RI W s o l c z m lo) : Rl W o l c z.natAbs m := by
  obtain ⟨r, h1, h2, h3, h4, h5, h6⟩ := h
  exact ⟨r, h1, h2, h3, h5.1, h6⟩

theorem rmakeI (neg : Bool) (o : Option Addr) (l c n m : Nat) (w : World) (hm : m ≤ 100000) (h : Rl w o l c n m) :
    Calls Tryz.prog 65 #[.bool neg, .slice o l c] w fun e w' => (∃ s o l c, e = .returned (.agg #[.bool s, .slice o l c]) ∧ RI w' s o l c (zv neg n) (m + 1) w.heap.size) ∧ Below w.heap.size w w' := by
  obtain ⟨r, h1, h2, h3, h4, h5⟩ := h
  have g := rmake neg o l c r w (by omega) h1 h4 h5.1
  rw [h5.2.2] at g
  refine g.mono ?_
  rintro e w' ⟨s, o', c', r', hs, rfl, hle, hres, his, hlen, hb⟩
  exact ⟨⟨s, o', r'.length, c', rfl, r', rfl, hle, by omega, hs.out, hres.mono (Nat.le_refl _) (Nat.le_refl _), his⟩, hb⟩

theorem results_num {fn : Func} {a : Tmp} (h : fn.results = #[.cell a 58]) (tmps : Array Value) (H : Nat) (x0 x1 x2 : Value) (w : World) (ht : tmps.getD a undef = .pointer (some ⟨H, 0, none⟩)) (hp : Blk w H #[x0, x1, x2] 58) :
    (results fn tmps).run Tryz.prog w = .ok (.agg #[x0, x1, x2]) w := by
  have c0 := hp.cell 0
  have c1 := hp.cell 1
  have c2 := hp.cell 2
  simp at c0 c1 c2
  rw [Array.getD_eq_getD_getElem?] at ht
  simp [results, h, ht, go_sem, c0, c1, c2]
theorem results_int {fn : Func} {a : Tmp} (h : fn.results = #[.cell a 56]) (tmps : Array Value) (H : Nat) (x0 x1 : Value) (w : World) (ht : tmps.getD a undef = .pointer (some ⟨H, 0, none⟩)) (hp : Blk w H #[x0, x1] 56) :
    (results fn tmps).run Tryz.prog w = .ok (.agg #[x0, x1]) w := by
  have c0 := hp.cell 0
  have c1 := hp.cell 1
  simp at c0 c1
  rw [Array.getD_eq_getD_getElem?] at ht
  simp [results, h, ht, go_sem, c0, c1]
theorem Blk.put3 {w : World} {b : Nat} {t : TypeId} {x0 x1 x2 : Value} (h : Blk w b #[x0, x1, x2] t) (y0 y1 y2 : Value) : Blk (((w.setCell ⟨b, 0, none⟩ y0).setCell ⟨b, 1, none⟩ y1).setCell ⟨b, 2, none⟩ y2) b #[y0, y1, y2] t := by
  unfold Blk at *
  simp only [World.setCell, Array.getElem?_modify, if_true, h, Option.map_some]
  rfl
theorem Blk.put2 {w : World} {b : Nat} {t : TypeId} {x0 x1 : Value} (h : Blk w b #[x0, x1] t) (y0 y1 : Value) : Blk ((w.setCell ⟨b, 0, none⟩ y0).setCell ⟨b, 1, none⟩ y1) b #[y0, y1] t := by
  unfold Blk at *
  simp only [World.setCell, Array.getElem?_modify, if_true, h, Option.map_some]
  rfl

set_option maxRecDepth 100000 in
set_option maxHeartbeats 2000000 in
theorem rnof (ca : Int) (na : Bool) (ta : ByteArray) (ea : Int) (w : World) (hn : ta.size ≤ 1000) (hd : DigB (bys ta)) : Calls Tryz.prog 41 #[dcV ca na ta ea] w fun e w' => (∃ s o l c, e = .returned (.agg #[.bool s, .slice o l c, .int .i64 ea]) ∧ RI w' s o l c (zv na (decV (bys ta))) 1002 (w.heap.size + 1)) ∧ Below w.heap.size w w' := by
  have HD := hide hd
  have HS := hide hn
  clear hd
  have Ba0 := hide ((Blk.newAt w (w.heap.size) (rfl) #[.int .i64 ca, .bool na, .string ta, .int .i64 ea] 23).alloc (.cells #[.bool false, .slice none 0 0, .int .i64 0] 58))
  have Br0 := hide (Blk.newAt (w.alloc (.cells #[.int .i64 ca, .bool na, .string ta, .int .i64 ea] 23)) (w.heap.size + 1) (by simp) #[.bool false, .slice none 0 0, .int .i64 0] 58)
  have HB0 : Hid (Below w.heap.size w ((w.alloc (.cells #[.int .i64 ca, .bool na, .string ta, .int .i64 ea] 23)).alloc (.cells #[.bool false, .slice none 0 0, .int .i64 0] 58))) := (((Below.refl _ _).alloc (Nat.le_refl _) _).alloc (by simp <;> omega) _)
  obtain ⟨W, hW⟩ : ∃ W, W = ((w.alloc (.cells #[.int .i64 ca, .bool na, .string ta, .int .i64 ea] 23)).alloc (.cells #[.bool false, .slice none 0 0, .int .i64 0] 58)) := ⟨_, rfl⟩
  rw [← hW] at HB0 Ba0 Br0 
  have HW := hide hW
  clear hW
  have ya0 : W.cell? ⟨w.heap.size, 0, none⟩ = some (.int .i64 ca) := Ba0.out.cell 0
  have ya1 : W.cell? ⟨w.heap.size, 1, none⟩ = some (.bool na) := Ba0.out.cell 1
  have ya2 : W.cell? ⟨w.heap.size, 2, none⟩ = some (.string ta) := Ba0.out.cell 2
  have ya3 : W.cell? ⟨w.heap.size, 3, none⟩ = some (.int .i64 ea) := Ba0.out.cell 3
  have yr0 : W.cell? ⟨w.heap.size + 1, 0, none⟩ = some (.bool false) := Br0.out.cell 0
  have yr1 : W.cell? ⟨w.heap.size + 1, 1, none⟩ = some (.slice none 0 0) := Br0.out.cell 1
  have yr2 : W.cell? ⟨w.heap.size + 1, 2, none⟩ = some (.int .i64 0) := Br0.out.cell 2
  obtain ⟨G, hG⟩ : ∃ G, G = w.heap.size + 1 := ⟨_, rfl⟩
  have gn1 : ¬ G = w.heap.size := by omega
  have gn2 : ¬ w.heap.size = G := by omega
  have gle : w.heap.size ≤ G := by omega
  rw [← hG] at Br0 yr0 yr1 yr2
  have HG := hide hG
  have HLT : Hid (G < W.heap.size) := Br0.out.lt
  clear hG yr0 yr1 yr2
  go_enter Tryz.func41, Tryz.ntmps41
  have C0 : Hid (∀ X, Hid (Below W.heap.size W X) → Calls Tryz.prog 66 #[.string ta] X fun e w' => (∃ o l c, e = .returned (.slice o l c) ∧ Hid (Rl w' o l c (decV (bys ta)) 1001)) ∧ Hid (Below W.heap.size W w') ∧ w'.cell? ⟨w.heap.size, 0, none⟩ = some (.int .i64 ca) ∧ w'.cell? ⟨w.heap.size, 1, none⟩ = some (.bool na) ∧ w'.cell? ⟨w.heap.size, 2, none⟩ = some (.string ta) ∧ w'.cell? ⟨w.heap.size, 3, none⟩ = some (.int .i64 ea)) := by
    intro X bX
    refine (rof_any ta X (by have := HS.out; omega) HD.out).mono ?_
    rintro e w' ⟨o, c, r, rfl, hle, hat, his, hm, hb⟩
    have bb := bX.out.trans (hb.mono bX.out.size)
    have Baq := Ba0.out.below bb Ba0.out.lt
    exact ⟨⟨o, r.length, c, rfl, r, rfl, hle, by have := HS.out; omega, hat, his⟩, bb, Baq.cell 0, Baq.cell 1, Baq.cell 2, Baq.cell 3⟩
  have C1 : Hid (∀ X o l c, Hid (Below W.heap.size W X) → Hid (Rl X o l c (decV (bys ta)) 1001) → Calls Tryz.prog 65 #[.bool na, .slice o l c] X fun e w' => (∃ s o l c, e = .returned (.agg #[.bool s, .slice o l c]) ∧ Hid (RI w' s o l c (zv na (decV (bys ta))) 1002 W.heap.size)) ∧ Hid (Below W.heap.size W w') ∧ w'.cell? ⟨w.heap.size, 0, none⟩ = some (.int .i64 ca) ∧ w'.cell? ⟨w.heap.size, 1, none⟩ = some (.bool na) ∧ w'.cell? ⟨w.heap.size, 2, none⟩ = some (.string ta) ∧ w'.cell? ⟨w.heap.size, 3, none⟩ = some (.int .i64 ea)) := by
    intro X o l c bX hz
    refine (rmakeI na o l c _ _ X (by omega) hz.out).mono ?_
    rintro e w' ⟨⟨s, o, l, c, rfl, hz⟩, hb⟩
    have bb := bX.out.trans (hb.mono bX.out.size)
    have Baq := Ba0.out.below bb Ba0.out.lt
    exact ⟨⟨s, o, l, c, rfl, hz.lo bX.out.size (Nat.le_refl _)⟩, bb, Baq.cell 0, Baq.cell 1, Baq.cell 2, Baq.cell 3⟩
  have b0 : Hid (Below W.heap.size W W.drew) := bdrewD W
  go_wp2_with fail
  simp only [← HW.out]
  simp only [← HG.out]
  have mk0 : True := trivial
  go_region_held3 (fun w' => w'.cell? ⟨w.heap.size, 0, none⟩ = some (.int .i64 ca) ∧ w'.cell? ⟨w.heap.size, 1, none⟩ = some (.bool na) ∧ w'.cell? ⟨w.heap.size, 2, none⟩ = some (.string ta) ∧ w'.cell? ⟨w.heap.size, 3, none⟩ = some (.int .i64 ea)) (go_keep) (first
    | (clear mk0; go_at_call 66; refine (C0.out _ b0).mono ?_; rintro e w1 ⟨⟨o1, l1, c1, rfl, Z1⟩, b1, q0_0, q0_1, q0_2, q0_3⟩; have mk1 : True := trivial)
    | (clear mk1; go_at_call 65; refine (C1.out _ o1 l1 c1 b1 Z1).mono ?_; rintro e w2 ⟨⟨s2, o2, l2, c2, rfl, Z2⟩, b2, q1_0, q1_1, q1_2, q1_3⟩; have Brq := hide (Br0.out.below b2.out Br0.out.lt); have fr0 := Brq.out.free 0; have fr1 := Brq.out.free 1; have fr2 := Brq.out.free 2; have gr0 : w2.cell? ⟨G, 0, none⟩ = some (.bool false) := Brq.out.cell 0; have gr1 : w2.cell? ⟨G, 1, none⟩ = some (.slice none 0 0) := Brq.out.cell 1; have gr2 : w2.cell? ⟨G, 2, none⟩ = some (.int .i64 0) := Brq.out.cell 2; have mk2 : True := trivial))
  have HBq := hide (HB0.out.trans (b2.out.mono HB0.out.size))
  go_wp2
  refine bodyPost_ret (results_num rfl _ _ _ _ _ _ rfl (Brq.out.put3 _ _ _)) rfl ?_
  exact ⟨⟨_, _, _, _, rfl, ((Z2.out.set HLT.out _).set HLT.out _).set HLT.out _ |>.lo (by have := HLT.out; have := HG.out; omega) (Nat.le_refl _)⟩, ((HBq.out.setCell gle _).setCell gle _).setCell gle _⟩

set_option maxRecDepth 100000 in
set_option maxHeartbeats 4000000 in
theorem rnat (s : Bool) (oa : Option Addr) (la ca : Nat) (E e0 z : Int) (k lo : Nat) (w : World) (hk : E - e0 = (k : Int)) (hk2 : k ≤ 8192) (hz : RI w s oa la ca z 1002 lo) : Calls Tryz.prog 64 #[.agg #[.bool s, .slice oa la ca, .int .i64 E], .int .i64 e0] w fun e w' => (∃ s' o l c, e = .returned (.agg #[.bool s', .slice o l c]) ∧ RI w' s' o l c (zv s (z.natAbs * 10 ^ k)) 4001 (w.heap.size + 1)) ∧ Below w.heap.size w w' := by
  have HZ := hide hz
  have HK := hide hk
  have HK2 := hide hk2
  have hw : IntKind.i64.wrap (E - e0) = E - e0 := by rw [IntKind.wrap_i64]; omega
  clear hz hk
  have Ba0 := hide ((Blk.newAt w (w.heap.size) (rfl) #[.bool s, .slice oa la ca, .int .i64 E] 58).alloc (.cells #[.bool false, .slice none 0 0] 56))
  have Br0 := hide (Blk.newAt (w.alloc (.cells #[.bool s, .slice oa la ca, .int .i64 E] 58)) (w.heap.size + 1) (by simp) #[.bool false, .slice none 0 0] 56)
  have HB0 : Hid (Below w.heap.size w ((w.alloc (.cells #[.bool s, .slice oa la ca, .int .i64 E] 58)).alloc (.cells #[.bool false, .slice none 0 0] 56))) := (((Below.refl _ _).alloc (Nat.le_refl _) _).alloc (by simp <;> omega) _)
  have HZW := hide (HZ.out.below (((Below.refl _ _).alloc (Nat.le_refl _) _).alloc (by simp) _ : Below w.heap.size w ((w.alloc (.cells #[.bool s, .slice oa la ca, .int .i64 E] 58)).alloc (.cells #[.bool false, .slice none 0 0] 56))))
  obtain ⟨W, hW⟩ : ∃ W, W = ((w.alloc (.cells #[.bool s, .slice oa la ca, .int .i64 E] 58)).alloc (.cells #[.bool false, .slice none 0 0] 56)) := ⟨_, rfl⟩
  rw [← hW] at HB0 Ba0 Br0 HZW
  have HW := hide hW
  clear hW
  have ya0 : W.cell? ⟨w.heap.size, 0, none⟩ = some (.bool s) := Ba0.out.cell 0
  have ya1 : W.cell? ⟨w.heap.size, 1, none⟩ = some (.slice oa la ca) := Ba0.out.cell 1
  have ya2 : W.cell? ⟨w.heap.size, 2, none⟩ = some (.int .i64 E) := Ba0.out.cell 2
  have yr0 : W.cell? ⟨w.heap.size + 1, 0, none⟩ = some (.bool false) := Br0.out.cell 0
  have yr1 : W.cell? ⟨w.heap.size + 1, 1, none⟩ = some (.slice none 0 0) := Br0.out.cell 1
  obtain ⟨G, hG⟩ : ∃ G, G = w.heap.size + 1 := ⟨_, rfl⟩
  have gn1 : ¬ G = w.heap.size := by omega
  have gn2 : ¬ w.heap.size = G := by omega
  have gle : w.heap.size ≤ G := by omega
  rw [← hG] at Br0 yr0 yr1
  have HG := hide hG
  have HLT : Hid (G < W.heap.size) := Br0.out.lt
  clear hG yr0 yr1
  clear HZ
  go_enter Tryz.func64, Tryz.ntmps64
  have C0 : Hid (∀ X, Hid (Below W.heap.size W X) → Calls Tryz.prog 86 #[.int .i64 10, .int .i64 (E - e0)] X fun e w' => (∃ o l c, e = .returned (.slice o l c) ∧ Hid (Rl w' o l c (10 ^ k) 1800)) ∧ Hid (Below W.heap.size W w') ∧ w'.cell? ⟨w.heap.size, 0, none⟩ = some (.bool s) ∧ w'.cell? ⟨w.heap.size, 1, none⟩ = some (.slice oa la ca) ∧ w'.cell? ⟨w.heap.size, 2, none⟩ = some (.int .i64 E)) := by
    intro X bX
    rw [HK.out]
    refine (rpow10 k HK2.out X).mono ?_
    rintro e w' ⟨o, c, r, rfl, hle, hat, his, hm, hb⟩
    have bb := bX.out.trans (hb.mono bX.out.size)
    have Baq := Ba0.out.below bb Ba0.out.lt
    exact ⟨⟨o, r.length, c, rfl, r, rfl, hle, hm, hat, his⟩, bb, Baq.cell 0, Baq.cell 1, Baq.cell 2⟩
  have C1 : Hid (∀ X o l c, Hid (Below W.heap.size W X) → Hid (Rl X o l c (10 ^ k) 1800) → Calls Tryz.prog 73 #[.slice oa la ca, .slice o l c] X fun e w' => (∃ o l c, e = .returned (.slice o l c) ∧ Hid (Rl w' o l c (z.natAbs * 10 ^ k) 4000)) ∧ Hid (Below W.heap.size W w') ∧ w'.cell? ⟨w.heap.size, 0, none⟩ = some (.bool s) ∧ w'.cell? ⟨w.heap.size, 1, none⟩ = some (.slice oa la ca) ∧ w'.cell? ⟨w.heap.size, 2, none⟩ = some (.int .i64 E)) := by
    intro X o l c bX hq
    obtain ⟨r, h1, h2, h3, h4, h5⟩ := hq.out
    obtain ⟨x, g1, g2, g3, g4, g5, g6⟩ := HZW.out.below bX.out
    have g := rmul_any oa o la ca l c x r X (by omega) (by omega) g1 h1 g5.1 h4 g6.1 h5.1
    rw [g6.2.2, h5.2.2] at g
    refine g.mono ?_
    rintro e w' ⟨o, c, y, rfl, hle, hat, his, hm, hb⟩
    have bb := bX.out.trans (hb.mono bX.out.size)
    have Baq := Ba0.out.below bb Ba0.out.lt
    exact ⟨⟨o, y.length, c, rfl, y, rfl, hle, by omega, hat, his⟩, bb, Baq.cell 0, Baq.cell 1, Baq.cell 2⟩
  have C2 : Hid (∀ X o l c, Hid (Below W.heap.size W X) → Hid (Rl X o l c (z.natAbs * 10 ^ k) 4000) → Calls Tryz.prog 65 #[.bool s, .slice o l c] X fun e w' => (∃ s' o l c, e = .returned (.agg #[.bool s', .slice o l c]) ∧ Hid (RI w' s' o l c (zv s (z.natAbs * 10 ^ k)) 4001 W.heap.size)) ∧ Hid (Below W.heap.size W w') ∧ w'.cell? ⟨w.heap.size, 0, none⟩ = some (.bool s) ∧ w'.cell? ⟨w.heap.size, 1, none⟩ = some (.slice oa la ca) ∧ w'.cell? ⟨w.heap.size, 2, none⟩ = some (.int .i64 E)) := by
    intro X o l c bX hz
    refine (rmakeI s o l c _ _ X (by omega) hz.out).mono ?_
    rintro e w' ⟨⟨s', o, l, c, rfl, hz⟩, hb⟩
    have bb := bX.out.trans (hb.mono bX.out.size)
    have Baq := Ba0.out.below bb Ba0.out.lt
    exact ⟨⟨s', o, l, c, rfl, hz.lo bX.out.size (Nat.le_refl _)⟩, bb, Baq.cell 0, Baq.cell 1, Baq.cell 2⟩
  have b0 : Hid (Below W.heap.size W W.drew) := bdrewD W
  go_wp2_with fail
  simp only [← HW.out]
  simp only [← HG.out]
  have mk0 : True := trivial
  go_region_held3 (fun w' => w'.cell? ⟨w.heap.size, 0, none⟩ = some (.bool s) ∧ w'.cell? ⟨w.heap.size, 1, none⟩ = some (.slice oa la ca) ∧ w'.cell? ⟨w.heap.size, 2, none⟩ = some (.int .i64 E)) (go_keep) (first
    | (clear mk0; go_at_call 86; refine (C0.out _ b0).mono ?_; rintro e w1 ⟨⟨o1, l1, c1, rfl, Z1⟩, b1, q0_0, q0_1, q0_2⟩; have mk1 : True := trivial)
    | (clear mk1; go_at_call 73; refine (C1.out _ o1 l1 c1 b1 Z1).mono ?_; rintro e w2 ⟨⟨o2, l2, c2, rfl, Z2⟩, b2, q1_0, q1_1, q1_2⟩; have mk2 : True := trivial)
    | (clear mk2; go_at_call 65; refine (C2.out _ o2 l2 c2 b2 Z2).mono ?_; rintro e w3 ⟨⟨s3, o3, l3, c3, rfl, Z3⟩, b3, q2_0, q2_1, q2_2⟩; have Brq := hide (Br0.out.below b3.out Br0.out.lt); have fr0 := Brq.out.free 0; have fr1 := Brq.out.free 1; have gr0 : w3.cell? ⟨G, 0, none⟩ = some (.bool false) := Brq.out.cell 0; have gr1 : w3.cell? ⟨G, 1, none⟩ = some (.slice none 0 0) := Brq.out.cell 1; have mk3 : True := trivial))
  have HBq := hide (HB0.out.trans (b3.out.mono HB0.out.size))
  go_wp2
  refine bodyPost_ret (results_int rfl _ _ _ _ _ rfl (Brq.out.put2 _ _)) rfl ?_
  exact ⟨⟨_, _, _, _, rfl, (Z3.out.set HLT.out _).set HLT.out _ |>.lo (by have := HLT.out; have := HG.out; omega) (Nat.le_refl _)⟩, (HBq.out.setCell gle _).setCell gle _⟩

end Go.Proofs.YtifpacgacbpalaaGreatDoor

namespace Go.Proofs.YtifpacgacbpalaaGreatDoor
open Go.RowKit

def rankR (c : Int) (n : Bool) : Int := if c = 2 then 3 else if c = 1 then (if n then 0 else 2) else 1

set_option maxHeartbeats 1000000 in
theorem rrank_nan (na : Bool) (ta : ByteArray) (ea : Int) (w : World) : Calls Tryz.prog 39 #[.agg #[.int .i64 2, .bool na, .string ta, .int .i64 ea]] w fun e w' => e = .returned (.int .i64 3) ∧ Below w.heap.size w w' := by
  have Ba0 := hide (Blk.newAt w (w.heap.size) (rfl) #[.int .i64 2, .bool na, .string ta, .int .i64 ea] 23)
  have HB0 : Hid (Below w.heap.size w (w.alloc (.cells #[.int .i64 2, .bool na, .string ta, .int .i64 ea] 23))) := ((Below.refl _ _).alloc (Nat.le_refl _) _)
  go_enter Tryz.func39, Tryz.ntmps39
  go_wp2
  go_ret
  exact ⟨rfl, HB0.out⟩

set_option maxHeartbeats 1000000 in
theorem rrank_ninf (ta : ByteArray) (ea : Int) (w : World) : Calls Tryz.prog 39 #[.agg #[.int .i64 1, .bool true, .string ta, .int .i64 ea]] w fun e w' => e = .returned (.int .i64 0) ∧ Below w.heap.size w w' := by
  have Ba0 := hide (Blk.newAt w (w.heap.size) (rfl) #[.int .i64 1, .bool true, .string ta, .int .i64 ea] 23)
  have HB0 : Hid (Below w.heap.size w (w.alloc (.cells #[.int .i64 1, .bool true, .string ta, .int .i64 ea] 23))) := ((Below.refl _ _).alloc (Nat.le_refl _) _)
  go_enter Tryz.func39, Tryz.ntmps39
  go_wp2
  go_ret
  exact ⟨rfl, HB0.out⟩

set_option maxHeartbeats 1000000 in
theorem rrank_inf (ta : ByteArray) (ea : Int) (w : World) : Calls Tryz.prog 39 #[.agg #[.int .i64 1, .bool false, .string ta, .int .i64 ea]] w fun e w' => e = .returned (.int .i64 2) ∧ Below w.heap.size w w' := by
  have Ba0 := hide (Blk.newAt w (w.heap.size) (rfl) #[.int .i64 1, .bool false, .string ta, .int .i64 ea] 23)
  have HB0 : Hid (Below w.heap.size w (w.alloc (.cells #[.int .i64 1, .bool false, .string ta, .int .i64 ea] 23))) := ((Below.refl _ _).alloc (Nat.le_refl _) _)
  go_enter Tryz.func39, Tryz.ntmps39
  go_wp2
  go_ret
  exact ⟨rfl, HB0.out⟩

set_option maxHeartbeats 1000000 in
theorem rrank_fin (na : Bool) (ta : ByteArray) (ea : Int) (w : World) : Calls Tryz.prog 39 #[.agg #[.int .i64 0, .bool na, .string ta, .int .i64 ea]] w fun e w' => e = .returned (.int .i64 1) ∧ Below w.heap.size w w' := by
  have Ba0 := hide (Blk.newAt w (w.heap.size) (rfl) #[.int .i64 0, .bool na, .string ta, .int .i64 ea] 23)
  have HB0 : Hid (Below w.heap.size w (w.alloc (.cells #[.int .i64 0, .bool na, .string ta, .int .i64 ea] 23))) := ((Below.refl _ _).alloc (Nat.le_refl _) _)
  go_enter Tryz.func39, Tryz.ntmps39
  go_wp2
  go_ret
  exact ⟨rfl, HB0.out⟩

set_option maxRecDepth 100000 in
set_option maxHeartbeats 4000000 in
theorem rorder_any (sa : Bool) (oa : Option Addr) (la ca : Nat) (ea za : Int) (ka : Nat) (sb : Bool) (ob : Option Addr) (lb cb : Nat) (eb zb : Int) (kb lo : Nat) (v : Int) (w : World)  (hka : ea - min ea eb = (ka : Int)) (hkb : eb - min ea eb = (kb : Int)) (hka2 : ka ≤ 8192) (hkb2 : kb ≤ 8192) (hza : RI w sa oa la ca za 1002 lo) (hzb : RI w sb ob lb cb zb 1002 lo) (hv : cmpZ (zv sa (za.natAbs * 10 ^ ka)) (zv sb (zb.natAbs * 10 ^ kb)) = v) : Calls Tryz.prog 40 #[.agg #[.bool sa, .slice oa la ca, .int .i64 ea], .agg #[.bool sb, .slice ob lb cb, .int .i64 eb]] w fun e w' => e = .returned (.int .i64 v) ∧ Below w.heap.size w w' := by
  obtain ⟨M, hM⟩ : ∃ M, M = min ea eb := ⟨_, rfl⟩
  rw [← hM] at hka hkb
  have HM := hide hM
  clear hM
  have HZA := hide hza
  have HZB := hide hzb
  have KA := hide hka
  have KB := hide hkb
  have KA2 := hide hka2
  have KB2 := hide hkb2
  have HV := hide hv
  clear hza hzb hka hkb hka2 hkb2 hv
  have Ba0 := hide ((Blk.newAt w (w.heap.size) (rfl) #[.bool sa, .slice oa la ca, .int .i64 ea] 58).alloc (.cells #[.bool sb, .slice ob lb cb, .int .i64 eb] 58))
  have Bb0 := hide (Blk.newAt (w.alloc (.cells #[.bool sa, .slice oa la ca, .int .i64 ea] 58)) (w.heap.size + 1) (by simp) #[.bool sb, .slice ob lb cb, .int .i64 eb] 58)
  have HB0 : Hid (Below w.heap.size w ((w.alloc (.cells #[.bool sa, .slice oa la ca, .int .i64 ea] 58)).alloc (.cells #[.bool sb, .slice ob lb cb, .int .i64 eb] 58))) := (((Below.refl _ _).alloc (Nat.le_refl _) _).alloc (by simp <;> omega) _)
  have HAW := hide (HZA.out.below (((Below.refl _ _).alloc (Nat.le_refl _) _).alloc (by simp) _ : Below w.heap.size w ((w.alloc (.cells #[.bool sa, .slice oa la ca, .int .i64 ea] 58)).alloc (.cells #[.bool sb, .slice ob lb cb, .int .i64 eb] 58))))
  have HBW := hide (HZB.out.below (((Below.refl _ _).alloc (Nat.le_refl _) _).alloc (by simp) _ : Below w.heap.size w ((w.alloc (.cells #[.bool sa, .slice oa la ca, .int .i64 ea] 58)).alloc (.cells #[.bool sb, .slice ob lb cb, .int .i64 eb] 58))))
  obtain ⟨W, hW⟩ : ∃ W, W = ((w.alloc (.cells #[.bool sa, .slice oa la ca, .int .i64 ea] 58)).alloc (.cells #[.bool sb, .slice ob lb cb, .int .i64 eb] 58)) := ⟨_, rfl⟩
  rw [← hW] at HB0 Ba0 Bb0 HAW HBW
  have HW := hide hW
  clear hW
  have ya0 : W.cell? ⟨w.heap.size, 0, none⟩ = some (.bool sa) := Ba0.out.cell 0
  have ya1 : W.cell? ⟨w.heap.size, 1, none⟩ = some (.slice oa la ca) := Ba0.out.cell 1
  have ya2 : W.cell? ⟨w.heap.size, 2, none⟩ = some (.int .i64 ea) := Ba0.out.cell 2
  have yb0 : W.cell? ⟨w.heap.size + 1, 0, none⟩ = some (.bool sb) := Bb0.out.cell 0
  have yb1 : W.cell? ⟨w.heap.size + 1, 1, none⟩ = some (.slice ob lb cb) := Bb0.out.cell 1
  have yb2 : W.cell? ⟨w.heap.size + 1, 2, none⟩ = some (.int .i64 eb) := Bb0.out.cell 2
  clear HZA HZB
  go_enter Tryz.func40, Tryz.ntmps40
  have C0 : Hid (∀ X, Hid (Below W.heap.size W X) → Calls Tryz.prog 64 #[.agg #[.bool sa, .slice oa la ca, .int .i64 ea], .int .i64 M] X fun e w' => (∃ s o l c, e = .returned (.agg #[.bool s, .slice o l c]) ∧ Hid (RI w' s o l c (zv sa (za.natAbs * 10 ^ ka)) 4001 0)) ∧ Hid (Below X.heap.size X w') ∧ Hid (Below W.heap.size W w') ∧ w'.cell? ⟨w.heap.size, 0, none⟩ = some (.bool sa) ∧ w'.cell? ⟨w.heap.size, 1, none⟩ = some (.slice oa la ca) ∧ w'.cell? ⟨w.heap.size, 2, none⟩ = some (.int .i64 ea) ∧ w'.cell? ⟨w.heap.size + 1, 0, none⟩ = some (.bool sb) ∧ w'.cell? ⟨w.heap.size + 1, 1, none⟩ = some (.slice ob lb cb) ∧ w'.cell? ⟨w.heap.size + 1, 2, none⟩ = some (.int .i64 eb)) := by
    intro X bX
    refine (rnat sa oa la ca ea M za ka lo X KA.out KA2.out (HAW.out.below bX.out)).mono ?_
    rintro e w' ⟨⟨s, o, l, c, rfl, hz⟩, hb⟩
    have bb := bX.out.trans (hb.mono bX.out.size)
    have Baq := Ba0.out.below bb Ba0.out.lt
    have Bbq := Bb0.out.below bb Bb0.out.lt
    exact ⟨⟨s, o, l, c, rfl, hz.lo (Nat.zero_le _) (Nat.le_refl _)⟩, hb, bb, Baq.cell 0, Baq.cell 1, Baq.cell 2, Bbq.cell 0, Bbq.cell 1, Bbq.cell 2⟩
  have C1 : Hid (∀ X, Hid (Below W.heap.size W X) → Calls Tryz.prog 64 #[.agg #[.bool sb, .slice ob lb cb, .int .i64 eb], .int .i64 M] X fun e w' => (∃ s o l c, e = .returned (.agg #[.bool s, .slice o l c]) ∧ Hid (RI w' s o l c (zv sb (zb.natAbs * 10 ^ kb)) 4001 0)) ∧ Hid (Below X.heap.size X w') ∧ Hid (Below W.heap.size W w') ∧ w'.cell? ⟨w.heap.size, 0, none⟩ = some (.bool sa) ∧ w'.cell? ⟨w.heap.size, 1, none⟩ = some (.slice oa la ca) ∧ w'.cell? ⟨w.heap.size, 2, none⟩ = some (.int .i64 ea) ∧ w'.cell? ⟨w.heap.size + 1, 0, none⟩ = some (.bool sb) ∧ w'.cell? ⟨w.heap.size + 1, 1, none⟩ = some (.slice ob lb cb) ∧ w'.cell? ⟨w.heap.size + 1, 2, none⟩ = some (.int .i64 eb)) := by
    intro X bX
    refine (rnat sb ob lb cb eb M zb kb lo X KB.out KB2.out (HBW.out.below bX.out)).mono ?_
    rintro e w' ⟨⟨s, o, l, c, rfl, hz⟩, hb⟩
    have bb := bX.out.trans (hb.mono bX.out.size)
    have Baq := Ba0.out.below bb Ba0.out.lt
    have Bbq := Bb0.out.below bb Bb0.out.lt
    exact ⟨⟨s, o, l, c, rfl, hz.lo (Nat.zero_le _) (Nat.le_refl _)⟩, hb, bb, Baq.cell 0, Baq.cell 1, Baq.cell 2, Bbq.cell 0, Bbq.cell 1, Bbq.cell 2⟩
  have C2 : Hid (∀ X s1 o1 l1 c1 s2 o2 l2 c2, Hid (Below W.heap.size W X) → Hid (RI X s1 o1 l1 c1 (zv sa (za.natAbs * 10 ^ ka)) 4001 0) → Hid (RI X s2 o2 l2 c2 (zv sb (zb.natAbs * 10 ^ kb)) 4001 0) → Calls Tryz.prog 63 #[.agg #[.bool s1, .slice o1 l1 c1], .agg #[.bool s2, .slice o2 l2 c2]] X fun e w' => e = .returned (.int .i64 v) ∧ Hid (Below W.heap.size W w') ∧ w'.cell? ⟨w.heap.size, 0, none⟩ = some (.bool sa) ∧ w'.cell? ⟨w.heap.size, 1, none⟩ = some (.slice oa la ca) ∧ w'.cell? ⟨w.heap.size, 2, none⟩ = some (.int .i64 ea) ∧ w'.cell? ⟨w.heap.size + 1, 0, none⟩ = some (.bool sb) ∧ w'.cell? ⟨w.heap.size + 1, 1, none⟩ = some (.slice ob lb cb) ∧ w'.cell? ⟨w.heap.size + 1, 2, none⟩ = some (.int .i64 eb)) := by
    intro X s1 o1 l1 c1 s2 o2 l2 c2 bX h1 h2
    obtain ⟨x, g1, g2, g3, g4, g5, g6⟩ := h1.out
    obtain ⟨y, f1, f2, f3, f4, f5, f6⟩ := h2.out
    refine (rcmpz s1 s2 o1 o2 l1 c1 l2 c2 x y X (by omega) (by omega) g2 g1 f1 g5.1 f5.1 _ _ ⟨g4, g6⟩ ⟨f4, f6⟩ v HV.out).mono ?_
    rintro e w' ⟨rfl, hb⟩
    have bb := bX.out.trans (hb.mono bX.out.size)
    have Baq := Ba0.out.below bb Ba0.out.lt
    have Bbq := Bb0.out.below bb Bb0.out.lt
    exact ⟨rfl, bb, Baq.cell 0, Baq.cell 1, Baq.cell 2, Bbq.cell 0, Bbq.cell 1, Bbq.cell 2⟩
  have b0 : Hid (Below W.heap.size W W.drew) := bdrewD W
  clear HAW HBW KA KB KA2 KB2 HV
  go_wp2_with fail
  simp only [← HW.out, ← HM.out]
  have mk0 : True := trivial
  go_region_held3 (fun w' => w'.cell? ⟨w.heap.size, 0, none⟩ = some (.bool sa) ∧ w'.cell? ⟨w.heap.size, 1, none⟩ = some (.slice oa la ca) ∧ w'.cell? ⟨w.heap.size, 2, none⟩ = some (.int .i64 ea) ∧ w'.cell? ⟨w.heap.size + 1, 0, none⟩ = some (.bool sb) ∧ w'.cell? ⟨w.heap.size + 1, 1, none⟩ = some (.slice ob lb cb) ∧ w'.cell? ⟨w.heap.size + 1, 2, none⟩ = some (.int .i64 eb)) (go_keep) (first
    | (clear mk0; go_at_call 64; refine (C0.out _ b0).mono ?_; rintro e w1 ⟨⟨s1, o1, l1, c1, rfl, Z1⟩, R1, b1, q0_0, q0_1, q0_2, q0_3, q0_4, q0_5⟩; have mk1 : True := trivial)
    | (clear mk1; go_at_call 64; refine (C1.out _ b1).mono ?_; rintro e w2 ⟨⟨s2, o2, l2, c2, rfl, Z2⟩, R2, b2, q1_0, q1_1, q1_2, q1_3, q1_4, q1_5⟩; have Y1 := hide (Z1.out.below R2.out); clear Z1; have mk2 : True := trivial)
    | (clear mk2; go_at_call 63; refine (C2.out _ _ _ _ _ _ _ _ _ b2 Y1 Z2).mono ?_; rintro e w3 ⟨rfl, b3, q2_0, q2_1, q2_2, q2_3, q2_4, q2_5⟩; have mk3 : True := trivial))
  have HBq := hide (HB0.out.trans (b3.out.mono HB0.out.size))
  go_wp2
  go_ret
  exact ⟨rfl, HBq.out⟩

end Go.Proofs.YtifpacgacbpalaaGreatDoor
