/-
  What the reference's Mul, Add and Cmp of whole numbers do.
  What the reference's Small and Pow do of 5.
  What the reference's Small and Pow do of 10.
  What the reference's times does: a number times 10, and a digit more.
  What the reference's Of does: the number of a row of digits.
  What quipuref05's Of and at do: a whole number times a power of 10.
  What the reference's Shl does.
-/
import Derived.Test.YtobloamnaemfnaaGreatDoorUB15
import Derived.Test.YtobloamnaemfnaaGreatDoorUB5
import Derived.Test.YtobloamnaemfnaaGreatDoorUB8
import Derived.Test.YtobloamnaemfnaaGreatDoorUB2
import Derived.Test.YtobloamnaemfnaaGreatDoorUB6
namespace Go.Proofs.YtobloamnaemfnaaGreatDoor
open Go.RowKit

end Go.Proofs.YtobloamnaemfnaaGreatDoor

namespace Go.Proofs.YtobloamnaemfnaaGreatDoor
open Go.RowKit

end Go.Proofs.YtobloamnaemfnaaGreatDoor

namespace Go.Proofs.YtobloamnaemfnaaGreatDoor
open Go.RowKit

end Go.Proofs.YtobloamnaemfnaaGreatDoor

namespace Go.Proofs.YtobloamnaemfnaaGreatDoor
open Go.RowKit

theorem num_snoc (b : Nat) (r : List Nat) (y : Nat) : num b (r ++ [y]) = num b r + y * b ^ r.length := by
  unfold num
  rw [List.length_append, List.length_singleton]
  simp only [V]
  have e : dg (r ++ [y]) r.length = y := by simp [dg]
  rw [e, V_congr (f := dg (r ++ [y])) (g := dg r) r.length (fun i hi => by simp [dg, List.getElem?_append_left hi])]

theorem Ok.snoc {b : Nat} {r : List Nat} {y : Nat} (h : Ok b r) (hy : y < b) : Ok b (r ++ [y]) := by
  intro i
  rcases Nat.lt_trichotomy i r.length with h1 | h1 | h1
  · rw [show dg (r ++ [y]) i = dg r i by simp [dg, List.getElem?_append_left h1]]; exact h i
  · rw [show dg (r ++ [y]) i = y by simp [dg, h1]]; exact hy
  · rw [dg_out (by simp; omega)]; omega

theorem carry_put (x b k : Nat) : x % b * b ^ k + x / b * b ^ (k + 1) = x * b ^ k := by
  have h := Nat.div_add_mod x b
  rw [Nat.pow_succ, Nat.mul_comm (b ^ k) b, ← Nat.mul_assoc, ← Nat.add_mul, Nat.mul_comm (x / b) b, Nat.add_comm, h]

theorem times_step {a c d k N S : Nat} (h : S + c * 65536 ^ k = N * 10 + d) :
    S + (a * 10 + c) % 65536 * 65536 ^ k + (a * 10 + c) / 65536 * 65536 ^ (k + 1) = (N + a * 65536 ^ k) * 10 + d := by
  have h1 := carry_put (a * 10 + c) 65536 k
  generalize 65536 ^ (k + 1) = Q at h1 ⊢
  generalize 65536 ^ k = P at h h1 ⊢
  have h2 : (a * 10 + c) * P = a * P * 10 + c * P := by
    rw [Nat.add_mul, Nat.mul_assoc, Nat.mul_comm 10, ← Nat.mul_assoc]
  omega

def TPost (w : World) (m n : Nat) (e : Ending) (w' : World) : Prop :=
  ∃ ao cap ys, e = .returned (.slice ao (List.length ys) cap) ∧ ys.length ≤ cap ∧ At .u32 w' ao ys ∧ Ok 65536 ys ∧ num 65536 ys = n ∧ ys.length ≤ m ∧ Below w.heap.size w w'

structure TIn (w : World) (xs : List Nat) (d k c : Nat) (v : Value) (wr : World) : Prop where
  small : c ≤ 9
  row : ∃ r, Grows w wr v r ∧ r.length = k ∧ Ok 65536 r ∧ num 65536 r + c * 65536 ^ k = V 65536 (dg xs) k * 10 + d

structure TOut (w : World) (N la c : Nat) (v : Value) (wr : World) : Prop where
  small : c ≤ 9
  row : ∃ r, Grows w wr v r ∧ r.length ≤ la + 1 ∧ (c ≠ 0 → r.length ≤ la) ∧ Ok 65536 r ∧ num 65536 r + c * 65536 ^ r.length = N

theorem TIn.out {w wr : World} {xs : List Nat} {d k c : Nat} {v : Value} (h : TIn w xs d k c v wr) (hk : xs.length = k) : TOut w (num 65536 xs * 10 + d) k c v wr := by
  obtain ⟨h1, r, h2, h3, h4, h5⟩ := h
  refine ⟨h1, r, h2, by omega, fun _ => by omega, h4, ?_⟩
  rw [h3, h5, ← hk]; rfl

set_option maxRecDepth 100000 in
set_option maxHeartbeats 1000000 in
theorem times_any (ao : Option Addr) (la ca d : Nat) (xs : List Nat) (w : World) (hla : la ≤ 1000000) (hd : d ≤ 9) (hx : xs.length = la) (hax : At .u32 w ao xs) (ox : Ok 65536 xs) :
    Calls Tryz.prog 97 #[.slice ao la ca, .int .u32 10, .int .u32 (d : Int)] w (TPost w (la + 1) (num 65536 xs * 10 + d)) := by
  obtain ⟨i0, hi, hz0, hz1, hz2⟩ := info_parts Tryz.infoD
  go_enter Tryz.func97, Tryz.ntmps97
  go_wp2
  go_loopw [7, 8, 9, 10] (fun v cv i _ wr => ∃ k c : Nat, k ≤ la ∧ cv = .int .u64 (c : Int) ∧ i = .int .i64 k ∧ TIn w xs d k c v wr) (fun _ _ i _ _ => la - (intOf i).toNat)
  case atStart => exact ⟨0, d, Nat.zero_le _, rfl, rfl, hd, [], ⟨(Below.refl _ _).alloc (Nat.le_refl _) _, World.ownsRow_lit _ #[] 0 (Nat.le_refl _) (by unfold maxLen; omega) rfl⟩, rfl, (Is.none (by decide)).1, by simp [V, num]⟩
  case round =>
    obtain ⟨k, c, hk, rfl, rfl, hin⟩ := hrel
    have hc9 := hin.small
    by_cases hlt : k < la
    · obtain ⟨r, hgr, hrl, hro, hrn⟩ := hin.row
      have t1 : (k : Int) < (la : Int) := by omega
      obtain ⟨x, hxk⟩ : ∃ x, x = dg xs k := ⟨_, rfl⟩
      have hxl : x < 65536 := by rw [hxk]; exact ox k
      obtain ⟨b1, o1, rfl, hc1⟩ : ∃ b1 o1, ao = some ⟨b1, o1, none⟩ ∧ wr.cell? ⟨b1, o1 + k, none⟩ = some (.int .u32 (x : Int)) := by
        rcases hax.below hgr.1 with h | ⟨b, o, h1, _, h3⟩
        · rw [h] at hx; simp at hx; omega
        · exact ⟨b, o, h1, by rw [hxk]; exact h3 k (by omega)⟩
      have hst := times_step (a := x) hrn
      obtain ⟨y, hy⟩ : ∃ y, y = (x * 10 + c) % 65536 := ⟨_, rfl⟩
      obtain ⟨c', hc'⟩ : ∃ c', c' = (x * 10 + c) / 65536 := ⟨_, rfl⟩
      have hyl : y < 65536 := by rw [hy]; exact Nat.mod_lt _ (by omega)
      have hc9' : c' ≤ 9 := by omega
      rw [← hy, ← hc'] at hst
      have e1 : bits .and .u64 ((x : Int) * 10 + (c : Int)) 65535 % 4294967296 = (y : Int) := by
        rw [show ((x : Int) * 10 + (c : Int)) = ((x * 10 + c : Nat) : Int) by omega, and16 _ (Nat.lt_trans (show x * 10 + c < 1000000 by omega) (by decide)), hy]
      have e2 : ((x : Int) * 10 + (c : Int)) / 65536 = (c' : Int) := by omega
      have hown := hgr.2
      rw [hrl] at hown
      have hsz := hgr.1.size
      have HIN : Hid (∀ v' w1, Grows w w1 v' (r ++ [y]) → TIn w xs d (k + 1) c' v' w1) := by
        intro v' w1 hg
        refine ⟨hc9', _, hg, by simp [hrl], hro.snoc hyl, ?_⟩
        rw [num_snoc, hrl, hst, hxk]; rfl
      have HG : Hid (Grows w wr u7 r) := hgr
      have HRL : Hid (r.length = k) := hrl
      clear hgr hax hst hin hro hrn hy hc' hxk hrl
      go_wp2_with (at_builtin; refine wpList_append_own _ rfl _ _ 79 rfl w.heap.size 110 i0 (.int .u32 0) 1 4 Tryz.underlying79 hi hz0 hz1 hz2 rfl (by decide) _ _ _ rfl (hown.alloc _) ⟨wr.heap.size, 0, none⟩ 1 1 [.int .u32 (y : Int)] rfl rfl ?c1A ?c2A ?c3A ?c4A ?c5A ?_)
      try case c1A => exact new_cell wr _ _
      case c2A => first | exact one_one _ _ | rfl
      case c3A => unfold maxLen; omega
      case c4A => omega
      case c5A => first | (simp; omega) | omega
      intro v' w1 hown' hgrow _
      have hg' := HG.out.step _ (by rw [HRL.out]; exact hown') hgrow
      have HI := hide (HIN.out _ _ hg')
      clear hown hown' hgrow hg' HG HIN e1 HRL
      go_wp2
      go_roundw
      case rel => exact ⟨k + 1, c', by omega, rfl, by go_num, HI.out⟩
      case measure => simp [intOf]; omega
    · obtain rfl : k = la := by omega
      have t1 : ¬ (k : Int) < (k : Int) := by omega
      have HO := hide (hin.out hx)
      obtain ⟨N, hN⟩ : ∃ N, N = num 65536 xs * 10 + d := ⟨_, rfl⟩
      have HN := hide hN
      rw [← hN] at HO
      clear hin hN hax ox
      go_wp2
      go_loopw [7, 8] (fun v cv wr => ∃ c : Nat, cv = .int .u64 (c : Int) ∧ TOut w N k c v wr) (fun _ cv _ => (intOf cv).toNat)
      case atStart => exact ⟨c, rfl, HO.out⟩
      case round =>
        clear HO hc9
        obtain ⟨c, rfl, hout⟩ := hrel
        obtain ⟨r, hgr, hrl, hrc, hro, hrn⟩ := hout.row
        have hc9 := hout.small
        by_cases h0 : c = 0
        · subst h0
          obtain ⟨ao', cp, rfl, hcp, hat⟩ := hgr.at
          have hbel := hgr.1
          have HR : Hid (Ok 65536 r ∧ num 65536 r = N ∧ r.length ≤ k + 1) := ⟨hro, by rw [Nat.zero_mul] at hrn; exact hrn, hrl⟩
          clear hgr hout hro hrn hrc hrl
          go_wp2
          go_ret
          exact ⟨ao', cp, r, rfl, hcp, hat, HR.out.1, HR.out.2.1.trans HN.out, HR.out.2.2, hbel⟩
        · have hpos : (0 : Int) < (c : Int) := by omega
          have hrk := hrc h0
          have hown := hgr.2
          obtain ⟨l, hl⟩ : ∃ l, l = r.length := ⟨_, rfl⟩
          rw [← hl] at hown hrk hrn
          have e1 : bits .and .u64 (c : Int) 65535 % 4294967296 = (c : Int) := by
            rw [and16 _ (Nat.lt_trans (show c < 1000000 by omega) (by decide))]; omega
          have e2 : (c : Int) / 65536 = 0 := by omega
          have hsz := hgr.1.size
          have HIN : Hid (∀ v' w1, Grows w w1 v' (r ++ [c]) → TOut w N k 0 v' w1) := by
            intro v' w1 hg
            refine ⟨by omega, _, hg, by simp; omega, fun h => absurd rfl h, hro.snoc (by omega), ?_⟩
            rw [num_snoc, Nat.zero_mul, ← hl]; exact hrn
          have HG : Hid (Grows w wr u7 r) := hgr
          have HRL : Hid (r.length = l) := hl.symm
          clear hgr hout hro hrn hrc hrl hl
          go_wp2_with (at_builtin; refine wpList_append_own _ rfl _ _ 79 rfl w.heap.size 110 i0 (.int .u32 0) 1 4 Tryz.underlying79 hi hz0 hz1 hz2 rfl (by decide) _ _ _ rfl (hown.alloc _) ⟨wr.heap.size, 0, none⟩ 1 1 [.int .u32 (c : Int)] rfl rfl ?c1B ?c2B ?c3B ?c4B ?c5B ?_)
          try case c1B => exact new_cell wr _ _
          case c2B => first | exact one_one _ _ | rfl
          case c3B => unfold maxLen; omega
          case c4B => omega
          case c5B => first | (simp; omega) | omega
          intro v' w1 hown' hgrow _
          have hg' := HG.out.step _ (by rw [HRL.out]; exact hown') hgrow
          have HI := hide (HIN.out _ _ hg')
          clear hown hown' hgrow hg' HG HIN e1 HRL
          go_wp2
          go_roundw
          case rel => exact ⟨0, rfl, HI.out⟩
          case measure => simp [intOf]; omega

end Go.Proofs.YtobloamnaemfnaaGreatDoor

namespace Go.Proofs.YtobloamnaemfnaaGreatDoor
open Go.RowKit

set_option maxRecDepth 100000 in
set_option maxHeartbeats 1000000 in
theorem rof_any (s : ByteArray) (w : World) (hn : s.size ≤ 100000) (hd : DigB (bys s)) :
    Calls Tryz.prog 47 #[.string s] w (RPost w (s.size + 1) (decV (bys s))) := by
  obtain ⟨n, hnn⟩ : ∃ n, n = s.size := ⟨_, rfl⟩
  have HD : Hid (DigB (bys s)) := hd
  have HL : Hid ((bys s).length = n) := by rw [hnn]; exact bys_len s
  clear hd
  go_enter Tryz.func47, Tryz.ntmps47
  go_wp2
  go_loopw [3, 4] (fun v i wr => ∃ (k : Nat) (o : Option Addr) (c : Nat) (r : List Nat), k ≤ n ∧ i = .int .i64 (k : Int) ∧ v = .slice o r.length c ∧ r.length ≤ c ∧ r.length ≤ k ∧ At .u32 wr o r ∧ Ok 65536 r ∧ num 65536 r = decV ((bys s).take k) ∧ Below w.heap.size w wr) (fun _ i _ => n - (intOf i).toNat)
  case atStart => exact ⟨0, _, _, [], Nat.zero_le _, rfl, rfl, Nat.le_refl _, Nat.le_refl _, At.nil _ _ _, (Is.none (by decide)).1, by simp [decV, num, V], (Below.refl _ _).alloc (Nat.le_refl _) _⟩
  case round =>
    obtain ⟨k, o, c, r, hk, rfl, rfl, hrc, hrk, hat, hro, hrn, hb⟩ := hrel
    by_cases hlt : k < n
    · have hlt' : (k : Int) < (s.size : Int) := by omega
      have hks : k < s.size := by omega
      have hbb := HD.out k (by rw [HL.out]; exact hlt)
      have hg : ∀ h : k < s.size, s[k].toNat = byt (bys s) k := fun h => byt_get s k h
      have hs := decV_succ (bys s) (k := k) (by rw [HL.out]; exact hlt)
      obtain ⟨b, hbe⟩ : ∃ b, b = byt (bys s) k := ⟨_, rfl⟩
      rw [← hbe] at hbb hg hs
      obtain ⟨d, hd⟩ : ∃ d, d = b - 48 := ⟨_, rfl⟩
      rw [← hd, ← hrn] at hs
      have e1 : (b : Int) - 48 = (d : Int) := by omega
      have hd9 : d ≤ 9 := by omega
      have HS := hide hs
      clear hs hrn hbe hd
      go_wp2_with fail
      refine (times_any o r.length c d r _ (by omega) hd9 rfl hat hro).mono ?_
      rintro e w1 ⟨o1, c1, r1, rfl, hl1, hat1, hok1, hn1, hm1, hb1⟩
      rw [← HS.out] at hn1
      have hbw := hb.trans (hb1.mono hb.size)
      have HAT := hide hat1
      have HN1 := hide hn1
      have HBW := hide hbw
      have HOK := hide hok1
      clear hat hro hb hb1 hat1 hn1 hbw hok1 hg
      go_wp2
      go_roundw
      case rel => exact ⟨k + 1, o1, c1, r1, by omega, by go_num, rfl, hl1, by omega, HAT.out, HOK.out, HN1.out, HBW.out⟩
      case measure => simp [intOf]; omega
    · obtain rfl : k = n := by omega
      have hlt' : ¬ (k : Int) < (s.size : Int) := by omega
      have e : (bys s).take k = bys s := List.take_of_length_le (by rw [HL.out]; omega)
      rw [e] at hrn
      have HRN := hide hrn
      have ha := hat.alloc (Obj.cells #[] 110)
      have hb2 := hb.alloc hb.size (Obj.cells #[] 110)
      clear hat hrn e hb
      go_wp2_with fail
      refine (radd_any o _ r.length c 0 0 r [] _ (by omega) (by omega) rfl rfl ha (At.nil _ _ _) hro (Is.none (by decide)).1).mono ?_
      rintro e w1 ⟨o1, c1, r1, rfl, hl1, hat1, his1, hm1, hb1⟩
      rw [HRN.out, show num 65536 [] = 0 from rfl, Nat.add_zero] at his1
      have hbw := hb2.trans (hb1.mono hb2.size)
      clear ha hb2 hb1
      go_wp2
      go_ret
      exact ⟨o1, c1, r1, rfl, hl1, hat1, his1, by omega, hbw⟩

end Go.Proofs.YtobloamnaemfnaaGreatDoor

namespace Go.Proofs.YtobloamnaemfnaaGreatDoor
open Go.RowKit

def Rl (W : World) (o : Option Addr) (l c n m : Nat) : Prop := ∃ r : List Nat, r.length = l ∧ l ≤ c ∧ l ≤ m ∧ At .u32 W o r ∧ Is 65536 r n
def RI (W : World) (s : Bool) (o : Option Addr) (l c : Nat) (z : Int) (m lo : Nat) : Prop := ∃ r : List Nat, r.length = l ∧ l ≤ c ∧ l ≤ m ∧ s = decide (z < 0) ∧ Res .u32 W o r lo W.heap.size ∧ Is 65536 r z.natAbs

theorem RI.below {W W' : World} {s : Bool} {o : Option Addr} {l c m lo : Nat} {z : Int} (h : RI W s o l c z m lo) (hb : Below W.heap.size W W') : RI W' s o l c z m lo := by
  obtain ⟨r, h1, h2, h3, h4, h5, h6⟩ := h
  exact ⟨r, h1, h2, h3, h4, (h5.below hb).mono (Nat.le_refl _) hb.size, h6⟩
theorem RI.lo {W : World} {s : Bool} {o : Option Addr} {l c m lo lo' m' : Nat} {z : Int} (h : RI W s o l c z m lo) (hl : lo' ≤ lo) (hm : m ≤ m') : RI W s o l c z m' lo' := by
  obtain ⟨r, h1, h2, h3, h4, h5, h6⟩ := h
  exact ⟨r, h1, h2, by omega, h4, h5.mono hl (Nat.le_refl _), h6⟩
theorem Rl.below {W W' : World} {o : Option Addr} {l c n m : Nat} (h : Rl W o l c n m) (hb : Below W.heap.size W W') : Rl W' o l c n m := by
  obtain ⟨r, h1, h2, h3, h4, h5⟩ := h
  exact ⟨r, h1, h2, h3, h4.below hb, h5⟩
theorem RI.abs {W : World} {s : Bool} {o : Option Addr} {l c m lo : Nat} {z : Int} (h : RI W s o l c z m lo) : Rl W o l c z.natAbs m := by
  obtain ⟨r, h1, h2, h3, h4, h5, h6⟩ := h
  exact ⟨r, h1, h2, h3, h5.1, h6⟩

theorem rmakeI (neg : Bool) (o : Option Addr) (l c n m : Nat) (w : World) (hm : m ≤ 100000) (h : Rl w o l c n m) :
    Calls Tryz.prog 46 #[.bool neg, .slice o l c] w fun e w' => (∃ s o l c, e = .returned (.agg #[.bool s, .slice o l c]) ∧ RI w' s o l c (zv neg n) (m + 1) w.heap.size) ∧ Below w.heap.size w w' := by
  obtain ⟨r, h1, h2, h3, h4, h5⟩ := h
  have g := rmake neg o l c r w (by omega) h1 h4 h5.1
  rw [h5.2.2] at g
  refine g.mono ?_
  rintro e w' ⟨s, o', c', r', hs, rfl, hle, hres, his, hlen, hb⟩
  exact ⟨⟨s, o', r'.length, c', rfl, r', rfl, hle, by omega, hs.out, hres.mono (Nat.le_refl _) (Nat.le_refl _), his⟩, hb⟩

end Go.Proofs.YtobloamnaemfnaaGreatDoor

namespace Go.Proofs.YtobloamnaemfnaaGreatDoor
open Go.RowKit

end Go.Proofs.YtobloamnaemfnaaGreatDoor
