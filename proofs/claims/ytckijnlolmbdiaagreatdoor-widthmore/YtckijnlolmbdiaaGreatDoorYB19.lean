/-
  Plain mathematics: what a precision has rounded to it rounds to itself.
  Plain mathematics: how many digits are shown.
  Plain mathematics: with more fraction digits at most never fewer of them are shown.
  What quipulaw07's rounded answers.
  WidthTrue answers true, whatever it is handed.
  WidthMore answers true, whatever it is handed.
  What the rows' list of package variables gives, and a world that holds them.
-/
import Derived.Test.YtckijnlolmbdiaaGreatDoorYB7
import Derived.Test.YtckijnlolmbdiaaGreatDoorYB18
import Derived.Test.YtckijnlolmbdiaaGreatDoorYB13
import Derived.Test.YtckijnlolmbdiaaGreatDoorYB11
import Derived.Test.YtckijnlolmbdiaaGreatDoorYB12
import Derived.Test.YtckijnlolmbdiaaGreatDoorRows
import Derived.Test.YtckijnlolmbdiaaGreatDoorYB4
import Derived.Lib.LaidTab
import Derived.Deep.DeepHandedRow
namespace Go.Proofs.YtckijnlolmbdiaaGreatDoor

theorem unitX_in {p : PrecT} (hp : MayP p) (k : p.kind ≠ 0) {pl : Int} (h1 : -2000 ≤ pl) (h2 : pl ≤ 2000) : -9000 ≤ unitX p pl := by
  unfold unitX
  rcases mayP_kind hp with g | g | g | g | g
  · exact absurd g k
  · obtain ⟨⟨⟨a1, a2⟩, a3⟩, _⟩ := mayP_1 hp g
    rw [if_pos g]; omega
  · obtain ⟨_, ⟨⟨a1, a2⟩, a3⟩, _⟩ := mayP_2 hp g
    rw [if_neg (by omega), if_pos g]; omega
  · have := bothAt_in (mayP_3 hp g) h1 h2
    rw [if_neg (by omega), if_neg (by omega), if_pos g]; omega
  · obtain ⟨_, _, _, _, hm, _⟩ := mayP_4 hp g
    have := may_pl hm
    rw [if_neg (by omega), if_neg (by omega), if_neg (by omega)]; omega

end Go.Proofs.YtckijnlolmbdiaaGreatDoor

namespace Go.Proofs.YtckijnlolmbdiaaGreatDoor

theorem round_sign {p : PrecT} {c : Int} {n : Bool} {l : List UInt8} {e : Int} {r : DecT} (hp : MayP p) (h : MayD c n l e) (hr : roundP p c n l e = (r, 0)) : (r.cls : Int) = c ∧ r.neg = n ∧ (l = [] → r.dig = [] ∧ r.exp = e) := by
  have hc := may_cls h
  by_cases k : p.kind = 0
  · rw [roundP_0 k] at hr
    obtain rfl := (Prod.mk.inj hr).1
    exact ⟨hc.symm, rfl, fun g => ⟨g, rfl⟩⟩
  · rw [roundP_rnd hp h k] at hr
    by_cases hz : l = []
    · rw [rndD_zero (show (DecT.mk c.toNat n l e).dig = [] from hz)] at hr
      obtain rfl := (Prod.mk.inj hr).1
      exact ⟨hc.symm, rfl, fun g => ⟨g, rfl⟩⟩
    · have hd : Fin ⟨c.toNat, n, l, e⟩ := may_fin (may_of h) hz
      obtain ⟨_, _, b3, b4, _⟩ := may_pl h
      have hv := rndD_val (may_of h) hd.cls (unitN p) p.mode.toNat (unitX_in hp k b3 b4) (by rw [hr])
      rw [hr] at hv
      have h0 := hd.cls
      simp only at h0 hv
      exact ⟨by rw [hv.2.1, hc, h0], hv.2.2, fun g => absurd g hz⟩

theorem finD_exp (neg : Bool) (N : Nat) (x : Int) : (finD neg N x).dig = [] ∨ x ≤ (finD neg N x).exp := by
  unfold finD
  by_cases h : N = 0
  · rw [if_pos h]; exact .inl rfl
  · rw [if_neg h]
    obtain ⟨M, k, _, _, e⟩ := decA_form neg x h
    rw [e]
    exact .inr (by simp only; omega)

theorem may_dig0 {r : DecT} (h : May r) (hz : r.dig = []) : r.exp = 0 := by
  rcases may_cases h with ⟨m, g⟩ | g | ⟨m, g⟩ | g
  · rw [g]
  · exact absurd hz g.ne
  · rw [g]
  · rw [g]

theorem behind_last {r : DecT} (h : May r) (hb : behindD r.dig r.exp ≠ []) : byt (behindD r.dig r.exp) ((behindD r.dig r.exp).length - 1) ≠ 48 := by
  have hz : r.dig ≠ [] := by
    intro g
    have e0 := may_dig0 h g
    apply hb
    unfold behindD
    rw [g, e0]
    rfl
  have hf := may_fin h hz
  obtain ⟨a, x, ha⟩ : ∃ a x, r.dig = a ++ [x] := ⟨r.dig.dropLast, r.dig.getLast hz, (List.dropLast_concat_getLast hz).symm⟩
  have hl := hf.last
  rw [ha, show (a ++ [x]).length - 1 = a.length by simp, byt_last] at hl
  obtain ⟨b, hb2⟩ : ∃ b, behindD r.dig r.exp = b ++ [x] := by
    unfold behindD at hb ⊢
    by_cases h1 : (r.dig.length : Int) + r.exp ≤ 0
    · rw [if_pos h1]
      exact ⟨nought (-((r.dig.length : Int) + r.exp)) ++ a, by rw [ha, List.append_assoc]⟩
    · rw [if_neg h1] at hb ⊢
      by_cases h2 : 0 ≤ r.exp
      · rw [if_pos h2] at hb; exact absurd rfl hb
      · rw [if_neg h2] at hb ⊢
        have hlen : r.dig.length = a.length + 1 := by rw [ha]; simp
        refine ⟨a.drop ((r.dig.length : Int) + r.exp).toNat, ?_⟩
        generalize hk : ((r.dig.length : Int) + r.exp).toNat = k
        have : k ≤ a.length := by omega
        rw [ha, List.drop_append_of_le_length this]
  rw [hb2, show (b ++ [x]).length - 1 = b.length by simp, byt_last]
  exact hl

structure Counts (p : PrecT) (r : DecT) (I F : List UInt8) : Prop where
  least : p.imin ≤ I.length
  some : ¬ (I = [] ∧ F = [])
  most : p.imax = 0 ∨ 0 < p.imax ∧ (I.length : Int) ≤ p.imax
  frac : F = fracP p (behindD r.dig r.exp) (leastP p r)
  ahead : p.imax = 0 → (r.dig.length : Int) + r.exp ≤ max 1 (I.length : Int)
  il : I.length ≤ 4096
  fl : F.length ≤ 4096

theorem counts {p : PrecT} {r : DecT} (hp : MayP p) (hr : May r) {I F : List UInt8} (hd : digitsP p r (leastP p r) = (I, F)) : Counts p r I F := by
  obtain ⟨i1, i2, i3, i4⟩ := mayP_imax hp
  have im := hp.2.1.2
  obtain ⟨n1, n2⟩ := leastP_in hp hr
  obtain ⟨l1, l2, _, l4⟩ := ab_len (show MayD (r.cls : Int) r.neg r.dig r.exp from hr)
  have fl := fill_len p (aheadD r.dig r.exp)
  have fr := frac_len p (behindD r.dig r.exp) (leastP p r)
  have hw : ((wholeP p (aheadD r.dig r.exp)).length : Int) = (fillI p (aheadD r.dig r.exp)).length ∧ (p.imax = 0 ∨ ((fillI p (aheadD r.dig r.exp)).length : Int) ≤ p.imax) ∨ ((wholeP p (aheadD r.dig r.exp)).length : Int) = p.imax ∧ 0 < p.imax := by
    unfold wholeP
    by_cases g : 0 < p.imax ∧ p.imax < ((fillI p (aheadD r.dig r.exp)).length : Int)
    · rw [if_pos g, List.length_drop]; right; omega
    · rw [if_neg g]; left; omega
  rcases digits_form p r (leastP p r) with ⟨h1, h2, h3⟩ | ⟨h1, h2⟩
  · rw [h3] at hd
    obtain ⟨rfl, rfl⟩ := Prod.mk.inj hd
    rw [h1] at hw
    simp only [List.length_nil] at hw
    refine ⟨?_, by simp, ?_, h2.symm, fun g => ?_, by simp, by simp⟩ <;> simp only [List.length_cons, List.length_nil] <;> omega
  · rw [h2] at hd
    obtain ⟨rfl, rfl⟩ := Prod.mk.inj hd
    refine ⟨by omega, fun g => h1.elim (fun q => q g.1) (fun q => q g.2), by omega, rfl, fun g => by omega, by omega, ?_⟩
    rcases fr with ⟨g, _⟩ | ⟨g, _⟩ <;> omega

end Go.Proofs.YtckijnlolmbdiaaGreatDoor

namespace Go.Proofs.YtckijnlolmbdiaaGreatDoor

theorem leaves_low : ∀ (m : _root_.Fin 8) (neg o o' : Bool) (c : _root_.Fin 3), leavesB m.val neg o ((c.val : Int) - 1) = false → leavesB m.val neg o' (-1) = false := by decide +kernel
theorem leaves_up : ∀ (m : _root_.Fin 8) (neg o o' : Bool) (c : _root_.Fin 3), leavesB m.val neg o ((c.val : Int) - 1) = true → leavesB m.val neg o' 1 = true := by decide +kernel

theorem cmpx_lt {a b : Nat} (h : a < b) : cmpN a b = -1 := by unfold cmpN; rw [if_pos h]
theorem cmpx_gt {a b : Nat} (h : b < a) : cmpN a b = 1 := by unfold cmpN; rw [if_neg (by omega), if_pos h]
theorem cmpx_eq (a : Nat) : cmpN a a = 0 := by unfold cmpN; rw [if_neg (by omega), if_neg (by omega)]
theorem cmpx_three (a b : Nat) : ∃ c : _root_.Fin 3, cmpN a b = (c.val : Int) - 1 := by
  rcases Nat.lt_trichotomy a b with h | h | h
  · exact ⟨0, by rw [cmpx_lt h]; rfl⟩
  · exact ⟨1, by rw [h, cmpx_eq]; rfl⟩
  · exact ⟨2, by rw [cmpx_gt h]; rfl⟩

theorem rnd_coarse {A u G K : Nat} {neg : Bool} {m : Nat} (hm : m < 8) (hu : 0 < u) (hG : 2 ≤ G) (h : rndN A u neg m = K * G) : rndN A (G * u) neg m = K := by
  have hdm := Nat.div_add_mod A u
  have hb := Nat.mod_lt A hu
  generalize hB : A % u = b at *
  unfold rndN at h
  rw [hB] at h
  generalize hQ : A / u = a at *
  have hgu : 2 * u ≤ G * u := Nat.mul_le_mul_right _ hG
  obtain ⟨c, hc⟩ := cmpx_three (b + b) u
  have key : ∀ d r : Nat, A = d * (G * u) + r → r < G * u → A / (G * u) = d ∧ A % (G * u) = r := by
    intro d r e hr
    have hp : 0 < G * u := by omega
    rw [e]
    exact ⟨by rw [Nat.mul_comm d, Nat.mul_add_div hp, Nat.div_eq_of_lt hr, Nat.add_zero], by rw [Nat.mul_comm d, Nat.mul_add_mod, Nat.mod_eq_of_lt hr]⟩
  by_cases hb0 : b = 0
  · rw [if_pos hb0, Nat.add_zero] at h
    obtain ⟨k1, k2⟩ := key K 0 (by rw [← hdm, hb0, h, Nat.add_zero, Nat.add_zero, Nat.mul_comm, Nat.mul_assoc]) (by omega)
    unfold rndN
    rw [k1, k2, if_pos rfl]; rfl
  · rw [if_neg hb0] at h
    cases hl : leavesB m neg (decide (a % 2 = 1)) (cmpN (b + b) u)
    · rw [hl] at h
      simp only [Bool.false_eq_true, if_false, Nat.add_zero] at h
      obtain ⟨k1, k2⟩ := key K b (by rw [← hdm, h, Nat.mul_comm, Nat.mul_assoc]) (by omega)
      rw [hc] at hl
      unfold rndN
      rw [k1, k2, if_neg hb0, cmpx_lt (show b + b < G * u by omega), leaves_low ⟨m, hm⟩ neg _ (decide (K % 2 = 1)) c hl]
      simp
    · rw [hl] at h
      simp only [if_true] at h
      have hK : K ≠ 0 := by
        intro e; rw [e, Nat.zero_mul] at h; omega
      obtain ⟨K', rfl⟩ : ∃ k, K = k + 1 := ⟨K - 1, by omega⟩
      have e1 : A = K' * (G * u) + (G * u - (u - b)) := by
        have e2 : u * a + u = (K' + 1) * (G * u) := by rw [← Nat.mul_succ, Nat.succ_eq_add_one, h, Nat.mul_comm, Nat.mul_assoc]
        rw [Nat.add_mul, Nat.one_mul] at e2
        omega
      obtain ⟨k1, k2⟩ := key K' _ e1 (by omega)
      rw [hc] at hl
      unfold rndN
      rw [k1, k2, if_neg (by omega), cmpx_gt (show G * u < G * u - (u - b) + (G * u - (u - b)) by omega), leaves_up ⟨m, hm⟩ neg _ (decide (K' % 2 = 1)) c hl]
      simp

theorem rnd_place {d : DecT} (hd : Fin d) {x : Int} (hx : -9000 ≤ x) (m : Nat) : rndD d 1 x m = tellF d.neg (rndN (amt d.dig d.exp) (unitA 1 x) d.neg m) x := by
  rw [rndD_fin hd.ne, Nat.mul_one, rndN_amt (decV d.dig) 1 (by have := hd.lo; have := hd.len; omega) hx d.neg m]
  rfl

theorem finD_mult {neg : Bool} {K : Nat} {x y : Int} (h : y ≤ (finD neg K x).exp ∨ (finD neg K x).dig = []) : ∃ k, K = k * 10 ^ (y - x).toNat := by
  unfold finD at h
  by_cases hz : K = 0
  · exact ⟨0, by rw [hz, Nat.zero_mul]⟩
  · rw [if_neg hz] at h
    obtain ⟨M, k, e1, e2, e3⟩ := decA_form neg x hz
    rw [e3] at h
    have hk : y ≤ x + k := by
      rcases h with g | g
      · exact g
      · exact absurd g (dd_ne M)
    refine ⟨M * 10 ^ (k - (y - x).toNat), ?_⟩
    rw [e1, Nat.mul_assoc, ← Nat.pow_add]
    congr 2
    omega

theorem more_digits {d r s : DecT} (hd : Fin d) {x : Int} (hx : -9000 ≤ x) {g : Nat} (hg : -9000 ≤ x - g) {m : Nat} (hm : m < 8) (hr : rndD d 1 x m = (r, 0)) (hs : rndD d 1 (x - g) m = (s, 0)) (hx0 : x ≤ 0) : max 0 (-r.exp) ≤ max 0 (-s.exp) ∨ r.dig = [] := by
  rcases Nat.eq_zero_or_pos g with e0 | e0
  · subst e0
    rw [show x - ((0 : Nat) : Int) = x by omega, hr] at hs
    obtain rfl := (Prod.mk.inj hs).1
    exact .inl (Int.le_refl _)
  · rw [rnd_place hd hx] at hr
    rw [rnd_place hd hg] at hs
    generalize hK : rndN (amt d.dig d.exp) (unitA 1 x) d.neg m = K at hr
    generalize hL : rndN (amt d.dig d.exp) (unitA 1 (x - g)) d.neg m = L at hs
    have fr : finD d.neg K x = r := by
      by_cases hq : May (finD d.neg K x)
      · rw [tellF_yes hq] at hr; exact (Prod.mk.inj hr).1
      · rw [tellF_no hq] at hr; cases (Prod.mk.inj hr).2
    have fs : finD d.neg L (x - g) = s := by
      by_cases hq : May (finD d.neg L (x - g))
      · rw [tellF_yes hq] at hs; exact (Prod.mk.inj hs).1
      · rw [tellF_no hq] at hs; cases (Prod.mk.inj hs).2
    by_cases hc : x ≤ s.exp ∨ s.dig = []
    · rw [← fs] at hc
      obtain ⟨k, hk⟩ := finD_mult hc
      rw [show (x - (x - g)).toNat = g by omega] at hk
      have hU : unitA 1 x = 10 ^ g * unitA 1 (x - g) := by
        unfold unitA
        rw [Nat.one_mul, Nat.one_mul, ← Nat.pow_add]; congr 1; omega
      have hG : 2 ≤ 10 ^ g := by
        have := Nat.pow_le_pow_right (show 0 < 10 by omega) e0
        omega
      have hKk := rnd_coarse hm (unitA_pos (by decide) _) hG (hL.trans hk)
      rw [← hU, hK] at hKk
      rw [hk, finD_tens, ← hKk, show x - (g : Int) + (g : Nat) = x by omega, fr] at fs
      rw [fs]
      exact .inl (Int.le_refl _)
    · have hr2 := finD_exp d.neg K x
      rw [fr] at hr2
      rcases hr2 with q | q
      · exact .inr q
      · left
        have : ¬ x ≤ s.exp := fun g => hc (.inl g)
        omega

end Go.Proofs.YtckijnlolmbdiaaGreatDoor

namespace Go.Proofs.YtckijnlolmbdiaaGreatDoor
open Go.RowKit

end Go.Proofs.YtckijnlolmbdiaaGreatDoor

namespace Go.Proofs.YtckijnlolmbdiaaGreatDoor
open Go.RowKit

theorem roundP_err {p : PrecT} {c : Int} {n : Bool} {l : List UInt8} {e : Int} (hp : MayP p) (h : MayD c n l e) : (roundP p c n l e).2 = 0 ∨ (roundP p c n l e).2 = 51 := by
  by_cases k : p.kind = 0
  · rw [roundP_0 k]; exact .inl rfl
  · rw [roundP_rnd hp h k]
    unfold rndD
    split
    · exact .inl rfl
    · unfold tellF
      split
      · exact .inl rfl
      · exact .inr rfl

end Go.Proofs.YtckijnlolmbdiaaGreatDoor

namespace Go.Proofs.YtckijnlolmbdiaaGreatDoor
open Go.RowKit

theorem first_ne (F : List UInt8) : ∀ i : Nat, byt F i ≠ 48 → ∃ j, j ≤ i ∧ byt F j ≠ 48 ∧ ∀ q, q < j → byt F q = 48 := by
  intro i
  induction i using Nat.strongRecOn with
  | _ i ih =>
    intro hi
    by_cases h : ∃ q, q < i ∧ byt F q ≠ 48
    · obtain ⟨q, h1, h2⟩ := h
      obtain ⟨j, j1, j2, j3⟩ := ih q h1 h2
      exact ⟨j, by omega, j2, j3⟩
    · refine ⟨i, Nat.le_refl _, hi, fun q hq => ?_⟩
      rcases Nat.decEq (byt F q) 48 with g | g
      · exact absurd ⟨q, hq, g⟩ h
      · exact g

theorem byt_rep {n : Int} {q : Nat} (h : q < (nought n).length) : byt (nought n) q = 48 := by
  rw [nought_len] at h
  unfold byt nought
  rw [List.getElem?_replicate, if_pos h]; rfl

theorem byt_left {a b : List UInt8} {q : Nat} (h : q < a.length) : byt (a ++ b) q = byt a q := by
  unfold byt; rw [List.getElem?_append_left h]

theorem round_zero {p : PrecT} {c : Int} {n : Bool} {l : List UInt8} {e : Int} {r : DecT} (hp : MayP p) (h : MayD c n l e) (hz : l = []) (hr : roundP p c n l e = (r, 0)) : r = ⟨c.toNat, n, l, e⟩ := by
  by_cases k : p.kind = 0
  · rw [roundP_0 k] at hr; exact (Prod.mk.inj hr).1.symm
  · rw [roundP_rnd hp h k, rndD_zero (show (DecT.mk c.toNat n l e).dig = [] from hz)] at hr
    exact (Prod.mk.inj hr).1.symm

theorem more_frac (mf xf ms xs : Int) (st : Bool) (cs : Int) (ns : Bool) (ts : ByteArray) (es md im ix n : Int) (na : Bool) (l : List UInt8) (e : Int) (r s : DecT) (h : MayD 0 na l e) (hp : MayP ⟨1, mf, xf, ms, xs, st, cs, ns, bys ts, es, md, false, im, ix⟩) (hq : MayP ⟨1, mf, xf + n, ms, xs, st, cs, ns, bys ts, es, md, false, im, ix⟩) (n1 : 0 ≤ n) (hr : roundP ⟨1, mf, xf, ms, xs, st, cs, ns, bys ts, es, md, false, im, ix⟩ 0 na l e = (r, 0)) (hs : roundP ⟨1, mf, xf + n, ms, xs, st, cs, ns, bys ts, es, md, false, im, ix⟩ 0 na l e = (s, 0)) : max 0 (-r.exp) ≤ max 0 (-s.exp) := by
  by_cases hz : l = []
  · rw [round_zero hp h hz hr, round_zero hq h hz hs]
    exact Int.le_refl _
  · have hd : Fin ⟨(0 : Int).toNat, na, l, e⟩ := may_fin (may_of h) hz
    obtain ⟨⟨⟨a1, a2⟩, a3⟩, _⟩ := mayP_1 hq rfl
    obtain ⟨⟨⟨b1, b2⟩, b3⟩, _⟩ := mayP_1 hp rfl
    have hmo := hp.1
    have hmr : May r := by have := roundP_may hp h; rw [hr] at this; exact this
    simp only at a1 a2 a3 b1 b2 b3 hmo
    rw [roundP_rnd hp h (show (1 : Int) ≠ 0 by decide)] at hr
    rw [roundP_rnd hq h (show (1 : Int) ≠ 0 by decide)] at hs
    have u1 : unitN ⟨1, mf, xf, ms, xs, st, cs, ns, bys ts, es, md, false, im, ix⟩ = 1 := rfl
    have u2 : unitX ⟨1, mf, xf, ms, xs, st, cs, ns, bys ts, es, md, false, im, ix⟩ ((l.length : Int) + e) = -xf := rfl
    have u3 : unitN ⟨1, mf, xf + n, ms, xs, st, cs, ns, bys ts, es, md, false, im, ix⟩ = 1 := rfl
    have u4 : unitX ⟨1, mf, xf + n, ms, xs, st, cs, ns, bys ts, es, md, false, im, ix⟩ ((l.length : Int) + e) = -(xf + n) := rfl
    rw [u1, u2] at hr
    rw [u3, u4, show -(xf + n) = -xf - ((n.toNat : Nat) : Int) by omega] at hs
    rcases more_digits hd (by omega) (by omega) (show md.toNat < 8 by omega) hr hs (by omega) with g | g
    · exact g
    · rw [may_dig0 hmr g]; omega

theorem wmore_main (w : World) (htab : Tab w) (na : Bool) (ta : ByteArray) (ea mf xf ms xs : Int) (st : Bool) (cs : Int) (ns : Bool) (ts : ByteArray) (es md : Int) (hd : Bool) (im ix n : Int) (h : MayD 0 na (bys ta) ea) (hp : MayP ⟨1, mf, xf, ms, xs, st, cs, ns, bys ts, es, md, hd, im, ix⟩) (n1 : 0 ≤ n) (n2 : n ≤ 99 - xf) : Calls Tryz.prog 12 #[dcV 0 na ta ea, prV 1 mf xf ms xs st cs ns ts es md hd im ix, .int .i64 n] w fun e w' => e = .returned (.bool true) ∧ Below w.heap.size w w' := by
  obtain ⟨⟨⟨a1, a2⟩, a3⟩, q1, q2, q3⟩ := mayP_1 hp rfl
  simp only at a1 a2 a3
  have hp0 : MayP ⟨1, mf, xf, ms, xs, st, cs, ns, bys ts, es, md, false, im, ix⟩ := ⟨hp.1, hp.2.1, .inr (.inl ⟨rfl, ⟨⟨a1, a2⟩, a3⟩, q1, q2, q3⟩)⟩
  have hph : MayP ⟨1, mf, xf, ms, xs, st, cs, ns, bys ts, es, md, true, im, ix⟩ := ⟨hp.1, hp.2.1, .inr (.inl ⟨rfl, ⟨⟨a1, a2⟩, a3⟩, q1, q2, q3⟩)⟩
  have hpq : MayP ⟨1, mf, xf + n, ms, xs, st, cs, ns, bys ts, es, md, false, im, ix⟩ := ⟨hp.1, hp.2.1, .inr (.inl ⟨rfl, ⟨⟨a1, show mf ≤ xf + n by omega⟩, show xf + n ≤ 99 by omega⟩, q1, q2, q3⟩)⟩
  have S1 := fun W hW => Show_any 0 na ta ea 1 mf xf ms xs st cs ns ts es md false im ix W hW
  have S2 := fun W hW => Show_any 0 na ta ea 1 mf (xf + n) ms xs st cs ns ts es md false im ix W hW
  have S3 := fun W hW => Show_any 0 na ta ea 1 mf xf ms xs st cs ns ts es md true im ix W hW
  have same : roundP ⟨1, mf, xf, ms, xs, st, cs, ns, bys ts, es, md, true, im, ix⟩ 0 na (bys ta) ea = roundP ⟨1, mf, xf, ms, xs, st, cs, ns, bys ts, es, md, false, im, ix⟩ 0 na (bys ta) ea := rfl
  rcases roundP_err hp0 h with g1 | g1
  rotate_left
  · rw [showP_err h hp0 (by omega), g1] at S1
    rw [showP_err h hph (by rw [same]; omega), same, g1] at S3
    exact more_e na ta ea mf xf ms xs st cs ns ts es md hd im ix n _ _ _ _ _ _ _ _ _ _ _ _ _ w htab h hp n1 n2 (by omega) a3 S1 S2 S3
  rw [showP_in h hp0 g1] at S1
  rw [showP_in h hph (by rw [same]; exact g1), same] at S3
  rcases roundP_err hpq h with g2 | g2
  rotate_left
  · rw [showP_err h hpq (by omega), g2] at S2
    exact more_f na ta ea mf xf ms xs st cs ns ts es md hd im ix n _ _ _ _ _ _ _ _ _ _ _ _ _ _ _ _ _ _ w htab h hp n1 n2 (by omega) a3 S1 S2 S3
  rw [showP_in h hpq g2] at S2
  have m1 := roundP_may hp0 h
  have m2 := roundP_may hpq h
  have r1 : roundP ⟨1, mf, xf, ms, xs, st, cs, ns, bys ts, es, md, false, im, ix⟩ 0 na (bys ta) ea = ((roundP ⟨1, mf, xf, ms, xs, st, cs, ns, bys ts, es, md, false, im, ix⟩ 0 na (bys ta) ea).1, 0) := Prod.ext rfl g1
  have r2 : roundP ⟨1, mf, xf + n, ms, xs, st, cs, ns, bys ts, es, md, false, im, ix⟩ 0 na (bys ta) ea = ((roundP ⟨1, mf, xf + n, ms, xs, st, cs, ns, bys ts, es, md, false, im, ix⟩ 0 na (bys ta) ea).1, 0) := Prod.ext rfl g2
  generalize (roundP ⟨1, mf, xf, ms, xs, st, cs, ns, bys ts, es, md, false, im, ix⟩ 0 na (bys ta) ea).1 = r at *
  generalize (roundP ⟨1, mf, xf + n, ms, xs, st, cs, ns, bys ts, es, md, false, im, ix⟩ 0 na (bys ta) ea).1 = s at *
  have mx := more_frac mf xf ms xs st cs ns ts es md im ix n na (bys ta) ea r s h hp0 hpq n1 r1 r2
  obtain ⟨c1, c2, _⟩ := round_sign hp0 h r1
  obtain ⟨d1, d2, _⟩ := round_sign hpq h r2
  have rc : r.cls = 0 := by omega
  have sc : s.cls = 0 := by omega
  have lb := (ab_len (show MayD (r.cls : Int) r.neg r.dig r.exp from m1)).2.2.1
  have lb2 := (ab_len (show MayD (s.cls : Int) s.neg s.dig s.exp from m2)).2.2.1
  have ll : leastP ⟨1, mf, xf, ms, xs, st, cs, ns, bys ts, es, md, false, im, ix⟩ r = mf := rfl
  have ll2 : leastP ⟨1, mf, xf + n, ms, xs, st, cs, ns, bys ts, es, md, false, im, ix⟩ s = mf := rfl
  have ll3 : leastP ⟨1, mf, xf, ms, xs, st, cs, ns, bys ts, es, md, true, im, ix⟩ r = mf := rfl
  rcases hIF : digitsP ⟨1, mf, xf, ms, xs, st, cs, ns, bys ts, es, md, false, im, ix⟩ r (leastP ⟨1, mf, xf, ms, xs, st, cs, ns, bys ts, es, md, false, im, ix⟩ r) with ⟨I, F⟩
  rcases hIG : digitsP ⟨1, mf, xf + n, ms, xs, st, cs, ns, bys ts, es, md, false, im, ix⟩ s (leastP ⟨1, mf, xf + n, ms, xs, st, cs, ns, bys ts, es, md, false, im, ix⟩ s) with ⟨I2, F2⟩
  have k1 := counts hp0 m1 hIF
  have k2 := counts hpq m2 hIG
  have e1 : shownP ⟨1, mf, xf, ms, xs, st, cs, ns, bys ts, es, md, false, im, ix⟩ r = ⟨0, na, I, F, 0, false⟩ := by unfold shownP; rw [if_pos rc, hIF, c2]
  have e2 : shownP ⟨1, mf, xf + n, ms, xs, st, cs, ns, bys ts, es, md, false, im, ix⟩ s = ⟨0, na, I2, F2, 0, false⟩ := by unfold shownP; rw [if_pos sc, hIG, d2]
  rw [e1] at S1
  rw [e2] at S2
  have hFF : (F.length : Int) ≤ F2.length := by
    have f1 := k1.frac
    have f2 := k2.frac
    rcases frac_len ⟨1, mf, xf, ms, xs, st, cs, ns, bys ts, es, md, false, im, ix⟩ (behindD r.dig r.exp) mf with ⟨_, _, z⟩ | ⟨z, _⟩
    · cases z
    · rcases frac_len ⟨1, mf, xf + n, ms, xs, st, cs, ns, bys ts, es, md, false, im, ix⟩ (behindD s.dig s.exp) mf with ⟨_, _, z2⟩ | ⟨z2, _⟩
      · cases z2
      · rw [f1, f2, ll, ll2]
        omega
  have zF := k1.fl
  have sF : (⟨F.toArray⟩ : ByteArray).size = F.length := size_mk0 F
  have sF2 : (⟨F2.toArray⟩ : ByteArray).size = F2.length := size_mk0 F2
  have hl : ((⟨F.toArray⟩ : ByteArray).size : Int) ≤ ((⟨F2.toArray⟩ : ByteArray).size : Int) := by rw [sF, sF2]; exact hFF
  have bg : ∀ q, ∀ h : q < (⟨F.toArray⟩ : ByteArray).size, (⟨F.toArray⟩ : ByteArray)[q].toNat = byt F q := by
    intro q h
    rw [byt_get, bys_mk F]
  have F0 : F = behindD r.dig r.exp ++ nought (mf - (behindD r.dig r.exp).length) := by
    rw [k1.frac, ll]
    rcases frac_len ⟨1, mf, xf, ms, xs, st, cs, ns, bys ts, es, md, false, im, ix⟩ (behindD r.dig r.exp) mf with ⟨_, _, z⟩ | ⟨_, z⟩
    · cases z
    · exact z
  by_cases hb : behindD r.dig r.exp = []
  · have hJ : ∀ q, q < (⟨F.toArray⟩ : ByteArray).size → ∀ h : q < (⟨F.toArray⟩ : ByteArray).size, (⟨F.toArray⟩ : ByteArray)[q].toNat = 48 := by
      intro q hq h
      rw [bg q h]
      rw [sF] at hq
      rw [hb, List.nil_append] at F0
      rw [F0] at hq ⊢
      exact byt_rep hq
    have fh : fracP ⟨1, mf, xf, ms, xs, st, cs, ns, bys ts, es, md, true, im, ix⟩ (behindD r.dig r.exp) mf = [] := by unfold fracP; rw [if_pos ⟨rfl, hb⟩]
    have wh : wholeP ⟨1, mf, xf, ms, xs, st, cs, ns, bys ts, es, md, true, im, ix⟩ (aheadD r.dig r.exp) = wholeP ⟨1, mf, xf, ms, xs, st, cs, ns, bys ts, es, md, false, im, ix⟩ (aheadD r.dig r.exp) := rfl
    have e3 : shownP ⟨1, mf, xf, ms, xs, st, cs, ns, bys ts, es, md, true, im, ix⟩ r = ⟨0, na, if wholeP ⟨1, mf, xf, ms, xs, st, cs, ns, bys ts, es, md, false, im, ix⟩ (aheadD r.dig r.exp) = [] then [48] else wholeP ⟨1, mf, xf, ms, xs, st, cs, ns, bys ts, es, md, false, im, ix⟩ (aheadD r.dig r.exp), [], 0, false⟩ := by
      unfold shownP
      rw [if_pos rc, c2, ll3]
      unfold digitsP
      rw [fh, wh]
      by_cases hw : wholeP ⟨1, mf, xf, ms, xs, st, cs, ns, bys ts, es, md, false, im, ix⟩ (aheadD r.dig r.exp) = []
      · rw [if_pos ⟨hw, rfl⟩, if_pos hw]
      · rw [if_neg (fun g => hw g.1), if_neg hw]
    rw [e3] at S3
    rcases digits_form ⟨1, mf, xf, ms, xs, st, cs, ns, bys ts, es, md, false, im, ix⟩ r (leastP ⟨1, mf, xf, ms, xs, st, cs, ns, bys ts, es, md, false, im, ix⟩ r) with ⟨w1, w2, w3⟩ | ⟨w1, w3⟩
    · rw [w3] at hIF
      obtain ⟨rfl, rfl⟩ := Prod.mk.inj hIF
      rw [if_pos w1] at S3
      exact more_a1 na ta ea mf xf ms xs st cs ns ts es md hd im ix n _ _ _ _ _ _ _ _ w htab h hp n1 n2 (by omega) a3 S1 S2 S3 hl (by rw [sF]; exact zF) hJ
    · rw [w3] at hIF
      obtain ⟨rfl, hF⟩ := Prod.mk.inj hIF
      by_cases hw : wholeP ⟨1, mf, xf, ms, xs, st, cs, ns, bys ts, es, md, false, im, ix⟩ (aheadD r.dig r.exp) = []
      · rw [if_pos hw] at S3
        rw [hw] at S1
        exact more_a2 na ta ea mf xf ms xs st cs ns ts es md hd im ix n _ _ _ _ _ _ _ w htab h hp n1 n2 (by omega) a3 S1 S2 S3 hl (by rw [sF]; exact zF) hJ
      · rw [if_neg hw] at S3
        exact more_a1 na ta ea mf xf ms xs st cs ns ts es md hd im ix n _ _ _ _ _ _ _ _ w htab h hp n1 n2 (by omega) a3 S1 S2 S3 hl (by rw [sF]; exact zF) hJ
  · have fh : fracP ⟨1, mf, xf, ms, xs, st, cs, ns, bys ts, es, md, true, im, ix⟩ (behindD r.dig r.exp) mf = fracP ⟨1, mf, xf, ms, xs, st, cs, ns, bys ts, es, md, false, im, ix⟩ (behindD r.dig r.exp) mf := by
      unfold fracP; rw [if_neg (fun g => hb g.2), if_neg (fun g => hb g.2)]
    have e3 : shownP ⟨1, mf, xf, ms, xs, st, cs, ns, bys ts, es, md, true, im, ix⟩ r = shownP ⟨1, mf, xf, ms, xs, st, cs, ns, bys ts, es, md, false, im, ix⟩ r := by
      unfold shownP
      rw [if_pos rc, if_pos rc, ll3, ll]
      unfold digitsP
      rw [fh]
      rfl
    rw [e3, e1] at S3
    have hbl := behind_last m1 hb
    have hpos := List.length_pos_iff.2 hb
    have hne : byt F ((behindD r.dig r.exp).length - 1) ≠ 48 := by
      rw [F0, byt_left (by omega)]; exact hbl
    obtain ⟨j, j1, j2, j3⟩ := first_ne F _ hne
    have hjF : j < F.length := by rw [F0, List.length_append]; omega
    exact more_b na ta ea mf xf ms xs st cs ns ts es md hd im ix n _ _ _ _ _ _ _ _ _ _ _ _ j (byt F j) w htab h hp n1 n2 (by omega) a3 S1 S2 S3 hl (by rw [sF]; exact zF) (by rw [sF]; exact hjF) (fun q hq hh => by rw [bg q hh]; exact j3 q hq) (fun hh => bg j hh) j2

theorem wmore_walk (w : World) (htab : Tab w) (ca : Int) (na : Bool) (ta : ByteArray) (ea k mf xf ms xs : Int) (st : Bool) (cs : Int) (ns : Bool) (ts : ByteArray) (es md : Int) (hd : Bool) (im ix n : Int) : Calls Tryz.prog 12 #[dcV ca na ta ea, prV k mf xf ms xs st cs ns ts es md hd im ix, .int .i64 n] w fun e w' => e = .returned (.bool true) ∧ Below w.heap.size w w' := by
  by_cases h : MayD ca na (bys ta) ea
  rotate_left
  · exact more_no ca na ta ea k mf xf ms xs st cs ns ts es md hd im ix n w htab h
  have hc : ca = 0 ∨ ca = 1 ∨ ca = 2 := by rcases h with ⟨g, _⟩ | ⟨g, _⟩ | ⟨g, _⟩ <;> omega
  rcases hc with rfl | rfl | rfl
  rotate_left
  · exact more_c1 na ta ea k mf xf ms xs st cs ns ts es md hd im ix n w htab h
  · exact more_c2 na ta ea k mf xf ms xs st cs ns ts es md hd im ix n w htab h
  by_cases hp : MayP ⟨k, mf, xf, ms, xs, st, cs, ns, bys ts, es, md, hd, im, ix⟩
  rotate_left
  · exact more_bad na ta ea k mf xf ms xs st cs ns ts es md hd im ix n w htab h hp
  have hk : k = 0 ∨ k = 1 ∨ k = 2 ∨ k = 3 ∨ k = 4 := mayP_kind hp
  rcases hk with rfl | rfl | rfl | rfl | rfl
  · exact more_k0 na ta ea mf xf ms xs st cs ns ts es md hd im ix n w htab h hp
  rotate_left
  · exact more_k2 na ta ea mf xf ms xs st cs ns ts es md hd im ix n w htab h hp
  · exact more_k3 na ta ea mf xf ms xs st cs ns ts es md hd im ix n w htab h hp
  · exact more_k4 na ta ea mf xf ms xs st cs ns ts es md hd im ix n w htab h hp
  by_cases hn : 0 ≤ n
  rotate_left
  · exact more_neg na ta ea mf xf ms xs st cs ns ts es md hd im ix n w htab h hp (by omega)
  obtain ⟨⟨⟨a1, a2⟩, a3⟩, _⟩ := mayP_1 hp rfl
  simp only at a1 a2 a3
  by_cases hn2 : n ≤ 99 - xf
  · exact wmore_main w htab na ta ea mf xf ms xs st cs ns ts es md hd im ix n h hp hn hn2
  · exact more_far na ta ea mf xf ms xs st cs ns ts es md hd im ix n w htab h hp hn (by omega) (by omega) a3

end Go.Proofs.YtckijnlolmbdiaaGreatDoor

namespace Go.Proofs.YtckijnlolmbdiaaGreatDoor
open Go.RowKit

theorem tg : Tryz.prog.globalNamed "internal/strconv.uint64pow10" = some 5 := by kernel_rfl
theorem tgt : (Tryz.prog.globals[5]?).map (·.type) = some 228 := by kernel_rfl
theorem tc20 : Tryz.prog.cellsOf 228 = 20 := by kernel_rfl
theorem tc1 : Tryz.prog.cellsOf 120 = 1 := by kernel_rfl

theorem table {W : World} (h : laidMetH Tryz.prog [("math/bits.deBruijn32tab", Rows.laid_math_bits_deBruijn32tab), ("math/bits.deBruijn64tab", Rows.laid_math_bits_deBruijn64tab), ("internal/strconv.uint64pow10", Rows.laid_internal_strconv_uint64pow10), ("unicode/utf8.acceptRanges", Rows.laid_unicode_utf8_acceptRanges), ("strconv.ErrRange", Rows.laid_strconv_ErrRange), ("strconv.ErrSyntax", Rows.laid_strconv_ErrSyntax), ("unicode/utf8.first", Rows.laid_unicode_utf8_first)] W) : Tab W := by
  have h' : laidMet Tryz.prog [("math/bits.deBruijn32tab", Rows.laid_math_bits_deBruijn32tab), ("math/bits.deBruijn64tab", Rows.laid_math_bits_deBruijn64tab), ("internal/strconv.uint64pow10", Rows.laid_internal_strconv_uint64pow10), ("unicode/utf8.acceptRanges", Rows.laid_unicode_utf8_acceptRanges), ("strconv.ErrRange", Rows.laid_strconv_ErrRange), ("strconv.ErrSyntax", Rows.laid_strconv_ErrSyntax), ("unicode/utf8.first", Rows.laid_unicode_utf8_first)] W := h
  obtain ⟨ps, ⟨_, _, _, _, _, q1, _, _, _, _, ⟨_, _, _, _, _, q2, _, _, _, _, ⟨g', t', cs, fuel, p3, q3, hg', ht', hvar, hd, _, _⟩, _⟩, _⟩, _⟩ := h'
  obtain rfl := Option.some.inj (tg.symm.trans hg')
  obtain rfl := Option.some.inj (tgt.symm.trans ht')
  unfold Tab Lib.TabIs
  have hd' : DataW.trod (fun _ => ()) Tryz.prog W 0 (fun _ => true) false fuel 228 cs.toList = some (Lib.tabData .u64 Lib.pow10Tab, p3) := hd
  rw [hvar, ← Lib.cells_of_tab Tryz.underlying228 Tryz.underlying120 tc1 tc20 hd']

def tabVals : DataW Unit → Array Value
  | .agg l => (l.flatMap fun
      | .lit (.int k z) => [Value.int k z]
      | .agg l2 => l2.map fun
        | .lit (.int k z) => Value.int k z
        | _ => .int .u8 0
      | _ => []).toArray
  | _ => #[]

def putVals (d : DataW Unit) : Obj → Obj
  | .cells _ t frozen => .cells (tabVals d) t frozen
  | o => o

def errText : DataW Unit → ByteArray
  | .iface _ (.ptr (.agg [.lit (.string l)])) => ⟨l.toArray⟩
  | _ => ⟨#[]⟩

def putErr (b : Nat) : Obj → Obj
  | .cells _ t frozen => .cells #[.iface 231 (.pointer (some ⟨b, 0, none⟩))] t frozen
  | o => o

noncomputable def laidWorld (os : Os) : World :=
  { World.holding Tryz.prog os ⟨#[], #[], []⟩ with
    heap := (((((((((World.holding Tryz.prog os ⟨#[], #[], []⟩).heap.modify 8 (putVals Rows.laid_math_bits_deBruijn32tab)).modify 9 (putVals Rows.laid_math_bits_deBruijn64tab)).modify 5 (putVals Rows.laid_internal_strconv_uint64pow10)).modify 7 (putVals Rows.laid_unicode_utf8_acceptRanges)).modify 6 (putVals Rows.laid_unicode_utf8_first)).modify 1 (putErr (World.holding Tryz.prog os ⟨#[], #[], []⟩).heap.size)).modify 0 (putErr ((World.holding Tryz.prog os ⟨#[], #[], []⟩).heap.size + 1))).push (.cells #[.string (errText Rows.laid_strconv_ErrRange)] 233)).push (.cells #[.string (errText Rows.laid_strconv_ErrSyntax)] 233) }

end Go.Proofs.YtckijnlolmbdiaaGreatDoor
