/-
  Plain mathematics: what a precision has rounded to it rounds to itself.
-/
import Derived.Test.YtckijnlolmbdiaaGreatDoorZB7
import Derived.Test.YtckijnlolmbdiaaGreatDoorZB18
namespace Go.Proofs.YtckijnlolmbdiaaGreatDoor

theorem pow_lt_inv {a b : Nat} (h : 10 ^ a < 10 ^ b) : a < b := by
  rcases Nat.lt_or_ge a b with g | g
  · exact g
  · exact absurd (Nat.pow_le_pow_right (show 0 < 10 by omega) g) (by omega)
theorem pow_le_inv {a b : Nat} (h : 10 ^ a ≤ 10 ^ b) : a ≤ b := by
  rcases Nat.lt_or_ge b a with g | g
  · exact absurd (Nat.pow_lt_pow_right (show 1 < 10 by omega) g) (by omega)
  · exact g

theorem grow_pow {d r : DecT} (hd : Fin d) (hr : Fin r) {x : Int} (hx : -9000 ≤ x) {k : Nat} (ha : amt r.dig r.exp = k * 10 ^ (x + 9000).toNat) (hk : k ≤ amt d.dig d.exp / 10 ^ (x + 9000).toNat + 1) (hg : d.exp + d.dig.length < r.exp + r.dig.length) :
    amt r.dig r.exp = 10 ^ (r.exp + r.dig.length + 8999).toNat := by
  have h1 := hd.amt_lt
  have h2 := hr.amt_ge
  have h3 := hr.amt_lt
  have d1 := hd.lo
  have d2 := hd.hi
  have r1 := hr.lo
  have r2 := hr.hi
  generalize amt d.dig d.exp = A at h1 hk
  generalize amt r.dig r.exp = B at ha h2 h3
  have up : 0 < 10 ^ (x + 9000).toNat := Nat.pow_pos (by omega)
  by_cases hc : d.exp + d.dig.length ≤ x
  · have hA : A < 10 ^ (x + 9000).toNat := Nat.lt_of_lt_of_le h1 (Nat.pow_le_pow_right (by omega) (by omega))
    rw [Nat.div_eq_of_lt hA] at hk
    have hk1 : k = 1 := by
      rcases Nat.eq_zero_or_pos k with e | e
      · rw [e, Nat.zero_mul] at ha
        have : 0 < 10 ^ (r.exp + r.dig.length + 8999).toNat := Nat.pow_pos (by omega)
        omega
      · omega
    rw [hk1, Nat.one_mul] at ha
    rw [ha] at h2 h3 ⊢
    have e1 := pow_le_inv h2
    have e2 := pow_lt_inv h3
    congr 1
    omega
  · have hT : 10 ^ (d.exp + d.dig.length + 9000).toNat = 10 ^ (d.exp + d.dig.length - x).toNat * 10 ^ (x + 9000).toNat := by
      rw [← Nat.pow_add]; congr 1; omega
    rw [hT] at h1
    have hq : A / 10 ^ (x + 9000).toNat < 10 ^ (d.exp + d.dig.length - x).toNat := Nat.div_lt_of_lt_mul (by rw [Nat.mul_comm]; exact h1)
    have hkT : k ≤ 10 ^ (d.exp + d.dig.length - x).toNat := by omega
    have hB : B ≤ 10 ^ (d.exp + d.dig.length + 9000).toNat := by rw [ha, hT]; exact Nat.mul_le_mul_right _ hkT
    have hle : 10 ^ (d.exp + d.dig.length + 9000).toNat ≤ 10 ^ (r.exp + r.dig.length + 8999).toNat := Nat.pow_le_pow_right (by omega) (by omega)
    omega

theorem rndN_near (A U : Nat) (neg : Bool) (m : Nat) : rndN A U neg m ≤ A / U + 1 := by
  unfold rndN
  by_cases h : A % U = 0
  · rw [if_pos h]; omega
  · rw [if_neg h]
    split <;> omega

theorem bothAt_f {p : PrecT} (h : p.strict = false) (pl : Int) : bothAt p pl = min (-p.maxF) (pl - p.maxS) := by unfold bothAt; rw [h]; rfl
theorem bothAt_t {p : PrecT} (h : p.strict = true) (pl : Int) : bothAt p pl = max (-p.maxF) (pl - p.maxS) := by unfold bothAt; rw [h]; rfl

theorem unitX_in {p : PrecT} (hp : MayP p) (k : p.kind ≠ 0) {pl : Int} (h1 : -2000 ≤ pl) (h2 : pl ≤ 2000) : -9000 ≤ unitX p pl := by
  unfold unitX
  rcases mayP_kind hp with g | g | g | g | g
  · exact absurd g k
  · obtain ⟨⟨⟨a1, a2⟩, a3⟩, _⟩ := mayP_1 hp g
    rw [if_pos g]; omega
  · obtain ⟨_, ⟨⟨a1, a2⟩, a3⟩, _⟩ := mayP_2 hp g
    rw [if_neg (by omega), if_pos g]; omega
  · have := bothAt_in (mayP_3 hp g) h1 h2
    rw [if_neg (by omega), if_neg (by omega), if_pos g]; omega
  · obtain ⟨_, _, _, _, hm, _⟩ := mayP_4 hp g
    have := may_pl hm
    rw [if_neg (by omega), if_neg (by omega), if_neg (by omega)]; omega

theorem unitX_up {p : PrecT} (hp : MayP p) (k : p.kind ≠ 0) {a b : Int} (h : unitX p a < unitX p b) : a < b ∧ unitX p b ≤ b - 1 ∧ unitN p = 1 := by
  unfold unitX unitN at *
  rcases mayP_kind hp with g | g | g | g | g
  · exact absurd g k
  · rw [if_pos g] at h; omega
  · obtain ⟨_, ⟨⟨a1, a2⟩, a3⟩, _⟩ := mayP_2 hp g
    rw [if_neg (by omega), if_pos g, if_neg (by omega), if_pos g] at h
    rw [if_neg (by omega), if_pos g, if_neg (by omega)]
    omega
  · obtain ⟨_, ⟨⟨a1, a2⟩, a3⟩, _⟩ := mayP_3 hp g
    rw [if_neg (by omega), if_neg (by omega), if_pos g, if_neg (by omega), if_neg (by omega), if_pos g] at h
    rw [if_neg (by omega), if_neg (by omega), if_pos g, if_neg (by omega)]
    cases hs : p.strict
    · rw [bothAt_f hs, bothAt_f hs] at h
      rw [bothAt_f hs]; omega
    · rw [bothAt_t hs, bothAt_t hs] at h
      rw [bothAt_t hs]; omega
  · rw [if_neg (by omega), if_neg (by omega), if_neg (by omega), if_neg (by omega), if_neg (by omega), if_neg (by omega)] at h
    omega

theorem round_again {p : PrecT} {c : Int} {n : Bool} {l : List UInt8} {e : Int} {r : DecT} (hp : MayP p) (h : MayD c n l e) (hr : roundP p c n l e = (r, 0)) : roundP p (r.cls : Int) r.neg r.dig r.exp = (r, 0) := by
  have hm : May r := by have := roundP_may hp h; rw [hr] at this; exact this
  by_cases k : p.kind = 0
  · rw [roundP_0 k]; rfl
  · rw [roundP_rnd hp hm k]
    show rndD r (unitN p) (unitX p ((r.dig.length : Int) + r.exp)) p.mode.toNat = (r, 0)
    by_cases hz : r.dig = []
    · exact rndD_zero hz _ _ _
    · have hf : Fin r := may_fin hm hz
      rw [roundP_rnd hp h k] at hr
      obtain ⟨_, _, b3, b4, _⟩ := may_pl h
      obtain ⟨_, _, c3, c4, _⟩ := may_pl (show MayD (r.cls : Int) r.neg r.dig r.exp from hm)
      have hdz : l ≠ [] := by
        intro hl
        rw [rndD_zero (show (DecT.mk c.toNat n l e).dig = [] from hl)] at hr
        have := (Prod.mk.inj hr).1
        rw [← this] at hz
        exact hz hl
      have hd : Fin ⟨c.toNat, n, l, e⟩ := may_fin (may_of h) hdz
      have hx := unitX_in hp k b3 b4
      have hv := rndD_val (may_of h) hd.cls (unitN p) p.mode.toNat hx (by rw [hr])
      rw [hr] at hv
      obtain ⟨hv1, _, hv3⟩ := hv
      simp only at hv1 hv3
      have ham : amt r.dig r.exp = rndN (amt l e) (unitA (unitN p) (unitX p ((l.length : Int) + e))) n p.mode.toNat * unitA (unitN p) (unitX p ((l.length : Int) + e)) := by
        unfold vD at hv1
        rw [hv3] at hv1
        exact zD_injR hv1
      have hy := unitX_in hp k c3 c4
      by_cases hu : unitX p ((l.length : Int) + e) < unitX p ((r.dig.length : Int) + r.exp)
      · obtain ⟨u1, u2, u3⟩ := unitX_up hp k hu
        rw [u3] at ham ⊢
        unfold unitA at ham
        rw [Nat.one_mul] at ham
        have n1 := rndN_near (amt l e) (10 ^ (unitX p ((l.length : Int) + e) + 9000).toNat) n p.mode.toNat
        have g := grow_pow hd hf hx ham n1 (by simp only; omega)
        refine rndD_again hm p.mode.toNat (q := 10 ^ ((r.dig.length : Int) + r.exp - 1 - unitX p ((r.dig.length : Int) + r.exp)).toNat) hy ?_
        unfold vD
        rw [g]
        unfold unitA
        rw [Nat.one_mul, ← Nat.pow_add]
        congr 2
        omega
      · refine rndD_again hm p.mode.toNat (q := rndN (amt l e) (unitA (unitN p) (unitX p ((l.length : Int) + e))) n p.mode.toNat * 10 ^ (unitX p ((l.length : Int) + e) - unitX p ((r.dig.length : Int) + r.exp)).toNat) hy ?_
        unfold vD
        rw [ham]
        congr 1
        rw [Nat.mul_assoc]
        congr 1
        unfold unitA
        rw [Nat.mul_left_comm, ← Nat.pow_add]
        congr 2
        omega

end Go.Proofs.YtckijnlolmbdiaaGreatDoor
