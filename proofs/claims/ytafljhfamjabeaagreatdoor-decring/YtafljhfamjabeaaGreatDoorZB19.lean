/-
  Plain mathematics, and what follows for dec's Add, Mul, Cmp and Neg of any two Decs: sums and products are worth what they say.
-/
import Derived.Test.YtafljhfamjabeaaGreatDoorZB6
import Derived.Test.YtafljhfamjabeaaGreatDoorZB4
namespace Go.Proofs.YtafljhfamjabeaaGreatDoor
open Go.RowKit

theorem sumT_comm (a b : DecT) (ha : May a) (hb : May b) : sumT a b = sumT b a := by
  unfold sumT
  by_cases h : a.cls = 0 ∧ b.cls = 0
  · rw [if_pos h, if_pos ⟨h.2, h.1⟩, Int.min_comm b.exp, Int.add_comm (zc b _), Bool.and_comm b.neg]
  · rw [if_neg h, if_neg (show ¬ (b.cls = 0 ∧ a.cls = 0) from fun e => h ⟨e.2, e.1⟩)]
    by_cases h2 : a.cls = 2 ∨ b.cls = 2
    · rw [if_pos h2, if_pos h2.symm]
    · rw [if_neg h2, if_neg (show ¬ (b.cls = 2 ∨ a.cls = 2) from fun e => h2 e.symm)]
      by_cases ha0 : a.cls = 0
      · have hb0 : ¬ b.cls = 0 := fun e => h ⟨ha0, e⟩
        rw [if_neg hb0, if_pos ha0, if_pos ha0]
      · by_cases hb0 : b.cls = 0
        · rw [if_pos hb0, if_neg ha0, if_pos hb0]
        · rw [if_neg hb0, if_neg ha0, if_neg ha0, if_neg hb0]
          rcases may_cases ha with ⟨n, rfl⟩ | f | ⟨n, rfl⟩ | rfl
          · exact absurd rfl ha0
          · exact absurd f.cls ha0
          · rcases may_cases hb with ⟨m, rfl⟩ | f | ⟨m, rfl⟩ | rfl
            · exact absurd rfl hb0
            · exact absurd f.cls hb0
            · cases n <;> cases m <;> rfl
            · exact absurd (.inr rfl) h2
          · exact absurd (.inl rfl) h2

theorem bne_comm' (x y : Bool) : (x != y) = (y != x) := by cases x <;> cases y <;> rfl

theorem prodT_comm (a b : DecT) : prodT a b = prodT b a := by
  unfold prodT
  by_cases h : a.cls = 0 ∧ b.cls = 0
  · rw [if_pos h, if_pos ⟨h.2, h.1⟩, Nat.mul_comm (decV b.dig), Int.add_comm b.exp, bne_comm' b.neg]
  · rw [if_neg h, if_neg (show ¬ (b.cls = 0 ∧ a.cls = 0) from fun e => h ⟨e.2, e.1⟩), bne_comm' b.neg]
    by_cases h2 : a.cls = 2 ∨ b.cls = 2 ∨ (a.cls = 0 ∧ a.dig = []) ∨ (b.cls = 0 ∧ b.dig = [])
    · rw [if_pos h2, if_pos]
      rcases h2 with h | h | h | h
      · exact .inr (.inl h)
      · exact .inl h
      · exact .inr (.inr (.inr h))
      · exact .inr (.inr (.inl h))
    · rw [if_neg h2, if_neg]
      intro e
      apply h2
      rcases e with h | h | h | h
      · exact .inr (.inl h)
      · exact .inl h
      · exact .inr (.inr (.inr h))
      · exact .inr (.inr (.inl h))

theorem tellF_may (neg : Bool) (N : Nat) (e : Int) : May (tellF neg N e).1 := by
  by_cases h : May (finD neg N e)
  · rw [tellF_yes h]; exact h
  · rw [tellF_no h]; exact may_zero false

theorem sumT_may (a b : DecT) (ha : May a) (hb : May b) : May (sumT a b).1 := by
  unfold sumT
  split
  · exact tellF_may _ _ _
  · split
    · exact .inr (.inr ⟨rfl, rfl, rfl, rfl⟩)
    · split
      · exact ha
      · split
        · exact hb
        · split
          · exact ha
          · exact .inr (.inr ⟨rfl, rfl, rfl, rfl⟩)

theorem prodT_may (a b : DecT) : May (prodT a b).1 := by
  unfold prodT
  split
  · exact tellF_may _ _ _
  · split
    · exact .inr (.inr ⟨rfl, rfl, rfl, rfl⟩)
    · exact .inr (.inl ⟨rfl, rfl, rfl⟩)

theorem tellF_val {neg : Bool} {N : Nat} {e : Int} (he : -9000 ≤ e) (h : (tellF neg N e).2 = 0) : vD (tellF neg N e).1 = zD neg N * ((10 ^ (e + 9000).toNat : Nat) : Int) ∧ (tellF neg N e).1.cls = 0 := by
  by_cases hm : May (finD neg N e)
  · rw [tellF_yes hm]
    exact ⟨vD_fin he, finD_cls _ _ _⟩
  · rw [tellF_no hm] at h; cases h

theorem zc_val (d : DecT) {x : Int} (h1 : -3000 ≤ x) (h2 : x ≤ d.exp) : zc d x * ((10 ^ (x + 9000).toNat : Nat) : Int) = vD d := by
  unfold zc vD amt
  show zD d.neg _ * _ = _
  rw [← zD_mul, Nat.mul_assoc, ← Nat.pow_add]
  congr 3
  omega

theorem sum_val {a b : DecT} (ha : May a) (hb : May b) (ca : a.cls = 0) (cb : b.cls = 0) (h : (sumT a b).2 = 0) : vD (sumT a b).1 = vD a + vD b ∧ (sumT a b).1.cls = 0 := by
  have fa := may_fz ha ca
  have fb := may_fz hb cb
  have x1 : -3000 ≤ min a.exp b.exp := by have := fa.lo; have := fb.lo; omega
  have va := zc_val a x1 (Int.min_le_left _ _)
  have vb := zc_val b x1 (Int.min_le_right _ _)
  unfold sumT at h ⊢
  rw [if_pos ⟨ca, cb⟩] at h ⊢
  obtain ⟨q1, q2⟩ := tellF_val (by omega) h
  refine ⟨?_, q2⟩
  rw [q1, ← va, ← vb, ← Int.add_mul]
  congr 1
  have zz : ∀ (d : DecT) (x : Int), d.neg = true → zc d x ≤ 0 := by
    intro d x hn; unfold zc zv; rw [hn]; simp only [if_true]; omega
  generalize ea : zc a (min a.exp b.exp) = A at *
  generalize eb : zc b (min a.exp b.exp) = B at *
  by_cases hneg : A + B < 0
  · rw [decide_eq_true hneg, Bool.true_or]
    simp only [zD, if_true]; omega
  · rw [decide_eq_false hneg, Bool.false_or]
    by_cases hs : (a.neg && b.neg) = true
    · have h1 : a.neg = true := by revert hs; cases a.neg <;> simp
      have h2 : b.neg = true := by revert hs; cases a.neg <;> cases b.neg <;> simp
      have p1 := zz a (min a.exp b.exp) h1
      have p2 := zz b (min a.exp b.exp) h2
      rw [ea] at p1
      rw [eb] at p2
      rw [hs]
      simp only [zD, if_true]; omega
    · have : (a.neg && b.neg) = false := by revert hs; cases (a.neg && b.neg) <;> simp
      rw [this]
      simp only [zD, Bool.false_eq_true, if_false]; omega

theorem zD_bne (x y : Bool) (m n : Nat) : zD (x != y) (m * n) = zD x m * zD y n := by
  cases x <;> cases y <;> simp [zD, Int.neg_mul, Int.mul_neg]

def nine : Nat := 9000
theorem nine_eq : nine = 9000 := rfl
def e9 : Nat := 10 ^ nine
theorem e9_pos : 0 < e9 := Nat.pow_pos (by omega)

theorem prod_val {a b : DecT} (ha : May a) (hb : May b) (ca : a.cls = 0) (cb : b.cls = 0) (h : (prodT a b).2 = 0) : vD (prodT a b).1 * (e9 : Int) = vD a * vD b ∧ (prodT a b).1.cls = 0 := by
  have fa := may_fz ha ca
  have fb := may_fz hb cb
  have la := fa.lo
  have lb := fb.lo
  unfold prodT at h ⊢
  rw [if_pos ⟨ca, cb⟩] at h ⊢
  obtain ⟨q1, q2⟩ := tellF_val (by omega) h
  refine ⟨?_, q2⟩
  rw [q1, zD_bne]
  unfold vD amt
  rw [zD_mul, zD_mul]
  have e : ((10 ^ (a.exp + b.exp + 9000).toNat : Nat) : Int) * (e9 : Int) = ((10 ^ (a.exp + 9000).toNat : Nat) : Int) * ((10 ^ (b.exp + 9000).toNat : Nat) : Int) := by
    have hn := nine_eq
    unfold e9
    rw [← Int.natCast_mul, ← Int.natCast_mul, ← Nat.pow_add, ← Nat.pow_add]
    congr 2
    omega
  rw [Int.mul_assoc, e]
  simp only [Int.mul_assoc, Int.mul_left_comm]

theorem wD_fin {d : DecT} (h : d.cls = 0) : wD d = vD d := by unfold wD; rw [h]; simp

theorem ring_val {a b c : DecT} (ha : May a) (hb : May b) (hc : May c) (ca : a.cls = 0) (cb : b.cls = 0) (cc : c.cls = 0) (i : (sumT b c).2 = 0) (j : (prodT a (sumT b c).1).2 = 0) (g : (prodT a b).2 = 0) (k : (prodT a c).2 = 0) (m : (sumT (prodT a b).1 (prodT a c).1).2 = 0) :
    cmpI (wD (prodT a (sumT b c).1).1) (wD (sumT (prodT a b).1 (prodT a c).1).1) = 0 := by
  obtain ⟨s1, s2⟩ := sum_val hb hc cb cc i
  obtain ⟨l1, l2⟩ := prod_val ha (sumT_may b c hb hc) ca s2 j
  obtain ⟨z1, z2⟩ := prod_val ha hb ca cb g
  obtain ⟨k1, k2⟩ := prod_val ha hc ca cc k
  obtain ⟨r1, r2⟩ := sum_val (prodT_may a b) (prodT_may a c) z2 k2 m
  rw [wD_fin l2, wD_fin r2]
  have e : vD (prodT a (sumT b c).1).1 * (e9 : Int) = vD (sumT (prodT a b).1 (prodT a c).1).1 * (e9 : Int) := by
    rw [l1, s1, r1, Int.add_mul, z1, k1, Int.mul_add]
  have e2 := cmpI_mul (vD (prodT a (sumT b c).1).1) (vD (sumT (prodT a b).1 (prodT a c).1).1) e9_pos
  rw [← e2, e, cmpI_self]

/-- What Add answers of any two Decs. -/
theorem add_ex (ca : Int) (na : Bool) (ta : ByteArray) (ea : Int) (cb : Int) (nb : Bool) (tb : ByteArray) (eb : Int) : ∃ r : DecT × Int, (∀ W, Tab W → Calls Tryz.prog 28 #[dcV ca na ta ea, dcV cb nb tb eb] W fun e w' => e = .returned (decErr r) ∧ Below W.heap.size W w') ∧ May r.1 ∧
    ((MayD ca na (bys ta) ea ∧ MayD cb nb (bys tb) eb ∧ r = sumT ⟨ca.toNat, na, bys ta, ea⟩ ⟨cb.toNat, nb, bys tb, eb⟩) ∨ (¬ (MayD ca na (bys ta) ea ∧ MayD cb nb (bys tb) eb) ∧ r = (⟨0, false, [], 0⟩, 52))) := by
  by_cases ha : MayD ca na (bys ta) ea
  · by_cases hb : MayD cb nb (bys tb) eb
    · refine ⟨_, fun W hW => ?_, sumT_may _ _ (mayD_d ha) (mayD_d hb), .inl ⟨ha, hb, rfl⟩⟩
      rw [dcV_d ca na ta ea (mayD_nn ha), dcV_d cb nb tb eb (mayD_nn hb)]
      exact Add_d _ _ (mayD_d ha) (mayD_d hb) W hW
    · exact ⟨(⟨0, false, [], 0⟩, 52), fun W _ => Add_no2 ca na ta ea cb nb tb eb W ha hb, may_zero false, .inr ⟨fun e => hb e.2, rfl⟩⟩
  · exact ⟨(⟨0, false, [], 0⟩, 52), fun W _ => Add_no1 ca na ta ea cb nb tb eb W ha, may_zero false, .inr ⟨fun e => ha e.1, rfl⟩⟩

theorem mul_ex (ca : Int) (na : Bool) (ta : ByteArray) (ea : Int) (cb : Int) (nb : Bool) (tb : ByteArray) (eb : Int) : ∃ r : DecT × Int, (∀ W, Tab W → Calls Tryz.prog 30 #[dcV ca na ta ea, dcV cb nb tb eb] W fun e w' => e = .returned (decErr r) ∧ Below W.heap.size W w') ∧ May r.1 ∧
    ((MayD ca na (bys ta) ea ∧ MayD cb nb (bys tb) eb ∧ r = prodT ⟨ca.toNat, na, bys ta, ea⟩ ⟨cb.toNat, nb, bys tb, eb⟩) ∨ (¬ (MayD ca na (bys ta) ea ∧ MayD cb nb (bys tb) eb) ∧ r = (⟨0, false, [], 0⟩, 52))) := by
  by_cases ha : MayD ca na (bys ta) ea
  · by_cases hb : MayD cb nb (bys tb) eb
    · refine ⟨_, fun W hW => ?_, prodT_may _ _, .inl ⟨ha, hb, rfl⟩⟩
      rw [dcV_d ca na ta ea (mayD_nn ha), dcV_d cb nb tb eb (mayD_nn hb)]
      exact Mul_d _ _ (mayD_d ha) (mayD_d hb) W hW
    · exact ⟨(⟨0, false, [], 0⟩, 52), fun W _ => Mul_no2 ca na ta ea cb nb tb eb W ha hb, may_zero false, .inr ⟨fun e => hb e.2, rfl⟩⟩
  · exact ⟨(⟨0, false, [], 0⟩, 52), fun W _ => Mul_no1 ca na ta ea cb nb tb eb W ha, may_zero false, .inr ⟨fun e => ha e.1, rfl⟩⟩

end Go.Proofs.YtafljhfamjabeaaGreatDoor
