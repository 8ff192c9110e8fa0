/-
  What dec's sums and products of numbers that may be are.
  Plain mathematics, and what follows for dec's Add, Mul, Cmp and Neg of any two Decs: sums and products are worth what they say.
  What DecOrder wants of the order.
-/
import Derived.Test.YtifpacgacbpalabGreatDoorDAdd
import Derived.Test.YtifpacgacbpalabGreatDoorDMul
import Derived.Test.YtifpacgacbpalabGreatDoorDCmp
import Derived.Test.YtifpacgacbpalabGreatDoorDPrint
namespace Go.Proofs.YtifpacgacbpalabGreatDoor
open Go.RowKit

/-- A finite number, counted in 10^x. -/
def zc (d : DecT) (x : Int) : Int := zv d.neg (decV d.dig * 10 ^ (d.exp - x).toNat)

def nanD : DecT := ⟨2, false, [], 0⟩

/-- What Add answers of two that may be. -/
noncomputable def sumT (a b : DecT) : DecT × Int :=
  if a.cls = 0 ∧ b.cls = 0 then tellF (decide (zc a (min a.exp b.exp) + zc b (min a.exp b.exp) < 0) || (a.neg && b.neg)) (zc a (min a.exp b.exp) + zc b (min a.exp b.exp)).natAbs (min a.exp b.exp)
  else if a.cls = 2 ∨ b.cls = 2 then (nanD, 0)
  else if b.cls = 0 then (a, 0)
  else if a.cls = 0 then (b, 0)
  else if a.neg = b.neg then (a, 0) else (nanD, 0)

/-- What Mul answers of two that may be. -/
noncomputable def prodT (a b : DecT) : DecT × Int :=
  if a.cls = 0 ∧ b.cls = 0 then tellF (a.neg != b.neg) (decV a.dig * decV b.dig) (a.exp + b.exp)
  else if a.cls = 2 ∨ b.cls = 2 ∨ (a.cls = 0 ∧ a.dig = []) ∨ (b.cls = 0 ∧ b.dig = []) then (nanD, 0)
  else (⟨1, a.neg != b.neg, [], 0⟩, 0)

/-- A finite one that may be. -/
structure Fz (d : DecT) : Prop where
  cls : d.cls = 0
  len : d.dig.length ≤ 1000
  lo : -3000 ≤ d.exp
  hi : d.exp ≤ 2000
  dig : DigB d.dig

theorem may_fz {d : DecT} (h : May d) (hc : d.cls = 0) : Fz d := by
  rcases may_cases h with ⟨n, rfl⟩ | h | ⟨n, rfl⟩ | rfl
  · exact ⟨rfl, by simp, by simp, by simp, fun k hk => by simp at hk⟩
  · have h1 := h.len
    have h2 := h.lo
    have h3 := h.hi
    exact ⟨h.cls, h1, by omega, by omega, h.dig⟩
  · cases hc
  · cases hc

theorem decVal_0 {d : DecT} (h : d.cls = 0) : decVal d = dcV 0 d.neg ⟨d.dig.toArray⟩ d.exp := by unfold decVal; rw [h]; rfl

theorem zc_lt {d : DecT} (h : Fz d) {x : Int} (hx : -3000 ≤ x) : ∃ k, k ≤ 6000 ∧ (zc d x).natAbs < 10 ^ k := by
  unfold zc
  rw [zv_abs]
  have h1 := decV_lt _ d.dig rfl h.dig
  have h2 : decV d.dig * 10 ^ (d.exp - x).toNat < 10 ^ d.dig.length * 10 ^ (d.exp - x).toNat := Nat.mul_lt_mul_of_pos_right h1 (Nat.pow_pos (by omega))
  rw [← Nat.pow_add] at h2
  refine ⟨d.dig.length + (d.exp - x).toNat, ?_, h2⟩
  have := h.len
  have := h.hi
  omega

theorem zc_sm {d : DecT} (h : Fz d) {x : Int} (hx : -3000 ≤ x) : Sm (zc d x).natAbs := by
  obtain ⟨k, h1, h2⟩ := zc_lt h hx
  exact Sm.of h2 (by omega)

theorem lt_sum {x y a b : Nat} (h1 : x < 10 ^ a) (h2 : y < 10 ^ b) : x + y < 10 ^ (max a b + 1) := by
  have p1 : 10 ^ a ≤ 10 ^ max a b := Nat.pow_le_pow_right (by omega) (by omega)
  have p2 : 10 ^ b ≤ 10 ^ max a b := Nat.pow_le_pow_right (by omega) (by omega)
  rw [Nat.pow_succ]
  omega

theorem lt_prod {x y a b : Nat} (h1 : x < 10 ^ a) (h2 : y < 10 ^ b) : x * y < 10 ^ (a + b + 1) := by
  have q3 : x * y ≤ 10 ^ a * 10 ^ b := Nat.mul_le_mul (by omega) (by omega)
  rw [← Nat.pow_add] at q3
  exact Nat.lt_of_le_of_lt q3 (Nat.pow_lt_pow_right (by omega) (by omega))

theorem counted_d (d : DecT) (x : Int) (hm : May d) (hc : d.cls = 0) (h1 : -3000 ≤ x) (h2 : x ≤ d.exp) (W : World) : Calls Tryz.prog 39 #[dcV 0 d.neg ⟨d.dig.toArray⟩ d.exp, .int .i64 x] W (ZtPost W (zc d x)) := by
  have fz := may_fz hm hc
  rcases may_cases hm with ⟨n, rfl⟩ | h | ⟨n, rfl⟩ | rfl
  · have e : zc ⟨0, n, [], 0⟩ x = 0 := by unfold zc; simp [decV, zv]
    rw [e]
    exact counted_nil n 0 x W
  · have s1 : (⟨d.dig.toArray⟩ : ByteArray).size = d.dig.length := size_mk0 _
    have sm := zc_sm fz h1
    unfold zc at sm ⊢
    rw [zv_abs] at sm
    have p := List.length_pos_iff.2 h.ne
    have l := h.len
    have hi := fz.hi
    have g := counted_fin d.neg ⟨d.dig.toArray⟩ d.exp x (d.exp - x).toNat W (by rw [s1]; omega) (by rw [s1]; exact l) (by rw [bys_mk]; exact h.okT) (by rw [bys_mk]; exact h.first) (by omega) (by omega) (by rw [bys_mk]; exact sm)
    rw [bys_mk] at g
    exact g
  · cases hc
  · cases hc

theorem dd_few {N k : Nat} (h : N < 10 ^ k) (hk : 1 ≤ k) : (Lib.decDigits N).length ≤ k := sizeN_le h hk

theorem sum_d (a b : DecT) (ha : May a) (hb : May b) (ca : a.cls = 0) (cb : b.cls = 0) (w : World) (htab : Tab w) :
    Calls Tryz.prog 22 #[dcV 0 a.neg ⟨a.dig.toArray⟩ a.exp, dcV 0 b.neg ⟨b.dig.toArray⟩ b.exp] w fun e w' => e = .returned (decErr (sumT a b)) ∧ Below w.heap.size w w' := by
  have fa := may_fz ha ca
  have fb := may_fz hb cb
  have x1 : -3000 ≤ min a.exp b.exp := by have := fa.lo; have := fb.lo; omega
  unfold sumT
  rw [if_pos ⟨ca, cb⟩]
  have la := fa.lo
  have lb := fb.lo
  have ha2 := fa.hi
  have hb2 := fb.hi
  obtain ⟨k1, l1, l2⟩ := zc_lt fa x1
  obtain ⟨k2, m1, m2⟩ := zc_lt fb x1
  refine sum_gen a.neg ⟨a.dig.toArray⟩ a.exp b.neg ⟨b.dig.toArray⟩ b.exp _ _ w (fun W => counted_d a _ ha ca x1 (by omega) W) (fun W => counted_d b _ hb cb x1 (by omega) W) (zc_sm fa x1) (zc_sm fb x1) htab ?_ ⟨by omega, by omega, by omega, by omega⟩
  refine Nat.le_trans (dd_few (Nat.lt_of_le_of_lt (Int.natAbs_add_le _ _) (lt_sum l2 m2)) (by omega)) (by omega)

theorem prod_d (a b : DecT) (ha : May a) (hb : May b) (ca : a.cls = 0) (cb : b.cls = 0) (w : World) (htab : Tab w) :
    Calls Tryz.prog 23 #[.bool (a.neg != b.neg), dcV 0 a.neg ⟨a.dig.toArray⟩ a.exp, dcV 0 b.neg ⟨b.dig.toArray⟩ b.exp] w fun e w' => e = .returned (decErr (prodT a b)) ∧ Below w.heap.size w w' := by
  have fa := may_fz ha ca
  have fb := may_fz hb cb
  unfold prodT
  rw [if_pos ⟨ca, cb⟩]
  have la := fa.lo
  have lb := fb.lo
  have ha2 := fa.hi
  have hb2 := fb.hi
  have za : (zc a a.exp).natAbs = decV a.dig := by unfold zc; rw [zv_abs, Int.sub_self]; simp
  have zb : (zc b b.exp).natAbs = decV b.dig := by unfold zc; rw [zv_abs, Int.sub_self]; simp
  have g := prod_gen (a.neg != b.neg) a.neg ⟨a.dig.toArray⟩ a.exp b.neg ⟨b.dig.toArray⟩ b.exp _ _ w (fun W => counted_d a _ ha ca la (by omega) W) (fun W => counted_d b _ hb cb lb (by omega) W) (zc_sm fa la) (zc_sm fb lb) htab ?_ ⟨by omega, by omega, by omega, by omega⟩
  · rw [za, zb] at g
    exact g
  · rw [za, zb]
    have p1 := decV_lt _ a.dig rfl fa.dig
    have p2 := decV_lt _ b.dig rfl fb.dig
    have q1 := fa.len
    have q2 := fb.len
    exact Nat.le_trans (dd_few (lt_prod p1 p2) (by omega)) (by omega)

theorem mayd {d : DecT} (h : May d) : MayD (d.cls : Int) d.neg (bys ⟨d.dig.toArray⟩) d.exp := by rw [bys_mk]; exact h

theorem Add_d (a b : DecT) (ha : May a) (hb : May b) (w : World) (htab : Tab w) : Calls Tryz.prog 11 #[decVal a, decVal b] w fun e w' => e = .returned (decErr (sumT a b)) ∧ Below w.heap.size w w' := by
  by_cases ca : a.cls = 0
  · by_cases cb : b.cls = 0
    · have ma := mayd ha
      have mb := mayd hb
      rw [ca] at ma
      rw [cb] at mb
      rw [decVal_0 ca, decVal_0 cb]
      exact Add_ff a.neg ⟨a.dig.toArray⟩ a.exp b.neg ⟨b.dig.toArray⟩ b.exp w ma mb _ htab (fun W hW => sum_d a b ha hb ca cb W hW)
    · have ma := mayd ha
      have mb := mayd hb
      rw [ca] at ma
      rw [decVal_0 ca]
      unfold sumT
      rw [if_neg (fun e => cb e.2)]
      rcases may_cases hb with ⟨n, rfl⟩ | h | ⟨n, rfl⟩ | rfl
      · exact absurd rfl cb
      · exact absurd h.cls cb
      · rw [if_neg (by simp [ca]), if_neg (by simp), if_pos ca]
        exact Add_fi a.neg ⟨a.dig.toArray⟩ a.exp n w ma mb
      · rw [if_pos (by simp)]
        exact Add_fn a.neg ⟨a.dig.toArray⟩ a.exp w ma mb
  · have ma := mayd ha
    have mb := mayd hb
    unfold sumT
    rw [if_neg (fun e => ca e.1)]
    rcases may_cases ha with ⟨n, rfl⟩ | h | ⟨n, rfl⟩ | rfl
    · exact absurd rfl ca
    · exact absurd h.cls ca
    · by_cases cb : b.cls = 0
      · rw [if_neg (by simp [cb]), if_pos cb, decVal_0 cb]
        rw [cb] at mb
        exact Add_if n b.neg ⟨b.dig.toArray⟩ b.exp w ma mb
      · rcases may_cases hb with ⟨m, rfl⟩ | h | ⟨m, rfl⟩ | rfl
        · exact absurd rfl cb
        · exact absurd h.cls cb
        · rw [if_neg (by simp), if_neg (by simp), if_neg (by simp)]
          cases n <;> cases m
          · exact Add_ii_false_false w ma mb
          · exact Add_ii_false_true w ma mb
          · exact Add_ii_true_false w ma mb
          · exact Add_ii_true_true w ma mb
        · rw [if_pos (by simp)]
          exact Add_in n w ma mb
    · rw [if_pos (by simp)]
      by_cases cb : b.cls = 0
      · rw [decVal_0 cb]
        rw [cb] at mb
        exact Add_nf b.neg ⟨b.dig.toArray⟩ b.exp w ma mb
      · rcases may_cases hb with ⟨m, rfl⟩ | h | ⟨m, rfl⟩ | rfl
        · exact absurd rfl cb
        · exact absurd h.cls cb
        · exact Add_ni m w ma mb
        · exact Add_nn w ma mb

theorem Mul_d (a b : DecT) (ha : May a) (hb : May b) (w : World) (htab : Tab w) : Calls Tryz.prog 12 #[decVal a, decVal b] w fun e w' => e = .returned (decErr (prodT a b)) ∧ Below w.heap.size w w' := by
  by_cases ca : a.cls = 0
  · by_cases cb : b.cls = 0
    · have ma := mayd ha
      have mb := mayd hb
      rw [ca] at ma
      rw [cb] at mb
      rw [decVal_0 ca, decVal_0 cb]
      exact Mul_ff a.neg ⟨a.dig.toArray⟩ a.exp b.neg ⟨b.dig.toArray⟩ b.exp w ma mb _ htab (fun W hW => prod_d a b ha hb ca cb W hW)
    · have ma := mayd ha
      have mb := mayd hb
      unfold prodT
      rw [if_neg (fun e => cb e.2)]
      rcases may_cases hb with ⟨n, rfl⟩ | h | ⟨n, rfl⟩ | rfl
      · exact absurd rfl cb
      · exact absurd h.cls cb
      · rcases may_cases ha with ⟨m, rfl⟩ | h | ⟨m, rfl⟩ | rfl
        · rw [if_pos (by simp)]
          exact Mul_zi m n w ma mb
        · rw [if_neg (by simp [ca, h.ne]), decVal_0 ca]
          rw [ca] at ma
          exact Mul_fi a.neg ⟨a.dig.toArray⟩ a.exp n w ma mb (by rw [size_mk0]; exact fun e => h.ne (List.length_eq_zero_iff.1 e))
        · cases ca
        · cases ca
      · rw [if_pos (by simp), decVal_0 ca]
        rw [ca] at ma
        exact Mul_fn a.neg ⟨a.dig.toArray⟩ a.exp w ma mb
  · have ma := mayd ha
    have mb := mayd hb
    unfold prodT
    rw [if_neg (fun e => ca e.1)]
    rcases may_cases ha with ⟨n, rfl⟩ | h | ⟨n, rfl⟩ | rfl
    · exact absurd rfl ca
    · exact absurd h.cls ca
    · rcases may_cases hb with ⟨m, rfl⟩ | h | ⟨m, rfl⟩ | rfl
      · rw [if_pos (by simp)]
        exact Mul_iz n m w ma mb
      · have cb := h.cls
        rw [if_neg (by simp [cb, h.ne]), decVal_0 cb]
        rw [cb] at mb
        exact Mul_if n b.neg ⟨b.dig.toArray⟩ b.exp w ma mb (by rw [size_mk0]; exact fun e => h.ne (List.length_eq_zero_iff.1 e))
      · rw [if_neg (by simp)]
        exact Mul_ii n m w ma mb
      · rw [if_pos (by simp)]
        exact Mul_in n w ma mb
    · rw [if_pos (by simp)]
      by_cases cb : b.cls = 0
      · rw [decVal_0 cb]
        rw [cb] at mb
        exact Mul_nf b.neg ⟨b.dig.toArray⟩ b.exp w ma mb
      · rcases may_cases hb with ⟨m, rfl⟩ | h | ⟨m, rfl⟩ | rfl
        · exact absurd rfl cb
        · exact absurd h.cls cb
        · exact Mul_ni m w ma mb
        · exact Mul_nn w ma mb

end Go.Proofs.YtifpacgacbpalabGreatDoor

namespace Go.Proofs.YtifpacgacbpalabGreatDoor
open Go.RowKit

theorem sumT_comm (a b : DecT) (ha : May a) (hb : May b) : sumT a b = sumT b a := by
  unfold sumT
  by_cases h : a.cls = 0 ∧ b.cls = 0
  · rw [if_pos h, if_pos ⟨h.2, h.1⟩, Int.min_comm b.exp, Int.add_comm (zc b _), Bool.and_comm b.neg]
  · rw [if_neg h, if_neg (show ¬ (b.cls = 0 ∧ a.cls = 0) from fun e => h ⟨e.2, e.1⟩)]
    by_cases h2 : a.cls = 2 ∨ b.cls = 2
    · rw [if_pos h2, if_pos h2.symm]
    · rw [if_neg h2, if_neg (show ¬ (b.cls = 2 ∨ a.cls = 2) from fun e => h2 e.symm)]
      by_cases ha0 : a.cls = 0
      · have hb0 : ¬ b.cls = 0 := fun e => h ⟨ha0, e⟩
        rw [if_neg hb0, if_pos ha0, if_pos ha0]
      · by_cases hb0 : b.cls = 0
        · rw [if_pos hb0, if_neg ha0, if_pos hb0]
        · rw [if_neg hb0, if_neg ha0, if_neg ha0, if_neg hb0]
          rcases may_cases ha with ⟨n, rfl⟩ | f | ⟨n, rfl⟩ | rfl
          · exact absurd rfl ha0
          · exact absurd f.cls ha0
          · rcases may_cases hb with ⟨m, rfl⟩ | f | ⟨m, rfl⟩ | rfl
            · exact absurd rfl hb0
            · exact absurd f.cls hb0
            · cases n <;> cases m <;> rfl
            · exact absurd (.inr rfl) h2
          · exact absurd (.inl rfl) h2

theorem bne_comm' (x y : Bool) : (x != y) = (y != x) := by cases x <;> cases y <;> rfl

theorem prodT_comm (a b : DecT) : prodT a b = prodT b a := by
  unfold prodT
  by_cases h : a.cls = 0 ∧ b.cls = 0
  · rw [if_pos h, if_pos ⟨h.2, h.1⟩, Nat.mul_comm (decV b.dig), Int.add_comm b.exp, bne_comm' b.neg]
  · rw [if_neg h, if_neg (show ¬ (b.cls = 0 ∧ a.cls = 0) from fun e => h ⟨e.2, e.1⟩), bne_comm' b.neg]
    by_cases h2 : a.cls = 2 ∨ b.cls = 2 ∨ (a.cls = 0 ∧ a.dig = []) ∨ (b.cls = 0 ∧ b.dig = [])
    · rw [if_pos h2, if_pos]
      rcases h2 with h | h | h | h
      · exact .inr (.inl h)
      · exact .inl h
      · exact .inr (.inr (.inr h))
      · exact .inr (.inr (.inl h))
    · rw [if_neg h2, if_neg]
      intro e
      apply h2
      rcases e with h | h | h | h
      · exact .inr (.inl h)
      · exact .inl h
      · exact .inr (.inr (.inr h))
      · exact .inr (.inr (.inl h))

theorem tellF_may (neg : Bool) (N : Nat) (e : Int) : May (tellF neg N e).1 := by
  by_cases h : May (finD neg N e)
  · rw [tellF_yes h]; exact h
  · rw [tellF_no h]; exact may_zero false

theorem sumT_may (a b : DecT) (ha : May a) (hb : May b) : May (sumT a b).1 := by
  unfold sumT
  split
  · exact tellF_may _ _ _
  · split
    · exact .inr (.inr ⟨rfl, rfl, rfl, rfl⟩)
    · split
      · exact ha
      · split
        · exact hb
        · split
          · exact ha
          · exact .inr (.inr ⟨rfl, rfl, rfl, rfl⟩)

theorem prodT_may (a b : DecT) : May (prodT a b).1 := by
  unfold prodT
  split
  · exact tellF_may _ _ _
  · split
    · exact .inr (.inr ⟨rfl, rfl, rfl, rfl⟩)
    · exact .inr (.inl ⟨rfl, rfl, rfl⟩)

theorem tellF_val {neg : Bool} {N : Nat} {e : Int} (he : -9000 ≤ e) (h : (tellF neg N e).2 = 0) : vD (tellF neg N e).1 = zD neg N * ((10 ^ (e + 9000).toNat : Nat) : Int) ∧ (tellF neg N e).1.cls = 0 := by
  by_cases hm : May (finD neg N e)
  · rw [tellF_yes hm]
    exact ⟨vD_fin he, finD_cls _ _ _⟩
  · rw [tellF_no hm] at h; cases h

theorem zc_val (d : DecT) {x : Int} (h1 : -3000 ≤ x) (h2 : x ≤ d.exp) : zc d x * ((10 ^ (x + 9000).toNat : Nat) : Int) = vD d := by
  unfold zc vD amt
  show zD d.neg _ * _ = _
  rw [← zD_mul, Nat.mul_assoc, ← Nat.pow_add]
  congr 3
  omega

theorem sum_val {a b : DecT} (ha : May a) (hb : May b) (ca : a.cls = 0) (cb : b.cls = 0) (h : (sumT a b).2 = 0) : vD (sumT a b).1 = vD a + vD b ∧ (sumT a b).1.cls = 0 := by
  have fa := may_fz ha ca
  have fb := may_fz hb cb
  have x1 : -3000 ≤ min a.exp b.exp := by have := fa.lo; have := fb.lo; omega
  have va := zc_val a x1 (Int.min_le_left _ _)
  have vb := zc_val b x1 (Int.min_le_right _ _)
  unfold sumT at h ⊢
  rw [if_pos ⟨ca, cb⟩] at h ⊢
  obtain ⟨q1, q2⟩ := tellF_val (by omega) h
  refine ⟨?_, q2⟩
  rw [q1, ← va, ← vb, ← Int.add_mul]
  congr 1
  have zz : ∀ (d : DecT) (x : Int), d.neg = true → zc d x ≤ 0 := by
    intro d x hn; unfold zc zv; rw [hn]; simp only [if_true]; omega
  generalize ea : zc a (min a.exp b.exp) = A at *
  generalize eb : zc b (min a.exp b.exp) = B at *
  by_cases hneg : A + B < 0
  · rw [decide_eq_true hneg, Bool.true_or]
    simp only [zD, if_true]; omega
  · rw [decide_eq_false hneg, Bool.false_or]
    by_cases hs : (a.neg && b.neg) = true
    · have h1 : a.neg = true := by revert hs; cases a.neg <;> simp
      have h2 : b.neg = true := by revert hs; cases a.neg <;> cases b.neg <;> simp
      have p1 := zz a (min a.exp b.exp) h1
      have p2 := zz b (min a.exp b.exp) h2
      rw [ea] at p1
      rw [eb] at p2
      rw [hs]
      simp only [zD, if_true]; omega
    · have : (a.neg && b.neg) = false := by revert hs; cases (a.neg && b.neg) <;> simp
      rw [this]
      simp only [zD, Bool.false_eq_true, if_false]; omega

theorem zD_bne (x y : Bool) (m n : Nat) : zD (x != y) (m * n) = zD x m * zD y n := by
  cases x <;> cases y <;> simp [zD, Int.neg_mul, Int.mul_neg]

def nine : Nat := 9000
theorem nine_eq : nine = 9000 := rfl
def e9 : Nat := 10 ^ nine
theorem e9_pos : 0 < e9 := Nat.pow_pos (by omega)

theorem prod_val {a b : DecT} (ha : May a) (hb : May b) (ca : a.cls = 0) (cb : b.cls = 0) (h : (prodT a b).2 = 0) : vD (prodT a b).1 * (e9 : Int) = vD a * vD b ∧ (prodT a b).1.cls = 0 := by
  have fa := may_fz ha ca
  have fb := may_fz hb cb
  have la := fa.lo
  have lb := fb.lo
  unfold prodT at h ⊢
  rw [if_pos ⟨ca, cb⟩] at h ⊢
  obtain ⟨q1, q2⟩ := tellF_val (by omega) h
  refine ⟨?_, q2⟩
  rw [q1, zD_bne]
  unfold vD amt
  rw [zD_mul, zD_mul]
  have e : ((10 ^ (a.exp + b.exp + 9000).toNat : Nat) : Int) * (e9 : Int) = ((10 ^ (a.exp + 9000).toNat : Nat) : Int) * ((10 ^ (b.exp + 9000).toNat : Nat) : Int) := by
    have hn := nine_eq
    unfold e9
    rw [← Int.natCast_mul, ← Int.natCast_mul, ← Nat.pow_add, ← Nat.pow_add]
    congr 2
    omega
  rw [Int.mul_assoc, e]
  simp only [Int.mul_assoc, Int.mul_left_comm]

theorem wD_fin {d : DecT} (h : d.cls = 0) : wD d = vD d := by unfold wD; rw [h]; simp

theorem ring_val {a b c : DecT} (ha : May a) (hb : May b) (hc : May c) (ca : a.cls = 0) (cb : b.cls = 0) (cc : c.cls = 0) (i : (sumT b c).2 = 0) (j : (prodT a (sumT b c).1).2 = 0) (g : (prodT a b).2 = 0) (k : (prodT a c).2 = 0) (m : (sumT (prodT a b).1 (prodT a c).1).2 = 0) :
    cmpI (wD (prodT a (sumT b c).1).1) (wD (sumT (prodT a b).1 (prodT a c).1).1) = 0 := by
  obtain ⟨s1, s2⟩ := sum_val hb hc cb cc i
  obtain ⟨l1, l2⟩ := prod_val ha (sumT_may b c hb hc) ca s2 j
  obtain ⟨z1, z2⟩ := prod_val ha hb ca cb g
  obtain ⟨k1, k2⟩ := prod_val ha hc ca cc k
  obtain ⟨r1, r2⟩ := sum_val (prodT_may a b) (prodT_may a c) z2 k2 m
  rw [wD_fin l2, wD_fin r2]
  have e : vD (prodT a (sumT b c).1).1 * (e9 : Int) = vD (sumT (prodT a b).1 (prodT a c).1).1 * (e9 : Int) := by
    rw [l1, s1, r1, Int.add_mul, z1, k1, Int.mul_add]
  have e2 := cmpI_mul (vD (prodT a (sumT b c).1).1) (vD (sumT (prodT a b).1 (prodT a c).1).1) e9_pos
  rw [← e2, e, cmpI_self]

/-- What Add answers of any two Decs. -/
theorem add_ex (ca : Int) (na : Bool) (ta : ByteArray) (ea : Int) (cb : Int) (nb : Bool) (tb : ByteArray) (eb : Int) : ∃ r : DecT × Int, (∀ W, Tab W → Calls Tryz.prog 11 #[dcV ca na ta ea, dcV cb nb tb eb] W fun e w' => e = .returned (decErr r) ∧ Below W.heap.size W w') ∧ May r.1 ∧
    ((MayD ca na (bys ta) ea ∧ MayD cb nb (bys tb) eb ∧ r = sumT ⟨ca.toNat, na, bys ta, ea⟩ ⟨cb.toNat, nb, bys tb, eb⟩) ∨ (¬ (MayD ca na (bys ta) ea ∧ MayD cb nb (bys tb) eb) ∧ r = (⟨0, false, [], 0⟩, 52))) := by
  by_cases ha : MayD ca na (bys ta) ea
  · by_cases hb : MayD cb nb (bys tb) eb
    · refine ⟨_, fun W hW => ?_, sumT_may _ _ (mayD_d ha) (mayD_d hb), .inl ⟨ha, hb, rfl⟩⟩
      rw [dcV_d ca na ta ea (mayD_nn ha), dcV_d cb nb tb eb (mayD_nn hb)]
      exact Add_d _ _ (mayD_d ha) (mayD_d hb) W hW
    · exact ⟨(⟨0, false, [], 0⟩, 52), fun W _ => Add_no2 ca na ta ea cb nb tb eb W ha hb, may_zero false, .inr ⟨fun e => hb e.2, rfl⟩⟩
  · exact ⟨(⟨0, false, [], 0⟩, 52), fun W _ => Add_no1 ca na ta ea cb nb tb eb W ha, may_zero false, .inr ⟨fun e => ha e.1, rfl⟩⟩

theorem mul_ex (ca : Int) (na : Bool) (ta : ByteArray) (ea : Int) (cb : Int) (nb : Bool) (tb : ByteArray) (eb : Int) : ∃ r : DecT × Int, (∀ W, Tab W → Calls Tryz.prog 12 #[dcV ca na ta ea, dcV cb nb tb eb] W fun e w' => e = .returned (decErr r) ∧ Below W.heap.size W w') ∧ May r.1 ∧
    ((MayD ca na (bys ta) ea ∧ MayD cb nb (bys tb) eb ∧ r = prodT ⟨ca.toNat, na, bys ta, ea⟩ ⟨cb.toNat, nb, bys tb, eb⟩) ∨ (¬ (MayD ca na (bys ta) ea ∧ MayD cb nb (bys tb) eb) ∧ r = (⟨0, false, [], 0⟩, 52))) := by
  by_cases ha : MayD ca na (bys ta) ea
  · by_cases hb : MayD cb nb (bys tb) eb
    · refine ⟨_, fun W hW => ?_, prodT_may _ _, .inl ⟨ha, hb, rfl⟩⟩
      rw [dcV_d ca na ta ea (mayD_nn ha), dcV_d cb nb tb eb (mayD_nn hb)]
      exact Mul_d _ _ (mayD_d ha) (mayD_d hb) W hW
    · exact ⟨(⟨0, false, [], 0⟩, 52), fun W _ => Mul_no2 ca na ta ea cb nb tb eb W ha hb, may_zero false, .inr ⟨fun e => hb e.2, rfl⟩⟩
  · exact ⟨(⟨0, false, [], 0⟩, 52), fun W _ => Mul_no1 ca na ta ea cb nb tb eb W ha, may_zero false, .inr ⟨fun e => ha e.1, rfl⟩⟩

end Go.Proofs.YtifpacgacbpalabGreatDoor

namespace Go.Proofs.YtifpacgacbpalabGreatDoor
open Go.RowKit

theorem cmpI_anti (x y : Int) : cmpI x y = -(cmpI y x) := by
  unfold cmpI; by_cases h : x < y
  · rw [if_pos h, if_neg (by omega), if_pos h]
  · by_cases h2 : y < x
    · rw [if_neg h, if_pos h2, if_pos h2]; rfl
    · rw [if_neg h, if_neg h2, if_neg h2, if_neg h]; rfl
theorem cmpI_ge (x y : Int) : -1 ≤ cmpI x y := by unfold cmpI; (repeat' split) <;> omega
theorem cmpI_le1 (x y : Int) : cmpI x y ≤ 1 := by unfold cmpI; (repeat' split) <;> omega
theorem cmpI_le0 {x y : Int} (h : cmpI x y ≤ 0) : x ≤ y := by
  by_cases g : y < x
  · rw [cmpI_gt g] at h; omega
  · omega
theorem cmpI_gt0 {x y : Int} (h : 0 < cmpI x y) : y < x := by
  by_cases g : x < y
  · rw [cmpI_lt g] at h; omega
  · by_cases g2 : x = y
    · rw [g2, cmpI_self] at h; omega
    · omega
theorem cmpI_trans (x y z : Int) (h1 : cmpI x y ≤ 0) (h2 : cmpI y z ≤ 0) (h3 : 0 < cmpI x z) : False := by
  have a := cmpI_le0 h1
  have b := cmpI_le0 h2
  have c := cmpI_gt0 h3
  omega
theorem cmpI_add (x y z : Int) : cmpI (x + z) (y + z) = cmpI x y := by
  unfold cmpI
  by_cases h : x < y
  · rw [if_pos h, if_pos (by omega)]
  · rw [if_neg h, if_neg (by omega)]
    by_cases h2 : y < x
    · rw [if_pos h2, if_pos (by omega)]
    · rw [if_neg h2, if_neg (by omega)]
theorem zD_not (n : Bool) (k : Nat) : zD (!n) k = -(zD n k) := by cases n <;> simp [zD]

theorem neg_ex (a : DecT) (ha : May a) : ∃ m : DecT, (∀ W, Calls Tryz.prog 14 #[decVal a] W fun e w' => e = .returned (.tuple #[decVal m, .int .i64 0]) ∧ Below W.heap.size W w') ∧ May m ∧ (a.cls ≠ 2 → wD m = -(wD a)) := by
  by_cases h : a.cls = 2
  · rcases may_cases ha with ⟨neg, rfl⟩ | hf | ⟨neg, rfl⟩ | rfl
    · exact absurd h (by simp)
    · exact absurd h (by rw [hf.cls]; decide)
    · exact absurd h (by simp)
    · exact ⟨⟨2, false, [], 0⟩, fun W => Neg_nan W, ha, fun e => absurd rfl e⟩
  · refine ⟨⟨a.cls, !a.neg, a.dig, a.exp⟩, fun W => Neg_yes (a.cls : Int) a.neg ⟨a.dig.toArray⟩ a.exp W (by rw [bys_mk]; exact ha) (by omega), ?_, fun _ => ?_⟩
    · rcases may_cases ha with ⟨neg, rfl⟩ | hf | ⟨neg, rfl⟩ | rfl
      · exact may_zero _
      · exact Fin.may ⟨hf.cls, hf.ne, hf.len, hf.lo, hf.hi, hf.first, hf.last, hf.dig⟩
      · exact .inr (.inl ⟨rfl, rfl, rfl⟩)
      · exact absurd rfl h
    · unfold wD vD; simp only [h, if_false]; split
      · exact zD_not _ _
      · exact zD_not _ _

end Go.Proofs.YtifpacgacbpalabGreatDoor
