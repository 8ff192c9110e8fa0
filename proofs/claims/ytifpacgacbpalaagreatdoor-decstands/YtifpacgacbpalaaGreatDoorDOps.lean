/-
  What dec's sums and products of numbers that may be are.
-/
import Derived.Test.YtifpacgacbpalaaGreatDoorDAdd
import Derived.Test.YtifpacgacbpalaaGreatDoorDMul
namespace Go.Proofs.YtifpacgacbpalaaGreatDoor
open Go.RowKit

/-- A finite number, counted in 10^x. -/
def zc (d : DecT) (x : Int) : Int := zv d.neg (decV d.dig * 10 ^ (d.exp - x).toNat)

def nanD : DecT := ⟨2, false, [], 0⟩

/-- What Add answers of two that may be. -/
noncomputable def sumT (a b : DecT) : DecT × Int :=
  if a.cls = 0 ∧ b.cls = 0 then tellF (decide (zc a (min a.exp b.exp) + zc b (min a.exp b.exp) < 0) || (a.neg && b.neg)) (zc a (min a.exp b.exp) + zc b (min a.exp b.exp)).natAbs (min a.exp b.exp)
  else if a.cls = 2 ∨ b.cls = 2 then (nanD, 0)
  else if b.cls = 0 then (a, 0)
  else if a.cls = 0 then (b, 0)
  else if a.neg = b.neg then (a, 0) else (nanD, 0)

/-- What Mul answers of two that may be. -/
noncomputable def prodT (a b : DecT) : DecT × Int :=
  if a.cls = 0 ∧ b.cls = 0 then tellF (a.neg != b.neg) (decV a.dig * decV b.dig) (a.exp + b.exp)
  else if a.cls = 2 ∨ b.cls = 2 ∨ (a.cls = 0 ∧ a.dig = []) ∨ (b.cls = 0 ∧ b.dig = []) then (nanD, 0)
  else (⟨1, a.neg != b.neg, [], 0⟩, 0)

/-- A finite one that may be. -/
structure Fz (d : DecT) : Prop where
  cls : d.cls = 0
  len : d.dig.length ≤ 1000
  lo : -3000 ≤ d.exp
  hi : d.exp ≤ 2000
  dig : DigB d.dig

theorem may_fz {d : DecT} (h : May d) (hc : d.cls = 0) : Fz d := by
  rcases may_cases h with ⟨n, rfl⟩ | h | ⟨n, rfl⟩ | rfl
  · exact ⟨rfl, by simp, by simp, by simp, fun k hk => by simp at hk⟩
  · have h1 := h.len
    have h2 := h.lo
    have h3 := h.hi
    exact ⟨h.cls, h1, by omega, by omega, h.dig⟩
  · cases hc
  · cases hc

theorem decVal_0 {d : DecT} (h : d.cls = 0) : decVal d = dcV 0 d.neg ⟨d.dig.toArray⟩ d.exp := by unfold decVal; rw [h]; rfl

theorem zc_lt {d : DecT} (h : Fz d) {x : Int} (hx : -3000 ≤ x) : ∃ k, k ≤ 6000 ∧ (zc d x).natAbs < 10 ^ k := by
  unfold zc
  rw [zv_abs]
  have h1 := decV_lt _ d.dig rfl h.dig
  have h2 : decV d.dig * 10 ^ (d.exp - x).toNat < 10 ^ d.dig.length * 10 ^ (d.exp - x).toNat := Nat.mul_lt_mul_of_pos_right h1 (Nat.pow_pos (by omega))
  rw [← Nat.pow_add] at h2
  refine ⟨d.dig.length + (d.exp - x).toNat, ?_, h2⟩
  have := h.len
  have := h.hi
  omega

theorem zc_sm {d : DecT} (h : Fz d) {x : Int} (hx : -3000 ≤ x) : Sm (zc d x).natAbs := by
  obtain ⟨k, h1, h2⟩ := zc_lt h hx
  exact Sm.of h2 (by omega)

theorem lt_sum {x y a b : Nat} (h1 : x < 10 ^ a) (h2 : y < 10 ^ b) : x + y < 10 ^ (max a b + 1) := by
  have p1 : 10 ^ a ≤ 10 ^ max a b := Nat.pow_le_pow_right (by omega) (by omega)
  have p2 : 10 ^ b ≤ 10 ^ max a b := Nat.pow_le_pow_right (by omega) (by omega)
  rw [Nat.pow_succ]
  omega

theorem lt_prod {x y a b : Nat} (h1 : x < 10 ^ a) (h2 : y < 10 ^ b) : x * y < 10 ^ (a + b + 1) := by
  have q3 : x * y ≤ 10 ^ a * 10 ^ b := Nat.mul_le_mul (by omega) (by omega)
  rw [← Nat.pow_add] at q3
  exact Nat.lt_of_le_of_lt q3 (Nat.pow_lt_pow_right (by omega) (by omega))

theorem counted_d (d : DecT) (x : Int) (hm : May d) (hc : d.cls = 0) (h1 : -3000 ≤ x) (h2 : x ≤ d.exp) (W : World) : Calls Tryz.prog 68 #[dcV 0 d.neg ⟨d.dig.toArray⟩ d.exp, .int .i64 x] W (ZtPost W (zc d x)) := by
  have fz := may_fz hm hc
  rcases may_cases hm with ⟨n, rfl⟩ | h | ⟨n, rfl⟩ | rfl
  · have e : zc ⟨0, n, [], 0⟩ x = 0 := by unfold zc; simp [decV, zv]
    rw [e]
    exact counted_nil n 0 x W
  · have s1 : (⟨d.dig.toArray⟩ : ByteArray).size = d.dig.length := size_mk0 _
    have sm := zc_sm fz h1
    unfold zc at sm ⊢
    rw [zv_abs] at sm
    have p := List.length_pos_iff.2 h.ne
    have l := h.len
    have hi := fz.hi
    have g := counted_fin d.neg ⟨d.dig.toArray⟩ d.exp x (d.exp - x).toNat W (by rw [s1]; omega) (by rw [s1]; exact l) (by rw [bys_mk]; exact h.okT) (by rw [bys_mk]; exact h.first) (by omega) (by omega) (by rw [bys_mk]; exact sm)
    rw [bys_mk] at g
    exact g
  · cases hc
  · cases hc

theorem dd_few {N k : Nat} (h : N < 10 ^ k) (hk : 1 ≤ k) : (Lib.decDigits N).length ≤ k := sizeN_le h hk

theorem sum_d (a b : DecT) (ha : May a) (hb : May b) (ca : a.cls = 0) (cb : b.cls = 0) (w : World) (htab : Tab w) :
    Calls Tryz.prog 42 #[dcV 0 a.neg ⟨a.dig.toArray⟩ a.exp, dcV 0 b.neg ⟨b.dig.toArray⟩ b.exp] w fun e w' => e = .returned (decErr (sumT a b)) ∧ Below w.heap.size w w' := by
  have fa := may_fz ha ca
  have fb := may_fz hb cb
  have x1 : -3000 ≤ min a.exp b.exp := by have := fa.lo; have := fb.lo; omega
  unfold sumT
  rw [if_pos ⟨ca, cb⟩]
  have la := fa.lo
  have lb := fb.lo
  have ha2 := fa.hi
  have hb2 := fb.hi
  obtain ⟨k1, l1, l2⟩ := zc_lt fa x1
  obtain ⟨k2, m1, m2⟩ := zc_lt fb x1
  refine sum_gen a.neg ⟨a.dig.toArray⟩ a.exp b.neg ⟨b.dig.toArray⟩ b.exp _ _ w (fun W => counted_d a _ ha ca x1 (by omega) W) (fun W => counted_d b _ hb cb x1 (by omega) W) (zc_sm fa x1) (zc_sm fb x1) htab ?_ ⟨by omega, by omega, by omega, by omega⟩
  refine Nat.le_trans (dd_few (Nat.lt_of_le_of_lt (Int.natAbs_add_le _ _) (lt_sum l2 m2)) (by omega)) (by omega)

theorem prod_d (a b : DecT) (ha : May a) (hb : May b) (ca : a.cls = 0) (cb : b.cls = 0) (w : World) (htab : Tab w) :
    Calls Tryz.prog 45 #[.bool (a.neg != b.neg), dcV 0 a.neg ⟨a.dig.toArray⟩ a.exp, dcV 0 b.neg ⟨b.dig.toArray⟩ b.exp] w fun e w' => e = .returned (decErr (prodT a b)) ∧ Below w.heap.size w w' := by
  have fa := may_fz ha ca
  have fb := may_fz hb cb
  unfold prodT
  rw [if_pos ⟨ca, cb⟩]
  have la := fa.lo
  have lb := fb.lo
  have ha2 := fa.hi
  have hb2 := fb.hi
  have za : (zc a a.exp).natAbs = decV a.dig := by unfold zc; rw [zv_abs, Int.sub_self]; simp
  have zb : (zc b b.exp).natAbs = decV b.dig := by unfold zc; rw [zv_abs, Int.sub_self]; simp
  have g := prod_gen (a.neg != b.neg) a.neg ⟨a.dig.toArray⟩ a.exp b.neg ⟨b.dig.toArray⟩ b.exp _ _ w (fun W => counted_d a _ ha ca la (by omega) W) (fun W => counted_d b _ hb cb lb (by omega) W) (zc_sm fa la) (zc_sm fb lb) htab ?_ ⟨by omega, by omega, by omega, by omega⟩
  · rw [za, zb] at g
    exact g
  · rw [za, zb]
    have p1 := decV_lt _ a.dig rfl fa.dig
    have p2 := decV_lt _ b.dig rfl fb.dig
    have q1 := fa.len
    have q2 := fb.len
    exact Nat.le_trans (dd_few (lt_prod p1 p2) (by omega)) (by omega)

theorem mayd {d : DecT} (h : May d) : MayD (d.cls : Int) d.neg (bys ⟨d.dig.toArray⟩) d.exp := by rw [bys_mk]; exact h

theorem Add_d (a b : DecT) (ha : May a) (hb : May b) (w : World) (htab : Tab w) : Calls Tryz.prog 24 #[decVal a, decVal b] w fun e w' => e = .returned (decErr (sumT a b)) ∧ Below w.heap.size w w' := by
  by_cases ca : a.cls = 0
  · by_cases cb : b.cls = 0
    · have ma := mayd ha
      have mb := mayd hb
      rw [ca] at ma
      rw [cb] at mb
      rw [decVal_0 ca, decVal_0 cb]
      exact Add_ff a.neg ⟨a.dig.toArray⟩ a.exp b.neg ⟨b.dig.toArray⟩ b.exp w ma mb _ htab (fun W hW => sum_d a b ha hb ca cb W hW)
    · have ma := mayd ha
      have mb := mayd hb
      rw [ca] at ma
      rw [decVal_0 ca]
      unfold sumT
      rw [if_neg (fun e => cb e.2)]
      rcases may_cases hb with ⟨n, rfl⟩ | h | ⟨n, rfl⟩ | rfl
      · exact absurd rfl cb
      · exact absurd h.cls cb
      · rw [if_neg (by simp [ca]), if_neg (by simp), if_pos ca]
        exact Add_fi a.neg ⟨a.dig.toArray⟩ a.exp n w ma mb
      · rw [if_pos (by simp)]
        exact Add_fn a.neg ⟨a.dig.toArray⟩ a.exp w ma mb
  · have ma := mayd ha
    have mb := mayd hb
    unfold sumT
    rw [if_neg (fun e => ca e.1)]
    rcases may_cases ha with ⟨n, rfl⟩ | h | ⟨n, rfl⟩ | rfl
    · exact absurd rfl ca
    · exact absurd h.cls ca
    · by_cases cb : b.cls = 0
      · rw [if_neg (by simp [cb]), if_pos cb, decVal_0 cb]
        rw [cb] at mb
        exact Add_if n b.neg ⟨b.dig.toArray⟩ b.exp w ma mb
      · rcases may_cases hb with ⟨m, rfl⟩ | h | ⟨m, rfl⟩ | rfl
        · exact absurd rfl cb
        · exact absurd h.cls cb
        · rw [if_neg (by simp), if_neg (by simp), if_neg (by simp)]
          cases n <;> cases m
          · exact Add_ii_false_false w ma mb
          · exact Add_ii_false_true w ma mb
          · exact Add_ii_true_false w ma mb
          · exact Add_ii_true_true w ma mb
        · rw [if_pos (by simp)]
          exact Add_in n w ma mb
    · rw [if_pos (by simp)]
      by_cases cb : b.cls = 0
      · rw [decVal_0 cb]
        rw [cb] at mb
        exact Add_nf b.neg ⟨b.dig.toArray⟩ b.exp w ma mb
      · rcases may_cases hb with ⟨m, rfl⟩ | h | ⟨m, rfl⟩ | rfl
        · exact absurd rfl cb
        · exact absurd h.cls cb
        · exact Add_ni m w ma mb
        · exact Add_nn w ma mb

theorem Mul_d (a b : DecT) (ha : May a) (hb : May b) (w : World) (htab : Tab w) : Calls Tryz.prog 26 #[decVal a, decVal b] w fun e w' => e = .returned (decErr (prodT a b)) ∧ Below w.heap.size w w' := by
  by_cases ca : a.cls = 0
  · by_cases cb : b.cls = 0
    · have ma := mayd ha
      have mb := mayd hb
      rw [ca] at ma
      rw [cb] at mb
      rw [decVal_0 ca, decVal_0 cb]
      exact Mul_ff a.neg ⟨a.dig.toArray⟩ a.exp b.neg ⟨b.dig.toArray⟩ b.exp w ma mb _ htab (fun W hW => prod_d a b ha hb ca cb W hW)
    · have ma := mayd ha
      have mb := mayd hb
      unfold prodT
      rw [if_neg (fun e => cb e.2)]
      rcases may_cases hb with ⟨n, rfl⟩ | h | ⟨n, rfl⟩ | rfl
      · exact absurd rfl cb
      · exact absurd h.cls cb
      · rcases may_cases ha with ⟨m, rfl⟩ | h | ⟨m, rfl⟩ | rfl
        · rw [if_pos (by simp)]
          exact Mul_zi m n w ma mb
        · rw [if_neg (by simp [ca, h.ne]), decVal_0 ca]
          rw [ca] at ma
          exact Mul_fi a.neg ⟨a.dig.toArray⟩ a.exp n w ma mb (by rw [size_mk0]; exact fun e => h.ne (List.length_eq_zero_iff.1 e))
        · cases ca
        · cases ca
      · rw [if_pos (by simp), decVal_0 ca]
        rw [ca] at ma
        exact Mul_fn a.neg ⟨a.dig.toArray⟩ a.exp w ma mb
  · have ma := mayd ha
    have mb := mayd hb
    unfold prodT
    rw [if_neg (fun e => ca e.1)]
    rcases may_cases ha with ⟨n, rfl⟩ | h | ⟨n, rfl⟩ | rfl
    · exact absurd rfl ca
    · exact absurd h.cls ca
    · rcases may_cases hb with ⟨m, rfl⟩ | h | ⟨m, rfl⟩ | rfl
      · rw [if_pos (by simp)]
        exact Mul_iz n m w ma mb
      · have cb := h.cls
        rw [if_neg (by simp [cb, h.ne]), decVal_0 cb]
        rw [cb] at mb
        exact Mul_if n b.neg ⟨b.dig.toArray⟩ b.exp w ma mb (by rw [size_mk0]; exact fun e => h.ne (List.length_eq_zero_iff.1 e))
      · rw [if_neg (by simp)]
        exact Mul_ii n m w ma mb
      · rw [if_pos (by simp)]
        exact Mul_in n w ma mb
    · rw [if_pos (by simp)]
      by_cases cb : b.cls = 0
      · rw [decVal_0 cb]
        rw [cb] at mb
        exact Mul_nf b.neg ⟨b.dig.toArray⟩ b.exp w ma mb
      · rcases may_cases hb with ⟨m, rfl⟩ | h | ⟨m, rfl⟩ | rfl
        · exact absurd rfl cb
        · exact absurd h.cls cb
        · exact Mul_ni m w ma mb
        · exact Mul_nn w ma mb

end Go.Proofs.YtifpacgacbpalaaGreatDoor
