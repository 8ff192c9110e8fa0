/-
  Plain mathematics: which Decs may be.
  Plain mathematics: decimal numbers in their one form, what they are worth, and how they stand.
  Plain mathematics: ranks, places and bytes tell how two numbers stand.
-/
import Derived.Test.YtifpacgacbpalabGreatDoorZSM
import Derived.Lib.Bytealg
import Derived.Lib.Small
namespace Go.Proofs.YtifpacgacbpalabGreatDoor

/-- Which Decs may be: class, sign, digits, exponent. -/
def MayD (c : Int) (neg : Bool) (dig : List UInt8) (e : Int) : Prop :=
  (c = 0 ∧ ((dig = [] ∧ e = 0) ∨ (dig ≠ [] ∧ dig.length ≤ 1000 ∧ -2000 ≤ e + dig.length ∧ e + dig.length ≤ 2000 ∧ byt dig 0 ≠ 48 ∧ byt dig (dig.length - 1) ≠ 48 ∧ DigB dig))) ∨
  (c = 1 ∧ dig = [] ∧ e = 0) ∨ (c = 2 ∧ neg = false ∧ dig = [] ∧ e = 0)

/-- Digits that do not begin with a nought are a number above 0. -/
theorem decV_ne {l : List UInt8} (h : l ≠ []) (h0 : byt l 0 ≠ 48) (hd : DigB l) : decV l ≠ 0 := by
  have ok : OkT l := ⟨h, fun e => absurd e h0, hd⟩
  rcases hl : l.length with _ | n
  · exact absurd (List.length_eq_zero_iff.1 hl) h
  · have hb := dd_back n l hl ok
    intro e
    rw [e, Lib.decDigits_one (by omega)] at hb
    apply h0
    rw [← hb]; rfl

end Go.Proofs.YtifpacgacbpalabGreatDoor

namespace Go.Proofs.YtifpacgacbpalabGreatDoor

/-- May a Dec be? -/
def May (d : DecT) : Prop := MayD (d.cls : Int) d.neg d.dig d.exp

/-- The Dec of N times 10^e, whatever N is. -/
def finD (neg : Bool) (N : Nat) (e : Int) : DecT := if N = 0 then ⟨0, neg, [], 0⟩ else decA neg N e

theorem cut0_cons (b : UInt8) (t : List UInt8) : cut0 (b :: t) = if cut0 t = [] then (if b = 48 then [] else [b]) else b :: cut0 t := by
  unfold cut0 Lib.trimRightB
  rw [List.reverse_cons, List.dropWhile_append]
  by_cases h : t.reverse.dropWhile (· == (48 : UInt8)) = []
  · rw [h]
    by_cases hb : b = 48
    · subst hb; simp
    · simp [hb]
  · have h2 : (t.reverse.dropWhile (· == (48 : UInt8))).isEmpty = false := by simpa using h
    rw [h2]
    have h3 : ¬ (t.reverse.dropWhile (· == (48 : UInt8))).reverse = [] := by simpa using h
    rw [if_neg h3]
    simp

theorem byt_cons0 (b : UInt8) (t : List UInt8) : byt (b :: t) 0 = b.toNat := by simp [byt]
theorem byt_consS (b : UInt8) (t : List UInt8) (k : Nat) : byt (b :: t) (k + 1) = byt t k := by simp [byt]

theorem DigB.tail {b : UInt8} {t : List UInt8} (h : DigB (b :: t)) : DigB t := fun k hk => by
  have := h (k + 1) (by simp; omega)
  rwa [byt_consS] at this

theorem DigB.head {b : UInt8} {t : List UInt8} (h : DigB (b :: t)) : 48 ≤ b.toNat ∧ b.toNat ≤ 57 := by
  have := h 0 (by simp)
  rwa [byt_cons0] at this

theorem decV_cons (b : UInt8) (t : List UInt8) : decV (b :: t) = (b.toNat - 48) * 10 ^ t.length + decV t := by
  have := decV_append [b] t
  rw [List.singleton_append] at this
  rw [this]; simp [decV]

theorem u8_48 {b : UInt8} (h : b.toNat = 48) : b = 48 := by
  rw [← UInt8.ofNat_toNat (x := b), h]; rfl

theorem decV_cut0 : ∀ (l : List UInt8), cut0 l = [] → decV l = 0
  | [], _ => rfl
  | b :: t, h => by
    rw [cut0_cons] at h
    by_cases h1 : cut0 t = []
    · rw [if_pos h1] at h
      by_cases h2 : b = 48
      · subst h2
        rw [decV_cons, decV_cut0 t h1]
        simp
      · rw [if_neg h2] at h; simp at h
    · rw [if_neg h1] at h; simp at h

/-- The digits without the noughts at both ends. -/
def mid0 (l : List UInt8) : List UInt8 := Lib.trimLeftB (cut0 l) 48

theorem mid0_zero : ∀ (l : List UInt8), DigB l → decV l = 0 → mid0 l = []
  | [], _, _ => rfl
  | b :: t, hd, h => by
    rw [decV_cons] at h
    have hb := hd.head
    have h1 : b.toNat - 48 = 0 := by
      rcases Nat.eq_zero_or_pos (b.toNat - 48) with e | e
      · exact e
      · exfalso
        have := Nat.mul_pos e (Nat.pow_pos (n := t.length) (show 0 < 10 by omega))
        omega
    have h2 : b = 48 := u8_48 (by omega)
    have ih := mid0_zero t hd.tail (by omega)
    subst h2
    unfold mid0 at *
    rw [cut0_cons]
    by_cases h3 : cut0 t = []
    · rw [if_pos h3, if_pos rfl]; rfl
    · rw [if_neg h3]
      unfold Lib.trimLeftB at *
      rw [List.dropWhile_cons_of_pos (by simp)]
      exact ih

theorem mid0_form (neg : Bool) : ∀ (l : List UInt8) (e : Int), DigB l → decV l ≠ 0 → mid0 l ≠ [] ∧ DecT.mk 0 neg (mid0 l) (e + l.length - (cut0 l).length) = decA neg (decV l) e
  | [], _, _, h => absurd rfl h
  | b :: t, e, hd, h => by
    by_cases hb : b = 48
    · subst hb
      have hv : decV (48 :: t) = decV t := by rw [decV_cons]; simp
      rw [hv] at h
      have hc : cut0 t ≠ [] := fun hc => h (decV_cut0 t hc)
      obtain ⟨h1, h2⟩ := mid0_form neg t e hd.tail h
      have e1 : cut0 (48 :: t) = 48 :: cut0 t := by rw [cut0_cons, if_neg hc]
      have e2 : mid0 (48 :: t) = mid0 t := by
        unfold mid0
        rw [e1]
        unfold Lib.trimLeftB
        rw [List.dropWhile_cons_of_pos (by simp)]
      rw [e2, hv, e1]
      refine ⟨h1, ?_⟩
      rw [← h2]
      congr 1
      simp only [List.length_cons]
      omega
    · have h48 : byt (b :: t) 0 ≠ 48 := by rw [byt_cons0]; exact fun e => hb (u8_48 e)
      have ok : OkT (b :: t) := ⟨by simp, fun e => absurd e h48, hd⟩
      have hb2 := dd_back t.length (b :: t) (by simp) ok
      have hc : ∃ u, cut0 (b :: t) = b :: u := by
        rw [cut0_cons]
        by_cases h3 : cut0 t = []
        · rw [if_pos h3, if_neg hb]; exact ⟨_, rfl⟩
        · rw [if_neg h3]; exact ⟨_, rfl⟩
      obtain ⟨u, hu⟩ := hc
      have e2 : mid0 (b :: t) = cut0 (b :: t) := by
        unfold mid0
        rw [hu]
        unfold Lib.trimLeftB
        rw [List.dropWhile_cons_of_neg (by simpa using hb)]
      refine ⟨by rw [e2, hu]; simp, ?_⟩
      unfold decA tellDec
      rw [hb2, e2]

/-- What decform's Of tells of digits. -/
def ofD (neg : Bool) (l : List UInt8) (e : Int) : DecT := if mid0 l = [] then ⟨0, neg, [], 0⟩ else ⟨0, neg, mid0 l, e + l.length - (cut0 l).length⟩

theorem ofD_fin (neg : Bool) (l : List UInt8) (e : Int) (hd : DigB l) : ofD neg l e = finD neg (decV l) e := by
  unfold ofD finD
  by_cases h : decV l = 0
  · rw [if_pos (mid0_zero l hd h), if_pos h]
  · obtain ⟨h1, h2⟩ := mid0_form neg l e hd h
    rw [if_neg h1, if_neg h, h2]

/-- What is told of a finite number: the Dec, or that it may not be. -/
noncomputable def tellF (neg : Bool) (N : Nat) (e : Int) : DecT × Int := open Classical in if May (finD neg N e) then (finD neg N e, 0) else (⟨0, false, [], 0⟩, 51)

theorem tellF_yes {neg : Bool} {N : Nat} {e : Int} (h : May (finD neg N e)) : tellF neg N e = (finD neg N e, 0) := by unfold tellF; rw [if_pos h]
theorem tellF_no {neg : Bool} {N : Nat} {e : Int} (h : ¬ May (finD neg N e)) : tellF neg N e = (⟨0, false, [], 0⟩, 51) := by unfold tellF; rw [if_neg h]

theorem may_zero (neg : Bool) : May ⟨0, neg, [], 0⟩ := .inl ⟨rfl, .inl ⟨rfl, rfl⟩⟩

/-- A finite Dec that is not 0, as it may be. -/
structure Fin (d : DecT) : Prop where
  cls : d.cls = 0
  ne : d.dig ≠ []
  len : d.dig.length ≤ 1000
  lo : -2000 ≤ d.exp + d.dig.length
  hi : d.exp + d.dig.length ≤ 2000
  first : byt d.dig 0 ≠ 48
  last : byt d.dig (d.dig.length - 1) ≠ 48
  dig : DigB d.dig

theorem Fin.may {d : DecT} (h : Fin d) : May d := .inl ⟨by rw [h.cls]; rfl, .inr ⟨h.ne, h.len, h.lo, h.hi, h.first, h.last, h.dig⟩⟩

theorem may_cases {d : DecT} (h : May d) : (∃ neg, d = ⟨0, neg, [], 0⟩) ∨ Fin d ∨ (∃ neg, d = ⟨1, neg, [], 0⟩) ∨ d = ⟨2, false, [], 0⟩ := by
  obtain ⟨c, n, l, e⟩ := d
  rcases h with ⟨h1, h2⟩ | ⟨h1, h2, h3⟩ | ⟨h1, h2, h3, h4⟩
  · have hc : c = 0 := by simpa using h1
    subst hc
    rcases h2 with ⟨h2, h3⟩ | ⟨h2, h3, h4, h5, h6, h7, h8⟩
    · simp only at h2 h3
      subst h2 h3
      exact .inl ⟨n, rfl⟩
    · exact .inr (.inl ⟨rfl, h2, h3, h4, h5, h6, h7, h8⟩)
  · have hc : c = 1 := by simp only at h1; omega
    simp only at h2 h3
    subst hc h2 h3
    exact .inr (.inr (.inl ⟨n, rfl⟩))
  · have hc : c = 2 := by simp only at h1; omega
    simp only at h2 h3 h4
    subst hc h2 h3 h4
    exact .inr (.inr (.inr rfl))

theorem Fin.okT {d : DecT} (h : Fin d) : OkT d.dig := ⟨h.ne, fun e => absurd e h.first, h.dig⟩
theorem Fin.val {d : DecT} (h : Fin d) : decV d.dig ≠ 0 := decV_ne h.ne h.first h.dig

theorem Fin.back {d : DecT} (h : Fin d) : Lib.decDigits (decV d.dig) = d.dig := by
  rcases hl : d.dig.length with _ | n
  · exact absurd (List.length_eq_zero_iff.1 hl) h.ne
  · exact dd_back n _ hl h.okT

theorem cut0_last {l : List UInt8} (h : l ≠ []) (h2 : byt l (l.length - 1) ≠ 48) : cut0 l = l := by
  obtain ⟨a, x, rfl⟩ : ∃ a x, l = a ++ [x] := ⟨l.dropLast, l.getLast h, (List.dropLast_concat_getLast h).symm⟩
  refine cut0_snoc a (fun e => h2 ?_)
  rw [show (a ++ [x]).length - 1 = a.length by simp, byt_last, e]; rfl

theorem Fin.fin {d : DecT} (h : Fin d) : finD d.neg (decV d.dig) d.exp = d := by
  unfold finD decA tellDec
  rw [if_neg h.val, h.back, cut0_last h.ne h.last]
  obtain ⟨c, n, l, e⟩ := d
  have := h.cls
  simp only at this
  subst this
  simp only
  congr 1
  omega

/-- What a Dec's digits are worth, counted in 10^-9000. -/
def amt (l : List UInt8) (e : Int) : Nat := decV l * 10 ^ (e + 9000).toNat

/-- Signed. -/
def zD (neg : Bool) (n : Nat) : Int := if neg then -(n : Int) else (n : Int)

def vD (d : DecT) : Int := zD d.neg (amt d.dig d.exp)

theorem zD_zero (neg : Bool) : zD neg 0 = 0 := by cases neg <;> rfl
theorem zD_mul (neg : Bool) (n k : Nat) : zD neg (n * k) = zD neg n * (k : Int) := by cases neg <;> simp [zD, Int.neg_mul]

theorem pow_toNat {e : Int} {k : Nat} (h : -9000 ≤ e) : 10 ^ (e + (k : Int) + 9000).toNat = 10 ^ k * 10 ^ (e + 9000).toNat := by
  rw [← Nat.pow_add]; congr 1; omega

theorem amt_decA {neg : Bool} {N : Nat} {e : Int} (h : N ≠ 0) (he : -9000 ≤ e) : amt (decA neg N e).dig (decA neg N e).exp = N * 10 ^ (e + 9000).toNat := by
  obtain ⟨M, k, h1, _, h3⟩ := decA_form neg e h
  rw [h3]
  simp only [amt]
  rw [dd_val, pow_toNat he, h1, Nat.mul_assoc]

theorem vD_fin {neg : Bool} {N : Nat} {e : Int} (he : -9000 ≤ e) : vD (finD neg N e) = zD neg N * ((10 ^ (e + 9000).toNat : Nat) : Int) := by
  unfold finD
  by_cases h : N = 0
  · subst h
    rw [if_pos rfl]
    simp only [vD, amt, decV, List.foldl_nil, Nat.zero_mul, zD_zero, Int.zero_mul]
  · rw [if_neg h]
    unfold vD
    rw [amt_decA h he, show (decA neg N e).neg = neg from rfl, zD_mul]

theorem finD_cls (neg : Bool) (N : Nat) (e : Int) : (finD neg N e).cls = 0 := by
  unfold finD; split <;> rfl

/-- Greater than any finite number that may be. -/
def topN : Nat := powT 10 11000
def topNN : Nat := powT 10 11001
theorem top_lt : topN < topNN := by decide +kernel

theorem Fin.amt_lt {d : DecT} (h : Fin d) : amt d.dig d.exp < 10 ^ (d.exp + d.dig.length + 9000).toNat := by
  unfold amt
  have h1 := decV_lt d.dig.length d.dig rfl h.dig
  have h2 := h.len
  have h3 := h.lo
  rw [show (d.exp + d.dig.length + 9000).toNat = d.dig.length + (d.exp + 9000).toNat by omega, Nat.pow_add]
  exact Nat.mul_lt_mul_of_pos_right h1 (Nat.pow_pos (by omega))

theorem Fin.amt_ge {d : DecT} (h : Fin d) : 10 ^ (d.exp + d.dig.length + 8999).toNat ≤ amt d.dig d.exp := by
  unfold amt
  have h1 := sizeN_ge h.val
  unfold sizeN at h1
  rw [h.back] at h1
  have h2 := h.len
  have h3 := h.lo
  have h4 := List.length_pos_iff.2 h.ne
  rw [show (d.exp + d.dig.length + 8999).toNat = (d.dig.length - 1) + (d.exp + 9000).toNat by omega, Nat.pow_add]
  exact Nat.mul_le_mul_right _ h1

theorem Fin.amt_top {d : DecT} (h : Fin d) : amt d.dig d.exp < topN := by
  refine Nat.lt_of_lt_of_le h.amt_lt ?_
  have := h.hi
  exact powT_ge (by omega) (by omega)

theorem Fin.amt_pos {d : DecT} (h : Fin d) : 0 < amt d.dig d.exp := Nat.lt_of_lt_of_le (Nat.pow_pos (by omega)) h.amt_ge

/-- Where a Dec stands among all that may be. -/
def wD (d : DecT) : Int := if d.cls = 2 then (topNN : Int) else if d.cls = 1 then zD d.neg topN else vD d

/-- How two stand. -/
def cmpI (x y : Int) : Int := if x < y then -1 else if y < x then 1 else 0

theorem cmpI_neg (x y : Int) : cmpI (-x) (-y) = cmpI y x := by
  unfold cmpI
  by_cases h1 : x < y
  · rw [if_neg (by omega), if_pos (by omega), if_neg (by omega), if_pos h1]
  · by_cases h2 : y < x
    · rw [if_pos (by omega), if_pos h2]
    · rw [if_neg (by omega), if_neg (by omega), if_neg (by omega), if_neg (by omega)]

theorem cmpI_mul (x y : Int) {k : Nat} (hk : 0 < k) : cmpI (x * (k : Int)) (y * (k : Int)) = cmpI x y := by
  have hk' : (0 : Int) < (k : Int) := by omega
  unfold cmpI
  by_cases h1 : x < y
  · rw [if_pos h1, if_pos (Int.mul_lt_mul_of_pos_right h1 hk')]
  · by_cases h2 : y < x
    · have := Int.mul_lt_mul_of_pos_right h2 hk'
      rw [if_neg h1, if_pos h2, if_neg (by omega), if_pos this]
    · have : x = y := by omega
      subst this
      rw [if_neg (by omega), if_neg (by omega), if_neg (by omega), if_neg (by omega)]

theorem cmpI_nat (x y : Nat) : cmpI (x : Int) (y : Int) = if x < y then -1 else if y < x then 1 else 0 := by
  unfold cmpI
  simp only [Int.ofNat_lt]

/-- Digits of one place, the last not a nought, stand as their bytes do. -/
theorem cmp_bytes : ∀ (a b : List UInt8) (M : Nat), DigB a → DigB b → (a ≠ [] → byt a (a.length - 1) ≠ 48) → (b ≠ [] → byt b (b.length - 1) ≠ 48) → a.length ≤ M → b.length ≤ M →
    Lib.compareBytes a b = cmpI ((decV a * 10 ^ (M - a.length) : Nat) : Int) ((decV b * 10 ^ (M - b.length) : Nat) : Int)
  | [], [], M, _, _, _, _, _, _ => by simp [Lib.compareBytes, decV, cmpI]
  | [], y :: t, M, _, hb, _, lb, _, _ => by
    have hp := tail_pos hb (lb (by simp))
    have : 0 < decV (y :: t) * 10 ^ (M - (y :: t).length) := Nat.mul_pos hp (Nat.pow_pos (by omega))
    rw [cmpI_nat, if_pos (by simpa [decV] using this)]
    rfl
  | x :: s, [], M, ha, _, la, _, _, _ => by
    have hp := tail_pos ha (la (by simp))
    have : 0 < decV (x :: s) * 10 ^ (M - (x :: s).length) := Nat.mul_pos hp (Nat.pow_pos (by omega))
    rw [cmpI_nat, if_neg (by simp [decV]), if_pos (by simpa [decV] using this)]
    rfl
  | x :: s, y :: t, M, ha, hb, la, lb, hla, hlb => by
    simp only [List.length_cons] at hla hlb
    obtain ⟨m, rfl⟩ : ∃ m, M = m + 1 := ⟨M - 1, by omega⟩
    have hx := ha.head
    have hy := hb.head
    have e1 : decV (x :: s) * 10 ^ (m + 1 - (x :: s).length) = (x.toNat - 48) * 10 ^ m + decV s * 10 ^ (m - s.length) := by
      rw [decV_cons, Nat.add_mul, Nat.mul_assoc, ← Nat.pow_add, List.length_cons]
      congr 3 <;> omega
    have e2 : decV (y :: t) * 10 ^ (m + 1 - (y :: t).length) = (y.toNat - 48) * 10 ^ m + decV t * 10 ^ (m - t.length) := by
      rw [decV_cons, Nat.add_mul, Nat.mul_assoc, ← Nat.pow_add, List.length_cons]
      congr 3 <;> omega
    have b1 : decV s * 10 ^ (m - s.length) < 10 ^ m := by
      have := Nat.mul_lt_mul_of_pos_right (decV_lt s.length s rfl ha.tail) (Nat.pow_pos (n := m - s.length) (show 0 < 10 by omega))
      rwa [← Nat.pow_add, show s.length + (m - s.length) = m by omega] at this
    have b2 : decV t * 10 ^ (m - t.length) < 10 ^ m := by
      have := Nat.mul_lt_mul_of_pos_right (decV_lt t.length t rfl hb.tail) (Nat.pow_pos (n := m - t.length) (show 0 < 10 by omega))
      rwa [← Nat.pow_add, show t.length + (m - t.length) = m by omega] at this
    have ih := cmp_bytes s t m ha.tail hb.tail (last_tail la) (last_tail lb) (by omega) (by omega)
    rw [e1, e2, cmpI_nat]
    rw [cmpI_nat] at ih
    have ul : ∀ p q : UInt8, (p < q) = (p.toNat < q.toNat) := fun p q => rfl
    simp only [Lib.compareBytes, ul]
    generalize decV s * 10 ^ (m - s.length) = S at *
    generalize decV t * 10 ^ (m - t.length) = T at *
    generalize (10 : Nat) ^ m = E at *
    rcases Nat.lt_trichotomy x.toNat y.toNat with h | h | h
    · have : (x.toNat - 48 + 1) * E ≤ (y.toNat - 48) * E := Nat.mul_le_mul_right _ (by omega)
      rw [Nat.add_mul] at this
      rw [if_pos h, if_pos (by omega)]
    · rw [if_neg (by omega), if_neg (by omega), ih, h]
      by_cases h1 : S < T
      · rw [if_pos h1, if_pos (by omega)]
      · by_cases h2 : T < S
        · rw [if_neg h1, if_pos h2, if_neg (by omega), if_pos (by omega)]
        · rw [if_neg h1, if_neg h2, if_neg (by omega), if_neg (by omega)]
    · have : (y.toNat - 48 + 1) * E ≤ (x.toNat - 48) * E := Nat.mul_le_mul_right _ (by omega)
      rw [Nat.add_mul] at this
      rw [if_neg (by omega), if_pos h, if_neg (by omega), if_pos (by omega)]
where
  tail_pos {x : UInt8} {s : List UInt8} (hd : DigB (x :: s)) (hl : byt (x :: s) ((x :: s).length - 1) ≠ 48) : 0 < decV (x :: s) := by
    obtain ⟨a, z, e⟩ : ∃ a z, x :: s = a ++ [z] := ⟨(x :: s).dropLast, (x :: s).getLast (by simp), (List.dropLast_concat_getLast (by simp)).symm⟩
    rw [e] at hd hl ⊢
    rw [show (a ++ [z]).length - 1 = a.length by simp, byt_last] at hl
    have := hd a.length (by simp)
    rw [byt_last] at this
    rw [decV_last]
    omega
  last_tail {x : UInt8} {s : List UInt8} (h : x :: s ≠ [] → byt (x :: s) ((x :: s).length - 1) ≠ 48) (hs : s ≠ []) : byt s (s.length - 1) ≠ 48 := by
    have h1 := h (by simp)
    have h2 := List.length_pos_iff.2 hs
    rw [show (x :: s).length - 1 = (s.length - 1) + 1 by simp; omega, byt_consS] at h1
    exact h1

end Go.Proofs.YtifpacgacbpalabGreatDoor

namespace Go.Proofs.YtifpacgacbpalabGreatDoor

/-- The first of two that is not 0. -/
def orI (x y : Int) : Int := if x = 0 then y else x

/-- What rank answers. -/
def rankI (d : DecT) : Int := if d.cls = 2 then 3 else if d.cls = 1 then (if d.neg then -2 else 2) else if d.dig = [] then 0 else if d.neg then -1 else 1

theorem cmpI_lt {x y : Int} (h : x < y) : cmpI x y = -1 := by unfold cmpI; rw [if_pos h]
theorem cmpI_gt {x y : Int} (h : y < x) : cmpI x y = 1 := by unfold cmpI; rw [if_neg (by omega), if_pos h]
theorem cmpI_self (x : Int) : cmpI x x = 0 := by unfold cmpI; rw [if_neg (by omega), if_neg (by omega)]
theorem cI_lt {x y : Int} (h : x < y) : Lib.compareInt x y = -1 := by unfold Lib.compareInt; rw [if_pos h]
theorem cI_gt {x y : Int} (h : y < x) : Lib.compareInt x y = 1 := by unfold Lib.compareInt; rw [if_neg (by omega), if_pos (by omega)]
theorem cI_eq {x y : Int} (h : x = y) : Lib.compareInt x y = 0 := by unfold Lib.compareInt; rw [if_neg (by omega), if_neg (by omega)]

theorem fin_cmp {a b : DecT} (ha : Fin a) (hb : Fin b) : orI (Lib.compareInt ((a.dig.length : Int) + a.exp) ((b.dig.length : Int) + b.exp)) (Lib.compareBytes a.dig b.dig) = cmpI (amt a.dig a.exp : Int) (amt b.dig b.exp : Int) := by
  have far : ∀ {x y : DecT}, Fin x → Fin y → (x.dig.length : Int) + x.exp < (y.dig.length : Int) + y.exp → amt x.dig x.exp < amt y.dig y.exp := by
    intro x y hx hy h
    refine Nat.lt_of_lt_of_le hx.amt_lt (Nat.le_trans ?_ hy.amt_ge)
    have := hx.lo
    exact Nat.pow_le_pow_right (by omega) (by omega)
  rcases Int.lt_trichotomy ((a.dig.length : Int) + a.exp) ((b.dig.length : Int) + b.exp) with h | h | h
  · have := far ha hb h
    rw [cI_lt h, cmpI_lt (by omega)]; rfl
  · rw [cI_eq h, show orI 0 (Lib.compareBytes a.dig b.dig) = Lib.compareBytes a.dig b.dig from rfl]
    rw [cmp_bytes a.dig b.dig 1000 ha.dig hb.dig (fun _ => ha.last) (fun _ => hb.last) ha.len hb.len]
    have la := ha.len
    have lb := hb.len
    have lo := ha.lo
    have ea : amt a.dig a.exp = decV a.dig * 10 ^ (1000 - a.dig.length) * 10 ^ ((a.dig.length : Int) + a.exp + 8000).toNat := by
      unfold amt
      rw [Nat.mul_assoc, ← Nat.pow_add]
      congr 2; omega
    have eb : amt b.dig b.exp = decV b.dig * 10 ^ (1000 - b.dig.length) * 10 ^ ((a.dig.length : Int) + a.exp + 8000).toNat := by
      unfold amt
      rw [Nat.mul_assoc, ← Nat.pow_add]
      congr 2; omega
    rw [ea, eb, Int.natCast_mul (decV a.dig * 10 ^ (1000 - a.dig.length)), Int.natCast_mul (decV b.dig * 10 ^ (1000 - b.dig.length)), cmpI_mul _ _ (Nat.pow_pos (by omega))]
  · have := far hb ha h
    rw [cI_gt h, cmpI_gt (by omega)]; rfl

/-- Where a Dec stands, by its rank. -/
theorem rank_w {d : DecT} (h : May d) : (rankI d = 3 ∧ wD d = (topNN : Int)) ∨ (rankI d = 2 ∧ wD d = (topN : Int)) ∨ (rankI d = -2 ∧ wD d = -(topN : Int)) ∨ (rankI d = 0 ∧ wD d = 0) ∨ (rankI d = 1 ∧ 0 < wD d ∧ wD d < (topN : Int)) ∨ (rankI d = -1 ∧ -(topN : Int) < wD d ∧ wD d < 0) := by
  rcases may_cases h with ⟨n, rfl⟩ | h | ⟨n, rfl⟩ | rfl
  · refine .inr (.inr (.inr (.inl ⟨by simp [rankI], ?_⟩)))
    simp only [wD, vD, amt, decV, List.foldl_nil, Nat.zero_mul, zD_zero]
    simp
  · have h1 := h.amt_pos
    have h2 := h.amt_top
    have hw : wD d = zD d.neg (amt d.dig d.exp) := by unfold wD vD; rw [h.cls]; simp
    cases hn : d.neg
    · rw [hn] at hw
      refine .inr (.inr (.inr (.inr (.inl ⟨by simp [rankI, h.cls, h.ne, hn], ?_⟩))))
      rw [hw]; simp only [zD]; simp; omega
    · rw [hn] at hw
      refine .inr (.inr (.inr (.inr (.inr ⟨by simp [rankI, h.cls, h.ne, hn], ?_⟩))))
      rw [hw]; simp only [zD]; simp; omega
  · cases n
    · exact .inr (.inl ⟨by simp [rankI], by simp [wD, zD]⟩)
    · exact .inr (.inr (.inl ⟨by simp [rankI], by simp [wD, zD]⟩))
  · exact .inl ⟨by simp [rankI], by simp [wD]⟩

theorem top_pos : 0 < topN := by decide +kernel

theorem rank_lt {a b : DecT} (ha : May a) (hb : May b) (h : rankI a < rankI b) : wD a < wD b := by
  have h1 := rank_w ha
  have h2 := rank_w hb
  have t1 := top_lt
  have t2 := top_pos
  generalize rankI a = ra at *
  generalize rankI b = rb at *
  generalize wD a = x at *
  generalize wD b = y at *
  generalize topN = T at *
  generalize topNN = U at *
  omega

theorem rank_cmp {a b : DecT} (ha : May a) (hb : May b) (h : Lib.compareInt (rankI a) (rankI b) ≠ 0) : Lib.compareInt (rankI a) (rankI b) = cmpI (wD a) (wD b) := by
  rcases Int.lt_trichotomy (rankI a) (rankI b) with e | e | e
  · rw [cI_lt e, cmpI_lt (rank_lt ha hb e)]
  · exact absurd (cI_eq e) h
  · rw [cI_gt e, cmpI_gt (rank_lt hb ha e)]

theorem rank_same {a b : DecT} (h : Lib.compareInt (rankI a) (rankI b) = 0) : rankI a = rankI b := by
  rcases Int.lt_trichotomy (rankI a) (rankI b) with e | e | e
  · rw [cI_lt e] at h; cases h
  · exact e
  · rw [cI_gt e] at h; cases h

/-- What cmpAmounts answers. -/
def amtI (a b : DecT) : Int := orI (Lib.compareInt ((a.dig.length : Int) + a.exp) ((b.dig.length : Int) + b.exp)) (Lib.compareBytes a.dig b.dig)

theorem same_cmp {a b : DecT} (ha : May a) (hb : May b) (h : rankI a = rankI b) : (if a.neg then amtI b a else amtI a b) = cmpI (wD a) (wD b) := by
  have nil : ∀ {x : DecT}, May x → ¬ Fin x → x.dig = [] ∧ x.exp = 0 := by
    intro x hx hn
    rcases may_cases hx with ⟨n, rfl⟩ | h | ⟨n, rfl⟩ | rfl
    · exact ⟨rfl, rfl⟩
    · exact absurd h hn
    · exact ⟨rfl, rfl⟩
    · exact ⟨rfl, rfl⟩
  have fr : ∀ {x : DecT}, Fin x → rankI x = if x.neg then -1 else 1 := by
    intro x hx; simp [rankI, hx.cls, hx.ne]
  have nr : ∀ {x : DecT}, May x → ¬ Fin x → rankI x ≠ 1 ∧ rankI x ≠ -1 := by
    intro x hx hn
    rcases may_cases hx with ⟨n, rfl⟩ | h | ⟨n, rfl⟩ | rfl
    · simp [rankI]
    · exact absurd h hn
    · cases n <;> simp [rankI]
    · simp [rankI]
  by_cases fa : Fin a
  · by_cases fb : Fin b
    · rw [fr fa, fr fb] at h
      have wa : wD a = zD a.neg (amt a.dig a.exp) := by unfold wD vD; rw [fa.cls]; simp
      have wb : wD b = zD b.neg (amt b.dig b.exp) := by unfold wD vD; rw [fb.cls]; simp
      cases hn : a.neg <;> cases hm : b.neg <;> rw [hn, hm] at h
      · rw [wa, wb, hn, hm]
        exact fin_cmp fa fb
      · simp at h
      · simp at h
      · rw [wa, wb, hn, hm]
        simp only [if_true, zD]
        rw [cmpI_neg]
        exact fin_cmp fb fa
    · have h1 := nr hb fb
      rw [fr fa] at h
      cases hn : a.neg <;> rw [hn] at h <;> simp at h <;> omega
  · by_cases fb : Fin b
    · have h1 := nr ha fa
      rw [fr fb] at h
      cases hn : b.neg <;> rw [hn] at h <;> simp at h <;> omega
    · obtain ⟨e1, e2⟩ := nil ha fa
      obtain ⟨e3, e4⟩ := nil hb fb
      have hw : wD a = wD b := by
        have h1 := rank_w ha
        have h2 := rank_w hb
        have h3 := nr ha fa
        have h4 := nr hb fb
        generalize rankI a = ra at *
        generalize rankI b = rb at *
        omega
      rw [hw, cmpI_self]
      unfold amtI
      rw [e1, e2, e3, e4]
      simp [orI, Lib.compareInt, Lib.compareBytes]

end Go.Proofs.YtifpacgacbpalabGreatDoor
