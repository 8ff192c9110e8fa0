/-
  Plain mathematics: the bits that package nearest answers, and those of its reference, are the nearest float's.
-/
import Derived.Test.YtpiloigpncbccabGreatDoorNReach
import Derived.Test.YtpiloigpncbccabGreatDoorBitsM
namespace Go.Proofs.YtpiloigpncbccabGreatDoor

/-- over/under is below 2^e. -/
def LtP (o u : Nat) (e : Int) : Prop := o * 2 ^ (-e).toNat < u * 2 ^ e.toNat

theorem LtP.iff {o u : Nat} {e : Int} {C : Nat} (h : 0 ≤ e + C) : LtP o u e ↔ o * 2 ^ C < u * 2 ^ (e + C).toNat := by
  unfold LtP
  by_cases he : 0 ≤ e
  · obtain ⟨k, rfl⟩ : ∃ k : Nat, e = k := ⟨e.toNat, by omega⟩
    rw [show (-(k : Int)).toNat = 0 by omega, show ((k : Int)).toNat = k by omega, show ((k : Int) + C).toNat = k + C by omega, Nat.pow_zero, Nat.mul_one, Nat.pow_add, ← Nat.mul_assoc]
    exact (Nat.mul_lt_mul_right (Nat.pow_pos (by omega))).symm
  · obtain ⟨k, rfl⟩ : ∃ k : Nat, e = -(k : Int) := ⟨(-e).toNat, by omega⟩
    obtain ⟨j, rfl⟩ : ∃ j, C = k + j := ⟨C - k, by omega⟩
    rw [show (- -(k : Int)).toNat = k by omega, show (-(k : Int)).toNat = 0 by omega, show (-(k : Int) + (k + j : Nat)).toNat = j by omega, Nat.pow_zero, Nat.mul_one, Nat.pow_add, ← Nat.mul_assoc]
    constructor
    · intro hh; exact (Nat.mul_lt_mul_right (Nat.pow_pos (by omega))).2 hh
    · intro hh; exact (Nat.mul_lt_mul_right (Nat.pow_pos (by omega))).1 hh

theorem LtP.up {o u : Nat} {e e' : Int} (h : LtP o u e) (he : e ≤ e') : LtP o u e' := by
  rw [LtP.iff (C := e.natAbs) (by omega)] at h ⊢
  exact Nat.lt_of_lt_of_le h (Nat.mul_le_mul_left _ (Nat.pow_le_pow_right (by omega) (by omega)))

/-- The power of 2 of the highest bit of over/under, as package nearest finds it. -/
def highN (o u : Nat) : Int := if o * 2 ^ (-((bitsN o : Int) - bitsN u)).toNat < u * 2 ^ ((bitsN o : Int) - bitsN u).toNat then (bitsN o : Int) - bitsN u - 1 else (bitsN o : Int) - bitsN u

theorem bits_ltP {o u : Nat} (ho : o ≠ 0) (hu : u ≠ 0) : LtP o u ((bitsN o : Int) - bitsN u + 1) ∧ ¬ LtP o u ((bitsN o : Int) - bitsN u - 1) := by
  obtain ⟨a, ea, a1, a2⟩ := bitsN_spec ho
  obtain ⟨c, ec, c1, c2⟩ := bitsN_spec hu
  rw [ea, ec]
  constructor
  · rw [LtP.iff (C := c) (by omega), show (((a + 1 : Nat) : Int) - ((c + 1 : Nat) : Int) + 1 + c).toNat = a + 1 by omega]
    calc o * 2 ^ c < 2 ^ (a + 1) * 2 ^ c := (Nat.mul_lt_mul_right (Nat.pow_pos (by omega))).2 a2
      _ ≤ u * 2 ^ (a + 1) := by rw [Nat.mul_comm]; exact Nat.mul_le_mul_right _ c1
  · rw [LtP.iff (C := c + 1) (by omega), show (((a + 1 : Nat) : Int) - ((c + 1 : Nat) : Int) - 1 + (c + 1 : Nat)).toNat = a by omega]
    have h1 : u * 2 ^ a < 2 ^ (c + 1) * 2 ^ a := (Nat.mul_lt_mul_right (Nat.pow_pos (by omega))).2 c2
    have h2 : 2 ^ (c + 1) * 2 ^ a ≤ o * 2 ^ (c + 1) := by rw [Nat.mul_comm]; exact Nat.mul_le_mul_right _ a1
    omega

theorem highN_spec {o u : Nat} (ho : o ≠ 0) (hu : u ≠ 0) : LtP o u (highN o u + 1) ∧ ¬ LtP o u (highN o u) := by
  obtain ⟨h1, h2⟩ := bits_ltP ho hu
  unfold highN
  split
  · next h => exact ⟨by rw [Int.sub_add_cancel]; exact h, h2⟩
  · next h => exact ⟨h1, h⟩

/-- The bits that package nearest answers. -/
def powN (F B o u : Nat) : Int := max (highN o u - F) (-(B : Int))
def numN (F B o u : Nat) : Nat := rne (o * 2 ^ (-(powN F B o u)).toNat) (u * 2 ^ (powN F B o u).toNat)
def bitsOf (F B I o u : Nat) : Nat := min ((powN F B o u + B).toNat * 2 ^ F + numN F B o u) I

theorem ratio_at {o u B : Nat} {pw : Int} (h : -(B : Int) ≤ pw) : o * 2 ^ (-pw).toNat * (u * 2 ^ (pw + B).toNat) = o * 2 ^ B * (u * 2 ^ pw.toNat) := by
  have e : 2 ^ (-pw).toNat * 2 ^ (pw + B).toNat = 2 ^ B * 2 ^ pw.toNat := by
    rw [← Nat.pow_add, ← Nat.pow_add]; congr 1; omega
  have : ∀ x y z t : Nat, x * y * (z * t) = x * z * (y * t) := fun x y z t => by
    rw [Nat.mul_assoc, Nat.mul_assoc, Nat.mul_left_comm y]
  rw [this, e, this]

theorem numN_eq {F B o u : Nat} (hu : u ≠ 0) : numN F B o u = rne (o * 2 ^ B) (u * 2 ^ (powN F B o u + B).toNat) :=
  rne_ratio (Nat.mul_pos (by omega) (Nat.pow_pos (by omega))) (Nat.mul_pos (by omega) (Nat.pow_pos (by omega))) (ratio_at (by unfold powN; omega))

/-- Where the number to be rounded lies. -/
theorem numN_bounds {F B o u : Nat} (ho : o ≠ 0) (hu : u ≠ 0) : o * 2 ^ B < u * 2 ^ (powN F B o u + B).toNat * (2 * 2 ^ F) ∧ ((powN F B o u + B).toNat ≠ 0 → u * 2 ^ (powN F B o u + B).toNat * 2 ^ F ≤ o * 2 ^ B) := by
  obtain ⟨h1, h2⟩ := highN_spec ho hu
  have hp : powN F B o u = highN o u - F ∨ (powN F B o u = -(B : Int) ∧ highN o u - F ≤ -(B : Int)) := by unfold powN; omega
  have hb : -(B : Int) ≤ powN F B o u := by unfold powN; omega
  rcases hp with hp | ⟨hp, hh⟩
  · have hC : 0 ≤ highN o u + 1 + B := by omega
    rw [LtP.iff (C := B) hC] at h1
    rw [LtP.iff (C := B) (by omega)] at h2
    have e1 : (highN o u + 1 + B).toNat = (powN F B o u + B).toNat + (1 + F) := by omega
    have e2 : (highN o u + B).toNat = (powN F B o u + B).toNat + F := by omega
    rw [e1, Nat.pow_add, Nat.pow_add 2 1, Nat.pow_one, ← Nat.mul_assoc] at h1
    rw [e2, Nat.pow_add, ← Nat.mul_assoc] at h2
    exact ⟨h1, fun _ => by omega⟩
  · have e : (powN F B o u + B).toNat = 0 := by omega
    rw [e]
    have h3 := h1.up (e' := (F : Int) + 1 - B) (by omega)
    rw [LtP.iff (C := B) (by omega), show ((F : Int) + 1 - B + B).toNat = 1 + F by omega, Nat.pow_add, Nat.pow_one] at h3
    exact ⟨by rw [Nat.pow_zero, Nat.mul_one]; exact h3, fun h => absurd rfl h⟩

theorem numN_le {F B o u : Nat} (ho : o ≠ 0) (hu : u ≠ 0) : numN F B o u ≤ 2 * 2 ^ F ∧ ((powN F B o u + B).toNat ≠ 0 → 2 ^ F ≤ numN F B o u) := by
  obtain ⟨h1, h2⟩ := numN_bounds (F := F) (B := B) ho hu
  have hq : 0 < u * 2 ^ (powN F B o u + B).toNat := Nat.mul_pos (by omega) (Nat.pow_pos (by omega))
  rw [numN_eq hu]
  rw [Nat.mul_comm _ (2 * 2 ^ F)] at h1
  refine ⟨rne_le hq (by omega), fun h => rne_ge hq ?_⟩
  have := h2 h
  rw [Nat.mul_comm _ (2 ^ F)] at this
  omega

theorem bitsOf_lies {F B I o u : Nat} (hF : 1 ≤ F) (hI : I % 2 = 0) (ho : o ≠ 0) (hu : u ≠ 0) : Lies F I (bitsOf F B I o u) (o * 2 ^ B) u := by
  have hq : 0 < u * 2 ^ (powN F B o u + B).toNat := Nat.mul_pos (by omega) (Nat.pow_pos (by omega))
  obtain ⟨r1, r2, r3, r4⟩ := rne_spec (p := o * 2 ^ B) hq
  obtain ⟨n1, n2⟩ := numN_le (F := F) (B := B) ho hu
  have e := numN_eq (F := F) (B := B) (o := o) hu
  rw [← e] at r1 r2 r3 r4
  unfold bitsOf
  refine lies_join hF hI (by omega) n1 n2 r1 r2 r3 r4 (fun hs hN => ?_)
  have := (numN_bounds (F := F) (B := B) ho hu).2 hs
  rw [hN, Nat.mul_comm (2 ^ F)]
  omega

/-- The reference's rounding of num by den at the exponent e: while it has too many bits the exponent rises. -/
def RInv (F B o u : Nat) (e : Int) : Prop := -(B : Int) ≤ e ∧ (e ≠ -(B : Int) → 4 * (2 ^ F * (u * 2 ^ (e + B).toNat)) ≤ 4 * (o * 2 ^ B) + u * 2 ^ (e + B).toNat)

def rnd (o u : Nat) (e : Int) : Nat := rne (o * 2 ^ (-e).toNat) (u * 2 ^ e.toNat)

theorem rnd_eq {B o u : Nat} {e : Int} (hu : u ≠ 0) (h : -(B : Int) ≤ e) : rnd o u e = rne (o * 2 ^ B) (u * 2 ^ (e + B).toNat) :=
  rne_ratio (Nat.mul_pos (by omega) (Nat.pow_pos (by omega))) (Nat.mul_pos (by omega) (Nat.pow_pos (by omega))) (ratio_at h)

theorem RInv.start {F B o u : Nat} (ho : o ≠ 0) (hu : u ≠ 0) : RInv F B o u (max ((bitsN o : Int) - bitsN u - F - 2) (-(B : Int))) := by
  refine ⟨by omega, fun h => ?_⟩
  obtain ⟨_, h2⟩ := bits_ltP ho hu
  obtain ⟨e, he⟩ : ∃ e, e = max ((bitsN o : Int) - bitsN u - F - 2) (-(B : Int)) := ⟨_, rfl⟩
  rw [← he] at h ⊢
  rw [LtP.iff (C := B) (by omega), show ((bitsN o : Int) - bitsN u - 1 + B).toNat = (e + B).toNat + (1 + F) by omega, Nat.pow_add, Nat.pow_add 2 1, Nat.pow_one, ← Nat.mul_assoc, Nat.mul_comm _ (2 * 2 ^ F), Nat.mul_assoc 2] at h2
  omega

theorem RInv.step {F B o u : Nat} {e : Int} (hu : u ≠ 0) (h : RInv F B o u e) (hm : 2 * 2 ^ F ≤ rnd o u e) : RInv F B o u (e + 1) := by
  refine ⟨by have := h.1; omega, fun _ => ?_⟩
  have hq : 0 < u * 2 ^ (e + B).toNat := Nat.mul_pos (by omega) (Nat.pow_pos (by omega))
  rw [rnd_eq hu h.1] at hm
  obtain ⟨r1, _⟩ := rne_spec (p := o * 2 ^ B) hq
  have h1 := Nat.mul_le_mul_right (u * 2 ^ (e + B).toNat) hm
  have e1 : u * 2 ^ (e + 1 + B).toNat = 2 * (u * 2 ^ (e + B).toNat) := by
    rw [show (e + 1 + B).toNat = (e + B).toNat + 1 by have := h.1; omega, Nat.pow_succ, Nat.mul_comm (2 ^ _) 2, Nat.mul_left_comm]
  rw [e1, Nat.mul_left_comm (2 ^ F) 2]
  rw [Nat.mul_assoc 2] at h1
  omega

theorem RInv.lies {F B I o u : Nat} {e : Int} (hF : 1 ≤ F) (hI : I % 2 = 0) (hu : u ≠ 0) (h : RInv F B o u e) (hm : rnd o u e < 2 * 2 ^ F) : Lies F I (min ((e + B).toNat * 2 ^ F + rnd o u e) I) (o * 2 ^ B) u ∧ ((e + B).toNat ≠ 0 → 2 ^ F ≤ rnd o u e) := by
  have hq : 0 < u * 2 ^ (e + B).toNat := Nat.mul_pos (by omega) (Nat.pow_pos (by omega))
  obtain ⟨r1, r2, r3, r4⟩ := rne_spec (p := o * 2 ^ B) hq
  rw [rnd_eq hu h.1] at hm ⊢
  have hge : (e + B).toNat ≠ 0 → 2 ^ F ≤ rne (o * 2 ^ B) (u * 2 ^ (e + B).toNat) := fun hs => rne_ge hq (by
    have := h.2 (by omega)
    omega)
  exact ⟨lies_join hF hI (by omega) (by omega) hge r1 r2 r3 r4 (fun hs hN => by
    rw [hN]; exact h.2 (by omega)), hge⟩

/-- The reference's exponent has an end. -/
theorem rnd_end {F B o u : Nat} {e : Int} (ho : o ≠ 0) (hu : u ≠ 0) (h : -(B : Int) ≤ e) (he : (bitsN o : Int) - bitsN u + 1 - F ≤ e) : rnd o u e ≤ 2 ^ F := by
  obtain ⟨h1, _⟩ := bits_ltP ho hu
  have hq : 0 < u * 2 ^ (e + B).toNat := Nat.mul_pos (by omega) (Nat.pow_pos (by omega))
  rw [rnd_eq hu h]
  have h3 := h1.up (e' := e + F) (by omega)
  rw [LtP.iff (C := B) (by omega), show (e + F + B).toNat = (e + B).toNat + F by omega, Nat.pow_add, ← Nat.mul_assoc, Nat.mul_comm _ (2 ^ F)] at h3
  exact rne_le hq (by omega)

end Go.Proofs.YtpiloigpncbccabGreatDoor
