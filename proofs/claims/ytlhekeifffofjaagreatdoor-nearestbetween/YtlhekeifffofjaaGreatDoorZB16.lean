/-
  Plain mathematics: which Decs may be; of two the greater one never has the lesser float.
-/
import Derived.Test.YtlhekeifffofjaaGreatDoorZB4
import Derived.Test.YtlhekeifffofjaaGreatDoorZB5
namespace Go.Proofs.YtlhekeifffofjaaGreatDoor

theorem over_ratio {a b : DecT} {u : Int} (hu : u = min a.exp b.exp) (h : decV a.dig * 10 ^ (a.exp - u).toNat ≤ decV b.dig * 10 ^ (b.exp - u).toNat) (B : Nat) : dOver a * 2 ^ B * dUnder b ≤ dOver b * 2 ^ B * dUnder a := by
  unfold dOver dUnder
  obtain ⟨K, hK⟩ : ∃ K : Nat, (K : Int) = (-a.exp).toNat + (-b.exp).toNat + u := ⟨((-a.exp).toNat + (-b.exp).toNat + u).toNat, by omega⟩
  have e1 : decV a.dig * 10 ^ a.exp.toNat * 2 ^ B * 10 ^ (-b.exp).toNat = decV a.dig * 10 ^ (a.exp - u).toNat * (10 ^ K * 2 ^ B) := by
    rw [Nat.mul_right_comm _ (2 ^ B), Nat.mul_assoc (decV a.dig), ← Nat.pow_add, ← Nat.mul_assoc, Nat.mul_assoc (decV a.dig) (10 ^ (a.exp - u).toNat), ← Nat.pow_add]
    congr 3; omega
  have e2 : decV b.dig * 10 ^ b.exp.toNat * 2 ^ B * 10 ^ (-a.exp).toNat = decV b.dig * 10 ^ (b.exp - u).toNat * (10 ^ K * 2 ^ B) := by
    rw [Nat.mul_right_comm _ (2 ^ B), Nat.mul_assoc (decV b.dig), ← Nat.pow_add, ← Nat.mul_assoc, Nat.mul_assoc (decV b.dig) (10 ^ (b.exp - u).toNat), ← Nat.pow_add]
    congr 3; omega
  rw [e1, e2]
  exact Nat.mul_le_mul_right _ h

/-- A finite Dec that is not below 0. -/
structure Pos (d : DecT) : Prop where
  cls : d.cls = 0
  neg : d.neg = false
  ne : d.dig ≠ [] → decV d.dig ≠ 0

theorem Pos.toD {d : DecT} (h : Pos d) (F X B : Nat) : toD F X B d = if d.dig = [] then 0 else bitsOf F B (infN F X) (dOver d) (dUnder d) := by
  unfold Go.Proofs.YtlhekeifffofjaaGreatDoor.toD
  rw [h.cls, h.neg, if_neg (by decide), if_neg (by decide)]
  rfl

theorem Pos.over {d : DecT} (h : Pos d) (hd : d.dig ≠ []) : dOver d ≠ 0 := by
  have : 0 < 10 ^ d.exp.toNat := Nat.pow_pos (by omega)
  exact Nat.mul_ne_zero (h.ne hd) (by omega)

theorem toD_rises {F X B : Nat} (hF : 1 ≤ F) (hI : infN F X % 2 = 0) {a b : DecT} (ha : Pos a) (hb : Pos b) {u : Int} (hu : u = min a.exp b.exp) (h : decV a.dig * 10 ^ (a.exp - u).toNat ≤ decV b.dig * 10 ^ (b.exp - u).toNat) : toD F X B a ≤ toD F X B b := by
  rw [ha.toD, hb.toD]
  by_cases ea : a.dig = []
  · rw [if_pos ea]; exact Nat.zero_le _
  · rw [if_neg ea]
    have hb0 : b.dig ≠ [] := by
      intro e
      rw [e] at h
      have h1 : 0 < 10 ^ (a.exp - u).toNat := Nat.pow_pos (by omega)
      have h2 := Nat.mul_pos (Nat.pos_of_ne_zero (ha.ne ea)) h1
      rw [show decV ([] : List UInt8) = 0 from rfl, Nat.zero_mul] at h
      omega
    rw [if_neg hb0]
    exact (bitsOf_lies hF hI (ha.over ea) (dUnder_ne _)).mono (bitsOf_lies hF hI (hb.over hb0) (dUnder_ne _)) (Nat.pos_of_ne_zero (dUnder_ne _)) (Nat.pos_of_ne_zero (dUnder_ne _)) (over_ratio hu h B)

end Go.Proofs.YtlhekeifffofjaaGreatDoor
