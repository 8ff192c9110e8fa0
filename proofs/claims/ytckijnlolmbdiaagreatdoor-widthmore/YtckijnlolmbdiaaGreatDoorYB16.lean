/-
  The walk of RoundSigns.
  RoundSigns: what the calls answer of a number and of the one with the other sign.
  The walk of RoundRises.
  Plain mathematics: what a rounded number is worth, and that rounding keeps the order.
  RoundRises: of two numbers the greater one is not rounded to the lesser.
  Plain mathematics, and what follows for dec's Add, Mul, Cmp and Neg of any two Decs: sums and products are worth what they say.
-/
import Derived.Test.YtckijnlolmbdiaaGreatDoorYB2
import Derived.Test.YtckijnlolmbdiaaGreatDoorYB12
import Derived.Test.YtckijnlolmbdiaaGreatDoorYB4
import Derived.Test.YtckijnlolmbdiaaGreatDoorYB7
import Derived.Test.YtckijnlolmbdiaaGreatDoorYB15
namespace Go.Proofs.YtckijnlolmbdiaaGreatDoor
open Go.RowKit

end Go.Proofs.YtckijnlolmbdiaaGreatDoor

namespace Go.Proofs.YtckijnlolmbdiaaGreatDoor
open Go.RowKit

end Go.Proofs.YtckijnlolmbdiaaGreatDoor

namespace Go.Proofs.YtckijnlolmbdiaaGreatDoor
open Go.RowKit

end Go.Proofs.YtckijnlolmbdiaaGreatDoor

namespace Go.Proofs.YtckijnlolmbdiaaGreatDoor

theorem rndN_zero (u : Nat) (neg : Bool) (m : Nat) : rndN 0 u neg m = 0 := by
  rw [rndN_exact neg m (Nat.zero_mod _), Nat.zero_div]

def unitA (N : Nat) (x : Int) : Nat := N * 10 ^ (x + 9000).toNat

theorem unitA_pos {N : Nat} (h : N ≠ 0) (x : Int) : 0 < unitA N x := Nat.mul_pos (Nat.pos_of_ne_zero h) (Nat.pow_pos (by omega))

theorem pow_join {e k : Int} (h1 : k ≤ e) (h2 : -9000 ≤ k) : 10 ^ (e - k).toNat * 10 ^ (k + 9000).toNat = 10 ^ (e + 9000).toNat := by
  rw [← Nat.pow_add]; congr 1; omega

theorem rndN_amt (D N : Nat) {e x : Int} (he : -9000 ≤ e) (hx : -9000 ≤ x) (neg : Bool) (m : Nat) :
    rndN (D * 10 ^ (e - min e x).toNat) (N * 10 ^ (x - min e x).toNat) neg m = rndN (D * 10 ^ (e + 9000).toNat) (unitA N x) neg m := by
  rw [← rndN_mul _ _ (10 ^ (min e x + 9000).toNat) neg m (Nat.pow_pos (by omega)), Nat.mul_assoc, Nat.mul_assoc, pow_join (by omega) (by omega), pow_join (by omega) (by omega)]
  rfl

theorem tellF_valR {neg : Bool} {N : Nat} {e : Int} (he : -9000 ≤ e) (h : (tellF neg N e).2 = 0) : vD (tellF neg N e).1 = zD neg N * ((10 ^ (e + 9000).toNat : Nat) : Int) ∧ (tellF neg N e).1.cls = 0 ∧ (tellF neg N e).1.neg = neg := by
  by_cases hm : May (finD neg N e)
  · rw [tellF_yes hm]
    refine ⟨vD_fin he, finD_cls _ _ _, ?_⟩
    unfold finD; split <;> rfl
  · rw [tellF_no hm] at h
    exact absurd h (by decide)

theorem rndD_val {d : DecT} (hd : May d) (hc : d.cls = 0) (N : Nat) {x : Int} (m : Nat) (hx : -9000 ≤ x) (h : (rndD d N x m).2 = 0) :
    vD (rndD d N x m).1 = zD d.neg (rndN (amt d.dig d.exp) (unitA N x) d.neg m * unitA N x) ∧ (rndD d N x m).1.cls = 0 ∧ (rndD d N x m).1.neg = d.neg := by
  by_cases hz : d.dig = []
  · rw [rndD_zero hz]
    refine ⟨?_, hc, rfl⟩
    have e0 : amt d.dig d.exp = 0 := by rw [hz]; simp [amt, decV]
    unfold vD
    rw [e0, rndN_zero, Nat.zero_mul]
  · have hf : Fin d := by
      rcases may_cases hd with ⟨n, rfl⟩ | h | ⟨n, rfl⟩ | rfl
      · exact absurd rfl hz
      · exact h
      · exact absurd rfl hz
      · exact absurd rfl hz
    have l1 := hf.len
    have l2 := hf.lo
    rw [rndD_fin hz] at h ⊢
    obtain ⟨h1, h2, h3⟩ := tellF_valR hx h
    refine ⟨?_, h2, h3⟩
    rw [h1, rndN_amt _ _ (by omega) hx, ← zD_mul, Nat.mul_assoc]
    rfl

end Go.Proofs.YtckijnlolmbdiaaGreatDoor

namespace Go.Proofs.YtckijnlolmbdiaaGreatDoor
open Go.RowKit

end Go.Proofs.YtckijnlolmbdiaaGreatDoor

namespace Go.Proofs.YtckijnlolmbdiaaGreatDoor
open Go.RowKit

end Go.Proofs.YtckijnlolmbdiaaGreatDoor
