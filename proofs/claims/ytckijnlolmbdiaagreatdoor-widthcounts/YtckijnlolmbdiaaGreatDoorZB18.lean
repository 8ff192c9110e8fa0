/-
  The walk of RoundNear, part 3.
  The walk of RoundNear, part 4.
  RoundNear: what a number is rounded to lies less than a unit away, on the side that the mode says.
-/
import Derived.Test.YtckijnlolmbdiaaGreatDoorZB15
import Derived.Test.YtckijnlolmbdiaaGreatDoorZB7
import Derived.Test.YtckijnlolmbdiaaGreatDoorZB16
import Derived.Test.YtckijnlolmbdiaaGreatDoorZB17
namespace Go.Proofs.YtckijnlolmbdiaaGreatDoor
open Go.RowKit

end Go.Proofs.YtckijnlolmbdiaaGreatDoor

namespace Go.Proofs.YtckijnlolmbdiaaGreatDoor
open Go.RowKit

end Go.Proofs.YtckijnlolmbdiaaGreatDoor

namespace Go.Proofs.YtckijnlolmbdiaaGreatDoor
open Go.RowKit

theorem zD_injR {neg : Bool} {a b : Nat} (h : zD neg a = zD neg b) : a = b := by
  cases neg <;> simp only [zD, Bool.false_eq_true, if_false, if_true] at h <;> omega

theorem rndD_again {x : DecT} (hx : May x) {N : Nat} {e : Int} (m : Nat) {q : Nat} (he : -9000 ≤ e) (hv : vD x = zD x.neg (q * unitA N e)) : rndD x N e m = (x, 0) := by
  by_cases hz : x.dig = []
  · exact rndD_zero hz _ _ _
  · have hf := may_fin hx hz
    have l1 := hf.len
    have l2 := hf.lo
    refine rndD_exact hf m ?_
    have e1 : decV x.dig * 10 ^ (x.exp + 9000).toNat = q * unitA N e := zD_injR hv
    have c0 : 0 < 10 ^ (min x.exp e + 9000).toNat := Nat.pow_pos (by omega)
    have h2 : decV x.dig * 10 ^ (x.exp - min x.exp e).toNat * 10 ^ (min x.exp e + 9000).toNat % (N * 10 ^ (e - min x.exp e).toNat * 10 ^ (min x.exp e + 9000).toNat) = 0 := by
      rw [Nat.mul_assoc, Nat.mul_assoc, pow_join (by omega) (by omega), pow_join (by omega) (by omega), e1]
      exact Nat.mul_mod_left _ _
    rw [Nat.mul_mod_mul_right] at h2
    rcases Nat.mul_eq_zero.1 h2 with g | g
    · exact g
    · omega

end Go.Proofs.YtckijnlolmbdiaaGreatDoor
