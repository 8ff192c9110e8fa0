/-
  What quipulaw03's formed does, of a Dec in its one form.
  What quipulaw03's number and order do, of finite Decs.
-/
import Derived.Test.YtlhekeifffofjaaGreatDoorZB8
import Derived.Test.YtlhekeifffofjaaGreatDoorZB9
import Derived.Test.YtlhekeifffofjaaGreatDoorZB4
import Derived.Deep.RegionHeld3
namespace Go.Proofs.YtlhekeifffofjaaGreatDoor
open Go.RowKit

end Go.Proofs.YtlhekeifffofjaaGreatDoor

namespace Go.Proofs.YtlhekeifffofjaaGreatDoor
open Go.RowKit

/-- A Dec's digits as a whole number of 10^u. -/
def numD (d : DecT) (u : Int) : Nat := decV d.dig * 10 ^ (d.exp - u).toNat

theorem numD_val {d : DecT} {u : Int} (h1 : -1100 ≤ u) (h2 : u ≤ d.exp) : valD d = numD d u * 10 ^ (u + 1100).toNat := by
  unfold valD numD
  rw [Nat.mul_assoc, ← Nat.pow_add]
  congr 2
  omega

/-- What is asked of a Dec here. -/
structure Plain (d : DecT) : Prop where
  cls : d.cls = 0
  dig : DigB d.dig
  len : d.dig.length ≤ 1000
  lo : -1100 ≤ d.exp
  hi : d.exp ≤ 400

theorem Plain.of {d : DecT} {most : Nat} (h : Formed d most) (hm : most ≤ 1000) : Plain d := by
  refine ⟨h.cls, h.dig, Nat.le_trans h.len hm, ?_, ?_⟩
  · by_cases e : d.dig = []
    · rw [h.nil e]; omega
    · exact (h.cons e).2.2.1
  · by_cases e : d.dig = []
    · rw [h.nil e]; omega
    · exact (h.cons e).2.2.2

theorem numD_small {d : DecT} (h : Plain d) {u : Int} (h1 : -1100 ≤ u) : Sm (decV d.dig) ∧ Sm (10 ^ (d.exp - u).toNat) ∧ Sm (numD d u) := by
  have a1 := decV_lt _ d.dig rfl h.dig
  have h3 := h.len
  have h4 := h.hi
  have a2 : 10 ^ (d.exp - u).toNat < 10 ^ ((d.exp - u).toNat + 1) := (Nat.pow_lt_pow_iff_right (by omega : 1 < 10)).2 (by omega)
  refine ⟨Sm.of a1 (by omega), Sm.of a2 (by omega), ?_⟩
  have a3 := mul_lt10 a1 a2
  exact Sm.of a3 (by omega)

end Go.Proofs.YtlhekeifffofjaaGreatDoor
