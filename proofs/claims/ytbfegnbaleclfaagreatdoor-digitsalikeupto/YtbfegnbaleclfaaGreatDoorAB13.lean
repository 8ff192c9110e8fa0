/-
  What round's At, Digits and Step answer, whatever they are handed.
  Plain data of chapter 7: precisions, what is shown, and what the document says of them.
-/
import Derived.Test.YtbfegnbaleclfaaGreatDoorAB2
import Derived.Test.YtbfegnbaleclfaaGreatDoorAB12
namespace Go.Proofs.YtbfegnbaleclfaaGreatDoor
open Go.RowKit

def zeroD : DecT := ⟨0, false, [], 0⟩

end Go.Proofs.YtbfegnbaleclfaaGreatDoor

namespace Go.Proofs.YtbfegnbaleclfaaGreatDoor

structure ShownT where
  cls : Int
  neg : Bool
  int : List UInt8
  frac : List UInt8
  exp : Int
  compact : Bool

def MayS (s : ShownT) : Prop := (-2001 ≤ s.exp ∧ s.exp ≤ 2001) ∧ ((s.cls = 0 ∧ (s.int ≠ [] ∨ s.frac ≠ []) ∧ (s.int.length ≤ 4096 ∧ DigB s.int) ∧ (s.frac.length ≤ 4096 ∧ DigB s.frac)) ∨ (s.cls = 1 ∧ s.int = [] ∧ s.frac = []) ∨ (s.cls = 2 ∧ s.int = [] ∧ s.frac = [] ∧ s.neg = false))

noncomputable def valueS (s : ShownT) : DecT × Int := open Classical in
  if ¬ MayS s then (zeroD, 71) else if s.cls ≠ 0 then (⟨s.cls.toNat, s.neg, [], 0⟩, 0) else tellF s.neg (decV (s.int ++ s.frac)) (s.exp - s.frac.length)

end Go.Proofs.YtbfegnbaleclfaaGreatDoor
