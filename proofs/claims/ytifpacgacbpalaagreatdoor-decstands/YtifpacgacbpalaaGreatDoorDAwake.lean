/-
  quipulaw05's awake: the calls answer what the document fixes.
-/
import Derived.Test.YtifpacgacbpalaaGreatDoorDOps
import Derived.Test.YtifpacgacbpalaaGreatDoorDCmp
import Derived.Test.YtifpacgacbpalaaGreatDoorDParse
namespace Go.Proofs.YtifpacgacbpalaaGreatDoor
open Go.RowKit

theorem digB_of {l : List UInt8} (h : l.all isDg = true) : DigB l := by
  have := (dgs_all_of h)
  rw [← this]; exact dgs_digB l
where
  dgs_all_of : ∀ {l : List UInt8}, l.all isDg = true → dgs l = l
    | [], _ => rfl
    | b :: t, h => by
      simp only [List.all_cons, Bool.and_eq_true] at h
      unfold dgs
      rw [List.takeWhile_cons_of_pos h.1]
      congr 1
      exact dgs_all_of h.2

theorem tell_of {neg : Bool} {l : List UInt8} {e : Int} {N : Nat} {d : DecT} (hd : DigB l) (hN : N = decV l) (h : ofD neg l e = d) (hm : May d) : tellF neg N e = (d, 0) := by
  have e1 : finD neg N e = d := by rw [hN, ← ofD_fin neg l e hd]; exact h
  rw [tellF_yes (by rw [e1]; exact hm), e1]
theorem tell_not {neg : Bool} {l : List UInt8} {e : Int} {N : Nat} {d : DecT} (hd : DigB l) (hN : N = decV l) (h : ofD neg l e = d) (hm : ¬ May d) : tellF neg N e = (⟨0, false, [], 0⟩, 51) := by
  have e1 : finD neg N e = d := by rw [hN, ← ofD_fin neg l e hd]; exact h
  exact tellF_no (by rw [e1]; exact hm)

def dA : DecT := ⟨0, false, [49, 53], -1⟩
def dX : DecT := ⟨0, false, [51], 0⟩
def dY : DecT := ⟨0, false, [50, 50, 53], -2⟩

theorem finA : Fin dA := ⟨rfl, by decide, by decide, by decide, by decide, by decide, by decide, digB_of rfl⟩
theorem finX : Fin dX := ⟨rfl, by decide, by decide, by decide, by decide, by decide, by decide, digB_of rfl⟩
theorem finY : Fin dY := ⟨rfl, by decide, by decide, by decide, by decide, by decide, by decide, digB_of rfl⟩

theorem itoa_m1 : Lib.itoa (-1) = [45, 49] := by
  unfold Lib.itoa
  rw [if_pos (by decide), show (-1 : Int).natAbs = 1 from rfl, Lib.decDigits_one (by decide)]
  rfl
theorem aw9 : cmpI (wD dA) (wD dX) = -1 := by
  rw [← rank_or]
  rfl
where
  rank_or : amtI dA dX = cmpI (wD dA) (wD dX) := by
    have := same_cmp finA.may finX.may rfl
    exact this

theorem bysmk (a : Array UInt8) : bys ⟨a⟩ = a.toList := rfl

abbrev vA : Value := .agg #[.int .i64 0, .bool false, .string ⟨#[49, 53]⟩, .int .i64 (-1)]
theorem aPrint5 (w : World) : Calls Tryz.prog 16 #[.agg #[.int .i64 0, .bool false, .string ⟨#[]⟩, .int .i64 1]] w fun e w' => e = .returned (.tuple #[.string ⟨#[]⟩, .int .i64 52]) ∧ Below w.heap.size w w' :=
  Print_no 0 false ⟨#[]⟩ 1 w (by
    rintro (⟨_, ⟨_, h1⟩ | ⟨h1, _⟩⟩ | ⟨h1, _⟩ | ⟨h1, _⟩)
    · cases h1
    · exact h1 rfl
    · cases h1
    · cases h1)
theorem aScale (w : World) : Calls Tryz.prog 22 #[vA, .int .i64 3] w fun e w' => e = .returned (.tuple #[.agg #[.int .i64 0, .bool false, .string ⟨#[49, 53]⟩, .int .i64 2], .int .i64 0]) ∧ Below w.heap.size w w' :=
  Scale_in 0 false ⟨#[49, 53]⟩ (-1) 3 w finA.may (by decide) (by decide) (by decide)
theorem aCmp (w : World) : Calls Tryz.prog 18 #[vA, .agg #[.int .i64 0, .bool false, .string ⟨#[51]⟩, .int .i64 0]] w fun e w' => e = .returned (.tuple #[.int .i64 (-1), .int .i64 0]) ∧ Below w.heap.size w w' := by
  have h := Cmp_d dA dX w finA.may finX.may
  rw [aw9] at h
  exact h
theorem aNeg (w : World) : Calls Tryz.prog 20 #[vA] w fun e w' => e = .returned (.tuple #[.agg #[.int .i64 0, .bool true, .string ⟨#[49, 53]⟩, .int .i64 (-1)], .int .i64 0]) ∧ Below w.heap.size w w' :=
  Neg_yes 0 false ⟨#[49, 53]⟩ (-1) w finA.may (by decide)
theorem aMay (w : World) : Calls Tryz.prog 10 #[vA] w fun e w' => e = .returned (.bool true) ∧ Below w.heap.size w w' := dmay_yes 0 false ⟨#[49, 53]⟩ (-1) w finA.may
theorem aPlace (w : World) : Calls Tryz.prog 12 #[vA] w fun e w' => e = .returned (.int .i64 1) ∧ Below w.heap.size w w' := Place_yes 0 false ⟨#[49, 53]⟩ (-1) w finA.may

end Go.Proofs.YtifpacgacbpalaaGreatDoor
