/-
  What nat.DivMod does where the divisor is nought, longer than the dividend, or one limb long.
-/
import Derived.Test.YtpiloigpncbccaaLimb
namespace Go.Proofs.Ytpiloigpncbccaa
open Go.RowKit

/-- What nat.DivMod answers: quotient and rest, each in memory of its own. -/
def DivPost (w : World) (m q r : Nat) (err : Int) (e : Ending) (w' : World) : Prop :=
  ∃ v1 r1 v2 r2, e = .returned (.tuple #[v1, v2, .int .i64 err]) ∧ Own .u64 33 w' w.heap.size m v1 r1 ∧ Own .u64 33 w' w.heap.size m v2 r2 ∧ Is B64 r1 q ∧ Is B64 r2 r ∧ Below w.heap.size w w' ∧
    (v1.ownBlock = none ∨ v1.ownBlock ≠ v2.ownBlock)

set_option maxHeartbeats 4000000 in
theorem divmod_zero (ao bo : Option Addr) (la ca lb cb m : Nat) (w : World)
    (c1 : ∀ w' : World, w'.heap = w.heap → Calls Try.prog 15 #[.slice ao la ca] w' fun e w'' => e = .returned (.slice ao m ca) ∧ w' = w'')
    (c2 : ∀ w' : World, w'.heap = w.heap → Calls Try.prog 15 #[.slice bo lb cb] w' fun e w'' => e = .returned (.slice bo 0 cb) ∧ w' = w'') :
    Calls Try.prog 5 #[.slice ao la ca, .slice bo lb cb] w (DivPost w 0 0 0 11) := by
  have C1 : Hid (∀ w' : World, w'.heap = w.heap → Calls Try.prog 15 #[.slice ao la ca] w' fun e w'' => e = .returned (.slice ao m ca) ∧ w' = w'') := c1
  have C2 : Hid (∀ w' : World, w'.heap = w.heap → Calls Try.prog 15 #[.slice bo lb cb] w' fun e w'' => e = .returned (.slice bo 0 cb) ∧ w' = w'') := c2
  clear c1 c2
  go_enter Try.func5, Try.ntmps5
  go_wp2_with fail
  refine (C1.out _ rfl).mono ?_
  rintro e w' ⟨rfl, rfl⟩
  go_wp2_with fail
  refine (C2.out _ rfl).mono ?_
  rintro e w' ⟨rfl, rfl⟩
  go_wp2
  go_ret3
  exact ⟨_, [], _, [], rfl, .inl ⟨rfl, rfl⟩, .inl ⟨rfl, rfl⟩, Is.none (by decide), Is.none (by decide), Below.refl _ _, .inl rfl⟩

set_option maxHeartbeats 4000000 in
theorem divmod_less (ao bo : Option Addr) (la ca lb cb m p n : Nat) (w : World) (hmp : m < p) (_hp : p ≤ 10000000000)
    (c1 : ∀ w' : World, w'.heap = w.heap → Calls Try.prog 15 #[.slice ao la ca] w' fun e w'' => e = .returned (.slice ao m ca) ∧ w' = w'')
    (c2 : ∀ w' : World, w'.heap = w.heap → Calls Try.prog 15 #[.slice bo lb cb] w' fun e w'' => e = .returned (.slice bo p cb) ∧ w' = w'')
    (c3 : Calls Try.prog 9 #[.slice ao m ca] w (NatPost w m n)) :
    Calls Try.prog 5 #[.slice ao la ca, .slice bo lb cb] w (DivPost w m 0 n 0) := by
  have C1 : Hid (∀ w' : World, w'.heap = w.heap → Calls Try.prog 15 #[.slice ao la ca] w' fun e w'' => e = .returned (.slice ao m ca) ∧ w' = w'') := c1
  have C2 : Hid (∀ w' : World, w'.heap = w.heap → Calls Try.prog 15 #[.slice bo lb cb] w' fun e w'' => e = .returned (.slice bo p cb) ∧ w' = w'') := c2
  have C3 : Hid (Calls Try.prog 9 #[.slice ao m ca] w (NatPost w m n)) := c3
  have n1 : ((p : Int) == 0) = false := by rw [beq_eq_false_iff_ne]; omega
  have n2 : (m : Int) < (p : Int) := by omega
  clear c1 c2 c3
  go_enter Try.func5, Try.ntmps5
  go_wp2_with fail
  refine (C1.out _ rfl).mono ?_
  rintro e w' ⟨rfl, rfl⟩
  go_wp2_with fail
  refine (C2.out _ rfl).mono ?_
  rintro e w' ⟨rfl, rfl⟩
  go_wp2_with fail
  refine C3.out.mono ?_
  rintro e w1 ⟨v, r, rfl, hown, his, hbel⟩
  go_wp2
  go_ret3
  exact ⟨_, [], _, r, rfl, .inl ⟨rfl, rfl⟩, hown, Is.none (by decide), his, hbel, .inl rfl⟩

set_option maxHeartbeats 4000000 in
theorem divmod_limb (ao : Option Addr) (b o la ca lb cb m q n d : Nat) (w : World) (hm : 1 ≤ m) (hml : m ≤ 10000000000)
    (c1 : ∀ w' : World, w'.heap = w.heap → Calls Try.prog 15 #[.slice ao la ca] w' fun e w'' => e = .returned (.slice ao m ca) ∧ w' = w'')
    (c2 : ∀ w' : World, w'.heap = w.heap → Calls Try.prog 15 #[.slice (some ⟨b, o, none⟩) lb cb] w' fun e w'' => e = .returned (.slice (some ⟨b, o, none⟩) 1 cb) ∧ w' = w'')
    (hc : w.cell? ⟨b, o, none⟩ = some (.int .u64 (d : Int)))
    (c3 : Calls Try.prog 16 #[.slice ao m ca, .int .u64 (d : Int)] w (LimbPost w m q n)) (hn : n < B64) :
    Calls Try.prog 5 #[.slice ao la ca, .slice (some ⟨b, o, none⟩) lb cb] w (DivPost w m q n 0) := by
  have C1 : Hid (∀ w' : World, w'.heap = w.heap → Calls Try.prog 15 #[.slice ao la ca] w' fun e w'' => e = .returned (.slice ao m ca) ∧ w' = w'') := c1
  have C2 : Hid (∀ w' : World, w'.heap = w.heap → Calls Try.prog 15 #[.slice (some ⟨b, o, none⟩) lb cb] w' fun e w'' => e = .returned (.slice (some ⟨b, o, none⟩) 1 cb) ∧ w' = w'') := c2
  have C3 : Hid (Calls Try.prog 16 #[.slice ao m ca, .int .u64 (d : Int)] w (LimbPost w m q n)) := c3
  have n2 : ¬ (m : Int) < 1 := by omega
  have HN : Hid (n < B64) := hn
  clear c1 c2 c3 hn
  go_enter Try.func5, Try.ntmps5
  go_wp2_with fail
  refine (C1.out _ rfl).mono ?_
  rintro e w' ⟨rfl, rfl⟩
  go_wp2_with fail
  refine (C2.out _ rfl).mono ?_
  rintro e w' ⟨rfl, rfl⟩
  go_wp2_with fail
  refine C3.out.mono ?_
  rintro e w1 ⟨v, r, rfl, hown, his, hbel⟩
  go_wp2_with fail
  refine (of_any n _ HN.out).mono ?_
  rintro e w2 ⟨v2, r2, rfl, hown2, his2, hbel2⟩
  go_wp2
  go_ret3
  refine ⟨v, r, v2, r2, rfl, hown.below hbel2, hown2.mono hbel.size hm, his, his2, hbel.trans (hbel2.mono hbel.size), ?_⟩
  rcases hown with ⟨rfl, _⟩ | ⟨g, full, rfl, _, hr, _⟩
  · exact .inl rfl
  · refine .inr ?_
    have := hr.lt
    rcases hown2 with ⟨rfl, _⟩ | ⟨g2, full2, rfl, hg2, _⟩
    · simp [Value.ownBlock]
    · simp [Value.ownBlock]; omega

end Go.Proofs.Ytpiloigpncbccaa
