/-
  What nat.DivMod does, whatever the two numbers.
-/
import Derived.Test.YtpiloigpncbccaaLong2
import Derived.Test.YtpiloigpncbccaaShort
namespace Go.Proofs.Ytpiloigpncbccaa
open Go.RowKit

set_option maxHeartbeats 1000000 in
theorem divmod_long (ao bo : Option Addr) (la ca lb cb m p n q r : Nat) (w : World) (hpm : p ≤ m) (hp : 2 ≤ p) (_hm : m ≤ 10000000000)
    (c1 : ∀ w' : World, w'.heap = w.heap → Calls Try.prog 15 #[.slice ao la ca] w' fun e w'' => e = .returned (.slice ao m ca) ∧ w' = w'')
    (c2 : ∀ w' : World, w'.heap = w.heap → Calls Try.prog 15 #[.slice bo lb cb] w' fun e w'' => e = .returned (.slice bo p cb) ∧ w' = w'')
    (c3 : Calls Try.prog 18 #[.slice ao m ca, .slice bo p cb] w (LongPost w n q r)) :
    Calls Try.prog 5 #[.slice ao la ca, .slice bo lb cb] w (DivPost w n q r 0) := by
  have C1 : Hid (∀ w' : World, w'.heap = w.heap → Calls Try.prog 15 #[.slice ao la ca] w' fun e w'' => e = .returned (.slice ao m ca) ∧ w' = w'') := c1
  have C2 : Hid (∀ w' : World, w'.heap = w.heap → Calls Try.prog 15 #[.slice bo lb cb] w' fun e w'' => e = .returned (.slice bo p cb) ∧ w' = w'') := c2
  have C3 : Hid (Calls Try.prog 18 #[.slice ao m ca, .slice bo p cb] w (LongPost w n q r)) := c3
  have n1 : ((p : Int) == 0) = false := by rw [beq_eq_false_iff_ne]; omega
  have n2 : ¬ (m : Int) < (p : Int) := by omega
  have n3 : ((p : Int) == 1) = false := by rw [beq_eq_false_iff_ne]; omega
  clear c1 c2 c3
  go_enter Try.func5, Try.ntmps5
  go_wp2_with fail
  refine (C1.out _ rfl).mono ?_
  rintro e w' ⟨rfl, rfl⟩
  go_wp2_with fail
  refine (C2.out _ rfl).mono ?_
  rintro e w' ⟨rfl, rfl⟩
  go_wp2_with fail
  refine C3.out.mono ?_
  rintro e w1 ⟨v1, r1, v2, r2, rfl, o1, o2, i1, i2, hb, hne⟩
  go_wp2
  go_ret3
  exact ⟨v1, r1, v2, r2, rfl, o1, o2, i1, i2, hb, hne⟩

/-- Where the divisor is not nought: quotient and rest, in memory of their own. -/
theorem divmod_any (ao bo : Option Addr) (la ca lb cb : Nat) (xs ys : List Nat) (w : World) (hla : la ≤ ca) (hca : la ≤ 100000000 ∧ ca ≤ 9223372036854775807) (hlb : lb ≤ cb) (hcb : lb ≤ 100000000 ∧ cb ≤ 9223372036854775807)
    (hx : xs.length = la) (hy : ys.length = lb) (hax : At .u64 w ao xs) (hay : At .u64 w bo ys) (ox : Ok B64 xs) (oy : Ok B64 ys) (h0 : num B64 ys ≠ 0) :
    Calls Try.prog 5 #[.slice ao la ca, .slice bo lb cb] w (DivPost w la (num B64 xs / num B64 ys) (num B64 xs % num B64 ys) 0) := by
  have hb0 : 0 < B64 := by decide
  have l1 := length_trimmed_le xs
  have l2 := length_trimmed_le ys
  have c1 : ∀ w' : World, w'.heap = w.heap → Calls Try.prog 15 #[.slice ao la ca] w' fun e w'' => e = .returned (.slice ao (trimmed xs).length ca) ∧ w' = w'' := fun w' h => trim_to _ la ca _ xs w' hla (by omega) hx (hax.same h) rfl
  have c2 : ∀ w' : World, w'.heap = w.heap → Calls Try.prog 15 #[.slice bo lb cb] w' fun e w'' => e = .returned (.slice bo (trimmed ys).length cb) ∧ w' = w'' := fun w' h => trim_to _ lb cb _ ys w' hlb (by omega) hy (hay.same h) rfl
  have wide : ∀ {m q r : Nat}, m ≤ la → ∀ e w', DivPost w m q r 0 e w' → DivPost w la q r 0 e w' := by
    rintro m q r hm e w' ⟨v1, r1, v2, r2, e1, o1, o2, i1, i2, hb, hd⟩
    exact ⟨v1, r1, v2, r2, e1, o1.mono (Nat.le_refl _) hm, o2.mono (Nat.le_refl _) hm, i1, i2, hb, hd⟩
  have p0 : (trimmed ys).length ≠ 0 := fun h => h0 (by rw [← num_trimmed, List.length_eq_zero_iff.1 h]; rfl)
  by_cases hlt : (trimmed xs).length < (trimmed ys).length
  · have nl : num B64 xs < num B64 ys := by
      rcases hn : (trimmed ys).length with _ | n
      · exact absurd hn p0
      · have a1 := num_lt (trimmed_ok ox)
        have a2 := num_ge (b := B64) (trimmed_top ys) hn
        have a3 := Nat.pow_le_pow_right hb0 (show (trimmed xs).length ≤ n by omega)
        rw [num_trimmed] at a1 a2
        omega
    have c3 := norm_any ao (trimmed xs).length ca (trimmed xs) w (by omega) (by omega) rfl hax.trimmed (trimmed_ok ox)
    have key := divmod_less ao bo la ca lb cb _ _ (num B64 xs) w hlt (by omega) c1 c2 (by rw [num_trimmed] at c3; exact c3)
    rw [Nat.div_eq_of_lt nl, Nat.mod_eq_of_lt nl]
    exact key.mono (wide (by omega))
  · by_cases h1 : (trimmed ys).length = 1
    · exact divmod_by_limb ao bo la ca lb cb xs ys w hla (by omega) hlb (by omega) hx hy hax hay ox oy h1 (by omega)
    · obtain ⟨p, hp⟩ : ∃ p, (trimmed ys).length = p + 2 := ⟨(trimmed ys).length - 2, by omega⟩
      have c3 := divLong_at ao bo (trimmed xs).length ca (trimmed ys).length cb p ((trimmed xs).length - (trimmed ys).length) (trimmed xs) (trimmed ys) w hp (by omega) (by omega) rfl rfl hax.trimmed hay.trimmed (trimmed_ok ox) (trimmed_ok oy) (trimmed_top ys (p + 1) hp)
      rw [num_trimmed, num_trimmed] at c3
      exact (divmod_long ao bo la ca lb cb _ _ _ _ _ w (by omega) (by omega) (by omega) c1 c2 c3).mono (wide (by omega))

end Go.Proofs.Ytpiloigpncbccaa
