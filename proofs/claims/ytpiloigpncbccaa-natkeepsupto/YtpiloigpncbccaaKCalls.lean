/-
  nat's functions as NatKeeps calls them: each answers a list in memory of its own, whatever else it says.
-/
import Derived.Test.YtpiloigpncbccaaKWas
namespace Go.Proofs.Ytpiloigpncbccaa
open Go.RowKit

/-- v is a list in a block of its own, from lo on and below hi. -/
structure L1 (W : World) (v : Value) (x : List Nat) (lo hi : Nat) : Prop where
  own : Own .u64 33 W lo 30000000 v x
  top : ∀ g, v.ownBlock = some g → lo ≤ g ∧ g < hi

theorem L1.of {W : World} {v : Value} {x : List Nat} {lo m : Nat} (h : Own .u64 33 W lo m v x) (hm : m ≤ 30000000) : L1 W v x lo W.heap.size := by
  refine ⟨h.mono (Nat.le_refl _) hm, fun g hg => ?_⟩
  rcases h with ⟨rfl, _⟩ | ⟨g', full, rfl, h2, h3, _⟩
  · simp [Value.ownBlock] at hg
  · have : g' = g := by simpa [Value.ownBlock] using hg
    subst this
    exact ⟨h2, h3.lt⟩

theorem L1.below {W W' : World} {v : Value} {x : List Nat} {lo hi : Nat} (h : L1 W v x lo hi) (hb : Below W.heap.size W W') : L1 W' v x lo hi := ⟨h.own.below hb, h.top⟩

/-- One list is answered. -/
def K1 (w : World) (v : Value) (w' : World) : Prop := ∃ o c x, v = .slice o (List.length x) c ∧ Hid (L1 w' v x w.heap.size w'.heap.size) ∧ Hid (Below w.heap.size w w')

theorem K1.of {w w' : World} {v : Value} {x : List Nat} {m : Nat} (h : Own .u64 33 w' w.heap.size m v x) (hm : m ≤ 30000000) (hb : Below w.heap.size w w') : K1 w v w' := by
  obtain ⟨o, c, rfl, _, _, _⟩ := h.shape
  exact ⟨o, c, x, rfl, L1.of h hm, hb⟩

section
variable (ao bo : Option Addr) (la ca lb cb : Nat) (xs ys : List Nat) (w : World) (hla : la ≤ ca) (hca : la ≤ 2000000 ∧ ca ≤ 9223372036854775807) (hx : xs.length = la) (hax : At .u64 w ao xs) (ox : Ok B64 xs)
include hla hca hx hax ox

theorem keep_norm : Calls Try.prog 9 #[.slice ao la ca] w fun e w' => ∃ v, e = .returned v ∧ K1 w v w' := by
  refine (norm_any ao la ca xs w hla (by omega) hx hax ox).mono ?_
  rintro e w' ⟨v, r, rfl, h1, _, h2⟩
  exact ⟨v, rfl, K1.of h1 (by omega) h2⟩

theorem keep_shl (n : Int) (hn : -9223372036854775808 ≤ n ∧ n ≤ 9223372036854775807) : Calls Try.prog 7 #[.slice ao la ca, .int .i64 n] w fun e w' => ∃ v err, e = .returned (.tuple #[v, .int .i64 err]) ∧ K1 w v w' := by
  by_cases h : 0 ≤ n ∧ n ≤ 65536
  · obtain ⟨k, rfl⟩ : ∃ k : Nat, n = (k : Int) := ⟨n.toNat, by omega⟩
    refine (shl_any ao la ca k xs w (by omega) hla (by omega) hx hax ox).mono ?_
    rintro e w' ⟨v, r, rfl, h1, _, h2⟩
    exact ⟨v, _, rfl, K1.of h1 (by omega) h2⟩
  · refine (shl_bad ao la ca n w (by omega)).mono ?_
    rintro e w' ⟨v, r, rfl, h1, _, h2⟩
    exact ⟨v, _, rfl, K1.of h1 (by omega) h2⟩

theorem keep_shr (n : Int) (hn : -9223372036854775808 ≤ n ∧ n ≤ 9223372036854775807) : Calls Try.prog 8 #[.slice ao la ca, .int .i64 n] w fun e w' => ∃ v err, e = .returned (.tuple #[v, .int .i64 err]) ∧ K1 w v w' := by
  by_cases h : 0 ≤ n
  · obtain ⟨k, rfl⟩ : ∃ k : Nat, n = (k : Int) := ⟨n.toNat, by omega⟩
    refine (shr_any ao la ca k xs w (by omega) hla (by omega) hx hax ox).mono ?_
    rintro e w' ⟨v, r, rfl, h1, _, h2⟩
    exact ⟨v, _, rfl, K1.of h1 (by omega) h2⟩
  · refine (shr_bad ao la ca n w (by omega)).mono ?_
    rintro e w' ⟨v, r, rfl, h1, _, h2⟩
    exact ⟨v, _, rfl, K1.of h1 (by omega) h2⟩

variable (hlb : lb ≤ cb) (hcb : lb ≤ 2000000 ∧ cb ≤ 9223372036854775807) (hy : ys.length = lb) (hay : At .u64 w bo ys) (oy : Ok B64 ys)
include hlb hcb hy hay oy

theorem keep_add : Calls Try.prog 10 #[.slice ao la ca, .slice bo lb cb] w fun e w' => ∃ v, e = .returned v ∧ K1 w v w' := by
  refine (add_any ao bo la ca lb cb xs ys w hla (by omega) hlb (by omega) hx hy hax hay ox oy).mono ?_
  rintro e w' ⟨v, r, rfl, h1, _, h2⟩
  exact ⟨v, rfl, K1.of h1 (by omega) h2⟩

theorem keep_mul : Calls Try.prog 11 #[.slice ao la ca, .slice bo lb cb] w fun e w' => ∃ v, e = .returned v ∧ K1 w v w' := by
  refine (mul_any ao bo la ca lb cb xs ys w hla (by omega) hlb (by omega) hx hy hax hay ox oy).mono ?_
  rintro e w' ⟨v, r, rfl, h1, _, h2⟩
  exact ⟨v, rfl, K1.of h1 (by omega) h2⟩

theorem keep_sub : Calls Try.prog 6 #[.slice ao la ca, .slice bo lb cb] w fun e w' => ∃ v err, e = .returned (.tuple #[v, .int .i64 err]) ∧ K1 w v w' := by
  refine (sub_any ao bo la ca lb cb xs ys w hla (by omega) hlb (by omega) hx hy hax hay ox oy).mono ?_
  rintro e w' ⟨v, r, rfl, h1, _, h2⟩
  exact ⟨v, _, rfl, K1.of h1 (by omega) h2⟩

theorem keep_div : Calls Try.prog 5 #[.slice ao la ca, .slice bo lb cb] w fun e w' => ∃ v1 v2 err, e = .returned (.tuple #[v1, v2, .int .i64 err]) ∧ K1 w v1 w' ∧ K1 w v2 w' ∧ Hid (v1.ownBlock = none ∨ v1.ownBlock ≠ v2.ownBlock) := by
  by_cases h0 : num B64 ys = 0
  · refine (divmod_by_zero ao bo la ca lb cb xs ys w hla (by omega) hlb (by omega) hx hy hax hay h0).mono ?_
    rintro e w' ⟨v1, r1, v2, r2, rfl, h1, h2, _, _, h3, h4⟩
    exact ⟨v1, v2, _, rfl, K1.of h1 (by omega) h3, K1.of h2 (by omega) h3, h4⟩
  · refine (divmod_any ao bo la ca lb cb xs ys w hla (by omega) hlb (by omega) hx hy hax hay ox oy h0).mono ?_
    rintro e w' ⟨v1, r1, v2, r2, rfl, h1, h2, _, _, h3, h4⟩
    exact ⟨v1, v2, _, rfl, K1.of h1 (by omega) h3, K1.of h2 (by omega) h3, h4⟩
end

end Go.Proofs.Ytpiloigpncbccaa
