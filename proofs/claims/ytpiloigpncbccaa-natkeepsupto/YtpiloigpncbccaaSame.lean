/-
  What the reference's Same does: it tells whether two lists hold the same limbs.
-/
import Derived.Test.YtpiloigpncbccaaProg
import Derived.Test.YtpiloigpncbccaaMem
import Derived.Deep.QuietTactic
import Derived.BigQuiet
import Derived.WalkSmall
namespace Go.Proofs.Ytpiloigpncbccaa
open Go.RowKit

theorem same_step {xs ys : List Nat} (k : Nat) (h : ∀ i, i < k → xs[i]?.getD 0 = ys[i]?.getD 0) (hk : xs[k]?.getD 0 = ys[k]?.getD 0) : ∀ i, i < k + 1 → xs[i]?.getD 0 = ys[i]?.getD 0 := by
  intro i hi
  by_cases e : i = k
  · rw [e]; exact hk
  · exact h i (by omega)

theorem eq_of_getD {xs ys : List Nat} (hl : xs.length = ys.length) (h : ∀ i, i < xs.length → xs[i]?.getD 0 = ys[i]?.getD 0) : xs = ys := by
  apply List.ext_getElem hl
  intro i h1 h2
  have := h i h1
  simpa [h1, h2] using this

set_option maxHeartbeats 400000 in
theorem same_len (ao bo : Option Addr) (la ca lb cb : Nat) (w : World) (h : la ≠ lb) :
    Calls Try.prog 12 #[.slice ao la ca, .slice bo lb cb] w fun e w' => e = .returned (.bool false) ∧ w' = w := by
  have hne : ((la : Int) != (lb : Int)) = true := by rw [bne_iff_ne]; omega
  go_enter Try.func12, Try.ntmps12
  go_wp2
  go_ret
  exact ⟨rfl, rfl⟩

set_option maxHeartbeats 400000 in
theorem same_none (ao bo : Option Addr) (ca cb : Nat) (w : World) :
    Calls Try.prog 12 #[.slice ao 0 ca, .slice bo 0 cb] w fun e w' => e = .returned (.bool true) ∧ w' = w := by
  go_enter Try.func12, Try.ntmps12
  go_wp2
  refine wp_loop_rounds 1 ?_
  rw [rounds_succ]
  go_wp2
  go_ret
  exact ⟨rfl, rfl⟩

set_option maxHeartbeats 1000000 in
theorem same_at (b o b' o' len ca cb : Nat) (xs ys : List Nat) (w : World) (_hc : len ≤ 1000000000000) (hx : xs.length = len) (hy : ys.length = len)
    (hcx : ∀ i, i < len → w.cell? ⟨b, o + i, none⟩ = some (.int .u64 ((xs[i]?.getD 0 : Nat) : Int)))
    (hcy : ∀ i, i < len → w.cell? ⟨b', o' + i, none⟩ = some (.int .u64 ((ys[i]?.getD 0 : Nat) : Int))) :
    Calls Try.prog 12 #[.slice (some ⟨b, o, none⟩) len ca, .slice (some ⟨b', o', none⟩) len cb] w fun e w' => e = .returned (.bool (decide (xs = ys))) ∧ Below w.heap.size w w' := by
  have hne : ((len : Int) != (len : Int)) = false := by simp
  go_enter Try.func12, Try.ntmps12
  go_wp2
  go_loopw [5] (fun i wr => ∃ k : Nat, k ≤ len ∧ i = .int .i64 k ∧ (∀ i, i < k → xs[i]?.getD 0 = ys[i]?.getD 0) ∧ Below w.heap.size w wr ∧ wr.heap = w.heap) (fun i _ => len - (intOf i).toNat)
  case atStart => exact ⟨0, Nat.zero_le _, rfl, by omega, Below.refl _ _, rfl⟩
  case round =>
    obtain ⟨k, hk, rfl, hsame, hbel, hheap⟩ := hrel
    have HS : Hid (∀ i, i < k → xs[i]?.getD 0 = ys[i]?.getD 0) := hsame
    have HH : Hid (wr.heap = w.heap) := hheap
    clear hsame hheap
    by_cases hlt : k < len
    · have hcx' : wr.cell? ⟨b, o + k, none⟩ = some (.int .u64 ((xs[k]?.getD 0 : Nat) : Int)) := by rw [World.cell?_of_block (w := w) (by rw [HH.out])]; exact hcx k hlt
      have hcy' : wr.cell? ⟨b', o' + k, none⟩ = some (.int .u64 ((ys[k]?.getD 0 : Nat) : Int)) := by rw [World.cell?_of_block (w := w) (by rw [HH.out])]; exact hcy k hlt
      have hI : (k : Int) < (len : Int) := by omega
      clear hcx hcy
      obtain ⟨x, hx0⟩ : ∃ x, x = xs[k]?.getD 0 := ⟨_, rfl⟩
      obtain ⟨y, hy0⟩ : ∃ y, y = ys[k]?.getD 0 := ⟨_, rfl⟩
      rw [← hx0] at hcx'
      rw [← hy0] at hcy'
      have HX : Hid (x = xs[k]?.getD 0) := hx0
      have HY : Hid (y = ys[k]?.getD 0) := hy0
      clear hx0 hy0
      by_cases he : x = y
      · have he' : ((x : Int) != (y : Int)) = false := by simp [he]
        have HE : Hid (xs[k]?.getD 0 = ys[k]?.getD 0) := by show _ = _; rw [← HX.out, ← HY.out, he]
        clear he
        go_wp2
        go_quiet (fail)
        go_wp2
        go_roundw
        case rel => exact ⟨k + 1, by omega, by go_num, same_step k HS.out HE.out, below_drewN hbel _, HH.out⟩
        case measure => simp [intOf]; omega
      · have he' : ((x : Int) != (y : Int)) = true := by rw [bne_iff_ne]; omega
        have hf : decide (xs = ys) = false := by
          rw [decide_eq_false_iff_not]; intro h; exact he (by rw [HX.out, HY.out, h])
        have HF : Hid (decide (xs = ys) = false) := hf
        clear hf he
        go_wp2
        go_quiet (fail)
        go_wp2
        go_ret
        exact ⟨by rw [HF.out]; rfl, below_drewN hbel _⟩
    · have hI : (len : Int) ≤ (k : Int) := by omega
      have HF : Hid (decide (xs = ys) = true) := by
        show decide (xs = ys) = true
        rw [decide_eq_true_iff]
        exact eq_of_getD (by omega) (fun i hi => HS.out i (by omega))
      go_wp2
      go_ret
      exact ⟨by rw [HF.out]; rfl, hbel⟩

/-- Same: are the two lists one? -/
theorem same_any (ao bo : Option Addr) (la ca lb cb : Nat) (xs ys : List Nat) (w : World) (hc : la ≤ 1000000000000) (hx : xs.length = la) (hy : ys.length = lb)
    (hax : At .u64 w ao xs) (hay : At .u64 w bo ys) :
    Calls Try.prog 12 #[.slice ao la ca, .slice bo lb cb] w fun e w' => e = .returned (.bool (decide (xs = ys))) ∧ Below w.heap.size w w' := by
  by_cases h : la = lb
  · subst h
    rcases hax with rfl | ⟨b, o, rfl, _, h3⟩
    · obtain rfl : la = 0 := by simpa using hx.symm
      obtain rfl : ys = [] := List.length_eq_zero_iff.1 hy
      refine (same_none ao bo ca cb w).mono ?_
      rintro e w' ⟨rfl, rfl⟩
      exact ⟨by simp, Below.refl _ _⟩
    · rcases hay with rfl | ⟨b', o', rfl, _, h3'⟩
      · obtain rfl : la = 0 := by simpa using hy.symm
        obtain rfl : xs = [] := List.length_eq_zero_iff.1 hx
        refine (same_none _ bo ca cb w).mono ?_
        rintro e w' ⟨rfl, rfl⟩
        exact ⟨by simp, Below.refl _ _⟩
      · exact same_at b o b' o' la ca cb xs ys w hc hx hy (fun i hi => h3 i (by omega)) (fun i hi => h3' i (by omega))
  · refine (same_len ao bo la ca lb cb w h).mono ?_
    rintro e w' ⟨rfl, rfl⟩
    refine ⟨?_, Below.refl _ _⟩
    have : decide (xs = ys) = false := by
      rw [decide_eq_false_iff_not]; intro e; subst e; omega
    rw [this]

end Go.Proofs.Ytpiloigpncbccaa
