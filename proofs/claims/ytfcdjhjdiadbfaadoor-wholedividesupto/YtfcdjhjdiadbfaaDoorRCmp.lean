/-
  What the reference's Cmp and SubErr do.
-/
import Derived.Test.YtfcdjhjdiadbfaaDoorRSub
import Derived.Test.YtfcdjhjdiadbfaaDoorCmpN
import Derived.Deep.QuietTactic
import Derived.BigQuiet
import Derived.WalkSmall
namespace Go.Proofs.YtfcdjhjdiadbfaaDoor
open Go.RowKit

theorem cmpN_len {xs ys : List Nat} (ox : Ok 65536 xs) (ty : Top ys) (h : xs.length < ys.length) : cmpN (num 65536 xs) (num 65536 ys) = -1 := by
  unfold cmpN
  rw [if_pos]
  rcases Nat.lt_or_ge (num 65536 xs) (num 65536 ys) with e | e
  · exact e
  · have := len_le (by omega) ox ty e; omega

set_option maxRecDepth 100000 in
set_option maxHeartbeats 1000000 in
/-- Two lists without noughts on top, of unlike length. -/
theorem rcmp_len (ao bo : Option Addr) (la ca lb cb m p : Nat) (w : World) (z : Int) (hz : (m < p ∧ z = -1) ∨ (p < m ∧ z = 1)) (_hm : m ≤ 1000000000) (_hp : p ≤ 1000000000)
    (c1 : ∀ w' : World, w'.heap = w.heap → Calls Tryd.prog 58 #[.slice ao la ca] w' fun e w'' => e = .returned (.slice ao m ca) ∧ w' = w'')
    (c2 : ∀ w' : World, w'.heap = w.heap → Calls Tryd.prog 58 #[.slice bo lb cb] w' fun e w'' => e = .returned (.slice bo p cb) ∧ w' = w'') :
    Calls Tryd.prog 42 #[.slice ao la ca, .slice bo lb cb] w fun e w' => e = .returned (.int .i64 z) ∧ Below w.heap.size w w' := by
  have C1 : Hid (∀ w' : World, w'.heap = w.heap → Calls Tryd.prog 58 #[.slice ao la ca] w' fun e w'' => e = .returned (.slice ao m ca) ∧ w' = w'') := c1
  have C2 : Hid (∀ w' : World, w'.heap = w.heap → Calls Tryd.prog 58 #[.slice bo lb cb] w' fun e w'' => e = .returned (.slice bo p cb) ∧ w' = w'') := c2
  clear c1 c2
  have hne : ((m : Int) != (p : Int)) = true := by rw [bne_iff_ne]; rcases hz with h | h <;> omega
  rcases hz with ⟨h, rfl⟩ | ⟨h, rfl⟩
  · have h1 : (m : Int) < (p : Int) := by omega
    go_enter Tryd.func42, Tryd.ntmps42
    go_wp2_with fail
    refine (C1.out _ rfl).mono ?_
    rintro e w' ⟨rfl, rfl⟩
    go_wp2_with fail
    refine (C2.out _ rfl).mono ?_
    rintro e w' ⟨rfl, rfl⟩
    go_wp2
    go_ret
    exact ⟨rfl, Below.refl _ _⟩
  · have h1 : ¬ (m : Int) < (p : Int) := by omega
    go_enter Tryd.func42, Tryd.ntmps42
    go_wp2_with fail
    refine (C1.out _ rfl).mono ?_
    rintro e w' ⟨rfl, rfl⟩
    go_wp2_with fail
    refine (C2.out _ rfl).mono ?_
    rintro e w' ⟨rfl, rfl⟩
    go_wp2
    go_ret
    exact ⟨rfl, Below.refl _ _⟩

set_option maxRecDepth 100000 in
set_option maxHeartbeats 1000000 in
theorem rcmp_none (ao bo : Option Addr) (la ca lb cb : Nat) (w : World)
    (c1 : ∀ w' : World, w'.heap = w.heap → Calls Tryd.prog 58 #[.slice ao la ca] w' fun e w'' => e = .returned (.slice ao 0 ca) ∧ w' = w'')
    (c2 : ∀ w' : World, w'.heap = w.heap → Calls Tryd.prog 58 #[.slice bo lb cb] w' fun e w'' => e = .returned (.slice bo 0 cb) ∧ w' = w'') :
    Calls Tryd.prog 42 #[.slice ao la ca, .slice bo lb cb] w fun e w' => e = .returned (.int .i64 0) ∧ Below w.heap.size w w' := by
  have C1 : Hid (∀ w' : World, w'.heap = w.heap → Calls Tryd.prog 58 #[.slice ao la ca] w' fun e w'' => e = .returned (.slice ao 0 ca) ∧ w' = w'') := c1
  have C2 : Hid (∀ w' : World, w'.heap = w.heap → Calls Tryd.prog 58 #[.slice bo lb cb] w' fun e w'' => e = .returned (.slice bo 0 cb) ∧ w' = w'') := c2
  clear c1 c2
  go_enter Tryd.func42, Tryd.ntmps42
  go_wp2_with fail
  refine (C1.out _ rfl).mono ?_
  rintro e w' ⟨rfl, rfl⟩
  go_wp2_with fail
  refine (C2.out _ rfl).mono ?_
  rintro e w' ⟨rfl, rfl⟩
  go_wp2
  refine wp_loop_rounds 1 ?_
  rw [rounds_succ]
  go_wp2
  go_ret
  exact ⟨rfl, Below.refl _ _⟩

set_option maxRecDepth 100000 in
set_option maxHeartbeats 1000000 in
theorem rcmp_at (b1 o1 b2 o2 la ca lb cb m : Nat) (xs ys : List Nat) (w : World) (hm : m ≤ 1000000000) (hx : xs.length = m) (hy : ys.length = m)
    (h1 : ∀ i, i < m → w.cell? ⟨b1, o1 + i, none⟩ = some (.int .u32 ((dg xs i : Nat) : Int))) (h2 : ∀ i, i < m → w.cell? ⟨b2, o2 + i, none⟩ = some (.int .u32 ((dg ys i : Nat) : Int)))
    (c1 : ∀ w' : World, w'.heap = w.heap → Calls Tryd.prog 58 #[.slice (some ⟨b1, o1, none⟩) la ca] w' fun e w'' => e = .returned (.slice (some ⟨b1, o1, none⟩) m ca) ∧ w' = w'')
    (c2 : ∀ w' : World, w'.heap = w.heap → Calls Tryd.prog 58 #[.slice (some ⟨b2, o2, none⟩) lb cb] w' fun e w'' => e = .returned (.slice (some ⟨b2, o2, none⟩) m cb) ∧ w' = w'') :
    Calls Tryd.prog 42 #[.slice (some ⟨b1, o1, none⟩) la ca, .slice (some ⟨b2, o2, none⟩) lb cb] w fun e w' => e = .returned (.int .i64 (cmpTo xs ys m)) ∧ Below w.heap.size w w' := by
  have C1 : Hid (∀ w' : World, w'.heap = w.heap → Calls Tryd.prog 58 #[.slice (some ⟨b1, o1, none⟩) la ca] w' fun e w'' => e = .returned (.slice (some ⟨b1, o1, none⟩) m ca) ∧ w' = w'') := c1
  have C2 : Hid (∀ w' : World, w'.heap = w.heap → Calls Tryd.prog 58 #[.slice (some ⟨b2, o2, none⟩) lb cb] w' fun e w'' => e = .returned (.slice (some ⟨b2, o2, none⟩) m cb) ∧ w' = w'') := c2
  clear c1 c2
  obtain ⟨zz, hzz⟩ : ∃ z, z = cmpTo xs ys m := ⟨_, rfl⟩
  rw [← hzz]
  have HZ : Hid (zz = cmpTo xs ys m) := hzz
  have hne : ((m : Int) != (m : Int)) = false := by simp
  clear hzz
  go_enter Tryd.func42, Tryd.ntmps42
  go_wp2_with fail
  refine (C1.out _ rfl).mono ?_
  rintro e w' ⟨rfl, rfl⟩
  go_wp2_with fail
  refine (C2.out _ rfl).mono ?_
  rintro e w' ⟨rfl, rfl⟩
  go_wp2
  go_loopw [5] (fun i wr => ∃ k : Nat, k ≤ m ∧ i = .int .i64 ((k : Int) - 1) ∧ zz = cmpTo xs ys k ∧ Below w.heap.size w wr ∧ wr.heap = w.heap) (fun i _ => (intOf i + 1).toNat)
  case atStart => exact ⟨m, Nat.le_refl _, rfl, HZ.out, Below.refl _ _, rfl⟩
  case round =>
    obtain ⟨k, hk, rfl, hz, hbel, hheap⟩ := hrel
    have HK : Hid (zz = cmpTo xs ys k) := hz
    have HH : Hid (wr.heap = w.heap) := hheap
    clear hz hheap HZ
    rcases k with _ | k
    · go_wp2
      go_ret
      exact ⟨by rw [HK.out]; rfl, hbel⟩
    · have d1 : wr.cell? ⟨b1, o1 + k, none⟩ = some (.int .u32 ((dg xs k : Nat) : Int)) := by rw [World.cell?_of_block (w := w) (by rw [HH.out])]; exact h1 k (by omega)
      have d2 : wr.cell? ⟨b2, o2 + k, none⟩ = some (.int .u32 ((dg ys k : Nat) : Int)) := by rw [World.cell?_of_block (w := w) (by rw [HH.out])]; exact h2 k (by omega)
      have e0 : (k : Int) < (m : Int) := by omega
      obtain ⟨x, hxk⟩ : ∃ x, x = dg xs k := ⟨_, rfl⟩
      obtain ⟨y, hyk⟩ : ∃ y, y = dg ys k := ⟨_, rfl⟩
      have hstep : zz = if x < y then -1 else if y < x then 1 else cmpTo xs ys k := by rw [HK.out, hxk, hyk]; rfl
      rw [← hxk] at d1
      rw [← hyk] at d2
      have HS : Hid (zz = if x < y then -1 else if y < x then 1 else cmpTo xs ys k) := hstep
      clear hxk hyk hstep HK h1 h2 C1 C2
      rcases Nat.lt_trichotomy x y with h | h | h
      · have t1 : (x : Int) < (y : Int) := by omega
        go_wp2
        go_quiet (fail)
        go_wp2
        go_ret
        exact ⟨by rw [HS.out, if_pos h]; rfl, below_drewN hbel _⟩
      · have t1 : ¬ (x : Int) < (y : Int) := by omega
        have t2 : ¬ (y : Int) < (x : Int) := by omega
        have HE : Hid (zz = cmpTo xs ys k) := by rw [HS.out, if_neg (by omega), if_neg (by omega)]; rfl
        clear h
        go_wp2
        go_quiet (fail)
        go_wp2
        go_quiet (fail)
        go_wp2
        go_roundw
        case rel => exact ⟨k, by omega, by go_num, HE.out, below_drewN hbel _, HH.out⟩
        case measure => simp [intOf]
      · have t1 : ¬ (x : Int) < (y : Int) := by omega
        have t2 : (y : Int) < (x : Int) := by omega
        go_wp2
        go_quiet (fail)
        go_wp2
        go_quiet (fail)
        go_wp2
        go_ret
        exact ⟨by rw [HS.out, if_neg (by omega), if_pos h]; rfl, below_drewN (below_drewN hbel _) _⟩

theorem rcmp_any (ao bo : Option Addr) (la ca lb cb : Nat) (xs ys : List Nat) (w : World) (hla : la ≤ ca) (hlal : la ≤ 1000000000) (hlb : lb ≤ cb) (hlbl : lb ≤ 1000000000) (hx : xs.length = la) (hy : ys.length = lb)
    (hax : At .u32 w ao xs) (hay : At .u32 w bo ys) (ox : Ok 65536 xs) (oy : Ok 65536 ys) (z : Int) (hz : cmpN (num 65536 xs) (num 65536 ys) = z) :
    Calls Tryd.prog 42 #[.slice ao la ca, .slice bo lb cb] w fun e w' => e = .returned (.int .i64 z) ∧ Below w.heap.size w w' := by
  have l1 := length_trimmed_le xs
  have l2 := length_trimmed_le ys
  have c1 := fun (w' : World) (h : w'.heap = w.heap) => rtrim_to ao la ca (trimmed xs).length xs w' hla (by omega) hx (hax.same h) rfl
  have c2 := fun (w' : World) (h : w'.heap = w.heap) => rtrim_to bo lb cb (trimmed ys).length ys w' hlb (by omega) hy (hay.same h) rfl
  rw [← num_trimmed 65536 xs, ← num_trimmed 65536 ys] at hz
  rcases Nat.lt_trichotomy (trimmed xs).length (trimmed ys).length with h | h | h
  · exact rcmp_len ao bo la ca lb cb _ _ w z (.inl ⟨h, by rw [← hz]; exact cmpN_len (trimmed_ok ox) (trimmed_top ys) h⟩) (by omega) (by omega) c1 c2
  · rcases hax.trimmed with e1 | ⟨b1, o1, rfl, _, h1⟩
    · have e2 : trimmed ys = [] := List.length_eq_zero_iff.1 (by rw [← h, e1]; rfl)
      rw [e1] at c1
      rw [e2] at c2
      rw [e1, e2] at hz
      have := rcmp_none ao bo la ca lb cb w c1 c2
      rw [← hz]; exact this
    · rcases hay.trimmed with e2 | ⟨b2, o2, rfl, _, h2⟩
      · have e1 : trimmed xs = [] := List.length_eq_zero_iff.1 (by rw [h, e2]; rfl)
        rw [e1] at c1
        rw [e2] at c2
        rw [e1, e2] at hz
        have := rcmp_none _ bo la ca lb cb w c1 c2
        rw [← hz]; exact this
      · rw [← h] at c2
        have := rcmp_at b1 o1 b2 o2 la ca lb cb (trimmed xs).length (trimmed xs) (trimmed ys) w (by omega) rfl h.symm h1 (fun i hi => h2 i (by omega)) c1 c2
        rw [cmpTo_V (trimmed_ok ox) (trimmed_ok oy), num_eq (Nat.le_refl _), num_eq (by omega), hz] at this
        exact this
  · refine rcmp_len ao bo la ca lb cb _ _ w z (.inr ⟨h, ?_⟩) (by omega) (by omega) c1 c2
    have := cmpN_len (trimmed_ok oy) (trimmed_top xs) h
    rw [← hz]
    unfold cmpN at this ⊢
    split at this
    · rw [if_neg (by omega), if_pos (by assumption)]
    · split at this <;> simp at this

end Go.Proofs.YtfcdjhjdiadbfaaDoor
