/-
  What the reference's Rune does.
  What the reference's Rune does.
  What the reference's Rune does.
  What the reference's Rune does.
-/
import Derived.Test.YtihnakblcfealaaGreatDoorEB7
namespace Go.Proofs.YtihnakblcfealaaGreatDoor
open Go.RowKit Go.Lib

set_option maxRecDepth 100000 in
set_option maxHeartbeats 2000000 in
theorem rr_As (s : ByteArray) (p B : Nat) (w : World) (hs : s.size ≤ 140737488355328) (hp : p < s.size) (hB : byt (bys s) p = B) (hc : B < 128) : Calls Tryz.prog 63 #[.string s, .int .i64 (p : Int)] w fun e w' => e = .returned (.int .i64 ((runeAt s (p : Int) : Nat) : Int)) ∧ w = w' := by
  have hp' : (p : Int) < (s.size : Int) := by omega
  have hg : ∀ h : p < s.size, s[p].toNat = B := fun h => (byt_get s p h).trans hB
  have hb2 : B < 256 := by rw [← hB]; exact byt_lt _ _
  have W1 : Hid (∀ X, Calls Tryz.prog 84 #[.string s, .int .i64 ((p : Int) + 1), .int .i64 128, .int .i64 191] X fun e w' => e = .returned (.bool (inB (bys s) (p + 1) 128 191)) ∧ X = w') := fun X => by have := within_any s (p + 1) 128 191 X; simpa using this
  have W2 : Hid (∀ X, Calls Tryz.prog 84 #[.string s, .int .i64 ((p : Int) + 2), .int .i64 128, .int .i64 191] X fun e w' => e = .returned (.bool (inB (bys s) (p + 2) 128 191)) ∧ X = w') := fun X => by have := within_any s (p + 2) 128 191 X; simpa using this
  have W3 : Hid (∀ X, Calls Tryz.prog 84 #[.string s, .int .i64 ((p : Int) + 3), .int .i64 128, .int .i64 191] X fun e w' => e = .returned (.bool (inB (bys s) (p + 3) 128 191)) ∧ X = w') := fun X => by have := within_any s (p + 3) 128 191 X; simpa using this
  have ta : (B : Int) < 128 := by omega
  have hR : runeAt s (p : Int) = runeN (s.size - p) B (byt (bys s) (p + 1)) (byt (bys s) (p + 2)) (byt (bys s) (p + 3)) := by
    unfold runeAt
    rw [if_neg (by omega)]
    show runeL ((bys s).drop p) = _
    unfold runeL
    rw [byB_drop, byB_drop, byB_drop, byB_drop, byB_byt, byB_byt, byB_byt, byB_byt, List.length_drop, bys_len, Nat.add_zero, hB]
  rw [runeN_asc _ _ _ _ _ (by omega) (by omega)] at hR
  rw [hR]
  clear hR
  clear hB hc
  go_enter Tryz.func63, Tryz.ntmps63
  go_wp2_with fail
  refine (W1.out _).mono ?_
  rintro e w1 ⟨rfl, rfl⟩
  go_wp2_with fail
  refine (W2.out _).mono ?_
  rintro e w2 ⟨rfl, rfl⟩
  go_wp2_with fail
  refine (W3.out _).mono ?_
  rintro e w3 ⟨rfl, rfl⟩
  go_wp2
  go_ret
  exact ⟨rfl, rfl⟩

set_option maxRecDepth 100000 in
set_option maxHeartbeats 2000000 in
theorem rr_C2 (s : ByteArray) (p B : Nat) (w : World) (hs : s.size ≤ 140737488355328) (hp : p < s.size) (hB : byt (bys s) p = B) (hc : 194 ≤ B ∧ B ≤ 223) : Calls Tryz.prog 63 #[.string s, .int .i64 (p : Int)] w fun e w' => e = .returned (.int .i64 ((runeAt s (p : Int) : Nat) : Int)) ∧ w = w' := by
  have hp' : (p : Int) < (s.size : Int) := by omega
  have hg : ∀ h : p < s.size, s[p].toNat = B := fun h => (byt_get s p h).trans hB
  have hb2 : B < 256 := by rw [← hB]; exact byt_lt _ _
  have W1 : Hid (∀ X, Calls Tryz.prog 84 #[.string s, .int .i64 ((p : Int) + 1), .int .i64 128, .int .i64 191] X fun e w' => e = .returned (.bool (inB (bys s) (p + 1) 128 191)) ∧ X = w') := fun X => by have := within_any s (p + 1) 128 191 X; simpa using this
  have W2 : Hid (∀ X, Calls Tryz.prog 84 #[.string s, .int .i64 ((p : Int) + 2), .int .i64 128, .int .i64 191] X fun e w' => e = .returned (.bool (inB (bys s) (p + 2) 128 191)) ∧ X = w') := fun X => by have := within_any s (p + 2) 128 191 X; simpa using this
  have W3 : Hid (∀ X, Calls Tryz.prog 84 #[.string s, .int .i64 ((p : Int) + 3), .int .i64 128, .int .i64 191] X fun e w' => e = .returned (.bool (inB (bys s) (p + 3) 128 191)) ∧ X = w') := fun X => by have := within_any s (p + 3) 128 191 X; simpa using this
  have ta : ¬ (B : Int) < 128 := by omega
  have tb : 194 ≤ (B : Int) := by omega
  have tc : (B : Int) ≤ 223 := by omega
  have td : ¬ (B : Int) = 224 := by omega
  have te : ¬ 225 ≤ (B : Int) := by omega
  have tg : ¬ (B : Int) = 238 := by omega
  have th : ¬ (B : Int) = 239 := by omega
  have ti : ¬ (B : Int) = 237 := by omega
  have tj : ¬ (B : Int) = 240 := by omega
  have tk : ¬ 241 ≤ (B : Int) := by omega
  have tm : ¬ (B : Int) = 244 := by omega
  have hR : runeAt s (p : Int) = runeN (s.size - p) B (byt (bys s) (p + 1)) (byt (bys s) (p + 2)) (byt (bys s) (p + 3)) := by
    unfold runeAt
    rw [if_neg (by omega)]
    show runeL ((bys s).drop p) = _
    unfold runeL
    rw [byB_drop, byB_drop, byB_drop, byB_drop, byB_byt, byB_byt, byB_byt, byB_byt, List.length_drop, bys_len, Nat.add_zero, hB]
  rw [runeN_C2 _ _ _ _ _ (by omega) (by omega)] at hR
  have hl := bys_len s
  obtain ⟨x1, hx1⟩ : ∃ x, x = inB (bys s) (p + 1) 128 191 := ⟨_, rfl⟩
  rw [← hx1] at W1
  obtain ⟨x2, hx2⟩ : ∃ x, x = inB (bys s) (p + 2) 128 191 := ⟨_, rfl⟩
  rw [← hx2] at W2
  obtain ⟨x3, hx3⟩ : ∃ x, x = inB (bys s) (p + 3) 128 191 := ⟨_, rfl⟩
  rw [← hx3] at W3
  have hV : runeAt s (p : Int) = (if x1 = true then 2 else 0 : Nat) := by
    rw [hR]
    unfold inB at hx1
    have q : (x1 = true) ↔ (((p + 1) < (bys s).length ∧ 128 ≤ byt (bys s) (p + 1) ∧ byt (bys s) (p + 1) ≤ 191)) := by rw [hx1]; simp only [decide_eq_true_eq]
    by_cases hq : x1 = true
    · have := q.1 hq
      rw [if_pos hq, if_neg (by omega)]
    · have : ¬ (((p + 1) < (bys s).length ∧ 128 ≤ byt (bys s) (p + 1) ∧ byt (bys s) (p + 1) ≤ 191)) := fun h => hq (q.2 h)
      rw [if_neg hq, if_pos (by omega)]
  rw [hV]
  clear hR hV hl hx1 hx2 hx3
  clear hB hc
  cases x1
  · rw [if_neg (by simp)]
    go_enter Tryz.func63, Tryz.ntmps63
    go_wp2_with fail
    refine (W1.out _).mono ?_
    rintro e w1 ⟨rfl, rfl⟩
    go_wp2_with fail
    refine (W2.out _).mono ?_
    rintro e w2 ⟨rfl, rfl⟩
    go_wp2_with fail
    refine (W3.out _).mono ?_
    rintro e w3 ⟨rfl, rfl⟩
    go_wp2
    go_ret
    exact ⟨rfl, rfl⟩
  · skip
    rw [if_pos (by simp)]
    go_enter Tryz.func63, Tryz.ntmps63
    go_wp2_with fail
    refine (W1.out _).mono ?_
    rintro e w1 ⟨rfl, rfl⟩
    go_wp2_with fail
    refine (W2.out _).mono ?_
    rintro e w2 ⟨rfl, rfl⟩
    go_wp2_with fail
    refine (W3.out _).mono ?_
    rintro e w3 ⟨rfl, rfl⟩
    go_wp2
    go_ret
    exact ⟨rfl, rfl⟩

set_option maxRecDepth 100000 in
set_option maxHeartbeats 2000000 in
theorem rr_E0 (s : ByteArray) (p B : Nat) (w : World) (hs : s.size ≤ 140737488355328) (hp : p < s.size) (hB : byt (bys s) p = B) (hc : B = 224) : Calls Tryz.prog 63 #[.string s, .int .i64 (p : Int)] w fun e w' => e = .returned (.int .i64 ((runeAt s (p : Int) : Nat) : Int)) ∧ w = w' := by
  have hp' : (p : Int) < (s.size : Int) := by omega
  have hg : ∀ h : p < s.size, s[p].toNat = B := fun h => (byt_get s p h).trans hB
  have hb2 : B < 256 := by rw [← hB]; exact byt_lt _ _
  have W1 : Hid (∀ X, Calls Tryz.prog 84 #[.string s, .int .i64 ((p : Int) + 1), .int .i64 128, .int .i64 191] X fun e w' => e = .returned (.bool (inB (bys s) (p + 1) 128 191)) ∧ X = w') := fun X => by have := within_any s (p + 1) 128 191 X; simpa using this
  have W2 : Hid (∀ X, Calls Tryz.prog 84 #[.string s, .int .i64 ((p : Int) + 2), .int .i64 128, .int .i64 191] X fun e w' => e = .returned (.bool (inB (bys s) (p + 2) 128 191)) ∧ X = w') := fun X => by have := within_any s (p + 2) 128 191 X; simpa using this
  have W3 : Hid (∀ X, Calls Tryz.prog 84 #[.string s, .int .i64 ((p : Int) + 3), .int .i64 128, .int .i64 191] X fun e w' => e = .returned (.bool (inB (bys s) (p + 3) 128 191)) ∧ X = w') := fun X => by have := within_any s (p + 3) 128 191 X; simpa using this
  have W4 : Hid (∀ X, Calls Tryz.prog 84 #[.string s, .int .i64 ((p : Int) + 1), .int .i64 160, .int .i64 191] X fun e w' => e = .returned (.bool (inB (bys s) (p + 1) 160 191)) ∧ X = w') := fun X => by have := within_any s (p + 1) 160 191 X; simpa using this
  have ta : ¬ (B : Int) < 128 := by omega
  have tb : 194 ≤ (B : Int) := by omega
  have tc : ¬ (B : Int) ≤ 223 := by omega
  have td : (B : Int) = 224 := by omega
  have te : ¬ 225 ≤ (B : Int) := by omega
  have tg : ¬ (B : Int) = 238 := by omega
  have th : ¬ (B : Int) = 239 := by omega
  have ti : ¬ (B : Int) = 237 := by omega
  have tj : ¬ (B : Int) = 240 := by omega
  have tk : ¬ 241 ≤ (B : Int) := by omega
  have tm : ¬ (B : Int) = 244 := by omega
  have hR : runeAt s (p : Int) = runeN (s.size - p) B (byt (bys s) (p + 1)) (byt (bys s) (p + 2)) (byt (bys s) (p + 3)) := by
    unfold runeAt
    rw [if_neg (by omega)]
    show runeL ((bys s).drop p) = _
    unfold runeL
    rw [byB_drop, byB_drop, byB_drop, byB_drop, byB_byt, byB_byt, byB_byt, byB_byt, List.length_drop, bys_len, Nat.add_zero, hB]
  rw [runeN_E0 _ _ _ _ _ (by omega) (by omega)] at hR
  have hl := bys_len s
  obtain ⟨x1, hx1⟩ : ∃ x, x = inB (bys s) (p + 1) 128 191 := ⟨_, rfl⟩
  rw [← hx1] at W1
  obtain ⟨x2, hx2⟩ : ∃ x, x = inB (bys s) (p + 2) 128 191 := ⟨_, rfl⟩
  rw [← hx2] at W2
  obtain ⟨x3, hx3⟩ : ∃ x, x = inB (bys s) (p + 3) 128 191 := ⟨_, rfl⟩
  rw [← hx3] at W3
  obtain ⟨x4, hx4⟩ : ∃ x, x = inB (bys s) (p + 1) 160 191 := ⟨_, rfl⟩
  rw [← hx4] at W4
  have hV : runeAt s (p : Int) = (if x4 = true ∧ x2 = true then 3 else 0 : Nat) := by
    rw [hR]
    unfold inB at hx4
    unfold inB at hx2
    have q : (x4 = true ∧ x2 = true) ↔ (((p + 1) < (bys s).length ∧ 160 ≤ byt (bys s) (p + 1) ∧ byt (bys s) (p + 1) ≤ 191) ∧ ((p + 2) < (bys s).length ∧ 128 ≤ byt (bys s) (p + 2) ∧ byt (bys s) (p + 2) ≤ 191)) := by rw [hx4, hx2]; simp only [decide_eq_true_eq]
    by_cases hq : x4 = true ∧ x2 = true
    · have := q.1 hq
      rw [if_pos hq, if_neg (by omega)]
    · have : ¬ (((p + 1) < (bys s).length ∧ 160 ≤ byt (bys s) (p + 1) ∧ byt (bys s) (p + 1) ≤ 191) ∧ ((p + 2) < (bys s).length ∧ 128 ≤ byt (bys s) (p + 2) ∧ byt (bys s) (p + 2) ≤ 191)) := fun h => hq (q.2 h)
      rw [if_neg hq, if_pos (by omega)]
  rw [hV]
  clear hR hV hl hx1 hx2 hx3 hx4
  clear hB hc
  cases x4
  · rw [if_neg (by simp)]
    go_enter Tryz.func63, Tryz.ntmps63
    go_wp2_with fail
    refine (W1.out _).mono ?_
    rintro e w1 ⟨rfl, rfl⟩
    go_wp2_with fail
    refine (W2.out _).mono ?_
    rintro e w2 ⟨rfl, rfl⟩
    go_wp2_with fail
    refine (W3.out _).mono ?_
    rintro e w3 ⟨rfl, rfl⟩
    go_wp2_with fail
    refine (W4.out _).mono ?_
    rintro e w4 ⟨rfl, rfl⟩
    go_wp2
    go_ret
    exact ⟨rfl, rfl⟩
  · skip
    cases x2
    · rw [if_neg (by simp)]
      go_enter Tryz.func63, Tryz.ntmps63
      go_wp2_with fail
      refine (W1.out _).mono ?_
      rintro e w1 ⟨rfl, rfl⟩
      go_wp2_with fail
      refine (W2.out _).mono ?_
      rintro e w2 ⟨rfl, rfl⟩
      go_wp2_with fail
      refine (W3.out _).mono ?_
      rintro e w3 ⟨rfl, rfl⟩
      go_wp2_with fail
      refine (W4.out _).mono ?_
      rintro e w4 ⟨rfl, rfl⟩
      go_wp2
      go_ret
      exact ⟨rfl, rfl⟩
    · skip
      rw [if_pos (by simp)]
      go_enter Tryz.func63, Tryz.ntmps63
      go_wp2_with fail
      refine (W1.out _).mono ?_
      rintro e w1 ⟨rfl, rfl⟩
      go_wp2_with fail
      refine (W2.out _).mono ?_
      rintro e w2 ⟨rfl, rfl⟩
      go_wp2_with fail
      refine (W3.out _).mono ?_
      rintro e w3 ⟨rfl, rfl⟩
      go_wp2_with fail
      refine (W4.out _).mono ?_
      rintro e w4 ⟨rfl, rfl⟩
      go_wp2
      go_ret
      exact ⟨rfl, rfl⟩

set_option maxRecDepth 100000 in
set_option maxHeartbeats 2000000 in
theorem rr_E1a (s : ByteArray) (p B : Nat) (w : World) (hs : s.size ≤ 140737488355328) (hp : p < s.size) (hB : byt (bys s) p = B) (hc : 225 ≤ B ∧ B ≤ 236) : Calls Tryz.prog 63 #[.string s, .int .i64 (p : Int)] w fun e w' => e = .returned (.int .i64 ((runeAt s (p : Int) : Nat) : Int)) ∧ w = w' := by
  have hp' : (p : Int) < (s.size : Int) := by omega
  have hg : ∀ h : p < s.size, s[p].toNat = B := fun h => (byt_get s p h).trans hB
  have hb2 : B < 256 := by rw [← hB]; exact byt_lt _ _
  have W1 : Hid (∀ X, Calls Tryz.prog 84 #[.string s, .int .i64 ((p : Int) + 1), .int .i64 128, .int .i64 191] X fun e w' => e = .returned (.bool (inB (bys s) (p + 1) 128 191)) ∧ X = w') := fun X => by have := within_any s (p + 1) 128 191 X; simpa using this
  have W2 : Hid (∀ X, Calls Tryz.prog 84 #[.string s, .int .i64 ((p : Int) + 2), .int .i64 128, .int .i64 191] X fun e w' => e = .returned (.bool (inB (bys s) (p + 2) 128 191)) ∧ X = w') := fun X => by have := within_any s (p + 2) 128 191 X; simpa using this
  have W3 : Hid (∀ X, Calls Tryz.prog 84 #[.string s, .int .i64 ((p : Int) + 3), .int .i64 128, .int .i64 191] X fun e w' => e = .returned (.bool (inB (bys s) (p + 3) 128 191)) ∧ X = w') := fun X => by have := within_any s (p + 3) 128 191 X; simpa using this
  have ta : ¬ (B : Int) < 128 := by omega
  have tb : 194 ≤ (B : Int) := by omega
  have tc : ¬ (B : Int) ≤ 223 := by omega
  have td : ¬ (B : Int) = 224 := by omega
  have te : 225 ≤ (B : Int) := by omega
  have tf : (B : Int) ≤ 236 := by omega
  have tg : ¬ (B : Int) = 238 := by omega
  have th : ¬ (B : Int) = 239 := by omega
  have ti : ¬ (B : Int) = 237 := by omega
  have tj : ¬ (B : Int) = 240 := by omega
  have tk : ¬ 241 ≤ (B : Int) := by omega
  have tm : ¬ (B : Int) = 244 := by omega
  have hR : runeAt s (p : Int) = runeN (s.size - p) B (byt (bys s) (p + 1)) (byt (bys s) (p + 2)) (byt (bys s) (p + 3)) := by
    unfold runeAt
    rw [if_neg (by omega)]
    show runeL ((bys s).drop p) = _
    unfold runeL
    rw [byB_drop, byB_drop, byB_drop, byB_drop, byB_byt, byB_byt, byB_byt, byB_byt, List.length_drop, bys_len, Nat.add_zero, hB]
  rw [runeN_E1 _ _ _ _ _ (by omega) (by omega)] at hR
  have hl := bys_len s
  obtain ⟨x1, hx1⟩ : ∃ x, x = inB (bys s) (p + 1) 128 191 := ⟨_, rfl⟩
  rw [← hx1] at W1
  obtain ⟨x2, hx2⟩ : ∃ x, x = inB (bys s) (p + 2) 128 191 := ⟨_, rfl⟩
  rw [← hx2] at W2
  obtain ⟨x3, hx3⟩ : ∃ x, x = inB (bys s) (p + 3) 128 191 := ⟨_, rfl⟩
  rw [← hx3] at W3
  have hV : runeAt s (p : Int) = (if x1 = true ∧ x2 = true then 3 else 0 : Nat) := by
    rw [hR]
    unfold inB at hx1
    unfold inB at hx2
    have q : (x1 = true ∧ x2 = true) ↔ (((p + 1) < (bys s).length ∧ 128 ≤ byt (bys s) (p + 1) ∧ byt (bys s) (p + 1) ≤ 191) ∧ ((p + 2) < (bys s).length ∧ 128 ≤ byt (bys s) (p + 2) ∧ byt (bys s) (p + 2) ≤ 191)) := by rw [hx1, hx2]; simp only [decide_eq_true_eq]
    by_cases hq : x1 = true ∧ x2 = true
    · have := q.1 hq
      rw [if_pos hq, if_neg (by omega)]
    · have : ¬ (((p + 1) < (bys s).length ∧ 128 ≤ byt (bys s) (p + 1) ∧ byt (bys s) (p + 1) ≤ 191) ∧ ((p + 2) < (bys s).length ∧ 128 ≤ byt (bys s) (p + 2) ∧ byt (bys s) (p + 2) ≤ 191)) := fun h => hq (q.2 h)
      rw [if_neg hq, if_pos (by omega)]
  rw [hV]
  clear hR hV hl hx1 hx2 hx3
  clear hB hc
  cases x1
  · rw [if_neg (by simp)]
    go_enter Tryz.func63, Tryz.ntmps63
    go_wp2_with fail
    refine (W1.out _).mono ?_
    rintro e w1 ⟨rfl, rfl⟩
    go_wp2_with fail
    refine (W2.out _).mono ?_
    rintro e w2 ⟨rfl, rfl⟩
    go_wp2_with fail
    refine (W3.out _).mono ?_
    rintro e w3 ⟨rfl, rfl⟩
    go_wp2
    go_ret
    exact ⟨rfl, rfl⟩
  · skip
    cases x2
    · rw [if_neg (by simp)]
      go_enter Tryz.func63, Tryz.ntmps63
      go_wp2_with fail
      refine (W1.out _).mono ?_
      rintro e w1 ⟨rfl, rfl⟩
      go_wp2_with fail
      refine (W2.out _).mono ?_
      rintro e w2 ⟨rfl, rfl⟩
      go_wp2_with fail
      refine (W3.out _).mono ?_
      rintro e w3 ⟨rfl, rfl⟩
      go_wp2
      go_ret
      exact ⟨rfl, rfl⟩
    · skip
      rw [if_pos (by simp)]
      go_enter Tryz.func63, Tryz.ntmps63
      go_wp2_with fail
      refine (W1.out _).mono ?_
      rintro e w1 ⟨rfl, rfl⟩
      go_wp2_with fail
      refine (W2.out _).mono ?_
      rintro e w2 ⟨rfl, rfl⟩
      go_wp2_with fail
      refine (W3.out _).mono ?_
      rintro e w3 ⟨rfl, rfl⟩
      go_wp2
      go_ret
      exact ⟨rfl, rfl⟩

set_option maxRecDepth 100000 in
set_option maxHeartbeats 2000000 in
theorem rr_E1b (s : ByteArray) (p B : Nat) (w : World) (hs : s.size ≤ 140737488355328) (hp : p < s.size) (hB : byt (bys s) p = B) (hc : B = 238) : Calls Tryz.prog 63 #[.string s, .int .i64 (p : Int)] w fun e w' => e = .returned (.int .i64 ((runeAt s (p : Int) : Nat) : Int)) ∧ w = w' := by
  have hp' : (p : Int) < (s.size : Int) := by omega
  have hg : ∀ h : p < s.size, s[p].toNat = B := fun h => (byt_get s p h).trans hB
  have hb2 : B < 256 := by rw [← hB]; exact byt_lt _ _
  have W1 : Hid (∀ X, Calls Tryz.prog 84 #[.string s, .int .i64 ((p : Int) + 1), .int .i64 128, .int .i64 191] X fun e w' => e = .returned (.bool (inB (bys s) (p + 1) 128 191)) ∧ X = w') := fun X => by have := within_any s (p + 1) 128 191 X; simpa using this
  have W2 : Hid (∀ X, Calls Tryz.prog 84 #[.string s, .int .i64 ((p : Int) + 2), .int .i64 128, .int .i64 191] X fun e w' => e = .returned (.bool (inB (bys s) (p + 2) 128 191)) ∧ X = w') := fun X => by have := within_any s (p + 2) 128 191 X; simpa using this
  have W3 : Hid (∀ X, Calls Tryz.prog 84 #[.string s, .int .i64 ((p : Int) + 3), .int .i64 128, .int .i64 191] X fun e w' => e = .returned (.bool (inB (bys s) (p + 3) 128 191)) ∧ X = w') := fun X => by have := within_any s (p + 3) 128 191 X; simpa using this
  have ta : ¬ (B : Int) < 128 := by omega
  have tb : 194 ≤ (B : Int) := by omega
  have tc : ¬ (B : Int) ≤ 223 := by omega
  have td : ¬ (B : Int) = 224 := by omega
  have te : 225 ≤ (B : Int) := by omega
  have tf : ¬ (B : Int) ≤ 236 := by omega
  have tg : (B : Int) = 238 := by omega
  have ti : ¬ (B : Int) = 237 := by omega
  have tj : ¬ (B : Int) = 240 := by omega
  have tk : ¬ 241 ≤ (B : Int) := by omega
  have tm : ¬ (B : Int) = 244 := by omega
  have hR : runeAt s (p : Int) = runeN (s.size - p) B (byt (bys s) (p + 1)) (byt (bys s) (p + 2)) (byt (bys s) (p + 3)) := by
    unfold runeAt
    rw [if_neg (by omega)]
    show runeL ((bys s).drop p) = _
    unfold runeL
    rw [byB_drop, byB_drop, byB_drop, byB_drop, byB_byt, byB_byt, byB_byt, byB_byt, List.length_drop, bys_len, Nat.add_zero, hB]
  rw [runeN_E1 _ _ _ _ _ (by omega) (by omega)] at hR
  have hl := bys_len s
  obtain ⟨x1, hx1⟩ : ∃ x, x = inB (bys s) (p + 1) 128 191 := ⟨_, rfl⟩
  rw [← hx1] at W1
  obtain ⟨x2, hx2⟩ : ∃ x, x = inB (bys s) (p + 2) 128 191 := ⟨_, rfl⟩
  rw [← hx2] at W2
  obtain ⟨x3, hx3⟩ : ∃ x, x = inB (bys s) (p + 3) 128 191 := ⟨_, rfl⟩
  rw [← hx3] at W3
  have hV : runeAt s (p : Int) = (if x1 = true ∧ x2 = true then 3 else 0 : Nat) := by
    rw [hR]
    unfold inB at hx1
    unfold inB at hx2
    have q : (x1 = true ∧ x2 = true) ↔ (((p + 1) < (bys s).length ∧ 128 ≤ byt (bys s) (p + 1) ∧ byt (bys s) (p + 1) ≤ 191) ∧ ((p + 2) < (bys s).length ∧ 128 ≤ byt (bys s) (p + 2) ∧ byt (bys s) (p + 2) ≤ 191)) := by rw [hx1, hx2]; simp only [decide_eq_true_eq]
    by_cases hq : x1 = true ∧ x2 = true
    · have := q.1 hq
      rw [if_pos hq, if_neg (by omega)]
    · have : ¬ (((p + 1) < (bys s).length ∧ 128 ≤ byt (bys s) (p + 1) ∧ byt (bys s) (p + 1) ≤ 191) ∧ ((p + 2) < (bys s).length ∧ 128 ≤ byt (bys s) (p + 2) ∧ byt (bys s) (p + 2) ≤ 191)) := fun h => hq (q.2 h)
      rw [if_neg hq, if_pos (by omega)]
  rw [hV]
  clear hR hV hl hx1 hx2 hx3
  clear hB hc
  cases x1
  · rw [if_neg (by simp)]
    go_enter Tryz.func63, Tryz.ntmps63
    go_wp2_with fail
    refine (W1.out _).mono ?_
    rintro e w1 ⟨rfl, rfl⟩
    go_wp2_with fail
    refine (W2.out _).mono ?_
    rintro e w2 ⟨rfl, rfl⟩
    go_wp2_with fail
    refine (W3.out _).mono ?_
    rintro e w3 ⟨rfl, rfl⟩
    go_wp2
    go_ret
    exact ⟨rfl, rfl⟩
  · skip
    cases x2
    · rw [if_neg (by simp)]
      go_enter Tryz.func63, Tryz.ntmps63
      go_wp2_with fail
      refine (W1.out _).mono ?_
      rintro e w1 ⟨rfl, rfl⟩
      go_wp2_with fail
      refine (W2.out _).mono ?_
      rintro e w2 ⟨rfl, rfl⟩
      go_wp2_with fail
      refine (W3.out _).mono ?_
      rintro e w3 ⟨rfl, rfl⟩
      go_wp2
      go_ret
      exact ⟨rfl, rfl⟩
    · skip
      rw [if_pos (by simp)]
      go_enter Tryz.func63, Tryz.ntmps63
      go_wp2_with fail
      refine (W1.out _).mono ?_
      rintro e w1 ⟨rfl, rfl⟩
      go_wp2_with fail
      refine (W2.out _).mono ?_
      rintro e w2 ⟨rfl, rfl⟩
      go_wp2_with fail
      refine (W3.out _).mono ?_
      rintro e w3 ⟨rfl, rfl⟩
      go_wp2
      go_ret
      exact ⟨rfl, rfl⟩

set_option maxRecDepth 100000 in
set_option maxHeartbeats 2000000 in
theorem rr_E1c (s : ByteArray) (p B : Nat) (w : World) (hs : s.size ≤ 140737488355328) (hp : p < s.size) (hB : byt (bys s) p = B) (hc : B = 239) : Calls Tryz.prog 63 #[.string s, .int .i64 (p : Int)] w fun e w' => e = .returned (.int .i64 ((runeAt s (p : Int) : Nat) : Int)) ∧ w = w' := by
  have hp' : (p : Int) < (s.size : Int) := by omega
  have hg : ∀ h : p < s.size, s[p].toNat = B := fun h => (byt_get s p h).trans hB
  have hb2 : B < 256 := by rw [← hB]; exact byt_lt _ _
  have W1 : Hid (∀ X, Calls Tryz.prog 84 #[.string s, .int .i64 ((p : Int) + 1), .int .i64 128, .int .i64 191] X fun e w' => e = .returned (.bool (inB (bys s) (p + 1) 128 191)) ∧ X = w') := fun X => by have := within_any s (p + 1) 128 191 X; simpa using this
  have W2 : Hid (∀ X, Calls Tryz.prog 84 #[.string s, .int .i64 ((p : Int) + 2), .int .i64 128, .int .i64 191] X fun e w' => e = .returned (.bool (inB (bys s) (p + 2) 128 191)) ∧ X = w') := fun X => by have := within_any s (p + 2) 128 191 X; simpa using this
  have W3 : Hid (∀ X, Calls Tryz.prog 84 #[.string s, .int .i64 ((p : Int) + 3), .int .i64 128, .int .i64 191] X fun e w' => e = .returned (.bool (inB (bys s) (p + 3) 128 191)) ∧ X = w') := fun X => by have := within_any s (p + 3) 128 191 X; simpa using this
  have ta : ¬ (B : Int) < 128 := by omega
  have tb : 194 ≤ (B : Int) := by omega
  have tc : ¬ (B : Int) ≤ 223 := by omega
  have td : ¬ (B : Int) = 224 := by omega
  have te : 225 ≤ (B : Int) := by omega
  have tf : ¬ (B : Int) ≤ 236 := by omega
  have tg : ¬ (B : Int) = 238 := by omega
  have th : (B : Int) = 239 := by omega
  have ti : ¬ (B : Int) = 237 := by omega
  have tj : ¬ (B : Int) = 240 := by omega
  have tk : ¬ 241 ≤ (B : Int) := by omega
  have tm : ¬ (B : Int) = 244 := by omega
  have hR : runeAt s (p : Int) = runeN (s.size - p) B (byt (bys s) (p + 1)) (byt (bys s) (p + 2)) (byt (bys s) (p + 3)) := by
    unfold runeAt
    rw [if_neg (by omega)]
    show runeL ((bys s).drop p) = _
    unfold runeL
    rw [byB_drop, byB_drop, byB_drop, byB_drop, byB_byt, byB_byt, byB_byt, byB_byt, List.length_drop, bys_len, Nat.add_zero, hB]
  rw [runeN_E1 _ _ _ _ _ (by omega) (by omega)] at hR
  have hl := bys_len s
  obtain ⟨x1, hx1⟩ : ∃ x, x = inB (bys s) (p + 1) 128 191 := ⟨_, rfl⟩
  rw [← hx1] at W1
  obtain ⟨x2, hx2⟩ : ∃ x, x = inB (bys s) (p + 2) 128 191 := ⟨_, rfl⟩
  rw [← hx2] at W2
  obtain ⟨x3, hx3⟩ : ∃ x, x = inB (bys s) (p + 3) 128 191 := ⟨_, rfl⟩
  rw [← hx3] at W3
  have hV : runeAt s (p : Int) = (if x1 = true ∧ x2 = true then 3 else 0 : Nat) := by
    rw [hR]
    unfold inB at hx1
    unfold inB at hx2
    have q : (x1 = true ∧ x2 = true) ↔ (((p + 1) < (bys s).length ∧ 128 ≤ byt (bys s) (p + 1) ∧ byt (bys s) (p + 1) ≤ 191) ∧ ((p + 2) < (bys s).length ∧ 128 ≤ byt (bys s) (p + 2) ∧ byt (bys s) (p + 2) ≤ 191)) := by rw [hx1, hx2]; simp only [decide_eq_true_eq]
    by_cases hq : x1 = true ∧ x2 = true
    · have := q.1 hq
      rw [if_pos hq, if_neg (by omega)]
    · have : ¬ (((p + 1) < (bys s).length ∧ 128 ≤ byt (bys s) (p + 1) ∧ byt (bys s) (p + 1) ≤ 191) ∧ ((p + 2) < (bys s).length ∧ 128 ≤ byt (bys s) (p + 2) ∧ byt (bys s) (p + 2) ≤ 191)) := fun h => hq (q.2 h)
      rw [if_neg hq, if_pos (by omega)]
  rw [hV]
  clear hR hV hl hx1 hx2 hx3
  clear hB hc
  cases x1
  · rw [if_neg (by simp)]
    go_enter Tryz.func63, Tryz.ntmps63
    go_wp2_with fail
    refine (W1.out _).mono ?_
    rintro e w1 ⟨rfl, rfl⟩
    go_wp2_with fail
    refine (W2.out _).mono ?_
    rintro e w2 ⟨rfl, rfl⟩
    go_wp2_with fail
    refine (W3.out _).mono ?_
    rintro e w3 ⟨rfl, rfl⟩
    go_wp2
    go_ret
    exact ⟨rfl, rfl⟩
  · skip
    cases x2
    · rw [if_neg (by simp)]
      go_enter Tryz.func63, Tryz.ntmps63
      go_wp2_with fail
      refine (W1.out _).mono ?_
      rintro e w1 ⟨rfl, rfl⟩
      go_wp2_with fail
      refine (W2.out _).mono ?_
      rintro e w2 ⟨rfl, rfl⟩
      go_wp2_with fail
      refine (W3.out _).mono ?_
      rintro e w3 ⟨rfl, rfl⟩
      go_wp2
      go_ret
      exact ⟨rfl, rfl⟩
    · skip
      rw [if_pos (by simp)]
      go_enter Tryz.func63, Tryz.ntmps63
      go_wp2_with fail
      refine (W1.out _).mono ?_
      rintro e w1 ⟨rfl, rfl⟩
      go_wp2_with fail
      refine (W2.out _).mono ?_
      rintro e w2 ⟨rfl, rfl⟩
      go_wp2_with fail
      refine (W3.out _).mono ?_
      rintro e w3 ⟨rfl, rfl⟩
      go_wp2
      go_ret
      exact ⟨rfl, rfl⟩

end Go.Proofs.YtihnakblcfealaaGreatDoor

namespace Go.Proofs.YtihnakblcfealaaGreatDoor
open Go.RowKit Go.Lib

set_option maxRecDepth 100000 in
set_option maxHeartbeats 2000000 in
theorem rr_ED (s : ByteArray) (p B : Nat) (w : World) (hs : s.size ≤ 140737488355328) (hp : p < s.size) (hB : byt (bys s) p = B) (hc : B = 237) : Calls Tryz.prog 63 #[.string s, .int .i64 (p : Int)] w fun e w' => e = .returned (.int .i64 ((runeAt s (p : Int) : Nat) : Int)) ∧ w = w' := by
  have hp' : (p : Int) < (s.size : Int) := by omega
  have hg : ∀ h : p < s.size, s[p].toNat = B := fun h => (byt_get s p h).trans hB
  have hb2 : B < 256 := by rw [← hB]; exact byt_lt _ _
  have W1 : Hid (∀ X, Calls Tryz.prog 84 #[.string s, .int .i64 ((p : Int) + 1), .int .i64 128, .int .i64 191] X fun e w' => e = .returned (.bool (inB (bys s) (p + 1) 128 191)) ∧ X = w') := fun X => by have := within_any s (p + 1) 128 191 X; simpa using this
  have W2 : Hid (∀ X, Calls Tryz.prog 84 #[.string s, .int .i64 ((p : Int) + 2), .int .i64 128, .int .i64 191] X fun e w' => e = .returned (.bool (inB (bys s) (p + 2) 128 191)) ∧ X = w') := fun X => by have := within_any s (p + 2) 128 191 X; simpa using this
  have W3 : Hid (∀ X, Calls Tryz.prog 84 #[.string s, .int .i64 ((p : Int) + 3), .int .i64 128, .int .i64 191] X fun e w' => e = .returned (.bool (inB (bys s) (p + 3) 128 191)) ∧ X = w') := fun X => by have := within_any s (p + 3) 128 191 X; simpa using this
  have W4 : Hid (∀ X, Calls Tryz.prog 84 #[.string s, .int .i64 ((p : Int) + 1), .int .i64 128, .int .i64 159] X fun e w' => e = .returned (.bool (inB (bys s) (p + 1) 128 159)) ∧ X = w') := fun X => by have := within_any s (p + 1) 128 159 X; simpa using this
  have ta : ¬ (B : Int) < 128 := by omega
  have tb : 194 ≤ (B : Int) := by omega
  have tc : ¬ (B : Int) ≤ 223 := by omega
  have td : ¬ (B : Int) = 224 := by omega
  have te : 225 ≤ (B : Int) := by omega
  have tf : ¬ (B : Int) ≤ 236 := by omega
  have tg : ¬ (B : Int) = 238 := by omega
  have th : ¬ (B : Int) = 239 := by omega
  have ti : (B : Int) = 237 := by omega
  have tj : ¬ (B : Int) = 240 := by omega
  have tk : ¬ 241 ≤ (B : Int) := by omega
  have tm : ¬ (B : Int) = 244 := by omega
  have hR : runeAt s (p : Int) = runeN (s.size - p) B (byt (bys s) (p + 1)) (byt (bys s) (p + 2)) (byt (bys s) (p + 3)) := by
    unfold runeAt
    rw [if_neg (by omega)]
    show runeL ((bys s).drop p) = _
    unfold runeL
    rw [byB_drop, byB_drop, byB_drop, byB_drop, byB_byt, byB_byt, byB_byt, byB_byt, List.length_drop, bys_len, Nat.add_zero, hB]
  rw [runeN_ED _ _ _ _ _ (by omega) (by omega)] at hR
  have hl := bys_len s
  obtain ⟨x1, hx1⟩ : ∃ x, x = inB (bys s) (p + 1) 128 191 := ⟨_, rfl⟩
  rw [← hx1] at W1
  obtain ⟨x2, hx2⟩ : ∃ x, x = inB (bys s) (p + 2) 128 191 := ⟨_, rfl⟩
  rw [← hx2] at W2
  obtain ⟨x3, hx3⟩ : ∃ x, x = inB (bys s) (p + 3) 128 191 := ⟨_, rfl⟩
  rw [← hx3] at W3
  obtain ⟨x4, hx4⟩ : ∃ x, x = inB (bys s) (p + 1) 128 159 := ⟨_, rfl⟩
  rw [← hx4] at W4
  have hV : runeAt s (p : Int) = (if x4 = true ∧ x2 = true then 3 else 0 : Nat) := by
    rw [hR]
    unfold inB at hx4
    unfold inB at hx2
    have q : (x4 = true ∧ x2 = true) ↔ (((p + 1) < (bys s).length ∧ 128 ≤ byt (bys s) (p + 1) ∧ byt (bys s) (p + 1) ≤ 159) ∧ ((p + 2) < (bys s).length ∧ 128 ≤ byt (bys s) (p + 2) ∧ byt (bys s) (p + 2) ≤ 191)) := by rw [hx4, hx2]; simp only [decide_eq_true_eq]
    by_cases hq : x4 = true ∧ x2 = true
    · have := q.1 hq
      rw [if_pos hq, if_neg (by omega)]
    · have : ¬ (((p + 1) < (bys s).length ∧ 128 ≤ byt (bys s) (p + 1) ∧ byt (bys s) (p + 1) ≤ 159) ∧ ((p + 2) < (bys s).length ∧ 128 ≤ byt (bys s) (p + 2) ∧ byt (bys s) (p + 2) ≤ 191)) := fun h => hq (q.2 h)
      rw [if_neg hq, if_pos (by omega)]
  rw [hV]
  clear hR hV hl hx1 hx2 hx3 hx4
  clear hB hc
  cases x4
  · rw [if_neg (by simp)]
    go_enter Tryz.func63, Tryz.ntmps63
    go_wp2_with fail
    refine (W1.out _).mono ?_
    rintro e w1 ⟨rfl, rfl⟩
    go_wp2_with fail
    refine (W2.out _).mono ?_
    rintro e w2 ⟨rfl, rfl⟩
    go_wp2_with fail
    refine (W3.out _).mono ?_
    rintro e w3 ⟨rfl, rfl⟩
    go_wp2_with fail
    refine (W4.out _).mono ?_
    rintro e w4 ⟨rfl, rfl⟩
    go_wp2
    go_ret
    exact ⟨rfl, rfl⟩
  · skip
    cases x2
    · rw [if_neg (by simp)]
      go_enter Tryz.func63, Tryz.ntmps63
      go_wp2_with fail
      refine (W1.out _).mono ?_
      rintro e w1 ⟨rfl, rfl⟩
      go_wp2_with fail
      refine (W2.out _).mono ?_
      rintro e w2 ⟨rfl, rfl⟩
      go_wp2_with fail
      refine (W3.out _).mono ?_
      rintro e w3 ⟨rfl, rfl⟩
      go_wp2_with fail
      refine (W4.out _).mono ?_
      rintro e w4 ⟨rfl, rfl⟩
      go_wp2
      go_ret
      exact ⟨rfl, rfl⟩
    · skip
      rw [if_pos (by simp)]
      go_enter Tryz.func63, Tryz.ntmps63
      go_wp2_with fail
      refine (W1.out _).mono ?_
      rintro e w1 ⟨rfl, rfl⟩
      go_wp2_with fail
      refine (W2.out _).mono ?_
      rintro e w2 ⟨rfl, rfl⟩
      go_wp2_with fail
      refine (W3.out _).mono ?_
      rintro e w3 ⟨rfl, rfl⟩
      go_wp2_with fail
      refine (W4.out _).mono ?_
      rintro e w4 ⟨rfl, rfl⟩
      go_wp2
      go_ret
      exact ⟨rfl, rfl⟩

set_option maxRecDepth 100000 in
set_option maxHeartbeats 2000000 in
theorem rr_F0 (s : ByteArray) (p B : Nat) (w : World) (hs : s.size ≤ 140737488355328) (hp : p < s.size) (hB : byt (bys s) p = B) (hc : B = 240) : Calls Tryz.prog 63 #[.string s, .int .i64 (p : Int)] w fun e w' => e = .returned (.int .i64 ((runeAt s (p : Int) : Nat) : Int)) ∧ w = w' := by
  have hp' : (p : Int) < (s.size : Int) := by omega
  have hg : ∀ h : p < s.size, s[p].toNat = B := fun h => (byt_get s p h).trans hB
  have hb2 : B < 256 := by rw [← hB]; exact byt_lt _ _
  have W1 : Hid (∀ X, Calls Tryz.prog 84 #[.string s, .int .i64 ((p : Int) + 1), .int .i64 128, .int .i64 191] X fun e w' => e = .returned (.bool (inB (bys s) (p + 1) 128 191)) ∧ X = w') := fun X => by have := within_any s (p + 1) 128 191 X; simpa using this
  have W2 : Hid (∀ X, Calls Tryz.prog 84 #[.string s, .int .i64 ((p : Int) + 2), .int .i64 128, .int .i64 191] X fun e w' => e = .returned (.bool (inB (bys s) (p + 2) 128 191)) ∧ X = w') := fun X => by have := within_any s (p + 2) 128 191 X; simpa using this
  have W3 : Hid (∀ X, Calls Tryz.prog 84 #[.string s, .int .i64 ((p : Int) + 3), .int .i64 128, .int .i64 191] X fun e w' => e = .returned (.bool (inB (bys s) (p + 3) 128 191)) ∧ X = w') := fun X => by have := within_any s (p + 3) 128 191 X; simpa using this
  have W4 : Hid (∀ X, Calls Tryz.prog 84 #[.string s, .int .i64 ((p : Int) + 1), .int .i64 144, .int .i64 191] X fun e w' => e = .returned (.bool (inB (bys s) (p + 1) 144 191)) ∧ X = w') := fun X => by have := within_any s (p + 1) 144 191 X; simpa using this
  have ta : ¬ (B : Int) < 128 := by omega
  have tb : 194 ≤ (B : Int) := by omega
  have tc : ¬ (B : Int) ≤ 223 := by omega
  have td : ¬ (B : Int) = 224 := by omega
  have te : 225 ≤ (B : Int) := by omega
  have tf : ¬ (B : Int) ≤ 236 := by omega
  have tg : ¬ (B : Int) = 238 := by omega
  have th : ¬ (B : Int) = 239 := by omega
  have ti : ¬ (B : Int) = 237 := by omega
  have tj : (B : Int) = 240 := by omega
  have tk : ¬ 241 ≤ (B : Int) := by omega
  have tm : ¬ (B : Int) = 244 := by omega
  have hR : runeAt s (p : Int) = runeN (s.size - p) B (byt (bys s) (p + 1)) (byt (bys s) (p + 2)) (byt (bys s) (p + 3)) := by
    unfold runeAt
    rw [if_neg (by omega)]
    show runeL ((bys s).drop p) = _
    unfold runeL
    rw [byB_drop, byB_drop, byB_drop, byB_drop, byB_byt, byB_byt, byB_byt, byB_byt, List.length_drop, bys_len, Nat.add_zero, hB]
  rw [runeN_F0 _ _ _ _ _ (by omega) (by omega)] at hR
  have hl := bys_len s
  obtain ⟨x1, hx1⟩ : ∃ x, x = inB (bys s) (p + 1) 128 191 := ⟨_, rfl⟩
  rw [← hx1] at W1
  obtain ⟨x2, hx2⟩ : ∃ x, x = inB (bys s) (p + 2) 128 191 := ⟨_, rfl⟩
  rw [← hx2] at W2
  obtain ⟨x3, hx3⟩ : ∃ x, x = inB (bys s) (p + 3) 128 191 := ⟨_, rfl⟩
  rw [← hx3] at W3
  obtain ⟨x4, hx4⟩ : ∃ x, x = inB (bys s) (p + 1) 144 191 := ⟨_, rfl⟩
  rw [← hx4] at W4
  have hV : runeAt s (p : Int) = (if x4 = true ∧ x2 = true ∧ x3 = true then 4 else 0 : Nat) := by
    rw [hR]
    unfold inB at hx4
    unfold inB at hx2
    unfold inB at hx3
    have q : (x4 = true ∧ x2 = true ∧ x3 = true) ↔ (((p + 1) < (bys s).length ∧ 144 ≤ byt (bys s) (p + 1) ∧ byt (bys s) (p + 1) ≤ 191) ∧ ((p + 2) < (bys s).length ∧ 128 ≤ byt (bys s) (p + 2) ∧ byt (bys s) (p + 2) ≤ 191) ∧ ((p + 3) < (bys s).length ∧ 128 ≤ byt (bys s) (p + 3) ∧ byt (bys s) (p + 3) ≤ 191)) := by rw [hx4, hx2, hx3]; simp only [decide_eq_true_eq]
    by_cases hq : x4 = true ∧ x2 = true ∧ x3 = true
    · have := q.1 hq
      rw [if_pos hq, if_neg (by omega)]
    · have : ¬ (((p + 1) < (bys s).length ∧ 144 ≤ byt (bys s) (p + 1) ∧ byt (bys s) (p + 1) ≤ 191) ∧ ((p + 2) < (bys s).length ∧ 128 ≤ byt (bys s) (p + 2) ∧ byt (bys s) (p + 2) ≤ 191) ∧ ((p + 3) < (bys s).length ∧ 128 ≤ byt (bys s) (p + 3) ∧ byt (bys s) (p + 3) ≤ 191)) := fun h => hq (q.2 h)
      rw [if_neg hq, if_pos (by omega)]
  rw [hV]
  clear hR hV hl hx1 hx2 hx3 hx4
  clear hB hc
  cases x4
  · rw [if_neg (by simp)]
    go_enter Tryz.func63, Tryz.ntmps63
    go_wp2_with fail
    refine (W1.out _).mono ?_
    rintro e w1 ⟨rfl, rfl⟩
    go_wp2_with fail
    refine (W2.out _).mono ?_
    rintro e w2 ⟨rfl, rfl⟩
    go_wp2_with fail
    refine (W3.out _).mono ?_
    rintro e w3 ⟨rfl, rfl⟩
    go_wp2_with fail
    refine (W4.out _).mono ?_
    rintro e w4 ⟨rfl, rfl⟩
    go_wp2
    go_ret
    exact ⟨rfl, rfl⟩
  · skip
    cases x2
    · rw [if_neg (by simp)]
      go_enter Tryz.func63, Tryz.ntmps63
      go_wp2_with fail
      refine (W1.out _).mono ?_
      rintro e w1 ⟨rfl, rfl⟩
      go_wp2_with fail
      refine (W2.out _).mono ?_
      rintro e w2 ⟨rfl, rfl⟩
      go_wp2_with fail
      refine (W3.out _).mono ?_
      rintro e w3 ⟨rfl, rfl⟩
      go_wp2_with fail
      refine (W4.out _).mono ?_
      rintro e w4 ⟨rfl, rfl⟩
      go_wp2
      go_ret
      exact ⟨rfl, rfl⟩
    · skip
      cases x3
      · rw [if_neg (by simp)]
        go_enter Tryz.func63, Tryz.ntmps63
        go_wp2_with fail
        refine (W1.out _).mono ?_
        rintro e w1 ⟨rfl, rfl⟩
        go_wp2_with fail
        refine (W2.out _).mono ?_
        rintro e w2 ⟨rfl, rfl⟩
        go_wp2_with fail
        refine (W3.out _).mono ?_
        rintro e w3 ⟨rfl, rfl⟩
        go_wp2_with fail
        refine (W4.out _).mono ?_
        rintro e w4 ⟨rfl, rfl⟩
        go_wp2
        go_ret
        exact ⟨rfl, rfl⟩
      · skip
        rw [if_pos (by simp)]
        go_enter Tryz.func63, Tryz.ntmps63
        go_wp2_with fail
        refine (W1.out _).mono ?_
        rintro e w1 ⟨rfl, rfl⟩
        go_wp2_with fail
        refine (W2.out _).mono ?_
        rintro e w2 ⟨rfl, rfl⟩
        go_wp2_with fail
        refine (W3.out _).mono ?_
        rintro e w3 ⟨rfl, rfl⟩
        go_wp2_with fail
        refine (W4.out _).mono ?_
        rintro e w4 ⟨rfl, rfl⟩
        go_wp2
        go_ret
        exact ⟨rfl, rfl⟩

end Go.Proofs.YtihnakblcfealaaGreatDoor

namespace Go.Proofs.YtihnakblcfealaaGreatDoor
open Go.RowKit Go.Lib

set_option maxRecDepth 100000 in
set_option maxHeartbeats 2000000 in
theorem rr_F1 (s : ByteArray) (p B : Nat) (w : World) (hs : s.size ≤ 140737488355328) (hp : p < s.size) (hB : byt (bys s) p = B) (hc : 241 ≤ B ∧ B ≤ 243) : Calls Tryz.prog 63 #[.string s, .int .i64 (p : Int)] w fun e w' => e = .returned (.int .i64 ((runeAt s (p : Int) : Nat) : Int)) ∧ w = w' := by
  have hp' : (p : Int) < (s.size : Int) := by omega
  have hg : ∀ h : p < s.size, s[p].toNat = B := fun h => (byt_get s p h).trans hB
  have hb2 : B < 256 := by rw [← hB]; exact byt_lt _ _
  have W1 : Hid (∀ X, Calls Tryz.prog 84 #[.string s, .int .i64 ((p : Int) + 1), .int .i64 128, .int .i64 191] X fun e w' => e = .returned (.bool (inB (bys s) (p + 1) 128 191)) ∧ X = w') := fun X => by have := within_any s (p + 1) 128 191 X; simpa using this
  have W2 : Hid (∀ X, Calls Tryz.prog 84 #[.string s, .int .i64 ((p : Int) + 2), .int .i64 128, .int .i64 191] X fun e w' => e = .returned (.bool (inB (bys s) (p + 2) 128 191)) ∧ X = w') := fun X => by have := within_any s (p + 2) 128 191 X; simpa using this
  have W3 : Hid (∀ X, Calls Tryz.prog 84 #[.string s, .int .i64 ((p : Int) + 3), .int .i64 128, .int .i64 191] X fun e w' => e = .returned (.bool (inB (bys s) (p + 3) 128 191)) ∧ X = w') := fun X => by have := within_any s (p + 3) 128 191 X; simpa using this
  have ta : ¬ (B : Int) < 128 := by omega
  have tb : 194 ≤ (B : Int) := by omega
  have tc : ¬ (B : Int) ≤ 223 := by omega
  have td : ¬ (B : Int) = 224 := by omega
  have te : 225 ≤ (B : Int) := by omega
  have tf : ¬ (B : Int) ≤ 236 := by omega
  have tg : ¬ (B : Int) = 238 := by omega
  have th : ¬ (B : Int) = 239 := by omega
  have ti : ¬ (B : Int) = 237 := by omega
  have tj : ¬ (B : Int) = 240 := by omega
  have tk : 241 ≤ (B : Int) := by omega
  have tl : (B : Int) ≤ 243 := by omega
  have tm : ¬ (B : Int) = 244 := by omega
  have hR : runeAt s (p : Int) = runeN (s.size - p) B (byt (bys s) (p + 1)) (byt (bys s) (p + 2)) (byt (bys s) (p + 3)) := by
    unfold runeAt
    rw [if_neg (by omega)]
    show runeL ((bys s).drop p) = _
    unfold runeL
    rw [byB_drop, byB_drop, byB_drop, byB_drop, byB_byt, byB_byt, byB_byt, byB_byt, List.length_drop, bys_len, Nat.add_zero, hB]
  rw [runeN_F1 _ _ _ _ _ (by omega) (by omega)] at hR
  have hl := bys_len s
  obtain ⟨x1, hx1⟩ : ∃ x, x = inB (bys s) (p + 1) 128 191 := ⟨_, rfl⟩
  rw [← hx1] at W1
  obtain ⟨x2, hx2⟩ : ∃ x, x = inB (bys s) (p + 2) 128 191 := ⟨_, rfl⟩
  rw [← hx2] at W2
  obtain ⟨x3, hx3⟩ : ∃ x, x = inB (bys s) (p + 3) 128 191 := ⟨_, rfl⟩
  rw [← hx3] at W3
  have hV : runeAt s (p : Int) = (if x1 = true ∧ x2 = true ∧ x3 = true then 4 else 0 : Nat) := by
    rw [hR]
    unfold inB at hx1
    unfold inB at hx2
    unfold inB at hx3
    have q : (x1 = true ∧ x2 = true ∧ x3 = true) ↔ (((p + 1) < (bys s).length ∧ 128 ≤ byt (bys s) (p + 1) ∧ byt (bys s) (p + 1) ≤ 191) ∧ ((p + 2) < (bys s).length ∧ 128 ≤ byt (bys s) (p + 2) ∧ byt (bys s) (p + 2) ≤ 191) ∧ ((p + 3) < (bys s).length ∧ 128 ≤ byt (bys s) (p + 3) ∧ byt (bys s) (p + 3) ≤ 191)) := by rw [hx1, hx2, hx3]; simp only [decide_eq_true_eq]
    by_cases hq : x1 = true ∧ x2 = true ∧ x3 = true
    · have := q.1 hq
      rw [if_pos hq, if_neg (by omega)]
    · have : ¬ (((p + 1) < (bys s).length ∧ 128 ≤ byt (bys s) (p + 1) ∧ byt (bys s) (p + 1) ≤ 191) ∧ ((p + 2) < (bys s).length ∧ 128 ≤ byt (bys s) (p + 2) ∧ byt (bys s) (p + 2) ≤ 191) ∧ ((p + 3) < (bys s).length ∧ 128 ≤ byt (bys s) (p + 3) ∧ byt (bys s) (p + 3) ≤ 191)) := fun h => hq (q.2 h)
      rw [if_neg hq, if_pos (by omega)]
  rw [hV]
  clear hR hV hl hx1 hx2 hx3
  clear hB hc
  cases x1
  · rw [if_neg (by simp)]
    go_enter Tryz.func63, Tryz.ntmps63
    go_wp2_with fail
    refine (W1.out _).mono ?_
    rintro e w1 ⟨rfl, rfl⟩
    go_wp2_with fail
    refine (W2.out _).mono ?_
    rintro e w2 ⟨rfl, rfl⟩
    go_wp2_with fail
    refine (W3.out _).mono ?_
    rintro e w3 ⟨rfl, rfl⟩
    go_wp2
    go_ret
    exact ⟨rfl, rfl⟩
  · skip
    cases x2
    · rw [if_neg (by simp)]
      go_enter Tryz.func63, Tryz.ntmps63
      go_wp2_with fail
      refine (W1.out _).mono ?_
      rintro e w1 ⟨rfl, rfl⟩
      go_wp2_with fail
      refine (W2.out _).mono ?_
      rintro e w2 ⟨rfl, rfl⟩
      go_wp2_with fail
      refine (W3.out _).mono ?_
      rintro e w3 ⟨rfl, rfl⟩
      go_wp2
      go_ret
      exact ⟨rfl, rfl⟩
    · skip
      cases x3
      · rw [if_neg (by simp)]
        go_enter Tryz.func63, Tryz.ntmps63
        go_wp2_with fail
        refine (W1.out _).mono ?_
        rintro e w1 ⟨rfl, rfl⟩
        go_wp2_with fail
        refine (W2.out _).mono ?_
        rintro e w2 ⟨rfl, rfl⟩
        go_wp2_with fail
        refine (W3.out _).mono ?_
        rintro e w3 ⟨rfl, rfl⟩
        go_wp2
        go_ret
        exact ⟨rfl, rfl⟩
      · skip
        rw [if_pos (by simp)]
        go_enter Tryz.func63, Tryz.ntmps63
        go_wp2_with fail
        refine (W1.out _).mono ?_
        rintro e w1 ⟨rfl, rfl⟩
        go_wp2_with fail
        refine (W2.out _).mono ?_
        rintro e w2 ⟨rfl, rfl⟩
        go_wp2_with fail
        refine (W3.out _).mono ?_
        rintro e w3 ⟨rfl, rfl⟩
        go_wp2
        go_ret
        exact ⟨rfl, rfl⟩

set_option maxRecDepth 100000 in
set_option maxHeartbeats 2000000 in
theorem rr_F4 (s : ByteArray) (p B : Nat) (w : World) (hs : s.size ≤ 140737488355328) (hp : p < s.size) (hB : byt (bys s) p = B) (hc : B = 244) : Calls Tryz.prog 63 #[.string s, .int .i64 (p : Int)] w fun e w' => e = .returned (.int .i64 ((runeAt s (p : Int) : Nat) : Int)) ∧ w = w' := by
  have hp' : (p : Int) < (s.size : Int) := by omega
  have hg : ∀ h : p < s.size, s[p].toNat = B := fun h => (byt_get s p h).trans hB
  have hb2 : B < 256 := by rw [← hB]; exact byt_lt _ _
  have W1 : Hid (∀ X, Calls Tryz.prog 84 #[.string s, .int .i64 ((p : Int) + 1), .int .i64 128, .int .i64 191] X fun e w' => e = .returned (.bool (inB (bys s) (p + 1) 128 191)) ∧ X = w') := fun X => by have := within_any s (p + 1) 128 191 X; simpa using this
  have W2 : Hid (∀ X, Calls Tryz.prog 84 #[.string s, .int .i64 ((p : Int) + 2), .int .i64 128, .int .i64 191] X fun e w' => e = .returned (.bool (inB (bys s) (p + 2) 128 191)) ∧ X = w') := fun X => by have := within_any s (p + 2) 128 191 X; simpa using this
  have W3 : Hid (∀ X, Calls Tryz.prog 84 #[.string s, .int .i64 ((p : Int) + 3), .int .i64 128, .int .i64 191] X fun e w' => e = .returned (.bool (inB (bys s) (p + 3) 128 191)) ∧ X = w') := fun X => by have := within_any s (p + 3) 128 191 X; simpa using this
  have W4 : Hid (∀ X, Calls Tryz.prog 84 #[.string s, .int .i64 ((p : Int) + 1), .int .i64 128, .int .i64 143] X fun e w' => e = .returned (.bool (inB (bys s) (p + 1) 128 143)) ∧ X = w') := fun X => by have := within_any s (p + 1) 128 143 X; simpa using this
  have ta : ¬ (B : Int) < 128 := by omega
  have tb : 194 ≤ (B : Int) := by omega
  have tc : ¬ (B : Int) ≤ 223 := by omega
  have td : ¬ (B : Int) = 224 := by omega
  have te : 225 ≤ (B : Int) := by omega
  have tf : ¬ (B : Int) ≤ 236 := by omega
  have tg : ¬ (B : Int) = 238 := by omega
  have th : ¬ (B : Int) = 239 := by omega
  have ti : ¬ (B : Int) = 237 := by omega
  have tj : ¬ (B : Int) = 240 := by omega
  have tk : 241 ≤ (B : Int) := by omega
  have tl : ¬ (B : Int) ≤ 243 := by omega
  have tm : (B : Int) = 244 := by omega
  have hR : runeAt s (p : Int) = runeN (s.size - p) B (byt (bys s) (p + 1)) (byt (bys s) (p + 2)) (byt (bys s) (p + 3)) := by
    unfold runeAt
    rw [if_neg (by omega)]
    show runeL ((bys s).drop p) = _
    unfold runeL
    rw [byB_drop, byB_drop, byB_drop, byB_drop, byB_byt, byB_byt, byB_byt, byB_byt, List.length_drop, bys_len, Nat.add_zero, hB]
  rw [runeN_F4 _ _ _ _ _ (by omega) (by omega)] at hR
  have hl := bys_len s
  obtain ⟨x1, hx1⟩ : ∃ x, x = inB (bys s) (p + 1) 128 191 := ⟨_, rfl⟩
  rw [← hx1] at W1
  obtain ⟨x2, hx2⟩ : ∃ x, x = inB (bys s) (p + 2) 128 191 := ⟨_, rfl⟩
  rw [← hx2] at W2
  obtain ⟨x3, hx3⟩ : ∃ x, x = inB (bys s) (p + 3) 128 191 := ⟨_, rfl⟩
  rw [← hx3] at W3
  obtain ⟨x4, hx4⟩ : ∃ x, x = inB (bys s) (p + 1) 128 143 := ⟨_, rfl⟩
  rw [← hx4] at W4
  have hV : runeAt s (p : Int) = (if x4 = true ∧ x2 = true ∧ x3 = true then 4 else 0 : Nat) := by
    rw [hR]
    unfold inB at hx4
    unfold inB at hx2
    unfold inB at hx3
    have q : (x4 = true ∧ x2 = true ∧ x3 = true) ↔ (((p + 1) < (bys s).length ∧ 128 ≤ byt (bys s) (p + 1) ∧ byt (bys s) (p + 1) ≤ 143) ∧ ((p + 2) < (bys s).length ∧ 128 ≤ byt (bys s) (p + 2) ∧ byt (bys s) (p + 2) ≤ 191) ∧ ((p + 3) < (bys s).length ∧ 128 ≤ byt (bys s) (p + 3) ∧ byt (bys s) (p + 3) ≤ 191)) := by rw [hx4, hx2, hx3]; simp only [decide_eq_true_eq]
    by_cases hq : x4 = true ∧ x2 = true ∧ x3 = true
    · have := q.1 hq
      rw [if_pos hq, if_neg (by omega)]
    · have : ¬ (((p + 1) < (bys s).length ∧ 128 ≤ byt (bys s) (p + 1) ∧ byt (bys s) (p + 1) ≤ 143) ∧ ((p + 2) < (bys s).length ∧ 128 ≤ byt (bys s) (p + 2) ∧ byt (bys s) (p + 2) ≤ 191) ∧ ((p + 3) < (bys s).length ∧ 128 ≤ byt (bys s) (p + 3) ∧ byt (bys s) (p + 3) ≤ 191)) := fun h => hq (q.2 h)
      rw [if_neg hq, if_pos (by omega)]
  rw [hV]
  clear hR hV hl hx1 hx2 hx3 hx4
  clear hB hc
  cases x4
  · rw [if_neg (by simp)]
    go_enter Tryz.func63, Tryz.ntmps63
    go_wp2_with fail
    refine (W1.out _).mono ?_
    rintro e w1 ⟨rfl, rfl⟩
    go_wp2_with fail
    refine (W2.out _).mono ?_
    rintro e w2 ⟨rfl, rfl⟩
    go_wp2_with fail
    refine (W3.out _).mono ?_
    rintro e w3 ⟨rfl, rfl⟩
    go_wp2_with fail
    refine (W4.out _).mono ?_
    rintro e w4 ⟨rfl, rfl⟩
    go_wp2
    go_ret
    exact ⟨rfl, rfl⟩
  · skip
    cases x2
    · rw [if_neg (by simp)]
      go_enter Tryz.func63, Tryz.ntmps63
      go_wp2_with fail
      refine (W1.out _).mono ?_
      rintro e w1 ⟨rfl, rfl⟩
      go_wp2_with fail
      refine (W2.out _).mono ?_
      rintro e w2 ⟨rfl, rfl⟩
      go_wp2_with fail
      refine (W3.out _).mono ?_
      rintro e w3 ⟨rfl, rfl⟩
      go_wp2_with fail
      refine (W4.out _).mono ?_
      rintro e w4 ⟨rfl, rfl⟩
      go_wp2
      go_ret
      exact ⟨rfl, rfl⟩
    · skip
      cases x3
      · rw [if_neg (by simp)]
        go_enter Tryz.func63, Tryz.ntmps63
        go_wp2_with fail
        refine (W1.out _).mono ?_
        rintro e w1 ⟨rfl, rfl⟩
        go_wp2_with fail
        refine (W2.out _).mono ?_
        rintro e w2 ⟨rfl, rfl⟩
        go_wp2_with fail
        refine (W3.out _).mono ?_
        rintro e w3 ⟨rfl, rfl⟩
        go_wp2_with fail
        refine (W4.out _).mono ?_
        rintro e w4 ⟨rfl, rfl⟩
        go_wp2
        go_ret
        exact ⟨rfl, rfl⟩
      · skip
        rw [if_pos (by simp)]
        go_enter Tryz.func63, Tryz.ntmps63
        go_wp2_with fail
        refine (W1.out _).mono ?_
        rintro e w1 ⟨rfl, rfl⟩
        go_wp2_with fail
        refine (W2.out _).mono ?_
        rintro e w2 ⟨rfl, rfl⟩
        go_wp2_with fail
        refine (W3.out _).mono ?_
        rintro e w3 ⟨rfl, rfl⟩
        go_wp2_with fail
        refine (W4.out _).mono ?_
        rintro e w4 ⟨rfl, rfl⟩
        go_wp2
        go_ret
        exact ⟨rfl, rfl⟩

set_option maxRecDepth 100000 in
set_option maxHeartbeats 2000000 in
theorem rr_Na (s : ByteArray) (p B : Nat) (w : World) (hs : s.size ≤ 140737488355328) (hp : p < s.size) (hB : byt (bys s) p = B) (hc : 128 ≤ B ∧ B < 194) : Calls Tryz.prog 63 #[.string s, .int .i64 (p : Int)] w fun e w' => e = .returned (.int .i64 ((runeAt s (p : Int) : Nat) : Int)) ∧ w = w' := by
  have hp' : (p : Int) < (s.size : Int) := by omega
  have hg : ∀ h : p < s.size, s[p].toNat = B := fun h => (byt_get s p h).trans hB
  have hb2 : B < 256 := by rw [← hB]; exact byt_lt _ _
  have W1 : Hid (∀ X, Calls Tryz.prog 84 #[.string s, .int .i64 ((p : Int) + 1), .int .i64 128, .int .i64 191] X fun e w' => e = .returned (.bool (inB (bys s) (p + 1) 128 191)) ∧ X = w') := fun X => by have := within_any s (p + 1) 128 191 X; simpa using this
  have W2 : Hid (∀ X, Calls Tryz.prog 84 #[.string s, .int .i64 ((p : Int) + 2), .int .i64 128, .int .i64 191] X fun e w' => e = .returned (.bool (inB (bys s) (p + 2) 128 191)) ∧ X = w') := fun X => by have := within_any s (p + 2) 128 191 X; simpa using this
  have W3 : Hid (∀ X, Calls Tryz.prog 84 #[.string s, .int .i64 ((p : Int) + 3), .int .i64 128, .int .i64 191] X fun e w' => e = .returned (.bool (inB (bys s) (p + 3) 128 191)) ∧ X = w') := fun X => by have := within_any s (p + 3) 128 191 X; simpa using this
  have ta : ¬ (B : Int) < 128 := by omega
  have tb : ¬ 194 ≤ (B : Int) := by omega
  have td : ¬ (B : Int) = 224 := by omega
  have te : ¬ 225 ≤ (B : Int) := by omega
  have tg : ¬ (B : Int) = 238 := by omega
  have th : ¬ (B : Int) = 239 := by omega
  have ti : ¬ (B : Int) = 237 := by omega
  have tj : ¬ (B : Int) = 240 := by omega
  have tk : ¬ 241 ≤ (B : Int) := by omega
  have tm : ¬ (B : Int) = 244 := by omega
  have hR : runeAt s (p : Int) = runeN (s.size - p) B (byt (bys s) (p + 1)) (byt (bys s) (p + 2)) (byt (bys s) (p + 3)) := by
    unfold runeAt
    rw [if_neg (by omega)]
    show runeL ((bys s).drop p) = _
    unfold runeL
    rw [byB_drop, byB_drop, byB_drop, byB_drop, byB_byt, byB_byt, byB_byt, byB_byt, List.length_drop, bys_len, Nat.add_zero, hB]
  rw [runeN_No _ _ _ _ _ (by omega) (by omega)] at hR
  rw [hR]
  clear hR
  clear hB hc
  go_enter Tryz.func63, Tryz.ntmps63
  go_wp2_with fail
  refine (W1.out _).mono ?_
  rintro e w1 ⟨rfl, rfl⟩
  go_wp2_with fail
  refine (W2.out _).mono ?_
  rintro e w2 ⟨rfl, rfl⟩
  go_wp2_with fail
  refine (W3.out _).mono ?_
  rintro e w3 ⟨rfl, rfl⟩
  go_wp2
  go_ret
  exact ⟨rfl, rfl⟩

set_option maxRecDepth 100000 in
set_option maxHeartbeats 2000000 in
theorem rr_Nb (s : ByteArray) (p B : Nat) (w : World) (hs : s.size ≤ 140737488355328) (hp : p < s.size) (hB : byt (bys s) p = B) (hc : 244 < B) : Calls Tryz.prog 63 #[.string s, .int .i64 (p : Int)] w fun e w' => e = .returned (.int .i64 ((runeAt s (p : Int) : Nat) : Int)) ∧ w = w' := by
  have hp' : (p : Int) < (s.size : Int) := by omega
  have hg : ∀ h : p < s.size, s[p].toNat = B := fun h => (byt_get s p h).trans hB
  have hb2 : B < 256 := by rw [← hB]; exact byt_lt _ _
  have W1 : Hid (∀ X, Calls Tryz.prog 84 #[.string s, .int .i64 ((p : Int) + 1), .int .i64 128, .int .i64 191] X fun e w' => e = .returned (.bool (inB (bys s) (p + 1) 128 191)) ∧ X = w') := fun X => by have := within_any s (p + 1) 128 191 X; simpa using this
  have W2 : Hid (∀ X, Calls Tryz.prog 84 #[.string s, .int .i64 ((p : Int) + 2), .int .i64 128, .int .i64 191] X fun e w' => e = .returned (.bool (inB (bys s) (p + 2) 128 191)) ∧ X = w') := fun X => by have := within_any s (p + 2) 128 191 X; simpa using this
  have W3 : Hid (∀ X, Calls Tryz.prog 84 #[.string s, .int .i64 ((p : Int) + 3), .int .i64 128, .int .i64 191] X fun e w' => e = .returned (.bool (inB (bys s) (p + 3) 128 191)) ∧ X = w') := fun X => by have := within_any s (p + 3) 128 191 X; simpa using this
  have ta : ¬ (B : Int) < 128 := by omega
  have tb : 194 ≤ (B : Int) := by omega
  have tc : ¬ (B : Int) ≤ 223 := by omega
  have td : ¬ (B : Int) = 224 := by omega
  have te : 225 ≤ (B : Int) := by omega
  have tf : ¬ (B : Int) ≤ 236 := by omega
  have tg : ¬ (B : Int) = 238 := by omega
  have th : ¬ (B : Int) = 239 := by omega
  have ti : ¬ (B : Int) = 237 := by omega
  have tj : ¬ (B : Int) = 240 := by omega
  have tk : 241 ≤ (B : Int) := by omega
  have tl : ¬ (B : Int) ≤ 243 := by omega
  have tm : ¬ (B : Int) = 244 := by omega
  have hR : runeAt s (p : Int) = runeN (s.size - p) B (byt (bys s) (p + 1)) (byt (bys s) (p + 2)) (byt (bys s) (p + 3)) := by
    unfold runeAt
    rw [if_neg (by omega)]
    show runeL ((bys s).drop p) = _
    unfold runeL
    rw [byB_drop, byB_drop, byB_drop, byB_drop, byB_byt, byB_byt, byB_byt, byB_byt, List.length_drop, bys_len, Nat.add_zero, hB]
  rw [runeN_No _ _ _ _ _ (by omega) (by omega)] at hR
  rw [hR]
  clear hR
  clear hB hc
  go_enter Tryz.func63, Tryz.ntmps63
  go_wp2_with fail
  refine (W1.out _).mono ?_
  rintro e w1 ⟨rfl, rfl⟩
  go_wp2_with fail
  refine (W2.out _).mono ?_
  rintro e w2 ⟨rfl, rfl⟩
  go_wp2_with fail
  refine (W3.out _).mono ?_
  rintro e w3 ⟨rfl, rfl⟩
  go_wp2
  go_ret
  exact ⟨rfl, rfl⟩

end Go.Proofs.YtihnakblcfealaaGreatDoor

namespace Go.Proofs.YtihnakblcfealaaGreatDoor
open Go.RowKit Go.Lib

theorem rRune_any (s : ByteArray) (i : Int) (w : World) (hs : s.size ≤ 140737488355328) : Calls Tryz.prog 63 #[.string s, .int .i64 i] w fun e w' => e = .returned (.int .i64 ((runeAt s i : Nat) : Int)) ∧ w = w' := by
  by_cases h0 : i < 0
  · have e : runeAt s i = 0 := by unfold runeAt; rw [if_pos (.inl h0)]
    rw [e]
    go_enter Tryz.func63, Tryz.ntmps63
    go_wp2
    go_ret
    exact ⟨rfl, rfl⟩
  by_cases h1 : (s.size : Int) ≤ i
  · have e : runeAt s i = 0 := by unfold runeAt; rw [if_pos (.inr h1)]
    rw [e]
    go_enter Tryz.func63, Tryz.ntmps63
    go_wp2
    go_ret
    exact ⟨rfl, rfl⟩
  obtain ⟨p, rfl⟩ : ∃ p : Nat, i = (p : Int) := ⟨i.toNat, by omega⟩
  have hp : p < s.size := by omega
  obtain ⟨B, hB⟩ : ∃ B, byt (bys s) p = B := ⟨_, rfl⟩
  by_cases cAs : B < 128
  · exact rr_As s p B w hs hp hB cAs
  by_cases cC2 : 194 ≤ B ∧ B ≤ 223
  · exact rr_C2 s p B w hs hp hB cC2
  by_cases cE0 : B = 224
  · exact rr_E0 s p B w hs hp hB cE0
  by_cases cE1a : 225 ≤ B ∧ B ≤ 236
  · exact rr_E1a s p B w hs hp hB cE1a
  by_cases cE1b : B = 238
  · exact rr_E1b s p B w hs hp hB cE1b
  by_cases cE1c : B = 239
  · exact rr_E1c s p B w hs hp hB cE1c
  by_cases cED : B = 237
  · exact rr_ED s p B w hs hp hB cED
  by_cases cF0 : B = 240
  · exact rr_F0 s p B w hs hp hB cF0
  by_cases cF1 : 241 ≤ B ∧ B ≤ 243
  · exact rr_F1 s p B w hs hp hB cF1
  by_cases cF4 : B = 244
  · exact rr_F4 s p B w hs hp hB cF4
  by_cases cNa : 128 ≤ B ∧ B < 194
  · exact rr_Na s p B w hs hp hB cNa
  have hb2 : B < 256 := by rw [← hB]; exact byt_lt _ _
  exact rr_Nb s p B w hs hp hB (by omega)
end Go.Proofs.YtihnakblcfealaaGreatDoor
