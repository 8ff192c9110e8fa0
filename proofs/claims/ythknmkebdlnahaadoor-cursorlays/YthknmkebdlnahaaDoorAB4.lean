/-
  What the reference's Rune does.
  What the reference's Rune does.
  What the reference's Runes, Put and PutText do.
  CursorLays and CursorRunes.
  What the rows' list of package variables gives, and a world that holds them.
-/
import Derived.Test.YthknmkebdlnahaaDoorAB3
import Derived.Test.YthknmkebdlnahaaDoorAB2
import Derived.Test.YthknmkebdlnahaaDoorRows
import Derived.Lib.LaidU8
import Derived.Deep.DeepHandedRow
namespace Go.Proofs.YthknmkebdlnahaaDoor
open Go.RowKit Go.Lib

set_option maxRecDepth 100000 in
set_option maxHeartbeats 2000000 in
theorem rr_F1 (s : ByteArray) (p B : Nat) (w : World) (hs : s.size ≤ 140737488355328) (hp : p < s.size) (hB : byt (bys s) p = B) (hc : 241 ≤ B ∧ B ≤ 243) : Calls Tryd.prog 17 #[.string s, .int .i64 (p : Int)] w fun e w' => e = .returned (.int .i64 ((runeAt s (p : Int) : Nat) : Int)) ∧ w = w' := by
  have hp' : (p : Int) < (s.size : Int) := by omega
  have hg : ∀ h : p < s.size, s[p].toNat = B := fun h => (byt_get s p h).trans hB
  have hb2 : B < 256 := by rw [← hB]; exact byt_lt _ _
  have W1 : Hid (∀ X, Calls Tryd.prog 31 #[.string s, .int .i64 ((p : Int) + 1), .int .i64 128, .int .i64 191] X fun e w' => e = .returned (.bool (inB (bys s) (p + 1) 128 191)) ∧ X = w') := fun X => by have := within_any s (p + 1) 128 191 X; simpa using this
  have W2 : Hid (∀ X, Calls Tryd.prog 31 #[.string s, .int .i64 ((p : Int) + 2), .int .i64 128, .int .i64 191] X fun e w' => e = .returned (.bool (inB (bys s) (p + 2) 128 191)) ∧ X = w') := fun X => by have := within_any s (p + 2) 128 191 X; simpa using this
  have W3 : Hid (∀ X, Calls Tryd.prog 31 #[.string s, .int .i64 ((p : Int) + 3), .int .i64 128, .int .i64 191] X fun e w' => e = .returned (.bool (inB (bys s) (p + 3) 128 191)) ∧ X = w') := fun X => by have := within_any s (p + 3) 128 191 X; simpa using this
  have ta : ¬ (B : Int) < 128 := by omega
  have tb : 194 ≤ (B : Int) := by omega
  have tc : ¬ (B : Int) ≤ 223 := by omega
  have td : ¬ (B : Int) = 224 := by omega
  have te : 225 ≤ (B : Int) := by omega
  have tf : ¬ (B : Int) ≤ 236 := by omega
  have tg : ¬ (B : Int) = 238 := by omega
  have th : ¬ (B : Int) = 239 := by omega
  have ti : ¬ (B : Int) = 237 := by omega
  have tj : ¬ (B : Int) = 240 := by omega
  have tk : 241 ≤ (B : Int) := by omega
  have tl : (B : Int) ≤ 243 := by omega
  have tm : ¬ (B : Int) = 244 := by omega
  have hR : runeAt s (p : Int) = runeN (s.size - p) B (byt (bys s) (p + 1)) (byt (bys s) (p + 2)) (byt (bys s) (p + 3)) := by
    unfold runeAt
    rw [if_neg (by omega)]
    show runeL ((bys s).drop p) = _
    unfold runeL
    rw [byB_drop, byB_drop, byB_drop, byB_drop, byB_byt, byB_byt, byB_byt, byB_byt, List.length_drop, bys_len, Nat.add_zero, hB]
  rw [runeN_F1 _ _ _ _ _ (by omega) (by omega)] at hR
  have hl := bys_len s
  obtain ⟨x1, hx1⟩ : ∃ x, x = inB (bys s) (p + 1) 128 191 := ⟨_, rfl⟩
  rw [← hx1] at W1
  obtain ⟨x2, hx2⟩ : ∃ x, x = inB (bys s) (p + 2) 128 191 := ⟨_, rfl⟩
  rw [← hx2] at W2
  obtain ⟨x3, hx3⟩ : ∃ x, x = inB (bys s) (p + 3) 128 191 := ⟨_, rfl⟩
  rw [← hx3] at W3
  have hV : runeAt s (p : Int) = (if x1 = true ∧ x2 = true ∧ x3 = true then 4 else 0 : Nat) := by
    rw [hR]
    unfold inB at hx1
    unfold inB at hx2
    unfold inB at hx3
    have q : (x1 = true ∧ x2 = true ∧ x3 = true) ↔ (((p + 1) < (bys s).length ∧ 128 ≤ byt (bys s) (p + 1) ∧ byt (bys s) (p + 1) ≤ 191) ∧ ((p + 2) < (bys s).length ∧ 128 ≤ byt (bys s) (p + 2) ∧ byt (bys s) (p + 2) ≤ 191) ∧ ((p + 3) < (bys s).length ∧ 128 ≤ byt (bys s) (p + 3) ∧ byt (bys s) (p + 3) ≤ 191)) := by rw [hx1, hx2, hx3]; simp only [decide_eq_true_eq]
    by_cases hq : x1 = true ∧ x2 = true ∧ x3 = true
    · have := q.1 hq
      rw [if_pos hq, if_neg (by omega)]
    · have : ¬ (((p + 1) < (bys s).length ∧ 128 ≤ byt (bys s) (p + 1) ∧ byt (bys s) (p + 1) ≤ 191) ∧ ((p + 2) < (bys s).length ∧ 128 ≤ byt (bys s) (p + 2) ∧ byt (bys s) (p + 2) ≤ 191) ∧ ((p + 3) < (bys s).length ∧ 128 ≤ byt (bys s) (p + 3) ∧ byt (bys s) (p + 3) ≤ 191)) := fun h => hq (q.2 h)
      rw [if_neg hq, if_pos (by omega)]
  rw [hV]
  clear hR hV hl hx1 hx2 hx3
  clear hB hc
  cases x1
  · rw [if_neg (by simp)]
    go_enter Tryd.func17, Tryd.ntmps17
    go_wp2_with fail
    refine (W1.out _).mono ?_
    rintro e w1 ⟨rfl, rfl⟩
    go_wp2_with fail
    refine (W2.out _).mono ?_
    rintro e w2 ⟨rfl, rfl⟩
    go_wp2_with fail
    refine (W3.out _).mono ?_
    rintro e w3 ⟨rfl, rfl⟩
    go_wp2
    go_ret
    exact ⟨rfl, rfl⟩
  · skip
    cases x2
    · rw [if_neg (by simp)]
      go_enter Tryd.func17, Tryd.ntmps17
      go_wp2_with fail
      refine (W1.out _).mono ?_
      rintro e w1 ⟨rfl, rfl⟩
      go_wp2_with fail
      refine (W2.out _).mono ?_
      rintro e w2 ⟨rfl, rfl⟩
      go_wp2_with fail
      refine (W3.out _).mono ?_
      rintro e w3 ⟨rfl, rfl⟩
      go_wp2
      go_ret
      exact ⟨rfl, rfl⟩
    · skip
      cases x3
      · rw [if_neg (by simp)]
        go_enter Tryd.func17, Tryd.ntmps17
        go_wp2_with fail
        refine (W1.out _).mono ?_
        rintro e w1 ⟨rfl, rfl⟩
        go_wp2_with fail
        refine (W2.out _).mono ?_
        rintro e w2 ⟨rfl, rfl⟩
        go_wp2_with fail
        refine (W3.out _).mono ?_
        rintro e w3 ⟨rfl, rfl⟩
        go_wp2
        go_ret
        exact ⟨rfl, rfl⟩
      · skip
        rw [if_pos (by simp)]
        go_enter Tryd.func17, Tryd.ntmps17
        go_wp2_with fail
        refine (W1.out _).mono ?_
        rintro e w1 ⟨rfl, rfl⟩
        go_wp2_with fail
        refine (W2.out _).mono ?_
        rintro e w2 ⟨rfl, rfl⟩
        go_wp2_with fail
        refine (W3.out _).mono ?_
        rintro e w3 ⟨rfl, rfl⟩
        go_wp2
        go_ret
        exact ⟨rfl, rfl⟩

set_option maxRecDepth 100000 in
set_option maxHeartbeats 2000000 in
theorem rr_F4 (s : ByteArray) (p B : Nat) (w : World) (hs : s.size ≤ 140737488355328) (hp : p < s.size) (hB : byt (bys s) p = B) (hc : B = 244) : Calls Tryd.prog 17 #[.string s, .int .i64 (p : Int)] w fun e w' => e = .returned (.int .i64 ((runeAt s (p : Int) : Nat) : Int)) ∧ w = w' := by
  have hp' : (p : Int) < (s.size : Int) := by omega
  have hg : ∀ h : p < s.size, s[p].toNat = B := fun h => (byt_get s p h).trans hB
  have hb2 : B < 256 := by rw [← hB]; exact byt_lt _ _
  have W1 : Hid (∀ X, Calls Tryd.prog 31 #[.string s, .int .i64 ((p : Int) + 1), .int .i64 128, .int .i64 191] X fun e w' => e = .returned (.bool (inB (bys s) (p + 1) 128 191)) ∧ X = w') := fun X => by have := within_any s (p + 1) 128 191 X; simpa using this
  have W2 : Hid (∀ X, Calls Tryd.prog 31 #[.string s, .int .i64 ((p : Int) + 2), .int .i64 128, .int .i64 191] X fun e w' => e = .returned (.bool (inB (bys s) (p + 2) 128 191)) ∧ X = w') := fun X => by have := within_any s (p + 2) 128 191 X; simpa using this
  have W3 : Hid (∀ X, Calls Tryd.prog 31 #[.string s, .int .i64 ((p : Int) + 3), .int .i64 128, .int .i64 191] X fun e w' => e = .returned (.bool (inB (bys s) (p + 3) 128 191)) ∧ X = w') := fun X => by have := within_any s (p + 3) 128 191 X; simpa using this
  have W4 : Hid (∀ X, Calls Tryd.prog 31 #[.string s, .int .i64 ((p : Int) + 1), .int .i64 128, .int .i64 143] X fun e w' => e = .returned (.bool (inB (bys s) (p + 1) 128 143)) ∧ X = w') := fun X => by have := within_any s (p + 1) 128 143 X; simpa using this
  have ta : ¬ (B : Int) < 128 := by omega
  have tb : 194 ≤ (B : Int) := by omega
  have tc : ¬ (B : Int) ≤ 223 := by omega
  have td : ¬ (B : Int) = 224 := by omega
  have te : 225 ≤ (B : Int) := by omega
  have tf : ¬ (B : Int) ≤ 236 := by omega
  have tg : ¬ (B : Int) = 238 := by omega
  have th : ¬ (B : Int) = 239 := by omega
  have ti : ¬ (B : Int) = 237 := by omega
  have tj : ¬ (B : Int) = 240 := by omega
  have tk : 241 ≤ (B : Int) := by omega
  have tl : ¬ (B : Int) ≤ 243 := by omega
  have tm : (B : Int) = 244 := by omega
  have hR : runeAt s (p : Int) = runeN (s.size - p) B (byt (bys s) (p + 1)) (byt (bys s) (p + 2)) (byt (bys s) (p + 3)) := by
    unfold runeAt
    rw [if_neg (by omega)]
    show runeL ((bys s).drop p) = _
    unfold runeL
    rw [byB_drop, byB_drop, byB_drop, byB_drop, byB_byt, byB_byt, byB_byt, byB_byt, List.length_drop, bys_len, Nat.add_zero, hB]
  rw [runeN_F4 _ _ _ _ _ (by omega) (by omega)] at hR
  have hl := bys_len s
  obtain ⟨x1, hx1⟩ : ∃ x, x = inB (bys s) (p + 1) 128 191 := ⟨_, rfl⟩
  rw [← hx1] at W1
  obtain ⟨x2, hx2⟩ : ∃ x, x = inB (bys s) (p + 2) 128 191 := ⟨_, rfl⟩
  rw [← hx2] at W2
  obtain ⟨x3, hx3⟩ : ∃ x, x = inB (bys s) (p + 3) 128 191 := ⟨_, rfl⟩
  rw [← hx3] at W3
  obtain ⟨x4, hx4⟩ : ∃ x, x = inB (bys s) (p + 1) 128 143 := ⟨_, rfl⟩
  rw [← hx4] at W4
  have hV : runeAt s (p : Int) = (if x4 = true ∧ x2 = true ∧ x3 = true then 4 else 0 : Nat) := by
    rw [hR]
    unfold inB at hx4
    unfold inB at hx2
    unfold inB at hx3
    have q : (x4 = true ∧ x2 = true ∧ x3 = true) ↔ (((p + 1) < (bys s).length ∧ 128 ≤ byt (bys s) (p + 1) ∧ byt (bys s) (p + 1) ≤ 143) ∧ ((p + 2) < (bys s).length ∧ 128 ≤ byt (bys s) (p + 2) ∧ byt (bys s) (p + 2) ≤ 191) ∧ ((p + 3) < (bys s).length ∧ 128 ≤ byt (bys s) (p + 3) ∧ byt (bys s) (p + 3) ≤ 191)) := by rw [hx4, hx2, hx3]; simp only [decide_eq_true_eq]
    by_cases hq : x4 = true ∧ x2 = true ∧ x3 = true
    · have := q.1 hq
      rw [if_pos hq, if_neg (by omega)]
    · have : ¬ (((p + 1) < (bys s).length ∧ 128 ≤ byt (bys s) (p + 1) ∧ byt (bys s) (p + 1) ≤ 143) ∧ ((p + 2) < (bys s).length ∧ 128 ≤ byt (bys s) (p + 2) ∧ byt (bys s) (p + 2) ≤ 191) ∧ ((p + 3) < (bys s).length ∧ 128 ≤ byt (bys s) (p + 3) ∧ byt (bys s) (p + 3) ≤ 191)) := fun h => hq (q.2 h)
      rw [if_neg hq, if_pos (by omega)]
  rw [hV]
  clear hR hV hl hx1 hx2 hx3 hx4
  clear hB hc
  cases x4
  · rw [if_neg (by simp)]
    go_enter Tryd.func17, Tryd.ntmps17
    go_wp2_with fail
    refine (W1.out _).mono ?_
    rintro e w1 ⟨rfl, rfl⟩
    go_wp2_with fail
    refine (W2.out _).mono ?_
    rintro e w2 ⟨rfl, rfl⟩
    go_wp2_with fail
    refine (W3.out _).mono ?_
    rintro e w3 ⟨rfl, rfl⟩
    go_wp2_with fail
    refine (W4.out _).mono ?_
    rintro e w4 ⟨rfl, rfl⟩
    go_wp2
    go_ret
    exact ⟨rfl, rfl⟩
  · skip
    cases x2
    · rw [if_neg (by simp)]
      go_enter Tryd.func17, Tryd.ntmps17
      go_wp2_with fail
      refine (W1.out _).mono ?_
      rintro e w1 ⟨rfl, rfl⟩
      go_wp2_with fail
      refine (W2.out _).mono ?_
      rintro e w2 ⟨rfl, rfl⟩
      go_wp2_with fail
      refine (W3.out _).mono ?_
      rintro e w3 ⟨rfl, rfl⟩
      go_wp2_with fail
      refine (W4.out _).mono ?_
      rintro e w4 ⟨rfl, rfl⟩
      go_wp2
      go_ret
      exact ⟨rfl, rfl⟩
    · skip
      cases x3
      · rw [if_neg (by simp)]
        go_enter Tryd.func17, Tryd.ntmps17
        go_wp2_with fail
        refine (W1.out _).mono ?_
        rintro e w1 ⟨rfl, rfl⟩
        go_wp2_with fail
        refine (W2.out _).mono ?_
        rintro e w2 ⟨rfl, rfl⟩
        go_wp2_with fail
        refine (W3.out _).mono ?_
        rintro e w3 ⟨rfl, rfl⟩
        go_wp2_with fail
        refine (W4.out _).mono ?_
        rintro e w4 ⟨rfl, rfl⟩
        go_wp2
        go_ret
        exact ⟨rfl, rfl⟩
      · skip
        rw [if_pos (by simp)]
        go_enter Tryd.func17, Tryd.ntmps17
        go_wp2_with fail
        refine (W1.out _).mono ?_
        rintro e w1 ⟨rfl, rfl⟩
        go_wp2_with fail
        refine (W2.out _).mono ?_
        rintro e w2 ⟨rfl, rfl⟩
        go_wp2_with fail
        refine (W3.out _).mono ?_
        rintro e w3 ⟨rfl, rfl⟩
        go_wp2_with fail
        refine (W4.out _).mono ?_
        rintro e w4 ⟨rfl, rfl⟩
        go_wp2
        go_ret
        exact ⟨rfl, rfl⟩

set_option maxRecDepth 100000 in
set_option maxHeartbeats 2000000 in
theorem rr_Na (s : ByteArray) (p B : Nat) (w : World) (hs : s.size ≤ 140737488355328) (hp : p < s.size) (hB : byt (bys s) p = B) (hc : 128 ≤ B ∧ B < 194) : Calls Tryd.prog 17 #[.string s, .int .i64 (p : Int)] w fun e w' => e = .returned (.int .i64 ((runeAt s (p : Int) : Nat) : Int)) ∧ w = w' := by
  have hp' : (p : Int) < (s.size : Int) := by omega
  have hg : ∀ h : p < s.size, s[p].toNat = B := fun h => (byt_get s p h).trans hB
  have hb2 : B < 256 := by rw [← hB]; exact byt_lt _ _
  have W1 : Hid (∀ X, Calls Tryd.prog 31 #[.string s, .int .i64 ((p : Int) + 1), .int .i64 128, .int .i64 191] X fun e w' => e = .returned (.bool (inB (bys s) (p + 1) 128 191)) ∧ X = w') := fun X => by have := within_any s (p + 1) 128 191 X; simpa using this
  have W2 : Hid (∀ X, Calls Tryd.prog 31 #[.string s, .int .i64 ((p : Int) + 2), .int .i64 128, .int .i64 191] X fun e w' => e = .returned (.bool (inB (bys s) (p + 2) 128 191)) ∧ X = w') := fun X => by have := within_any s (p + 2) 128 191 X; simpa using this
  have W3 : Hid (∀ X, Calls Tryd.prog 31 #[.string s, .int .i64 ((p : Int) + 3), .int .i64 128, .int .i64 191] X fun e w' => e = .returned (.bool (inB (bys s) (p + 3) 128 191)) ∧ X = w') := fun X => by have := within_any s (p + 3) 128 191 X; simpa using this
  have ta : ¬ (B : Int) < 128 := by omega
  have tb : ¬ 194 ≤ (B : Int) := by omega
  have td : ¬ (B : Int) = 224 := by omega
  have te : ¬ 225 ≤ (B : Int) := by omega
  have tg : ¬ (B : Int) = 238 := by omega
  have th : ¬ (B : Int) = 239 := by omega
  have ti : ¬ (B : Int) = 237 := by omega
  have tj : ¬ (B : Int) = 240 := by omega
  have tk : ¬ 241 ≤ (B : Int) := by omega
  have tm : ¬ (B : Int) = 244 := by omega
  have hR : runeAt s (p : Int) = runeN (s.size - p) B (byt (bys s) (p + 1)) (byt (bys s) (p + 2)) (byt (bys s) (p + 3)) := by
    unfold runeAt
    rw [if_neg (by omega)]
    show runeL ((bys s).drop p) = _
    unfold runeL
    rw [byB_drop, byB_drop, byB_drop, byB_drop, byB_byt, byB_byt, byB_byt, byB_byt, List.length_drop, bys_len, Nat.add_zero, hB]
  rw [runeN_No _ _ _ _ _ (by omega) (by omega)] at hR
  rw [hR]
  clear hR
  clear hB hc
  go_enter Tryd.func17, Tryd.ntmps17
  go_wp2_with fail
  refine (W1.out _).mono ?_
  rintro e w1 ⟨rfl, rfl⟩
  go_wp2_with fail
  refine (W2.out _).mono ?_
  rintro e w2 ⟨rfl, rfl⟩
  go_wp2_with fail
  refine (W3.out _).mono ?_
  rintro e w3 ⟨rfl, rfl⟩
  go_wp2
  go_ret
  exact ⟨rfl, rfl⟩

set_option maxRecDepth 100000 in
set_option maxHeartbeats 2000000 in
theorem rr_Nb (s : ByteArray) (p B : Nat) (w : World) (hs : s.size ≤ 140737488355328) (hp : p < s.size) (hB : byt (bys s) p = B) (hc : 244 < B) : Calls Tryd.prog 17 #[.string s, .int .i64 (p : Int)] w fun e w' => e = .returned (.int .i64 ((runeAt s (p : Int) : Nat) : Int)) ∧ w = w' := by
  have hp' : (p : Int) < (s.size : Int) := by omega
  have hg : ∀ h : p < s.size, s[p].toNat = B := fun h => (byt_get s p h).trans hB
  have hb2 : B < 256 := by rw [← hB]; exact byt_lt _ _
  have W1 : Hid (∀ X, Calls Tryd.prog 31 #[.string s, .int .i64 ((p : Int) + 1), .int .i64 128, .int .i64 191] X fun e w' => e = .returned (.bool (inB (bys s) (p + 1) 128 191)) ∧ X = w') := fun X => by have := within_any s (p + 1) 128 191 X; simpa using this
  have W2 : Hid (∀ X, Calls Tryd.prog 31 #[.string s, .int .i64 ((p : Int) + 2), .int .i64 128, .int .i64 191] X fun e w' => e = .returned (.bool (inB (bys s) (p + 2) 128 191)) ∧ X = w') := fun X => by have := within_any s (p + 2) 128 191 X; simpa using this
  have W3 : Hid (∀ X, Calls Tryd.prog 31 #[.string s, .int .i64 ((p : Int) + 3), .int .i64 128, .int .i64 191] X fun e w' => e = .returned (.bool (inB (bys s) (p + 3) 128 191)) ∧ X = w') := fun X => by have := within_any s (p + 3) 128 191 X; simpa using this
  have ta : ¬ (B : Int) < 128 := by omega
  have tb : 194 ≤ (B : Int) := by omega
  have tc : ¬ (B : Int) ≤ 223 := by omega
  have td : ¬ (B : Int) = 224 := by omega
  have te : 225 ≤ (B : Int) := by omega
  have tf : ¬ (B : Int) ≤ 236 := by omega
  have tg : ¬ (B : Int) = 238 := by omega
  have th : ¬ (B : Int) = 239 := by omega
  have ti : ¬ (B : Int) = 237 := by omega
  have tj : ¬ (B : Int) = 240 := by omega
  have tk : 241 ≤ (B : Int) := by omega
  have tl : ¬ (B : Int) ≤ 243 := by omega
  have tm : ¬ (B : Int) = 244 := by omega
  have hR : runeAt s (p : Int) = runeN (s.size - p) B (byt (bys s) (p + 1)) (byt (bys s) (p + 2)) (byt (bys s) (p + 3)) := by
    unfold runeAt
    rw [if_neg (by omega)]
    show runeL ((bys s).drop p) = _
    unfold runeL
    rw [byB_drop, byB_drop, byB_drop, byB_drop, byB_byt, byB_byt, byB_byt, byB_byt, List.length_drop, bys_len, Nat.add_zero, hB]
  rw [runeN_No _ _ _ _ _ (by omega) (by omega)] at hR
  rw [hR]
  clear hR
  clear hB hc
  go_enter Tryd.func17, Tryd.ntmps17
  go_wp2_with fail
  refine (W1.out _).mono ?_
  rintro e w1 ⟨rfl, rfl⟩
  go_wp2_with fail
  refine (W2.out _).mono ?_
  rintro e w2 ⟨rfl, rfl⟩
  go_wp2_with fail
  refine (W3.out _).mono ?_
  rintro e w3 ⟨rfl, rfl⟩
  go_wp2
  go_ret
  exact ⟨rfl, rfl⟩

end Go.Proofs.YthknmkebdlnahaaDoor

namespace Go.Proofs.YthknmkebdlnahaaDoor
open Go.RowKit Go.Lib

theorem rRune_any (s : ByteArray) (i : Int) (w : World) (hs : s.size ≤ 140737488355328) : Calls Tryd.prog 17 #[.string s, .int .i64 i] w fun e w' => e = .returned (.int .i64 ((runeAt s i : Nat) : Int)) ∧ w = w' := by
  by_cases h0 : i < 0
  · have e : runeAt s i = 0 := by unfold runeAt; rw [if_pos (.inl h0)]
    rw [e]
    go_enter Tryd.func17, Tryd.ntmps17
    go_wp2
    go_ret
    exact ⟨rfl, rfl⟩
  by_cases h1 : (s.size : Int) ≤ i
  · have e : runeAt s i = 0 := by unfold runeAt; rw [if_pos (.inr h1)]
    rw [e]
    go_enter Tryd.func17, Tryd.ntmps17
    go_wp2
    go_ret
    exact ⟨rfl, rfl⟩
  obtain ⟨p, rfl⟩ : ∃ p : Nat, i = (p : Int) := ⟨i.toNat, by omega⟩
  have hp : p < s.size := by omega
  obtain ⟨B, hB⟩ : ∃ B, byt (bys s) p = B := ⟨_, rfl⟩
  by_cases cAs : B < 128
  · exact rr_As s p B w hs hp hB cAs
  by_cases cC2 : 194 ≤ B ∧ B ≤ 223
  · exact rr_C2 s p B w hs hp hB cC2
  by_cases cE0 : B = 224
  · exact rr_E0 s p B w hs hp hB cE0
  by_cases cE1a : 225 ≤ B ∧ B ≤ 236
  · exact rr_E1a s p B w hs hp hB cE1a
  by_cases cE1b : B = 238
  · exact rr_E1b s p B w hs hp hB cE1b
  by_cases cE1c : B = 239
  · exact rr_E1c s p B w hs hp hB cE1c
  by_cases cED : B = 237
  · exact rr_ED s p B w hs hp hB cED
  by_cases cF0 : B = 240
  · exact rr_F0 s p B w hs hp hB cF0
  by_cases cF1 : 241 ≤ B ∧ B ≤ 243
  · exact rr_F1 s p B w hs hp hB cF1
  by_cases cF4 : B = 244
  · exact rr_F4 s p B w hs hp hB cF4
  by_cases cNa : 128 ≤ B ∧ B < 194
  · exact rr_Na s p B w hs hp hB cNa
  have hb2 : B < 256 := by rw [← hB]; exact byt_lt _ _
  exact rr_Nb s p B w hs hp hB (by omega)
end Go.Proofs.YthknmkebdlnahaaDoor

namespace Go.Proofs.YthknmkebdlnahaaDoor
open Go.RowKit

theorem runeAt_in (s : ByteArray) (p : Nat) (h : p < s.size) : runeAt s (p : Int) = runeL ((bys s).drop p) := by
  unfold runeAt
  rw [if_neg (by omega)]
  rfl

set_option maxHeartbeats 1000000 in
theorem rRunes_any (s : ByteArray) (w : World) (hs : s.size ≤ 140737488355328) : Calls Tryd.prog 15 #[.string s] w fun e w' => e = .returned (.int .i64 (runesI (bys s))) ∧ w = w' := by
  have HR : Hid (∀ (q : Nat) X, Calls Tryd.prog 17 #[.string s, .int .i64 (q : Int)] X fun e w' => e = .returned (.int .i64 ((runeAt s (q : Int) : Nat) : Int)) ∧ X = w') := fun q X => rRune_any s q X hs
  have HL := hide (bys_len s)
  go_enter Tryd.func15, Tryd.ntmps15
  go_wp2
  go_loopw [3, 4] (fun a b wr => ∃ n q : Nat, q ≤ s.size ∧ n ≤ q ∧ a = .int .i64 (n : Int) ∧ b = .int .i64 (q : Int) ∧ wr = w ∧ Hid (runesL (bys s) = (runesL ((bys s).drop q)).map (· + n))) (fun _ b _ => s.size - (intOf b).toNat)
  case atStart => exact ⟨0, 0, Nat.zero_le _, Nat.le_refl _, rfl, rfl, rfl, hide (by rw [List.drop_zero]; cases runesL (bys s) <;> rfl)⟩
  case round =>
    obtain ⟨n, q, hq, hn, rfl, rfl, hw, hE⟩ := hrel
    subst hw
    by_cases hlt : q < s.size
    · have hlt' : (q : Int) < (s.size : Int) := by omega
      have hne : (bys s).drop q ≠ [] := by
        intro e
        have h1 := congrArg List.length e
        rw [List.length_drop, HL.out, List.length_nil] at h1
        omega
      have hst := runesL_step _ hne
      have hle := (runeL_le ((bys s).drop q)).1
      rw [List.length_drop, HL.out] at hle
      have HQ := hide (HR.out q wr)
      rw [runeAt_in s q hlt] at HQ
      clear HR
      by_cases h0 : runeL ((bys s).drop q) = 0
      · rw [h0] at HQ
        rw [if_pos h0] at hst
        have HI : Hid (runesI (bys s) = -1) := hide (by unfold runesI; rw [hE.out, hst]; rfl)
        clear hE hst hne hle h0
        go_wp2_with fail
        refine HQ.out.mono ?_
        rintro e w1 ⟨rfl, rfl⟩
        go_wp2
        go_ret
        exact ⟨by rw [HI.out]; rfl, rfl⟩
      · rw [if_neg h0] at hst
        have hE2 : Hid (runesL (bys s) = (runesL ((bys s).drop (q + runeL ((bys s).drop q)))).map (· + (n + 1))) := hide (by
          rw [hE.out, hst, List.drop_drop]
          cases runesL ((bys s).drop (q + runeL ((bys s).drop q))) with
          | none => rfl
          | some x => show some (x + 1 + n) = some (x + (n + 1)); congr 1; omega)
        clear hE hst hne
        generalize runeL ((bys s).drop q) = K at *
        have h0' : ¬ (K : Int) = 0 := by omega
        go_wp2_with fail
        refine HQ.out.mono ?_
        rintro e w1 ⟨rfl, rfl⟩
        go_wp2
        exact ⟨⟨n + 1, q + K, by omega, by omega, by go_num, by go_num, trivial, hE2⟩, by simp [intOf]; omega⟩
    · have hlt' : ¬ (q : Int) < (s.size : Int) := by omega
      have HI : Hid (runesI (bys s) = (n : Int)) := hide (by
        unfold runesI
        rw [hE.out, List.drop_eq_nil_of_le (by rw [HL.out]; omega), runesL_nil]
        show ((0 + n : Nat) : Int) = _
        omega)
      clear hE HR
      go_wp2
      go_ret
      exact ⟨by rw [HI.out]; rfl, rfl⟩

theorem Blk.setL {w : World} {b i : Nat} {cs : Array Value} {t : TypeId} (h : Blk w b cs t) (v : Value) : Blk (w.setCell ⟨b, i, none⟩ v) b (cs.setIfInBounds i v) t := by
  unfold Blk at *
  simp only [World.setCell, Array.getElem?_modify, if_true, h, Option.map_some]
  rfl


def rcel1 (n : Int) : Nat → Array Value
  | 0 => #[.int .u8 0]
  | _ => #[.int .u8 ((bN n 0).toNat : Int)]

theorem mk1 (w : World) : (Instr.makeSlice 34 (.int .i64 1) (.int .i64 1)).run Tryd.prog w = .ok (.slice (some ⟨w.heap.size, 0, none⟩) 1 1) (w.alloc (.cells #[.int .u8 0] 5)) := by kernel_rfl

set_option maxHeartbeats 2000000 in
theorem rPut1 (n : Int) (w : World) : Calls Tryd.prog 11 #[.int .i64 n, .int .i64 1] w fun e w' => e = .returned (.string ⟨#[bN n 0]⟩) ∧ Below w.heap.size w w' := by

  have hb0 : n % 256 = (((bN n 0).toNat : Nat) : Int) := by rw [bN_nat]; simp
  have hmk := mk1 w
  go_enter Tryd.func11, Tryd.ntmps11
  go_wp2
  clear hmk
  have HB0 : Hid (Below w.heap.size w (w.alloc (.cells #[.int .u8 0] 5))) := (Below.refl _ _).alloc (Nat.le_refl _) _
  have HQ0 : Hid (Blk (w.alloc (.cells #[.int .u8 0] 5)) w.heap.size (rcel1 n 0) 5) := Blk.new _ _ _
  go_loopw [6] (fun a wr => ∃ i : Nat, i ≤ 1 ∧ a = .int .i64 (i : Int) ∧ Hid (Blk wr w.heap.size (rcel1 n i) 5) ∧ Hid (Below w.heap.size w wr)) (fun a _ => 1 - (intOf a).toNat)
  case atStart => exact ⟨0, Nat.zero_le _, rfl, HQ0, HB0⟩
  case round =>
    obtain ⟨i, hi, rfl, Q, HB⟩ := hrel
    clear HQ0 HB0
    by_cases hlt : i < 1
    · have hcs : i = 0 := by omega
      obtain rfl := hcs
      have c0 : wr.cell? ⟨w.heap.size, 0, none⟩ = some (.int .u8 0) := Q.out.cell 0
      have f0 := Q.out.free 0
      have Q2 : Hid (Blk (wr.setCell ⟨w.heap.size, 0, none⟩ (.int .u8 ((bN n 0).toNat : Int))) w.heap.size (rcel1 n 1) 5) := hide (Q.out.setL _)
      have HB2 : Hid (Below w.heap.size w (wr.setCell ⟨w.heap.size, 0, none⟩ (.int .u8 ((bN n 0).toNat : Int)))) := hide (HB.out.setCell (p := ⟨w.heap.size, 0, none⟩) (Nat.le_refl _) _)
      clear Q HB
      go_wp2
      exact ⟨⟨1, by omega, rfl, Q2, HB2⟩, by simp [intOf]⟩
    · obtain rfl : i = 1 := by omega
      have hcv : (convert 34 9 (.slice (some ⟨w.heap.size, 0, none⟩) 1 1)).run Tryd.prog wr = .ok (.string ⟨#[bN n 0]⟩) wr :=
        convB_at (l := [bN n 0]) (fun i hi => by
          have hc := Q.out.cell i
          rw [Nat.zero_add, hc]
          have : i = 0 := by simp at hi; omega
          obtain rfl := this; rfl)
      clear Q
      go_wp2
      go_ret
      exact ⟨rfl, HB.out⟩

def rcel2 (n : Int) : Nat → Array Value
  | 0 => #[.int .u8 0, .int .u8 0]
  | 1 => #[.int .u8 ((bN n 1).toNat : Int), .int .u8 0]
  | _ => #[.int .u8 ((bN n 1).toNat : Int), .int .u8 ((bN n 0).toNat : Int)]

theorem mk2 (w : World) : (Instr.makeSlice 34 (.int .i64 2) (.int .i64 2)).run Tryd.prog w = .ok (.slice (some ⟨w.heap.size, 0, none⟩) 2 2) (w.alloc (.cells #[.int .u8 0, .int .u8 0] 5)) := by kernel_rfl

set_option maxHeartbeats 2000000 in
theorem rPut2 (n : Int) (w : World) : Calls Tryd.prog 11 #[.int .i64 n, .int .i64 2] w fun e w' => e = .returned (.string ⟨#[bN n 1, bN n 0]⟩) ∧ Below w.heap.size w w' := by

  have hb0 : n % 256 = (((bN n 0).toNat : Nat) : Int) := by rw [bN_nat]; simp
  have hb1 : (n / 256) % 256 = (((bN n 1).toNat : Nat) : Int) := by rw [bN_nat]; rfl
  have hmk := mk2 w
  go_enter Tryd.func11, Tryd.ntmps11
  go_wp2
  clear hmk
  have HB0 : Hid (Below w.heap.size w (w.alloc (.cells #[.int .u8 0, .int .u8 0] 5))) := (Below.refl _ _).alloc (Nat.le_refl _) _
  have HQ0 : Hid (Blk (w.alloc (.cells #[.int .u8 0, .int .u8 0] 5)) w.heap.size (rcel2 n 0) 5) := Blk.new _ _ _
  go_loopw [6] (fun a wr => ∃ i : Nat, i ≤ 2 ∧ a = .int .i64 (i : Int) ∧ Hid (Blk wr w.heap.size (rcel2 n i) 5) ∧ Hid (Below w.heap.size w wr)) (fun a _ => 2 - (intOf a).toNat)
  case atStart => exact ⟨0, Nat.zero_le _, rfl, HQ0, HB0⟩
  case round =>
    obtain ⟨i, hi, rfl, Q, HB⟩ := hrel
    clear HQ0 HB0
    by_cases hlt : i < 2
    · have hcs : i = 0 ∨ i = 1 := by omega
      rcases hcs with rfl | rfl
      · have c0 : wr.cell? ⟨w.heap.size, 0, none⟩ = some (.int .u8 0) := Q.out.cell 0
        have f0 := Q.out.free 0
        have Q2 : Hid (Blk (wr.setCell ⟨w.heap.size, 0, none⟩ (.int .u8 ((bN n 1).toNat : Int))) w.heap.size (rcel2 n 1) 5) := hide (Q.out.setL _)
        have HB2 : Hid (Below w.heap.size w (wr.setCell ⟨w.heap.size, 0, none⟩ (.int .u8 ((bN n 1).toNat : Int)))) := hide (HB.out.setCell (p := ⟨w.heap.size, 0, none⟩) (Nat.le_refl _) _)
        clear Q HB
        go_wp2
        exact ⟨⟨1, by omega, rfl, Q2, HB2⟩, by simp [intOf]⟩
      · have c0 : wr.cell? ⟨w.heap.size, 1, none⟩ = some (.int .u8 0) := Q.out.cell 1
        have f0 := Q.out.free 1
        have Q2 : Hid (Blk (wr.setCell ⟨w.heap.size, 1, none⟩ (.int .u8 ((bN n 0).toNat : Int))) w.heap.size (rcel2 n 2) 5) := hide (Q.out.setL _)
        have HB2 : Hid (Below w.heap.size w (wr.setCell ⟨w.heap.size, 1, none⟩ (.int .u8 ((bN n 0).toNat : Int)))) := hide (HB.out.setCell (p := ⟨w.heap.size, 1, none⟩) (Nat.le_refl _) _)
        clear Q HB
        go_wp2
        exact ⟨⟨2, by omega, rfl, Q2, HB2⟩, by simp [intOf]⟩
    · obtain rfl : i = 2 := by omega
      have hcv : (convert 34 9 (.slice (some ⟨w.heap.size, 0, none⟩) 2 2)).run Tryd.prog wr = .ok (.string ⟨#[bN n 1, bN n 0]⟩) wr :=
        convB_at (l := [bN n 1, bN n 0]) (fun i hi => by
          have hc := Q.out.cell i
          rw [Nat.zero_add, hc]
          have : i = 0 ∨ i = 1 := by simp at hi; omega
          rcases this with rfl | rfl <;> rfl)
      clear Q
      go_wp2
      go_ret
      exact ⟨rfl, HB.out⟩

def rcel4 (n : Int) : Nat → Array Value
  | 0 => #[.int .u8 0, .int .u8 0, .int .u8 0, .int .u8 0]
  | 1 => #[.int .u8 ((bN n 3).toNat : Int), .int .u8 0, .int .u8 0, .int .u8 0]
  | 2 => #[.int .u8 ((bN n 3).toNat : Int), .int .u8 ((bN n 2).toNat : Int), .int .u8 0, .int .u8 0]
  | 3 => #[.int .u8 ((bN n 3).toNat : Int), .int .u8 ((bN n 2).toNat : Int), .int .u8 ((bN n 1).toNat : Int), .int .u8 0]
  | _ => #[.int .u8 ((bN n 3).toNat : Int), .int .u8 ((bN n 2).toNat : Int), .int .u8 ((bN n 1).toNat : Int), .int .u8 ((bN n 0).toNat : Int)]

theorem mk4 (w : World) : (Instr.makeSlice 34 (.int .i64 4) (.int .i64 4)).run Tryd.prog w = .ok (.slice (some ⟨w.heap.size, 0, none⟩) 4 4) (w.alloc (.cells #[.int .u8 0, .int .u8 0, .int .u8 0, .int .u8 0] 5)) := by kernel_rfl

set_option maxHeartbeats 2000000 in
theorem rPut4 (n : Int) (w : World) : Calls Tryd.prog 11 #[.int .i64 n, .int .i64 4] w fun e w' => e = .returned (.string ⟨#[bN n 3, bN n 2, bN n 1, bN n 0]⟩) ∧ Below w.heap.size w w' := by

  have hb0 : n % 256 = (((bN n 0).toNat : Nat) : Int) := by rw [bN_nat]; simp
  have hb1 : (n / 256) % 256 = (((bN n 1).toNat : Nat) : Int) := by rw [bN_nat]; rfl
  have hb2 : (n / 65536) % 256 = (((bN n 2).toNat : Nat) : Int) := by rw [bN_nat]; rfl
  have hb3 : (n / 16777216) % 256 = (((bN n 3).toNat : Nat) : Int) := by rw [bN_nat]; rfl
  have hmk := mk4 w
  go_enter Tryd.func11, Tryd.ntmps11
  go_wp2
  clear hmk
  have HB0 : Hid (Below w.heap.size w (w.alloc (.cells #[.int .u8 0, .int .u8 0, .int .u8 0, .int .u8 0] 5))) := (Below.refl _ _).alloc (Nat.le_refl _) _
  have HQ0 : Hid (Blk (w.alloc (.cells #[.int .u8 0, .int .u8 0, .int .u8 0, .int .u8 0] 5)) w.heap.size (rcel4 n 0) 5) := Blk.new _ _ _
  go_loopw [6] (fun a wr => ∃ i : Nat, i ≤ 4 ∧ a = .int .i64 (i : Int) ∧ Hid (Blk wr w.heap.size (rcel4 n i) 5) ∧ Hid (Below w.heap.size w wr)) (fun a _ => 4 - (intOf a).toNat)
  case atStart => exact ⟨0, Nat.zero_le _, rfl, HQ0, HB0⟩
  case round =>
    obtain ⟨i, hi, rfl, Q, HB⟩ := hrel
    clear HQ0 HB0
    by_cases hlt : i < 4
    · have hcs : i = 0 ∨ i = 1 ∨ i = 2 ∨ i = 3 := by omega
      rcases hcs with rfl | rfl | rfl | rfl
      · have c0 : wr.cell? ⟨w.heap.size, 0, none⟩ = some (.int .u8 0) := Q.out.cell 0
        have f0 := Q.out.free 0
        have Q2 : Hid (Blk (wr.setCell ⟨w.heap.size, 0, none⟩ (.int .u8 ((bN n 3).toNat : Int))) w.heap.size (rcel4 n 1) 5) := hide (Q.out.setL _)
        have HB2 : Hid (Below w.heap.size w (wr.setCell ⟨w.heap.size, 0, none⟩ (.int .u8 ((bN n 3).toNat : Int)))) := hide (HB.out.setCell (p := ⟨w.heap.size, 0, none⟩) (Nat.le_refl _) _)
        clear Q HB
        go_wp2
        exact ⟨⟨1, by omega, rfl, Q2, HB2⟩, by simp [intOf]⟩
      · have c0 : wr.cell? ⟨w.heap.size, 1, none⟩ = some (.int .u8 0) := Q.out.cell 1
        have f0 := Q.out.free 1
        have Q2 : Hid (Blk (wr.setCell ⟨w.heap.size, 1, none⟩ (.int .u8 ((bN n 2).toNat : Int))) w.heap.size (rcel4 n 2) 5) := hide (Q.out.setL _)
        have HB2 : Hid (Below w.heap.size w (wr.setCell ⟨w.heap.size, 1, none⟩ (.int .u8 ((bN n 2).toNat : Int)))) := hide (HB.out.setCell (p := ⟨w.heap.size, 1, none⟩) (Nat.le_refl _) _)
        clear Q HB
        go_wp2
        exact ⟨⟨2, by omega, rfl, Q2, HB2⟩, by simp [intOf]⟩
      · have c0 : wr.cell? ⟨w.heap.size, 2, none⟩ = some (.int .u8 0) := Q.out.cell 2
        have f0 := Q.out.free 2
        have Q2 : Hid (Blk (wr.setCell ⟨w.heap.size, 2, none⟩ (.int .u8 ((bN n 1).toNat : Int))) w.heap.size (rcel4 n 3) 5) := hide (Q.out.setL _)
        have HB2 : Hid (Below w.heap.size w (wr.setCell ⟨w.heap.size, 2, none⟩ (.int .u8 ((bN n 1).toNat : Int)))) := hide (HB.out.setCell (p := ⟨w.heap.size, 2, none⟩) (Nat.le_refl _) _)
        clear Q HB
        go_wp2
        exact ⟨⟨3, by omega, rfl, Q2, HB2⟩, by simp [intOf]⟩
      · have c0 : wr.cell? ⟨w.heap.size, 3, none⟩ = some (.int .u8 0) := Q.out.cell 3
        have f0 := Q.out.free 3
        have Q2 : Hid (Blk (wr.setCell ⟨w.heap.size, 3, none⟩ (.int .u8 ((bN n 0).toNat : Int))) w.heap.size (rcel4 n 4) 5) := hide (Q.out.setL _)
        have HB2 : Hid (Below w.heap.size w (wr.setCell ⟨w.heap.size, 3, none⟩ (.int .u8 ((bN n 0).toNat : Int)))) := hide (HB.out.setCell (p := ⟨w.heap.size, 3, none⟩) (Nat.le_refl _) _)
        clear Q HB
        go_wp2
        exact ⟨⟨4, by omega, rfl, Q2, HB2⟩, by simp [intOf]⟩
    · obtain rfl : i = 4 := by omega
      have hcv : (convert 34 9 (.slice (some ⟨w.heap.size, 0, none⟩) 4 4)).run Tryd.prog wr = .ok (.string ⟨#[bN n 3, bN n 2, bN n 1, bN n 0]⟩) wr :=
        convB_at (l := [bN n 3, bN n 2, bN n 1, bN n 0]) (fun i hi => by
          have hc := Q.out.cell i
          rw [Nat.zero_add, hc]
          have : i = 0 ∨ i = 1 ∨ i = 2 ∨ i = 3 := by simp at hi; omega
          rcases this with rfl | rfl | rfl | rfl <;> rfl)
      clear Q
      go_wp2
      go_ret
      exact ⟨rfl, HB.out⟩

set_option maxHeartbeats 1000000 in
theorem rPutText_any (s : ByteArray) (w : World) (hs : s.size ≤ 140737488355328) : Calls Tryd.prog 9 #[.string s] w fun e w' => e = .returned (.tuple #[.string (ptxV s), .int .i64 (ptxE s : Int)]) ∧ Below w.heap.size w w' := by
  by_cases h1 : 1024 < s.size
  · have e1 : ptxE s = 112 := by unfold ptxE; rw [if_pos h1]
    have e2 : ptxV s = ⟨#[]⟩ := by unfold ptxV; rw [e1, if_neg (by decide)]
    rw [e1, e2]
    have h1' : 1024 < (s.size : Int) := by omega
    clear e1 e2
    go_enter Tryd.func9, Tryd.ntmps9
    go_wp2
    go_ret2
    exact ⟨rfl, Below.refl _ _⟩
  have h1' : ¬ 1024 < (s.size : Int) := by omega
  have HV := hide (rRunes_any s w hs)
  cases h2 : runesL (bys s) with
  | none =>
    have e1 : ptxE s = 111 := by unfold ptxE; rw [if_neg h1, if_pos (by rw [h2]; rfl)]
    have e2 : ptxV s = ⟨#[]⟩ := by unfold ptxV; rw [e1, if_neg (by decide)]
    have hi : runesI (bys s) = -1 := by unfold runesI; rw [h2]
    rw [e1, e2]
    rw [hi] at HV
    clear e1 e2 hi
    go_enter Tryd.func9, Tryd.ntmps9
    go_wp2_with fail
    refine HV.out.mono ?_
    rintro e w1 ⟨rfl, rfl⟩
    go_wp2
    go_ret2
    exact ⟨rfl, Below.refl _ _⟩
  | some m =>
    have e1 : ptxE s = 0 := by unfold ptxE; rw [if_neg h1, if_neg (by rw [h2]; simp)]
    have e2 : ptxV s = put2 (s.size : Int) ++ s := by unfold ptxV; rw [e1, if_pos rfl]
    have hi : runesI (bys s) = (m : Int) := by unfold runesI; rw [h2]
    rw [e1, e2]
    rw [hi] at HV
    have hm : ¬ (m : Int) < 0 := by omega
    have HP : Hid (∀ X, Calls Tryd.prog 11 #[.int .i64 (s.size : Int), .int .i64 2] X fun e w' => e = .returned (.string (put2 (s.size : Int))) ∧ Below X.heap.size X w') := fun X => rPut2 _ X
    have hz : ¬ 9223372036854775807 < (put2 (s.size : Int)).size + s.size := by show ¬ _ < 2 + s.size; omega
    generalize put2 (s.size : Int) = A at *
    clear e1 e2 hi
    go_enter Tryd.func9, Tryd.ntmps9
    go_wp2_with fail
    refine HV.out.mono ?_
    rintro e w1 ⟨rfl, rfl⟩
    clear HV
    go_wp2_with fail
    refine (HP.out _).mono ?_
    rintro e w2 ⟨rfl, hb⟩
    clear HP
    go_wp2
    go_ret2
    exact ⟨rfl, hb⟩

end Go.Proofs.YthknmkebdlnahaaDoor

namespace Go.Proofs.YthknmkebdlnahaaDoor
open Go.RowKit

set_option maxRecDepth 100000 in
set_option maxHeartbeats 2000000 in
theorem lays_row (w : World) (hT : U8 w) (n : Int) (s : ByteArray) (hs : s.size ≤ 140737488355328) : Calls Tryd.prog 3 #[.int .i64 n, .string s] w fun e w' => e = .returned (.bool true) ∧ Below w.heap.size w w' := by
  have HT := hide hT
  have HP := hide (PutText_any s w hT)
  have HR : Hid (∀ X, Calls Tryd.prog 9 #[.string s] X fun e w' => e = .returned (.tuple #[.string (ptxV s), .int .i64 (ptxE s : Int)]) ∧ Below X.heap.size X w') := fun X => rPutText_any s X hs
  have H8 : Hid (∀ X, Calls Tryd.prog 10 #[.int .i64 n] X fun e w' => e = .returned (.string ⟨#[bN n 0]⟩) ∧ Below X.heap.size X w') := fun X => Put8_any n X
  have R8 : Hid (∀ X, Calls Tryd.prog 11 #[.int .i64 n, .int .i64 1] X fun e w' => e = .returned (.string ⟨#[bN n 0]⟩) ∧ Below X.heap.size X w') := fun X => rPut1 n X
  have H16 : Hid (∀ X, Calls Tryd.prog 12 #[.int .i64 n] X fun e w' => e = .returned (.string (put2 n)) ∧ Below X.heap.size X w') := fun X => Put16_any n X
  have R16 : Hid (∀ X, Calls Tryd.prog 11 #[.int .i64 n, .int .i64 2] X fun e w' => e = .returned (.string (put2 n)) ∧ Below X.heap.size X w') := fun X => rPut2 n X
  have H32 : Hid (∀ X, Calls Tryd.prog 13 #[.int .i64 n] X fun e w' => e = .returned (.string (put4 n)) ∧ Below X.heap.size X w') := fun X => Put32_any n X
  have R32 : Hid (∀ X, Calls Tryd.prog 11 #[.int .i64 n, .int .i64 4] X fun e w' => e = .returned (.string (put4 n)) ∧ Below X.heap.size X w') := fun X => rPut4 n X
  generalize ptxV s = A at *
  generalize ptxE s = E at *
  generalize (⟨#[bN n 0]⟩ : ByteArray) = B1 at *
  generalize put2 n = B2 at *
  generalize put4 n = B4 at *
  clear hT
  go_enter Tryd.func3, Tryd.ntmps3
  go_wp2_with fail
  refine HP.out.mono ?_
  rintro e w1 ⟨rfl, hb⟩
  have HB1 := hide hb
  clear hb HP
  go_wp2_with fail
  refine (HR.out _).mono ?_
  rintro e w2 ⟨rfl, hb⟩
  have HB2 := hide (HB1.out.trans (hb.mono HB1.out.size))
  clear hb HR HB1
  go_wp2_with fail
  refine (H8.out _).mono ?_
  rintro e w3 ⟨rfl, hb⟩
  have HB3 := hide (HB2.out.trans (hb.mono HB2.out.size))
  clear hb H8 HB2
  go_wp2_with fail
  refine (R8.out _).mono ?_
  rintro e w4 ⟨rfl, hb⟩
  have HB4 := hide (HB3.out.trans (hb.mono HB3.out.size))
  clear hb R8 HB3
  go_wp2_with fail
  refine (H16.out _).mono ?_
  rintro e w5 ⟨rfl, hb⟩
  have HB5 := hide (HB4.out.trans (hb.mono HB4.out.size))
  clear hb H16 HB4
  go_wp2_with fail
  refine (R16.out _).mono ?_
  rintro e w6 ⟨rfl, hb⟩
  have HB6 := hide (HB5.out.trans (hb.mono HB5.out.size))
  clear hb R16 HB5
  go_wp2_with fail
  refine (H32.out _).mono ?_
  rintro e w7 ⟨rfl, hb⟩
  have HB7 := hide (HB6.out.trans (hb.mono HB6.out.size))
  clear hb H32 HB6
  go_wp2_with fail
  refine (R32.out _).mono ?_
  rintro e w8 ⟨rfl, hb⟩
  have HB8 := hide (HB7.out.trans (hb.mono HB7.out.size))
  clear hb R32 HB7
  have HF := hide (fixed_any w8 (HT.out.below HB8.out))
  go_wp2_with fail
  refine HF.out.mono ?_
  rintro e w9 ⟨rfl, hb⟩
  have HB9 := hide (HB8.out.trans (hb.mono HB8.out.size))
  clear hb HF HB8 HT
  go_wp2
  go_ret
  exact ⟨rfl, HB9.out⟩

set_option maxRecDepth 100000 in
set_option maxHeartbeats 2000000 in
theorem runes_row (w : World) (hT : U8 w) (s : ByteArray) (hs : s.size ≤ 140737488355328) (i : Int) : Calls Tryd.prog 4 #[.string s, .int .i64 i] w fun e w' => e = .returned (.bool true) ∧ Below w.heap.size w w' := by
  have HT := hide hT
  have HR := hide (rRunes_any s w hs)
  have H1 := hide (Rune_any s i w hT)
  have H2 : Hid (∀ X, Calls Tryd.prog 17 #[.string s, .int .i64 i] X fun e w' => e = .returned (.int .i64 ((runeAt s i : Nat) : Int)) ∧ X = w') := fun X => rRune_any s i X hs
  have H3 : Hid (∀ X, U8 X → Calls Tryd.prog 18 #[.string s] X fun e w' => e = .returned (.bool (runesL (bys s)).isSome) ∧ Below X.heap.size X w') := fun X hX => Valid_any s X (by omega) hX
  have H4 : Hid (∀ X, U8 X → Calls Tryd.prog 19 #[.string s] X fun e w' => e = .returned (.int .i64 (runesI (bys s))) ∧ Below X.heap.size X w') := fun X hX => Runes_any s X (by omega) hX
  have hv : (runesL (bys s)).isSome = decide (0 ≤ runesI (bys s)) := by
    unfold runesI
    cases runesL (bys s) with
    | none => rfl
    | some n => simp
  rw [hv] at H3
  generalize runesI (bys s) = N at *
  generalize runeAt s i = K at *
  clear hT hv
  have key : ∀ B : Bool, B = decide (0 ≤ N) → Hid (∀ X, U8 X → Calls Tryd.prog 18 #[.string s] X fun e w' => e = .returned (.bool B) ∧ Below X.heap.size X w') → Calls Tryd.prog 4 #[.string s, .int .i64 i] w fun e w' => e = .returned (.bool true) ∧ Below w.heap.size w w' := by
    clear H3
    intro B hB H3
    cases B
    · have hN : ¬ 0 ≤ N := of_decide_eq_false hB.symm
      clear hB
      go_enter Tryd.func4, Tryd.ntmps4
      go_wp2_with fail
      refine HR.out.mono ?_
      rintro e w1 ⟨rfl, rfl⟩
      go_wp2_with fail
      refine H1.out.mono ?_
      rintro e w1 ⟨rfl, hb⟩
      have HB1 := hide hb
      clear hb
      go_wp2_with fail
      refine (H2.out _).mono ?_
      rintro e w2 ⟨rfl, rfl⟩
      go_wp2_with fail
      refine (H3.out _ (HT.out.below HB1.out)).mono ?_
      rintro e w3 ⟨rfl, hb⟩
      have HB3 := hide (HB1.out.trans (hb.mono HB1.out.size))
      clear hb HB1
      go_wp2_with fail
      refine (H4.out _ (HT.out.below HB3.out)).mono ?_
      rintro e w4 ⟨rfl, hb⟩
      have HB4 := hide (HB3.out.trans (hb.mono HB3.out.size))
      clear hb HB3
      have HF := hide (fixed_any w4 (HT.out.below HB4.out))
      go_wp2_with fail
      refine HF.out.mono ?_
      rintro e w9 ⟨rfl, hb⟩
      have HB9 := hide (HB4.out.trans (hb.mono HB4.out.size))
      clear hb HF HB4 HT H1 H2 H3 H4 HR
      go_wp2
      go_ret
      exact ⟨(by show Ending.returned (Value.bool (!decide (0 ≤ N))) = _; rw [decide_eq_false (by omega)]; rfl), HB9.out⟩
    · have hN : 0 ≤ N := of_decide_eq_true hB.symm
      clear hB
      go_enter Tryd.func4, Tryd.ntmps4
      go_wp2_with fail
      refine HR.out.mono ?_
      rintro e w1 ⟨rfl, rfl⟩
      go_wp2_with fail
      refine H1.out.mono ?_
      rintro e w1 ⟨rfl, hb⟩
      have HB1 := hide hb
      clear hb
      go_wp2_with fail
      refine (H2.out _).mono ?_
      rintro e w2 ⟨rfl, rfl⟩
      go_wp2_with fail
      refine (H3.out _ (HT.out.below HB1.out)).mono ?_
      rintro e w3 ⟨rfl, hb⟩
      have HB3 := hide (HB1.out.trans (hb.mono HB1.out.size))
      clear hb HB1
      go_wp2_with fail
      refine (H4.out _ (HT.out.below HB3.out)).mono ?_
      rintro e w4 ⟨rfl, hb⟩
      have HB4 := hide (HB3.out.trans (hb.mono HB3.out.size))
      clear hb HB3
      have HF := hide (fixed_any w4 (HT.out.below HB4.out))
      go_wp2_with fail
      refine HF.out.mono ?_
      rintro e w9 ⟨rfl, hb⟩
      have HB9 := hide (HB4.out.trans (hb.mono HB4.out.size))
      clear hb HF HB4 HT H1 H2 H3 H4 HR
      go_wp2
      go_ret
      exact ⟨rfl, HB9.out⟩
  exact key _ rfl H3

end Go.Proofs.YthknmkebdlnahaaDoor

namespace Go.Proofs.YthknmkebdlnahaaDoor
open Go.RowKit

theorem u8extra : U8Extra Tryd.prog Tryd.lays260_ren := ⟨by kernel_rfl, by kernel_rfl, by kernel_rfl, by kernel_rfl, by kernel_rfl, by kernel_rfl, by kernel_rfl⟩
theorem laid_first : (Rows.laid_unicode_utf8_first : DataW Unit) = Lib.firstData := by kernel_rfl
theorem laid_accept : (Rows.laid_unicode_utf8_acceptRanges : DataW Unit) = Lib.acceptData := by kernel_rfl

theorem table {W : World} (h : laidMetH Tryd.prog [("unicode/utf8.acceptRanges", Rows.laid_unicode_utf8_acceptRanges), ("unicode/utf8.first", Rows.laid_unicode_utf8_first)] W) : U8 W := by
  have h' : laidMet Tryd.prog [("unicode/utf8.acceptRanges", Rows.laid_unicode_utf8_acceptRanges), ("unicode/utf8.first", Rows.laid_unicode_utf8_first)] W := h
  have h3 := Lib.laidMet.reads h' (n := "unicode/utf8.first") (d := Rows.laid_unicode_utf8_first) (by simp)
  have h4 := Lib.laidMet.reads h' (n := "unicode/utf8.acceptRanges") (d := Rows.laid_unicode_utf8_acceptRanges) (by simp)
  rw [laid_first] at h3
  rw [laid_accept] at h4
  exact utf8Tabs_of_reads Tryd.lays260 u8extra h3 h4

def tabVals : DataW Unit → Array Value
  | .agg l => (l.flatMap fun
      | .lit (.int k z) => [Value.int k z]
      | .agg l2 => l2.map fun
        | .lit (.int k z) => Value.int k z
        | _ => .int .u8 0
      | _ => []).toArray
  | _ => #[]

def putVals (d : DataW Unit) : Obj → Obj
  | .cells _ t frozen => .cells (tabVals d) t frozen
  | o => o

noncomputable def laidWorld (os : Os) : World :=
  { World.holding Tryd.prog os ⟨#[], #[], []⟩ with
    heap := ((World.holding Tryd.prog os ⟨#[], #[], []⟩).heap.modify 1 (putVals Rows.laid_unicode_utf8_acceptRanges)).modify 0 (putVals Rows.laid_unicode_utf8_first) }

end Go.Proofs.YthknmkebdlnahaaDoor
