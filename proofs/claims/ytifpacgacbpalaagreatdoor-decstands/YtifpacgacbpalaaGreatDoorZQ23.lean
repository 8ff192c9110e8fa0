/-
  Plain mathematics: which Decs may be.
  What decform's bare, areDigits, mayDigits and May do.
  Plain mathematics: decimal numbers in their one form, what they are worth, and how they stand.
-/
import Derived.Test.YtifpacgacbpalaaGreatDoorZSM
import Derived.Test.YtifpacgacbpalaaGreatDoorZQ12
import Derived.Test.YtifpacgacbpalaaGreatDoorZQ18
import Derived.Lib.Bytealg
namespace Go.Proofs.YtifpacgacbpalaaGreatDoor

/-- Which Decs may be: class, sign, digits, exponent. -/
def MayD (c : Int) (neg : Bool) (dig : List UInt8) (e : Int) : Prop :=
  (c = 0 ∧ ((dig = [] ∧ e = 0) ∨ (dig ≠ [] ∧ dig.length ≤ 1000 ∧ -2000 ≤ e + dig.length ∧ e + dig.length ≤ 2000 ∧ byt dig 0 ≠ 48 ∧ byt dig (dig.length - 1) ≠ 48 ∧ DigB dig))) ∨
  (c = 1 ∧ dig = [] ∧ e = 0) ∨ (c = 2 ∧ neg = false ∧ dig = [] ∧ e = 0)

/-- Digits that do not begin with a nought are a number above 0. -/
theorem decV_ne {l : List UInt8} (h : l ≠ []) (h0 : byt l 0 ≠ 48) (hd : DigB l) : decV l ≠ 0 := by
  have ok : OkT l := ⟨h, fun e => absurd e h0, hd⟩
  rcases hl : l.length with _ | n
  · exact absurd (List.length_eq_zero_iff.1 hl) h
  · have hb := dd_back n l hl ok
    intro e
    rw [e, Lib.decDigits_one (by omega)] at hb
    apply h0
    rw [← hb]; rfl

end Go.Proofs.YtifpacgacbpalaaGreatDoor

namespace Go.Proofs.YtifpacgacbpalaaGreatDoor
open Go.RowKit

/-- A Dec as a value. -/
abbrev dcV (c : Int) (neg : Bool) (t : ByteArray) (e : Int) : Value := .agg #[.int .i64 c, .bool neg, .string t, .int .i64 e]

theorem size_nil {t : ByteArray} (h : t.size = 0) : t = ⟨#[]⟩ := by
  cases t with | mk d => simp [ByteArray.size] at h; rw [h]

theorem toList_ne {t : ByteArray} (h : t.size ≠ 0) : (t.toList == []) = false := by
  have : t.toList ≠ [] := fun e => h (by
    rw [ByteArray.toList_eq] at e
    have h1 := congrArg List.length e
    rw [← bys_len]
    exact h1)
  cases hl : t.toList with
  | nil => exact absurd hl this
  | cons a l => rfl

theorem bare_yes (c : Int) (neg : Bool) (w : World) : Calls Tryz.prog 48 #[dcV c neg ⟨#[]⟩ 0] w fun e w' => e = .returned (.bool true) ∧ Below w.heap.size w w' := by
  go_enter Tryz.func48, Tryz.ntmps48
  go_wp2
  go_ret
  exact ⟨rfl, (Below.refl _ _).alloc (Nat.le_refl _) _⟩

theorem bare_exp (c ex : Int) (neg : Bool) (w : World) (h : ¬ ex = 0) : Calls Tryz.prog 48 #[dcV c neg ⟨#[]⟩ ex] w fun e w' => e = .returned (.bool false) ∧ Below w.heap.size w w' := by
  have h' : (ex == 0) = false := by simpa using h
  go_enter Tryz.func48, Tryz.ntmps48
  go_wp2
  go_ret
  exact ⟨rfl, (Below.refl _ _).alloc (Nat.le_refl _) _⟩

theorem bare_dig (c ex : Int) (neg : Bool) (t : ByteArray) (w : World) (h : t.size ≠ 0) : Calls Tryz.prog 48 #[dcV c neg t ex] w fun e w' => e = .returned (.bool false) ∧ Below w.heap.size w w' := by
  have h2 := toList_ne h
  clear h
  go_enter Tryz.func48, Tryz.ntmps48
  go_wp2
  go_ret
  exact ⟨rfl, (Below.refl _ _).alloc (Nat.le_refl _) _⟩

theorem bare_no (c ex : Int) (neg : Bool) (t : ByteArray) (w : World) (h : ¬ (t.size = 0 ∧ ex = 0)) : Calls Tryz.prog 48 #[dcV c neg t ex] w fun e w' => e = .returned (.bool false) ∧ Below w.heap.size w w' := by
  by_cases h0 : t.size = 0
  · rw [size_nil h0]; exact bare_exp c ex neg w (fun e => h ⟨h0, e⟩)
  · exact bare_dig c ex neg t w h0

set_option maxHeartbeats 1000000 in
theorem digits_yes (t : ByteArray) (n : Nat) (w : World) (hn : t.size = n) (hm : n ≤ 1000) (hd : DigB (bys t)) : Calls Tryz.prog 74 #[.string t] w fun e w' => e = .returned (.bool true) ∧ w = w' := by
  have HD := hide hd
  have HL : Hid ((bys t).length = n) := by rw [← hn]; exact bys_len t
  clear hd
  go_enter Tryz.func74, Tryz.ntmps74
  go_wp2
  go_loopw [6] (fun i wr => ∃ k : Nat, k ≤ n ∧ i = .int .i64 (k : Int) ∧ wr = w) (fun i _ => n - (intOf i).toNat)
  case atStart => exact ⟨0, Nat.zero_le _, rfl, rfl⟩
  case round =>
    obtain ⟨k, hk, rfl, rfl⟩ := hrel
    by_cases hlt : k < n
    · have hlt' : (k : Int) < (t.size : Int) := by omega
      have hks : k < t.size := by omega
      have hg : ∀ h : k < t.size, t[k].toNat = byt (bys t) k := fun h => byt_get t k h
      have hb := HD.out k (by rw [HL.out]; exact hlt)
      obtain ⟨b, hbb⟩ : ∃ b, b = byt (bys t) k := ⟨_, rfl⟩
      rw [← hbb] at hg hb
      have h1' : ¬ (b : Int) < 48 := by omega
      have h2' : ¬ (57 : Int) < (b : Int) := by omega
      clear hbb
      go_wp2
      exact ⟨⟨k + 1, by omega, by go_num, trivial⟩, by simp [intOf]; omega⟩
    · have hlt' : ¬ (k : Int) < (t.size : Int) := by omega
      go_wp2
      go_ret
      exact ⟨rfl, rfl⟩

set_option maxHeartbeats 1000000 in
theorem digits_no (t : ByteArray) (n j : Nat) (w : World) (hn : t.size = n) (hm : n ≤ 1000) (hj : j < n) (hd : ¬ (48 ≤ byt (bys t) j ∧ byt (bys t) j ≤ 57)) : Calls Tryz.prog 74 #[.string t] w fun e w' => e = .returned (.bool false) ∧ w = w' := by
  have HD := hide hd
  clear hd
  go_enter Tryz.func74, Tryz.ntmps74
  go_wp2
  go_loopw [6] (fun i wr => ∃ k : Nat, k ≤ j ∧ i = .int .i64 (k : Int) ∧ wr = w) (fun i _ => n - (intOf i).toNat)
  case atStart => exact ⟨0, Nat.zero_le _, rfl, rfl⟩
  case round =>
    obtain ⟨k, hk, rfl, rfl⟩ := hrel
    have hlt' : (k : Int) < (t.size : Int) := by omega
    have hks : k < t.size := by omega
    have hg : ∀ h : k < t.size, t[k].toNat = byt (bys t) k := fun h => byt_get t k h
    obtain ⟨b, hbb⟩ : ∃ b, b = byt (bys t) k := ⟨_, rfl⟩
    rw [← hbb] at hg
    have HBB := hide hbb
    clear hbb
    by_cases h1 : b < 48
    · have h1' : (b : Int) < 48 := by omega
      go_wp2
      go_ret
      exact ⟨rfl, rfl⟩
    · have h1' : ¬ (b : Int) < 48 := by omega
      by_cases h2 : 57 < b
      · have h2' : (57 : Int) < (b : Int) := by omega
        go_wp2
        go_ret
        exact ⟨rfl, rfl⟩
      · have h2' : ¬ (57 : Int) < (b : Int) := by omega
        have hne : k ≠ j := fun e => HD.out (by rw [← e, ← HBB.out]; omega)
        go_wp2
        exact ⟨⟨k + 1, by omega, by go_num, trivial⟩, by simp [intOf]; omega⟩

/-- The digits of a Dec that may be. -/
def DigD (dig : List UInt8) (e : Int) : Prop :=
  dig ≠ [] ∧ dig.length ≤ 1000 ∧ -2000 ≤ e + dig.length ∧ e + dig.length ≤ 2000 ∧ byt dig 0 ≠ 48 ∧ byt dig (dig.length - 1) ≠ 48 ∧ DigB dig

theorem bys_nil {t : ByteArray} : bys t = [] ↔ t.size = 0 := by
  rw [← bys_len]; exact List.length_eq_zero_iff.symm

set_option maxRecDepth 100000 in
set_option maxHeartbeats 1000000 in
theorem mdig_yes (t : ByteArray) (ex : Int) (w : World) (h : DigD (bys t) ex) : Calls Tryz.prog 49 #[.string t, .int .i64 ex] w fun e w' => e = .returned (.bool true) ∧ w = w' := by
  obtain ⟨h0, h1, h2, h3, h4, h5, h6⟩ := h
  rw [bys_len] at h1 h2 h3 h5
  have hn0 : t.size ≠ 0 := fun e => h0 (bys_nil.2 e)
  obtain ⟨j, hj⟩ : ∃ j, t.size = j + 1 := ⟨t.size - 1, by omega⟩
  have DG := hide (digits_yes t (j + 1) w hj (by omega) h6)
  have hg0 : ∀ h : 0 < t.size, t[0].toNat = byt (bys t) 0 := fun h => byt_get t 0 h
  have hgz : ∀ h : j < t.size, t[j].toNat = byt (bys t) j := fun h => byt_get t j h
  rw [show t.size - 1 = j by omega] at h5
  obtain ⟨a, ha⟩ : ∃ b, b = byt (bys t) 0 := ⟨_, rfl⟩
  obtain ⟨z, hz⟩ : ∃ b, b = byt (bys t) j := ⟨_, rfl⟩
  rw [← ha] at hg0 h4
  rw [← hz] at hgz h5
  have hp0 : 0 < t.size := by omega
  have hp1 : j < t.size := by omega
  have hp1' : (j : Int) < (t.size : Int) := by omega
  have e0 : ((j : Int) + 1 == 0) = false := by
    have : ¬ (j : Int) + 1 = 0 := by omega
    simpa using this
  have e1 : decide ((1000 : Int) < (j : Int) + 1) = false := decide_eq_false (by omega)
  have e2 : decide (ex < -2000 - ((j : Int) + 1)) = false := decide_eq_false (by omega)
  have e3 : decide (2000 - ((j : Int) + 1) < ex) = false := decide_eq_false (by omega)
  have c1 : ((a : Int) != 48) = true := by
    have : ¬ (a : Int) = 48 := by omega
    simpa using this
  have c2 : ((z : Int) != 48) = true := by
    have : ¬ (z : Int) = 48 := by omega
    simpa using this
  clear ha hz h4 h5 h0 h6
  go_enter Tryz.func49, Tryz.ntmps49
  go_wp2_with fail
  refine DG.out.mono ?_
  rintro e w1 ⟨rfl, rfl⟩
  clear DG
  go_wp2
  go_ret
  exact ⟨rfl, rfl⟩

theorem mdig_nil (ex : Int) (w : World) : Calls Tryz.prog 49 #[.string ⟨#[]⟩, .int .i64 ex] w fun e w' => e = .returned (.bool false) ∧ w = w' := by
  go_enter Tryz.func49, Tryz.ntmps49
  go_wp2
  go_ret
  exact ⟨rfl, rfl⟩

set_option maxRecDepth 100000 in
set_option maxHeartbeats 1000000 in
theorem mdig_long (t : ByteArray) (ex : Int) (w : World) (h : 1000 < t.size) : Calls Tryz.prog 49 #[.string t, .int .i64 ex] w fun e w' => e = .returned (.bool false) ∧ w = w' := by
  have e0 : ((t.size : Int) == 0) = false := by
    have : ¬ (t.size : Int) = 0 := by omega
    simpa using this
  have e1 : decide ((1000 : Int) < (t.size : Int)) = true := decide_eq_true (by omega)
  go_enter Tryz.func49, Tryz.ntmps49
  go_wp2
  go_ret
  exact ⟨rfl, rfl⟩

set_option maxRecDepth 100000 in
set_option maxHeartbeats 1000000 in
theorem mdig_low (t : ByteArray) (ex : Int) (w : World) (j : Nat) (hj : t.size = j + 1) (h : j + 1 ≤ 1000) (he : ex < -2000 - ((j : Int) + 1)) : Calls Tryz.prog 49 #[.string t, .int .i64 ex] w fun e w' => e = .returned (.bool false) ∧ w = w' := by
  have e0 : ((j : Int) + 1 == 0) = false := by
    have : ¬ (j : Int) + 1 = 0 := by omega
    simpa using this
  have e1 : decide ((1000 : Int) < (j : Int) + 1) = false := decide_eq_false (by omega)
  have e2 : decide (ex < -2000 - ((j : Int) + 1)) = true := decide_eq_true (by omega)
  go_enter Tryz.func49, Tryz.ntmps49
  go_wp2
  go_ret
  exact ⟨rfl, rfl⟩

set_option maxRecDepth 100000 in
set_option maxHeartbeats 1000000 in
theorem mdig_high (t : ByteArray) (ex : Int) (w : World) (j : Nat) (hj : t.size = j + 1) (h : j + 1 ≤ 1000) (he : 2000 - ((j : Int) + 1) < ex) : Calls Tryz.prog 49 #[.string t, .int .i64 ex] w fun e w' => e = .returned (.bool false) ∧ w = w' := by
  have e0 : ((j : Int) + 1 == 0) = false := by
    have : ¬ (j : Int) + 1 = 0 := by omega
    simpa using this
  have e1 : decide ((1000 : Int) < (j : Int) + 1) = false := decide_eq_false (by omega)
  have e2 : decide (ex < -2000 - ((j : Int) + 1)) = false := decide_eq_false (by omega)
  have e3 : decide (2000 - ((j : Int) + 1) < ex) = true := decide_eq_true (by omega)
  go_enter Tryz.func49, Tryz.ntmps49
  go_wp2
  go_ret
  exact ⟨rfl, rfl⟩

set_option maxRecDepth 100000 in
set_option maxHeartbeats 1000000 in
theorem mdig_first (t : ByteArray) (ex : Int) (w : World) (j : Nat) (hj : t.size = j + 1) (h : j + 1 ≤ 1000) (hl : -2000 - ((j : Int) + 1) ≤ ex) (he : ex ≤ 2000 - ((j : Int) + 1)) (hf : byt (bys t) 0 = 48) : Calls Tryz.prog 49 #[.string t, .int .i64 ex] w fun e w' => e = .returned (.bool false) ∧ w = w' := by
  have e0 : ((j : Int) + 1 == 0) = false := by
    have : ¬ (j : Int) + 1 = 0 := by omega
    simpa using this
  have e1 : decide ((1000 : Int) < (j : Int) + 1) = false := decide_eq_false (by omega)
  have e2 : decide (ex < -2000 - ((j : Int) + 1)) = false := decide_eq_false (by omega)
  have e3 : decide (2000 - ((j : Int) + 1) < ex) = false := decide_eq_false (by omega)
  have hg0 : ∀ h : 0 < t.size, t[0].toNat = byt (bys t) 0 := fun h => byt_get t 0 h
  have hgz : ∀ h : j < t.size, t[j].toNat = byt (bys t) j := fun h => byt_get t j h
  have hp0 : 0 < t.size := by omega
  have hp1 : j < t.size := by omega
  have hp1' : (j : Int) < (t.size : Int) := by omega
  obtain ⟨a, ha⟩ : ∃ b, b = byt (bys t) 0 := ⟨_, rfl⟩
  obtain ⟨z, hz⟩ : ∃ b, b = byt (bys t) j := ⟨_, rfl⟩
  rw [← ha] at hg0
  rw [← hz] at hgz
  rw [← ha] at hf
  have ca : ((a : Int) != 48) = false := by
    have : (a : Int) = 48 := by omega
    rw [this]; rfl
  clear ha hz hf
  go_enter Tryz.func49, Tryz.ntmps49
  go_wp2
  go_ret
  exact ⟨rfl, rfl⟩

set_option maxRecDepth 100000 in
set_option maxHeartbeats 1000000 in
theorem mdig_last (t : ByteArray) (ex : Int) (w : World) (j : Nat) (hj : t.size = j + 1) (h : j + 1 ≤ 1000) (hl : -2000 - ((j : Int) + 1) ≤ ex) (he : ex ≤ 2000 - ((j : Int) + 1)) (hf : byt (bys t) 0 ≠ 48) (hla : byt (bys t) j = 48) : Calls Tryz.prog 49 #[.string t, .int .i64 ex] w fun e w' => e = .returned (.bool false) ∧ w = w' := by
  have e0 : ((j : Int) + 1 == 0) = false := by
    have : ¬ (j : Int) + 1 = 0 := by omega
    simpa using this
  have e1 : decide ((1000 : Int) < (j : Int) + 1) = false := decide_eq_false (by omega)
  have e2 : decide (ex < -2000 - ((j : Int) + 1)) = false := decide_eq_false (by omega)
  have e3 : decide (2000 - ((j : Int) + 1) < ex) = false := decide_eq_false (by omega)
  have hg0 : ∀ h : 0 < t.size, t[0].toNat = byt (bys t) 0 := fun h => byt_get t 0 h
  have hgz : ∀ h : j < t.size, t[j].toNat = byt (bys t) j := fun h => byt_get t j h
  have hp0 : 0 < t.size := by omega
  have hp1 : j < t.size := by omega
  have hp1' : (j : Int) < (t.size : Int) := by omega
  obtain ⟨a, ha⟩ : ∃ b, b = byt (bys t) 0 := ⟨_, rfl⟩
  obtain ⟨z, hz⟩ : ∃ b, b = byt (bys t) j := ⟨_, rfl⟩
  rw [← ha] at hg0
  rw [← hz] at hgz
  rw [← ha] at hf
  rw [← hz] at hla
  have ca : ((a : Int) != 48) = true := by
    have : ¬ (a : Int) = 48 := by omega
    simpa using this
  have cz : ((z : Int) != 48) = false := by
    have : (z : Int) = 48 := by omega
    rw [this]; rfl
  clear ha hz hf hla
  go_enter Tryz.func49, Tryz.ntmps49
  go_wp2
  go_ret
  exact ⟨rfl, rfl⟩

set_option maxRecDepth 100000 in
set_option maxHeartbeats 1000000 in
theorem mdig_bad (t : ByteArray) (ex : Int) (w : World) (j : Nat) (hj : t.size = j + 1) (h : j + 1 ≤ 1000) (hl : -2000 - ((j : Int) + 1) ≤ ex) (he : ex ≤ 2000 - ((j : Int) + 1)) (k : Nat) (hk : k < j + 1) (hf : byt (bys t) 0 ≠ 48) (hla : byt (bys t) j ≠ 48) (hd : ¬ (48 ≤ byt (bys t) k ∧ byt (bys t) k ≤ 57)) : Calls Tryz.prog 49 #[.string t, .int .i64 ex] w fun e w' => e = .returned (.bool false) ∧ w = w' := by
  have DG := hide (digits_no t (j + 1) k w hj h hk hd)
  have e0 : ((j : Int) + 1 == 0) = false := by
    have : ¬ (j : Int) + 1 = 0 := by omega
    simpa using this
  have e1 : decide ((1000 : Int) < (j : Int) + 1) = false := decide_eq_false (by omega)
  have e2 : decide (ex < -2000 - ((j : Int) + 1)) = false := decide_eq_false (by omega)
  have e3 : decide (2000 - ((j : Int) + 1) < ex) = false := decide_eq_false (by omega)
  have hg0 : ∀ h : 0 < t.size, t[0].toNat = byt (bys t) 0 := fun h => byt_get t 0 h
  have hgz : ∀ h : j < t.size, t[j].toNat = byt (bys t) j := fun h => byt_get t j h
  have hp0 : 0 < t.size := by omega
  have hp1 : j < t.size := by omega
  have hp1' : (j : Int) < (t.size : Int) := by omega
  obtain ⟨a, ha⟩ : ∃ b, b = byt (bys t) 0 := ⟨_, rfl⟩
  obtain ⟨z, hz⟩ : ∃ b, b = byt (bys t) j := ⟨_, rfl⟩
  rw [← ha] at hg0
  rw [← hz] at hgz
  rw [← ha] at hf
  rw [← hz] at hla
  have ca : ((a : Int) != 48) = true := by
    have : ¬ (a : Int) = 48 := by omega
    simpa using this
  have cz : ((z : Int) != 48) = true := by
    have : ¬ (z : Int) = 48 := by omega
    simpa using this
  clear ha hz hf hla hd
  go_enter Tryz.func49, Tryz.ntmps49
  go_wp2_with fail
  refine DG.out.mono ?_
  rintro e w1 ⟨rfl, rfl⟩
  clear DG
  go_wp2
  go_ret
  exact ⟨rfl, rfl⟩

theorem mdig_no (t : ByteArray) (ex : Int) (w : World) (h : ¬ DigD (bys t) ex) : Calls Tryz.prog 49 #[.string t, .int .i64 ex] w fun e w' => e = .returned (.bool false) ∧ w = w' := by
  by_cases h0 : t.size = 0
  · rw [size_nil h0]; exact mdig_nil ex w
  · obtain ⟨j, hj⟩ : ∃ j, t.size = j + 1 := ⟨t.size - 1, by omega⟩
    rcases Nat.lt_or_ge 1000 t.size with h1 | h1
    · exact mdig_long t ex w h1
    · by_cases h2 : ex < -2000 - ((j : Int) + 1)
      · exact mdig_low t ex w j hj (by omega) h2
      · by_cases h3 : 2000 - ((j : Int) + 1) < ex
        · exact mdig_high t ex w j hj (by omega) h3
        · by_cases h4 : byt (bys t) 0 = 48
          · exact mdig_first t ex w j hj (by omega) (by omega) (by omega) h4
          · by_cases h5 : byt (bys t) j = 48
            · exact mdig_last t ex w j hj (by omega) (by omega) (by omega) h4 h5
            · have hd : ¬ DigB (bys t) := by
                intro hd
                apply h
                unfold DigD
                rw [bys_len, hj]
                exact ⟨fun e => h0 (bys_nil.1 e), by omega, by omega, by omega, h4, by rw [Nat.add_sub_cancel]; exact h5, hd⟩
              obtain ⟨k, hk⟩ := Classical.not_forall.1 hd
              obtain ⟨hk1, hk2⟩ := Classical.not_imp.1 hk
              rw [bys_len, hj] at hk1
              exact mdig_bad t ex w j hj (by omega) (by omega) (by omega) k hk1 h4 h5 hk2

theorem mayD_0 (neg : Bool) (t : ByteArray) (ex : Int) : MayD 0 neg (bys t) ex ↔ ((t.size = 0 ∧ ex = 0) ∨ DigD (bys t) ex) := by
  unfold MayD DigD
  rw [bys_nil]
  constructor
  · rintro (⟨_, h⟩ | ⟨h, _⟩ | ⟨h, _⟩)
    · exact h
    · omega
    · omega
  · intro h; exact .inl ⟨rfl, h⟩

set_option maxHeartbeats 1000000 in
theorem may0_bare (neg : Bool) (w : World) : Calls Tryz.prog 28 #[dcV 0 neg ⟨#[]⟩ 0] w fun e w' => e = .returned (.bool true) ∧ Below w.heap.size w w' := by
  have HB0 : Hid (Below w.heap.size w (w.alloc (.cells #[.int .i64 0, .bool neg, .string ⟨#[]⟩, .int .i64 0] 23))) := (Below.refl _ _).alloc (Nat.le_refl _) _
  have BLK := hide (Blk.new w #[.int .i64 0, .bool neg, .string ⟨#[]⟩, .int .i64 0] 23)
  go_enter Tryz.func28, Tryz.ntmps28
  go_wp2_with fail
  refine (bare_yes 0 neg _).mono ?_
  rintro e w1 ⟨rfl, hb⟩
  have q := BLK.out.below hb BLK.out.lt
  have k1 : w1.cell? ⟨w.heap.size, 1, none⟩ = some (.bool neg) := q.cell 1
  have k2 : w1.cell? ⟨w.heap.size, 2, none⟩ = some (.string ⟨#[]⟩) := q.cell 2
  have k3 : w1.cell? ⟨w.heap.size, 3, none⟩ = some (.int .i64 0) := q.cell 3
  have HB1 : Hid (Below w.heap.size w w1) := HB0.out.trans (hb.mono HB0.out.size)
  clear q hb BLK HB0
  go_wp2
  go_ret
  exact ⟨rfl, HB1.out⟩

set_option maxHeartbeats 1000000 in
theorem may0_yes (neg : Bool) (t : ByteArray) (ex : Int) (w : World) (hb : ¬ (t.size = 0 ∧ ex = 0)) (hd : DigD (bys t) ex) : Calls Tryz.prog 28 #[dcV 0 neg t ex] w fun e w' => e = .returned (.bool true) ∧ Below w.heap.size w w' := by
  have BA := hide (fun W => bare_no 0 ex neg t W hb)
  have MD := hide (fun W => mdig_yes t ex W hd)
  clear hb hd
  have HB0 : Hid (Below w.heap.size w (w.alloc (.cells #[.int .i64 0, .bool neg, .string t, .int .i64 ex] 23))) := (Below.refl _ _).alloc (Nat.le_refl _) _
  have BLK := hide (Blk.new w #[.int .i64 0, .bool neg, .string t, .int .i64 ex] 23)
  go_enter Tryz.func28, Tryz.ntmps28
  go_wp2_with fail
  refine (BA.out _).mono ?_
  rintro e w1 ⟨rfl, hb⟩
  have q := BLK.out.below hb BLK.out.lt
  have k1 : w1.cell? ⟨w.heap.size, 1, none⟩ = some (.bool neg) := q.cell 1
  have k2 : w1.cell? ⟨w.heap.size, 2, none⟩ = some (.string t) := q.cell 2
  have k3 : w1.cell? ⟨w.heap.size, 3, none⟩ = some (.int .i64 ex) := q.cell 3
  have HB1 : Hid (Below w.heap.size w w1) := HB0.out.trans (hb.mono HB0.out.size)
  clear q hb BLK HB0
  go_wp2_with fail
  refine (MD.out _).mono ?_
  rintro e w2 ⟨rfl, rfl⟩
  go_wp2
  go_ret
  exact ⟨rfl, HB1.out⟩

set_option maxHeartbeats 1000000 in
theorem may0_no (neg : Bool) (t : ByteArray) (ex : Int) (w : World) (hb : ¬ (t.size = 0 ∧ ex = 0)) (hd : ¬ DigD (bys t) ex) : Calls Tryz.prog 28 #[dcV 0 neg t ex] w fun e w' => e = .returned (.bool false) ∧ Below w.heap.size w w' := by
  have BA := hide (fun W => bare_no 0 ex neg t W hb)
  have MD := hide (fun W => mdig_no t ex W hd)
  clear hb hd
  have HB0 : Hid (Below w.heap.size w (w.alloc (.cells #[.int .i64 0, .bool neg, .string t, .int .i64 ex] 23))) := (Below.refl _ _).alloc (Nat.le_refl _) _
  have BLK := hide (Blk.new w #[.int .i64 0, .bool neg, .string t, .int .i64 ex] 23)
  go_enter Tryz.func28, Tryz.ntmps28
  go_wp2_with fail
  refine (BA.out _).mono ?_
  rintro e w1 ⟨rfl, hb⟩
  have q := BLK.out.below hb BLK.out.lt
  have k1 : w1.cell? ⟨w.heap.size, 1, none⟩ = some (.bool neg) := q.cell 1
  have k2 : w1.cell? ⟨w.heap.size, 2, none⟩ = some (.string t) := q.cell 2
  have k3 : w1.cell? ⟨w.heap.size, 3, none⟩ = some (.int .i64 ex) := q.cell 3
  have HB1 : Hid (Below w.heap.size w w1) := HB0.out.trans (hb.mono HB0.out.size)
  clear q hb BLK HB0
  go_wp2_with fail
  refine (MD.out _).mono ?_
  rintro e w2 ⟨rfl, rfl⟩
  go_wp2
  go_ret
  exact ⟨rfl, HB1.out⟩

set_option maxHeartbeats 1000000 in
theorem may1_yes (neg : Bool) (w : World) : Calls Tryz.prog 28 #[dcV 1 neg ⟨#[]⟩ 0] w fun e w' => e = .returned (.bool true) ∧ Below w.heap.size w w' := by
  have HB0 : Hid (Below w.heap.size w (w.alloc (.cells #[.int .i64 1, .bool neg, .string ⟨#[]⟩, .int .i64 0] 23))) := (Below.refl _ _).alloc (Nat.le_refl _) _
  have BLK := hide (Blk.new w #[.int .i64 1, .bool neg, .string ⟨#[]⟩, .int .i64 0] 23)
  go_enter Tryz.func28, Tryz.ntmps28
  go_wp2_with fail
  refine (bare_yes 1 neg _).mono ?_
  rintro e w1 ⟨rfl, hb⟩
  have q := BLK.out.below hb BLK.out.lt
  have k1 : w1.cell? ⟨w.heap.size, 1, none⟩ = some (.bool neg) := q.cell 1
  have k2 : w1.cell? ⟨w.heap.size, 2, none⟩ = some (.string ⟨#[]⟩) := q.cell 2
  have k3 : w1.cell? ⟨w.heap.size, 3, none⟩ = some (.int .i64 0) := q.cell 3
  have HB1 : Hid (Below w.heap.size w w1) := HB0.out.trans (hb.mono HB0.out.size)
  clear q hb BLK HB0
  go_wp2
  go_ret
  exact ⟨rfl, HB1.out⟩

set_option maxHeartbeats 1000000 in
theorem may1_no (neg : Bool) (t : ByteArray) (ex : Int) (w : World) (hb : ¬ (t.size = 0 ∧ ex = 0)) : Calls Tryz.prog 28 #[dcV 1 neg t ex] w fun e w' => e = .returned (.bool false) ∧ Below w.heap.size w w' := by
  have BA := hide (fun W => bare_no 1 ex neg t W hb)
  clear hb
  have HB0 : Hid (Below w.heap.size w (w.alloc (.cells #[.int .i64 1, .bool neg, .string t, .int .i64 ex] 23))) := (Below.refl _ _).alloc (Nat.le_refl _) _
  have BLK := hide (Blk.new w #[.int .i64 1, .bool neg, .string t, .int .i64 ex] 23)
  go_enter Tryz.func28, Tryz.ntmps28
  go_wp2_with fail
  refine (BA.out _).mono ?_
  rintro e w1 ⟨rfl, hb⟩
  have q := BLK.out.below hb BLK.out.lt
  have k1 : w1.cell? ⟨w.heap.size, 1, none⟩ = some (.bool neg) := q.cell 1
  have k2 : w1.cell? ⟨w.heap.size, 2, none⟩ = some (.string t) := q.cell 2
  have k3 : w1.cell? ⟨w.heap.size, 3, none⟩ = some (.int .i64 ex) := q.cell 3
  have HB1 : Hid (Below w.heap.size w w1) := HB0.out.trans (hb.mono HB0.out.size)
  clear q hb BLK HB0
  go_wp2
  go_ret
  exact ⟨rfl, HB1.out⟩

set_option maxHeartbeats 1000000 in
theorem may2_yes (w : World) : Calls Tryz.prog 28 #[dcV 2 false ⟨#[]⟩ 0] w fun e w' => e = .returned (.bool true) ∧ Below w.heap.size w w' := by
  have HB0 : Hid (Below w.heap.size w (w.alloc (.cells #[.int .i64 2, .bool false, .string ⟨#[]⟩, .int .i64 0] 23))) := (Below.refl _ _).alloc (Nat.le_refl _) _
  have BLK := hide (Blk.new w #[.int .i64 2, .bool false, .string ⟨#[]⟩, .int .i64 0] 23)
  go_enter Tryz.func28, Tryz.ntmps28
  go_wp2_with fail
  refine (bare_yes 2 false _).mono ?_
  rintro e w1 ⟨rfl, hb⟩
  have q := BLK.out.below hb BLK.out.lt
  have k1 : w1.cell? ⟨w.heap.size, 1, none⟩ = some (.bool false) := q.cell 1
  have k2 : w1.cell? ⟨w.heap.size, 2, none⟩ = some (.string ⟨#[]⟩) := q.cell 2
  have k3 : w1.cell? ⟨w.heap.size, 3, none⟩ = some (.int .i64 0) := q.cell 3
  have HB1 : Hid (Below w.heap.size w w1) := HB0.out.trans (hb.mono HB0.out.size)
  clear q hb BLK HB0
  go_wp2
  go_ret
  exact ⟨rfl, HB1.out⟩

set_option maxHeartbeats 1000000 in
theorem may2_neg (w : World) : Calls Tryz.prog 28 #[dcV 2 true ⟨#[]⟩ 0] w fun e w' => e = .returned (.bool false) ∧ Below w.heap.size w w' := by
  have HB0 : Hid (Below w.heap.size w (w.alloc (.cells #[.int .i64 2, .bool true, .string ⟨#[]⟩, .int .i64 0] 23))) := (Below.refl _ _).alloc (Nat.le_refl _) _
  have BLK := hide (Blk.new w #[.int .i64 2, .bool true, .string ⟨#[]⟩, .int .i64 0] 23)
  go_enter Tryz.func28, Tryz.ntmps28
  go_wp2_with fail
  refine (bare_yes 2 true _).mono ?_
  rintro e w1 ⟨rfl, hb⟩
  have q := BLK.out.below hb BLK.out.lt
  have k1 : w1.cell? ⟨w.heap.size, 1, none⟩ = some (.bool true) := q.cell 1
  have k2 : w1.cell? ⟨w.heap.size, 2, none⟩ = some (.string ⟨#[]⟩) := q.cell 2
  have k3 : w1.cell? ⟨w.heap.size, 3, none⟩ = some (.int .i64 0) := q.cell 3
  have HB1 : Hid (Below w.heap.size w w1) := HB0.out.trans (hb.mono HB0.out.size)
  clear q hb BLK HB0
  go_wp2
  go_ret
  exact ⟨rfl, HB1.out⟩

set_option maxHeartbeats 1000000 in
theorem may2_no (neg : Bool) (t : ByteArray) (ex : Int) (w : World) (hb : ¬ (t.size = 0 ∧ ex = 0)) : Calls Tryz.prog 28 #[dcV 2 neg t ex] w fun e w' => e = .returned (.bool false) ∧ Below w.heap.size w w' := by
  have BA := hide (fun W => bare_no 2 ex neg t W hb)
  clear hb
  have HB0 : Hid (Below w.heap.size w (w.alloc (.cells #[.int .i64 2, .bool neg, .string t, .int .i64 ex] 23))) := (Below.refl _ _).alloc (Nat.le_refl _) _
  have BLK := hide (Blk.new w #[.int .i64 2, .bool neg, .string t, .int .i64 ex] 23)
  go_enter Tryz.func28, Tryz.ntmps28
  go_wp2_with fail
  refine (BA.out _).mono ?_
  rintro e w1 ⟨rfl, hb⟩
  have q := BLK.out.below hb BLK.out.lt
  have k1 : w1.cell? ⟨w.heap.size, 1, none⟩ = some (.bool neg) := q.cell 1
  have k2 : w1.cell? ⟨w.heap.size, 2, none⟩ = some (.string t) := q.cell 2
  have k3 : w1.cell? ⟨w.heap.size, 3, none⟩ = some (.int .i64 ex) := q.cell 3
  have HB1 : Hid (Below w.heap.size w w1) := HB0.out.trans (hb.mono HB0.out.size)
  clear q hb BLK HB0
  go_wp2
  go_ret
  exact ⟨rfl, HB1.out⟩

set_option maxHeartbeats 1000000 in
theorem may9_no (c : Int) (neg : Bool) (t : ByteArray) (ex : Int) (w : World) (h0 : ¬ c = 0) (h1 : ¬ c = 1) (h2 : ¬ c = 2) : Calls Tryz.prog 28 #[dcV c neg t ex] w fun e w' => e = .returned (.bool false) ∧ Below w.heap.size w w' := by
  have HB0 : Hid (Below w.heap.size w (w.alloc (.cells #[.int .i64 c, .bool neg, .string t, .int .i64 ex] 23))) := (Below.refl _ _).alloc (Nat.le_refl _) _
  have BLK := hide (Blk.new w #[.int .i64 c, .bool neg, .string t, .int .i64 ex] 23)
  go_enter Tryz.func28, Tryz.ntmps28
  go_wp2
  go_ret
  exact ⟨rfl, HB0.out⟩

theorem may_yes (c : Int) (neg : Bool) (t : ByteArray) (ex : Int) (w : World) (h : MayD c neg (bys t) ex) : Calls Tryz.prog 28 #[dcV c neg t ex] w fun e w' => e = .returned (.bool true) ∧ Below w.heap.size w w' := by
  have h' := h
  rcases h with ⟨rfl, _⟩ | ⟨rfl, h1, rfl⟩ | ⟨rfl, rfl, h1, rfl⟩
  · rcases (mayD_0 neg t ex).1 h' with h1 | h1
    · obtain ⟨h1, rfl⟩ := h1
      rw [size_nil h1]; exact may0_bare neg w
    · exact may0_yes neg t ex w (fun e => h1.1 (bys_nil.2 e.1)) h1
  · rw [size_nil (bys_nil.1 h1)]; exact may1_yes neg w
  · rw [size_nil (bys_nil.1 h1)]; exact may2_yes w

theorem may_no (c : Int) (neg : Bool) (t : ByteArray) (ex : Int) (w : World) (h : ¬ MayD c neg (bys t) ex) : Calls Tryz.prog 28 #[dcV c neg t ex] w fun e w' => e = .returned (.bool false) ∧ Below w.heap.size w w' := by
  by_cases h0 : c = 0
  · subst h0
    rw [mayD_0] at h
    exact may0_no neg t ex w (fun e => h (.inl e)) (fun e => h (.inr e))
  · by_cases h1 : c = 1
    · subst h1
      exact may1_no neg t ex w (fun e => h (.inr (.inl ⟨rfl, bys_nil.2 e.1, e.2⟩)))
    · by_cases h2 : c = 2
      · subst h2
        by_cases hb : t.size = 0 ∧ ex = 0
        · obtain ⟨hb1, rfl⟩ := hb
          cases neg with
          | false => exact absurd (.inr (.inr ⟨rfl, rfl, bys_nil.2 hb1, rfl⟩)) h
          | true => rw [size_nil hb1]; exact may2_neg w
        · exact may2_no neg t ex w hb
      · exact may9_no c neg t ex w h0 h1 h2

end Go.Proofs.YtifpacgacbpalaaGreatDoor

namespace Go.Proofs.YtifpacgacbpalaaGreatDoor

/-- May a Dec be? -/
def May (d : DecT) : Prop := MayD (d.cls : Int) d.neg d.dig d.exp

/-- The Dec of N times 10^e, whatever N is. -/
def finD (neg : Bool) (N : Nat) (e : Int) : DecT := if N = 0 then ⟨0, neg, [], 0⟩ else decA neg N e

theorem cut0_cons (b : UInt8) (t : List UInt8) : cut0 (b :: t) = if cut0 t = [] then (if b = 48 then [] else [b]) else b :: cut0 t := by
  unfold cut0 Lib.trimRightB
  rw [List.reverse_cons, List.dropWhile_append]
  by_cases h : t.reverse.dropWhile (· == (48 : UInt8)) = []
  · rw [h]
    by_cases hb : b = 48
    · subst hb; simp
    · simp [hb]
  · have h2 : (t.reverse.dropWhile (· == (48 : UInt8))).isEmpty = false := by simpa using h
    rw [h2]
    have h3 : ¬ (t.reverse.dropWhile (· == (48 : UInt8))).reverse = [] := by simpa using h
    rw [if_neg h3]
    simp

theorem byt_cons0 (b : UInt8) (t : List UInt8) : byt (b :: t) 0 = b.toNat := by simp [byt]
theorem byt_consS (b : UInt8) (t : List UInt8) (k : Nat) : byt (b :: t) (k + 1) = byt t k := by simp [byt]

theorem DigB.tail {b : UInt8} {t : List UInt8} (h : DigB (b :: t)) : DigB t := fun k hk => by
  have := h (k + 1) (by simp; omega)
  rwa [byt_consS] at this

theorem DigB.head {b : UInt8} {t : List UInt8} (h : DigB (b :: t)) : 48 ≤ b.toNat ∧ b.toNat ≤ 57 := by
  have := h 0 (by simp)
  rwa [byt_cons0] at this

theorem decV_cons (b : UInt8) (t : List UInt8) : decV (b :: t) = (b.toNat - 48) * 10 ^ t.length + decV t := by
  have := decV_append [b] t
  rw [List.singleton_append] at this
  rw [this]; simp [decV]

theorem u8_48 {b : UInt8} (h : b.toNat = 48) : b = 48 := by
  rw [← UInt8.ofNat_toNat (x := b), h]; rfl

theorem decV_cut0 : ∀ (l : List UInt8), cut0 l = [] → decV l = 0
  | [], _ => rfl
  | b :: t, h => by
    rw [cut0_cons] at h
    by_cases h1 : cut0 t = []
    · rw [if_pos h1] at h
      by_cases h2 : b = 48
      · subst h2
        rw [decV_cons, decV_cut0 t h1]
        simp
      · rw [if_neg h2] at h; simp at h
    · rw [if_neg h1] at h; simp at h

/-- The digits without the noughts at both ends. -/
def mid0 (l : List UInt8) : List UInt8 := Lib.trimLeftB (cut0 l) 48

theorem mid0_zero : ∀ (l : List UInt8), DigB l → decV l = 0 → mid0 l = []
  | [], _, _ => rfl
  | b :: t, hd, h => by
    rw [decV_cons] at h
    have hb := hd.head
    have h1 : b.toNat - 48 = 0 := by
      rcases Nat.eq_zero_or_pos (b.toNat - 48) with e | e
      · exact e
      · exfalso
        have := Nat.mul_pos e (Nat.pow_pos (n := t.length) (show 0 < 10 by omega))
        omega
    have h2 : b = 48 := u8_48 (by omega)
    have ih := mid0_zero t hd.tail (by omega)
    subst h2
    unfold mid0 at *
    rw [cut0_cons]
    by_cases h3 : cut0 t = []
    · rw [if_pos h3, if_pos rfl]; rfl
    · rw [if_neg h3]
      unfold Lib.trimLeftB at *
      rw [List.dropWhile_cons_of_pos (by simp)]
      exact ih

theorem mid0_form (neg : Bool) : ∀ (l : List UInt8) (e : Int), DigB l → decV l ≠ 0 → mid0 l ≠ [] ∧ DecT.mk 0 neg (mid0 l) (e + l.length - (cut0 l).length) = decA neg (decV l) e
  | [], _, _, h => absurd rfl h
  | b :: t, e, hd, h => by
    by_cases hb : b = 48
    · subst hb
      have hv : decV (48 :: t) = decV t := by rw [decV_cons]; simp
      rw [hv] at h
      have hc : cut0 t ≠ [] := fun hc => h (decV_cut0 t hc)
      obtain ⟨h1, h2⟩ := mid0_form neg t e hd.tail h
      have e1 : cut0 (48 :: t) = 48 :: cut0 t := by rw [cut0_cons, if_neg hc]
      have e2 : mid0 (48 :: t) = mid0 t := by
        unfold mid0
        rw [e1]
        unfold Lib.trimLeftB
        rw [List.dropWhile_cons_of_pos (by simp)]
      rw [e2, hv, e1]
      refine ⟨h1, ?_⟩
      rw [← h2]
      congr 1
      simp only [List.length_cons]
      omega
    · have h48 : byt (b :: t) 0 ≠ 48 := by rw [byt_cons0]; exact fun e => hb (u8_48 e)
      have ok : OkT (b :: t) := ⟨by simp, fun e => absurd e h48, hd⟩
      have hb2 := dd_back t.length (b :: t) (by simp) ok
      have hc : ∃ u, cut0 (b :: t) = b :: u := by
        rw [cut0_cons]
        by_cases h3 : cut0 t = []
        · rw [if_pos h3, if_neg hb]; exact ⟨_, rfl⟩
        · rw [if_neg h3]; exact ⟨_, rfl⟩
      obtain ⟨u, hu⟩ := hc
      have e2 : mid0 (b :: t) = cut0 (b :: t) := by
        unfold mid0
        rw [hu]
        unfold Lib.trimLeftB
        rw [List.dropWhile_cons_of_neg (by simpa using hb)]
      refine ⟨by rw [e2, hu]; simp, ?_⟩
      unfold decA tellDec
      rw [hb2, e2]

/-- What decform's Of tells of digits. -/
def ofD (neg : Bool) (l : List UInt8) (e : Int) : DecT := if mid0 l = [] then ⟨0, neg, [], 0⟩ else ⟨0, neg, mid0 l, e + l.length - (cut0 l).length⟩

theorem ofD_fin (neg : Bool) (l : List UInt8) (e : Int) (hd : DigB l) : ofD neg l e = finD neg (decV l) e := by
  unfold ofD finD
  by_cases h : decV l = 0
  · rw [if_pos (mid0_zero l hd h), if_pos h]
  · obtain ⟨h1, h2⟩ := mid0_form neg l e hd h
    rw [if_neg h1, if_neg h, h2]

/-- What is told of a finite number: the Dec, or that it may not be. -/
noncomputable def tellF (neg : Bool) (N : Nat) (e : Int) : DecT × Int := open Classical in if May (finD neg N e) then (finD neg N e, 0) else (⟨0, false, [], 0⟩, 51)

theorem tellF_yes {neg : Bool} {N : Nat} {e : Int} (h : May (finD neg N e)) : tellF neg N e = (finD neg N e, 0) := by unfold tellF; rw [if_pos h]
theorem tellF_no {neg : Bool} {N : Nat} {e : Int} (h : ¬ May (finD neg N e)) : tellF neg N e = (⟨0, false, [], 0⟩, 51) := by unfold tellF; rw [if_neg h]

theorem may_zero (neg : Bool) : May ⟨0, neg, [], 0⟩ := .inl ⟨rfl, .inl ⟨rfl, rfl⟩⟩

/-- A finite Dec that is not 0, as it may be. -/
structure Fin (d : DecT) : Prop where
  cls : d.cls = 0
  ne : d.dig ≠ []
  len : d.dig.length ≤ 1000
  lo : -2000 ≤ d.exp + d.dig.length
  hi : d.exp + d.dig.length ≤ 2000
  first : byt d.dig 0 ≠ 48
  last : byt d.dig (d.dig.length - 1) ≠ 48
  dig : DigB d.dig

theorem Fin.may {d : DecT} (h : Fin d) : May d := .inl ⟨by rw [h.cls]; rfl, .inr ⟨h.ne, h.len, h.lo, h.hi, h.first, h.last, h.dig⟩⟩

theorem may_cases {d : DecT} (h : May d) : (∃ neg, d = ⟨0, neg, [], 0⟩) ∨ Fin d ∨ (∃ neg, d = ⟨1, neg, [], 0⟩) ∨ d = ⟨2, false, [], 0⟩ := by
  obtain ⟨c, n, l, e⟩ := d
  rcases h with ⟨h1, h2⟩ | ⟨h1, h2, h3⟩ | ⟨h1, h2, h3, h4⟩
  · have hc : c = 0 := by simpa using h1
    subst hc
    rcases h2 with ⟨h2, h3⟩ | ⟨h2, h3, h4, h5, h6, h7, h8⟩
    · simp only at h2 h3
      subst h2 h3
      exact .inl ⟨n, rfl⟩
    · exact .inr (.inl ⟨rfl, h2, h3, h4, h5, h6, h7, h8⟩)
  · have hc : c = 1 := by simp only at h1; omega
    simp only at h2 h3
    subst hc h2 h3
    exact .inr (.inr (.inl ⟨n, rfl⟩))
  · have hc : c = 2 := by simp only at h1; omega
    simp only at h2 h3 h4
    subst hc h2 h3 h4
    exact .inr (.inr (.inr rfl))

theorem Fin.okT {d : DecT} (h : Fin d) : OkT d.dig := ⟨h.ne, fun e => absurd e h.first, h.dig⟩
theorem Fin.val {d : DecT} (h : Fin d) : decV d.dig ≠ 0 := decV_ne h.ne h.first h.dig

theorem Fin.back {d : DecT} (h : Fin d) : Lib.decDigits (decV d.dig) = d.dig := by
  rcases hl : d.dig.length with _ | n
  · exact absurd (List.length_eq_zero_iff.1 hl) h.ne
  · exact dd_back n _ hl h.okT

theorem cut0_last {l : List UInt8} (h : l ≠ []) (h2 : byt l (l.length - 1) ≠ 48) : cut0 l = l := by
  obtain ⟨a, x, rfl⟩ : ∃ a x, l = a ++ [x] := ⟨l.dropLast, l.getLast h, (List.dropLast_concat_getLast h).symm⟩
  refine cut0_snoc a (fun e => h2 ?_)
  rw [show (a ++ [x]).length - 1 = a.length by simp, byt_last, e]; rfl

theorem Fin.fin {d : DecT} (h : Fin d) : finD d.neg (decV d.dig) d.exp = d := by
  unfold finD decA tellDec
  rw [if_neg h.val, h.back, cut0_last h.ne h.last]
  obtain ⟨c, n, l, e⟩ := d
  have := h.cls
  simp only at this
  subst this
  simp only
  congr 1
  omega

/-- What a Dec's digits are worth, counted in 10^-9000. -/
def amt (l : List UInt8) (e : Int) : Nat := decV l * 10 ^ (e + 9000).toNat

/-- Signed. -/
def zD (neg : Bool) (n : Nat) : Int := if neg then -(n : Int) else (n : Int)

def vD (d : DecT) : Int := zD d.neg (amt d.dig d.exp)

theorem zD_zero (neg : Bool) : zD neg 0 = 0 := by cases neg <;> rfl
theorem zD_mul (neg : Bool) (n k : Nat) : zD neg (n * k) = zD neg n * (k : Int) := by cases neg <;> simp [zD, Int.neg_mul]

theorem pow_toNat {e : Int} {k : Nat} (h : -9000 ≤ e) : 10 ^ (e + (k : Int) + 9000).toNat = 10 ^ k * 10 ^ (e + 9000).toNat := by
  rw [← Nat.pow_add]; congr 1; omega

theorem amt_decA {neg : Bool} {N : Nat} {e : Int} (h : N ≠ 0) (he : -9000 ≤ e) : amt (decA neg N e).dig (decA neg N e).exp = N * 10 ^ (e + 9000).toNat := by
  obtain ⟨M, k, h1, _, h3⟩ := decA_form neg e h
  rw [h3]
  simp only [amt]
  rw [dd_val, pow_toNat he, h1, Nat.mul_assoc]

theorem vD_fin {neg : Bool} {N : Nat} {e : Int} (he : -9000 ≤ e) : vD (finD neg N e) = zD neg N * ((10 ^ (e + 9000).toNat : Nat) : Int) := by
  unfold finD
  by_cases h : N = 0
  · subst h
    rw [if_pos rfl]
    simp only [vD, amt, decV, List.foldl_nil, Nat.zero_mul, zD_zero, Int.zero_mul]
  · rw [if_neg h]
    unfold vD
    rw [amt_decA h he, show (decA neg N e).neg = neg from rfl, zD_mul]

theorem finD_cls (neg : Bool) (N : Nat) (e : Int) : (finD neg N e).cls = 0 := by
  unfold finD; split <;> rfl

/-- Greater than any finite number that may be. -/
def topN : Nat := powT 10 11000
def topNN : Nat := powT 10 11001
theorem top_lt : topN < topNN := by decide +kernel

theorem Fin.amt_lt {d : DecT} (h : Fin d) : amt d.dig d.exp < 10 ^ (d.exp + d.dig.length + 9000).toNat := by
  unfold amt
  have h1 := decV_lt d.dig.length d.dig rfl h.dig
  have h2 := h.len
  have h3 := h.lo
  rw [show (d.exp + d.dig.length + 9000).toNat = d.dig.length + (d.exp + 9000).toNat by omega, Nat.pow_add]
  exact Nat.mul_lt_mul_of_pos_right h1 (Nat.pow_pos (by omega))

theorem Fin.amt_ge {d : DecT} (h : Fin d) : 10 ^ (d.exp + d.dig.length + 8999).toNat ≤ amt d.dig d.exp := by
  unfold amt
  have h1 := sizeN_ge h.val
  unfold sizeN at h1
  rw [h.back] at h1
  have h2 := h.len
  have h3 := h.lo
  have h4 := List.length_pos_iff.2 h.ne
  rw [show (d.exp + d.dig.length + 8999).toNat = (d.dig.length - 1) + (d.exp + 9000).toNat by omega, Nat.pow_add]
  exact Nat.mul_le_mul_right _ h1

theorem Fin.amt_top {d : DecT} (h : Fin d) : amt d.dig d.exp < topN := by
  refine Nat.lt_of_lt_of_le h.amt_lt ?_
  have := h.hi
  exact powT_ge (by omega) (by omega)

theorem Fin.amt_pos {d : DecT} (h : Fin d) : 0 < amt d.dig d.exp := Nat.lt_of_lt_of_le (Nat.pow_pos (by omega)) h.amt_ge

/-- Where a Dec stands among all that may be. -/
def wD (d : DecT) : Int := if d.cls = 2 then (topNN : Int) else if d.cls = 1 then zD d.neg topN else vD d

/-- How two stand. -/
def cmpI (x y : Int) : Int := if x < y then -1 else if y < x then 1 else 0

theorem cmpI_neg (x y : Int) : cmpI (-x) (-y) = cmpI y x := by
  unfold cmpI
  by_cases h1 : x < y
  · rw [if_neg (by omega), if_pos (by omega), if_neg (by omega), if_pos h1]
  · by_cases h2 : y < x
    · rw [if_pos (by omega), if_pos h2]
    · rw [if_neg (by omega), if_neg (by omega), if_neg (by omega), if_neg (by omega)]

theorem cmpI_mul (x y : Int) {k : Nat} (hk : 0 < k) : cmpI (x * (k : Int)) (y * (k : Int)) = cmpI x y := by
  have hk' : (0 : Int) < (k : Int) := by omega
  unfold cmpI
  by_cases h1 : x < y
  · rw [if_pos h1, if_pos (Int.mul_lt_mul_of_pos_right h1 hk')]
  · by_cases h2 : y < x
    · have := Int.mul_lt_mul_of_pos_right h2 hk'
      rw [if_neg h1, if_pos h2, if_neg (by omega), if_pos this]
    · have : x = y := by omega
      subst this
      rw [if_neg (by omega), if_neg (by omega), if_neg (by omega), if_neg (by omega)]

theorem cmpI_nat (x y : Nat) : cmpI (x : Int) (y : Int) = if x < y then -1 else if y < x then 1 else 0 := by
  unfold cmpI
  simp only [Int.ofNat_lt]

/-- Digits of one place, the last not a nought, stand as their bytes do. -/
theorem cmp_bytes : ∀ (a b : List UInt8) (M : Nat), DigB a → DigB b → (a ≠ [] → byt a (a.length - 1) ≠ 48) → (b ≠ [] → byt b (b.length - 1) ≠ 48) → a.length ≤ M → b.length ≤ M →
    Lib.compareBytes a b = cmpI ((decV a * 10 ^ (M - a.length) : Nat) : Int) ((decV b * 10 ^ (M - b.length) : Nat) : Int)
  | [], [], M, _, _, _, _, _, _ => by simp [Lib.compareBytes, decV, cmpI]
  | [], y :: t, M, _, hb, _, lb, _, _ => by
    have hp := tail_pos hb (lb (by simp))
    have : 0 < decV (y :: t) * 10 ^ (M - (y :: t).length) := Nat.mul_pos hp (Nat.pow_pos (by omega))
    rw [cmpI_nat, if_pos (by simpa [decV] using this)]
    rfl
  | x :: s, [], M, ha, _, la, _, _, _ => by
    have hp := tail_pos ha (la (by simp))
    have : 0 < decV (x :: s) * 10 ^ (M - (x :: s).length) := Nat.mul_pos hp (Nat.pow_pos (by omega))
    rw [cmpI_nat, if_neg (by simp [decV]), if_pos (by simpa [decV] using this)]
    rfl
  | x :: s, y :: t, M, ha, hb, la, lb, hla, hlb => by
    simp only [List.length_cons] at hla hlb
    obtain ⟨m, rfl⟩ : ∃ m, M = m + 1 := ⟨M - 1, by omega⟩
    have hx := ha.head
    have hy := hb.head
    have e1 : decV (x :: s) * 10 ^ (m + 1 - (x :: s).length) = (x.toNat - 48) * 10 ^ m + decV s * 10 ^ (m - s.length) := by
      rw [decV_cons, Nat.add_mul, Nat.mul_assoc, ← Nat.pow_add, List.length_cons]
      congr 3 <;> omega
    have e2 : decV (y :: t) * 10 ^ (m + 1 - (y :: t).length) = (y.toNat - 48) * 10 ^ m + decV t * 10 ^ (m - t.length) := by
      rw [decV_cons, Nat.add_mul, Nat.mul_assoc, ← Nat.pow_add, List.length_cons]
      congr 3 <;> omega
    have b1 : decV s * 10 ^ (m - s.length) < 10 ^ m := by
      have := Nat.mul_lt_mul_of_pos_right (decV_lt s.length s rfl ha.tail) (Nat.pow_pos (n := m - s.length) (show 0 < 10 by omega))
      rwa [← Nat.pow_add, show s.length + (m - s.length) = m by omega] at this
    have b2 : decV t * 10 ^ (m - t.length) < 10 ^ m := by
      have := Nat.mul_lt_mul_of_pos_right (decV_lt t.length t rfl hb.tail) (Nat.pow_pos (n := m - t.length) (show 0 < 10 by omega))
      rwa [← Nat.pow_add, show t.length + (m - t.length) = m by omega] at this
    have ih := cmp_bytes s t m ha.tail hb.tail (last_tail la) (last_tail lb) (by omega) (by omega)
    rw [e1, e2, cmpI_nat]
    rw [cmpI_nat] at ih
    have ul : ∀ p q : UInt8, (p < q) = (p.toNat < q.toNat) := fun p q => rfl
    simp only [Lib.compareBytes, ul]
    generalize decV s * 10 ^ (m - s.length) = S at *
    generalize decV t * 10 ^ (m - t.length) = T at *
    generalize (10 : Nat) ^ m = E at *
    rcases Nat.lt_trichotomy x.toNat y.toNat with h | h | h
    · have : (x.toNat - 48 + 1) * E ≤ (y.toNat - 48) * E := Nat.mul_le_mul_right _ (by omega)
      rw [Nat.add_mul] at this
      rw [if_pos h, if_pos (by omega)]
    · rw [if_neg (by omega), if_neg (by omega), ih, h]
      by_cases h1 : S < T
      · rw [if_pos h1, if_pos (by omega)]
      · by_cases h2 : T < S
        · rw [if_neg h1, if_pos h2, if_neg (by omega), if_pos (by omega)]
        · rw [if_neg h1, if_neg h2, if_neg (by omega), if_neg (by omega)]
    · have : (y.toNat - 48 + 1) * E ≤ (x.toNat - 48) * E := Nat.mul_le_mul_right _ (by omega)
      rw [Nat.add_mul] at this
      rw [if_neg (by omega), if_pos h, if_neg (by omega), if_pos (by omega)]
where
  tail_pos {x : UInt8} {s : List UInt8} (hd : DigB (x :: s)) (hl : byt (x :: s) ((x :: s).length - 1) ≠ 48) : 0 < decV (x :: s) := by
    obtain ⟨a, z, e⟩ : ∃ a z, x :: s = a ++ [z] := ⟨(x :: s).dropLast, (x :: s).getLast (by simp), (List.dropLast_concat_getLast (by simp)).symm⟩
    rw [e] at hd hl ⊢
    rw [show (a ++ [z]).length - 1 = a.length by simp, byt_last] at hl
    have := hd a.length (by simp)
    rw [byt_last] at this
    rw [decV_last]
    omega
  last_tail {x : UInt8} {s : List UInt8} (h : x :: s ≠ [] → byt (x :: s) ((x :: s).length - 1) ≠ 48) (hs : s ≠ []) : byt s (s.length - 1) ≠ 48 := by
    have h1 := h (by simp)
    have h2 := List.length_pos_iff.2 hs
    rw [show (x :: s).length - 1 = (s.length - 1) + 1 by simp; omega, byt_consS] at h1
    exact h1

end Go.Proofs.YtifpacgacbpalaaGreatDoor
