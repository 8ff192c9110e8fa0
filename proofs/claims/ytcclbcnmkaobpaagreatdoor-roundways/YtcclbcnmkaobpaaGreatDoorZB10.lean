/-
  What quipuref04's May does.
  Numbers that calls answer in a region that draws its order: where they lie, and what stays.
  Where the ways through a region meet that lays a Dec variable between its calls.
  The walk of RoundWays: nothing is asked.
  The walk of RoundWays: a number with digits behind the place.
  The walk of RoundWays: a number without.
  The walk of RoundWays: zeros.
  The walk of RoundWays: infinities and NaN.
-/
import Derived.Test.YtcclbcnmkaobpaaGreatDoorZB9
import Derived.Test.YtcclbcnmkaobpaaGreatDoorZB5
import Derived.Deep.RegionHeld3
import Derived.Deep.DeepCutAuto
import Derived.Deep.CutRange
import Derived.Test.YtcclbcnmkaobpaaGreatDoorZB6
namespace Go.Proofs.YtcclbcnmkaobpaaGreatDoor
open Go.RowKit

set_option maxRecDepth 100000 in
set_option maxHeartbeats 1000000 in
theorem rmay_1_yes (neg : Bool) (w : World) : Calls Tryz.prog 23 #[dcV 1 neg ⟨#[]⟩ 0] w fun e w' => e = .returned (.bool true) ∧ Below w.heap.size w w' := by
  go_enter Tryz.func23, Tryz.ntmps23
  go_wp2
  go_ret
  exact ⟨rfl, (Below.refl _ _).alloc (Nat.le_refl _) _⟩

set_option maxRecDepth 100000 in
set_option maxHeartbeats 1000000 in
theorem rmay_1_dig (neg : Bool) (t : ByteArray) (ex : Int) (w : World) (h : t.size ≠ 0) : Calls Tryz.prog 23 #[dcV 1 neg t ex] w fun e w' => e = .returned (.bool false) ∧ Below w.heap.size w w' := by
  have e0 : ((t.size : Int) == 0) = false := by
    have : ¬ (t.size : Int) = 0 := by omega
    simpa using this
  go_enter Tryz.func23, Tryz.ntmps23
  go_wp2
  go_ret
  exact ⟨rfl, (Below.refl _ _).alloc (Nat.le_refl _) _⟩

set_option maxRecDepth 100000 in
set_option maxHeartbeats 1000000 in
theorem rmay_1_exp (neg : Bool) (ex : Int) (w : World) (h : ¬ ex = 0) : Calls Tryz.prog 23 #[dcV 1 neg ⟨#[]⟩ ex] w fun e w' => e = .returned (.bool false) ∧ Below w.heap.size w w' := by
  have e1 : (ex == 0) = false := by simpa using h
  go_enter Tryz.func23, Tryz.ntmps23
  go_wp2
  go_ret
  exact ⟨rfl, (Below.refl _ _).alloc (Nat.le_refl _) _⟩

set_option maxRecDepth 100000 in
set_option maxHeartbeats 1000000 in
theorem rmay_2_yes (w : World) : Calls Tryz.prog 23 #[dcV 2 false ⟨#[]⟩ 0] w fun e w' => e = .returned (.bool true) ∧ Below w.heap.size w w' := by
  go_enter Tryz.func23, Tryz.ntmps23
  go_wp2
  go_ret
  exact ⟨rfl, (Below.refl _ _).alloc (Nat.le_refl _) _⟩

set_option maxRecDepth 100000 in
set_option maxHeartbeats 1000000 in
theorem rmay_2_neg (t : ByteArray) (ex : Int) (w : World) : Calls Tryz.prog 23 #[dcV 2 true t ex] w fun e w' => e = .returned (.bool false) ∧ Below w.heap.size w w' := by
  go_enter Tryz.func23, Tryz.ntmps23
  go_wp2
  go_ret
  exact ⟨rfl, (Below.refl _ _).alloc (Nat.le_refl _) _⟩

set_option maxRecDepth 100000 in
set_option maxHeartbeats 1000000 in
theorem rmay_2_dig (t : ByteArray) (ex : Int) (w : World) (h : t.size ≠ 0) : Calls Tryz.prog 23 #[dcV 2 false t ex] w fun e w' => e = .returned (.bool false) ∧ Below w.heap.size w w' := by
  have e0 : ((t.size : Int) == 0) = false := by
    have : ¬ (t.size : Int) = 0 := by omega
    simpa using this
  go_enter Tryz.func23, Tryz.ntmps23
  go_wp2
  go_ret
  exact ⟨rfl, (Below.refl _ _).alloc (Nat.le_refl _) _⟩

set_option maxRecDepth 100000 in
set_option maxHeartbeats 1000000 in
theorem rmay_2_exp (ex : Int) (w : World) (h : ¬ ex = 0) : Calls Tryz.prog 23 #[dcV 2 false ⟨#[]⟩ ex] w fun e w' => e = .returned (.bool false) ∧ Below w.heap.size w w' := by
  have e1 : (ex == 0) = false := by simpa using h
  go_enter Tryz.func23, Tryz.ntmps23
  go_wp2
  go_ret
  exact ⟨rfl, (Below.refl _ _).alloc (Nat.le_refl _) _⟩

set_option maxRecDepth 100000 in
set_option maxHeartbeats 1000000 in
theorem rmay_9 (c : Int) (neg : Bool) (t : ByteArray) (ex : Int) (w : World) (h0 : ¬ c = 0) (h1 : ¬ c = 1) (h2 : ¬ c = 2) : Calls Tryz.prog 23 #[dcV c neg t ex] w fun e w' => e = .returned (.bool false) ∧ Below w.heap.size w w' := by
  have c0 : (c != 0) = true := by simpa using h0
  have c1 : (c == 1) = false := by simpa using h1
  have c2 : (c == 2) = false := by simpa using h2
  go_enter Tryz.func23, Tryz.ntmps23
  go_wp2
  go_ret
  exact ⟨rfl, (Below.refl _ _).alloc (Nat.le_refl _) _⟩

set_option maxRecDepth 100000 in
set_option maxHeartbeats 1000000 in
theorem rmay_0_nil (neg : Bool) (w : World) : Calls Tryz.prog 23 #[dcV 0 neg ⟨#[]⟩ 0] w fun e w' => e = .returned (.bool true) ∧ Below w.heap.size w w' := by
  go_enter Tryz.func23, Tryz.ntmps23
  go_wp2
  go_ret
  exact ⟨rfl, (Below.refl _ _).alloc (Nat.le_refl _) _⟩

set_option maxRecDepth 100000 in
set_option maxHeartbeats 1000000 in
theorem rmay_0_nilexp (neg : Bool) (ex : Int) (w : World) (h : ¬ ex = 0) : Calls Tryz.prog 23 #[dcV 0 neg ⟨#[]⟩ ex] w fun e w' => e = .returned (.bool false) ∧ Below w.heap.size w w' := by
  have e1 : (ex == 0) = false := by simpa using h
  go_enter Tryz.func23, Tryz.ntmps23
  go_wp2
  go_ret
  exact ⟨rfl, (Below.refl _ _).alloc (Nat.le_refl _) _⟩

set_option maxRecDepth 100000 in
set_option maxHeartbeats 1000000 in
theorem rmay_0_long (neg : Bool) (t : ByteArray) (ex : Int) (w : World) (h : 1000 < t.size) : Calls Tryz.prog 23 #[dcV 0 neg t ex] w fun e w' => e = .returned (.bool false) ∧ Below w.heap.size w w' := by
  have e0 : ((t.size : Int) == 0) = false := by
    have : ¬ (t.size : Int) = 0 := by omega
    simpa using this
  have e1 : decide ((1000 : Int) < (t.size : Int)) = true := decide_eq_true (by omega)
  go_enter Tryz.func23, Tryz.ntmps23
  go_wp2
  go_ret
  exact ⟨rfl, (Below.refl _ _).alloc (Nat.le_refl _) _⟩

set_option maxRecDepth 100000 in
set_option maxHeartbeats 1000000 in
theorem rmay_0_elow (neg : Bool) (t : ByteArray) (ex : Int) (w : World) (j : Nat) (hj : t.size = j + 1) (h : j + 1 ≤ 1000) (he : ex < -4000) : Calls Tryz.prog 23 #[dcV 0 neg t ex] w fun e w' => e = .returned (.bool false) ∧ Below w.heap.size w w' := by
  have e0 : ((j : Int) + 1 == 0) = false := by
    have : ¬ (j : Int) + 1 = 0 := by omega
    simpa using this
  have e1 : decide ((1000 : Int) < (j : Int) + 1) = false := decide_eq_false (by omega)
  have e2 : decide (ex < -4000) = true := decide_eq_true (by omega)
  go_enter Tryz.func23, Tryz.ntmps23
  go_wp2
  go_ret
  exact ⟨rfl, (Below.refl _ _).alloc (Nat.le_refl _) _⟩

set_option maxRecDepth 100000 in
set_option maxHeartbeats 1000000 in
theorem rmay_0_ehigh (neg : Bool) (t : ByteArray) (ex : Int) (w : World) (j : Nat) (hj : t.size = j + 1) (h : j + 1 ≤ 1000) (he : 4000 < ex) : Calls Tryz.prog 23 #[dcV 0 neg t ex] w fun e w' => e = .returned (.bool false) ∧ Below w.heap.size w w' := by
  have e0 : ((j : Int) + 1 == 0) = false := by
    have : ¬ (j : Int) + 1 = 0 := by omega
    simpa using this
  have e1 : decide ((1000 : Int) < (j : Int) + 1) = false := decide_eq_false (by omega)
  have e2 : decide (ex < -4000) = false := decide_eq_false (by omega)
  have e3 : decide ((4000 : Int) < ex) = true := decide_eq_true (by omega)
  go_enter Tryz.func23, Tryz.ntmps23
  go_wp2
  go_ret
  exact ⟨rfl, (Below.refl _ _).alloc (Nat.le_refl _) _⟩

set_option maxRecDepth 100000 in
set_option maxHeartbeats 1000000 in
theorem rmay_0_low (neg : Bool) (t : ByteArray) (ex : Int) (w : World) (j : Nat) (hj : t.size = j + 1) (h : j + 1 ≤ 1000) (h2 : -4000 ≤ ex) (h3 : ex ≤ 4000) (he : (j : Int) + 1 + ex < -2000) : Calls Tryz.prog 23 #[dcV 0 neg t ex] w fun e w' => e = .returned (.bool false) ∧ Below w.heap.size w w' := by
  have e0 : ((j : Int) + 1 == 0) = false := by
    have : ¬ (j : Int) + 1 = 0 := by omega
    simpa using this
  have e1 : decide ((1000 : Int) < (j : Int) + 1) = false := decide_eq_false (by omega)
  have e2 : decide (ex < -4000) = false := decide_eq_false (by omega)
  have e3 : decide ((4000 : Int) < ex) = false := decide_eq_false (by omega)
  have e4 : decide ((j : Int) + 1 + ex < -2000) = true := decide_eq_true (by omega)
  go_enter Tryz.func23, Tryz.ntmps23
  go_wp2
  go_ret
  exact ⟨rfl, (Below.refl _ _).alloc (Nat.le_refl _) _⟩

set_option maxRecDepth 100000 in
set_option maxHeartbeats 1000000 in
theorem rmay_0_high (neg : Bool) (t : ByteArray) (ex : Int) (w : World) (j : Nat) (hj : t.size = j + 1) (h : j + 1 ≤ 1000) (h2 : -4000 ≤ ex) (h3 : ex ≤ 4000) (he : 2000 < (j : Int) + 1 + ex) : Calls Tryz.prog 23 #[dcV 0 neg t ex] w fun e w' => e = .returned (.bool false) ∧ Below w.heap.size w w' := by
  have e0 : ((j : Int) + 1 == 0) = false := by
    have : ¬ (j : Int) + 1 = 0 := by omega
    simpa using this
  have e1 : decide ((1000 : Int) < (j : Int) + 1) = false := decide_eq_false (by omega)
  have e2 : decide (ex < -4000) = false := decide_eq_false (by omega)
  have e3 : decide ((4000 : Int) < ex) = false := decide_eq_false (by omega)
  have e4 : decide ((j : Int) + 1 + ex < -2000) = false := decide_eq_false (by omega)
  have e5 : decide ((2000 : Int) < (j : Int) + 1 + ex) = true := decide_eq_true (by omega)
  go_enter Tryz.func23, Tryz.ntmps23
  go_wp2
  go_ret
  exact ⟨rfl, (Below.refl _ _).alloc (Nat.le_refl _) _⟩

set_option maxRecDepth 100000 in
set_option maxHeartbeats 1000000 in
theorem rmay_0_bad (neg : Bool) (t : ByteArray) (ex : Int) (w : World) (j : Nat) (hj : t.size = j + 1) (h : j + 1 ≤ 1000) (h2 : -4000 ≤ ex) (h3 : ex ≤ 4000) (h4 : -2000 ≤ (j : Int) + 1 + ex) (h5 : (j : Int) + 1 + ex ≤ 2000) (b : Nat) (hb : b < j + 1) (hd : ¬ (48 ≤ byt (bys t) b ∧ byt (bys t) b ≤ 57)) : Calls Tryz.prog 23 #[dcV 0 neg t ex] w fun e w' => e = .returned (.bool false) ∧ Below w.heap.size w w' := by
  have e0 : ((j : Int) + 1 == 0) = false := by
    have : ¬ (j : Int) + 1 = 0 := by omega
    simpa using this
  have e1 : decide ((1000 : Int) < (j : Int) + 1) = false := decide_eq_false (by omega)
  have e2 : decide (ex < -4000) = false := decide_eq_false (by omega)
  have e3 : decide ((4000 : Int) < ex) = false := decide_eq_false (by omega)
  have e4 : decide ((j : Int) + 1 + ex < -2000) = false := decide_eq_false (by omega)
  have e5 : decide ((2000 : Int) < (j : Int) + 1 + ex) = false := decide_eq_false (by omega)
  have HD := hide hd
  clear hd
  have HB : Hid (Below w.heap.size w (w.alloc (.cells #[.int .i64 0, .bool neg, .string t, .int .i64 ex] 23))) := (Below.refl _ _).alloc (Nat.le_refl _) _
  have blk := Blk.new w #[.int .i64 0, .bool neg, .string t, .int .i64 ex] 23
  obtain ⟨W, hW⟩ : ∃ W, W = w.alloc (.cells #[.int .i64 0, .bool neg, .string t, .int .i64 ex] 23) := ⟨_, rfl⟩
  rw [← hW] at blk HB
  have k2 : W.cell? ⟨w.heap.size, 2, none⟩ = some (.string t) := blk.cell 2
  have k3 : W.cell? ⟨w.heap.size, 3, none⟩ = some (.int .i64 ex) := blk.cell 3
  have HW := hide hW
  clear blk hW
  go_enter Tryz.func23, Tryz.ntmps23
  go_wp2
  simp only [← HW.out]
  go_loopw [4] (fun i wr => ∃ k : Nat, k ≤ b ∧ i = .int .i64 (k : Int) ∧ wr = W) (fun i _ => j + 1 - (intOf i).toNat)
  case atStart => exact ⟨0, Nat.zero_le _, rfl, rfl⟩
  case round =>
    obtain ⟨k, hk, rfl, rfl⟩ := hrel
    have hlt' : (k : Int) < (j : Int) + 1 := by omega
    have hks : k < t.size := by omega
    have hks' : (k : Int) < (t.size : Int) := by omega
    have hg : ∀ h : k < t.size, t[k].toNat = byt (bys t) k := fun h => byt_get t k h
    obtain ⟨v, hv⟩ : ∃ v, v = byt (bys t) k := ⟨_, rfl⟩
    rw [← hv] at hg
    have HV := hide hv
    clear hv
    by_cases g1 : v < 48
    · have g1' : (v : Int) < 48 := by omega
      go_wp2
      go_ret
      exact ⟨rfl, HB.out⟩
    · have g1' : ¬ (v : Int) < 48 := by omega
      by_cases g2 : 57 < v
      · have g2' : (57 : Int) < (v : Int) := by omega
        go_wp2
        go_ret
        exact ⟨rfl, HB.out⟩
      · have g2' : ¬ (57 : Int) < (v : Int) := by omega
        have hne : k ≠ b := fun e => HD.out (by rw [← e, ← HV.out]; omega)
        go_wp2
        exact ⟨⟨k + 1, by omega, by go_num, trivial⟩, by simp [intOf]; omega⟩

set_option maxRecDepth 100000 in
set_option maxHeartbeats 1000000 in
theorem rmay_0_yes (neg : Bool) (t : ByteArray) (ex : Int) (w : World) (j : Nat) (hj : t.size = j + 1) (h : j + 1 ≤ 1000) (h2 : -4000 ≤ ex) (h3 : ex ≤ 4000) (h4 : -2000 ≤ (j : Int) + 1 + ex) (h5 : (j : Int) + 1 + ex ≤ 2000) (hf : byt (bys t) 0 ≠ 48) (hla : byt (bys t) j ≠ 48) (hd : DigB (bys t)) : Calls Tryz.prog 23 #[dcV 0 neg t ex] w fun e w' => e = .returned (.bool true) ∧ Below w.heap.size w w' := by
  have e0 : ((j : Int) + 1 == 0) = false := by
    have : ¬ (j : Int) + 1 = 0 := by omega
    simpa using this
  have e1 : decide ((1000 : Int) < (j : Int) + 1) = false := decide_eq_false (by omega)
  have e2 : decide (ex < -4000) = false := decide_eq_false (by omega)
  have e3 : decide ((4000 : Int) < ex) = false := decide_eq_false (by omega)
  have e4 : decide ((j : Int) + 1 + ex < -2000) = false := decide_eq_false (by omega)
  have e5 : decide ((2000 : Int) < (j : Int) + 1 + ex) = false := decide_eq_false (by omega)
  have HD := hide hd
  have hg0 : ∀ h : 0 < t.size, t[0].toNat = byt (bys t) 0 := fun h => byt_get t 0 h
  have hgz : ∀ h : j < t.size, t[j].toNat = byt (bys t) j := fun h => byt_get t j h
  have hp0 : 0 < t.size := by omega
  have hp1 : j < t.size := by omega
  have hp1' : (j : Int) < (t.size : Int) := by omega
  obtain ⟨a, ha⟩ : ∃ b, b = byt (bys t) 0 := ⟨_, rfl⟩
  obtain ⟨z, hz⟩ : ∃ b, b = byt (bys t) j := ⟨_, rfl⟩
  rw [← ha] at hg0 hf
  rw [← hz] at hgz hla
  have ca : ((a : Int) != 48) = true := by
    have : ¬ (a : Int) = 48 := by omega
    simpa using this
  have cz : ((z : Int) != 48) = true := by
    have : ¬ (z : Int) = 48 := by omega
    simpa using this
  clear hd ha hz hf hla
  have HB : Hid (Below w.heap.size w (w.alloc (.cells #[.int .i64 0, .bool neg, .string t, .int .i64 ex] 23))) := (Below.refl _ _).alloc (Nat.le_refl _) _
  have blk := Blk.new w #[.int .i64 0, .bool neg, .string t, .int .i64 ex] 23
  obtain ⟨W, hW⟩ : ∃ W, W = w.alloc (.cells #[.int .i64 0, .bool neg, .string t, .int .i64 ex] 23) := ⟨_, rfl⟩
  rw [← hW] at blk HB
  have k2 : W.cell? ⟨w.heap.size, 2, none⟩ = some (.string t) := blk.cell 2
  have k3 : W.cell? ⟨w.heap.size, 3, none⟩ = some (.int .i64 ex) := blk.cell 3
  have HW := hide hW
  clear blk hW
  go_enter Tryz.func23, Tryz.ntmps23
  go_wp2
  simp only [← HW.out]
  go_loopw [4] (fun i wr => ∃ k : Nat, k ≤ j + 1 ∧ i = .int .i64 (k : Int) ∧ wr = W) (fun i _ => j + 1 - (intOf i).toNat)
  case atStart => exact ⟨0, Nat.zero_le _, rfl, rfl⟩
  case round =>
    obtain ⟨k, hk, rfl, rfl⟩ := hrel
    by_cases hlt : k < j + 1
    · have hlt' : (k : Int) < (j : Int) + 1 := by omega
      have hks : k < t.size := by omega
      have hks' : (k : Int) < (t.size : Int) := by omega
      have hg : ∀ h : k < t.size, t[k].toNat = byt (bys t) k := fun h => byt_get t k h
      have hb := HD.out k (by rw [bys_len, hj]; exact hlt)
      obtain ⟨v, hv⟩ : ∃ v, v = byt (bys t) k := ⟨_, rfl⟩
      rw [← hv] at hg hb
      have g1' : ¬ (v : Int) < 48 := by omega
      have g2' : ¬ (57 : Int) < (v : Int) := by omega
      clear hv hg0 hgz ca cz
      go_wp2
      exact ⟨⟨k + 1, by omega, by go_num, trivial⟩, by simp [intOf]; omega⟩
    · have hlt' : ¬ (k : Int) < (j : Int) + 1 := by omega
      go_wp2
      go_ret
      exact ⟨rfl, HB.out⟩

set_option maxRecDepth 100000 in
set_option maxHeartbeats 1000000 in
theorem rmay_0_last (neg : Bool) (t : ByteArray) (ex : Int) (w : World) (j : Nat) (hj : t.size = j + 1) (h : j + 1 ≤ 1000) (h2 : -4000 ≤ ex) (h3 : ex ≤ 4000) (h4 : -2000 ≤ (j : Int) + 1 + ex) (h5 : (j : Int) + 1 + ex ≤ 2000) (hf : byt (bys t) 0 ≠ 48) (hla : byt (bys t) j = 48) (hd : DigB (bys t)) : Calls Tryz.prog 23 #[dcV 0 neg t ex] w fun e w' => e = .returned (.bool false) ∧ Below w.heap.size w w' := by
  have e0 : ((j : Int) + 1 == 0) = false := by
    have : ¬ (j : Int) + 1 = 0 := by omega
    simpa using this
  have e1 : decide ((1000 : Int) < (j : Int) + 1) = false := decide_eq_false (by omega)
  have e2 : decide (ex < -4000) = false := decide_eq_false (by omega)
  have e3 : decide ((4000 : Int) < ex) = false := decide_eq_false (by omega)
  have e4 : decide ((j : Int) + 1 + ex < -2000) = false := decide_eq_false (by omega)
  have e5 : decide ((2000 : Int) < (j : Int) + 1 + ex) = false := decide_eq_false (by omega)
  have HD := hide hd
  have hg0 : ∀ h : 0 < t.size, t[0].toNat = byt (bys t) 0 := fun h => byt_get t 0 h
  have hgz : ∀ h : j < t.size, t[j].toNat = byt (bys t) j := fun h => byt_get t j h
  have hp0 : 0 < t.size := by omega
  have hp1 : j < t.size := by omega
  have hp1' : (j : Int) < (t.size : Int) := by omega
  obtain ⟨a, ha⟩ : ∃ b, b = byt (bys t) 0 := ⟨_, rfl⟩
  obtain ⟨z, hz⟩ : ∃ b, b = byt (bys t) j := ⟨_, rfl⟩
  rw [← ha] at hg0 hf
  rw [← hz] at hgz hla
  have ca : ((a : Int) != 48) = true := by
    have : ¬ (a : Int) = 48 := by omega
    simpa using this
  have cz : ((z : Int) != 48) = false := by
    have : (z : Int) = 48 := by omega
    rw [this]; rfl
  clear hd ha hz hf hla
  have HB : Hid (Below w.heap.size w (w.alloc (.cells #[.int .i64 0, .bool neg, .string t, .int .i64 ex] 23))) := (Below.refl _ _).alloc (Nat.le_refl _) _
  have blk := Blk.new w #[.int .i64 0, .bool neg, .string t, .int .i64 ex] 23
  obtain ⟨W, hW⟩ : ∃ W, W = w.alloc (.cells #[.int .i64 0, .bool neg, .string t, .int .i64 ex] 23) := ⟨_, rfl⟩
  rw [← hW] at blk HB
  have k2 : W.cell? ⟨w.heap.size, 2, none⟩ = some (.string t) := blk.cell 2
  have k3 : W.cell? ⟨w.heap.size, 3, none⟩ = some (.int .i64 ex) := blk.cell 3
  have HW := hide hW
  clear blk hW
  go_enter Tryz.func23, Tryz.ntmps23
  go_wp2
  simp only [← HW.out]
  go_loopw [4] (fun i wr => ∃ k : Nat, k ≤ j + 1 ∧ i = .int .i64 (k : Int) ∧ wr = W) (fun i _ => j + 1 - (intOf i).toNat)
  case atStart => exact ⟨0, Nat.zero_le _, rfl, rfl⟩
  case round =>
    obtain ⟨k, hk, rfl, rfl⟩ := hrel
    by_cases hlt : k < j + 1
    · have hlt' : (k : Int) < (j : Int) + 1 := by omega
      have hks : k < t.size := by omega
      have hks' : (k : Int) < (t.size : Int) := by omega
      have hg : ∀ h : k < t.size, t[k].toNat = byt (bys t) k := fun h => byt_get t k h
      have hb := HD.out k (by rw [bys_len, hj]; exact hlt)
      obtain ⟨v, hv⟩ : ∃ v, v = byt (bys t) k := ⟨_, rfl⟩
      rw [← hv] at hg hb
      have g1' : ¬ (v : Int) < 48 := by omega
      have g2' : ¬ (57 : Int) < (v : Int) := by omega
      clear hv hg0 hgz ca cz
      go_wp2
      exact ⟨⟨k + 1, by omega, by go_num, trivial⟩, by simp [intOf]; omega⟩
    · have hlt' : ¬ (k : Int) < (j : Int) + 1 := by omega
      go_wp2
      go_ret
      exact ⟨rfl, HB.out⟩

set_option maxRecDepth 100000 in
set_option maxHeartbeats 1000000 in
theorem rmay_0_first (neg : Bool) (t : ByteArray) (ex : Int) (w : World) (j : Nat) (hj : t.size = j + 1) (h : j + 1 ≤ 1000) (h2 : -4000 ≤ ex) (h3 : ex ≤ 4000) (h4 : -2000 ≤ (j : Int) + 1 + ex) (h5 : (j : Int) + 1 + ex ≤ 2000) (hf : byt (bys t) 0 = 48) (hd : DigB (bys t)) : Calls Tryz.prog 23 #[dcV 0 neg t ex] w fun e w' => e = .returned (.bool false) ∧ Below w.heap.size w w' := by
  have e0 : ((j : Int) + 1 == 0) = false := by
    have : ¬ (j : Int) + 1 = 0 := by omega
    simpa using this
  have e1 : decide ((1000 : Int) < (j : Int) + 1) = false := decide_eq_false (by omega)
  have e2 : decide (ex < -4000) = false := decide_eq_false (by omega)
  have e3 : decide ((4000 : Int) < ex) = false := decide_eq_false (by omega)
  have e4 : decide ((j : Int) + 1 + ex < -2000) = false := decide_eq_false (by omega)
  have e5 : decide ((2000 : Int) < (j : Int) + 1 + ex) = false := decide_eq_false (by omega)
  have HD := hide hd
  have hg0 : ∀ h : 0 < t.size, t[0].toNat = byt (bys t) 0 := fun h => byt_get t 0 h
  have hgz : ∀ h : j < t.size, t[j].toNat = byt (bys t) j := fun h => byt_get t j h
  have hp0 : 0 < t.size := by omega
  have hp1 : j < t.size := by omega
  have hp1' : (j : Int) < (t.size : Int) := by omega
  obtain ⟨a, ha⟩ : ∃ b, b = byt (bys t) 0 := ⟨_, rfl⟩
  obtain ⟨z, hz⟩ : ∃ b, b = byt (bys t) j := ⟨_, rfl⟩
  rw [← ha] at hg0 hf
  rw [← hz] at hgz
  have ca : ((a : Int) != 48) = false := by
    have : (a : Int) = 48 := by omega
    rw [this]; rfl
  have cz : True := trivial
  clear hd ha hz hf
  have HB : Hid (Below w.heap.size w (w.alloc (.cells #[.int .i64 0, .bool neg, .string t, .int .i64 ex] 23))) := (Below.refl _ _).alloc (Nat.le_refl _) _
  have blk := Blk.new w #[.int .i64 0, .bool neg, .string t, .int .i64 ex] 23
  obtain ⟨W, hW⟩ : ∃ W, W = w.alloc (.cells #[.int .i64 0, .bool neg, .string t, .int .i64 ex] 23) := ⟨_, rfl⟩
  rw [← hW] at blk HB
  have k2 : W.cell? ⟨w.heap.size, 2, none⟩ = some (.string t) := blk.cell 2
  have k3 : W.cell? ⟨w.heap.size, 3, none⟩ = some (.int .i64 ex) := blk.cell 3
  have HW := hide hW
  clear blk hW
  go_enter Tryz.func23, Tryz.ntmps23
  go_wp2
  simp only [← HW.out]
  go_loopw [4] (fun i wr => ∃ k : Nat, k ≤ j + 1 ∧ i = .int .i64 (k : Int) ∧ wr = W) (fun i _ => j + 1 - (intOf i).toNat)
  case atStart => exact ⟨0, Nat.zero_le _, rfl, rfl⟩
  case round =>
    obtain ⟨k, hk, rfl, rfl⟩ := hrel
    by_cases hlt : k < j + 1
    · have hlt' : (k : Int) < (j : Int) + 1 := by omega
      have hks : k < t.size := by omega
      have hks' : (k : Int) < (t.size : Int) := by omega
      have hg : ∀ h : k < t.size, t[k].toNat = byt (bys t) k := fun h => byt_get t k h
      have hb := HD.out k (by rw [bys_len, hj]; exact hlt)
      obtain ⟨v, hv⟩ : ∃ v, v = byt (bys t) k := ⟨_, rfl⟩
      rw [← hv] at hg hb
      have g1' : ¬ (v : Int) < 48 := by omega
      have g2' : ¬ (57 : Int) < (v : Int) := by omega
      clear hv hg0 hgz ca cz
      go_wp2
      exact ⟨⟨k + 1, by omega, by go_num, trivial⟩, by simp [intOf]; omega⟩
    · have hlt' : ¬ (k : Int) < (j : Int) + 1 := by omega
      go_wp2
      go_ret
      exact ⟨rfl, HB.out⟩

theorem rmay_yes (c : Int) (neg : Bool) (t : ByteArray) (ex : Int) (w : World) (h : MayD c neg (bys t) ex) : Calls Tryz.prog 23 #[dcV c neg t ex] w fun e w' => e = .returned (.bool true) ∧ Below w.heap.size w w' := by
  have h' := h
  rcases h with ⟨rfl, _⟩ | ⟨rfl, h1, rfl⟩ | ⟨rfl, rfl, h1, rfl⟩
  · rcases (mayD_0 neg t ex).1 h' with h1 | h1
    · obtain ⟨h1, rfl⟩ := h1
      rw [size_nil h1]; exact rmay_0_nil neg w
    · obtain ⟨h0, h1, h2, h3, h4, h5, h6⟩ := h1
      rw [bys_len] at h1 h2 h3 h5
      have hn0 : t.size ≠ 0 := fun e => h0 (bys_nil.2 e)
      obtain ⟨j, hj⟩ : ∃ j, t.size = j + 1 := ⟨t.size - 1, by omega⟩
      rw [show t.size - 1 = j by omega] at h5
      exact rmay_0_yes neg t ex w j hj (by omega) (by omega) (by omega) (by omega) (by omega) h4 h5 h6
  · rw [size_nil (bys_nil.1 h1)]; exact rmay_1_yes neg w
  · rw [size_nil (bys_nil.1 h1)]; exact rmay_2_yes w

theorem rmay_no (c : Int) (neg : Bool) (t : ByteArray) (ex : Int) (w : World) (h : ¬ MayD c neg (bys t) ex) : Calls Tryz.prog 23 #[dcV c neg t ex] w fun e w' => e = .returned (.bool false) ∧ Below w.heap.size w w' := by
  by_cases h0 : c = 0
  · subst h0
    rw [mayD_0] at h
    by_cases hz : t.size = 0
    · rw [size_nil hz]; exact rmay_0_nilexp neg ex w (fun e => h (.inl ⟨hz, e⟩))
    · obtain ⟨j, hj⟩ : ∃ j, t.size = j + 1 := ⟨t.size - 1, by omega⟩
      rcases Nat.lt_or_ge 1000 t.size with h1 | h1
      · exact rmay_0_long neg t ex w h1
      · by_cases h2 : ex < -4000
        · exact rmay_0_elow neg t ex w j hj (by omega) h2
        · by_cases h3 : 4000 < ex
          · exact rmay_0_ehigh neg t ex w j hj (by omega) h3
          · by_cases h4 : (j : Int) + 1 + ex < -2000
            · exact rmay_0_low neg t ex w j hj (by omega) (by omega) (by omega) h4
            · by_cases h5 : 2000 < (j : Int) + 1 + ex
              · exact rmay_0_high neg t ex w j hj (by omega) (by omega) (by omega) h5
              · by_cases hd : DigB (bys t)
                · by_cases h6 : byt (bys t) 0 = 48
                  · exact rmay_0_first neg t ex w j hj (by omega) (by omega) (by omega) (by omega) (by omega) h6 hd
                  · by_cases h7 : byt (bys t) j = 48
                    · exact rmay_0_last neg t ex w j hj (by omega) (by omega) (by omega) (by omega) (by omega) h6 h7 hd
                    · exfalso
                      apply h
                      refine .inr ?_
                      unfold DigD
                      rw [bys_len, hj]
                      exact ⟨fun e => hz (bys_nil.1 e), by omega, by omega, by omega, h6, by rw [Nat.add_sub_cancel]; exact h7, hd⟩
                · obtain ⟨k, hk⟩ := Classical.not_forall.1 hd
                  obtain ⟨hk1, hk2⟩ := Classical.not_imp.1 hk
                  rw [bys_len, hj] at hk1
                  exact rmay_0_bad neg t ex w j hj (by omega) (by omega) (by omega) (by omega) (by omega) k hk1 hk2
  · by_cases h1 : c = 1
    · subst h1
      by_cases hz : t.size = 0
      · rw [size_nil hz]
        exact rmay_1_exp neg ex w (fun e => h (.inr (.inl ⟨rfl, bys_nil.2 hz, e⟩)))
      · exact rmay_1_dig neg t ex w hz
    · by_cases h2 : c = 2
      · subst h2
        cases neg with
        | true => exact rmay_2_neg t ex w
        | false =>
          by_cases hz : t.size = 0
          · rw [size_nil hz]
            exact rmay_2_exp ex w (fun e => h (.inr (.inr ⟨rfl, rfl, bys_nil.2 hz, e⟩)))
          · exact rmay_2_dig t ex w hz
      · exact rmay_9 c neg t ex w h0 h1 h2

end Go.Proofs.YtcclbcnmkaobpaaGreatDoor

namespace Go.Proofs.YtcclbcnmkaobpaaGreatDoor
open Go.RowKit

/-- The numbers x lie at o, in a block from lo on and below hi. -/
def Res (k : IntKind) (W : World) (o : Option Addr) (x : List Nat) (lo hi : Nat) : Prop := At k W o x ∧ ∀ b f, x ≠ [] → o = some ⟨b, f, none⟩ → lo ≤ b ∧ b < hi

theorem Res.below {k : IntKind} {W W' : World} {o : Option Addr} {x : List Nat} {lo hi : Nat} (h : Res k W o x lo hi) (hb : Below W.heap.size W W') : Res k W' o x lo hi := ⟨h.1.below hb, h.2⟩

theorem Res.set {k : IntKind} {W : World} {o : Option Addr} {x : List Nat} {lo hi H i : Nat} (h : Res k W o x lo hi) (hH : H < lo ∨ hi ≤ H) (v : Value) : Res k (W.setCell ⟨H, i, none⟩ v) o x lo hi := by
  refine ⟨?_, h.2⟩
  rcases h.1 with h' | ⟨b, f, h1, h2, h3⟩
  · exact .inl h'
  · by_cases hx : x = []
    · exact .inl hx
    · have h4 := h.2 b f hx h1
      refine .inr ⟨b, f, h1, by simpa [World.setCell] using h2, fun j hj => ?_⟩
      rw [← h3 j hj]
      have hne : H ≠ b := by omega
      refine World.cell?_of_block ?_
      simp [World.setCell, Array.getElem?_modify, hne]

theorem Res.of_own {k : IntKind} {e : TypeId} {W : World} {base m cap : Nat} {o : Option Addr} {x : List Nat} (h : Own k e W base m (.slice o x.length cap) x) (hat : At k W o x) : Res k W o x base W.heap.size := by
  refine ⟨hat, fun b f hx e => ?_⟩
  rcases h with ⟨_, h2⟩ | ⟨g, full, h1, h2, h3, _⟩
  · exact absurd h2 hx
  · simp only [Value.slice.injEq] at h1
    rw [e] at h1
    simp only [Option.some.injEq, Addr.mk.injEq] at h1
    have := h3.lt
    omega

theorem bal {w W : World} (h : Hid (Below w.heap.size w W)) (o : Obj) : Hid (Below w.heap.size w (W.alloc o)) := h.out.alloc h.out.size o

/-- What a call of whole answers in a region: the number z, in its one form. -/
structure WR (W W' : World) (m : Nat) (z : Int) (s : Bool) (o : Option Addr) (c : Nat) (r : List Nat) : Prop where
  ni : NI s r z
  le : r.length ≤ c
  few : c ≤ m
  res : Res .u64 W' o r W.heap.size W'.heap.size
  bel : Below W.heap.size W W'

theorem WR.of {W W' : World} {m : Nat} {z : Int} {e : Ending} (h : WPost W m z e W') : ∃ s o c r, e = .returned (.agg #[.bool s, .slice o (List.length r) c]) ∧ Hid (WR W W' m z s o c r) := by
  obtain ⟨s, v, r, hs, rfl, hown, his, hb⟩ := h
  obtain ⟨o, c, rfl, h1, h2, h3⟩ := hown.shape
  exact ⟨s, o, c, r, rfl, NI.mk hs his, h1, h2, Res.of_own hown h3, hb⟩

/-- Behind a region that calls twice and lays both answers in variables: block H holds the first, block K the second. -/
structure Both (w W : World) (T : TypeId) (H K : Nat) (x1 y1 x2 y2 : Value) (o1 : Option Addr) (r1 : List Nat) (o2 : Option Addr) (r2 : List Nat) (k : IntKind) : Prop where
  bel : Below w.heap.size w W
  p1 : Pair W H x1 y1 T
  p2 : Pair W K x2 y2 T
  at1 : At k W o1 r1
  at2 : At k W o2 r2

theorem both {w W : World} {T : TypeId} {H K : Nat} {a b c d x1 y1 x2 y2 : Value} {o1 o2 : Option Addr} {r1 r2 : List Nat} {k : IntKind} {l1 h1 l2 h2 : Nat} (hb : Below w.heap.size w W) (p1 : Pair W H a b T) (p2 : Pair W K c d T) (hH : w.heap.size ≤ H) (hK : w.heap.size ≤ K) (hne : H ≠ K)
    (f1 : Res k W o1 r1 l1 h1) (f2 : Res k W o2 r2 l2 h2) (e1 : (H < l1 ∨ h1 ≤ H) ∧ (K < l1 ∨ h1 ≤ K)) (e2 : (H < l2 ∨ h2 ≤ H) ∧ (K < l2 ∨ h2 ≤ K)) :
    Both w ((((W.setCell ⟨H, 0, none⟩ x1).setCell ⟨H, 1, none⟩ y1).setCell ⟨K, 0, none⟩ x2).setCell ⟨K, 1, none⟩ y2) T H K x1 y1 x2 y2 o1 r1 o2 r2 k := by
  refine ⟨(((hb.setCell hH _).setCell hH _).setCell hK _).setCell hK _, ?_, ?_, ?_, ?_⟩
  · exact ((p1.put _ _).other (by exact hne) _).other (by exact hne) _
  · exact ((p2.other (by exact Ne.symm hne) _).other (by exact Ne.symm hne) _).put _ _
  · exact ((((f1.set e1.1 _).set e1.1 _).set e1.2 _).set e1.2 _).1
  · exact ((((f2.set e2.1 _).set e2.1 _).set e2.2 _).set e2.2 _).1

section
variable {w W : World} {T : TypeId} {H : Nat} {a b x1 y1 x2 y2 : Value} {o1 o2 : Option Addr} {r1 r2 : List Nat} {k : IntKind} {l1 h1 l2 h2 : Nat}
end

end Go.Proofs.YtcclbcnmkaobpaaGreatDoor

namespace Go.Proofs.YtcclbcnmkaobpaaGreatDoor
open Go.RowKit

structure CutD (W : World) (cs : Array Value) (er : Int) (v u : Value) (W' : World) : Prop where
  ex : ∃ H : Nat, v = .pointer (some ⟨H, 0, none⟩) ∧ u = .int .i64 er ∧ Blk W' H cs 23 ∧ W.heap.size ≤ H ∧ Below W.heap.size W W'

theorem cutd_old {W w3 : World} {H : Nat} {x0 x1 x2 x3 y0 y1 y2 y3 : Value} {er : Int} (hb : Below W.heap.size W w3) (q : Blk w3 H #[x0, x1, x2, x3] 23) (hH : W.heap.size ≤ H) :
    CutD W #[y0, y1, y2, y3] er (.pointer (some ⟨H, 0, none⟩)) (.int .i64 er) ((((w3.setCell ⟨H, 0, none⟩ y0).setCell ⟨H, 1, none⟩ y1).setCell ⟨H, 2, none⟩ y2).setCell ⟨H, 3, none⟩ y3) :=
  ⟨H, rfl, rfl, q.put4 _ _ _ _, hH, below_put4 hb hH _ _ _ _⟩

theorem cutd_new {W w3 : World} {cs : Array Value} {er : Int} (hb : Below W.heap.size W w3) :
    CutD W cs er (.pointer (some ⟨w3.heap.size, 0, none⟩)) (.int .i64 er) (w3.alloc (.cells cs 23)) :=
  ⟨w3.heap.size, rfl, rfl, Blk.new _ _ _, hb.size, hb.alloc hb.size _⟩

end Go.Proofs.YtcclbcnmkaobpaaGreatDoor

namespace Go.Proofs.YtcclbcnmkaobpaaGreatDoor
open Go.RowKit

set_option maxRecDepth 100000 in
set_option maxHeartbeats 2000000 in
theorem ways_no (ca : Int) (na : Bool) (ta : ByteArray) (ea : Int) (p m : Int) (w : World) (htab : Tab w) (h0 : ∀ W, Calls Tryz.prog 23 #[dcV ca na ta ea] W fun e w' => e = .returned (.bool false) ∧ Below W.heap.size W w')  : Calls Tryz.prog 9 #[dcV ca na ta ea, .int .i64 p, .int .i64 m] w fun e w' => e = .returned (.bool true) ∧ Below w.heap.size w w' := by
  have H0 := hide h0
  have HT := hide htab
  clear htab h0
  have Ba0 := hide (Blk.newAt w (w.heap.size) (rfl) #[.int .i64 ca, .bool na, .string ta, .int .i64 ea] 23)
  have HB0 : Hid (Below w.heap.size w (w.alloc (.cells #[.int .i64 ca, .bool na, .string ta, .int .i64 ea] 23))) := ((Below.refl _ _).alloc (Nat.le_refl _) _)
  go_enter Tryz.func9, Tryz.ntmps9
  go_wp2_with fail
  refine (rawake_any _ (HT.out.below HB0.out)).mono ?_
  rintro e w1 ⟨rfl, hb⟩
  have Ba1 := hide (Ba0.out.below hb Ba0.out.lt)
  have HB1 := hide (HB0.out.trans (hb.mono HB0.out.size))
  clear hb Ba0 HB0 
  have ya0 : w1.cell? ⟨w.heap.size, 0, none⟩ = some (.int .i64 ca) := Ba1.out.cell 0
  have ya1 : w1.cell? ⟨w.heap.size, 1, none⟩ = some (.bool na) := Ba1.out.cell 1
  have ya2 : w1.cell? ⟨w.heap.size, 2, none⟩ = some (.string ta) := Ba1.out.cell 2
  have ya3 : w1.cell? ⟨w.heap.size, 3, none⟩ = some (.int .i64 ea) := Ba1.out.cell 3
  go_wp2_with fail
  refine (H0.out _).mono ?_
  rintro e w2 ⟨rfl, hb⟩
  have Ba2 := hide (Ba1.out.below hb Ba1.out.lt)
  have HB2 := hide (HB1.out.trans (hb.mono HB1.out.size))
  clear hb Ba1 HB1 ya0 ya1 ya2 ya3
  have ya0 : w2.cell? ⟨w.heap.size, 0, none⟩ = some (.int .i64 ca) := Ba2.out.cell 0
  have ya1 : w2.cell? ⟨w.heap.size, 1, none⟩ = some (.bool na) := Ba2.out.cell 1
  have ya2 : w2.cell? ⟨w.heap.size, 2, none⟩ = some (.string ta) := Ba2.out.cell 2
  have ya3 : w2.cell? ⟨w.heap.size, 3, none⟩ = some (.int .i64 ea) := Ba2.out.cell 3
  go_wp2
  go_ret
  exact ⟨rfl, HB2.out⟩

set_option maxRecDepth 100000 in
set_option maxHeartbeats 2000000 in
theorem ways_mlow (ca : Int) (na : Bool) (ta : ByteArray) (ea : Int) (p m : Int) (w : World) (htab : Tab w) (h0 : ∀ W, Calls Tryz.prog 23 #[dcV ca na ta ea] W fun e w' => e = .returned (.bool true) ∧ Below W.heap.size W w') (hm : m < 0) : Calls Tryz.prog 9 #[dcV ca na ta ea, .int .i64 p, .int .i64 m] w fun e w' => e = .returned (.bool true) ∧ Below w.heap.size w w' := by
  have H0 := hide h0
  have HT := hide htab
  clear htab h0
  have Ba0 := hide (Blk.newAt w (w.heap.size) (rfl) #[.int .i64 ca, .bool na, .string ta, .int .i64 ea] 23)
  have HB0 : Hid (Below w.heap.size w (w.alloc (.cells #[.int .i64 ca, .bool na, .string ta, .int .i64 ea] 23))) := ((Below.refl _ _).alloc (Nat.le_refl _) _)
  go_enter Tryz.func9, Tryz.ntmps9
  go_wp2_with fail
  refine (rawake_any _ (HT.out.below HB0.out)).mono ?_
  rintro e w1 ⟨rfl, hb⟩
  have Ba1 := hide (Ba0.out.below hb Ba0.out.lt)
  have HB1 := hide (HB0.out.trans (hb.mono HB0.out.size))
  clear hb Ba0 HB0 
  have ya0 : w1.cell? ⟨w.heap.size, 0, none⟩ = some (.int .i64 ca) := Ba1.out.cell 0
  have ya1 : w1.cell? ⟨w.heap.size, 1, none⟩ = some (.bool na) := Ba1.out.cell 1
  have ya2 : w1.cell? ⟨w.heap.size, 2, none⟩ = some (.string ta) := Ba1.out.cell 2
  have ya3 : w1.cell? ⟨w.heap.size, 3, none⟩ = some (.int .i64 ea) := Ba1.out.cell 3
  go_wp2_with fail
  refine (H0.out _).mono ?_
  rintro e w2 ⟨rfl, hb⟩
  have Ba2 := hide (Ba1.out.below hb Ba1.out.lt)
  have HB2 := hide (HB1.out.trans (hb.mono HB1.out.size))
  clear hb Ba1 HB1 ya0 ya1 ya2 ya3
  have ya0 : w2.cell? ⟨w.heap.size, 0, none⟩ = some (.int .i64 ca) := Ba2.out.cell 0
  have ya1 : w2.cell? ⟨w.heap.size, 1, none⟩ = some (.bool na) := Ba2.out.cell 1
  have ya2 : w2.cell? ⟨w.heap.size, 2, none⟩ = some (.string ta) := Ba2.out.cell 2
  have ya3 : w2.cell? ⟨w.heap.size, 3, none⟩ = some (.int .i64 ea) := Ba2.out.cell 3
  go_wp2
  go_ret
  exact ⟨rfl, HB2.out⟩

set_option maxRecDepth 100000 in
set_option maxHeartbeats 2000000 in
theorem ways_mhigh (ca : Int) (na : Bool) (ta : ByteArray) (ea : Int) (p m : Int) (w : World) (htab : Tab w) (h0 : ∀ W, Calls Tryz.prog 23 #[dcV ca na ta ea] W fun e w' => e = .returned (.bool true) ∧ Below W.heap.size W w') (hm : 7 < m) : Calls Tryz.prog 9 #[dcV ca na ta ea, .int .i64 p, .int .i64 m] w fun e w' => e = .returned (.bool true) ∧ Below w.heap.size w w' := by
  have H0 := hide h0
  have HT := hide htab
  clear htab h0
  have Ba0 := hide (Blk.newAt w (w.heap.size) (rfl) #[.int .i64 ca, .bool na, .string ta, .int .i64 ea] 23)
  have HB0 : Hid (Below w.heap.size w (w.alloc (.cells #[.int .i64 ca, .bool na, .string ta, .int .i64 ea] 23))) := ((Below.refl _ _).alloc (Nat.le_refl _) _)
  go_enter Tryz.func9, Tryz.ntmps9
  go_wp2_with fail
  refine (rawake_any _ (HT.out.below HB0.out)).mono ?_
  rintro e w1 ⟨rfl, hb⟩
  have Ba1 := hide (Ba0.out.below hb Ba0.out.lt)
  have HB1 := hide (HB0.out.trans (hb.mono HB0.out.size))
  clear hb Ba0 HB0 
  have ya0 : w1.cell? ⟨w.heap.size, 0, none⟩ = some (.int .i64 ca) := Ba1.out.cell 0
  have ya1 : w1.cell? ⟨w.heap.size, 1, none⟩ = some (.bool na) := Ba1.out.cell 1
  have ya2 : w1.cell? ⟨w.heap.size, 2, none⟩ = some (.string ta) := Ba1.out.cell 2
  have ya3 : w1.cell? ⟨w.heap.size, 3, none⟩ = some (.int .i64 ea) := Ba1.out.cell 3
  go_wp2_with fail
  refine (H0.out _).mono ?_
  rintro e w2 ⟨rfl, hb⟩
  have Ba2 := hide (Ba1.out.below hb Ba1.out.lt)
  have HB2 := hide (HB1.out.trans (hb.mono HB1.out.size))
  clear hb Ba1 HB1 ya0 ya1 ya2 ya3
  have ya0 : w2.cell? ⟨w.heap.size, 0, none⟩ = some (.int .i64 ca) := Ba2.out.cell 0
  have ya1 : w2.cell? ⟨w.heap.size, 1, none⟩ = some (.bool na) := Ba2.out.cell 1
  have ya2 : w2.cell? ⟨w.heap.size, 2, none⟩ = some (.string ta) := Ba2.out.cell 2
  have ya3 : w2.cell? ⟨w.heap.size, 3, none⟩ = some (.int .i64 ea) := Ba2.out.cell 3
  go_wp2
  go_ret
  exact ⟨rfl, HB2.out⟩

set_option maxRecDepth 100000 in
set_option maxHeartbeats 2000000 in
theorem ways_plow (ca : Int) (na : Bool) (ta : ByteArray) (ea : Int) (p m : Int) (w : World) (htab : Tab w) (h0 : ∀ W, Calls Tryz.prog 23 #[dcV ca na ta ea] W fun e w' => e = .returned (.bool true) ∧ Below W.heap.size W w') (m1 : 0 ≤ m) (m2 : m ≤ 7) (hp : p < -1990) : Calls Tryz.prog 9 #[dcV ca na ta ea, .int .i64 p, .int .i64 m] w fun e w' => e = .returned (.bool true) ∧ Below w.heap.size w w' := by
  have H0 := hide h0
  have HT := hide htab
  clear htab h0
  have Ba0 := hide (Blk.newAt w (w.heap.size) (rfl) #[.int .i64 ca, .bool na, .string ta, .int .i64 ea] 23)
  have HB0 : Hid (Below w.heap.size w (w.alloc (.cells #[.int .i64 ca, .bool na, .string ta, .int .i64 ea] 23))) := ((Below.refl _ _).alloc (Nat.le_refl _) _)
  go_enter Tryz.func9, Tryz.ntmps9
  go_wp2_with fail
  refine (rawake_any _ (HT.out.below HB0.out)).mono ?_
  rintro e w1 ⟨rfl, hb⟩
  have Ba1 := hide (Ba0.out.below hb Ba0.out.lt)
  have HB1 := hide (HB0.out.trans (hb.mono HB0.out.size))
  clear hb Ba0 HB0 
  have ya0 : w1.cell? ⟨w.heap.size, 0, none⟩ = some (.int .i64 ca) := Ba1.out.cell 0
  have ya1 : w1.cell? ⟨w.heap.size, 1, none⟩ = some (.bool na) := Ba1.out.cell 1
  have ya2 : w1.cell? ⟨w.heap.size, 2, none⟩ = some (.string ta) := Ba1.out.cell 2
  have ya3 : w1.cell? ⟨w.heap.size, 3, none⟩ = some (.int .i64 ea) := Ba1.out.cell 3
  go_wp2_with fail
  refine (H0.out _).mono ?_
  rintro e w2 ⟨rfl, hb⟩
  have Ba2 := hide (Ba1.out.below hb Ba1.out.lt)
  have HB2 := hide (HB1.out.trans (hb.mono HB1.out.size))
  clear hb Ba1 HB1 ya0 ya1 ya2 ya3
  have ya0 : w2.cell? ⟨w.heap.size, 0, none⟩ = some (.int .i64 ca) := Ba2.out.cell 0
  have ya1 : w2.cell? ⟨w.heap.size, 1, none⟩ = some (.bool na) := Ba2.out.cell 1
  have ya2 : w2.cell? ⟨w.heap.size, 2, none⟩ = some (.string ta) := Ba2.out.cell 2
  have ya3 : w2.cell? ⟨w.heap.size, 3, none⟩ = some (.int .i64 ea) := Ba2.out.cell 3
  go_wp2
  go_ret
  exact ⟨rfl, HB2.out⟩

set_option maxRecDepth 100000 in
set_option maxHeartbeats 2000000 in
theorem ways_phigh (ca : Int) (na : Bool) (ta : ByteArray) (ea : Int) (p m : Int) (w : World) (htab : Tab w) (h0 : ∀ W, Calls Tryz.prog 23 #[dcV ca na ta ea] W fun e w' => e = .returned (.bool true) ∧ Below W.heap.size W w') (m1 : 0 ≤ m) (m2 : m ≤ 7) (hp : 1990 < p) : Calls Tryz.prog 9 #[dcV ca na ta ea, .int .i64 p, .int .i64 m] w fun e w' => e = .returned (.bool true) ∧ Below w.heap.size w w' := by
  have H0 := hide h0
  have HT := hide htab
  clear htab h0
  have Ba0 := hide (Blk.newAt w (w.heap.size) (rfl) #[.int .i64 ca, .bool na, .string ta, .int .i64 ea] 23)
  have HB0 : Hid (Below w.heap.size w (w.alloc (.cells #[.int .i64 ca, .bool na, .string ta, .int .i64 ea] 23))) := ((Below.refl _ _).alloc (Nat.le_refl _) _)
  go_enter Tryz.func9, Tryz.ntmps9
  go_wp2_with fail
  refine (rawake_any _ (HT.out.below HB0.out)).mono ?_
  rintro e w1 ⟨rfl, hb⟩
  have Ba1 := hide (Ba0.out.below hb Ba0.out.lt)
  have HB1 := hide (HB0.out.trans (hb.mono HB0.out.size))
  clear hb Ba0 HB0 
  have ya0 : w1.cell? ⟨w.heap.size, 0, none⟩ = some (.int .i64 ca) := Ba1.out.cell 0
  have ya1 : w1.cell? ⟨w.heap.size, 1, none⟩ = some (.bool na) := Ba1.out.cell 1
  have ya2 : w1.cell? ⟨w.heap.size, 2, none⟩ = some (.string ta) := Ba1.out.cell 2
  have ya3 : w1.cell? ⟨w.heap.size, 3, none⟩ = some (.int .i64 ea) := Ba1.out.cell 3
  go_wp2_with fail
  refine (H0.out _).mono ?_
  rintro e w2 ⟨rfl, hb⟩
  have Ba2 := hide (Ba1.out.below hb Ba1.out.lt)
  have HB2 := hide (HB1.out.trans (hb.mono HB1.out.size))
  clear hb Ba1 HB1 ya0 ya1 ya2 ya3
  have ya0 : w2.cell? ⟨w.heap.size, 0, none⟩ = some (.int .i64 ca) := Ba2.out.cell 0
  have ya1 : w2.cell? ⟨w.heap.size, 1, none⟩ = some (.bool na) := Ba2.out.cell 1
  have ya2 : w2.cell? ⟨w.heap.size, 2, none⟩ = some (.string ta) := Ba2.out.cell 2
  have ya3 : w2.cell? ⟨w.heap.size, 3, none⟩ = some (.int .i64 ea) := Ba2.out.cell 3
  go_wp2
  go_ret
  exact ⟨rfl, HB2.out⟩

end Go.Proofs.YtcclbcnmkaobpaaGreatDoor

namespace Go.Proofs.YtcclbcnmkaobpaaGreatDoor
open Go.RowKit

set_option maxRecDepth 100000 in
set_option maxHeartbeats 4000000 in
theorem ways_gt_in (na : Bool) (ta : ByteArray) (ea : Int) (cx : Int) (nx : Bool) (tx : ByteArray) (ex : Int) (r : Int) (p m q : Int) (w : World) (htab : Tab w) (m1 : 0 ≤ m) (m2 : m ≤ 7) (p1 : -1990 ≤ p) (p2 : p ≤ 1990) (h0 : ta.size ≠ 0) (hp : ea < p) (q1 : 1 ≤ q - p) (q2 : q - p ≤ 1000) (g0 : ∀ W, Calls Tryz.prog 23 #[.agg #[.int .i64 0, .bool na, .string ta, .int .i64 ea]] W fun e w' => e = .returned (.bool true) ∧ Below W.heap.size W w') (g1 : ∀ W, Tab W → Calls Tryz.prog 11 #[.agg #[.int .i64 0, .bool na, .string ta, .int .i64 ea], .int .i64 p, .int .i64 m] W fun e w' => e = .returned (.tuple #[.agg #[.int .i64 cx, .bool nx, .string tx, .int .i64 ex], .int .i64 r]) ∧ Below W.heap.size W w') (g2 : ∀ W, Tab W → Calls Tryz.prog 16 #[.agg #[.int .i64 0, .bool na, .string ta, .int .i64 ea], dcV 0 false ⟨#[49]⟩ p, .int .i64 m] W fun e w' => e = .returned (.tuple #[.agg #[.int .i64 cx, .bool nx, .string tx, .int .i64 ex], .int .i64 r]) ∧ Below W.heap.size W w') (g3 : ∀ W, Calls Tryz.prog 25 #[.agg #[.int .i64 0, .bool na, .string ta, .int .i64 ea]] W fun e w' => e = .returned (.int .i64 q) ∧ Below W.heap.size W w') (g4 : ∀ W, Tab W → Calls Tryz.prog 14 #[.agg #[.int .i64 0, .bool na, .string ta, .int .i64 ea], .int .i64 (q - p), .int .i64 m] W fun e w' => e = .returned (.tuple #[.agg #[.int .i64 cx, .bool nx, .string tx, .int .i64 ex], .int .i64 r]) ∧ Below W.heap.size W w') : Calls Tryz.prog 9 #[.agg #[.int .i64 0, .bool na, .string ta, .int .i64 ea], .int .i64 p, .int .i64 m] w fun e w' => e = .returned (.bool true) ∧ Below w.heap.size w w' := by
  have H0 := hide g0
  have H1 := hide g1
  have H2 := hide g2
  have H3 := hide g3
  have H4 := hide g4
  have HT := hide htab
  have hw : IntKind.i64.wrap (q - p) = q - p := by rw [IntKind.wrap_i64]; omega
  have h2 := toList_ne h0
  clear h0
  clear htab g0 g1 g2 g3 g4
  have Ba0 := hide (Blk.newAt w (w.heap.size) (rfl) #[.int .i64 0, .bool na, .string ta, .int .i64 ea] 23)
  have HB0 : Hid (Below w.heap.size w (w.alloc (.cells #[.int .i64 0, .bool na, .string ta, .int .i64 ea] 23))) := ((Below.refl _ _).alloc (Nat.le_refl _) _)
  go_enter Tryz.func9, Tryz.ntmps9
  go_wp2_with fail
  refine (rawake_any _ (HT.out.below HB0.out)).mono ?_
  rintro e w1 ⟨rfl, hb⟩
  have Ba1 := hide (Ba0.out.below hb Ba0.out.lt)
  have HB1 := hide (HB0.out.trans (hb.mono HB0.out.size))
  clear hb Ba0 HB0 
  have ya0 : w1.cell? ⟨w.heap.size, 0, none⟩ = some (.int .i64 0) := Ba1.out.cell 0
  have ya1 : w1.cell? ⟨w.heap.size, 1, none⟩ = some (.bool na) := Ba1.out.cell 1
  have ya2 : w1.cell? ⟨w.heap.size, 2, none⟩ = some (.string ta) := Ba1.out.cell 2
  have ya3 : w1.cell? ⟨w.heap.size, 3, none⟩ = some (.int .i64 ea) := Ba1.out.cell 3
  go_wp2_with fail
  refine (H0.out _).mono ?_
  rintro e w2 ⟨rfl, hb⟩
  have Ba2 := hide (Ba1.out.below hb Ba1.out.lt)
  have HB2 := hide (HB1.out.trans (hb.mono HB1.out.size))
  clear hb Ba1 HB1 ya0 ya1 ya2 ya3
  have ya0 : w2.cell? ⟨w.heap.size, 0, none⟩ = some (.int .i64 0) := Ba2.out.cell 0
  have ya1 : w2.cell? ⟨w.heap.size, 1, none⟩ = some (.bool na) := Ba2.out.cell 1
  have ya2 : w2.cell? ⟨w.heap.size, 2, none⟩ = some (.string ta) := Ba2.out.cell 2
  have ya3 : w2.cell? ⟨w.heap.size, 3, none⟩ = some (.int .i64 ea) := Ba2.out.cell 3
  go_wp2_with fail
  refine (H1.out _ (HT.out.below HB2.out)).mono ?_
  rintro e w3 ⟨rfl, hb⟩
  have Ba3 := hide (Ba2.out.below hb Ba2.out.lt)
  have HB3 := hide (HB2.out.trans (hb.mono HB2.out.size))
  clear hb Ba2 HB2 ya0 ya1 ya2 ya3
  have ya0 : w3.cell? ⟨w.heap.size, 0, none⟩ = some (.int .i64 0) := Ba3.out.cell 0
  have ya1 : w3.cell? ⟨w.heap.size, 1, none⟩ = some (.bool na) := Ba3.out.cell 1
  have ya2 : w3.cell? ⟨w.heap.size, 2, none⟩ = some (.string ta) := Ba3.out.cell 2
  have ya3 : w3.cell? ⟨w.heap.size, 3, none⟩ = some (.int .i64 ea) := Ba3.out.cell 3
  have Ba4 := hide ((Ba3.out.alloc (.cells #[.int .i64 cx, .bool nx, .string tx, .int .i64 ex] 23)))
  have Bx4 := hide ((Blk.newAt w3 (w3.heap.size) (rfl) #[.int .i64 cx, .bool nx, .string tx, .int .i64 ex] 23))
  have HB4 : Hid (Below w.heap.size w (w3.alloc (.cells #[.int .i64 cx, .bool nx, .string tx, .int .i64 ex] 23))) := (HB3.out.alloc HB3.out.size _)
  clear Ba3 HB3 ya0 ya1 ya2 ya3
  have ya0 : (w3.alloc (.cells #[.int .i64 cx, .bool nx, .string tx, .int .i64 ex] 23)).cell? ⟨w.heap.size, 0, none⟩ = some (.int .i64 0) := Ba4.out.cell 0
  have ya1 : (w3.alloc (.cells #[.int .i64 cx, .bool nx, .string tx, .int .i64 ex] 23)).cell? ⟨w.heap.size, 1, none⟩ = some (.bool na) := Ba4.out.cell 1
  have ya2 : (w3.alloc (.cells #[.int .i64 cx, .bool nx, .string tx, .int .i64 ex] 23)).cell? ⟨w.heap.size, 2, none⟩ = some (.string ta) := Ba4.out.cell 2
  have ya3 : (w3.alloc (.cells #[.int .i64 cx, .bool nx, .string tx, .int .i64 ex] 23)).cell? ⟨w.heap.size, 3, none⟩ = some (.int .i64 ea) := Ba4.out.cell 3
  have yx0 : (w3.alloc (.cells #[.int .i64 cx, .bool nx, .string tx, .int .i64 ex] 23)).cell? ⟨w3.heap.size, 0, none⟩ = some (.int .i64 cx) := Bx4.out.cell 0
  have yx1 : (w3.alloc (.cells #[.int .i64 cx, .bool nx, .string tx, .int .i64 ex] 23)).cell? ⟨w3.heap.size, 1, none⟩ = some (.bool nx) := Bx4.out.cell 1
  have yx2 : (w3.alloc (.cells #[.int .i64 cx, .bool nx, .string tx, .int .i64 ex] 23)).cell? ⟨w3.heap.size, 2, none⟩ = some (.string tx) := Bx4.out.cell 2
  have yx3 : (w3.alloc (.cells #[.int .i64 cx, .bool nx, .string tx, .int .i64 ex] 23)).cell? ⟨w3.heap.size, 3, none⟩ = some (.int .i64 ex) := Bx4.out.cell 3
  have HTW := hide (HT.out.below HB4.out)
  obtain ⟨W2, hW2⟩ : ∃ W2, W2 = (w3.alloc (.cells #[.int .i64 cx, .bool nx, .string tx, .int .i64 ex] 23)) := ⟨_, rfl⟩
  rw [← hW2] at HTW HB4 Ba4 Bx4 ya0 ya1 ya2 ya3 yx0 yx1 yx2 yx3
  have HW2 := hide hW2
  clear hW2
  have HL : Hid (w.heap.size < W2.heap.size) := Ba4.out.lt
  go_wp2_with fail
  try simp only [← HW2.out]
  go_cut [9, 10] (fun vp ve wx => CutD W2 #[.int .i64 cx, .bool nx, .string tx, .int .i64 ex] r vp ve wx)
  case first =>
    have C0 : Hid (∀ X, Hid (Below W2.heap.size W2 X) → Calls Tryz.prog 24 #[.string ⟨#[49]⟩, .int .i64 p] X fun e w' => e = .returned (.agg #[.int .i64 0, .bool false, .string ⟨#[49]⟩, .int .i64 p]) ∧ Hid (Below X.heap.size X w') ∧ Hid (Below W2.heap.size W2 w') ∧ w'.cell? ⟨w.heap.size, 0, none⟩ = some (.int .i64 0) ∧ w'.cell? ⟨w.heap.size, 1, none⟩ = some (.bool na) ∧ w'.cell? ⟨w.heap.size, 2, none⟩ = some (.string ta) ∧ w'.cell? ⟨w.heap.size, 3, none⟩ = some (.int .i64 ea)) := by
      intro X bX
      refine (num_any _ _ X).mono ?_
      rintro e w' ⟨rfl, hb⟩
      have bb := bX.out.trans (hb.mono bX.out.size)
      have Baq := Ba4.out.below bb Ba4.out.lt
      exact ⟨rfl, hb, bb, Baq.cell 0, Baq.cell 1, Baq.cell 2, Baq.cell 3⟩
    have C1 : Hid (∀ X, Hid (Below W2.heap.size W2 X) → Calls Tryz.prog 16 #[.agg #[.int .i64 0, .bool na, .string ta, .int .i64 ea], dcV 0 false ⟨#[49]⟩ p, .int .i64 m] X fun e w' => e = .returned (.tuple #[.agg #[.int .i64 cx, .bool nx, .string tx, .int .i64 ex], .int .i64 r]) ∧ Hid (Below X.heap.size X w') ∧ Hid (Below W2.heap.size W2 w') ∧ w'.cell? ⟨w.heap.size, 0, none⟩ = some (.int .i64 0) ∧ w'.cell? ⟨w.heap.size, 1, none⟩ = some (.bool na) ∧ w'.cell? ⟨w.heap.size, 2, none⟩ = some (.string ta) ∧ w'.cell? ⟨w.heap.size, 3, none⟩ = some (.int .i64 ea)) := by
      intro X bX
      refine (H2.out X (HTW.out.below bX.out)).mono ?_
      rintro e w' ⟨rfl, hb⟩
      have bb := bX.out.trans (hb.mono bX.out.size)
      have Baq := Ba4.out.below bb Ba4.out.lt
      exact ⟨rfl, hb, bb, Baq.cell 0, Baq.cell 1, Baq.cell 2, Baq.cell 3⟩
    have b0 : Hid (Below W2.heap.size W2 W2.drew) := bdrewD W2
    have naW2 : ¬ w.heap.size = W2.heap.size := (by have := HL.out; omega)
    have maW2 : ¬ W2.heap.size = w.heap.size := (by have := HL.out; omega)
    have mk0 : True := trivial
    go_region_held3 (fun w' => w'.cell? ⟨w.heap.size, 0, none⟩ = some (.int .i64 0) ∧ w'.cell? ⟨w.heap.size, 1, none⟩ = some (.bool na) ∧ w'.cell? ⟨w.heap.size, 2, none⟩ = some (.string ta) ∧ w'.cell? ⟨w.heap.size, 3, none⟩ = some (.int .i64 ea)) (go_keep) (first
        | (clear mk0; go_at_call 24; refine (C0.out _ (bal b0 (Obj.cells #[Value.int .i64 0, Value.bool false, Value.string ⟨#[]⟩, Value.int .i64 0] 23))).mono ?_; rintro e u1 ⟨rfl, R1, b1, q0_0, q0_1, q0_2, q0_3⟩; have QN := (Blk.newAt W2.drew W2.heap.size rfl #[.int .i64 0, .bool false, .string ⟨#[]⟩, .int .i64 0] 23).below R1.out (Blk.newAt W2.drew W2.heap.size rfl #[.int .i64 0, .bool false, .string ⟨#[]⟩, .int .i64 0] 23).lt; have h0 : u1.cell? ⟨W2.heap.size, 0, none⟩ = some (.int .i64 0) := QN.cell 0; have h1 : u1.cell? ⟨W2.heap.size, 1, none⟩ = some (.bool false) := QN.cell 1; have h2 : u1.cell? ⟨W2.heap.size, 2, none⟩ = some (.string ⟨#[]⟩) := QN.cell 2; have h3 : u1.cell? ⟨W2.heap.size, 3, none⟩ = some (.int .i64 0) := QN.cell 3; have h4 := QN.free 0; have h5 := QN.free 1; have h6 := QN.free 2; have h7 := QN.free 3; have QH := hide QN; clear QN; have mk1L0 : True := trivial)
        | (clear mk0; go_at_call 24; refine (C0.out _ b0).mono ?_; rintro e u1 ⟨rfl, R1, b1, q0_0, q0_1, q0_2, q0_3⟩; have nau1 : ¬ w.heap.size = u1.heap.size := (by have := HL.out; have := b1.out.size; omega); have mau1 : ¬ u1.heap.size = w.heap.size := (by have := HL.out; have := b1.out.size; omega); have mk1 : True := trivial)
        | (clear mk1L0; go_at_call 16; refine (C1.out _ b1).mono ?_; rintro e u2 ⟨rfl, R2, b2, q1_0, q1_1, q1_2, q1_3⟩; clear h0 h1 h2 h3 h4 h5 h6 h7; have QN := QH.out.below R2.out QH.out.lt; have h0 : u2.cell? ⟨W2.heap.size, 0, none⟩ = some (.int .i64 0) := QN.cell 0; have h1 : u2.cell? ⟨W2.heap.size, 1, none⟩ = some (.bool false) := QN.cell 1; have h2 : u2.cell? ⟨W2.heap.size, 2, none⟩ = some (.string ⟨#[]⟩) := QN.cell 2; have h3 : u2.cell? ⟨W2.heap.size, 3, none⟩ = some (.int .i64 0) := QN.cell 3; have h4 := QN.free 0; have h5 := QN.free 1; have h6 := QN.free 2; have h7 := QN.free 3; have QH := hide QN; clear QN; have mk2L0 : True := trivial)
        | (clear mk1; go_at_call 16; refine (C1.out _ (bal b1 (Obj.cells #[Value.int .i64 0, Value.bool false, Value.string ⟨#[]⟩, Value.int .i64 0] 23))).mono ?_; rintro e u2 ⟨rfl, R2, b2, q1_0, q1_1, q1_2, q1_3⟩; have QN := (Blk.newAt u1 u1.heap.size rfl #[.int .i64 0, .bool false, .string ⟨#[]⟩, .int .i64 0] 23).below R2.out (Blk.newAt u1 u1.heap.size rfl #[.int .i64 0, .bool false, .string ⟨#[]⟩, .int .i64 0] 23).lt; have h0 : u2.cell? ⟨u1.heap.size, 0, none⟩ = some (.int .i64 0) := QN.cell 0; have h1 : u2.cell? ⟨u1.heap.size, 1, none⟩ = some (.bool false) := QN.cell 1; have h2 : u2.cell? ⟨u1.heap.size, 2, none⟩ = some (.string ⟨#[]⟩) := QN.cell 2; have h3 : u2.cell? ⟨u1.heap.size, 3, none⟩ = some (.int .i64 0) := QN.cell 3; have h4 := QN.free 0; have h5 := QN.free 1; have h6 := QN.free 2; have h7 := QN.free 3; have QH := hide QN; clear QN; have mk2L1 : True := trivial)
        | (clear mk1; go_at_call 16; refine (C1.out _ b1).mono ?_; rintro e u2 ⟨rfl, R2, b2, q1_0, q1_1, q1_2, q1_3⟩; have nau2 : ¬ w.heap.size = u2.heap.size := (by have := HL.out; have := b2.out.size; omega); have mau2 : ¬ u2.heap.size = w.heap.size := (by have := HL.out; have := b2.out.size; omega); have mk2 : True := trivial))
    all_goals (go_wp2_with fail; go_meet)
    all_goals (first | (clear mk2L0; exact cutd_old b2.out QH.out (Nat.le_refl _)) | (clear mk2L1; exact cutd_old b2.out QH.out b1.out.size) | (clear mk2; exact cutd_new b2.out))
  obtain ⟨⟨Hy, rfl, rfl, hq, hH, hbc⟩⟩ := hcut
  obtain ⟨w5, hwk⟩ : ∃ x, x = wc := ⟨_, rfl⟩
  subst hwk
  have Ba5 := hide (Ba4.out.below hbc Ba4.out.lt)
  have Bx5 := hide (Bx4.out.below hbc Bx4.out.lt)
  have By5 := hide hq
  have HB5 := hide (HB4.out.trans (hbc.mono HB4.out.size))
  clear HL hq hH hbc Ba4 Bx4 HB4 ya0 ya1 ya2 ya3 yx0 yx1 yx2 yx3
  have ya0 : w5.cell? ⟨w.heap.size, 0, none⟩ = some (.int .i64 0) := Ba5.out.cell 0
  have ya1 : w5.cell? ⟨w.heap.size, 1, none⟩ = some (.bool na) := Ba5.out.cell 1
  have ya2 : w5.cell? ⟨w.heap.size, 2, none⟩ = some (.string ta) := Ba5.out.cell 2
  have ya3 : w5.cell? ⟨w.heap.size, 3, none⟩ = some (.int .i64 ea) := Ba5.out.cell 3
  have yx0 : w5.cell? ⟨w3.heap.size, 0, none⟩ = some (.int .i64 cx) := Bx5.out.cell 0
  have yx1 : w5.cell? ⟨w3.heap.size, 1, none⟩ = some (.bool nx) := Bx5.out.cell 1
  have yx2 : w5.cell? ⟨w3.heap.size, 2, none⟩ = some (.string tx) := Bx5.out.cell 2
  have yx3 : w5.cell? ⟨w3.heap.size, 3, none⟩ = some (.int .i64 ex) := Bx5.out.cell 3
  have yy0 : w5.cell? ⟨Hy, 0, none⟩ = some (.int .i64 cx) := By5.out.cell 0
  have yy1 : w5.cell? ⟨Hy, 1, none⟩ = some (.bool nx) := By5.out.cell 1
  have yy2 : w5.cell? ⟨Hy, 2, none⟩ = some (.string tx) := By5.out.cell 2
  have yy3 : w5.cell? ⟨Hy, 3, none⟩ = some (.int .i64 ex) := By5.out.cell 3
  clear HTW HW2
  go_wp2_with fail
  refine (H3.out _).mono ?_
  rintro e w6 ⟨rfl, hb⟩
  have Ba6 := hide (Ba5.out.below hb Ba5.out.lt)
  have Bx6 := hide (Bx5.out.below hb Bx5.out.lt)
  have By6 := hide (By5.out.below hb By5.out.lt)
  have HB6 := hide (HB5.out.trans (hb.mono HB5.out.size))
  clear hb Ba5 Bx5 By5 HB5 ya0 ya1 ya2 ya3 yx0 yx1 yx2 yx3 yy0 yy1 yy2 yy3
  have ya0 : w6.cell? ⟨w.heap.size, 0, none⟩ = some (.int .i64 0) := Ba6.out.cell 0
  have ya1 : w6.cell? ⟨w.heap.size, 1, none⟩ = some (.bool na) := Ba6.out.cell 1
  have ya2 : w6.cell? ⟨w.heap.size, 2, none⟩ = some (.string ta) := Ba6.out.cell 2
  have ya3 : w6.cell? ⟨w.heap.size, 3, none⟩ = some (.int .i64 ea) := Ba6.out.cell 3
  have yx0 : w6.cell? ⟨w3.heap.size, 0, none⟩ = some (.int .i64 cx) := Bx6.out.cell 0
  have yx1 : w6.cell? ⟨w3.heap.size, 1, none⟩ = some (.bool nx) := Bx6.out.cell 1
  have yx2 : w6.cell? ⟨w3.heap.size, 2, none⟩ = some (.string tx) := Bx6.out.cell 2
  have yx3 : w6.cell? ⟨w3.heap.size, 3, none⟩ = some (.int .i64 ex) := Bx6.out.cell 3
  have yy0 : w6.cell? ⟨Hy, 0, none⟩ = some (.int .i64 cx) := By6.out.cell 0
  have yy1 : w6.cell? ⟨Hy, 1, none⟩ = some (.bool nx) := By6.out.cell 1
  have yy2 : w6.cell? ⟨Hy, 2, none⟩ = some (.string tx) := By6.out.cell 2
  have yy3 : w6.cell? ⟨Hy, 3, none⟩ = some (.int .i64 ex) := By6.out.cell 3
  go_wp2_with fail
  refine (H4.out _ (HT.out.below HB6.out)).mono ?_
  rintro e w7 ⟨rfl, hb⟩
  have Ba7 := hide (Ba6.out.below hb Ba6.out.lt)
  have Bx7 := hide (Bx6.out.below hb Bx6.out.lt)
  have By7 := hide (By6.out.below hb By6.out.lt)
  have HB7 := hide (HB6.out.trans (hb.mono HB6.out.size))
  clear hb Ba6 Bx6 By6 HB6 ya0 ya1 ya2 ya3 yx0 yx1 yx2 yx3 yy0 yy1 yy2 yy3
  have ya0 : w7.cell? ⟨w.heap.size, 0, none⟩ = some (.int .i64 0) := Ba7.out.cell 0
  have ya1 : w7.cell? ⟨w.heap.size, 1, none⟩ = some (.bool na) := Ba7.out.cell 1
  have ya2 : w7.cell? ⟨w.heap.size, 2, none⟩ = some (.string ta) := Ba7.out.cell 2
  have ya3 : w7.cell? ⟨w.heap.size, 3, none⟩ = some (.int .i64 ea) := Ba7.out.cell 3
  have yx0 : w7.cell? ⟨w3.heap.size, 0, none⟩ = some (.int .i64 cx) := Bx7.out.cell 0
  have yx1 : w7.cell? ⟨w3.heap.size, 1, none⟩ = some (.bool nx) := Bx7.out.cell 1
  have yx2 : w7.cell? ⟨w3.heap.size, 2, none⟩ = some (.string tx) := Bx7.out.cell 2
  have yx3 : w7.cell? ⟨w3.heap.size, 3, none⟩ = some (.int .i64 ex) := Bx7.out.cell 3
  have yy0 : w7.cell? ⟨Hy, 0, none⟩ = some (.int .i64 cx) := By7.out.cell 0
  have yy1 : w7.cell? ⟨Hy, 1, none⟩ = some (.bool nx) := By7.out.cell 1
  have yy2 : w7.cell? ⟨Hy, 2, none⟩ = some (.string tx) := By7.out.cell 2
  have yy3 : w7.cell? ⟨Hy, 3, none⟩ = some (.int .i64 ex) := By7.out.cell 3
  have Ba8 := hide ((Ba7.out.alloc (.cells #[.int .i64 cx, .bool nx, .string tx, .int .i64 ex] 23)))
  have Bx8 := hide ((Bx7.out.alloc (.cells #[.int .i64 cx, .bool nx, .string tx, .int .i64 ex] 23)))
  have By8 := hide ((By7.out.alloc (.cells #[.int .i64 cx, .bool nx, .string tx, .int .i64 ex] 23)))
  have Bz8 := hide ((Blk.newAt w7 (w7.heap.size) (rfl) #[.int .i64 cx, .bool nx, .string tx, .int .i64 ex] 23))
  have HB8 : Hid (Below w.heap.size w (w7.alloc (.cells #[.int .i64 cx, .bool nx, .string tx, .int .i64 ex] 23))) := (HB7.out.alloc HB7.out.size _)
  clear Ba7 Bx7 By7 HB7 ya0 ya1 ya2 ya3 yx0 yx1 yx2 yx3 yy0 yy1 yy2 yy3
  have ya0 : (w7.alloc (.cells #[.int .i64 cx, .bool nx, .string tx, .int .i64 ex] 23)).cell? ⟨w.heap.size, 0, none⟩ = some (.int .i64 0) := Ba8.out.cell 0
  have ya1 : (w7.alloc (.cells #[.int .i64 cx, .bool nx, .string tx, .int .i64 ex] 23)).cell? ⟨w.heap.size, 1, none⟩ = some (.bool na) := Ba8.out.cell 1
  have ya2 : (w7.alloc (.cells #[.int .i64 cx, .bool nx, .string tx, .int .i64 ex] 23)).cell? ⟨w.heap.size, 2, none⟩ = some (.string ta) := Ba8.out.cell 2
  have ya3 : (w7.alloc (.cells #[.int .i64 cx, .bool nx, .string tx, .int .i64 ex] 23)).cell? ⟨w.heap.size, 3, none⟩ = some (.int .i64 ea) := Ba8.out.cell 3
  have yx0 : (w7.alloc (.cells #[.int .i64 cx, .bool nx, .string tx, .int .i64 ex] 23)).cell? ⟨w3.heap.size, 0, none⟩ = some (.int .i64 cx) := Bx8.out.cell 0
  have yx1 : (w7.alloc (.cells #[.int .i64 cx, .bool nx, .string tx, .int .i64 ex] 23)).cell? ⟨w3.heap.size, 1, none⟩ = some (.bool nx) := Bx8.out.cell 1
  have yx2 : (w7.alloc (.cells #[.int .i64 cx, .bool nx, .string tx, .int .i64 ex] 23)).cell? ⟨w3.heap.size, 2, none⟩ = some (.string tx) := Bx8.out.cell 2
  have yx3 : (w7.alloc (.cells #[.int .i64 cx, .bool nx, .string tx, .int .i64 ex] 23)).cell? ⟨w3.heap.size, 3, none⟩ = some (.int .i64 ex) := Bx8.out.cell 3
  have yy0 : (w7.alloc (.cells #[.int .i64 cx, .bool nx, .string tx, .int .i64 ex] 23)).cell? ⟨Hy, 0, none⟩ = some (.int .i64 cx) := By8.out.cell 0
  have yy1 : (w7.alloc (.cells #[.int .i64 cx, .bool nx, .string tx, .int .i64 ex] 23)).cell? ⟨Hy, 1, none⟩ = some (.bool nx) := By8.out.cell 1
  have yy2 : (w7.alloc (.cells #[.int .i64 cx, .bool nx, .string tx, .int .i64 ex] 23)).cell? ⟨Hy, 2, none⟩ = some (.string tx) := By8.out.cell 2
  have yy3 : (w7.alloc (.cells #[.int .i64 cx, .bool nx, .string tx, .int .i64 ex] 23)).cell? ⟨Hy, 3, none⟩ = some (.int .i64 ex) := By8.out.cell 3
  have yz0 : (w7.alloc (.cells #[.int .i64 cx, .bool nx, .string tx, .int .i64 ex] 23)).cell? ⟨w7.heap.size, 0, none⟩ = some (.int .i64 cx) := Bz8.out.cell 0
  have yz1 : (w7.alloc (.cells #[.int .i64 cx, .bool nx, .string tx, .int .i64 ex] 23)).cell? ⟨w7.heap.size, 1, none⟩ = some (.bool nx) := Bz8.out.cell 1
  have yz2 : (w7.alloc (.cells #[.int .i64 cx, .bool nx, .string tx, .int .i64 ex] 23)).cell? ⟨w7.heap.size, 2, none⟩ = some (.string tx) := Bz8.out.cell 2
  have yz3 : (w7.alloc (.cells #[.int .i64 cx, .bool nx, .string tx, .int .i64 ex] 23)).cell? ⟨w7.heap.size, 3, none⟩ = some (.int .i64 ex) := Bz8.out.cell 3
  go_wp2
  go_ret
  exact ⟨rfl, HB8.out⟩

set_option maxRecDepth 100000 in
set_option maxHeartbeats 4000000 in
theorem ways_gt_low (na : Bool) (ta : ByteArray) (ea : Int) (cx : Int) (nx : Bool) (tx : ByteArray) (ex : Int) (r : Int) (p m q : Int) (w : World) (htab : Tab w) (m1 : 0 ≤ m) (m2 : m ≤ 7) (p1 : -1990 ≤ p) (p2 : p ≤ 1990) (h0 : ta.size ≠ 0) (hp : ea < p) (q1 : q - p < 1) (q2 : -10000 ≤ q) (g0 : ∀ W, Calls Tryz.prog 23 #[.agg #[.int .i64 0, .bool na, .string ta, .int .i64 ea]] W fun e w' => e = .returned (.bool true) ∧ Below W.heap.size W w') (g1 : ∀ W, Tab W → Calls Tryz.prog 11 #[.agg #[.int .i64 0, .bool na, .string ta, .int .i64 ea], .int .i64 p, .int .i64 m] W fun e w' => e = .returned (.tuple #[.agg #[.int .i64 cx, .bool nx, .string tx, .int .i64 ex], .int .i64 r]) ∧ Below W.heap.size W w') (g2 : ∀ W, Tab W → Calls Tryz.prog 16 #[.agg #[.int .i64 0, .bool na, .string ta, .int .i64 ea], dcV 0 false ⟨#[49]⟩ p, .int .i64 m] W fun e w' => e = .returned (.tuple #[.agg #[.int .i64 cx, .bool nx, .string tx, .int .i64 ex], .int .i64 r]) ∧ Below W.heap.size W w') (g3 : ∀ W, Calls Tryz.prog 25 #[.agg #[.int .i64 0, .bool na, .string ta, .int .i64 ea]] W fun e w' => e = .returned (.int .i64 q) ∧ Below W.heap.size W w') : Calls Tryz.prog 9 #[.agg #[.int .i64 0, .bool na, .string ta, .int .i64 ea], .int .i64 p, .int .i64 m] w fun e w' => e = .returned (.bool true) ∧ Below w.heap.size w w' := by
  have H0 := hide g0
  have H1 := hide g1
  have H2 := hide g2
  have H3 := hide g3
  have HT := hide htab
  have hw : IntKind.i64.wrap (q - p) = q - p := by rw [IntKind.wrap_i64]; omega
  have h2 := toList_ne h0
  clear h0
  clear htab g0 g1 g2 g3
  have Ba0 := hide (Blk.newAt w (w.heap.size) (rfl) #[.int .i64 0, .bool na, .string ta, .int .i64 ea] 23)
  have HB0 : Hid (Below w.heap.size w (w.alloc (.cells #[.int .i64 0, .bool na, .string ta, .int .i64 ea] 23))) := ((Below.refl _ _).alloc (Nat.le_refl _) _)
  go_enter Tryz.func9, Tryz.ntmps9
  go_wp2_with fail
  refine (rawake_any _ (HT.out.below HB0.out)).mono ?_
  rintro e w1 ⟨rfl, hb⟩
  have Ba1 := hide (Ba0.out.below hb Ba0.out.lt)
  have HB1 := hide (HB0.out.trans (hb.mono HB0.out.size))
  clear hb Ba0 HB0 
  have ya0 : w1.cell? ⟨w.heap.size, 0, none⟩ = some (.int .i64 0) := Ba1.out.cell 0
  have ya1 : w1.cell? ⟨w.heap.size, 1, none⟩ = some (.bool na) := Ba1.out.cell 1
  have ya2 : w1.cell? ⟨w.heap.size, 2, none⟩ = some (.string ta) := Ba1.out.cell 2
  have ya3 : w1.cell? ⟨w.heap.size, 3, none⟩ = some (.int .i64 ea) := Ba1.out.cell 3
  go_wp2_with fail
  refine (H0.out _).mono ?_
  rintro e w2 ⟨rfl, hb⟩
  have Ba2 := hide (Ba1.out.below hb Ba1.out.lt)
  have HB2 := hide (HB1.out.trans (hb.mono HB1.out.size))
  clear hb Ba1 HB1 ya0 ya1 ya2 ya3
  have ya0 : w2.cell? ⟨w.heap.size, 0, none⟩ = some (.int .i64 0) := Ba2.out.cell 0
  have ya1 : w2.cell? ⟨w.heap.size, 1, none⟩ = some (.bool na) := Ba2.out.cell 1
  have ya2 : w2.cell? ⟨w.heap.size, 2, none⟩ = some (.string ta) := Ba2.out.cell 2
  have ya3 : w2.cell? ⟨w.heap.size, 3, none⟩ = some (.int .i64 ea) := Ba2.out.cell 3
  go_wp2_with fail
  refine (H1.out _ (HT.out.below HB2.out)).mono ?_
  rintro e w3 ⟨rfl, hb⟩
  have Ba3 := hide (Ba2.out.below hb Ba2.out.lt)
  have HB3 := hide (HB2.out.trans (hb.mono HB2.out.size))
  clear hb Ba2 HB2 ya0 ya1 ya2 ya3
  have ya0 : w3.cell? ⟨w.heap.size, 0, none⟩ = some (.int .i64 0) := Ba3.out.cell 0
  have ya1 : w3.cell? ⟨w.heap.size, 1, none⟩ = some (.bool na) := Ba3.out.cell 1
  have ya2 : w3.cell? ⟨w.heap.size, 2, none⟩ = some (.string ta) := Ba3.out.cell 2
  have ya3 : w3.cell? ⟨w.heap.size, 3, none⟩ = some (.int .i64 ea) := Ba3.out.cell 3
  have Ba4 := hide ((Ba3.out.alloc (.cells #[.int .i64 cx, .bool nx, .string tx, .int .i64 ex] 23)))
  have Bx4 := hide ((Blk.newAt w3 (w3.heap.size) (rfl) #[.int .i64 cx, .bool nx, .string tx, .int .i64 ex] 23))
  have HB4 : Hid (Below w.heap.size w (w3.alloc (.cells #[.int .i64 cx, .bool nx, .string tx, .int .i64 ex] 23))) := (HB3.out.alloc HB3.out.size _)
  clear Ba3 HB3 ya0 ya1 ya2 ya3
  have ya0 : (w3.alloc (.cells #[.int .i64 cx, .bool nx, .string tx, .int .i64 ex] 23)).cell? ⟨w.heap.size, 0, none⟩ = some (.int .i64 0) := Ba4.out.cell 0
  have ya1 : (w3.alloc (.cells #[.int .i64 cx, .bool nx, .string tx, .int .i64 ex] 23)).cell? ⟨w.heap.size, 1, none⟩ = some (.bool na) := Ba4.out.cell 1
  have ya2 : (w3.alloc (.cells #[.int .i64 cx, .bool nx, .string tx, .int .i64 ex] 23)).cell? ⟨w.heap.size, 2, none⟩ = some (.string ta) := Ba4.out.cell 2
  have ya3 : (w3.alloc (.cells #[.int .i64 cx, .bool nx, .string tx, .int .i64 ex] 23)).cell? ⟨w.heap.size, 3, none⟩ = some (.int .i64 ea) := Ba4.out.cell 3
  have yx0 : (w3.alloc (.cells #[.int .i64 cx, .bool nx, .string tx, .int .i64 ex] 23)).cell? ⟨w3.heap.size, 0, none⟩ = some (.int .i64 cx) := Bx4.out.cell 0
  have yx1 : (w3.alloc (.cells #[.int .i64 cx, .bool nx, .string tx, .int .i64 ex] 23)).cell? ⟨w3.heap.size, 1, none⟩ = some (.bool nx) := Bx4.out.cell 1
  have yx2 : (w3.alloc (.cells #[.int .i64 cx, .bool nx, .string tx, .int .i64 ex] 23)).cell? ⟨w3.heap.size, 2, none⟩ = some (.string tx) := Bx4.out.cell 2
  have yx3 : (w3.alloc (.cells #[.int .i64 cx, .bool nx, .string tx, .int .i64 ex] 23)).cell? ⟨w3.heap.size, 3, none⟩ = some (.int .i64 ex) := Bx4.out.cell 3
  have HTW := hide (HT.out.below HB4.out)
  obtain ⟨W2, hW2⟩ : ∃ W2, W2 = (w3.alloc (.cells #[.int .i64 cx, .bool nx, .string tx, .int .i64 ex] 23)) := ⟨_, rfl⟩
  rw [← hW2] at HTW HB4 Ba4 Bx4 ya0 ya1 ya2 ya3 yx0 yx1 yx2 yx3
  have HW2 := hide hW2
  clear hW2
  have HL : Hid (w.heap.size < W2.heap.size) := Ba4.out.lt
  go_wp2_with fail
  try simp only [← HW2.out]
  go_cut [9, 10] (fun vp ve wx => CutD W2 #[.int .i64 cx, .bool nx, .string tx, .int .i64 ex] r vp ve wx)
  case first =>
    have C0 : Hid (∀ X, Hid (Below W2.heap.size W2 X) → Calls Tryz.prog 24 #[.string ⟨#[49]⟩, .int .i64 p] X fun e w' => e = .returned (.agg #[.int .i64 0, .bool false, .string ⟨#[49]⟩, .int .i64 p]) ∧ Hid (Below X.heap.size X w') ∧ Hid (Below W2.heap.size W2 w') ∧ w'.cell? ⟨w.heap.size, 0, none⟩ = some (.int .i64 0) ∧ w'.cell? ⟨w.heap.size, 1, none⟩ = some (.bool na) ∧ w'.cell? ⟨w.heap.size, 2, none⟩ = some (.string ta) ∧ w'.cell? ⟨w.heap.size, 3, none⟩ = some (.int .i64 ea)) := by
      intro X bX
      refine (num_any _ _ X).mono ?_
      rintro e w' ⟨rfl, hb⟩
      have bb := bX.out.trans (hb.mono bX.out.size)
      have Baq := Ba4.out.below bb Ba4.out.lt
      exact ⟨rfl, hb, bb, Baq.cell 0, Baq.cell 1, Baq.cell 2, Baq.cell 3⟩
    have C1 : Hid (∀ X, Hid (Below W2.heap.size W2 X) → Calls Tryz.prog 16 #[.agg #[.int .i64 0, .bool na, .string ta, .int .i64 ea], dcV 0 false ⟨#[49]⟩ p, .int .i64 m] X fun e w' => e = .returned (.tuple #[.agg #[.int .i64 cx, .bool nx, .string tx, .int .i64 ex], .int .i64 r]) ∧ Hid (Below X.heap.size X w') ∧ Hid (Below W2.heap.size W2 w') ∧ w'.cell? ⟨w.heap.size, 0, none⟩ = some (.int .i64 0) ∧ w'.cell? ⟨w.heap.size, 1, none⟩ = some (.bool na) ∧ w'.cell? ⟨w.heap.size, 2, none⟩ = some (.string ta) ∧ w'.cell? ⟨w.heap.size, 3, none⟩ = some (.int .i64 ea)) := by
      intro X bX
      refine (H2.out X (HTW.out.below bX.out)).mono ?_
      rintro e w' ⟨rfl, hb⟩
      have bb := bX.out.trans (hb.mono bX.out.size)
      have Baq := Ba4.out.below bb Ba4.out.lt
      exact ⟨rfl, hb, bb, Baq.cell 0, Baq.cell 1, Baq.cell 2, Baq.cell 3⟩
    have b0 : Hid (Below W2.heap.size W2 W2.drew) := bdrewD W2
    have naW2 : ¬ w.heap.size = W2.heap.size := (by have := HL.out; omega)
    have maW2 : ¬ W2.heap.size = w.heap.size := (by have := HL.out; omega)
    have mk0 : True := trivial
    go_region_held3 (fun w' => w'.cell? ⟨w.heap.size, 0, none⟩ = some (.int .i64 0) ∧ w'.cell? ⟨w.heap.size, 1, none⟩ = some (.bool na) ∧ w'.cell? ⟨w.heap.size, 2, none⟩ = some (.string ta) ∧ w'.cell? ⟨w.heap.size, 3, none⟩ = some (.int .i64 ea)) (go_keep) (first
        | (clear mk0; go_at_call 24; refine (C0.out _ (bal b0 (Obj.cells #[Value.int .i64 0, Value.bool false, Value.string ⟨#[]⟩, Value.int .i64 0] 23))).mono ?_; rintro e u1 ⟨rfl, R1, b1, q0_0, q0_1, q0_2, q0_3⟩; have QN := (Blk.newAt W2.drew W2.heap.size rfl #[.int .i64 0, .bool false, .string ⟨#[]⟩, .int .i64 0] 23).below R1.out (Blk.newAt W2.drew W2.heap.size rfl #[.int .i64 0, .bool false, .string ⟨#[]⟩, .int .i64 0] 23).lt; have h0 : u1.cell? ⟨W2.heap.size, 0, none⟩ = some (.int .i64 0) := QN.cell 0; have h1 : u1.cell? ⟨W2.heap.size, 1, none⟩ = some (.bool false) := QN.cell 1; have h2 : u1.cell? ⟨W2.heap.size, 2, none⟩ = some (.string ⟨#[]⟩) := QN.cell 2; have h3 : u1.cell? ⟨W2.heap.size, 3, none⟩ = some (.int .i64 0) := QN.cell 3; have h4 := QN.free 0; have h5 := QN.free 1; have h6 := QN.free 2; have h7 := QN.free 3; have QH := hide QN; clear QN; have mk1L0 : True := trivial)
        | (clear mk0; go_at_call 24; refine (C0.out _ b0).mono ?_; rintro e u1 ⟨rfl, R1, b1, q0_0, q0_1, q0_2, q0_3⟩; have nau1 : ¬ w.heap.size = u1.heap.size := (by have := HL.out; have := b1.out.size; omega); have mau1 : ¬ u1.heap.size = w.heap.size := (by have := HL.out; have := b1.out.size; omega); have mk1 : True := trivial)
        | (clear mk1L0; go_at_call 16; refine (C1.out _ b1).mono ?_; rintro e u2 ⟨rfl, R2, b2, q1_0, q1_1, q1_2, q1_3⟩; clear h0 h1 h2 h3 h4 h5 h6 h7; have QN := QH.out.below R2.out QH.out.lt; have h0 : u2.cell? ⟨W2.heap.size, 0, none⟩ = some (.int .i64 0) := QN.cell 0; have h1 : u2.cell? ⟨W2.heap.size, 1, none⟩ = some (.bool false) := QN.cell 1; have h2 : u2.cell? ⟨W2.heap.size, 2, none⟩ = some (.string ⟨#[]⟩) := QN.cell 2; have h3 : u2.cell? ⟨W2.heap.size, 3, none⟩ = some (.int .i64 0) := QN.cell 3; have h4 := QN.free 0; have h5 := QN.free 1; have h6 := QN.free 2; have h7 := QN.free 3; have QH := hide QN; clear QN; have mk2L0 : True := trivial)
        | (clear mk1; go_at_call 16; refine (C1.out _ (bal b1 (Obj.cells #[Value.int .i64 0, Value.bool false, Value.string ⟨#[]⟩, Value.int .i64 0] 23))).mono ?_; rintro e u2 ⟨rfl, R2, b2, q1_0, q1_1, q1_2, q1_3⟩; have QN := (Blk.newAt u1 u1.heap.size rfl #[.int .i64 0, .bool false, .string ⟨#[]⟩, .int .i64 0] 23).below R2.out (Blk.newAt u1 u1.heap.size rfl #[.int .i64 0, .bool false, .string ⟨#[]⟩, .int .i64 0] 23).lt; have h0 : u2.cell? ⟨u1.heap.size, 0, none⟩ = some (.int .i64 0) := QN.cell 0; have h1 : u2.cell? ⟨u1.heap.size, 1, none⟩ = some (.bool false) := QN.cell 1; have h2 : u2.cell? ⟨u1.heap.size, 2, none⟩ = some (.string ⟨#[]⟩) := QN.cell 2; have h3 : u2.cell? ⟨u1.heap.size, 3, none⟩ = some (.int .i64 0) := QN.cell 3; have h4 := QN.free 0; have h5 := QN.free 1; have h6 := QN.free 2; have h7 := QN.free 3; have QH := hide QN; clear QN; have mk2L1 : True := trivial)
        | (clear mk1; go_at_call 16; refine (C1.out _ b1).mono ?_; rintro e u2 ⟨rfl, R2, b2, q1_0, q1_1, q1_2, q1_3⟩; have nau2 : ¬ w.heap.size = u2.heap.size := (by have := HL.out; have := b2.out.size; omega); have mau2 : ¬ u2.heap.size = w.heap.size := (by have := HL.out; have := b2.out.size; omega); have mk2 : True := trivial))
    all_goals (go_wp2_with fail; go_meet)
    all_goals (first | (clear mk2L0; exact cutd_old b2.out QH.out (Nat.le_refl _)) | (clear mk2L1; exact cutd_old b2.out QH.out b1.out.size) | (clear mk2; exact cutd_new b2.out))
  obtain ⟨⟨Hy, rfl, rfl, hq, hH, hbc⟩⟩ := hcut
  obtain ⟨w5, hwk⟩ : ∃ x, x = wc := ⟨_, rfl⟩
  subst hwk
  have Ba5 := hide (Ba4.out.below hbc Ba4.out.lt)
  have Bx5 := hide (Bx4.out.below hbc Bx4.out.lt)
  have By5 := hide hq
  have HB5 := hide (HB4.out.trans (hbc.mono HB4.out.size))
  clear HL hq hH hbc Ba4 Bx4 HB4 ya0 ya1 ya2 ya3 yx0 yx1 yx2 yx3
  have ya0 : w5.cell? ⟨w.heap.size, 0, none⟩ = some (.int .i64 0) := Ba5.out.cell 0
  have ya1 : w5.cell? ⟨w.heap.size, 1, none⟩ = some (.bool na) := Ba5.out.cell 1
  have ya2 : w5.cell? ⟨w.heap.size, 2, none⟩ = some (.string ta) := Ba5.out.cell 2
  have ya3 : w5.cell? ⟨w.heap.size, 3, none⟩ = some (.int .i64 ea) := Ba5.out.cell 3
  have yx0 : w5.cell? ⟨w3.heap.size, 0, none⟩ = some (.int .i64 cx) := Bx5.out.cell 0
  have yx1 : w5.cell? ⟨w3.heap.size, 1, none⟩ = some (.bool nx) := Bx5.out.cell 1
  have yx2 : w5.cell? ⟨w3.heap.size, 2, none⟩ = some (.string tx) := Bx5.out.cell 2
  have yx3 : w5.cell? ⟨w3.heap.size, 3, none⟩ = some (.int .i64 ex) := Bx5.out.cell 3
  have yy0 : w5.cell? ⟨Hy, 0, none⟩ = some (.int .i64 cx) := By5.out.cell 0
  have yy1 : w5.cell? ⟨Hy, 1, none⟩ = some (.bool nx) := By5.out.cell 1
  have yy2 : w5.cell? ⟨Hy, 2, none⟩ = some (.string tx) := By5.out.cell 2
  have yy3 : w5.cell? ⟨Hy, 3, none⟩ = some (.int .i64 ex) := By5.out.cell 3
  clear HTW HW2
  go_wp2_with fail
  refine (H3.out _).mono ?_
  rintro e w6 ⟨rfl, hb⟩
  have Ba6 := hide (Ba5.out.below hb Ba5.out.lt)
  have Bx6 := hide (Bx5.out.below hb Bx5.out.lt)
  have By6 := hide (By5.out.below hb By5.out.lt)
  have HB6 := hide (HB5.out.trans (hb.mono HB5.out.size))
  clear hb Ba5 Bx5 By5 HB5 ya0 ya1 ya2 ya3 yx0 yx1 yx2 yx3 yy0 yy1 yy2 yy3
  have ya0 : w6.cell? ⟨w.heap.size, 0, none⟩ = some (.int .i64 0) := Ba6.out.cell 0
  have ya1 : w6.cell? ⟨w.heap.size, 1, none⟩ = some (.bool na) := Ba6.out.cell 1
  have ya2 : w6.cell? ⟨w.heap.size, 2, none⟩ = some (.string ta) := Ba6.out.cell 2
  have ya3 : w6.cell? ⟨w.heap.size, 3, none⟩ = some (.int .i64 ea) := Ba6.out.cell 3
  have yx0 : w6.cell? ⟨w3.heap.size, 0, none⟩ = some (.int .i64 cx) := Bx6.out.cell 0
  have yx1 : w6.cell? ⟨w3.heap.size, 1, none⟩ = some (.bool nx) := Bx6.out.cell 1
  have yx2 : w6.cell? ⟨w3.heap.size, 2, none⟩ = some (.string tx) := Bx6.out.cell 2
  have yx3 : w6.cell? ⟨w3.heap.size, 3, none⟩ = some (.int .i64 ex) := Bx6.out.cell 3
  have yy0 : w6.cell? ⟨Hy, 0, none⟩ = some (.int .i64 cx) := By6.out.cell 0
  have yy1 : w6.cell? ⟨Hy, 1, none⟩ = some (.bool nx) := By6.out.cell 1
  have yy2 : w6.cell? ⟨Hy, 2, none⟩ = some (.string tx) := By6.out.cell 2
  have yy3 : w6.cell? ⟨Hy, 3, none⟩ = some (.int .i64 ex) := By6.out.cell 3
  go_wp2
  go_ret
  exact ⟨rfl, HB6.out⟩

set_option maxRecDepth 100000 in
set_option maxHeartbeats 4000000 in
theorem ways_gt_high (na : Bool) (ta : ByteArray) (ea : Int) (cx : Int) (nx : Bool) (tx : ByteArray) (ex : Int) (r : Int) (p m q : Int) (w : World) (htab : Tab w) (m1 : 0 ≤ m) (m2 : m ≤ 7) (p1 : -1990 ≤ p) (p2 : p ≤ 1990) (h0 : ta.size ≠ 0) (hp : ea < p) (q1 : 1000 < q - p) (q2 : q ≤ 10000) (g0 : ∀ W, Calls Tryz.prog 23 #[.agg #[.int .i64 0, .bool na, .string ta, .int .i64 ea]] W fun e w' => e = .returned (.bool true) ∧ Below W.heap.size W w') (g1 : ∀ W, Tab W → Calls Tryz.prog 11 #[.agg #[.int .i64 0, .bool na, .string ta, .int .i64 ea], .int .i64 p, .int .i64 m] W fun e w' => e = .returned (.tuple #[.agg #[.int .i64 cx, .bool nx, .string tx, .int .i64 ex], .int .i64 r]) ∧ Below W.heap.size W w') (g2 : ∀ W, Tab W → Calls Tryz.prog 16 #[.agg #[.int .i64 0, .bool na, .string ta, .int .i64 ea], dcV 0 false ⟨#[49]⟩ p, .int .i64 m] W fun e w' => e = .returned (.tuple #[.agg #[.int .i64 cx, .bool nx, .string tx, .int .i64 ex], .int .i64 r]) ∧ Below W.heap.size W w') (g3 : ∀ W, Calls Tryz.prog 25 #[.agg #[.int .i64 0, .bool na, .string ta, .int .i64 ea]] W fun e w' => e = .returned (.int .i64 q) ∧ Below W.heap.size W w') : Calls Tryz.prog 9 #[.agg #[.int .i64 0, .bool na, .string ta, .int .i64 ea], .int .i64 p, .int .i64 m] w fun e w' => e = .returned (.bool true) ∧ Below w.heap.size w w' := by
  have H0 := hide g0
  have H1 := hide g1
  have H2 := hide g2
  have H3 := hide g3
  have HT := hide htab
  have hw : IntKind.i64.wrap (q - p) = q - p := by rw [IntKind.wrap_i64]; omega
  have h2 := toList_ne h0
  clear h0
  clear htab g0 g1 g2 g3
  have Ba0 := hide (Blk.newAt w (w.heap.size) (rfl) #[.int .i64 0, .bool na, .string ta, .int .i64 ea] 23)
  have HB0 : Hid (Below w.heap.size w (w.alloc (.cells #[.int .i64 0, .bool na, .string ta, .int .i64 ea] 23))) := ((Below.refl _ _).alloc (Nat.le_refl _) _)
  go_enter Tryz.func9, Tryz.ntmps9
  go_wp2_with fail
  refine (rawake_any _ (HT.out.below HB0.out)).mono ?_
  rintro e w1 ⟨rfl, hb⟩
  have Ba1 := hide (Ba0.out.below hb Ba0.out.lt)
  have HB1 := hide (HB0.out.trans (hb.mono HB0.out.size))
  clear hb Ba0 HB0 
  have ya0 : w1.cell? ⟨w.heap.size, 0, none⟩ = some (.int .i64 0) := Ba1.out.cell 0
  have ya1 : w1.cell? ⟨w.heap.size, 1, none⟩ = some (.bool na) := Ba1.out.cell 1
  have ya2 : w1.cell? ⟨w.heap.size, 2, none⟩ = some (.string ta) := Ba1.out.cell 2
  have ya3 : w1.cell? ⟨w.heap.size, 3, none⟩ = some (.int .i64 ea) := Ba1.out.cell 3
  go_wp2_with fail
  refine (H0.out _).mono ?_
  rintro e w2 ⟨rfl, hb⟩
  have Ba2 := hide (Ba1.out.below hb Ba1.out.lt)
  have HB2 := hide (HB1.out.trans (hb.mono HB1.out.size))
  clear hb Ba1 HB1 ya0 ya1 ya2 ya3
  have ya0 : w2.cell? ⟨w.heap.size, 0, none⟩ = some (.int .i64 0) := Ba2.out.cell 0
  have ya1 : w2.cell? ⟨w.heap.size, 1, none⟩ = some (.bool na) := Ba2.out.cell 1
  have ya2 : w2.cell? ⟨w.heap.size, 2, none⟩ = some (.string ta) := Ba2.out.cell 2
  have ya3 : w2.cell? ⟨w.heap.size, 3, none⟩ = some (.int .i64 ea) := Ba2.out.cell 3
  go_wp2_with fail
  refine (H1.out _ (HT.out.below HB2.out)).mono ?_
  rintro e w3 ⟨rfl, hb⟩
  have Ba3 := hide (Ba2.out.below hb Ba2.out.lt)
  have HB3 := hide (HB2.out.trans (hb.mono HB2.out.size))
  clear hb Ba2 HB2 ya0 ya1 ya2 ya3
  have ya0 : w3.cell? ⟨w.heap.size, 0, none⟩ = some (.int .i64 0) := Ba3.out.cell 0
  have ya1 : w3.cell? ⟨w.heap.size, 1, none⟩ = some (.bool na) := Ba3.out.cell 1
  have ya2 : w3.cell? ⟨w.heap.size, 2, none⟩ = some (.string ta) := Ba3.out.cell 2
  have ya3 : w3.cell? ⟨w.heap.size, 3, none⟩ = some (.int .i64 ea) := Ba3.out.cell 3
  have Ba4 := hide ((Ba3.out.alloc (.cells #[.int .i64 cx, .bool nx, .string tx, .int .i64 ex] 23)))
  have Bx4 := hide ((Blk.newAt w3 (w3.heap.size) (rfl) #[.int .i64 cx, .bool nx, .string tx, .int .i64 ex] 23))
  have HB4 : Hid (Below w.heap.size w (w3.alloc (.cells #[.int .i64 cx, .bool nx, .string tx, .int .i64 ex] 23))) := (HB3.out.alloc HB3.out.size _)
  clear Ba3 HB3 ya0 ya1 ya2 ya3
  have ya0 : (w3.alloc (.cells #[.int .i64 cx, .bool nx, .string tx, .int .i64 ex] 23)).cell? ⟨w.heap.size, 0, none⟩ = some (.int .i64 0) := Ba4.out.cell 0
  have ya1 : (w3.alloc (.cells #[.int .i64 cx, .bool nx, .string tx, .int .i64 ex] 23)).cell? ⟨w.heap.size, 1, none⟩ = some (.bool na) := Ba4.out.cell 1
  have ya2 : (w3.alloc (.cells #[.int .i64 cx, .bool nx, .string tx, .int .i64 ex] 23)).cell? ⟨w.heap.size, 2, none⟩ = some (.string ta) := Ba4.out.cell 2
  have ya3 : (w3.alloc (.cells #[.int .i64 cx, .bool nx, .string tx, .int .i64 ex] 23)).cell? ⟨w.heap.size, 3, none⟩ = some (.int .i64 ea) := Ba4.out.cell 3
  have yx0 : (w3.alloc (.cells #[.int .i64 cx, .bool nx, .string tx, .int .i64 ex] 23)).cell? ⟨w3.heap.size, 0, none⟩ = some (.int .i64 cx) := Bx4.out.cell 0
  have yx1 : (w3.alloc (.cells #[.int .i64 cx, .bool nx, .string tx, .int .i64 ex] 23)).cell? ⟨w3.heap.size, 1, none⟩ = some (.bool nx) := Bx4.out.cell 1
  have yx2 : (w3.alloc (.cells #[.int .i64 cx, .bool nx, .string tx, .int .i64 ex] 23)).cell? ⟨w3.heap.size, 2, none⟩ = some (.string tx) := Bx4.out.cell 2
  have yx3 : (w3.alloc (.cells #[.int .i64 cx, .bool nx, .string tx, .int .i64 ex] 23)).cell? ⟨w3.heap.size, 3, none⟩ = some (.int .i64 ex) := Bx4.out.cell 3
  have HTW := hide (HT.out.below HB4.out)
  obtain ⟨W2, hW2⟩ : ∃ W2, W2 = (w3.alloc (.cells #[.int .i64 cx, .bool nx, .string tx, .int .i64 ex] 23)) := ⟨_, rfl⟩
  rw [← hW2] at HTW HB4 Ba4 Bx4 ya0 ya1 ya2 ya3 yx0 yx1 yx2 yx3
  have HW2 := hide hW2
  clear hW2
  have HL : Hid (w.heap.size < W2.heap.size) := Ba4.out.lt
  go_wp2_with fail
  try simp only [← HW2.out]
  go_cut [9, 10] (fun vp ve wx => CutD W2 #[.int .i64 cx, .bool nx, .string tx, .int .i64 ex] r vp ve wx)
  case first =>
    have C0 : Hid (∀ X, Hid (Below W2.heap.size W2 X) → Calls Tryz.prog 24 #[.string ⟨#[49]⟩, .int .i64 p] X fun e w' => e = .returned (.agg #[.int .i64 0, .bool false, .string ⟨#[49]⟩, .int .i64 p]) ∧ Hid (Below X.heap.size X w') ∧ Hid (Below W2.heap.size W2 w') ∧ w'.cell? ⟨w.heap.size, 0, none⟩ = some (.int .i64 0) ∧ w'.cell? ⟨w.heap.size, 1, none⟩ = some (.bool na) ∧ w'.cell? ⟨w.heap.size, 2, none⟩ = some (.string ta) ∧ w'.cell? ⟨w.heap.size, 3, none⟩ = some (.int .i64 ea)) := by
      intro X bX
      refine (num_any _ _ X).mono ?_
      rintro e w' ⟨rfl, hb⟩
      have bb := bX.out.trans (hb.mono bX.out.size)
      have Baq := Ba4.out.below bb Ba4.out.lt
      exact ⟨rfl, hb, bb, Baq.cell 0, Baq.cell 1, Baq.cell 2, Baq.cell 3⟩
    have C1 : Hid (∀ X, Hid (Below W2.heap.size W2 X) → Calls Tryz.prog 16 #[.agg #[.int .i64 0, .bool na, .string ta, .int .i64 ea], dcV 0 false ⟨#[49]⟩ p, .int .i64 m] X fun e w' => e = .returned (.tuple #[.agg #[.int .i64 cx, .bool nx, .string tx, .int .i64 ex], .int .i64 r]) ∧ Hid (Below X.heap.size X w') ∧ Hid (Below W2.heap.size W2 w') ∧ w'.cell? ⟨w.heap.size, 0, none⟩ = some (.int .i64 0) ∧ w'.cell? ⟨w.heap.size, 1, none⟩ = some (.bool na) ∧ w'.cell? ⟨w.heap.size, 2, none⟩ = some (.string ta) ∧ w'.cell? ⟨w.heap.size, 3, none⟩ = some (.int .i64 ea)) := by
      intro X bX
      refine (H2.out X (HTW.out.below bX.out)).mono ?_
      rintro e w' ⟨rfl, hb⟩
      have bb := bX.out.trans (hb.mono bX.out.size)
      have Baq := Ba4.out.below bb Ba4.out.lt
      exact ⟨rfl, hb, bb, Baq.cell 0, Baq.cell 1, Baq.cell 2, Baq.cell 3⟩
    have b0 : Hid (Below W2.heap.size W2 W2.drew) := bdrewD W2
    have naW2 : ¬ w.heap.size = W2.heap.size := (by have := HL.out; omega)
    have maW2 : ¬ W2.heap.size = w.heap.size := (by have := HL.out; omega)
    have mk0 : True := trivial
    go_region_held3 (fun w' => w'.cell? ⟨w.heap.size, 0, none⟩ = some (.int .i64 0) ∧ w'.cell? ⟨w.heap.size, 1, none⟩ = some (.bool na) ∧ w'.cell? ⟨w.heap.size, 2, none⟩ = some (.string ta) ∧ w'.cell? ⟨w.heap.size, 3, none⟩ = some (.int .i64 ea)) (go_keep) (first
        | (clear mk0; go_at_call 24; refine (C0.out _ (bal b0 (Obj.cells #[Value.int .i64 0, Value.bool false, Value.string ⟨#[]⟩, Value.int .i64 0] 23))).mono ?_; rintro e u1 ⟨rfl, R1, b1, q0_0, q0_1, q0_2, q0_3⟩; have QN := (Blk.newAt W2.drew W2.heap.size rfl #[.int .i64 0, .bool false, .string ⟨#[]⟩, .int .i64 0] 23).below R1.out (Blk.newAt W2.drew W2.heap.size rfl #[.int .i64 0, .bool false, .string ⟨#[]⟩, .int .i64 0] 23).lt; have h0 : u1.cell? ⟨W2.heap.size, 0, none⟩ = some (.int .i64 0) := QN.cell 0; have h1 : u1.cell? ⟨W2.heap.size, 1, none⟩ = some (.bool false) := QN.cell 1; have h2 : u1.cell? ⟨W2.heap.size, 2, none⟩ = some (.string ⟨#[]⟩) := QN.cell 2; have h3 : u1.cell? ⟨W2.heap.size, 3, none⟩ = some (.int .i64 0) := QN.cell 3; have h4 := QN.free 0; have h5 := QN.free 1; have h6 := QN.free 2; have h7 := QN.free 3; have QH := hide QN; clear QN; have mk1L0 : True := trivial)
        | (clear mk0; go_at_call 24; refine (C0.out _ b0).mono ?_; rintro e u1 ⟨rfl, R1, b1, q0_0, q0_1, q0_2, q0_3⟩; have nau1 : ¬ w.heap.size = u1.heap.size := (by have := HL.out; have := b1.out.size; omega); have mau1 : ¬ u1.heap.size = w.heap.size := (by have := HL.out; have := b1.out.size; omega); have mk1 : True := trivial)
        | (clear mk1L0; go_at_call 16; refine (C1.out _ b1).mono ?_; rintro e u2 ⟨rfl, R2, b2, q1_0, q1_1, q1_2, q1_3⟩; clear h0 h1 h2 h3 h4 h5 h6 h7; have QN := QH.out.below R2.out QH.out.lt; have h0 : u2.cell? ⟨W2.heap.size, 0, none⟩ = some (.int .i64 0) := QN.cell 0; have h1 : u2.cell? ⟨W2.heap.size, 1, none⟩ = some (.bool false) := QN.cell 1; have h2 : u2.cell? ⟨W2.heap.size, 2, none⟩ = some (.string ⟨#[]⟩) := QN.cell 2; have h3 : u2.cell? ⟨W2.heap.size, 3, none⟩ = some (.int .i64 0) := QN.cell 3; have h4 := QN.free 0; have h5 := QN.free 1; have h6 := QN.free 2; have h7 := QN.free 3; have QH := hide QN; clear QN; have mk2L0 : True := trivial)
        | (clear mk1; go_at_call 16; refine (C1.out _ (bal b1 (Obj.cells #[Value.int .i64 0, Value.bool false, Value.string ⟨#[]⟩, Value.int .i64 0] 23))).mono ?_; rintro e u2 ⟨rfl, R2, b2, q1_0, q1_1, q1_2, q1_3⟩; have QN := (Blk.newAt u1 u1.heap.size rfl #[.int .i64 0, .bool false, .string ⟨#[]⟩, .int .i64 0] 23).below R2.out (Blk.newAt u1 u1.heap.size rfl #[.int .i64 0, .bool false, .string ⟨#[]⟩, .int .i64 0] 23).lt; have h0 : u2.cell? ⟨u1.heap.size, 0, none⟩ = some (.int .i64 0) := QN.cell 0; have h1 : u2.cell? ⟨u1.heap.size, 1, none⟩ = some (.bool false) := QN.cell 1; have h2 : u2.cell? ⟨u1.heap.size, 2, none⟩ = some (.string ⟨#[]⟩) := QN.cell 2; have h3 : u2.cell? ⟨u1.heap.size, 3, none⟩ = some (.int .i64 0) := QN.cell 3; have h4 := QN.free 0; have h5 := QN.free 1; have h6 := QN.free 2; have h7 := QN.free 3; have QH := hide QN; clear QN; have mk2L1 : True := trivial)
        | (clear mk1; go_at_call 16; refine (C1.out _ b1).mono ?_; rintro e u2 ⟨rfl, R2, b2, q1_0, q1_1, q1_2, q1_3⟩; have nau2 : ¬ w.heap.size = u2.heap.size := (by have := HL.out; have := b2.out.size; omega); have mau2 : ¬ u2.heap.size = w.heap.size := (by have := HL.out; have := b2.out.size; omega); have mk2 : True := trivial))
    all_goals (go_wp2_with fail; go_meet)
    all_goals (first | (clear mk2L0; exact cutd_old b2.out QH.out (Nat.le_refl _)) | (clear mk2L1; exact cutd_old b2.out QH.out b1.out.size) | (clear mk2; exact cutd_new b2.out))
  obtain ⟨⟨Hy, rfl, rfl, hq, hH, hbc⟩⟩ := hcut
  obtain ⟨w5, hwk⟩ : ∃ x, x = wc := ⟨_, rfl⟩
  subst hwk
  have Ba5 := hide (Ba4.out.below hbc Ba4.out.lt)
  have Bx5 := hide (Bx4.out.below hbc Bx4.out.lt)
  have By5 := hide hq
  have HB5 := hide (HB4.out.trans (hbc.mono HB4.out.size))
  clear HL hq hH hbc Ba4 Bx4 HB4 ya0 ya1 ya2 ya3 yx0 yx1 yx2 yx3
  have ya0 : w5.cell? ⟨w.heap.size, 0, none⟩ = some (.int .i64 0) := Ba5.out.cell 0
  have ya1 : w5.cell? ⟨w.heap.size, 1, none⟩ = some (.bool na) := Ba5.out.cell 1
  have ya2 : w5.cell? ⟨w.heap.size, 2, none⟩ = some (.string ta) := Ba5.out.cell 2
  have ya3 : w5.cell? ⟨w.heap.size, 3, none⟩ = some (.int .i64 ea) := Ba5.out.cell 3
  have yx0 : w5.cell? ⟨w3.heap.size, 0, none⟩ = some (.int .i64 cx) := Bx5.out.cell 0
  have yx1 : w5.cell? ⟨w3.heap.size, 1, none⟩ = some (.bool nx) := Bx5.out.cell 1
  have yx2 : w5.cell? ⟨w3.heap.size, 2, none⟩ = some (.string tx) := Bx5.out.cell 2
  have yx3 : w5.cell? ⟨w3.heap.size, 3, none⟩ = some (.int .i64 ex) := Bx5.out.cell 3
  have yy0 : w5.cell? ⟨Hy, 0, none⟩ = some (.int .i64 cx) := By5.out.cell 0
  have yy1 : w5.cell? ⟨Hy, 1, none⟩ = some (.bool nx) := By5.out.cell 1
  have yy2 : w5.cell? ⟨Hy, 2, none⟩ = some (.string tx) := By5.out.cell 2
  have yy3 : w5.cell? ⟨Hy, 3, none⟩ = some (.int .i64 ex) := By5.out.cell 3
  clear HTW HW2
  go_wp2_with fail
  refine (H3.out _).mono ?_
  rintro e w6 ⟨rfl, hb⟩
  have Ba6 := hide (Ba5.out.below hb Ba5.out.lt)
  have Bx6 := hide (Bx5.out.below hb Bx5.out.lt)
  have By6 := hide (By5.out.below hb By5.out.lt)
  have HB6 := hide (HB5.out.trans (hb.mono HB5.out.size))
  clear hb Ba5 Bx5 By5 HB5 ya0 ya1 ya2 ya3 yx0 yx1 yx2 yx3 yy0 yy1 yy2 yy3
  have ya0 : w6.cell? ⟨w.heap.size, 0, none⟩ = some (.int .i64 0) := Ba6.out.cell 0
  have ya1 : w6.cell? ⟨w.heap.size, 1, none⟩ = some (.bool na) := Ba6.out.cell 1
  have ya2 : w6.cell? ⟨w.heap.size, 2, none⟩ = some (.string ta) := Ba6.out.cell 2
  have ya3 : w6.cell? ⟨w.heap.size, 3, none⟩ = some (.int .i64 ea) := Ba6.out.cell 3
  have yx0 : w6.cell? ⟨w3.heap.size, 0, none⟩ = some (.int .i64 cx) := Bx6.out.cell 0
  have yx1 : w6.cell? ⟨w3.heap.size, 1, none⟩ = some (.bool nx) := Bx6.out.cell 1
  have yx2 : w6.cell? ⟨w3.heap.size, 2, none⟩ = some (.string tx) := Bx6.out.cell 2
  have yx3 : w6.cell? ⟨w3.heap.size, 3, none⟩ = some (.int .i64 ex) := Bx6.out.cell 3
  have yy0 : w6.cell? ⟨Hy, 0, none⟩ = some (.int .i64 cx) := By6.out.cell 0
  have yy1 : w6.cell? ⟨Hy, 1, none⟩ = some (.bool nx) := By6.out.cell 1
  have yy2 : w6.cell? ⟨Hy, 2, none⟩ = some (.string tx) := By6.out.cell 2
  have yy3 : w6.cell? ⟨Hy, 3, none⟩ = some (.int .i64 ex) := By6.out.cell 3
  go_wp2
  go_ret
  exact ⟨rfl, HB6.out⟩

end Go.Proofs.YtcclbcnmkaobpaaGreatDoor

namespace Go.Proofs.YtcclbcnmkaobpaaGreatDoor
open Go.RowKit

set_option maxRecDepth 100000 in
set_option maxHeartbeats 4000000 in
theorem ways_le_in (na : Bool) (ta : ByteArray) (ea : Int) (p m q : Int) (w : World) (htab : Tab w) (m1 : 0 ≤ m) (m2 : m ≤ 7) (p1 : -1990 ≤ p) (p2 : p ≤ 1990) (h0 : ta.size ≠ 0) (hp : p ≤ ea) (q1 : 1 ≤ q - p) (q2 : q - p ≤ 1000) (g0 : ∀ W, Calls Tryz.prog 23 #[.agg #[.int .i64 0, .bool na, .string ta, .int .i64 ea]] W fun e w' => e = .returned (.bool true) ∧ Below W.heap.size W w') (g1 : ∀ W, Tab W → Calls Tryz.prog 11 #[.agg #[.int .i64 0, .bool na, .string ta, .int .i64 ea], .int .i64 p, .int .i64 m] W fun e w' => e = .returned (.tuple #[.agg #[.int .i64 0, .bool na, .string ta, .int .i64 ea], .int .i64 0]) ∧ Below W.heap.size W w') (g2 : ∀ W, Tab W → Calls Tryz.prog 16 #[.agg #[.int .i64 0, .bool na, .string ta, .int .i64 ea], dcV 0 false ⟨#[49]⟩ p, .int .i64 m] W fun e w' => e = .returned (.tuple #[.agg #[.int .i64 0, .bool na, .string ta, .int .i64 ea], .int .i64 0]) ∧ Below W.heap.size W w') (g3 : ∀ W, Calls Tryz.prog 25 #[.agg #[.int .i64 0, .bool na, .string ta, .int .i64 ea]] W fun e w' => e = .returned (.int .i64 q) ∧ Below W.heap.size W w') (g4 : ∀ W, Tab W → Calls Tryz.prog 14 #[.agg #[.int .i64 0, .bool na, .string ta, .int .i64 ea], .int .i64 (q - p), .int .i64 m] W fun e w' => e = .returned (.tuple #[.agg #[.int .i64 0, .bool na, .string ta, .int .i64 ea], .int .i64 0]) ∧ Below W.heap.size W w') : Calls Tryz.prog 9 #[.agg #[.int .i64 0, .bool na, .string ta, .int .i64 ea], .int .i64 p, .int .i64 m] w fun e w' => e = .returned (.bool true) ∧ Below w.heap.size w w' := by
  have H0 := hide g0
  have H1 := hide g1
  have H2 := hide g2
  have H3 := hide g3
  have H4 := hide g4
  have HT := hide htab
  have hw : IntKind.i64.wrap (q - p) = q - p := by rw [IntKind.wrap_i64]; omega
  have h2 := toList_ne h0
  clear h0
  clear htab g0 g1 g2 g3 g4
  have Ba0 := hide (Blk.newAt w (w.heap.size) (rfl) #[.int .i64 0, .bool na, .string ta, .int .i64 ea] 23)
  have HB0 : Hid (Below w.heap.size w (w.alloc (.cells #[.int .i64 0, .bool na, .string ta, .int .i64 ea] 23))) := ((Below.refl _ _).alloc (Nat.le_refl _) _)
  go_enter Tryz.func9, Tryz.ntmps9
  go_wp2_with fail
  refine (rawake_any _ (HT.out.below HB0.out)).mono ?_
  rintro e w1 ⟨rfl, hb⟩
  have Ba1 := hide (Ba0.out.below hb Ba0.out.lt)
  have HB1 := hide (HB0.out.trans (hb.mono HB0.out.size))
  clear hb Ba0 HB0 
  have ya0 : w1.cell? ⟨w.heap.size, 0, none⟩ = some (.int .i64 0) := Ba1.out.cell 0
  have ya1 : w1.cell? ⟨w.heap.size, 1, none⟩ = some (.bool na) := Ba1.out.cell 1
  have ya2 : w1.cell? ⟨w.heap.size, 2, none⟩ = some (.string ta) := Ba1.out.cell 2
  have ya3 : w1.cell? ⟨w.heap.size, 3, none⟩ = some (.int .i64 ea) := Ba1.out.cell 3
  go_wp2_with fail
  refine (H0.out _).mono ?_
  rintro e w2 ⟨rfl, hb⟩
  have Ba2 := hide (Ba1.out.below hb Ba1.out.lt)
  have HB2 := hide (HB1.out.trans (hb.mono HB1.out.size))
  clear hb Ba1 HB1 ya0 ya1 ya2 ya3
  have ya0 : w2.cell? ⟨w.heap.size, 0, none⟩ = some (.int .i64 0) := Ba2.out.cell 0
  have ya1 : w2.cell? ⟨w.heap.size, 1, none⟩ = some (.bool na) := Ba2.out.cell 1
  have ya2 : w2.cell? ⟨w.heap.size, 2, none⟩ = some (.string ta) := Ba2.out.cell 2
  have ya3 : w2.cell? ⟨w.heap.size, 3, none⟩ = some (.int .i64 ea) := Ba2.out.cell 3
  go_wp2_with fail
  refine (H1.out _ (HT.out.below HB2.out)).mono ?_
  rintro e w3 ⟨rfl, hb⟩
  have Ba3 := hide (Ba2.out.below hb Ba2.out.lt)
  have HB3 := hide (HB2.out.trans (hb.mono HB2.out.size))
  clear hb Ba2 HB2 ya0 ya1 ya2 ya3
  have ya0 : w3.cell? ⟨w.heap.size, 0, none⟩ = some (.int .i64 0) := Ba3.out.cell 0
  have ya1 : w3.cell? ⟨w.heap.size, 1, none⟩ = some (.bool na) := Ba3.out.cell 1
  have ya2 : w3.cell? ⟨w.heap.size, 2, none⟩ = some (.string ta) := Ba3.out.cell 2
  have ya3 : w3.cell? ⟨w.heap.size, 3, none⟩ = some (.int .i64 ea) := Ba3.out.cell 3
  have Ba4 := hide ((Ba3.out.alloc (.cells #[.int .i64 0, .bool na, .string ta, .int .i64 ea] 23)))
  have Bx4 := hide ((Blk.newAt w3 (w3.heap.size) (rfl) #[.int .i64 0, .bool na, .string ta, .int .i64 ea] 23))
  have HB4 : Hid (Below w.heap.size w (w3.alloc (.cells #[.int .i64 0, .bool na, .string ta, .int .i64 ea] 23))) := (HB3.out.alloc HB3.out.size _)
  clear Ba3 HB3 ya0 ya1 ya2 ya3
  have ya0 : (w3.alloc (.cells #[.int .i64 0, .bool na, .string ta, .int .i64 ea] 23)).cell? ⟨w.heap.size, 0, none⟩ = some (.int .i64 0) := Ba4.out.cell 0
  have ya1 : (w3.alloc (.cells #[.int .i64 0, .bool na, .string ta, .int .i64 ea] 23)).cell? ⟨w.heap.size, 1, none⟩ = some (.bool na) := Ba4.out.cell 1
  have ya2 : (w3.alloc (.cells #[.int .i64 0, .bool na, .string ta, .int .i64 ea] 23)).cell? ⟨w.heap.size, 2, none⟩ = some (.string ta) := Ba4.out.cell 2
  have ya3 : (w3.alloc (.cells #[.int .i64 0, .bool na, .string ta, .int .i64 ea] 23)).cell? ⟨w.heap.size, 3, none⟩ = some (.int .i64 ea) := Ba4.out.cell 3
  have yx0 : (w3.alloc (.cells #[.int .i64 0, .bool na, .string ta, .int .i64 ea] 23)).cell? ⟨w3.heap.size, 0, none⟩ = some (.int .i64 0) := Bx4.out.cell 0
  have yx1 : (w3.alloc (.cells #[.int .i64 0, .bool na, .string ta, .int .i64 ea] 23)).cell? ⟨w3.heap.size, 1, none⟩ = some (.bool na) := Bx4.out.cell 1
  have yx2 : (w3.alloc (.cells #[.int .i64 0, .bool na, .string ta, .int .i64 ea] 23)).cell? ⟨w3.heap.size, 2, none⟩ = some (.string ta) := Bx4.out.cell 2
  have yx3 : (w3.alloc (.cells #[.int .i64 0, .bool na, .string ta, .int .i64 ea] 23)).cell? ⟨w3.heap.size, 3, none⟩ = some (.int .i64 ea) := Bx4.out.cell 3
  have HTW := hide (HT.out.below HB4.out)
  obtain ⟨W2, hW2⟩ : ∃ W2, W2 = (w3.alloc (.cells #[.int .i64 0, .bool na, .string ta, .int .i64 ea] 23)) := ⟨_, rfl⟩
  rw [← hW2] at HTW HB4 Ba4 Bx4 ya0 ya1 ya2 ya3 yx0 yx1 yx2 yx3
  have HW2 := hide hW2
  clear hW2
  have HL : Hid (w.heap.size < W2.heap.size) := Ba4.out.lt
  go_wp2_with fail
  try simp only [← HW2.out]
  go_cut [9, 10] (fun vp ve wx => CutD W2 #[.int .i64 0, .bool na, .string ta, .int .i64 ea] 0 vp ve wx)
  case first =>
    have C0 : Hid (∀ X, Hid (Below W2.heap.size W2 X) → Calls Tryz.prog 24 #[.string ⟨#[49]⟩, .int .i64 p] X fun e w' => e = .returned (.agg #[.int .i64 0, .bool false, .string ⟨#[49]⟩, .int .i64 p]) ∧ Hid (Below X.heap.size X w') ∧ Hid (Below W2.heap.size W2 w') ∧ w'.cell? ⟨w.heap.size, 0, none⟩ = some (.int .i64 0) ∧ w'.cell? ⟨w.heap.size, 1, none⟩ = some (.bool na) ∧ w'.cell? ⟨w.heap.size, 2, none⟩ = some (.string ta) ∧ w'.cell? ⟨w.heap.size, 3, none⟩ = some (.int .i64 ea)) := by
      intro X bX
      refine (num_any _ _ X).mono ?_
      rintro e w' ⟨rfl, hb⟩
      have bb := bX.out.trans (hb.mono bX.out.size)
      have Baq := Ba4.out.below bb Ba4.out.lt
      exact ⟨rfl, hb, bb, Baq.cell 0, Baq.cell 1, Baq.cell 2, Baq.cell 3⟩
    have C1 : Hid (∀ X, Hid (Below W2.heap.size W2 X) → Calls Tryz.prog 16 #[.agg #[.int .i64 0, .bool na, .string ta, .int .i64 ea], dcV 0 false ⟨#[49]⟩ p, .int .i64 m] X fun e w' => e = .returned (.tuple #[.agg #[.int .i64 0, .bool na, .string ta, .int .i64 ea], .int .i64 0]) ∧ Hid (Below X.heap.size X w') ∧ Hid (Below W2.heap.size W2 w') ∧ w'.cell? ⟨w.heap.size, 0, none⟩ = some (.int .i64 0) ∧ w'.cell? ⟨w.heap.size, 1, none⟩ = some (.bool na) ∧ w'.cell? ⟨w.heap.size, 2, none⟩ = some (.string ta) ∧ w'.cell? ⟨w.heap.size, 3, none⟩ = some (.int .i64 ea)) := by
      intro X bX
      refine (H2.out X (HTW.out.below bX.out)).mono ?_
      rintro e w' ⟨rfl, hb⟩
      have bb := bX.out.trans (hb.mono bX.out.size)
      have Baq := Ba4.out.below bb Ba4.out.lt
      exact ⟨rfl, hb, bb, Baq.cell 0, Baq.cell 1, Baq.cell 2, Baq.cell 3⟩
    have b0 : Hid (Below W2.heap.size W2 W2.drew) := bdrewD W2
    have naW2 : ¬ w.heap.size = W2.heap.size := (by have := HL.out; omega)
    have maW2 : ¬ W2.heap.size = w.heap.size := (by have := HL.out; omega)
    have mk0 : True := trivial
    go_region_held3 (fun w' => w'.cell? ⟨w.heap.size, 0, none⟩ = some (.int .i64 0) ∧ w'.cell? ⟨w.heap.size, 1, none⟩ = some (.bool na) ∧ w'.cell? ⟨w.heap.size, 2, none⟩ = some (.string ta) ∧ w'.cell? ⟨w.heap.size, 3, none⟩ = some (.int .i64 ea)) (go_keep) (first
        | (clear mk0; go_at_call 24; refine (C0.out _ (bal b0 (Obj.cells #[Value.int .i64 0, Value.bool false, Value.string ⟨#[]⟩, Value.int .i64 0] 23))).mono ?_; rintro e u1 ⟨rfl, R1, b1, q0_0, q0_1, q0_2, q0_3⟩; have QN := (Blk.newAt W2.drew W2.heap.size rfl #[.int .i64 0, .bool false, .string ⟨#[]⟩, .int .i64 0] 23).below R1.out (Blk.newAt W2.drew W2.heap.size rfl #[.int .i64 0, .bool false, .string ⟨#[]⟩, .int .i64 0] 23).lt; have h0 : u1.cell? ⟨W2.heap.size, 0, none⟩ = some (.int .i64 0) := QN.cell 0; have h1 : u1.cell? ⟨W2.heap.size, 1, none⟩ = some (.bool false) := QN.cell 1; have h2 : u1.cell? ⟨W2.heap.size, 2, none⟩ = some (.string ⟨#[]⟩) := QN.cell 2; have h3 : u1.cell? ⟨W2.heap.size, 3, none⟩ = some (.int .i64 0) := QN.cell 3; have h4 := QN.free 0; have h5 := QN.free 1; have h6 := QN.free 2; have h7 := QN.free 3; have QH := hide QN; clear QN; have mk1L0 : True := trivial)
        | (clear mk0; go_at_call 24; refine (C0.out _ b0).mono ?_; rintro e u1 ⟨rfl, R1, b1, q0_0, q0_1, q0_2, q0_3⟩; have nau1 : ¬ w.heap.size = u1.heap.size := (by have := HL.out; have := b1.out.size; omega); have mau1 : ¬ u1.heap.size = w.heap.size := (by have := HL.out; have := b1.out.size; omega); have mk1 : True := trivial)
        | (clear mk1L0; go_at_call 16; refine (C1.out _ b1).mono ?_; rintro e u2 ⟨rfl, R2, b2, q1_0, q1_1, q1_2, q1_3⟩; clear h0 h1 h2 h3 h4 h5 h6 h7; have QN := QH.out.below R2.out QH.out.lt; have h0 : u2.cell? ⟨W2.heap.size, 0, none⟩ = some (.int .i64 0) := QN.cell 0; have h1 : u2.cell? ⟨W2.heap.size, 1, none⟩ = some (.bool false) := QN.cell 1; have h2 : u2.cell? ⟨W2.heap.size, 2, none⟩ = some (.string ⟨#[]⟩) := QN.cell 2; have h3 : u2.cell? ⟨W2.heap.size, 3, none⟩ = some (.int .i64 0) := QN.cell 3; have h4 := QN.free 0; have h5 := QN.free 1; have h6 := QN.free 2; have h7 := QN.free 3; have QH := hide QN; clear QN; have mk2L0 : True := trivial)
        | (clear mk1; go_at_call 16; refine (C1.out _ (bal b1 (Obj.cells #[Value.int .i64 0, Value.bool false, Value.string ⟨#[]⟩, Value.int .i64 0] 23))).mono ?_; rintro e u2 ⟨rfl, R2, b2, q1_0, q1_1, q1_2, q1_3⟩; have QN := (Blk.newAt u1 u1.heap.size rfl #[.int .i64 0, .bool false, .string ⟨#[]⟩, .int .i64 0] 23).below R2.out (Blk.newAt u1 u1.heap.size rfl #[.int .i64 0, .bool false, .string ⟨#[]⟩, .int .i64 0] 23).lt; have h0 : u2.cell? ⟨u1.heap.size, 0, none⟩ = some (.int .i64 0) := QN.cell 0; have h1 : u2.cell? ⟨u1.heap.size, 1, none⟩ = some (.bool false) := QN.cell 1; have h2 : u2.cell? ⟨u1.heap.size, 2, none⟩ = some (.string ⟨#[]⟩) := QN.cell 2; have h3 : u2.cell? ⟨u1.heap.size, 3, none⟩ = some (.int .i64 0) := QN.cell 3; have h4 := QN.free 0; have h5 := QN.free 1; have h6 := QN.free 2; have h7 := QN.free 3; have QH := hide QN; clear QN; have mk2L1 : True := trivial)
        | (clear mk1; go_at_call 16; refine (C1.out _ b1).mono ?_; rintro e u2 ⟨rfl, R2, b2, q1_0, q1_1, q1_2, q1_3⟩; have nau2 : ¬ w.heap.size = u2.heap.size := (by have := HL.out; have := b2.out.size; omega); have mau2 : ¬ u2.heap.size = w.heap.size := (by have := HL.out; have := b2.out.size; omega); have mk2 : True := trivial))
    all_goals (go_wp2_with fail; go_meet)
    all_goals (first | (clear mk2L0; exact cutd_old b2.out QH.out (Nat.le_refl _)) | (clear mk2L1; exact cutd_old b2.out QH.out b1.out.size) | (clear mk2; exact cutd_new b2.out))
  obtain ⟨⟨Hy, rfl, rfl, hq, hH, hbc⟩⟩ := hcut
  obtain ⟨w5, hwk⟩ : ∃ x, x = wc := ⟨_, rfl⟩
  subst hwk
  have Ba5 := hide (Ba4.out.below hbc Ba4.out.lt)
  have Bx5 := hide (Bx4.out.below hbc Bx4.out.lt)
  have By5 := hide hq
  have HB5 := hide (HB4.out.trans (hbc.mono HB4.out.size))
  clear HL hq hH hbc Ba4 Bx4 HB4 ya0 ya1 ya2 ya3 yx0 yx1 yx2 yx3
  have ya0 : w5.cell? ⟨w.heap.size, 0, none⟩ = some (.int .i64 0) := Ba5.out.cell 0
  have ya1 : w5.cell? ⟨w.heap.size, 1, none⟩ = some (.bool na) := Ba5.out.cell 1
  have ya2 : w5.cell? ⟨w.heap.size, 2, none⟩ = some (.string ta) := Ba5.out.cell 2
  have ya3 : w5.cell? ⟨w.heap.size, 3, none⟩ = some (.int .i64 ea) := Ba5.out.cell 3
  have yx0 : w5.cell? ⟨w3.heap.size, 0, none⟩ = some (.int .i64 0) := Bx5.out.cell 0
  have yx1 : w5.cell? ⟨w3.heap.size, 1, none⟩ = some (.bool na) := Bx5.out.cell 1
  have yx2 : w5.cell? ⟨w3.heap.size, 2, none⟩ = some (.string ta) := Bx5.out.cell 2
  have yx3 : w5.cell? ⟨w3.heap.size, 3, none⟩ = some (.int .i64 ea) := Bx5.out.cell 3
  have yy0 : w5.cell? ⟨Hy, 0, none⟩ = some (.int .i64 0) := By5.out.cell 0
  have yy1 : w5.cell? ⟨Hy, 1, none⟩ = some (.bool na) := By5.out.cell 1
  have yy2 : w5.cell? ⟨Hy, 2, none⟩ = some (.string ta) := By5.out.cell 2
  have yy3 : w5.cell? ⟨Hy, 3, none⟩ = some (.int .i64 ea) := By5.out.cell 3
  clear HTW HW2
  go_wp2_with fail
  refine (H3.out _).mono ?_
  rintro e w6 ⟨rfl, hb⟩
  have Ba6 := hide (Ba5.out.below hb Ba5.out.lt)
  have Bx6 := hide (Bx5.out.below hb Bx5.out.lt)
  have By6 := hide (By5.out.below hb By5.out.lt)
  have HB6 := hide (HB5.out.trans (hb.mono HB5.out.size))
  clear hb Ba5 Bx5 By5 HB5 ya0 ya1 ya2 ya3 yx0 yx1 yx2 yx3 yy0 yy1 yy2 yy3
  have ya0 : w6.cell? ⟨w.heap.size, 0, none⟩ = some (.int .i64 0) := Ba6.out.cell 0
  have ya1 : w6.cell? ⟨w.heap.size, 1, none⟩ = some (.bool na) := Ba6.out.cell 1
  have ya2 : w6.cell? ⟨w.heap.size, 2, none⟩ = some (.string ta) := Ba6.out.cell 2
  have ya3 : w6.cell? ⟨w.heap.size, 3, none⟩ = some (.int .i64 ea) := Ba6.out.cell 3
  have yx0 : w6.cell? ⟨w3.heap.size, 0, none⟩ = some (.int .i64 0) := Bx6.out.cell 0
  have yx1 : w6.cell? ⟨w3.heap.size, 1, none⟩ = some (.bool na) := Bx6.out.cell 1
  have yx2 : w6.cell? ⟨w3.heap.size, 2, none⟩ = some (.string ta) := Bx6.out.cell 2
  have yx3 : w6.cell? ⟨w3.heap.size, 3, none⟩ = some (.int .i64 ea) := Bx6.out.cell 3
  have yy0 : w6.cell? ⟨Hy, 0, none⟩ = some (.int .i64 0) := By6.out.cell 0
  have yy1 : w6.cell? ⟨Hy, 1, none⟩ = some (.bool na) := By6.out.cell 1
  have yy2 : w6.cell? ⟨Hy, 2, none⟩ = some (.string ta) := By6.out.cell 2
  have yy3 : w6.cell? ⟨Hy, 3, none⟩ = some (.int .i64 ea) := By6.out.cell 3
  go_wp2_with fail
  refine (H4.out _ (HT.out.below HB6.out)).mono ?_
  rintro e w7 ⟨rfl, hb⟩
  have Ba7 := hide (Ba6.out.below hb Ba6.out.lt)
  have Bx7 := hide (Bx6.out.below hb Bx6.out.lt)
  have By7 := hide (By6.out.below hb By6.out.lt)
  have HB7 := hide (HB6.out.trans (hb.mono HB6.out.size))
  clear hb Ba6 Bx6 By6 HB6 ya0 ya1 ya2 ya3 yx0 yx1 yx2 yx3 yy0 yy1 yy2 yy3
  have ya0 : w7.cell? ⟨w.heap.size, 0, none⟩ = some (.int .i64 0) := Ba7.out.cell 0
  have ya1 : w7.cell? ⟨w.heap.size, 1, none⟩ = some (.bool na) := Ba7.out.cell 1
  have ya2 : w7.cell? ⟨w.heap.size, 2, none⟩ = some (.string ta) := Ba7.out.cell 2
  have ya3 : w7.cell? ⟨w.heap.size, 3, none⟩ = some (.int .i64 ea) := Ba7.out.cell 3
  have yx0 : w7.cell? ⟨w3.heap.size, 0, none⟩ = some (.int .i64 0) := Bx7.out.cell 0
  have yx1 : w7.cell? ⟨w3.heap.size, 1, none⟩ = some (.bool na) := Bx7.out.cell 1
  have yx2 : w7.cell? ⟨w3.heap.size, 2, none⟩ = some (.string ta) := Bx7.out.cell 2
  have yx3 : w7.cell? ⟨w3.heap.size, 3, none⟩ = some (.int .i64 ea) := Bx7.out.cell 3
  have yy0 : w7.cell? ⟨Hy, 0, none⟩ = some (.int .i64 0) := By7.out.cell 0
  have yy1 : w7.cell? ⟨Hy, 1, none⟩ = some (.bool na) := By7.out.cell 1
  have yy2 : w7.cell? ⟨Hy, 2, none⟩ = some (.string ta) := By7.out.cell 2
  have yy3 : w7.cell? ⟨Hy, 3, none⟩ = some (.int .i64 ea) := By7.out.cell 3
  have Ba8 := hide ((Ba7.out.alloc (.cells #[.int .i64 0, .bool na, .string ta, .int .i64 ea] 23)))
  have Bx8 := hide ((Bx7.out.alloc (.cells #[.int .i64 0, .bool na, .string ta, .int .i64 ea] 23)))
  have By8 := hide ((By7.out.alloc (.cells #[.int .i64 0, .bool na, .string ta, .int .i64 ea] 23)))
  have Bz8 := hide ((Blk.newAt w7 (w7.heap.size) (rfl) #[.int .i64 0, .bool na, .string ta, .int .i64 ea] 23))
  have HB8 : Hid (Below w.heap.size w (w7.alloc (.cells #[.int .i64 0, .bool na, .string ta, .int .i64 ea] 23))) := (HB7.out.alloc HB7.out.size _)
  clear Ba7 Bx7 By7 HB7 ya0 ya1 ya2 ya3 yx0 yx1 yx2 yx3 yy0 yy1 yy2 yy3
  have ya0 : (w7.alloc (.cells #[.int .i64 0, .bool na, .string ta, .int .i64 ea] 23)).cell? ⟨w.heap.size, 0, none⟩ = some (.int .i64 0) := Ba8.out.cell 0
  have ya1 : (w7.alloc (.cells #[.int .i64 0, .bool na, .string ta, .int .i64 ea] 23)).cell? ⟨w.heap.size, 1, none⟩ = some (.bool na) := Ba8.out.cell 1
  have ya2 : (w7.alloc (.cells #[.int .i64 0, .bool na, .string ta, .int .i64 ea] 23)).cell? ⟨w.heap.size, 2, none⟩ = some (.string ta) := Ba8.out.cell 2
  have ya3 : (w7.alloc (.cells #[.int .i64 0, .bool na, .string ta, .int .i64 ea] 23)).cell? ⟨w.heap.size, 3, none⟩ = some (.int .i64 ea) := Ba8.out.cell 3
  have yx0 : (w7.alloc (.cells #[.int .i64 0, .bool na, .string ta, .int .i64 ea] 23)).cell? ⟨w3.heap.size, 0, none⟩ = some (.int .i64 0) := Bx8.out.cell 0
  have yx1 : (w7.alloc (.cells #[.int .i64 0, .bool na, .string ta, .int .i64 ea] 23)).cell? ⟨w3.heap.size, 1, none⟩ = some (.bool na) := Bx8.out.cell 1
  have yx2 : (w7.alloc (.cells #[.int .i64 0, .bool na, .string ta, .int .i64 ea] 23)).cell? ⟨w3.heap.size, 2, none⟩ = some (.string ta) := Bx8.out.cell 2
  have yx3 : (w7.alloc (.cells #[.int .i64 0, .bool na, .string ta, .int .i64 ea] 23)).cell? ⟨w3.heap.size, 3, none⟩ = some (.int .i64 ea) := Bx8.out.cell 3
  have yy0 : (w7.alloc (.cells #[.int .i64 0, .bool na, .string ta, .int .i64 ea] 23)).cell? ⟨Hy, 0, none⟩ = some (.int .i64 0) := By8.out.cell 0
  have yy1 : (w7.alloc (.cells #[.int .i64 0, .bool na, .string ta, .int .i64 ea] 23)).cell? ⟨Hy, 1, none⟩ = some (.bool na) := By8.out.cell 1
  have yy2 : (w7.alloc (.cells #[.int .i64 0, .bool na, .string ta, .int .i64 ea] 23)).cell? ⟨Hy, 2, none⟩ = some (.string ta) := By8.out.cell 2
  have yy3 : (w7.alloc (.cells #[.int .i64 0, .bool na, .string ta, .int .i64 ea] 23)).cell? ⟨Hy, 3, none⟩ = some (.int .i64 ea) := By8.out.cell 3
  have yz0 : (w7.alloc (.cells #[.int .i64 0, .bool na, .string ta, .int .i64 ea] 23)).cell? ⟨w7.heap.size, 0, none⟩ = some (.int .i64 0) := Bz8.out.cell 0
  have yz1 : (w7.alloc (.cells #[.int .i64 0, .bool na, .string ta, .int .i64 ea] 23)).cell? ⟨w7.heap.size, 1, none⟩ = some (.bool na) := Bz8.out.cell 1
  have yz2 : (w7.alloc (.cells #[.int .i64 0, .bool na, .string ta, .int .i64 ea] 23)).cell? ⟨w7.heap.size, 2, none⟩ = some (.string ta) := Bz8.out.cell 2
  have yz3 : (w7.alloc (.cells #[.int .i64 0, .bool na, .string ta, .int .i64 ea] 23)).cell? ⟨w7.heap.size, 3, none⟩ = some (.int .i64 ea) := Bz8.out.cell 3
  go_wp2
  go_ret
  exact ⟨rfl, HB8.out⟩

set_option maxRecDepth 100000 in
set_option maxHeartbeats 4000000 in
theorem ways_le_low (na : Bool) (ta : ByteArray) (ea : Int) (p m q : Int) (w : World) (htab : Tab w) (m1 : 0 ≤ m) (m2 : m ≤ 7) (p1 : -1990 ≤ p) (p2 : p ≤ 1990) (h0 : ta.size ≠ 0) (hp : p ≤ ea) (q1 : q - p < 1) (q2 : -10000 ≤ q) (g0 : ∀ W, Calls Tryz.prog 23 #[.agg #[.int .i64 0, .bool na, .string ta, .int .i64 ea]] W fun e w' => e = .returned (.bool true) ∧ Below W.heap.size W w') (g1 : ∀ W, Tab W → Calls Tryz.prog 11 #[.agg #[.int .i64 0, .bool na, .string ta, .int .i64 ea], .int .i64 p, .int .i64 m] W fun e w' => e = .returned (.tuple #[.agg #[.int .i64 0, .bool na, .string ta, .int .i64 ea], .int .i64 0]) ∧ Below W.heap.size W w') (g2 : ∀ W, Tab W → Calls Tryz.prog 16 #[.agg #[.int .i64 0, .bool na, .string ta, .int .i64 ea], dcV 0 false ⟨#[49]⟩ p, .int .i64 m] W fun e w' => e = .returned (.tuple #[.agg #[.int .i64 0, .bool na, .string ta, .int .i64 ea], .int .i64 0]) ∧ Below W.heap.size W w') (g3 : ∀ W, Calls Tryz.prog 25 #[.agg #[.int .i64 0, .bool na, .string ta, .int .i64 ea]] W fun e w' => e = .returned (.int .i64 q) ∧ Below W.heap.size W w') : Calls Tryz.prog 9 #[.agg #[.int .i64 0, .bool na, .string ta, .int .i64 ea], .int .i64 p, .int .i64 m] w fun e w' => e = .returned (.bool true) ∧ Below w.heap.size w w' := by
  have H0 := hide g0
  have H1 := hide g1
  have H2 := hide g2
  have H3 := hide g3
  have HT := hide htab
  have hw : IntKind.i64.wrap (q - p) = q - p := by rw [IntKind.wrap_i64]; omega
  have h2 := toList_ne h0
  clear h0
  clear htab g0 g1 g2 g3
  have Ba0 := hide (Blk.newAt w (w.heap.size) (rfl) #[.int .i64 0, .bool na, .string ta, .int .i64 ea] 23)
  have HB0 : Hid (Below w.heap.size w (w.alloc (.cells #[.int .i64 0, .bool na, .string ta, .int .i64 ea] 23))) := ((Below.refl _ _).alloc (Nat.le_refl _) _)
  go_enter Tryz.func9, Tryz.ntmps9
  go_wp2_with fail
  refine (rawake_any _ (HT.out.below HB0.out)).mono ?_
  rintro e w1 ⟨rfl, hb⟩
  have Ba1 := hide (Ba0.out.below hb Ba0.out.lt)
  have HB1 := hide (HB0.out.trans (hb.mono HB0.out.size))
  clear hb Ba0 HB0 
  have ya0 : w1.cell? ⟨w.heap.size, 0, none⟩ = some (.int .i64 0) := Ba1.out.cell 0
  have ya1 : w1.cell? ⟨w.heap.size, 1, none⟩ = some (.bool na) := Ba1.out.cell 1
  have ya2 : w1.cell? ⟨w.heap.size, 2, none⟩ = some (.string ta) := Ba1.out.cell 2
  have ya3 : w1.cell? ⟨w.heap.size, 3, none⟩ = some (.int .i64 ea) := Ba1.out.cell 3
  go_wp2_with fail
  refine (H0.out _).mono ?_
  rintro e w2 ⟨rfl, hb⟩
  have Ba2 := hide (Ba1.out.below hb Ba1.out.lt)
  have HB2 := hide (HB1.out.trans (hb.mono HB1.out.size))
  clear hb Ba1 HB1 ya0 ya1 ya2 ya3
  have ya0 : w2.cell? ⟨w.heap.size, 0, none⟩ = some (.int .i64 0) := Ba2.out.cell 0
  have ya1 : w2.cell? ⟨w.heap.size, 1, none⟩ = some (.bool na) := Ba2.out.cell 1
  have ya2 : w2.cell? ⟨w.heap.size, 2, none⟩ = some (.string ta) := Ba2.out.cell 2
  have ya3 : w2.cell? ⟨w.heap.size, 3, none⟩ = some (.int .i64 ea) := Ba2.out.cell 3
  go_wp2_with fail
  refine (H1.out _ (HT.out.below HB2.out)).mono ?_
  rintro e w3 ⟨rfl, hb⟩
  have Ba3 := hide (Ba2.out.below hb Ba2.out.lt)
  have HB3 := hide (HB2.out.trans (hb.mono HB2.out.size))
  clear hb Ba2 HB2 ya0 ya1 ya2 ya3
  have ya0 : w3.cell? ⟨w.heap.size, 0, none⟩ = some (.int .i64 0) := Ba3.out.cell 0
  have ya1 : w3.cell? ⟨w.heap.size, 1, none⟩ = some (.bool na) := Ba3.out.cell 1
  have ya2 : w3.cell? ⟨w.heap.size, 2, none⟩ = some (.string ta) := Ba3.out.cell 2
  have ya3 : w3.cell? ⟨w.heap.size, 3, none⟩ = some (.int .i64 ea) := Ba3.out.cell 3
  have Ba4 := hide ((Ba3.out.alloc (.cells #[.int .i64 0, .bool na, .string ta, .int .i64 ea] 23)))
  have Bx4 := hide ((Blk.newAt w3 (w3.heap.size) (rfl) #[.int .i64 0, .bool na, .string ta, .int .i64 ea] 23))
  have HB4 : Hid (Below w.heap.size w (w3.alloc (.cells #[.int .i64 0, .bool na, .string ta, .int .i64 ea] 23))) := (HB3.out.alloc HB3.out.size _)
  clear Ba3 HB3 ya0 ya1 ya2 ya3
  have ya0 : (w3.alloc (.cells #[.int .i64 0, .bool na, .string ta, .int .i64 ea] 23)).cell? ⟨w.heap.size, 0, none⟩ = some (.int .i64 0) := Ba4.out.cell 0
  have ya1 : (w3.alloc (.cells #[.int .i64 0, .bool na, .string ta, .int .i64 ea] 23)).cell? ⟨w.heap.size, 1, none⟩ = some (.bool na) := Ba4.out.cell 1
  have ya2 : (w3.alloc (.cells #[.int .i64 0, .bool na, .string ta, .int .i64 ea] 23)).cell? ⟨w.heap.size, 2, none⟩ = some (.string ta) := Ba4.out.cell 2
  have ya3 : (w3.alloc (.cells #[.int .i64 0, .bool na, .string ta, .int .i64 ea] 23)).cell? ⟨w.heap.size, 3, none⟩ = some (.int .i64 ea) := Ba4.out.cell 3
  have yx0 : (w3.alloc (.cells #[.int .i64 0, .bool na, .string ta, .int .i64 ea] 23)).cell? ⟨w3.heap.size, 0, none⟩ = some (.int .i64 0) := Bx4.out.cell 0
  have yx1 : (w3.alloc (.cells #[.int .i64 0, .bool na, .string ta, .int .i64 ea] 23)).cell? ⟨w3.heap.size, 1, none⟩ = some (.bool na) := Bx4.out.cell 1
  have yx2 : (w3.alloc (.cells #[.int .i64 0, .bool na, .string ta, .int .i64 ea] 23)).cell? ⟨w3.heap.size, 2, none⟩ = some (.string ta) := Bx4.out.cell 2
  have yx3 : (w3.alloc (.cells #[.int .i64 0, .bool na, .string ta, .int .i64 ea] 23)).cell? ⟨w3.heap.size, 3, none⟩ = some (.int .i64 ea) := Bx4.out.cell 3
  have HTW := hide (HT.out.below HB4.out)
  obtain ⟨W2, hW2⟩ : ∃ W2, W2 = (w3.alloc (.cells #[.int .i64 0, .bool na, .string ta, .int .i64 ea] 23)) := ⟨_, rfl⟩
  rw [← hW2] at HTW HB4 Ba4 Bx4 ya0 ya1 ya2 ya3 yx0 yx1 yx2 yx3
  have HW2 := hide hW2
  clear hW2
  have HL : Hid (w.heap.size < W2.heap.size) := Ba4.out.lt
  go_wp2_with fail
  try simp only [← HW2.out]
  go_cut [9, 10] (fun vp ve wx => CutD W2 #[.int .i64 0, .bool na, .string ta, .int .i64 ea] 0 vp ve wx)
  case first =>
    have C0 : Hid (∀ X, Hid (Below W2.heap.size W2 X) → Calls Tryz.prog 24 #[.string ⟨#[49]⟩, .int .i64 p] X fun e w' => e = .returned (.agg #[.int .i64 0, .bool false, .string ⟨#[49]⟩, .int .i64 p]) ∧ Hid (Below X.heap.size X w') ∧ Hid (Below W2.heap.size W2 w') ∧ w'.cell? ⟨w.heap.size, 0, none⟩ = some (.int .i64 0) ∧ w'.cell? ⟨w.heap.size, 1, none⟩ = some (.bool na) ∧ w'.cell? ⟨w.heap.size, 2, none⟩ = some (.string ta) ∧ w'.cell? ⟨w.heap.size, 3, none⟩ = some (.int .i64 ea)) := by
      intro X bX
      refine (num_any _ _ X).mono ?_
      rintro e w' ⟨rfl, hb⟩
      have bb := bX.out.trans (hb.mono bX.out.size)
      have Baq := Ba4.out.below bb Ba4.out.lt
      exact ⟨rfl, hb, bb, Baq.cell 0, Baq.cell 1, Baq.cell 2, Baq.cell 3⟩
    have C1 : Hid (∀ X, Hid (Below W2.heap.size W2 X) → Calls Tryz.prog 16 #[.agg #[.int .i64 0, .bool na, .string ta, .int .i64 ea], dcV 0 false ⟨#[49]⟩ p, .int .i64 m] X fun e w' => e = .returned (.tuple #[.agg #[.int .i64 0, .bool na, .string ta, .int .i64 ea], .int .i64 0]) ∧ Hid (Below X.heap.size X w') ∧ Hid (Below W2.heap.size W2 w') ∧ w'.cell? ⟨w.heap.size, 0, none⟩ = some (.int .i64 0) ∧ w'.cell? ⟨w.heap.size, 1, none⟩ = some (.bool na) ∧ w'.cell? ⟨w.heap.size, 2, none⟩ = some (.string ta) ∧ w'.cell? ⟨w.heap.size, 3, none⟩ = some (.int .i64 ea)) := by
      intro X bX
      refine (H2.out X (HTW.out.below bX.out)).mono ?_
      rintro e w' ⟨rfl, hb⟩
      have bb := bX.out.trans (hb.mono bX.out.size)
      have Baq := Ba4.out.below bb Ba4.out.lt
      exact ⟨rfl, hb, bb, Baq.cell 0, Baq.cell 1, Baq.cell 2, Baq.cell 3⟩
    have b0 : Hid (Below W2.heap.size W2 W2.drew) := bdrewD W2
    have naW2 : ¬ w.heap.size = W2.heap.size := (by have := HL.out; omega)
    have maW2 : ¬ W2.heap.size = w.heap.size := (by have := HL.out; omega)
    have mk0 : True := trivial
    go_region_held3 (fun w' => w'.cell? ⟨w.heap.size, 0, none⟩ = some (.int .i64 0) ∧ w'.cell? ⟨w.heap.size, 1, none⟩ = some (.bool na) ∧ w'.cell? ⟨w.heap.size, 2, none⟩ = some (.string ta) ∧ w'.cell? ⟨w.heap.size, 3, none⟩ = some (.int .i64 ea)) (go_keep) (first
        | (clear mk0; go_at_call 24; refine (C0.out _ (bal b0 (Obj.cells #[Value.int .i64 0, Value.bool false, Value.string ⟨#[]⟩, Value.int .i64 0] 23))).mono ?_; rintro e u1 ⟨rfl, R1, b1, q0_0, q0_1, q0_2, q0_3⟩; have QN := (Blk.newAt W2.drew W2.heap.size rfl #[.int .i64 0, .bool false, .string ⟨#[]⟩, .int .i64 0] 23).below R1.out (Blk.newAt W2.drew W2.heap.size rfl #[.int .i64 0, .bool false, .string ⟨#[]⟩, .int .i64 0] 23).lt; have h0 : u1.cell? ⟨W2.heap.size, 0, none⟩ = some (.int .i64 0) := QN.cell 0; have h1 : u1.cell? ⟨W2.heap.size, 1, none⟩ = some (.bool false) := QN.cell 1; have h2 : u1.cell? ⟨W2.heap.size, 2, none⟩ = some (.string ⟨#[]⟩) := QN.cell 2; have h3 : u1.cell? ⟨W2.heap.size, 3, none⟩ = some (.int .i64 0) := QN.cell 3; have h4 := QN.free 0; have h5 := QN.free 1; have h6 := QN.free 2; have h7 := QN.free 3; have QH := hide QN; clear QN; have mk1L0 : True := trivial)
        | (clear mk0; go_at_call 24; refine (C0.out _ b0).mono ?_; rintro e u1 ⟨rfl, R1, b1, q0_0, q0_1, q0_2, q0_3⟩; have nau1 : ¬ w.heap.size = u1.heap.size := (by have := HL.out; have := b1.out.size; omega); have mau1 : ¬ u1.heap.size = w.heap.size := (by have := HL.out; have := b1.out.size; omega); have mk1 : True := trivial)
        | (clear mk1L0; go_at_call 16; refine (C1.out _ b1).mono ?_; rintro e u2 ⟨rfl, R2, b2, q1_0, q1_1, q1_2, q1_3⟩; clear h0 h1 h2 h3 h4 h5 h6 h7; have QN := QH.out.below R2.out QH.out.lt; have h0 : u2.cell? ⟨W2.heap.size, 0, none⟩ = some (.int .i64 0) := QN.cell 0; have h1 : u2.cell? ⟨W2.heap.size, 1, none⟩ = some (.bool false) := QN.cell 1; have h2 : u2.cell? ⟨W2.heap.size, 2, none⟩ = some (.string ⟨#[]⟩) := QN.cell 2; have h3 : u2.cell? ⟨W2.heap.size, 3, none⟩ = some (.int .i64 0) := QN.cell 3; have h4 := QN.free 0; have h5 := QN.free 1; have h6 := QN.free 2; have h7 := QN.free 3; have QH := hide QN; clear QN; have mk2L0 : True := trivial)
        | (clear mk1; go_at_call 16; refine (C1.out _ (bal b1 (Obj.cells #[Value.int .i64 0, Value.bool false, Value.string ⟨#[]⟩, Value.int .i64 0] 23))).mono ?_; rintro e u2 ⟨rfl, R2, b2, q1_0, q1_1, q1_2, q1_3⟩; have QN := (Blk.newAt u1 u1.heap.size rfl #[.int .i64 0, .bool false, .string ⟨#[]⟩, .int .i64 0] 23).below R2.out (Blk.newAt u1 u1.heap.size rfl #[.int .i64 0, .bool false, .string ⟨#[]⟩, .int .i64 0] 23).lt; have h0 : u2.cell? ⟨u1.heap.size, 0, none⟩ = some (.int .i64 0) := QN.cell 0; have h1 : u2.cell? ⟨u1.heap.size, 1, none⟩ = some (.bool false) := QN.cell 1; have h2 : u2.cell? ⟨u1.heap.size, 2, none⟩ = some (.string ⟨#[]⟩) := QN.cell 2; have h3 : u2.cell? ⟨u1.heap.size, 3, none⟩ = some (.int .i64 0) := QN.cell 3; have h4 := QN.free 0; have h5 := QN.free 1; have h6 := QN.free 2; have h7 := QN.free 3; have QH := hide QN; clear QN; have mk2L1 : True := trivial)
        | (clear mk1; go_at_call 16; refine (C1.out _ b1).mono ?_; rintro e u2 ⟨rfl, R2, b2, q1_0, q1_1, q1_2, q1_3⟩; have nau2 : ¬ w.heap.size = u2.heap.size := (by have := HL.out; have := b2.out.size; omega); have mau2 : ¬ u2.heap.size = w.heap.size := (by have := HL.out; have := b2.out.size; omega); have mk2 : True := trivial))
    all_goals (go_wp2_with fail; go_meet)
    all_goals (first | (clear mk2L0; exact cutd_old b2.out QH.out (Nat.le_refl _)) | (clear mk2L1; exact cutd_old b2.out QH.out b1.out.size) | (clear mk2; exact cutd_new b2.out))
  obtain ⟨⟨Hy, rfl, rfl, hq, hH, hbc⟩⟩ := hcut
  obtain ⟨w5, hwk⟩ : ∃ x, x = wc := ⟨_, rfl⟩
  subst hwk
  have Ba5 := hide (Ba4.out.below hbc Ba4.out.lt)
  have Bx5 := hide (Bx4.out.below hbc Bx4.out.lt)
  have By5 := hide hq
  have HB5 := hide (HB4.out.trans (hbc.mono HB4.out.size))
  clear HL hq hH hbc Ba4 Bx4 HB4 ya0 ya1 ya2 ya3 yx0 yx1 yx2 yx3
  have ya0 : w5.cell? ⟨w.heap.size, 0, none⟩ = some (.int .i64 0) := Ba5.out.cell 0
  have ya1 : w5.cell? ⟨w.heap.size, 1, none⟩ = some (.bool na) := Ba5.out.cell 1
  have ya2 : w5.cell? ⟨w.heap.size, 2, none⟩ = some (.string ta) := Ba5.out.cell 2
  have ya3 : w5.cell? ⟨w.heap.size, 3, none⟩ = some (.int .i64 ea) := Ba5.out.cell 3
  have yx0 : w5.cell? ⟨w3.heap.size, 0, none⟩ = some (.int .i64 0) := Bx5.out.cell 0
  have yx1 : w5.cell? ⟨w3.heap.size, 1, none⟩ = some (.bool na) := Bx5.out.cell 1
  have yx2 : w5.cell? ⟨w3.heap.size, 2, none⟩ = some (.string ta) := Bx5.out.cell 2
  have yx3 : w5.cell? ⟨w3.heap.size, 3, none⟩ = some (.int .i64 ea) := Bx5.out.cell 3
  have yy0 : w5.cell? ⟨Hy, 0, none⟩ = some (.int .i64 0) := By5.out.cell 0
  have yy1 : w5.cell? ⟨Hy, 1, none⟩ = some (.bool na) := By5.out.cell 1
  have yy2 : w5.cell? ⟨Hy, 2, none⟩ = some (.string ta) := By5.out.cell 2
  have yy3 : w5.cell? ⟨Hy, 3, none⟩ = some (.int .i64 ea) := By5.out.cell 3
  clear HTW HW2
  go_wp2_with fail
  refine (H3.out _).mono ?_
  rintro e w6 ⟨rfl, hb⟩
  have Ba6 := hide (Ba5.out.below hb Ba5.out.lt)
  have Bx6 := hide (Bx5.out.below hb Bx5.out.lt)
  have By6 := hide (By5.out.below hb By5.out.lt)
  have HB6 := hide (HB5.out.trans (hb.mono HB5.out.size))
  clear hb Ba5 Bx5 By5 HB5 ya0 ya1 ya2 ya3 yx0 yx1 yx2 yx3 yy0 yy1 yy2 yy3
  have ya0 : w6.cell? ⟨w.heap.size, 0, none⟩ = some (.int .i64 0) := Ba6.out.cell 0
  have ya1 : w6.cell? ⟨w.heap.size, 1, none⟩ = some (.bool na) := Ba6.out.cell 1
  have ya2 : w6.cell? ⟨w.heap.size, 2, none⟩ = some (.string ta) := Ba6.out.cell 2
  have ya3 : w6.cell? ⟨w.heap.size, 3, none⟩ = some (.int .i64 ea) := Ba6.out.cell 3
  have yx0 : w6.cell? ⟨w3.heap.size, 0, none⟩ = some (.int .i64 0) := Bx6.out.cell 0
  have yx1 : w6.cell? ⟨w3.heap.size, 1, none⟩ = some (.bool na) := Bx6.out.cell 1
  have yx2 : w6.cell? ⟨w3.heap.size, 2, none⟩ = some (.string ta) := Bx6.out.cell 2
  have yx3 : w6.cell? ⟨w3.heap.size, 3, none⟩ = some (.int .i64 ea) := Bx6.out.cell 3
  have yy0 : w6.cell? ⟨Hy, 0, none⟩ = some (.int .i64 0) := By6.out.cell 0
  have yy1 : w6.cell? ⟨Hy, 1, none⟩ = some (.bool na) := By6.out.cell 1
  have yy2 : w6.cell? ⟨Hy, 2, none⟩ = some (.string ta) := By6.out.cell 2
  have yy3 : w6.cell? ⟨Hy, 3, none⟩ = some (.int .i64 ea) := By6.out.cell 3
  go_wp2
  go_ret
  exact ⟨rfl, HB6.out⟩

set_option maxRecDepth 100000 in
set_option maxHeartbeats 4000000 in
theorem ways_le_high (na : Bool) (ta : ByteArray) (ea : Int) (p m q : Int) (w : World) (htab : Tab w) (m1 : 0 ≤ m) (m2 : m ≤ 7) (p1 : -1990 ≤ p) (p2 : p ≤ 1990) (h0 : ta.size ≠ 0) (hp : p ≤ ea) (q1 : 1000 < q - p) (q2 : q ≤ 10000) (g0 : ∀ W, Calls Tryz.prog 23 #[.agg #[.int .i64 0, .bool na, .string ta, .int .i64 ea]] W fun e w' => e = .returned (.bool true) ∧ Below W.heap.size W w') (g1 : ∀ W, Tab W → Calls Tryz.prog 11 #[.agg #[.int .i64 0, .bool na, .string ta, .int .i64 ea], .int .i64 p, .int .i64 m] W fun e w' => e = .returned (.tuple #[.agg #[.int .i64 0, .bool na, .string ta, .int .i64 ea], .int .i64 0]) ∧ Below W.heap.size W w') (g2 : ∀ W, Tab W → Calls Tryz.prog 16 #[.agg #[.int .i64 0, .bool na, .string ta, .int .i64 ea], dcV 0 false ⟨#[49]⟩ p, .int .i64 m] W fun e w' => e = .returned (.tuple #[.agg #[.int .i64 0, .bool na, .string ta, .int .i64 ea], .int .i64 0]) ∧ Below W.heap.size W w') (g3 : ∀ W, Calls Tryz.prog 25 #[.agg #[.int .i64 0, .bool na, .string ta, .int .i64 ea]] W fun e w' => e = .returned (.int .i64 q) ∧ Below W.heap.size W w') : Calls Tryz.prog 9 #[.agg #[.int .i64 0, .bool na, .string ta, .int .i64 ea], .int .i64 p, .int .i64 m] w fun e w' => e = .returned (.bool true) ∧ Below w.heap.size w w' := by
  have H0 := hide g0
  have H1 := hide g1
  have H2 := hide g2
  have H3 := hide g3
  have HT := hide htab
  have hw : IntKind.i64.wrap (q - p) = q - p := by rw [IntKind.wrap_i64]; omega
  have h2 := toList_ne h0
  clear h0
  clear htab g0 g1 g2 g3
  have Ba0 := hide (Blk.newAt w (w.heap.size) (rfl) #[.int .i64 0, .bool na, .string ta, .int .i64 ea] 23)
  have HB0 : Hid (Below w.heap.size w (w.alloc (.cells #[.int .i64 0, .bool na, .string ta, .int .i64 ea] 23))) := ((Below.refl _ _).alloc (Nat.le_refl _) _)
  go_enter Tryz.func9, Tryz.ntmps9
  go_wp2_with fail
  refine (rawake_any _ (HT.out.below HB0.out)).mono ?_
  rintro e w1 ⟨rfl, hb⟩
  have Ba1 := hide (Ba0.out.below hb Ba0.out.lt)
  have HB1 := hide (HB0.out.trans (hb.mono HB0.out.size))
  clear hb Ba0 HB0 
  have ya0 : w1.cell? ⟨w.heap.size, 0, none⟩ = some (.int .i64 0) := Ba1.out.cell 0
  have ya1 : w1.cell? ⟨w.heap.size, 1, none⟩ = some (.bool na) := Ba1.out.cell 1
  have ya2 : w1.cell? ⟨w.heap.size, 2, none⟩ = some (.string ta) := Ba1.out.cell 2
  have ya3 : w1.cell? ⟨w.heap.size, 3, none⟩ = some (.int .i64 ea) := Ba1.out.cell 3
  go_wp2_with fail
  refine (H0.out _).mono ?_
  rintro e w2 ⟨rfl, hb⟩
  have Ba2 := hide (Ba1.out.below hb Ba1.out.lt)
  have HB2 := hide (HB1.out.trans (hb.mono HB1.out.size))
  clear hb Ba1 HB1 ya0 ya1 ya2 ya3
  have ya0 : w2.cell? ⟨w.heap.size, 0, none⟩ = some (.int .i64 0) := Ba2.out.cell 0
  have ya1 : w2.cell? ⟨w.heap.size, 1, none⟩ = some (.bool na) := Ba2.out.cell 1
  have ya2 : w2.cell? ⟨w.heap.size, 2, none⟩ = some (.string ta) := Ba2.out.cell 2
  have ya3 : w2.cell? ⟨w.heap.size, 3, none⟩ = some (.int .i64 ea) := Ba2.out.cell 3
  go_wp2_with fail
  refine (H1.out _ (HT.out.below HB2.out)).mono ?_
  rintro e w3 ⟨rfl, hb⟩
  have Ba3 := hide (Ba2.out.below hb Ba2.out.lt)
  have HB3 := hide (HB2.out.trans (hb.mono HB2.out.size))
  clear hb Ba2 HB2 ya0 ya1 ya2 ya3
  have ya0 : w3.cell? ⟨w.heap.size, 0, none⟩ = some (.int .i64 0) := Ba3.out.cell 0
  have ya1 : w3.cell? ⟨w.heap.size, 1, none⟩ = some (.bool na) := Ba3.out.cell 1
  have ya2 : w3.cell? ⟨w.heap.size, 2, none⟩ = some (.string ta) := Ba3.out.cell 2
  have ya3 : w3.cell? ⟨w.heap.size, 3, none⟩ = some (.int .i64 ea) := Ba3.out.cell 3
  have Ba4 := hide ((Ba3.out.alloc (.cells #[.int .i64 0, .bool na, .string ta, .int .i64 ea] 23)))
  have Bx4 := hide ((Blk.newAt w3 (w3.heap.size) (rfl) #[.int .i64 0, .bool na, .string ta, .int .i64 ea] 23))
  have HB4 : Hid (Below w.heap.size w (w3.alloc (.cells #[.int .i64 0, .bool na, .string ta, .int .i64 ea] 23))) := (HB3.out.alloc HB3.out.size _)
  clear Ba3 HB3 ya0 ya1 ya2 ya3
  have ya0 : (w3.alloc (.cells #[.int .i64 0, .bool na, .string ta, .int .i64 ea] 23)).cell? ⟨w.heap.size, 0, none⟩ = some (.int .i64 0) := Ba4.out.cell 0
  have ya1 : (w3.alloc (.cells #[.int .i64 0, .bool na, .string ta, .int .i64 ea] 23)).cell? ⟨w.heap.size, 1, none⟩ = some (.bool na) := Ba4.out.cell 1
  have ya2 : (w3.alloc (.cells #[.int .i64 0, .bool na, .string ta, .int .i64 ea] 23)).cell? ⟨w.heap.size, 2, none⟩ = some (.string ta) := Ba4.out.cell 2
  have ya3 : (w3.alloc (.cells #[.int .i64 0, .bool na, .string ta, .int .i64 ea] 23)).cell? ⟨w.heap.size, 3, none⟩ = some (.int .i64 ea) := Ba4.out.cell 3
  have yx0 : (w3.alloc (.cells #[.int .i64 0, .bool na, .string ta, .int .i64 ea] 23)).cell? ⟨w3.heap.size, 0, none⟩ = some (.int .i64 0) := Bx4.out.cell 0
  have yx1 : (w3.alloc (.cells #[.int .i64 0, .bool na, .string ta, .int .i64 ea] 23)).cell? ⟨w3.heap.size, 1, none⟩ = some (.bool na) := Bx4.out.cell 1
  have yx2 : (w3.alloc (.cells #[.int .i64 0, .bool na, .string ta, .int .i64 ea] 23)).cell? ⟨w3.heap.size, 2, none⟩ = some (.string ta) := Bx4.out.cell 2
  have yx3 : (w3.alloc (.cells #[.int .i64 0, .bool na, .string ta, .int .i64 ea] 23)).cell? ⟨w3.heap.size, 3, none⟩ = some (.int .i64 ea) := Bx4.out.cell 3
  have HTW := hide (HT.out.below HB4.out)
  obtain ⟨W2, hW2⟩ : ∃ W2, W2 = (w3.alloc (.cells #[.int .i64 0, .bool na, .string ta, .int .i64 ea] 23)) := ⟨_, rfl⟩
  rw [← hW2] at HTW HB4 Ba4 Bx4 ya0 ya1 ya2 ya3 yx0 yx1 yx2 yx3
  have HW2 := hide hW2
  clear hW2
  have HL : Hid (w.heap.size < W2.heap.size) := Ba4.out.lt
  go_wp2_with fail
  try simp only [← HW2.out]
  go_cut [9, 10] (fun vp ve wx => CutD W2 #[.int .i64 0, .bool na, .string ta, .int .i64 ea] 0 vp ve wx)
  case first =>
    have C0 : Hid (∀ X, Hid (Below W2.heap.size W2 X) → Calls Tryz.prog 24 #[.string ⟨#[49]⟩, .int .i64 p] X fun e w' => e = .returned (.agg #[.int .i64 0, .bool false, .string ⟨#[49]⟩, .int .i64 p]) ∧ Hid (Below X.heap.size X w') ∧ Hid (Below W2.heap.size W2 w') ∧ w'.cell? ⟨w.heap.size, 0, none⟩ = some (.int .i64 0) ∧ w'.cell? ⟨w.heap.size, 1, none⟩ = some (.bool na) ∧ w'.cell? ⟨w.heap.size, 2, none⟩ = some (.string ta) ∧ w'.cell? ⟨w.heap.size, 3, none⟩ = some (.int .i64 ea)) := by
      intro X bX
      refine (num_any _ _ X).mono ?_
      rintro e w' ⟨rfl, hb⟩
      have bb := bX.out.trans (hb.mono bX.out.size)
      have Baq := Ba4.out.below bb Ba4.out.lt
      exact ⟨rfl, hb, bb, Baq.cell 0, Baq.cell 1, Baq.cell 2, Baq.cell 3⟩
    have C1 : Hid (∀ X, Hid (Below W2.heap.size W2 X) → Calls Tryz.prog 16 #[.agg #[.int .i64 0, .bool na, .string ta, .int .i64 ea], dcV 0 false ⟨#[49]⟩ p, .int .i64 m] X fun e w' => e = .returned (.tuple #[.agg #[.int .i64 0, .bool na, .string ta, .int .i64 ea], .int .i64 0]) ∧ Hid (Below X.heap.size X w') ∧ Hid (Below W2.heap.size W2 w') ∧ w'.cell? ⟨w.heap.size, 0, none⟩ = some (.int .i64 0) ∧ w'.cell? ⟨w.heap.size, 1, none⟩ = some (.bool na) ∧ w'.cell? ⟨w.heap.size, 2, none⟩ = some (.string ta) ∧ w'.cell? ⟨w.heap.size, 3, none⟩ = some (.int .i64 ea)) := by
      intro X bX
      refine (H2.out X (HTW.out.below bX.out)).mono ?_
      rintro e w' ⟨rfl, hb⟩
      have bb := bX.out.trans (hb.mono bX.out.size)
      have Baq := Ba4.out.below bb Ba4.out.lt
      exact ⟨rfl, hb, bb, Baq.cell 0, Baq.cell 1, Baq.cell 2, Baq.cell 3⟩
    have b0 : Hid (Below W2.heap.size W2 W2.drew) := bdrewD W2
    have naW2 : ¬ w.heap.size = W2.heap.size := (by have := HL.out; omega)
    have maW2 : ¬ W2.heap.size = w.heap.size := (by have := HL.out; omega)
    have mk0 : True := trivial
    go_region_held3 (fun w' => w'.cell? ⟨w.heap.size, 0, none⟩ = some (.int .i64 0) ∧ w'.cell? ⟨w.heap.size, 1, none⟩ = some (.bool na) ∧ w'.cell? ⟨w.heap.size, 2, none⟩ = some (.string ta) ∧ w'.cell? ⟨w.heap.size, 3, none⟩ = some (.int .i64 ea)) (go_keep) (first
        | (clear mk0; go_at_call 24; refine (C0.out _ (bal b0 (Obj.cells #[Value.int .i64 0, Value.bool false, Value.string ⟨#[]⟩, Value.int .i64 0] 23))).mono ?_; rintro e u1 ⟨rfl, R1, b1, q0_0, q0_1, q0_2, q0_3⟩; have QN := (Blk.newAt W2.drew W2.heap.size rfl #[.int .i64 0, .bool false, .string ⟨#[]⟩, .int .i64 0] 23).below R1.out (Blk.newAt W2.drew W2.heap.size rfl #[.int .i64 0, .bool false, .string ⟨#[]⟩, .int .i64 0] 23).lt; have h0 : u1.cell? ⟨W2.heap.size, 0, none⟩ = some (.int .i64 0) := QN.cell 0; have h1 : u1.cell? ⟨W2.heap.size, 1, none⟩ = some (.bool false) := QN.cell 1; have h2 : u1.cell? ⟨W2.heap.size, 2, none⟩ = some (.string ⟨#[]⟩) := QN.cell 2; have h3 : u1.cell? ⟨W2.heap.size, 3, none⟩ = some (.int .i64 0) := QN.cell 3; have h4 := QN.free 0; have h5 := QN.free 1; have h6 := QN.free 2; have h7 := QN.free 3; have QH := hide QN; clear QN; have mk1L0 : True := trivial)
        | (clear mk0; go_at_call 24; refine (C0.out _ b0).mono ?_; rintro e u1 ⟨rfl, R1, b1, q0_0, q0_1, q0_2, q0_3⟩; have nau1 : ¬ w.heap.size = u1.heap.size := (by have := HL.out; have := b1.out.size; omega); have mau1 : ¬ u1.heap.size = w.heap.size := (by have := HL.out; have := b1.out.size; omega); have mk1 : True := trivial)
        | (clear mk1L0; go_at_call 16; refine (C1.out _ b1).mono ?_; rintro e u2 ⟨rfl, R2, b2, q1_0, q1_1, q1_2, q1_3⟩; clear h0 h1 h2 h3 h4 h5 h6 h7; have QN := QH.out.below R2.out QH.out.lt; have h0 : u2.cell? ⟨W2.heap.size, 0, none⟩ = some (.int .i64 0) := QN.cell 0; have h1 : u2.cell? ⟨W2.heap.size, 1, none⟩ = some (.bool false) := QN.cell 1; have h2 : u2.cell? ⟨W2.heap.size, 2, none⟩ = some (.string ⟨#[]⟩) := QN.cell 2; have h3 : u2.cell? ⟨W2.heap.size, 3, none⟩ = some (.int .i64 0) := QN.cell 3; have h4 := QN.free 0; have h5 := QN.free 1; have h6 := QN.free 2; have h7 := QN.free 3; have QH := hide QN; clear QN; have mk2L0 : True := trivial)
        | (clear mk1; go_at_call 16; refine (C1.out _ (bal b1 (Obj.cells #[Value.int .i64 0, Value.bool false, Value.string ⟨#[]⟩, Value.int .i64 0] 23))).mono ?_; rintro e u2 ⟨rfl, R2, b2, q1_0, q1_1, q1_2, q1_3⟩; have QN := (Blk.newAt u1 u1.heap.size rfl #[.int .i64 0, .bool false, .string ⟨#[]⟩, .int .i64 0] 23).below R2.out (Blk.newAt u1 u1.heap.size rfl #[.int .i64 0, .bool false, .string ⟨#[]⟩, .int .i64 0] 23).lt; have h0 : u2.cell? ⟨u1.heap.size, 0, none⟩ = some (.int .i64 0) := QN.cell 0; have h1 : u2.cell? ⟨u1.heap.size, 1, none⟩ = some (.bool false) := QN.cell 1; have h2 : u2.cell? ⟨u1.heap.size, 2, none⟩ = some (.string ⟨#[]⟩) := QN.cell 2; have h3 : u2.cell? ⟨u1.heap.size, 3, none⟩ = some (.int .i64 0) := QN.cell 3; have h4 := QN.free 0; have h5 := QN.free 1; have h6 := QN.free 2; have h7 := QN.free 3; have QH := hide QN; clear QN; have mk2L1 : True := trivial)
        | (clear mk1; go_at_call 16; refine (C1.out _ b1).mono ?_; rintro e u2 ⟨rfl, R2, b2, q1_0, q1_1, q1_2, q1_3⟩; have nau2 : ¬ w.heap.size = u2.heap.size := (by have := HL.out; have := b2.out.size; omega); have mau2 : ¬ u2.heap.size = w.heap.size := (by have := HL.out; have := b2.out.size; omega); have mk2 : True := trivial))
    all_goals (go_wp2_with fail; go_meet)
    all_goals (first | (clear mk2L0; exact cutd_old b2.out QH.out (Nat.le_refl _)) | (clear mk2L1; exact cutd_old b2.out QH.out b1.out.size) | (clear mk2; exact cutd_new b2.out))
  obtain ⟨⟨Hy, rfl, rfl, hq, hH, hbc⟩⟩ := hcut
  obtain ⟨w5, hwk⟩ : ∃ x, x = wc := ⟨_, rfl⟩
  subst hwk
  have Ba5 := hide (Ba4.out.below hbc Ba4.out.lt)
  have Bx5 := hide (Bx4.out.below hbc Bx4.out.lt)
  have By5 := hide hq
  have HB5 := hide (HB4.out.trans (hbc.mono HB4.out.size))
  clear HL hq hH hbc Ba4 Bx4 HB4 ya0 ya1 ya2 ya3 yx0 yx1 yx2 yx3
  have ya0 : w5.cell? ⟨w.heap.size, 0, none⟩ = some (.int .i64 0) := Ba5.out.cell 0
  have ya1 : w5.cell? ⟨w.heap.size, 1, none⟩ = some (.bool na) := Ba5.out.cell 1
  have ya2 : w5.cell? ⟨w.heap.size, 2, none⟩ = some (.string ta) := Ba5.out.cell 2
  have ya3 : w5.cell? ⟨w.heap.size, 3, none⟩ = some (.int .i64 ea) := Ba5.out.cell 3
  have yx0 : w5.cell? ⟨w3.heap.size, 0, none⟩ = some (.int .i64 0) := Bx5.out.cell 0
  have yx1 : w5.cell? ⟨w3.heap.size, 1, none⟩ = some (.bool na) := Bx5.out.cell 1
  have yx2 : w5.cell? ⟨w3.heap.size, 2, none⟩ = some (.string ta) := Bx5.out.cell 2
  have yx3 : w5.cell? ⟨w3.heap.size, 3, none⟩ = some (.int .i64 ea) := Bx5.out.cell 3
  have yy0 : w5.cell? ⟨Hy, 0, none⟩ = some (.int .i64 0) := By5.out.cell 0
  have yy1 : w5.cell? ⟨Hy, 1, none⟩ = some (.bool na) := By5.out.cell 1
  have yy2 : w5.cell? ⟨Hy, 2, none⟩ = some (.string ta) := By5.out.cell 2
  have yy3 : w5.cell? ⟨Hy, 3, none⟩ = some (.int .i64 ea) := By5.out.cell 3
  clear HTW HW2
  go_wp2_with fail
  refine (H3.out _).mono ?_
  rintro e w6 ⟨rfl, hb⟩
  have Ba6 := hide (Ba5.out.below hb Ba5.out.lt)
  have Bx6 := hide (Bx5.out.below hb Bx5.out.lt)
  have By6 := hide (By5.out.below hb By5.out.lt)
  have HB6 := hide (HB5.out.trans (hb.mono HB5.out.size))
  clear hb Ba5 Bx5 By5 HB5 ya0 ya1 ya2 ya3 yx0 yx1 yx2 yx3 yy0 yy1 yy2 yy3
  have ya0 : w6.cell? ⟨w.heap.size, 0, none⟩ = some (.int .i64 0) := Ba6.out.cell 0
  have ya1 : w6.cell? ⟨w.heap.size, 1, none⟩ = some (.bool na) := Ba6.out.cell 1
  have ya2 : w6.cell? ⟨w.heap.size, 2, none⟩ = some (.string ta) := Ba6.out.cell 2
  have ya3 : w6.cell? ⟨w.heap.size, 3, none⟩ = some (.int .i64 ea) := Ba6.out.cell 3
  have yx0 : w6.cell? ⟨w3.heap.size, 0, none⟩ = some (.int .i64 0) := Bx6.out.cell 0
  have yx1 : w6.cell? ⟨w3.heap.size, 1, none⟩ = some (.bool na) := Bx6.out.cell 1
  have yx2 : w6.cell? ⟨w3.heap.size, 2, none⟩ = some (.string ta) := Bx6.out.cell 2
  have yx3 : w6.cell? ⟨w3.heap.size, 3, none⟩ = some (.int .i64 ea) := Bx6.out.cell 3
  have yy0 : w6.cell? ⟨Hy, 0, none⟩ = some (.int .i64 0) := By6.out.cell 0
  have yy1 : w6.cell? ⟨Hy, 1, none⟩ = some (.bool na) := By6.out.cell 1
  have yy2 : w6.cell? ⟨Hy, 2, none⟩ = some (.string ta) := By6.out.cell 2
  have yy3 : w6.cell? ⟨Hy, 3, none⟩ = some (.int .i64 ea) := By6.out.cell 3
  go_wp2
  go_ret
  exact ⟨rfl, HB6.out⟩

end Go.Proofs.YtcclbcnmkaobpaaGreatDoor

namespace Go.Proofs.YtcclbcnmkaobpaaGreatDoor
open Go.RowKit

set_option maxRecDepth 100000 in
set_option maxHeartbeats 4000000 in
theorem ways_zero_in (na : Bool) (cz : Int) (nz : Bool) (tz : ByteArray) (ez : Int) (rz : Int) (p m q : Int) (w : World) (htab : Tab w) (m1 : 0 ≤ m) (m2 : m ≤ 7) (p1 : -1990 ≤ p) (p2 : p ≤ 1990) (q1 : 1 ≤ q - p) (q2 : q - p ≤ 1000) (g0 : ∀ W, Calls Tryz.prog 23 #[.agg #[.int .i64 0, .bool na, .string ⟨#[]⟩, .int .i64 0]] W fun e w' => e = .returned (.bool true) ∧ Below W.heap.size W w') (g1 : ∀ W, Tab W → Calls Tryz.prog 11 #[.agg #[.int .i64 0, .bool na, .string ⟨#[]⟩, .int .i64 0], .int .i64 p, .int .i64 m] W fun e w' => e = .returned (.tuple #[.agg #[.int .i64 0, .bool na, .string ⟨#[]⟩, .int .i64 0], .int .i64 0]) ∧ Below W.heap.size W w') (g2 : ∀ W, Tab W → Calls Tryz.prog 16 #[.agg #[.int .i64 0, .bool na, .string ⟨#[]⟩, .int .i64 0], dcV 0 false ⟨#[49]⟩ p, .int .i64 m] W fun e w' => e = .returned (.tuple #[.agg #[.int .i64 0, .bool na, .string ⟨#[]⟩, .int .i64 0], .int .i64 0]) ∧ Below W.heap.size W w') (g3 : ∀ W, Calls Tryz.prog 25 #[.agg #[.int .i64 0, .bool na, .string ⟨#[]⟩, .int .i64 0]] W fun e w' => e = .returned (.int .i64 q) ∧ Below W.heap.size W w') (g4 : ∀ W, Tab W → Calls Tryz.prog 14 #[.agg #[.int .i64 0, .bool na, .string ⟨#[]⟩, .int .i64 0], .int .i64 (q - p), .int .i64 m] W fun e w' => e = .returned (.tuple #[.agg #[.int .i64 cz, .bool nz, .string tz, .int .i64 ez], .int .i64 rz]) ∧ Below W.heap.size W w') : Calls Tryz.prog 9 #[.agg #[.int .i64 0, .bool na, .string ⟨#[]⟩, .int .i64 0], .int .i64 p, .int .i64 m] w fun e w' => e = .returned (.bool true) ∧ Below w.heap.size w w' := by
  have H0 := hide g0
  have H1 := hide g1
  have H2 := hide g2
  have H3 := hide g3
  have H4 := hide g4
  have HT := hide htab
  have hw : IntKind.i64.wrap (q - p) = q - p := by rw [IntKind.wrap_i64]; omega
  clear htab g0 g1 g2 g3 g4
  have Ba0 := hide (Blk.newAt w (w.heap.size) (rfl) #[.int .i64 0, .bool na, .string ⟨#[]⟩, .int .i64 0] 23)
  have HB0 : Hid (Below w.heap.size w (w.alloc (.cells #[.int .i64 0, .bool na, .string ⟨#[]⟩, .int .i64 0] 23))) := ((Below.refl _ _).alloc (Nat.le_refl _) _)
  go_enter Tryz.func9, Tryz.ntmps9
  go_wp2_with fail
  refine (rawake_any _ (HT.out.below HB0.out)).mono ?_
  rintro e w1 ⟨rfl, hb⟩
  have Ba1 := hide (Ba0.out.below hb Ba0.out.lt)
  have HB1 := hide (HB0.out.trans (hb.mono HB0.out.size))
  clear hb Ba0 HB0 
  have ya0 : w1.cell? ⟨w.heap.size, 0, none⟩ = some (.int .i64 0) := Ba1.out.cell 0
  have ya1 : w1.cell? ⟨w.heap.size, 1, none⟩ = some (.bool na) := Ba1.out.cell 1
  have ya2 : w1.cell? ⟨w.heap.size, 2, none⟩ = some (.string ⟨#[]⟩) := Ba1.out.cell 2
  have ya3 : w1.cell? ⟨w.heap.size, 3, none⟩ = some (.int .i64 0) := Ba1.out.cell 3
  go_wp2_with fail
  refine (H0.out _).mono ?_
  rintro e w2 ⟨rfl, hb⟩
  have Ba2 := hide (Ba1.out.below hb Ba1.out.lt)
  have HB2 := hide (HB1.out.trans (hb.mono HB1.out.size))
  clear hb Ba1 HB1 ya0 ya1 ya2 ya3
  have ya0 : w2.cell? ⟨w.heap.size, 0, none⟩ = some (.int .i64 0) := Ba2.out.cell 0
  have ya1 : w2.cell? ⟨w.heap.size, 1, none⟩ = some (.bool na) := Ba2.out.cell 1
  have ya2 : w2.cell? ⟨w.heap.size, 2, none⟩ = some (.string ⟨#[]⟩) := Ba2.out.cell 2
  have ya3 : w2.cell? ⟨w.heap.size, 3, none⟩ = some (.int .i64 0) := Ba2.out.cell 3
  go_wp2_with fail
  refine (H1.out _ (HT.out.below HB2.out)).mono ?_
  rintro e w3 ⟨rfl, hb⟩
  have Ba3 := hide (Ba2.out.below hb Ba2.out.lt)
  have HB3 := hide (HB2.out.trans (hb.mono HB2.out.size))
  clear hb Ba2 HB2 ya0 ya1 ya2 ya3
  have ya0 : w3.cell? ⟨w.heap.size, 0, none⟩ = some (.int .i64 0) := Ba3.out.cell 0
  have ya1 : w3.cell? ⟨w.heap.size, 1, none⟩ = some (.bool na) := Ba3.out.cell 1
  have ya2 : w3.cell? ⟨w.heap.size, 2, none⟩ = some (.string ⟨#[]⟩) := Ba3.out.cell 2
  have ya3 : w3.cell? ⟨w.heap.size, 3, none⟩ = some (.int .i64 0) := Ba3.out.cell 3
  have Ba4 := hide ((Ba3.out.alloc (.cells #[.int .i64 0, .bool na, .string ⟨#[]⟩, .int .i64 0] 23)))
  have Bx4 := hide ((Blk.newAt w3 (w3.heap.size) (rfl) #[.int .i64 0, .bool na, .string ⟨#[]⟩, .int .i64 0] 23))
  have HB4 : Hid (Below w.heap.size w (w3.alloc (.cells #[.int .i64 0, .bool na, .string ⟨#[]⟩, .int .i64 0] 23))) := (HB3.out.alloc HB3.out.size _)
  clear Ba3 HB3 ya0 ya1 ya2 ya3
  have ya0 : (w3.alloc (.cells #[.int .i64 0, .bool na, .string ⟨#[]⟩, .int .i64 0] 23)).cell? ⟨w.heap.size, 0, none⟩ = some (.int .i64 0) := Ba4.out.cell 0
  have ya1 : (w3.alloc (.cells #[.int .i64 0, .bool na, .string ⟨#[]⟩, .int .i64 0] 23)).cell? ⟨w.heap.size, 1, none⟩ = some (.bool na) := Ba4.out.cell 1
  have ya2 : (w3.alloc (.cells #[.int .i64 0, .bool na, .string ⟨#[]⟩, .int .i64 0] 23)).cell? ⟨w.heap.size, 2, none⟩ = some (.string ⟨#[]⟩) := Ba4.out.cell 2
  have ya3 : (w3.alloc (.cells #[.int .i64 0, .bool na, .string ⟨#[]⟩, .int .i64 0] 23)).cell? ⟨w.heap.size, 3, none⟩ = some (.int .i64 0) := Ba4.out.cell 3
  have yx0 : (w3.alloc (.cells #[.int .i64 0, .bool na, .string ⟨#[]⟩, .int .i64 0] 23)).cell? ⟨w3.heap.size, 0, none⟩ = some (.int .i64 0) := Bx4.out.cell 0
  have yx1 : (w3.alloc (.cells #[.int .i64 0, .bool na, .string ⟨#[]⟩, .int .i64 0] 23)).cell? ⟨w3.heap.size, 1, none⟩ = some (.bool na) := Bx4.out.cell 1
  have yx2 : (w3.alloc (.cells #[.int .i64 0, .bool na, .string ⟨#[]⟩, .int .i64 0] 23)).cell? ⟨w3.heap.size, 2, none⟩ = some (.string ⟨#[]⟩) := Bx4.out.cell 2
  have yx3 : (w3.alloc (.cells #[.int .i64 0, .bool na, .string ⟨#[]⟩, .int .i64 0] 23)).cell? ⟨w3.heap.size, 3, none⟩ = some (.int .i64 0) := Bx4.out.cell 3
  have HTW := hide (HT.out.below HB4.out)
  obtain ⟨W2, hW2⟩ : ∃ W2, W2 = (w3.alloc (.cells #[.int .i64 0, .bool na, .string ⟨#[]⟩, .int .i64 0] 23)) := ⟨_, rfl⟩
  rw [← hW2] at HTW HB4 Ba4 Bx4 ya0 ya1 ya2 ya3 yx0 yx1 yx2 yx3
  have HW2 := hide hW2
  clear hW2
  have HL : Hid (w.heap.size < W2.heap.size) := Ba4.out.lt
  go_wp2_with fail
  try simp only [← HW2.out]
  go_cut [9, 10] (fun vp ve wx => CutD W2 #[.int .i64 0, .bool na, .string ⟨#[]⟩, .int .i64 0] 0 vp ve wx)
  case first =>
    have C0 : Hid (∀ X, Hid (Below W2.heap.size W2 X) → Calls Tryz.prog 24 #[.string ⟨#[49]⟩, .int .i64 p] X fun e w' => e = .returned (.agg #[.int .i64 0, .bool false, .string ⟨#[49]⟩, .int .i64 p]) ∧ Hid (Below X.heap.size X w') ∧ Hid (Below W2.heap.size W2 w') ∧ w'.cell? ⟨w.heap.size, 0, none⟩ = some (.int .i64 0) ∧ w'.cell? ⟨w.heap.size, 1, none⟩ = some (.bool na) ∧ w'.cell? ⟨w.heap.size, 2, none⟩ = some (.string ⟨#[]⟩) ∧ w'.cell? ⟨w.heap.size, 3, none⟩ = some (.int .i64 0)) := by
      intro X bX
      refine (num_any _ _ X).mono ?_
      rintro e w' ⟨rfl, hb⟩
      have bb := bX.out.trans (hb.mono bX.out.size)
      have Baq := Ba4.out.below bb Ba4.out.lt
      exact ⟨rfl, hb, bb, Baq.cell 0, Baq.cell 1, Baq.cell 2, Baq.cell 3⟩
    have C1 : Hid (∀ X, Hid (Below W2.heap.size W2 X) → Calls Tryz.prog 16 #[.agg #[.int .i64 0, .bool na, .string ⟨#[]⟩, .int .i64 0], dcV 0 false ⟨#[49]⟩ p, .int .i64 m] X fun e w' => e = .returned (.tuple #[.agg #[.int .i64 0, .bool na, .string ⟨#[]⟩, .int .i64 0], .int .i64 0]) ∧ Hid (Below X.heap.size X w') ∧ Hid (Below W2.heap.size W2 w') ∧ w'.cell? ⟨w.heap.size, 0, none⟩ = some (.int .i64 0) ∧ w'.cell? ⟨w.heap.size, 1, none⟩ = some (.bool na) ∧ w'.cell? ⟨w.heap.size, 2, none⟩ = some (.string ⟨#[]⟩) ∧ w'.cell? ⟨w.heap.size, 3, none⟩ = some (.int .i64 0)) := by
      intro X bX
      refine (H2.out X (HTW.out.below bX.out)).mono ?_
      rintro e w' ⟨rfl, hb⟩
      have bb := bX.out.trans (hb.mono bX.out.size)
      have Baq := Ba4.out.below bb Ba4.out.lt
      exact ⟨rfl, hb, bb, Baq.cell 0, Baq.cell 1, Baq.cell 2, Baq.cell 3⟩
    have b0 : Hid (Below W2.heap.size W2 W2.drew) := bdrewD W2
    have naW2 : ¬ w.heap.size = W2.heap.size := (by have := HL.out; omega)
    have maW2 : ¬ W2.heap.size = w.heap.size := (by have := HL.out; omega)
    have mk0 : True := trivial
    go_region_held3 (fun w' => w'.cell? ⟨w.heap.size, 0, none⟩ = some (.int .i64 0) ∧ w'.cell? ⟨w.heap.size, 1, none⟩ = some (.bool na) ∧ w'.cell? ⟨w.heap.size, 2, none⟩ = some (.string ⟨#[]⟩) ∧ w'.cell? ⟨w.heap.size, 3, none⟩ = some (.int .i64 0)) (go_keep) (first
        | (clear mk0; go_at_call 24; refine (C0.out _ (bal b0 (Obj.cells #[Value.int .i64 0, Value.bool false, Value.string ⟨#[]⟩, Value.int .i64 0] 23))).mono ?_; rintro e u1 ⟨rfl, R1, b1, q0_0, q0_1, q0_2, q0_3⟩; have QN := (Blk.newAt W2.drew W2.heap.size rfl #[.int .i64 0, .bool false, .string ⟨#[]⟩, .int .i64 0] 23).below R1.out (Blk.newAt W2.drew W2.heap.size rfl #[.int .i64 0, .bool false, .string ⟨#[]⟩, .int .i64 0] 23).lt; have h0 : u1.cell? ⟨W2.heap.size, 0, none⟩ = some (.int .i64 0) := QN.cell 0; have h1 : u1.cell? ⟨W2.heap.size, 1, none⟩ = some (.bool false) := QN.cell 1; have h2 : u1.cell? ⟨W2.heap.size, 2, none⟩ = some (.string ⟨#[]⟩) := QN.cell 2; have h3 : u1.cell? ⟨W2.heap.size, 3, none⟩ = some (.int .i64 0) := QN.cell 3; have h4 := QN.free 0; have h5 := QN.free 1; have h6 := QN.free 2; have h7 := QN.free 3; have QH := hide QN; clear QN; have mk1L0 : True := trivial)
        | (clear mk0; go_at_call 24; refine (C0.out _ b0).mono ?_; rintro e u1 ⟨rfl, R1, b1, q0_0, q0_1, q0_2, q0_3⟩; have nau1 : ¬ w.heap.size = u1.heap.size := (by have := HL.out; have := b1.out.size; omega); have mau1 : ¬ u1.heap.size = w.heap.size := (by have := HL.out; have := b1.out.size; omega); have mk1 : True := trivial)
        | (clear mk1L0; go_at_call 16; refine (C1.out _ b1).mono ?_; rintro e u2 ⟨rfl, R2, b2, q1_0, q1_1, q1_2, q1_3⟩; clear h0 h1 h2 h3 h4 h5 h6 h7; have QN := QH.out.below R2.out QH.out.lt; have h0 : u2.cell? ⟨W2.heap.size, 0, none⟩ = some (.int .i64 0) := QN.cell 0; have h1 : u2.cell? ⟨W2.heap.size, 1, none⟩ = some (.bool false) := QN.cell 1; have h2 : u2.cell? ⟨W2.heap.size, 2, none⟩ = some (.string ⟨#[]⟩) := QN.cell 2; have h3 : u2.cell? ⟨W2.heap.size, 3, none⟩ = some (.int .i64 0) := QN.cell 3; have h4 := QN.free 0; have h5 := QN.free 1; have h6 := QN.free 2; have h7 := QN.free 3; have QH := hide QN; clear QN; have mk2L0 : True := trivial)
        | (clear mk1; go_at_call 16; refine (C1.out _ (bal b1 (Obj.cells #[Value.int .i64 0, Value.bool false, Value.string ⟨#[]⟩, Value.int .i64 0] 23))).mono ?_; rintro e u2 ⟨rfl, R2, b2, q1_0, q1_1, q1_2, q1_3⟩; have QN := (Blk.newAt u1 u1.heap.size rfl #[.int .i64 0, .bool false, .string ⟨#[]⟩, .int .i64 0] 23).below R2.out (Blk.newAt u1 u1.heap.size rfl #[.int .i64 0, .bool false, .string ⟨#[]⟩, .int .i64 0] 23).lt; have h0 : u2.cell? ⟨u1.heap.size, 0, none⟩ = some (.int .i64 0) := QN.cell 0; have h1 : u2.cell? ⟨u1.heap.size, 1, none⟩ = some (.bool false) := QN.cell 1; have h2 : u2.cell? ⟨u1.heap.size, 2, none⟩ = some (.string ⟨#[]⟩) := QN.cell 2; have h3 : u2.cell? ⟨u1.heap.size, 3, none⟩ = some (.int .i64 0) := QN.cell 3; have h4 := QN.free 0; have h5 := QN.free 1; have h6 := QN.free 2; have h7 := QN.free 3; have QH := hide QN; clear QN; have mk2L1 : True := trivial)
        | (clear mk1; go_at_call 16; refine (C1.out _ b1).mono ?_; rintro e u2 ⟨rfl, R2, b2, q1_0, q1_1, q1_2, q1_3⟩; have nau2 : ¬ w.heap.size = u2.heap.size := (by have := HL.out; have := b2.out.size; omega); have mau2 : ¬ u2.heap.size = w.heap.size := (by have := HL.out; have := b2.out.size; omega); have mk2 : True := trivial))
    all_goals (go_wp2_with fail; go_meet)
    all_goals (first | (clear mk2L0; exact cutd_old b2.out QH.out (Nat.le_refl _)) | (clear mk2L1; exact cutd_old b2.out QH.out b1.out.size) | (clear mk2; exact cutd_new b2.out))
  obtain ⟨⟨Hy, rfl, rfl, hq, hH, hbc⟩⟩ := hcut
  obtain ⟨w5, hwk⟩ : ∃ x, x = wc := ⟨_, rfl⟩
  subst hwk
  have Ba5 := hide (Ba4.out.below hbc Ba4.out.lt)
  have Bx5 := hide (Bx4.out.below hbc Bx4.out.lt)
  have By5 := hide hq
  have HB5 := hide (HB4.out.trans (hbc.mono HB4.out.size))
  clear HL hq hH hbc Ba4 Bx4 HB4 ya0 ya1 ya2 ya3 yx0 yx1 yx2 yx3
  have ya0 : w5.cell? ⟨w.heap.size, 0, none⟩ = some (.int .i64 0) := Ba5.out.cell 0
  have ya1 : w5.cell? ⟨w.heap.size, 1, none⟩ = some (.bool na) := Ba5.out.cell 1
  have ya2 : w5.cell? ⟨w.heap.size, 2, none⟩ = some (.string ⟨#[]⟩) := Ba5.out.cell 2
  have ya3 : w5.cell? ⟨w.heap.size, 3, none⟩ = some (.int .i64 0) := Ba5.out.cell 3
  have yx0 : w5.cell? ⟨w3.heap.size, 0, none⟩ = some (.int .i64 0) := Bx5.out.cell 0
  have yx1 : w5.cell? ⟨w3.heap.size, 1, none⟩ = some (.bool na) := Bx5.out.cell 1
  have yx2 : w5.cell? ⟨w3.heap.size, 2, none⟩ = some (.string ⟨#[]⟩) := Bx5.out.cell 2
  have yx3 : w5.cell? ⟨w3.heap.size, 3, none⟩ = some (.int .i64 0) := Bx5.out.cell 3
  have yy0 : w5.cell? ⟨Hy, 0, none⟩ = some (.int .i64 0) := By5.out.cell 0
  have yy1 : w5.cell? ⟨Hy, 1, none⟩ = some (.bool na) := By5.out.cell 1
  have yy2 : w5.cell? ⟨Hy, 2, none⟩ = some (.string ⟨#[]⟩) := By5.out.cell 2
  have yy3 : w5.cell? ⟨Hy, 3, none⟩ = some (.int .i64 0) := By5.out.cell 3
  clear HTW HW2
  go_wp2_with fail
  refine (H3.out _).mono ?_
  rintro e w6 ⟨rfl, hb⟩
  have Ba6 := hide (Ba5.out.below hb Ba5.out.lt)
  have Bx6 := hide (Bx5.out.below hb Bx5.out.lt)
  have By6 := hide (By5.out.below hb By5.out.lt)
  have HB6 := hide (HB5.out.trans (hb.mono HB5.out.size))
  clear hb Ba5 Bx5 By5 HB5 ya0 ya1 ya2 ya3 yx0 yx1 yx2 yx3 yy0 yy1 yy2 yy3
  have ya0 : w6.cell? ⟨w.heap.size, 0, none⟩ = some (.int .i64 0) := Ba6.out.cell 0
  have ya1 : w6.cell? ⟨w.heap.size, 1, none⟩ = some (.bool na) := Ba6.out.cell 1
  have ya2 : w6.cell? ⟨w.heap.size, 2, none⟩ = some (.string ⟨#[]⟩) := Ba6.out.cell 2
  have ya3 : w6.cell? ⟨w.heap.size, 3, none⟩ = some (.int .i64 0) := Ba6.out.cell 3
  have yx0 : w6.cell? ⟨w3.heap.size, 0, none⟩ = some (.int .i64 0) := Bx6.out.cell 0
  have yx1 : w6.cell? ⟨w3.heap.size, 1, none⟩ = some (.bool na) := Bx6.out.cell 1
  have yx2 : w6.cell? ⟨w3.heap.size, 2, none⟩ = some (.string ⟨#[]⟩) := Bx6.out.cell 2
  have yx3 : w6.cell? ⟨w3.heap.size, 3, none⟩ = some (.int .i64 0) := Bx6.out.cell 3
  have yy0 : w6.cell? ⟨Hy, 0, none⟩ = some (.int .i64 0) := By6.out.cell 0
  have yy1 : w6.cell? ⟨Hy, 1, none⟩ = some (.bool na) := By6.out.cell 1
  have yy2 : w6.cell? ⟨Hy, 2, none⟩ = some (.string ⟨#[]⟩) := By6.out.cell 2
  have yy3 : w6.cell? ⟨Hy, 3, none⟩ = some (.int .i64 0) := By6.out.cell 3
  go_wp2_with fail
  refine (H4.out _ (HT.out.below HB6.out)).mono ?_
  rintro e w7 ⟨rfl, hb⟩
  have Ba7 := hide (Ba6.out.below hb Ba6.out.lt)
  have Bx7 := hide (Bx6.out.below hb Bx6.out.lt)
  have By7 := hide (By6.out.below hb By6.out.lt)
  have HB7 := hide (HB6.out.trans (hb.mono HB6.out.size))
  clear hb Ba6 Bx6 By6 HB6 ya0 ya1 ya2 ya3 yx0 yx1 yx2 yx3 yy0 yy1 yy2 yy3
  have ya0 : w7.cell? ⟨w.heap.size, 0, none⟩ = some (.int .i64 0) := Ba7.out.cell 0
  have ya1 : w7.cell? ⟨w.heap.size, 1, none⟩ = some (.bool na) := Ba7.out.cell 1
  have ya2 : w7.cell? ⟨w.heap.size, 2, none⟩ = some (.string ⟨#[]⟩) := Ba7.out.cell 2
  have ya3 : w7.cell? ⟨w.heap.size, 3, none⟩ = some (.int .i64 0) := Ba7.out.cell 3
  have yx0 : w7.cell? ⟨w3.heap.size, 0, none⟩ = some (.int .i64 0) := Bx7.out.cell 0
  have yx1 : w7.cell? ⟨w3.heap.size, 1, none⟩ = some (.bool na) := Bx7.out.cell 1
  have yx2 : w7.cell? ⟨w3.heap.size, 2, none⟩ = some (.string ⟨#[]⟩) := Bx7.out.cell 2
  have yx3 : w7.cell? ⟨w3.heap.size, 3, none⟩ = some (.int .i64 0) := Bx7.out.cell 3
  have yy0 : w7.cell? ⟨Hy, 0, none⟩ = some (.int .i64 0) := By7.out.cell 0
  have yy1 : w7.cell? ⟨Hy, 1, none⟩ = some (.bool na) := By7.out.cell 1
  have yy2 : w7.cell? ⟨Hy, 2, none⟩ = some (.string ⟨#[]⟩) := By7.out.cell 2
  have yy3 : w7.cell? ⟨Hy, 3, none⟩ = some (.int .i64 0) := By7.out.cell 3
  have Ba8 := hide ((Ba7.out.alloc (.cells #[.int .i64 cz, .bool nz, .string tz, .int .i64 ez] 23)))
  have Bx8 := hide ((Bx7.out.alloc (.cells #[.int .i64 cz, .bool nz, .string tz, .int .i64 ez] 23)))
  have By8 := hide ((By7.out.alloc (.cells #[.int .i64 cz, .bool nz, .string tz, .int .i64 ez] 23)))
  have Bz8 := hide ((Blk.newAt w7 (w7.heap.size) (rfl) #[.int .i64 cz, .bool nz, .string tz, .int .i64 ez] 23))
  have HB8 : Hid (Below w.heap.size w (w7.alloc (.cells #[.int .i64 cz, .bool nz, .string tz, .int .i64 ez] 23))) := (HB7.out.alloc HB7.out.size _)
  clear Ba7 Bx7 By7 HB7 ya0 ya1 ya2 ya3 yx0 yx1 yx2 yx3 yy0 yy1 yy2 yy3
  have ya0 : (w7.alloc (.cells #[.int .i64 cz, .bool nz, .string tz, .int .i64 ez] 23)).cell? ⟨w.heap.size, 0, none⟩ = some (.int .i64 0) := Ba8.out.cell 0
  have ya1 : (w7.alloc (.cells #[.int .i64 cz, .bool nz, .string tz, .int .i64 ez] 23)).cell? ⟨w.heap.size, 1, none⟩ = some (.bool na) := Ba8.out.cell 1
  have ya2 : (w7.alloc (.cells #[.int .i64 cz, .bool nz, .string tz, .int .i64 ez] 23)).cell? ⟨w.heap.size, 2, none⟩ = some (.string ⟨#[]⟩) := Ba8.out.cell 2
  have ya3 : (w7.alloc (.cells #[.int .i64 cz, .bool nz, .string tz, .int .i64 ez] 23)).cell? ⟨w.heap.size, 3, none⟩ = some (.int .i64 0) := Ba8.out.cell 3
  have yx0 : (w7.alloc (.cells #[.int .i64 cz, .bool nz, .string tz, .int .i64 ez] 23)).cell? ⟨w3.heap.size, 0, none⟩ = some (.int .i64 0) := Bx8.out.cell 0
  have yx1 : (w7.alloc (.cells #[.int .i64 cz, .bool nz, .string tz, .int .i64 ez] 23)).cell? ⟨w3.heap.size, 1, none⟩ = some (.bool na) := Bx8.out.cell 1
  have yx2 : (w7.alloc (.cells #[.int .i64 cz, .bool nz, .string tz, .int .i64 ez] 23)).cell? ⟨w3.heap.size, 2, none⟩ = some (.string ⟨#[]⟩) := Bx8.out.cell 2
  have yx3 : (w7.alloc (.cells #[.int .i64 cz, .bool nz, .string tz, .int .i64 ez] 23)).cell? ⟨w3.heap.size, 3, none⟩ = some (.int .i64 0) := Bx8.out.cell 3
  have yy0 : (w7.alloc (.cells #[.int .i64 cz, .bool nz, .string tz, .int .i64 ez] 23)).cell? ⟨Hy, 0, none⟩ = some (.int .i64 0) := By8.out.cell 0
  have yy1 : (w7.alloc (.cells #[.int .i64 cz, .bool nz, .string tz, .int .i64 ez] 23)).cell? ⟨Hy, 1, none⟩ = some (.bool na) := By8.out.cell 1
  have yy2 : (w7.alloc (.cells #[.int .i64 cz, .bool nz, .string tz, .int .i64 ez] 23)).cell? ⟨Hy, 2, none⟩ = some (.string ⟨#[]⟩) := By8.out.cell 2
  have yy3 : (w7.alloc (.cells #[.int .i64 cz, .bool nz, .string tz, .int .i64 ez] 23)).cell? ⟨Hy, 3, none⟩ = some (.int .i64 0) := By8.out.cell 3
  have yz0 : (w7.alloc (.cells #[.int .i64 cz, .bool nz, .string tz, .int .i64 ez] 23)).cell? ⟨w7.heap.size, 0, none⟩ = some (.int .i64 cz) := Bz8.out.cell 0
  have yz1 : (w7.alloc (.cells #[.int .i64 cz, .bool nz, .string tz, .int .i64 ez] 23)).cell? ⟨w7.heap.size, 1, none⟩ = some (.bool nz) := Bz8.out.cell 1
  have yz2 : (w7.alloc (.cells #[.int .i64 cz, .bool nz, .string tz, .int .i64 ez] 23)).cell? ⟨w7.heap.size, 2, none⟩ = some (.string tz) := Bz8.out.cell 2
  have yz3 : (w7.alloc (.cells #[.int .i64 cz, .bool nz, .string tz, .int .i64 ez] 23)).cell? ⟨w7.heap.size, 3, none⟩ = some (.int .i64 ez) := Bz8.out.cell 3
  go_wp2
  go_ret
  exact ⟨rfl, HB8.out⟩

set_option maxRecDepth 100000 in
set_option maxHeartbeats 4000000 in
theorem ways_zero_low (na : Bool) (p m q : Int) (w : World) (htab : Tab w) (m1 : 0 ≤ m) (m2 : m ≤ 7) (p1 : -1990 ≤ p) (p2 : p ≤ 1990) (q1 : q - p < 1) (q2 : -10000 ≤ q) (g0 : ∀ W, Calls Tryz.prog 23 #[.agg #[.int .i64 0, .bool na, .string ⟨#[]⟩, .int .i64 0]] W fun e w' => e = .returned (.bool true) ∧ Below W.heap.size W w') (g1 : ∀ W, Tab W → Calls Tryz.prog 11 #[.agg #[.int .i64 0, .bool na, .string ⟨#[]⟩, .int .i64 0], .int .i64 p, .int .i64 m] W fun e w' => e = .returned (.tuple #[.agg #[.int .i64 0, .bool na, .string ⟨#[]⟩, .int .i64 0], .int .i64 0]) ∧ Below W.heap.size W w') (g2 : ∀ W, Tab W → Calls Tryz.prog 16 #[.agg #[.int .i64 0, .bool na, .string ⟨#[]⟩, .int .i64 0], dcV 0 false ⟨#[49]⟩ p, .int .i64 m] W fun e w' => e = .returned (.tuple #[.agg #[.int .i64 0, .bool na, .string ⟨#[]⟩, .int .i64 0], .int .i64 0]) ∧ Below W.heap.size W w') (g3 : ∀ W, Calls Tryz.prog 25 #[.agg #[.int .i64 0, .bool na, .string ⟨#[]⟩, .int .i64 0]] W fun e w' => e = .returned (.int .i64 q) ∧ Below W.heap.size W w') : Calls Tryz.prog 9 #[.agg #[.int .i64 0, .bool na, .string ⟨#[]⟩, .int .i64 0], .int .i64 p, .int .i64 m] w fun e w' => e = .returned (.bool true) ∧ Below w.heap.size w w' := by
  have H0 := hide g0
  have H1 := hide g1
  have H2 := hide g2
  have H3 := hide g3
  have HT := hide htab
  have hw : IntKind.i64.wrap (q - p) = q - p := by rw [IntKind.wrap_i64]; omega
  clear htab g0 g1 g2 g3
  have Ba0 := hide (Blk.newAt w (w.heap.size) (rfl) #[.int .i64 0, .bool na, .string ⟨#[]⟩, .int .i64 0] 23)
  have HB0 : Hid (Below w.heap.size w (w.alloc (.cells #[.int .i64 0, .bool na, .string ⟨#[]⟩, .int .i64 0] 23))) := ((Below.refl _ _).alloc (Nat.le_refl _) _)
  go_enter Tryz.func9, Tryz.ntmps9
  go_wp2_with fail
  refine (rawake_any _ (HT.out.below HB0.out)).mono ?_
  rintro e w1 ⟨rfl, hb⟩
  have Ba1 := hide (Ba0.out.below hb Ba0.out.lt)
  have HB1 := hide (HB0.out.trans (hb.mono HB0.out.size))
  clear hb Ba0 HB0 
  have ya0 : w1.cell? ⟨w.heap.size, 0, none⟩ = some (.int .i64 0) := Ba1.out.cell 0
  have ya1 : w1.cell? ⟨w.heap.size, 1, none⟩ = some (.bool na) := Ba1.out.cell 1
  have ya2 : w1.cell? ⟨w.heap.size, 2, none⟩ = some (.string ⟨#[]⟩) := Ba1.out.cell 2
  have ya3 : w1.cell? ⟨w.heap.size, 3, none⟩ = some (.int .i64 0) := Ba1.out.cell 3
  go_wp2_with fail
  refine (H0.out _).mono ?_
  rintro e w2 ⟨rfl, hb⟩
  have Ba2 := hide (Ba1.out.below hb Ba1.out.lt)
  have HB2 := hide (HB1.out.trans (hb.mono HB1.out.size))
  clear hb Ba1 HB1 ya0 ya1 ya2 ya3
  have ya0 : w2.cell? ⟨w.heap.size, 0, none⟩ = some (.int .i64 0) := Ba2.out.cell 0
  have ya1 : w2.cell? ⟨w.heap.size, 1, none⟩ = some (.bool na) := Ba2.out.cell 1
  have ya2 : w2.cell? ⟨w.heap.size, 2, none⟩ = some (.string ⟨#[]⟩) := Ba2.out.cell 2
  have ya3 : w2.cell? ⟨w.heap.size, 3, none⟩ = some (.int .i64 0) := Ba2.out.cell 3
  go_wp2_with fail
  refine (H1.out _ (HT.out.below HB2.out)).mono ?_
  rintro e w3 ⟨rfl, hb⟩
  have Ba3 := hide (Ba2.out.below hb Ba2.out.lt)
  have HB3 := hide (HB2.out.trans (hb.mono HB2.out.size))
  clear hb Ba2 HB2 ya0 ya1 ya2 ya3
  have ya0 : w3.cell? ⟨w.heap.size, 0, none⟩ = some (.int .i64 0) := Ba3.out.cell 0
  have ya1 : w3.cell? ⟨w.heap.size, 1, none⟩ = some (.bool na) := Ba3.out.cell 1
  have ya2 : w3.cell? ⟨w.heap.size, 2, none⟩ = some (.string ⟨#[]⟩) := Ba3.out.cell 2
  have ya3 : w3.cell? ⟨w.heap.size, 3, none⟩ = some (.int .i64 0) := Ba3.out.cell 3
  have Ba4 := hide ((Ba3.out.alloc (.cells #[.int .i64 0, .bool na, .string ⟨#[]⟩, .int .i64 0] 23)))
  have Bx4 := hide ((Blk.newAt w3 (w3.heap.size) (rfl) #[.int .i64 0, .bool na, .string ⟨#[]⟩, .int .i64 0] 23))
  have HB4 : Hid (Below w.heap.size w (w3.alloc (.cells #[.int .i64 0, .bool na, .string ⟨#[]⟩, .int .i64 0] 23))) := (HB3.out.alloc HB3.out.size _)
  clear Ba3 HB3 ya0 ya1 ya2 ya3
  have ya0 : (w3.alloc (.cells #[.int .i64 0, .bool na, .string ⟨#[]⟩, .int .i64 0] 23)).cell? ⟨w.heap.size, 0, none⟩ = some (.int .i64 0) := Ba4.out.cell 0
  have ya1 : (w3.alloc (.cells #[.int .i64 0, .bool na, .string ⟨#[]⟩, .int .i64 0] 23)).cell? ⟨w.heap.size, 1, none⟩ = some (.bool na) := Ba4.out.cell 1
  have ya2 : (w3.alloc (.cells #[.int .i64 0, .bool na, .string ⟨#[]⟩, .int .i64 0] 23)).cell? ⟨w.heap.size, 2, none⟩ = some (.string ⟨#[]⟩) := Ba4.out.cell 2
  have ya3 : (w3.alloc (.cells #[.int .i64 0, .bool na, .string ⟨#[]⟩, .int .i64 0] 23)).cell? ⟨w.heap.size, 3, none⟩ = some (.int .i64 0) := Ba4.out.cell 3
  have yx0 : (w3.alloc (.cells #[.int .i64 0, .bool na, .string ⟨#[]⟩, .int .i64 0] 23)).cell? ⟨w3.heap.size, 0, none⟩ = some (.int .i64 0) := Bx4.out.cell 0
  have yx1 : (w3.alloc (.cells #[.int .i64 0, .bool na, .string ⟨#[]⟩, .int .i64 0] 23)).cell? ⟨w3.heap.size, 1, none⟩ = some (.bool na) := Bx4.out.cell 1
  have yx2 : (w3.alloc (.cells #[.int .i64 0, .bool na, .string ⟨#[]⟩, .int .i64 0] 23)).cell? ⟨w3.heap.size, 2, none⟩ = some (.string ⟨#[]⟩) := Bx4.out.cell 2
  have yx3 : (w3.alloc (.cells #[.int .i64 0, .bool na, .string ⟨#[]⟩, .int .i64 0] 23)).cell? ⟨w3.heap.size, 3, none⟩ = some (.int .i64 0) := Bx4.out.cell 3
  have HTW := hide (HT.out.below HB4.out)
  obtain ⟨W2, hW2⟩ : ∃ W2, W2 = (w3.alloc (.cells #[.int .i64 0, .bool na, .string ⟨#[]⟩, .int .i64 0] 23)) := ⟨_, rfl⟩
  rw [← hW2] at HTW HB4 Ba4 Bx4 ya0 ya1 ya2 ya3 yx0 yx1 yx2 yx3
  have HW2 := hide hW2
  clear hW2
  have HL : Hid (w.heap.size < W2.heap.size) := Ba4.out.lt
  go_wp2_with fail
  try simp only [← HW2.out]
  go_cut [9, 10] (fun vp ve wx => CutD W2 #[.int .i64 0, .bool na, .string ⟨#[]⟩, .int .i64 0] 0 vp ve wx)
  case first =>
    have C0 : Hid (∀ X, Hid (Below W2.heap.size W2 X) → Calls Tryz.prog 24 #[.string ⟨#[49]⟩, .int .i64 p] X fun e w' => e = .returned (.agg #[.int .i64 0, .bool false, .string ⟨#[49]⟩, .int .i64 p]) ∧ Hid (Below X.heap.size X w') ∧ Hid (Below W2.heap.size W2 w') ∧ w'.cell? ⟨w.heap.size, 0, none⟩ = some (.int .i64 0) ∧ w'.cell? ⟨w.heap.size, 1, none⟩ = some (.bool na) ∧ w'.cell? ⟨w.heap.size, 2, none⟩ = some (.string ⟨#[]⟩) ∧ w'.cell? ⟨w.heap.size, 3, none⟩ = some (.int .i64 0)) := by
      intro X bX
      refine (num_any _ _ X).mono ?_
      rintro e w' ⟨rfl, hb⟩
      have bb := bX.out.trans (hb.mono bX.out.size)
      have Baq := Ba4.out.below bb Ba4.out.lt
      exact ⟨rfl, hb, bb, Baq.cell 0, Baq.cell 1, Baq.cell 2, Baq.cell 3⟩
    have C1 : Hid (∀ X, Hid (Below W2.heap.size W2 X) → Calls Tryz.prog 16 #[.agg #[.int .i64 0, .bool na, .string ⟨#[]⟩, .int .i64 0], dcV 0 false ⟨#[49]⟩ p, .int .i64 m] X fun e w' => e = .returned (.tuple #[.agg #[.int .i64 0, .bool na, .string ⟨#[]⟩, .int .i64 0], .int .i64 0]) ∧ Hid (Below X.heap.size X w') ∧ Hid (Below W2.heap.size W2 w') ∧ w'.cell? ⟨w.heap.size, 0, none⟩ = some (.int .i64 0) ∧ w'.cell? ⟨w.heap.size, 1, none⟩ = some (.bool na) ∧ w'.cell? ⟨w.heap.size, 2, none⟩ = some (.string ⟨#[]⟩) ∧ w'.cell? ⟨w.heap.size, 3, none⟩ = some (.int .i64 0)) := by
      intro X bX
      refine (H2.out X (HTW.out.below bX.out)).mono ?_
      rintro e w' ⟨rfl, hb⟩
      have bb := bX.out.trans (hb.mono bX.out.size)
      have Baq := Ba4.out.below bb Ba4.out.lt
      exact ⟨rfl, hb, bb, Baq.cell 0, Baq.cell 1, Baq.cell 2, Baq.cell 3⟩
    have b0 : Hid (Below W2.heap.size W2 W2.drew) := bdrewD W2
    have naW2 : ¬ w.heap.size = W2.heap.size := (by have := HL.out; omega)
    have maW2 : ¬ W2.heap.size = w.heap.size := (by have := HL.out; omega)
    have mk0 : True := trivial
    go_region_held3 (fun w' => w'.cell? ⟨w.heap.size, 0, none⟩ = some (.int .i64 0) ∧ w'.cell? ⟨w.heap.size, 1, none⟩ = some (.bool na) ∧ w'.cell? ⟨w.heap.size, 2, none⟩ = some (.string ⟨#[]⟩) ∧ w'.cell? ⟨w.heap.size, 3, none⟩ = some (.int .i64 0)) (go_keep) (first
        | (clear mk0; go_at_call 24; refine (C0.out _ (bal b0 (Obj.cells #[Value.int .i64 0, Value.bool false, Value.string ⟨#[]⟩, Value.int .i64 0] 23))).mono ?_; rintro e u1 ⟨rfl, R1, b1, q0_0, q0_1, q0_2, q0_3⟩; have QN := (Blk.newAt W2.drew W2.heap.size rfl #[.int .i64 0, .bool false, .string ⟨#[]⟩, .int .i64 0] 23).below R1.out (Blk.newAt W2.drew W2.heap.size rfl #[.int .i64 0, .bool false, .string ⟨#[]⟩, .int .i64 0] 23).lt; have h0 : u1.cell? ⟨W2.heap.size, 0, none⟩ = some (.int .i64 0) := QN.cell 0; have h1 : u1.cell? ⟨W2.heap.size, 1, none⟩ = some (.bool false) := QN.cell 1; have h2 : u1.cell? ⟨W2.heap.size, 2, none⟩ = some (.string ⟨#[]⟩) := QN.cell 2; have h3 : u1.cell? ⟨W2.heap.size, 3, none⟩ = some (.int .i64 0) := QN.cell 3; have h4 := QN.free 0; have h5 := QN.free 1; have h6 := QN.free 2; have h7 := QN.free 3; have QH := hide QN; clear QN; have mk1L0 : True := trivial)
        | (clear mk0; go_at_call 24; refine (C0.out _ b0).mono ?_; rintro e u1 ⟨rfl, R1, b1, q0_0, q0_1, q0_2, q0_3⟩; have nau1 : ¬ w.heap.size = u1.heap.size := (by have := HL.out; have := b1.out.size; omega); have mau1 : ¬ u1.heap.size = w.heap.size := (by have := HL.out; have := b1.out.size; omega); have mk1 : True := trivial)
        | (clear mk1L0; go_at_call 16; refine (C1.out _ b1).mono ?_; rintro e u2 ⟨rfl, R2, b2, q1_0, q1_1, q1_2, q1_3⟩; clear h0 h1 h2 h3 h4 h5 h6 h7; have QN := QH.out.below R2.out QH.out.lt; have h0 : u2.cell? ⟨W2.heap.size, 0, none⟩ = some (.int .i64 0) := QN.cell 0; have h1 : u2.cell? ⟨W2.heap.size, 1, none⟩ = some (.bool false) := QN.cell 1; have h2 : u2.cell? ⟨W2.heap.size, 2, none⟩ = some (.string ⟨#[]⟩) := QN.cell 2; have h3 : u2.cell? ⟨W2.heap.size, 3, none⟩ = some (.int .i64 0) := QN.cell 3; have h4 := QN.free 0; have h5 := QN.free 1; have h6 := QN.free 2; have h7 := QN.free 3; have QH := hide QN; clear QN; have mk2L0 : True := trivial)
        | (clear mk1; go_at_call 16; refine (C1.out _ (bal b1 (Obj.cells #[Value.int .i64 0, Value.bool false, Value.string ⟨#[]⟩, Value.int .i64 0] 23))).mono ?_; rintro e u2 ⟨rfl, R2, b2, q1_0, q1_1, q1_2, q1_3⟩; have QN := (Blk.newAt u1 u1.heap.size rfl #[.int .i64 0, .bool false, .string ⟨#[]⟩, .int .i64 0] 23).below R2.out (Blk.newAt u1 u1.heap.size rfl #[.int .i64 0, .bool false, .string ⟨#[]⟩, .int .i64 0] 23).lt; have h0 : u2.cell? ⟨u1.heap.size, 0, none⟩ = some (.int .i64 0) := QN.cell 0; have h1 : u2.cell? ⟨u1.heap.size, 1, none⟩ = some (.bool false) := QN.cell 1; have h2 : u2.cell? ⟨u1.heap.size, 2, none⟩ = some (.string ⟨#[]⟩) := QN.cell 2; have h3 : u2.cell? ⟨u1.heap.size, 3, none⟩ = some (.int .i64 0) := QN.cell 3; have h4 := QN.free 0; have h5 := QN.free 1; have h6 := QN.free 2; have h7 := QN.free 3; have QH := hide QN; clear QN; have mk2L1 : True := trivial)
        | (clear mk1; go_at_call 16; refine (C1.out _ b1).mono ?_; rintro e u2 ⟨rfl, R2, b2, q1_0, q1_1, q1_2, q1_3⟩; have nau2 : ¬ w.heap.size = u2.heap.size := (by have := HL.out; have := b2.out.size; omega); have mau2 : ¬ u2.heap.size = w.heap.size := (by have := HL.out; have := b2.out.size; omega); have mk2 : True := trivial))
    all_goals (go_wp2_with fail; go_meet)
    all_goals (first | (clear mk2L0; exact cutd_old b2.out QH.out (Nat.le_refl _)) | (clear mk2L1; exact cutd_old b2.out QH.out b1.out.size) | (clear mk2; exact cutd_new b2.out))
  obtain ⟨⟨Hy, rfl, rfl, hq, hH, hbc⟩⟩ := hcut
  obtain ⟨w5, hwk⟩ : ∃ x, x = wc := ⟨_, rfl⟩
  subst hwk
  have Ba5 := hide (Ba4.out.below hbc Ba4.out.lt)
  have Bx5 := hide (Bx4.out.below hbc Bx4.out.lt)
  have By5 := hide hq
  have HB5 := hide (HB4.out.trans (hbc.mono HB4.out.size))
  clear HL hq hH hbc Ba4 Bx4 HB4 ya0 ya1 ya2 ya3 yx0 yx1 yx2 yx3
  have ya0 : w5.cell? ⟨w.heap.size, 0, none⟩ = some (.int .i64 0) := Ba5.out.cell 0
  have ya1 : w5.cell? ⟨w.heap.size, 1, none⟩ = some (.bool na) := Ba5.out.cell 1
  have ya2 : w5.cell? ⟨w.heap.size, 2, none⟩ = some (.string ⟨#[]⟩) := Ba5.out.cell 2
  have ya3 : w5.cell? ⟨w.heap.size, 3, none⟩ = some (.int .i64 0) := Ba5.out.cell 3
  have yx0 : w5.cell? ⟨w3.heap.size, 0, none⟩ = some (.int .i64 0) := Bx5.out.cell 0
  have yx1 : w5.cell? ⟨w3.heap.size, 1, none⟩ = some (.bool na) := Bx5.out.cell 1
  have yx2 : w5.cell? ⟨w3.heap.size, 2, none⟩ = some (.string ⟨#[]⟩) := Bx5.out.cell 2
  have yx3 : w5.cell? ⟨w3.heap.size, 3, none⟩ = some (.int .i64 0) := Bx5.out.cell 3
  have yy0 : w5.cell? ⟨Hy, 0, none⟩ = some (.int .i64 0) := By5.out.cell 0
  have yy1 : w5.cell? ⟨Hy, 1, none⟩ = some (.bool na) := By5.out.cell 1
  have yy2 : w5.cell? ⟨Hy, 2, none⟩ = some (.string ⟨#[]⟩) := By5.out.cell 2
  have yy3 : w5.cell? ⟨Hy, 3, none⟩ = some (.int .i64 0) := By5.out.cell 3
  clear HTW HW2
  go_wp2_with fail
  refine (H3.out _).mono ?_
  rintro e w6 ⟨rfl, hb⟩
  have Ba6 := hide (Ba5.out.below hb Ba5.out.lt)
  have Bx6 := hide (Bx5.out.below hb Bx5.out.lt)
  have By6 := hide (By5.out.below hb By5.out.lt)
  have HB6 := hide (HB5.out.trans (hb.mono HB5.out.size))
  clear hb Ba5 Bx5 By5 HB5 ya0 ya1 ya2 ya3 yx0 yx1 yx2 yx3 yy0 yy1 yy2 yy3
  have ya0 : w6.cell? ⟨w.heap.size, 0, none⟩ = some (.int .i64 0) := Ba6.out.cell 0
  have ya1 : w6.cell? ⟨w.heap.size, 1, none⟩ = some (.bool na) := Ba6.out.cell 1
  have ya2 : w6.cell? ⟨w.heap.size, 2, none⟩ = some (.string ⟨#[]⟩) := Ba6.out.cell 2
  have ya3 : w6.cell? ⟨w.heap.size, 3, none⟩ = some (.int .i64 0) := Ba6.out.cell 3
  have yx0 : w6.cell? ⟨w3.heap.size, 0, none⟩ = some (.int .i64 0) := Bx6.out.cell 0
  have yx1 : w6.cell? ⟨w3.heap.size, 1, none⟩ = some (.bool na) := Bx6.out.cell 1
  have yx2 : w6.cell? ⟨w3.heap.size, 2, none⟩ = some (.string ⟨#[]⟩) := Bx6.out.cell 2
  have yx3 : w6.cell? ⟨w3.heap.size, 3, none⟩ = some (.int .i64 0) := Bx6.out.cell 3
  have yy0 : w6.cell? ⟨Hy, 0, none⟩ = some (.int .i64 0) := By6.out.cell 0
  have yy1 : w6.cell? ⟨Hy, 1, none⟩ = some (.bool na) := By6.out.cell 1
  have yy2 : w6.cell? ⟨Hy, 2, none⟩ = some (.string ⟨#[]⟩) := By6.out.cell 2
  have yy3 : w6.cell? ⟨Hy, 3, none⟩ = some (.int .i64 0) := By6.out.cell 3
  go_wp2
  go_ret
  exact ⟨rfl, HB6.out⟩

set_option maxRecDepth 100000 in
set_option maxHeartbeats 4000000 in
theorem ways_zero_high (na : Bool) (p m q : Int) (w : World) (htab : Tab w) (m1 : 0 ≤ m) (m2 : m ≤ 7) (p1 : -1990 ≤ p) (p2 : p ≤ 1990) (q1 : 1000 < q - p) (q2 : q ≤ 10000) (g0 : ∀ W, Calls Tryz.prog 23 #[.agg #[.int .i64 0, .bool na, .string ⟨#[]⟩, .int .i64 0]] W fun e w' => e = .returned (.bool true) ∧ Below W.heap.size W w') (g1 : ∀ W, Tab W → Calls Tryz.prog 11 #[.agg #[.int .i64 0, .bool na, .string ⟨#[]⟩, .int .i64 0], .int .i64 p, .int .i64 m] W fun e w' => e = .returned (.tuple #[.agg #[.int .i64 0, .bool na, .string ⟨#[]⟩, .int .i64 0], .int .i64 0]) ∧ Below W.heap.size W w') (g2 : ∀ W, Tab W → Calls Tryz.prog 16 #[.agg #[.int .i64 0, .bool na, .string ⟨#[]⟩, .int .i64 0], dcV 0 false ⟨#[49]⟩ p, .int .i64 m] W fun e w' => e = .returned (.tuple #[.agg #[.int .i64 0, .bool na, .string ⟨#[]⟩, .int .i64 0], .int .i64 0]) ∧ Below W.heap.size W w') (g3 : ∀ W, Calls Tryz.prog 25 #[.agg #[.int .i64 0, .bool na, .string ⟨#[]⟩, .int .i64 0]] W fun e w' => e = .returned (.int .i64 q) ∧ Below W.heap.size W w') : Calls Tryz.prog 9 #[.agg #[.int .i64 0, .bool na, .string ⟨#[]⟩, .int .i64 0], .int .i64 p, .int .i64 m] w fun e w' => e = .returned (.bool true) ∧ Below w.heap.size w w' := by
  have H0 := hide g0
  have H1 := hide g1
  have H2 := hide g2
  have H3 := hide g3
  have HT := hide htab
  have hw : IntKind.i64.wrap (q - p) = q - p := by rw [IntKind.wrap_i64]; omega
  clear htab g0 g1 g2 g3
  have Ba0 := hide (Blk.newAt w (w.heap.size) (rfl) #[.int .i64 0, .bool na, .string ⟨#[]⟩, .int .i64 0] 23)
  have HB0 : Hid (Below w.heap.size w (w.alloc (.cells #[.int .i64 0, .bool na, .string ⟨#[]⟩, .int .i64 0] 23))) := ((Below.refl _ _).alloc (Nat.le_refl _) _)
  go_enter Tryz.func9, Tryz.ntmps9
  go_wp2_with fail
  refine (rawake_any _ (HT.out.below HB0.out)).mono ?_
  rintro e w1 ⟨rfl, hb⟩
  have Ba1 := hide (Ba0.out.below hb Ba0.out.lt)
  have HB1 := hide (HB0.out.trans (hb.mono HB0.out.size))
  clear hb Ba0 HB0 
  have ya0 : w1.cell? ⟨w.heap.size, 0, none⟩ = some (.int .i64 0) := Ba1.out.cell 0
  have ya1 : w1.cell? ⟨w.heap.size, 1, none⟩ = some (.bool na) := Ba1.out.cell 1
  have ya2 : w1.cell? ⟨w.heap.size, 2, none⟩ = some (.string ⟨#[]⟩) := Ba1.out.cell 2
  have ya3 : w1.cell? ⟨w.heap.size, 3, none⟩ = some (.int .i64 0) := Ba1.out.cell 3
  go_wp2_with fail
  refine (H0.out _).mono ?_
  rintro e w2 ⟨rfl, hb⟩
  have Ba2 := hide (Ba1.out.below hb Ba1.out.lt)
  have HB2 := hide (HB1.out.trans (hb.mono HB1.out.size))
  clear hb Ba1 HB1 ya0 ya1 ya2 ya3
  have ya0 : w2.cell? ⟨w.heap.size, 0, none⟩ = some (.int .i64 0) := Ba2.out.cell 0
  have ya1 : w2.cell? ⟨w.heap.size, 1, none⟩ = some (.bool na) := Ba2.out.cell 1
  have ya2 : w2.cell? ⟨w.heap.size, 2, none⟩ = some (.string ⟨#[]⟩) := Ba2.out.cell 2
  have ya3 : w2.cell? ⟨w.heap.size, 3, none⟩ = some (.int .i64 0) := Ba2.out.cell 3
  go_wp2_with fail
  refine (H1.out _ (HT.out.below HB2.out)).mono ?_
  rintro e w3 ⟨rfl, hb⟩
  have Ba3 := hide (Ba2.out.below hb Ba2.out.lt)
  have HB3 := hide (HB2.out.trans (hb.mono HB2.out.size))
  clear hb Ba2 HB2 ya0 ya1 ya2 ya3
  have ya0 : w3.cell? ⟨w.heap.size, 0, none⟩ = some (.int .i64 0) := Ba3.out.cell 0
  have ya1 : w3.cell? ⟨w.heap.size, 1, none⟩ = some (.bool na) := Ba3.out.cell 1
  have ya2 : w3.cell? ⟨w.heap.size, 2, none⟩ = some (.string ⟨#[]⟩) := Ba3.out.cell 2
  have ya3 : w3.cell? ⟨w.heap.size, 3, none⟩ = some (.int .i64 0) := Ba3.out.cell 3
  have Ba4 := hide ((Ba3.out.alloc (.cells #[.int .i64 0, .bool na, .string ⟨#[]⟩, .int .i64 0] 23)))
  have Bx4 := hide ((Blk.newAt w3 (w3.heap.size) (rfl) #[.int .i64 0, .bool na, .string ⟨#[]⟩, .int .i64 0] 23))
  have HB4 : Hid (Below w.heap.size w (w3.alloc (.cells #[.int .i64 0, .bool na, .string ⟨#[]⟩, .int .i64 0] 23))) := (HB3.out.alloc HB3.out.size _)
  clear Ba3 HB3 ya0 ya1 ya2 ya3
  have ya0 : (w3.alloc (.cells #[.int .i64 0, .bool na, .string ⟨#[]⟩, .int .i64 0] 23)).cell? ⟨w.heap.size, 0, none⟩ = some (.int .i64 0) := Ba4.out.cell 0
  have ya1 : (w3.alloc (.cells #[.int .i64 0, .bool na, .string ⟨#[]⟩, .int .i64 0] 23)).cell? ⟨w.heap.size, 1, none⟩ = some (.bool na) := Ba4.out.cell 1
  have ya2 : (w3.alloc (.cells #[.int .i64 0, .bool na, .string ⟨#[]⟩, .int .i64 0] 23)).cell? ⟨w.heap.size, 2, none⟩ = some (.string ⟨#[]⟩) := Ba4.out.cell 2
  have ya3 : (w3.alloc (.cells #[.int .i64 0, .bool na, .string ⟨#[]⟩, .int .i64 0] 23)).cell? ⟨w.heap.size, 3, none⟩ = some (.int .i64 0) := Ba4.out.cell 3
  have yx0 : (w3.alloc (.cells #[.int .i64 0, .bool na, .string ⟨#[]⟩, .int .i64 0] 23)).cell? ⟨w3.heap.size, 0, none⟩ = some (.int .i64 0) := Bx4.out.cell 0
  have yx1 : (w3.alloc (.cells #[.int .i64 0, .bool na, .string ⟨#[]⟩, .int .i64 0] 23)).cell? ⟨w3.heap.size, 1, none⟩ = some (.bool na) := Bx4.out.cell 1
  have yx2 : (w3.alloc (.cells #[.int .i64 0, .bool na, .string ⟨#[]⟩, .int .i64 0] 23)).cell? ⟨w3.heap.size, 2, none⟩ = some (.string ⟨#[]⟩) := Bx4.out.cell 2
  have yx3 : (w3.alloc (.cells #[.int .i64 0, .bool na, .string ⟨#[]⟩, .int .i64 0] 23)).cell? ⟨w3.heap.size, 3, none⟩ = some (.int .i64 0) := Bx4.out.cell 3
  have HTW := hide (HT.out.below HB4.out)
  obtain ⟨W2, hW2⟩ : ∃ W2, W2 = (w3.alloc (.cells #[.int .i64 0, .bool na, .string ⟨#[]⟩, .int .i64 0] 23)) := ⟨_, rfl⟩
  rw [← hW2] at HTW HB4 Ba4 Bx4 ya0 ya1 ya2 ya3 yx0 yx1 yx2 yx3
  have HW2 := hide hW2
  clear hW2
  have HL : Hid (w.heap.size < W2.heap.size) := Ba4.out.lt
  go_wp2_with fail
  try simp only [← HW2.out]
  go_cut [9, 10] (fun vp ve wx => CutD W2 #[.int .i64 0, .bool na, .string ⟨#[]⟩, .int .i64 0] 0 vp ve wx)
  case first =>
    have C0 : Hid (∀ X, Hid (Below W2.heap.size W2 X) → Calls Tryz.prog 24 #[.string ⟨#[49]⟩, .int .i64 p] X fun e w' => e = .returned (.agg #[.int .i64 0, .bool false, .string ⟨#[49]⟩, .int .i64 p]) ∧ Hid (Below X.heap.size X w') ∧ Hid (Below W2.heap.size W2 w') ∧ w'.cell? ⟨w.heap.size, 0, none⟩ = some (.int .i64 0) ∧ w'.cell? ⟨w.heap.size, 1, none⟩ = some (.bool na) ∧ w'.cell? ⟨w.heap.size, 2, none⟩ = some (.string ⟨#[]⟩) ∧ w'.cell? ⟨w.heap.size, 3, none⟩ = some (.int .i64 0)) := by
      intro X bX
      refine (num_any _ _ X).mono ?_
      rintro e w' ⟨rfl, hb⟩
      have bb := bX.out.trans (hb.mono bX.out.size)
      have Baq := Ba4.out.below bb Ba4.out.lt
      exact ⟨rfl, hb, bb, Baq.cell 0, Baq.cell 1, Baq.cell 2, Baq.cell 3⟩
    have C1 : Hid (∀ X, Hid (Below W2.heap.size W2 X) → Calls Tryz.prog 16 #[.agg #[.int .i64 0, .bool na, .string ⟨#[]⟩, .int .i64 0], dcV 0 false ⟨#[49]⟩ p, .int .i64 m] X fun e w' => e = .returned (.tuple #[.agg #[.int .i64 0, .bool na, .string ⟨#[]⟩, .int .i64 0], .int .i64 0]) ∧ Hid (Below X.heap.size X w') ∧ Hid (Below W2.heap.size W2 w') ∧ w'.cell? ⟨w.heap.size, 0, none⟩ = some (.int .i64 0) ∧ w'.cell? ⟨w.heap.size, 1, none⟩ = some (.bool na) ∧ w'.cell? ⟨w.heap.size, 2, none⟩ = some (.string ⟨#[]⟩) ∧ w'.cell? ⟨w.heap.size, 3, none⟩ = some (.int .i64 0)) := by
      intro X bX
      refine (H2.out X (HTW.out.below bX.out)).mono ?_
      rintro e w' ⟨rfl, hb⟩
      have bb := bX.out.trans (hb.mono bX.out.size)
      have Baq := Ba4.out.below bb Ba4.out.lt
      exact ⟨rfl, hb, bb, Baq.cell 0, Baq.cell 1, Baq.cell 2, Baq.cell 3⟩
    have b0 : Hid (Below W2.heap.size W2 W2.drew) := bdrewD W2
    have naW2 : ¬ w.heap.size = W2.heap.size := (by have := HL.out; omega)
    have maW2 : ¬ W2.heap.size = w.heap.size := (by have := HL.out; omega)
    have mk0 : True := trivial
    go_region_held3 (fun w' => w'.cell? ⟨w.heap.size, 0, none⟩ = some (.int .i64 0) ∧ w'.cell? ⟨w.heap.size, 1, none⟩ = some (.bool na) ∧ w'.cell? ⟨w.heap.size, 2, none⟩ = some (.string ⟨#[]⟩) ∧ w'.cell? ⟨w.heap.size, 3, none⟩ = some (.int .i64 0)) (go_keep) (first
        | (clear mk0; go_at_call 24; refine (C0.out _ (bal b0 (Obj.cells #[Value.int .i64 0, Value.bool false, Value.string ⟨#[]⟩, Value.int .i64 0] 23))).mono ?_; rintro e u1 ⟨rfl, R1, b1, q0_0, q0_1, q0_2, q0_3⟩; have QN := (Blk.newAt W2.drew W2.heap.size rfl #[.int .i64 0, .bool false, .string ⟨#[]⟩, .int .i64 0] 23).below R1.out (Blk.newAt W2.drew W2.heap.size rfl #[.int .i64 0, .bool false, .string ⟨#[]⟩, .int .i64 0] 23).lt; have h0 : u1.cell? ⟨W2.heap.size, 0, none⟩ = some (.int .i64 0) := QN.cell 0; have h1 : u1.cell? ⟨W2.heap.size, 1, none⟩ = some (.bool false) := QN.cell 1; have h2 : u1.cell? ⟨W2.heap.size, 2, none⟩ = some (.string ⟨#[]⟩) := QN.cell 2; have h3 : u1.cell? ⟨W2.heap.size, 3, none⟩ = some (.int .i64 0) := QN.cell 3; have h4 := QN.free 0; have h5 := QN.free 1; have h6 := QN.free 2; have h7 := QN.free 3; have QH := hide QN; clear QN; have mk1L0 : True := trivial)
        | (clear mk0; go_at_call 24; refine (C0.out _ b0).mono ?_; rintro e u1 ⟨rfl, R1, b1, q0_0, q0_1, q0_2, q0_3⟩; have nau1 : ¬ w.heap.size = u1.heap.size := (by have := HL.out; have := b1.out.size; omega); have mau1 : ¬ u1.heap.size = w.heap.size := (by have := HL.out; have := b1.out.size; omega); have mk1 : True := trivial)
        | (clear mk1L0; go_at_call 16; refine (C1.out _ b1).mono ?_; rintro e u2 ⟨rfl, R2, b2, q1_0, q1_1, q1_2, q1_3⟩; clear h0 h1 h2 h3 h4 h5 h6 h7; have QN := QH.out.below R2.out QH.out.lt; have h0 : u2.cell? ⟨W2.heap.size, 0, none⟩ = some (.int .i64 0) := QN.cell 0; have h1 : u2.cell? ⟨W2.heap.size, 1, none⟩ = some (.bool false) := QN.cell 1; have h2 : u2.cell? ⟨W2.heap.size, 2, none⟩ = some (.string ⟨#[]⟩) := QN.cell 2; have h3 : u2.cell? ⟨W2.heap.size, 3, none⟩ = some (.int .i64 0) := QN.cell 3; have h4 := QN.free 0; have h5 := QN.free 1; have h6 := QN.free 2; have h7 := QN.free 3; have QH := hide QN; clear QN; have mk2L0 : True := trivial)
        | (clear mk1; go_at_call 16; refine (C1.out _ (bal b1 (Obj.cells #[Value.int .i64 0, Value.bool false, Value.string ⟨#[]⟩, Value.int .i64 0] 23))).mono ?_; rintro e u2 ⟨rfl, R2, b2, q1_0, q1_1, q1_2, q1_3⟩; have QN := (Blk.newAt u1 u1.heap.size rfl #[.int .i64 0, .bool false, .string ⟨#[]⟩, .int .i64 0] 23).below R2.out (Blk.newAt u1 u1.heap.size rfl #[.int .i64 0, .bool false, .string ⟨#[]⟩, .int .i64 0] 23).lt; have h0 : u2.cell? ⟨u1.heap.size, 0, none⟩ = some (.int .i64 0) := QN.cell 0; have h1 : u2.cell? ⟨u1.heap.size, 1, none⟩ = some (.bool false) := QN.cell 1; have h2 : u2.cell? ⟨u1.heap.size, 2, none⟩ = some (.string ⟨#[]⟩) := QN.cell 2; have h3 : u2.cell? ⟨u1.heap.size, 3, none⟩ = some (.int .i64 0) := QN.cell 3; have h4 := QN.free 0; have h5 := QN.free 1; have h6 := QN.free 2; have h7 := QN.free 3; have QH := hide QN; clear QN; have mk2L1 : True := trivial)
        | (clear mk1; go_at_call 16; refine (C1.out _ b1).mono ?_; rintro e u2 ⟨rfl, R2, b2, q1_0, q1_1, q1_2, q1_3⟩; have nau2 : ¬ w.heap.size = u2.heap.size := (by have := HL.out; have := b2.out.size; omega); have mau2 : ¬ u2.heap.size = w.heap.size := (by have := HL.out; have := b2.out.size; omega); have mk2 : True := trivial))
    all_goals (go_wp2_with fail; go_meet)
    all_goals (first | (clear mk2L0; exact cutd_old b2.out QH.out (Nat.le_refl _)) | (clear mk2L1; exact cutd_old b2.out QH.out b1.out.size) | (clear mk2; exact cutd_new b2.out))
  obtain ⟨⟨Hy, rfl, rfl, hq, hH, hbc⟩⟩ := hcut
  obtain ⟨w5, hwk⟩ : ∃ x, x = wc := ⟨_, rfl⟩
  subst hwk
  have Ba5 := hide (Ba4.out.below hbc Ba4.out.lt)
  have Bx5 := hide (Bx4.out.below hbc Bx4.out.lt)
  have By5 := hide hq
  have HB5 := hide (HB4.out.trans (hbc.mono HB4.out.size))
  clear HL hq hH hbc Ba4 Bx4 HB4 ya0 ya1 ya2 ya3 yx0 yx1 yx2 yx3
  have ya0 : w5.cell? ⟨w.heap.size, 0, none⟩ = some (.int .i64 0) := Ba5.out.cell 0
  have ya1 : w5.cell? ⟨w.heap.size, 1, none⟩ = some (.bool na) := Ba5.out.cell 1
  have ya2 : w5.cell? ⟨w.heap.size, 2, none⟩ = some (.string ⟨#[]⟩) := Ba5.out.cell 2
  have ya3 : w5.cell? ⟨w.heap.size, 3, none⟩ = some (.int .i64 0) := Ba5.out.cell 3
  have yx0 : w5.cell? ⟨w3.heap.size, 0, none⟩ = some (.int .i64 0) := Bx5.out.cell 0
  have yx1 : w5.cell? ⟨w3.heap.size, 1, none⟩ = some (.bool na) := Bx5.out.cell 1
  have yx2 : w5.cell? ⟨w3.heap.size, 2, none⟩ = some (.string ⟨#[]⟩) := Bx5.out.cell 2
  have yx3 : w5.cell? ⟨w3.heap.size, 3, none⟩ = some (.int .i64 0) := Bx5.out.cell 3
  have yy0 : w5.cell? ⟨Hy, 0, none⟩ = some (.int .i64 0) := By5.out.cell 0
  have yy1 : w5.cell? ⟨Hy, 1, none⟩ = some (.bool na) := By5.out.cell 1
  have yy2 : w5.cell? ⟨Hy, 2, none⟩ = some (.string ⟨#[]⟩) := By5.out.cell 2
  have yy3 : w5.cell? ⟨Hy, 3, none⟩ = some (.int .i64 0) := By5.out.cell 3
  clear HTW HW2
  go_wp2_with fail
  refine (H3.out _).mono ?_
  rintro e w6 ⟨rfl, hb⟩
  have Ba6 := hide (Ba5.out.below hb Ba5.out.lt)
  have Bx6 := hide (Bx5.out.below hb Bx5.out.lt)
  have By6 := hide (By5.out.below hb By5.out.lt)
  have HB6 := hide (HB5.out.trans (hb.mono HB5.out.size))
  clear hb Ba5 Bx5 By5 HB5 ya0 ya1 ya2 ya3 yx0 yx1 yx2 yx3 yy0 yy1 yy2 yy3
  have ya0 : w6.cell? ⟨w.heap.size, 0, none⟩ = some (.int .i64 0) := Ba6.out.cell 0
  have ya1 : w6.cell? ⟨w.heap.size, 1, none⟩ = some (.bool na) := Ba6.out.cell 1
  have ya2 : w6.cell? ⟨w.heap.size, 2, none⟩ = some (.string ⟨#[]⟩) := Ba6.out.cell 2
  have ya3 : w6.cell? ⟨w.heap.size, 3, none⟩ = some (.int .i64 0) := Ba6.out.cell 3
  have yx0 : w6.cell? ⟨w3.heap.size, 0, none⟩ = some (.int .i64 0) := Bx6.out.cell 0
  have yx1 : w6.cell? ⟨w3.heap.size, 1, none⟩ = some (.bool na) := Bx6.out.cell 1
  have yx2 : w6.cell? ⟨w3.heap.size, 2, none⟩ = some (.string ⟨#[]⟩) := Bx6.out.cell 2
  have yx3 : w6.cell? ⟨w3.heap.size, 3, none⟩ = some (.int .i64 0) := Bx6.out.cell 3
  have yy0 : w6.cell? ⟨Hy, 0, none⟩ = some (.int .i64 0) := By6.out.cell 0
  have yy1 : w6.cell? ⟨Hy, 1, none⟩ = some (.bool na) := By6.out.cell 1
  have yy2 : w6.cell? ⟨Hy, 2, none⟩ = some (.string ⟨#[]⟩) := By6.out.cell 2
  have yy3 : w6.cell? ⟨Hy, 3, none⟩ = some (.int .i64 0) := By6.out.cell 3
  go_wp2
  go_ret
  exact ⟨rfl, HB6.out⟩

end Go.Proofs.YtcclbcnmkaobpaaGreatDoor

namespace Go.Proofs.YtcclbcnmkaobpaaGreatDoor
open Go.RowKit

set_option maxRecDepth 100000 in
set_option maxHeartbeats 4000000 in
theorem ways_cls_in (ca : Int) (na : Bool) (cz : Int) (nz : Bool) (tz : ByteArray) (ez : Int) (rz : Int) (p m q : Int) (w : World) (htab : Tab w) (m1 : 0 ≤ m) (m2 : m ≤ 7) (p1 : -1990 ≤ p) (p2 : p ≤ 1990) (hc : ¬ ca = 0) (q1 : 1 ≤ q - p) (q2 : q - p ≤ 1000) (g0 : ∀ W, Calls Tryz.prog 23 #[.agg #[.int .i64 ca, .bool na, .string ⟨#[]⟩, .int .i64 0]] W fun e w' => e = .returned (.bool true) ∧ Below W.heap.size W w') (g1 : ∀ W, Tab W → Calls Tryz.prog 11 #[.agg #[.int .i64 ca, .bool na, .string ⟨#[]⟩, .int .i64 0], .int .i64 p, .int .i64 m] W fun e w' => e = .returned (.tuple #[.agg #[.int .i64 ca, .bool na, .string ⟨#[]⟩, .int .i64 0], .int .i64 0]) ∧ Below W.heap.size W w') (g2 : ∀ W, Tab W → Calls Tryz.prog 16 #[.agg #[.int .i64 ca, .bool na, .string ⟨#[]⟩, .int .i64 0], dcV 0 false ⟨#[49]⟩ p, .int .i64 m] W fun e w' => e = .returned (.tuple #[.agg #[.int .i64 ca, .bool na, .string ⟨#[]⟩, .int .i64 0], .int .i64 0]) ∧ Below W.heap.size W w') (g3 : ∀ W, Calls Tryz.prog 25 #[.agg #[.int .i64 ca, .bool na, .string ⟨#[]⟩, .int .i64 0]] W fun e w' => e = .returned (.int .i64 q) ∧ Below W.heap.size W w') (g4 : ∀ W, Tab W → Calls Tryz.prog 14 #[.agg #[.int .i64 ca, .bool na, .string ⟨#[]⟩, .int .i64 0], .int .i64 (q - p), .int .i64 m] W fun e w' => e = .returned (.tuple #[.agg #[.int .i64 cz, .bool nz, .string tz, .int .i64 ez], .int .i64 rz]) ∧ Below W.heap.size W w') : Calls Tryz.prog 9 #[.agg #[.int .i64 ca, .bool na, .string ⟨#[]⟩, .int .i64 0], .int .i64 p, .int .i64 m] w fun e w' => e = .returned (.bool true) ∧ Below w.heap.size w w' := by
  have H0 := hide g0
  have H1 := hide g1
  have H2 := hide g2
  have H3 := hide g3
  have H4 := hide g4
  have HT := hide htab
  have hw : IntKind.i64.wrap (q - p) = q - p := by rw [IntKind.wrap_i64]; omega
  have h2 : (ca == 0) = false := by simpa using hc
  clear hc
  clear htab g0 g1 g2 g3 g4
  have Ba0 := hide (Blk.newAt w (w.heap.size) (rfl) #[.int .i64 ca, .bool na, .string ⟨#[]⟩, .int .i64 0] 23)
  have HB0 : Hid (Below w.heap.size w (w.alloc (.cells #[.int .i64 ca, .bool na, .string ⟨#[]⟩, .int .i64 0] 23))) := ((Below.refl _ _).alloc (Nat.le_refl _) _)
  go_enter Tryz.func9, Tryz.ntmps9
  go_wp2_with fail
  refine (rawake_any _ (HT.out.below HB0.out)).mono ?_
  rintro e w1 ⟨rfl, hb⟩
  have Ba1 := hide (Ba0.out.below hb Ba0.out.lt)
  have HB1 := hide (HB0.out.trans (hb.mono HB0.out.size))
  clear hb Ba0 HB0 
  have ya0 : w1.cell? ⟨w.heap.size, 0, none⟩ = some (.int .i64 ca) := Ba1.out.cell 0
  have ya1 : w1.cell? ⟨w.heap.size, 1, none⟩ = some (.bool na) := Ba1.out.cell 1
  have ya2 : w1.cell? ⟨w.heap.size, 2, none⟩ = some (.string ⟨#[]⟩) := Ba1.out.cell 2
  have ya3 : w1.cell? ⟨w.heap.size, 3, none⟩ = some (.int .i64 0) := Ba1.out.cell 3
  go_wp2_with fail
  refine (H0.out _).mono ?_
  rintro e w2 ⟨rfl, hb⟩
  have Ba2 := hide (Ba1.out.below hb Ba1.out.lt)
  have HB2 := hide (HB1.out.trans (hb.mono HB1.out.size))
  clear hb Ba1 HB1 ya0 ya1 ya2 ya3
  have ya0 : w2.cell? ⟨w.heap.size, 0, none⟩ = some (.int .i64 ca) := Ba2.out.cell 0
  have ya1 : w2.cell? ⟨w.heap.size, 1, none⟩ = some (.bool na) := Ba2.out.cell 1
  have ya2 : w2.cell? ⟨w.heap.size, 2, none⟩ = some (.string ⟨#[]⟩) := Ba2.out.cell 2
  have ya3 : w2.cell? ⟨w.heap.size, 3, none⟩ = some (.int .i64 0) := Ba2.out.cell 3
  go_wp2_with fail
  refine (H1.out _ (HT.out.below HB2.out)).mono ?_
  rintro e w3 ⟨rfl, hb⟩
  have Ba3 := hide (Ba2.out.below hb Ba2.out.lt)
  have HB3 := hide (HB2.out.trans (hb.mono HB2.out.size))
  clear hb Ba2 HB2 ya0 ya1 ya2 ya3
  have ya0 : w3.cell? ⟨w.heap.size, 0, none⟩ = some (.int .i64 ca) := Ba3.out.cell 0
  have ya1 : w3.cell? ⟨w.heap.size, 1, none⟩ = some (.bool na) := Ba3.out.cell 1
  have ya2 : w3.cell? ⟨w.heap.size, 2, none⟩ = some (.string ⟨#[]⟩) := Ba3.out.cell 2
  have ya3 : w3.cell? ⟨w.heap.size, 3, none⟩ = some (.int .i64 0) := Ba3.out.cell 3
  have Ba4 := hide ((Ba3.out.alloc (.cells #[.int .i64 ca, .bool na, .string ⟨#[]⟩, .int .i64 0] 23)))
  have Bx4 := hide ((Blk.newAt w3 (w3.heap.size) (rfl) #[.int .i64 ca, .bool na, .string ⟨#[]⟩, .int .i64 0] 23))
  have HB4 : Hid (Below w.heap.size w (w3.alloc (.cells #[.int .i64 ca, .bool na, .string ⟨#[]⟩, .int .i64 0] 23))) := (HB3.out.alloc HB3.out.size _)
  clear Ba3 HB3 ya0 ya1 ya2 ya3
  have ya0 : (w3.alloc (.cells #[.int .i64 ca, .bool na, .string ⟨#[]⟩, .int .i64 0] 23)).cell? ⟨w.heap.size, 0, none⟩ = some (.int .i64 ca) := Ba4.out.cell 0
  have ya1 : (w3.alloc (.cells #[.int .i64 ca, .bool na, .string ⟨#[]⟩, .int .i64 0] 23)).cell? ⟨w.heap.size, 1, none⟩ = some (.bool na) := Ba4.out.cell 1
  have ya2 : (w3.alloc (.cells #[.int .i64 ca, .bool na, .string ⟨#[]⟩, .int .i64 0] 23)).cell? ⟨w.heap.size, 2, none⟩ = some (.string ⟨#[]⟩) := Ba4.out.cell 2
  have ya3 : (w3.alloc (.cells #[.int .i64 ca, .bool na, .string ⟨#[]⟩, .int .i64 0] 23)).cell? ⟨w.heap.size, 3, none⟩ = some (.int .i64 0) := Ba4.out.cell 3
  have yx0 : (w3.alloc (.cells #[.int .i64 ca, .bool na, .string ⟨#[]⟩, .int .i64 0] 23)).cell? ⟨w3.heap.size, 0, none⟩ = some (.int .i64 ca) := Bx4.out.cell 0
  have yx1 : (w3.alloc (.cells #[.int .i64 ca, .bool na, .string ⟨#[]⟩, .int .i64 0] 23)).cell? ⟨w3.heap.size, 1, none⟩ = some (.bool na) := Bx4.out.cell 1
  have yx2 : (w3.alloc (.cells #[.int .i64 ca, .bool na, .string ⟨#[]⟩, .int .i64 0] 23)).cell? ⟨w3.heap.size, 2, none⟩ = some (.string ⟨#[]⟩) := Bx4.out.cell 2
  have yx3 : (w3.alloc (.cells #[.int .i64 ca, .bool na, .string ⟨#[]⟩, .int .i64 0] 23)).cell? ⟨w3.heap.size, 3, none⟩ = some (.int .i64 0) := Bx4.out.cell 3
  have HTW := hide (HT.out.below HB4.out)
  obtain ⟨W2, hW2⟩ : ∃ W2, W2 = (w3.alloc (.cells #[.int .i64 ca, .bool na, .string ⟨#[]⟩, .int .i64 0] 23)) := ⟨_, rfl⟩
  rw [← hW2] at HTW HB4 Ba4 Bx4 ya0 ya1 ya2 ya3 yx0 yx1 yx2 yx3
  have HW2 := hide hW2
  clear hW2
  have HL : Hid (w.heap.size < W2.heap.size) := Ba4.out.lt
  go_wp2_with fail
  try simp only [← HW2.out]
  go_cut [9, 10] (fun vp ve wx => CutD W2 #[.int .i64 ca, .bool na, .string ⟨#[]⟩, .int .i64 0] 0 vp ve wx)
  case first =>
    have C0 : Hid (∀ X, Hid (Below W2.heap.size W2 X) → Calls Tryz.prog 24 #[.string ⟨#[49]⟩, .int .i64 p] X fun e w' => e = .returned (.agg #[.int .i64 0, .bool false, .string ⟨#[49]⟩, .int .i64 p]) ∧ Hid (Below X.heap.size X w') ∧ Hid (Below W2.heap.size W2 w') ∧ w'.cell? ⟨w.heap.size, 0, none⟩ = some (.int .i64 ca) ∧ w'.cell? ⟨w.heap.size, 1, none⟩ = some (.bool na) ∧ w'.cell? ⟨w.heap.size, 2, none⟩ = some (.string ⟨#[]⟩) ∧ w'.cell? ⟨w.heap.size, 3, none⟩ = some (.int .i64 0)) := by
      intro X bX
      refine (num_any _ _ X).mono ?_
      rintro e w' ⟨rfl, hb⟩
      have bb := bX.out.trans (hb.mono bX.out.size)
      have Baq := Ba4.out.below bb Ba4.out.lt
      exact ⟨rfl, hb, bb, Baq.cell 0, Baq.cell 1, Baq.cell 2, Baq.cell 3⟩
    have C1 : Hid (∀ X, Hid (Below W2.heap.size W2 X) → Calls Tryz.prog 16 #[.agg #[.int .i64 ca, .bool na, .string ⟨#[]⟩, .int .i64 0], dcV 0 false ⟨#[49]⟩ p, .int .i64 m] X fun e w' => e = .returned (.tuple #[.agg #[.int .i64 ca, .bool na, .string ⟨#[]⟩, .int .i64 0], .int .i64 0]) ∧ Hid (Below X.heap.size X w') ∧ Hid (Below W2.heap.size W2 w') ∧ w'.cell? ⟨w.heap.size, 0, none⟩ = some (.int .i64 ca) ∧ w'.cell? ⟨w.heap.size, 1, none⟩ = some (.bool na) ∧ w'.cell? ⟨w.heap.size, 2, none⟩ = some (.string ⟨#[]⟩) ∧ w'.cell? ⟨w.heap.size, 3, none⟩ = some (.int .i64 0)) := by
      intro X bX
      refine (H2.out X (HTW.out.below bX.out)).mono ?_
      rintro e w' ⟨rfl, hb⟩
      have bb := bX.out.trans (hb.mono bX.out.size)
      have Baq := Ba4.out.below bb Ba4.out.lt
      exact ⟨rfl, hb, bb, Baq.cell 0, Baq.cell 1, Baq.cell 2, Baq.cell 3⟩
    have b0 : Hid (Below W2.heap.size W2 W2.drew) := bdrewD W2
    have naW2 : ¬ w.heap.size = W2.heap.size := (by have := HL.out; omega)
    have maW2 : ¬ W2.heap.size = w.heap.size := (by have := HL.out; omega)
    have mk0 : True := trivial
    go_region_held3 (fun w' => w'.cell? ⟨w.heap.size, 0, none⟩ = some (.int .i64 ca) ∧ w'.cell? ⟨w.heap.size, 1, none⟩ = some (.bool na) ∧ w'.cell? ⟨w.heap.size, 2, none⟩ = some (.string ⟨#[]⟩) ∧ w'.cell? ⟨w.heap.size, 3, none⟩ = some (.int .i64 0)) (go_keep) (first
        | (clear mk0; go_at_call 24; refine (C0.out _ (bal b0 (Obj.cells #[Value.int .i64 0, Value.bool false, Value.string ⟨#[]⟩, Value.int .i64 0] 23))).mono ?_; rintro e u1 ⟨rfl, R1, b1, q0_0, q0_1, q0_2, q0_3⟩; have QN := (Blk.newAt W2.drew W2.heap.size rfl #[.int .i64 0, .bool false, .string ⟨#[]⟩, .int .i64 0] 23).below R1.out (Blk.newAt W2.drew W2.heap.size rfl #[.int .i64 0, .bool false, .string ⟨#[]⟩, .int .i64 0] 23).lt; have h0 : u1.cell? ⟨W2.heap.size, 0, none⟩ = some (.int .i64 0) := QN.cell 0; have h1 : u1.cell? ⟨W2.heap.size, 1, none⟩ = some (.bool false) := QN.cell 1; have h2 : u1.cell? ⟨W2.heap.size, 2, none⟩ = some (.string ⟨#[]⟩) := QN.cell 2; have h3 : u1.cell? ⟨W2.heap.size, 3, none⟩ = some (.int .i64 0) := QN.cell 3; have h4 := QN.free 0; have h5 := QN.free 1; have h6 := QN.free 2; have h7 := QN.free 3; have QH := hide QN; clear QN; have mk1L0 : True := trivial)
        | (clear mk0; go_at_call 24; refine (C0.out _ b0).mono ?_; rintro e u1 ⟨rfl, R1, b1, q0_0, q0_1, q0_2, q0_3⟩; have nau1 : ¬ w.heap.size = u1.heap.size := (by have := HL.out; have := b1.out.size; omega); have mau1 : ¬ u1.heap.size = w.heap.size := (by have := HL.out; have := b1.out.size; omega); have mk1 : True := trivial)
        | (clear mk1L0; go_at_call 16; refine (C1.out _ b1).mono ?_; rintro e u2 ⟨rfl, R2, b2, q1_0, q1_1, q1_2, q1_3⟩; clear h0 h1 h2 h3 h4 h5 h6 h7; have QN := QH.out.below R2.out QH.out.lt; have h0 : u2.cell? ⟨W2.heap.size, 0, none⟩ = some (.int .i64 0) := QN.cell 0; have h1 : u2.cell? ⟨W2.heap.size, 1, none⟩ = some (.bool false) := QN.cell 1; have h2 : u2.cell? ⟨W2.heap.size, 2, none⟩ = some (.string ⟨#[]⟩) := QN.cell 2; have h3 : u2.cell? ⟨W2.heap.size, 3, none⟩ = some (.int .i64 0) := QN.cell 3; have h4 := QN.free 0; have h5 := QN.free 1; have h6 := QN.free 2; have h7 := QN.free 3; have QH := hide QN; clear QN; have mk2L0 : True := trivial)
        | (clear mk1; go_at_call 16; refine (C1.out _ (bal b1 (Obj.cells #[Value.int .i64 0, Value.bool false, Value.string ⟨#[]⟩, Value.int .i64 0] 23))).mono ?_; rintro e u2 ⟨rfl, R2, b2, q1_0, q1_1, q1_2, q1_3⟩; have QN := (Blk.newAt u1 u1.heap.size rfl #[.int .i64 0, .bool false, .string ⟨#[]⟩, .int .i64 0] 23).below R2.out (Blk.newAt u1 u1.heap.size rfl #[.int .i64 0, .bool false, .string ⟨#[]⟩, .int .i64 0] 23).lt; have h0 : u2.cell? ⟨u1.heap.size, 0, none⟩ = some (.int .i64 0) := QN.cell 0; have h1 : u2.cell? ⟨u1.heap.size, 1, none⟩ = some (.bool false) := QN.cell 1; have h2 : u2.cell? ⟨u1.heap.size, 2, none⟩ = some (.string ⟨#[]⟩) := QN.cell 2; have h3 : u2.cell? ⟨u1.heap.size, 3, none⟩ = some (.int .i64 0) := QN.cell 3; have h4 := QN.free 0; have h5 := QN.free 1; have h6 := QN.free 2; have h7 := QN.free 3; have QH := hide QN; clear QN; have mk2L1 : True := trivial)
        | (clear mk1; go_at_call 16; refine (C1.out _ b1).mono ?_; rintro e u2 ⟨rfl, R2, b2, q1_0, q1_1, q1_2, q1_3⟩; have nau2 : ¬ w.heap.size = u2.heap.size := (by have := HL.out; have := b2.out.size; omega); have mau2 : ¬ u2.heap.size = w.heap.size := (by have := HL.out; have := b2.out.size; omega); have mk2 : True := trivial))
    all_goals (go_wp2_with fail; go_meet)
    all_goals (first | (clear mk2L0; exact cutd_old b2.out QH.out (Nat.le_refl _)) | (clear mk2L1; exact cutd_old b2.out QH.out b1.out.size) | (clear mk2; exact cutd_new b2.out))
  obtain ⟨⟨Hy, rfl, rfl, hq, hH, hbc⟩⟩ := hcut
  obtain ⟨w5, hwk⟩ : ∃ x, x = wc := ⟨_, rfl⟩
  subst hwk
  have Ba5 := hide (Ba4.out.below hbc Ba4.out.lt)
  have Bx5 := hide (Bx4.out.below hbc Bx4.out.lt)
  have By5 := hide hq
  have HB5 := hide (HB4.out.trans (hbc.mono HB4.out.size))
  clear HL hq hH hbc Ba4 Bx4 HB4 ya0 ya1 ya2 ya3 yx0 yx1 yx2 yx3
  have ya0 : w5.cell? ⟨w.heap.size, 0, none⟩ = some (.int .i64 ca) := Ba5.out.cell 0
  have ya1 : w5.cell? ⟨w.heap.size, 1, none⟩ = some (.bool na) := Ba5.out.cell 1
  have ya2 : w5.cell? ⟨w.heap.size, 2, none⟩ = some (.string ⟨#[]⟩) := Ba5.out.cell 2
  have ya3 : w5.cell? ⟨w.heap.size, 3, none⟩ = some (.int .i64 0) := Ba5.out.cell 3
  have yx0 : w5.cell? ⟨w3.heap.size, 0, none⟩ = some (.int .i64 ca) := Bx5.out.cell 0
  have yx1 : w5.cell? ⟨w3.heap.size, 1, none⟩ = some (.bool na) := Bx5.out.cell 1
  have yx2 : w5.cell? ⟨w3.heap.size, 2, none⟩ = some (.string ⟨#[]⟩) := Bx5.out.cell 2
  have yx3 : w5.cell? ⟨w3.heap.size, 3, none⟩ = some (.int .i64 0) := Bx5.out.cell 3
  have yy0 : w5.cell? ⟨Hy, 0, none⟩ = some (.int .i64 ca) := By5.out.cell 0
  have yy1 : w5.cell? ⟨Hy, 1, none⟩ = some (.bool na) := By5.out.cell 1
  have yy2 : w5.cell? ⟨Hy, 2, none⟩ = some (.string ⟨#[]⟩) := By5.out.cell 2
  have yy3 : w5.cell? ⟨Hy, 3, none⟩ = some (.int .i64 0) := By5.out.cell 3
  clear HTW HW2
  go_wp2_with fail
  refine (H3.out _).mono ?_
  rintro e w6 ⟨rfl, hb⟩
  have Ba6 := hide (Ba5.out.below hb Ba5.out.lt)
  have Bx6 := hide (Bx5.out.below hb Bx5.out.lt)
  have By6 := hide (By5.out.below hb By5.out.lt)
  have HB6 := hide (HB5.out.trans (hb.mono HB5.out.size))
  clear hb Ba5 Bx5 By5 HB5 ya0 ya1 ya2 ya3 yx0 yx1 yx2 yx3 yy0 yy1 yy2 yy3
  have ya0 : w6.cell? ⟨w.heap.size, 0, none⟩ = some (.int .i64 ca) := Ba6.out.cell 0
  have ya1 : w6.cell? ⟨w.heap.size, 1, none⟩ = some (.bool na) := Ba6.out.cell 1
  have ya2 : w6.cell? ⟨w.heap.size, 2, none⟩ = some (.string ⟨#[]⟩) := Ba6.out.cell 2
  have ya3 : w6.cell? ⟨w.heap.size, 3, none⟩ = some (.int .i64 0) := Ba6.out.cell 3
  have yx0 : w6.cell? ⟨w3.heap.size, 0, none⟩ = some (.int .i64 ca) := Bx6.out.cell 0
  have yx1 : w6.cell? ⟨w3.heap.size, 1, none⟩ = some (.bool na) := Bx6.out.cell 1
  have yx2 : w6.cell? ⟨w3.heap.size, 2, none⟩ = some (.string ⟨#[]⟩) := Bx6.out.cell 2
  have yx3 : w6.cell? ⟨w3.heap.size, 3, none⟩ = some (.int .i64 0) := Bx6.out.cell 3
  have yy0 : w6.cell? ⟨Hy, 0, none⟩ = some (.int .i64 ca) := By6.out.cell 0
  have yy1 : w6.cell? ⟨Hy, 1, none⟩ = some (.bool na) := By6.out.cell 1
  have yy2 : w6.cell? ⟨Hy, 2, none⟩ = some (.string ⟨#[]⟩) := By6.out.cell 2
  have yy3 : w6.cell? ⟨Hy, 3, none⟩ = some (.int .i64 0) := By6.out.cell 3
  go_wp2_with fail
  refine (H4.out _ (HT.out.below HB6.out)).mono ?_
  rintro e w7 ⟨rfl, hb⟩
  have Ba7 := hide (Ba6.out.below hb Ba6.out.lt)
  have Bx7 := hide (Bx6.out.below hb Bx6.out.lt)
  have By7 := hide (By6.out.below hb By6.out.lt)
  have HB7 := hide (HB6.out.trans (hb.mono HB6.out.size))
  clear hb Ba6 Bx6 By6 HB6 ya0 ya1 ya2 ya3 yx0 yx1 yx2 yx3 yy0 yy1 yy2 yy3
  have ya0 : w7.cell? ⟨w.heap.size, 0, none⟩ = some (.int .i64 ca) := Ba7.out.cell 0
  have ya1 : w7.cell? ⟨w.heap.size, 1, none⟩ = some (.bool na) := Ba7.out.cell 1
  have ya2 : w7.cell? ⟨w.heap.size, 2, none⟩ = some (.string ⟨#[]⟩) := Ba7.out.cell 2
  have ya3 : w7.cell? ⟨w.heap.size, 3, none⟩ = some (.int .i64 0) := Ba7.out.cell 3
  have yx0 : w7.cell? ⟨w3.heap.size, 0, none⟩ = some (.int .i64 ca) := Bx7.out.cell 0
  have yx1 : w7.cell? ⟨w3.heap.size, 1, none⟩ = some (.bool na) := Bx7.out.cell 1
  have yx2 : w7.cell? ⟨w3.heap.size, 2, none⟩ = some (.string ⟨#[]⟩) := Bx7.out.cell 2
  have yx3 : w7.cell? ⟨w3.heap.size, 3, none⟩ = some (.int .i64 0) := Bx7.out.cell 3
  have yy0 : w7.cell? ⟨Hy, 0, none⟩ = some (.int .i64 ca) := By7.out.cell 0
  have yy1 : w7.cell? ⟨Hy, 1, none⟩ = some (.bool na) := By7.out.cell 1
  have yy2 : w7.cell? ⟨Hy, 2, none⟩ = some (.string ⟨#[]⟩) := By7.out.cell 2
  have yy3 : w7.cell? ⟨Hy, 3, none⟩ = some (.int .i64 0) := By7.out.cell 3
  have Ba8 := hide ((Ba7.out.alloc (.cells #[.int .i64 cz, .bool nz, .string tz, .int .i64 ez] 23)))
  have Bx8 := hide ((Bx7.out.alloc (.cells #[.int .i64 cz, .bool nz, .string tz, .int .i64 ez] 23)))
  have By8 := hide ((By7.out.alloc (.cells #[.int .i64 cz, .bool nz, .string tz, .int .i64 ez] 23)))
  have Bz8 := hide ((Blk.newAt w7 (w7.heap.size) (rfl) #[.int .i64 cz, .bool nz, .string tz, .int .i64 ez] 23))
  have HB8 : Hid (Below w.heap.size w (w7.alloc (.cells #[.int .i64 cz, .bool nz, .string tz, .int .i64 ez] 23))) := (HB7.out.alloc HB7.out.size _)
  clear Ba7 Bx7 By7 HB7 ya0 ya1 ya2 ya3 yx0 yx1 yx2 yx3 yy0 yy1 yy2 yy3
  have ya0 : (w7.alloc (.cells #[.int .i64 cz, .bool nz, .string tz, .int .i64 ez] 23)).cell? ⟨w.heap.size, 0, none⟩ = some (.int .i64 ca) := Ba8.out.cell 0
  have ya1 : (w7.alloc (.cells #[.int .i64 cz, .bool nz, .string tz, .int .i64 ez] 23)).cell? ⟨w.heap.size, 1, none⟩ = some (.bool na) := Ba8.out.cell 1
  have ya2 : (w7.alloc (.cells #[.int .i64 cz, .bool nz, .string tz, .int .i64 ez] 23)).cell? ⟨w.heap.size, 2, none⟩ = some (.string ⟨#[]⟩) := Ba8.out.cell 2
  have ya3 : (w7.alloc (.cells #[.int .i64 cz, .bool nz, .string tz, .int .i64 ez] 23)).cell? ⟨w.heap.size, 3, none⟩ = some (.int .i64 0) := Ba8.out.cell 3
  have yx0 : (w7.alloc (.cells #[.int .i64 cz, .bool nz, .string tz, .int .i64 ez] 23)).cell? ⟨w3.heap.size, 0, none⟩ = some (.int .i64 ca) := Bx8.out.cell 0
  have yx1 : (w7.alloc (.cells #[.int .i64 cz, .bool nz, .string tz, .int .i64 ez] 23)).cell? ⟨w3.heap.size, 1, none⟩ = some (.bool na) := Bx8.out.cell 1
  have yx2 : (w7.alloc (.cells #[.int .i64 cz, .bool nz, .string tz, .int .i64 ez] 23)).cell? ⟨w3.heap.size, 2, none⟩ = some (.string ⟨#[]⟩) := Bx8.out.cell 2
  have yx3 : (w7.alloc (.cells #[.int .i64 cz, .bool nz, .string tz, .int .i64 ez] 23)).cell? ⟨w3.heap.size, 3, none⟩ = some (.int .i64 0) := Bx8.out.cell 3
  have yy0 : (w7.alloc (.cells #[.int .i64 cz, .bool nz, .string tz, .int .i64 ez] 23)).cell? ⟨Hy, 0, none⟩ = some (.int .i64 ca) := By8.out.cell 0
  have yy1 : (w7.alloc (.cells #[.int .i64 cz, .bool nz, .string tz, .int .i64 ez] 23)).cell? ⟨Hy, 1, none⟩ = some (.bool na) := By8.out.cell 1
  have yy2 : (w7.alloc (.cells #[.int .i64 cz, .bool nz, .string tz, .int .i64 ez] 23)).cell? ⟨Hy, 2, none⟩ = some (.string ⟨#[]⟩) := By8.out.cell 2
  have yy3 : (w7.alloc (.cells #[.int .i64 cz, .bool nz, .string tz, .int .i64 ez] 23)).cell? ⟨Hy, 3, none⟩ = some (.int .i64 0) := By8.out.cell 3
  have yz0 : (w7.alloc (.cells #[.int .i64 cz, .bool nz, .string tz, .int .i64 ez] 23)).cell? ⟨w7.heap.size, 0, none⟩ = some (.int .i64 cz) := Bz8.out.cell 0
  have yz1 : (w7.alloc (.cells #[.int .i64 cz, .bool nz, .string tz, .int .i64 ez] 23)).cell? ⟨w7.heap.size, 1, none⟩ = some (.bool nz) := Bz8.out.cell 1
  have yz2 : (w7.alloc (.cells #[.int .i64 cz, .bool nz, .string tz, .int .i64 ez] 23)).cell? ⟨w7.heap.size, 2, none⟩ = some (.string tz) := Bz8.out.cell 2
  have yz3 : (w7.alloc (.cells #[.int .i64 cz, .bool nz, .string tz, .int .i64 ez] 23)).cell? ⟨w7.heap.size, 3, none⟩ = some (.int .i64 ez) := Bz8.out.cell 3
  go_wp2
  go_ret
  exact ⟨rfl, HB8.out⟩

set_option maxRecDepth 100000 in
set_option maxHeartbeats 4000000 in
theorem ways_cls_low (ca : Int) (na : Bool) (p m q : Int) (w : World) (htab : Tab w) (m1 : 0 ≤ m) (m2 : m ≤ 7) (p1 : -1990 ≤ p) (p2 : p ≤ 1990) (hc : ¬ ca = 0) (q1 : q - p < 1) (q2 : -10000 ≤ q) (g0 : ∀ W, Calls Tryz.prog 23 #[.agg #[.int .i64 ca, .bool na, .string ⟨#[]⟩, .int .i64 0]] W fun e w' => e = .returned (.bool true) ∧ Below W.heap.size W w') (g1 : ∀ W, Tab W → Calls Tryz.prog 11 #[.agg #[.int .i64 ca, .bool na, .string ⟨#[]⟩, .int .i64 0], .int .i64 p, .int .i64 m] W fun e w' => e = .returned (.tuple #[.agg #[.int .i64 ca, .bool na, .string ⟨#[]⟩, .int .i64 0], .int .i64 0]) ∧ Below W.heap.size W w') (g2 : ∀ W, Tab W → Calls Tryz.prog 16 #[.agg #[.int .i64 ca, .bool na, .string ⟨#[]⟩, .int .i64 0], dcV 0 false ⟨#[49]⟩ p, .int .i64 m] W fun e w' => e = .returned (.tuple #[.agg #[.int .i64 ca, .bool na, .string ⟨#[]⟩, .int .i64 0], .int .i64 0]) ∧ Below W.heap.size W w') (g3 : ∀ W, Calls Tryz.prog 25 #[.agg #[.int .i64 ca, .bool na, .string ⟨#[]⟩, .int .i64 0]] W fun e w' => e = .returned (.int .i64 q) ∧ Below W.heap.size W w') : Calls Tryz.prog 9 #[.agg #[.int .i64 ca, .bool na, .string ⟨#[]⟩, .int .i64 0], .int .i64 p, .int .i64 m] w fun e w' => e = .returned (.bool true) ∧ Below w.heap.size w w' := by
  have H0 := hide g0
  have H1 := hide g1
  have H2 := hide g2
  have H3 := hide g3
  have HT := hide htab
  have hw : IntKind.i64.wrap (q - p) = q - p := by rw [IntKind.wrap_i64]; omega
  have h2 : (ca == 0) = false := by simpa using hc
  clear hc
  clear htab g0 g1 g2 g3
  have Ba0 := hide (Blk.newAt w (w.heap.size) (rfl) #[.int .i64 ca, .bool na, .string ⟨#[]⟩, .int .i64 0] 23)
  have HB0 : Hid (Below w.heap.size w (w.alloc (.cells #[.int .i64 ca, .bool na, .string ⟨#[]⟩, .int .i64 0] 23))) := ((Below.refl _ _).alloc (Nat.le_refl _) _)
  go_enter Tryz.func9, Tryz.ntmps9
  go_wp2_with fail
  refine (rawake_any _ (HT.out.below HB0.out)).mono ?_
  rintro e w1 ⟨rfl, hb⟩
  have Ba1 := hide (Ba0.out.below hb Ba0.out.lt)
  have HB1 := hide (HB0.out.trans (hb.mono HB0.out.size))
  clear hb Ba0 HB0 
  have ya0 : w1.cell? ⟨w.heap.size, 0, none⟩ = some (.int .i64 ca) := Ba1.out.cell 0
  have ya1 : w1.cell? ⟨w.heap.size, 1, none⟩ = some (.bool na) := Ba1.out.cell 1
  have ya2 : w1.cell? ⟨w.heap.size, 2, none⟩ = some (.string ⟨#[]⟩) := Ba1.out.cell 2
  have ya3 : w1.cell? ⟨w.heap.size, 3, none⟩ = some (.int .i64 0) := Ba1.out.cell 3
  go_wp2_with fail
  refine (H0.out _).mono ?_
  rintro e w2 ⟨rfl, hb⟩
  have Ba2 := hide (Ba1.out.below hb Ba1.out.lt)
  have HB2 := hide (HB1.out.trans (hb.mono HB1.out.size))
  clear hb Ba1 HB1 ya0 ya1 ya2 ya3
  have ya0 : w2.cell? ⟨w.heap.size, 0, none⟩ = some (.int .i64 ca) := Ba2.out.cell 0
  have ya1 : w2.cell? ⟨w.heap.size, 1, none⟩ = some (.bool na) := Ba2.out.cell 1
  have ya2 : w2.cell? ⟨w.heap.size, 2, none⟩ = some (.string ⟨#[]⟩) := Ba2.out.cell 2
  have ya3 : w2.cell? ⟨w.heap.size, 3, none⟩ = some (.int .i64 0) := Ba2.out.cell 3
  go_wp2_with fail
  refine (H1.out _ (HT.out.below HB2.out)).mono ?_
  rintro e w3 ⟨rfl, hb⟩
  have Ba3 := hide (Ba2.out.below hb Ba2.out.lt)
  have HB3 := hide (HB2.out.trans (hb.mono HB2.out.size))
  clear hb Ba2 HB2 ya0 ya1 ya2 ya3
  have ya0 : w3.cell? ⟨w.heap.size, 0, none⟩ = some (.int .i64 ca) := Ba3.out.cell 0
  have ya1 : w3.cell? ⟨w.heap.size, 1, none⟩ = some (.bool na) := Ba3.out.cell 1
  have ya2 : w3.cell? ⟨w.heap.size, 2, none⟩ = some (.string ⟨#[]⟩) := Ba3.out.cell 2
  have ya3 : w3.cell? ⟨w.heap.size, 3, none⟩ = some (.int .i64 0) := Ba3.out.cell 3
  have Ba4 := hide ((Ba3.out.alloc (.cells #[.int .i64 ca, .bool na, .string ⟨#[]⟩, .int .i64 0] 23)))
  have Bx4 := hide ((Blk.newAt w3 (w3.heap.size) (rfl) #[.int .i64 ca, .bool na, .string ⟨#[]⟩, .int .i64 0] 23))
  have HB4 : Hid (Below w.heap.size w (w3.alloc (.cells #[.int .i64 ca, .bool na, .string ⟨#[]⟩, .int .i64 0] 23))) := (HB3.out.alloc HB3.out.size _)
  clear Ba3 HB3 ya0 ya1 ya2 ya3
  have ya0 : (w3.alloc (.cells #[.int .i64 ca, .bool na, .string ⟨#[]⟩, .int .i64 0] 23)).cell? ⟨w.heap.size, 0, none⟩ = some (.int .i64 ca) := Ba4.out.cell 0
  have ya1 : (w3.alloc (.cells #[.int .i64 ca, .bool na, .string ⟨#[]⟩, .int .i64 0] 23)).cell? ⟨w.heap.size, 1, none⟩ = some (.bool na) := Ba4.out.cell 1
  have ya2 : (w3.alloc (.cells #[.int .i64 ca, .bool na, .string ⟨#[]⟩, .int .i64 0] 23)).cell? ⟨w.heap.size, 2, none⟩ = some (.string ⟨#[]⟩) := Ba4.out.cell 2
  have ya3 : (w3.alloc (.cells #[.int .i64 ca, .bool na, .string ⟨#[]⟩, .int .i64 0] 23)).cell? ⟨w.heap.size, 3, none⟩ = some (.int .i64 0) := Ba4.out.cell 3
  have yx0 : (w3.alloc (.cells #[.int .i64 ca, .bool na, .string ⟨#[]⟩, .int .i64 0] 23)).cell? ⟨w3.heap.size, 0, none⟩ = some (.int .i64 ca) := Bx4.out.cell 0
  have yx1 : (w3.alloc (.cells #[.int .i64 ca, .bool na, .string ⟨#[]⟩, .int .i64 0] 23)).cell? ⟨w3.heap.size, 1, none⟩ = some (.bool na) := Bx4.out.cell 1
  have yx2 : (w3.alloc (.cells #[.int .i64 ca, .bool na, .string ⟨#[]⟩, .int .i64 0] 23)).cell? ⟨w3.heap.size, 2, none⟩ = some (.string ⟨#[]⟩) := Bx4.out.cell 2
  have yx3 : (w3.alloc (.cells #[.int .i64 ca, .bool na, .string ⟨#[]⟩, .int .i64 0] 23)).cell? ⟨w3.heap.size, 3, none⟩ = some (.int .i64 0) := Bx4.out.cell 3
  have HTW := hide (HT.out.below HB4.out)
  obtain ⟨W2, hW2⟩ : ∃ W2, W2 = (w3.alloc (.cells #[.int .i64 ca, .bool na, .string ⟨#[]⟩, .int .i64 0] 23)) := ⟨_, rfl⟩
  rw [← hW2] at HTW HB4 Ba4 Bx4 ya0 ya1 ya2 ya3 yx0 yx1 yx2 yx3
  have HW2 := hide hW2
  clear hW2
  have HL : Hid (w.heap.size < W2.heap.size) := Ba4.out.lt
  go_wp2_with fail
  try simp only [← HW2.out]
  go_cut [9, 10] (fun vp ve wx => CutD W2 #[.int .i64 ca, .bool na, .string ⟨#[]⟩, .int .i64 0] 0 vp ve wx)
  case first =>
    have C0 : Hid (∀ X, Hid (Below W2.heap.size W2 X) → Calls Tryz.prog 24 #[.string ⟨#[49]⟩, .int .i64 p] X fun e w' => e = .returned (.agg #[.int .i64 0, .bool false, .string ⟨#[49]⟩, .int .i64 p]) ∧ Hid (Below X.heap.size X w') ∧ Hid (Below W2.heap.size W2 w') ∧ w'.cell? ⟨w.heap.size, 0, none⟩ = some (.int .i64 ca) ∧ w'.cell? ⟨w.heap.size, 1, none⟩ = some (.bool na) ∧ w'.cell? ⟨w.heap.size, 2, none⟩ = some (.string ⟨#[]⟩) ∧ w'.cell? ⟨w.heap.size, 3, none⟩ = some (.int .i64 0)) := by
      intro X bX
      refine (num_any _ _ X).mono ?_
      rintro e w' ⟨rfl, hb⟩
      have bb := bX.out.trans (hb.mono bX.out.size)
      have Baq := Ba4.out.below bb Ba4.out.lt
      exact ⟨rfl, hb, bb, Baq.cell 0, Baq.cell 1, Baq.cell 2, Baq.cell 3⟩
    have C1 : Hid (∀ X, Hid (Below W2.heap.size W2 X) → Calls Tryz.prog 16 #[.agg #[.int .i64 ca, .bool na, .string ⟨#[]⟩, .int .i64 0], dcV 0 false ⟨#[49]⟩ p, .int .i64 m] X fun e w' => e = .returned (.tuple #[.agg #[.int .i64 ca, .bool na, .string ⟨#[]⟩, .int .i64 0], .int .i64 0]) ∧ Hid (Below X.heap.size X w') ∧ Hid (Below W2.heap.size W2 w') ∧ w'.cell? ⟨w.heap.size, 0, none⟩ = some (.int .i64 ca) ∧ w'.cell? ⟨w.heap.size, 1, none⟩ = some (.bool na) ∧ w'.cell? ⟨w.heap.size, 2, none⟩ = some (.string ⟨#[]⟩) ∧ w'.cell? ⟨w.heap.size, 3, none⟩ = some (.int .i64 0)) := by
      intro X bX
      refine (H2.out X (HTW.out.below bX.out)).mono ?_
      rintro e w' ⟨rfl, hb⟩
      have bb := bX.out.trans (hb.mono bX.out.size)
      have Baq := Ba4.out.below bb Ba4.out.lt
      exact ⟨rfl, hb, bb, Baq.cell 0, Baq.cell 1, Baq.cell 2, Baq.cell 3⟩
    have b0 : Hid (Below W2.heap.size W2 W2.drew) := bdrewD W2
    have naW2 : ¬ w.heap.size = W2.heap.size := (by have := HL.out; omega)
    have maW2 : ¬ W2.heap.size = w.heap.size := (by have := HL.out; omega)
    have mk0 : True := trivial
    go_region_held3 (fun w' => w'.cell? ⟨w.heap.size, 0, none⟩ = some (.int .i64 ca) ∧ w'.cell? ⟨w.heap.size, 1, none⟩ = some (.bool na) ∧ w'.cell? ⟨w.heap.size, 2, none⟩ = some (.string ⟨#[]⟩) ∧ w'.cell? ⟨w.heap.size, 3, none⟩ = some (.int .i64 0)) (go_keep) (first
        | (clear mk0; go_at_call 24; refine (C0.out _ (bal b0 (Obj.cells #[Value.int .i64 0, Value.bool false, Value.string ⟨#[]⟩, Value.int .i64 0] 23))).mono ?_; rintro e u1 ⟨rfl, R1, b1, q0_0, q0_1, q0_2, q0_3⟩; have QN := (Blk.newAt W2.drew W2.heap.size rfl #[.int .i64 0, .bool false, .string ⟨#[]⟩, .int .i64 0] 23).below R1.out (Blk.newAt W2.drew W2.heap.size rfl #[.int .i64 0, .bool false, .string ⟨#[]⟩, .int .i64 0] 23).lt; have h0 : u1.cell? ⟨W2.heap.size, 0, none⟩ = some (.int .i64 0) := QN.cell 0; have h1 : u1.cell? ⟨W2.heap.size, 1, none⟩ = some (.bool false) := QN.cell 1; have h2 : u1.cell? ⟨W2.heap.size, 2, none⟩ = some (.string ⟨#[]⟩) := QN.cell 2; have h3 : u1.cell? ⟨W2.heap.size, 3, none⟩ = some (.int .i64 0) := QN.cell 3; have h4 := QN.free 0; have h5 := QN.free 1; have h6 := QN.free 2; have h7 := QN.free 3; have QH := hide QN; clear QN; have mk1L0 : True := trivial)
        | (clear mk0; go_at_call 24; refine (C0.out _ b0).mono ?_; rintro e u1 ⟨rfl, R1, b1, q0_0, q0_1, q0_2, q0_3⟩; have nau1 : ¬ w.heap.size = u1.heap.size := (by have := HL.out; have := b1.out.size; omega); have mau1 : ¬ u1.heap.size = w.heap.size := (by have := HL.out; have := b1.out.size; omega); have mk1 : True := trivial)
        | (clear mk1L0; go_at_call 16; refine (C1.out _ b1).mono ?_; rintro e u2 ⟨rfl, R2, b2, q1_0, q1_1, q1_2, q1_3⟩; clear h0 h1 h2 h3 h4 h5 h6 h7; have QN := QH.out.below R2.out QH.out.lt; have h0 : u2.cell? ⟨W2.heap.size, 0, none⟩ = some (.int .i64 0) := QN.cell 0; have h1 : u2.cell? ⟨W2.heap.size, 1, none⟩ = some (.bool false) := QN.cell 1; have h2 : u2.cell? ⟨W2.heap.size, 2, none⟩ = some (.string ⟨#[]⟩) := QN.cell 2; have h3 : u2.cell? ⟨W2.heap.size, 3, none⟩ = some (.int .i64 0) := QN.cell 3; have h4 := QN.free 0; have h5 := QN.free 1; have h6 := QN.free 2; have h7 := QN.free 3; have QH := hide QN; clear QN; have mk2L0 : True := trivial)
        | (clear mk1; go_at_call 16; refine (C1.out _ (bal b1 (Obj.cells #[Value.int .i64 0, Value.bool false, Value.string ⟨#[]⟩, Value.int .i64 0] 23))).mono ?_; rintro e u2 ⟨rfl, R2, b2, q1_0, q1_1, q1_2, q1_3⟩; have QN := (Blk.newAt u1 u1.heap.size rfl #[.int .i64 0, .bool false, .string ⟨#[]⟩, .int .i64 0] 23).below R2.out (Blk.newAt u1 u1.heap.size rfl #[.int .i64 0, .bool false, .string ⟨#[]⟩, .int .i64 0] 23).lt; have h0 : u2.cell? ⟨u1.heap.size, 0, none⟩ = some (.int .i64 0) := QN.cell 0; have h1 : u2.cell? ⟨u1.heap.size, 1, none⟩ = some (.bool false) := QN.cell 1; have h2 : u2.cell? ⟨u1.heap.size, 2, none⟩ = some (.string ⟨#[]⟩) := QN.cell 2; have h3 : u2.cell? ⟨u1.heap.size, 3, none⟩ = some (.int .i64 0) := QN.cell 3; have h4 := QN.free 0; have h5 := QN.free 1; have h6 := QN.free 2; have h7 := QN.free 3; have QH := hide QN; clear QN; have mk2L1 : True := trivial)
        | (clear mk1; go_at_call 16; refine (C1.out _ b1).mono ?_; rintro e u2 ⟨rfl, R2, b2, q1_0, q1_1, q1_2, q1_3⟩; have nau2 : ¬ w.heap.size = u2.heap.size := (by have := HL.out; have := b2.out.size; omega); have mau2 : ¬ u2.heap.size = w.heap.size := (by have := HL.out; have := b2.out.size; omega); have mk2 : True := trivial))
    all_goals (go_wp2_with fail; go_meet)
    all_goals (first | (clear mk2L0; exact cutd_old b2.out QH.out (Nat.le_refl _)) | (clear mk2L1; exact cutd_old b2.out QH.out b1.out.size) | (clear mk2; exact cutd_new b2.out))
  obtain ⟨⟨Hy, rfl, rfl, hq, hH, hbc⟩⟩ := hcut
  obtain ⟨w5, hwk⟩ : ∃ x, x = wc := ⟨_, rfl⟩
  subst hwk
  have Ba5 := hide (Ba4.out.below hbc Ba4.out.lt)
  have Bx5 := hide (Bx4.out.below hbc Bx4.out.lt)
  have By5 := hide hq
  have HB5 := hide (HB4.out.trans (hbc.mono HB4.out.size))
  clear HL hq hH hbc Ba4 Bx4 HB4 ya0 ya1 ya2 ya3 yx0 yx1 yx2 yx3
  have ya0 : w5.cell? ⟨w.heap.size, 0, none⟩ = some (.int .i64 ca) := Ba5.out.cell 0
  have ya1 : w5.cell? ⟨w.heap.size, 1, none⟩ = some (.bool na) := Ba5.out.cell 1
  have ya2 : w5.cell? ⟨w.heap.size, 2, none⟩ = some (.string ⟨#[]⟩) := Ba5.out.cell 2
  have ya3 : w5.cell? ⟨w.heap.size, 3, none⟩ = some (.int .i64 0) := Ba5.out.cell 3
  have yx0 : w5.cell? ⟨w3.heap.size, 0, none⟩ = some (.int .i64 ca) := Bx5.out.cell 0
  have yx1 : w5.cell? ⟨w3.heap.size, 1, none⟩ = some (.bool na) := Bx5.out.cell 1
  have yx2 : w5.cell? ⟨w3.heap.size, 2, none⟩ = some (.string ⟨#[]⟩) := Bx5.out.cell 2
  have yx3 : w5.cell? ⟨w3.heap.size, 3, none⟩ = some (.int .i64 0) := Bx5.out.cell 3
  have yy0 : w5.cell? ⟨Hy, 0, none⟩ = some (.int .i64 ca) := By5.out.cell 0
  have yy1 : w5.cell? ⟨Hy, 1, none⟩ = some (.bool na) := By5.out.cell 1
  have yy2 : w5.cell? ⟨Hy, 2, none⟩ = some (.string ⟨#[]⟩) := By5.out.cell 2
  have yy3 : w5.cell? ⟨Hy, 3, none⟩ = some (.int .i64 0) := By5.out.cell 3
  clear HTW HW2
  go_wp2_with fail
  refine (H3.out _).mono ?_
  rintro e w6 ⟨rfl, hb⟩
  have Ba6 := hide (Ba5.out.below hb Ba5.out.lt)
  have Bx6 := hide (Bx5.out.below hb Bx5.out.lt)
  have By6 := hide (By5.out.below hb By5.out.lt)
  have HB6 := hide (HB5.out.trans (hb.mono HB5.out.size))
  clear hb Ba5 Bx5 By5 HB5 ya0 ya1 ya2 ya3 yx0 yx1 yx2 yx3 yy0 yy1 yy2 yy3
  have ya0 : w6.cell? ⟨w.heap.size, 0, none⟩ = some (.int .i64 ca) := Ba6.out.cell 0
  have ya1 : w6.cell? ⟨w.heap.size, 1, none⟩ = some (.bool na) := Ba6.out.cell 1
  have ya2 : w6.cell? ⟨w.heap.size, 2, none⟩ = some (.string ⟨#[]⟩) := Ba6.out.cell 2
  have ya3 : w6.cell? ⟨w.heap.size, 3, none⟩ = some (.int .i64 0) := Ba6.out.cell 3
  have yx0 : w6.cell? ⟨w3.heap.size, 0, none⟩ = some (.int .i64 ca) := Bx6.out.cell 0
  have yx1 : w6.cell? ⟨w3.heap.size, 1, none⟩ = some (.bool na) := Bx6.out.cell 1
  have yx2 : w6.cell? ⟨w3.heap.size, 2, none⟩ = some (.string ⟨#[]⟩) := Bx6.out.cell 2
  have yx3 : w6.cell? ⟨w3.heap.size, 3, none⟩ = some (.int .i64 0) := Bx6.out.cell 3
  have yy0 : w6.cell? ⟨Hy, 0, none⟩ = some (.int .i64 ca) := By6.out.cell 0
  have yy1 : w6.cell? ⟨Hy, 1, none⟩ = some (.bool na) := By6.out.cell 1
  have yy2 : w6.cell? ⟨Hy, 2, none⟩ = some (.string ⟨#[]⟩) := By6.out.cell 2
  have yy3 : w6.cell? ⟨Hy, 3, none⟩ = some (.int .i64 0) := By6.out.cell 3
  go_wp2
  go_ret
  exact ⟨rfl, HB6.out⟩

set_option maxRecDepth 100000 in
set_option maxHeartbeats 4000000 in
theorem ways_cls_high (ca : Int) (na : Bool) (p m q : Int) (w : World) (htab : Tab w) (m1 : 0 ≤ m) (m2 : m ≤ 7) (p1 : -1990 ≤ p) (p2 : p ≤ 1990) (hc : ¬ ca = 0) (q1 : 1000 < q - p) (q2 : q ≤ 10000) (g0 : ∀ W, Calls Tryz.prog 23 #[.agg #[.int .i64 ca, .bool na, .string ⟨#[]⟩, .int .i64 0]] W fun e w' => e = .returned (.bool true) ∧ Below W.heap.size W w') (g1 : ∀ W, Tab W → Calls Tryz.prog 11 #[.agg #[.int .i64 ca, .bool na, .string ⟨#[]⟩, .int .i64 0], .int .i64 p, .int .i64 m] W fun e w' => e = .returned (.tuple #[.agg #[.int .i64 ca, .bool na, .string ⟨#[]⟩, .int .i64 0], .int .i64 0]) ∧ Below W.heap.size W w') (g2 : ∀ W, Tab W → Calls Tryz.prog 16 #[.agg #[.int .i64 ca, .bool na, .string ⟨#[]⟩, .int .i64 0], dcV 0 false ⟨#[49]⟩ p, .int .i64 m] W fun e w' => e = .returned (.tuple #[.agg #[.int .i64 ca, .bool na, .string ⟨#[]⟩, .int .i64 0], .int .i64 0]) ∧ Below W.heap.size W w') (g3 : ∀ W, Calls Tryz.prog 25 #[.agg #[.int .i64 ca, .bool na, .string ⟨#[]⟩, .int .i64 0]] W fun e w' => e = .returned (.int .i64 q) ∧ Below W.heap.size W w') : Calls Tryz.prog 9 #[.agg #[.int .i64 ca, .bool na, .string ⟨#[]⟩, .int .i64 0], .int .i64 p, .int .i64 m] w fun e w' => e = .returned (.bool true) ∧ Below w.heap.size w w' := by
  have H0 := hide g0
  have H1 := hide g1
  have H2 := hide g2
  have H3 := hide g3
  have HT := hide htab
  have hw : IntKind.i64.wrap (q - p) = q - p := by rw [IntKind.wrap_i64]; omega
  have h2 : (ca == 0) = false := by simpa using hc
  clear hc
  clear htab g0 g1 g2 g3
  have Ba0 := hide (Blk.newAt w (w.heap.size) (rfl) #[.int .i64 ca, .bool na, .string ⟨#[]⟩, .int .i64 0] 23)
  have HB0 : Hid (Below w.heap.size w (w.alloc (.cells #[.int .i64 ca, .bool na, .string ⟨#[]⟩, .int .i64 0] 23))) := ((Below.refl _ _).alloc (Nat.le_refl _) _)
  go_enter Tryz.func9, Tryz.ntmps9
  go_wp2_with fail
  refine (rawake_any _ (HT.out.below HB0.out)).mono ?_
  rintro e w1 ⟨rfl, hb⟩
  have Ba1 := hide (Ba0.out.below hb Ba0.out.lt)
  have HB1 := hide (HB0.out.trans (hb.mono HB0.out.size))
  clear hb Ba0 HB0 
  have ya0 : w1.cell? ⟨w.heap.size, 0, none⟩ = some (.int .i64 ca) := Ba1.out.cell 0
  have ya1 : w1.cell? ⟨w.heap.size, 1, none⟩ = some (.bool na) := Ba1.out.cell 1
  have ya2 : w1.cell? ⟨w.heap.size, 2, none⟩ = some (.string ⟨#[]⟩) := Ba1.out.cell 2
  have ya3 : w1.cell? ⟨w.heap.size, 3, none⟩ = some (.int .i64 0) := Ba1.out.cell 3
  go_wp2_with fail
  refine (H0.out _).mono ?_
  rintro e w2 ⟨rfl, hb⟩
  have Ba2 := hide (Ba1.out.below hb Ba1.out.lt)
  have HB2 := hide (HB1.out.trans (hb.mono HB1.out.size))
  clear hb Ba1 HB1 ya0 ya1 ya2 ya3
  have ya0 : w2.cell? ⟨w.heap.size, 0, none⟩ = some (.int .i64 ca) := Ba2.out.cell 0
  have ya1 : w2.cell? ⟨w.heap.size, 1, none⟩ = some (.bool na) := Ba2.out.cell 1
  have ya2 : w2.cell? ⟨w.heap.size, 2, none⟩ = some (.string ⟨#[]⟩) := Ba2.out.cell 2
  have ya3 : w2.cell? ⟨w.heap.size, 3, none⟩ = some (.int .i64 0) := Ba2.out.cell 3
  go_wp2_with fail
  refine (H1.out _ (HT.out.below HB2.out)).mono ?_
  rintro e w3 ⟨rfl, hb⟩
  have Ba3 := hide (Ba2.out.below hb Ba2.out.lt)
  have HB3 := hide (HB2.out.trans (hb.mono HB2.out.size))
  clear hb Ba2 HB2 ya0 ya1 ya2 ya3
  have ya0 : w3.cell? ⟨w.heap.size, 0, none⟩ = some (.int .i64 ca) := Ba3.out.cell 0
  have ya1 : w3.cell? ⟨w.heap.size, 1, none⟩ = some (.bool na) := Ba3.out.cell 1
  have ya2 : w3.cell? ⟨w.heap.size, 2, none⟩ = some (.string ⟨#[]⟩) := Ba3.out.cell 2
  have ya3 : w3.cell? ⟨w.heap.size, 3, none⟩ = some (.int .i64 0) := Ba3.out.cell 3
  have Ba4 := hide ((Ba3.out.alloc (.cells #[.int .i64 ca, .bool na, .string ⟨#[]⟩, .int .i64 0] 23)))
  have Bx4 := hide ((Blk.newAt w3 (w3.heap.size) (rfl) #[.int .i64 ca, .bool na, .string ⟨#[]⟩, .int .i64 0] 23))
  have HB4 : Hid (Below w.heap.size w (w3.alloc (.cells #[.int .i64 ca, .bool na, .string ⟨#[]⟩, .int .i64 0] 23))) := (HB3.out.alloc HB3.out.size _)
  clear Ba3 HB3 ya0 ya1 ya2 ya3
  have ya0 : (w3.alloc (.cells #[.int .i64 ca, .bool na, .string ⟨#[]⟩, .int .i64 0] 23)).cell? ⟨w.heap.size, 0, none⟩ = some (.int .i64 ca) := Ba4.out.cell 0
  have ya1 : (w3.alloc (.cells #[.int .i64 ca, .bool na, .string ⟨#[]⟩, .int .i64 0] 23)).cell? ⟨w.heap.size, 1, none⟩ = some (.bool na) := Ba4.out.cell 1
  have ya2 : (w3.alloc (.cells #[.int .i64 ca, .bool na, .string ⟨#[]⟩, .int .i64 0] 23)).cell? ⟨w.heap.size, 2, none⟩ = some (.string ⟨#[]⟩) := Ba4.out.cell 2
  have ya3 : (w3.alloc (.cells #[.int .i64 ca, .bool na, .string ⟨#[]⟩, .int .i64 0] 23)).cell? ⟨w.heap.size, 3, none⟩ = some (.int .i64 0) := Ba4.out.cell 3
  have yx0 : (w3.alloc (.cells #[.int .i64 ca, .bool na, .string ⟨#[]⟩, .int .i64 0] 23)).cell? ⟨w3.heap.size, 0, none⟩ = some (.int .i64 ca) := Bx4.out.cell 0
  have yx1 : (w3.alloc (.cells #[.int .i64 ca, .bool na, .string ⟨#[]⟩, .int .i64 0] 23)).cell? ⟨w3.heap.size, 1, none⟩ = some (.bool na) := Bx4.out.cell 1
  have yx2 : (w3.alloc (.cells #[.int .i64 ca, .bool na, .string ⟨#[]⟩, .int .i64 0] 23)).cell? ⟨w3.heap.size, 2, none⟩ = some (.string ⟨#[]⟩) := Bx4.out.cell 2
  have yx3 : (w3.alloc (.cells #[.int .i64 ca, .bool na, .string ⟨#[]⟩, .int .i64 0] 23)).cell? ⟨w3.heap.size, 3, none⟩ = some (.int .i64 0) := Bx4.out.cell 3
  have HTW := hide (HT.out.below HB4.out)
  obtain ⟨W2, hW2⟩ : ∃ W2, W2 = (w3.alloc (.cells #[.int .i64 ca, .bool na, .string ⟨#[]⟩, .int .i64 0] 23)) := ⟨_, rfl⟩
  rw [← hW2] at HTW HB4 Ba4 Bx4 ya0 ya1 ya2 ya3 yx0 yx1 yx2 yx3
  have HW2 := hide hW2
  clear hW2
  have HL : Hid (w.heap.size < W2.heap.size) := Ba4.out.lt
  go_wp2_with fail
  try simp only [← HW2.out]
  go_cut [9, 10] (fun vp ve wx => CutD W2 #[.int .i64 ca, .bool na, .string ⟨#[]⟩, .int .i64 0] 0 vp ve wx)
  case first =>
    have C0 : Hid (∀ X, Hid (Below W2.heap.size W2 X) → Calls Tryz.prog 24 #[.string ⟨#[49]⟩, .int .i64 p] X fun e w' => e = .returned (.agg #[.int .i64 0, .bool false, .string ⟨#[49]⟩, .int .i64 p]) ∧ Hid (Below X.heap.size X w') ∧ Hid (Below W2.heap.size W2 w') ∧ w'.cell? ⟨w.heap.size, 0, none⟩ = some (.int .i64 ca) ∧ w'.cell? ⟨w.heap.size, 1, none⟩ = some (.bool na) ∧ w'.cell? ⟨w.heap.size, 2, none⟩ = some (.string ⟨#[]⟩) ∧ w'.cell? ⟨w.heap.size, 3, none⟩ = some (.int .i64 0)) := by
      intro X bX
      refine (num_any _ _ X).mono ?_
      rintro e w' ⟨rfl, hb⟩
      have bb := bX.out.trans (hb.mono bX.out.size)
      have Baq := Ba4.out.below bb Ba4.out.lt
      exact ⟨rfl, hb, bb, Baq.cell 0, Baq.cell 1, Baq.cell 2, Baq.cell 3⟩
    have C1 : Hid (∀ X, Hid (Below W2.heap.size W2 X) → Calls Tryz.prog 16 #[.agg #[.int .i64 ca, .bool na, .string ⟨#[]⟩, .int .i64 0], dcV 0 false ⟨#[49]⟩ p, .int .i64 m] X fun e w' => e = .returned (.tuple #[.agg #[.int .i64 ca, .bool na, .string ⟨#[]⟩, .int .i64 0], .int .i64 0]) ∧ Hid (Below X.heap.size X w') ∧ Hid (Below W2.heap.size W2 w') ∧ w'.cell? ⟨w.heap.size, 0, none⟩ = some (.int .i64 ca) ∧ w'.cell? ⟨w.heap.size, 1, none⟩ = some (.bool na) ∧ w'.cell? ⟨w.heap.size, 2, none⟩ = some (.string ⟨#[]⟩) ∧ w'.cell? ⟨w.heap.size, 3, none⟩ = some (.int .i64 0)) := by
      intro X bX
      refine (H2.out X (HTW.out.below bX.out)).mono ?_
      rintro e w' ⟨rfl, hb⟩
      have bb := bX.out.trans (hb.mono bX.out.size)
      have Baq := Ba4.out.below bb Ba4.out.lt
      exact ⟨rfl, hb, bb, Baq.cell 0, Baq.cell 1, Baq.cell 2, Baq.cell 3⟩
    have b0 : Hid (Below W2.heap.size W2 W2.drew) := bdrewD W2
    have naW2 : ¬ w.heap.size = W2.heap.size := (by have := HL.out; omega)
    have maW2 : ¬ W2.heap.size = w.heap.size := (by have := HL.out; omega)
    have mk0 : True := trivial
    go_region_held3 (fun w' => w'.cell? ⟨w.heap.size, 0, none⟩ = some (.int .i64 ca) ∧ w'.cell? ⟨w.heap.size, 1, none⟩ = some (.bool na) ∧ w'.cell? ⟨w.heap.size, 2, none⟩ = some (.string ⟨#[]⟩) ∧ w'.cell? ⟨w.heap.size, 3, none⟩ = some (.int .i64 0)) (go_keep) (first
        | (clear mk0; go_at_call 24; refine (C0.out _ (bal b0 (Obj.cells #[Value.int .i64 0, Value.bool false, Value.string ⟨#[]⟩, Value.int .i64 0] 23))).mono ?_; rintro e u1 ⟨rfl, R1, b1, q0_0, q0_1, q0_2, q0_3⟩; have QN := (Blk.newAt W2.drew W2.heap.size rfl #[.int .i64 0, .bool false, .string ⟨#[]⟩, .int .i64 0] 23).below R1.out (Blk.newAt W2.drew W2.heap.size rfl #[.int .i64 0, .bool false, .string ⟨#[]⟩, .int .i64 0] 23).lt; have h0 : u1.cell? ⟨W2.heap.size, 0, none⟩ = some (.int .i64 0) := QN.cell 0; have h1 : u1.cell? ⟨W2.heap.size, 1, none⟩ = some (.bool false) := QN.cell 1; have h2 : u1.cell? ⟨W2.heap.size, 2, none⟩ = some (.string ⟨#[]⟩) := QN.cell 2; have h3 : u1.cell? ⟨W2.heap.size, 3, none⟩ = some (.int .i64 0) := QN.cell 3; have h4 := QN.free 0; have h5 := QN.free 1; have h6 := QN.free 2; have h7 := QN.free 3; have QH := hide QN; clear QN; have mk1L0 : True := trivial)
        | (clear mk0; go_at_call 24; refine (C0.out _ b0).mono ?_; rintro e u1 ⟨rfl, R1, b1, q0_0, q0_1, q0_2, q0_3⟩; have nau1 : ¬ w.heap.size = u1.heap.size := (by have := HL.out; have := b1.out.size; omega); have mau1 : ¬ u1.heap.size = w.heap.size := (by have := HL.out; have := b1.out.size; omega); have mk1 : True := trivial)
        | (clear mk1L0; go_at_call 16; refine (C1.out _ b1).mono ?_; rintro e u2 ⟨rfl, R2, b2, q1_0, q1_1, q1_2, q1_3⟩; clear h0 h1 h2 h3 h4 h5 h6 h7; have QN := QH.out.below R2.out QH.out.lt; have h0 : u2.cell? ⟨W2.heap.size, 0, none⟩ = some (.int .i64 0) := QN.cell 0; have h1 : u2.cell? ⟨W2.heap.size, 1, none⟩ = some (.bool false) := QN.cell 1; have h2 : u2.cell? ⟨W2.heap.size, 2, none⟩ = some (.string ⟨#[]⟩) := QN.cell 2; have h3 : u2.cell? ⟨W2.heap.size, 3, none⟩ = some (.int .i64 0) := QN.cell 3; have h4 := QN.free 0; have h5 := QN.free 1; have h6 := QN.free 2; have h7 := QN.free 3; have QH := hide QN; clear QN; have mk2L0 : True := trivial)
        | (clear mk1; go_at_call 16; refine (C1.out _ (bal b1 (Obj.cells #[Value.int .i64 0, Value.bool false, Value.string ⟨#[]⟩, Value.int .i64 0] 23))).mono ?_; rintro e u2 ⟨rfl, R2, b2, q1_0, q1_1, q1_2, q1_3⟩; have QN := (Blk.newAt u1 u1.heap.size rfl #[.int .i64 0, .bool false, .string ⟨#[]⟩, .int .i64 0] 23).below R2.out (Blk.newAt u1 u1.heap.size rfl #[.int .i64 0, .bool false, .string ⟨#[]⟩, .int .i64 0] 23).lt; have h0 : u2.cell? ⟨u1.heap.size, 0, none⟩ = some (.int .i64 0) := QN.cell 0; have h1 : u2.cell? ⟨u1.heap.size, 1, none⟩ = some (.bool false) := QN.cell 1; have h2 : u2.cell? ⟨u1.heap.size, 2, none⟩ = some (.string ⟨#[]⟩) := QN.cell 2; have h3 : u2.cell? ⟨u1.heap.size, 3, none⟩ = some (.int .i64 0) := QN.cell 3; have h4 := QN.free 0; have h5 := QN.free 1; have h6 := QN.free 2; have h7 := QN.free 3; have QH := hide QN; clear QN; have mk2L1 : True := trivial)
        | (clear mk1; go_at_call 16; refine (C1.out _ b1).mono ?_; rintro e u2 ⟨rfl, R2, b2, q1_0, q1_1, q1_2, q1_3⟩; have nau2 : ¬ w.heap.size = u2.heap.size := (by have := HL.out; have := b2.out.size; omega); have mau2 : ¬ u2.heap.size = w.heap.size := (by have := HL.out; have := b2.out.size; omega); have mk2 : True := trivial))
    all_goals (go_wp2_with fail; go_meet)
    all_goals (first | (clear mk2L0; exact cutd_old b2.out QH.out (Nat.le_refl _)) | (clear mk2L1; exact cutd_old b2.out QH.out b1.out.size) | (clear mk2; exact cutd_new b2.out))
  obtain ⟨⟨Hy, rfl, rfl, hq, hH, hbc⟩⟩ := hcut
  obtain ⟨w5, hwk⟩ : ∃ x, x = wc := ⟨_, rfl⟩
  subst hwk
  have Ba5 := hide (Ba4.out.below hbc Ba4.out.lt)
  have Bx5 := hide (Bx4.out.below hbc Bx4.out.lt)
  have By5 := hide hq
  have HB5 := hide (HB4.out.trans (hbc.mono HB4.out.size))
  clear HL hq hH hbc Ba4 Bx4 HB4 ya0 ya1 ya2 ya3 yx0 yx1 yx2 yx3
  have ya0 : w5.cell? ⟨w.heap.size, 0, none⟩ = some (.int .i64 ca) := Ba5.out.cell 0
  have ya1 : w5.cell? ⟨w.heap.size, 1, none⟩ = some (.bool na) := Ba5.out.cell 1
  have ya2 : w5.cell? ⟨w.heap.size, 2, none⟩ = some (.string ⟨#[]⟩) := Ba5.out.cell 2
  have ya3 : w5.cell? ⟨w.heap.size, 3, none⟩ = some (.int .i64 0) := Ba5.out.cell 3
  have yx0 : w5.cell? ⟨w3.heap.size, 0, none⟩ = some (.int .i64 ca) := Bx5.out.cell 0
  have yx1 : w5.cell? ⟨w3.heap.size, 1, none⟩ = some (.bool na) := Bx5.out.cell 1
  have yx2 : w5.cell? ⟨w3.heap.size, 2, none⟩ = some (.string ⟨#[]⟩) := Bx5.out.cell 2
  have yx3 : w5.cell? ⟨w3.heap.size, 3, none⟩ = some (.int .i64 0) := Bx5.out.cell 3
  have yy0 : w5.cell? ⟨Hy, 0, none⟩ = some (.int .i64 ca) := By5.out.cell 0
  have yy1 : w5.cell? ⟨Hy, 1, none⟩ = some (.bool na) := By5.out.cell 1
  have yy2 : w5.cell? ⟨Hy, 2, none⟩ = some (.string ⟨#[]⟩) := By5.out.cell 2
  have yy3 : w5.cell? ⟨Hy, 3, none⟩ = some (.int .i64 0) := By5.out.cell 3
  clear HTW HW2
  go_wp2_with fail
  refine (H3.out _).mono ?_
  rintro e w6 ⟨rfl, hb⟩
  have Ba6 := hide (Ba5.out.below hb Ba5.out.lt)
  have Bx6 := hide (Bx5.out.below hb Bx5.out.lt)
  have By6 := hide (By5.out.below hb By5.out.lt)
  have HB6 := hide (HB5.out.trans (hb.mono HB5.out.size))
  clear hb Ba5 Bx5 By5 HB5 ya0 ya1 ya2 ya3 yx0 yx1 yx2 yx3 yy0 yy1 yy2 yy3
  have ya0 : w6.cell? ⟨w.heap.size, 0, none⟩ = some (.int .i64 ca) := Ba6.out.cell 0
  have ya1 : w6.cell? ⟨w.heap.size, 1, none⟩ = some (.bool na) := Ba6.out.cell 1
  have ya2 : w6.cell? ⟨w.heap.size, 2, none⟩ = some (.string ⟨#[]⟩) := Ba6.out.cell 2
  have ya3 : w6.cell? ⟨w.heap.size, 3, none⟩ = some (.int .i64 0) := Ba6.out.cell 3
  have yx0 : w6.cell? ⟨w3.heap.size, 0, none⟩ = some (.int .i64 ca) := Bx6.out.cell 0
  have yx1 : w6.cell? ⟨w3.heap.size, 1, none⟩ = some (.bool na) := Bx6.out.cell 1
  have yx2 : w6.cell? ⟨w3.heap.size, 2, none⟩ = some (.string ⟨#[]⟩) := Bx6.out.cell 2
  have yx3 : w6.cell? ⟨w3.heap.size, 3, none⟩ = some (.int .i64 0) := Bx6.out.cell 3
  have yy0 : w6.cell? ⟨Hy, 0, none⟩ = some (.int .i64 ca) := By6.out.cell 0
  have yy1 : w6.cell? ⟨Hy, 1, none⟩ = some (.bool na) := By6.out.cell 1
  have yy2 : w6.cell? ⟨Hy, 2, none⟩ = some (.string ⟨#[]⟩) := By6.out.cell 2
  have yy3 : w6.cell? ⟨Hy, 3, none⟩ = some (.int .i64 0) := By6.out.cell 3
  go_wp2
  go_ret
  exact ⟨rfl, HB6.out⟩

end Go.Proofs.YtcclbcnmkaobpaaGreatDoor
