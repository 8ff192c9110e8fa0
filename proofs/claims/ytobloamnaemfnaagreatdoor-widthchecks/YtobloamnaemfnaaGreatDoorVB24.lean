/-
  What quipuref06's To does.
  What quipuref06's To does: the number rounded as rndN tells.
  What shortest's holds and pick do.
  What shortest's all and reachOf do.
  What shortest's fewest does.
  Plain mathematics: the eight calls whose answers the document fixes.
  What shortest's dec, Of64, Of32, Exact64 and Exact32 do.
  What quipulaw03's dec and awake do: the eight calls answer what the document fixes.
  What the reference's by does: the quotient by 10000, and the rest.
  What the reference's Text does: the number's decimal digits.
  The reference's calls over numbers, wherever their digits lie: quipuref01's and quipuref02's, and quipuref03's limb, Amount, Wide, Narrow, Bias.
  What quipuref03's Dec does: a number times a power of 10, as a Dec.
  What quipuref04's May does.
  What quipuref05's Place, Neg, Scale and rank do.
  What quipuref05's Num.Dec does: a whole number times a power of 10, as a Dec that may be or not.
  What quipuref05's told and Sum do.
  What quipuref06's told does.
  quipuref06's told, of any number that may be and isn't zero.
-/
import Derived.Test.YtobloamnaemfnaaGreatDoorVB2
import Derived.Test.YtobloamnaemfnaaGreatDoorVB20
import Derived.Test.YtobloamnaemfnaaGreatDoorVB10
import Derived.Test.YtobloamnaemfnaaGreatDoorVB7
import Derived.Deep.RegionHeld3
import Derived.Test.YtobloamnaemfnaaGreatDoorVB6
import Derived.Test.YtobloamnaemfnaaGreatDoorVB5
import Derived.Laws.BytesArg
import Derived.Test.YtobloamnaemfnaaGreatDoorVB17
import Derived.Test.YtobloamnaemfnaaGreatDoorVB9
namespace Go.Proofs.YtobloamnaemfnaaGreatDoor
open Go.RowKit

end Go.Proofs.YtobloamnaemfnaaGreatDoor

namespace Go.Proofs.YtobloamnaemfnaaGreatDoor
open Go.RowKit

end Go.Proofs.YtobloamnaemfnaaGreatDoor

namespace Go.Proofs.YtobloamnaemfnaaGreatDoor
open Go.RowKit

section
variable {r : Near} {clo : Bool} {number rest unit : Nat} (hc : r.clo = clo)
include hc
end

end Go.Proofs.YtobloamnaemfnaaGreatDoor

namespace Go.Proofs.YtobloamnaemfnaaGreatDoor
open Go.RowKit

end Go.Proofs.YtobloamnaemfnaaGreatDoor

namespace Go.Proofs.YtobloamnaemfnaaGreatDoor
open Go.RowKit

end Go.Proofs.YtobloamnaemfnaaGreatDoor

namespace Go.Proofs.YtobloamnaemfnaaGreatDoor

end Go.Proofs.YtobloamnaemfnaaGreatDoor

namespace Go.Proofs.YtobloamnaemfnaaGreatDoor
open Go.RowKit

end Go.Proofs.YtobloamnaemfnaaGreatDoor

namespace Go.Proofs.YtobloamnaemfnaaGreatDoor
open Go.RowKit

end Go.Proofs.YtobloamnaemfnaaGreatDoor

namespace Go.Proofs.YtobloamnaemfnaaGreatDoor
open Go.RowKit

end Go.Proofs.YtobloamnaemfnaaGreatDoor

namespace Go.Proofs.YtobloamnaemfnaaGreatDoor
open Go.RowKit

end Go.Proofs.YtobloamnaemfnaaGreatDoor

namespace Go.Proofs.YtobloamnaemfnaaGreatDoor
open Go.RowKit

end Go.Proofs.YtobloamnaemfnaaGreatDoor

namespace Go.Proofs.YtobloamnaemfnaaGreatDoor
open Go.RowKit

end Go.Proofs.YtobloamnaemfnaaGreatDoor

namespace Go.Proofs.YtobloamnaemfnaaGreatDoor
open Go.RowKit

set_option maxRecDepth 100000 in
set_option maxHeartbeats 1000000 in
theorem rmay_1_yes (neg : Bool) (w : World) : Calls Tryz.prog 25 #[dcV 1 neg ⟨#[]⟩ 0] w fun e w' => e = .returned (.bool true) ∧ Below w.heap.size w w' := by
  go_enter Tryz.func25, Tryz.ntmps25
  go_wp2
  go_ret
  exact ⟨rfl, (Below.refl _ _).alloc (Nat.le_refl _) _⟩

set_option maxRecDepth 100000 in
set_option maxHeartbeats 1000000 in
theorem rmay_1_dig (neg : Bool) (t : ByteArray) (ex : Int) (w : World) (h : t.size ≠ 0) : Calls Tryz.prog 25 #[dcV 1 neg t ex] w fun e w' => e = .returned (.bool false) ∧ Below w.heap.size w w' := by
  have e0 : ((t.size : Int) == 0) = false := by
    have : ¬ (t.size : Int) = 0 := by omega
    simpa using this
  go_enter Tryz.func25, Tryz.ntmps25
  go_wp2
  go_ret
  exact ⟨rfl, (Below.refl _ _).alloc (Nat.le_refl _) _⟩

set_option maxRecDepth 100000 in
set_option maxHeartbeats 1000000 in
theorem rmay_1_exp (neg : Bool) (ex : Int) (w : World) (h : ¬ ex = 0) : Calls Tryz.prog 25 #[dcV 1 neg ⟨#[]⟩ ex] w fun e w' => e = .returned (.bool false) ∧ Below w.heap.size w w' := by
  have e1 : (ex == 0) = false := by simpa using h
  go_enter Tryz.func25, Tryz.ntmps25
  go_wp2
  go_ret
  exact ⟨rfl, (Below.refl _ _).alloc (Nat.le_refl _) _⟩

set_option maxRecDepth 100000 in
set_option maxHeartbeats 1000000 in
theorem rmay_2_yes (w : World) : Calls Tryz.prog 25 #[dcV 2 false ⟨#[]⟩ 0] w fun e w' => e = .returned (.bool true) ∧ Below w.heap.size w w' := by
  go_enter Tryz.func25, Tryz.ntmps25
  go_wp2
  go_ret
  exact ⟨rfl, (Below.refl _ _).alloc (Nat.le_refl _) _⟩

set_option maxRecDepth 100000 in
set_option maxHeartbeats 1000000 in
theorem rmay_2_neg (t : ByteArray) (ex : Int) (w : World) : Calls Tryz.prog 25 #[dcV 2 true t ex] w fun e w' => e = .returned (.bool false) ∧ Below w.heap.size w w' := by
  go_enter Tryz.func25, Tryz.ntmps25
  go_wp2
  go_ret
  exact ⟨rfl, (Below.refl _ _).alloc (Nat.le_refl _) _⟩

set_option maxRecDepth 100000 in
set_option maxHeartbeats 1000000 in
theorem rmay_2_dig (t : ByteArray) (ex : Int) (w : World) (h : t.size ≠ 0) : Calls Tryz.prog 25 #[dcV 2 false t ex] w fun e w' => e = .returned (.bool false) ∧ Below w.heap.size w w' := by
  have e0 : ((t.size : Int) == 0) = false := by
    have : ¬ (t.size : Int) = 0 := by omega
    simpa using this
  go_enter Tryz.func25, Tryz.ntmps25
  go_wp2
  go_ret
  exact ⟨rfl, (Below.refl _ _).alloc (Nat.le_refl _) _⟩

set_option maxRecDepth 100000 in
set_option maxHeartbeats 1000000 in
theorem rmay_2_exp (ex : Int) (w : World) (h : ¬ ex = 0) : Calls Tryz.prog 25 #[dcV 2 false ⟨#[]⟩ ex] w fun e w' => e = .returned (.bool false) ∧ Below w.heap.size w w' := by
  have e1 : (ex == 0) = false := by simpa using h
  go_enter Tryz.func25, Tryz.ntmps25
  go_wp2
  go_ret
  exact ⟨rfl, (Below.refl _ _).alloc (Nat.le_refl _) _⟩

set_option maxRecDepth 100000 in
set_option maxHeartbeats 1000000 in
theorem rmay_9 (c : Int) (neg : Bool) (t : ByteArray) (ex : Int) (w : World) (h0 : ¬ c = 0) (h1 : ¬ c = 1) (h2 : ¬ c = 2) : Calls Tryz.prog 25 #[dcV c neg t ex] w fun e w' => e = .returned (.bool false) ∧ Below w.heap.size w w' := by
  have c0 : (c != 0) = true := by simpa using h0
  have c1 : (c == 1) = false := by simpa using h1
  have c2 : (c == 2) = false := by simpa using h2
  go_enter Tryz.func25, Tryz.ntmps25
  go_wp2
  go_ret
  exact ⟨rfl, (Below.refl _ _).alloc (Nat.le_refl _) _⟩

set_option maxRecDepth 100000 in
set_option maxHeartbeats 1000000 in
theorem rmay_0_nil (neg : Bool) (w : World) : Calls Tryz.prog 25 #[dcV 0 neg ⟨#[]⟩ 0] w fun e w' => e = .returned (.bool true) ∧ Below w.heap.size w w' := by
  go_enter Tryz.func25, Tryz.ntmps25
  go_wp2
  go_ret
  exact ⟨rfl, (Below.refl _ _).alloc (Nat.le_refl _) _⟩

set_option maxRecDepth 100000 in
set_option maxHeartbeats 1000000 in
theorem rmay_0_nilexp (neg : Bool) (ex : Int) (w : World) (h : ¬ ex = 0) : Calls Tryz.prog 25 #[dcV 0 neg ⟨#[]⟩ ex] w fun e w' => e = .returned (.bool false) ∧ Below w.heap.size w w' := by
  have e1 : (ex == 0) = false := by simpa using h
  go_enter Tryz.func25, Tryz.ntmps25
  go_wp2
  go_ret
  exact ⟨rfl, (Below.refl _ _).alloc (Nat.le_refl _) _⟩

set_option maxRecDepth 100000 in
set_option maxHeartbeats 1000000 in
theorem rmay_0_long (neg : Bool) (t : ByteArray) (ex : Int) (w : World) (h : 1000 < t.size) : Calls Tryz.prog 25 #[dcV 0 neg t ex] w fun e w' => e = .returned (.bool false) ∧ Below w.heap.size w w' := by
  have e0 : ((t.size : Int) == 0) = false := by
    have : ¬ (t.size : Int) = 0 := by omega
    simpa using this
  have e1 : decide ((1000 : Int) < (t.size : Int)) = true := decide_eq_true (by omega)
  go_enter Tryz.func25, Tryz.ntmps25
  go_wp2
  go_ret
  exact ⟨rfl, (Below.refl _ _).alloc (Nat.le_refl _) _⟩

set_option maxRecDepth 100000 in
set_option maxHeartbeats 1000000 in
theorem rmay_0_elow (neg : Bool) (t : ByteArray) (ex : Int) (w : World) (j : Nat) (hj : t.size = j + 1) (h : j + 1 ≤ 1000) (he : ex < -4000) : Calls Tryz.prog 25 #[dcV 0 neg t ex] w fun e w' => e = .returned (.bool false) ∧ Below w.heap.size w w' := by
  have e0 : ((j : Int) + 1 == 0) = false := by
    have : ¬ (j : Int) + 1 = 0 := by omega
    simpa using this
  have e1 : decide ((1000 : Int) < (j : Int) + 1) = false := decide_eq_false (by omega)
  have e2 : decide (ex < -4000) = true := decide_eq_true (by omega)
  go_enter Tryz.func25, Tryz.ntmps25
  go_wp2
  go_ret
  exact ⟨rfl, (Below.refl _ _).alloc (Nat.le_refl _) _⟩

set_option maxRecDepth 100000 in
set_option maxHeartbeats 1000000 in
theorem rmay_0_ehigh (neg : Bool) (t : ByteArray) (ex : Int) (w : World) (j : Nat) (hj : t.size = j + 1) (h : j + 1 ≤ 1000) (he : 4000 < ex) : Calls Tryz.prog 25 #[dcV 0 neg t ex] w fun e w' => e = .returned (.bool false) ∧ Below w.heap.size w w' := by
  have e0 : ((j : Int) + 1 == 0) = false := by
    have : ¬ (j : Int) + 1 = 0 := by omega
    simpa using this
  have e1 : decide ((1000 : Int) < (j : Int) + 1) = false := decide_eq_false (by omega)
  have e2 : decide (ex < -4000) = false := decide_eq_false (by omega)
  have e3 : decide ((4000 : Int) < ex) = true := decide_eq_true (by omega)
  go_enter Tryz.func25, Tryz.ntmps25
  go_wp2
  go_ret
  exact ⟨rfl, (Below.refl _ _).alloc (Nat.le_refl _) _⟩

set_option maxRecDepth 100000 in
set_option maxHeartbeats 1000000 in
theorem rmay_0_low (neg : Bool) (t : ByteArray) (ex : Int) (w : World) (j : Nat) (hj : t.size = j + 1) (h : j + 1 ≤ 1000) (h2 : -4000 ≤ ex) (h3 : ex ≤ 4000) (he : (j : Int) + 1 + ex < -2000) : Calls Tryz.prog 25 #[dcV 0 neg t ex] w fun e w' => e = .returned (.bool false) ∧ Below w.heap.size w w' := by
  have e0 : ((j : Int) + 1 == 0) = false := by
    have : ¬ (j : Int) + 1 = 0 := by omega
    simpa using this
  have e1 : decide ((1000 : Int) < (j : Int) + 1) = false := decide_eq_false (by omega)
  have e2 : decide (ex < -4000) = false := decide_eq_false (by omega)
  have e3 : decide ((4000 : Int) < ex) = false := decide_eq_false (by omega)
  have e4 : decide ((j : Int) + 1 + ex < -2000) = true := decide_eq_true (by omega)
  go_enter Tryz.func25, Tryz.ntmps25
  go_wp2
  go_ret
  exact ⟨rfl, (Below.refl _ _).alloc (Nat.le_refl _) _⟩

set_option maxRecDepth 100000 in
set_option maxHeartbeats 1000000 in
theorem rmay_0_high (neg : Bool) (t : ByteArray) (ex : Int) (w : World) (j : Nat) (hj : t.size = j + 1) (h : j + 1 ≤ 1000) (h2 : -4000 ≤ ex) (h3 : ex ≤ 4000) (he : 2000 < (j : Int) + 1 + ex) : Calls Tryz.prog 25 #[dcV 0 neg t ex] w fun e w' => e = .returned (.bool false) ∧ Below w.heap.size w w' := by
  have e0 : ((j : Int) + 1 == 0) = false := by
    have : ¬ (j : Int) + 1 = 0 := by omega
    simpa using this
  have e1 : decide ((1000 : Int) < (j : Int) + 1) = false := decide_eq_false (by omega)
  have e2 : decide (ex < -4000) = false := decide_eq_false (by omega)
  have e3 : decide ((4000 : Int) < ex) = false := decide_eq_false (by omega)
  have e4 : decide ((j : Int) + 1 + ex < -2000) = false := decide_eq_false (by omega)
  have e5 : decide ((2000 : Int) < (j : Int) + 1 + ex) = true := decide_eq_true (by omega)
  go_enter Tryz.func25, Tryz.ntmps25
  go_wp2
  go_ret
  exact ⟨rfl, (Below.refl _ _).alloc (Nat.le_refl _) _⟩

set_option maxRecDepth 100000 in
set_option maxHeartbeats 1000000 in
theorem rmay_0_bad (neg : Bool) (t : ByteArray) (ex : Int) (w : World) (j : Nat) (hj : t.size = j + 1) (h : j + 1 ≤ 1000) (h2 : -4000 ≤ ex) (h3 : ex ≤ 4000) (h4 : -2000 ≤ (j : Int) + 1 + ex) (h5 : (j : Int) + 1 + ex ≤ 2000) (b : Nat) (hb : b < j + 1) (hd : ¬ (48 ≤ byt (bys t) b ∧ byt (bys t) b ≤ 57)) : Calls Tryz.prog 25 #[dcV 0 neg t ex] w fun e w' => e = .returned (.bool false) ∧ Below w.heap.size w w' := by
  have e0 : ((j : Int) + 1 == 0) = false := by
    have : ¬ (j : Int) + 1 = 0 := by omega
    simpa using this
  have e1 : decide ((1000 : Int) < (j : Int) + 1) = false := decide_eq_false (by omega)
  have e2 : decide (ex < -4000) = false := decide_eq_false (by omega)
  have e3 : decide ((4000 : Int) < ex) = false := decide_eq_false (by omega)
  have e4 : decide ((j : Int) + 1 + ex < -2000) = false := decide_eq_false (by omega)
  have e5 : decide ((2000 : Int) < (j : Int) + 1 + ex) = false := decide_eq_false (by omega)
  have HD := hide hd
  clear hd
  have HB : Hid (Below w.heap.size w (w.alloc (.cells #[.int .i64 0, .bool neg, .string t, .int .i64 ex] 23))) := (Below.refl _ _).alloc (Nat.le_refl _) _
  have blk := Blk.new w #[.int .i64 0, .bool neg, .string t, .int .i64 ex] 23
  obtain ⟨W, hW⟩ : ∃ W, W = w.alloc (.cells #[.int .i64 0, .bool neg, .string t, .int .i64 ex] 23) := ⟨_, rfl⟩
  rw [← hW] at blk HB
  have k2 : W.cell? ⟨w.heap.size, 2, none⟩ = some (.string t) := blk.cell 2
  have k3 : W.cell? ⟨w.heap.size, 3, none⟩ = some (.int .i64 ex) := blk.cell 3
  have HW := hide hW
  clear blk hW
  go_enter Tryz.func25, Tryz.ntmps25
  go_wp2
  simp only [← HW.out]
  go_loopw [4] (fun i wr => ∃ k : Nat, k ≤ b ∧ i = .int .i64 (k : Int) ∧ wr = W) (fun i _ => j + 1 - (intOf i).toNat)
  case atStart => exact ⟨0, Nat.zero_le _, rfl, rfl⟩
  case round =>
    obtain ⟨k, hk, rfl, rfl⟩ := hrel
    have hlt' : (k : Int) < (j : Int) + 1 := by omega
    have hks : k < t.size := by omega
    have hks' : (k : Int) < (t.size : Int) := by omega
    have hg : ∀ h : k < t.size, t[k].toNat = byt (bys t) k := fun h => byt_get t k h
    obtain ⟨v, hv⟩ : ∃ v, v = byt (bys t) k := ⟨_, rfl⟩
    rw [← hv] at hg
    have HV := hide hv
    clear hv
    by_cases g1 : v < 48
    · have g1' : (v : Int) < 48 := by omega
      go_wp2
      go_ret
      exact ⟨rfl, HB.out⟩
    · have g1' : ¬ (v : Int) < 48 := by omega
      by_cases g2 : 57 < v
      · have g2' : (57 : Int) < (v : Int) := by omega
        go_wp2
        go_ret
        exact ⟨rfl, HB.out⟩
      · have g2' : ¬ (57 : Int) < (v : Int) := by omega
        have hne : k ≠ b := fun e => HD.out (by rw [← e, ← HV.out]; omega)
        go_wp2
        exact ⟨⟨k + 1, by omega, by go_num, trivial⟩, by simp [intOf]; omega⟩

set_option maxRecDepth 100000 in
set_option maxHeartbeats 1000000 in
theorem rmay_0_yes (neg : Bool) (t : ByteArray) (ex : Int) (w : World) (j : Nat) (hj : t.size = j + 1) (h : j + 1 ≤ 1000) (h2 : -4000 ≤ ex) (h3 : ex ≤ 4000) (h4 : -2000 ≤ (j : Int) + 1 + ex) (h5 : (j : Int) + 1 + ex ≤ 2000) (hf : byt (bys t) 0 ≠ 48) (hla : byt (bys t) j ≠ 48) (hd : DigB (bys t)) : Calls Tryz.prog 25 #[dcV 0 neg t ex] w fun e w' => e = .returned (.bool true) ∧ Below w.heap.size w w' := by
  have e0 : ((j : Int) + 1 == 0) = false := by
    have : ¬ (j : Int) + 1 = 0 := by omega
    simpa using this
  have e1 : decide ((1000 : Int) < (j : Int) + 1) = false := decide_eq_false (by omega)
  have e2 : decide (ex < -4000) = false := decide_eq_false (by omega)
  have e3 : decide ((4000 : Int) < ex) = false := decide_eq_false (by omega)
  have e4 : decide ((j : Int) + 1 + ex < -2000) = false := decide_eq_false (by omega)
  have e5 : decide ((2000 : Int) < (j : Int) + 1 + ex) = false := decide_eq_false (by omega)
  have HD := hide hd
  have hg0 : ∀ h : 0 < t.size, t[0].toNat = byt (bys t) 0 := fun h => byt_get t 0 h
  have hgz : ∀ h : j < t.size, t[j].toNat = byt (bys t) j := fun h => byt_get t j h
  have hp0 : 0 < t.size := by omega
  have hp1 : j < t.size := by omega
  have hp1' : (j : Int) < (t.size : Int) := by omega
  obtain ⟨a, ha⟩ : ∃ b, b = byt (bys t) 0 := ⟨_, rfl⟩
  obtain ⟨z, hz⟩ : ∃ b, b = byt (bys t) j := ⟨_, rfl⟩
  rw [← ha] at hg0 hf
  rw [← hz] at hgz hla
  have ca : ((a : Int) != 48) = true := by
    have : ¬ (a : Int) = 48 := by omega
    simpa using this
  have cz : ((z : Int) != 48) = true := by
    have : ¬ (z : Int) = 48 := by omega
    simpa using this
  clear hd ha hz hf hla
  have HB : Hid (Below w.heap.size w (w.alloc (.cells #[.int .i64 0, .bool neg, .string t, .int .i64 ex] 23))) := (Below.refl _ _).alloc (Nat.le_refl _) _
  have blk := Blk.new w #[.int .i64 0, .bool neg, .string t, .int .i64 ex] 23
  obtain ⟨W, hW⟩ : ∃ W, W = w.alloc (.cells #[.int .i64 0, .bool neg, .string t, .int .i64 ex] 23) := ⟨_, rfl⟩
  rw [← hW] at blk HB
  have k2 : W.cell? ⟨w.heap.size, 2, none⟩ = some (.string t) := blk.cell 2
  have k3 : W.cell? ⟨w.heap.size, 3, none⟩ = some (.int .i64 ex) := blk.cell 3
  have HW := hide hW
  clear blk hW
  go_enter Tryz.func25, Tryz.ntmps25
  go_wp2
  simp only [← HW.out]
  go_loopw [4] (fun i wr => ∃ k : Nat, k ≤ j + 1 ∧ i = .int .i64 (k : Int) ∧ wr = W) (fun i _ => j + 1 - (intOf i).toNat)
  case atStart => exact ⟨0, Nat.zero_le _, rfl, rfl⟩
  case round =>
    obtain ⟨k, hk, rfl, rfl⟩ := hrel
    by_cases hlt : k < j + 1
    · have hlt' : (k : Int) < (j : Int) + 1 := by omega
      have hks : k < t.size := by omega
      have hks' : (k : Int) < (t.size : Int) := by omega
      have hg : ∀ h : k < t.size, t[k].toNat = byt (bys t) k := fun h => byt_get t k h
      have hb := HD.out k (by rw [bys_len, hj]; exact hlt)
      obtain ⟨v, hv⟩ : ∃ v, v = byt (bys t) k := ⟨_, rfl⟩
      rw [← hv] at hg hb
      have g1' : ¬ (v : Int) < 48 := by omega
      have g2' : ¬ (57 : Int) < (v : Int) := by omega
      clear hv hg0 hgz ca cz
      go_wp2
      exact ⟨⟨k + 1, by omega, by go_num, trivial⟩, by simp [intOf]; omega⟩
    · have hlt' : ¬ (k : Int) < (j : Int) + 1 := by omega
      go_wp2
      go_ret
      exact ⟨rfl, HB.out⟩

set_option maxRecDepth 100000 in
set_option maxHeartbeats 1000000 in
theorem rmay_0_last (neg : Bool) (t : ByteArray) (ex : Int) (w : World) (j : Nat) (hj : t.size = j + 1) (h : j + 1 ≤ 1000) (h2 : -4000 ≤ ex) (h3 : ex ≤ 4000) (h4 : -2000 ≤ (j : Int) + 1 + ex) (h5 : (j : Int) + 1 + ex ≤ 2000) (hf : byt (bys t) 0 ≠ 48) (hla : byt (bys t) j = 48) (hd : DigB (bys t)) : Calls Tryz.prog 25 #[dcV 0 neg t ex] w fun e w' => e = .returned (.bool false) ∧ Below w.heap.size w w' := by
  have e0 : ((j : Int) + 1 == 0) = false := by
    have : ¬ (j : Int) + 1 = 0 := by omega
    simpa using this
  have e1 : decide ((1000 : Int) < (j : Int) + 1) = false := decide_eq_false (by omega)
  have e2 : decide (ex < -4000) = false := decide_eq_false (by omega)
  have e3 : decide ((4000 : Int) < ex) = false := decide_eq_false (by omega)
  have e4 : decide ((j : Int) + 1 + ex < -2000) = false := decide_eq_false (by omega)
  have e5 : decide ((2000 : Int) < (j : Int) + 1 + ex) = false := decide_eq_false (by omega)
  have HD := hide hd
  have hg0 : ∀ h : 0 < t.size, t[0].toNat = byt (bys t) 0 := fun h => byt_get t 0 h
  have hgz : ∀ h : j < t.size, t[j].toNat = byt (bys t) j := fun h => byt_get t j h
  have hp0 : 0 < t.size := by omega
  have hp1 : j < t.size := by omega
  have hp1' : (j : Int) < (t.size : Int) := by omega
  obtain ⟨a, ha⟩ : ∃ b, b = byt (bys t) 0 := ⟨_, rfl⟩
  obtain ⟨z, hz⟩ : ∃ b, b = byt (bys t) j := ⟨_, rfl⟩
  rw [← ha] at hg0 hf
  rw [← hz] at hgz hla
  have ca : ((a : Int) != 48) = true := by
    have : ¬ (a : Int) = 48 := by omega
    simpa using this
  have cz : ((z : Int) != 48) = false := by
    have : (z : Int) = 48 := by omega
    rw [this]; rfl
  clear hd ha hz hf hla
  have HB : Hid (Below w.heap.size w (w.alloc (.cells #[.int .i64 0, .bool neg, .string t, .int .i64 ex] 23))) := (Below.refl _ _).alloc (Nat.le_refl _) _
  have blk := Blk.new w #[.int .i64 0, .bool neg, .string t, .int .i64 ex] 23
  obtain ⟨W, hW⟩ : ∃ W, W = w.alloc (.cells #[.int .i64 0, .bool neg, .string t, .int .i64 ex] 23) := ⟨_, rfl⟩
  rw [← hW] at blk HB
  have k2 : W.cell? ⟨w.heap.size, 2, none⟩ = some (.string t) := blk.cell 2
  have k3 : W.cell? ⟨w.heap.size, 3, none⟩ = some (.int .i64 ex) := blk.cell 3
  have HW := hide hW
  clear blk hW
  go_enter Tryz.func25, Tryz.ntmps25
  go_wp2
  simp only [← HW.out]
  go_loopw [4] (fun i wr => ∃ k : Nat, k ≤ j + 1 ∧ i = .int .i64 (k : Int) ∧ wr = W) (fun i _ => j + 1 - (intOf i).toNat)
  case atStart => exact ⟨0, Nat.zero_le _, rfl, rfl⟩
  case round =>
    obtain ⟨k, hk, rfl, rfl⟩ := hrel
    by_cases hlt : k < j + 1
    · have hlt' : (k : Int) < (j : Int) + 1 := by omega
      have hks : k < t.size := by omega
      have hks' : (k : Int) < (t.size : Int) := by omega
      have hg : ∀ h : k < t.size, t[k].toNat = byt (bys t) k := fun h => byt_get t k h
      have hb := HD.out k (by rw [bys_len, hj]; exact hlt)
      obtain ⟨v, hv⟩ : ∃ v, v = byt (bys t) k := ⟨_, rfl⟩
      rw [← hv] at hg hb
      have g1' : ¬ (v : Int) < 48 := by omega
      have g2' : ¬ (57 : Int) < (v : Int) := by omega
      clear hv hg0 hgz ca cz
      go_wp2
      exact ⟨⟨k + 1, by omega, by go_num, trivial⟩, by simp [intOf]; omega⟩
    · have hlt' : ¬ (k : Int) < (j : Int) + 1 := by omega
      go_wp2
      go_ret
      exact ⟨rfl, HB.out⟩

set_option maxRecDepth 100000 in
set_option maxHeartbeats 1000000 in
theorem rmay_0_first (neg : Bool) (t : ByteArray) (ex : Int) (w : World) (j : Nat) (hj : t.size = j + 1) (h : j + 1 ≤ 1000) (h2 : -4000 ≤ ex) (h3 : ex ≤ 4000) (h4 : -2000 ≤ (j : Int) + 1 + ex) (h5 : (j : Int) + 1 + ex ≤ 2000) (hf : byt (bys t) 0 = 48) (hd : DigB (bys t)) : Calls Tryz.prog 25 #[dcV 0 neg t ex] w fun e w' => e = .returned (.bool false) ∧ Below w.heap.size w w' := by
  have e0 : ((j : Int) + 1 == 0) = false := by
    have : ¬ (j : Int) + 1 = 0 := by omega
    simpa using this
  have e1 : decide ((1000 : Int) < (j : Int) + 1) = false := decide_eq_false (by omega)
  have e2 : decide (ex < -4000) = false := decide_eq_false (by omega)
  have e3 : decide ((4000 : Int) < ex) = false := decide_eq_false (by omega)
  have e4 : decide ((j : Int) + 1 + ex < -2000) = false := decide_eq_false (by omega)
  have e5 : decide ((2000 : Int) < (j : Int) + 1 + ex) = false := decide_eq_false (by omega)
  have HD := hide hd
  have hg0 : ∀ h : 0 < t.size, t[0].toNat = byt (bys t) 0 := fun h => byt_get t 0 h
  have hgz : ∀ h : j < t.size, t[j].toNat = byt (bys t) j := fun h => byt_get t j h
  have hp0 : 0 < t.size := by omega
  have hp1 : j < t.size := by omega
  have hp1' : (j : Int) < (t.size : Int) := by omega
  obtain ⟨a, ha⟩ : ∃ b, b = byt (bys t) 0 := ⟨_, rfl⟩
  obtain ⟨z, hz⟩ : ∃ b, b = byt (bys t) j := ⟨_, rfl⟩
  rw [← ha] at hg0 hf
  rw [← hz] at hgz
  have ca : ((a : Int) != 48) = false := by
    have : (a : Int) = 48 := by omega
    rw [this]; rfl
  have cz : True := trivial
  clear hd ha hz hf
  have HB : Hid (Below w.heap.size w (w.alloc (.cells #[.int .i64 0, .bool neg, .string t, .int .i64 ex] 23))) := (Below.refl _ _).alloc (Nat.le_refl _) _
  have blk := Blk.new w #[.int .i64 0, .bool neg, .string t, .int .i64 ex] 23
  obtain ⟨W, hW⟩ : ∃ W, W = w.alloc (.cells #[.int .i64 0, .bool neg, .string t, .int .i64 ex] 23) := ⟨_, rfl⟩
  rw [← hW] at blk HB
  have k2 : W.cell? ⟨w.heap.size, 2, none⟩ = some (.string t) := blk.cell 2
  have k3 : W.cell? ⟨w.heap.size, 3, none⟩ = some (.int .i64 ex) := blk.cell 3
  have HW := hide hW
  clear blk hW
  go_enter Tryz.func25, Tryz.ntmps25
  go_wp2
  simp only [← HW.out]
  go_loopw [4] (fun i wr => ∃ k : Nat, k ≤ j + 1 ∧ i = .int .i64 (k : Int) ∧ wr = W) (fun i _ => j + 1 - (intOf i).toNat)
  case atStart => exact ⟨0, Nat.zero_le _, rfl, rfl⟩
  case round =>
    obtain ⟨k, hk, rfl, rfl⟩ := hrel
    by_cases hlt : k < j + 1
    · have hlt' : (k : Int) < (j : Int) + 1 := by omega
      have hks : k < t.size := by omega
      have hks' : (k : Int) < (t.size : Int) := by omega
      have hg : ∀ h : k < t.size, t[k].toNat = byt (bys t) k := fun h => byt_get t k h
      have hb := HD.out k (by rw [bys_len, hj]; exact hlt)
      obtain ⟨v, hv⟩ : ∃ v, v = byt (bys t) k := ⟨_, rfl⟩
      rw [← hv] at hg hb
      have g1' : ¬ (v : Int) < 48 := by omega
      have g2' : ¬ (57 : Int) < (v : Int) := by omega
      clear hv hg0 hgz ca cz
      go_wp2
      exact ⟨⟨k + 1, by omega, by go_num, trivial⟩, by simp [intOf]; omega⟩
    · have hlt' : ¬ (k : Int) < (j : Int) + 1 := by omega
      go_wp2
      go_ret
      exact ⟨rfl, HB.out⟩

theorem rmay_yes (c : Int) (neg : Bool) (t : ByteArray) (ex : Int) (w : World) (h : MayD c neg (bys t) ex) : Calls Tryz.prog 25 #[dcV c neg t ex] w fun e w' => e = .returned (.bool true) ∧ Below w.heap.size w w' := by
  have h' := h
  rcases h with ⟨rfl, _⟩ | ⟨rfl, h1, rfl⟩ | ⟨rfl, rfl, h1, rfl⟩
  · rcases (mayD_0 neg t ex).1 h' with h1 | h1
    · obtain ⟨h1, rfl⟩ := h1
      rw [size_nil h1]; exact rmay_0_nil neg w
    · obtain ⟨h0, h1, h2, h3, h4, h5, h6⟩ := h1
      rw [bys_len] at h1 h2 h3 h5
      have hn0 : t.size ≠ 0 := fun e => h0 (bys_nil.2 e)
      obtain ⟨j, hj⟩ : ∃ j, t.size = j + 1 := ⟨t.size - 1, by omega⟩
      rw [show t.size - 1 = j by omega] at h5
      exact rmay_0_yes neg t ex w j hj (by omega) (by omega) (by omega) (by omega) (by omega) h4 h5 h6
  · rw [size_nil (bys_nil.1 h1)]; exact rmay_1_yes neg w
  · rw [size_nil (bys_nil.1 h1)]; exact rmay_2_yes w

theorem rmay_no (c : Int) (neg : Bool) (t : ByteArray) (ex : Int) (w : World) (h : ¬ MayD c neg (bys t) ex) : Calls Tryz.prog 25 #[dcV c neg t ex] w fun e w' => e = .returned (.bool false) ∧ Below w.heap.size w w' := by
  by_cases h0 : c = 0
  · subst h0
    rw [mayD_0] at h
    by_cases hz : t.size = 0
    · rw [size_nil hz]; exact rmay_0_nilexp neg ex w (fun e => h (.inl ⟨hz, e⟩))
    · obtain ⟨j, hj⟩ : ∃ j, t.size = j + 1 := ⟨t.size - 1, by omega⟩
      rcases Nat.lt_or_ge 1000 t.size with h1 | h1
      · exact rmay_0_long neg t ex w h1
      · by_cases h2 : ex < -4000
        · exact rmay_0_elow neg t ex w j hj (by omega) h2
        · by_cases h3 : 4000 < ex
          · exact rmay_0_ehigh neg t ex w j hj (by omega) h3
          · by_cases h4 : (j : Int) + 1 + ex < -2000
            · exact rmay_0_low neg t ex w j hj (by omega) (by omega) (by omega) h4
            · by_cases h5 : 2000 < (j : Int) + 1 + ex
              · exact rmay_0_high neg t ex w j hj (by omega) (by omega) (by omega) h5
              · by_cases hd : DigB (bys t)
                · by_cases h6 : byt (bys t) 0 = 48
                  · exact rmay_0_first neg t ex w j hj (by omega) (by omega) (by omega) (by omega) (by omega) h6 hd
                  · by_cases h7 : byt (bys t) j = 48
                    · exact rmay_0_last neg t ex w j hj (by omega) (by omega) (by omega) (by omega) (by omega) h6 h7 hd
                    · exfalso
                      apply h
                      refine .inr ?_
                      unfold DigD
                      rw [bys_len, hj]
                      exact ⟨fun e => hz (bys_nil.1 e), by omega, by omega, by omega, h6, by rw [Nat.add_sub_cancel]; exact h7, hd⟩
                · obtain ⟨k, hk⟩ := Classical.not_forall.1 hd
                  obtain ⟨hk1, hk2⟩ := Classical.not_imp.1 hk
                  rw [bys_len, hj] at hk1
                  exact rmay_0_bad neg t ex w j hj (by omega) (by omega) (by omega) (by omega) (by omega) k hk1 hk2
  · by_cases h1 : c = 1
    · subst h1
      by_cases hz : t.size = 0
      · rw [size_nil hz]
        exact rmay_1_exp neg ex w (fun e => h (.inr (.inl ⟨rfl, bys_nil.2 hz, e⟩)))
      · exact rmay_1_dig neg t ex w hz
    · by_cases h2 : c = 2
      · subst h2
        cases neg with
        | true => exact rmay_2_neg t ex w
        | false =>
          by_cases hz : t.size = 0
          · rw [size_nil hz]
            exact rmay_2_exp ex w (fun e => h (.inr (.inr ⟨rfl, rfl, bys_nil.2 hz, e⟩)))
          · exact rmay_2_dig t ex w hz
      · exact rmay_9 c neg t ex w h0 h1 h2

end Go.Proofs.YtobloamnaemfnaaGreatDoor

namespace Go.Proofs.YtobloamnaemfnaaGreatDoor
open Go.RowKit

end Go.Proofs.YtobloamnaemfnaaGreatDoor

namespace Go.Proofs.YtobloamnaemfnaaGreatDoor
open Go.RowKit

end Go.Proofs.YtobloamnaemfnaaGreatDoor

namespace Go.Proofs.YtobloamnaemfnaaGreatDoor
open Go.RowKit

end Go.Proofs.YtobloamnaemfnaaGreatDoor

namespace Go.Proofs.YtobloamnaemfnaaGreatDoor
open Go.RowKit

end Go.Proofs.YtobloamnaemfnaaGreatDoor

namespace Go.Proofs.YtobloamnaemfnaaGreatDoor
open Go.RowKit

end Go.Proofs.YtobloamnaemfnaaGreatDoor
