/-
  What width's small tests do.
  What operand's noughts, moved, count, number, areDigits, isCount and isNumber do.
  What width's mayStep and fieldsOf.. do.
-/
import Derived.Test.YtijccekejfcheaaGreatDoorRB11
import Derived.Test.YtijccekejfcheaaGreatDoorRB5
import Derived.Laws.EntriesVeiled
import Derived.Test.YtijccekejfcheaaGreatDoorRB8
import Derived.Laws.RangeAny
import Derived.Deep.RegionHeld3
import Derived.Test.YtijccekejfcheaaGreatDoorRB10
namespace Go.Proofs.YtijccekejfcheaaGreatDoor
open Go.RowKit

end Go.Proofs.YtijccekejfcheaaGreatDoor

namespace Go.Proofs.YtijccekejfcheaaGreatDoor
open Go.RowKit

theorem ne_nought {t : ByteArray} (h : bys t ≠ [48]) : (t.toList == [48]) = false := by
  rw [ByteArray.toList_eq]
  exact beq_eq_false_iff_ne.2 h

theorem iter_below (w : World) (s : ByteArray) (k : Nat) : Below w.heap.size w (w.iter s k) := (Below.refl _ _).alloc (Nat.le_refl _) _

theorem onoughts_any (n : Nat) (w : World) (h : n ≤ 100000) : Calls Tryz.prog 104 #[.int .i64 (n : Int)] w fun e w' => e = .returned (.string ⟨(List.replicate n 48).toArray⟩) ∧ Below w.heap.size w w' := by
  have RP := hide (fun W => repeat_any n W h)
  obtain ⟨N, hN⟩ : ∃ N : ByteArray, N = ⟨(List.replicate n (48 : UInt8)).toArray⟩ := ⟨_, rfl⟩
  rw [← hN] at RP ⊢
  clear hN h
  go_enter Tryz.func104, Tryz.ntmps104
  go_wp2_with fail
  refine (RP.out _).mono ?_
  rintro e w1 ⟨rfl, hb⟩
  have HB := hide hb
  clear hb
  go_wp2
  go_ret
  exact ⟨rfl, HB.out⟩

theorem min_run (a b n : Nat) (hn : n = min a b) : ∀ (w : World) (ts : Array TypeId) (t : TypeId), (Builtin.min_ ts t #[.int .i64 (a : Int), .int .i64 (b : Int)]).run Tryz.prog w = .ok (.int .i64 (n : Int)) w := by
  intro w ts t
  rw [run_min_int2, hn]
  congr 2
  split <;> omega

set_option maxHeartbeats 1000000 in
theorem areDig_t (s : ByteArray) (w : World) (hd : DigB (bys s)) : Calls Tryz.prog 153 #[.string s] w fun e w' => e = .returned (.bool true) ∧ Below w.heap.size w w' := by
  have HD : Hid (∀ k, k < s.size → (48 ≤ byt (bys s) k ∧ byt (bys s) k ≤ 57) ∧ ∀ h : k < s.size, s[k].toNat = byt (bys s) k) := fun k hk => ⟨hd k (by first | exact hk | (rw [bys_len]; omega)), fun h => byt_get s k h⟩
  clear hd
  go_enter Tryz.func153, Tryz.ntmps153
  go_wp2
  go_loopw [4] (fun _ wr => ∃ k : Nat, k ≤ s.size ∧ wr = w.iter s k) (fun _ wr => s.size - wr.iterPos w.heap.size)
  case atStart => exact ⟨0, Nat.zero_le _, rfl⟩
  case round =>
    obtain ⟨k, hk, rfl⟩ := hrel
    by_cases hlt : k < s.size
    · have hks : k < s.size := by omega
      obtain ⟨hb, hg⟩ := HD.out k hlt
      obtain ⟨b, hbb⟩ : ∃ b, b = byt (bys s) k := ⟨_, rfl⟩
      rw [← hbb] at hg hb
      have hnx : ∀ ty, (Instr.next (.pointer (some ⟨w.heap.size, 0, none⟩)) true ty).run Tryz.prog (w.iter s k) = .ok (.tuple #[.bool true, .int .i64 (k : Int), .int .i32 ((b : Nat) : Int)]) (w.iter s (k + 1)) := fun ty => by
        have h := run_next_ascii (P := Tryz.prog) w s k ty hks (by rw [hg hks]; omega)
        rw [hg hks] at h
        exact h
      have h1' : ¬ (b : Int) < 48 := by omega
      have h2' : ¬ 57 < (b : Int) := by omega
      have h3' : decide ((b : Int) < 48) = false := decide_eq_false h1'
      have h4' : decide (57 < (b : Int)) = false := decide_eq_false h2'
      clear hbb HD hg
      go_wp2
      go_roundw
      case rel => exact ⟨k + 1, by omega, rfl⟩
      case measure => simp; omega
    · have hk0 : ¬ k < s.size := by omega
      have hnx : ∀ ty, (Instr.next (.pointer (some ⟨w.heap.size, 0, none⟩)) true ty).run Tryz.prog (w.iter s k) = _ := fun ty => run_next_end w s k ty hk0
      clear HD hlt hk
      go_wp2
      go_ret
      exact ⟨rfl, iter_below _ _ _⟩

set_option maxHeartbeats 1000000 in
theorem areDig_x (s : ByteArray) (n : Nat) (w : World) (hn : n < s.size) (hd : ∀ k, k < n → 48 ≤ byt (bys s) k ∧ byt (bys s) k ≤ 57) (hx : ¬ (48 ≤ byt (bys s) n ∧ byt (bys s) n ≤ 57)) : Calls Tryz.prog 153 #[.string s] w fun e w' => e = .returned (.bool false) ∧ Below w.heap.size w w' := by
  have HD : Hid (∀ k, k < n → (48 ≤ byt (bys s) k ∧ byt (bys s) k ≤ 57) ∧ ∀ h : k < s.size, s[k].toNat = byt (bys s) k) := fun k hk => ⟨hd k (by first | exact hk | (rw [bys_len]; omega)), fun h => byt_get s k h⟩
  clear hd
  go_enter Tryz.func153, Tryz.ntmps153
  go_wp2
  go_loopw [4] (fun _ wr => ∃ k : Nat, k ≤ n ∧ wr = w.iter s k) (fun _ wr => s.size - wr.iterPos w.heap.size)
  case atStart => exact ⟨0, Nat.zero_le _, rfl⟩
  case round =>
    obtain ⟨k, hk, rfl⟩ := hrel
    by_cases hlt : k < n
    · have hks : k < s.size := by omega
      obtain ⟨hb, hg⟩ := HD.out k hlt
      obtain ⟨b, hbb⟩ : ∃ b, b = byt (bys s) k := ⟨_, rfl⟩
      rw [← hbb] at hg hb
      have hnx : ∀ ty, (Instr.next (.pointer (some ⟨w.heap.size, 0, none⟩)) true ty).run Tryz.prog (w.iter s k) = .ok (.tuple #[.bool true, .int .i64 (k : Int), .int .i32 ((b : Nat) : Int)]) (w.iter s (k + 1)) := fun ty => by
        have h := run_next_ascii (P := Tryz.prog) w s k ty hks (by rw [hg hks]; omega)
        rw [hg hks] at h
        exact h
      have h1' : ¬ (b : Int) < 48 := by omega
      have h2' : ¬ 57 < (b : Int) := by omega
      have h3' : decide ((b : Int) < 48) = false := decide_eq_false h1'
      have h4' : decide (57 < (b : Int)) = false := decide_eq_false h2'
      clear hbb HD hg
      go_wp2
      go_roundw
      case rel => exact ⟨k + 1, by omega, rfl⟩
      case measure => simp; omega
    · obtain rfl : k = n := by omega
      have hks : k < s.size := hn
      have hg : ∀ h : k < s.size, s[k].toNat = byt (bys s) k := fun h => byt_get s k h
      have hdc : ((Utf8.decode s k).1 : Int) < 48 ∨ (¬ ((Utf8.decode s k).1 : Int) < 48 ∧ 57 < ((Utf8.decode s k).1 : Int)) := by
        by_cases ha : (s[k]'hks).toNat < 128
        · rw [decode_ascii s k hks ha]
          simp only
          rw [hg hks]
          omega
        · have := (decode_high s k hks (by omega)).1
          omega
      have hnx : ∀ ty, (Instr.next (.pointer (some ⟨w.heap.size, 0, none⟩)) true ty).run Tryz.prog (w.iter s k) = _ := fun ty => run_next_any w s k ty hks
      generalize (Utf8.decode s k).1 = b at hdc hnx
      generalize (Utf8.decode s k).2 = j at hnx
      clear HD hlt hk hg hx
      rcases hdc with h1 | ⟨h1, h2⟩
      · have h3' : decide ((b : Int) < 48) = true := decide_eq_true h1
        go_wp2
        go_ret
        exact ⟨rfl, iter_below _ _ _⟩
      · have h3' : decide ((b : Int) < 48) = false := decide_eq_false h1
        have h4' : decide (57 < (b : Int)) = true := decide_eq_true h2
        go_wp2
        go_ret
        exact ⟨rfl, iter_below _ _ _⟩

theorem areDig_F (s : ByteArray) (w : World) (h : ¬ DigB (bys s)) : Calls Tryz.prog 153 #[.string s] w fun e w' => e = .returned (.bool false) ∧ Below w.heap.size w w' := by
  have hlt : (dgs (bys s)).length < (bys s).length := by
    have h1 := dgs_len (bys s)
    rcases Nat.lt_or_ge (dgs (bys s)).length (bys s).length with g | g
    · exact g
    · exfalso
      apply h
      have h2 := dgs_take (bys s)
      rw [show (dgs (bys s)).length = (bys s).length by omega, List.take_length] at h2
      rw [h2]
      exact dgs_digB _
  exact areDig_x s (dgs (bys s)).length w (by rw [bys_len] at hlt; exact hlt) (fun k hk => dgs_at (bys s) hk) (dgs_stop (bys s) hlt)

set_option maxHeartbeats 1000000 in
theorem isCount_t (n : Int) (w : World) (h1 : 0 ≤ n) (h2 : n ≤ 8192) : Calls Tryz.prog 103 #[.int .i64 n] w fun e w' => e = .returned (.bool true) ∧ Below w.heap.size w w' := by
  have h3 : decide (0 ≤ n) = true := decide_eq_true h1
  have h4 : decide (n ≤ 8192) = true := decide_eq_true h2
  go_enter Tryz.func103, Tryz.ntmps103
  go_wp2
  go_ret
  exact ⟨rfl, Below.refl _ _⟩

set_option maxHeartbeats 1000000 in
theorem isCount_l (n : Int) (w : World) (h1 : ¬ 0 ≤ n) : Calls Tryz.prog 103 #[.int .i64 n] w fun e w' => e = .returned (.bool false) ∧ Below w.heap.size w w' := by
  have h3 : decide (0 ≤ n) = false := decide_eq_false h1
  go_enter Tryz.func103, Tryz.ntmps103
  go_wp2
  go_ret
  exact ⟨rfl, Below.refl _ _⟩

set_option maxHeartbeats 1000000 in
theorem isCount_h (n : Int) (w : World) (h1 : 0 ≤ n) (h2 : ¬ n ≤ 8192) : Calls Tryz.prog 103 #[.int .i64 n] w fun e w' => e = .returned (.bool false) ∧ Below w.heap.size w w' := by
  have h3 : decide (0 ≤ n) = true := decide_eq_true h1
  have h4 : decide (n ≤ 8192) = false := decide_eq_false h2
  go_enter Tryz.func103, Tryz.ntmps103
  go_wp2
  go_ret
  exact ⟨rfl, Below.refl _ _⟩

theorem isCount_f (n : Int) (w : World) (h : ¬ (0 ≤ n ∧ n ≤ 8192)) : Calls Tryz.prog 103 #[.int .i64 n] w fun e w' => e = .returned (.bool false) ∧ Below w.heap.size w w' := by
  by_cases h1 : 0 ≤ n
  · exact isCount_h n w h1 (fun g => h ⟨h1, g⟩)
  · exact isCount_l n w h1

set_option maxHeartbeats 1000000 in
theorem isNum_0 (w : World) : Calls Tryz.prog 102 #[.string ⟨#[48]⟩] w fun e w' => e = .returned (.bool true) ∧ Below w.heap.size w w' := by
  go_enter Tryz.func102, Tryz.ntmps102
  go_wp2
  go_ret
  exact ⟨rfl, Below.refl _ _⟩

set_option maxHeartbeats 1000000 in
theorem isNum_e (w : World) : Calls Tryz.prog 102 #[.string ⟨#[]⟩] w fun e w' => e = .returned (.bool false) ∧ Below w.heap.size w w' := by
  go_enter Tryz.func102, Tryz.ntmps102
  go_wp2
  go_ret
  exact ⟨rfl, Below.refl _ _⟩

set_option maxHeartbeats 1000000 in
theorem isNum_l (t : ByteArray) (w : World) (h0 : t.size ≠ 0) (hz : bys t ≠ [48]) (h : ¬ t.size ≤ 8192) : Calls Tryz.prog 102 #[.string t] w fun e w' => e = .returned (.bool false) ∧ Below w.heap.size w w' := by
  have hn := toList_ne h0
  have hq := ne_nought hz
  have h2 : decide ((t.size : Int) ≤ 8192) = false := decide_eq_false (by omega)
  clear h h0 hz
  go_enter Tryz.func102, Tryz.ntmps102
  go_wp2
  go_ret
  exact ⟨rfl, Below.refl _ _⟩

set_option maxHeartbeats 1000000 in
theorem isNum_z (t : ByteArray) (w : World) (h0 : t.size ≠ 0) (hz : bys t ≠ [48]) (h : t.size ≤ 8192) (hx : byt (bys t) 0 = 48) : Calls Tryz.prog 102 #[.string t] w fun e w' => e = .returned (.bool false) ∧ Below w.heap.size w w' := by
  have hn := toList_ne h0
  have hq := ne_nought hz
  have h2 : decide ((t.size : Int) ≤ 8192) = true := decide_eq_true (by omega)
  have h3 : (0 : Int) < (t.size : Int) := by omega
  have hp : 0 < t.size := by omega
  have hg : ∀ h : 0 < t.size, t[0].toNat = byt (bys t) 0 := fun h => byt_get t 0 h
  obtain ⟨b, hbb⟩ : ∃ b, b = byt (bys t) 0 := ⟨_, rfl⟩
  rw [← hbb] at hg hx
  subst hx
  clear h h0 hz hbb
  go_enter Tryz.func102, Tryz.ntmps102
  go_wp2
  go_ret
  exact ⟨rfl, Below.refl _ _⟩

set_option maxHeartbeats 1000000 in
theorem isNum_d (t : ByteArray) (b1 : Bool) (w : World) (h0 : t.size ≠ 0) (hz : bys t ≠ [48]) (h : t.size ≤ 8192) (hx : byt (bys t) 0 ≠ 48) (hA : ∀ W, Calls Tryz.prog 153 #[.string t] W fun e w' => e = .returned (.bool b1) ∧ Below W.heap.size W w') : Calls Tryz.prog 102 #[.string t] w fun e w' => e = .returned (.bool b1) ∧ Below w.heap.size w w' := by
  have hn := toList_ne h0
  have hq := ne_nought hz
  have h2 : decide ((t.size : Int) ≤ 8192) = true := decide_eq_true (by omega)
  have h3 : (0 : Int) < (t.size : Int) := by omega
  have hp : 0 < t.size := by omega
  have hg : ∀ h : 0 < t.size, t[0].toNat = byt (bys t) 0 := fun h => byt_get t 0 h
  obtain ⟨b, hbb⟩ : ∃ b, b = byt (bys t) 0 := ⟨_, rfl⟩
  rw [← hbb] at hg hx
  have hne : ¬ (b : Int) = 48 := by omega
  have hne2 : ((b : Int) != 48) = true := bne_iff_ne.2 hne
  have HN2 := hide hne2
  clear hne2
  have HA := hide hA
  clear h h0 hz hbb hA hx
  go_enter Tryz.func102, Tryz.ntmps102
  go_wp2_with fail
  refine (HA.out _).mono ?_
  rintro e w1 ⟨rfl, hb⟩
  have HB := hide hb
  clear hb
  go_wp2
  go_ret
  exact ⟨congrArg (fun x => Ending.returned (Value.bool (x && b1))) HN2.out, HB.out⟩

theorem isNum_T (t : ByteArray) (w : World) (h : NumT (bys t) 8192) : Calls Tryz.prog 102 #[.string t] w fun e w' => e = .returned (.bool true) ∧ Below w.heap.size w w' := by
  rcases h with h | ⟨h1, h2, h3, h4⟩
  · obtain rfl : t = ⟨#[48]⟩ := by rw [← mk_bys t, h]
    exact isNum_0 w
  · rw [bys_len] at h2
    exact isNum_d t true w (fun g => h1 (bys_nil.2 g)) (fun g => h3 (by rw [g]; rfl)) (by omega) h3 (fun W => areDig_t t W h4)

theorem isNum_F (t : ByteArray) (w : World) (h : ¬ NumT (bys t) 8192) : Calls Tryz.prog 102 #[.string t] w fun e w' => e = .returned (.bool false) ∧ Below w.heap.size w w' := by
  have hz : bys t ≠ [48] := fun g => h (.inl g)
  by_cases h0 : bys t = []
  · obtain rfl : t = ⟨#[]⟩ := size_nil (bys_nil.1 h0)
    exact isNum_e w
  have h0' : t.size ≠ 0 := fun g => h0 (bys_nil.2 g)
  by_cases h1 : t.size ≤ 8192
  · by_cases h2 : byt (bys t) 0 = 48
    · exact isNum_z t w h0' hz h1 h2
    · exact isNum_d t false w h0' hz h1 h2 (fun W => areDig_F t W (fun g => h (.inr ⟨h0, by rw [bys_len]; omega, h2, g⟩)))
  · exact isNum_l t w h0' hz h1

end Go.Proofs.YtijccekejfcheaaGreatDoor

namespace Go.Proofs.YtijccekejfcheaaGreatDoor
open Go.RowKit

end Go.Proofs.YtijccekejfcheaaGreatDoor
