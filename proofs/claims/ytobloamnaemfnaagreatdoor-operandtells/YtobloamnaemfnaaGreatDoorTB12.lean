/-
  What width's small tests do.
  What operand's noughts, moved, count, number, areDigits, isCount and isNumber do.
  Lists of bytes in blocks of their own, out of a conversion or an append: an append to one; what a conversion makes.
  What quipuref08's ahead does.
-/
import Derived.Test.YtobloamnaemfnaaGreatDoorTB11
import Derived.Test.YtobloamnaemfnaaGreatDoorTB5
import Derived.Laws.EntriesVeiled
import Derived.Test.YtobloamnaemfnaaGreatDoorTB8
import Derived.Laws.RangeAny
import Derived.Deep.RegionHeld3
import Derived.ArgAppend
import Derived.Lib.ConvBytes
import Derived.Laws.BytesArg
namespace Go.Proofs.YtobloamnaemfnaaGreatDoor
open Go.RowKit

set_option maxHeartbeats 1000000 in
theorem within_t (n lo hi : Int) (w : World) (h1 : lo ≤ n) (h2 : n ≤ hi) : Calls Tryz.prog 70 #[.int .i64 n, .int .i64 lo, .int .i64 hi] w fun e w' => e = .returned (.bool true) ∧ Below w.heap.size w w' := by
  go_enter Tryz.func70, Tryz.ntmps70
  go_wp2
  go_ret
  exact ⟨rfl, Below.refl _ _⟩

set_option maxHeartbeats 1000000 in
theorem within_f1 (n lo hi : Int) (w : World) (h1 : n < lo) : Calls Tryz.prog 70 #[.int .i64 n, .int .i64 lo, .int .i64 hi] w fun e w' => e = .returned (.bool false) ∧ Below w.heap.size w w' := by
  go_enter Tryz.func70, Tryz.ntmps70
  go_wp2
  go_ret
  exact ⟨rfl, Below.refl _ _⟩

set_option maxHeartbeats 1000000 in
theorem within_f2 (n lo hi : Int) (w : World) (h1 : lo ≤ n) (h2 : hi < n) : Calls Tryz.prog 70 #[.int .i64 n, .int .i64 lo, .int .i64 hi] w fun e w' => e = .returned (.bool false) ∧ Below w.heap.size w w' := by
  go_enter Tryz.func70, Tryz.ntmps70
  go_wp2
  go_ret
  exact ⟨congrArg (fun b => Ending.returned (Value.bool b)) (show decide (n ≤ hi) = false by simp; omega), Below.refl _ _⟩

theorem within_f (n lo hi : Int) (w : World) (h : ¬ (lo ≤ n ∧ n ≤ hi)) : Calls Tryz.prog 70 #[.int .i64 n, .int .i64 lo, .int .i64 hi] w fun e w' => e = .returned (.bool false) ∧ Below w.heap.size w w' := by
  by_cases h1 : lo ≤ n
  · exact within_f2 n lo hi w h1 (by omega)
  · exact within_f1 n lo hi w (by omega)

end Go.Proofs.YtobloamnaemfnaaGreatDoor

namespace Go.Proofs.YtobloamnaemfnaaGreatDoor
open Go.RowKit

theorem ne_nought {t : ByteArray} (h : bys t ≠ [48]) : (t.toList == [48]) = false := by
  rw [ByteArray.toList_eq]
  exact beq_eq_false_iff_ne.2 h

theorem iter_below (w : World) (s : ByteArray) (k : Nat) : Below w.heap.size w (w.iter s k) := (Below.refl _ _).alloc (Nat.le_refl _) _

theorem onoughts_any (n : Nat) (w : World) (h : n ≤ 100000) : Calls Tryz.prog 99 #[.int .i64 (n : Int)] w fun e w' => e = .returned (.string ⟨(List.replicate n 48).toArray⟩) ∧ Below w.heap.size w w' := by
  have RP := hide (fun W => repeat_any n W h)
  obtain ⟨N, hN⟩ : ∃ N : ByteArray, N = ⟨(List.replicate n (48 : UInt8)).toArray⟩ := ⟨_, rfl⟩
  rw [← hN] at RP ⊢
  clear hN h
  go_enter Tryz.func99, Tryz.ntmps99
  go_wp2_with fail
  refine (RP.out _).mono ?_
  rintro e w1 ⟨rfl, hb⟩
  have HB := hide hb
  clear hb
  go_wp2
  go_ret
  exact ⟨rfl, HB.out⟩

theorem min_run (a b n : Nat) (hn : n = min a b) : ∀ (w : World) (ts : Array TypeId) (t : TypeId), (Builtin.min_ ts t #[.int .i64 (a : Int), .int .i64 (b : Int)]).run Tryz.prog w = .ok (.int .i64 (n : Int)) w := by
  intro w ts t
  rw [run_min_int2, hn]
  congr 2
  split <;> omega

set_option maxHeartbeats 1000000 in
theorem moved_gen (a b N : ByteArray) (k r : Nat) (w : World) (hr : r = min k b.size) (hk : k ≤ 2001) (ha : a.size ≤ 4096) (hb : b.size ≤ 4096) (hN : ∀ W, Calls Tryz.prog 99 #[.int .i64 ((k : Int) - (r : Int))] W fun e w' => e = .returned (.string N) ∧ Below W.heap.size W w') (hn : N.size ≤ 4096) : Calls Tryz.prog 50 #[.string a, .string b, .int .i64 (k : Int)] w fun e w' => e = .returned (.tuple #[.string (a ++ b.extract 0 r ++ N), .string (b.extract r b.size)]) ∧ Below w.heap.size w w' := by
  have HN := hide hN
  have hm := min_run k b.size r hr
  have h1 : (r : Int) ≤ (b.size : Int) := by omega
  have z1 : (b.extract 0 r).size = r := by rw [ByteArray.size_extract]; omega
  have s1 : ¬ 9223372036854775807 < a.size + r := by omega
  have s2 : ¬ 9223372036854775807 < a.size + r + N.size := by omega
  have e1 : (a ++ b.extract 0 r : ByteArray).size = a.size + r := by rw [ByteArray.size_append, z1]
  have hw : IntKind.i64.wrap ((k : Int) - (r : Int)) = (k : Int) - (r : Int) := by rw [IntKind.wrap_i64]; omega
  clear hN hr
  go_enter Tryz.func50, Tryz.ntmps50
  go_wp2_with fail
  have b0 : Hid (Below w.heap.size w w.drew) := bdrewD w
  have C0 : Hid (∀ X, Hid (Below w.heap.size w X) → Calls Tryz.prog 99 #[.int .i64 ((k : Int) - (r : Int))] X fun e w' => e = .returned (.string N) ∧ Hid (Below w.heap.size w w') ∧ True) := by
    intro X bX
    refine (HN.out X).mono ?_
    rintro e w' ⟨rfl, hb⟩
    exact ⟨rfl, bX.out.trans (hb.mono bX.out.size), trivial⟩
  have mk0 : True := trivial
  go_region_held3 (fun w' => True) (go_keep) (first
    | (clear mk0; go_at_call 99; refine (C0.out _ b0).mono ?_; rintro e w1 ⟨rfl, b1, q0⟩; have mk1 : True := trivial))
  clear C0 b0 HN
  go_wp2
  go_ret2
  exact ⟨rfl, b1.out⟩

theorem moved_any (a b : ByteArray) (k : Nat) (w : World) (hk : k ≤ 2001) (ha : a.size ≤ 4096) (hb : b.size ≤ 4096) : Calls Tryz.prog 50 #[.string a, .string b, .int .i64 (k : Int)] w fun e w' => e = .returned (.tuple #[.string ⟨(moveA (bys a) (bys b) k).toArray⟩, .string ⟨((bys b).drop k).toArray⟩]) ∧ Below w.heap.size w w' := by
  have h := moved_gen a b ⟨(List.replicate (k - b.size) 48).toArray⟩ k (min k b.size) w rfl hk ha hb (fun W => by
    have := onoughts_any (k - b.size) W (by omega)
    rwa [show ((k - b.size : Nat) : Int) = (k : Int) - ((min k b.size : Nat) : Int) by omega] at this) (by rw [size_mk0, List.length_replicate]; omega)
  have e1 : a ++ b.extract 0 (min k b.size) ++ ⟨(List.replicate (k - b.size) 48).toArray⟩ = ⟨(moveA (bys a) (bys b) k).toArray⟩ := by
    rw [← mk_bys (a ++ b.extract 0 (min k b.size) ++ ⟨(List.replicate (k - b.size) 48).toArray⟩), bys_append, bys_append, bys_to, bys_mk]
    unfold moveA
    rw [bys_len]
    congr 4
    by_cases g : k ≤ b.size
    · rw [Nat.min_eq_left g]
    · rw [Nat.min_eq_right (by omega), List.take_of_length_le (by rw [bys_len]; omega), List.take_of_length_le (by rw [bys_len]; omega)]
  have e2 : b.extract (min k b.size) b.size = ⟨((bys b).drop k).toArray⟩ := by
    rw [← mk_bys (b.extract (min k b.size) b.size), bys_from _ _ _ (Nat.le_refl _)]
    congr 2
    by_cases g : k ≤ b.size
    · rw [Nat.min_eq_left g]
    · rw [Nat.min_eq_right (by omega), List.drop_eq_nil_of_le (by rw [bys_len]; omega), List.drop_eq_nil_of_le (by rw [bys_len]; omega)]
  rw [e1, e2] at h
  exact h

set_option maxHeartbeats 1000000 in
theorem areDig_t (s : ByteArray) (w : World) (hd : DigB (bys s)) : Calls Tryz.prog 136 #[.string s] w fun e w' => e = .returned (.bool true) ∧ Below w.heap.size w w' := by
  have HD : Hid (∀ k, k < s.size → (48 ≤ byt (bys s) k ∧ byt (bys s) k ≤ 57) ∧ ∀ h : k < s.size, s[k].toNat = byt (bys s) k) := fun k hk => ⟨hd k (by first | exact hk | (rw [bys_len]; omega)), fun h => byt_get s k h⟩
  clear hd
  go_enter Tryz.func136, Tryz.ntmps136
  go_wp2
  go_loopw [4] (fun _ wr => ∃ k : Nat, k ≤ s.size ∧ wr = w.iter s k) (fun _ wr => s.size - wr.iterPos w.heap.size)
  case atStart => exact ⟨0, Nat.zero_le _, rfl⟩
  case round =>
    obtain ⟨k, hk, rfl⟩ := hrel
    by_cases hlt : k < s.size
    · have hks : k < s.size := by omega
      obtain ⟨hb, hg⟩ := HD.out k hlt
      obtain ⟨b, hbb⟩ : ∃ b, b = byt (bys s) k := ⟨_, rfl⟩
      rw [← hbb] at hg hb
      have hnx : ∀ ty, (Instr.next (.pointer (some ⟨w.heap.size, 0, none⟩)) true ty).run Tryz.prog (w.iter s k) = .ok (.tuple #[.bool true, .int .i64 (k : Int), .int .i32 ((b : Nat) : Int)]) (w.iter s (k + 1)) := fun ty => by
        have h := run_next_ascii (P := Tryz.prog) w s k ty hks (by rw [hg hks]; omega)
        rw [hg hks] at h
        exact h
      have h1' : ¬ (b : Int) < 48 := by omega
      have h2' : ¬ 57 < (b : Int) := by omega
      have h3' : decide ((b : Int) < 48) = false := decide_eq_false h1'
      have h4' : decide (57 < (b : Int)) = false := decide_eq_false h2'
      clear hbb HD hg
      go_wp2
      go_roundw
      case rel => exact ⟨k + 1, by omega, rfl⟩
      case measure => simp; omega
    · have hk0 : ¬ k < s.size := by omega
      have hnx : ∀ ty, (Instr.next (.pointer (some ⟨w.heap.size, 0, none⟩)) true ty).run Tryz.prog (w.iter s k) = _ := fun ty => run_next_end w s k ty hk0
      clear HD hlt hk
      go_wp2
      go_ret
      exact ⟨rfl, iter_below _ _ _⟩

set_option maxHeartbeats 1000000 in
theorem areDig_x (s : ByteArray) (n : Nat) (w : World) (hn : n < s.size) (hd : ∀ k, k < n → 48 ≤ byt (bys s) k ∧ byt (bys s) k ≤ 57) (hx : ¬ (48 ≤ byt (bys s) n ∧ byt (bys s) n ≤ 57)) : Calls Tryz.prog 136 #[.string s] w fun e w' => e = .returned (.bool false) ∧ Below w.heap.size w w' := by
  have HD : Hid (∀ k, k < n → (48 ≤ byt (bys s) k ∧ byt (bys s) k ≤ 57) ∧ ∀ h : k < s.size, s[k].toNat = byt (bys s) k) := fun k hk => ⟨hd k (by first | exact hk | (rw [bys_len]; omega)), fun h => byt_get s k h⟩
  clear hd
  go_enter Tryz.func136, Tryz.ntmps136
  go_wp2
  go_loopw [4] (fun _ wr => ∃ k : Nat, k ≤ n ∧ wr = w.iter s k) (fun _ wr => s.size - wr.iterPos w.heap.size)
  case atStart => exact ⟨0, Nat.zero_le _, rfl⟩
  case round =>
    obtain ⟨k, hk, rfl⟩ := hrel
    by_cases hlt : k < n
    · have hks : k < s.size := by omega
      obtain ⟨hb, hg⟩ := HD.out k hlt
      obtain ⟨b, hbb⟩ : ∃ b, b = byt (bys s) k := ⟨_, rfl⟩
      rw [← hbb] at hg hb
      have hnx : ∀ ty, (Instr.next (.pointer (some ⟨w.heap.size, 0, none⟩)) true ty).run Tryz.prog (w.iter s k) = .ok (.tuple #[.bool true, .int .i64 (k : Int), .int .i32 ((b : Nat) : Int)]) (w.iter s (k + 1)) := fun ty => by
        have h := run_next_ascii (P := Tryz.prog) w s k ty hks (by rw [hg hks]; omega)
        rw [hg hks] at h
        exact h
      have h1' : ¬ (b : Int) < 48 := by omega
      have h2' : ¬ 57 < (b : Int) := by omega
      have h3' : decide ((b : Int) < 48) = false := decide_eq_false h1'
      have h4' : decide (57 < (b : Int)) = false := decide_eq_false h2'
      clear hbb HD hg
      go_wp2
      go_roundw
      case rel => exact ⟨k + 1, by omega, rfl⟩
      case measure => simp; omega
    · obtain rfl : k = n := by omega
      have hks : k < s.size := hn
      have hg : ∀ h : k < s.size, s[k].toNat = byt (bys s) k := fun h => byt_get s k h
      have hdc : ((Utf8.decode s k).1 : Int) < 48 ∨ (¬ ((Utf8.decode s k).1 : Int) < 48 ∧ 57 < ((Utf8.decode s k).1 : Int)) := by
        by_cases ha : (s[k]'hks).toNat < 128
        · rw [decode_ascii s k hks ha]
          simp only
          rw [hg hks]
          omega
        · have := (decode_high s k hks (by omega)).1
          omega
      have hnx : ∀ ty, (Instr.next (.pointer (some ⟨w.heap.size, 0, none⟩)) true ty).run Tryz.prog (w.iter s k) = _ := fun ty => run_next_any w s k ty hks
      generalize (Utf8.decode s k).1 = b at hdc hnx
      generalize (Utf8.decode s k).2 = j at hnx
      clear HD hlt hk hg hx
      rcases hdc with h1 | ⟨h1, h2⟩
      · have h3' : decide ((b : Int) < 48) = true := decide_eq_true h1
        go_wp2
        go_ret
        exact ⟨rfl, iter_below _ _ _⟩
      · have h3' : decide ((b : Int) < 48) = false := decide_eq_false h1
        have h4' : decide (57 < (b : Int)) = true := decide_eq_true h2
        go_wp2
        go_ret
        exact ⟨rfl, iter_below _ _ _⟩

theorem areDig_F (s : ByteArray) (w : World) (h : ¬ DigB (bys s)) : Calls Tryz.prog 136 #[.string s] w fun e w' => e = .returned (.bool false) ∧ Below w.heap.size w w' := by
  have hlt : (dgs (bys s)).length < (bys s).length := by
    have h1 := dgs_len (bys s)
    rcases Nat.lt_or_ge (dgs (bys s)).length (bys s).length with g | g
    · exact g
    · exfalso
      apply h
      have h2 := dgs_take (bys s)
      rw [show (dgs (bys s)).length = (bys s).length by omega, List.take_length] at h2
      rw [h2]
      exact dgs_digB _
  exact areDig_x s (dgs (bys s)).length w (by rw [bys_len] at hlt; exact hlt) (fun k hk => dgs_at (bys s) hk) (dgs_stop (bys s) hlt)

set_option maxHeartbeats 1000000 in
theorem count_any (s : ByteArray) (w : World) (hs : s.size ≤ 4096) (hd : DigB (bys s)) : Calls Tryz.prog 51 #[.string s] w fun e w' => e = .returned (.tuple #[.int .i64 (s.size : Int), .int .i64 (shortN (bys s) : Int)]) ∧ Below w.heap.size w w' := by
  have HD : Hid (∀ k, k < s.size → (48 ≤ byt (bys s) k ∧ byt (bys s) k ≤ 57) ∧ ∀ h : k < s.size, s[k].toNat = byt (bys s) k) := fun k hk => ⟨hd k (by first | exact hk | (rw [bys_len]; omega)), fun h => byt_get s k h⟩
  clear hd
  have hsn : shortN (bys s) = shortK (bys s) s.size := by unfold shortN; rw [bys_len]
  rw [hsn]
  clear hsn
  go_enter Tryz.func51, Tryz.ntmps51
  go_wp2
  go_loopw [2, 3, 5] (fun a b _ wr => ∃ k : Nat, k ≤ s.size ∧ wr = w.iter s k ∧ a = .int .i64 (k : Int) ∧ b = .int .i64 (shortK (bys s) k : Int)) (fun _ _ _ wr => s.size - wr.iterPos w.heap.size)
  case atStart => exact ⟨0, Nat.zero_le _, rfl, rfl, rfl⟩
  case round =>
    obtain ⟨k, hk, rfl, rfl, rfl⟩ := hrel
    by_cases hlt : k < s.size
    · have hks : k < s.size := hlt
      obtain ⟨hb, hg⟩ := HD.out k hlt
      have hsk : shortK (bys s) (k + 1) = if byt (bys s) k = 48 then shortK (bys s) k else k + 1 := rfl
      have HSK := hide hsk
      obtain ⟨b, hbb⟩ : ∃ b, b = byt (bys s) k := ⟨_, rfl⟩
      rw [← hbb] at hg hb HSK
      have hnx : ∀ ty, (Instr.next (.pointer (some ⟨w.heap.size, 0, none⟩)) true ty).run Tryz.prog (w.iter s k) = .ok (.tuple #[.bool true, .int .i64 (k : Int), .int .i32 ((b : Nat) : Int)]) (w.iter s (k + 1)) := fun ty => by
        have h := run_next_ascii (P := Tryz.prog) w s k ty hks (by rw [hg hks]; omega)
        rw [hg hks] at h
        exact h
      clear hbb HD hg hsk
      by_cases h48 : b = 48
      · have HE : Hid (shortK (bys s) (k + 1) = shortK (bys s) k) := by rw [HSK.out, if_pos h48]; rfl
        subst h48
        clear HSK hb
        go_wp2
        go_roundw
        case rel => exact ⟨k + 1, by omega, rfl, by go_num, by rw [HE.out]⟩
        case measure => simp; omega
      · have HE : Hid (shortK (bys s) (k + 1) = k + 1) := by rw [HSK.out, if_neg h48]; rfl
        have hne : ¬ (b : Int) = 48 := by omega
        clear HSK hb h48
        go_wp2
        go_roundw
        case rel => exact ⟨k + 1, by omega, rfl, by go_num, by rw [HE.out]; go_num⟩
        case measure => simp; omega
    · have hk0 : ¬ k < s.size := hlt
      obtain rfl : k = s.size := by omega
      have hnx : ∀ ty, (Instr.next (.pointer (some ⟨w.heap.size, 0, none⟩)) true ty).run Tryz.prog (w.iter s s.size) = _ := fun ty => run_next_end w s s.size ty hk0
      clear HD hlt hk
      go_wp2
      go_ret2
      exact ⟨rfl, iter_below _ _ _⟩

set_option maxHeartbeats 1000000 in
theorem number_z (s : ByteArray) (w : World) (hz : ∀ k, k < s.size → byt (bys s) k = 48) : Calls Tryz.prog 52 #[.string s] w fun e w' => e = .returned (.string ⟨#[48]⟩) ∧ Below w.heap.size w w' := by
  have HZ := hide hz
  clear hz
  go_enter Tryz.func52, Tryz.ntmps52
  go_wp2
  go_loopw [3, 4] (fun _ _ wr => ∃ k : Nat, k ≤ s.size ∧ wr = w.iter s k) (fun _ _ wr => s.size - wr.iterPos w.heap.size)
  case atStart => exact ⟨0, Nat.zero_le _, rfl⟩
  case round =>
    obtain ⟨k, hk, rfl⟩ := hrel
    by_cases hlt : k < s.size
    · have hks : k < s.size := by omega
      have hg : ∀ h : k < s.size, s[k].toNat = 48 := fun h => (byt_get s k h).trans (HZ.out k hlt)
      have hnx : ∀ ty, (Instr.next (.pointer (some ⟨w.heap.size, 0, none⟩)) true ty).run Tryz.prog (w.iter s k) = .ok (.tuple #[.bool true, .int .i64 (k : Int), .int .i32 (48 : Int)]) (w.iter s (k + 1)) := fun ty => by
        have h := run_next_ascii (P := Tryz.prog) w s k ty hks (by rw [hg hks]; omega)
        rw [hg hks] at h
        exact h
      clear HZ hg
      go_wp2
      go_roundw
      case rel => exact ⟨k + 1, by omega, rfl⟩
      case measure => simp; omega
    · have hk0 : ¬ k < s.size := by omega
      have hnx : ∀ ty, (Instr.next (.pointer (some ⟨w.heap.size, 0, none⟩)) true ty).run Tryz.prog (w.iter s k) = _ := fun ty => run_next_end w s k ty hk0
      clear HZ hlt hk
      go_wp2
      go_ret
      exact ⟨rfl, iter_below _ _ _⟩

set_option maxHeartbeats 1000000 in
theorem number_x (s : ByteArray) (n : Nat) (w : World) (hn : n < s.size) (hz : ∀ k, k < n → byt (bys s) k = 48) (hx : byt (bys s) n ≠ 48) (hd : byt (bys s) n < 128) (hC : ∀ W, Calls Tryz.prog 23 #[.string (s.extract n s.size)] W fun e w' => e = .returned (.string (s.extract n s.size)) ∧ Below W.heap.size W w') : Calls Tryz.prog 52 #[.string s] w fun e w' => e = .returned (.string (s.extract n s.size)) ∧ Below w.heap.size w w' := by
  have HZ := hide hz
  have HC := hide hC
  clear hz hC
  go_enter Tryz.func52, Tryz.ntmps52
  go_wp2
  go_loopw [3, 4] (fun _ _ wr => ∃ k : Nat, k ≤ n ∧ wr = w.iter s k) (fun _ _ wr => s.size - wr.iterPos w.heap.size)
  case atStart => exact ⟨0, Nat.zero_le _, rfl⟩
  case round =>
    obtain ⟨k, hk, rfl⟩ := hrel
    by_cases hlt : k < n
    · have hks : k < s.size := by omega
      have hg : ∀ h : k < s.size, s[k].toNat = 48 := fun h => (byt_get s k h).trans (HZ.out k hlt)
      have hnx : ∀ ty, (Instr.next (.pointer (some ⟨w.heap.size, 0, none⟩)) true ty).run Tryz.prog (w.iter s k) = .ok (.tuple #[.bool true, .int .i64 (k : Int), .int .i32 (48 : Int)]) (w.iter s (k + 1)) := fun ty => by
        have h := run_next_ascii (P := Tryz.prog) w s k ty hks (by rw [hg hks]; omega)
        rw [hg hks] at h
        exact h
      clear HZ hg hx hd HC
      go_wp2
      go_roundw
      case rel => exact ⟨k + 1, by omega, rfl⟩
      case measure => simp; omega
    · obtain rfl : k = n := by omega
      have hks : k < s.size := hn
      have hkl : (k : Int) ≤ (s.size : Int) := by omega
      have hg : ∀ h : k < s.size, s[k].toNat = byt (bys s) k := fun h => byt_get s k h
      obtain ⟨b, hbb⟩ : ∃ b, b = byt (bys s) k := ⟨_, rfl⟩
      rw [← hbb] at hg hx hd
      have hnx : ∀ ty, (Instr.next (.pointer (some ⟨w.heap.size, 0, none⟩)) true ty).run Tryz.prog (w.iter s k) = .ok (.tuple #[.bool true, .int .i64 (k : Int), .int .i32 ((b : Nat) : Int)]) (w.iter s (k + 1)) := fun ty => by
        have h := run_next_ascii (P := Tryz.prog) w s k ty hks (by rw [hg hks]; omega)
        rw [hg hks] at h
        exact h
      have hne : ¬ (b : Int) = 48 := by omega
      clear HZ hlt hk hg hbb hx hd
      go_wp2_with fail
      refine (HC.out _).mono ?_
      rintro e w1 ⟨rfl, hb⟩
      have HB := hide ((iter_below w s (k + 1)).trans (hb.mono (iter_below w s (k + 1)).size))
      clear hb
      go_wp2
      go_ret
      exact ⟨rfl, HB.out⟩

theorem number_any (l : List UInt8) (w : World) (hl : l.length ≤ 10000) (hd : DigB l) : Calls Tryz.prog 52 #[.string ⟨l.toArray⟩] w fun e w' => e = .returned (.string ⟨(numO l).toArray⟩) ∧ Below w.heap.size w w' := by
  obtain ⟨k, hk, he, h0⟩ := lead_form l
  have hz : ∀ j, j < k → byt l j = 48 := by
    intro j hj
    rw [he, byt_append_left _ _ (by rw [List.length_replicate]; exact hj)]
    unfold byt
    rw [List.getElem?_replicate, if_pos hj]; rfl
  have sl : (⟨l.toArray⟩ : ByteArray).size = l.length := size_mk0 l
  by_cases hn : lead l = []
  · have e : numO l = [48] := by unfold numO; rw [if_pos hn]
    rw [e]
    refine number_z _ w (fun j hj => ?_)
    rw [sl] at hj
    rw [bys_mk]
    have := congrArg List.length he
    rw [hn, List.append_nil, List.length_replicate] at this
    exact hz j (by omega)
  · have e : numO l = lead l := by unfold numO; rw [if_neg hn]
    have hlen := congrArg List.length he
    rw [List.length_append, List.length_replicate] at hlen
    have hp := List.length_pos_iff.2 hn
    have hb : byt l k = byt (lead l) 0 := by
      conv => lhs; rw [he]
      have := byt_append_right (List.replicate k 48) (lead l) 0
      rwa [List.length_replicate, Nat.add_zero] at this
    have hdg := hd k (by omega)
    have hE : (⟨l.toArray⟩ : ByteArray).extract k (⟨l.toArray⟩ : ByteArray).size = ⟨(numO l).toArray⟩ := by
      rw [← mk_bys ((⟨l.toArray⟩ : ByteArray).extract k _), bys_from _ _ _ (Nat.le_refl _), bys_mk, e]
      congr 2
      conv => lhs; rw [he]
      rw [List.drop_left' (by simp)]
    have h := number_x ⟨l.toArray⟩ k w (by rw [sl]; omega) (by rw [bys_mk]; exact hz) (by rw [bys_mk, hb]; exact h0.resolve_left hn) (by rw [bys_mk]; omega) (fun W => clone_any _ W (by rw [hE, size_mk0]; have := numO_len l; omega))
    rw [hE] at h
    exact h

set_option maxHeartbeats 1000000 in
theorem isCount_t (n : Int) (w : World) (h1 : 0 ≤ n) (h2 : n ≤ 8192) : Calls Tryz.prog 101 #[.int .i64 n] w fun e w' => e = .returned (.bool true) ∧ Below w.heap.size w w' := by
  have h3 : decide (0 ≤ n) = true := decide_eq_true h1
  have h4 : decide (n ≤ 8192) = true := decide_eq_true h2
  go_enter Tryz.func101, Tryz.ntmps101
  go_wp2
  go_ret
  exact ⟨rfl, Below.refl _ _⟩

set_option maxHeartbeats 1000000 in
theorem isCount_l (n : Int) (w : World) (h1 : ¬ 0 ≤ n) : Calls Tryz.prog 101 #[.int .i64 n] w fun e w' => e = .returned (.bool false) ∧ Below w.heap.size w w' := by
  have h3 : decide (0 ≤ n) = false := decide_eq_false h1
  go_enter Tryz.func101, Tryz.ntmps101
  go_wp2
  go_ret
  exact ⟨rfl, Below.refl _ _⟩

set_option maxHeartbeats 1000000 in
theorem isCount_h (n : Int) (w : World) (h1 : 0 ≤ n) (h2 : ¬ n ≤ 8192) : Calls Tryz.prog 101 #[.int .i64 n] w fun e w' => e = .returned (.bool false) ∧ Below w.heap.size w w' := by
  have h3 : decide (0 ≤ n) = true := decide_eq_true h1
  have h4 : decide (n ≤ 8192) = false := decide_eq_false h2
  go_enter Tryz.func101, Tryz.ntmps101
  go_wp2
  go_ret
  exact ⟨rfl, Below.refl _ _⟩

theorem isCount_f (n : Int) (w : World) (h : ¬ (0 ≤ n ∧ n ≤ 8192)) : Calls Tryz.prog 101 #[.int .i64 n] w fun e w' => e = .returned (.bool false) ∧ Below w.heap.size w w' := by
  by_cases h1 : 0 ≤ n
  · exact isCount_h n w h1 (fun g => h ⟨h1, g⟩)
  · exact isCount_l n w h1

set_option maxHeartbeats 1000000 in
theorem isNum_0 (w : World) : Calls Tryz.prog 100 #[.string ⟨#[48]⟩] w fun e w' => e = .returned (.bool true) ∧ Below w.heap.size w w' := by
  go_enter Tryz.func100, Tryz.ntmps100
  go_wp2
  go_ret
  exact ⟨rfl, Below.refl _ _⟩

set_option maxHeartbeats 1000000 in
theorem isNum_e (w : World) : Calls Tryz.prog 100 #[.string ⟨#[]⟩] w fun e w' => e = .returned (.bool false) ∧ Below w.heap.size w w' := by
  go_enter Tryz.func100, Tryz.ntmps100
  go_wp2
  go_ret
  exact ⟨rfl, Below.refl _ _⟩

set_option maxHeartbeats 1000000 in
theorem isNum_l (t : ByteArray) (w : World) (h0 : t.size ≠ 0) (hz : bys t ≠ [48]) (h : ¬ t.size ≤ 8192) : Calls Tryz.prog 100 #[.string t] w fun e w' => e = .returned (.bool false) ∧ Below w.heap.size w w' := by
  have hn := toList_ne h0
  have hq := ne_nought hz
  have h2 : decide ((t.size : Int) ≤ 8192) = false := decide_eq_false (by omega)
  clear h h0 hz
  go_enter Tryz.func100, Tryz.ntmps100
  go_wp2
  go_ret
  exact ⟨rfl, Below.refl _ _⟩

set_option maxHeartbeats 1000000 in
theorem isNum_z (t : ByteArray) (w : World) (h0 : t.size ≠ 0) (hz : bys t ≠ [48]) (h : t.size ≤ 8192) (hx : byt (bys t) 0 = 48) : Calls Tryz.prog 100 #[.string t] w fun e w' => e = .returned (.bool false) ∧ Below w.heap.size w w' := by
  have hn := toList_ne h0
  have hq := ne_nought hz
  have h2 : decide ((t.size : Int) ≤ 8192) = true := decide_eq_true (by omega)
  have h3 : (0 : Int) < (t.size : Int) := by omega
  have hp : 0 < t.size := by omega
  have hg : ∀ h : 0 < t.size, t[0].toNat = byt (bys t) 0 := fun h => byt_get t 0 h
  obtain ⟨b, hbb⟩ : ∃ b, b = byt (bys t) 0 := ⟨_, rfl⟩
  rw [← hbb] at hg hx
  subst hx
  clear h h0 hz hbb
  go_enter Tryz.func100, Tryz.ntmps100
  go_wp2
  go_ret
  exact ⟨rfl, Below.refl _ _⟩

set_option maxHeartbeats 1000000 in
theorem isNum_d (t : ByteArray) (b1 : Bool) (w : World) (h0 : t.size ≠ 0) (hz : bys t ≠ [48]) (h : t.size ≤ 8192) (hx : byt (bys t) 0 ≠ 48) (hA : ∀ W, Calls Tryz.prog 136 #[.string t] W fun e w' => e = .returned (.bool b1) ∧ Below W.heap.size W w') : Calls Tryz.prog 100 #[.string t] w fun e w' => e = .returned (.bool b1) ∧ Below w.heap.size w w' := by
  have hn := toList_ne h0
  have hq := ne_nought hz
  have h2 : decide ((t.size : Int) ≤ 8192) = true := decide_eq_true (by omega)
  have h3 : (0 : Int) < (t.size : Int) := by omega
  have hp : 0 < t.size := by omega
  have hg : ∀ h : 0 < t.size, t[0].toNat = byt (bys t) 0 := fun h => byt_get t 0 h
  obtain ⟨b, hbb⟩ : ∃ b, b = byt (bys t) 0 := ⟨_, rfl⟩
  rw [← hbb] at hg hx
  have hne : ¬ (b : Int) = 48 := by omega
  have hne2 : ((b : Int) != 48) = true := bne_iff_ne.2 hne
  have HN2 := hide hne2
  clear hne2
  have HA := hide hA
  clear h h0 hz hbb hA hx
  go_enter Tryz.func100, Tryz.ntmps100
  go_wp2_with fail
  refine (HA.out _).mono ?_
  rintro e w1 ⟨rfl, hb⟩
  have HB := hide hb
  clear hb
  go_wp2
  go_ret
  exact ⟨congrArg (fun x => Ending.returned (Value.bool (x && b1))) HN2.out, HB.out⟩

theorem isNum_T (t : ByteArray) (w : World) (h : NumT (bys t) 8192) : Calls Tryz.prog 100 #[.string t] w fun e w' => e = .returned (.bool true) ∧ Below w.heap.size w w' := by
  rcases h with h | ⟨h1, h2, h3, h4⟩
  · obtain rfl : t = ⟨#[48]⟩ := by rw [← mk_bys t, h]
    exact isNum_0 w
  · rw [bys_len] at h2
    exact isNum_d t true w (fun g => h1 (bys_nil.2 g)) (fun g => h3 (by rw [g]; rfl)) (by omega) h3 (fun W => areDig_t t W h4)

theorem isNum_F (t : ByteArray) (w : World) (h : ¬ NumT (bys t) 8192) : Calls Tryz.prog 100 #[.string t] w fun e w' => e = .returned (.bool false) ∧ Below w.heap.size w w' := by
  have hz : bys t ≠ [48] := fun g => h (.inl g)
  by_cases h0 : bys t = []
  · obtain rfl : t = ⟨#[]⟩ := size_nil (bys_nil.1 h0)
    exact isNum_e w
  have h0' : t.size ≠ 0 := fun g => h0 (bys_nil.2 g)
  by_cases h1 : t.size ≤ 8192
  · by_cases h2 : byt (bys t) 0 = 48
    · exact isNum_z t w h0' hz h1 h2
    · exact isNum_d t false w h0' hz h1 h2 (fun W => areDig_F t W (fun g => h (.inr ⟨h0, by rw [bys_len]; omega, h2, g⟩)))
  · exact isNum_l t w h0' hz h1

end Go.Proofs.YtobloamnaemfnaaGreatDoor

namespace Go.Proofs.YtobloamnaemfnaaGreatDoor
open Go.RowKit

def Ob (base : Nat) (X : World) (v : Value) (ys : List Nat) : Prop :=
  ∃ g cap cur fz, v = .slice (some ⟨g, 0, none⟩) ys.length cap ∧ base ≤ g ∧ X.heap[g]? = some (.cells cur 5 fz) ∧ (fz = (0, 0) ∨ cap ≤ fz.1) ∧ ys.length ≤ cap ∧ cur.size = cap ∧ cur.toList.take ys.length = vals .u8 ys

theorem Ob.cells {base : Nat} {X : World} {g n cap : Nat} {ys : List Nat} (h : Ob base X (.slice (some ⟨g, 0, none⟩) n cap) ys) : n = ys.length ∧ base ≤ g ∧ g < X.heap.size ∧ n ≤ cap ∧ ∀ i, i < ys.length → X.cell? ⟨g, i, none⟩ = some (.int .u8 ((ys[i]?.getD 0 : Nat) : Int)) := by
  obtain ⟨g', cap', cur, fz, hv, hg1, hh, hf, hn, hsz, ht⟩ := h
  simp only [Value.slice.injEq, Option.some.injEq, Addr.mk.injEq] at hv
  obtain ⟨⟨rfl, _, _⟩, rfl, rfl⟩ := hv
  refine ⟨rfl, hg1, lt_of_block hh, hn, fun i hi => ?_⟩
  have hc : cur[i]? = (vals .u8 ys)[i]? := by rw [← ht, List.getElem?_take_of_lt hi, Array.getElem?_toList]
  simp only [World.cell?, hh, Option.isSome_none, Bool.false_eq_true, if_false, hc]
  simp [vals, hi]

theorem Ob.below {base : Nat} {X Y : World} {v : Value} {ys : List Nat} (h : Ob base X v ys) (hb : Below X.heap.size X Y) : Ob base Y v ys := by
  obtain ⟨g, cap, cur, fz, rfl, hg1, hh, hr⟩ := h
  exact ⟨g, cap, cur, fz, rfl, hg1, (hb.block g (lt_of_block hh)).trans hh, hr⟩

theorem Ob.lt {base : Nat} {X : World} {v : Value} {ys : List Nat} (h : Ob base X v ys) : ∀ g, v.ownBlock = some g → base ≤ g ∧ g < X.heap.size := by
  obtain ⟨g, cap, cur, fz, rfl, hg1, hh, hr⟩ := h
  intro k hk
  simp only [Value.ownBlock, Option.some.injEq] at hk
  subst hk
  exact ⟨hg1, lt_of_block hh⟩

theorem Ob.bytes {base : Nat} (X : World) (s : ByteArray) (h : base ≤ X.heap.size) : Ob base (Lib.bytesWorld X 5 s) (.slice (some ⟨X.heap.size, 0, none⟩) s.size (grownCap X s.size 0 5)) ((bys s).map UInt8.toNat) := by
  have hl : ((bys s).map UInt8.toNat).length = s.size := by rw [List.length_map, bys_len]
  have hle : s.size ≤ grownCap X s.size 0 5 := grownCap_ge _ _ _ _
  have hsz : (Lib.bytesCells X 5 s).size = grownCap X s.size 0 5 := by
    unfold Lib.bytesCells
    simp only [Array.size_append, Array.size_map, Array.size_replicate]
    have : s.data.size = s.size := rfl
    omega
  refine ⟨X.heap.size, grownCap X s.size 0 5, Lib.bytesCells X 5 s, _, by rw [hl], h, Lib.bytesWorld_at_new X 5 s, .inr (by rw [hsz]; exact Nat.le_refl _), by rw [hl]; exact hle, hsz, ?_⟩
  rw [hl]
  unfold Lib.bytesCells
  rw [Array.toList_append, List.take_left' (by simp), Array.toList_map]
  unfold vals bys
  rw [List.map_map]
  rfl

theorem append_ob {P : Program} {base : Nat} (X : World) {ops : Array Oper} {rest : List Oper} {o : Oper} {a : Act} {Q : Exit → Act → World → Prop}
    (hg : o.guard = none) (s x : Operand) (t : TypeId) (hop : o.op = Op.call { callee := Callee.builtin Builtin.append, args := #[s, x], argTypes := #[t, t] })
    (i : TypeInfo) (h1 : P.underlying t = some (.slice 5)) (h2 : P.info? 5 = some i) (h3 : i.zero = some (.int .u8 0)) (h4 : i.size = 1) (h5 : i.bytes = 1)
    (v : Value) (ys : List Nat) (hs : a.eval s = v) (hob : Ob base X v ys) (ad : Addr) (c d : Nat) (hx : a.eval x = .slice (some ad) 1 c) (hc : X.cell? ad = some (.int .u8 (d : Int))) (hn : ys.length ≤ 1000000)
    (h : ∀ v' w', Ob base w' v' (ys ++ [d]) → X.grownBy w' v.ownBlock → (∀ g, v'.ownBlock = some g → v.ownBlock = some g ∨ X.heap.size ≤ g) → wpList P ops Q rest (a.put o.dst v') w') : wpList P ops Q (o :: rest) a X := by
  obtain ⟨g, cap, cur, fz, rfl, hg1, hh, hf, hl, hsz, ht⟩ := hob
  have hcell : ∀ j u, (vals .u8 ys)[j]? = some u → X.cell? ⟨g, 0 + j, none⟩ = some u := by
    intro j u hj
    have hjl : j < ys.length := by
      rcases Nat.lt_or_ge j ys.length with q | q
      · exact q
      · rw [List.getElem?_eq_none (by simpa [vals] using q)] at hj; cases hj
    have : cur[j]? = (vals .u8 ys)[j]? := by rw [← ht, List.getElem?_take_of_lt hjl, Array.getElem?_toList]
    simp only [World.cell?, hh, Option.isSome_none, Bool.false_eq_true, if_false, Nat.zero_add, this, hj]
  have vl : (vals .u8 (ys ++ [d])) = vals .u8 ys ++ [.int .u8 (d : Int)] := by simp [vals]
  have hlt := lt_of_block hh
  refine wpList_append_arg X hg s x t hop 5 i (.int .u8 0) 1 1 h1 h2 h3 h4 h5 rfl (by decide) g 0 ys.length cap (vals .u8 ys) hs (by simp [vals]) hcell ad 1 c [.int .u8 (d : Int)] hx rfl ?_ ?_ ?_ ?_ ?_ ?_ ?_
  · intro j u hj
    match j, hj with
    | 0, hj =>
      simp only [List.getElem?_cons_zero, Option.some.injEq] at hj
      subst hj
      have e : ad.add 0 = ad := by unfold Addr.add; simp
      rw [e]; exact hc
  · intro u hu
    simp only [List.mem_singleton] at hu
    subst hu
    rfl
  · intro hr j hj
    have : j = 0 := by simpa using hj
    subst this
    have hi : 0 + ys.length * 1 + 0 = ys.length := by omega
    rw [hi]
    constructor
    · simp only [World.cell?, hh, Option.isSome_none, Bool.false_eq_true, if_false]
      simp; omega
    · simp only [World.frozen?, hh]
      rcases hf with rfl | hf
      · simp
      · simp; omega
  · unfold maxLen; omega
  · omega
  · intro hr
    have hi : 0 + ys.length * 1 = ys.length := by omega
    rw [hi]
    refine h _ _ ⟨g, cap, cur.set! ys.length (.int .u8 (d : Int)), fz, ?_, hg1, ?_, hf, ?_, ?_, ?_⟩ ?_ ?_
    · rw [List.length_append]; rfl
    · simp only [World.setCells, World.setCell, Array.getElem?_modify, if_true, hh, Option.map_some]
      rfl
    · rw [List.length_append]; exact hr
    · simp [hsz]
    · rw [vl, List.length_append]
      simp only [List.length_singleton, Array.set!_eq_setIfInBounds, Array.toList_setIfInBounds]
      rw [List.take_add_one, List.take_set_of_le (Nat.le_refl _), ht]
      congr 1
      rw [List.getElem?_set_self (by simp; omega)]
      rfl
    · refine ⟨rfl, rfl, rfl, ?_, fun k hk hne => ?_⟩
      · simp [World.setCells, World.setCell]
      · simp only [World.setCells, World.setCell, Array.getElem?_modify]
        rw [if_neg (fun e => hne (by simp [Value.ownBlock, e]))]
    · intro k hk
      exact .inl hk
  · intro hr v' w' ho hgr
    obtain ⟨_, ho⟩ := ho
    rcases ho with ⟨_, h0⟩ | ⟨g', cap', cur', rfl, hg', hh', hn', _, hs', ht'⟩
    · omega
    · refine h _ _ ⟨g', cap', cur', (0, 0), by rw [List.length_append]; rfl, by omega, hh', .inl rfl, by rw [List.length_append]; exact hn', by omega, by rw [vl, List.length_append]; simpa using ht'⟩ ⟨hgr.os, hgr.tape, hgr.output, hgr.size, fun k hk _ => hgr.block k hk (by simp)⟩ ?_
      intro k hk
      simp only [Value.ownBlock, Option.some.injEq] at hk
      subst hk
      exact .inr hg'

end Go.Proofs.YtobloamnaemfnaaGreatDoor

namespace Go.Proofs.YtobloamnaemfnaaGreatDoor
open Go.RowKit

def strL (v : Value) : Nat := match v with | .string t => t.size | _ => 0

theorem from_one {t : ByteArray} (h : t.size ≠ 0) (hb : byt (bys t) 0 = 48) : lead (bys (t.extract 1 t.size)) = lead (bys t) ∧ (t.extract 1 t.size).size = t.size - 1 := by
  have hl := bys_len t
  have e1 : bys (t.extract 1 t.size) = (bys t).drop 1 := bys_from t 1 t.size (Nat.le_refl _)
  refine ⟨?_, by rw [← bys_len, e1, List.length_drop, hl]⟩
  rw [e1]
  cases he : bys t with
  | nil => rw [he] at hl; simp at hl; omega
  | cons b r =>
    rw [he, byt_cons0] at hb
    rw [lead_cons, if_pos hb]; rfl

set_option maxHeartbeats 1000000 in
theorem rahead_any (s : ByteArray) (w : World) : Calls Tryz.prog 53 #[.string s] w fun e w' => e = .returned (.string ⟨(numO (bys s)).toArray⟩) ∧ w' = w := by
  go_enter Tryz.func53, Tryz.ntmps53
  go_wp2
  go_loopw [0] (fun v wr => ∃ t : ByteArray, v = .string t ∧ t.size ≤ s.size ∧ Hid (lead (bys t) = lead (bys s)) ∧ wr = w) (fun v _ => strL v)
  case atStart => exact ⟨s, rfl, Nat.le_refl _, rfl, rfl⟩
  case round =>
    obtain ⟨t, rfl, ht, hl, rfl⟩ := hrel
    by_cases h0 : t.size = 0
    · obtain rfl : t = ⟨#[]⟩ := size_nil h0
      have HZ : Hid (numO (bys s) = [48]) := by unfold numO; rw [← hl.out]; rfl
      clear hl h0
      go_wp2
      go_ret
      exact ⟨by rw [HZ.out]; rfl, rfl⟩
    · have hn := toList_ne h0
      have hp : (0 : Int) < (t.size : Int) := by omega
      have hp' : 0 < t.size := by omega
      by_cases hb : byt (bys t) 0 = 48
      · have hg : ∀ h : 0 < t.size, t[0].toNat = 48 := fun h => (byt_get t 0 h).trans hb
        have HS := hide (from_one h0 hb)
        have hone : (1 : Int) ≤ (t.size : Int) := by omega
        have HL : Hid (lead (bys (t.extract 1 t.size)) = lead (bys s)) := HS.out.1.trans hl.out
        have hlt : (t.extract 1 t.size).size < t.size := by rw [HS.out.2]; omega
        clear hl hb
        go_wp2
        go_roundw
        case rel => exact ⟨t.extract 1 t.size, rfl, by omega, HL, trivial⟩
        case measure => exact hlt
      · have hg : ∀ h : 0 < t.size, t[0].toNat = byt (bys t) 0 := fun h => byt_get t 0 h
        have hE : numO (bys s) = bys t := by
          have h1 := lead_self hb
          have h2 := hl.out
          rw [h1] at h2
          unfold numO
          rw [← h2, if_neg (fun e => h0 (bys_nil.1 e))]
        have HE := hide hE
        clear hE
        obtain ⟨b, hbb⟩ : ∃ b, b = byt (bys t) 0 := ⟨_, rfl⟩
        rw [← hbb] at hg hb
        have hne : ¬ (b : Int) = 48 := by omega
        clear hl hbb hb
        go_wp2
        go_ret
        exact ⟨by rw [HE.out, mk_bys]; rfl, rfl⟩

end Go.Proofs.YtobloamnaemfnaaGreatDoor
