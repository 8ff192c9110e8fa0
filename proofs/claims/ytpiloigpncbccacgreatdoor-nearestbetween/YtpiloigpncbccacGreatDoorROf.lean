/-
  What the reference's Of does: the number of a row of digits.
-/
import Derived.Test.YtpiloigpncbccacGreatDoorRTimes
import Derived.Test.YtpiloigpncbccacGreatDoorZParse
namespace Go.Proofs.YtpiloigpncbccacGreatDoor
open Go.RowKit

set_option maxRecDepth 100000 in
set_option maxHeartbeats 1000000 in
theorem rof_any (s : ByteArray) (w : World) (hn : s.size ≤ 100000) (hd : DigB (bys s)) :
    Calls Tryz.prog 13 #[.string s] w (RPost w (s.size + 1) (decV (bys s))) := by
  obtain ⟨n, hnn⟩ : ∃ n, n = s.size := ⟨_, rfl⟩
  have HD : Hid (DigB (bys s)) := hd
  have HL : Hid ((bys s).length = n) := by rw [hnn]; exact bys_len s
  clear hd
  go_enter Tryz.func13, Tryz.ntmps13
  go_wp2
  go_loopw [3, 4] (fun v i wr => ∃ (k : Nat) (o : Option Addr) (c : Nat) (r : List Nat), k ≤ n ∧ i = .int .i64 (k : Int) ∧ v = .slice o r.length c ∧ r.length ≤ c ∧ r.length ≤ k ∧ At .u32 wr o r ∧ Ok 65536 r ∧ num 65536 r = decV ((bys s).take k) ∧ Below w.heap.size w wr) (fun _ i _ => n - (intOf i).toNat)
  case atStart => exact ⟨0, _, _, [], Nat.zero_le _, rfl, rfl, Nat.le_refl _, Nat.le_refl _, At.nil _ _ _, (Is.none (by decide)).1, by simp [decV, num, V], (Below.refl _ _).alloc (Nat.le_refl _) _⟩
  case round =>
    obtain ⟨k, o, c, r, hk, rfl, rfl, hrc, hrk, hat, hro, hrn, hb⟩ := hrel
    by_cases hlt : k < n
    · have hlt' : (k : Int) < (s.size : Int) := by omega
      have hks : k < s.size := by omega
      have hbb := HD.out k (by rw [HL.out]; exact hlt)
      have hg : ∀ h : k < s.size, s[k].toNat = byt (bys s) k := fun h => byt_get s k h
      have hs := decV_succ (bys s) (k := k) (by rw [HL.out]; exact hlt)
      obtain ⟨b, hbe⟩ : ∃ b, b = byt (bys s) k := ⟨_, rfl⟩
      rw [← hbe] at hbb hg hs
      obtain ⟨d, hd⟩ : ∃ d, d = b - 48 := ⟨_, rfl⟩
      rw [← hd, ← hrn] at hs
      have e1 : (b : Int) - 48 = (d : Int) := by omega
      have hd9 : d ≤ 9 := by omega
      have HS := hide hs
      clear hs hrn hbe hd
      go_wp2_with fail
      refine (times_any o r.length c d r _ (by omega) hd9 rfl hat hro).mono ?_
      rintro e w1 ⟨o1, c1, r1, rfl, hl1, hat1, hok1, hn1, hm1, hb1⟩
      rw [← HS.out] at hn1
      have hbw := hb.trans (hb1.mono hb.size)
      have HAT := hide hat1
      have HN1 := hide hn1
      have HBW := hide hbw
      have HOK := hide hok1
      clear hat hro hb hb1 hat1 hn1 hbw hok1 hg
      go_wp2
      go_roundw
      case rel => exact ⟨k + 1, o1, c1, r1, by omega, by go_num, rfl, hl1, by omega, HAT.out, HOK.out, HN1.out, HBW.out⟩
      case measure => simp [intOf]; omega
    · obtain rfl : k = n := by omega
      have hlt' : ¬ (k : Int) < (s.size : Int) := by omega
      have e : (bys s).take k = bys s := List.take_of_length_le (by rw [HL.out]; omega)
      rw [e] at hrn
      have HRN := hide hrn
      have ha := hat.alloc (Obj.cells #[] 50)
      have hb2 := hb.alloc hb.size (Obj.cells #[] 50)
      clear hat hrn e hb
      go_wp2_with fail
      refine (radd_any o _ r.length c 0 0 r [] _ (by omega) (by omega) rfl rfl ha (At.nil _ _ _) hro (Is.none (by decide)).1).mono ?_
      rintro e w1 ⟨o1, c1, r1, rfl, hl1, hat1, his1, hm1, hb1⟩
      rw [HRN.out, show num 65536 [] = 0 from rfl, Nat.add_zero] at his1
      have hbw := hb2.trans (hb1.mono hb2.size)
      clear ha hb2 hb1
      go_wp2
      go_ret
      exact ⟨o1, c1, r1, rfl, hl1, hat1, his1, by omega, hbw⟩

end Go.Proofs.YtpiloigpncbccacGreatDoor
