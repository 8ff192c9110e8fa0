/-
  The walk of WholeReads.
-/
import Derived.Test.YtfcdjhjdiadbfaaDoorRParse
import Derived.Test.YtfcdjhjdiadbfaaDoorOut
import Derived.Test.YtfcdjhjdiadbfaaDoorWAwake
namespace Go.Proofs.YtfcdjhjdiadbfaaDoor
open Go.RowKit

set_option maxRecDepth 100000 in
set_option maxHeartbeats 2000000 in
theorem wreads_0 (w : World) (tab : Tab w) (s : ByteArray) (z : Nat) (hz : PR s z 0) :
    Calls Tryd.prog 6 #[.string s] w fun e w' => e = .returned (.bool true) ∧ Below w.heap.size w w' := by
  go_enter Tryd.func6, Tryd.ntmps6
  have hbw : Below w.heap.size w w := Below.refl _ _
  go_wp2_with fail
  refine (parse_pr s _ z 0 hz).mono ?_
  rintro e w1 ⟨v, r1, rfl, hown1, is1, hbel⟩
  obtain ⟨o1, c1, rfl, hl1, hm1, at1⟩ := hown1.shape
  clear hown1
  replace tab := tab.below hbel
  replace hbw := hbw.trans (hbel.mono hbw.size)
  clear hbel
  go_wp2_with fail
  refine (rparse_pr s _ z 0 hz).mono ?_
  rintro e w2 ⟨o2, c2, r2, rfl, hl2, at2, is2, hm2, hbel⟩
  replace tab := tab.below hbel
  replace at1 := at1.below hbel
  replace hbw := hbw.trans (hbel.mono hbw.size)
  clear hbel
  go_wp2_with fail
  refine (wawake_true _ tab).mono ?_
  rintro e w3 ⟨rfl, hbel⟩
  replace at1 := at1.below hbel
  replace at2 := at2.below hbel
  replace hbw := hbw.trans (hbel.mono hbw.size)
  clear hbel tab
  go_wp2_with fail
  refine (out_any o2 r2.length c2 r2 _ (by omega) hl2 rfl at2 is2.1).mono ?_
  rintro e w4 ⟨o3, c3, r3, rfl, hl3, at3, is3, hm3, hbel⟩
  rw [is2.2.2] at is3
  replace at1 := at1.below hbel
  replace hbw := hbw.trans (hbel.mono hbw.size)
  clear hbel at2
  have e1 : Hid (r1 = r3) := is1.uniq (by decide) is3
  go_wp2_with fail
  refine (same_any o1 o3 r1.length c1 r3.length c3 r1 r3 _ (by omega) rfl rfl at1 at3).mono ?_
  rintro e w5 ⟨rfl, hbel⟩
  rw [show decide (r1 = r3) = true from decide_eq_true e1.out]
  replace hbw := hbw.trans (hbel.mono hbw.size)
  clear hbel at1 at3 e1
  go_wp2
  go_ret
  exact ⟨rfl, hbw⟩

set_option maxRecDepth 100000 in
set_option maxHeartbeats 2000000 in
theorem wreads_20 (w : World) (tab : Tab w) (s : ByteArray) (z : Nat) (hz : PR s z 20) :
    Calls Tryd.prog 6 #[.string s] w fun e w' => e = .returned (.bool true) ∧ Below w.heap.size w w' := by
  go_enter Tryd.func6, Tryd.ntmps6
  have hbw : Below w.heap.size w w := Below.refl _ _
  go_wp2_with fail
  refine (parse_pr s _ z 20 hz).mono ?_
  rintro e w1 ⟨v, r1, rfl, hown1, is1, hbel⟩
  obtain ⟨o1, c1, rfl, hl1, hm1, at1⟩ := hown1.shape
  clear hown1
  replace tab := tab.below hbel
  replace hbw := hbw.trans (hbel.mono hbw.size)
  clear hbel
  go_wp2_with fail
  refine (rparse_pr s _ z 20 hz).mono ?_
  rintro e w2 ⟨o2, c2, r2, rfl, hl2, at2, is2, hm2, hbel⟩
  replace tab := tab.below hbel
  replace at1 := at1.below hbel
  replace hbw := hbw.trans (hbel.mono hbw.size)
  clear hbel
  go_wp2_with fail
  refine (wawake_true _ tab).mono ?_
  rintro e w3 ⟨rfl, hbel⟩
  replace at1 := at1.below hbel
  replace at2 := at2.below hbel
  replace hbw := hbw.trans (hbel.mono hbw.size)
  clear hbel tab
  go_wp2_with fail
  refine (out_any o2 r2.length c2 r2 _ (by omega) hl2 rfl at2 is2.1).mono ?_
  rintro e w4 ⟨o3, c3, r3, rfl, hl3, at3, is3, hm3, hbel⟩
  rw [is2.2.2] at is3
  replace at1 := at1.below hbel
  replace hbw := hbw.trans (hbel.mono hbw.size)
  clear hbel at2
  have e1 : Hid (r1 = r3) := is1.uniq (by decide) is3
  go_wp2_with fail
  refine (same_any o1 o3 r1.length c1 r3.length c3 r1 r3 _ (by omega) rfl rfl at1 at3).mono ?_
  rintro e w5 ⟨rfl, hbel⟩
  rw [show decide (r1 = r3) = true from decide_eq_true e1.out]
  replace hbw := hbw.trans (hbel.mono hbw.size)
  clear hbel at1 at3 e1
  go_wp2
  go_ret
  exact ⟨rfl, hbw⟩

set_option maxRecDepth 100000 in
set_option maxHeartbeats 2000000 in
theorem wreads_21 (w : World) (tab : Tab w) (s : ByteArray) (z : Nat) (hz : PR s z 21) :
    Calls Tryd.prog 6 #[.string s] w fun e w' => e = .returned (.bool true) ∧ Below w.heap.size w w' := by
  go_enter Tryd.func6, Tryd.ntmps6
  have hbw : Below w.heap.size w w := Below.refl _ _
  go_wp2_with fail
  refine (parse_pr s _ z 21 hz).mono ?_
  rintro e w1 ⟨v, r1, rfl, hown1, is1, hbel⟩
  obtain ⟨o1, c1, rfl, hl1, hm1, at1⟩ := hown1.shape
  clear hown1
  replace tab := tab.below hbel
  replace hbw := hbw.trans (hbel.mono hbw.size)
  clear hbel
  go_wp2_with fail
  refine (rparse_pr s _ z 21 hz).mono ?_
  rintro e w2 ⟨o2, c2, r2, rfl, hl2, at2, is2, hm2, hbel⟩
  replace tab := tab.below hbel
  replace at1 := at1.below hbel
  replace hbw := hbw.trans (hbel.mono hbw.size)
  clear hbel
  go_wp2_with fail
  refine (wawake_true _ tab).mono ?_
  rintro e w3 ⟨rfl, hbel⟩
  replace at1 := at1.below hbel
  replace at2 := at2.below hbel
  replace hbw := hbw.trans (hbel.mono hbw.size)
  clear hbel tab
  go_wp2_with fail
  refine (out_any o2 r2.length c2 r2 _ (by omega) hl2 rfl at2 is2.1).mono ?_
  rintro e w4 ⟨o3, c3, r3, rfl, hl3, at3, is3, hm3, hbel⟩
  rw [is2.2.2] at is3
  replace at1 := at1.below hbel
  replace hbw := hbw.trans (hbel.mono hbw.size)
  clear hbel at2
  have e1 : Hid (r1 = r3) := is1.uniq (by decide) is3
  go_wp2_with fail
  refine (same_any o1 o3 r1.length c1 r3.length c3 r1 r3 _ (by omega) rfl rfl at1 at3).mono ?_
  rintro e w5 ⟨rfl, hbel⟩
  rw [show decide (r1 = r3) = true from decide_eq_true e1.out]
  replace hbw := hbw.trans (hbel.mono hbw.size)
  clear hbel at1 at3 e1
  go_wp2
  go_ret
  exact ⟨rfl, hbw⟩

theorem wreads_walk (w : World) (tab : Tab w) (s : ByteArray) :
    Calls Tryd.prog 6 #[.string s] w fun e w' => e = .returned (.bool true) ∧ Below w.heap.size w w' := by
  by_cases hs : s.size ≤ 8192
  · by_cases hok : OkT (bys s)
    · exact wreads_0 w tab s _ (.inr (.inr ⟨hs, hok, rfl, rfl⟩))
    · exact wreads_20 w tab s _ (.inr (.inl ⟨hs, hok, rfl, rfl⟩))
  · exact wreads_21 w tab s _ (.inl ⟨by omega, rfl, rfl⟩)

end Go.Proofs.YtfcdjhjdiadbfaaDoor
