/-
  The walk of WholeTexts.
-/
import Derived.Test.YtfcdjhjdiadbfaaDoorRText
import Derived.Test.YtfcdjhjdiadbfaaDoorIn
import Derived.Test.YtfcdjhjdiadbfaaDoorWAwake
namespace Go.Proofs.YtfcdjhjdiadbfaaDoor
open Go.RowKit

set_option maxRecDepth 100000 in
set_option maxHeartbeats 2000000 in
theorem wtexts_walk (w : World) (tab : Tab w) (oa : Option Addr) (la ca : Nat) (xa : List Nat) (hla : la ≤ ca) (hca : ca ≤ 1048576) (hxa : xa.length = la) (ata : At .u64 w oa xa) (oka : Ok B64 xa) :
    Calls Tryd.prog 5 #[.slice oa la ca] w fun e w' => e = .returned (.bool true) ∧ Below w.heap.size w w' := by
  obtain ⟨N, hN⟩ : ∃ N, N = num B64 xa := ⟨_, rfl⟩
  obtain ⟨ds, hds⟩ : ∃ ds : ByteArray, ds = ⟨(Lib.decDigits N).toArray⟩ := ⟨_, rfl⟩
  have tx := fun w hat tab => text_any oa la ca xa w hla (by omega) hxa hat oka tab
  have ri := fun w hat => in_any oa la ca xa w (by omega) hxa hat oka
  have rt := fun o l c ys w h1 h2 h3 h4 => rtext_any o l c N ys w h1 h2 h3 h4
  rw [← hN] at tx ri
  rw [← hds] at tx rt
  have TX := hide tx
  have RI := hide ri
  have RT := hide rt
  clear tx ri rt hN hds
  go_enter Tryd.func5, Tryd.ntmps5
  have hbw : Below w.heap.size w w := Below.refl _ _
  go_wp2_with fail
  refine (wawake_true _ tab).mono ?_
  rintro e w1 ⟨rfl, hbel⟩
  replace ata := ata.below hbel
  replace tab := tab.below hbel
  replace hbw := hbw.trans (hbel.mono hbw.size)
  clear hbel
  go_wp2_with fail
  refine (TX.out _ ata tab).mono ?_
  rintro e w2 ⟨rfl, hbel⟩
  replace ata := ata.below hbel
  replace hbw := hbw.trans (hbel.mono hbw.size)
  clear hbel tab
  go_wp2_with fail
  refine (RI.out _ ata).mono ?_
  rintro e w3 ⟨o1, c1, y1, rfl, hl1, at1, is1, hm1, hbel⟩
  replace hbw := hbw.trans (hbel.mono hbw.size)
  clear hbel ata
  go_wp2_with fail
  refine (RT.out o1 y1.length c1 y1 _ (by omega) rfl at1 is1).mono ?_
  rintro e w4 ⟨rfl, hbel⟩
  replace hbw := hbw.trans (hbel.mono hbw.size)
  clear hbel at1 is1 TX RI RT
  go_wp2
  go_ret
  exact ⟨rfl, hbw⟩

end Go.Proofs.YtfcdjhjdiadbfaaDoor
