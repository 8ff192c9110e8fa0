/-
  BlockSums answers true.
-/
import Derived.Test.YtdbbdclhfcakdaaYB2
namespace Go.Proofs.Ytdbbdclhfcakdaa
open Go.RowKit

set_option maxRecDepth 100000 in
set_option maxHeartbeats 2000000 in
theorem sums_row (w : World) (s : ByteArray) (hs : s.size ≤ 140737488355328) : Calls Try.prog 3 #[.string s] w fun e w' => e = .returned (.bool true) ∧ Below w.heap.size w w' := by
  have K1 := hide (fun X => Seal_any s X (by omega))
  have K2 := hide (fun X => rSeal_any s X (by omega))
  have K3 := hide (fun X => Sum_any s X (by omega))
  have K4 := hide (fun X => rSum_any s X (by omega))
  have K5 := hide (fun X => fixed_any X)
  generalize (if s.size ≤ 65536 then (⟨(sealL (bys s)).toArray⟩ : ByteArray) else ⟨#[]⟩) = A at *
  generalize (if s.size ≤ 65536 then (0 : Int) else 106) = E at *
  generalize crc (bys s) = C at *
  have q1 : ((C : Int) == (C : Int)) = true := by simp
  have q2 : (A.toList == A.toList) = true := by simp
  have q3 : (E == E) = true := by simp
  go_enter Try.func3, Try.ntmps3
  go_wp2_with fail
  refine (K1.out _).mono ?_
  rintro e w1 ⟨rfl, hb⟩
  have HB1 := hide hb
  clear hb
  go_wp2_with fail
  refine (K2.out _).mono ?_
  rintro e w2 ⟨rfl, hb⟩
  have HB2 := hide (HB1.out.trans (hb.mono HB1.out.size))
  clear hb
  go_wp2_with fail
  refine (K3.out _).mono ?_
  rintro e w3 ⟨rfl, rfl⟩
  go_wp2_with fail
  refine (K4.out _).mono ?_
  rintro e w3 ⟨rfl, rfl⟩
  go_wp2_with fail
  refine (K5.out _).mono ?_
  rintro e w4 ⟨rfl, hb⟩
  have HB3 := hide (HB2.out.trans (hb.mono HB2.out.size))
  clear hb
  go_wp2
  go_ret
  exact ⟨rfl, HB3.out⟩

end Go.Proofs.Ytdbbdclhfcakdaa
