/-
  What quipuref06's told does.
  quipuref06's told, of any number that may be and isn't zero.
  What quipuref06's Digits does.
  What quipuref06's Digits answers, whatever it is handed.
  What quipuref06's small and At do.
  quipuref06's At, far off.
  What quipuref06's At answers, whatever it is handed.
  RoundPlaces answers true, whatever it is handed.
  What the rows' list of package variables gives, and a world that holds them.
-/
import Derived.Test.YtckijnlolmbdiaaGreatDoorZB8
import Derived.Test.YtckijnlolmbdiaaGreatDoorZB9
import Derived.Test.YtckijnlolmbdiaaGreatDoorZB5
import Derived.Test.YtckijnlolmbdiaaGreatDoorZB6
import Derived.Test.YtckijnlolmbdiaaGreatDoorRows
import Derived.Test.YtckijnlolmbdiaaGreatDoorZB4
import Derived.Lib.LaidTab
import Derived.Deep.DeepHandedRow
namespace Go.Proofs.YtckijnlolmbdiaaGreatDoor
open Go.RowKit

end Go.Proofs.YtckijnlolmbdiaaGreatDoor

namespace Go.Proofs.YtckijnlolmbdiaaGreatDoor
open Go.RowKit

theorem zv_nat (b : Bool) (n : Nat) : (zv b n).natAbs = n := by cases b <;> simp [zv]

theorem zv_sgn {b : Bool} {n : Nat} (h : n ≠ 0) : decide (zv b n < 0) = b := by
  cases b
  · simp only [zv, Bool.false_eq_true, if_false, decide_eq_false_iff_not]; omega
  · simp only [zv, if_true, decide_eq_true_eq]; omega

theorem tellF_tens (neg : Bool) (N k : Nat) (e : Int) : tellF neg (N * 10 ^ k) e = tellF neg N (e + k) := by
  unfold tellF
  rw [finD_tens]

end Go.Proofs.YtckijnlolmbdiaaGreatDoor

namespace Go.Proofs.YtckijnlolmbdiaaGreatDoor
open Go.RowKit

end Go.Proofs.YtckijnlolmbdiaaGreatDoor

namespace Go.Proofs.YtckijnlolmbdiaaGreatDoor
open Go.RowKit

theorem decErr_d {ca : Int} {na : Bool} {ta : ByteArray} {ea : Int} (h : MayD ca na (bys ta) ea) : decErr (⟨ca.toNat, na, bys ta, ea⟩, 0) = .tuple #[dcV ca na ta ea, .int .i64 0] := by
  unfold decErr decVal
  simp only
  rw [mk_bys, ← may_cls h]

end Go.Proofs.YtckijnlolmbdiaaGreatDoor

namespace Go.Proofs.YtckijnlolmbdiaaGreatDoor
open Go.RowKit

set_option maxHeartbeats 2000000 in
theorem rsmall_low (ca : Int) (na : Bool) (ta : ByteArray) (ea : Int) (p : Int) (w : World) (hs : ta.size ≤ 1000) (he : -10000 ≤ ea ∧ ea ≤ 10000) (hp : p < ea) : Calls Tryz.prog 43 #[dcV ca na ta ea, .int .i64 p] w fun e w' => e = .returned (.int .i64 ea) ∧ Below w.heap.size w w' := by
  have hw : IntKind.i64.wrap ((ta.size : Int) + ea) = (ta.size : Int) + ea := by rw [IntKind.wrap_i64]; omega
  have hw2 : IntKind.i64.wrap ((ta.size : Int) + ea + 2) = (ta.size : Int) + ea + 2 := by rw [IntKind.wrap_i64]; omega
  have Ba0 := hide (Blk.newAt w (w.heap.size) (rfl) #[.int .i64 ca, .bool na, .string ta, .int .i64 ea] 23)
  have HB0 : Hid (Below w.heap.size w (w.alloc (.cells #[.int .i64 ca, .bool na, .string ta, .int .i64 ea] 23))) := ((Below.refl _ _).alloc (Nat.le_refl _) _)
  go_enter Tryz.func43, Tryz.ntmps43
  go_wp2
  go_ret
  exact ⟨rfl, HB0.out⟩

set_option maxHeartbeats 2000000 in
theorem rsmall_high (ca : Int) (na : Bool) (ta : ByteArray) (ea : Int) (p : Int) (w : World) (hs : ta.size ≤ 1000) (he : -10000 ≤ ea ∧ ea ≤ 10000) (hp : (ta.size : Int) + ea + 2 < p) : Calls Tryz.prog 43 #[dcV ca na ta ea, .int .i64 p] w fun e w' => e = .returned (.int .i64 ((ta.size : Int) + ea + 2)) ∧ Below w.heap.size w w' := by
  have hw : IntKind.i64.wrap ((ta.size : Int) + ea) = (ta.size : Int) + ea := by rw [IntKind.wrap_i64]; omega
  have hw2 : IntKind.i64.wrap ((ta.size : Int) + ea + 2) = (ta.size : Int) + ea + 2 := by rw [IntKind.wrap_i64]; omega
  have hq : ¬ p < ea := by omega
  have Ba0 := hide (Blk.newAt w (w.heap.size) (rfl) #[.int .i64 ca, .bool na, .string ta, .int .i64 ea] 23)
  have HB0 : Hid (Below w.heap.size w (w.alloc (.cells #[.int .i64 ca, .bool na, .string ta, .int .i64 ea] 23))) := ((Below.refl _ _).alloc (Nat.le_refl _) _)
  go_enter Tryz.func43, Tryz.ntmps43
  go_wp2
  go_ret
  exact ⟨rfl, HB0.out⟩

set_option maxHeartbeats 2000000 in
theorem rsmall_mid (ca : Int) (na : Bool) (ta : ByteArray) (ea : Int) (p : Int) (w : World) (hs : ta.size ≤ 1000) (he : -10000 ≤ ea ∧ ea ≤ 10000) (h1 : ¬ p < ea) (h2 : ¬ (ta.size : Int) + ea + 2 < p) : Calls Tryz.prog 43 #[dcV ca na ta ea, .int .i64 p] w fun e w' => e = .returned (.int .i64 p) ∧ Below w.heap.size w w' := by
  have hw : IntKind.i64.wrap ((ta.size : Int) + ea) = (ta.size : Int) + ea := by rw [IntKind.wrap_i64]; omega
  have hw2 : IntKind.i64.wrap ((ta.size : Int) + ea + 2) = (ta.size : Int) + ea + 2 := by rw [IntKind.wrap_i64]; omega
  have Ba0 := hide (Blk.newAt w (w.heap.size) (rfl) #[.int .i64 ca, .bool na, .string ta, .int .i64 ea] 23)
  have HB0 : Hid (Below w.heap.size w (w.alloc (.cells #[.int .i64 ca, .bool na, .string ta, .int .i64 ea] 23))) := ((Below.refl _ _).alloc (Nat.le_refl _) _)
  go_enter Tryz.func43, Tryz.ntmps43
  go_wp2
  go_ret
  exact ⟨rfl, HB0.out⟩

set_option maxHeartbeats 2000000 in
theorem rAt_no (ca : Int) (na : Bool) (ta : ByteArray) (ea : Int) (p m : Int) (w : World) (h : ¬ MayD ca na (bys ta) ea) : Calls Tryz.prog 17 #[dcV ca na ta ea, .int .i64 p, .int .i64 m] w fun e w' => e = .returned (.tuple #[dcV 0 false ⟨#[]⟩ 0, .int .i64 52]) ∧ Below w.heap.size w w' := by
  have CK := hide (fun W => rmay_no ca na ta ea W h)
  clear h
  have Ba0 := hide ((Blk.newAt w (w.heap.size) (rfl) #[.int .i64 ca, .bool na, .string ta, .int .i64 ea] 23).alloc (.cells #[.int .i64 0, .bool false, .string ⟨#[]⟩, .int .i64 0] 23))
  have Br0 := hide (Blk.newAt (w.alloc (.cells #[.int .i64 ca, .bool na, .string ta, .int .i64 ea] 23)) (w.heap.size + 1) (by simp) #[.int .i64 0, .bool false, .string ⟨#[]⟩, .int .i64 0] 23)
  have HB0 : Hid (Below w.heap.size w ((w.alloc (.cells #[.int .i64 ca, .bool na, .string ta, .int .i64 ea] 23)).alloc (.cells #[.int .i64 0, .bool false, .string ⟨#[]⟩, .int .i64 0] 23))) := (((Below.refl _ _).alloc (Nat.le_refl _) _).alloc (by simp <;> omega) _)
  go_enter Tryz.func17, Tryz.ntmps17
  go_wp2_with fail
  refine (CK.out _).mono ?_
  rintro e w1 ⟨rfl, hb⟩
  have Ba1 := hide (Ba0.out.below hb Ba0.out.lt)
  have Br1 := hide (Br0.out.below hb Br0.out.lt)
  have HB1 := hide (HB0.out.trans (hb.mono HB0.out.size))
  clear hb Ba0 Br0 HB0 
  have ya0 : w1.cell? ⟨w.heap.size, 0, none⟩ = some (.int .i64 ca) := Ba1.out.cell 0
  have ya1 : w1.cell? ⟨w.heap.size, 1, none⟩ = some (.bool na) := Ba1.out.cell 1
  have ya2 : w1.cell? ⟨w.heap.size, 2, none⟩ = some (.string ta) := Ba1.out.cell 2
  have ya3 : w1.cell? ⟨w.heap.size, 3, none⟩ = some (.int .i64 ea) := Ba1.out.cell 3
  have yr0 : w1.cell? ⟨w.heap.size + 1, 0, none⟩ = some (.int .i64 0) := Br1.out.cell 0
  have yr1 : w1.cell? ⟨w.heap.size + 1, 1, none⟩ = some (.bool false) := Br1.out.cell 1
  have yr2 : w1.cell? ⟨w.heap.size + 1, 2, none⟩ = some (.string ⟨#[]⟩) := Br1.out.cell 2
  have yr3 : w1.cell? ⟨w.heap.size + 1, 3, none⟩ = some (.int .i64 0) := Br1.out.cell 3
  have fr0 := Br1.out.free 0
  have fr1 := Br1.out.free 1
  have fr2 := Br1.out.free 2
  have fr3 := Br1.out.free 3
  go_wp2
  refine bodyPost_ret (results_dec2 rfl _ _ _ _ _ _ _ rfl (Br1.out.put4 _ _ _ _)) rfl ?_
  exact ⟨rfl, below_put4 (HB1.out) (by omega) _ _ _ _⟩

set_option maxHeartbeats 2000000 in
theorem rAt_mlow (ca : Int) (na : Bool) (ta : ByteArray) (ea : Int) (p m : Int) (w : World) (h : MayD ca na (bys ta) ea) (hm : m < 0) : Calls Tryz.prog 17 #[dcV ca na ta ea, .int .i64 p, .int .i64 m] w fun e w' => e = .returned (.tuple #[dcV 0 false ⟨#[]⟩ 0, .int .i64 60]) ∧ Below w.heap.size w w' := by
  have CK := hide (fun W => rmay_yes ca na ta ea W h)
  clear h
  have Ba0 := hide ((Blk.newAt w (w.heap.size) (rfl) #[.int .i64 ca, .bool na, .string ta, .int .i64 ea] 23).alloc (.cells #[.int .i64 0, .bool false, .string ⟨#[]⟩, .int .i64 0] 23))
  have Br0 := hide (Blk.newAt (w.alloc (.cells #[.int .i64 ca, .bool na, .string ta, .int .i64 ea] 23)) (w.heap.size + 1) (by simp) #[.int .i64 0, .bool false, .string ⟨#[]⟩, .int .i64 0] 23)
  have HB0 : Hid (Below w.heap.size w ((w.alloc (.cells #[.int .i64 ca, .bool na, .string ta, .int .i64 ea] 23)).alloc (.cells #[.int .i64 0, .bool false, .string ⟨#[]⟩, .int .i64 0] 23))) := (((Below.refl _ _).alloc (Nat.le_refl _) _).alloc (by simp <;> omega) _)
  go_enter Tryz.func17, Tryz.ntmps17
  go_wp2_with fail
  refine (CK.out _).mono ?_
  rintro e w1 ⟨rfl, hb⟩
  have Ba1 := hide (Ba0.out.below hb Ba0.out.lt)
  have Br1 := hide (Br0.out.below hb Br0.out.lt)
  have HB1 := hide (HB0.out.trans (hb.mono HB0.out.size))
  clear hb Ba0 Br0 HB0 
  have ya0 : w1.cell? ⟨w.heap.size, 0, none⟩ = some (.int .i64 ca) := Ba1.out.cell 0
  have ya1 : w1.cell? ⟨w.heap.size, 1, none⟩ = some (.bool na) := Ba1.out.cell 1
  have ya2 : w1.cell? ⟨w.heap.size, 2, none⟩ = some (.string ta) := Ba1.out.cell 2
  have ya3 : w1.cell? ⟨w.heap.size, 3, none⟩ = some (.int .i64 ea) := Ba1.out.cell 3
  have yr0 : w1.cell? ⟨w.heap.size + 1, 0, none⟩ = some (.int .i64 0) := Br1.out.cell 0
  have yr1 : w1.cell? ⟨w.heap.size + 1, 1, none⟩ = some (.bool false) := Br1.out.cell 1
  have yr2 : w1.cell? ⟨w.heap.size + 1, 2, none⟩ = some (.string ⟨#[]⟩) := Br1.out.cell 2
  have yr3 : w1.cell? ⟨w.heap.size + 1, 3, none⟩ = some (.int .i64 0) := Br1.out.cell 3
  have fr0 := Br1.out.free 0
  have fr1 := Br1.out.free 1
  have fr2 := Br1.out.free 2
  have fr3 := Br1.out.free 3
  go_wp2
  refine bodyPost_ret (results_dec2 rfl _ _ _ _ _ _ _ rfl (Br1.out.put4 _ _ _ _)) rfl ?_
  exact ⟨rfl, below_put4 (HB1.out) (by omega) _ _ _ _⟩

set_option maxHeartbeats 2000000 in
theorem rAt_mhigh (ca : Int) (na : Bool) (ta : ByteArray) (ea : Int) (p m : Int) (w : World) (h : MayD ca na (bys ta) ea) (hm : 8 ≤ m) : Calls Tryz.prog 17 #[dcV ca na ta ea, .int .i64 p, .int .i64 m] w fun e w' => e = .returned (.tuple #[dcV 0 false ⟨#[]⟩ 0, .int .i64 60]) ∧ Below w.heap.size w w' := by
  have CK := hide (fun W => rmay_yes ca na ta ea W h)
  clear h
  have hm7 : 7 < m := by omega
  have Ba0 := hide ((Blk.newAt w (w.heap.size) (rfl) #[.int .i64 ca, .bool na, .string ta, .int .i64 ea] 23).alloc (.cells #[.int .i64 0, .bool false, .string ⟨#[]⟩, .int .i64 0] 23))
  have Br0 := hide (Blk.newAt (w.alloc (.cells #[.int .i64 ca, .bool na, .string ta, .int .i64 ea] 23)) (w.heap.size + 1) (by simp) #[.int .i64 0, .bool false, .string ⟨#[]⟩, .int .i64 0] 23)
  have HB0 : Hid (Below w.heap.size w ((w.alloc (.cells #[.int .i64 ca, .bool na, .string ta, .int .i64 ea] 23)).alloc (.cells #[.int .i64 0, .bool false, .string ⟨#[]⟩, .int .i64 0] 23))) := (((Below.refl _ _).alloc (Nat.le_refl _) _).alloc (by simp <;> omega) _)
  go_enter Tryz.func17, Tryz.ntmps17
  go_wp2_with fail
  refine (CK.out _).mono ?_
  rintro e w1 ⟨rfl, hb⟩
  have Ba1 := hide (Ba0.out.below hb Ba0.out.lt)
  have Br1 := hide (Br0.out.below hb Br0.out.lt)
  have HB1 := hide (HB0.out.trans (hb.mono HB0.out.size))
  clear hb Ba0 Br0 HB0 
  have ya0 : w1.cell? ⟨w.heap.size, 0, none⟩ = some (.int .i64 ca) := Ba1.out.cell 0
  have ya1 : w1.cell? ⟨w.heap.size, 1, none⟩ = some (.bool na) := Ba1.out.cell 1
  have ya2 : w1.cell? ⟨w.heap.size, 2, none⟩ = some (.string ta) := Ba1.out.cell 2
  have ya3 : w1.cell? ⟨w.heap.size, 3, none⟩ = some (.int .i64 ea) := Ba1.out.cell 3
  have yr0 : w1.cell? ⟨w.heap.size + 1, 0, none⟩ = some (.int .i64 0) := Br1.out.cell 0
  have yr1 : w1.cell? ⟨w.heap.size + 1, 1, none⟩ = some (.bool false) := Br1.out.cell 1
  have yr2 : w1.cell? ⟨w.heap.size + 1, 2, none⟩ = some (.string ⟨#[]⟩) := Br1.out.cell 2
  have yr3 : w1.cell? ⟨w.heap.size + 1, 3, none⟩ = some (.int .i64 0) := Br1.out.cell 3
  have fr0 := Br1.out.free 0
  have fr1 := Br1.out.free 1
  have fr2 := Br1.out.free 2
  have fr3 := Br1.out.free 3
  go_wp2
  refine bodyPost_ret (results_dec2 rfl _ _ _ _ _ _ _ rfl (Br1.out.put4 _ _ _ _)) rfl ?_
  exact ⟨rfl, below_put4 (HB1.out) (by omega) _ _ _ _⟩

set_option maxHeartbeats 2000000 in
theorem rAt_low (ca : Int) (na : Bool) (ta : ByteArray) (ea : Int) (p m : Int) (w : World) (h : MayD ca na (bys ta) ea) (m1 : 0 ≤ m) (m2 : m < 8) (hp : p < -4000) : Calls Tryz.prog 17 #[dcV ca na ta ea, .int .i64 p, .int .i64 m] w fun e w' => e = .returned (.tuple #[dcV 0 false ⟨#[]⟩ 0, .int .i64 61]) ∧ Below w.heap.size w w' := by
  have CK := hide (fun W => rmay_yes ca na ta ea W h)
  clear h
  have m7 : ¬ 7 < m := by omega
  have m0 : ¬ m < 0 := by omega
  have Ba0 := hide ((Blk.newAt w (w.heap.size) (rfl) #[.int .i64 ca, .bool na, .string ta, .int .i64 ea] 23).alloc (.cells #[.int .i64 0, .bool false, .string ⟨#[]⟩, .int .i64 0] 23))
  have Br0 := hide (Blk.newAt (w.alloc (.cells #[.int .i64 ca, .bool na, .string ta, .int .i64 ea] 23)) (w.heap.size + 1) (by simp) #[.int .i64 0, .bool false, .string ⟨#[]⟩, .int .i64 0] 23)
  have HB0 : Hid (Below w.heap.size w ((w.alloc (.cells #[.int .i64 ca, .bool na, .string ta, .int .i64 ea] 23)).alloc (.cells #[.int .i64 0, .bool false, .string ⟨#[]⟩, .int .i64 0] 23))) := (((Below.refl _ _).alloc (Nat.le_refl _) _).alloc (by simp <;> omega) _)
  go_enter Tryz.func17, Tryz.ntmps17
  go_wp2_with fail
  refine (CK.out _).mono ?_
  rintro e w1 ⟨rfl, hb⟩
  have Ba1 := hide (Ba0.out.below hb Ba0.out.lt)
  have Br1 := hide (Br0.out.below hb Br0.out.lt)
  have HB1 := hide (HB0.out.trans (hb.mono HB0.out.size))
  clear hb Ba0 Br0 HB0 
  have ya0 : w1.cell? ⟨w.heap.size, 0, none⟩ = some (.int .i64 ca) := Ba1.out.cell 0
  have ya1 : w1.cell? ⟨w.heap.size, 1, none⟩ = some (.bool na) := Ba1.out.cell 1
  have ya2 : w1.cell? ⟨w.heap.size, 2, none⟩ = some (.string ta) := Ba1.out.cell 2
  have ya3 : w1.cell? ⟨w.heap.size, 3, none⟩ = some (.int .i64 ea) := Ba1.out.cell 3
  have yr0 : w1.cell? ⟨w.heap.size + 1, 0, none⟩ = some (.int .i64 0) := Br1.out.cell 0
  have yr1 : w1.cell? ⟨w.heap.size + 1, 1, none⟩ = some (.bool false) := Br1.out.cell 1
  have yr2 : w1.cell? ⟨w.heap.size + 1, 2, none⟩ = some (.string ⟨#[]⟩) := Br1.out.cell 2
  have yr3 : w1.cell? ⟨w.heap.size + 1, 3, none⟩ = some (.int .i64 0) := Br1.out.cell 3
  have fr0 := Br1.out.free 0
  have fr1 := Br1.out.free 1
  have fr2 := Br1.out.free 2
  have fr3 := Br1.out.free 3
  go_wp2
  refine bodyPost_ret (results_dec2 rfl _ _ _ _ _ _ _ rfl (Br1.out.put4 _ _ _ _)) rfl ?_
  exact ⟨rfl, below_put4 (HB1.out) (by omega) _ _ _ _⟩

set_option maxHeartbeats 2000000 in
theorem rAt_high (ca : Int) (na : Bool) (ta : ByteArray) (ea : Int) (p m : Int) (w : World) (h : MayD ca na (bys ta) ea) (m1 : 0 ≤ m) (m2 : m < 8) (hp : 4000 < p) : Calls Tryz.prog 17 #[dcV ca na ta ea, .int .i64 p, .int .i64 m] w fun e w' => e = .returned (.tuple #[dcV 0 false ⟨#[]⟩ 0, .int .i64 61]) ∧ Below w.heap.size w w' := by
  have CK := hide (fun W => rmay_yes ca na ta ea W h)
  clear h
  have m7 : ¬ 7 < m := by omega
  have m0 : ¬ m < 0 := by omega
  have n1 : ¬ p < -4000 := by omega
  have Ba0 := hide ((Blk.newAt w (w.heap.size) (rfl) #[.int .i64 ca, .bool na, .string ta, .int .i64 ea] 23).alloc (.cells #[.int .i64 0, .bool false, .string ⟨#[]⟩, .int .i64 0] 23))
  have Br0 := hide (Blk.newAt (w.alloc (.cells #[.int .i64 ca, .bool na, .string ta, .int .i64 ea] 23)) (w.heap.size + 1) (by simp) #[.int .i64 0, .bool false, .string ⟨#[]⟩, .int .i64 0] 23)
  have HB0 : Hid (Below w.heap.size w ((w.alloc (.cells #[.int .i64 ca, .bool na, .string ta, .int .i64 ea] 23)).alloc (.cells #[.int .i64 0, .bool false, .string ⟨#[]⟩, .int .i64 0] 23))) := (((Below.refl _ _).alloc (Nat.le_refl _) _).alloc (by simp <;> omega) _)
  go_enter Tryz.func17, Tryz.ntmps17
  go_wp2_with fail
  refine (CK.out _).mono ?_
  rintro e w1 ⟨rfl, hb⟩
  have Ba1 := hide (Ba0.out.below hb Ba0.out.lt)
  have Br1 := hide (Br0.out.below hb Br0.out.lt)
  have HB1 := hide (HB0.out.trans (hb.mono HB0.out.size))
  clear hb Ba0 Br0 HB0 
  have ya0 : w1.cell? ⟨w.heap.size, 0, none⟩ = some (.int .i64 ca) := Ba1.out.cell 0
  have ya1 : w1.cell? ⟨w.heap.size, 1, none⟩ = some (.bool na) := Ba1.out.cell 1
  have ya2 : w1.cell? ⟨w.heap.size, 2, none⟩ = some (.string ta) := Ba1.out.cell 2
  have ya3 : w1.cell? ⟨w.heap.size, 3, none⟩ = some (.int .i64 ea) := Ba1.out.cell 3
  have yr0 : w1.cell? ⟨w.heap.size + 1, 0, none⟩ = some (.int .i64 0) := Br1.out.cell 0
  have yr1 : w1.cell? ⟨w.heap.size + 1, 1, none⟩ = some (.bool false) := Br1.out.cell 1
  have yr2 : w1.cell? ⟨w.heap.size + 1, 2, none⟩ = some (.string ⟨#[]⟩) := Br1.out.cell 2
  have yr3 : w1.cell? ⟨w.heap.size + 1, 3, none⟩ = some (.int .i64 0) := Br1.out.cell 3
  have fr0 := Br1.out.free 0
  have fr1 := Br1.out.free 1
  have fr2 := Br1.out.free 2
  have fr3 := Br1.out.free 3
  go_wp2
  refine bodyPost_ret (results_dec2 rfl _ _ _ _ _ _ _ rfl (Br1.out.put4 _ _ _ _)) rfl ?_
  exact ⟨rfl, below_put4 (HB1.out) (by omega) _ _ _ _⟩

set_option maxHeartbeats 2000000 in
theorem rAt_nil (ca : Int) (na : Bool) (ea : Int) (p m : Int) (w : World) (h : MayD ca na (bys ⟨#[]⟩) ea) (m1 : 0 ≤ m) (m2 : m < 8) (p1 : -4000 ≤ p) (p2 : p ≤ 4000) : Calls Tryz.prog 17 #[dcV ca na ⟨#[]⟩ ea, .int .i64 p, .int .i64 m] w fun e w' => e = .returned (.tuple #[dcV ca na ⟨#[]⟩ ea, .int .i64 0]) ∧ Below w.heap.size w w' := by
  have CK := hide (fun W => rmay_yes ca na ⟨#[]⟩ ea W h)
  clear h
  have m7 : ¬ 7 < m := by omega
  have m0 : ¬ m < 0 := by omega
  have n1 : ¬ p < -4000 := by omega
  have n2 : ¬ 4000 < p := by omega
  have Ba0 := hide ((Blk.newAt w (w.heap.size) (rfl) #[.int .i64 ca, .bool na, .string ⟨#[]⟩, .int .i64 ea] 23).alloc (.cells #[.int .i64 0, .bool false, .string ⟨#[]⟩, .int .i64 0] 23))
  have Br0 := hide (Blk.newAt (w.alloc (.cells #[.int .i64 ca, .bool na, .string ⟨#[]⟩, .int .i64 ea] 23)) (w.heap.size + 1) (by simp) #[.int .i64 0, .bool false, .string ⟨#[]⟩, .int .i64 0] 23)
  have HB0 : Hid (Below w.heap.size w ((w.alloc (.cells #[.int .i64 ca, .bool na, .string ⟨#[]⟩, .int .i64 ea] 23)).alloc (.cells #[.int .i64 0, .bool false, .string ⟨#[]⟩, .int .i64 0] 23))) := (((Below.refl _ _).alloc (Nat.le_refl _) _).alloc (by simp <;> omega) _)
  go_enter Tryz.func17, Tryz.ntmps17
  go_wp2_with fail
  refine (CK.out _).mono ?_
  rintro e w1 ⟨rfl, hb⟩
  have Ba1 := hide (Ba0.out.below hb Ba0.out.lt)
  have Br1 := hide (Br0.out.below hb Br0.out.lt)
  have HB1 := hide (HB0.out.trans (hb.mono HB0.out.size))
  clear hb Ba0 Br0 HB0 
  have ya0 : w1.cell? ⟨w.heap.size, 0, none⟩ = some (.int .i64 ca) := Ba1.out.cell 0
  have ya1 : w1.cell? ⟨w.heap.size, 1, none⟩ = some (.bool na) := Ba1.out.cell 1
  have ya2 : w1.cell? ⟨w.heap.size, 2, none⟩ = some (.string ⟨#[]⟩) := Ba1.out.cell 2
  have ya3 : w1.cell? ⟨w.heap.size, 3, none⟩ = some (.int .i64 ea) := Ba1.out.cell 3
  have yr0 : w1.cell? ⟨w.heap.size + 1, 0, none⟩ = some (.int .i64 0) := Br1.out.cell 0
  have yr1 : w1.cell? ⟨w.heap.size + 1, 1, none⟩ = some (.bool false) := Br1.out.cell 1
  have yr2 : w1.cell? ⟨w.heap.size + 1, 2, none⟩ = some (.string ⟨#[]⟩) := Br1.out.cell 2
  have yr3 : w1.cell? ⟨w.heap.size + 1, 3, none⟩ = some (.int .i64 0) := Br1.out.cell 3
  have fr0 := Br1.out.free 0
  have fr1 := Br1.out.free 1
  have fr2 := Br1.out.free 2
  have fr3 := Br1.out.free 3
  go_wp2
  refine bodyPost_ret (results_dec2 rfl _ _ _ _ _ _ _ rfl (Br1.out.put4 _ _ _ _)) rfl ?_
  exact ⟨rfl, below_put4 (HB1.out) (by omega) _ _ _ _⟩

set_option maxRecDepth 100000 in
set_option maxHeartbeats 4000000 in
theorem rAt_A_yes (ca : Int) (na : Bool) (ta : ByteArray) (ea : Int) (p m q E z1 z2 : Int) (cd : Int) (nd : Bool) (td : ByteArray) (ed : Int) (w : World) (h : MayD ca na (bys ta) ea) (m1 : 0 ≤ m) (m2 : m < 8) (p1 : -4000 ≤ p) (p2 : p ≤ 4000) (hz : ta.size ≠ 0) (hS : ∀ W, Calls Tryz.prog 43 #[dcV ca na ta ea, .int .i64 p] W fun e w' => e = .returned (.int .i64 q) ∧ Below W.heap.size W w') (hO : ∀ X, Calls Tryz.prog 45 #[dcV ca na ta ea] X fun e w' => (∃ s o l c, e = .returned (.agg #[.bool s, .slice o l c, .int .i64 ea]) ∧ Hid (RI w' s o l c z1 1002 0)) ∧ Below X.heap.size X w') (hT : ∀ X (s : Bool) (o : Option Addr) (l c : Nat) (s' : Bool) (o' : Option Addr) (l' c' : Nat), RI X s o l c z1 1002 0 → RI X s' o' l' c' 1 2 0 → Calls Tryz.prog 44 #[.agg #[.bool s, .slice o l c, .int .i64 ea], .agg #[.bool s', .slice o' l' c', .int .i64 q], .int .i64 m] X fun e w' => (∃ s o l c, e = .returned (.agg #[.bool s, .slice o l c, .int .i64 E]) ∧ Hid (RI w' s o l c z2 8430 0)) ∧ Below X.heap.size X w') (hq : ¬ q < p) (hD : ∀ X (s : Bool) (o : Option Addr) (l c : Nat), RI X s o l c z2 8430 0 → Calls Tryz.prog 48 #[.agg #[.bool s, .slice o l c, .int .i64 E], .bool na] X fun e w' => e = .returned (.tuple #[.agg #[.int .i64 cd, .bool nd, .string td, .int .i64 ed], .bool true]) ∧ Below X.heap.size X w') : Calls Tryz.prog 17 #[dcV ca na ta ea, .int .i64 p, .int .i64 m] w fun e w' => e = .returned (.tuple #[.agg #[.int .i64 cd, .bool nd, .string td, .int .i64 ed], .int .i64 0]) ∧ Below w.heap.size w w' := by
  have KD := hide hD
  clear hD
  have CK := hide (fun W => rmay_yes ca na ta ea W h)
  clear h
  have m7 : ¬ 7 < m := by omega
  have m0 : ¬ m < 0 := by omega
  have n1 : ¬ p < -4000 := by omega
  have n2 : ¬ 4000 < p := by omega
  have hz2 := toList_ne hz
  have KS := hide hS
  have KO := hide hO
  have KT := hide hT
  clear hS hO hT hz
  have Ba0 := hide ((Blk.newAt w (w.heap.size) (rfl) #[.int .i64 ca, .bool na, .string ta, .int .i64 ea] 23).alloc (.cells #[.int .i64 0, .bool false, .string ⟨#[]⟩, .int .i64 0] 23))
  have Br0 := hide (Blk.newAt (w.alloc (.cells #[.int .i64 ca, .bool na, .string ta, .int .i64 ea] 23)) (w.heap.size + 1) (by simp) #[.int .i64 0, .bool false, .string ⟨#[]⟩, .int .i64 0] 23)
  have HB0 : Hid (Below w.heap.size w ((w.alloc (.cells #[.int .i64 ca, .bool na, .string ta, .int .i64 ea] 23)).alloc (.cells #[.int .i64 0, .bool false, .string ⟨#[]⟩, .int .i64 0] 23))) := (((Below.refl _ _).alloc (Nat.le_refl _) _).alloc (by simp <;> omega) _)
  go_enter Tryz.func17, Tryz.ntmps17
  go_wp2_with fail
  refine (CK.out _).mono ?_
  rintro e w1 ⟨rfl, hb⟩
  clear CK
  have Ba1 := hide (Ba0.out.below hb Ba0.out.lt)
  have Br1 := hide (Br0.out.below hb Br0.out.lt)
  have HB1 := hide (HB0.out.trans (hb.mono HB0.out.size))
  clear hb Ba0 Br0 HB0 
  have ya0 : w1.cell? ⟨w.heap.size, 0, none⟩ = some (.int .i64 ca) := Ba1.out.cell 0
  have ya1 : w1.cell? ⟨w.heap.size, 1, none⟩ = some (.bool na) := Ba1.out.cell 1
  have ya2 : w1.cell? ⟨w.heap.size, 2, none⟩ = some (.string ta) := Ba1.out.cell 2
  have ya3 : w1.cell? ⟨w.heap.size, 3, none⟩ = some (.int .i64 ea) := Ba1.out.cell 3
  have yr0 : w1.cell? ⟨w.heap.size + 1, 0, none⟩ = some (.int .i64 0) := Br1.out.cell 0
  have yr1 : w1.cell? ⟨w.heap.size + 1, 1, none⟩ = some (.bool false) := Br1.out.cell 1
  have yr2 : w1.cell? ⟨w.heap.size + 1, 2, none⟩ = some (.string ⟨#[]⟩) := Br1.out.cell 2
  have yr3 : w1.cell? ⟨w.heap.size + 1, 3, none⟩ = some (.int .i64 0) := Br1.out.cell 3
  go_wp2_with fail
  refine (KS.out _).mono ?_
  rintro e w2 ⟨rfl, hb⟩
  clear KS
  have Ba2 := hide (Ba1.out.below hb Ba1.out.lt)
  have Br2 := hide (Br1.out.below hb Br1.out.lt)
  have HB2 := hide (HB1.out.trans (hb.mono HB1.out.size))
  clear hb Ba1 Br1 HB1 ya0 ya1 ya2 ya3 yr0 yr1 yr2 yr3
  have ya0 : w2.cell? ⟨w.heap.size, 0, none⟩ = some (.int .i64 ca) := Ba2.out.cell 0
  have ya1 : w2.cell? ⟨w.heap.size, 1, none⟩ = some (.bool na) := Ba2.out.cell 1
  have ya2 : w2.cell? ⟨w.heap.size, 2, none⟩ = some (.string ta) := Ba2.out.cell 2
  have ya3 : w2.cell? ⟨w.heap.size, 3, none⟩ = some (.int .i64 ea) := Ba2.out.cell 3
  have yr0 : w2.cell? ⟨w.heap.size + 1, 0, none⟩ = some (.int .i64 0) := Br2.out.cell 0
  have yr1 : w2.cell? ⟨w.heap.size + 1, 1, none⟩ = some (.bool false) := Br2.out.cell 1
  have yr2 : w2.cell? ⟨w.heap.size + 1, 2, none⟩ = some (.string ⟨#[]⟩) := Br2.out.cell 2
  have yr3 : w2.cell? ⟨w.heap.size + 1, 3, none⟩ = some (.int .i64 0) := Br2.out.cell 3
  go_wp2_with fail
  refine (KO.out _).mono ?_
  rintro e w3 ⟨⟨s1, o1, l1, c1, rfl, Z1⟩, hb⟩
  clear KO
  have Ba3 := hide (Ba2.out.below hb Ba2.out.lt)
  have Br3 := hide (Br2.out.below hb Br2.out.lt)
  have HB3 := hide (HB2.out.trans (hb.mono HB2.out.size))
  clear hb Ba2 Br2 HB2 ya0 ya1 ya2 ya3 yr0 yr1 yr2 yr3
  have ya0 : w3.cell? ⟨w.heap.size, 0, none⟩ = some (.int .i64 ca) := Ba3.out.cell 0
  have ya1 : w3.cell? ⟨w.heap.size, 1, none⟩ = some (.bool na) := Ba3.out.cell 1
  have ya2 : w3.cell? ⟨w.heap.size, 2, none⟩ = some (.string ta) := Ba3.out.cell 2
  have ya3 : w3.cell? ⟨w.heap.size, 3, none⟩ = some (.int .i64 ea) := Ba3.out.cell 3
  have yr0 : w3.cell? ⟨w.heap.size + 1, 0, none⟩ = some (.int .i64 0) := Br3.out.cell 0
  have yr1 : w3.cell? ⟨w.heap.size + 1, 1, none⟩ = some (.bool false) := Br3.out.cell 1
  have yr2 : w3.cell? ⟨w.heap.size + 1, 2, none⟩ = some (.string ⟨#[]⟩) := Br3.out.cell 2
  have yr3 : w3.cell? ⟨w.heap.size + 1, 3, none⟩ = some (.int .i64 0) := Br3.out.cell 3
  go_wp2_with fail
  refine (rpower q _).mono ?_
  rintro e w4 ⟨⟨s2, o2, l2, c2, rfl, Z2⟩, hb⟩
  have Y1 := hide (Z1.out.below hb)
  clear Z1
  have Ba4 := hide (Ba3.out.below hb Ba3.out.lt)
  have Br4 := hide (Br3.out.below hb Br3.out.lt)
  have HB4 := hide (HB3.out.trans (hb.mono HB3.out.size))
  clear hb Ba3 Br3 HB3 ya0 ya1 ya2 ya3 yr0 yr1 yr2 yr3
  have ya0 : w4.cell? ⟨w.heap.size, 0, none⟩ = some (.int .i64 ca) := Ba4.out.cell 0
  have ya1 : w4.cell? ⟨w.heap.size, 1, none⟩ = some (.bool na) := Ba4.out.cell 1
  have ya2 : w4.cell? ⟨w.heap.size, 2, none⟩ = some (.string ta) := Ba4.out.cell 2
  have ya3 : w4.cell? ⟨w.heap.size, 3, none⟩ = some (.int .i64 ea) := Ba4.out.cell 3
  have yr0 : w4.cell? ⟨w.heap.size + 1, 0, none⟩ = some (.int .i64 0) := Br4.out.cell 0
  have yr1 : w4.cell? ⟨w.heap.size + 1, 1, none⟩ = some (.bool false) := Br4.out.cell 1
  have yr2 : w4.cell? ⟨w.heap.size + 1, 2, none⟩ = some (.string ⟨#[]⟩) := Br4.out.cell 2
  have yr3 : w4.cell? ⟨w.heap.size + 1, 3, none⟩ = some (.int .i64 0) := Br4.out.cell 3
  have CT := hide (KT.out _ _ _ _ _ _ _ _ _ Y1.out (Z2.out.lo (Nat.zero_le _) (Nat.le_refl _)))
  clear KT Y1 Z2
  go_wp2_with fail
  refine (CT.out).mono ?_
  rintro e w5 ⟨⟨s3, o3, l3, c3, rfl, Z3⟩, hb⟩
  clear CT
  have Ba5 := hide (Ba4.out.below hb Ba4.out.lt)
  have Br5 := hide (Br4.out.below hb Br4.out.lt)
  have HB5 := hide (HB4.out.trans (hb.mono HB4.out.size))
  clear hb Ba4 Br4 HB4 ya0 ya1 ya2 ya3 yr0 yr1 yr2 yr3
  have ya0 : w5.cell? ⟨w.heap.size, 0, none⟩ = some (.int .i64 ca) := Ba5.out.cell 0
  have ya1 : w5.cell? ⟨w.heap.size, 1, none⟩ = some (.bool na) := Ba5.out.cell 1
  have ya2 : w5.cell? ⟨w.heap.size, 2, none⟩ = some (.string ta) := Ba5.out.cell 2
  have ya3 : w5.cell? ⟨w.heap.size, 3, none⟩ = some (.int .i64 ea) := Ba5.out.cell 3
  have yr0 : w5.cell? ⟨w.heap.size + 1, 0, none⟩ = some (.int .i64 0) := Br5.out.cell 0
  have yr1 : w5.cell? ⟨w.heap.size + 1, 1, none⟩ = some (.bool false) := Br5.out.cell 1
  have yr2 : w5.cell? ⟨w.heap.size + 1, 2, none⟩ = some (.string ⟨#[]⟩) := Br5.out.cell 2
  have yr3 : w5.cell? ⟨w.heap.size + 1, 3, none⟩ = some (.int .i64 0) := Br5.out.cell 3
  have Ba6 := hide ((Ba5.out.alloc (.cells #[.bool s3, .slice o3 l3 c3, .int .i64 E] 71)))
  have Br6 := hide ((Br5.out.alloc (.cells #[.bool s3, .slice o3 l3 c3, .int .i64 E] 71)))
  have Bx6 := hide ((Blk.newAt w5 (w5.heap.size) (rfl) #[.bool s3, .slice o3 l3 c3, .int .i64 E] 71))
  have HB6 : Hid (Below w.heap.size w (w5.alloc (.cells #[.bool s3, .slice o3 l3 c3, .int .i64 E] 71))) := (HB5.out.alloc HB5.out.size _)
  clear Ba5 Br5 HB5 ya0 ya1 ya2 ya3 yr0 yr1 yr2 yr3
  have ya0 : (w5.alloc (.cells #[.bool s3, .slice o3 l3 c3, .int .i64 E] 71)).cell? ⟨w.heap.size, 0, none⟩ = some (.int .i64 ca) := Ba6.out.cell 0
  have ya1 : (w5.alloc (.cells #[.bool s3, .slice o3 l3 c3, .int .i64 E] 71)).cell? ⟨w.heap.size, 1, none⟩ = some (.bool na) := Ba6.out.cell 1
  have ya2 : (w5.alloc (.cells #[.bool s3, .slice o3 l3 c3, .int .i64 E] 71)).cell? ⟨w.heap.size, 2, none⟩ = some (.string ta) := Ba6.out.cell 2
  have ya3 : (w5.alloc (.cells #[.bool s3, .slice o3 l3 c3, .int .i64 E] 71)).cell? ⟨w.heap.size, 3, none⟩ = some (.int .i64 ea) := Ba6.out.cell 3
  have yr0 : (w5.alloc (.cells #[.bool s3, .slice o3 l3 c3, .int .i64 E] 71)).cell? ⟨w.heap.size + 1, 0, none⟩ = some (.int .i64 0) := Br6.out.cell 0
  have yr1 : (w5.alloc (.cells #[.bool s3, .slice o3 l3 c3, .int .i64 E] 71)).cell? ⟨w.heap.size + 1, 1, none⟩ = some (.bool false) := Br6.out.cell 1
  have yr2 : (w5.alloc (.cells #[.bool s3, .slice o3 l3 c3, .int .i64 E] 71)).cell? ⟨w.heap.size + 1, 2, none⟩ = some (.string ⟨#[]⟩) := Br6.out.cell 2
  have yr3 : (w5.alloc (.cells #[.bool s3, .slice o3 l3 c3, .int .i64 E] 71)).cell? ⟨w.heap.size + 1, 3, none⟩ = some (.int .i64 0) := Br6.out.cell 3
  have yx0 : (w5.alloc (.cells #[.bool s3, .slice o3 l3 c3, .int .i64 E] 71)).cell? ⟨w5.heap.size, 0, none⟩ = some (.bool s3) := Bx6.out.cell 0
  have yx1 : (w5.alloc (.cells #[.bool s3, .slice o3 l3 c3, .int .i64 E] 71)).cell? ⟨w5.heap.size, 1, none⟩ = some (.slice o3 l3 c3) := Bx6.out.cell 1
  have yx2 : (w5.alloc (.cells #[.bool s3, .slice o3 l3 c3, .int .i64 E] 71)).cell? ⟨w5.heap.size, 2, none⟩ = some (.int .i64 E) := Bx6.out.cell 2
  have CD := hide (KD.out _ _ _ _ _ (Z3.out.below ((Below.refl _ _).alloc (Nat.le_refl _) (.cells #[.bool s3, .slice o3 l3 c3, .int .i64 E] 71))))
  clear KD Z3
  go_wp2_with fail
  refine (CD.out).mono ?_
  rintro e w7 ⟨rfl, hb⟩
  clear CD
  have Ba7 := hide (Ba6.out.below hb Ba6.out.lt)
  have Br7 := hide (Br6.out.below hb Br6.out.lt)
  have Bx7 := hide (Bx6.out.below hb Bx6.out.lt)
  have HB7 := hide (HB6.out.trans (hb.mono HB6.out.size))
  clear hb Ba6 Br6 Bx6 HB6 ya0 ya1 ya2 ya3 yr0 yr1 yr2 yr3 yx0 yx1 yx2
  have ya0 : w7.cell? ⟨w.heap.size, 0, none⟩ = some (.int .i64 ca) := Ba7.out.cell 0
  have ya1 : w7.cell? ⟨w.heap.size, 1, none⟩ = some (.bool na) := Ba7.out.cell 1
  have ya2 : w7.cell? ⟨w.heap.size, 2, none⟩ = some (.string ta) := Ba7.out.cell 2
  have ya3 : w7.cell? ⟨w.heap.size, 3, none⟩ = some (.int .i64 ea) := Ba7.out.cell 3
  have yr0 : w7.cell? ⟨w.heap.size + 1, 0, none⟩ = some (.int .i64 0) := Br7.out.cell 0
  have yr1 : w7.cell? ⟨w.heap.size + 1, 1, none⟩ = some (.bool false) := Br7.out.cell 1
  have yr2 : w7.cell? ⟨w.heap.size + 1, 2, none⟩ = some (.string ⟨#[]⟩) := Br7.out.cell 2
  have yr3 : w7.cell? ⟨w.heap.size + 1, 3, none⟩ = some (.int .i64 0) := Br7.out.cell 3
  have yx0 : w7.cell? ⟨w5.heap.size, 0, none⟩ = some (.bool s3) := Bx7.out.cell 0
  have yx1 : w7.cell? ⟨w5.heap.size, 1, none⟩ = some (.slice o3 l3 c3) := Bx7.out.cell 1
  have yx2 : w7.cell? ⟨w5.heap.size, 2, none⟩ = some (.int .i64 E) := Bx7.out.cell 2
  have Ba8 := hide ((Ba7.out.alloc (.cells #[.int .i64 cd, .bool nd, .string td, .int .i64 ed] 23)))
  have Br8 := hide ((Br7.out.alloc (.cells #[.int .i64 cd, .bool nd, .string td, .int .i64 ed] 23)))
  have Bx8 := hide ((Bx7.out.alloc (.cells #[.int .i64 cd, .bool nd, .string td, .int .i64 ed] 23)))
  have By8 := hide ((Blk.newAt w7 (w7.heap.size) (rfl) #[.int .i64 cd, .bool nd, .string td, .int .i64 ed] 23))
  have HB8 : Hid (Below w.heap.size w (w7.alloc (.cells #[.int .i64 cd, .bool nd, .string td, .int .i64 ed] 23))) := (HB7.out.alloc HB7.out.size _)
  clear Ba7 Br7 Bx7 HB7 ya0 ya1 ya2 ya3 yr0 yr1 yr2 yr3 yx0 yx1 yx2
  have ya0 : (w7.alloc (.cells #[.int .i64 cd, .bool nd, .string td, .int .i64 ed] 23)).cell? ⟨w.heap.size, 0, none⟩ = some (.int .i64 ca) := Ba8.out.cell 0
  have ya1 : (w7.alloc (.cells #[.int .i64 cd, .bool nd, .string td, .int .i64 ed] 23)).cell? ⟨w.heap.size, 1, none⟩ = some (.bool na) := Ba8.out.cell 1
  have ya2 : (w7.alloc (.cells #[.int .i64 cd, .bool nd, .string td, .int .i64 ed] 23)).cell? ⟨w.heap.size, 2, none⟩ = some (.string ta) := Ba8.out.cell 2
  have ya3 : (w7.alloc (.cells #[.int .i64 cd, .bool nd, .string td, .int .i64 ed] 23)).cell? ⟨w.heap.size, 3, none⟩ = some (.int .i64 ea) := Ba8.out.cell 3
  have yr0 : (w7.alloc (.cells #[.int .i64 cd, .bool nd, .string td, .int .i64 ed] 23)).cell? ⟨w.heap.size + 1, 0, none⟩ = some (.int .i64 0) := Br8.out.cell 0
  have yr1 : (w7.alloc (.cells #[.int .i64 cd, .bool nd, .string td, .int .i64 ed] 23)).cell? ⟨w.heap.size + 1, 1, none⟩ = some (.bool false) := Br8.out.cell 1
  have yr2 : (w7.alloc (.cells #[.int .i64 cd, .bool nd, .string td, .int .i64 ed] 23)).cell? ⟨w.heap.size + 1, 2, none⟩ = some (.string ⟨#[]⟩) := Br8.out.cell 2
  have yr3 : (w7.alloc (.cells #[.int .i64 cd, .bool nd, .string td, .int .i64 ed] 23)).cell? ⟨w.heap.size + 1, 3, none⟩ = some (.int .i64 0) := Br8.out.cell 3
  have yx0 : (w7.alloc (.cells #[.int .i64 cd, .bool nd, .string td, .int .i64 ed] 23)).cell? ⟨w5.heap.size, 0, none⟩ = some (.bool s3) := Bx8.out.cell 0
  have yx1 : (w7.alloc (.cells #[.int .i64 cd, .bool nd, .string td, .int .i64 ed] 23)).cell? ⟨w5.heap.size, 1, none⟩ = some (.slice o3 l3 c3) := Bx8.out.cell 1
  have yx2 : (w7.alloc (.cells #[.int .i64 cd, .bool nd, .string td, .int .i64 ed] 23)).cell? ⟨w5.heap.size, 2, none⟩ = some (.int .i64 E) := Bx8.out.cell 2
  have yy0 : (w7.alloc (.cells #[.int .i64 cd, .bool nd, .string td, .int .i64 ed] 23)).cell? ⟨w7.heap.size, 0, none⟩ = some (.int .i64 cd) := By8.out.cell 0
  have yy1 : (w7.alloc (.cells #[.int .i64 cd, .bool nd, .string td, .int .i64 ed] 23)).cell? ⟨w7.heap.size, 1, none⟩ = some (.bool nd) := By8.out.cell 1
  have yy2 : (w7.alloc (.cells #[.int .i64 cd, .bool nd, .string td, .int .i64 ed] 23)).cell? ⟨w7.heap.size, 2, none⟩ = some (.string td) := By8.out.cell 2
  have yy3 : (w7.alloc (.cells #[.int .i64 cd, .bool nd, .string td, .int .i64 ed] 23)).cell? ⟨w7.heap.size, 3, none⟩ = some (.int .i64 ed) := By8.out.cell 3
  have fr0 := Br8.out.free 0
  have fr1 := Br8.out.free 1
  have fr2 := Br8.out.free 2
  have fr3 := Br8.out.free 3
  go_wp2
  refine bodyPost_ret (results_dec2 rfl _ _ _ _ _ _ _ rfl (Br8.out.put4 _ _ _ _)) rfl ?_
  exact ⟨rfl, below_put4 (HB8.out) (by omega) _ _ _ _⟩

set_option maxRecDepth 100000 in
set_option maxHeartbeats 4000000 in
theorem rAt_A_no (ca : Int) (na : Bool) (ta : ByteArray) (ea : Int) (p m q E z1 z2 : Int) (w : World) (h : MayD ca na (bys ta) ea) (m1 : 0 ≤ m) (m2 : m < 8) (p1 : -4000 ≤ p) (p2 : p ≤ 4000) (hz : ta.size ≠ 0) (hS : ∀ W, Calls Tryz.prog 43 #[dcV ca na ta ea, .int .i64 p] W fun e w' => e = .returned (.int .i64 q) ∧ Below W.heap.size W w') (hO : ∀ X, Calls Tryz.prog 45 #[dcV ca na ta ea] X fun e w' => (∃ s o l c, e = .returned (.agg #[.bool s, .slice o l c, .int .i64 ea]) ∧ Hid (RI w' s o l c z1 1002 0)) ∧ Below X.heap.size X w') (hT : ∀ X (s : Bool) (o : Option Addr) (l c : Nat) (s' : Bool) (o' : Option Addr) (l' c' : Nat), RI X s o l c z1 1002 0 → RI X s' o' l' c' 1 2 0 → Calls Tryz.prog 44 #[.agg #[.bool s, .slice o l c, .int .i64 ea], .agg #[.bool s', .slice o' l' c', .int .i64 q], .int .i64 m] X fun e w' => (∃ s o l c, e = .returned (.agg #[.bool s, .slice o l c, .int .i64 E]) ∧ Hid (RI w' s o l c z2 8430 0)) ∧ Below X.heap.size X w') (hq : ¬ q < p) (hD : ∀ X (s : Bool) (o : Option Addr) (l c : Nat), RI X s o l c z2 8430 0 → Calls Tryz.prog 48 #[.agg #[.bool s, .slice o l c, .int .i64 E], .bool na] X fun e w' => e = .returned (.tuple #[.agg #[.int .i64 0, .bool false, .string ⟨#[]⟩, .int .i64 0], .bool false]) ∧ Below X.heap.size X w') : Calls Tryz.prog 17 #[dcV ca na ta ea, .int .i64 p, .int .i64 m] w fun e w' => e = .returned (.tuple #[.agg #[.int .i64 0, .bool false, .string ⟨#[]⟩, .int .i64 0], .int .i64 51]) ∧ Below w.heap.size w w' := by
  have KD := hide hD
  clear hD
  have CK := hide (fun W => rmay_yes ca na ta ea W h)
  clear h
  have m7 : ¬ 7 < m := by omega
  have m0 : ¬ m < 0 := by omega
  have n1 : ¬ p < -4000 := by omega
  have n2 : ¬ 4000 < p := by omega
  have hz2 := toList_ne hz
  have KS := hide hS
  have KO := hide hO
  have KT := hide hT
  clear hS hO hT hz
  have Ba0 := hide ((Blk.newAt w (w.heap.size) (rfl) #[.int .i64 ca, .bool na, .string ta, .int .i64 ea] 23).alloc (.cells #[.int .i64 0, .bool false, .string ⟨#[]⟩, .int .i64 0] 23))
  have Br0 := hide (Blk.newAt (w.alloc (.cells #[.int .i64 ca, .bool na, .string ta, .int .i64 ea] 23)) (w.heap.size + 1) (by simp) #[.int .i64 0, .bool false, .string ⟨#[]⟩, .int .i64 0] 23)
  have HB0 : Hid (Below w.heap.size w ((w.alloc (.cells #[.int .i64 ca, .bool na, .string ta, .int .i64 ea] 23)).alloc (.cells #[.int .i64 0, .bool false, .string ⟨#[]⟩, .int .i64 0] 23))) := (((Below.refl _ _).alloc (Nat.le_refl _) _).alloc (by simp <;> omega) _)
  go_enter Tryz.func17, Tryz.ntmps17
  go_wp2_with fail
  refine (CK.out _).mono ?_
  rintro e w1 ⟨rfl, hb⟩
  clear CK
  have Ba1 := hide (Ba0.out.below hb Ba0.out.lt)
  have Br1 := hide (Br0.out.below hb Br0.out.lt)
  have HB1 := hide (HB0.out.trans (hb.mono HB0.out.size))
  clear hb Ba0 Br0 HB0 
  have ya0 : w1.cell? ⟨w.heap.size, 0, none⟩ = some (.int .i64 ca) := Ba1.out.cell 0
  have ya1 : w1.cell? ⟨w.heap.size, 1, none⟩ = some (.bool na) := Ba1.out.cell 1
  have ya2 : w1.cell? ⟨w.heap.size, 2, none⟩ = some (.string ta) := Ba1.out.cell 2
  have ya3 : w1.cell? ⟨w.heap.size, 3, none⟩ = some (.int .i64 ea) := Ba1.out.cell 3
  have yr0 : w1.cell? ⟨w.heap.size + 1, 0, none⟩ = some (.int .i64 0) := Br1.out.cell 0
  have yr1 : w1.cell? ⟨w.heap.size + 1, 1, none⟩ = some (.bool false) := Br1.out.cell 1
  have yr2 : w1.cell? ⟨w.heap.size + 1, 2, none⟩ = some (.string ⟨#[]⟩) := Br1.out.cell 2
  have yr3 : w1.cell? ⟨w.heap.size + 1, 3, none⟩ = some (.int .i64 0) := Br1.out.cell 3
  go_wp2_with fail
  refine (KS.out _).mono ?_
  rintro e w2 ⟨rfl, hb⟩
  clear KS
  have Ba2 := hide (Ba1.out.below hb Ba1.out.lt)
  have Br2 := hide (Br1.out.below hb Br1.out.lt)
  have HB2 := hide (HB1.out.trans (hb.mono HB1.out.size))
  clear hb Ba1 Br1 HB1 ya0 ya1 ya2 ya3 yr0 yr1 yr2 yr3
  have ya0 : w2.cell? ⟨w.heap.size, 0, none⟩ = some (.int .i64 ca) := Ba2.out.cell 0
  have ya1 : w2.cell? ⟨w.heap.size, 1, none⟩ = some (.bool na) := Ba2.out.cell 1
  have ya2 : w2.cell? ⟨w.heap.size, 2, none⟩ = some (.string ta) := Ba2.out.cell 2
  have ya3 : w2.cell? ⟨w.heap.size, 3, none⟩ = some (.int .i64 ea) := Ba2.out.cell 3
  have yr0 : w2.cell? ⟨w.heap.size + 1, 0, none⟩ = some (.int .i64 0) := Br2.out.cell 0
  have yr1 : w2.cell? ⟨w.heap.size + 1, 1, none⟩ = some (.bool false) := Br2.out.cell 1
  have yr2 : w2.cell? ⟨w.heap.size + 1, 2, none⟩ = some (.string ⟨#[]⟩) := Br2.out.cell 2
  have yr3 : w2.cell? ⟨w.heap.size + 1, 3, none⟩ = some (.int .i64 0) := Br2.out.cell 3
  go_wp2_with fail
  refine (KO.out _).mono ?_
  rintro e w3 ⟨⟨s1, o1, l1, c1, rfl, Z1⟩, hb⟩
  clear KO
  have Ba3 := hide (Ba2.out.below hb Ba2.out.lt)
  have Br3 := hide (Br2.out.below hb Br2.out.lt)
  have HB3 := hide (HB2.out.trans (hb.mono HB2.out.size))
  clear hb Ba2 Br2 HB2 ya0 ya1 ya2 ya3 yr0 yr1 yr2 yr3
  have ya0 : w3.cell? ⟨w.heap.size, 0, none⟩ = some (.int .i64 ca) := Ba3.out.cell 0
  have ya1 : w3.cell? ⟨w.heap.size, 1, none⟩ = some (.bool na) := Ba3.out.cell 1
  have ya2 : w3.cell? ⟨w.heap.size, 2, none⟩ = some (.string ta) := Ba3.out.cell 2
  have ya3 : w3.cell? ⟨w.heap.size, 3, none⟩ = some (.int .i64 ea) := Ba3.out.cell 3
  have yr0 : w3.cell? ⟨w.heap.size + 1, 0, none⟩ = some (.int .i64 0) := Br3.out.cell 0
  have yr1 : w3.cell? ⟨w.heap.size + 1, 1, none⟩ = some (.bool false) := Br3.out.cell 1
  have yr2 : w3.cell? ⟨w.heap.size + 1, 2, none⟩ = some (.string ⟨#[]⟩) := Br3.out.cell 2
  have yr3 : w3.cell? ⟨w.heap.size + 1, 3, none⟩ = some (.int .i64 0) := Br3.out.cell 3
  go_wp2_with fail
  refine (rpower q _).mono ?_
  rintro e w4 ⟨⟨s2, o2, l2, c2, rfl, Z2⟩, hb⟩
  have Y1 := hide (Z1.out.below hb)
  clear Z1
  have Ba4 := hide (Ba3.out.below hb Ba3.out.lt)
  have Br4 := hide (Br3.out.below hb Br3.out.lt)
  have HB4 := hide (HB3.out.trans (hb.mono HB3.out.size))
  clear hb Ba3 Br3 HB3 ya0 ya1 ya2 ya3 yr0 yr1 yr2 yr3
  have ya0 : w4.cell? ⟨w.heap.size, 0, none⟩ = some (.int .i64 ca) := Ba4.out.cell 0
  have ya1 : w4.cell? ⟨w.heap.size, 1, none⟩ = some (.bool na) := Ba4.out.cell 1
  have ya2 : w4.cell? ⟨w.heap.size, 2, none⟩ = some (.string ta) := Ba4.out.cell 2
  have ya3 : w4.cell? ⟨w.heap.size, 3, none⟩ = some (.int .i64 ea) := Ba4.out.cell 3
  have yr0 : w4.cell? ⟨w.heap.size + 1, 0, none⟩ = some (.int .i64 0) := Br4.out.cell 0
  have yr1 : w4.cell? ⟨w.heap.size + 1, 1, none⟩ = some (.bool false) := Br4.out.cell 1
  have yr2 : w4.cell? ⟨w.heap.size + 1, 2, none⟩ = some (.string ⟨#[]⟩) := Br4.out.cell 2
  have yr3 : w4.cell? ⟨w.heap.size + 1, 3, none⟩ = some (.int .i64 0) := Br4.out.cell 3
  have CT := hide (KT.out _ _ _ _ _ _ _ _ _ Y1.out (Z2.out.lo (Nat.zero_le _) (Nat.le_refl _)))
  clear KT Y1 Z2
  go_wp2_with fail
  refine (CT.out).mono ?_
  rintro e w5 ⟨⟨s3, o3, l3, c3, rfl, Z3⟩, hb⟩
  clear CT
  have Ba5 := hide (Ba4.out.below hb Ba4.out.lt)
  have Br5 := hide (Br4.out.below hb Br4.out.lt)
  have HB5 := hide (HB4.out.trans (hb.mono HB4.out.size))
  clear hb Ba4 Br4 HB4 ya0 ya1 ya2 ya3 yr0 yr1 yr2 yr3
  have ya0 : w5.cell? ⟨w.heap.size, 0, none⟩ = some (.int .i64 ca) := Ba5.out.cell 0
  have ya1 : w5.cell? ⟨w.heap.size, 1, none⟩ = some (.bool na) := Ba5.out.cell 1
  have ya2 : w5.cell? ⟨w.heap.size, 2, none⟩ = some (.string ta) := Ba5.out.cell 2
  have ya3 : w5.cell? ⟨w.heap.size, 3, none⟩ = some (.int .i64 ea) := Ba5.out.cell 3
  have yr0 : w5.cell? ⟨w.heap.size + 1, 0, none⟩ = some (.int .i64 0) := Br5.out.cell 0
  have yr1 : w5.cell? ⟨w.heap.size + 1, 1, none⟩ = some (.bool false) := Br5.out.cell 1
  have yr2 : w5.cell? ⟨w.heap.size + 1, 2, none⟩ = some (.string ⟨#[]⟩) := Br5.out.cell 2
  have yr3 : w5.cell? ⟨w.heap.size + 1, 3, none⟩ = some (.int .i64 0) := Br5.out.cell 3
  have Ba6 := hide ((Ba5.out.alloc (.cells #[.bool s3, .slice o3 l3 c3, .int .i64 E] 71)))
  have Br6 := hide ((Br5.out.alloc (.cells #[.bool s3, .slice o3 l3 c3, .int .i64 E] 71)))
  have Bx6 := hide ((Blk.newAt w5 (w5.heap.size) (rfl) #[.bool s3, .slice o3 l3 c3, .int .i64 E] 71))
  have HB6 : Hid (Below w.heap.size w (w5.alloc (.cells #[.bool s3, .slice o3 l3 c3, .int .i64 E] 71))) := (HB5.out.alloc HB5.out.size _)
  clear Ba5 Br5 HB5 ya0 ya1 ya2 ya3 yr0 yr1 yr2 yr3
  have ya0 : (w5.alloc (.cells #[.bool s3, .slice o3 l3 c3, .int .i64 E] 71)).cell? ⟨w.heap.size, 0, none⟩ = some (.int .i64 ca) := Ba6.out.cell 0
  have ya1 : (w5.alloc (.cells #[.bool s3, .slice o3 l3 c3, .int .i64 E] 71)).cell? ⟨w.heap.size, 1, none⟩ = some (.bool na) := Ba6.out.cell 1
  have ya2 : (w5.alloc (.cells #[.bool s3, .slice o3 l3 c3, .int .i64 E] 71)).cell? ⟨w.heap.size, 2, none⟩ = some (.string ta) := Ba6.out.cell 2
  have ya3 : (w5.alloc (.cells #[.bool s3, .slice o3 l3 c3, .int .i64 E] 71)).cell? ⟨w.heap.size, 3, none⟩ = some (.int .i64 ea) := Ba6.out.cell 3
  have yr0 : (w5.alloc (.cells #[.bool s3, .slice o3 l3 c3, .int .i64 E] 71)).cell? ⟨w.heap.size + 1, 0, none⟩ = some (.int .i64 0) := Br6.out.cell 0
  have yr1 : (w5.alloc (.cells #[.bool s3, .slice o3 l3 c3, .int .i64 E] 71)).cell? ⟨w.heap.size + 1, 1, none⟩ = some (.bool false) := Br6.out.cell 1
  have yr2 : (w5.alloc (.cells #[.bool s3, .slice o3 l3 c3, .int .i64 E] 71)).cell? ⟨w.heap.size + 1, 2, none⟩ = some (.string ⟨#[]⟩) := Br6.out.cell 2
  have yr3 : (w5.alloc (.cells #[.bool s3, .slice o3 l3 c3, .int .i64 E] 71)).cell? ⟨w.heap.size + 1, 3, none⟩ = some (.int .i64 0) := Br6.out.cell 3
  have yx0 : (w5.alloc (.cells #[.bool s3, .slice o3 l3 c3, .int .i64 E] 71)).cell? ⟨w5.heap.size, 0, none⟩ = some (.bool s3) := Bx6.out.cell 0
  have yx1 : (w5.alloc (.cells #[.bool s3, .slice o3 l3 c3, .int .i64 E] 71)).cell? ⟨w5.heap.size, 1, none⟩ = some (.slice o3 l3 c3) := Bx6.out.cell 1
  have yx2 : (w5.alloc (.cells #[.bool s3, .slice o3 l3 c3, .int .i64 E] 71)).cell? ⟨w5.heap.size, 2, none⟩ = some (.int .i64 E) := Bx6.out.cell 2
  have CD := hide (KD.out _ _ _ _ _ (Z3.out.below ((Below.refl _ _).alloc (Nat.le_refl _) (.cells #[.bool s3, .slice o3 l3 c3, .int .i64 E] 71))))
  clear KD Z3
  go_wp2_with fail
  refine (CD.out).mono ?_
  rintro e w7 ⟨rfl, hb⟩
  clear CD
  have Ba7 := hide (Ba6.out.below hb Ba6.out.lt)
  have Br7 := hide (Br6.out.below hb Br6.out.lt)
  have Bx7 := hide (Bx6.out.below hb Bx6.out.lt)
  have HB7 := hide (HB6.out.trans (hb.mono HB6.out.size))
  clear hb Ba6 Br6 Bx6 HB6 ya0 ya1 ya2 ya3 yr0 yr1 yr2 yr3 yx0 yx1 yx2
  have ya0 : w7.cell? ⟨w.heap.size, 0, none⟩ = some (.int .i64 ca) := Ba7.out.cell 0
  have ya1 : w7.cell? ⟨w.heap.size, 1, none⟩ = some (.bool na) := Ba7.out.cell 1
  have ya2 : w7.cell? ⟨w.heap.size, 2, none⟩ = some (.string ta) := Ba7.out.cell 2
  have ya3 : w7.cell? ⟨w.heap.size, 3, none⟩ = some (.int .i64 ea) := Ba7.out.cell 3
  have yr0 : w7.cell? ⟨w.heap.size + 1, 0, none⟩ = some (.int .i64 0) := Br7.out.cell 0
  have yr1 : w7.cell? ⟨w.heap.size + 1, 1, none⟩ = some (.bool false) := Br7.out.cell 1
  have yr2 : w7.cell? ⟨w.heap.size + 1, 2, none⟩ = some (.string ⟨#[]⟩) := Br7.out.cell 2
  have yr3 : w7.cell? ⟨w.heap.size + 1, 3, none⟩ = some (.int .i64 0) := Br7.out.cell 3
  have yx0 : w7.cell? ⟨w5.heap.size, 0, none⟩ = some (.bool s3) := Bx7.out.cell 0
  have yx1 : w7.cell? ⟨w5.heap.size, 1, none⟩ = some (.slice o3 l3 c3) := Bx7.out.cell 1
  have yx2 : w7.cell? ⟨w5.heap.size, 2, none⟩ = some (.int .i64 E) := Bx7.out.cell 2
  have Ba8 := hide ((Ba7.out.alloc (.cells #[.int .i64 0, .bool false, .string ⟨#[]⟩, .int .i64 0] 23)))
  have Br8 := hide ((Br7.out.alloc (.cells #[.int .i64 0, .bool false, .string ⟨#[]⟩, .int .i64 0] 23)))
  have Bx8 := hide ((Bx7.out.alloc (.cells #[.int .i64 0, .bool false, .string ⟨#[]⟩, .int .i64 0] 23)))
  have By8 := hide ((Blk.newAt w7 (w7.heap.size) (rfl) #[.int .i64 0, .bool false, .string ⟨#[]⟩, .int .i64 0] 23))
  have HB8 : Hid (Below w.heap.size w (w7.alloc (.cells #[.int .i64 0, .bool false, .string ⟨#[]⟩, .int .i64 0] 23))) := (HB7.out.alloc HB7.out.size _)
  clear Ba7 Br7 Bx7 HB7 ya0 ya1 ya2 ya3 yr0 yr1 yr2 yr3 yx0 yx1 yx2
  have ya0 : (w7.alloc (.cells #[.int .i64 0, .bool false, .string ⟨#[]⟩, .int .i64 0] 23)).cell? ⟨w.heap.size, 0, none⟩ = some (.int .i64 ca) := Ba8.out.cell 0
  have ya1 : (w7.alloc (.cells #[.int .i64 0, .bool false, .string ⟨#[]⟩, .int .i64 0] 23)).cell? ⟨w.heap.size, 1, none⟩ = some (.bool na) := Ba8.out.cell 1
  have ya2 : (w7.alloc (.cells #[.int .i64 0, .bool false, .string ⟨#[]⟩, .int .i64 0] 23)).cell? ⟨w.heap.size, 2, none⟩ = some (.string ta) := Ba8.out.cell 2
  have ya3 : (w7.alloc (.cells #[.int .i64 0, .bool false, .string ⟨#[]⟩, .int .i64 0] 23)).cell? ⟨w.heap.size, 3, none⟩ = some (.int .i64 ea) := Ba8.out.cell 3
  have yr0 : (w7.alloc (.cells #[.int .i64 0, .bool false, .string ⟨#[]⟩, .int .i64 0] 23)).cell? ⟨w.heap.size + 1, 0, none⟩ = some (.int .i64 0) := Br8.out.cell 0
  have yr1 : (w7.alloc (.cells #[.int .i64 0, .bool false, .string ⟨#[]⟩, .int .i64 0] 23)).cell? ⟨w.heap.size + 1, 1, none⟩ = some (.bool false) := Br8.out.cell 1
  have yr2 : (w7.alloc (.cells #[.int .i64 0, .bool false, .string ⟨#[]⟩, .int .i64 0] 23)).cell? ⟨w.heap.size + 1, 2, none⟩ = some (.string ⟨#[]⟩) := Br8.out.cell 2
  have yr3 : (w7.alloc (.cells #[.int .i64 0, .bool false, .string ⟨#[]⟩, .int .i64 0] 23)).cell? ⟨w.heap.size + 1, 3, none⟩ = some (.int .i64 0) := Br8.out.cell 3
  have yx0 : (w7.alloc (.cells #[.int .i64 0, .bool false, .string ⟨#[]⟩, .int .i64 0] 23)).cell? ⟨w5.heap.size, 0, none⟩ = some (.bool s3) := Bx8.out.cell 0
  have yx1 : (w7.alloc (.cells #[.int .i64 0, .bool false, .string ⟨#[]⟩, .int .i64 0] 23)).cell? ⟨w5.heap.size, 1, none⟩ = some (.slice o3 l3 c3) := Bx8.out.cell 1
  have yx2 : (w7.alloc (.cells #[.int .i64 0, .bool false, .string ⟨#[]⟩, .int .i64 0] 23)).cell? ⟨w5.heap.size, 2, none⟩ = some (.int .i64 E) := Bx8.out.cell 2
  have yy0 : (w7.alloc (.cells #[.int .i64 0, .bool false, .string ⟨#[]⟩, .int .i64 0] 23)).cell? ⟨w7.heap.size, 0, none⟩ = some (.int .i64 0) := By8.out.cell 0
  have yy1 : (w7.alloc (.cells #[.int .i64 0, .bool false, .string ⟨#[]⟩, .int .i64 0] 23)).cell? ⟨w7.heap.size, 1, none⟩ = some (.bool false) := By8.out.cell 1
  have yy2 : (w7.alloc (.cells #[.int .i64 0, .bool false, .string ⟨#[]⟩, .int .i64 0] 23)).cell? ⟨w7.heap.size, 2, none⟩ = some (.string ⟨#[]⟩) := By8.out.cell 2
  have yy3 : (w7.alloc (.cells #[.int .i64 0, .bool false, .string ⟨#[]⟩, .int .i64 0] 23)).cell? ⟨w7.heap.size, 3, none⟩ = some (.int .i64 0) := By8.out.cell 3
  have fr0 := Br8.out.free 0
  have fr1 := Br8.out.free 1
  have fr2 := Br8.out.free 2
  have fr3 := Br8.out.free 3
  go_wp2
  refine bodyPost_ret (results_dec2 rfl _ _ _ _ _ _ _ rfl (Br8.out.put4 _ _ _ _)) rfl ?_
  exact ⟨rfl, below_put4 (HB8.out) (by omega) _ _ _ _⟩

set_option maxRecDepth 100000 in
set_option maxHeartbeats 4000000 in
theorem rAt_B_yes (ca : Int) (na : Bool) (ta : ByteArray) (ea : Int) (p m q E z1 z2 : Int) (cd : Int) (nd : Bool) (td : ByteArray) (ed : Int) (w : World) (h : MayD ca na (bys ta) ea) (m1 : 0 ≤ m) (m2 : m < 8) (p1 : -4000 ≤ p) (p2 : p ≤ 4000) (hz : ta.size ≠ 0) (hS : ∀ W, Calls Tryz.prog 43 #[dcV ca na ta ea, .int .i64 p] W fun e w' => e = .returned (.int .i64 q) ∧ Below W.heap.size W w') (hO : ∀ X, Calls Tryz.prog 45 #[dcV ca na ta ea] X fun e w' => (∃ s o l c, e = .returned (.agg #[.bool s, .slice o l c, .int .i64 ea]) ∧ Hid (RI w' s o l c z1 1002 0)) ∧ Below X.heap.size X w') (hT : ∀ X (s : Bool) (o : Option Addr) (l c : Nat) (s' : Bool) (o' : Option Addr) (l' c' : Nat), RI X s o l c z1 1002 0 → RI X s' o' l' c' 1 2 0 → Calls Tryz.prog 44 #[.agg #[.bool s, .slice o l c, .int .i64 ea], .agg #[.bool s', .slice o' l' c', .int .i64 q], .int .i64 m] X fun e w' => (∃ s o l c, e = .returned (.agg #[.bool s, .slice o l c, .int .i64 E]) ∧ Hid (RI w' s o l c z2 8430 0)) ∧ Below X.heap.size X w') (hq : q < p) (hzz : z2 = 0) (hD : ∀ X (s : Bool) (o : Option Addr) (l c : Nat), RI X s o l c z2 8430 0 → Calls Tryz.prog 48 #[.agg #[.bool s, .slice o l c, .int .i64 E], .bool na] X fun e w' => e = .returned (.tuple #[.agg #[.int .i64 cd, .bool nd, .string td, .int .i64 ed], .bool true]) ∧ Below X.heap.size X w') : Calls Tryz.prog 17 #[dcV ca na ta ea, .int .i64 p, .int .i64 m] w fun e w' => e = .returned (.tuple #[.agg #[.int .i64 cd, .bool nd, .string td, .int .i64 ed], .int .i64 0]) ∧ Below w.heap.size w w' := by
  have KD := hide hD
  clear hD
  have CK := hide (fun W => rmay_yes ca na ta ea W h)
  clear h
  have m7 : ¬ 7 < m := by omega
  have m0 : ¬ m < 0 := by omega
  have n1 : ¬ p < -4000 := by omega
  have n2 : ¬ 4000 < p := by omega
  have hz2 := toList_ne hz
  have KS := hide hS
  have KO := hide hO
  have KT := hide hT
  clear hS hO hT hz
  have HZ := hide hzz
  clear hzz
  have Ba0 := hide ((Blk.newAt w (w.heap.size) (rfl) #[.int .i64 ca, .bool na, .string ta, .int .i64 ea] 23).alloc (.cells #[.int .i64 0, .bool false, .string ⟨#[]⟩, .int .i64 0] 23))
  have Br0 := hide (Blk.newAt (w.alloc (.cells #[.int .i64 ca, .bool na, .string ta, .int .i64 ea] 23)) (w.heap.size + 1) (by simp) #[.int .i64 0, .bool false, .string ⟨#[]⟩, .int .i64 0] 23)
  have HB0 : Hid (Below w.heap.size w ((w.alloc (.cells #[.int .i64 ca, .bool na, .string ta, .int .i64 ea] 23)).alloc (.cells #[.int .i64 0, .bool false, .string ⟨#[]⟩, .int .i64 0] 23))) := (((Below.refl _ _).alloc (Nat.le_refl _) _).alloc (by simp <;> omega) _)
  go_enter Tryz.func17, Tryz.ntmps17
  go_wp2_with fail
  refine (CK.out _).mono ?_
  rintro e w1 ⟨rfl, hb⟩
  clear CK
  have Ba1 := hide (Ba0.out.below hb Ba0.out.lt)
  have Br1 := hide (Br0.out.below hb Br0.out.lt)
  have HB1 := hide (HB0.out.trans (hb.mono HB0.out.size))
  clear hb Ba0 Br0 HB0 
  have ya0 : w1.cell? ⟨w.heap.size, 0, none⟩ = some (.int .i64 ca) := Ba1.out.cell 0
  have ya1 : w1.cell? ⟨w.heap.size, 1, none⟩ = some (.bool na) := Ba1.out.cell 1
  have ya2 : w1.cell? ⟨w.heap.size, 2, none⟩ = some (.string ta) := Ba1.out.cell 2
  have ya3 : w1.cell? ⟨w.heap.size, 3, none⟩ = some (.int .i64 ea) := Ba1.out.cell 3
  have yr0 : w1.cell? ⟨w.heap.size + 1, 0, none⟩ = some (.int .i64 0) := Br1.out.cell 0
  have yr1 : w1.cell? ⟨w.heap.size + 1, 1, none⟩ = some (.bool false) := Br1.out.cell 1
  have yr2 : w1.cell? ⟨w.heap.size + 1, 2, none⟩ = some (.string ⟨#[]⟩) := Br1.out.cell 2
  have yr3 : w1.cell? ⟨w.heap.size + 1, 3, none⟩ = some (.int .i64 0) := Br1.out.cell 3
  go_wp2_with fail
  refine (KS.out _).mono ?_
  rintro e w2 ⟨rfl, hb⟩
  clear KS
  have Ba2 := hide (Ba1.out.below hb Ba1.out.lt)
  have Br2 := hide (Br1.out.below hb Br1.out.lt)
  have HB2 := hide (HB1.out.trans (hb.mono HB1.out.size))
  clear hb Ba1 Br1 HB1 ya0 ya1 ya2 ya3 yr0 yr1 yr2 yr3
  have ya0 : w2.cell? ⟨w.heap.size, 0, none⟩ = some (.int .i64 ca) := Ba2.out.cell 0
  have ya1 : w2.cell? ⟨w.heap.size, 1, none⟩ = some (.bool na) := Ba2.out.cell 1
  have ya2 : w2.cell? ⟨w.heap.size, 2, none⟩ = some (.string ta) := Ba2.out.cell 2
  have ya3 : w2.cell? ⟨w.heap.size, 3, none⟩ = some (.int .i64 ea) := Ba2.out.cell 3
  have yr0 : w2.cell? ⟨w.heap.size + 1, 0, none⟩ = some (.int .i64 0) := Br2.out.cell 0
  have yr1 : w2.cell? ⟨w.heap.size + 1, 1, none⟩ = some (.bool false) := Br2.out.cell 1
  have yr2 : w2.cell? ⟨w.heap.size + 1, 2, none⟩ = some (.string ⟨#[]⟩) := Br2.out.cell 2
  have yr3 : w2.cell? ⟨w.heap.size + 1, 3, none⟩ = some (.int .i64 0) := Br2.out.cell 3
  go_wp2_with fail
  refine (KO.out _).mono ?_
  rintro e w3 ⟨⟨s1, o1, l1, c1, rfl, Z1⟩, hb⟩
  clear KO
  have Ba3 := hide (Ba2.out.below hb Ba2.out.lt)
  have Br3 := hide (Br2.out.below hb Br2.out.lt)
  have HB3 := hide (HB2.out.trans (hb.mono HB2.out.size))
  clear hb Ba2 Br2 HB2 ya0 ya1 ya2 ya3 yr0 yr1 yr2 yr3
  have ya0 : w3.cell? ⟨w.heap.size, 0, none⟩ = some (.int .i64 ca) := Ba3.out.cell 0
  have ya1 : w3.cell? ⟨w.heap.size, 1, none⟩ = some (.bool na) := Ba3.out.cell 1
  have ya2 : w3.cell? ⟨w.heap.size, 2, none⟩ = some (.string ta) := Ba3.out.cell 2
  have ya3 : w3.cell? ⟨w.heap.size, 3, none⟩ = some (.int .i64 ea) := Ba3.out.cell 3
  have yr0 : w3.cell? ⟨w.heap.size + 1, 0, none⟩ = some (.int .i64 0) := Br3.out.cell 0
  have yr1 : w3.cell? ⟨w.heap.size + 1, 1, none⟩ = some (.bool false) := Br3.out.cell 1
  have yr2 : w3.cell? ⟨w.heap.size + 1, 2, none⟩ = some (.string ⟨#[]⟩) := Br3.out.cell 2
  have yr3 : w3.cell? ⟨w.heap.size + 1, 3, none⟩ = some (.int .i64 0) := Br3.out.cell 3
  go_wp2_with fail
  refine (rpower q _).mono ?_
  rintro e w4 ⟨⟨s2, o2, l2, c2, rfl, Z2⟩, hb⟩
  have Y1 := hide (Z1.out.below hb)
  clear Z1
  have Ba4 := hide (Ba3.out.below hb Ba3.out.lt)
  have Br4 := hide (Br3.out.below hb Br3.out.lt)
  have HB4 := hide (HB3.out.trans (hb.mono HB3.out.size))
  clear hb Ba3 Br3 HB3 ya0 ya1 ya2 ya3 yr0 yr1 yr2 yr3
  have ya0 : w4.cell? ⟨w.heap.size, 0, none⟩ = some (.int .i64 ca) := Ba4.out.cell 0
  have ya1 : w4.cell? ⟨w.heap.size, 1, none⟩ = some (.bool na) := Ba4.out.cell 1
  have ya2 : w4.cell? ⟨w.heap.size, 2, none⟩ = some (.string ta) := Ba4.out.cell 2
  have ya3 : w4.cell? ⟨w.heap.size, 3, none⟩ = some (.int .i64 ea) := Ba4.out.cell 3
  have yr0 : w4.cell? ⟨w.heap.size + 1, 0, none⟩ = some (.int .i64 0) := Br4.out.cell 0
  have yr1 : w4.cell? ⟨w.heap.size + 1, 1, none⟩ = some (.bool false) := Br4.out.cell 1
  have yr2 : w4.cell? ⟨w.heap.size + 1, 2, none⟩ = some (.string ⟨#[]⟩) := Br4.out.cell 2
  have yr3 : w4.cell? ⟨w.heap.size + 1, 3, none⟩ = some (.int .i64 0) := Br4.out.cell 3
  have CT := hide (KT.out _ _ _ _ _ _ _ _ _ Y1.out (Z2.out.lo (Nat.zero_le _) (Nat.le_refl _)))
  clear KT Y1 Z2
  go_wp2_with fail
  refine (CT.out).mono ?_
  rintro e w5 ⟨⟨s3, o3, l3, c3, rfl, Z3⟩, hb⟩
  clear CT
  have Ba5 := hide (Ba4.out.below hb Ba4.out.lt)
  have Br5 := hide (Br4.out.below hb Br4.out.lt)
  have HB5 := hide (HB4.out.trans (hb.mono HB4.out.size))
  clear hb Ba4 Br4 HB4 ya0 ya1 ya2 ya3 yr0 yr1 yr2 yr3
  have ya0 : w5.cell? ⟨w.heap.size, 0, none⟩ = some (.int .i64 ca) := Ba5.out.cell 0
  have ya1 : w5.cell? ⟨w.heap.size, 1, none⟩ = some (.bool na) := Ba5.out.cell 1
  have ya2 : w5.cell? ⟨w.heap.size, 2, none⟩ = some (.string ta) := Ba5.out.cell 2
  have ya3 : w5.cell? ⟨w.heap.size, 3, none⟩ = some (.int .i64 ea) := Ba5.out.cell 3
  have yr0 : w5.cell? ⟨w.heap.size + 1, 0, none⟩ = some (.int .i64 0) := Br5.out.cell 0
  have yr1 : w5.cell? ⟨w.heap.size + 1, 1, none⟩ = some (.bool false) := Br5.out.cell 1
  have yr2 : w5.cell? ⟨w.heap.size + 1, 2, none⟩ = some (.string ⟨#[]⟩) := Br5.out.cell 2
  have yr3 : w5.cell? ⟨w.heap.size + 1, 3, none⟩ = some (.int .i64 0) := Br5.out.cell 3
  obtain rfl := (ri_len Z3.out).2 HZ.out
  clear HZ
  have Ba6 := hide ((Ba5.out.alloc (.cells #[.bool s3, .slice o3 0 c3, .int .i64 E] 71)))
  have Br6 := hide ((Br5.out.alloc (.cells #[.bool s3, .slice o3 0 c3, .int .i64 E] 71)))
  have Bx6 := hide ((Blk.newAt w5 (w5.heap.size) (rfl) #[.bool s3, .slice o3 0 c3, .int .i64 E] 71))
  have HB6 : Hid (Below w.heap.size w (w5.alloc (.cells #[.bool s3, .slice o3 0 c3, .int .i64 E] 71))) := (HB5.out.alloc HB5.out.size _)
  clear Ba5 Br5 HB5 ya0 ya1 ya2 ya3 yr0 yr1 yr2 yr3
  have ya0 : (w5.alloc (.cells #[.bool s3, .slice o3 0 c3, .int .i64 E] 71)).cell? ⟨w.heap.size, 0, none⟩ = some (.int .i64 ca) := Ba6.out.cell 0
  have ya1 : (w5.alloc (.cells #[.bool s3, .slice o3 0 c3, .int .i64 E] 71)).cell? ⟨w.heap.size, 1, none⟩ = some (.bool na) := Ba6.out.cell 1
  have ya2 : (w5.alloc (.cells #[.bool s3, .slice o3 0 c3, .int .i64 E] 71)).cell? ⟨w.heap.size, 2, none⟩ = some (.string ta) := Ba6.out.cell 2
  have ya3 : (w5.alloc (.cells #[.bool s3, .slice o3 0 c3, .int .i64 E] 71)).cell? ⟨w.heap.size, 3, none⟩ = some (.int .i64 ea) := Ba6.out.cell 3
  have yr0 : (w5.alloc (.cells #[.bool s3, .slice o3 0 c3, .int .i64 E] 71)).cell? ⟨w.heap.size + 1, 0, none⟩ = some (.int .i64 0) := Br6.out.cell 0
  have yr1 : (w5.alloc (.cells #[.bool s3, .slice o3 0 c3, .int .i64 E] 71)).cell? ⟨w.heap.size + 1, 1, none⟩ = some (.bool false) := Br6.out.cell 1
  have yr2 : (w5.alloc (.cells #[.bool s3, .slice o3 0 c3, .int .i64 E] 71)).cell? ⟨w.heap.size + 1, 2, none⟩ = some (.string ⟨#[]⟩) := Br6.out.cell 2
  have yr3 : (w5.alloc (.cells #[.bool s3, .slice o3 0 c3, .int .i64 E] 71)).cell? ⟨w.heap.size + 1, 3, none⟩ = some (.int .i64 0) := Br6.out.cell 3
  have yx0 : (w5.alloc (.cells #[.bool s3, .slice o3 0 c3, .int .i64 E] 71)).cell? ⟨w5.heap.size, 0, none⟩ = some (.bool s3) := Bx6.out.cell 0
  have yx1 : (w5.alloc (.cells #[.bool s3, .slice o3 0 c3, .int .i64 E] 71)).cell? ⟨w5.heap.size, 1, none⟩ = some (.slice o3 0 c3) := Bx6.out.cell 1
  have yx2 : (w5.alloc (.cells #[.bool s3, .slice o3 0 c3, .int .i64 E] 71)).cell? ⟨w5.heap.size, 2, none⟩ = some (.int .i64 E) := Bx6.out.cell 2
  have CD := hide (KD.out _ _ _ _ _ (Z3.out.below ((Below.refl _ _).alloc (Nat.le_refl _) (.cells #[.bool s3, .slice o3 0 c3, .int .i64 E] 71))))
  clear KD Z3
  go_wp2_with fail
  refine (CD.out).mono ?_
  rintro e w7 ⟨rfl, hb⟩
  clear CD
  have Ba7 := hide (Ba6.out.below hb Ba6.out.lt)
  have Br7 := hide (Br6.out.below hb Br6.out.lt)
  have Bx7 := hide (Bx6.out.below hb Bx6.out.lt)
  have HB7 := hide (HB6.out.trans (hb.mono HB6.out.size))
  clear hb Ba6 Br6 Bx6 HB6 ya0 ya1 ya2 ya3 yr0 yr1 yr2 yr3 yx0 yx1 yx2
  have ya0 : w7.cell? ⟨w.heap.size, 0, none⟩ = some (.int .i64 ca) := Ba7.out.cell 0
  have ya1 : w7.cell? ⟨w.heap.size, 1, none⟩ = some (.bool na) := Ba7.out.cell 1
  have ya2 : w7.cell? ⟨w.heap.size, 2, none⟩ = some (.string ta) := Ba7.out.cell 2
  have ya3 : w7.cell? ⟨w.heap.size, 3, none⟩ = some (.int .i64 ea) := Ba7.out.cell 3
  have yr0 : w7.cell? ⟨w.heap.size + 1, 0, none⟩ = some (.int .i64 0) := Br7.out.cell 0
  have yr1 : w7.cell? ⟨w.heap.size + 1, 1, none⟩ = some (.bool false) := Br7.out.cell 1
  have yr2 : w7.cell? ⟨w.heap.size + 1, 2, none⟩ = some (.string ⟨#[]⟩) := Br7.out.cell 2
  have yr3 : w7.cell? ⟨w.heap.size + 1, 3, none⟩ = some (.int .i64 0) := Br7.out.cell 3
  have yx0 : w7.cell? ⟨w5.heap.size, 0, none⟩ = some (.bool s3) := Bx7.out.cell 0
  have yx1 : w7.cell? ⟨w5.heap.size, 1, none⟩ = some (.slice o3 0 c3) := Bx7.out.cell 1
  have yx2 : w7.cell? ⟨w5.heap.size, 2, none⟩ = some (.int .i64 E) := Bx7.out.cell 2
  have Ba8 := hide ((Ba7.out.alloc (.cells #[.int .i64 cd, .bool nd, .string td, .int .i64 ed] 23)))
  have Br8 := hide ((Br7.out.alloc (.cells #[.int .i64 cd, .bool nd, .string td, .int .i64 ed] 23)))
  have Bx8 := hide ((Bx7.out.alloc (.cells #[.int .i64 cd, .bool nd, .string td, .int .i64 ed] 23)))
  have By8 := hide ((Blk.newAt w7 (w7.heap.size) (rfl) #[.int .i64 cd, .bool nd, .string td, .int .i64 ed] 23))
  have HB8 : Hid (Below w.heap.size w (w7.alloc (.cells #[.int .i64 cd, .bool nd, .string td, .int .i64 ed] 23))) := (HB7.out.alloc HB7.out.size _)
  clear Ba7 Br7 Bx7 HB7 ya0 ya1 ya2 ya3 yr0 yr1 yr2 yr3 yx0 yx1 yx2
  have ya0 : (w7.alloc (.cells #[.int .i64 cd, .bool nd, .string td, .int .i64 ed] 23)).cell? ⟨w.heap.size, 0, none⟩ = some (.int .i64 ca) := Ba8.out.cell 0
  have ya1 : (w7.alloc (.cells #[.int .i64 cd, .bool nd, .string td, .int .i64 ed] 23)).cell? ⟨w.heap.size, 1, none⟩ = some (.bool na) := Ba8.out.cell 1
  have ya2 : (w7.alloc (.cells #[.int .i64 cd, .bool nd, .string td, .int .i64 ed] 23)).cell? ⟨w.heap.size, 2, none⟩ = some (.string ta) := Ba8.out.cell 2
  have ya3 : (w7.alloc (.cells #[.int .i64 cd, .bool nd, .string td, .int .i64 ed] 23)).cell? ⟨w.heap.size, 3, none⟩ = some (.int .i64 ea) := Ba8.out.cell 3
  have yr0 : (w7.alloc (.cells #[.int .i64 cd, .bool nd, .string td, .int .i64 ed] 23)).cell? ⟨w.heap.size + 1, 0, none⟩ = some (.int .i64 0) := Br8.out.cell 0
  have yr1 : (w7.alloc (.cells #[.int .i64 cd, .bool nd, .string td, .int .i64 ed] 23)).cell? ⟨w.heap.size + 1, 1, none⟩ = some (.bool false) := Br8.out.cell 1
  have yr2 : (w7.alloc (.cells #[.int .i64 cd, .bool nd, .string td, .int .i64 ed] 23)).cell? ⟨w.heap.size + 1, 2, none⟩ = some (.string ⟨#[]⟩) := Br8.out.cell 2
  have yr3 : (w7.alloc (.cells #[.int .i64 cd, .bool nd, .string td, .int .i64 ed] 23)).cell? ⟨w.heap.size + 1, 3, none⟩ = some (.int .i64 0) := Br8.out.cell 3
  have yx0 : (w7.alloc (.cells #[.int .i64 cd, .bool nd, .string td, .int .i64 ed] 23)).cell? ⟨w5.heap.size, 0, none⟩ = some (.bool s3) := Bx8.out.cell 0
  have yx1 : (w7.alloc (.cells #[.int .i64 cd, .bool nd, .string td, .int .i64 ed] 23)).cell? ⟨w5.heap.size, 1, none⟩ = some (.slice o3 0 c3) := Bx8.out.cell 1
  have yx2 : (w7.alloc (.cells #[.int .i64 cd, .bool nd, .string td, .int .i64 ed] 23)).cell? ⟨w5.heap.size, 2, none⟩ = some (.int .i64 E) := Bx8.out.cell 2
  have yy0 : (w7.alloc (.cells #[.int .i64 cd, .bool nd, .string td, .int .i64 ed] 23)).cell? ⟨w7.heap.size, 0, none⟩ = some (.int .i64 cd) := By8.out.cell 0
  have yy1 : (w7.alloc (.cells #[.int .i64 cd, .bool nd, .string td, .int .i64 ed] 23)).cell? ⟨w7.heap.size, 1, none⟩ = some (.bool nd) := By8.out.cell 1
  have yy2 : (w7.alloc (.cells #[.int .i64 cd, .bool nd, .string td, .int .i64 ed] 23)).cell? ⟨w7.heap.size, 2, none⟩ = some (.string td) := By8.out.cell 2
  have yy3 : (w7.alloc (.cells #[.int .i64 cd, .bool nd, .string td, .int .i64 ed] 23)).cell? ⟨w7.heap.size, 3, none⟩ = some (.int .i64 ed) := By8.out.cell 3
  have fr0 := Br8.out.free 0
  have fr1 := Br8.out.free 1
  have fr2 := Br8.out.free 2
  have fr3 := Br8.out.free 3
  go_wp2
  refine bodyPost_ret (results_dec2 rfl _ _ _ _ _ _ _ rfl (Br8.out.put4 _ _ _ _)) rfl ?_
  exact ⟨rfl, below_put4 (HB8.out) (by omega) _ _ _ _⟩

set_option maxRecDepth 100000 in
set_option maxHeartbeats 4000000 in
theorem rAt_B_no (ca : Int) (na : Bool) (ta : ByteArray) (ea : Int) (p m q E z1 z2 : Int) (w : World) (h : MayD ca na (bys ta) ea) (m1 : 0 ≤ m) (m2 : m < 8) (p1 : -4000 ≤ p) (p2 : p ≤ 4000) (hz : ta.size ≠ 0) (hS : ∀ W, Calls Tryz.prog 43 #[dcV ca na ta ea, .int .i64 p] W fun e w' => e = .returned (.int .i64 q) ∧ Below W.heap.size W w') (hO : ∀ X, Calls Tryz.prog 45 #[dcV ca na ta ea] X fun e w' => (∃ s o l c, e = .returned (.agg #[.bool s, .slice o l c, .int .i64 ea]) ∧ Hid (RI w' s o l c z1 1002 0)) ∧ Below X.heap.size X w') (hT : ∀ X (s : Bool) (o : Option Addr) (l c : Nat) (s' : Bool) (o' : Option Addr) (l' c' : Nat), RI X s o l c z1 1002 0 → RI X s' o' l' c' 1 2 0 → Calls Tryz.prog 44 #[.agg #[.bool s, .slice o l c, .int .i64 ea], .agg #[.bool s', .slice o' l' c', .int .i64 q], .int .i64 m] X fun e w' => (∃ s o l c, e = .returned (.agg #[.bool s, .slice o l c, .int .i64 E]) ∧ Hid (RI w' s o l c z2 8430 0)) ∧ Below X.heap.size X w') (hq : q < p) (hzz : z2 = 0) (hD : ∀ X (s : Bool) (o : Option Addr) (l c : Nat), RI X s o l c z2 8430 0 → Calls Tryz.prog 48 #[.agg #[.bool s, .slice o l c, .int .i64 E], .bool na] X fun e w' => e = .returned (.tuple #[.agg #[.int .i64 0, .bool false, .string ⟨#[]⟩, .int .i64 0], .bool false]) ∧ Below X.heap.size X w') : Calls Tryz.prog 17 #[dcV ca na ta ea, .int .i64 p, .int .i64 m] w fun e w' => e = .returned (.tuple #[.agg #[.int .i64 0, .bool false, .string ⟨#[]⟩, .int .i64 0], .int .i64 51]) ∧ Below w.heap.size w w' := by
  have KD := hide hD
  clear hD
  have CK := hide (fun W => rmay_yes ca na ta ea W h)
  clear h
  have m7 : ¬ 7 < m := by omega
  have m0 : ¬ m < 0 := by omega
  have n1 : ¬ p < -4000 := by omega
  have n2 : ¬ 4000 < p := by omega
  have hz2 := toList_ne hz
  have KS := hide hS
  have KO := hide hO
  have KT := hide hT
  clear hS hO hT hz
  have HZ := hide hzz
  clear hzz
  have Ba0 := hide ((Blk.newAt w (w.heap.size) (rfl) #[.int .i64 ca, .bool na, .string ta, .int .i64 ea] 23).alloc (.cells #[.int .i64 0, .bool false, .string ⟨#[]⟩, .int .i64 0] 23))
  have Br0 := hide (Blk.newAt (w.alloc (.cells #[.int .i64 ca, .bool na, .string ta, .int .i64 ea] 23)) (w.heap.size + 1) (by simp) #[.int .i64 0, .bool false, .string ⟨#[]⟩, .int .i64 0] 23)
  have HB0 : Hid (Below w.heap.size w ((w.alloc (.cells #[.int .i64 ca, .bool na, .string ta, .int .i64 ea] 23)).alloc (.cells #[.int .i64 0, .bool false, .string ⟨#[]⟩, .int .i64 0] 23))) := (((Below.refl _ _).alloc (Nat.le_refl _) _).alloc (by simp <;> omega) _)
  go_enter Tryz.func17, Tryz.ntmps17
  go_wp2_with fail
  refine (CK.out _).mono ?_
  rintro e w1 ⟨rfl, hb⟩
  clear CK
  have Ba1 := hide (Ba0.out.below hb Ba0.out.lt)
  have Br1 := hide (Br0.out.below hb Br0.out.lt)
  have HB1 := hide (HB0.out.trans (hb.mono HB0.out.size))
  clear hb Ba0 Br0 HB0 
  have ya0 : w1.cell? ⟨w.heap.size, 0, none⟩ = some (.int .i64 ca) := Ba1.out.cell 0
  have ya1 : w1.cell? ⟨w.heap.size, 1, none⟩ = some (.bool na) := Ba1.out.cell 1
  have ya2 : w1.cell? ⟨w.heap.size, 2, none⟩ = some (.string ta) := Ba1.out.cell 2
  have ya3 : w1.cell? ⟨w.heap.size, 3, none⟩ = some (.int .i64 ea) := Ba1.out.cell 3
  have yr0 : w1.cell? ⟨w.heap.size + 1, 0, none⟩ = some (.int .i64 0) := Br1.out.cell 0
  have yr1 : w1.cell? ⟨w.heap.size + 1, 1, none⟩ = some (.bool false) := Br1.out.cell 1
  have yr2 : w1.cell? ⟨w.heap.size + 1, 2, none⟩ = some (.string ⟨#[]⟩) := Br1.out.cell 2
  have yr3 : w1.cell? ⟨w.heap.size + 1, 3, none⟩ = some (.int .i64 0) := Br1.out.cell 3
  go_wp2_with fail
  refine (KS.out _).mono ?_
  rintro e w2 ⟨rfl, hb⟩
  clear KS
  have Ba2 := hide (Ba1.out.below hb Ba1.out.lt)
  have Br2 := hide (Br1.out.below hb Br1.out.lt)
  have HB2 := hide (HB1.out.trans (hb.mono HB1.out.size))
  clear hb Ba1 Br1 HB1 ya0 ya1 ya2 ya3 yr0 yr1 yr2 yr3
  have ya0 : w2.cell? ⟨w.heap.size, 0, none⟩ = some (.int .i64 ca) := Ba2.out.cell 0
  have ya1 : w2.cell? ⟨w.heap.size, 1, none⟩ = some (.bool na) := Ba2.out.cell 1
  have ya2 : w2.cell? ⟨w.heap.size, 2, none⟩ = some (.string ta) := Ba2.out.cell 2
  have ya3 : w2.cell? ⟨w.heap.size, 3, none⟩ = some (.int .i64 ea) := Ba2.out.cell 3
  have yr0 : w2.cell? ⟨w.heap.size + 1, 0, none⟩ = some (.int .i64 0) := Br2.out.cell 0
  have yr1 : w2.cell? ⟨w.heap.size + 1, 1, none⟩ = some (.bool false) := Br2.out.cell 1
  have yr2 : w2.cell? ⟨w.heap.size + 1, 2, none⟩ = some (.string ⟨#[]⟩) := Br2.out.cell 2
  have yr3 : w2.cell? ⟨w.heap.size + 1, 3, none⟩ = some (.int .i64 0) := Br2.out.cell 3
  go_wp2_with fail
  refine (KO.out _).mono ?_
  rintro e w3 ⟨⟨s1, o1, l1, c1, rfl, Z1⟩, hb⟩
  clear KO
  have Ba3 := hide (Ba2.out.below hb Ba2.out.lt)
  have Br3 := hide (Br2.out.below hb Br2.out.lt)
  have HB3 := hide (HB2.out.trans (hb.mono HB2.out.size))
  clear hb Ba2 Br2 HB2 ya0 ya1 ya2 ya3 yr0 yr1 yr2 yr3
  have ya0 : w3.cell? ⟨w.heap.size, 0, none⟩ = some (.int .i64 ca) := Ba3.out.cell 0
  have ya1 : w3.cell? ⟨w.heap.size, 1, none⟩ = some (.bool na) := Ba3.out.cell 1
  have ya2 : w3.cell? ⟨w.heap.size, 2, none⟩ = some (.string ta) := Ba3.out.cell 2
  have ya3 : w3.cell? ⟨w.heap.size, 3, none⟩ = some (.int .i64 ea) := Ba3.out.cell 3
  have yr0 : w3.cell? ⟨w.heap.size + 1, 0, none⟩ = some (.int .i64 0) := Br3.out.cell 0
  have yr1 : w3.cell? ⟨w.heap.size + 1, 1, none⟩ = some (.bool false) := Br3.out.cell 1
  have yr2 : w3.cell? ⟨w.heap.size + 1, 2, none⟩ = some (.string ⟨#[]⟩) := Br3.out.cell 2
  have yr3 : w3.cell? ⟨w.heap.size + 1, 3, none⟩ = some (.int .i64 0) := Br3.out.cell 3
  go_wp2_with fail
  refine (rpower q _).mono ?_
  rintro e w4 ⟨⟨s2, o2, l2, c2, rfl, Z2⟩, hb⟩
  have Y1 := hide (Z1.out.below hb)
  clear Z1
  have Ba4 := hide (Ba3.out.below hb Ba3.out.lt)
  have Br4 := hide (Br3.out.below hb Br3.out.lt)
  have HB4 := hide (HB3.out.trans (hb.mono HB3.out.size))
  clear hb Ba3 Br3 HB3 ya0 ya1 ya2 ya3 yr0 yr1 yr2 yr3
  have ya0 : w4.cell? ⟨w.heap.size, 0, none⟩ = some (.int .i64 ca) := Ba4.out.cell 0
  have ya1 : w4.cell? ⟨w.heap.size, 1, none⟩ = some (.bool na) := Ba4.out.cell 1
  have ya2 : w4.cell? ⟨w.heap.size, 2, none⟩ = some (.string ta) := Ba4.out.cell 2
  have ya3 : w4.cell? ⟨w.heap.size, 3, none⟩ = some (.int .i64 ea) := Ba4.out.cell 3
  have yr0 : w4.cell? ⟨w.heap.size + 1, 0, none⟩ = some (.int .i64 0) := Br4.out.cell 0
  have yr1 : w4.cell? ⟨w.heap.size + 1, 1, none⟩ = some (.bool false) := Br4.out.cell 1
  have yr2 : w4.cell? ⟨w.heap.size + 1, 2, none⟩ = some (.string ⟨#[]⟩) := Br4.out.cell 2
  have yr3 : w4.cell? ⟨w.heap.size + 1, 3, none⟩ = some (.int .i64 0) := Br4.out.cell 3
  have CT := hide (KT.out _ _ _ _ _ _ _ _ _ Y1.out (Z2.out.lo (Nat.zero_le _) (Nat.le_refl _)))
  clear KT Y1 Z2
  go_wp2_with fail
  refine (CT.out).mono ?_
  rintro e w5 ⟨⟨s3, o3, l3, c3, rfl, Z3⟩, hb⟩
  clear CT
  have Ba5 := hide (Ba4.out.below hb Ba4.out.lt)
  have Br5 := hide (Br4.out.below hb Br4.out.lt)
  have HB5 := hide (HB4.out.trans (hb.mono HB4.out.size))
  clear hb Ba4 Br4 HB4 ya0 ya1 ya2 ya3 yr0 yr1 yr2 yr3
  have ya0 : w5.cell? ⟨w.heap.size, 0, none⟩ = some (.int .i64 ca) := Ba5.out.cell 0
  have ya1 : w5.cell? ⟨w.heap.size, 1, none⟩ = some (.bool na) := Ba5.out.cell 1
  have ya2 : w5.cell? ⟨w.heap.size, 2, none⟩ = some (.string ta) := Ba5.out.cell 2
  have ya3 : w5.cell? ⟨w.heap.size, 3, none⟩ = some (.int .i64 ea) := Ba5.out.cell 3
  have yr0 : w5.cell? ⟨w.heap.size + 1, 0, none⟩ = some (.int .i64 0) := Br5.out.cell 0
  have yr1 : w5.cell? ⟨w.heap.size + 1, 1, none⟩ = some (.bool false) := Br5.out.cell 1
  have yr2 : w5.cell? ⟨w.heap.size + 1, 2, none⟩ = some (.string ⟨#[]⟩) := Br5.out.cell 2
  have yr3 : w5.cell? ⟨w.heap.size + 1, 3, none⟩ = some (.int .i64 0) := Br5.out.cell 3
  obtain rfl := (ri_len Z3.out).2 HZ.out
  clear HZ
  have Ba6 := hide ((Ba5.out.alloc (.cells #[.bool s3, .slice o3 0 c3, .int .i64 E] 71)))
  have Br6 := hide ((Br5.out.alloc (.cells #[.bool s3, .slice o3 0 c3, .int .i64 E] 71)))
  have Bx6 := hide ((Blk.newAt w5 (w5.heap.size) (rfl) #[.bool s3, .slice o3 0 c3, .int .i64 E] 71))
  have HB6 : Hid (Below w.heap.size w (w5.alloc (.cells #[.bool s3, .slice o3 0 c3, .int .i64 E] 71))) := (HB5.out.alloc HB5.out.size _)
  clear Ba5 Br5 HB5 ya0 ya1 ya2 ya3 yr0 yr1 yr2 yr3
  have ya0 : (w5.alloc (.cells #[.bool s3, .slice o3 0 c3, .int .i64 E] 71)).cell? ⟨w.heap.size, 0, none⟩ = some (.int .i64 ca) := Ba6.out.cell 0
  have ya1 : (w5.alloc (.cells #[.bool s3, .slice o3 0 c3, .int .i64 E] 71)).cell? ⟨w.heap.size, 1, none⟩ = some (.bool na) := Ba6.out.cell 1
  have ya2 : (w5.alloc (.cells #[.bool s3, .slice o3 0 c3, .int .i64 E] 71)).cell? ⟨w.heap.size, 2, none⟩ = some (.string ta) := Ba6.out.cell 2
  have ya3 : (w5.alloc (.cells #[.bool s3, .slice o3 0 c3, .int .i64 E] 71)).cell? ⟨w.heap.size, 3, none⟩ = some (.int .i64 ea) := Ba6.out.cell 3
  have yr0 : (w5.alloc (.cells #[.bool s3, .slice o3 0 c3, .int .i64 E] 71)).cell? ⟨w.heap.size + 1, 0, none⟩ = some (.int .i64 0) := Br6.out.cell 0
  have yr1 : (w5.alloc (.cells #[.bool s3, .slice o3 0 c3, .int .i64 E] 71)).cell? ⟨w.heap.size + 1, 1, none⟩ = some (.bool false) := Br6.out.cell 1
  have yr2 : (w5.alloc (.cells #[.bool s3, .slice o3 0 c3, .int .i64 E] 71)).cell? ⟨w.heap.size + 1, 2, none⟩ = some (.string ⟨#[]⟩) := Br6.out.cell 2
  have yr3 : (w5.alloc (.cells #[.bool s3, .slice o3 0 c3, .int .i64 E] 71)).cell? ⟨w.heap.size + 1, 3, none⟩ = some (.int .i64 0) := Br6.out.cell 3
  have yx0 : (w5.alloc (.cells #[.bool s3, .slice o3 0 c3, .int .i64 E] 71)).cell? ⟨w5.heap.size, 0, none⟩ = some (.bool s3) := Bx6.out.cell 0
  have yx1 : (w5.alloc (.cells #[.bool s3, .slice o3 0 c3, .int .i64 E] 71)).cell? ⟨w5.heap.size, 1, none⟩ = some (.slice o3 0 c3) := Bx6.out.cell 1
  have yx2 : (w5.alloc (.cells #[.bool s3, .slice o3 0 c3, .int .i64 E] 71)).cell? ⟨w5.heap.size, 2, none⟩ = some (.int .i64 E) := Bx6.out.cell 2
  have CD := hide (KD.out _ _ _ _ _ (Z3.out.below ((Below.refl _ _).alloc (Nat.le_refl _) (.cells #[.bool s3, .slice o3 0 c3, .int .i64 E] 71))))
  clear KD Z3
  go_wp2_with fail
  refine (CD.out).mono ?_
  rintro e w7 ⟨rfl, hb⟩
  clear CD
  have Ba7 := hide (Ba6.out.below hb Ba6.out.lt)
  have Br7 := hide (Br6.out.below hb Br6.out.lt)
  have Bx7 := hide (Bx6.out.below hb Bx6.out.lt)
  have HB7 := hide (HB6.out.trans (hb.mono HB6.out.size))
  clear hb Ba6 Br6 Bx6 HB6 ya0 ya1 ya2 ya3 yr0 yr1 yr2 yr3 yx0 yx1 yx2
  have ya0 : w7.cell? ⟨w.heap.size, 0, none⟩ = some (.int .i64 ca) := Ba7.out.cell 0
  have ya1 : w7.cell? ⟨w.heap.size, 1, none⟩ = some (.bool na) := Ba7.out.cell 1
  have ya2 : w7.cell? ⟨w.heap.size, 2, none⟩ = some (.string ta) := Ba7.out.cell 2
  have ya3 : w7.cell? ⟨w.heap.size, 3, none⟩ = some (.int .i64 ea) := Ba7.out.cell 3
  have yr0 : w7.cell? ⟨w.heap.size + 1, 0, none⟩ = some (.int .i64 0) := Br7.out.cell 0
  have yr1 : w7.cell? ⟨w.heap.size + 1, 1, none⟩ = some (.bool false) := Br7.out.cell 1
  have yr2 : w7.cell? ⟨w.heap.size + 1, 2, none⟩ = some (.string ⟨#[]⟩) := Br7.out.cell 2
  have yr3 : w7.cell? ⟨w.heap.size + 1, 3, none⟩ = some (.int .i64 0) := Br7.out.cell 3
  have yx0 : w7.cell? ⟨w5.heap.size, 0, none⟩ = some (.bool s3) := Bx7.out.cell 0
  have yx1 : w7.cell? ⟨w5.heap.size, 1, none⟩ = some (.slice o3 0 c3) := Bx7.out.cell 1
  have yx2 : w7.cell? ⟨w5.heap.size, 2, none⟩ = some (.int .i64 E) := Bx7.out.cell 2
  have Ba8 := hide ((Ba7.out.alloc (.cells #[.int .i64 0, .bool false, .string ⟨#[]⟩, .int .i64 0] 23)))
  have Br8 := hide ((Br7.out.alloc (.cells #[.int .i64 0, .bool false, .string ⟨#[]⟩, .int .i64 0] 23)))
  have Bx8 := hide ((Bx7.out.alloc (.cells #[.int .i64 0, .bool false, .string ⟨#[]⟩, .int .i64 0] 23)))
  have By8 := hide ((Blk.newAt w7 (w7.heap.size) (rfl) #[.int .i64 0, .bool false, .string ⟨#[]⟩, .int .i64 0] 23))
  have HB8 : Hid (Below w.heap.size w (w7.alloc (.cells #[.int .i64 0, .bool false, .string ⟨#[]⟩, .int .i64 0] 23))) := (HB7.out.alloc HB7.out.size _)
  clear Ba7 Br7 Bx7 HB7 ya0 ya1 ya2 ya3 yr0 yr1 yr2 yr3 yx0 yx1 yx2
  have ya0 : (w7.alloc (.cells #[.int .i64 0, .bool false, .string ⟨#[]⟩, .int .i64 0] 23)).cell? ⟨w.heap.size, 0, none⟩ = some (.int .i64 ca) := Ba8.out.cell 0
  have ya1 : (w7.alloc (.cells #[.int .i64 0, .bool false, .string ⟨#[]⟩, .int .i64 0] 23)).cell? ⟨w.heap.size, 1, none⟩ = some (.bool na) := Ba8.out.cell 1
  have ya2 : (w7.alloc (.cells #[.int .i64 0, .bool false, .string ⟨#[]⟩, .int .i64 0] 23)).cell? ⟨w.heap.size, 2, none⟩ = some (.string ta) := Ba8.out.cell 2
  have ya3 : (w7.alloc (.cells #[.int .i64 0, .bool false, .string ⟨#[]⟩, .int .i64 0] 23)).cell? ⟨w.heap.size, 3, none⟩ = some (.int .i64 ea) := Ba8.out.cell 3
  have yr0 : (w7.alloc (.cells #[.int .i64 0, .bool false, .string ⟨#[]⟩, .int .i64 0] 23)).cell? ⟨w.heap.size + 1, 0, none⟩ = some (.int .i64 0) := Br8.out.cell 0
  have yr1 : (w7.alloc (.cells #[.int .i64 0, .bool false, .string ⟨#[]⟩, .int .i64 0] 23)).cell? ⟨w.heap.size + 1, 1, none⟩ = some (.bool false) := Br8.out.cell 1
  have yr2 : (w7.alloc (.cells #[.int .i64 0, .bool false, .string ⟨#[]⟩, .int .i64 0] 23)).cell? ⟨w.heap.size + 1, 2, none⟩ = some (.string ⟨#[]⟩) := Br8.out.cell 2
  have yr3 : (w7.alloc (.cells #[.int .i64 0, .bool false, .string ⟨#[]⟩, .int .i64 0] 23)).cell? ⟨w.heap.size + 1, 3, none⟩ = some (.int .i64 0) := Br8.out.cell 3
  have yx0 : (w7.alloc (.cells #[.int .i64 0, .bool false, .string ⟨#[]⟩, .int .i64 0] 23)).cell? ⟨w5.heap.size, 0, none⟩ = some (.bool s3) := Bx8.out.cell 0
  have yx1 : (w7.alloc (.cells #[.int .i64 0, .bool false, .string ⟨#[]⟩, .int .i64 0] 23)).cell? ⟨w5.heap.size, 1, none⟩ = some (.slice o3 0 c3) := Bx8.out.cell 1
  have yx2 : (w7.alloc (.cells #[.int .i64 0, .bool false, .string ⟨#[]⟩, .int .i64 0] 23)).cell? ⟨w5.heap.size, 2, none⟩ = some (.int .i64 E) := Bx8.out.cell 2
  have yy0 : (w7.alloc (.cells #[.int .i64 0, .bool false, .string ⟨#[]⟩, .int .i64 0] 23)).cell? ⟨w7.heap.size, 0, none⟩ = some (.int .i64 0) := By8.out.cell 0
  have yy1 : (w7.alloc (.cells #[.int .i64 0, .bool false, .string ⟨#[]⟩, .int .i64 0] 23)).cell? ⟨w7.heap.size, 1, none⟩ = some (.bool false) := By8.out.cell 1
  have yy2 : (w7.alloc (.cells #[.int .i64 0, .bool false, .string ⟨#[]⟩, .int .i64 0] 23)).cell? ⟨w7.heap.size, 2, none⟩ = some (.string ⟨#[]⟩) := By8.out.cell 2
  have yy3 : (w7.alloc (.cells #[.int .i64 0, .bool false, .string ⟨#[]⟩, .int .i64 0] 23)).cell? ⟨w7.heap.size, 3, none⟩ = some (.int .i64 0) := By8.out.cell 3
  have fr0 := Br8.out.free 0
  have fr1 := Br8.out.free 1
  have fr2 := Br8.out.free 2
  have fr3 := Br8.out.free 3
  go_wp2
  refine bodyPost_ret (results_dec2 rfl _ _ _ _ _ _ _ rfl (Br8.out.put4 _ _ _ _)) rfl ?_
  exact ⟨rfl, below_put4 (HB8.out) (by omega) _ _ _ _⟩

end Go.Proofs.YtckijnlolmbdiaaGreatDoor

namespace Go.Proofs.YtckijnlolmbdiaaGreatDoor
open Go.RowKit

theorem Blk.put01 {w : World} {b : Nat} {t : TypeId} {x0 x1 x2 : Value} (h : Blk w b #[x0, x1, x2] t) (y0 y1 : Value) : Blk ((w.setCell ⟨b, 0, none⟩ y0).setCell ⟨b, 1, none⟩ y1) b #[y0, y1, x2] t := by
  unfold Blk at *
  simp only [World.setCell, Array.getElem?_modify, if_true, h, Option.map_some]
  rfl

set_option maxRecDepth 100000 in
set_option maxHeartbeats 4000000 in
theorem rAt_C_yes (ca : Int) (na : Bool) (ta : ByteArray) (ea : Int) (p m q E z1 z2 : Int) (cd : Int) (nd : Bool) (td : ByteArray) (ed : Int) (w : World) (h : MayD ca na (bys ta) ea) (m1 : 0 ≤ m) (m2 : m < 8) (p1 : -4000 ≤ p) (p2 : p ≤ 4000) (hz : ta.size ≠ 0) (hS : ∀ W, Calls Tryz.prog 43 #[dcV ca na ta ea, .int .i64 p] W fun e w' => e = .returned (.int .i64 q) ∧ Below W.heap.size W w') (hO : ∀ X, Calls Tryz.prog 45 #[dcV ca na ta ea] X fun e w' => (∃ s o l c, e = .returned (.agg #[.bool s, .slice o l c, .int .i64 ea]) ∧ Hid (RI w' s o l c z1 1002 0)) ∧ Below X.heap.size X w') (hT : ∀ X (s : Bool) (o : Option Addr) (l c : Nat) (s' : Bool) (o' : Option Addr) (l' c' : Nat), RI X s o l c z1 1002 0 → RI X s' o' l' c' 1 2 0 → Calls Tryz.prog 44 #[.agg #[.bool s, .slice o l c, .int .i64 ea], .agg #[.bool s', .slice o' l' c', .int .i64 q], .int .i64 m] X fun e w' => (∃ s o l c, e = .returned (.agg #[.bool s, .slice o l c, .int .i64 E]) ∧ Hid (RI w' s o l c z2 8430 0)) ∧ Below X.heap.size X w') (hq : q < p) (hzz : z2 ≠ 0) (hD : ∀ X (s : Bool) (o : Option Addr) (l c : Nat), RI X s o l c (zv na 1) 2 0 → Calls Tryz.prog 48 #[.agg #[.bool s, .slice o l c, .int .i64 p], .bool na] X fun e w' => e = .returned (.tuple #[.agg #[.int .i64 cd, .bool nd, .string td, .int .i64 ed], .bool true]) ∧ Below X.heap.size X w') : Calls Tryz.prog 17 #[dcV ca na ta ea, .int .i64 p, .int .i64 m] w fun e w' => e = .returned (.tuple #[.agg #[.int .i64 cd, .bool nd, .string td, .int .i64 ed], .int .i64 0]) ∧ Below w.heap.size w w' := by
  have KD := hide hD
  clear hD
  have CK := hide (fun W => rmay_yes ca na ta ea W h)
  clear h
  have m7 : ¬ 7 < m := by omega
  have m0 : ¬ m < 0 := by omega
  have n1 : ¬ p < -4000 := by omega
  have n2 : ¬ 4000 < p := by omega
  have hz2 := toList_ne hz
  have KS := hide hS
  have KO := hide hO
  have KT := hide hT
  clear hS hO hT hz
  have HZ := hide hzz
  clear hzz
  have Ba0 := hide ((Blk.newAt w (w.heap.size) (rfl) #[.int .i64 ca, .bool na, .string ta, .int .i64 ea] 23).alloc (.cells #[.int .i64 0, .bool false, .string ⟨#[]⟩, .int .i64 0] 23))
  have Br0 := hide (Blk.newAt (w.alloc (.cells #[.int .i64 ca, .bool na, .string ta, .int .i64 ea] 23)) (w.heap.size + 1) (by simp) #[.int .i64 0, .bool false, .string ⟨#[]⟩, .int .i64 0] 23)
  have HB0 : Hid (Below w.heap.size w ((w.alloc (.cells #[.int .i64 ca, .bool na, .string ta, .int .i64 ea] 23)).alloc (.cells #[.int .i64 0, .bool false, .string ⟨#[]⟩, .int .i64 0] 23))) := (((Below.refl _ _).alloc (Nat.le_refl _) _).alloc (by simp <;> omega) _)
  go_enter Tryz.func17, Tryz.ntmps17
  go_wp2_with fail
  refine (CK.out _).mono ?_
  rintro e w1 ⟨rfl, hb⟩
  clear CK
  have Ba1 := hide (Ba0.out.below hb Ba0.out.lt)
  have Br1 := hide (Br0.out.below hb Br0.out.lt)
  have HB1 := hide (HB0.out.trans (hb.mono HB0.out.size))
  clear hb Ba0 Br0 HB0 
  have ya0 : w1.cell? ⟨w.heap.size, 0, none⟩ = some (.int .i64 ca) := Ba1.out.cell 0
  have ya1 : w1.cell? ⟨w.heap.size, 1, none⟩ = some (.bool na) := Ba1.out.cell 1
  have ya2 : w1.cell? ⟨w.heap.size, 2, none⟩ = some (.string ta) := Ba1.out.cell 2
  have ya3 : w1.cell? ⟨w.heap.size, 3, none⟩ = some (.int .i64 ea) := Ba1.out.cell 3
  have yr0 : w1.cell? ⟨w.heap.size + 1, 0, none⟩ = some (.int .i64 0) := Br1.out.cell 0
  have yr1 : w1.cell? ⟨w.heap.size + 1, 1, none⟩ = some (.bool false) := Br1.out.cell 1
  have yr2 : w1.cell? ⟨w.heap.size + 1, 2, none⟩ = some (.string ⟨#[]⟩) := Br1.out.cell 2
  have yr3 : w1.cell? ⟨w.heap.size + 1, 3, none⟩ = some (.int .i64 0) := Br1.out.cell 3
  go_wp2_with fail
  refine (KS.out _).mono ?_
  rintro e w2 ⟨rfl, hb⟩
  clear KS
  have Ba2 := hide (Ba1.out.below hb Ba1.out.lt)
  have Br2 := hide (Br1.out.below hb Br1.out.lt)
  have HB2 := hide (HB1.out.trans (hb.mono HB1.out.size))
  clear hb Ba1 Br1 HB1 ya0 ya1 ya2 ya3 yr0 yr1 yr2 yr3
  have ya0 : w2.cell? ⟨w.heap.size, 0, none⟩ = some (.int .i64 ca) := Ba2.out.cell 0
  have ya1 : w2.cell? ⟨w.heap.size, 1, none⟩ = some (.bool na) := Ba2.out.cell 1
  have ya2 : w2.cell? ⟨w.heap.size, 2, none⟩ = some (.string ta) := Ba2.out.cell 2
  have ya3 : w2.cell? ⟨w.heap.size, 3, none⟩ = some (.int .i64 ea) := Ba2.out.cell 3
  have yr0 : w2.cell? ⟨w.heap.size + 1, 0, none⟩ = some (.int .i64 0) := Br2.out.cell 0
  have yr1 : w2.cell? ⟨w.heap.size + 1, 1, none⟩ = some (.bool false) := Br2.out.cell 1
  have yr2 : w2.cell? ⟨w.heap.size + 1, 2, none⟩ = some (.string ⟨#[]⟩) := Br2.out.cell 2
  have yr3 : w2.cell? ⟨w.heap.size + 1, 3, none⟩ = some (.int .i64 0) := Br2.out.cell 3
  go_wp2_with fail
  refine (KO.out _).mono ?_
  rintro e w3 ⟨⟨s1, o1, l1, c1, rfl, Z1⟩, hb⟩
  clear KO
  have Ba3 := hide (Ba2.out.below hb Ba2.out.lt)
  have Br3 := hide (Br2.out.below hb Br2.out.lt)
  have HB3 := hide (HB2.out.trans (hb.mono HB2.out.size))
  clear hb Ba2 Br2 HB2 ya0 ya1 ya2 ya3 yr0 yr1 yr2 yr3
  have ya0 : w3.cell? ⟨w.heap.size, 0, none⟩ = some (.int .i64 ca) := Ba3.out.cell 0
  have ya1 : w3.cell? ⟨w.heap.size, 1, none⟩ = some (.bool na) := Ba3.out.cell 1
  have ya2 : w3.cell? ⟨w.heap.size, 2, none⟩ = some (.string ta) := Ba3.out.cell 2
  have ya3 : w3.cell? ⟨w.heap.size, 3, none⟩ = some (.int .i64 ea) := Ba3.out.cell 3
  have yr0 : w3.cell? ⟨w.heap.size + 1, 0, none⟩ = some (.int .i64 0) := Br3.out.cell 0
  have yr1 : w3.cell? ⟨w.heap.size + 1, 1, none⟩ = some (.bool false) := Br3.out.cell 1
  have yr2 : w3.cell? ⟨w.heap.size + 1, 2, none⟩ = some (.string ⟨#[]⟩) := Br3.out.cell 2
  have yr3 : w3.cell? ⟨w.heap.size + 1, 3, none⟩ = some (.int .i64 0) := Br3.out.cell 3
  go_wp2_with fail
  refine (rpower q _).mono ?_
  rintro e w4 ⟨⟨s2, o2, l2, c2, rfl, Z2⟩, hb⟩
  have Y1 := hide (Z1.out.below hb)
  clear Z1
  have Ba4 := hide (Ba3.out.below hb Ba3.out.lt)
  have Br4 := hide (Br3.out.below hb Br3.out.lt)
  have HB4 := hide (HB3.out.trans (hb.mono HB3.out.size))
  clear hb Ba3 Br3 HB3 ya0 ya1 ya2 ya3 yr0 yr1 yr2 yr3
  have ya0 : w4.cell? ⟨w.heap.size, 0, none⟩ = some (.int .i64 ca) := Ba4.out.cell 0
  have ya1 : w4.cell? ⟨w.heap.size, 1, none⟩ = some (.bool na) := Ba4.out.cell 1
  have ya2 : w4.cell? ⟨w.heap.size, 2, none⟩ = some (.string ta) := Ba4.out.cell 2
  have ya3 : w4.cell? ⟨w.heap.size, 3, none⟩ = some (.int .i64 ea) := Ba4.out.cell 3
  have yr0 : w4.cell? ⟨w.heap.size + 1, 0, none⟩ = some (.int .i64 0) := Br4.out.cell 0
  have yr1 : w4.cell? ⟨w.heap.size + 1, 1, none⟩ = some (.bool false) := Br4.out.cell 1
  have yr2 : w4.cell? ⟨w.heap.size + 1, 2, none⟩ = some (.string ⟨#[]⟩) := Br4.out.cell 2
  have yr3 : w4.cell? ⟨w.heap.size + 1, 3, none⟩ = some (.int .i64 0) := Br4.out.cell 3
  have CT := hide (KT.out _ _ _ _ _ _ _ _ _ Y1.out (Z2.out.lo (Nat.zero_le _) (Nat.le_refl _)))
  clear KT Y1 Z2
  go_wp2_with fail
  refine (CT.out).mono ?_
  rintro e w5 ⟨⟨s3, o3, l3, c3, rfl, Z3⟩, hb⟩
  clear CT
  have Ba5 := hide (Ba4.out.below hb Ba4.out.lt)
  have Br5 := hide (Br4.out.below hb Br4.out.lt)
  have HB5 := hide (HB4.out.trans (hb.mono HB4.out.size))
  clear hb Ba4 Br4 HB4 ya0 ya1 ya2 ya3 yr0 yr1 yr2 yr3
  have ya0 : w5.cell? ⟨w.heap.size, 0, none⟩ = some (.int .i64 ca) := Ba5.out.cell 0
  have ya1 : w5.cell? ⟨w.heap.size, 1, none⟩ = some (.bool na) := Ba5.out.cell 1
  have ya2 : w5.cell? ⟨w.heap.size, 2, none⟩ = some (.string ta) := Ba5.out.cell 2
  have ya3 : w5.cell? ⟨w.heap.size, 3, none⟩ = some (.int .i64 ea) := Ba5.out.cell 3
  have yr0 : w5.cell? ⟨w.heap.size + 1, 0, none⟩ = some (.int .i64 0) := Br5.out.cell 0
  have yr1 : w5.cell? ⟨w.heap.size + 1, 1, none⟩ = some (.bool false) := Br5.out.cell 1
  have yr2 : w5.cell? ⟨w.heap.size + 1, 2, none⟩ = some (.string ⟨#[]⟩) := Br5.out.cell 2
  have yr3 : w5.cell? ⟨w.heap.size + 1, 3, none⟩ = some (.int .i64 0) := Br5.out.cell 3
  have hlr : (0 : Int) < (l3 : Int) := by have := mt (ri_len Z3.out).1 HZ.out; omega
  clear HZ
  have Ba5p := hide (Ba5.out.alloc (.cells #[.bool s3, .slice o3 l3 c3, .int .i64 p] 71))
  have Br5p := hide (Br5.out.alloc (.cells #[.bool s3, .slice o3 l3 c3, .int .i64 p] 71))
  have Bx5p := hide (Blk.newAt w5 w5.heap.size rfl #[.bool s3, .slice o3 l3 c3, .int .i64 p] 71)
  have HB5p : Hid (Below w.heap.size w (w5.alloc (.cells #[.bool s3, .slice o3 l3 c3, .int .i64 p] 71))) := HB5.out.alloc HB5.out.size _
  have ltA := Ba5.out.lt
  have ltR := Br5.out.lt
  have za0 : (w5.alloc (.cells #[.bool s3, .slice o3 l3 c3, .int .i64 p] 71)).cell? ⟨w.heap.size, 0, none⟩ = some (.int .i64 ca) := Ba5p.out.cell 0
  have za1 : (w5.alloc (.cells #[.bool s3, .slice o3 l3 c3, .int .i64 p] 71)).cell? ⟨w.heap.size, 1, none⟩ = some (.bool na) := Ba5p.out.cell 1
  have za2 : (w5.alloc (.cells #[.bool s3, .slice o3 l3 c3, .int .i64 p] 71)).cell? ⟨w.heap.size, 2, none⟩ = some (.string ta) := Ba5p.out.cell 2
  have za3 : (w5.alloc (.cells #[.bool s3, .slice o3 l3 c3, .int .i64 p] 71)).cell? ⟨w.heap.size, 3, none⟩ = some (.int .i64 ea) := Ba5p.out.cell 3
  have zx0 : (w5.alloc (.cells #[.bool s3, .slice o3 l3 c3, .int .i64 p] 71)).cell? ⟨w5.heap.size, 0, none⟩ = some (.bool s3) := Bx5p.out.cell 0
  have zx1 : (w5.alloc (.cells #[.bool s3, .slice o3 l3 c3, .int .i64 p] 71)).cell? ⟨w5.heap.size, 1, none⟩ = some (.slice o3 l3 c3) := Bx5p.out.cell 1
  have zx2 : (w5.alloc (.cells #[.bool s3, .slice o3 l3 c3, .int .i64 p] 71)).cell? ⟨w5.heap.size, 2, none⟩ = some (.int .i64 p) := Bx5p.out.cell 2
  have Ba6 := hide ((Ba5.out.alloc (.cells #[.bool s3, .slice o3 l3 c3, .int .i64 E] 71)))
  have Br6 := hide ((Br5.out.alloc (.cells #[.bool s3, .slice o3 l3 c3, .int .i64 E] 71)))
  have Bx6 := hide ((Blk.newAt w5 (w5.heap.size) (rfl) #[.bool s3, .slice o3 l3 c3, .int .i64 E] 71))
  have HB6 : Hid (Below w.heap.size w (w5.alloc (.cells #[.bool s3, .slice o3 l3 c3, .int .i64 E] 71))) := (HB5.out.alloc HB5.out.size _)
  clear Ba5 Br5 HB5 ya0 ya1 ya2 ya3 yr0 yr1 yr2 yr3
  have ya0 : (w5.alloc (.cells #[.bool s3, .slice o3 l3 c3, .int .i64 E] 71)).cell? ⟨w.heap.size, 0, none⟩ = some (.int .i64 ca) := Ba6.out.cell 0
  have ya1 : (w5.alloc (.cells #[.bool s3, .slice o3 l3 c3, .int .i64 E] 71)).cell? ⟨w.heap.size, 1, none⟩ = some (.bool na) := Ba6.out.cell 1
  have ya2 : (w5.alloc (.cells #[.bool s3, .slice o3 l3 c3, .int .i64 E] 71)).cell? ⟨w.heap.size, 2, none⟩ = some (.string ta) := Ba6.out.cell 2
  have ya3 : (w5.alloc (.cells #[.bool s3, .slice o3 l3 c3, .int .i64 E] 71)).cell? ⟨w.heap.size, 3, none⟩ = some (.int .i64 ea) := Ba6.out.cell 3
  have yr0 : (w5.alloc (.cells #[.bool s3, .slice o3 l3 c3, .int .i64 E] 71)).cell? ⟨w.heap.size + 1, 0, none⟩ = some (.int .i64 0) := Br6.out.cell 0
  have yr1 : (w5.alloc (.cells #[.bool s3, .slice o3 l3 c3, .int .i64 E] 71)).cell? ⟨w.heap.size + 1, 1, none⟩ = some (.bool false) := Br6.out.cell 1
  have yr2 : (w5.alloc (.cells #[.bool s3, .slice o3 l3 c3, .int .i64 E] 71)).cell? ⟨w.heap.size + 1, 2, none⟩ = some (.string ⟨#[]⟩) := Br6.out.cell 2
  have yr3 : (w5.alloc (.cells #[.bool s3, .slice o3 l3 c3, .int .i64 E] 71)).cell? ⟨w.heap.size + 1, 3, none⟩ = some (.int .i64 0) := Br6.out.cell 3
  have yx0 : (w5.alloc (.cells #[.bool s3, .slice o3 l3 c3, .int .i64 E] 71)).cell? ⟨w5.heap.size, 0, none⟩ = some (.bool s3) := Bx6.out.cell 0
  have yx1 : (w5.alloc (.cells #[.bool s3, .slice o3 l3 c3, .int .i64 E] 71)).cell? ⟨w5.heap.size, 1, none⟩ = some (.slice o3 l3 c3) := Bx6.out.cell 1
  have yx2 : (w5.alloc (.cells #[.bool s3, .slice o3 l3 c3, .int .i64 E] 71)).cell? ⟨w5.heap.size, 2, none⟩ = some (.int .i64 E) := Bx6.out.cell 2
  have MK := hide (rmakeI na (some ⟨w5.heap.size + 1, 0, none⟩) 1 1 1 1 ((w5.alloc (.cells #[.bool s3, .slice o3 l3 c3, .int .i64 p] 71)).alloc (.cells #[.int .u32 1] 76)) (by omega) (rl_one _ (w5.heap.size + 1) 76 (Blk.newAt (w5.alloc (.cells #[.bool s3, .slice o3 l3 c3, .int .i64 p] 71)) (w5.heap.size + 1) (by simp) #[.int .u32 1] 76)))
  have Ba6p := hide (Ba5p.out.alloc (.cells #[.int .u32 1] 76))
  have Br6p := hide (Br5p.out.alloc (.cells #[.int .u32 1] 76))
  have Bx6p := hide (Bx5p.out.alloc (.cells #[.int .u32 1] 76))
  have HB6p : Hid (Below w.heap.size w ((w5.alloc (.cells #[.bool s3, .slice o3 l3 c3, .int .i64 p] 71)).alloc (.cells #[.int .u32 1] 76))) := HB5p.out.alloc HB5p.out.size _
  clear Z3
  go_wp2_with fail
  refine MK.out.mono ?_
  rintro e w7 ⟨⟨s4, o4, l4, c4, rfl, hz⟩, hb⟩
  have Ba7 := hide (Ba6p.out.below hb Ba6p.out.lt)
  have Br7 := hide (Br6p.out.below hb Br6p.out.lt)
  have Bx7 := hide (Bx6p.out.below hb Bx6p.out.lt)
  have HB7 := hide (HB6p.out.trans (hb.mono HB6p.out.size))
  have lx : w5.heap.size < ((w5.alloc (.cells #[.bool s3, .slice o3 l3 c3, .int .i64 p] 71)).alloc (.cells #[.int .u32 1] 76)).heap.size := by simp; omega
  have hle : w.heap.size ≤ w5.heap.size := Nat.le_of_lt ltA
  clear MK hb Ba5p Ba6p Ba6 Br5p Br6p Br6 Bx5p Bx6p Bx6 HB5p HB6p HB6 za0 za1 za2 za3 zx0 zx1 zx2 ya0 ya1 ya2 ya3 yr0 yr1 yr2 yr3 yx0 yx1 yx2
  have ux0 : w7.cell? ⟨w5.heap.size, 0, none⟩ = some (.bool s3) := Bx7.out.cell 0
  have ux1 : w7.cell? ⟨w5.heap.size, 1, none⟩ = some (.slice o3 l3 c3) := Bx7.out.cell 1
  have ux2 : w7.cell? ⟨w5.heap.size, 2, none⟩ = some (.int .i64 p) := Bx7.out.cell 2
  have fx0 := Bx7.out.free 0
  have fx1 := Bx7.out.free 1
  have Ba8 := hide ((Ba7.out.other (a := ⟨w5.heap.size, 0, none⟩) (Nat.ne_of_gt ltA) (.bool s4)).other (a := ⟨w5.heap.size, 1, none⟩) (Nat.ne_of_gt ltA) (.slice o4 l4 c4))
  have Br8 := hide ((Br7.out.other (a := ⟨w5.heap.size, 0, none⟩) (Nat.ne_of_gt ltR) (.bool s4)).other (a := ⟨w5.heap.size, 1, none⟩) (Nat.ne_of_gt ltR) (.slice o4 l4 c4))
  have Bx8 := hide (Bx7.out.put01 (.bool s4) (.slice o4 l4 c4))
  have HB8 : Hid (Below w.heap.size w ((w7.setCell ⟨w5.heap.size, 0, none⟩ (.bool s4)).setCell ⟨w5.heap.size, 1, none⟩ (.slice o4 l4 c4))) := (HB7.out.setCell hle _).setCell hle _
  have ZS : Hid (RI ((w7.setCell ⟨w5.heap.size, 0, none⟩ (.bool s4)).setCell ⟨w5.heap.size, 1, none⟩ (.slice o4 l4 c4)) s4 o4 l4 c4 (zv na 1) 2 0) := ((hz.set lx _).set lx _).lo (Nat.zero_le _) (Nat.le_refl _)
  have CD := hide (KD.out _ _ _ _ _ ZS.out)
  clear KD ZS hz lx hle Ba7 Br7 Bx7 HB7
  have ya0 : ((w7.setCell ⟨w5.heap.size, 0, none⟩ (.bool s4)).setCell ⟨w5.heap.size, 1, none⟩ (.slice o4 l4 c4)).cell? ⟨w.heap.size, 0, none⟩ = some (.int .i64 ca) := Ba8.out.cell 0
  have ya1 : ((w7.setCell ⟨w5.heap.size, 0, none⟩ (.bool s4)).setCell ⟨w5.heap.size, 1, none⟩ (.slice o4 l4 c4)).cell? ⟨w.heap.size, 1, none⟩ = some (.bool na) := Ba8.out.cell 1
  have ya2 : ((w7.setCell ⟨w5.heap.size, 0, none⟩ (.bool s4)).setCell ⟨w5.heap.size, 1, none⟩ (.slice o4 l4 c4)).cell? ⟨w.heap.size, 2, none⟩ = some (.string ta) := Ba8.out.cell 2
  have ya3 : ((w7.setCell ⟨w5.heap.size, 0, none⟩ (.bool s4)).setCell ⟨w5.heap.size, 1, none⟩ (.slice o4 l4 c4)).cell? ⟨w.heap.size, 3, none⟩ = some (.int .i64 ea) := Ba8.out.cell 3
  have yr0 : ((w7.setCell ⟨w5.heap.size, 0, none⟩ (.bool s4)).setCell ⟨w5.heap.size, 1, none⟩ (.slice o4 l4 c4)).cell? ⟨w.heap.size + 1, 0, none⟩ = some (.int .i64 0) := Br8.out.cell 0
  have yr1 : ((w7.setCell ⟨w5.heap.size, 0, none⟩ (.bool s4)).setCell ⟨w5.heap.size, 1, none⟩ (.slice o4 l4 c4)).cell? ⟨w.heap.size + 1, 1, none⟩ = some (.bool false) := Br8.out.cell 1
  have yr2 : ((w7.setCell ⟨w5.heap.size, 0, none⟩ (.bool s4)).setCell ⟨w5.heap.size, 1, none⟩ (.slice o4 l4 c4)).cell? ⟨w.heap.size + 1, 2, none⟩ = some (.string ⟨#[]⟩) := Br8.out.cell 2
  have yr3 : ((w7.setCell ⟨w5.heap.size, 0, none⟩ (.bool s4)).setCell ⟨w5.heap.size, 1, none⟩ (.slice o4 l4 c4)).cell? ⟨w.heap.size + 1, 3, none⟩ = some (.int .i64 0) := Br8.out.cell 3
  have yx0 : ((w7.setCell ⟨w5.heap.size, 0, none⟩ (.bool s4)).setCell ⟨w5.heap.size, 1, none⟩ (.slice o4 l4 c4)).cell? ⟨w5.heap.size, 0, none⟩ = some (.bool s4) := Bx8.out.cell 0
  have yx1 : ((w7.setCell ⟨w5.heap.size, 0, none⟩ (.bool s4)).setCell ⟨w5.heap.size, 1, none⟩ (.slice o4 l4 c4)).cell? ⟨w5.heap.size, 1, none⟩ = some (.slice o4 l4 c4) := Bx8.out.cell 1
  have yx2 : ((w7.setCell ⟨w5.heap.size, 0, none⟩ (.bool s4)).setCell ⟨w5.heap.size, 1, none⟩ (.slice o4 l4 c4)).cell? ⟨w5.heap.size, 2, none⟩ = some (.int .i64 p) := Bx8.out.cell 2
  go_wp2_with fail
  refine (CD.out).mono ?_
  rintro e w9 ⟨rfl, hb⟩
  clear CD ux0 ux1 ux2 fx0 fx1
  have Ba9 := hide (Ba8.out.below hb Ba8.out.lt)
  have Br9 := hide (Br8.out.below hb Br8.out.lt)
  have Bx9 := hide (Bx8.out.below hb Bx8.out.lt)
  have HB9 := hide (HB8.out.trans (hb.mono HB8.out.size))
  clear hb Ba8 Br8 Bx8 HB8 ya0 ya1 ya2 ya3 yr0 yr1 yr2 yr3 yx0 yx1 yx2
  have ya0 : w9.cell? ⟨w.heap.size, 0, none⟩ = some (.int .i64 ca) := Ba9.out.cell 0
  have ya1 : w9.cell? ⟨w.heap.size, 1, none⟩ = some (.bool na) := Ba9.out.cell 1
  have ya2 : w9.cell? ⟨w.heap.size, 2, none⟩ = some (.string ta) := Ba9.out.cell 2
  have ya3 : w9.cell? ⟨w.heap.size, 3, none⟩ = some (.int .i64 ea) := Ba9.out.cell 3
  have yr0 : w9.cell? ⟨w.heap.size + 1, 0, none⟩ = some (.int .i64 0) := Br9.out.cell 0
  have yr1 : w9.cell? ⟨w.heap.size + 1, 1, none⟩ = some (.bool false) := Br9.out.cell 1
  have yr2 : w9.cell? ⟨w.heap.size + 1, 2, none⟩ = some (.string ⟨#[]⟩) := Br9.out.cell 2
  have yr3 : w9.cell? ⟨w.heap.size + 1, 3, none⟩ = some (.int .i64 0) := Br9.out.cell 3
  have yx0 : w9.cell? ⟨w5.heap.size, 0, none⟩ = some (.bool s4) := Bx9.out.cell 0
  have yx1 : w9.cell? ⟨w5.heap.size, 1, none⟩ = some (.slice o4 l4 c4) := Bx9.out.cell 1
  have yx2 : w9.cell? ⟨w5.heap.size, 2, none⟩ = some (.int .i64 p) := Bx9.out.cell 2
  have Ba10 := hide ((Ba9.out.alloc (.cells #[.int .i64 cd, .bool nd, .string td, .int .i64 ed] 23)))
  have Br10 := hide ((Br9.out.alloc (.cells #[.int .i64 cd, .bool nd, .string td, .int .i64 ed] 23)))
  have Bx10 := hide ((Bx9.out.alloc (.cells #[.int .i64 cd, .bool nd, .string td, .int .i64 ed] 23)))
  have By10 := hide ((Blk.newAt w9 (w9.heap.size) (rfl) #[.int .i64 cd, .bool nd, .string td, .int .i64 ed] 23))
  have HB10 : Hid (Below w.heap.size w (w9.alloc (.cells #[.int .i64 cd, .bool nd, .string td, .int .i64 ed] 23))) := (HB9.out.alloc HB9.out.size _)
  clear Ba9 Br9 Bx9 HB9 ya0 ya1 ya2 ya3 yr0 yr1 yr2 yr3 yx0 yx1 yx2
  have ya0 : (w9.alloc (.cells #[.int .i64 cd, .bool nd, .string td, .int .i64 ed] 23)).cell? ⟨w.heap.size, 0, none⟩ = some (.int .i64 ca) := Ba10.out.cell 0
  have ya1 : (w9.alloc (.cells #[.int .i64 cd, .bool nd, .string td, .int .i64 ed] 23)).cell? ⟨w.heap.size, 1, none⟩ = some (.bool na) := Ba10.out.cell 1
  have ya2 : (w9.alloc (.cells #[.int .i64 cd, .bool nd, .string td, .int .i64 ed] 23)).cell? ⟨w.heap.size, 2, none⟩ = some (.string ta) := Ba10.out.cell 2
  have ya3 : (w9.alloc (.cells #[.int .i64 cd, .bool nd, .string td, .int .i64 ed] 23)).cell? ⟨w.heap.size, 3, none⟩ = some (.int .i64 ea) := Ba10.out.cell 3
  have yr0 : (w9.alloc (.cells #[.int .i64 cd, .bool nd, .string td, .int .i64 ed] 23)).cell? ⟨w.heap.size + 1, 0, none⟩ = some (.int .i64 0) := Br10.out.cell 0
  have yr1 : (w9.alloc (.cells #[.int .i64 cd, .bool nd, .string td, .int .i64 ed] 23)).cell? ⟨w.heap.size + 1, 1, none⟩ = some (.bool false) := Br10.out.cell 1
  have yr2 : (w9.alloc (.cells #[.int .i64 cd, .bool nd, .string td, .int .i64 ed] 23)).cell? ⟨w.heap.size + 1, 2, none⟩ = some (.string ⟨#[]⟩) := Br10.out.cell 2
  have yr3 : (w9.alloc (.cells #[.int .i64 cd, .bool nd, .string td, .int .i64 ed] 23)).cell? ⟨w.heap.size + 1, 3, none⟩ = some (.int .i64 0) := Br10.out.cell 3
  have yx0 : (w9.alloc (.cells #[.int .i64 cd, .bool nd, .string td, .int .i64 ed] 23)).cell? ⟨w5.heap.size, 0, none⟩ = some (.bool s4) := Bx10.out.cell 0
  have yx1 : (w9.alloc (.cells #[.int .i64 cd, .bool nd, .string td, .int .i64 ed] 23)).cell? ⟨w5.heap.size, 1, none⟩ = some (.slice o4 l4 c4) := Bx10.out.cell 1
  have yx2 : (w9.alloc (.cells #[.int .i64 cd, .bool nd, .string td, .int .i64 ed] 23)).cell? ⟨w5.heap.size, 2, none⟩ = some (.int .i64 p) := Bx10.out.cell 2
  have yy0 : (w9.alloc (.cells #[.int .i64 cd, .bool nd, .string td, .int .i64 ed] 23)).cell? ⟨w9.heap.size, 0, none⟩ = some (.int .i64 cd) := By10.out.cell 0
  have yy1 : (w9.alloc (.cells #[.int .i64 cd, .bool nd, .string td, .int .i64 ed] 23)).cell? ⟨w9.heap.size, 1, none⟩ = some (.bool nd) := By10.out.cell 1
  have yy2 : (w9.alloc (.cells #[.int .i64 cd, .bool nd, .string td, .int .i64 ed] 23)).cell? ⟨w9.heap.size, 2, none⟩ = some (.string td) := By10.out.cell 2
  have yy3 : (w9.alloc (.cells #[.int .i64 cd, .bool nd, .string td, .int .i64 ed] 23)).cell? ⟨w9.heap.size, 3, none⟩ = some (.int .i64 ed) := By10.out.cell 3
  have fr0 := Br10.out.free 0
  have fr1 := Br10.out.free 1
  have fr2 := Br10.out.free 2
  have fr3 := Br10.out.free 3
  go_wp2
  refine bodyPost_ret (results_dec2 rfl _ _ _ _ _ _ _ rfl (Br10.out.put4 _ _ _ _)) rfl ?_
  exact ⟨rfl, below_put4 (HB10.out) (by omega) _ _ _ _⟩

set_option maxRecDepth 100000 in
set_option maxHeartbeats 4000000 in
theorem rAt_C_no (ca : Int) (na : Bool) (ta : ByteArray) (ea : Int) (p m q E z1 z2 : Int) (w : World) (h : MayD ca na (bys ta) ea) (m1 : 0 ≤ m) (m2 : m < 8) (p1 : -4000 ≤ p) (p2 : p ≤ 4000) (hz : ta.size ≠ 0) (hS : ∀ W, Calls Tryz.prog 43 #[dcV ca na ta ea, .int .i64 p] W fun e w' => e = .returned (.int .i64 q) ∧ Below W.heap.size W w') (hO : ∀ X, Calls Tryz.prog 45 #[dcV ca na ta ea] X fun e w' => (∃ s o l c, e = .returned (.agg #[.bool s, .slice o l c, .int .i64 ea]) ∧ Hid (RI w' s o l c z1 1002 0)) ∧ Below X.heap.size X w') (hT : ∀ X (s : Bool) (o : Option Addr) (l c : Nat) (s' : Bool) (o' : Option Addr) (l' c' : Nat), RI X s o l c z1 1002 0 → RI X s' o' l' c' 1 2 0 → Calls Tryz.prog 44 #[.agg #[.bool s, .slice o l c, .int .i64 ea], .agg #[.bool s', .slice o' l' c', .int .i64 q], .int .i64 m] X fun e w' => (∃ s o l c, e = .returned (.agg #[.bool s, .slice o l c, .int .i64 E]) ∧ Hid (RI w' s o l c z2 8430 0)) ∧ Below X.heap.size X w') (hq : q < p) (hzz : z2 ≠ 0) (hD : ∀ X (s : Bool) (o : Option Addr) (l c : Nat), RI X s o l c (zv na 1) 2 0 → Calls Tryz.prog 48 #[.agg #[.bool s, .slice o l c, .int .i64 p], .bool na] X fun e w' => e = .returned (.tuple #[.agg #[.int .i64 0, .bool false, .string ⟨#[]⟩, .int .i64 0], .bool false]) ∧ Below X.heap.size X w') : Calls Tryz.prog 17 #[dcV ca na ta ea, .int .i64 p, .int .i64 m] w fun e w' => e = .returned (.tuple #[.agg #[.int .i64 0, .bool false, .string ⟨#[]⟩, .int .i64 0], .int .i64 51]) ∧ Below w.heap.size w w' := by
  have KD := hide hD
  clear hD
  have CK := hide (fun W => rmay_yes ca na ta ea W h)
  clear h
  have m7 : ¬ 7 < m := by omega
  have m0 : ¬ m < 0 := by omega
  have n1 : ¬ p < -4000 := by omega
  have n2 : ¬ 4000 < p := by omega
  have hz2 := toList_ne hz
  have KS := hide hS
  have KO := hide hO
  have KT := hide hT
  clear hS hO hT hz
  have HZ := hide hzz
  clear hzz
  have Ba0 := hide ((Blk.newAt w (w.heap.size) (rfl) #[.int .i64 ca, .bool na, .string ta, .int .i64 ea] 23).alloc (.cells #[.int .i64 0, .bool false, .string ⟨#[]⟩, .int .i64 0] 23))
  have Br0 := hide (Blk.newAt (w.alloc (.cells #[.int .i64 ca, .bool na, .string ta, .int .i64 ea] 23)) (w.heap.size + 1) (by simp) #[.int .i64 0, .bool false, .string ⟨#[]⟩, .int .i64 0] 23)
  have HB0 : Hid (Below w.heap.size w ((w.alloc (.cells #[.int .i64 ca, .bool na, .string ta, .int .i64 ea] 23)).alloc (.cells #[.int .i64 0, .bool false, .string ⟨#[]⟩, .int .i64 0] 23))) := (((Below.refl _ _).alloc (Nat.le_refl _) _).alloc (by simp <;> omega) _)
  go_enter Tryz.func17, Tryz.ntmps17
  go_wp2_with fail
  refine (CK.out _).mono ?_
  rintro e w1 ⟨rfl, hb⟩
  clear CK
  have Ba1 := hide (Ba0.out.below hb Ba0.out.lt)
  have Br1 := hide (Br0.out.below hb Br0.out.lt)
  have HB1 := hide (HB0.out.trans (hb.mono HB0.out.size))
  clear hb Ba0 Br0 HB0 
  have ya0 : w1.cell? ⟨w.heap.size, 0, none⟩ = some (.int .i64 ca) := Ba1.out.cell 0
  have ya1 : w1.cell? ⟨w.heap.size, 1, none⟩ = some (.bool na) := Ba1.out.cell 1
  have ya2 : w1.cell? ⟨w.heap.size, 2, none⟩ = some (.string ta) := Ba1.out.cell 2
  have ya3 : w1.cell? ⟨w.heap.size, 3, none⟩ = some (.int .i64 ea) := Ba1.out.cell 3
  have yr0 : w1.cell? ⟨w.heap.size + 1, 0, none⟩ = some (.int .i64 0) := Br1.out.cell 0
  have yr1 : w1.cell? ⟨w.heap.size + 1, 1, none⟩ = some (.bool false) := Br1.out.cell 1
  have yr2 : w1.cell? ⟨w.heap.size + 1, 2, none⟩ = some (.string ⟨#[]⟩) := Br1.out.cell 2
  have yr3 : w1.cell? ⟨w.heap.size + 1, 3, none⟩ = some (.int .i64 0) := Br1.out.cell 3
  go_wp2_with fail
  refine (KS.out _).mono ?_
  rintro e w2 ⟨rfl, hb⟩
  clear KS
  have Ba2 := hide (Ba1.out.below hb Ba1.out.lt)
  have Br2 := hide (Br1.out.below hb Br1.out.lt)
  have HB2 := hide (HB1.out.trans (hb.mono HB1.out.size))
  clear hb Ba1 Br1 HB1 ya0 ya1 ya2 ya3 yr0 yr1 yr2 yr3
  have ya0 : w2.cell? ⟨w.heap.size, 0, none⟩ = some (.int .i64 ca) := Ba2.out.cell 0
  have ya1 : w2.cell? ⟨w.heap.size, 1, none⟩ = some (.bool na) := Ba2.out.cell 1
  have ya2 : w2.cell? ⟨w.heap.size, 2, none⟩ = some (.string ta) := Ba2.out.cell 2
  have ya3 : w2.cell? ⟨w.heap.size, 3, none⟩ = some (.int .i64 ea) := Ba2.out.cell 3
  have yr0 : w2.cell? ⟨w.heap.size + 1, 0, none⟩ = some (.int .i64 0) := Br2.out.cell 0
  have yr1 : w2.cell? ⟨w.heap.size + 1, 1, none⟩ = some (.bool false) := Br2.out.cell 1
  have yr2 : w2.cell? ⟨w.heap.size + 1, 2, none⟩ = some (.string ⟨#[]⟩) := Br2.out.cell 2
  have yr3 : w2.cell? ⟨w.heap.size + 1, 3, none⟩ = some (.int .i64 0) := Br2.out.cell 3
  go_wp2_with fail
  refine (KO.out _).mono ?_
  rintro e w3 ⟨⟨s1, o1, l1, c1, rfl, Z1⟩, hb⟩
  clear KO
  have Ba3 := hide (Ba2.out.below hb Ba2.out.lt)
  have Br3 := hide (Br2.out.below hb Br2.out.lt)
  have HB3 := hide (HB2.out.trans (hb.mono HB2.out.size))
  clear hb Ba2 Br2 HB2 ya0 ya1 ya2 ya3 yr0 yr1 yr2 yr3
  have ya0 : w3.cell? ⟨w.heap.size, 0, none⟩ = some (.int .i64 ca) := Ba3.out.cell 0
  have ya1 : w3.cell? ⟨w.heap.size, 1, none⟩ = some (.bool na) := Ba3.out.cell 1
  have ya2 : w3.cell? ⟨w.heap.size, 2, none⟩ = some (.string ta) := Ba3.out.cell 2
  have ya3 : w3.cell? ⟨w.heap.size, 3, none⟩ = some (.int .i64 ea) := Ba3.out.cell 3
  have yr0 : w3.cell? ⟨w.heap.size + 1, 0, none⟩ = some (.int .i64 0) := Br3.out.cell 0
  have yr1 : w3.cell? ⟨w.heap.size + 1, 1, none⟩ = some (.bool false) := Br3.out.cell 1
  have yr2 : w3.cell? ⟨w.heap.size + 1, 2, none⟩ = some (.string ⟨#[]⟩) := Br3.out.cell 2
  have yr3 : w3.cell? ⟨w.heap.size + 1, 3, none⟩ = some (.int .i64 0) := Br3.out.cell 3
  go_wp2_with fail
  refine (rpower q _).mono ?_
  rintro e w4 ⟨⟨s2, o2, l2, c2, rfl, Z2⟩, hb⟩
  have Y1 := hide (Z1.out.below hb)
  clear Z1
  have Ba4 := hide (Ba3.out.below hb Ba3.out.lt)
  have Br4 := hide (Br3.out.below hb Br3.out.lt)
  have HB4 := hide (HB3.out.trans (hb.mono HB3.out.size))
  clear hb Ba3 Br3 HB3 ya0 ya1 ya2 ya3 yr0 yr1 yr2 yr3
  have ya0 : w4.cell? ⟨w.heap.size, 0, none⟩ = some (.int .i64 ca) := Ba4.out.cell 0
  have ya1 : w4.cell? ⟨w.heap.size, 1, none⟩ = some (.bool na) := Ba4.out.cell 1
  have ya2 : w4.cell? ⟨w.heap.size, 2, none⟩ = some (.string ta) := Ba4.out.cell 2
  have ya3 : w4.cell? ⟨w.heap.size, 3, none⟩ = some (.int .i64 ea) := Ba4.out.cell 3
  have yr0 : w4.cell? ⟨w.heap.size + 1, 0, none⟩ = some (.int .i64 0) := Br4.out.cell 0
  have yr1 : w4.cell? ⟨w.heap.size + 1, 1, none⟩ = some (.bool false) := Br4.out.cell 1
  have yr2 : w4.cell? ⟨w.heap.size + 1, 2, none⟩ = some (.string ⟨#[]⟩) := Br4.out.cell 2
  have yr3 : w4.cell? ⟨w.heap.size + 1, 3, none⟩ = some (.int .i64 0) := Br4.out.cell 3
  have CT := hide (KT.out _ _ _ _ _ _ _ _ _ Y1.out (Z2.out.lo (Nat.zero_le _) (Nat.le_refl _)))
  clear KT Y1 Z2
  go_wp2_with fail
  refine (CT.out).mono ?_
  rintro e w5 ⟨⟨s3, o3, l3, c3, rfl, Z3⟩, hb⟩
  clear CT
  have Ba5 := hide (Ba4.out.below hb Ba4.out.lt)
  have Br5 := hide (Br4.out.below hb Br4.out.lt)
  have HB5 := hide (HB4.out.trans (hb.mono HB4.out.size))
  clear hb Ba4 Br4 HB4 ya0 ya1 ya2 ya3 yr0 yr1 yr2 yr3
  have ya0 : w5.cell? ⟨w.heap.size, 0, none⟩ = some (.int .i64 ca) := Ba5.out.cell 0
  have ya1 : w5.cell? ⟨w.heap.size, 1, none⟩ = some (.bool na) := Ba5.out.cell 1
  have ya2 : w5.cell? ⟨w.heap.size, 2, none⟩ = some (.string ta) := Ba5.out.cell 2
  have ya3 : w5.cell? ⟨w.heap.size, 3, none⟩ = some (.int .i64 ea) := Ba5.out.cell 3
  have yr0 : w5.cell? ⟨w.heap.size + 1, 0, none⟩ = some (.int .i64 0) := Br5.out.cell 0
  have yr1 : w5.cell? ⟨w.heap.size + 1, 1, none⟩ = some (.bool false) := Br5.out.cell 1
  have yr2 : w5.cell? ⟨w.heap.size + 1, 2, none⟩ = some (.string ⟨#[]⟩) := Br5.out.cell 2
  have yr3 : w5.cell? ⟨w.heap.size + 1, 3, none⟩ = some (.int .i64 0) := Br5.out.cell 3
  have hlr : (0 : Int) < (l3 : Int) := by have := mt (ri_len Z3.out).1 HZ.out; omega
  clear HZ
  have Ba5p := hide (Ba5.out.alloc (.cells #[.bool s3, .slice o3 l3 c3, .int .i64 p] 71))
  have Br5p := hide (Br5.out.alloc (.cells #[.bool s3, .slice o3 l3 c3, .int .i64 p] 71))
  have Bx5p := hide (Blk.newAt w5 w5.heap.size rfl #[.bool s3, .slice o3 l3 c3, .int .i64 p] 71)
  have HB5p : Hid (Below w.heap.size w (w5.alloc (.cells #[.bool s3, .slice o3 l3 c3, .int .i64 p] 71))) := HB5.out.alloc HB5.out.size _
  have ltA := Ba5.out.lt
  have ltR := Br5.out.lt
  have za0 : (w5.alloc (.cells #[.bool s3, .slice o3 l3 c3, .int .i64 p] 71)).cell? ⟨w.heap.size, 0, none⟩ = some (.int .i64 ca) := Ba5p.out.cell 0
  have za1 : (w5.alloc (.cells #[.bool s3, .slice o3 l3 c3, .int .i64 p] 71)).cell? ⟨w.heap.size, 1, none⟩ = some (.bool na) := Ba5p.out.cell 1
  have za2 : (w5.alloc (.cells #[.bool s3, .slice o3 l3 c3, .int .i64 p] 71)).cell? ⟨w.heap.size, 2, none⟩ = some (.string ta) := Ba5p.out.cell 2
  have za3 : (w5.alloc (.cells #[.bool s3, .slice o3 l3 c3, .int .i64 p] 71)).cell? ⟨w.heap.size, 3, none⟩ = some (.int .i64 ea) := Ba5p.out.cell 3
  have zx0 : (w5.alloc (.cells #[.bool s3, .slice o3 l3 c3, .int .i64 p] 71)).cell? ⟨w5.heap.size, 0, none⟩ = some (.bool s3) := Bx5p.out.cell 0
  have zx1 : (w5.alloc (.cells #[.bool s3, .slice o3 l3 c3, .int .i64 p] 71)).cell? ⟨w5.heap.size, 1, none⟩ = some (.slice o3 l3 c3) := Bx5p.out.cell 1
  have zx2 : (w5.alloc (.cells #[.bool s3, .slice o3 l3 c3, .int .i64 p] 71)).cell? ⟨w5.heap.size, 2, none⟩ = some (.int .i64 p) := Bx5p.out.cell 2
  have Ba6 := hide ((Ba5.out.alloc (.cells #[.bool s3, .slice o3 l3 c3, .int .i64 E] 71)))
  have Br6 := hide ((Br5.out.alloc (.cells #[.bool s3, .slice o3 l3 c3, .int .i64 E] 71)))
  have Bx6 := hide ((Blk.newAt w5 (w5.heap.size) (rfl) #[.bool s3, .slice o3 l3 c3, .int .i64 E] 71))
  have HB6 : Hid (Below w.heap.size w (w5.alloc (.cells #[.bool s3, .slice o3 l3 c3, .int .i64 E] 71))) := (HB5.out.alloc HB5.out.size _)
  clear Ba5 Br5 HB5 ya0 ya1 ya2 ya3 yr0 yr1 yr2 yr3
  have ya0 : (w5.alloc (.cells #[.bool s3, .slice o3 l3 c3, .int .i64 E] 71)).cell? ⟨w.heap.size, 0, none⟩ = some (.int .i64 ca) := Ba6.out.cell 0
  have ya1 : (w5.alloc (.cells #[.bool s3, .slice o3 l3 c3, .int .i64 E] 71)).cell? ⟨w.heap.size, 1, none⟩ = some (.bool na) := Ba6.out.cell 1
  have ya2 : (w5.alloc (.cells #[.bool s3, .slice o3 l3 c3, .int .i64 E] 71)).cell? ⟨w.heap.size, 2, none⟩ = some (.string ta) := Ba6.out.cell 2
  have ya3 : (w5.alloc (.cells #[.bool s3, .slice o3 l3 c3, .int .i64 E] 71)).cell? ⟨w.heap.size, 3, none⟩ = some (.int .i64 ea) := Ba6.out.cell 3
  have yr0 : (w5.alloc (.cells #[.bool s3, .slice o3 l3 c3, .int .i64 E] 71)).cell? ⟨w.heap.size + 1, 0, none⟩ = some (.int .i64 0) := Br6.out.cell 0
  have yr1 : (w5.alloc (.cells #[.bool s3, .slice o3 l3 c3, .int .i64 E] 71)).cell? ⟨w.heap.size + 1, 1, none⟩ = some (.bool false) := Br6.out.cell 1
  have yr2 : (w5.alloc (.cells #[.bool s3, .slice o3 l3 c3, .int .i64 E] 71)).cell? ⟨w.heap.size + 1, 2, none⟩ = some (.string ⟨#[]⟩) := Br6.out.cell 2
  have yr3 : (w5.alloc (.cells #[.bool s3, .slice o3 l3 c3, .int .i64 E] 71)).cell? ⟨w.heap.size + 1, 3, none⟩ = some (.int .i64 0) := Br6.out.cell 3
  have yx0 : (w5.alloc (.cells #[.bool s3, .slice o3 l3 c3, .int .i64 E] 71)).cell? ⟨w5.heap.size, 0, none⟩ = some (.bool s3) := Bx6.out.cell 0
  have yx1 : (w5.alloc (.cells #[.bool s3, .slice o3 l3 c3, .int .i64 E] 71)).cell? ⟨w5.heap.size, 1, none⟩ = some (.slice o3 l3 c3) := Bx6.out.cell 1
  have yx2 : (w5.alloc (.cells #[.bool s3, .slice o3 l3 c3, .int .i64 E] 71)).cell? ⟨w5.heap.size, 2, none⟩ = some (.int .i64 E) := Bx6.out.cell 2
  have MK := hide (rmakeI na (some ⟨w5.heap.size + 1, 0, none⟩) 1 1 1 1 ((w5.alloc (.cells #[.bool s3, .slice o3 l3 c3, .int .i64 p] 71)).alloc (.cells #[.int .u32 1] 76)) (by omega) (rl_one _ (w5.heap.size + 1) 76 (Blk.newAt (w5.alloc (.cells #[.bool s3, .slice o3 l3 c3, .int .i64 p] 71)) (w5.heap.size + 1) (by simp) #[.int .u32 1] 76)))
  have Ba6p := hide (Ba5p.out.alloc (.cells #[.int .u32 1] 76))
  have Br6p := hide (Br5p.out.alloc (.cells #[.int .u32 1] 76))
  have Bx6p := hide (Bx5p.out.alloc (.cells #[.int .u32 1] 76))
  have HB6p : Hid (Below w.heap.size w ((w5.alloc (.cells #[.bool s3, .slice o3 l3 c3, .int .i64 p] 71)).alloc (.cells #[.int .u32 1] 76))) := HB5p.out.alloc HB5p.out.size _
  clear Z3
  go_wp2_with fail
  refine MK.out.mono ?_
  rintro e w7 ⟨⟨s4, o4, l4, c4, rfl, hz⟩, hb⟩
  have Ba7 := hide (Ba6p.out.below hb Ba6p.out.lt)
  have Br7 := hide (Br6p.out.below hb Br6p.out.lt)
  have Bx7 := hide (Bx6p.out.below hb Bx6p.out.lt)
  have HB7 := hide (HB6p.out.trans (hb.mono HB6p.out.size))
  have lx : w5.heap.size < ((w5.alloc (.cells #[.bool s3, .slice o3 l3 c3, .int .i64 p] 71)).alloc (.cells #[.int .u32 1] 76)).heap.size := by simp; omega
  have hle : w.heap.size ≤ w5.heap.size := Nat.le_of_lt ltA
  clear MK hb Ba5p Ba6p Ba6 Br5p Br6p Br6 Bx5p Bx6p Bx6 HB5p HB6p HB6 za0 za1 za2 za3 zx0 zx1 zx2 ya0 ya1 ya2 ya3 yr0 yr1 yr2 yr3 yx0 yx1 yx2
  have ux0 : w7.cell? ⟨w5.heap.size, 0, none⟩ = some (.bool s3) := Bx7.out.cell 0
  have ux1 : w7.cell? ⟨w5.heap.size, 1, none⟩ = some (.slice o3 l3 c3) := Bx7.out.cell 1
  have ux2 : w7.cell? ⟨w5.heap.size, 2, none⟩ = some (.int .i64 p) := Bx7.out.cell 2
  have fx0 := Bx7.out.free 0
  have fx1 := Bx7.out.free 1
  have Ba8 := hide ((Ba7.out.other (a := ⟨w5.heap.size, 0, none⟩) (Nat.ne_of_gt ltA) (.bool s4)).other (a := ⟨w5.heap.size, 1, none⟩) (Nat.ne_of_gt ltA) (.slice o4 l4 c4))
  have Br8 := hide ((Br7.out.other (a := ⟨w5.heap.size, 0, none⟩) (Nat.ne_of_gt ltR) (.bool s4)).other (a := ⟨w5.heap.size, 1, none⟩) (Nat.ne_of_gt ltR) (.slice o4 l4 c4))
  have Bx8 := hide (Bx7.out.put01 (.bool s4) (.slice o4 l4 c4))
  have HB8 : Hid (Below w.heap.size w ((w7.setCell ⟨w5.heap.size, 0, none⟩ (.bool s4)).setCell ⟨w5.heap.size, 1, none⟩ (.slice o4 l4 c4))) := (HB7.out.setCell hle _).setCell hle _
  have ZS : Hid (RI ((w7.setCell ⟨w5.heap.size, 0, none⟩ (.bool s4)).setCell ⟨w5.heap.size, 1, none⟩ (.slice o4 l4 c4)) s4 o4 l4 c4 (zv na 1) 2 0) := ((hz.set lx _).set lx _).lo (Nat.zero_le _) (Nat.le_refl _)
  have CD := hide (KD.out _ _ _ _ _ ZS.out)
  clear KD ZS hz lx hle Ba7 Br7 Bx7 HB7
  have ya0 : ((w7.setCell ⟨w5.heap.size, 0, none⟩ (.bool s4)).setCell ⟨w5.heap.size, 1, none⟩ (.slice o4 l4 c4)).cell? ⟨w.heap.size, 0, none⟩ = some (.int .i64 ca) := Ba8.out.cell 0
  have ya1 : ((w7.setCell ⟨w5.heap.size, 0, none⟩ (.bool s4)).setCell ⟨w5.heap.size, 1, none⟩ (.slice o4 l4 c4)).cell? ⟨w.heap.size, 1, none⟩ = some (.bool na) := Ba8.out.cell 1
  have ya2 : ((w7.setCell ⟨w5.heap.size, 0, none⟩ (.bool s4)).setCell ⟨w5.heap.size, 1, none⟩ (.slice o4 l4 c4)).cell? ⟨w.heap.size, 2, none⟩ = some (.string ta) := Ba8.out.cell 2
  have ya3 : ((w7.setCell ⟨w5.heap.size, 0, none⟩ (.bool s4)).setCell ⟨w5.heap.size, 1, none⟩ (.slice o4 l4 c4)).cell? ⟨w.heap.size, 3, none⟩ = some (.int .i64 ea) := Ba8.out.cell 3
  have yr0 : ((w7.setCell ⟨w5.heap.size, 0, none⟩ (.bool s4)).setCell ⟨w5.heap.size, 1, none⟩ (.slice o4 l4 c4)).cell? ⟨w.heap.size + 1, 0, none⟩ = some (.int .i64 0) := Br8.out.cell 0
  have yr1 : ((w7.setCell ⟨w5.heap.size, 0, none⟩ (.bool s4)).setCell ⟨w5.heap.size, 1, none⟩ (.slice o4 l4 c4)).cell? ⟨w.heap.size + 1, 1, none⟩ = some (.bool false) := Br8.out.cell 1
  have yr2 : ((w7.setCell ⟨w5.heap.size, 0, none⟩ (.bool s4)).setCell ⟨w5.heap.size, 1, none⟩ (.slice o4 l4 c4)).cell? ⟨w.heap.size + 1, 2, none⟩ = some (.string ⟨#[]⟩) := Br8.out.cell 2
  have yr3 : ((w7.setCell ⟨w5.heap.size, 0, none⟩ (.bool s4)).setCell ⟨w5.heap.size, 1, none⟩ (.slice o4 l4 c4)).cell? ⟨w.heap.size + 1, 3, none⟩ = some (.int .i64 0) := Br8.out.cell 3
  have yx0 : ((w7.setCell ⟨w5.heap.size, 0, none⟩ (.bool s4)).setCell ⟨w5.heap.size, 1, none⟩ (.slice o4 l4 c4)).cell? ⟨w5.heap.size, 0, none⟩ = some (.bool s4) := Bx8.out.cell 0
  have yx1 : ((w7.setCell ⟨w5.heap.size, 0, none⟩ (.bool s4)).setCell ⟨w5.heap.size, 1, none⟩ (.slice o4 l4 c4)).cell? ⟨w5.heap.size, 1, none⟩ = some (.slice o4 l4 c4) := Bx8.out.cell 1
  have yx2 : ((w7.setCell ⟨w5.heap.size, 0, none⟩ (.bool s4)).setCell ⟨w5.heap.size, 1, none⟩ (.slice o4 l4 c4)).cell? ⟨w5.heap.size, 2, none⟩ = some (.int .i64 p) := Bx8.out.cell 2
  go_wp2_with fail
  refine (CD.out).mono ?_
  rintro e w9 ⟨rfl, hb⟩
  clear CD ux0 ux1 ux2 fx0 fx1
  have Ba9 := hide (Ba8.out.below hb Ba8.out.lt)
  have Br9 := hide (Br8.out.below hb Br8.out.lt)
  have Bx9 := hide (Bx8.out.below hb Bx8.out.lt)
  have HB9 := hide (HB8.out.trans (hb.mono HB8.out.size))
  clear hb Ba8 Br8 Bx8 HB8 ya0 ya1 ya2 ya3 yr0 yr1 yr2 yr3 yx0 yx1 yx2
  have ya0 : w9.cell? ⟨w.heap.size, 0, none⟩ = some (.int .i64 ca) := Ba9.out.cell 0
  have ya1 : w9.cell? ⟨w.heap.size, 1, none⟩ = some (.bool na) := Ba9.out.cell 1
  have ya2 : w9.cell? ⟨w.heap.size, 2, none⟩ = some (.string ta) := Ba9.out.cell 2
  have ya3 : w9.cell? ⟨w.heap.size, 3, none⟩ = some (.int .i64 ea) := Ba9.out.cell 3
  have yr0 : w9.cell? ⟨w.heap.size + 1, 0, none⟩ = some (.int .i64 0) := Br9.out.cell 0
  have yr1 : w9.cell? ⟨w.heap.size + 1, 1, none⟩ = some (.bool false) := Br9.out.cell 1
  have yr2 : w9.cell? ⟨w.heap.size + 1, 2, none⟩ = some (.string ⟨#[]⟩) := Br9.out.cell 2
  have yr3 : w9.cell? ⟨w.heap.size + 1, 3, none⟩ = some (.int .i64 0) := Br9.out.cell 3
  have yx0 : w9.cell? ⟨w5.heap.size, 0, none⟩ = some (.bool s4) := Bx9.out.cell 0
  have yx1 : w9.cell? ⟨w5.heap.size, 1, none⟩ = some (.slice o4 l4 c4) := Bx9.out.cell 1
  have yx2 : w9.cell? ⟨w5.heap.size, 2, none⟩ = some (.int .i64 p) := Bx9.out.cell 2
  have Ba10 := hide ((Ba9.out.alloc (.cells #[.int .i64 0, .bool false, .string ⟨#[]⟩, .int .i64 0] 23)))
  have Br10 := hide ((Br9.out.alloc (.cells #[.int .i64 0, .bool false, .string ⟨#[]⟩, .int .i64 0] 23)))
  have Bx10 := hide ((Bx9.out.alloc (.cells #[.int .i64 0, .bool false, .string ⟨#[]⟩, .int .i64 0] 23)))
  have By10 := hide ((Blk.newAt w9 (w9.heap.size) (rfl) #[.int .i64 0, .bool false, .string ⟨#[]⟩, .int .i64 0] 23))
  have HB10 : Hid (Below w.heap.size w (w9.alloc (.cells #[.int .i64 0, .bool false, .string ⟨#[]⟩, .int .i64 0] 23))) := (HB9.out.alloc HB9.out.size _)
  clear Ba9 Br9 Bx9 HB9 ya0 ya1 ya2 ya3 yr0 yr1 yr2 yr3 yx0 yx1 yx2
  have ya0 : (w9.alloc (.cells #[.int .i64 0, .bool false, .string ⟨#[]⟩, .int .i64 0] 23)).cell? ⟨w.heap.size, 0, none⟩ = some (.int .i64 ca) := Ba10.out.cell 0
  have ya1 : (w9.alloc (.cells #[.int .i64 0, .bool false, .string ⟨#[]⟩, .int .i64 0] 23)).cell? ⟨w.heap.size, 1, none⟩ = some (.bool na) := Ba10.out.cell 1
  have ya2 : (w9.alloc (.cells #[.int .i64 0, .bool false, .string ⟨#[]⟩, .int .i64 0] 23)).cell? ⟨w.heap.size, 2, none⟩ = some (.string ta) := Ba10.out.cell 2
  have ya3 : (w9.alloc (.cells #[.int .i64 0, .bool false, .string ⟨#[]⟩, .int .i64 0] 23)).cell? ⟨w.heap.size, 3, none⟩ = some (.int .i64 ea) := Ba10.out.cell 3
  have yr0 : (w9.alloc (.cells #[.int .i64 0, .bool false, .string ⟨#[]⟩, .int .i64 0] 23)).cell? ⟨w.heap.size + 1, 0, none⟩ = some (.int .i64 0) := Br10.out.cell 0
  have yr1 : (w9.alloc (.cells #[.int .i64 0, .bool false, .string ⟨#[]⟩, .int .i64 0] 23)).cell? ⟨w.heap.size + 1, 1, none⟩ = some (.bool false) := Br10.out.cell 1
  have yr2 : (w9.alloc (.cells #[.int .i64 0, .bool false, .string ⟨#[]⟩, .int .i64 0] 23)).cell? ⟨w.heap.size + 1, 2, none⟩ = some (.string ⟨#[]⟩) := Br10.out.cell 2
  have yr3 : (w9.alloc (.cells #[.int .i64 0, .bool false, .string ⟨#[]⟩, .int .i64 0] 23)).cell? ⟨w.heap.size + 1, 3, none⟩ = some (.int .i64 0) := Br10.out.cell 3
  have yx0 : (w9.alloc (.cells #[.int .i64 0, .bool false, .string ⟨#[]⟩, .int .i64 0] 23)).cell? ⟨w5.heap.size, 0, none⟩ = some (.bool s4) := Bx10.out.cell 0
  have yx1 : (w9.alloc (.cells #[.int .i64 0, .bool false, .string ⟨#[]⟩, .int .i64 0] 23)).cell? ⟨w5.heap.size, 1, none⟩ = some (.slice o4 l4 c4) := Bx10.out.cell 1
  have yx2 : (w9.alloc (.cells #[.int .i64 0, .bool false, .string ⟨#[]⟩, .int .i64 0] 23)).cell? ⟨w5.heap.size, 2, none⟩ = some (.int .i64 p) := Bx10.out.cell 2
  have yy0 : (w9.alloc (.cells #[.int .i64 0, .bool false, .string ⟨#[]⟩, .int .i64 0] 23)).cell? ⟨w9.heap.size, 0, none⟩ = some (.int .i64 0) := By10.out.cell 0
  have yy1 : (w9.alloc (.cells #[.int .i64 0, .bool false, .string ⟨#[]⟩, .int .i64 0] 23)).cell? ⟨w9.heap.size, 1, none⟩ = some (.bool false) := By10.out.cell 1
  have yy2 : (w9.alloc (.cells #[.int .i64 0, .bool false, .string ⟨#[]⟩, .int .i64 0] 23)).cell? ⟨w9.heap.size, 2, none⟩ = some (.string ⟨#[]⟩) := By10.out.cell 2
  have yy3 : (w9.alloc (.cells #[.int .i64 0, .bool false, .string ⟨#[]⟩, .int .i64 0] 23)).cell? ⟨w9.heap.size, 3, none⟩ = some (.int .i64 0) := By10.out.cell 3
  have fr0 := Br10.out.free 0
  have fr1 := Br10.out.free 1
  have fr2 := Br10.out.free 2
  have fr3 := Br10.out.free 3
  go_wp2
  refine bodyPost_ret (results_dec2 rfl _ _ _ _ _ _ _ rfl (Br10.out.put4 _ _ _ _)) rfl ?_
  exact ⟨rfl, below_put4 (HB10.out) (by omega) _ _ _ _⟩

end Go.Proofs.YtckijnlolmbdiaaGreatDoor

namespace Go.Proofs.YtckijnlolmbdiaaGreatDoor
open Go.RowKit

theorem rndN_far {A U : Nat} (neg : Bool) (m : Nat) (h0 : A ≠ 0) (h : A + A < U) : rndN A U neg m = if leavesB m neg false (-1) then 1 else 0 := by
  unfold rndN
  rw [Nat.div_eq_of_lt (by omega), Nat.mod_eq_of_lt (by omega), if_neg h0]
  have : cmpN (A + A) U = -1 := by unfold cmpN; rw [if_pos h]
  rw [this, Nat.zero_add]
  rfl

theorem rndN_le (A U : Nat) (neg : Bool) (m : Nat) : rndN A U neg m * U ≤ A + U := by
  have hd := Nat.div_mul_le_self A U
  rcases rndN_two A U neg m with e | ⟨_, e⟩
  · rw [e]; omega
  · rw [e, Nat.add_mul, Nat.one_mul]; omega

theorem dec_two (ng : Bool) (Z : Nat) (E : Int) (p : Nat) (hp : p ≤ 10000) (hs : sizeN Z ≤ 20000) (h1 : -10000 ≤ E) (h2 : E ≤ 10000) :
    (∃ r : DecT, tellF ng Z E = (r, 0) ∧ ∀ X (s : Bool) (o : Option Addr) (l c : Nat), RI X s o l c (zv ng Z) p 0 → Calls Tryz.prog 48 #[.agg #[.bool s, .slice o l c, .int .i64 E], .bool ng] X fun e w' => e = .returned (.tuple #[decVal r, .bool true]) ∧ Below X.heap.size X w')
    ∨ (tellF ng Z E = (⟨0, false, [], 0⟩, 51) ∧ ∀ X (s : Bool) (o : Option Addr) (l c : Nat), RI X s o l c (zv ng Z) p 0 → Calls Tryz.prog 48 #[.agg #[.bool s, .slice o l c, .int .i64 E], .bool ng] X fun e w' => e = .returned (.tuple #[.agg #[.int .i64 0, .bool false, .string ⟨#[]⟩, .int .i64 0], .bool false]) ∧ Below X.heap.size X w') := by
  by_cases h0 : Z = 0
  · subst h0
    refine .inl ⟨⟨0, ng, [], 0⟩, tellF_yes (may_zero ng), fun X s o l c hz => ?_⟩
    have hz' := hz.abs
    rw [zv_nat] at hz'
    exact rndec_zero s o l c _ ng p X hz' hp
  · have ef : finD ng Z E = decA ng Z E := by unfold finD; rw [if_neg h0]
    have hsg : ∀ X (s : Bool) (o : Option Addr) (l c : Nat), RI X s o l c (zv ng Z) p 0 → s = ng ∧ Rl X o l c Z p := by
      intro X s o l c hz
      have hz' := hz.abs
      rw [zv_nat] at hz'
      obtain ⟨_, _, _, _, g, _⟩ := hz
      exact ⟨by rw [g]; exact zv_sgn h0, hz'⟩
    by_cases hmay : May (decA ng Z E)
    · refine .inl ⟨decA ng Z E, by rw [tellF_yes (by rw [ef]; exact hmay), ef], fun X s o l c hz => ?_⟩
      obtain ⟨rfl, hr⟩ := hsg X s o l c hz
      exact rndec_yes s o l c _ s Z p X hr hp h0 hs h1 h2 hmay
    · refine .inr ⟨by rw [tellF_no (by rw [ef]; exact hmay)], fun X s o l c hz => ?_⟩
      obtain ⟨rfl, hr⟩ := hsg X s o l c hz
      exact rndec_no s o l c _ s Z p X hr hp h0 hs h1 h2 hmay

/-- What To tells of a number and a power of 10. -/
theorem to_data (d : DecT) (hf : Fin d) (q : Int) (m : Nat) (hm : m < 8) (h1 : -4000 ≤ q) (h2 : q ≤ 4000) :
    ∃ Z : Nat, Z = rndN (decV d.dig * 10 ^ (d.exp - min d.exp q).toNat) (1 * 10 ^ (q - min d.exp q).toNat) d.neg m * (1 * 10 ^ (q - min d.exp q).toNat) ∧ sizeN Z ≤ 20000 ∧ tellF d.neg Z (min d.exp q) = rndD d 1 q m ∧
    ∀ X (s : Bool) (o : Option Addr) (l c : Nat) (s' : Bool) (o' : Option Addr) (l' c' : Nat), RI X s o l c (zv d.neg (decV d.dig)) 1002 0 → RI X s' o' l' c' 1 2 0 → Calls Tryz.prog 44 #[.agg #[.bool s, .slice o l c, .int .i64 d.exp], .agg #[.bool s', .slice o' l' c', .int .i64 q], .int .i64 (m : Int)] X fun e w' => (∃ s o l c, e = .returned (.agg #[.bool s, .slice o l c, .int .i64 (min d.exp q)]) ∧ Hid (RI w' s o l c (zv d.neg Z) 8430 0)) ∧ Below X.heap.size X w' := by
  have l1 := hf.len
  have l2 := hf.lo
  have l3 := hf.hi
  have lp := List.length_pos_iff.2 hf.ne
  obtain ⟨ka, hka⟩ : ∃ ka : Nat, ka = (d.exp - min d.exp q).toNat := ⟨_, rfl⟩
  obtain ⟨ku, hku⟩ : ∃ ku : Nat, ku = (q - min d.exp q).toNat := ⟨_, rfl⟩
  rw [← hka, ← hku]
  have v0 := hf.val
  have a1 := decV_lt _ d.dig rfl hf.dig
  refine ⟨_, rfl, ?_, ?_, ?_⟩
  · obtain ⟨K, hK⟩ : ∃ K, K = 19999 := ⟨_, rfl⟩
    have bA : decV d.dig * 10 ^ ka < 10 ^ (d.dig.length + ka) := by
      rw [Nat.pow_add]; exact Nat.mul_lt_mul_of_pos_right a1 (Nat.pow_pos (by omega))
    have bU : 1 * 10 ^ ku < 10 ^ (1 + ku) := by
      rw [Nat.pow_add]; exact Nat.mul_lt_mul_of_pos_right (by omega) (Nat.pow_pos (by omega))
    have cA : 10 ^ (d.dig.length + ka) ≤ 10 ^ K := Nat.pow_le_pow_right (by omega) (by omega)
    have cU : 10 ^ (1 + ku) ≤ 10 ^ K := Nat.pow_le_pow_right (by omega) (by omega)
    have e9 : 10 ^ (K + 1) = 10 ^ K * 10 := Nat.pow_succ _ _
    have hle := rndN_le (decV d.dig * 10 ^ ka) (1 * 10 ^ ku) d.neg m
    have bZ : rndN (decV d.dig * 10 ^ ka) (1 * 10 ^ ku) d.neg m * (1 * 10 ^ ku) < 10 ^ (K + 1) := by
      rw [e9]
      generalize 10 ^ K = T at *
      omega
    have := sizeN_le bZ (by omega)
    omega
  · rw [rndD_fin hf.ne, ← hka, ← hku, ← Nat.mul_assoc, tellF_tens, hku]
    congr 1; omega
  · intro X s o l c s' o' l' c' hz hu
    obtain rfl : s = d.neg := by
      obtain ⟨_, _, _, _, g, _⟩ := hz
      rw [g]; exact zv_sgn v0
    have := rto d.neg o l c d.exp s' o' l' c' q (zv d.neg (decV d.dig)) 1 ka ku 0 m X hz (hu.lo (Nat.zero_le _) (by omega)) (by omega) (by omega) ⟨by omega, by omega⟩ (by omega) hm
    rw [zv_nat] at this
    exact this

theorem rAt_in (ca : Int) (na : Bool) (ta : ByteArray) (ea p m : Int) (w : World) (h : MayD ca na (bys ta) ea) (m1 : 0 ≤ m) (m2 : m < 8) (p1 : -4000 ≤ p) (p2 : p ≤ 4000) (h0 : ta.size ≠ 0) : Calls Tryz.prog 17 #[dcV ca na ta ea, .int .i64 p, .int .i64 m] w fun e w' => e = .returned (decErr (rndD ⟨ca.toNat, na, bys ta, ea⟩ 1 p m.toNat)) ∧ Below w.heap.size w w' := by
  have hf := may_fin (may_of h) (fun e => h0 (bys_nil.1 e))
  have bd := may_place h
  have hs : ta.size ≤ 1000 := by
    have := hf.len
    simp only at this
    rw [bys_len] at this
    exact this
  have hO : ∀ X, Calls Tryz.prog 45 #[dcV ca na ta ea] X fun e w' => (∃ s o l c, e = .returned (.agg #[.bool s, .slice o l c, .int .i64 ea]) ∧ Hid (RI w' s o l c (zv na (decV (bys ta))) 1002 0)) ∧ Below X.heap.size X w' :=
    fun X => (rnof ca na ta ea X hs hf.dig).mono (fun e w' ⟨⟨s, o, l, c, he, hr⟩, hb⟩ => ⟨⟨s, o, l, c, he, hr.lo (Nat.zero_le _) (Nat.le_refl _)⟩, hb⟩)
  have v0 : decV (bys ta) ≠ 0 := hf.val
  have a1 : decV (bys ta) < 10 ^ ta.size := by
    have := decV_lt _ (bys ta) rfl hf.dig
    rw [bys_len] at this
    exact this
  have hme : ((m.toNat : Nat) : Int) = m := by omega
  have go : ∀ q : Int, -4000 ≤ q → q ≤ 4000 → (∀ W, Calls Tryz.prog 43 #[dcV ca na ta ea, .int .i64 p] W fun e w' => e = .returned (.int .i64 q) ∧ Below W.heap.size W w') → ¬ q < p → Calls Tryz.prog 17 #[dcV ca na ta ea, .int .i64 p, .int .i64 m] w fun e w' => e = .returned (decErr (rndD ⟨ca.toNat, na, bys ta, ea⟩ 1 q m.toNat)) ∧ Below w.heap.size w w' := by
    intro q q1 q2 hS hq
    obtain ⟨Z, hZ, hsz, hT, C⟩ := to_data ⟨ca.toNat, na, bys ta, ea⟩ hf q m.toNat (by omega) q1 q2
    simp only at hT C
    rw [hme] at C
    rw [← hT]
    rcases dec_two na Z (min ea q) 8430 (by omega) hsz (by omega) (by omega) with ⟨r, e, D⟩ | ⟨e, D⟩
    · rw [e]
      exact rAt_A_yes ca na ta ea p m q (min ea q) _ _ _ _ _ _ w h m1 m2 p1 p2 h0 hS hO C hq D
    · rw [e]
      exact rAt_A_no ca na ta ea p m q (min ea q) _ _ w h m1 m2 p1 p2 h0 hS hO C hq D
  by_cases c1 : p < ea
  · have e1 : rndD ⟨ca.toNat, na, bys ta, ea⟩ 1 p m.toNat = (⟨ca.toNat, na, bys ta, ea⟩, 0) := rndD_exact hf m.toNat (by simp only; rw [show (p - min ea p).toNat = 0 by omega, Nat.pow_zero, Nat.mul_one, Nat.mod_one])
    have e2 : rndD ⟨ca.toNat, na, bys ta, ea⟩ 1 ea m.toNat = (⟨ca.toNat, na, bys ta, ea⟩, 0) := rndD_exact hf m.toNat (by simp only; rw [show (ea - min ea ea).toNat = 0 by omega, Nat.pow_zero, Nat.mul_one, Nat.mod_one])
    rw [e1, ← e2]
    exact go ea (by omega) (by omega) (fun W => rsmall_low ca na ta ea p W hs (by omega) c1) (by omega)
  · by_cases c2 : (ta.size : Int) + ea + 2 < p
    · have hS := fun W => rsmall_high ca na ta ea p W hs (by omega) c2
      obtain ⟨q, hq⟩ : ∃ q, q = (ta.size : Int) + ea + 2 := ⟨_, rfl⟩
      rw [← hq] at hS
      obtain ⟨Z, hZ, hsz, hT, C⟩ := to_data ⟨ca.toNat, na, bys ta, ea⟩ hf q m.toNat (by omega) (by omega) (by omega)
      simp only at hT C hZ
      rw [hme] at C
      rw [show (ea - min ea q).toNat = 0 by omega, show (q - min ea q).toNat = ta.size + 2 by omega, Nat.pow_zero, Nat.mul_one, Nat.one_mul] at hZ
      have k1 : decV (bys ta) + decV (bys ta) < 10 ^ (ta.size + 2) := by rw [Nat.pow_add]; omega
      have k2 : decV (bys ta) + decV (bys ta) < 10 ^ (p - ea).toNat := Nat.lt_of_lt_of_le k1 (Nat.pow_le_pow_right (by omega) (by omega))
      rw [rndN_far _ _ v0 k1] at hZ
      have eR : rndD ⟨ca.toNat, na, bys ta, ea⟩ 1 p m.toNat = tellF na (if leavesB m.toNat na false (-1) then 1 else 0) p := by
        rw [rndD_fin hf.ne]
        simp only
        rw [show (ea - min ea p).toNat = 0 by omega, show (p - min ea p).toNat = (p - ea).toNat by omega, Nat.pow_zero, Nat.mul_one, Nat.one_mul, Nat.mul_one, rndN_far _ _ v0 k2]
      rw [eR]
      by_cases hl : leavesB m.toNat na false (-1) = true
      · rw [if_pos hl] at hZ ⊢
        have z0 : zv na Z ≠ 0 := by
          have hp : 0 < 10 ^ (ta.size + 2) := Nat.pow_pos (by omega)
          have : Z ≠ 0 := by omega
          intro e
          have := congrArg Int.natAbs e
          rw [zv_nat] at this
          omega
        have s1 : sizeN 1 ≤ 20000 := by have := sizeN_le (N := 1) (s := 1) (by omega) (by omega); omega
        rcases dec_two na 1 p 2 (by omega) s1 (by omega) (by omega) with ⟨r, e, D⟩ | ⟨e, D⟩
        · rw [e]
          exact rAt_C_yes ca na ta ea p m q (min ea q) _ _ _ _ _ _ w h m1 m2 p1 p2 h0 hS hO C (by omega) z0 D
        · rw [e]
          exact rAt_C_no ca na ta ea p m q (min ea q) _ _ w h m1 m2 p1 p2 h0 hS hO C (by omega) z0 D
      · rw [if_neg hl] at hZ ⊢
        rw [Nat.zero_mul] at hZ
        subst hZ
        have z0 : zv na 0 = 0 := by cases na <;> rfl
        have e0 : tellF na 0 p = tellF na 0 (min ea q) := by unfold tellF finD; rw [if_pos rfl, if_pos rfl]
        rw [e0]
        rcases dec_two na 0 (min ea q) 8430 (by omega) hsz (by omega) (by omega) with ⟨r, e, D⟩ | ⟨e, D⟩
        · rw [e]
          exact rAt_B_yes ca na ta ea p m q (min ea q) _ _ _ _ _ _ w h m1 m2 p1 p2 h0 hS hO C (by omega) z0 D
        · rw [e]
          exact rAt_B_no ca na ta ea p m q (min ea q) _ _ w h m1 m2 p1 p2 h0 hS hO C (by omega) z0 D
    · exact go p p1 p2 (fun W => rsmall_mid ca na ta ea p W hs (by omega) c1 c2) (by omega)

theorem rAt_any (ca : Int) (na : Bool) (ta : ByteArray) (ea : Int) (p m : Int) (w : World) : Calls Tryz.prog 17 #[dcV ca na ta ea, .int .i64 p, .int .i64 m] w fun e w' => e = .returned (decErr (atR ca na (bys ta) ea p m)) ∧ Below w.heap.size w w' := by
  unfold atR
  by_cases h : MayD ca na (bys ta) ea
  · rw [if_neg (fun g => g h)]
    by_cases h1 : m < 0
    · rw [if_pos (.inl h1)]
      exact rAt_mlow ca na ta ea p m w h h1
    · by_cases h2 : 8 ≤ m
      · rw [if_pos (.inr h2)]
        exact rAt_mhigh ca na ta ea p m w h h2
      · rw [if_neg (by omega)]
        by_cases h3 : p < -4000
        · rw [if_pos (.inl h3)]
          exact rAt_low ca na ta ea p m w h (by omega) (by omega) h3
        · by_cases h4 : 4000 < p
          · rw [if_pos (.inr h4)]
            exact rAt_high ca na ta ea p m w h (by omega) (by omega) h4
          · rw [if_neg (by omega)]
            by_cases h0 : ta.size = 0
            · rw [rndD_zero (show DecT.dig ⟨ca.toNat, na, bys ta, ea⟩ = [] from bys_nil.2 h0), decErr_d h]
              obtain rfl : ta = ⟨#[]⟩ := by
                have := mk_bys ta
                rw [bys_nil.2 h0] at this
                exact this.symm
              exact rAt_nil ca na ea p m w h (by omega) (by omega) (by omega) (by omega)
            · exact rAt_in ca na ta ea p m w h (by omega) (by omega) (by omega) (by omega) h0
  · rw [if_pos h]
    exact rAt_no ca na ta ea p m w h

end Go.Proofs.YtckijnlolmbdiaaGreatDoor

namespace Go.Proofs.YtckijnlolmbdiaaGreatDoor
open Go.RowKit

theorem rplaces_walk (w : World) (htab : Tab w) (ca : Int) (na : Bool) (ta : ByteArray) (ea : Int) (p m : Int) : Calls Tryz.prog 4 #[dcV ca na ta ea, .int .i64 p, .int .i64 m] w fun e w' => e = .returned (.bool true) ∧ Below w.heap.size w w' :=
  roundPlaces_gen ca na ta ea p m _ _ _ _ _ w htab (fun W hT => At_any ca na ta ea p m W hT) (fun W => rAt_any ca na ta ea p m W)

end Go.Proofs.YtckijnlolmbdiaaGreatDoor

namespace Go.Proofs.YtckijnlolmbdiaaGreatDoor
open Go.RowKit

theorem tg : Tryz.prog.globalNamed "internal/strconv.uint64pow10" = some 5 := by kernel_rfl
theorem tgt : (Tryz.prog.globals[5]?).map (·.type) = some 228 := by kernel_rfl
theorem tc20 : Tryz.prog.cellsOf 228 = 20 := by kernel_rfl
theorem tc1 : Tryz.prog.cellsOf 120 = 1 := by kernel_rfl

theorem table {W : World} (h : laidMetH Tryz.prog [("math/bits.deBruijn32tab", Rows.laid_math_bits_deBruijn32tab), ("math/bits.deBruijn64tab", Rows.laid_math_bits_deBruijn64tab), ("internal/strconv.uint64pow10", Rows.laid_internal_strconv_uint64pow10), ("unicode/utf8.acceptRanges", Rows.laid_unicode_utf8_acceptRanges), ("unicode/utf8.first", Rows.laid_unicode_utf8_first)] W) : Tab W := by
  have h' : laidMet Tryz.prog [("math/bits.deBruijn32tab", Rows.laid_math_bits_deBruijn32tab), ("math/bits.deBruijn64tab", Rows.laid_math_bits_deBruijn64tab), ("internal/strconv.uint64pow10", Rows.laid_internal_strconv_uint64pow10), ("unicode/utf8.acceptRanges", Rows.laid_unicode_utf8_acceptRanges), ("unicode/utf8.first", Rows.laid_unicode_utf8_first)] W := h
  obtain ⟨ps, ⟨_, _, _, _, _, q1, _, _, _, _, ⟨_, _, _, _, _, q2, _, _, _, _, ⟨g', t', cs, fuel, p3, q3, hg', ht', hvar, hd, _, _⟩, _⟩, _⟩, _⟩ := h'
  obtain rfl := Option.some.inj (tg.symm.trans hg')
  obtain rfl := Option.some.inj (tgt.symm.trans ht')
  unfold Tab Lib.TabIs
  have hd' : DataW.trod (fun _ => ()) Tryz.prog W 0 (fun _ => true) false fuel 228 cs.toList = some (Lib.tabData .u64 Lib.pow10Tab, p3) := hd
  rw [hvar, ← Lib.cells_of_tab Tryz.underlying228 Tryz.underlying120 tc1 tc20 hd']

/-- The values of a table's reading, whose places hold one number or a few. -/
def tabVals : DataW Unit → Array Value
  | .agg l => (l.flatMap fun
      | .lit (.int k z) => [Value.int k z]
      | .agg l2 => l2.map fun
        | .lit (.int k z) => Value.int k z
        | _ => .int .u8 0
      | _ => []).toArray
  | _ => #[]

/-- A block that holds other values, of the same type. -/
def putVals (d : DataW Unit) : Obj → Obj
  | .cells _ t frozen => .cells (tabVals d) t frozen
  | o => o

/-- The settled world, the five tables holding what their initialisers lay. -/
noncomputable def laidWorld (os : Os) : World :=
  { World.holding Tryz.prog os ⟨#[], #[], []⟩ with
    heap := (((((World.holding Tryz.prog os ⟨#[], #[], []⟩).heap.modify 8 (putVals Rows.laid_math_bits_deBruijn32tab)).modify 9 (putVals Rows.laid_math_bits_deBruijn64tab)).modify 5 (putVals Rows.laid_internal_strconv_uint64pow10)).modify 7 (putVals Rows.laid_unicode_utf8_acceptRanges)).modify 6 (putVals Rows.laid_unicode_utf8_first) }

end Go.Proofs.YtckijnlolmbdiaaGreatDoor
