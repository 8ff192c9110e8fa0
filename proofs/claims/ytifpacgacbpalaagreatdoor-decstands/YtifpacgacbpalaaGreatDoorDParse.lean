/-
  What dec's Parse does.
-/
import Derived.Test.YtifpacgacbpalaaGreatDoorDTake
import Derived.Test.YtifpacgacbpalaaGreatDoorZQ12
namespace Go.Proofs.YtifpacgacbpalaaGreatDoor
open Go.RowKit

def tNan : List UInt8 := [110, 97, 110]
def tInf : List UInt8 := [105, 110, 102]
def tNeg : List UInt8 := [45, 105, 110, 102]

/-- What a text of parts says. -/
noncomputable def partsD : Option Parts → DecT × Int
  | none => (⟨0, false, [], 0⟩, 50)
  | some p => tellF p.neg (decV (p.ahead ++ p.behind)) (p.pow - p.behind.length)

/-- What Parse answers. -/
noncomputable def parseD (l : List UInt8) : DecT × Int :=
  if l = tNan then (⟨2, false, [], 0⟩, 0) else if l = tInf then (⟨1, false, [], 0⟩, 0) else if l = tNeg then (⟨1, true, [], 0⟩, 0) else partsD (parseT l)

theorem clone_any (s : ByteArray) (w : World) (h : s.size ≤ 281474976710656) : Calls Tryz.prog 32 #[.string s] w fun e w' => e = .returned (.string s) ∧ Below w.heap.size w w' := by
  have C := hide (fun W => Tryz.stringslite_Clone s W h)
  go_enter Tryz.func32, Tryz.ntmps32
  go_wp2_with fail
  refine (C.out _).mono ?_
  rintro e w1 ⟨rfl, hb⟩
  go_wp2
  go_ret
  exact ⟨rfl, hb⟩

theorem sl_ne {s : ByteArray} {l : List UInt8} (h : bys s ≠ l) : (s.toList == l) = false := by
  rw [sl]
  exact beq_eq_false_iff_ne.2 h
theorem sl_eq {s : ByteArray} {l : List UInt8} (h : bys s = l) : (s.toList == l) = true := by
  rw [sl, h]
  exact beq_self_eq_true _

theorem powV_lt {l : List UInt8} (h2 : ¬ 5 < (dgs (unsg l)).length) (h3 : aft (unsg l) = []) : -100000 ≤ powV l ∧ powV l ≤ 100000 := by
  have h4 : dgs (unsg l) = unsg l := by have := dgs_aft (unsg l); rwa [h3, List.append_nil] at this
  have h5 := decV_lt _ (unsg l) rfl (by rw [← h4]; exact dgs_digB _)
  rw [h4] at h2
  have h6 : 10 ^ (unsg l).length ≤ 10 ^ 5 := Nat.pow_le_pow_right (by omega) (by omega)
  have h7 : (10 : Nat) ^ 5 = 100000 := by decide
  unfold powV
  split <;> omega

structure PartsOk (s : List UInt8) (p : Parts) : Prop where
  ahead : DigB p.ahead
  behind : DigB p.behind
  al : p.ahead.length ≤ s.length
  bl : p.behind.length ≤ s.length
  lo : -100000 ≤ p.pow
  hi : p.pow ≤ 100000

theorem parts_ok {s : List UInt8} {p : Parts} (h : parseT s = some p) : PartsOk s p := by
  have da : DigB (pAhead s) := dgs_digB _
  have db : DigB (pBehind s) := by
    unfold pBehind; split
    · exact dgs_digB _
    · intro k hk; simp at hk
  have la : (pAhead s).length ≤ s.length := Nat.le_trans (dgs_len _) (p1_len s)
  have lb : (pBehind s).length ≤ s.length := by
    unfold pBehind; split
    · exact Nat.le_trans (dgs_len _) (Nat.le_trans (tp_len _ _) (p2_len s))
    · simp
  unfold parseT at h
  by_cases h1 : pAhead s = [] ∧ pBehind s = []
  · rw [if_pos h1] at h; cases h
  · rw [if_neg h1] at h
    by_cases h2 : p3 s = []
    · rw [if_pos h2] at h; cases h
      exact ⟨da, db, la, lb, by simp, by simp⟩
    · rw [if_neg h2] at h
      by_cases h3 : ¬ (byt (p3 s) 0 = 101 ∨ byt (p3 s) 0 = 69)
      · rw [if_pos h3] at h; cases h
      · rw [if_neg h3] at h
        by_cases h4 : dgs (unsg (p4 s)) = [] ∨ 5 < (dgs (unsg (p4 s))).length ∨ aft (unsg (p4 s)) ≠ []
        · rw [if_pos h4] at h; cases h
        · rw [if_neg h4] at h; cases h
          have h5 : ¬ 5 < (dgs (unsg (p4 s))).length := fun e => h4 (.inr (.inl e))
          have h6 : aft (unsg (p4 s)) = [] := Classical.not_not.1 fun e => h4 (.inr (.inr e))
          obtain ⟨b1, b2⟩ := powV_lt h5 h6
          exact ⟨da, db, la, lb, b1, b2⟩

theorem tellF_len (neg : Bool) (N : Nat) (e : Int) : (tellF neg N e).1.dig.length ≤ 1000 := by
  by_cases h : May (finD neg N e)
  · rw [tellF_yes h]
    rcases may_cases h with ⟨n, h⟩ | h | ⟨n, h⟩ | h
    · rw [h]; simp
    · exact h.len
    · rw [h]; simp
    · rw [h]; simp
  · rw [tellF_no h]; simp

set_option maxRecDepth 100000 in
set_option maxHeartbeats 1000000 in
theorem parse_nan (w : World) : Calls Tryz.prog 14 #[.string ⟨#[110, 97, 110]⟩] w fun e w' => e = .returned (decErr (⟨2, false, [], 0⟩, 0)) ∧ Below w.heap.size w w' := by
  have Br0 := hide (Blk.newAt w (w.heap.size) (rfl) #[.int .i64 0, .bool false, .string ⟨#[]⟩, .int .i64 0] 23)
  have HB0 : Hid (Below w.heap.size w (w.alloc (.cells #[.int .i64 0, .bool false, .string ⟨#[]⟩, .int .i64 0] 23))) := ((Below.refl _ _).alloc (Nat.le_refl _) _)
  go_enter Tryz.func14, Tryz.ntmps14
  go_wp2
  refine bodyPost_ret (results_dec2 rfl _ _ _ _ _ _ _ rfl (Blk.new _ _ _)) rfl ?_
  exact ⟨rfl, (Below.refl _ _).alloc (Nat.le_refl _) _⟩

set_option maxRecDepth 100000 in
set_option maxHeartbeats 1000000 in
theorem parse_inf (w : World) : Calls Tryz.prog 14 #[.string ⟨#[105, 110, 102]⟩] w fun e w' => e = .returned (decErr (⟨1, false, [], 0⟩, 0)) ∧ Below w.heap.size w w' := by
  have Br0 := hide (Blk.newAt w (w.heap.size) (rfl) #[.int .i64 0, .bool false, .string ⟨#[]⟩, .int .i64 0] 23)
  have HB0 : Hid (Below w.heap.size w (w.alloc (.cells #[.int .i64 0, .bool false, .string ⟨#[]⟩, .int .i64 0] 23))) := ((Below.refl _ _).alloc (Nat.le_refl _) _)
  go_enter Tryz.func14, Tryz.ntmps14
  go_wp2
  refine bodyPost_ret (results_dec2 rfl _ _ _ _ _ _ _ rfl (Blk.new _ _ _)) rfl ?_
  exact ⟨rfl, (Below.refl _ _).alloc (Nat.le_refl _) _⟩

set_option maxRecDepth 100000 in
set_option maxHeartbeats 1000000 in
theorem parse_neg (w : World) : Calls Tryz.prog 14 #[.string ⟨#[45, 105, 110, 102]⟩] w fun e w' => e = .returned (decErr (⟨1, true, [], 0⟩, 0)) ∧ Below w.heap.size w w' := by
  have Br0 := hide (Blk.newAt w (w.heap.size) (rfl) #[.int .i64 0, .bool false, .string ⟨#[]⟩, .int .i64 0] 23)
  have HB0 : Hid (Below w.heap.size w (w.alloc (.cells #[.int .i64 0, .bool false, .string ⟨#[]⟩, .int .i64 0] 23))) := ((Below.refl _ _).alloc (Nat.le_refl _) _)
  go_enter Tryz.func14, Tryz.ntmps14
  go_wp2
  refine bodyPost_ret (results_dec2 rfl _ _ _ _ _ _ _ rfl (Blk.new _ _ _)) rfl ?_
  exact ⟨rfl, (Below.refl _ _).alloc (Nat.le_refl _) _⟩

set_option maxRecDepth 100000 in
set_option maxHeartbeats 1000000 in
theorem parse_none (s : ByteArray) (w : World) (hs : s.size ≤ 281474976710656) (h1 : bys s ≠ tNan) (h2 : bys s ≠ tInf) (h3 : bys s ≠ tNeg) (hp : parseT (bys s) = none) : Calls Tryz.prog 14 #[.string s] w fun e w' => e = .returned (decErr (⟨0, false, [], 0⟩, 50)) ∧ Below w.heap.size w w' := by
  have e1 := sl_ne h1
  have e2 := sl_ne h2
  have e3 := sl_ne h3
  unfold tNan at e1
  unfold tInf at e2
  unfold tNeg at e3
  have TK := hide (fun W => take_any s W hs)
  rw [hp] at TK
  unfold partsV numV at TK
  clear h1 h2 h3 hs hp
  have Br0 := hide (Blk.newAt w (w.heap.size) (rfl) #[.int .i64 0, .bool false, .string ⟨#[]⟩, .int .i64 0] 23)
  have HB0 : Hid (Below w.heap.size w (w.alloc (.cells #[.int .i64 0, .bool false, .string ⟨#[]⟩, .int .i64 0] 23))) := ((Below.refl _ _).alloc (Nat.le_refl _) _)
  go_enter Tryz.func14, Tryz.ntmps14
  go_wp2_with fail
  refine (TK.out _).mono ?_
  rintro e w1 ⟨rfl, hb⟩
  have Br1 := hide (Br0.out.below hb Br0.out.lt)
  have HB1 := hide (HB0.out.trans (hb.mono HB0.out.size))
  clear hb Br0 HB0 
  have yr0 : w1.cell? ⟨w.heap.size, 0, none⟩ = some (.int .i64 0) := Br1.out.cell 0
  have yr1 : w1.cell? ⟨w.heap.size, 1, none⟩ = some (.bool false) := Br1.out.cell 1
  have yr2 : w1.cell? ⟨w.heap.size, 2, none⟩ = some (.string ⟨#[]⟩) := Br1.out.cell 2
  have yr3 : w1.cell? ⟨w.heap.size, 3, none⟩ = some (.int .i64 0) := Br1.out.cell 3
  have Br2 := hide ((Br1.out.alloc (.cells #[.bool false, .string ⟨#[]⟩, .string ⟨#[]⟩, .int .i64 0] 41)))
  have Bn2 := hide ((Blk.newAt w1 (w1.heap.size) (rfl) #[.bool false, .string ⟨#[]⟩, .string ⟨#[]⟩, .int .i64 0] 41))
  have HB2 : Hid (Below w.heap.size w (w1.alloc (.cells #[.bool false, .string ⟨#[]⟩, .string ⟨#[]⟩, .int .i64 0] 41))) := (HB1.out.alloc HB1.out.size _)
  clear Br1 HB1 yr0 yr1 yr2 yr3
  have yr0 : (w1.alloc (.cells #[.bool false, .string ⟨#[]⟩, .string ⟨#[]⟩, .int .i64 0] 41)).cell? ⟨w.heap.size, 0, none⟩ = some (.int .i64 0) := Br2.out.cell 0
  have yr1 : (w1.alloc (.cells #[.bool false, .string ⟨#[]⟩, .string ⟨#[]⟩, .int .i64 0] 41)).cell? ⟨w.heap.size, 1, none⟩ = some (.bool false) := Br2.out.cell 1
  have yr2 : (w1.alloc (.cells #[.bool false, .string ⟨#[]⟩, .string ⟨#[]⟩, .int .i64 0] 41)).cell? ⟨w.heap.size, 2, none⟩ = some (.string ⟨#[]⟩) := Br2.out.cell 2
  have yr3 : (w1.alloc (.cells #[.bool false, .string ⟨#[]⟩, .string ⟨#[]⟩, .int .i64 0] 41)).cell? ⟨w.heap.size, 3, none⟩ = some (.int .i64 0) := Br2.out.cell 3
  have yn0 : (w1.alloc (.cells #[.bool false, .string ⟨#[]⟩, .string ⟨#[]⟩, .int .i64 0] 41)).cell? ⟨w1.heap.size, 0, none⟩ = some (.bool false) := Bn2.out.cell 0
  have yn1 : (w1.alloc (.cells #[.bool false, .string ⟨#[]⟩, .string ⟨#[]⟩, .int .i64 0] 41)).cell? ⟨w1.heap.size, 1, none⟩ = some (.string ⟨#[]⟩) := Bn2.out.cell 1
  have yn2 : (w1.alloc (.cells #[.bool false, .string ⟨#[]⟩, .string ⟨#[]⟩, .int .i64 0] 41)).cell? ⟨w1.heap.size, 2, none⟩ = some (.string ⟨#[]⟩) := Bn2.out.cell 2
  have yn3 : (w1.alloc (.cells #[.bool false, .string ⟨#[]⟩, .string ⟨#[]⟩, .int .i64 0] 41)).cell? ⟨w1.heap.size, 3, none⟩ = some (.int .i64 0) := Bn2.out.cell 3
  have fr0 := Br2.out.free 0
  have fr1 := Br2.out.free 1
  have fr2 := Br2.out.free 2
  have fr3 := Br2.out.free 3
  go_wp2
  refine bodyPost_ret (results_dec2 rfl _ _ _ _ _ _ _ rfl (Br2.out.put4 _ _ _ _)) rfl ?_
  exact ⟨rfl, below_put4 (HB2.out) (by omega) _ _ _ _⟩

set_option maxRecDepth 100000 in
set_option maxHeartbeats 1000000 in
theorem parse_some (s : ByteArray) (w : World) (p : Parts) (hs : s.size ≤ 140737488355328) (h1 : bys s ≠ tNan) (h2 : bys s ≠ tInf) (h3 : bys s ≠ tNeg) (hp : parseT (bys s) = some p) : Calls Tryz.prog 14 #[.string s] w fun e w' => e = .returned (decErr (tellF p.neg (decV (p.ahead ++ p.behind)) (p.pow - p.behind.length))) ∧ Below w.heap.size w w' := by
  have e1 := sl_ne h1
  have e2 := sl_ne h2
  have e3 := sl_ne h3
  unfold tNan at e1
  unfold tInf at e2
  unfold tNeg at e3
  obtain ⟨pa, pb, pc, pd, pe, pf⟩ := parts_ok hp
  rw [bys_len] at pc pd
  have TK := hide (fun W => take_any s W (by omega))
  rw [hp] at TK
  unfold partsV numV at TK
  obtain ⟨S, a, b, q⟩ := p
  simp only at pa pb pc pd pe pf TK ⊢
  obtain ⟨A, hA⟩ : ∃ A : ByteArray, A = ⟨a.toArray⟩ := ⟨_, rfl⟩
  obtain ⟨B, hB⟩ : ∃ B : ByteArray, B = ⟨b.toArray⟩ := ⟨_, rfl⟩
  rw [← hA, ← hB] at TK
  have hAs : A.size = a.length := by rw [hA, size_mk0]
  have hBs : B.size = b.length := by rw [hB, size_mk0]
  have hAB : bys (A ++ B) = a ++ b := by rw [bys_append, hA, hB, bys_mk, bys_mk]
  have FI := hide (fun W => fin_any S (A ++ B) (q - (B.size : Int)) W (by rw [ByteArray.size_append]; omega) (by omega) (by omega) (by rw [hAB]; exact pa.append pb))
  rw [hAB] at FI
  rw [← hBs]
  have hsum : A.size + B.size ≤ 9223372036854775807 := by omega
  have hsum2 : ¬ 9223372036854775807 < A.size + B.size := by omega
  have hl := tellF_len S (decV (a ++ b)) (q - (B.size : Int))
  rcases hT : tellF S (decV (a ++ b)) (q - (B.size : Int)) with ⟨⟨c, n, l, e⟩, er⟩
  rw [hT] at FI hl
  unfold decErr decVal at FI ⊢
  simp only at FI hl ⊢
  obtain ⟨D, hD⟩ : ∃ D : ByteArray, D = ⟨l.toArray⟩ := ⟨_, rfl⟩
  rw [← hD] at FI ⊢
  have CL := hide (fun W => clone_any D W (by rw [hD, size_mk0]; omega))
  have hq1 : -9000000000000000000 ≤ q - (B.size : Int) := by omega
  have hq2 : q - (B.size : Int) ≤ 9000000000000000000 := by omega
  clear h1 h2 h3 hs hp hA hB hAB hT hl hD pa pb hAs hBs pc pd
  have Br0 := hide (Blk.newAt w (w.heap.size) (rfl) #[.int .i64 0, .bool false, .string ⟨#[]⟩, .int .i64 0] 23)
  have HB0 : Hid (Below w.heap.size w (w.alloc (.cells #[.int .i64 0, .bool false, .string ⟨#[]⟩, .int .i64 0] 23))) := ((Below.refl _ _).alloc (Nat.le_refl _) _)
  go_enter Tryz.func14, Tryz.ntmps14
  go_wp2_with fail
  refine (TK.out _).mono ?_
  rintro e w1 ⟨rfl, hb⟩
  have Br1 := hide (Br0.out.below hb Br0.out.lt)
  have HB1 := hide (HB0.out.trans (hb.mono HB0.out.size))
  clear hb Br0 HB0 
  have yr0 : w1.cell? ⟨w.heap.size, 0, none⟩ = some (.int .i64 0) := Br1.out.cell 0
  have yr1 : w1.cell? ⟨w.heap.size, 1, none⟩ = some (.bool false) := Br1.out.cell 1
  have yr2 : w1.cell? ⟨w.heap.size, 2, none⟩ = some (.string ⟨#[]⟩) := Br1.out.cell 2
  have yr3 : w1.cell? ⟨w.heap.size, 3, none⟩ = some (.int .i64 0) := Br1.out.cell 3
  have Br2 := hide ((Br1.out.alloc (.cells #[.bool S, .string A, .string B, .int .i64 q] 41)))
  have Bn2 := hide ((Blk.newAt w1 (w1.heap.size) (rfl) #[.bool S, .string A, .string B, .int .i64 q] 41))
  have HB2 : Hid (Below w.heap.size w (w1.alloc (.cells #[.bool S, .string A, .string B, .int .i64 q] 41))) := (HB1.out.alloc HB1.out.size _)
  clear Br1 HB1 yr0 yr1 yr2 yr3
  have yr0 : (w1.alloc (.cells #[.bool S, .string A, .string B, .int .i64 q] 41)).cell? ⟨w.heap.size, 0, none⟩ = some (.int .i64 0) := Br2.out.cell 0
  have yr1 : (w1.alloc (.cells #[.bool S, .string A, .string B, .int .i64 q] 41)).cell? ⟨w.heap.size, 1, none⟩ = some (.bool false) := Br2.out.cell 1
  have yr2 : (w1.alloc (.cells #[.bool S, .string A, .string B, .int .i64 q] 41)).cell? ⟨w.heap.size, 2, none⟩ = some (.string ⟨#[]⟩) := Br2.out.cell 2
  have yr3 : (w1.alloc (.cells #[.bool S, .string A, .string B, .int .i64 q] 41)).cell? ⟨w.heap.size, 3, none⟩ = some (.int .i64 0) := Br2.out.cell 3
  have yn0 : (w1.alloc (.cells #[.bool S, .string A, .string B, .int .i64 q] 41)).cell? ⟨w1.heap.size, 0, none⟩ = some (.bool S) := Bn2.out.cell 0
  have yn1 : (w1.alloc (.cells #[.bool S, .string A, .string B, .int .i64 q] 41)).cell? ⟨w1.heap.size, 1, none⟩ = some (.string A) := Bn2.out.cell 1
  have yn2 : (w1.alloc (.cells #[.bool S, .string A, .string B, .int .i64 q] 41)).cell? ⟨w1.heap.size, 2, none⟩ = some (.string B) := Bn2.out.cell 2
  have yn3 : (w1.alloc (.cells #[.bool S, .string A, .string B, .int .i64 q] 41)).cell? ⟨w1.heap.size, 3, none⟩ = some (.int .i64 q) := Bn2.out.cell 3
  go_wp2_with fail
  refine (FI.out _).mono ?_
  rintro e w3 ⟨rfl, hb⟩
  have Br3 := hide (Br2.out.below hb Br2.out.lt)
  have Bn3 := hide (Bn2.out.below hb Bn2.out.lt)
  have HB3 := hide (HB2.out.trans (hb.mono HB2.out.size))
  clear hb Br2 Bn2 HB2 yr0 yr1 yr2 yr3 yn0 yn1 yn2 yn3
  have hlt := Br3.out.lt
  have yr0 : w3.cell? ⟨w.heap.size, 0, none⟩ = some (.int .i64 0) := Br3.out.cell 0
  have yr1 : w3.cell? ⟨w.heap.size, 1, none⟩ = some (.bool false) := Br3.out.cell 1
  have yr2 : w3.cell? ⟨w.heap.size, 2, none⟩ = some (.string ⟨#[]⟩) := Br3.out.cell 2
  have yr3 : w3.cell? ⟨w.heap.size, 3, none⟩ = some (.int .i64 0) := Br3.out.cell 3
  have yn0 : w3.cell? ⟨w1.heap.size, 0, none⟩ = some (.bool S) := Bn3.out.cell 0
  have yn1 : w3.cell? ⟨w1.heap.size, 1, none⟩ = some (.string A) := Bn3.out.cell 1
  have yn2 : w3.cell? ⟨w1.heap.size, 2, none⟩ = some (.string B) := Bn3.out.cell 2
  have yn3 : w3.cell? ⟨w1.heap.size, 3, none⟩ = some (.int .i64 q) := Bn3.out.cell 3
  go_wp2_with fail
  refine (CL.out _).mono ?_
  rintro e w4 ⟨rfl, hb⟩
  have Br4 := hide ((Br3.out.alloc (.cells #[.int .i64 (c : Int), .bool n, .string D, .int .i64 e] 23)).below hb (Br3.out.alloc (.cells #[.int .i64 (c : Int), .bool n, .string D, .int .i64 e] 23)).lt)
  have Bn4 := hide ((Bn3.out.alloc (.cells #[.int .i64 (c : Int), .bool n, .string D, .int .i64 e] 23)).below hb (Bn3.out.alloc (.cells #[.int .i64 (c : Int), .bool n, .string D, .int .i64 e] 23)).lt)
  have Bd4 := hide ((Blk.newAt w3 (w3.heap.size) (rfl) #[.int .i64 (c : Int), .bool n, .string D, .int .i64 e] 23).below hb (Blk.newAt w3 (w3.heap.size) (rfl) #[.int .i64 (c : Int), .bool n, .string D, .int .i64 e] 23).lt)
  have HB4 := hide ((HB3.out.alloc HB3.out.size _).trans (hb.mono (HB3.out.alloc HB3.out.size _).size))
  clear hb Br3 Bn3 HB3 yr0 yr1 yr2 yr3 yn0 yn1 yn2 yn3
  have hn1 : ¬ w3.heap.size = w.heap.size := by omega
  have hn2 : ¬ w.heap.size = w3.heap.size := by omega
  have hge : w.heap.size ≤ w3.heap.size := by omega
  clear hlt
  have fd2 := Bd4.out.free 2
  have yr0 : w4.cell? ⟨w.heap.size, 0, none⟩ = some (.int .i64 0) := Br4.out.cell 0
  have yr1 : w4.cell? ⟨w.heap.size, 1, none⟩ = some (.bool false) := Br4.out.cell 1
  have yr2 : w4.cell? ⟨w.heap.size, 2, none⟩ = some (.string ⟨#[]⟩) := Br4.out.cell 2
  have yr3 : w4.cell? ⟨w.heap.size, 3, none⟩ = some (.int .i64 0) := Br4.out.cell 3
  have yn0 : w4.cell? ⟨w1.heap.size, 0, none⟩ = some (.bool S) := Bn4.out.cell 0
  have yn1 : w4.cell? ⟨w1.heap.size, 1, none⟩ = some (.string A) := Bn4.out.cell 1
  have yn2 : w4.cell? ⟨w1.heap.size, 2, none⟩ = some (.string B) := Bn4.out.cell 2
  have yn3 : w4.cell? ⟨w1.heap.size, 3, none⟩ = some (.int .i64 q) := Bn4.out.cell 3
  have yd0 : w4.cell? ⟨w3.heap.size, 0, none⟩ = some (.int .i64 (c : Int)) := Bd4.out.cell 0
  have yd1 : w4.cell? ⟨w3.heap.size, 1, none⟩ = some (.bool n) := Bd4.out.cell 1
  have yd2 : w4.cell? ⟨w3.heap.size, 2, none⟩ = some (.string D) := Bd4.out.cell 2
  have yd3 : w4.cell? ⟨w3.heap.size, 3, none⟩ = some (.int .i64 e) := Bd4.out.cell 3
  have fr0 := Br4.out.free 0
  have fr1 := Br4.out.free 1
  have fr2 := Br4.out.free 2
  have fr3 := Br4.out.free 3
  go_wp2
  refine bodyPost_ret (results_dec2 rfl _ _ _ _ _ _ _ rfl ((Br4.out.other (by simpa using hn1) _).put4 _ _ _ _)) rfl ?_
  exact ⟨rfl, below_put4 (HB4.out.setCell hge _) (by omega) _ _ _ _⟩

theorem Parse_any (s : ByteArray) (w : World) (hs : s.size ≤ 140737488355328) : Calls Tryz.prog 14 #[.string s] w fun e w' => e = .returned (decErr (parseD (bys s))) ∧ Below w.heap.size w w' := by
  unfold parseD
  by_cases h1 : bys s = tNan
  · rw [if_pos h1, ← mk_bys s, h1]; exact parse_nan w
  · rw [if_neg h1]
    by_cases h2 : bys s = tInf
    · rw [if_pos h2, ← mk_bys s, h2]; exact parse_inf w
    · rw [if_neg h2]
      by_cases h3 : bys s = tNeg
      · rw [if_pos h3, ← mk_bys s, h3]; exact parse_neg w
      · rw [if_neg h3]
        rcases hp : parseT (bys s) with _ | p
        · exact parse_none s w (by omega) h1 h2 h3 hp
        · exact parse_some s w p hs h1 h2 h3 hp

end Go.Proofs.YtifpacgacbpalaaGreatDoor
