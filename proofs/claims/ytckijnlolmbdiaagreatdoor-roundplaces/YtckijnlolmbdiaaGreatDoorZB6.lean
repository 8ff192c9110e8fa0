/-
  What round's At, Digits and Step answer, whatever they are handed.
  quipulaw06's awake: the calls answer what the document fixes.
  RoundPlaces, RoundDigits and RoundSteps, out of what the code and the reference answer.
  Plain mathematics: limbs of 64 bits as digits of 16 bits, and back.
  What the reference's In does: limbs, as digits of 16 bits.
-/
import Derived.Test.YtckijnlolmbdiaaGreatDoorZB5
import Derived.Test.YtckijnlolmbdiaaGreatDoorZB4
import Derived.Test.YtckijnlolmbdiaaGreatDoorZB2
import Derived.Test.YtckijnlolmbdiaaGreatDoorZRTrim
import Derived.Test.YtckijnlolmbdiaaGreatDoorZUint
import Derived.Laws.Bits64b
namespace Go.Proofs.YtckijnlolmbdiaaGreatDoor
open Go.RowKit

def zeroD : DecT := ⟨0, false, [], 0⟩

/-- What At answers. -/
noncomputable def atR (ca : Int) (na : Bool) (l : List UInt8) (ea p m : Int) : DecT × Int := open Classical in
  if ¬ MayD ca na l ea then (zeroD, 52) else if m < 0 ∨ 8 ≤ m then (zeroD, 60) else if p < -4000 ∨ 4000 < p then (zeroD, 61) else rndD ⟨ca.toNat, na, l, ea⟩ 1 p m.toNat

/-- What Digits answers. -/
noncomputable def digR (ca : Int) (na : Bool) (l : List UInt8) (ea n m : Int) : DecT × Int := open Classical in
  if ¬ MayD ca na l ea then (zeroD, 52) else if m < 0 ∨ 8 ≤ m then (zeroD, 60) else if n < 1 ∨ 1000 < n then (zeroD, 61) else rndD ⟨ca.toNat, na, l, ea⟩ 1 ((l.length : Int) + ea - n) m.toNat

/-- Is it a step? -/
def StepD (c : Int) (n : Bool) (l : List UInt8) : Prop := c = 0 ∧ n = false ∧ l ≠ [] ∧ l.length ≤ 32

/-- What Step answers. -/
noncomputable def stepR (ca : Int) (na : Bool) (l : List UInt8) (ea : Int) (cb : Int) (nb : Bool) (k : List UInt8) (eb m : Int) : DecT × Int := open Classical in
  if ¬ MayD cb nb k eb then (zeroD, 52) else if ¬ MayD ca na l ea then (zeroD, 52) else if m < 0 ∨ 8 ≤ m then (zeroD, 60) else if ¬ StepD cb nb k then (zeroD, 62) else rndD ⟨ca.toNat, na, l, ea⟩ (decV k) eb m.toNat

theorem may_cls {c : Int} {n : Bool} {l : List UInt8} {e : Int} (h : MayD c n l e) : c = ((c.toNat : Nat) : Int) := by
  rcases h with ⟨h, _⟩ | ⟨h, _⟩ | ⟨h, _⟩ <;> omega

theorem may_of {c : Int} {n : Bool} {l : List UInt8} {e : Int} (h : MayD c n l e) : May ⟨c.toNat, n, l, e⟩ := by
  unfold May
  simp only
  rw [← may_cls h]
  exact h

theorem ok49 : OkT (bys ⟨#[49]⟩) := ⟨by decide, fun h => absurd h (by decide), fun k hk => by
  have h0 : k = 0 := by
    have : (bys ⟨#[49]⟩).length = 1 := rfl
    omega
  subst h0
  decide⟩

theorem may_place {c : Int} {n : Bool} {t : ByteArray} {e : Int} (h : MayD c n (bys t) e) : -3000 ≤ e ∧ e ≤ 2000 ∧ -2000 ≤ (t.size : Int) + e ∧ (t.size : Int) + e ≤ 2000 := by
  rcases h with ⟨_, ⟨h1, h2⟩ | ⟨_, h1, h2, h3, _⟩⟩ | ⟨_, h1, h2⟩ | ⟨_, _, h1, h2⟩
  · rw [bys_nil] at h1; omega
  · rw [bys_len] at h1 h2 h3; omega
  · rw [bys_nil] at h1; omega
  · rw [bys_nil] at h1; omega

theorem may_okT {n : Bool} {t : ByteArray} {e : Int} (h : MayD 0 n (bys t) e) (h0 : t.size ≠ 0) : OkT (bys t) ∧ byt (bys t) 0 ≠ 48 := by
  rcases h with ⟨_, ⟨h1, _⟩ | ⟨h1, _, _, _, h2, _, h3⟩⟩ | ⟨h1, _⟩ | ⟨h1, _⟩
  · exact absurd (bys_nil.1 h1) h0
  · exact ⟨⟨h1, fun e => absurd e h2, h3⟩, h2⟩
  · omega
  · omega

theorem mult_raw (ca : Int) (na : Bool) (ta : ByteArray) (ea : Int) (nb : Bool) (tb : ByteArray) (eb : Int) (m : Int) (h : MayD ca na (bys ta) ea) (m1 : 0 ≤ m) (m2 : m < 8) (hok : OkT (bys tb)) (h48 : byt (bys tb) 0 ≠ 48) (hs : tb.size ≤ 32) (h1 : -4000 ≤ eb) (h2 : eb ≤ 4000) (w : World) (htab : Tab w) :
    Calls Tryz.prog 41 #[dcV ca na ta ea, dcV 0 nb tb eb, .int .i64 m] w fun e w' => e = .returned (decErr (rndD ⟨ca.toNat, na, bys ta, ea⟩ (decV (bys tb)) eb m.toNat)) ∧ Below w.heap.size w w' := by
  have g := mult_any ⟨ca.toNat, na, bys ta, ea⟩ (may_of h) nb tb eb m.toNat w (by omega) hok h48 hs h1 h2 htab
  unfold decVal at g
  simp only at g
  rw [mk_bys, ← may_cls h, show ((m.toNat : Nat) : Int) = m by omega] at g
  exact g

set_option maxHeartbeats 1000000 in
theorem At_no (ca : Int) (na : Bool) (ta : ByteArray) (ea : Int) (p m : Int) (w : World) (h : ¬ MayD ca na (bys ta) ea) : Calls Tryz.prog 16 #[dcV ca na ta ea, .int .i64 p, .int .i64 m] w fun e w' => e = .returned (.tuple #[dcV 0 false ⟨#[]⟩ 0, .int .i64 52]) ∧ Below w.heap.size w w' := by
  have CK := hide (fun W => check_no ca na ta ea m W h)
  have Ba0 := hide ((Blk.newAt w (w.heap.size) (rfl) #[.int .i64 ca, .bool na, .string ta, .int .i64 ea] 23).alloc (.cells #[.int .i64 0, .bool false, .string ⟨#[]⟩, .int .i64 0] 23))
  have Br0 := hide (Blk.newAt (w.alloc (.cells #[.int .i64 ca, .bool na, .string ta, .int .i64 ea] 23)) (w.heap.size + 1) (by simp) #[.int .i64 0, .bool false, .string ⟨#[]⟩, .int .i64 0] 23)
  have HB0 : Hid (Below w.heap.size w ((w.alloc (.cells #[.int .i64 ca, .bool na, .string ta, .int .i64 ea] 23)).alloc (.cells #[.int .i64 0, .bool false, .string ⟨#[]⟩, .int .i64 0] 23))) := (((Below.refl _ _).alloc (Nat.le_refl _) _).alloc (by simp <;> omega) _)
  go_enter Tryz.func16, Tryz.ntmps16
  go_wp2_with fail
  refine (CK.out _).mono ?_
  rintro e w1 ⟨rfl, hb⟩
  have Ba1 := hide (Ba0.out.below hb Ba0.out.lt)
  have Br1 := hide (Br0.out.below hb Br0.out.lt)
  have HB1 := hide (HB0.out.trans (hb.mono HB0.out.size))
  clear hb Ba0 Br0 HB0 
  have ya0 : w1.cell? ⟨w.heap.size, 0, none⟩ = some (.int .i64 ca) := Ba1.out.cell 0
  have ya1 : w1.cell? ⟨w.heap.size, 1, none⟩ = some (.bool na) := Ba1.out.cell 1
  have ya2 : w1.cell? ⟨w.heap.size, 2, none⟩ = some (.string ta) := Ba1.out.cell 2
  have ya3 : w1.cell? ⟨w.heap.size, 3, none⟩ = some (.int .i64 ea) := Ba1.out.cell 3
  have yr0 : w1.cell? ⟨w.heap.size + 1, 0, none⟩ = some (.int .i64 0) := Br1.out.cell 0
  have yr1 : w1.cell? ⟨w.heap.size + 1, 1, none⟩ = some (.bool false) := Br1.out.cell 1
  have yr2 : w1.cell? ⟨w.heap.size + 1, 2, none⟩ = some (.string ⟨#[]⟩) := Br1.out.cell 2
  have yr3 : w1.cell? ⟨w.heap.size + 1, 3, none⟩ = some (.int .i64 0) := Br1.out.cell 3
  have fr0 := Br1.out.free 0
  have fr1 := Br1.out.free 1
  have fr2 := Br1.out.free 2
  have fr3 := Br1.out.free 3
  go_wp2
  refine bodyPost_ret (results_dec2 rfl _ _ _ _ _ _ _ rfl (Br1.out.put4 _ _ _ _)) rfl ?_
  exact ⟨rfl, below_put4 (HB1.out) (by omega) _ _ _ _⟩

set_option maxHeartbeats 1000000 in
theorem At_mlow (ca : Int) (na : Bool) (ta : ByteArray) (ea : Int) (p m : Int) (w : World) (h : MayD ca na (bys ta) ea) (hm : m < 0) : Calls Tryz.prog 16 #[dcV ca na ta ea, .int .i64 p, .int .i64 m] w fun e w' => e = .returned (.tuple #[dcV 0 false ⟨#[]⟩ 0, .int .i64 60]) ∧ Below w.heap.size w w' := by
  have CK := hide (fun W => check_low ca na ta ea m W h hm)
  have Ba0 := hide ((Blk.newAt w (w.heap.size) (rfl) #[.int .i64 ca, .bool na, .string ta, .int .i64 ea] 23).alloc (.cells #[.int .i64 0, .bool false, .string ⟨#[]⟩, .int .i64 0] 23))
  have Br0 := hide (Blk.newAt (w.alloc (.cells #[.int .i64 ca, .bool na, .string ta, .int .i64 ea] 23)) (w.heap.size + 1) (by simp) #[.int .i64 0, .bool false, .string ⟨#[]⟩, .int .i64 0] 23)
  have HB0 : Hid (Below w.heap.size w ((w.alloc (.cells #[.int .i64 ca, .bool na, .string ta, .int .i64 ea] 23)).alloc (.cells #[.int .i64 0, .bool false, .string ⟨#[]⟩, .int .i64 0] 23))) := (((Below.refl _ _).alloc (Nat.le_refl _) _).alloc (by simp <;> omega) _)
  go_enter Tryz.func16, Tryz.ntmps16
  go_wp2_with fail
  refine (CK.out _).mono ?_
  rintro e w1 ⟨rfl, hb⟩
  have Ba1 := hide (Ba0.out.below hb Ba0.out.lt)
  have Br1 := hide (Br0.out.below hb Br0.out.lt)
  have HB1 := hide (HB0.out.trans (hb.mono HB0.out.size))
  clear hb Ba0 Br0 HB0 
  have ya0 : w1.cell? ⟨w.heap.size, 0, none⟩ = some (.int .i64 ca) := Ba1.out.cell 0
  have ya1 : w1.cell? ⟨w.heap.size, 1, none⟩ = some (.bool na) := Ba1.out.cell 1
  have ya2 : w1.cell? ⟨w.heap.size, 2, none⟩ = some (.string ta) := Ba1.out.cell 2
  have ya3 : w1.cell? ⟨w.heap.size, 3, none⟩ = some (.int .i64 ea) := Ba1.out.cell 3
  have yr0 : w1.cell? ⟨w.heap.size + 1, 0, none⟩ = some (.int .i64 0) := Br1.out.cell 0
  have yr1 : w1.cell? ⟨w.heap.size + 1, 1, none⟩ = some (.bool false) := Br1.out.cell 1
  have yr2 : w1.cell? ⟨w.heap.size + 1, 2, none⟩ = some (.string ⟨#[]⟩) := Br1.out.cell 2
  have yr3 : w1.cell? ⟨w.heap.size + 1, 3, none⟩ = some (.int .i64 0) := Br1.out.cell 3
  have fr0 := Br1.out.free 0
  have fr1 := Br1.out.free 1
  have fr2 := Br1.out.free 2
  have fr3 := Br1.out.free 3
  go_wp2
  refine bodyPost_ret (results_dec2 rfl _ _ _ _ _ _ _ rfl (Br1.out.put4 _ _ _ _)) rfl ?_
  exact ⟨rfl, below_put4 (HB1.out) (by omega) _ _ _ _⟩

set_option maxHeartbeats 1000000 in
theorem At_mhigh (ca : Int) (na : Bool) (ta : ByteArray) (ea : Int) (p m : Int) (w : World) (h : MayD ca na (bys ta) ea) (hm : 8 ≤ m) : Calls Tryz.prog 16 #[dcV ca na ta ea, .int .i64 p, .int .i64 m] w fun e w' => e = .returned (.tuple #[dcV 0 false ⟨#[]⟩ 0, .int .i64 60]) ∧ Below w.heap.size w w' := by
  have CK := hide (fun W => check_high ca na ta ea m W h hm)
  have Ba0 := hide ((Blk.newAt w (w.heap.size) (rfl) #[.int .i64 ca, .bool na, .string ta, .int .i64 ea] 23).alloc (.cells #[.int .i64 0, .bool false, .string ⟨#[]⟩, .int .i64 0] 23))
  have Br0 := hide (Blk.newAt (w.alloc (.cells #[.int .i64 ca, .bool na, .string ta, .int .i64 ea] 23)) (w.heap.size + 1) (by simp) #[.int .i64 0, .bool false, .string ⟨#[]⟩, .int .i64 0] 23)
  have HB0 : Hid (Below w.heap.size w ((w.alloc (.cells #[.int .i64 ca, .bool na, .string ta, .int .i64 ea] 23)).alloc (.cells #[.int .i64 0, .bool false, .string ⟨#[]⟩, .int .i64 0] 23))) := (((Below.refl _ _).alloc (Nat.le_refl _) _).alloc (by simp <;> omega) _)
  go_enter Tryz.func16, Tryz.ntmps16
  go_wp2_with fail
  refine (CK.out _).mono ?_
  rintro e w1 ⟨rfl, hb⟩
  have Ba1 := hide (Ba0.out.below hb Ba0.out.lt)
  have Br1 := hide (Br0.out.below hb Br0.out.lt)
  have HB1 := hide (HB0.out.trans (hb.mono HB0.out.size))
  clear hb Ba0 Br0 HB0 
  have ya0 : w1.cell? ⟨w.heap.size, 0, none⟩ = some (.int .i64 ca) := Ba1.out.cell 0
  have ya1 : w1.cell? ⟨w.heap.size, 1, none⟩ = some (.bool na) := Ba1.out.cell 1
  have ya2 : w1.cell? ⟨w.heap.size, 2, none⟩ = some (.string ta) := Ba1.out.cell 2
  have ya3 : w1.cell? ⟨w.heap.size, 3, none⟩ = some (.int .i64 ea) := Ba1.out.cell 3
  have yr0 : w1.cell? ⟨w.heap.size + 1, 0, none⟩ = some (.int .i64 0) := Br1.out.cell 0
  have yr1 : w1.cell? ⟨w.heap.size + 1, 1, none⟩ = some (.bool false) := Br1.out.cell 1
  have yr2 : w1.cell? ⟨w.heap.size + 1, 2, none⟩ = some (.string ⟨#[]⟩) := Br1.out.cell 2
  have yr3 : w1.cell? ⟨w.heap.size + 1, 3, none⟩ = some (.int .i64 0) := Br1.out.cell 3
  have fr0 := Br1.out.free 0
  have fr1 := Br1.out.free 1
  have fr2 := Br1.out.free 2
  have fr3 := Br1.out.free 3
  go_wp2
  refine bodyPost_ret (results_dec2 rfl _ _ _ _ _ _ _ rfl (Br1.out.put4 _ _ _ _)) rfl ?_
  exact ⟨rfl, below_put4 (HB1.out) (by omega) _ _ _ _⟩

set_option maxHeartbeats 1000000 in
theorem At_low (ca : Int) (na : Bool) (ta : ByteArray) (ea : Int) (p m : Int) (w : World) (h : MayD ca na (bys ta) ea) (m1 : 0 ≤ m) (m2 : m < 8) (hp : p < -4000) : Calls Tryz.prog 16 #[dcV ca na ta ea, .int .i64 p, .int .i64 m] w fun e w' => e = .returned (.tuple #[dcV 0 false ⟨#[]⟩ 0, .int .i64 61]) ∧ Below w.heap.size w w' := by
  have CK := hide (fun W => check_ok ca na ta ea m W h m1 m2)
  have Ba0 := hide ((Blk.newAt w (w.heap.size) (rfl) #[.int .i64 ca, .bool na, .string ta, .int .i64 ea] 23).alloc (.cells #[.int .i64 0, .bool false, .string ⟨#[]⟩, .int .i64 0] 23))
  have Br0 := hide (Blk.newAt (w.alloc (.cells #[.int .i64 ca, .bool na, .string ta, .int .i64 ea] 23)) (w.heap.size + 1) (by simp) #[.int .i64 0, .bool false, .string ⟨#[]⟩, .int .i64 0] 23)
  have HB0 : Hid (Below w.heap.size w ((w.alloc (.cells #[.int .i64 ca, .bool na, .string ta, .int .i64 ea] 23)).alloc (.cells #[.int .i64 0, .bool false, .string ⟨#[]⟩, .int .i64 0] 23))) := (((Below.refl _ _).alloc (Nat.le_refl _) _).alloc (by simp <;> omega) _)
  go_enter Tryz.func16, Tryz.ntmps16
  go_wp2_with fail
  refine (CK.out _).mono ?_
  rintro e w1 ⟨rfl, hb⟩
  have Ba1 := hide (Ba0.out.below hb Ba0.out.lt)
  have Br1 := hide (Br0.out.below hb Br0.out.lt)
  have HB1 := hide (HB0.out.trans (hb.mono HB0.out.size))
  clear hb Ba0 Br0 HB0 
  have ya0 : w1.cell? ⟨w.heap.size, 0, none⟩ = some (.int .i64 ca) := Ba1.out.cell 0
  have ya1 : w1.cell? ⟨w.heap.size, 1, none⟩ = some (.bool na) := Ba1.out.cell 1
  have ya2 : w1.cell? ⟨w.heap.size, 2, none⟩ = some (.string ta) := Ba1.out.cell 2
  have ya3 : w1.cell? ⟨w.heap.size, 3, none⟩ = some (.int .i64 ea) := Ba1.out.cell 3
  have yr0 : w1.cell? ⟨w.heap.size + 1, 0, none⟩ = some (.int .i64 0) := Br1.out.cell 0
  have yr1 : w1.cell? ⟨w.heap.size + 1, 1, none⟩ = some (.bool false) := Br1.out.cell 1
  have yr2 : w1.cell? ⟨w.heap.size + 1, 2, none⟩ = some (.string ⟨#[]⟩) := Br1.out.cell 2
  have yr3 : w1.cell? ⟨w.heap.size + 1, 3, none⟩ = some (.int .i64 0) := Br1.out.cell 3
  have fr0 := Br1.out.free 0
  have fr1 := Br1.out.free 1
  have fr2 := Br1.out.free 2
  have fr3 := Br1.out.free 3
  go_wp2
  refine bodyPost_ret (results_dec2 rfl _ _ _ _ _ _ _ rfl (Br1.out.put4 _ _ _ _)) rfl ?_
  exact ⟨rfl, below_put4 (HB1.out) (by omega) _ _ _ _⟩

set_option maxHeartbeats 1000000 in
theorem At_high (ca : Int) (na : Bool) (ta : ByteArray) (ea : Int) (p m : Int) (w : World) (h : MayD ca na (bys ta) ea) (m1 : 0 ≤ m) (m2 : m < 8) (hp : 4000 < p) : Calls Tryz.prog 16 #[dcV ca na ta ea, .int .i64 p, .int .i64 m] w fun e w' => e = .returned (.tuple #[dcV 0 false ⟨#[]⟩ 0, .int .i64 61]) ∧ Below w.heap.size w w' := by
  have CK := hide (fun W => check_ok ca na ta ea m W h m1 m2)
  have Ba0 := hide ((Blk.newAt w (w.heap.size) (rfl) #[.int .i64 ca, .bool na, .string ta, .int .i64 ea] 23).alloc (.cells #[.int .i64 0, .bool false, .string ⟨#[]⟩, .int .i64 0] 23))
  have Br0 := hide (Blk.newAt (w.alloc (.cells #[.int .i64 ca, .bool na, .string ta, .int .i64 ea] 23)) (w.heap.size + 1) (by simp) #[.int .i64 0, .bool false, .string ⟨#[]⟩, .int .i64 0] 23)
  have HB0 : Hid (Below w.heap.size w ((w.alloc (.cells #[.int .i64 ca, .bool na, .string ta, .int .i64 ea] 23)).alloc (.cells #[.int .i64 0, .bool false, .string ⟨#[]⟩, .int .i64 0] 23))) := (((Below.refl _ _).alloc (Nat.le_refl _) _).alloc (by simp <;> omega) _)
  go_enter Tryz.func16, Tryz.ntmps16
  go_wp2_with fail
  refine (CK.out _).mono ?_
  rintro e w1 ⟨rfl, hb⟩
  have Ba1 := hide (Ba0.out.below hb Ba0.out.lt)
  have Br1 := hide (Br0.out.below hb Br0.out.lt)
  have HB1 := hide (HB0.out.trans (hb.mono HB0.out.size))
  clear hb Ba0 Br0 HB0 
  have ya0 : w1.cell? ⟨w.heap.size, 0, none⟩ = some (.int .i64 ca) := Ba1.out.cell 0
  have ya1 : w1.cell? ⟨w.heap.size, 1, none⟩ = some (.bool na) := Ba1.out.cell 1
  have ya2 : w1.cell? ⟨w.heap.size, 2, none⟩ = some (.string ta) := Ba1.out.cell 2
  have ya3 : w1.cell? ⟨w.heap.size, 3, none⟩ = some (.int .i64 ea) := Ba1.out.cell 3
  have yr0 : w1.cell? ⟨w.heap.size + 1, 0, none⟩ = some (.int .i64 0) := Br1.out.cell 0
  have yr1 : w1.cell? ⟨w.heap.size + 1, 1, none⟩ = some (.bool false) := Br1.out.cell 1
  have yr2 : w1.cell? ⟨w.heap.size + 1, 2, none⟩ = some (.string ⟨#[]⟩) := Br1.out.cell 2
  have yr3 : w1.cell? ⟨w.heap.size + 1, 3, none⟩ = some (.int .i64 0) := Br1.out.cell 3
  have fr0 := Br1.out.free 0
  have fr1 := Br1.out.free 1
  have fr2 := Br1.out.free 2
  have fr3 := Br1.out.free 3
  go_wp2
  refine bodyPost_ret (results_dec2 rfl _ _ _ _ _ _ _ rfl (Br1.out.put4 _ _ _ _)) rfl ?_
  exact ⟨rfl, below_put4 (HB1.out) (by omega) _ _ _ _⟩

set_option maxHeartbeats 4000000 in
theorem At_in (ca : Int) (na : Bool) (ta : ByteArray) (ea : Int) (p m : Int) (w : World) (h : MayD ca na (bys ta) ea) (m1 : 0 ≤ m) (m2 : m < 8) (p1 : -4000 ≤ p) (p2 : p ≤ 4000) (htab : Tab w) : Calls Tryz.prog 16 #[dcV ca na ta ea, .int .i64 p, .int .i64 m] w fun e w' => e = .returned (decErr (rndD ⟨ca.toNat, na, bys ta, ea⟩ 1 p m.toNat)) ∧ Below w.heap.size w w' := by
  have CK := hide (fun W => check_ok ca na ta ea m W h m1 m2)
  have bd := may_place h
  have MG := fun (W : World) (hT : Tab W) => mult_raw ca na ta ea false ⟨#[49]⟩ p m h m1 m2 ok49 (by decide) (by decide) (by omega) (by omega) W hT
  rw [show decV (bys ⟨#[49]⟩) = 1 from rfl] at MG
  rcases hR : rndD ⟨ca.toNat, na, bys ta, ea⟩ 1 p m.toNat with ⟨⟨cc, nn, ll, ee⟩, er⟩
  rw [hR] at MG
  unfold decErr decVal at MG ⊢
  simp only at MG ⊢
  obtain ⟨D, hD⟩ : ∃ D : ByteArray, D = ⟨ll.toArray⟩ := ⟨_, rfl⟩
  rw [← hD] at MG ⊢
  have MU := hide MG
  have HT := hide htab
  clear MG hR hD htab
  clear h bd
  have Ba0 := hide ((Blk.newAt w (w.heap.size) (rfl) #[.int .i64 ca, .bool na, .string ta, .int .i64 ea] 23).alloc (.cells #[.int .i64 0, .bool false, .string ⟨#[]⟩, .int .i64 0] 23))
  have Br0 := hide (Blk.newAt (w.alloc (.cells #[.int .i64 ca, .bool na, .string ta, .int .i64 ea] 23)) (w.heap.size + 1) (by simp) #[.int .i64 0, .bool false, .string ⟨#[]⟩, .int .i64 0] 23)
  have HB0 : Hid (Below w.heap.size w ((w.alloc (.cells #[.int .i64 ca, .bool na, .string ta, .int .i64 ea] 23)).alloc (.cells #[.int .i64 0, .bool false, .string ⟨#[]⟩, .int .i64 0] 23))) := (((Below.refl _ _).alloc (Nat.le_refl _) _).alloc (by simp <;> omega) _)
  go_enter Tryz.func16, Tryz.ntmps16
  go_wp2_with fail
  refine (CK.out _).mono ?_
  rintro e w1 ⟨rfl, hb⟩
  clear CK
  have Ba1 := hide (Ba0.out.below hb Ba0.out.lt)
  have Br1 := hide (Br0.out.below hb Br0.out.lt)
  have HB1 := hide (HB0.out.trans (hb.mono HB0.out.size))
  clear hb Ba0 Br0 HB0 
  have ya0 : w1.cell? ⟨w.heap.size, 0, none⟩ = some (.int .i64 ca) := Ba1.out.cell 0
  have ya1 : w1.cell? ⟨w.heap.size, 1, none⟩ = some (.bool na) := Ba1.out.cell 1
  have ya2 : w1.cell? ⟨w.heap.size, 2, none⟩ = some (.string ta) := Ba1.out.cell 2
  have ya3 : w1.cell? ⟨w.heap.size, 3, none⟩ = some (.int .i64 ea) := Ba1.out.cell 3
  have yr0 : w1.cell? ⟨w.heap.size + 1, 0, none⟩ = some (.int .i64 0) := Br1.out.cell 0
  have yr1 : w1.cell? ⟨w.heap.size + 1, 1, none⟩ = some (.bool false) := Br1.out.cell 1
  have yr2 : w1.cell? ⟨w.heap.size + 1, 2, none⟩ = some (.string ⟨#[]⟩) := Br1.out.cell 2
  have yr3 : w1.cell? ⟨w.heap.size + 1, 3, none⟩ = some (.int .i64 0) := Br1.out.cell 3
  have HTC := hide (HT.out.below HB1.out)
  clear HT
  have HL : Hid (w.heap.size < w1.heap.size ∧ w.heap.size + 1 < w1.heap.size) := ⟨Ba1.out.lt, Br1.out.lt⟩
  obtain ⟨G, hG⟩ : ∃ G, G = w.heap.size + 1 := ⟨_, rfl⟩
  have gn0 : ¬ G = w.heap.size := by omega
  have gn1 : ¬ w.heap.size = G := by omega
  have gle : w.heap.size ≤ G := by omega
  have HG := hide hG
  rw [← hG] at Br1
  clear hG HL ya0 ya1 ya2 ya3 yr0 yr1 yr2 yr3
  have d0 : w1.cell? ⟨w.heap.size, 0, none⟩ = some (.int .i64 ca) := Ba1.out.cell 0
  have d1 : w1.cell? ⟨w.heap.size, 1, none⟩ = some (.bool na) := Ba1.out.cell 1
  have d2 : w1.cell? ⟨w.heap.size, 2, none⟩ = some (.string ta) := Ba1.out.cell 2
  have d3 : w1.cell? ⟨w.heap.size, 3, none⟩ = some (.int .i64 ea) := Ba1.out.cell 3
  have HC : Hid (∀ w', Below w1.heap.size w1 w' → w'.cell? ⟨w.heap.size, 0, none⟩ = some (.int .i64 ca) ∧ w'.cell? ⟨w.heap.size, 1, none⟩ = some (.bool na) ∧ w'.cell? ⟨w.heap.size, 2, none⟩ = some (.string ta) ∧ w'.cell? ⟨w.heap.size, 3, none⟩ = some (.int .i64 ea) ∧ w'.cell? ⟨G, 0, none⟩ = some (.int .i64 0) ∧ w'.cell? ⟨G, 1, none⟩ = some (.bool false) ∧ w'.cell? ⟨G, 2, none⟩ = some (.string ⟨#[]⟩) ∧ w'.cell? ⟨G, 3, none⟩ = some (.int .i64 0) ∧ w'.frozen? ⟨G, 0, none⟩ = false ∧ w'.frozen? ⟨G, 1, none⟩ = false ∧ w'.frozen? ⟨G, 2, none⟩ = false ∧ w'.frozen? ⟨G, 3, none⟩ = false) := by
    intro w' hb
    have Ba1q := Ba1.out.below hb Ba1.out.lt
    have Br1q := Br1.out.below hb Br1.out.lt
    exact ⟨Ba1q.cell 0, Ba1q.cell 1, Ba1q.cell 2, Ba1q.cell 3, Br1q.cell 0, Br1q.cell 1, Br1q.cell 2, Br1q.cell 3, Br1q.free 0, Br1q.free 1, Br1q.free 2, Br1q.free 3⟩
  have b0 : Hid (Below w1.heap.size w1 w1.drew) := bdrewD w1
  have C0 : Hid (∀ X, Hid (Below w1.heap.size w1 X) → Calls Tryz.prog 42 #[.int .i64 p] X fun e w' => e = .returned (.agg #[.int .i64 0, .bool false, .string ⟨#[49]⟩, .int .i64 p]) ∧ Hid (Below w1.heap.size w1 w') ∧ w'.cell? ⟨w.heap.size, 0, none⟩ = some (.int .i64 ca) ∧ w'.cell? ⟨w.heap.size, 1, none⟩ = some (.bool na) ∧ w'.cell? ⟨w.heap.size, 2, none⟩ = some (.string ta) ∧ w'.cell? ⟨w.heap.size, 3, none⟩ = some (.int .i64 ea) ∧ w'.cell? ⟨G, 0, none⟩ = some (.int .i64 0) ∧ w'.cell? ⟨G, 1, none⟩ = some (.bool false) ∧ w'.cell? ⟨G, 2, none⟩ = some (.string ⟨#[]⟩) ∧ w'.cell? ⟨G, 3, none⟩ = some (.int .i64 0) ∧ w'.frozen? ⟨G, 0, none⟩ = false ∧ w'.frozen? ⟨G, 1, none⟩ = false ∧ w'.frozen? ⟨G, 2, none⟩ = false ∧ w'.frozen? ⟨G, 3, none⟩ = false) := by
    intro X  bX 
    refine (powerOfTen_any p X).mono ?_
    rintro e w' ⟨rfl, hb⟩
    have bb := bX.out.trans (hb.mono bX.out.size)
    exact ⟨rfl, bb, HC.out _ bb⟩
  have C1 : Hid (∀ X, Hid (Below w1.heap.size w1 X) → Calls Tryz.prog 41 #[dcV ca na ta ea, dcV 0 false ⟨#[49]⟩ p, .int .i64 m] X fun e w' => e = .returned (.tuple #[.agg #[.int .i64 (cc : Int), .bool nn, .string D, .int .i64 ee], .int .i64 er]) ∧ Hid (Below w1.heap.size w1 w') ∧ w'.cell? ⟨w.heap.size, 0, none⟩ = some (.int .i64 ca) ∧ w'.cell? ⟨w.heap.size, 1, none⟩ = some (.bool na) ∧ w'.cell? ⟨w.heap.size, 2, none⟩ = some (.string ta) ∧ w'.cell? ⟨w.heap.size, 3, none⟩ = some (.int .i64 ea) ∧ w'.cell? ⟨G, 0, none⟩ = some (.int .i64 0) ∧ w'.cell? ⟨G, 1, none⟩ = some (.bool false) ∧ w'.cell? ⟨G, 2, none⟩ = some (.string ⟨#[]⟩) ∧ w'.cell? ⟨G, 3, none⟩ = some (.int .i64 0) ∧ w'.frozen? ⟨G, 0, none⟩ = false ∧ w'.frozen? ⟨G, 1, none⟩ = false ∧ w'.frozen? ⟨G, 2, none⟩ = false ∧ w'.frozen? ⟨G, 3, none⟩ = false) := by
    intro X  bX 
    refine (MU.out X (HTC.out.below bX.out)).mono ?_
    rintro e w' ⟨rfl, hb⟩
    have bb := bX.out.trans (hb.mono bX.out.size)
    exact ⟨rfl, bb, HC.out _ bb⟩
  have BRF : Hid (∀ w', Below w1.heap.size w1 w' → Below w.heap.size w w' ∧ Blk w' G #[.int .i64 0, .bool false, .string ⟨#[]⟩, .int .i64 0] 23) := fun w' hb => ⟨HB1.out.trans (hb.mono HB1.out.size), Br1.out.below hb Br1.out.lt⟩
  clear HC Ba1 Br1 HB1 HTC MU
  go_wp2_with fail
  simp only [← HG.out]
  have mk0 : True := trivial
  go_region_held3 (fun w' => w'.cell? ⟨w.heap.size, 0, none⟩ = some (.int .i64 ca) ∧ w'.cell? ⟨w.heap.size, 1, none⟩ = some (.bool na) ∧ w'.cell? ⟨w.heap.size, 2, none⟩ = some (.string ta) ∧ w'.cell? ⟨w.heap.size, 3, none⟩ = some (.int .i64 ea)) (go_keep) (first
    | (clear mk0; go_at_call 42; refine (C0.out _  b0 ).mono ?_; rintro e v1 ⟨rfl, b1, q0_0, q0_1, q0_2, q0_3, q0_4, q0_5, q0_6, q0_7, q0_8, q0_9, q0_10, q0_11⟩; have mk1 : True := trivial)
    | (clear mk1; go_at_call 41; refine (C1.out _  b1 ).mono ?_; rintro e v2 ⟨rfl, b2, q1_0, q1_1, q1_2, q1_3, q1_4, q1_5, q1_6, q1_7, q1_8, q1_9, q1_10, q1_11⟩; have mk2 : True := trivial))
  obtain ⟨hbel, hblk⟩ := BRF.out _ b2.out
  have HBL := hide hbel
  have QR := hide hblk
  clear hbel hblk BRF b0 b1 b2 C0 C1
  repeat (first | go_values | go_skip | go_guarded | go_step | go_upon)
  refine bodyPost_ret (results_dec2 rfl _ _ _ _ _ _ _ rfl (QR.out.put4 _ _ _ _)) rfl ?_
  exact ⟨rfl, below_put4 HBL.out gle _ _ _ _⟩

theorem At_any (ca : Int) (na : Bool) (ta : ByteArray) (ea : Int) (p m : Int) (w : World) (htab : Tab w) : Calls Tryz.prog 16 #[dcV ca na ta ea, .int .i64 p, .int .i64 m] w fun e w' => e = .returned (decErr (atR ca na (bys ta) ea p m)) ∧ Below w.heap.size w w' := by
  unfold atR
  by_cases h : MayD ca na (bys ta) ea
  · rw [if_neg (fun g => g h)]
    by_cases h1 : m < 0
    · rw [if_pos (.inl h1)]
      exact At_mlow ca na ta ea p m w h h1
    · by_cases h2 : 8 ≤ m
      · rw [if_pos (.inr h2)]
        exact At_mhigh ca na ta ea p m w h h2
      · rw [if_neg (by omega)]
        by_cases h3 : p < -4000
        · rw [if_pos (.inl h3)]
          exact At_low ca na ta ea p m w h (by omega) (by omega) h3
        · by_cases h4 : 4000 < p
          · rw [if_pos (.inr h4)]
            exact At_high ca na ta ea p m w h (by omega) (by omega) h4
          · rw [if_neg (by omega)]
            exact At_in ca na ta ea p m w h (by omega) (by omega) (by omega) (by omega) htab
  · rw [if_pos h]
    exact At_no ca na ta ea p m w h

set_option maxHeartbeats 1000000 in
theorem Digits_no (ca : Int) (na : Bool) (ta : ByteArray) (ea : Int) (n m : Int) (w : World) (h : ¬ MayD ca na (bys ta) ea) : Calls Tryz.prog 50 #[dcV ca na ta ea, .int .i64 n, .int .i64 m] w fun e w' => e = .returned (.tuple #[dcV 0 false ⟨#[]⟩ 0, .int .i64 52]) ∧ Below w.heap.size w w' := by
  have CK := hide (fun W => check_no ca na ta ea m W h)
  have Ba0 := hide ((Blk.newAt w (w.heap.size) (rfl) #[.int .i64 ca, .bool na, .string ta, .int .i64 ea] 23).alloc (.cells #[.int .i64 0, .bool false, .string ⟨#[]⟩, .int .i64 0] 23))
  have Br0 := hide (Blk.newAt (w.alloc (.cells #[.int .i64 ca, .bool na, .string ta, .int .i64 ea] 23)) (w.heap.size + 1) (by simp) #[.int .i64 0, .bool false, .string ⟨#[]⟩, .int .i64 0] 23)
  have HB0 : Hid (Below w.heap.size w ((w.alloc (.cells #[.int .i64 ca, .bool na, .string ta, .int .i64 ea] 23)).alloc (.cells #[.int .i64 0, .bool false, .string ⟨#[]⟩, .int .i64 0] 23))) := (((Below.refl _ _).alloc (Nat.le_refl _) _).alloc (by simp <;> omega) _)
  go_enter Tryz.func50, Tryz.ntmps50
  go_wp2_with fail
  refine (CK.out _).mono ?_
  rintro e w1 ⟨rfl, hb⟩
  have Ba1 := hide (Ba0.out.below hb Ba0.out.lt)
  have Br1 := hide (Br0.out.below hb Br0.out.lt)
  have HB1 := hide (HB0.out.trans (hb.mono HB0.out.size))
  clear hb Ba0 Br0 HB0 
  have ya0 : w1.cell? ⟨w.heap.size, 0, none⟩ = some (.int .i64 ca) := Ba1.out.cell 0
  have ya1 : w1.cell? ⟨w.heap.size, 1, none⟩ = some (.bool na) := Ba1.out.cell 1
  have ya2 : w1.cell? ⟨w.heap.size, 2, none⟩ = some (.string ta) := Ba1.out.cell 2
  have ya3 : w1.cell? ⟨w.heap.size, 3, none⟩ = some (.int .i64 ea) := Ba1.out.cell 3
  have yr0 : w1.cell? ⟨w.heap.size + 1, 0, none⟩ = some (.int .i64 0) := Br1.out.cell 0
  have yr1 : w1.cell? ⟨w.heap.size + 1, 1, none⟩ = some (.bool false) := Br1.out.cell 1
  have yr2 : w1.cell? ⟨w.heap.size + 1, 2, none⟩ = some (.string ⟨#[]⟩) := Br1.out.cell 2
  have yr3 : w1.cell? ⟨w.heap.size + 1, 3, none⟩ = some (.int .i64 0) := Br1.out.cell 3
  have fr0 := Br1.out.free 0
  have fr1 := Br1.out.free 1
  have fr2 := Br1.out.free 2
  have fr3 := Br1.out.free 3
  go_wp2
  refine bodyPost_ret (results_dec2 rfl _ _ _ _ _ _ _ rfl (Br1.out.put4 _ _ _ _)) rfl ?_
  exact ⟨rfl, below_put4 (HB1.out) (by omega) _ _ _ _⟩

set_option maxHeartbeats 1000000 in
theorem Digits_mlow (ca : Int) (na : Bool) (ta : ByteArray) (ea : Int) (n m : Int) (w : World) (h : MayD ca na (bys ta) ea) (hm : m < 0) : Calls Tryz.prog 50 #[dcV ca na ta ea, .int .i64 n, .int .i64 m] w fun e w' => e = .returned (.tuple #[dcV 0 false ⟨#[]⟩ 0, .int .i64 60]) ∧ Below w.heap.size w w' := by
  have CK := hide (fun W => check_low ca na ta ea m W h hm)
  have Ba0 := hide ((Blk.newAt w (w.heap.size) (rfl) #[.int .i64 ca, .bool na, .string ta, .int .i64 ea] 23).alloc (.cells #[.int .i64 0, .bool false, .string ⟨#[]⟩, .int .i64 0] 23))
  have Br0 := hide (Blk.newAt (w.alloc (.cells #[.int .i64 ca, .bool na, .string ta, .int .i64 ea] 23)) (w.heap.size + 1) (by simp) #[.int .i64 0, .bool false, .string ⟨#[]⟩, .int .i64 0] 23)
  have HB0 : Hid (Below w.heap.size w ((w.alloc (.cells #[.int .i64 ca, .bool na, .string ta, .int .i64 ea] 23)).alloc (.cells #[.int .i64 0, .bool false, .string ⟨#[]⟩, .int .i64 0] 23))) := (((Below.refl _ _).alloc (Nat.le_refl _) _).alloc (by simp <;> omega) _)
  go_enter Tryz.func50, Tryz.ntmps50
  go_wp2_with fail
  refine (CK.out _).mono ?_
  rintro e w1 ⟨rfl, hb⟩
  have Ba1 := hide (Ba0.out.below hb Ba0.out.lt)
  have Br1 := hide (Br0.out.below hb Br0.out.lt)
  have HB1 := hide (HB0.out.trans (hb.mono HB0.out.size))
  clear hb Ba0 Br0 HB0 
  have ya0 : w1.cell? ⟨w.heap.size, 0, none⟩ = some (.int .i64 ca) := Ba1.out.cell 0
  have ya1 : w1.cell? ⟨w.heap.size, 1, none⟩ = some (.bool na) := Ba1.out.cell 1
  have ya2 : w1.cell? ⟨w.heap.size, 2, none⟩ = some (.string ta) := Ba1.out.cell 2
  have ya3 : w1.cell? ⟨w.heap.size, 3, none⟩ = some (.int .i64 ea) := Ba1.out.cell 3
  have yr0 : w1.cell? ⟨w.heap.size + 1, 0, none⟩ = some (.int .i64 0) := Br1.out.cell 0
  have yr1 : w1.cell? ⟨w.heap.size + 1, 1, none⟩ = some (.bool false) := Br1.out.cell 1
  have yr2 : w1.cell? ⟨w.heap.size + 1, 2, none⟩ = some (.string ⟨#[]⟩) := Br1.out.cell 2
  have yr3 : w1.cell? ⟨w.heap.size + 1, 3, none⟩ = some (.int .i64 0) := Br1.out.cell 3
  have fr0 := Br1.out.free 0
  have fr1 := Br1.out.free 1
  have fr2 := Br1.out.free 2
  have fr3 := Br1.out.free 3
  go_wp2
  refine bodyPost_ret (results_dec2 rfl _ _ _ _ _ _ _ rfl (Br1.out.put4 _ _ _ _)) rfl ?_
  exact ⟨rfl, below_put4 (HB1.out) (by omega) _ _ _ _⟩

set_option maxHeartbeats 1000000 in
theorem Digits_mhigh (ca : Int) (na : Bool) (ta : ByteArray) (ea : Int) (n m : Int) (w : World) (h : MayD ca na (bys ta) ea) (hm : 8 ≤ m) : Calls Tryz.prog 50 #[dcV ca na ta ea, .int .i64 n, .int .i64 m] w fun e w' => e = .returned (.tuple #[dcV 0 false ⟨#[]⟩ 0, .int .i64 60]) ∧ Below w.heap.size w w' := by
  have CK := hide (fun W => check_high ca na ta ea m W h hm)
  have Ba0 := hide ((Blk.newAt w (w.heap.size) (rfl) #[.int .i64 ca, .bool na, .string ta, .int .i64 ea] 23).alloc (.cells #[.int .i64 0, .bool false, .string ⟨#[]⟩, .int .i64 0] 23))
  have Br0 := hide (Blk.newAt (w.alloc (.cells #[.int .i64 ca, .bool na, .string ta, .int .i64 ea] 23)) (w.heap.size + 1) (by simp) #[.int .i64 0, .bool false, .string ⟨#[]⟩, .int .i64 0] 23)
  have HB0 : Hid (Below w.heap.size w ((w.alloc (.cells #[.int .i64 ca, .bool na, .string ta, .int .i64 ea] 23)).alloc (.cells #[.int .i64 0, .bool false, .string ⟨#[]⟩, .int .i64 0] 23))) := (((Below.refl _ _).alloc (Nat.le_refl _) _).alloc (by simp <;> omega) _)
  go_enter Tryz.func50, Tryz.ntmps50
  go_wp2_with fail
  refine (CK.out _).mono ?_
  rintro e w1 ⟨rfl, hb⟩
  have Ba1 := hide (Ba0.out.below hb Ba0.out.lt)
  have Br1 := hide (Br0.out.below hb Br0.out.lt)
  have HB1 := hide (HB0.out.trans (hb.mono HB0.out.size))
  clear hb Ba0 Br0 HB0 
  have ya0 : w1.cell? ⟨w.heap.size, 0, none⟩ = some (.int .i64 ca) := Ba1.out.cell 0
  have ya1 : w1.cell? ⟨w.heap.size, 1, none⟩ = some (.bool na) := Ba1.out.cell 1
  have ya2 : w1.cell? ⟨w.heap.size, 2, none⟩ = some (.string ta) := Ba1.out.cell 2
  have ya3 : w1.cell? ⟨w.heap.size, 3, none⟩ = some (.int .i64 ea) := Ba1.out.cell 3
  have yr0 : w1.cell? ⟨w.heap.size + 1, 0, none⟩ = some (.int .i64 0) := Br1.out.cell 0
  have yr1 : w1.cell? ⟨w.heap.size + 1, 1, none⟩ = some (.bool false) := Br1.out.cell 1
  have yr2 : w1.cell? ⟨w.heap.size + 1, 2, none⟩ = some (.string ⟨#[]⟩) := Br1.out.cell 2
  have yr3 : w1.cell? ⟨w.heap.size + 1, 3, none⟩ = some (.int .i64 0) := Br1.out.cell 3
  have fr0 := Br1.out.free 0
  have fr1 := Br1.out.free 1
  have fr2 := Br1.out.free 2
  have fr3 := Br1.out.free 3
  go_wp2
  refine bodyPost_ret (results_dec2 rfl _ _ _ _ _ _ _ rfl (Br1.out.put4 _ _ _ _)) rfl ?_
  exact ⟨rfl, below_put4 (HB1.out) (by omega) _ _ _ _⟩

set_option maxHeartbeats 1000000 in
theorem Digits_low (ca : Int) (na : Bool) (ta : ByteArray) (ea : Int) (n m : Int) (w : World) (h : MayD ca na (bys ta) ea) (m1 : 0 ≤ m) (m2 : m < 8) (hp : n < 1) : Calls Tryz.prog 50 #[dcV ca na ta ea, .int .i64 n, .int .i64 m] w fun e w' => e = .returned (.tuple #[dcV 0 false ⟨#[]⟩ 0, .int .i64 61]) ∧ Below w.heap.size w w' := by
  have CK := hide (fun W => check_ok ca na ta ea m W h m1 m2)
  have Ba0 := hide ((Blk.newAt w (w.heap.size) (rfl) #[.int .i64 ca, .bool na, .string ta, .int .i64 ea] 23).alloc (.cells #[.int .i64 0, .bool false, .string ⟨#[]⟩, .int .i64 0] 23))
  have Br0 := hide (Blk.newAt (w.alloc (.cells #[.int .i64 ca, .bool na, .string ta, .int .i64 ea] 23)) (w.heap.size + 1) (by simp) #[.int .i64 0, .bool false, .string ⟨#[]⟩, .int .i64 0] 23)
  have HB0 : Hid (Below w.heap.size w ((w.alloc (.cells #[.int .i64 ca, .bool na, .string ta, .int .i64 ea] 23)).alloc (.cells #[.int .i64 0, .bool false, .string ⟨#[]⟩, .int .i64 0] 23))) := (((Below.refl _ _).alloc (Nat.le_refl _) _).alloc (by simp <;> omega) _)
  go_enter Tryz.func50, Tryz.ntmps50
  go_wp2_with fail
  refine (CK.out _).mono ?_
  rintro e w1 ⟨rfl, hb⟩
  have Ba1 := hide (Ba0.out.below hb Ba0.out.lt)
  have Br1 := hide (Br0.out.below hb Br0.out.lt)
  have HB1 := hide (HB0.out.trans (hb.mono HB0.out.size))
  clear hb Ba0 Br0 HB0 
  have ya0 : w1.cell? ⟨w.heap.size, 0, none⟩ = some (.int .i64 ca) := Ba1.out.cell 0
  have ya1 : w1.cell? ⟨w.heap.size, 1, none⟩ = some (.bool na) := Ba1.out.cell 1
  have ya2 : w1.cell? ⟨w.heap.size, 2, none⟩ = some (.string ta) := Ba1.out.cell 2
  have ya3 : w1.cell? ⟨w.heap.size, 3, none⟩ = some (.int .i64 ea) := Ba1.out.cell 3
  have yr0 : w1.cell? ⟨w.heap.size + 1, 0, none⟩ = some (.int .i64 0) := Br1.out.cell 0
  have yr1 : w1.cell? ⟨w.heap.size + 1, 1, none⟩ = some (.bool false) := Br1.out.cell 1
  have yr2 : w1.cell? ⟨w.heap.size + 1, 2, none⟩ = some (.string ⟨#[]⟩) := Br1.out.cell 2
  have yr3 : w1.cell? ⟨w.heap.size + 1, 3, none⟩ = some (.int .i64 0) := Br1.out.cell 3
  have fr0 := Br1.out.free 0
  have fr1 := Br1.out.free 1
  have fr2 := Br1.out.free 2
  have fr3 := Br1.out.free 3
  go_wp2
  refine bodyPost_ret (results_dec2 rfl _ _ _ _ _ _ _ rfl (Br1.out.put4 _ _ _ _)) rfl ?_
  exact ⟨rfl, below_put4 (HB1.out) (by omega) _ _ _ _⟩

set_option maxHeartbeats 1000000 in
theorem Digits_high (ca : Int) (na : Bool) (ta : ByteArray) (ea : Int) (n m : Int) (w : World) (h : MayD ca na (bys ta) ea) (m1 : 0 ≤ m) (m2 : m < 8) (hp : 1000 < n) : Calls Tryz.prog 50 #[dcV ca na ta ea, .int .i64 n, .int .i64 m] w fun e w' => e = .returned (.tuple #[dcV 0 false ⟨#[]⟩ 0, .int .i64 61]) ∧ Below w.heap.size w w' := by
  have CK := hide (fun W => check_ok ca na ta ea m W h m1 m2)
  have Ba0 := hide ((Blk.newAt w (w.heap.size) (rfl) #[.int .i64 ca, .bool na, .string ta, .int .i64 ea] 23).alloc (.cells #[.int .i64 0, .bool false, .string ⟨#[]⟩, .int .i64 0] 23))
  have Br0 := hide (Blk.newAt (w.alloc (.cells #[.int .i64 ca, .bool na, .string ta, .int .i64 ea] 23)) (w.heap.size + 1) (by simp) #[.int .i64 0, .bool false, .string ⟨#[]⟩, .int .i64 0] 23)
  have HB0 : Hid (Below w.heap.size w ((w.alloc (.cells #[.int .i64 ca, .bool na, .string ta, .int .i64 ea] 23)).alloc (.cells #[.int .i64 0, .bool false, .string ⟨#[]⟩, .int .i64 0] 23))) := (((Below.refl _ _).alloc (Nat.le_refl _) _).alloc (by simp <;> omega) _)
  go_enter Tryz.func50, Tryz.ntmps50
  go_wp2_with fail
  refine (CK.out _).mono ?_
  rintro e w1 ⟨rfl, hb⟩
  have Ba1 := hide (Ba0.out.below hb Ba0.out.lt)
  have Br1 := hide (Br0.out.below hb Br0.out.lt)
  have HB1 := hide (HB0.out.trans (hb.mono HB0.out.size))
  clear hb Ba0 Br0 HB0 
  have ya0 : w1.cell? ⟨w.heap.size, 0, none⟩ = some (.int .i64 ca) := Ba1.out.cell 0
  have ya1 : w1.cell? ⟨w.heap.size, 1, none⟩ = some (.bool na) := Ba1.out.cell 1
  have ya2 : w1.cell? ⟨w.heap.size, 2, none⟩ = some (.string ta) := Ba1.out.cell 2
  have ya3 : w1.cell? ⟨w.heap.size, 3, none⟩ = some (.int .i64 ea) := Ba1.out.cell 3
  have yr0 : w1.cell? ⟨w.heap.size + 1, 0, none⟩ = some (.int .i64 0) := Br1.out.cell 0
  have yr1 : w1.cell? ⟨w.heap.size + 1, 1, none⟩ = some (.bool false) := Br1.out.cell 1
  have yr2 : w1.cell? ⟨w.heap.size + 1, 2, none⟩ = some (.string ⟨#[]⟩) := Br1.out.cell 2
  have yr3 : w1.cell? ⟨w.heap.size + 1, 3, none⟩ = some (.int .i64 0) := Br1.out.cell 3
  have fr0 := Br1.out.free 0
  have fr1 := Br1.out.free 1
  have fr2 := Br1.out.free 2
  have fr3 := Br1.out.free 3
  go_wp2
  refine bodyPost_ret (results_dec2 rfl _ _ _ _ _ _ _ rfl (Br1.out.put4 _ _ _ _)) rfl ?_
  exact ⟨rfl, below_put4 (HB1.out) (by omega) _ _ _ _⟩

set_option maxHeartbeats 4000000 in
theorem Digits_in (ca : Int) (na : Bool) (ta : ByteArray) (ea : Int) (n m : Int) (w : World) (h : MayD ca na (bys ta) ea) (m1 : 0 ≤ m) (m2 : m < 8) (p1 : 1 ≤ n) (p2 : n ≤ 1000) (htab : Tab w) : Calls Tryz.prog 50 #[dcV ca na ta ea, .int .i64 n, .int .i64 m] w fun e w' => e = .returned (decErr (rndD ⟨ca.toNat, na, bys ta, ea⟩ 1 (((bys ta).length : Int) + ea - n) m.toNat)) ∧ Below w.heap.size w w' := by
  have CK := hide (fun W => check_ok ca na ta ea m W h m1 m2)
  have bd := may_place h
  have MG := fun (W : World) (hT : Tab W) => mult_raw ca na ta ea false ⟨#[49]⟩ ((ta.size : Int) + ea - n) m h m1 m2 ok49 (by decide) (by decide) (by omega) (by omega) W hT
  rw [show decV (bys ⟨#[49]⟩) = 1 from rfl] at MG
  have hw : IntKind.i64.wrap ((ta.size : Int) + ea - n) = (ta.size : Int) + ea - n := by rw [IntKind.wrap_i64]; omega
  have PL := hide (fun W => Place_yes ca na ta ea W h)
  rw [bys_len]
  rcases hR : rndD ⟨ca.toNat, na, bys ta, ea⟩ 1 ((ta.size : Int) + ea - n) m.toNat with ⟨⟨cc, nn, ll, ee⟩, er⟩
  rw [hR] at MG
  unfold decErr decVal at MG ⊢
  simp only at MG ⊢
  obtain ⟨D, hD⟩ : ∃ D : ByteArray, D = ⟨ll.toArray⟩ := ⟨_, rfl⟩
  rw [← hD] at MG ⊢
  have MU := hide MG
  have HT := hide htab
  clear MG hR hD htab
  clear h bd
  have Ba0 := hide ((Blk.newAt w (w.heap.size) (rfl) #[.int .i64 ca, .bool na, .string ta, .int .i64 ea] 23).alloc (.cells #[.int .i64 0, .bool false, .string ⟨#[]⟩, .int .i64 0] 23))
  have Br0 := hide (Blk.newAt (w.alloc (.cells #[.int .i64 ca, .bool na, .string ta, .int .i64 ea] 23)) (w.heap.size + 1) (by simp) #[.int .i64 0, .bool false, .string ⟨#[]⟩, .int .i64 0] 23)
  have HB0 : Hid (Below w.heap.size w ((w.alloc (.cells #[.int .i64 ca, .bool na, .string ta, .int .i64 ea] 23)).alloc (.cells #[.int .i64 0, .bool false, .string ⟨#[]⟩, .int .i64 0] 23))) := (((Below.refl _ _).alloc (Nat.le_refl _) _).alloc (by simp <;> omega) _)
  go_enter Tryz.func50, Tryz.ntmps50
  go_wp2_with fail
  refine (CK.out _).mono ?_
  rintro e w1 ⟨rfl, hb⟩
  clear CK
  have Ba1 := hide (Ba0.out.below hb Ba0.out.lt)
  have Br1 := hide (Br0.out.below hb Br0.out.lt)
  have HB1 := hide (HB0.out.trans (hb.mono HB0.out.size))
  clear hb Ba0 Br0 HB0 
  have ya0 : w1.cell? ⟨w.heap.size, 0, none⟩ = some (.int .i64 ca) := Ba1.out.cell 0
  have ya1 : w1.cell? ⟨w.heap.size, 1, none⟩ = some (.bool na) := Ba1.out.cell 1
  have ya2 : w1.cell? ⟨w.heap.size, 2, none⟩ = some (.string ta) := Ba1.out.cell 2
  have ya3 : w1.cell? ⟨w.heap.size, 3, none⟩ = some (.int .i64 ea) := Ba1.out.cell 3
  have yr0 : w1.cell? ⟨w.heap.size + 1, 0, none⟩ = some (.int .i64 0) := Br1.out.cell 0
  have yr1 : w1.cell? ⟨w.heap.size + 1, 1, none⟩ = some (.bool false) := Br1.out.cell 1
  have yr2 : w1.cell? ⟨w.heap.size + 1, 2, none⟩ = some (.string ⟨#[]⟩) := Br1.out.cell 2
  have yr3 : w1.cell? ⟨w.heap.size + 1, 3, none⟩ = some (.int .i64 0) := Br1.out.cell 3
  have HTC := hide (HT.out.below HB1.out)
  clear HT
  have HL : Hid (w.heap.size < w1.heap.size ∧ w.heap.size + 1 < w1.heap.size) := ⟨Ba1.out.lt, Br1.out.lt⟩
  obtain ⟨G, hG⟩ : ∃ G, G = w.heap.size + 1 := ⟨_, rfl⟩
  have gn0 : ¬ G = w.heap.size := by omega
  have gn1 : ¬ w.heap.size = G := by omega
  have gle : w.heap.size ≤ G := by omega
  have HG := hide hG
  rw [← hG] at Br1
  clear hG HL ya0 ya1 ya2 ya3 yr0 yr1 yr2 yr3
  have d0 : w1.cell? ⟨w.heap.size, 0, none⟩ = some (.int .i64 ca) := Ba1.out.cell 0
  have d1 : w1.cell? ⟨w.heap.size, 1, none⟩ = some (.bool na) := Ba1.out.cell 1
  have d2 : w1.cell? ⟨w.heap.size, 2, none⟩ = some (.string ta) := Ba1.out.cell 2
  have d3 : w1.cell? ⟨w.heap.size, 3, none⟩ = some (.int .i64 ea) := Ba1.out.cell 3
  have HC : Hid (∀ w', Below w1.heap.size w1 w' → w'.cell? ⟨w.heap.size, 0, none⟩ = some (.int .i64 ca) ∧ w'.cell? ⟨w.heap.size, 1, none⟩ = some (.bool na) ∧ w'.cell? ⟨w.heap.size, 2, none⟩ = some (.string ta) ∧ w'.cell? ⟨w.heap.size, 3, none⟩ = some (.int .i64 ea) ∧ w'.cell? ⟨G, 0, none⟩ = some (.int .i64 0) ∧ w'.cell? ⟨G, 1, none⟩ = some (.bool false) ∧ w'.cell? ⟨G, 2, none⟩ = some (.string ⟨#[]⟩) ∧ w'.cell? ⟨G, 3, none⟩ = some (.int .i64 0) ∧ w'.frozen? ⟨G, 0, none⟩ = false ∧ w'.frozen? ⟨G, 1, none⟩ = false ∧ w'.frozen? ⟨G, 2, none⟩ = false ∧ w'.frozen? ⟨G, 3, none⟩ = false) := by
    intro w' hb
    have Ba1q := Ba1.out.below hb Ba1.out.lt
    have Br1q := Br1.out.below hb Br1.out.lt
    exact ⟨Ba1q.cell 0, Ba1q.cell 1, Ba1q.cell 2, Ba1q.cell 3, Br1q.cell 0, Br1q.cell 1, Br1q.cell 2, Br1q.cell 3, Br1q.free 0, Br1q.free 1, Br1q.free 2, Br1q.free 3⟩
  have b0 : Hid (Below w1.heap.size w1 w1.drew) := bdrewD w1
  have C0 : Hid (∀ X, Hid (Below w1.heap.size w1 X) → Calls Tryz.prog 39 #[dcV ca na ta ea] X fun e w' => e = .returned (.int .i64 ((ta.size : Int) + ea)) ∧ Hid (Below w1.heap.size w1 w') ∧ w'.cell? ⟨w.heap.size, 0, none⟩ = some (.int .i64 ca) ∧ w'.cell? ⟨w.heap.size, 1, none⟩ = some (.bool na) ∧ w'.cell? ⟨w.heap.size, 2, none⟩ = some (.string ta) ∧ w'.cell? ⟨w.heap.size, 3, none⟩ = some (.int .i64 ea) ∧ w'.cell? ⟨G, 0, none⟩ = some (.int .i64 0) ∧ w'.cell? ⟨G, 1, none⟩ = some (.bool false) ∧ w'.cell? ⟨G, 2, none⟩ = some (.string ⟨#[]⟩) ∧ w'.cell? ⟨G, 3, none⟩ = some (.int .i64 0) ∧ w'.frozen? ⟨G, 0, none⟩ = false ∧ w'.frozen? ⟨G, 1, none⟩ = false ∧ w'.frozen? ⟨G, 2, none⟩ = false ∧ w'.frozen? ⟨G, 3, none⟩ = false) := by
    intro X  bX 
    refine (PL.out X).mono ?_
    rintro e w' ⟨rfl, hb⟩
    have bb := bX.out.trans (hb.mono bX.out.size)
    exact ⟨rfl, bb, HC.out _ bb⟩
  have C1 : Hid (∀ X, Hid (Below w1.heap.size w1 X) → Calls Tryz.prog 42 #[.int .i64 ((ta.size : Int) + ea - n)] X fun e w' => e = .returned (.agg #[.int .i64 0, .bool false, .string ⟨#[49]⟩, .int .i64 ((ta.size : Int) + ea - n)]) ∧ Hid (Below w1.heap.size w1 w') ∧ w'.cell? ⟨w.heap.size, 0, none⟩ = some (.int .i64 ca) ∧ w'.cell? ⟨w.heap.size, 1, none⟩ = some (.bool na) ∧ w'.cell? ⟨w.heap.size, 2, none⟩ = some (.string ta) ∧ w'.cell? ⟨w.heap.size, 3, none⟩ = some (.int .i64 ea) ∧ w'.cell? ⟨G, 0, none⟩ = some (.int .i64 0) ∧ w'.cell? ⟨G, 1, none⟩ = some (.bool false) ∧ w'.cell? ⟨G, 2, none⟩ = some (.string ⟨#[]⟩) ∧ w'.cell? ⟨G, 3, none⟩ = some (.int .i64 0) ∧ w'.frozen? ⟨G, 0, none⟩ = false ∧ w'.frozen? ⟨G, 1, none⟩ = false ∧ w'.frozen? ⟨G, 2, none⟩ = false ∧ w'.frozen? ⟨G, 3, none⟩ = false) := by
    intro X  bX 
    refine (powerOfTen_any ((ta.size : Int) + ea - n) X).mono ?_
    rintro e w' ⟨rfl, hb⟩
    have bb := bX.out.trans (hb.mono bX.out.size)
    exact ⟨rfl, bb, HC.out _ bb⟩
  have C2 : Hid (∀ X, Hid (Below w1.heap.size w1 X) → Calls Tryz.prog 41 #[dcV ca na ta ea, dcV 0 false ⟨#[49]⟩ ((ta.size : Int) + ea - n), .int .i64 m] X fun e w' => e = .returned (.tuple #[.agg #[.int .i64 (cc : Int), .bool nn, .string D, .int .i64 ee], .int .i64 er]) ∧ Hid (Below w1.heap.size w1 w') ∧ w'.cell? ⟨w.heap.size, 0, none⟩ = some (.int .i64 ca) ∧ w'.cell? ⟨w.heap.size, 1, none⟩ = some (.bool na) ∧ w'.cell? ⟨w.heap.size, 2, none⟩ = some (.string ta) ∧ w'.cell? ⟨w.heap.size, 3, none⟩ = some (.int .i64 ea) ∧ w'.cell? ⟨G, 0, none⟩ = some (.int .i64 0) ∧ w'.cell? ⟨G, 1, none⟩ = some (.bool false) ∧ w'.cell? ⟨G, 2, none⟩ = some (.string ⟨#[]⟩) ∧ w'.cell? ⟨G, 3, none⟩ = some (.int .i64 0) ∧ w'.frozen? ⟨G, 0, none⟩ = false ∧ w'.frozen? ⟨G, 1, none⟩ = false ∧ w'.frozen? ⟨G, 2, none⟩ = false ∧ w'.frozen? ⟨G, 3, none⟩ = false) := by
    intro X  bX 
    refine (MU.out X (HTC.out.below bX.out)).mono ?_
    rintro e w' ⟨rfl, hb⟩
    have bb := bX.out.trans (hb.mono bX.out.size)
    exact ⟨rfl, bb, HC.out _ bb⟩
  have BRF : Hid (∀ w', Below w1.heap.size w1 w' → Below w.heap.size w w' ∧ Blk w' G #[.int .i64 0, .bool false, .string ⟨#[]⟩, .int .i64 0] 23) := fun w' hb => ⟨HB1.out.trans (hb.mono HB1.out.size), Br1.out.below hb Br1.out.lt⟩
  clear HC Ba1 Br1 HB1 HTC MU
  go_wp2_with fail
  simp only [← HG.out]
  have mk0 : True := trivial
  go_region_held3 (fun w' => w'.cell? ⟨w.heap.size, 0, none⟩ = some (.int .i64 ca) ∧ w'.cell? ⟨w.heap.size, 1, none⟩ = some (.bool na) ∧ w'.cell? ⟨w.heap.size, 2, none⟩ = some (.string ta) ∧ w'.cell? ⟨w.heap.size, 3, none⟩ = some (.int .i64 ea)) (go_keep) (first
    | (clear mk0; go_at_call 39; refine (C0.out _  b0 ).mono ?_; rintro e v1 ⟨rfl, b1, q0_0, q0_1, q0_2, q0_3, q0_4, q0_5, q0_6, q0_7, q0_8, q0_9, q0_10, q0_11⟩; have mk1 : True := trivial)
    | (clear mk1; go_at_call 42; refine (C1.out _  b1 ).mono ?_; rintro e v2 ⟨rfl, b2, q1_0, q1_1, q1_2, q1_3, q1_4, q1_5, q1_6, q1_7, q1_8, q1_9, q1_10, q1_11⟩; have mk2 : True := trivial)
    | (clear mk2; go_at_call 41; refine (C2.out _  b2 ).mono ?_; rintro e v3 ⟨rfl, b3, q2_0, q2_1, q2_2, q2_3, q2_4, q2_5, q2_6, q2_7, q2_8, q2_9, q2_10, q2_11⟩; have mk3 : True := trivial))
  obtain ⟨hbel, hblk⟩ := BRF.out _ b3.out
  have HBL := hide hbel
  have QR := hide hblk
  clear hbel hblk BRF b0 b1 b2 b3 C0 C1 C2
  repeat (first | go_values | go_skip | go_guarded | go_step | go_upon)
  refine bodyPost_ret (results_dec2 rfl _ _ _ _ _ _ _ rfl (QR.out.put4 _ _ _ _)) rfl ?_
  exact ⟨rfl, below_put4 HBL.out gle _ _ _ _⟩

theorem Digits_any (ca : Int) (na : Bool) (ta : ByteArray) (ea : Int) (n m : Int) (w : World) (htab : Tab w) : Calls Tryz.prog 50 #[dcV ca na ta ea, .int .i64 n, .int .i64 m] w fun e w' => e = .returned (decErr (digR ca na (bys ta) ea n m)) ∧ Below w.heap.size w w' := by
  unfold digR
  by_cases h : MayD ca na (bys ta) ea
  · rw [if_neg (fun g => g h)]
    by_cases h1 : m < 0
    · rw [if_pos (.inl h1)]
      exact Digits_mlow ca na ta ea n m w h h1
    · by_cases h2 : 8 ≤ m
      · rw [if_pos (.inr h2)]
        exact Digits_mhigh ca na ta ea n m w h h2
      · rw [if_neg (by omega)]
        by_cases h3 : n < 1
        · rw [if_pos (.inl h3)]
          exact Digits_low ca na ta ea n m w h (by omega) (by omega) h3
        · by_cases h4 : 1000 < n
          · rw [if_pos (.inr h4)]
            exact Digits_high ca na ta ea n m w h (by omega) (by omega) h4
          · rw [if_neg (by omega)]
            exact Digits_in ca na ta ea n m w h (by omega) (by omega) (by omega) (by omega) htab
  · rw [if_pos h]
    exact Digits_no ca na ta ea n m w h

set_option maxHeartbeats 1000000 in
theorem Step_bno (ca : Int) (na : Bool) (ta : ByteArray) (ea : Int) (cb : Int) (nb : Bool) (tb : ByteArray) (eb : Int) (m : Int) (w : World) (hb : ¬ MayD cb nb (bys tb) eb) : Calls Tryz.prog 51 #[dcV ca na ta ea, dcV cb nb tb eb, .int .i64 m] w fun e w' => e = .returned (.tuple #[dcV 0 false ⟨#[]⟩ 0, .int .i64 52]) ∧ Below w.heap.size w w' := by
  have K0 := hide (fun W => dmay_no cb nb tb eb W hb)
  have Ba0 := hide (((Blk.newAt w (w.heap.size) (rfl) #[.int .i64 ca, .bool na, .string ta, .int .i64 ea] 23).alloc (.cells #[.int .i64 cb, .bool nb, .string tb, .int .i64 eb] 23)).alloc (.cells #[.int .i64 0, .bool false, .string ⟨#[]⟩, .int .i64 0] 23))
  have Bb0 := hide ((Blk.newAt (w.alloc (.cells #[.int .i64 ca, .bool na, .string ta, .int .i64 ea] 23)) (w.heap.size + 1) (by simp) #[.int .i64 cb, .bool nb, .string tb, .int .i64 eb] 23).alloc (.cells #[.int .i64 0, .bool false, .string ⟨#[]⟩, .int .i64 0] 23))
  have Br0 := hide (Blk.newAt ((w.alloc (.cells #[.int .i64 ca, .bool na, .string ta, .int .i64 ea] 23)).alloc (.cells #[.int .i64 cb, .bool nb, .string tb, .int .i64 eb] 23)) (w.heap.size + 1 + 1) (by simp) #[.int .i64 0, .bool false, .string ⟨#[]⟩, .int .i64 0] 23)
  have HB0 : Hid (Below w.heap.size w (((w.alloc (.cells #[.int .i64 ca, .bool na, .string ta, .int .i64 ea] 23)).alloc (.cells #[.int .i64 cb, .bool nb, .string tb, .int .i64 eb] 23)).alloc (.cells #[.int .i64 0, .bool false, .string ⟨#[]⟩, .int .i64 0] 23))) := ((((Below.refl _ _).alloc (Nat.le_refl _) _).alloc (by simp <;> omega) _).alloc (by simp <;> omega) _)
  go_enter Tryz.func51, Tryz.ntmps51
  go_wp2_with fail
  refine (K0.out _).mono ?_
  rintro e w1 ⟨rfl, hb⟩
  have Ba1 := hide (Ba0.out.below hb Ba0.out.lt)
  have Bb1 := hide (Bb0.out.below hb Bb0.out.lt)
  have Br1 := hide (Br0.out.below hb Br0.out.lt)
  have HB1 := hide (HB0.out.trans (hb.mono HB0.out.size))
  clear hb Ba0 Bb0 Br0 HB0 
  have ya0 : w1.cell? ⟨w.heap.size, 0, none⟩ = some (.int .i64 ca) := Ba1.out.cell 0
  have ya1 : w1.cell? ⟨w.heap.size, 1, none⟩ = some (.bool na) := Ba1.out.cell 1
  have ya2 : w1.cell? ⟨w.heap.size, 2, none⟩ = some (.string ta) := Ba1.out.cell 2
  have ya3 : w1.cell? ⟨w.heap.size, 3, none⟩ = some (.int .i64 ea) := Ba1.out.cell 3
  have yb0 : w1.cell? ⟨w.heap.size + 1, 0, none⟩ = some (.int .i64 cb) := Bb1.out.cell 0
  have yb1 : w1.cell? ⟨w.heap.size + 1, 1, none⟩ = some (.bool nb) := Bb1.out.cell 1
  have yb2 : w1.cell? ⟨w.heap.size + 1, 2, none⟩ = some (.string tb) := Bb1.out.cell 2
  have yb3 : w1.cell? ⟨w.heap.size + 1, 3, none⟩ = some (.int .i64 eb) := Bb1.out.cell 3
  have yr0 : w1.cell? ⟨w.heap.size + 1 + 1, 0, none⟩ = some (.int .i64 0) := Br1.out.cell 0
  have yr1 : w1.cell? ⟨w.heap.size + 1 + 1, 1, none⟩ = some (.bool false) := Br1.out.cell 1
  have yr2 : w1.cell? ⟨w.heap.size + 1 + 1, 2, none⟩ = some (.string ⟨#[]⟩) := Br1.out.cell 2
  have yr3 : w1.cell? ⟨w.heap.size + 1 + 1, 3, none⟩ = some (.int .i64 0) := Br1.out.cell 3
  have fr0 := Br1.out.free 0
  have fr1 := Br1.out.free 1
  have fr2 := Br1.out.free 2
  have fr3 := Br1.out.free 3
  go_wp2
  refine bodyPost_ret (results_dec2 rfl _ _ _ _ _ _ _ rfl (Br1.out.put4 _ _ _ _)) rfl ?_
  exact ⟨rfl, below_put4 (HB1.out) (by omega) _ _ _ _⟩

set_option maxHeartbeats 1000000 in
theorem Step_no (ca : Int) (na : Bool) (ta : ByteArray) (ea : Int) (cb : Int) (nb : Bool) (tb : ByteArray) (eb : Int) (m : Int) (w : World) (hb : MayD cb nb (bys tb) eb) (h : ¬ MayD ca na (bys ta) ea) : Calls Tryz.prog 51 #[dcV ca na ta ea, dcV cb nb tb eb, .int .i64 m] w fun e w' => e = .returned (.tuple #[dcV 0 false ⟨#[]⟩ 0, .int .i64 52]) ∧ Below w.heap.size w w' := by
  have K0 := hide (fun W => dmay_yes cb nb tb eb W hb)
  have K1 := hide (fun W => check_no ca na ta ea m W h)
  have Ba0 := hide (((Blk.newAt w (w.heap.size) (rfl) #[.int .i64 ca, .bool na, .string ta, .int .i64 ea] 23).alloc (.cells #[.int .i64 cb, .bool nb, .string tb, .int .i64 eb] 23)).alloc (.cells #[.int .i64 0, .bool false, .string ⟨#[]⟩, .int .i64 0] 23))
  have Bb0 := hide ((Blk.newAt (w.alloc (.cells #[.int .i64 ca, .bool na, .string ta, .int .i64 ea] 23)) (w.heap.size + 1) (by simp) #[.int .i64 cb, .bool nb, .string tb, .int .i64 eb] 23).alloc (.cells #[.int .i64 0, .bool false, .string ⟨#[]⟩, .int .i64 0] 23))
  have Br0 := hide (Blk.newAt ((w.alloc (.cells #[.int .i64 ca, .bool na, .string ta, .int .i64 ea] 23)).alloc (.cells #[.int .i64 cb, .bool nb, .string tb, .int .i64 eb] 23)) (w.heap.size + 1 + 1) (by simp) #[.int .i64 0, .bool false, .string ⟨#[]⟩, .int .i64 0] 23)
  have HB0 : Hid (Below w.heap.size w (((w.alloc (.cells #[.int .i64 ca, .bool na, .string ta, .int .i64 ea] 23)).alloc (.cells #[.int .i64 cb, .bool nb, .string tb, .int .i64 eb] 23)).alloc (.cells #[.int .i64 0, .bool false, .string ⟨#[]⟩, .int .i64 0] 23))) := ((((Below.refl _ _).alloc (Nat.le_refl _) _).alloc (by simp <;> omega) _).alloc (by simp <;> omega) _)
  go_enter Tryz.func51, Tryz.ntmps51
  go_wp2_with fail
  refine (K0.out _).mono ?_
  rintro e w1 ⟨rfl, hb⟩
  have Ba1 := hide (Ba0.out.below hb Ba0.out.lt)
  have Bb1 := hide (Bb0.out.below hb Bb0.out.lt)
  have Br1 := hide (Br0.out.below hb Br0.out.lt)
  have HB1 := hide (HB0.out.trans (hb.mono HB0.out.size))
  clear hb Ba0 Bb0 Br0 HB0 
  have ya0 : w1.cell? ⟨w.heap.size, 0, none⟩ = some (.int .i64 ca) := Ba1.out.cell 0
  have ya1 : w1.cell? ⟨w.heap.size, 1, none⟩ = some (.bool na) := Ba1.out.cell 1
  have ya2 : w1.cell? ⟨w.heap.size, 2, none⟩ = some (.string ta) := Ba1.out.cell 2
  have ya3 : w1.cell? ⟨w.heap.size, 3, none⟩ = some (.int .i64 ea) := Ba1.out.cell 3
  have yb0 : w1.cell? ⟨w.heap.size + 1, 0, none⟩ = some (.int .i64 cb) := Bb1.out.cell 0
  have yb1 : w1.cell? ⟨w.heap.size + 1, 1, none⟩ = some (.bool nb) := Bb1.out.cell 1
  have yb2 : w1.cell? ⟨w.heap.size + 1, 2, none⟩ = some (.string tb) := Bb1.out.cell 2
  have yb3 : w1.cell? ⟨w.heap.size + 1, 3, none⟩ = some (.int .i64 eb) := Bb1.out.cell 3
  have yr0 : w1.cell? ⟨w.heap.size + 1 + 1, 0, none⟩ = some (.int .i64 0) := Br1.out.cell 0
  have yr1 : w1.cell? ⟨w.heap.size + 1 + 1, 1, none⟩ = some (.bool false) := Br1.out.cell 1
  have yr2 : w1.cell? ⟨w.heap.size + 1 + 1, 2, none⟩ = some (.string ⟨#[]⟩) := Br1.out.cell 2
  have yr3 : w1.cell? ⟨w.heap.size + 1 + 1, 3, none⟩ = some (.int .i64 0) := Br1.out.cell 3
  go_wp2_with fail
  refine (K1.out _).mono ?_
  rintro e w2 ⟨rfl, hb⟩
  have Ba2 := hide (Ba1.out.below hb Ba1.out.lt)
  have Bb2 := hide (Bb1.out.below hb Bb1.out.lt)
  have Br2 := hide (Br1.out.below hb Br1.out.lt)
  have HB2 := hide (HB1.out.trans (hb.mono HB1.out.size))
  clear hb Ba1 Bb1 Br1 HB1 ya0 ya1 ya2 ya3 yb0 yb1 yb2 yb3 yr0 yr1 yr2 yr3
  have ya0 : w2.cell? ⟨w.heap.size, 0, none⟩ = some (.int .i64 ca) := Ba2.out.cell 0
  have ya1 : w2.cell? ⟨w.heap.size, 1, none⟩ = some (.bool na) := Ba2.out.cell 1
  have ya2 : w2.cell? ⟨w.heap.size, 2, none⟩ = some (.string ta) := Ba2.out.cell 2
  have ya3 : w2.cell? ⟨w.heap.size, 3, none⟩ = some (.int .i64 ea) := Ba2.out.cell 3
  have yb0 : w2.cell? ⟨w.heap.size + 1, 0, none⟩ = some (.int .i64 cb) := Bb2.out.cell 0
  have yb1 : w2.cell? ⟨w.heap.size + 1, 1, none⟩ = some (.bool nb) := Bb2.out.cell 1
  have yb2 : w2.cell? ⟨w.heap.size + 1, 2, none⟩ = some (.string tb) := Bb2.out.cell 2
  have yb3 : w2.cell? ⟨w.heap.size + 1, 3, none⟩ = some (.int .i64 eb) := Bb2.out.cell 3
  have yr0 : w2.cell? ⟨w.heap.size + 1 + 1, 0, none⟩ = some (.int .i64 0) := Br2.out.cell 0
  have yr1 : w2.cell? ⟨w.heap.size + 1 + 1, 1, none⟩ = some (.bool false) := Br2.out.cell 1
  have yr2 : w2.cell? ⟨w.heap.size + 1 + 1, 2, none⟩ = some (.string ⟨#[]⟩) := Br2.out.cell 2
  have yr3 : w2.cell? ⟨w.heap.size + 1 + 1, 3, none⟩ = some (.int .i64 0) := Br2.out.cell 3
  have fr0 := Br2.out.free 0
  have fr1 := Br2.out.free 1
  have fr2 := Br2.out.free 2
  have fr3 := Br2.out.free 3
  go_wp2
  refine bodyPost_ret (results_dec2 rfl _ _ _ _ _ _ _ rfl (Br2.out.put4 _ _ _ _)) rfl ?_
  exact ⟨rfl, below_put4 (HB2.out) (by omega) _ _ _ _⟩

set_option maxHeartbeats 1000000 in
theorem Step_mlow (ca : Int) (na : Bool) (ta : ByteArray) (ea : Int) (cb : Int) (nb : Bool) (tb : ByteArray) (eb : Int) (m : Int) (w : World) (hb : MayD cb nb (bys tb) eb) (h : MayD ca na (bys ta) ea) (hm : m < 0) : Calls Tryz.prog 51 #[dcV ca na ta ea, dcV cb nb tb eb, .int .i64 m] w fun e w' => e = .returned (.tuple #[dcV 0 false ⟨#[]⟩ 0, .int .i64 60]) ∧ Below w.heap.size w w' := by
  have K0 := hide (fun W => dmay_yes cb nb tb eb W hb)
  have K1 := hide (fun W => check_low ca na ta ea m W h hm)
  have Ba0 := hide (((Blk.newAt w (w.heap.size) (rfl) #[.int .i64 ca, .bool na, .string ta, .int .i64 ea] 23).alloc (.cells #[.int .i64 cb, .bool nb, .string tb, .int .i64 eb] 23)).alloc (.cells #[.int .i64 0, .bool false, .string ⟨#[]⟩, .int .i64 0] 23))
  have Bb0 := hide ((Blk.newAt (w.alloc (.cells #[.int .i64 ca, .bool na, .string ta, .int .i64 ea] 23)) (w.heap.size + 1) (by simp) #[.int .i64 cb, .bool nb, .string tb, .int .i64 eb] 23).alloc (.cells #[.int .i64 0, .bool false, .string ⟨#[]⟩, .int .i64 0] 23))
  have Br0 := hide (Blk.newAt ((w.alloc (.cells #[.int .i64 ca, .bool na, .string ta, .int .i64 ea] 23)).alloc (.cells #[.int .i64 cb, .bool nb, .string tb, .int .i64 eb] 23)) (w.heap.size + 1 + 1) (by simp) #[.int .i64 0, .bool false, .string ⟨#[]⟩, .int .i64 0] 23)
  have HB0 : Hid (Below w.heap.size w (((w.alloc (.cells #[.int .i64 ca, .bool na, .string ta, .int .i64 ea] 23)).alloc (.cells #[.int .i64 cb, .bool nb, .string tb, .int .i64 eb] 23)).alloc (.cells #[.int .i64 0, .bool false, .string ⟨#[]⟩, .int .i64 0] 23))) := ((((Below.refl _ _).alloc (Nat.le_refl _) _).alloc (by simp <;> omega) _).alloc (by simp <;> omega) _)
  go_enter Tryz.func51, Tryz.ntmps51
  go_wp2_with fail
  refine (K0.out _).mono ?_
  rintro e w1 ⟨rfl, hb⟩
  have Ba1 := hide (Ba0.out.below hb Ba0.out.lt)
  have Bb1 := hide (Bb0.out.below hb Bb0.out.lt)
  have Br1 := hide (Br0.out.below hb Br0.out.lt)
  have HB1 := hide (HB0.out.trans (hb.mono HB0.out.size))
  clear hb Ba0 Bb0 Br0 HB0 
  have ya0 : w1.cell? ⟨w.heap.size, 0, none⟩ = some (.int .i64 ca) := Ba1.out.cell 0
  have ya1 : w1.cell? ⟨w.heap.size, 1, none⟩ = some (.bool na) := Ba1.out.cell 1
  have ya2 : w1.cell? ⟨w.heap.size, 2, none⟩ = some (.string ta) := Ba1.out.cell 2
  have ya3 : w1.cell? ⟨w.heap.size, 3, none⟩ = some (.int .i64 ea) := Ba1.out.cell 3
  have yb0 : w1.cell? ⟨w.heap.size + 1, 0, none⟩ = some (.int .i64 cb) := Bb1.out.cell 0
  have yb1 : w1.cell? ⟨w.heap.size + 1, 1, none⟩ = some (.bool nb) := Bb1.out.cell 1
  have yb2 : w1.cell? ⟨w.heap.size + 1, 2, none⟩ = some (.string tb) := Bb1.out.cell 2
  have yb3 : w1.cell? ⟨w.heap.size + 1, 3, none⟩ = some (.int .i64 eb) := Bb1.out.cell 3
  have yr0 : w1.cell? ⟨w.heap.size + 1 + 1, 0, none⟩ = some (.int .i64 0) := Br1.out.cell 0
  have yr1 : w1.cell? ⟨w.heap.size + 1 + 1, 1, none⟩ = some (.bool false) := Br1.out.cell 1
  have yr2 : w1.cell? ⟨w.heap.size + 1 + 1, 2, none⟩ = some (.string ⟨#[]⟩) := Br1.out.cell 2
  have yr3 : w1.cell? ⟨w.heap.size + 1 + 1, 3, none⟩ = some (.int .i64 0) := Br1.out.cell 3
  go_wp2_with fail
  refine (K1.out _).mono ?_
  rintro e w2 ⟨rfl, hb⟩
  have Ba2 := hide (Ba1.out.below hb Ba1.out.lt)
  have Bb2 := hide (Bb1.out.below hb Bb1.out.lt)
  have Br2 := hide (Br1.out.below hb Br1.out.lt)
  have HB2 := hide (HB1.out.trans (hb.mono HB1.out.size))
  clear hb Ba1 Bb1 Br1 HB1 ya0 ya1 ya2 ya3 yb0 yb1 yb2 yb3 yr0 yr1 yr2 yr3
  have ya0 : w2.cell? ⟨w.heap.size, 0, none⟩ = some (.int .i64 ca) := Ba2.out.cell 0
  have ya1 : w2.cell? ⟨w.heap.size, 1, none⟩ = some (.bool na) := Ba2.out.cell 1
  have ya2 : w2.cell? ⟨w.heap.size, 2, none⟩ = some (.string ta) := Ba2.out.cell 2
  have ya3 : w2.cell? ⟨w.heap.size, 3, none⟩ = some (.int .i64 ea) := Ba2.out.cell 3
  have yb0 : w2.cell? ⟨w.heap.size + 1, 0, none⟩ = some (.int .i64 cb) := Bb2.out.cell 0
  have yb1 : w2.cell? ⟨w.heap.size + 1, 1, none⟩ = some (.bool nb) := Bb2.out.cell 1
  have yb2 : w2.cell? ⟨w.heap.size + 1, 2, none⟩ = some (.string tb) := Bb2.out.cell 2
  have yb3 : w2.cell? ⟨w.heap.size + 1, 3, none⟩ = some (.int .i64 eb) := Bb2.out.cell 3
  have yr0 : w2.cell? ⟨w.heap.size + 1 + 1, 0, none⟩ = some (.int .i64 0) := Br2.out.cell 0
  have yr1 : w2.cell? ⟨w.heap.size + 1 + 1, 1, none⟩ = some (.bool false) := Br2.out.cell 1
  have yr2 : w2.cell? ⟨w.heap.size + 1 + 1, 2, none⟩ = some (.string ⟨#[]⟩) := Br2.out.cell 2
  have yr3 : w2.cell? ⟨w.heap.size + 1 + 1, 3, none⟩ = some (.int .i64 0) := Br2.out.cell 3
  have fr0 := Br2.out.free 0
  have fr1 := Br2.out.free 1
  have fr2 := Br2.out.free 2
  have fr3 := Br2.out.free 3
  go_wp2
  refine bodyPost_ret (results_dec2 rfl _ _ _ _ _ _ _ rfl (Br2.out.put4 _ _ _ _)) rfl ?_
  exact ⟨rfl, below_put4 (HB2.out) (by omega) _ _ _ _⟩

set_option maxHeartbeats 1000000 in
theorem Step_mhigh (ca : Int) (na : Bool) (ta : ByteArray) (ea : Int) (cb : Int) (nb : Bool) (tb : ByteArray) (eb : Int) (m : Int) (w : World) (hb : MayD cb nb (bys tb) eb) (h : MayD ca na (bys ta) ea) (hm : 8 ≤ m) : Calls Tryz.prog 51 #[dcV ca na ta ea, dcV cb nb tb eb, .int .i64 m] w fun e w' => e = .returned (.tuple #[dcV 0 false ⟨#[]⟩ 0, .int .i64 60]) ∧ Below w.heap.size w w' := by
  have K0 := hide (fun W => dmay_yes cb nb tb eb W hb)
  have K1 := hide (fun W => check_high ca na ta ea m W h hm)
  have Ba0 := hide (((Blk.newAt w (w.heap.size) (rfl) #[.int .i64 ca, .bool na, .string ta, .int .i64 ea] 23).alloc (.cells #[.int .i64 cb, .bool nb, .string tb, .int .i64 eb] 23)).alloc (.cells #[.int .i64 0, .bool false, .string ⟨#[]⟩, .int .i64 0] 23))
  have Bb0 := hide ((Blk.newAt (w.alloc (.cells #[.int .i64 ca, .bool na, .string ta, .int .i64 ea] 23)) (w.heap.size + 1) (by simp) #[.int .i64 cb, .bool nb, .string tb, .int .i64 eb] 23).alloc (.cells #[.int .i64 0, .bool false, .string ⟨#[]⟩, .int .i64 0] 23))
  have Br0 := hide (Blk.newAt ((w.alloc (.cells #[.int .i64 ca, .bool na, .string ta, .int .i64 ea] 23)).alloc (.cells #[.int .i64 cb, .bool nb, .string tb, .int .i64 eb] 23)) (w.heap.size + 1 + 1) (by simp) #[.int .i64 0, .bool false, .string ⟨#[]⟩, .int .i64 0] 23)
  have HB0 : Hid (Below w.heap.size w (((w.alloc (.cells #[.int .i64 ca, .bool na, .string ta, .int .i64 ea] 23)).alloc (.cells #[.int .i64 cb, .bool nb, .string tb, .int .i64 eb] 23)).alloc (.cells #[.int .i64 0, .bool false, .string ⟨#[]⟩, .int .i64 0] 23))) := ((((Below.refl _ _).alloc (Nat.le_refl _) _).alloc (by simp <;> omega) _).alloc (by simp <;> omega) _)
  go_enter Tryz.func51, Tryz.ntmps51
  go_wp2_with fail
  refine (K0.out _).mono ?_
  rintro e w1 ⟨rfl, hb⟩
  have Ba1 := hide (Ba0.out.below hb Ba0.out.lt)
  have Bb1 := hide (Bb0.out.below hb Bb0.out.lt)
  have Br1 := hide (Br0.out.below hb Br0.out.lt)
  have HB1 := hide (HB0.out.trans (hb.mono HB0.out.size))
  clear hb Ba0 Bb0 Br0 HB0 
  have ya0 : w1.cell? ⟨w.heap.size, 0, none⟩ = some (.int .i64 ca) := Ba1.out.cell 0
  have ya1 : w1.cell? ⟨w.heap.size, 1, none⟩ = some (.bool na) := Ba1.out.cell 1
  have ya2 : w1.cell? ⟨w.heap.size, 2, none⟩ = some (.string ta) := Ba1.out.cell 2
  have ya3 : w1.cell? ⟨w.heap.size, 3, none⟩ = some (.int .i64 ea) := Ba1.out.cell 3
  have yb0 : w1.cell? ⟨w.heap.size + 1, 0, none⟩ = some (.int .i64 cb) := Bb1.out.cell 0
  have yb1 : w1.cell? ⟨w.heap.size + 1, 1, none⟩ = some (.bool nb) := Bb1.out.cell 1
  have yb2 : w1.cell? ⟨w.heap.size + 1, 2, none⟩ = some (.string tb) := Bb1.out.cell 2
  have yb3 : w1.cell? ⟨w.heap.size + 1, 3, none⟩ = some (.int .i64 eb) := Bb1.out.cell 3
  have yr0 : w1.cell? ⟨w.heap.size + 1 + 1, 0, none⟩ = some (.int .i64 0) := Br1.out.cell 0
  have yr1 : w1.cell? ⟨w.heap.size + 1 + 1, 1, none⟩ = some (.bool false) := Br1.out.cell 1
  have yr2 : w1.cell? ⟨w.heap.size + 1 + 1, 2, none⟩ = some (.string ⟨#[]⟩) := Br1.out.cell 2
  have yr3 : w1.cell? ⟨w.heap.size + 1 + 1, 3, none⟩ = some (.int .i64 0) := Br1.out.cell 3
  go_wp2_with fail
  refine (K1.out _).mono ?_
  rintro e w2 ⟨rfl, hb⟩
  have Ba2 := hide (Ba1.out.below hb Ba1.out.lt)
  have Bb2 := hide (Bb1.out.below hb Bb1.out.lt)
  have Br2 := hide (Br1.out.below hb Br1.out.lt)
  have HB2 := hide (HB1.out.trans (hb.mono HB1.out.size))
  clear hb Ba1 Bb1 Br1 HB1 ya0 ya1 ya2 ya3 yb0 yb1 yb2 yb3 yr0 yr1 yr2 yr3
  have ya0 : w2.cell? ⟨w.heap.size, 0, none⟩ = some (.int .i64 ca) := Ba2.out.cell 0
  have ya1 : w2.cell? ⟨w.heap.size, 1, none⟩ = some (.bool na) := Ba2.out.cell 1
  have ya2 : w2.cell? ⟨w.heap.size, 2, none⟩ = some (.string ta) := Ba2.out.cell 2
  have ya3 : w2.cell? ⟨w.heap.size, 3, none⟩ = some (.int .i64 ea) := Ba2.out.cell 3
  have yb0 : w2.cell? ⟨w.heap.size + 1, 0, none⟩ = some (.int .i64 cb) := Bb2.out.cell 0
  have yb1 : w2.cell? ⟨w.heap.size + 1, 1, none⟩ = some (.bool nb) := Bb2.out.cell 1
  have yb2 : w2.cell? ⟨w.heap.size + 1, 2, none⟩ = some (.string tb) := Bb2.out.cell 2
  have yb3 : w2.cell? ⟨w.heap.size + 1, 3, none⟩ = some (.int .i64 eb) := Bb2.out.cell 3
  have yr0 : w2.cell? ⟨w.heap.size + 1 + 1, 0, none⟩ = some (.int .i64 0) := Br2.out.cell 0
  have yr1 : w2.cell? ⟨w.heap.size + 1 + 1, 1, none⟩ = some (.bool false) := Br2.out.cell 1
  have yr2 : w2.cell? ⟨w.heap.size + 1 + 1, 2, none⟩ = some (.string ⟨#[]⟩) := Br2.out.cell 2
  have yr3 : w2.cell? ⟨w.heap.size + 1 + 1, 3, none⟩ = some (.int .i64 0) := Br2.out.cell 3
  have fr0 := Br2.out.free 0
  have fr1 := Br2.out.free 1
  have fr2 := Br2.out.free 2
  have fr3 := Br2.out.free 3
  go_wp2
  refine bodyPost_ret (results_dec2 rfl _ _ _ _ _ _ _ rfl (Br2.out.put4 _ _ _ _)) rfl ?_
  exact ⟨rfl, below_put4 (HB2.out) (by omega) _ _ _ _⟩

set_option maxHeartbeats 1000000 in
theorem Step_bad (ca : Int) (na : Bool) (ta : ByteArray) (ea : Int) (cb : Int) (nb : Bool) (tb : ByteArray) (eb : Int) (m : Int) (w : World) (hb : MayD cb nb (bys tb) eb) (h : MayD ca na (bys ta) ea) (m1 : 0 ≤ m) (m2 : m < 8) (hq : ∀ W, Calls Tryz.prog 99 #[dcV cb nb tb eb] W fun e w' => e = .returned (.bool false) ∧ Below W.heap.size W w') : Calls Tryz.prog 51 #[dcV ca na ta ea, dcV cb nb tb eb, .int .i64 m] w fun e w' => e = .returned (.tuple #[dcV 0 false ⟨#[]⟩ 0, .int .i64 62]) ∧ Below w.heap.size w w' := by
  have K0 := hide (fun W => dmay_yes cb nb tb eb W hb)
  have K1 := hide (fun W => check_ok ca na ta ea m W h m1 m2)
  have K2 := hide hq
  have Ba0 := hide (((Blk.newAt w (w.heap.size) (rfl) #[.int .i64 ca, .bool na, .string ta, .int .i64 ea] 23).alloc (.cells #[.int .i64 cb, .bool nb, .string tb, .int .i64 eb] 23)).alloc (.cells #[.int .i64 0, .bool false, .string ⟨#[]⟩, .int .i64 0] 23))
  have Bb0 := hide ((Blk.newAt (w.alloc (.cells #[.int .i64 ca, .bool na, .string ta, .int .i64 ea] 23)) (w.heap.size + 1) (by simp) #[.int .i64 cb, .bool nb, .string tb, .int .i64 eb] 23).alloc (.cells #[.int .i64 0, .bool false, .string ⟨#[]⟩, .int .i64 0] 23))
  have Br0 := hide (Blk.newAt ((w.alloc (.cells #[.int .i64 ca, .bool na, .string ta, .int .i64 ea] 23)).alloc (.cells #[.int .i64 cb, .bool nb, .string tb, .int .i64 eb] 23)) (w.heap.size + 1 + 1) (by simp) #[.int .i64 0, .bool false, .string ⟨#[]⟩, .int .i64 0] 23)
  have HB0 : Hid (Below w.heap.size w (((w.alloc (.cells #[.int .i64 ca, .bool na, .string ta, .int .i64 ea] 23)).alloc (.cells #[.int .i64 cb, .bool nb, .string tb, .int .i64 eb] 23)).alloc (.cells #[.int .i64 0, .bool false, .string ⟨#[]⟩, .int .i64 0] 23))) := ((((Below.refl _ _).alloc (Nat.le_refl _) _).alloc (by simp <;> omega) _).alloc (by simp <;> omega) _)
  go_enter Tryz.func51, Tryz.ntmps51
  go_wp2_with fail
  refine (K0.out _).mono ?_
  rintro e w1 ⟨rfl, hb⟩
  have Ba1 := hide (Ba0.out.below hb Ba0.out.lt)
  have Bb1 := hide (Bb0.out.below hb Bb0.out.lt)
  have Br1 := hide (Br0.out.below hb Br0.out.lt)
  have HB1 := hide (HB0.out.trans (hb.mono HB0.out.size))
  clear hb Ba0 Bb0 Br0 HB0 
  have ya0 : w1.cell? ⟨w.heap.size, 0, none⟩ = some (.int .i64 ca) := Ba1.out.cell 0
  have ya1 : w1.cell? ⟨w.heap.size, 1, none⟩ = some (.bool na) := Ba1.out.cell 1
  have ya2 : w1.cell? ⟨w.heap.size, 2, none⟩ = some (.string ta) := Ba1.out.cell 2
  have ya3 : w1.cell? ⟨w.heap.size, 3, none⟩ = some (.int .i64 ea) := Ba1.out.cell 3
  have yb0 : w1.cell? ⟨w.heap.size + 1, 0, none⟩ = some (.int .i64 cb) := Bb1.out.cell 0
  have yb1 : w1.cell? ⟨w.heap.size + 1, 1, none⟩ = some (.bool nb) := Bb1.out.cell 1
  have yb2 : w1.cell? ⟨w.heap.size + 1, 2, none⟩ = some (.string tb) := Bb1.out.cell 2
  have yb3 : w1.cell? ⟨w.heap.size + 1, 3, none⟩ = some (.int .i64 eb) := Bb1.out.cell 3
  have yr0 : w1.cell? ⟨w.heap.size + 1 + 1, 0, none⟩ = some (.int .i64 0) := Br1.out.cell 0
  have yr1 : w1.cell? ⟨w.heap.size + 1 + 1, 1, none⟩ = some (.bool false) := Br1.out.cell 1
  have yr2 : w1.cell? ⟨w.heap.size + 1 + 1, 2, none⟩ = some (.string ⟨#[]⟩) := Br1.out.cell 2
  have yr3 : w1.cell? ⟨w.heap.size + 1 + 1, 3, none⟩ = some (.int .i64 0) := Br1.out.cell 3
  go_wp2_with fail
  refine (K1.out _).mono ?_
  rintro e w2 ⟨rfl, hb⟩
  have Ba2 := hide (Ba1.out.below hb Ba1.out.lt)
  have Bb2 := hide (Bb1.out.below hb Bb1.out.lt)
  have Br2 := hide (Br1.out.below hb Br1.out.lt)
  have HB2 := hide (HB1.out.trans (hb.mono HB1.out.size))
  clear hb Ba1 Bb1 Br1 HB1 ya0 ya1 ya2 ya3 yb0 yb1 yb2 yb3 yr0 yr1 yr2 yr3
  have ya0 : w2.cell? ⟨w.heap.size, 0, none⟩ = some (.int .i64 ca) := Ba2.out.cell 0
  have ya1 : w2.cell? ⟨w.heap.size, 1, none⟩ = some (.bool na) := Ba2.out.cell 1
  have ya2 : w2.cell? ⟨w.heap.size, 2, none⟩ = some (.string ta) := Ba2.out.cell 2
  have ya3 : w2.cell? ⟨w.heap.size, 3, none⟩ = some (.int .i64 ea) := Ba2.out.cell 3
  have yb0 : w2.cell? ⟨w.heap.size + 1, 0, none⟩ = some (.int .i64 cb) := Bb2.out.cell 0
  have yb1 : w2.cell? ⟨w.heap.size + 1, 1, none⟩ = some (.bool nb) := Bb2.out.cell 1
  have yb2 : w2.cell? ⟨w.heap.size + 1, 2, none⟩ = some (.string tb) := Bb2.out.cell 2
  have yb3 : w2.cell? ⟨w.heap.size + 1, 3, none⟩ = some (.int .i64 eb) := Bb2.out.cell 3
  have yr0 : w2.cell? ⟨w.heap.size + 1 + 1, 0, none⟩ = some (.int .i64 0) := Br2.out.cell 0
  have yr1 : w2.cell? ⟨w.heap.size + 1 + 1, 1, none⟩ = some (.bool false) := Br2.out.cell 1
  have yr2 : w2.cell? ⟨w.heap.size + 1 + 1, 2, none⟩ = some (.string ⟨#[]⟩) := Br2.out.cell 2
  have yr3 : w2.cell? ⟨w.heap.size + 1 + 1, 3, none⟩ = some (.int .i64 0) := Br2.out.cell 3
  go_wp2_with fail
  refine (K2.out _).mono ?_
  rintro e w3 ⟨rfl, hb⟩
  have Ba3 := hide (Ba2.out.below hb Ba2.out.lt)
  have Bb3 := hide (Bb2.out.below hb Bb2.out.lt)
  have Br3 := hide (Br2.out.below hb Br2.out.lt)
  have HB3 := hide (HB2.out.trans (hb.mono HB2.out.size))
  clear hb Ba2 Bb2 Br2 HB2 ya0 ya1 ya2 ya3 yb0 yb1 yb2 yb3 yr0 yr1 yr2 yr3
  have ya0 : w3.cell? ⟨w.heap.size, 0, none⟩ = some (.int .i64 ca) := Ba3.out.cell 0
  have ya1 : w3.cell? ⟨w.heap.size, 1, none⟩ = some (.bool na) := Ba3.out.cell 1
  have ya2 : w3.cell? ⟨w.heap.size, 2, none⟩ = some (.string ta) := Ba3.out.cell 2
  have ya3 : w3.cell? ⟨w.heap.size, 3, none⟩ = some (.int .i64 ea) := Ba3.out.cell 3
  have yb0 : w3.cell? ⟨w.heap.size + 1, 0, none⟩ = some (.int .i64 cb) := Bb3.out.cell 0
  have yb1 : w3.cell? ⟨w.heap.size + 1, 1, none⟩ = some (.bool nb) := Bb3.out.cell 1
  have yb2 : w3.cell? ⟨w.heap.size + 1, 2, none⟩ = some (.string tb) := Bb3.out.cell 2
  have yb3 : w3.cell? ⟨w.heap.size + 1, 3, none⟩ = some (.int .i64 eb) := Bb3.out.cell 3
  have yr0 : w3.cell? ⟨w.heap.size + 1 + 1, 0, none⟩ = some (.int .i64 0) := Br3.out.cell 0
  have yr1 : w3.cell? ⟨w.heap.size + 1 + 1, 1, none⟩ = some (.bool false) := Br3.out.cell 1
  have yr2 : w3.cell? ⟨w.heap.size + 1 + 1, 2, none⟩ = some (.string ⟨#[]⟩) := Br3.out.cell 2
  have yr3 : w3.cell? ⟨w.heap.size + 1 + 1, 3, none⟩ = some (.int .i64 0) := Br3.out.cell 3
  have fr0 := Br3.out.free 0
  have fr1 := Br3.out.free 1
  have fr2 := Br3.out.free 2
  have fr3 := Br3.out.free 3
  go_wp2
  refine bodyPost_ret (results_dec2 rfl _ _ _ _ _ _ _ rfl (Br3.out.put4 _ _ _ _)) rfl ?_
  exact ⟨rfl, below_put4 (HB3.out) (by omega) _ _ _ _⟩

set_option maxHeartbeats 2000000 in
theorem Step_in (ca : Int) (na : Bool) (ta : ByteArray) (ea : Int) (tb : ByteArray) (eb : Int) (m : Int) (w : World) (hb : MayD 0 false (bys tb) eb) (h : MayD ca na (bys ta) ea) (m1 : 0 ≤ m) (m2 : m < 8) (hq : tb.size ≠ 0) (hl : tb.size ≤ 32) (htab : Tab w) : Calls Tryz.prog 51 #[dcV ca na ta ea, dcV 0 false tb eb, .int .i64 m] w fun e w' => e = .returned (decErr (rndD ⟨ca.toNat, na, bys ta, ea⟩ (decV (bys tb)) eb m.toNat)) ∧ Below w.heap.size w w' := by
  have K0 := hide (fun W => dmay_yes 0 false tb eb W hb)
  have K1 := hide (fun W => check_ok ca na ta ea m W h m1 m2)
  have K2 := hide (fun W => isStep_yes tb eb W hq hl)
  have bd := may_place hb
  have hok := may_okT hb hq
  have MG := fun (W : World) (hT : Tab W) => mult_raw ca na ta ea false tb eb m h m1 m2 hok.1 hok.2 hl (by omega) (by omega) W hT
  rcases hR : rndD ⟨ca.toNat, na, bys ta, ea⟩ (decV (bys tb)) eb m.toNat with ⟨⟨cc, nn, ll, ee⟩, er⟩
  rw [hR] at MG
  unfold decErr decVal at MG ⊢
  simp only at MG ⊢
  obtain ⟨D, hD⟩ : ∃ D : ByteArray, D = ⟨ll.toArray⟩ := ⟨_, rfl⟩
  rw [← hD] at MG ⊢
  have MU := hide MG
  have HT := hide htab
  clear MG hR hD htab
  clear h hb bd hok hq hl
  have Ba0 := hide (((Blk.newAt w (w.heap.size) (rfl) #[.int .i64 ca, .bool na, .string ta, .int .i64 ea] 23).alloc (.cells #[.int .i64 0, .bool false, .string tb, .int .i64 eb] 23)).alloc (.cells #[.int .i64 0, .bool false, .string ⟨#[]⟩, .int .i64 0] 23))
  have Bb0 := hide ((Blk.newAt (w.alloc (.cells #[.int .i64 ca, .bool na, .string ta, .int .i64 ea] 23)) (w.heap.size + 1) (by simp) #[.int .i64 0, .bool false, .string tb, .int .i64 eb] 23).alloc (.cells #[.int .i64 0, .bool false, .string ⟨#[]⟩, .int .i64 0] 23))
  have Br0 := hide (Blk.newAt ((w.alloc (.cells #[.int .i64 ca, .bool na, .string ta, .int .i64 ea] 23)).alloc (.cells #[.int .i64 0, .bool false, .string tb, .int .i64 eb] 23)) (w.heap.size + 1 + 1) (by simp) #[.int .i64 0, .bool false, .string ⟨#[]⟩, .int .i64 0] 23)
  have HB0 : Hid (Below w.heap.size w (((w.alloc (.cells #[.int .i64 ca, .bool na, .string ta, .int .i64 ea] 23)).alloc (.cells #[.int .i64 0, .bool false, .string tb, .int .i64 eb] 23)).alloc (.cells #[.int .i64 0, .bool false, .string ⟨#[]⟩, .int .i64 0] 23))) := ((((Below.refl _ _).alloc (Nat.le_refl _) _).alloc (by simp <;> omega) _).alloc (by simp <;> omega) _)
  go_enter Tryz.func51, Tryz.ntmps51
  go_wp2_with fail
  refine (K0.out _).mono ?_
  rintro e w1 ⟨rfl, hb⟩
  clear K0
  have Ba1 := hide (Ba0.out.below hb Ba0.out.lt)
  have Bb1 := hide (Bb0.out.below hb Bb0.out.lt)
  have Br1 := hide (Br0.out.below hb Br0.out.lt)
  have HB1 := hide (HB0.out.trans (hb.mono HB0.out.size))
  clear hb Ba0 Bb0 Br0 HB0 
  have ya0 : w1.cell? ⟨w.heap.size, 0, none⟩ = some (.int .i64 ca) := Ba1.out.cell 0
  have ya1 : w1.cell? ⟨w.heap.size, 1, none⟩ = some (.bool na) := Ba1.out.cell 1
  have ya2 : w1.cell? ⟨w.heap.size, 2, none⟩ = some (.string ta) := Ba1.out.cell 2
  have ya3 : w1.cell? ⟨w.heap.size, 3, none⟩ = some (.int .i64 ea) := Ba1.out.cell 3
  have yb0 : w1.cell? ⟨w.heap.size + 1, 0, none⟩ = some (.int .i64 0) := Bb1.out.cell 0
  have yb1 : w1.cell? ⟨w.heap.size + 1, 1, none⟩ = some (.bool false) := Bb1.out.cell 1
  have yb2 : w1.cell? ⟨w.heap.size + 1, 2, none⟩ = some (.string tb) := Bb1.out.cell 2
  have yb3 : w1.cell? ⟨w.heap.size + 1, 3, none⟩ = some (.int .i64 eb) := Bb1.out.cell 3
  have yr0 : w1.cell? ⟨w.heap.size + 1 + 1, 0, none⟩ = some (.int .i64 0) := Br1.out.cell 0
  have yr1 : w1.cell? ⟨w.heap.size + 1 + 1, 1, none⟩ = some (.bool false) := Br1.out.cell 1
  have yr2 : w1.cell? ⟨w.heap.size + 1 + 1, 2, none⟩ = some (.string ⟨#[]⟩) := Br1.out.cell 2
  have yr3 : w1.cell? ⟨w.heap.size + 1 + 1, 3, none⟩ = some (.int .i64 0) := Br1.out.cell 3
  go_wp2_with fail
  refine (K1.out _).mono ?_
  rintro e w2 ⟨rfl, hb⟩
  clear K1
  have Ba2 := hide (Ba1.out.below hb Ba1.out.lt)
  have Bb2 := hide (Bb1.out.below hb Bb1.out.lt)
  have Br2 := hide (Br1.out.below hb Br1.out.lt)
  have HB2 := hide (HB1.out.trans (hb.mono HB1.out.size))
  clear hb Ba1 Bb1 Br1 HB1 ya0 ya1 ya2 ya3 yb0 yb1 yb2 yb3 yr0 yr1 yr2 yr3
  have ya0 : w2.cell? ⟨w.heap.size, 0, none⟩ = some (.int .i64 ca) := Ba2.out.cell 0
  have ya1 : w2.cell? ⟨w.heap.size, 1, none⟩ = some (.bool na) := Ba2.out.cell 1
  have ya2 : w2.cell? ⟨w.heap.size, 2, none⟩ = some (.string ta) := Ba2.out.cell 2
  have ya3 : w2.cell? ⟨w.heap.size, 3, none⟩ = some (.int .i64 ea) := Ba2.out.cell 3
  have yb0 : w2.cell? ⟨w.heap.size + 1, 0, none⟩ = some (.int .i64 0) := Bb2.out.cell 0
  have yb1 : w2.cell? ⟨w.heap.size + 1, 1, none⟩ = some (.bool false) := Bb2.out.cell 1
  have yb2 : w2.cell? ⟨w.heap.size + 1, 2, none⟩ = some (.string tb) := Bb2.out.cell 2
  have yb3 : w2.cell? ⟨w.heap.size + 1, 3, none⟩ = some (.int .i64 eb) := Bb2.out.cell 3
  have yr0 : w2.cell? ⟨w.heap.size + 1 + 1, 0, none⟩ = some (.int .i64 0) := Br2.out.cell 0
  have yr1 : w2.cell? ⟨w.heap.size + 1 + 1, 1, none⟩ = some (.bool false) := Br2.out.cell 1
  have yr2 : w2.cell? ⟨w.heap.size + 1 + 1, 2, none⟩ = some (.string ⟨#[]⟩) := Br2.out.cell 2
  have yr3 : w2.cell? ⟨w.heap.size + 1 + 1, 3, none⟩ = some (.int .i64 0) := Br2.out.cell 3
  go_wp2_with fail
  refine (K2.out _).mono ?_
  rintro e w3 ⟨rfl, hb⟩
  clear K2
  have Ba3 := hide (Ba2.out.below hb Ba2.out.lt)
  have Bb3 := hide (Bb2.out.below hb Bb2.out.lt)
  have Br3 := hide (Br2.out.below hb Br2.out.lt)
  have HB3 := hide (HB2.out.trans (hb.mono HB2.out.size))
  clear hb Ba2 Bb2 Br2 HB2 ya0 ya1 ya2 ya3 yb0 yb1 yb2 yb3 yr0 yr1 yr2 yr3
  have ya0 : w3.cell? ⟨w.heap.size, 0, none⟩ = some (.int .i64 ca) := Ba3.out.cell 0
  have ya1 : w3.cell? ⟨w.heap.size, 1, none⟩ = some (.bool na) := Ba3.out.cell 1
  have ya2 : w3.cell? ⟨w.heap.size, 2, none⟩ = some (.string ta) := Ba3.out.cell 2
  have ya3 : w3.cell? ⟨w.heap.size, 3, none⟩ = some (.int .i64 ea) := Ba3.out.cell 3
  have yb0 : w3.cell? ⟨w.heap.size + 1, 0, none⟩ = some (.int .i64 0) := Bb3.out.cell 0
  have yb1 : w3.cell? ⟨w.heap.size + 1, 1, none⟩ = some (.bool false) := Bb3.out.cell 1
  have yb2 : w3.cell? ⟨w.heap.size + 1, 2, none⟩ = some (.string tb) := Bb3.out.cell 2
  have yb3 : w3.cell? ⟨w.heap.size + 1, 3, none⟩ = some (.int .i64 eb) := Bb3.out.cell 3
  have yr0 : w3.cell? ⟨w.heap.size + 1 + 1, 0, none⟩ = some (.int .i64 0) := Br3.out.cell 0
  have yr1 : w3.cell? ⟨w.heap.size + 1 + 1, 1, none⟩ = some (.bool false) := Br3.out.cell 1
  have yr2 : w3.cell? ⟨w.heap.size + 1 + 1, 2, none⟩ = some (.string ⟨#[]⟩) := Br3.out.cell 2
  have yr3 : w3.cell? ⟨w.heap.size + 1 + 1, 3, none⟩ = some (.int .i64 0) := Br3.out.cell 3
  have HTC := hide (HT.out.below HB3.out)
  clear HT
  have MM := hide (MU.out _ HTC.out)
  clear HTC MU
  go_wp2_with fail
  refine (MM.out).mono ?_
  rintro e w4 ⟨rfl, hb⟩
  clear MM
  have Ba4 := hide (Ba3.out.below hb Ba3.out.lt)
  have Bb4 := hide (Bb3.out.below hb Bb3.out.lt)
  have Br4 := hide (Br3.out.below hb Br3.out.lt)
  have HB4 := hide (HB3.out.trans (hb.mono HB3.out.size))
  clear hb Ba3 Bb3 Br3 HB3 ya0 ya1 ya2 ya3 yb0 yb1 yb2 yb3 yr0 yr1 yr2 yr3
  have ya0 : w4.cell? ⟨w.heap.size, 0, none⟩ = some (.int .i64 ca) := Ba4.out.cell 0
  have ya1 : w4.cell? ⟨w.heap.size, 1, none⟩ = some (.bool na) := Ba4.out.cell 1
  have ya2 : w4.cell? ⟨w.heap.size, 2, none⟩ = some (.string ta) := Ba4.out.cell 2
  have ya3 : w4.cell? ⟨w.heap.size, 3, none⟩ = some (.int .i64 ea) := Ba4.out.cell 3
  have yb0 : w4.cell? ⟨w.heap.size + 1, 0, none⟩ = some (.int .i64 0) := Bb4.out.cell 0
  have yb1 : w4.cell? ⟨w.heap.size + 1, 1, none⟩ = some (.bool false) := Bb4.out.cell 1
  have yb2 : w4.cell? ⟨w.heap.size + 1, 2, none⟩ = some (.string tb) := Bb4.out.cell 2
  have yb3 : w4.cell? ⟨w.heap.size + 1, 3, none⟩ = some (.int .i64 eb) := Bb4.out.cell 3
  have yr0 : w4.cell? ⟨w.heap.size + 1 + 1, 0, none⟩ = some (.int .i64 0) := Br4.out.cell 0
  have yr1 : w4.cell? ⟨w.heap.size + 1 + 1, 1, none⟩ = some (.bool false) := Br4.out.cell 1
  have yr2 : w4.cell? ⟨w.heap.size + 1 + 1, 2, none⟩ = some (.string ⟨#[]⟩) := Br4.out.cell 2
  have yr3 : w4.cell? ⟨w.heap.size + 1 + 1, 3, none⟩ = some (.int .i64 0) := Br4.out.cell 3
  have fr0 := Br4.out.free 0
  have fr1 := Br4.out.free 1
  have fr2 := Br4.out.free 2
  have fr3 := Br4.out.free 3
  go_wp2
  refine bodyPost_ret (results_dec2 rfl _ _ _ _ _ _ _ rfl (Br4.out.put4 _ _ _ _)) rfl ?_
  exact ⟨rfl, below_put4 (HB4.out) (by omega) _ _ _ _⟩

theorem Step_any (ca : Int) (na : Bool) (ta : ByteArray) (ea : Int) (cb : Int) (nb : Bool) (tb : ByteArray) (eb : Int) (m : Int) (w : World) (htab : Tab w) : Calls Tryz.prog 51 #[dcV ca na ta ea, dcV cb nb tb eb, .int .i64 m] w fun e w' => e = .returned (decErr (stepR ca na (bys ta) ea cb nb (bys tb) eb m)) ∧ Below w.heap.size w w' := by
  unfold stepR
  by_cases hb : MayD cb nb (bys tb) eb
  · rw [if_neg (fun g => g hb)]
    by_cases h : MayD ca na (bys ta) ea
    · rw [if_neg (fun g => g h)]
      by_cases h1 : m < 0
      · rw [if_pos (.inl h1)]
        exact Step_mlow ca na ta ea cb nb tb eb m w hb h h1
      · by_cases h2 : 8 ≤ m
        · rw [if_pos (.inr h2)]
          exact Step_mhigh ca na ta ea cb nb tb eb m w hb h h2
        · rw [if_neg (by omega)]
          by_cases hs : StepD cb nb (bys tb)
          · rw [if_neg (fun g => g hs)]
            obtain ⟨rfl, rfl, s3, s4⟩ := hs
            rw [bys_len] at s4
            exact Step_in ca na ta ea tb eb m w hb h (by omega) (by omega) (fun g => s3 ((bys_nil).2 g)) s4 htab
          · rw [if_pos hs]
            refine Step_bad ca na ta ea cb nb tb eb m w hb h (by omega) (by omega) (fun W => ?_)
            by_cases c1 : cb = 0
            · subst c1
              cases nb
              · by_cases c3 : tb.size = 0
                · obtain rfl : tb = ⟨#[]⟩ := by
                    obtain ⟨⟨l⟩⟩ := tb
                    have : l = [] := List.length_eq_zero_iff.1 c3
                    subst this; rfl
                  exact isStep_nil eb W
                · refine isStep_long tb eb W ?_
                  have : ¬ tb.size ≤ 32 := fun g => hs ⟨rfl, rfl, fun e => c3 (bys_nil.1 e), by rw [bys_len]; exact g⟩
                  omega
              · exact isStep_neg tb eb W
            · exact isStep_cls cb nb tb eb W c1
    · rw [if_pos h]
      exact Step_no ca na ta ea cb nb tb eb m w hb h
  · rw [if_pos hb]
    exact Step_bno ca na ta ea cb nb tb eb m w hb

end Go.Proofs.YtckijnlolmbdiaaGreatDoor

namespace Go.Proofs.YtckijnlolmbdiaaGreatDoor
open Go.RowKit

theorem digB_ok {l : List UInt8} (h : l.all (fun b => decide (48 ≤ b.toNat) && decide (b.toNat ≤ 57)) = true) : DigB l := by
  intro k hk
  unfold byt
  rw [List.getElem?_eq_getElem hk]
  have := List.all_eq_true.1 h _ (List.getElem_mem hk)
  simpa using this

theorem tellR_of {neg : Bool} {l : List UInt8} {e : Int} {N : Nat} {d : DecT} (hd : DigB l) (hN : N = decV l) (h : ofD neg l e = d) (hm : May d) : tellF neg N e = (d, 0) := by
  have e1 : finD neg N e = d := by rw [hN, ← ofD_fin neg l e hd]; exact h
  rw [tellF_yes (by rw [e1]; exact hm), e1]

theorem num_any (t : ByteArray) (x : Int) (w : World) : Calls Tryz.prog 49 #[.string t, .int .i64 x] w fun e w' => e = .returned (dcV 0 false t x) ∧ Below w.heap.size w w' := by
  go_enter Tryz.func49, Tryz.ntmps49
  go_wp2
  refine bodyPost_ret (results_dec rfl _ _ _ _ _ _ _ rfl (Blk.new _ _ _)) rfl ?_
  exact ⟨rfl, (Below.refl _ _).alloc (Nat.le_refl _) _⟩

theorem w25 : Fin ⟨0, false, [50, 53], -1⟩ := ⟨rfl, by decide, by decide, by decide, by decide, by decide, by decide, digB_ok rfl⟩
theorem w3 : Fin ⟨0, false, [51], 0⟩ := ⟨rfl, by decide, by decide, by decide, by decide, by decide, by decide, digB_ok rfl⟩
theorem w9995 : Fin ⟨0, false, [57, 57, 57, 53], 0⟩ := ⟨rfl, by decide, by decide, by decide, by decide, by decide, by decide, digB_ok rfl⟩
theorem w14 : Fin ⟨0, false, [49], 4⟩ := ⟨rfl, by decide, by decide, by decide, by decide, by decide, by decide, digB_ok rfl⟩
theorem w12 : Fin ⟨0, false, [49, 50], -1⟩ := ⟨rfl, by decide, by decide, by decide, by decide, by decide, by decide, digB_ok rfl⟩
theorem w5 : Fin ⟨0, false, [53], -1⟩ := ⟨rfl, by decide, by decide, by decide, by decide, by decide, by decide, digB_ok rfl⟩
theorem w1 : Fin ⟨0, false, [49], 0⟩ := ⟨rfl, by decide, by decide, by decide, by decide, by decide, by decide, digB_ok rfl⟩

theorem ra1 : atR 0 false [50, 53] (-1) 0 7 = (⟨0, false, [51], 0⟩, 0) := by
  unfold atR
  rw [if_neg (fun g => g w25.may), if_neg (by decide), if_neg (by decide)]
  unfold rndD
  rw [if_neg (by decide)]
  exact tellR_of (l := [51]) (digB_ok rfl) rfl rfl w3.may
theorem ra2 : digR 0 false [57, 57, 57, 53] 0 3 4 = (⟨0, false, [49], 4⟩, 0) := by
  unfold digR
  rw [if_neg (fun g => g w9995.may), if_neg (by decide), if_neg (by decide)]
  unfold rndD
  rw [if_neg (by decide)]
  exact tellR_of (l := [49, 48, 48, 48]) (digB_ok rfl) rfl rfl w14.may
theorem ra3 : stepR 0 false [49, 50] (-1) 0 false [53] (-1) 4 = (⟨0, false, [49], 0⟩, 0) := by
  unfold stepR
  rw [if_neg (fun g => g w5.may), if_neg (fun g => g w12.may), if_neg (by decide), if_neg (fun g => g ⟨rfl, rfl, by decide, by decide⟩)]
  unfold rndD
  rw [if_neg (by decide)]
  exact tellR_of (l := [49, 48]) (digB_ok rfl) rfl rfl w1.may
theorem ra4 : atR 0 false [49] 0 0 8 = (zeroD, 60) := by
  unfold atR
  rw [if_neg (fun g => g w1.may), if_pos (by decide)]
theorem ra5 : digR 0 false [49] 0 0 0 = (zeroD, 61) := by
  unfold digR
  rw [if_neg (fun g => g w1.may), if_neg (by decide), if_pos (by decide)]
theorem ra6 : stepR 0 false [49] 0 0 false [] 0 0 = (zeroD, 62) := by
  unfold stepR
  rw [if_neg (fun g => g (may_zero false)), if_neg (fun g => g w1.may), if_neg (by decide), if_pos (fun g => g.2.2.1 rfl)]
theorem ra7 : atR 0 false [49, 48] 0 0 0 = (zeroD, 52) := by
  unfold atR
  rw [if_pos]
  rintro (⟨_, ⟨h, _⟩ | ⟨_, _, _, _, _, h, _⟩⟩ | ⟨h, _⟩ | ⟨h, _⟩)
  · cases h
  · exact h rfl
  · cases h
  · cases h

theorem bysm (a : Array UInt8) : bys ⟨a⟩ = a.toList := rfl

theorem rc1 (w : World) (h : Tab w) : Calls Tryz.prog 16 #[dcV 0 false ⟨#[50, 53]⟩ (-1), .int .i64 0, .int .i64 7] w fun e w' => e = .returned (.tuple #[.agg #[.int .i64 0, .bool false, .string ⟨#[51]⟩, .int .i64 0], .int .i64 0]) ∧ Below w.heap.size w w' := by
  have g := At_any 0 false ⟨#[50, 53]⟩ (-1) 0 7 w h
  rw [bysm, ra1] at g
  exact g
theorem rc2 (w : World) (h : Tab w) : Calls Tryz.prog 50 #[dcV 0 false ⟨#[57, 57, 57, 53]⟩ 0, .int .i64 3, .int .i64 4] w fun e w' => e = .returned (.tuple #[.agg #[.int .i64 0, .bool false, .string ⟨#[49]⟩, .int .i64 4], .int .i64 0]) ∧ Below w.heap.size w w' := by
  have g := Digits_any 0 false ⟨#[57, 57, 57, 53]⟩ 0 3 4 w h
  rw [bysm, ra2] at g
  exact g
theorem rc3 (w : World) (h : Tab w) : Calls Tryz.prog 51 #[dcV 0 false ⟨#[49, 50]⟩ (-1), dcV 0 false ⟨#[53]⟩ (-1), .int .i64 4] w fun e w' => e = .returned (.tuple #[.agg #[.int .i64 0, .bool false, .string ⟨#[49]⟩, .int .i64 0], .int .i64 0]) ∧ Below w.heap.size w w' := by
  have g := Step_any 0 false ⟨#[49, 50]⟩ (-1) 0 false ⟨#[53]⟩ (-1) 4 w h
  rw [bysm, bysm, ra3] at g
  exact g
theorem rc4 (w : World) (h : Tab w) : Calls Tryz.prog 16 #[dcV 0 false ⟨#[49]⟩ 0, .int .i64 0, .int .i64 8] w fun e w' => e = .returned (.tuple #[.agg #[.int .i64 0, .bool false, .string ⟨#[]⟩, .int .i64 0], .int .i64 60]) ∧ Below w.heap.size w w' := by
  have g := At_any 0 false ⟨#[49]⟩ 0 0 8 w h
  rw [bysm, ra4] at g
  exact g
theorem rc5 (w : World) (h : Tab w) : Calls Tryz.prog 50 #[dcV 0 false ⟨#[49]⟩ 0, .int .i64 0, .int .i64 0] w fun e w' => e = .returned (.tuple #[.agg #[.int .i64 0, .bool false, .string ⟨#[]⟩, .int .i64 0], .int .i64 61]) ∧ Below w.heap.size w w' := by
  have g := Digits_any 0 false ⟨#[49]⟩ 0 0 0 w h
  rw [bysm, ra5] at g
  exact g
theorem rc6 (w : World) (h : Tab w) : Calls Tryz.prog 51 #[dcV 0 false ⟨#[49]⟩ 0, dcV 0 false ⟨#[]⟩ 0, .int .i64 0] w fun e w' => e = .returned (.tuple #[.agg #[.int .i64 0, .bool false, .string ⟨#[]⟩, .int .i64 0], .int .i64 62]) ∧ Below w.heap.size w w' := by
  have g := Step_any 0 false ⟨#[49]⟩ 0 0 false ⟨#[]⟩ 0 0 w h
  rw [bysm, bysm, ra6] at g
  exact g
theorem rc7 (w : World) (h : Tab w) : Calls Tryz.prog 16 #[dcV 0 false ⟨#[49, 48]⟩ 0, .int .i64 0, .int .i64 0] w fun e w' => e = .returned (.tuple #[.agg #[.int .i64 0, .bool false, .string ⟨#[]⟩, .int .i64 0], .int .i64 52]) ∧ Below w.heap.size w w' := by
  have g := At_any 0 false ⟨#[49, 48]⟩ 0 0 0 w h
  rw [bysm, ra7] at g
  exact g
set_option maxRecDepth 100000 in
set_option maxHeartbeats 4000000 in
theorem rawake_any (w : World) (htab : Tab w) : Calls Tryz.prog 18 #[] w fun e w' => e = .returned (.bool true) ∧ Below w.heap.size w w' := by
  have HT := hide htab
  clear htab
  have HB0 : Hid (Below w.heap.size w w) := Below.refl _ _
  go_enter Tryz.func18, Tryz.ntmps18
  go_wp2_with fail
  refine (num_any _ _ _).mono ?_
  rintro e w1 ⟨rfl, hb⟩
  have HB1 := hide (HB0.out.trans (hb.mono HB0.out.size))
  clear hb  HB0 
  go_wp2_with fail
  refine (rc1 _ (HT.out.below HB1.out)).mono ?_
  rintro e w2 ⟨rfl, hb⟩
  have HB2 := hide (HB1.out.trans (hb.mono HB1.out.size))
  clear hb  HB1 
  have Ba3 := hide ((Blk.newAt w2 (w2.heap.size) (rfl) #[.int .i64 0, .bool false, .string ⟨#[51]⟩, .int .i64 0] 23))
  have HB3 : Hid (Below w.heap.size w (w2.alloc (.cells #[.int .i64 0, .bool false, .string ⟨#[51]⟩, .int .i64 0] 23))) := (HB2.out.alloc HB2.out.size _)
  clear  HB2 
  have ya0 : (w2.alloc (.cells #[.int .i64 0, .bool false, .string ⟨#[51]⟩, .int .i64 0] 23)).cell? ⟨w2.heap.size, 0, none⟩ = some (.int .i64 0) := Ba3.out.cell 0
  have ya1 : (w2.alloc (.cells #[.int .i64 0, .bool false, .string ⟨#[51]⟩, .int .i64 0] 23)).cell? ⟨w2.heap.size, 1, none⟩ = some (.bool false) := Ba3.out.cell 1
  have ya2 : (w2.alloc (.cells #[.int .i64 0, .bool false, .string ⟨#[51]⟩, .int .i64 0] 23)).cell? ⟨w2.heap.size, 2, none⟩ = some (.string ⟨#[51]⟩) := Ba3.out.cell 2
  have ya3 : (w2.alloc (.cells #[.int .i64 0, .bool false, .string ⟨#[51]⟩, .int .i64 0] 23)).cell? ⟨w2.heap.size, 3, none⟩ = some (.int .i64 0) := Ba3.out.cell 3
  go_wp2_with fail
  refine (num_any _ _ _).mono ?_
  rintro e w4 ⟨rfl, hb⟩
  have Ba4 := hide (Ba3.out.below hb Ba3.out.lt)
  have HB4 := hide (HB3.out.trans (hb.mono HB3.out.size))
  clear hb Ba3 HB3 ya0 ya1 ya2 ya3
  have ya0 : w4.cell? ⟨w2.heap.size, 0, none⟩ = some (.int .i64 0) := Ba4.out.cell 0
  have ya1 : w4.cell? ⟨w2.heap.size, 1, none⟩ = some (.bool false) := Ba4.out.cell 1
  have ya2 : w4.cell? ⟨w2.heap.size, 2, none⟩ = some (.string ⟨#[51]⟩) := Ba4.out.cell 2
  have ya3 : w4.cell? ⟨w2.heap.size, 3, none⟩ = some (.int .i64 0) := Ba4.out.cell 3
  go_wp2_with fail
  refine (rc2 _ (HT.out.below HB4.out)).mono ?_
  rintro e w5 ⟨rfl, hb⟩
  have Ba5 := hide (Ba4.out.below hb Ba4.out.lt)
  have HB5 := hide (HB4.out.trans (hb.mono HB4.out.size))
  clear hb Ba4 HB4 ya0 ya1 ya2 ya3
  have ya0 : w5.cell? ⟨w2.heap.size, 0, none⟩ = some (.int .i64 0) := Ba5.out.cell 0
  have ya1 : w5.cell? ⟨w2.heap.size, 1, none⟩ = some (.bool false) := Ba5.out.cell 1
  have ya2 : w5.cell? ⟨w2.heap.size, 2, none⟩ = some (.string ⟨#[51]⟩) := Ba5.out.cell 2
  have ya3 : w5.cell? ⟨w2.heap.size, 3, none⟩ = some (.int .i64 0) := Ba5.out.cell 3
  have Ba6 := hide ((Ba5.out.alloc (.cells #[.int .i64 0, .bool false, .string ⟨#[49]⟩, .int .i64 4] 23)))
  have Bb6 := hide ((Blk.newAt w5 (w5.heap.size) (rfl) #[.int .i64 0, .bool false, .string ⟨#[49]⟩, .int .i64 4] 23))
  have HB6 : Hid (Below w.heap.size w (w5.alloc (.cells #[.int .i64 0, .bool false, .string ⟨#[49]⟩, .int .i64 4] 23))) := (HB5.out.alloc HB5.out.size _)
  clear Ba5 HB5 ya0 ya1 ya2 ya3
  have ya0 : (w5.alloc (.cells #[.int .i64 0, .bool false, .string ⟨#[49]⟩, .int .i64 4] 23)).cell? ⟨w2.heap.size, 0, none⟩ = some (.int .i64 0) := Ba6.out.cell 0
  have ya1 : (w5.alloc (.cells #[.int .i64 0, .bool false, .string ⟨#[49]⟩, .int .i64 4] 23)).cell? ⟨w2.heap.size, 1, none⟩ = some (.bool false) := Ba6.out.cell 1
  have ya2 : (w5.alloc (.cells #[.int .i64 0, .bool false, .string ⟨#[49]⟩, .int .i64 4] 23)).cell? ⟨w2.heap.size, 2, none⟩ = some (.string ⟨#[51]⟩) := Ba6.out.cell 2
  have ya3 : (w5.alloc (.cells #[.int .i64 0, .bool false, .string ⟨#[49]⟩, .int .i64 4] 23)).cell? ⟨w2.heap.size, 3, none⟩ = some (.int .i64 0) := Ba6.out.cell 3
  have yb0 : (w5.alloc (.cells #[.int .i64 0, .bool false, .string ⟨#[49]⟩, .int .i64 4] 23)).cell? ⟨w5.heap.size, 0, none⟩ = some (.int .i64 0) := Bb6.out.cell 0
  have yb1 : (w5.alloc (.cells #[.int .i64 0, .bool false, .string ⟨#[49]⟩, .int .i64 4] 23)).cell? ⟨w5.heap.size, 1, none⟩ = some (.bool false) := Bb6.out.cell 1
  have yb2 : (w5.alloc (.cells #[.int .i64 0, .bool false, .string ⟨#[49]⟩, .int .i64 4] 23)).cell? ⟨w5.heap.size, 2, none⟩ = some (.string ⟨#[49]⟩) := Bb6.out.cell 2
  have yb3 : (w5.alloc (.cells #[.int .i64 0, .bool false, .string ⟨#[49]⟩, .int .i64 4] 23)).cell? ⟨w5.heap.size, 3, none⟩ = some (.int .i64 4) := Bb6.out.cell 3
  go_wp2_with fail
  refine (num_any _ _ _).mono ?_
  rintro e w7 ⟨rfl, hb⟩
  have Ba7 := hide (Ba6.out.below hb Ba6.out.lt)
  have Bb7 := hide (Bb6.out.below hb Bb6.out.lt)
  have HB7 := hide (HB6.out.trans (hb.mono HB6.out.size))
  clear hb Ba6 Bb6 HB6 ya0 ya1 ya2 ya3 yb0 yb1 yb2 yb3
  have ya0 : w7.cell? ⟨w2.heap.size, 0, none⟩ = some (.int .i64 0) := Ba7.out.cell 0
  have ya1 : w7.cell? ⟨w2.heap.size, 1, none⟩ = some (.bool false) := Ba7.out.cell 1
  have ya2 : w7.cell? ⟨w2.heap.size, 2, none⟩ = some (.string ⟨#[51]⟩) := Ba7.out.cell 2
  have ya3 : w7.cell? ⟨w2.heap.size, 3, none⟩ = some (.int .i64 0) := Ba7.out.cell 3
  have yb0 : w7.cell? ⟨w5.heap.size, 0, none⟩ = some (.int .i64 0) := Bb7.out.cell 0
  have yb1 : w7.cell? ⟨w5.heap.size, 1, none⟩ = some (.bool false) := Bb7.out.cell 1
  have yb2 : w7.cell? ⟨w5.heap.size, 2, none⟩ = some (.string ⟨#[49]⟩) := Bb7.out.cell 2
  have yb3 : w7.cell? ⟨w5.heap.size, 3, none⟩ = some (.int .i64 4) := Bb7.out.cell 3
  go_wp2_with fail
  refine (num_any _ _ _).mono ?_
  rintro e w8 ⟨rfl, hb⟩
  have Ba8 := hide (Ba7.out.below hb Ba7.out.lt)
  have Bb8 := hide (Bb7.out.below hb Bb7.out.lt)
  have HB8 := hide (HB7.out.trans (hb.mono HB7.out.size))
  clear hb Ba7 Bb7 HB7 ya0 ya1 ya2 ya3 yb0 yb1 yb2 yb3
  have ya0 : w8.cell? ⟨w2.heap.size, 0, none⟩ = some (.int .i64 0) := Ba8.out.cell 0
  have ya1 : w8.cell? ⟨w2.heap.size, 1, none⟩ = some (.bool false) := Ba8.out.cell 1
  have ya2 : w8.cell? ⟨w2.heap.size, 2, none⟩ = some (.string ⟨#[51]⟩) := Ba8.out.cell 2
  have ya3 : w8.cell? ⟨w2.heap.size, 3, none⟩ = some (.int .i64 0) := Ba8.out.cell 3
  have yb0 : w8.cell? ⟨w5.heap.size, 0, none⟩ = some (.int .i64 0) := Bb8.out.cell 0
  have yb1 : w8.cell? ⟨w5.heap.size, 1, none⟩ = some (.bool false) := Bb8.out.cell 1
  have yb2 : w8.cell? ⟨w5.heap.size, 2, none⟩ = some (.string ⟨#[49]⟩) := Bb8.out.cell 2
  have yb3 : w8.cell? ⟨w5.heap.size, 3, none⟩ = some (.int .i64 4) := Bb8.out.cell 3
  go_wp2_with fail
  refine (rc3 _ (HT.out.below HB8.out)).mono ?_
  rintro e w9 ⟨rfl, hb⟩
  have Ba9 := hide (Ba8.out.below hb Ba8.out.lt)
  have Bb9 := hide (Bb8.out.below hb Bb8.out.lt)
  have HB9 := hide (HB8.out.trans (hb.mono HB8.out.size))
  clear hb Ba8 Bb8 HB8 ya0 ya1 ya2 ya3 yb0 yb1 yb2 yb3
  have ya0 : w9.cell? ⟨w2.heap.size, 0, none⟩ = some (.int .i64 0) := Ba9.out.cell 0
  have ya1 : w9.cell? ⟨w2.heap.size, 1, none⟩ = some (.bool false) := Ba9.out.cell 1
  have ya2 : w9.cell? ⟨w2.heap.size, 2, none⟩ = some (.string ⟨#[51]⟩) := Ba9.out.cell 2
  have ya3 : w9.cell? ⟨w2.heap.size, 3, none⟩ = some (.int .i64 0) := Ba9.out.cell 3
  have yb0 : w9.cell? ⟨w5.heap.size, 0, none⟩ = some (.int .i64 0) := Bb9.out.cell 0
  have yb1 : w9.cell? ⟨w5.heap.size, 1, none⟩ = some (.bool false) := Bb9.out.cell 1
  have yb2 : w9.cell? ⟨w5.heap.size, 2, none⟩ = some (.string ⟨#[49]⟩) := Bb9.out.cell 2
  have yb3 : w9.cell? ⟨w5.heap.size, 3, none⟩ = some (.int .i64 4) := Bb9.out.cell 3
  have Ba10 := hide ((Ba9.out.alloc (.cells #[.int .i64 0, .bool false, .string ⟨#[49]⟩, .int .i64 0] 23)))
  have Bb10 := hide ((Bb9.out.alloc (.cells #[.int .i64 0, .bool false, .string ⟨#[49]⟩, .int .i64 0] 23)))
  have Bc10 := hide ((Blk.newAt w9 (w9.heap.size) (rfl) #[.int .i64 0, .bool false, .string ⟨#[49]⟩, .int .i64 0] 23))
  have HB10 : Hid (Below w.heap.size w (w9.alloc (.cells #[.int .i64 0, .bool false, .string ⟨#[49]⟩, .int .i64 0] 23))) := (HB9.out.alloc HB9.out.size _)
  clear Ba9 Bb9 HB9 ya0 ya1 ya2 ya3 yb0 yb1 yb2 yb3
  have ya0 : (w9.alloc (.cells #[.int .i64 0, .bool false, .string ⟨#[49]⟩, .int .i64 0] 23)).cell? ⟨w2.heap.size, 0, none⟩ = some (.int .i64 0) := Ba10.out.cell 0
  have ya1 : (w9.alloc (.cells #[.int .i64 0, .bool false, .string ⟨#[49]⟩, .int .i64 0] 23)).cell? ⟨w2.heap.size, 1, none⟩ = some (.bool false) := Ba10.out.cell 1
  have ya2 : (w9.alloc (.cells #[.int .i64 0, .bool false, .string ⟨#[49]⟩, .int .i64 0] 23)).cell? ⟨w2.heap.size, 2, none⟩ = some (.string ⟨#[51]⟩) := Ba10.out.cell 2
  have ya3 : (w9.alloc (.cells #[.int .i64 0, .bool false, .string ⟨#[49]⟩, .int .i64 0] 23)).cell? ⟨w2.heap.size, 3, none⟩ = some (.int .i64 0) := Ba10.out.cell 3
  have yb0 : (w9.alloc (.cells #[.int .i64 0, .bool false, .string ⟨#[49]⟩, .int .i64 0] 23)).cell? ⟨w5.heap.size, 0, none⟩ = some (.int .i64 0) := Bb10.out.cell 0
  have yb1 : (w9.alloc (.cells #[.int .i64 0, .bool false, .string ⟨#[49]⟩, .int .i64 0] 23)).cell? ⟨w5.heap.size, 1, none⟩ = some (.bool false) := Bb10.out.cell 1
  have yb2 : (w9.alloc (.cells #[.int .i64 0, .bool false, .string ⟨#[49]⟩, .int .i64 0] 23)).cell? ⟨w5.heap.size, 2, none⟩ = some (.string ⟨#[49]⟩) := Bb10.out.cell 2
  have yb3 : (w9.alloc (.cells #[.int .i64 0, .bool false, .string ⟨#[49]⟩, .int .i64 0] 23)).cell? ⟨w5.heap.size, 3, none⟩ = some (.int .i64 4) := Bb10.out.cell 3
  have yc0 : (w9.alloc (.cells #[.int .i64 0, .bool false, .string ⟨#[49]⟩, .int .i64 0] 23)).cell? ⟨w9.heap.size, 0, none⟩ = some (.int .i64 0) := Bc10.out.cell 0
  have yc1 : (w9.alloc (.cells #[.int .i64 0, .bool false, .string ⟨#[49]⟩, .int .i64 0] 23)).cell? ⟨w9.heap.size, 1, none⟩ = some (.bool false) := Bc10.out.cell 1
  have yc2 : (w9.alloc (.cells #[.int .i64 0, .bool false, .string ⟨#[49]⟩, .int .i64 0] 23)).cell? ⟨w9.heap.size, 2, none⟩ = some (.string ⟨#[49]⟩) := Bc10.out.cell 2
  have yc3 : (w9.alloc (.cells #[.int .i64 0, .bool false, .string ⟨#[49]⟩, .int .i64 0] 23)).cell? ⟨w9.heap.size, 3, none⟩ = some (.int .i64 0) := Bc10.out.cell 3
  go_wp2_with fail
  refine (num_any _ _ _).mono ?_
  rintro e w11 ⟨rfl, hb⟩
  have Ba11 := hide (Ba10.out.below hb Ba10.out.lt)
  have Bb11 := hide (Bb10.out.below hb Bb10.out.lt)
  have Bc11 := hide (Bc10.out.below hb Bc10.out.lt)
  have HB11 := hide (HB10.out.trans (hb.mono HB10.out.size))
  clear hb Ba10 Bb10 Bc10 HB10 ya0 ya1 ya2 ya3 yb0 yb1 yb2 yb3 yc0 yc1 yc2 yc3
  have ya0 : w11.cell? ⟨w2.heap.size, 0, none⟩ = some (.int .i64 0) := Ba11.out.cell 0
  have ya1 : w11.cell? ⟨w2.heap.size, 1, none⟩ = some (.bool false) := Ba11.out.cell 1
  have ya2 : w11.cell? ⟨w2.heap.size, 2, none⟩ = some (.string ⟨#[51]⟩) := Ba11.out.cell 2
  have ya3 : w11.cell? ⟨w2.heap.size, 3, none⟩ = some (.int .i64 0) := Ba11.out.cell 3
  have yb0 : w11.cell? ⟨w5.heap.size, 0, none⟩ = some (.int .i64 0) := Bb11.out.cell 0
  have yb1 : w11.cell? ⟨w5.heap.size, 1, none⟩ = some (.bool false) := Bb11.out.cell 1
  have yb2 : w11.cell? ⟨w5.heap.size, 2, none⟩ = some (.string ⟨#[49]⟩) := Bb11.out.cell 2
  have yb3 : w11.cell? ⟨w5.heap.size, 3, none⟩ = some (.int .i64 4) := Bb11.out.cell 3
  have yc0 : w11.cell? ⟨w9.heap.size, 0, none⟩ = some (.int .i64 0) := Bc11.out.cell 0
  have yc1 : w11.cell? ⟨w9.heap.size, 1, none⟩ = some (.bool false) := Bc11.out.cell 1
  have yc2 : w11.cell? ⟨w9.heap.size, 2, none⟩ = some (.string ⟨#[49]⟩) := Bc11.out.cell 2
  have yc3 : w11.cell? ⟨w9.heap.size, 3, none⟩ = some (.int .i64 0) := Bc11.out.cell 3
  go_wp2_with fail
  refine (rc4 _ (HT.out.below HB11.out)).mono ?_
  rintro e w12 ⟨rfl, hb⟩
  have Ba12 := hide (Ba11.out.below hb Ba11.out.lt)
  have Bb12 := hide (Bb11.out.below hb Bb11.out.lt)
  have Bc12 := hide (Bc11.out.below hb Bc11.out.lt)
  have HB12 := hide (HB11.out.trans (hb.mono HB11.out.size))
  clear hb Ba11 Bb11 Bc11 HB11 ya0 ya1 ya2 ya3 yb0 yb1 yb2 yb3 yc0 yc1 yc2 yc3
  have ya0 : w12.cell? ⟨w2.heap.size, 0, none⟩ = some (.int .i64 0) := Ba12.out.cell 0
  have ya1 : w12.cell? ⟨w2.heap.size, 1, none⟩ = some (.bool false) := Ba12.out.cell 1
  have ya2 : w12.cell? ⟨w2.heap.size, 2, none⟩ = some (.string ⟨#[51]⟩) := Ba12.out.cell 2
  have ya3 : w12.cell? ⟨w2.heap.size, 3, none⟩ = some (.int .i64 0) := Ba12.out.cell 3
  have yb0 : w12.cell? ⟨w5.heap.size, 0, none⟩ = some (.int .i64 0) := Bb12.out.cell 0
  have yb1 : w12.cell? ⟨w5.heap.size, 1, none⟩ = some (.bool false) := Bb12.out.cell 1
  have yb2 : w12.cell? ⟨w5.heap.size, 2, none⟩ = some (.string ⟨#[49]⟩) := Bb12.out.cell 2
  have yb3 : w12.cell? ⟨w5.heap.size, 3, none⟩ = some (.int .i64 4) := Bb12.out.cell 3
  have yc0 : w12.cell? ⟨w9.heap.size, 0, none⟩ = some (.int .i64 0) := Bc12.out.cell 0
  have yc1 : w12.cell? ⟨w9.heap.size, 1, none⟩ = some (.bool false) := Bc12.out.cell 1
  have yc2 : w12.cell? ⟨w9.heap.size, 2, none⟩ = some (.string ⟨#[49]⟩) := Bc12.out.cell 2
  have yc3 : w12.cell? ⟨w9.heap.size, 3, none⟩ = some (.int .i64 0) := Bc12.out.cell 3
  have Ba13 := hide ((Ba12.out.alloc (.cells #[.int .i64 0, .bool false, .string ⟨#[]⟩, .int .i64 0] 23)))
  have Bb13 := hide ((Bb12.out.alloc (.cells #[.int .i64 0, .bool false, .string ⟨#[]⟩, .int .i64 0] 23)))
  have Bc13 := hide ((Bc12.out.alloc (.cells #[.int .i64 0, .bool false, .string ⟨#[]⟩, .int .i64 0] 23)))
  have Bz413 := hide ((Blk.newAt w12 (w12.heap.size) (rfl) #[.int .i64 0, .bool false, .string ⟨#[]⟩, .int .i64 0] 23))
  have HB13 : Hid (Below w.heap.size w (w12.alloc (.cells #[.int .i64 0, .bool false, .string ⟨#[]⟩, .int .i64 0] 23))) := (HB12.out.alloc HB12.out.size _)
  clear Ba12 Bb12 Bc12 HB12 ya0 ya1 ya2 ya3 yb0 yb1 yb2 yb3 yc0 yc1 yc2 yc3
  have ya0 : (w12.alloc (.cells #[.int .i64 0, .bool false, .string ⟨#[]⟩, .int .i64 0] 23)).cell? ⟨w2.heap.size, 0, none⟩ = some (.int .i64 0) := Ba13.out.cell 0
  have ya1 : (w12.alloc (.cells #[.int .i64 0, .bool false, .string ⟨#[]⟩, .int .i64 0] 23)).cell? ⟨w2.heap.size, 1, none⟩ = some (.bool false) := Ba13.out.cell 1
  have ya2 : (w12.alloc (.cells #[.int .i64 0, .bool false, .string ⟨#[]⟩, .int .i64 0] 23)).cell? ⟨w2.heap.size, 2, none⟩ = some (.string ⟨#[51]⟩) := Ba13.out.cell 2
  have ya3 : (w12.alloc (.cells #[.int .i64 0, .bool false, .string ⟨#[]⟩, .int .i64 0] 23)).cell? ⟨w2.heap.size, 3, none⟩ = some (.int .i64 0) := Ba13.out.cell 3
  have yb0 : (w12.alloc (.cells #[.int .i64 0, .bool false, .string ⟨#[]⟩, .int .i64 0] 23)).cell? ⟨w5.heap.size, 0, none⟩ = some (.int .i64 0) := Bb13.out.cell 0
  have yb1 : (w12.alloc (.cells #[.int .i64 0, .bool false, .string ⟨#[]⟩, .int .i64 0] 23)).cell? ⟨w5.heap.size, 1, none⟩ = some (.bool false) := Bb13.out.cell 1
  have yb2 : (w12.alloc (.cells #[.int .i64 0, .bool false, .string ⟨#[]⟩, .int .i64 0] 23)).cell? ⟨w5.heap.size, 2, none⟩ = some (.string ⟨#[49]⟩) := Bb13.out.cell 2
  have yb3 : (w12.alloc (.cells #[.int .i64 0, .bool false, .string ⟨#[]⟩, .int .i64 0] 23)).cell? ⟨w5.heap.size, 3, none⟩ = some (.int .i64 4) := Bb13.out.cell 3
  have yc0 : (w12.alloc (.cells #[.int .i64 0, .bool false, .string ⟨#[]⟩, .int .i64 0] 23)).cell? ⟨w9.heap.size, 0, none⟩ = some (.int .i64 0) := Bc13.out.cell 0
  have yc1 : (w12.alloc (.cells #[.int .i64 0, .bool false, .string ⟨#[]⟩, .int .i64 0] 23)).cell? ⟨w9.heap.size, 1, none⟩ = some (.bool false) := Bc13.out.cell 1
  have yc2 : (w12.alloc (.cells #[.int .i64 0, .bool false, .string ⟨#[]⟩, .int .i64 0] 23)).cell? ⟨w9.heap.size, 2, none⟩ = some (.string ⟨#[49]⟩) := Bc13.out.cell 2
  have yc3 : (w12.alloc (.cells #[.int .i64 0, .bool false, .string ⟨#[]⟩, .int .i64 0] 23)).cell? ⟨w9.heap.size, 3, none⟩ = some (.int .i64 0) := Bc13.out.cell 3
  have yz40 : (w12.alloc (.cells #[.int .i64 0, .bool false, .string ⟨#[]⟩, .int .i64 0] 23)).cell? ⟨w12.heap.size, 0, none⟩ = some (.int .i64 0) := Bz413.out.cell 0
  have yz41 : (w12.alloc (.cells #[.int .i64 0, .bool false, .string ⟨#[]⟩, .int .i64 0] 23)).cell? ⟨w12.heap.size, 1, none⟩ = some (.bool false) := Bz413.out.cell 1
  have yz42 : (w12.alloc (.cells #[.int .i64 0, .bool false, .string ⟨#[]⟩, .int .i64 0] 23)).cell? ⟨w12.heap.size, 2, none⟩ = some (.string ⟨#[]⟩) := Bz413.out.cell 2
  have yz43 : (w12.alloc (.cells #[.int .i64 0, .bool false, .string ⟨#[]⟩, .int .i64 0] 23)).cell? ⟨w12.heap.size, 3, none⟩ = some (.int .i64 0) := Bz413.out.cell 3
  go_wp2_with fail
  refine (num_any _ _ _).mono ?_
  rintro e w14 ⟨rfl, hb⟩
  have Ba14 := hide (Ba13.out.below hb Ba13.out.lt)
  have Bb14 := hide (Bb13.out.below hb Bb13.out.lt)
  have Bc14 := hide (Bc13.out.below hb Bc13.out.lt)
  have Bz414 := hide (Bz413.out.below hb Bz413.out.lt)
  have HB14 := hide (HB13.out.trans (hb.mono HB13.out.size))
  clear hb Ba13 Bb13 Bc13 Bz413 HB13 ya0 ya1 ya2 ya3 yb0 yb1 yb2 yb3 yc0 yc1 yc2 yc3 yz40 yz41 yz42 yz43
  have ya0 : w14.cell? ⟨w2.heap.size, 0, none⟩ = some (.int .i64 0) := Ba14.out.cell 0
  have ya1 : w14.cell? ⟨w2.heap.size, 1, none⟩ = some (.bool false) := Ba14.out.cell 1
  have ya2 : w14.cell? ⟨w2.heap.size, 2, none⟩ = some (.string ⟨#[51]⟩) := Ba14.out.cell 2
  have ya3 : w14.cell? ⟨w2.heap.size, 3, none⟩ = some (.int .i64 0) := Ba14.out.cell 3
  have yb0 : w14.cell? ⟨w5.heap.size, 0, none⟩ = some (.int .i64 0) := Bb14.out.cell 0
  have yb1 : w14.cell? ⟨w5.heap.size, 1, none⟩ = some (.bool false) := Bb14.out.cell 1
  have yb2 : w14.cell? ⟨w5.heap.size, 2, none⟩ = some (.string ⟨#[49]⟩) := Bb14.out.cell 2
  have yb3 : w14.cell? ⟨w5.heap.size, 3, none⟩ = some (.int .i64 4) := Bb14.out.cell 3
  have yc0 : w14.cell? ⟨w9.heap.size, 0, none⟩ = some (.int .i64 0) := Bc14.out.cell 0
  have yc1 : w14.cell? ⟨w9.heap.size, 1, none⟩ = some (.bool false) := Bc14.out.cell 1
  have yc2 : w14.cell? ⟨w9.heap.size, 2, none⟩ = some (.string ⟨#[49]⟩) := Bc14.out.cell 2
  have yc3 : w14.cell? ⟨w9.heap.size, 3, none⟩ = some (.int .i64 0) := Bc14.out.cell 3
  have yz40 : w14.cell? ⟨w12.heap.size, 0, none⟩ = some (.int .i64 0) := Bz414.out.cell 0
  have yz41 : w14.cell? ⟨w12.heap.size, 1, none⟩ = some (.bool false) := Bz414.out.cell 1
  have yz42 : w14.cell? ⟨w12.heap.size, 2, none⟩ = some (.string ⟨#[]⟩) := Bz414.out.cell 2
  have yz43 : w14.cell? ⟨w12.heap.size, 3, none⟩ = some (.int .i64 0) := Bz414.out.cell 3
  go_wp2_with fail
  refine (rc5 _ (HT.out.below HB14.out)).mono ?_
  rintro e w15 ⟨rfl, hb⟩
  have Ba15 := hide (Ba14.out.below hb Ba14.out.lt)
  have Bb15 := hide (Bb14.out.below hb Bb14.out.lt)
  have Bc15 := hide (Bc14.out.below hb Bc14.out.lt)
  have Bz415 := hide (Bz414.out.below hb Bz414.out.lt)
  have HB15 := hide (HB14.out.trans (hb.mono HB14.out.size))
  clear hb Ba14 Bb14 Bc14 Bz414 HB14 ya0 ya1 ya2 ya3 yb0 yb1 yb2 yb3 yc0 yc1 yc2 yc3 yz40 yz41 yz42 yz43
  have ya0 : w15.cell? ⟨w2.heap.size, 0, none⟩ = some (.int .i64 0) := Ba15.out.cell 0
  have ya1 : w15.cell? ⟨w2.heap.size, 1, none⟩ = some (.bool false) := Ba15.out.cell 1
  have ya2 : w15.cell? ⟨w2.heap.size, 2, none⟩ = some (.string ⟨#[51]⟩) := Ba15.out.cell 2
  have ya3 : w15.cell? ⟨w2.heap.size, 3, none⟩ = some (.int .i64 0) := Ba15.out.cell 3
  have yb0 : w15.cell? ⟨w5.heap.size, 0, none⟩ = some (.int .i64 0) := Bb15.out.cell 0
  have yb1 : w15.cell? ⟨w5.heap.size, 1, none⟩ = some (.bool false) := Bb15.out.cell 1
  have yb2 : w15.cell? ⟨w5.heap.size, 2, none⟩ = some (.string ⟨#[49]⟩) := Bb15.out.cell 2
  have yb3 : w15.cell? ⟨w5.heap.size, 3, none⟩ = some (.int .i64 4) := Bb15.out.cell 3
  have yc0 : w15.cell? ⟨w9.heap.size, 0, none⟩ = some (.int .i64 0) := Bc15.out.cell 0
  have yc1 : w15.cell? ⟨w9.heap.size, 1, none⟩ = some (.bool false) := Bc15.out.cell 1
  have yc2 : w15.cell? ⟨w9.heap.size, 2, none⟩ = some (.string ⟨#[49]⟩) := Bc15.out.cell 2
  have yc3 : w15.cell? ⟨w9.heap.size, 3, none⟩ = some (.int .i64 0) := Bc15.out.cell 3
  have yz40 : w15.cell? ⟨w12.heap.size, 0, none⟩ = some (.int .i64 0) := Bz415.out.cell 0
  have yz41 : w15.cell? ⟨w12.heap.size, 1, none⟩ = some (.bool false) := Bz415.out.cell 1
  have yz42 : w15.cell? ⟨w12.heap.size, 2, none⟩ = some (.string ⟨#[]⟩) := Bz415.out.cell 2
  have yz43 : w15.cell? ⟨w12.heap.size, 3, none⟩ = some (.int .i64 0) := Bz415.out.cell 3
  have Ba16 := hide ((Ba15.out.alloc (.cells #[.int .i64 0, .bool false, .string ⟨#[]⟩, .int .i64 0] 23)))
  have Bb16 := hide ((Bb15.out.alloc (.cells #[.int .i64 0, .bool false, .string ⟨#[]⟩, .int .i64 0] 23)))
  have Bc16 := hide ((Bc15.out.alloc (.cells #[.int .i64 0, .bool false, .string ⟨#[]⟩, .int .i64 0] 23)))
  have Bz416 := hide ((Bz415.out.alloc (.cells #[.int .i64 0, .bool false, .string ⟨#[]⟩, .int .i64 0] 23)))
  have Bz516 := hide ((Blk.newAt w15 (w15.heap.size) (rfl) #[.int .i64 0, .bool false, .string ⟨#[]⟩, .int .i64 0] 23))
  have HB16 : Hid (Below w.heap.size w (w15.alloc (.cells #[.int .i64 0, .bool false, .string ⟨#[]⟩, .int .i64 0] 23))) := (HB15.out.alloc HB15.out.size _)
  clear Ba15 Bb15 Bc15 Bz415 HB15 ya0 ya1 ya2 ya3 yb0 yb1 yb2 yb3 yc0 yc1 yc2 yc3 yz40 yz41 yz42 yz43
  have ya0 : (w15.alloc (.cells #[.int .i64 0, .bool false, .string ⟨#[]⟩, .int .i64 0] 23)).cell? ⟨w2.heap.size, 0, none⟩ = some (.int .i64 0) := Ba16.out.cell 0
  have ya1 : (w15.alloc (.cells #[.int .i64 0, .bool false, .string ⟨#[]⟩, .int .i64 0] 23)).cell? ⟨w2.heap.size, 1, none⟩ = some (.bool false) := Ba16.out.cell 1
  have ya2 : (w15.alloc (.cells #[.int .i64 0, .bool false, .string ⟨#[]⟩, .int .i64 0] 23)).cell? ⟨w2.heap.size, 2, none⟩ = some (.string ⟨#[51]⟩) := Ba16.out.cell 2
  have ya3 : (w15.alloc (.cells #[.int .i64 0, .bool false, .string ⟨#[]⟩, .int .i64 0] 23)).cell? ⟨w2.heap.size, 3, none⟩ = some (.int .i64 0) := Ba16.out.cell 3
  have yb0 : (w15.alloc (.cells #[.int .i64 0, .bool false, .string ⟨#[]⟩, .int .i64 0] 23)).cell? ⟨w5.heap.size, 0, none⟩ = some (.int .i64 0) := Bb16.out.cell 0
  have yb1 : (w15.alloc (.cells #[.int .i64 0, .bool false, .string ⟨#[]⟩, .int .i64 0] 23)).cell? ⟨w5.heap.size, 1, none⟩ = some (.bool false) := Bb16.out.cell 1
  have yb2 : (w15.alloc (.cells #[.int .i64 0, .bool false, .string ⟨#[]⟩, .int .i64 0] 23)).cell? ⟨w5.heap.size, 2, none⟩ = some (.string ⟨#[49]⟩) := Bb16.out.cell 2
  have yb3 : (w15.alloc (.cells #[.int .i64 0, .bool false, .string ⟨#[]⟩, .int .i64 0] 23)).cell? ⟨w5.heap.size, 3, none⟩ = some (.int .i64 4) := Bb16.out.cell 3
  have yc0 : (w15.alloc (.cells #[.int .i64 0, .bool false, .string ⟨#[]⟩, .int .i64 0] 23)).cell? ⟨w9.heap.size, 0, none⟩ = some (.int .i64 0) := Bc16.out.cell 0
  have yc1 : (w15.alloc (.cells #[.int .i64 0, .bool false, .string ⟨#[]⟩, .int .i64 0] 23)).cell? ⟨w9.heap.size, 1, none⟩ = some (.bool false) := Bc16.out.cell 1
  have yc2 : (w15.alloc (.cells #[.int .i64 0, .bool false, .string ⟨#[]⟩, .int .i64 0] 23)).cell? ⟨w9.heap.size, 2, none⟩ = some (.string ⟨#[49]⟩) := Bc16.out.cell 2
  have yc3 : (w15.alloc (.cells #[.int .i64 0, .bool false, .string ⟨#[]⟩, .int .i64 0] 23)).cell? ⟨w9.heap.size, 3, none⟩ = some (.int .i64 0) := Bc16.out.cell 3
  have yz40 : (w15.alloc (.cells #[.int .i64 0, .bool false, .string ⟨#[]⟩, .int .i64 0] 23)).cell? ⟨w12.heap.size, 0, none⟩ = some (.int .i64 0) := Bz416.out.cell 0
  have yz41 : (w15.alloc (.cells #[.int .i64 0, .bool false, .string ⟨#[]⟩, .int .i64 0] 23)).cell? ⟨w12.heap.size, 1, none⟩ = some (.bool false) := Bz416.out.cell 1
  have yz42 : (w15.alloc (.cells #[.int .i64 0, .bool false, .string ⟨#[]⟩, .int .i64 0] 23)).cell? ⟨w12.heap.size, 2, none⟩ = some (.string ⟨#[]⟩) := Bz416.out.cell 2
  have yz43 : (w15.alloc (.cells #[.int .i64 0, .bool false, .string ⟨#[]⟩, .int .i64 0] 23)).cell? ⟨w12.heap.size, 3, none⟩ = some (.int .i64 0) := Bz416.out.cell 3
  have yz50 : (w15.alloc (.cells #[.int .i64 0, .bool false, .string ⟨#[]⟩, .int .i64 0] 23)).cell? ⟨w15.heap.size, 0, none⟩ = some (.int .i64 0) := Bz516.out.cell 0
  have yz51 : (w15.alloc (.cells #[.int .i64 0, .bool false, .string ⟨#[]⟩, .int .i64 0] 23)).cell? ⟨w15.heap.size, 1, none⟩ = some (.bool false) := Bz516.out.cell 1
  have yz52 : (w15.alloc (.cells #[.int .i64 0, .bool false, .string ⟨#[]⟩, .int .i64 0] 23)).cell? ⟨w15.heap.size, 2, none⟩ = some (.string ⟨#[]⟩) := Bz516.out.cell 2
  have yz53 : (w15.alloc (.cells #[.int .i64 0, .bool false, .string ⟨#[]⟩, .int .i64 0] 23)).cell? ⟨w15.heap.size, 3, none⟩ = some (.int .i64 0) := Bz516.out.cell 3
  go_wp2_with fail
  refine (num_any _ _ _).mono ?_
  rintro e w17 ⟨rfl, hb⟩
  have Ba17 := hide (Ba16.out.below hb Ba16.out.lt)
  have Bb17 := hide (Bb16.out.below hb Bb16.out.lt)
  have Bc17 := hide (Bc16.out.below hb Bc16.out.lt)
  have Bz417 := hide (Bz416.out.below hb Bz416.out.lt)
  have Bz517 := hide (Bz516.out.below hb Bz516.out.lt)
  have HB17 := hide (HB16.out.trans (hb.mono HB16.out.size))
  clear hb Ba16 Bb16 Bc16 Bz416 Bz516 HB16 ya0 ya1 ya2 ya3 yb0 yb1 yb2 yb3 yc0 yc1 yc2 yc3 yz40 yz41 yz42 yz43 yz50 yz51 yz52 yz53
  have ya0 : w17.cell? ⟨w2.heap.size, 0, none⟩ = some (.int .i64 0) := Ba17.out.cell 0
  have ya1 : w17.cell? ⟨w2.heap.size, 1, none⟩ = some (.bool false) := Ba17.out.cell 1
  have ya2 : w17.cell? ⟨w2.heap.size, 2, none⟩ = some (.string ⟨#[51]⟩) := Ba17.out.cell 2
  have ya3 : w17.cell? ⟨w2.heap.size, 3, none⟩ = some (.int .i64 0) := Ba17.out.cell 3
  have yb0 : w17.cell? ⟨w5.heap.size, 0, none⟩ = some (.int .i64 0) := Bb17.out.cell 0
  have yb1 : w17.cell? ⟨w5.heap.size, 1, none⟩ = some (.bool false) := Bb17.out.cell 1
  have yb2 : w17.cell? ⟨w5.heap.size, 2, none⟩ = some (.string ⟨#[49]⟩) := Bb17.out.cell 2
  have yb3 : w17.cell? ⟨w5.heap.size, 3, none⟩ = some (.int .i64 4) := Bb17.out.cell 3
  have yc0 : w17.cell? ⟨w9.heap.size, 0, none⟩ = some (.int .i64 0) := Bc17.out.cell 0
  have yc1 : w17.cell? ⟨w9.heap.size, 1, none⟩ = some (.bool false) := Bc17.out.cell 1
  have yc2 : w17.cell? ⟨w9.heap.size, 2, none⟩ = some (.string ⟨#[49]⟩) := Bc17.out.cell 2
  have yc3 : w17.cell? ⟨w9.heap.size, 3, none⟩ = some (.int .i64 0) := Bc17.out.cell 3
  have yz40 : w17.cell? ⟨w12.heap.size, 0, none⟩ = some (.int .i64 0) := Bz417.out.cell 0
  have yz41 : w17.cell? ⟨w12.heap.size, 1, none⟩ = some (.bool false) := Bz417.out.cell 1
  have yz42 : w17.cell? ⟨w12.heap.size, 2, none⟩ = some (.string ⟨#[]⟩) := Bz417.out.cell 2
  have yz43 : w17.cell? ⟨w12.heap.size, 3, none⟩ = some (.int .i64 0) := Bz417.out.cell 3
  have yz50 : w17.cell? ⟨w15.heap.size, 0, none⟩ = some (.int .i64 0) := Bz517.out.cell 0
  have yz51 : w17.cell? ⟨w15.heap.size, 1, none⟩ = some (.bool false) := Bz517.out.cell 1
  have yz52 : w17.cell? ⟨w15.heap.size, 2, none⟩ = some (.string ⟨#[]⟩) := Bz517.out.cell 2
  have yz53 : w17.cell? ⟨w15.heap.size, 3, none⟩ = some (.int .i64 0) := Bz517.out.cell 3
  go_wp2_with fail
  refine (rc6 _ (HT.out.below HB17.out)).mono ?_
  rintro e w18 ⟨rfl, hb⟩
  have Ba18 := hide (Ba17.out.below hb Ba17.out.lt)
  have Bb18 := hide (Bb17.out.below hb Bb17.out.lt)
  have Bc18 := hide (Bc17.out.below hb Bc17.out.lt)
  have Bz418 := hide (Bz417.out.below hb Bz417.out.lt)
  have Bz518 := hide (Bz517.out.below hb Bz517.out.lt)
  have HB18 := hide (HB17.out.trans (hb.mono HB17.out.size))
  clear hb Ba17 Bb17 Bc17 Bz417 Bz517 HB17 ya0 ya1 ya2 ya3 yb0 yb1 yb2 yb3 yc0 yc1 yc2 yc3 yz40 yz41 yz42 yz43 yz50 yz51 yz52 yz53
  have ya0 : w18.cell? ⟨w2.heap.size, 0, none⟩ = some (.int .i64 0) := Ba18.out.cell 0
  have ya1 : w18.cell? ⟨w2.heap.size, 1, none⟩ = some (.bool false) := Ba18.out.cell 1
  have ya2 : w18.cell? ⟨w2.heap.size, 2, none⟩ = some (.string ⟨#[51]⟩) := Ba18.out.cell 2
  have ya3 : w18.cell? ⟨w2.heap.size, 3, none⟩ = some (.int .i64 0) := Ba18.out.cell 3
  have yb0 : w18.cell? ⟨w5.heap.size, 0, none⟩ = some (.int .i64 0) := Bb18.out.cell 0
  have yb1 : w18.cell? ⟨w5.heap.size, 1, none⟩ = some (.bool false) := Bb18.out.cell 1
  have yb2 : w18.cell? ⟨w5.heap.size, 2, none⟩ = some (.string ⟨#[49]⟩) := Bb18.out.cell 2
  have yb3 : w18.cell? ⟨w5.heap.size, 3, none⟩ = some (.int .i64 4) := Bb18.out.cell 3
  have yc0 : w18.cell? ⟨w9.heap.size, 0, none⟩ = some (.int .i64 0) := Bc18.out.cell 0
  have yc1 : w18.cell? ⟨w9.heap.size, 1, none⟩ = some (.bool false) := Bc18.out.cell 1
  have yc2 : w18.cell? ⟨w9.heap.size, 2, none⟩ = some (.string ⟨#[49]⟩) := Bc18.out.cell 2
  have yc3 : w18.cell? ⟨w9.heap.size, 3, none⟩ = some (.int .i64 0) := Bc18.out.cell 3
  have yz40 : w18.cell? ⟨w12.heap.size, 0, none⟩ = some (.int .i64 0) := Bz418.out.cell 0
  have yz41 : w18.cell? ⟨w12.heap.size, 1, none⟩ = some (.bool false) := Bz418.out.cell 1
  have yz42 : w18.cell? ⟨w12.heap.size, 2, none⟩ = some (.string ⟨#[]⟩) := Bz418.out.cell 2
  have yz43 : w18.cell? ⟨w12.heap.size, 3, none⟩ = some (.int .i64 0) := Bz418.out.cell 3
  have yz50 : w18.cell? ⟨w15.heap.size, 0, none⟩ = some (.int .i64 0) := Bz518.out.cell 0
  have yz51 : w18.cell? ⟨w15.heap.size, 1, none⟩ = some (.bool false) := Bz518.out.cell 1
  have yz52 : w18.cell? ⟨w15.heap.size, 2, none⟩ = some (.string ⟨#[]⟩) := Bz518.out.cell 2
  have yz53 : w18.cell? ⟨w15.heap.size, 3, none⟩ = some (.int .i64 0) := Bz518.out.cell 3
  have Ba19 := hide ((Ba18.out.alloc (.cells #[.int .i64 0, .bool false, .string ⟨#[]⟩, .int .i64 0] 23)))
  have Bb19 := hide ((Bb18.out.alloc (.cells #[.int .i64 0, .bool false, .string ⟨#[]⟩, .int .i64 0] 23)))
  have Bc19 := hide ((Bc18.out.alloc (.cells #[.int .i64 0, .bool false, .string ⟨#[]⟩, .int .i64 0] 23)))
  have Bz419 := hide ((Bz418.out.alloc (.cells #[.int .i64 0, .bool false, .string ⟨#[]⟩, .int .i64 0] 23)))
  have Bz519 := hide ((Bz518.out.alloc (.cells #[.int .i64 0, .bool false, .string ⟨#[]⟩, .int .i64 0] 23)))
  have Bz619 := hide ((Blk.newAt w18 (w18.heap.size) (rfl) #[.int .i64 0, .bool false, .string ⟨#[]⟩, .int .i64 0] 23))
  have HB19 : Hid (Below w.heap.size w (w18.alloc (.cells #[.int .i64 0, .bool false, .string ⟨#[]⟩, .int .i64 0] 23))) := (HB18.out.alloc HB18.out.size _)
  clear Ba18 Bb18 Bc18 Bz418 Bz518 HB18 ya0 ya1 ya2 ya3 yb0 yb1 yb2 yb3 yc0 yc1 yc2 yc3 yz40 yz41 yz42 yz43 yz50 yz51 yz52 yz53
  have ya0 : (w18.alloc (.cells #[.int .i64 0, .bool false, .string ⟨#[]⟩, .int .i64 0] 23)).cell? ⟨w2.heap.size, 0, none⟩ = some (.int .i64 0) := Ba19.out.cell 0
  have ya1 : (w18.alloc (.cells #[.int .i64 0, .bool false, .string ⟨#[]⟩, .int .i64 0] 23)).cell? ⟨w2.heap.size, 1, none⟩ = some (.bool false) := Ba19.out.cell 1
  have ya2 : (w18.alloc (.cells #[.int .i64 0, .bool false, .string ⟨#[]⟩, .int .i64 0] 23)).cell? ⟨w2.heap.size, 2, none⟩ = some (.string ⟨#[51]⟩) := Ba19.out.cell 2
  have ya3 : (w18.alloc (.cells #[.int .i64 0, .bool false, .string ⟨#[]⟩, .int .i64 0] 23)).cell? ⟨w2.heap.size, 3, none⟩ = some (.int .i64 0) := Ba19.out.cell 3
  have yb0 : (w18.alloc (.cells #[.int .i64 0, .bool false, .string ⟨#[]⟩, .int .i64 0] 23)).cell? ⟨w5.heap.size, 0, none⟩ = some (.int .i64 0) := Bb19.out.cell 0
  have yb1 : (w18.alloc (.cells #[.int .i64 0, .bool false, .string ⟨#[]⟩, .int .i64 0] 23)).cell? ⟨w5.heap.size, 1, none⟩ = some (.bool false) := Bb19.out.cell 1
  have yb2 : (w18.alloc (.cells #[.int .i64 0, .bool false, .string ⟨#[]⟩, .int .i64 0] 23)).cell? ⟨w5.heap.size, 2, none⟩ = some (.string ⟨#[49]⟩) := Bb19.out.cell 2
  have yb3 : (w18.alloc (.cells #[.int .i64 0, .bool false, .string ⟨#[]⟩, .int .i64 0] 23)).cell? ⟨w5.heap.size, 3, none⟩ = some (.int .i64 4) := Bb19.out.cell 3
  have yc0 : (w18.alloc (.cells #[.int .i64 0, .bool false, .string ⟨#[]⟩, .int .i64 0] 23)).cell? ⟨w9.heap.size, 0, none⟩ = some (.int .i64 0) := Bc19.out.cell 0
  have yc1 : (w18.alloc (.cells #[.int .i64 0, .bool false, .string ⟨#[]⟩, .int .i64 0] 23)).cell? ⟨w9.heap.size, 1, none⟩ = some (.bool false) := Bc19.out.cell 1
  have yc2 : (w18.alloc (.cells #[.int .i64 0, .bool false, .string ⟨#[]⟩, .int .i64 0] 23)).cell? ⟨w9.heap.size, 2, none⟩ = some (.string ⟨#[49]⟩) := Bc19.out.cell 2
  have yc3 : (w18.alloc (.cells #[.int .i64 0, .bool false, .string ⟨#[]⟩, .int .i64 0] 23)).cell? ⟨w9.heap.size, 3, none⟩ = some (.int .i64 0) := Bc19.out.cell 3
  have yz40 : (w18.alloc (.cells #[.int .i64 0, .bool false, .string ⟨#[]⟩, .int .i64 0] 23)).cell? ⟨w12.heap.size, 0, none⟩ = some (.int .i64 0) := Bz419.out.cell 0
  have yz41 : (w18.alloc (.cells #[.int .i64 0, .bool false, .string ⟨#[]⟩, .int .i64 0] 23)).cell? ⟨w12.heap.size, 1, none⟩ = some (.bool false) := Bz419.out.cell 1
  have yz42 : (w18.alloc (.cells #[.int .i64 0, .bool false, .string ⟨#[]⟩, .int .i64 0] 23)).cell? ⟨w12.heap.size, 2, none⟩ = some (.string ⟨#[]⟩) := Bz419.out.cell 2
  have yz43 : (w18.alloc (.cells #[.int .i64 0, .bool false, .string ⟨#[]⟩, .int .i64 0] 23)).cell? ⟨w12.heap.size, 3, none⟩ = some (.int .i64 0) := Bz419.out.cell 3
  have yz50 : (w18.alloc (.cells #[.int .i64 0, .bool false, .string ⟨#[]⟩, .int .i64 0] 23)).cell? ⟨w15.heap.size, 0, none⟩ = some (.int .i64 0) := Bz519.out.cell 0
  have yz51 : (w18.alloc (.cells #[.int .i64 0, .bool false, .string ⟨#[]⟩, .int .i64 0] 23)).cell? ⟨w15.heap.size, 1, none⟩ = some (.bool false) := Bz519.out.cell 1
  have yz52 : (w18.alloc (.cells #[.int .i64 0, .bool false, .string ⟨#[]⟩, .int .i64 0] 23)).cell? ⟨w15.heap.size, 2, none⟩ = some (.string ⟨#[]⟩) := Bz519.out.cell 2
  have yz53 : (w18.alloc (.cells #[.int .i64 0, .bool false, .string ⟨#[]⟩, .int .i64 0] 23)).cell? ⟨w15.heap.size, 3, none⟩ = some (.int .i64 0) := Bz519.out.cell 3
  have yz60 : (w18.alloc (.cells #[.int .i64 0, .bool false, .string ⟨#[]⟩, .int .i64 0] 23)).cell? ⟨w18.heap.size, 0, none⟩ = some (.int .i64 0) := Bz619.out.cell 0
  have yz61 : (w18.alloc (.cells #[.int .i64 0, .bool false, .string ⟨#[]⟩, .int .i64 0] 23)).cell? ⟨w18.heap.size, 1, none⟩ = some (.bool false) := Bz619.out.cell 1
  have yz62 : (w18.alloc (.cells #[.int .i64 0, .bool false, .string ⟨#[]⟩, .int .i64 0] 23)).cell? ⟨w18.heap.size, 2, none⟩ = some (.string ⟨#[]⟩) := Bz619.out.cell 2
  have yz63 : (w18.alloc (.cells #[.int .i64 0, .bool false, .string ⟨#[]⟩, .int .i64 0] 23)).cell? ⟨w18.heap.size, 3, none⟩ = some (.int .i64 0) := Bz619.out.cell 3
  go_wp2_with fail
  refine (num_any _ _ _).mono ?_
  rintro e w20 ⟨rfl, hb⟩
  have Ba20 := hide (Ba19.out.below hb Ba19.out.lt)
  have Bb20 := hide (Bb19.out.below hb Bb19.out.lt)
  have Bc20 := hide (Bc19.out.below hb Bc19.out.lt)
  have Bz420 := hide (Bz419.out.below hb Bz419.out.lt)
  have Bz520 := hide (Bz519.out.below hb Bz519.out.lt)
  have Bz620 := hide (Bz619.out.below hb Bz619.out.lt)
  have HB20 := hide (HB19.out.trans (hb.mono HB19.out.size))
  clear hb Ba19 Bb19 Bc19 Bz419 Bz519 Bz619 HB19 ya0 ya1 ya2 ya3 yb0 yb1 yb2 yb3 yc0 yc1 yc2 yc3 yz40 yz41 yz42 yz43 yz50 yz51 yz52 yz53 yz60 yz61 yz62 yz63
  have ya0 : w20.cell? ⟨w2.heap.size, 0, none⟩ = some (.int .i64 0) := Ba20.out.cell 0
  have ya1 : w20.cell? ⟨w2.heap.size, 1, none⟩ = some (.bool false) := Ba20.out.cell 1
  have ya2 : w20.cell? ⟨w2.heap.size, 2, none⟩ = some (.string ⟨#[51]⟩) := Ba20.out.cell 2
  have ya3 : w20.cell? ⟨w2.heap.size, 3, none⟩ = some (.int .i64 0) := Ba20.out.cell 3
  have yb0 : w20.cell? ⟨w5.heap.size, 0, none⟩ = some (.int .i64 0) := Bb20.out.cell 0
  have yb1 : w20.cell? ⟨w5.heap.size, 1, none⟩ = some (.bool false) := Bb20.out.cell 1
  have yb2 : w20.cell? ⟨w5.heap.size, 2, none⟩ = some (.string ⟨#[49]⟩) := Bb20.out.cell 2
  have yb3 : w20.cell? ⟨w5.heap.size, 3, none⟩ = some (.int .i64 4) := Bb20.out.cell 3
  have yc0 : w20.cell? ⟨w9.heap.size, 0, none⟩ = some (.int .i64 0) := Bc20.out.cell 0
  have yc1 : w20.cell? ⟨w9.heap.size, 1, none⟩ = some (.bool false) := Bc20.out.cell 1
  have yc2 : w20.cell? ⟨w9.heap.size, 2, none⟩ = some (.string ⟨#[49]⟩) := Bc20.out.cell 2
  have yc3 : w20.cell? ⟨w9.heap.size, 3, none⟩ = some (.int .i64 0) := Bc20.out.cell 3
  have yz40 : w20.cell? ⟨w12.heap.size, 0, none⟩ = some (.int .i64 0) := Bz420.out.cell 0
  have yz41 : w20.cell? ⟨w12.heap.size, 1, none⟩ = some (.bool false) := Bz420.out.cell 1
  have yz42 : w20.cell? ⟨w12.heap.size, 2, none⟩ = some (.string ⟨#[]⟩) := Bz420.out.cell 2
  have yz43 : w20.cell? ⟨w12.heap.size, 3, none⟩ = some (.int .i64 0) := Bz420.out.cell 3
  have yz50 : w20.cell? ⟨w15.heap.size, 0, none⟩ = some (.int .i64 0) := Bz520.out.cell 0
  have yz51 : w20.cell? ⟨w15.heap.size, 1, none⟩ = some (.bool false) := Bz520.out.cell 1
  have yz52 : w20.cell? ⟨w15.heap.size, 2, none⟩ = some (.string ⟨#[]⟩) := Bz520.out.cell 2
  have yz53 : w20.cell? ⟨w15.heap.size, 3, none⟩ = some (.int .i64 0) := Bz520.out.cell 3
  have yz60 : w20.cell? ⟨w18.heap.size, 0, none⟩ = some (.int .i64 0) := Bz620.out.cell 0
  have yz61 : w20.cell? ⟨w18.heap.size, 1, none⟩ = some (.bool false) := Bz620.out.cell 1
  have yz62 : w20.cell? ⟨w18.heap.size, 2, none⟩ = some (.string ⟨#[]⟩) := Bz620.out.cell 2
  have yz63 : w20.cell? ⟨w18.heap.size, 3, none⟩ = some (.int .i64 0) := Bz620.out.cell 3
  go_wp2_with fail
  refine (rc7 _ (HT.out.below HB20.out)).mono ?_
  rintro e w21 ⟨rfl, hb⟩
  have Ba21 := hide (Ba20.out.below hb Ba20.out.lt)
  have Bb21 := hide (Bb20.out.below hb Bb20.out.lt)
  have Bc21 := hide (Bc20.out.below hb Bc20.out.lt)
  have Bz421 := hide (Bz420.out.below hb Bz420.out.lt)
  have Bz521 := hide (Bz520.out.below hb Bz520.out.lt)
  have Bz621 := hide (Bz620.out.below hb Bz620.out.lt)
  have HB21 := hide (HB20.out.trans (hb.mono HB20.out.size))
  clear hb Ba20 Bb20 Bc20 Bz420 Bz520 Bz620 HB20 ya0 ya1 ya2 ya3 yb0 yb1 yb2 yb3 yc0 yc1 yc2 yc3 yz40 yz41 yz42 yz43 yz50 yz51 yz52 yz53 yz60 yz61 yz62 yz63
  have ya0 : w21.cell? ⟨w2.heap.size, 0, none⟩ = some (.int .i64 0) := Ba21.out.cell 0
  have ya1 : w21.cell? ⟨w2.heap.size, 1, none⟩ = some (.bool false) := Ba21.out.cell 1
  have ya2 : w21.cell? ⟨w2.heap.size, 2, none⟩ = some (.string ⟨#[51]⟩) := Ba21.out.cell 2
  have ya3 : w21.cell? ⟨w2.heap.size, 3, none⟩ = some (.int .i64 0) := Ba21.out.cell 3
  have yb0 : w21.cell? ⟨w5.heap.size, 0, none⟩ = some (.int .i64 0) := Bb21.out.cell 0
  have yb1 : w21.cell? ⟨w5.heap.size, 1, none⟩ = some (.bool false) := Bb21.out.cell 1
  have yb2 : w21.cell? ⟨w5.heap.size, 2, none⟩ = some (.string ⟨#[49]⟩) := Bb21.out.cell 2
  have yb3 : w21.cell? ⟨w5.heap.size, 3, none⟩ = some (.int .i64 4) := Bb21.out.cell 3
  have yc0 : w21.cell? ⟨w9.heap.size, 0, none⟩ = some (.int .i64 0) := Bc21.out.cell 0
  have yc1 : w21.cell? ⟨w9.heap.size, 1, none⟩ = some (.bool false) := Bc21.out.cell 1
  have yc2 : w21.cell? ⟨w9.heap.size, 2, none⟩ = some (.string ⟨#[49]⟩) := Bc21.out.cell 2
  have yc3 : w21.cell? ⟨w9.heap.size, 3, none⟩ = some (.int .i64 0) := Bc21.out.cell 3
  have yz40 : w21.cell? ⟨w12.heap.size, 0, none⟩ = some (.int .i64 0) := Bz421.out.cell 0
  have yz41 : w21.cell? ⟨w12.heap.size, 1, none⟩ = some (.bool false) := Bz421.out.cell 1
  have yz42 : w21.cell? ⟨w12.heap.size, 2, none⟩ = some (.string ⟨#[]⟩) := Bz421.out.cell 2
  have yz43 : w21.cell? ⟨w12.heap.size, 3, none⟩ = some (.int .i64 0) := Bz421.out.cell 3
  have yz50 : w21.cell? ⟨w15.heap.size, 0, none⟩ = some (.int .i64 0) := Bz521.out.cell 0
  have yz51 : w21.cell? ⟨w15.heap.size, 1, none⟩ = some (.bool false) := Bz521.out.cell 1
  have yz52 : w21.cell? ⟨w15.heap.size, 2, none⟩ = some (.string ⟨#[]⟩) := Bz521.out.cell 2
  have yz53 : w21.cell? ⟨w15.heap.size, 3, none⟩ = some (.int .i64 0) := Bz521.out.cell 3
  have yz60 : w21.cell? ⟨w18.heap.size, 0, none⟩ = some (.int .i64 0) := Bz621.out.cell 0
  have yz61 : w21.cell? ⟨w18.heap.size, 1, none⟩ = some (.bool false) := Bz621.out.cell 1
  have yz62 : w21.cell? ⟨w18.heap.size, 2, none⟩ = some (.string ⟨#[]⟩) := Bz621.out.cell 2
  have yz63 : w21.cell? ⟨w18.heap.size, 3, none⟩ = some (.int .i64 0) := Bz621.out.cell 3
  have Ba22 := hide ((Ba21.out.alloc (.cells #[.int .i64 0, .bool false, .string ⟨#[]⟩, .int .i64 0] 23)))
  have Bb22 := hide ((Bb21.out.alloc (.cells #[.int .i64 0, .bool false, .string ⟨#[]⟩, .int .i64 0] 23)))
  have Bc22 := hide ((Bc21.out.alloc (.cells #[.int .i64 0, .bool false, .string ⟨#[]⟩, .int .i64 0] 23)))
  have Bz422 := hide ((Bz421.out.alloc (.cells #[.int .i64 0, .bool false, .string ⟨#[]⟩, .int .i64 0] 23)))
  have Bz522 := hide ((Bz521.out.alloc (.cells #[.int .i64 0, .bool false, .string ⟨#[]⟩, .int .i64 0] 23)))
  have Bz622 := hide ((Bz621.out.alloc (.cells #[.int .i64 0, .bool false, .string ⟨#[]⟩, .int .i64 0] 23)))
  have Bz722 := hide ((Blk.newAt w21 (w21.heap.size) (rfl) #[.int .i64 0, .bool false, .string ⟨#[]⟩, .int .i64 0] 23))
  have HB22 : Hid (Below w.heap.size w (w21.alloc (.cells #[.int .i64 0, .bool false, .string ⟨#[]⟩, .int .i64 0] 23))) := (HB21.out.alloc HB21.out.size _)
  clear Ba21 Bb21 Bc21 Bz421 Bz521 Bz621 HB21 ya0 ya1 ya2 ya3 yb0 yb1 yb2 yb3 yc0 yc1 yc2 yc3 yz40 yz41 yz42 yz43 yz50 yz51 yz52 yz53 yz60 yz61 yz62 yz63
  have ya0 : (w21.alloc (.cells #[.int .i64 0, .bool false, .string ⟨#[]⟩, .int .i64 0] 23)).cell? ⟨w2.heap.size, 0, none⟩ = some (.int .i64 0) := Ba22.out.cell 0
  have ya1 : (w21.alloc (.cells #[.int .i64 0, .bool false, .string ⟨#[]⟩, .int .i64 0] 23)).cell? ⟨w2.heap.size, 1, none⟩ = some (.bool false) := Ba22.out.cell 1
  have ya2 : (w21.alloc (.cells #[.int .i64 0, .bool false, .string ⟨#[]⟩, .int .i64 0] 23)).cell? ⟨w2.heap.size, 2, none⟩ = some (.string ⟨#[51]⟩) := Ba22.out.cell 2
  have ya3 : (w21.alloc (.cells #[.int .i64 0, .bool false, .string ⟨#[]⟩, .int .i64 0] 23)).cell? ⟨w2.heap.size, 3, none⟩ = some (.int .i64 0) := Ba22.out.cell 3
  have yb0 : (w21.alloc (.cells #[.int .i64 0, .bool false, .string ⟨#[]⟩, .int .i64 0] 23)).cell? ⟨w5.heap.size, 0, none⟩ = some (.int .i64 0) := Bb22.out.cell 0
  have yb1 : (w21.alloc (.cells #[.int .i64 0, .bool false, .string ⟨#[]⟩, .int .i64 0] 23)).cell? ⟨w5.heap.size, 1, none⟩ = some (.bool false) := Bb22.out.cell 1
  have yb2 : (w21.alloc (.cells #[.int .i64 0, .bool false, .string ⟨#[]⟩, .int .i64 0] 23)).cell? ⟨w5.heap.size, 2, none⟩ = some (.string ⟨#[49]⟩) := Bb22.out.cell 2
  have yb3 : (w21.alloc (.cells #[.int .i64 0, .bool false, .string ⟨#[]⟩, .int .i64 0] 23)).cell? ⟨w5.heap.size, 3, none⟩ = some (.int .i64 4) := Bb22.out.cell 3
  have yc0 : (w21.alloc (.cells #[.int .i64 0, .bool false, .string ⟨#[]⟩, .int .i64 0] 23)).cell? ⟨w9.heap.size, 0, none⟩ = some (.int .i64 0) := Bc22.out.cell 0
  have yc1 : (w21.alloc (.cells #[.int .i64 0, .bool false, .string ⟨#[]⟩, .int .i64 0] 23)).cell? ⟨w9.heap.size, 1, none⟩ = some (.bool false) := Bc22.out.cell 1
  have yc2 : (w21.alloc (.cells #[.int .i64 0, .bool false, .string ⟨#[]⟩, .int .i64 0] 23)).cell? ⟨w9.heap.size, 2, none⟩ = some (.string ⟨#[49]⟩) := Bc22.out.cell 2
  have yc3 : (w21.alloc (.cells #[.int .i64 0, .bool false, .string ⟨#[]⟩, .int .i64 0] 23)).cell? ⟨w9.heap.size, 3, none⟩ = some (.int .i64 0) := Bc22.out.cell 3
  have yz40 : (w21.alloc (.cells #[.int .i64 0, .bool false, .string ⟨#[]⟩, .int .i64 0] 23)).cell? ⟨w12.heap.size, 0, none⟩ = some (.int .i64 0) := Bz422.out.cell 0
  have yz41 : (w21.alloc (.cells #[.int .i64 0, .bool false, .string ⟨#[]⟩, .int .i64 0] 23)).cell? ⟨w12.heap.size, 1, none⟩ = some (.bool false) := Bz422.out.cell 1
  have yz42 : (w21.alloc (.cells #[.int .i64 0, .bool false, .string ⟨#[]⟩, .int .i64 0] 23)).cell? ⟨w12.heap.size, 2, none⟩ = some (.string ⟨#[]⟩) := Bz422.out.cell 2
  have yz43 : (w21.alloc (.cells #[.int .i64 0, .bool false, .string ⟨#[]⟩, .int .i64 0] 23)).cell? ⟨w12.heap.size, 3, none⟩ = some (.int .i64 0) := Bz422.out.cell 3
  have yz50 : (w21.alloc (.cells #[.int .i64 0, .bool false, .string ⟨#[]⟩, .int .i64 0] 23)).cell? ⟨w15.heap.size, 0, none⟩ = some (.int .i64 0) := Bz522.out.cell 0
  have yz51 : (w21.alloc (.cells #[.int .i64 0, .bool false, .string ⟨#[]⟩, .int .i64 0] 23)).cell? ⟨w15.heap.size, 1, none⟩ = some (.bool false) := Bz522.out.cell 1
  have yz52 : (w21.alloc (.cells #[.int .i64 0, .bool false, .string ⟨#[]⟩, .int .i64 0] 23)).cell? ⟨w15.heap.size, 2, none⟩ = some (.string ⟨#[]⟩) := Bz522.out.cell 2
  have yz53 : (w21.alloc (.cells #[.int .i64 0, .bool false, .string ⟨#[]⟩, .int .i64 0] 23)).cell? ⟨w15.heap.size, 3, none⟩ = some (.int .i64 0) := Bz522.out.cell 3
  have yz60 : (w21.alloc (.cells #[.int .i64 0, .bool false, .string ⟨#[]⟩, .int .i64 0] 23)).cell? ⟨w18.heap.size, 0, none⟩ = some (.int .i64 0) := Bz622.out.cell 0
  have yz61 : (w21.alloc (.cells #[.int .i64 0, .bool false, .string ⟨#[]⟩, .int .i64 0] 23)).cell? ⟨w18.heap.size, 1, none⟩ = some (.bool false) := Bz622.out.cell 1
  have yz62 : (w21.alloc (.cells #[.int .i64 0, .bool false, .string ⟨#[]⟩, .int .i64 0] 23)).cell? ⟨w18.heap.size, 2, none⟩ = some (.string ⟨#[]⟩) := Bz622.out.cell 2
  have yz63 : (w21.alloc (.cells #[.int .i64 0, .bool false, .string ⟨#[]⟩, .int .i64 0] 23)).cell? ⟨w18.heap.size, 3, none⟩ = some (.int .i64 0) := Bz622.out.cell 3
  have yz70 : (w21.alloc (.cells #[.int .i64 0, .bool false, .string ⟨#[]⟩, .int .i64 0] 23)).cell? ⟨w21.heap.size, 0, none⟩ = some (.int .i64 0) := Bz722.out.cell 0
  have yz71 : (w21.alloc (.cells #[.int .i64 0, .bool false, .string ⟨#[]⟩, .int .i64 0] 23)).cell? ⟨w21.heap.size, 1, none⟩ = some (.bool false) := Bz722.out.cell 1
  have yz72 : (w21.alloc (.cells #[.int .i64 0, .bool false, .string ⟨#[]⟩, .int .i64 0] 23)).cell? ⟨w21.heap.size, 2, none⟩ = some (.string ⟨#[]⟩) := Bz722.out.cell 2
  have yz73 : (w21.alloc (.cells #[.int .i64 0, .bool false, .string ⟨#[]⟩, .int .i64 0] 23)).cell? ⟨w21.heap.size, 3, none⟩ = some (.int .i64 0) := Bz722.out.cell 3
  have b0 : Hid (Below (w21.alloc (.cells #[.int .i64 0, .bool false, .string ⟨#[]⟩, .int .i64 0] 23)).heap.size (w21.alloc (.cells #[.int .i64 0, .bool false, .string ⟨#[]⟩, .int .i64 0] 23)) (w21.alloc (.cells #[.int .i64 0, .bool false, .string ⟨#[]⟩, .int .i64 0] 23)).drew) := bdrewD (w21.alloc (.cells #[.int .i64 0, .bool false, .string ⟨#[]⟩, .int .i64 0] 23))
  have C0 : Hid (∀ X, Hid (Below (w21.alloc (.cells #[.int .i64 0, .bool false, .string ⟨#[]⟩, .int .i64 0] 23)).heap.size (w21.alloc (.cells #[.int .i64 0, .bool false, .string ⟨#[]⟩, .int .i64 0] 23)) X) → Calls Tryz.prog 49 #[.string ⟨#[51]⟩, .int .i64 0] X fun e w' => e = .returned (.agg #[.int .i64 0, .bool false, .string ⟨#[51]⟩, .int .i64 0]) ∧ Hid (Below (w21.alloc (.cells #[.int .i64 0, .bool false, .string ⟨#[]⟩, .int .i64 0] 23)).heap.size (w21.alloc (.cells #[.int .i64 0, .bool false, .string ⟨#[]⟩, .int .i64 0] 23)) w') ∧ w'.cell? ⟨w2.heap.size, 0, none⟩ = some (.int .i64 0) ∧ w'.cell? ⟨w2.heap.size, 1, none⟩ = some (.bool false) ∧ w'.cell? ⟨w2.heap.size, 2, none⟩ = some (.string ⟨#[51]⟩) ∧ w'.cell? ⟨w2.heap.size, 3, none⟩ = some (.int .i64 0) ∧ w'.cell? ⟨w5.heap.size, 0, none⟩ = some (.int .i64 0) ∧ w'.cell? ⟨w5.heap.size, 1, none⟩ = some (.bool false) ∧ w'.cell? ⟨w5.heap.size, 2, none⟩ = some (.string ⟨#[49]⟩) ∧ w'.cell? ⟨w5.heap.size, 3, none⟩ = some (.int .i64 4) ∧ w'.cell? ⟨w9.heap.size, 0, none⟩ = some (.int .i64 0) ∧ w'.cell? ⟨w9.heap.size, 1, none⟩ = some (.bool false) ∧ w'.cell? ⟨w9.heap.size, 2, none⟩ = some (.string ⟨#[49]⟩) ∧ w'.cell? ⟨w9.heap.size, 3, none⟩ = some (.int .i64 0)) := by
    intro X bX
    refine (num_any _ _ X).mono ?_
    rintro e w' ⟨rfl, hb⟩
    have bb := bX.out.trans (hb.mono bX.out.size)
    have Baq := Ba22.out.below bb Ba22.out.lt
    have Bbq := Bb22.out.below bb Bb22.out.lt
    have Bcq := Bc22.out.below bb Bc22.out.lt
    exact ⟨rfl, bb, Baq.cell 0, Baq.cell 1, Baq.cell 2, Baq.cell 3, Bbq.cell 0, Bbq.cell 1, Bbq.cell 2, Bbq.cell 3, Bcq.cell 0, Bcq.cell 1, Bcq.cell 2, Bcq.cell 3⟩
  have C1 : Hid (∀ X, Hid (Below (w21.alloc (.cells #[.int .i64 0, .bool false, .string ⟨#[]⟩, .int .i64 0] 23)).heap.size (w21.alloc (.cells #[.int .i64 0, .bool false, .string ⟨#[]⟩, .int .i64 0] 23)) X) → Calls Tryz.prog 49 #[.string ⟨#[49]⟩, .int .i64 4] X fun e w' => e = .returned (.agg #[.int .i64 0, .bool false, .string ⟨#[49]⟩, .int .i64 4]) ∧ Hid (Below (w21.alloc (.cells #[.int .i64 0, .bool false, .string ⟨#[]⟩, .int .i64 0] 23)).heap.size (w21.alloc (.cells #[.int .i64 0, .bool false, .string ⟨#[]⟩, .int .i64 0] 23)) w') ∧ w'.cell? ⟨w2.heap.size, 0, none⟩ = some (.int .i64 0) ∧ w'.cell? ⟨w2.heap.size, 1, none⟩ = some (.bool false) ∧ w'.cell? ⟨w2.heap.size, 2, none⟩ = some (.string ⟨#[51]⟩) ∧ w'.cell? ⟨w2.heap.size, 3, none⟩ = some (.int .i64 0) ∧ w'.cell? ⟨w5.heap.size, 0, none⟩ = some (.int .i64 0) ∧ w'.cell? ⟨w5.heap.size, 1, none⟩ = some (.bool false) ∧ w'.cell? ⟨w5.heap.size, 2, none⟩ = some (.string ⟨#[49]⟩) ∧ w'.cell? ⟨w5.heap.size, 3, none⟩ = some (.int .i64 4) ∧ w'.cell? ⟨w9.heap.size, 0, none⟩ = some (.int .i64 0) ∧ w'.cell? ⟨w9.heap.size, 1, none⟩ = some (.bool false) ∧ w'.cell? ⟨w9.heap.size, 2, none⟩ = some (.string ⟨#[49]⟩) ∧ w'.cell? ⟨w9.heap.size, 3, none⟩ = some (.int .i64 0)) := by
    intro X bX
    refine (num_any _ _ X).mono ?_
    rintro e w' ⟨rfl, hb⟩
    have bb := bX.out.trans (hb.mono bX.out.size)
    have Baq := Ba22.out.below bb Ba22.out.lt
    have Bbq := Bb22.out.below bb Bb22.out.lt
    have Bcq := Bc22.out.below bb Bc22.out.lt
    exact ⟨rfl, bb, Baq.cell 0, Baq.cell 1, Baq.cell 2, Baq.cell 3, Bbq.cell 0, Bbq.cell 1, Bbq.cell 2, Bbq.cell 3, Bcq.cell 0, Bcq.cell 1, Bcq.cell 2, Bcq.cell 3⟩
  have C2 : Hid (∀ X, Hid (Below (w21.alloc (.cells #[.int .i64 0, .bool false, .string ⟨#[]⟩, .int .i64 0] 23)).heap.size (w21.alloc (.cells #[.int .i64 0, .bool false, .string ⟨#[]⟩, .int .i64 0] 23)) X) → Calls Tryz.prog 49 #[.string ⟨#[49]⟩, .int .i64 0] X fun e w' => e = .returned (.agg #[.int .i64 0, .bool false, .string ⟨#[49]⟩, .int .i64 0]) ∧ Hid (Below (w21.alloc (.cells #[.int .i64 0, .bool false, .string ⟨#[]⟩, .int .i64 0] 23)).heap.size (w21.alloc (.cells #[.int .i64 0, .bool false, .string ⟨#[]⟩, .int .i64 0] 23)) w') ∧ w'.cell? ⟨w2.heap.size, 0, none⟩ = some (.int .i64 0) ∧ w'.cell? ⟨w2.heap.size, 1, none⟩ = some (.bool false) ∧ w'.cell? ⟨w2.heap.size, 2, none⟩ = some (.string ⟨#[51]⟩) ∧ w'.cell? ⟨w2.heap.size, 3, none⟩ = some (.int .i64 0) ∧ w'.cell? ⟨w5.heap.size, 0, none⟩ = some (.int .i64 0) ∧ w'.cell? ⟨w5.heap.size, 1, none⟩ = some (.bool false) ∧ w'.cell? ⟨w5.heap.size, 2, none⟩ = some (.string ⟨#[49]⟩) ∧ w'.cell? ⟨w5.heap.size, 3, none⟩ = some (.int .i64 4) ∧ w'.cell? ⟨w9.heap.size, 0, none⟩ = some (.int .i64 0) ∧ w'.cell? ⟨w9.heap.size, 1, none⟩ = some (.bool false) ∧ w'.cell? ⟨w9.heap.size, 2, none⟩ = some (.string ⟨#[49]⟩) ∧ w'.cell? ⟨w9.heap.size, 3, none⟩ = some (.int .i64 0)) := by
    intro X bX
    refine (num_any _ _ X).mono ?_
    rintro e w' ⟨rfl, hb⟩
    have bb := bX.out.trans (hb.mono bX.out.size)
    have Baq := Ba22.out.below bb Ba22.out.lt
    have Bbq := Bb22.out.below bb Bb22.out.lt
    have Bcq := Bc22.out.below bb Bc22.out.lt
    exact ⟨rfl, bb, Baq.cell 0, Baq.cell 1, Baq.cell 2, Baq.cell 3, Bbq.cell 0, Bbq.cell 1, Bbq.cell 2, Bbq.cell 3, Bcq.cell 0, Bcq.cell 1, Bcq.cell 2, Bcq.cell 3⟩
  go_wp2_with fail
  have mk0 : True := trivial
  go_region_held3 (fun w' => w'.cell? ⟨w2.heap.size, 0, none⟩ = some (.int .i64 0) ∧ w'.cell? ⟨w2.heap.size, 1, none⟩ = some (.bool false) ∧ w'.cell? ⟨w2.heap.size, 2, none⟩ = some (.string ⟨#[51]⟩) ∧ w'.cell? ⟨w2.heap.size, 3, none⟩ = some (.int .i64 0) ∧ w'.cell? ⟨w5.heap.size, 0, none⟩ = some (.int .i64 0) ∧ w'.cell? ⟨w5.heap.size, 1, none⟩ = some (.bool false) ∧ w'.cell? ⟨w5.heap.size, 2, none⟩ = some (.string ⟨#[49]⟩) ∧ w'.cell? ⟨w5.heap.size, 3, none⟩ = some (.int .i64 4) ∧ w'.cell? ⟨w9.heap.size, 0, none⟩ = some (.int .i64 0) ∧ w'.cell? ⟨w9.heap.size, 1, none⟩ = some (.bool false) ∧ w'.cell? ⟨w9.heap.size, 2, none⟩ = some (.string ⟨#[49]⟩) ∧ w'.cell? ⟨w9.heap.size, 3, none⟩ = some (.int .i64 0)) (go_keep) (first
    | (clear mk0; go_at_call 49; refine (C0.out _ b0).mono ?_; rintro e w23 ⟨rfl, b1, q0_0, q0_1, q0_2, q0_3, q0_4, q0_5, q0_6, q0_7, q0_8, q0_9, q0_10, q0_11⟩; have mk1 : True := trivial)
    | (clear mk1; go_at_call 49; refine (C1.out _ b1).mono ?_; rintro e w24 ⟨rfl, b2, q1_0, q1_1, q1_2, q1_3, q1_4, q1_5, q1_6, q1_7, q1_8, q1_9, q1_10, q1_11⟩; have mk2 : True := trivial)
    | (clear mk2; go_at_call 49; refine (C2.out _ b2).mono ?_; rintro e w25 ⟨rfl, b3, q2_0, q2_1, q2_2, q2_3, q2_4, q2_5, q2_6, q2_7, q2_8, q2_9, q2_10, q2_11⟩; have mk3 : True := trivial))
  have Ba25 := hide (Ba22.out.below b3.out Ba22.out.lt)
  have Bb25 := hide (Bb22.out.below b3.out Bb22.out.lt)
  have Bc25 := hide (Bc22.out.below b3.out Bc22.out.lt)
  have Bz425 := hide (Bz422.out.below b3.out Bz422.out.lt)
  have Bz525 := hide (Bz522.out.below b3.out Bz522.out.lt)
  have Bz625 := hide (Bz622.out.below b3.out Bz622.out.lt)
  have Bz725 := hide (Bz722.out.below b3.out Bz722.out.lt)
  have HB25 := hide (HB22.out.trans (b3.out.mono HB22.out.size))
  clear mk3 b0 b1 b2 b3 C0 C1 C2 q0_0 q0_1 q0_2 q0_3 q0_4 q0_5 q0_6 q0_7 q0_8 q0_9 q0_10 q0_11 q1_0 q1_1 q1_2 q1_3 q1_4 q1_5 q1_6 q1_7 q1_8 q1_9 q1_10 q1_11 q2_0 q2_1 q2_2 q2_3 q2_4 q2_5 q2_6 q2_7 q2_8 q2_9 q2_10 q2_11 Ba22 Bb22 Bc22 Bz422 Bz522 Bz622 Bz722 HB22 ya0 ya1 ya2 ya3 yb0 yb1 yb2 yb3 yc0 yc1 yc2 yc3 yz40 yz41 yz42 yz43 yz50 yz51 yz52 yz53 yz60 yz61 yz62 yz63 yz70 yz71 yz72 yz73
  have ya0 : w25.cell? ⟨w2.heap.size, 0, none⟩ = some (.int .i64 0) := Ba25.out.cell 0
  have ya1 : w25.cell? ⟨w2.heap.size, 1, none⟩ = some (.bool false) := Ba25.out.cell 1
  have ya2 : w25.cell? ⟨w2.heap.size, 2, none⟩ = some (.string ⟨#[51]⟩) := Ba25.out.cell 2
  have ya3 : w25.cell? ⟨w2.heap.size, 3, none⟩ = some (.int .i64 0) := Ba25.out.cell 3
  have yb0 : w25.cell? ⟨w5.heap.size, 0, none⟩ = some (.int .i64 0) := Bb25.out.cell 0
  have yb1 : w25.cell? ⟨w5.heap.size, 1, none⟩ = some (.bool false) := Bb25.out.cell 1
  have yb2 : w25.cell? ⟨w5.heap.size, 2, none⟩ = some (.string ⟨#[49]⟩) := Bb25.out.cell 2
  have yb3 : w25.cell? ⟨w5.heap.size, 3, none⟩ = some (.int .i64 4) := Bb25.out.cell 3
  have yc0 : w25.cell? ⟨w9.heap.size, 0, none⟩ = some (.int .i64 0) := Bc25.out.cell 0
  have yc1 : w25.cell? ⟨w9.heap.size, 1, none⟩ = some (.bool false) := Bc25.out.cell 1
  have yc2 : w25.cell? ⟨w9.heap.size, 2, none⟩ = some (.string ⟨#[49]⟩) := Bc25.out.cell 2
  have yc3 : w25.cell? ⟨w9.heap.size, 3, none⟩ = some (.int .i64 0) := Bc25.out.cell 3
  have yz40 : w25.cell? ⟨w12.heap.size, 0, none⟩ = some (.int .i64 0) := Bz425.out.cell 0
  have yz41 : w25.cell? ⟨w12.heap.size, 1, none⟩ = some (.bool false) := Bz425.out.cell 1
  have yz42 : w25.cell? ⟨w12.heap.size, 2, none⟩ = some (.string ⟨#[]⟩) := Bz425.out.cell 2
  have yz43 : w25.cell? ⟨w12.heap.size, 3, none⟩ = some (.int .i64 0) := Bz425.out.cell 3
  have yz50 : w25.cell? ⟨w15.heap.size, 0, none⟩ = some (.int .i64 0) := Bz525.out.cell 0
  have yz51 : w25.cell? ⟨w15.heap.size, 1, none⟩ = some (.bool false) := Bz525.out.cell 1
  have yz52 : w25.cell? ⟨w15.heap.size, 2, none⟩ = some (.string ⟨#[]⟩) := Bz525.out.cell 2
  have yz53 : w25.cell? ⟨w15.heap.size, 3, none⟩ = some (.int .i64 0) := Bz525.out.cell 3
  have yz60 : w25.cell? ⟨w18.heap.size, 0, none⟩ = some (.int .i64 0) := Bz625.out.cell 0
  have yz61 : w25.cell? ⟨w18.heap.size, 1, none⟩ = some (.bool false) := Bz625.out.cell 1
  have yz62 : w25.cell? ⟨w18.heap.size, 2, none⟩ = some (.string ⟨#[]⟩) := Bz625.out.cell 2
  have yz63 : w25.cell? ⟨w18.heap.size, 3, none⟩ = some (.int .i64 0) := Bz625.out.cell 3
  have yz70 : w25.cell? ⟨w21.heap.size, 0, none⟩ = some (.int .i64 0) := Bz725.out.cell 0
  have yz71 : w25.cell? ⟨w21.heap.size, 1, none⟩ = some (.bool false) := Bz725.out.cell 1
  have yz72 : w25.cell? ⟨w21.heap.size, 2, none⟩ = some (.string ⟨#[]⟩) := Bz725.out.cell 2
  have yz73 : w25.cell? ⟨w21.heap.size, 3, none⟩ = some (.int .i64 0) := Bz725.out.cell 3
  go_wp2
  go_ret
  exact ⟨rfl, HB25.out⟩

end Go.Proofs.YtckijnlolmbdiaaGreatDoor

namespace Go.Proofs.YtckijnlolmbdiaaGreatDoor
open Go.RowKit

set_option maxRecDepth 100000 in
set_option maxHeartbeats 4000000 in
theorem roundPlaces_gen (ca : Int) (na : Bool) (ta : ByteArray) (ea : Int) (p m : Int) (cx : Int) (nx : Bool) (tx : ByteArray) (ex : Int) (rx : Int) (w : World) (htab : Tab w) (h0 : ∀ W, Tab W → Calls Tryz.prog 16 #[dcV ca na ta ea, .int .i64 p, .int .i64 m] W fun e w' => e = .returned (.tuple #[.agg #[.int .i64 cx, .bool nx, .string tx, .int .i64 ex], .int .i64 rx]) ∧ Below W.heap.size W w') (h1 : ∀ W, Calls Tryz.prog 17 #[dcV ca na ta ea, .int .i64 p, .int .i64 m] W fun e w' => e = .returned (.tuple #[.agg #[.int .i64 cx, .bool nx, .string tx, .int .i64 ex], .int .i64 rx]) ∧ Below W.heap.size W w') : Calls Tryz.prog 4 #[dcV ca na ta ea, .int .i64 p, .int .i64 m] w fun e w' => e = .returned (.bool true) ∧ Below w.heap.size w w' := by
  have H0 := hide h0
  have H1 := hide h1
  have HT := hide htab
  clear htab h0 h1
  have Ba0 := hide (Blk.newAt w (w.heap.size) (rfl) #[.int .i64 ca, .bool na, .string ta, .int .i64 ea] 23)
  have HB0 : Hid (Below w.heap.size w (w.alloc (.cells #[.int .i64 ca, .bool na, .string ta, .int .i64 ea] 23))) := ((Below.refl _ _).alloc (Nat.le_refl _) _)
  go_enter Tryz.func4, Tryz.ntmps4
  go_wp2_with fail
  refine (H0.out _ (HT.out.below HB0.out)).mono ?_
  rintro e w1 ⟨rfl, hb⟩
  have Ba1 := hide (Ba0.out.below hb Ba0.out.lt)
  have HB1 := hide (HB0.out.trans (hb.mono HB0.out.size))
  clear hb Ba0 HB0 
  have ya0 : w1.cell? ⟨w.heap.size, 0, none⟩ = some (.int .i64 ca) := Ba1.out.cell 0
  have ya1 : w1.cell? ⟨w.heap.size, 1, none⟩ = some (.bool na) := Ba1.out.cell 1
  have ya2 : w1.cell? ⟨w.heap.size, 2, none⟩ = some (.string ta) := Ba1.out.cell 2
  have ya3 : w1.cell? ⟨w.heap.size, 3, none⟩ = some (.int .i64 ea) := Ba1.out.cell 3
  have Ba2 := hide ((Ba1.out.alloc (.cells #[.int .i64 cx, .bool nx, .string tx, .int .i64 ex] 23)))
  have Bv02 := hide ((Blk.newAt w1 (w1.heap.size) (rfl) #[.int .i64 cx, .bool nx, .string tx, .int .i64 ex] 23))
  have HB2 : Hid (Below w.heap.size w (w1.alloc (.cells #[.int .i64 cx, .bool nx, .string tx, .int .i64 ex] 23))) := (HB1.out.alloc HB1.out.size _)
  clear Ba1 HB1 ya0 ya1 ya2 ya3
  have ya0 : (w1.alloc (.cells #[.int .i64 cx, .bool nx, .string tx, .int .i64 ex] 23)).cell? ⟨w.heap.size, 0, none⟩ = some (.int .i64 ca) := Ba2.out.cell 0
  have ya1 : (w1.alloc (.cells #[.int .i64 cx, .bool nx, .string tx, .int .i64 ex] 23)).cell? ⟨w.heap.size, 1, none⟩ = some (.bool na) := Ba2.out.cell 1
  have ya2 : (w1.alloc (.cells #[.int .i64 cx, .bool nx, .string tx, .int .i64 ex] 23)).cell? ⟨w.heap.size, 2, none⟩ = some (.string ta) := Ba2.out.cell 2
  have ya3 : (w1.alloc (.cells #[.int .i64 cx, .bool nx, .string tx, .int .i64 ex] 23)).cell? ⟨w.heap.size, 3, none⟩ = some (.int .i64 ea) := Ba2.out.cell 3
  have yv00 : (w1.alloc (.cells #[.int .i64 cx, .bool nx, .string tx, .int .i64 ex] 23)).cell? ⟨w1.heap.size, 0, none⟩ = some (.int .i64 cx) := Bv02.out.cell 0
  have yv01 : (w1.alloc (.cells #[.int .i64 cx, .bool nx, .string tx, .int .i64 ex] 23)).cell? ⟨w1.heap.size, 1, none⟩ = some (.bool nx) := Bv02.out.cell 1
  have yv02 : (w1.alloc (.cells #[.int .i64 cx, .bool nx, .string tx, .int .i64 ex] 23)).cell? ⟨w1.heap.size, 2, none⟩ = some (.string tx) := Bv02.out.cell 2
  have yv03 : (w1.alloc (.cells #[.int .i64 cx, .bool nx, .string tx, .int .i64 ex] 23)).cell? ⟨w1.heap.size, 3, none⟩ = some (.int .i64 ex) := Bv02.out.cell 3
  go_wp2_with fail
  refine (H1.out _).mono ?_
  rintro e w3 ⟨rfl, hb⟩
  have Ba3 := hide (Ba2.out.below hb Ba2.out.lt)
  have Bv03 := hide (Bv02.out.below hb Bv02.out.lt)
  have HB3 := hide (HB2.out.trans (hb.mono HB2.out.size))
  clear hb Ba2 Bv02 HB2 ya0 ya1 ya2 ya3 yv00 yv01 yv02 yv03
  have ya0 : w3.cell? ⟨w.heap.size, 0, none⟩ = some (.int .i64 ca) := Ba3.out.cell 0
  have ya1 : w3.cell? ⟨w.heap.size, 1, none⟩ = some (.bool na) := Ba3.out.cell 1
  have ya2 : w3.cell? ⟨w.heap.size, 2, none⟩ = some (.string ta) := Ba3.out.cell 2
  have ya3 : w3.cell? ⟨w.heap.size, 3, none⟩ = some (.int .i64 ea) := Ba3.out.cell 3
  have yv00 : w3.cell? ⟨w1.heap.size, 0, none⟩ = some (.int .i64 cx) := Bv03.out.cell 0
  have yv01 : w3.cell? ⟨w1.heap.size, 1, none⟩ = some (.bool nx) := Bv03.out.cell 1
  have yv02 : w3.cell? ⟨w1.heap.size, 2, none⟩ = some (.string tx) := Bv03.out.cell 2
  have yv03 : w3.cell? ⟨w1.heap.size, 3, none⟩ = some (.int .i64 ex) := Bv03.out.cell 3
  have Ba4 := hide ((Ba3.out.alloc (.cells #[.int .i64 cx, .bool nx, .string tx, .int .i64 ex] 23)))
  have Bv04 := hide ((Bv03.out.alloc (.cells #[.int .i64 cx, .bool nx, .string tx, .int .i64 ex] 23)))
  have Bv14 := hide ((Blk.newAt w3 (w3.heap.size) (rfl) #[.int .i64 cx, .bool nx, .string tx, .int .i64 ex] 23))
  have HB4 : Hid (Below w.heap.size w (w3.alloc (.cells #[.int .i64 cx, .bool nx, .string tx, .int .i64 ex] 23))) := (HB3.out.alloc HB3.out.size _)
  clear Ba3 Bv03 HB3 ya0 ya1 ya2 ya3 yv00 yv01 yv02 yv03
  have ya0 : (w3.alloc (.cells #[.int .i64 cx, .bool nx, .string tx, .int .i64 ex] 23)).cell? ⟨w.heap.size, 0, none⟩ = some (.int .i64 ca) := Ba4.out.cell 0
  have ya1 : (w3.alloc (.cells #[.int .i64 cx, .bool nx, .string tx, .int .i64 ex] 23)).cell? ⟨w.heap.size, 1, none⟩ = some (.bool na) := Ba4.out.cell 1
  have ya2 : (w3.alloc (.cells #[.int .i64 cx, .bool nx, .string tx, .int .i64 ex] 23)).cell? ⟨w.heap.size, 2, none⟩ = some (.string ta) := Ba4.out.cell 2
  have ya3 : (w3.alloc (.cells #[.int .i64 cx, .bool nx, .string tx, .int .i64 ex] 23)).cell? ⟨w.heap.size, 3, none⟩ = some (.int .i64 ea) := Ba4.out.cell 3
  have yv00 : (w3.alloc (.cells #[.int .i64 cx, .bool nx, .string tx, .int .i64 ex] 23)).cell? ⟨w1.heap.size, 0, none⟩ = some (.int .i64 cx) := Bv04.out.cell 0
  have yv01 : (w3.alloc (.cells #[.int .i64 cx, .bool nx, .string tx, .int .i64 ex] 23)).cell? ⟨w1.heap.size, 1, none⟩ = some (.bool nx) := Bv04.out.cell 1
  have yv02 : (w3.alloc (.cells #[.int .i64 cx, .bool nx, .string tx, .int .i64 ex] 23)).cell? ⟨w1.heap.size, 2, none⟩ = some (.string tx) := Bv04.out.cell 2
  have yv03 : (w3.alloc (.cells #[.int .i64 cx, .bool nx, .string tx, .int .i64 ex] 23)).cell? ⟨w1.heap.size, 3, none⟩ = some (.int .i64 ex) := Bv04.out.cell 3
  have yv10 : (w3.alloc (.cells #[.int .i64 cx, .bool nx, .string tx, .int .i64 ex] 23)).cell? ⟨w3.heap.size, 0, none⟩ = some (.int .i64 cx) := Bv14.out.cell 0
  have yv11 : (w3.alloc (.cells #[.int .i64 cx, .bool nx, .string tx, .int .i64 ex] 23)).cell? ⟨w3.heap.size, 1, none⟩ = some (.bool nx) := Bv14.out.cell 1
  have yv12 : (w3.alloc (.cells #[.int .i64 cx, .bool nx, .string tx, .int .i64 ex] 23)).cell? ⟨w3.heap.size, 2, none⟩ = some (.string tx) := Bv14.out.cell 2
  have yv13 : (w3.alloc (.cells #[.int .i64 cx, .bool nx, .string tx, .int .i64 ex] 23)).cell? ⟨w3.heap.size, 3, none⟩ = some (.int .i64 ex) := Bv14.out.cell 3
  have HTW := hide (HT.out.below HB4.out)
  clear HT H0 H1
  go_wp2_with fail
  refine (rawake_any _ HTW.out).mono ?_
  rintro e w5 ⟨rfl, hb⟩
  have Ba5 := hide (Ba4.out.below hb Ba4.out.lt)
  have Bv05 := hide (Bv04.out.below hb Bv04.out.lt)
  have Bv15 := hide (Bv14.out.below hb Bv14.out.lt)
  have HB5 := hide (HB4.out.trans (hb.mono HB4.out.size))
  clear hb Ba4 Bv04 Bv14 HB4 ya0 ya1 ya2 ya3 yv00 yv01 yv02 yv03 yv10 yv11 yv12 yv13
  have ya0 : w5.cell? ⟨w.heap.size, 0, none⟩ = some (.int .i64 ca) := Ba5.out.cell 0
  have ya1 : w5.cell? ⟨w.heap.size, 1, none⟩ = some (.bool na) := Ba5.out.cell 1
  have ya2 : w5.cell? ⟨w.heap.size, 2, none⟩ = some (.string ta) := Ba5.out.cell 2
  have ya3 : w5.cell? ⟨w.heap.size, 3, none⟩ = some (.int .i64 ea) := Ba5.out.cell 3
  have yv00 : w5.cell? ⟨w1.heap.size, 0, none⟩ = some (.int .i64 cx) := Bv05.out.cell 0
  have yv01 : w5.cell? ⟨w1.heap.size, 1, none⟩ = some (.bool nx) := Bv05.out.cell 1
  have yv02 : w5.cell? ⟨w1.heap.size, 2, none⟩ = some (.string tx) := Bv05.out.cell 2
  have yv03 : w5.cell? ⟨w1.heap.size, 3, none⟩ = some (.int .i64 ex) := Bv05.out.cell 3
  have yv10 : w5.cell? ⟨w3.heap.size, 0, none⟩ = some (.int .i64 cx) := Bv15.out.cell 0
  have yv11 : w5.cell? ⟨w3.heap.size, 1, none⟩ = some (.bool nx) := Bv15.out.cell 1
  have yv12 : w5.cell? ⟨w3.heap.size, 2, none⟩ = some (.string tx) := Bv15.out.cell 2
  have yv13 : w5.cell? ⟨w3.heap.size, 3, none⟩ = some (.int .i64 ex) := Bv15.out.cell 3
  go_wp2
  go_ret
  exact ⟨rfl, HB5.out⟩

end Go.Proofs.YtckijnlolmbdiaaGreatDoor

namespace Go.Proofs.YtckijnlolmbdiaaGreatDoor

end Go.Proofs.YtckijnlolmbdiaaGreatDoor

namespace Go.Proofs.YtckijnlolmbdiaaGreatDoor
open Go.RowKit

/-- What the reference's functions answer: a list of digits, without noughts on top, that is the number n; it has at most m digits. -/
def RPost (w : World) (m n : Nat) (e : Ending) (w' : World) : Prop :=
  ∃ ao cap ys, e = .returned (.slice ao ys.length cap) ∧ ys.length ≤ cap ∧ At .u32 w' ao ys ∧ Is 65536 ys n ∧ ys.length ≤ m ∧ Below w.heap.size w w'

/-- A list that is being built by append. -/
def Grows (w wr : World) (v : Value) (ys : List Nat) : Prop := Below w.heap.size w wr ∧ wr.ownsRow w.heap.size 76 1 v ys.length (vals .u32 ys)

theorem Grows.at {w wr : World} {v : Value} {ys : List Nat} (h : Grows w wr v ys) : ∃ ao cap, v = .slice ao ys.length cap ∧ ys.length ≤ cap ∧ At .u32 wr ao ys := by
  obtain ⟨hb, hl, ho⟩ := h
  rcases ho with ⟨rfl, h0⟩ | ⟨g, cap, cur, rfl, hg, hh, hn, _, hs, ht⟩
  · obtain rfl : ys = [] := List.length_eq_zero_iff.1 h0
    exact ⟨none, 0, rfl, Nat.le_refl _, At.nil _ _ _⟩
  · refine ⟨_, cap, rfl, hn, .inr ⟨g, 0, rfl, lt_of_block hh, fun i hi => ?_⟩⟩
    simp only [World.cell?, hh]
    have hc : cur[i]? = (vals .u32 ys)[i]? := by
      rw [← ht, List.getElem?_take_of_lt (by omega), Array.getElem?_toList]
    simp only [Option.isSome_none, Bool.false_eq_true, if_false, Nat.zero_add, hc]
    simp [vals, hi]

theorem Grows.step {w wr w1 : World} {v v' : Value} {ys : List Nat} {d : Nat} (o : Obj) (h : Grows w wr v ys) (ho : w1.ownsRow w.heap.size 76 1 v' (ys.length + 1) (vals .u32 ys ++ [.int .u32 (d : Int)])) (hg : (wr.alloc o).grownBy w1 v.ownBlock) :
    Grows w w1 v' (ys ++ [d]) := by
  have hb := h.1.alloc (h.1.size) o
  refine ⟨hb.grown hg hb.size ?_, ?_⟩
  · intro k hk
    rcases h.2.2 with ⟨rfl, _⟩ | ⟨g, cap, cur, rfl, hgb, _⟩
    · simp [Value.ownBlock] at hk
    · simp [Value.ownBlock] at hk; omega
  · rw [List.length_append]
    have : vals .u32 (ys ++ [d]) = vals .u32 ys ++ [.int .u32 (d : Int)] := by simp [vals]
    rw [this]; exact ho

theorem and16 (a : Nat) (ha : a < B64) : bits .and .u64 (a : Int) 65535 % 4294967296 = ((a % 65536 : Nat) : Int) := by
  have h := bits_and_u64_nat a 65535 ha (by omega)
  rw [Nat.and_two_pow_sub_one_eq_mod a 16] at h
  rw [show (65535 : Int) = ((65535 : Nat) : Int) from rfl, h]
  omega

end Go.Proofs.YtckijnlolmbdiaaGreatDoor
