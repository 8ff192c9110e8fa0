/-
  What round's At, Digits and Step answer, whatever they are handed.
  Plain data of chapter 7: precisions, what is shown, and what the document says of them.
  What At, Digits and Step answer, case by case.
  Plain facts of what a precision rounds to.
  Variables of three, six and fourteen cells, all cells at once; what is answered by a function that hands back digits that are shown.
  Numbers that calls answer in a region that draws its order: where they lie, and what stays.
  Where the ways through a region meet that lays a Dec variable between its calls.
  Where the ways meet through the region that lays the variable for what a kind does.
-/
import Derived.Test.YtobloamnaemfnaaGreatDoorVB2
import Derived.Test.YtobloamnaemfnaaGreatDoorVB9
import Derived.Test.YtobloamnaemfnaaGreatDoorVB5
import Derived.Test.YtobloamnaemfnaaGreatDoorVB8
import Derived.Deep.RegionHeld3
import Derived.Deep.DeepCutAuto
import Derived.Deep.CutRange
namespace Go.Proofs.YtobloamnaemfnaaGreatDoor
open Go.RowKit

def zeroD : DecT := ⟨0, false, [], 0⟩

noncomputable def atR (ca : Int) (na : Bool) (l : List UInt8) (ea p m : Int) : DecT × Int := open Classical in
  if ¬ MayD ca na l ea then (zeroD, 52) else if m < 0 ∨ 8 ≤ m then (zeroD, 60) else if p < -4000 ∨ 4000 < p then (zeroD, 61) else rndD ⟨ca.toNat, na, l, ea⟩ 1 p m.toNat

noncomputable def digR (ca : Int) (na : Bool) (l : List UInt8) (ea n m : Int) : DecT × Int := open Classical in
  if ¬ MayD ca na l ea then (zeroD, 52) else if m < 0 ∨ 8 ≤ m then (zeroD, 60) else if n < 1 ∨ 1000 < n then (zeroD, 61) else rndD ⟨ca.toNat, na, l, ea⟩ 1 ((l.length : Int) + ea - n) m.toNat

def StepD (c : Int) (n : Bool) (l : List UInt8) : Prop := c = 0 ∧ n = false ∧ l ≠ [] ∧ l.length ≤ 32

noncomputable def stepR (ca : Int) (na : Bool) (l : List UInt8) (ea : Int) (cb : Int) (nb : Bool) (k : List UInt8) (eb m : Int) : DecT × Int := open Classical in
  if ¬ MayD cb nb k eb then (zeroD, 52) else if ¬ MayD ca na l ea then (zeroD, 52) else if m < 0 ∨ 8 ≤ m then (zeroD, 60) else if ¬ StepD cb nb k then (zeroD, 62) else rndD ⟨ca.toNat, na, l, ea⟩ (decV k) eb m.toNat

theorem may_cls {c : Int} {n : Bool} {l : List UInt8} {e : Int} (h : MayD c n l e) : c = ((c.toNat : Nat) : Int) := by
  rcases h with ⟨h, _⟩ | ⟨h, _⟩ | ⟨h, _⟩ <;> omega

theorem may_of {c : Int} {n : Bool} {l : List UInt8} {e : Int} (h : MayD c n l e) : May ⟨c.toNat, n, l, e⟩ := by
  unfold May
  simp only
  rw [← may_cls h]
  exact h

theorem ok49 : OkT (bys ⟨#[49]⟩) := ⟨by decide, fun h => absurd h (by decide), fun k hk => by
  have h0 : k = 0 := by
    have : (bys ⟨#[49]⟩).length = 1 := rfl
    omega
  subst h0
  decide⟩

theorem may_place {c : Int} {n : Bool} {t : ByteArray} {e : Int} (h : MayD c n (bys t) e) : -3000 ≤ e ∧ e ≤ 2000 ∧ -2000 ≤ (t.size : Int) + e ∧ (t.size : Int) + e ≤ 2000 := by
  rcases h with ⟨_, ⟨h1, h2⟩ | ⟨_, h1, h2, h3, _⟩⟩ | ⟨_, h1, h2⟩ | ⟨_, _, h1, h2⟩
  · rw [bys_nil] at h1; omega
  · rw [bys_len] at h1 h2 h3; omega
  · rw [bys_nil] at h1; omega
  · rw [bys_nil] at h1; omega

theorem may_okT {n : Bool} {t : ByteArray} {e : Int} (h : MayD 0 n (bys t) e) (h0 : t.size ≠ 0) : OkT (bys t) ∧ byt (bys t) 0 ≠ 48 := by
  rcases h with ⟨_, ⟨h1, _⟩ | ⟨h1, _, _, _, h2, _, h3⟩⟩ | ⟨h1, _⟩ | ⟨h1, _⟩
  · exact absurd (bys_nil.1 h1) h0
  · exact ⟨⟨h1, fun e => absurd e h2, h3⟩, h2⟩
  · omega
  · omega

theorem mult_raw (ca : Int) (na : Bool) (ta : ByteArray) (ea : Int) (nb : Bool) (tb : ByteArray) (eb m : Int) (h : MayD ca na (bys ta) ea) (m1 : 0 ≤ m) (m2 : m < 8) (hok : OkT (bys tb)) (h48 : byt (bys tb) 0 ≠ 48) (hs : tb.size ≤ 32) (h1 : -4000 ≤ eb) (h2 : eb ≤ 4000) (w : World) (htab : Tab w) :
    Calls Tryz.prog 170 #[dcV ca na ta ea, dcV 0 nb tb eb, .int .i64 m] w fun e w' => e = .returned (decErr (rndD ⟨ca.toNat, na, bys ta, ea⟩ (decV (bys tb)) eb m.toNat)) ∧ Below w.heap.size w w' := by
  have g := mult_any ⟨ca.toNat, na, bys ta, ea⟩ (may_of h) nb tb eb m.toNat w (by omega) hok h48 hs h1 h2 htab
  unfold decVal at g
  simp only at g
  rw [mk_bys, ← may_cls h, show ((m.toNat : Nat) : Int) = m by omega] at g
  exact g

set_option maxHeartbeats 1000000 in
theorem At_no (ca : Int) (na : Bool) (ta : ByteArray) (ea p m : Int) (w : World) (h : ¬ MayD ca na (bys ta) ea) : Calls Tryz.prog 123 #[dcV ca na ta ea, .int .i64 p, .int .i64 m] w fun e w' => e = .returned (.tuple #[dcV 0 false ⟨#[]⟩ 0, .int .i64 52]) ∧ Below w.heap.size w w' := by
  have CK := hide (fun W => check_no ca na ta ea m W h)
  have Ba0 := hide ((Blk.newAt w (w.heap.size) (rfl) #[.int .i64 ca, .bool na, .string ta, .int .i64 ea] 23).alloc (.cells #[.int .i64 0, .bool false, .string ⟨#[]⟩, .int .i64 0] 23))
  have Br0 := hide (Blk.newAt (w.alloc (.cells #[.int .i64 ca, .bool na, .string ta, .int .i64 ea] 23)) (w.heap.size + 1) (by simp) #[.int .i64 0, .bool false, .string ⟨#[]⟩, .int .i64 0] 23)
  have HB0 : Hid (Below w.heap.size w ((w.alloc (.cells #[.int .i64 ca, .bool na, .string ta, .int .i64 ea] 23)).alloc (.cells #[.int .i64 0, .bool false, .string ⟨#[]⟩, .int .i64 0] 23))) := (((Below.refl _ _).alloc (Nat.le_refl _) _).alloc (by simp <;> omega) _)
  go_enter Tryz.func123, Tryz.ntmps123
  go_wp2_with fail
  refine (CK.out _).mono ?_
  rintro e w1 ⟨rfl, hb⟩
  have Ba1 := hide (Ba0.out.below hb Ba0.out.lt)
  have Br1 := hide (Br0.out.below hb Br0.out.lt)
  have HB1 := hide (HB0.out.trans (hb.mono HB0.out.size))
  clear hb Ba0 Br0 HB0 
  obtain ⟨ya0, ya1, ya2, ya3⟩ := Ba1.out.four
  obtain ⟨yr0, yr1, yr2, yr3⟩ := Br1.out.four
  have fr0 := Br1.out.free 0
  have fr1 := Br1.out.free 1
  have fr2 := Br1.out.free 2
  have fr3 := Br1.out.free 3
  go_wp2
  refine bodyPost_ret (results_dec2 rfl _ _ _ _ _ _ _ rfl (Br1.out.put4 _ _ _ _)) rfl ?_
  exact ⟨rfl, below_put4 (HB1.out) (by omega) _ _ _ _⟩

set_option maxHeartbeats 1000000 in
theorem At_mlow (ca : Int) (na : Bool) (ta : ByteArray) (ea p m : Int) (w : World) (h : MayD ca na (bys ta) ea) (hm : m < 0) : Calls Tryz.prog 123 #[dcV ca na ta ea, .int .i64 p, .int .i64 m] w fun e w' => e = .returned (.tuple #[dcV 0 false ⟨#[]⟩ 0, .int .i64 60]) ∧ Below w.heap.size w w' := by
  have CK := hide (fun W => check_low ca na ta ea m W h hm)
  have Ba0 := hide ((Blk.newAt w (w.heap.size) (rfl) #[.int .i64 ca, .bool na, .string ta, .int .i64 ea] 23).alloc (.cells #[.int .i64 0, .bool false, .string ⟨#[]⟩, .int .i64 0] 23))
  have Br0 := hide (Blk.newAt (w.alloc (.cells #[.int .i64 ca, .bool na, .string ta, .int .i64 ea] 23)) (w.heap.size + 1) (by simp) #[.int .i64 0, .bool false, .string ⟨#[]⟩, .int .i64 0] 23)
  have HB0 : Hid (Below w.heap.size w ((w.alloc (.cells #[.int .i64 ca, .bool na, .string ta, .int .i64 ea] 23)).alloc (.cells #[.int .i64 0, .bool false, .string ⟨#[]⟩, .int .i64 0] 23))) := (((Below.refl _ _).alloc (Nat.le_refl _) _).alloc (by simp <;> omega) _)
  go_enter Tryz.func123, Tryz.ntmps123
  go_wp2_with fail
  refine (CK.out _).mono ?_
  rintro e w1 ⟨rfl, hb⟩
  have Ba1 := hide (Ba0.out.below hb Ba0.out.lt)
  have Br1 := hide (Br0.out.below hb Br0.out.lt)
  have HB1 := hide (HB0.out.trans (hb.mono HB0.out.size))
  clear hb Ba0 Br0 HB0 
  obtain ⟨ya0, ya1, ya2, ya3⟩ := Ba1.out.four
  obtain ⟨yr0, yr1, yr2, yr3⟩ := Br1.out.four
  have fr0 := Br1.out.free 0
  have fr1 := Br1.out.free 1
  have fr2 := Br1.out.free 2
  have fr3 := Br1.out.free 3
  go_wp2
  refine bodyPost_ret (results_dec2 rfl _ _ _ _ _ _ _ rfl (Br1.out.put4 _ _ _ _)) rfl ?_
  exact ⟨rfl, below_put4 (HB1.out) (by omega) _ _ _ _⟩

set_option maxHeartbeats 1000000 in
theorem At_mhigh (ca : Int) (na : Bool) (ta : ByteArray) (ea p m : Int) (w : World) (h : MayD ca na (bys ta) ea) (hm : 8 ≤ m) : Calls Tryz.prog 123 #[dcV ca na ta ea, .int .i64 p, .int .i64 m] w fun e w' => e = .returned (.tuple #[dcV 0 false ⟨#[]⟩ 0, .int .i64 60]) ∧ Below w.heap.size w w' := by
  have CK := hide (fun W => check_high ca na ta ea m W h hm)
  have Ba0 := hide ((Blk.newAt w (w.heap.size) (rfl) #[.int .i64 ca, .bool na, .string ta, .int .i64 ea] 23).alloc (.cells #[.int .i64 0, .bool false, .string ⟨#[]⟩, .int .i64 0] 23))
  have Br0 := hide (Blk.newAt (w.alloc (.cells #[.int .i64 ca, .bool na, .string ta, .int .i64 ea] 23)) (w.heap.size + 1) (by simp) #[.int .i64 0, .bool false, .string ⟨#[]⟩, .int .i64 0] 23)
  have HB0 : Hid (Below w.heap.size w ((w.alloc (.cells #[.int .i64 ca, .bool na, .string ta, .int .i64 ea] 23)).alloc (.cells #[.int .i64 0, .bool false, .string ⟨#[]⟩, .int .i64 0] 23))) := (((Below.refl _ _).alloc (Nat.le_refl _) _).alloc (by simp <;> omega) _)
  go_enter Tryz.func123, Tryz.ntmps123
  go_wp2_with fail
  refine (CK.out _).mono ?_
  rintro e w1 ⟨rfl, hb⟩
  have Ba1 := hide (Ba0.out.below hb Ba0.out.lt)
  have Br1 := hide (Br0.out.below hb Br0.out.lt)
  have HB1 := hide (HB0.out.trans (hb.mono HB0.out.size))
  clear hb Ba0 Br0 HB0 
  obtain ⟨ya0, ya1, ya2, ya3⟩ := Ba1.out.four
  obtain ⟨yr0, yr1, yr2, yr3⟩ := Br1.out.four
  have fr0 := Br1.out.free 0
  have fr1 := Br1.out.free 1
  have fr2 := Br1.out.free 2
  have fr3 := Br1.out.free 3
  go_wp2
  refine bodyPost_ret (results_dec2 rfl _ _ _ _ _ _ _ rfl (Br1.out.put4 _ _ _ _)) rfl ?_
  exact ⟨rfl, below_put4 (HB1.out) (by omega) _ _ _ _⟩

set_option maxHeartbeats 1000000 in
theorem At_low (ca : Int) (na : Bool) (ta : ByteArray) (ea p m : Int) (w : World) (h : MayD ca na (bys ta) ea) (m1 : 0 ≤ m) (m2 : m < 8) (hp : p < -4000) : Calls Tryz.prog 123 #[dcV ca na ta ea, .int .i64 p, .int .i64 m] w fun e w' => e = .returned (.tuple #[dcV 0 false ⟨#[]⟩ 0, .int .i64 61]) ∧ Below w.heap.size w w' := by
  have CK := hide (fun W => check_ok ca na ta ea m W h m1 m2)
  have Ba0 := hide ((Blk.newAt w (w.heap.size) (rfl) #[.int .i64 ca, .bool na, .string ta, .int .i64 ea] 23).alloc (.cells #[.int .i64 0, .bool false, .string ⟨#[]⟩, .int .i64 0] 23))
  have Br0 := hide (Blk.newAt (w.alloc (.cells #[.int .i64 ca, .bool na, .string ta, .int .i64 ea] 23)) (w.heap.size + 1) (by simp) #[.int .i64 0, .bool false, .string ⟨#[]⟩, .int .i64 0] 23)
  have HB0 : Hid (Below w.heap.size w ((w.alloc (.cells #[.int .i64 ca, .bool na, .string ta, .int .i64 ea] 23)).alloc (.cells #[.int .i64 0, .bool false, .string ⟨#[]⟩, .int .i64 0] 23))) := (((Below.refl _ _).alloc (Nat.le_refl _) _).alloc (by simp <;> omega) _)
  go_enter Tryz.func123, Tryz.ntmps123
  go_wp2_with fail
  refine (CK.out _).mono ?_
  rintro e w1 ⟨rfl, hb⟩
  have Ba1 := hide (Ba0.out.below hb Ba0.out.lt)
  have Br1 := hide (Br0.out.below hb Br0.out.lt)
  have HB1 := hide (HB0.out.trans (hb.mono HB0.out.size))
  clear hb Ba0 Br0 HB0 
  obtain ⟨ya0, ya1, ya2, ya3⟩ := Ba1.out.four
  obtain ⟨yr0, yr1, yr2, yr3⟩ := Br1.out.four
  have fr0 := Br1.out.free 0
  have fr1 := Br1.out.free 1
  have fr2 := Br1.out.free 2
  have fr3 := Br1.out.free 3
  go_wp2
  refine bodyPost_ret (results_dec2 rfl _ _ _ _ _ _ _ rfl (Br1.out.put4 _ _ _ _)) rfl ?_
  exact ⟨rfl, below_put4 (HB1.out) (by omega) _ _ _ _⟩

set_option maxHeartbeats 1000000 in
theorem At_high (ca : Int) (na : Bool) (ta : ByteArray) (ea p m : Int) (w : World) (h : MayD ca na (bys ta) ea) (m1 : 0 ≤ m) (m2 : m < 8) (hp : 4000 < p) : Calls Tryz.prog 123 #[dcV ca na ta ea, .int .i64 p, .int .i64 m] w fun e w' => e = .returned (.tuple #[dcV 0 false ⟨#[]⟩ 0, .int .i64 61]) ∧ Below w.heap.size w w' := by
  have CK := hide (fun W => check_ok ca na ta ea m W h m1 m2)
  have Ba0 := hide ((Blk.newAt w (w.heap.size) (rfl) #[.int .i64 ca, .bool na, .string ta, .int .i64 ea] 23).alloc (.cells #[.int .i64 0, .bool false, .string ⟨#[]⟩, .int .i64 0] 23))
  have Br0 := hide (Blk.newAt (w.alloc (.cells #[.int .i64 ca, .bool na, .string ta, .int .i64 ea] 23)) (w.heap.size + 1) (by simp) #[.int .i64 0, .bool false, .string ⟨#[]⟩, .int .i64 0] 23)
  have HB0 : Hid (Below w.heap.size w ((w.alloc (.cells #[.int .i64 ca, .bool na, .string ta, .int .i64 ea] 23)).alloc (.cells #[.int .i64 0, .bool false, .string ⟨#[]⟩, .int .i64 0] 23))) := (((Below.refl _ _).alloc (Nat.le_refl _) _).alloc (by simp <;> omega) _)
  go_enter Tryz.func123, Tryz.ntmps123
  go_wp2_with fail
  refine (CK.out _).mono ?_
  rintro e w1 ⟨rfl, hb⟩
  have Ba1 := hide (Ba0.out.below hb Ba0.out.lt)
  have Br1 := hide (Br0.out.below hb Br0.out.lt)
  have HB1 := hide (HB0.out.trans (hb.mono HB0.out.size))
  clear hb Ba0 Br0 HB0 
  obtain ⟨ya0, ya1, ya2, ya3⟩ := Ba1.out.four
  obtain ⟨yr0, yr1, yr2, yr3⟩ := Br1.out.four
  have fr0 := Br1.out.free 0
  have fr1 := Br1.out.free 1
  have fr2 := Br1.out.free 2
  have fr3 := Br1.out.free 3
  go_wp2
  refine bodyPost_ret (results_dec2 rfl _ _ _ _ _ _ _ rfl (Br1.out.put4 _ _ _ _)) rfl ?_
  exact ⟨rfl, below_put4 (HB1.out) (by omega) _ _ _ _⟩

set_option maxHeartbeats 4000000 in
theorem At_in (ca : Int) (na : Bool) (ta : ByteArray) (ea p m : Int) (w : World) (h : MayD ca na (bys ta) ea) (m1 : 0 ≤ m) (m2 : m < 8) (p1 : -4000 ≤ p) (p2 : p ≤ 4000) (htab : Tab w) : Calls Tryz.prog 123 #[dcV ca na ta ea, .int .i64 p, .int .i64 m] w fun e w' => e = .returned (decErr (rndD ⟨ca.toNat, na, bys ta, ea⟩ 1 p m.toNat)) ∧ Below w.heap.size w w' := by
  have CK := hide (fun W => check_ok ca na ta ea m W h m1 m2)
  have bd := may_place h
  have MG := fun (W : World) (hT : Tab W) => mult_raw ca na ta ea false ⟨#[49]⟩ p m h m1 m2 ok49 (by decide) (by decide) (by omega) (by omega) W hT
  rw [show decV (bys ⟨#[49]⟩) = 1 from rfl] at MG
  rcases hR : rndD ⟨ca.toNat, na, bys ta, ea⟩ 1 p m.toNat with ⟨⟨cc, nn, ll, ee⟩, er⟩
  rw [hR] at MG
  unfold decErr decVal at MG ⊢
  simp only at MG ⊢
  obtain ⟨D, hD⟩ : ∃ D : ByteArray, D = ⟨ll.toArray⟩ := ⟨_, rfl⟩
  rw [← hD] at MG ⊢
  have MU := hide MG
  have HT := hide htab
  clear MG hR hD htab
  clear h bd
  have Ba0 := hide ((Blk.newAt w (w.heap.size) (rfl) #[.int .i64 ca, .bool na, .string ta, .int .i64 ea] 23).alloc (.cells #[.int .i64 0, .bool false, .string ⟨#[]⟩, .int .i64 0] 23))
  have Br0 := hide (Blk.newAt (w.alloc (.cells #[.int .i64 ca, .bool na, .string ta, .int .i64 ea] 23)) (w.heap.size + 1) (by simp) #[.int .i64 0, .bool false, .string ⟨#[]⟩, .int .i64 0] 23)
  have HB0 : Hid (Below w.heap.size w ((w.alloc (.cells #[.int .i64 ca, .bool na, .string ta, .int .i64 ea] 23)).alloc (.cells #[.int .i64 0, .bool false, .string ⟨#[]⟩, .int .i64 0] 23))) := (((Below.refl _ _).alloc (Nat.le_refl _) _).alloc (by simp <;> omega) _)
  go_enter Tryz.func123, Tryz.ntmps123
  go_wp2_with fail
  refine (CK.out _).mono ?_
  rintro e w1 ⟨rfl, hb⟩
  clear CK
  have Ba1 := hide (Ba0.out.below hb Ba0.out.lt)
  have Br1 := hide (Br0.out.below hb Br0.out.lt)
  have HB1 := hide (HB0.out.trans (hb.mono HB0.out.size))
  clear hb Ba0 Br0 HB0 
  obtain ⟨ya0, ya1, ya2, ya3⟩ := Ba1.out.four
  obtain ⟨yr0, yr1, yr2, yr3⟩ := Br1.out.four
  have HTC := hide (HT.out.below HB1.out)
  clear HT
  have HL : Hid (w.heap.size < w1.heap.size ∧ w.heap.size + 1 < w1.heap.size) := ⟨Ba1.out.lt, Br1.out.lt⟩
  obtain ⟨G, hG⟩ : ∃ G, G = w.heap.size + 1 := ⟨_, rfl⟩
  have gn0 : ¬ G = w.heap.size := by omega
  have gn1 : ¬ w.heap.size = G := by omega
  have gle : w.heap.size ≤ G := by omega
  have HG := hide hG
  rw [← hG] at Br1
  clear hG HL ya0 ya1 ya2 ya3 yr0 yr1 yr2 yr3
  have d0 : w1.cell? ⟨w.heap.size, 0, none⟩ = some (.int .i64 ca) := Ba1.out.cell 0
  have d1 : w1.cell? ⟨w.heap.size, 1, none⟩ = some (.bool na) := Ba1.out.cell 1
  have d2 : w1.cell? ⟨w.heap.size, 2, none⟩ = some (.string ta) := Ba1.out.cell 2
  have d3 : w1.cell? ⟨w.heap.size, 3, none⟩ = some (.int .i64 ea) := Ba1.out.cell 3
  have HC : Hid (∀ w', Below w1.heap.size w1 w' → w'.cell? ⟨w.heap.size, 0, none⟩ = some (.int .i64 ca) ∧ w'.cell? ⟨w.heap.size, 1, none⟩ = some (.bool na) ∧ w'.cell? ⟨w.heap.size, 2, none⟩ = some (.string ta) ∧ w'.cell? ⟨w.heap.size, 3, none⟩ = some (.int .i64 ea) ∧ w'.cell? ⟨G, 0, none⟩ = some (.int .i64 0) ∧ w'.cell? ⟨G, 1, none⟩ = some (.bool false) ∧ w'.cell? ⟨G, 2, none⟩ = some (.string ⟨#[]⟩) ∧ w'.cell? ⟨G, 3, none⟩ = some (.int .i64 0) ∧ w'.frozen? ⟨G, 0, none⟩ = false ∧ w'.frozen? ⟨G, 1, none⟩ = false ∧ w'.frozen? ⟨G, 2, none⟩ = false ∧ w'.frozen? ⟨G, 3, none⟩ = false) := by
    intro w' hb
    have Ba1q := Ba1.out.below hb Ba1.out.lt
    have Br1q := Br1.out.below hb Br1.out.lt
    exact ⟨Ba1q.cell 0, Ba1q.cell 1, Ba1q.cell 2, Ba1q.cell 3, Br1q.cell 0, Br1q.cell 1, Br1q.cell 2, Br1q.cell 3, Br1q.free 0, Br1q.free 1, Br1q.free 2, Br1q.free 3⟩
  have b0 : Hid (Below w1.heap.size w1 w1.drew) := bdrewD w1
  have C0 : Hid (∀ X, Hid (Below w1.heap.size w1 X) → Calls Tryz.prog 171 #[.int .i64 p] X fun e w' => e = .returned (.agg #[.int .i64 0, .bool false, .string ⟨#[49]⟩, .int .i64 p]) ∧ Hid (Below w1.heap.size w1 w') ∧ w'.cell? ⟨w.heap.size, 0, none⟩ = some (.int .i64 ca) ∧ w'.cell? ⟨w.heap.size, 1, none⟩ = some (.bool na) ∧ w'.cell? ⟨w.heap.size, 2, none⟩ = some (.string ta) ∧ w'.cell? ⟨w.heap.size, 3, none⟩ = some (.int .i64 ea) ∧ w'.cell? ⟨G, 0, none⟩ = some (.int .i64 0) ∧ w'.cell? ⟨G, 1, none⟩ = some (.bool false) ∧ w'.cell? ⟨G, 2, none⟩ = some (.string ⟨#[]⟩) ∧ w'.cell? ⟨G, 3, none⟩ = some (.int .i64 0) ∧ w'.frozen? ⟨G, 0, none⟩ = false ∧ w'.frozen? ⟨G, 1, none⟩ = false ∧ w'.frozen? ⟨G, 2, none⟩ = false ∧ w'.frozen? ⟨G, 3, none⟩ = false) := by
    intro X  bX 
    refine (powerOfTen_any p X).mono ?_
    rintro e w' ⟨rfl, hb⟩
    have bb := bX.out.trans (hb.mono bX.out.size)
    exact ⟨rfl, bb, HC.out _ bb⟩
  have C1 : Hid (∀ X, Hid (Below w1.heap.size w1 X) → Calls Tryz.prog 170 #[dcV ca na ta ea, dcV 0 false ⟨#[49]⟩ p, .int .i64 m] X fun e w' => e = .returned (.tuple #[.agg #[.int .i64 (cc : Int), .bool nn, .string D, .int .i64 ee], .int .i64 er]) ∧ Hid (Below w1.heap.size w1 w') ∧ w'.cell? ⟨w.heap.size, 0, none⟩ = some (.int .i64 ca) ∧ w'.cell? ⟨w.heap.size, 1, none⟩ = some (.bool na) ∧ w'.cell? ⟨w.heap.size, 2, none⟩ = some (.string ta) ∧ w'.cell? ⟨w.heap.size, 3, none⟩ = some (.int .i64 ea) ∧ w'.cell? ⟨G, 0, none⟩ = some (.int .i64 0) ∧ w'.cell? ⟨G, 1, none⟩ = some (.bool false) ∧ w'.cell? ⟨G, 2, none⟩ = some (.string ⟨#[]⟩) ∧ w'.cell? ⟨G, 3, none⟩ = some (.int .i64 0) ∧ w'.frozen? ⟨G, 0, none⟩ = false ∧ w'.frozen? ⟨G, 1, none⟩ = false ∧ w'.frozen? ⟨G, 2, none⟩ = false ∧ w'.frozen? ⟨G, 3, none⟩ = false) := by
    intro X  bX 
    refine (MU.out X (HTC.out.below bX.out)).mono ?_
    rintro e w' ⟨rfl, hb⟩
    have bb := bX.out.trans (hb.mono bX.out.size)
    exact ⟨rfl, bb, HC.out _ bb⟩
  have BRF : Hid (∀ w', Below w1.heap.size w1 w' → Below w.heap.size w w' ∧ Blk w' G #[.int .i64 0, .bool false, .string ⟨#[]⟩, .int .i64 0] 23) := fun w' hb => ⟨HB1.out.trans (hb.mono HB1.out.size), Br1.out.below hb Br1.out.lt⟩
  clear HC Ba1 Br1 HB1 HTC MU
  go_wp2_with fail
  simp only [← HG.out]
  have mk0 : True := trivial
  go_region_held3 (fun w' => w'.cell? ⟨w.heap.size, 0, none⟩ = some (.int .i64 ca) ∧ w'.cell? ⟨w.heap.size, 1, none⟩ = some (.bool na) ∧ w'.cell? ⟨w.heap.size, 2, none⟩ = some (.string ta) ∧ w'.cell? ⟨w.heap.size, 3, none⟩ = some (.int .i64 ea)) (go_keep) (first
    | (clear mk0; go_at_call 171; refine (C0.out _  b0 ).mono ?_; rintro e v1 ⟨rfl, b1, q0_0, q0_1, q0_2, q0_3, q0_4, q0_5, q0_6, q0_7, q0_8, q0_9, q0_10, q0_11⟩; have mk1 : True := trivial)
    | (clear mk1; go_at_call 170; refine (C1.out _  b1 ).mono ?_; rintro e v2 ⟨rfl, b2, q1_0, q1_1, q1_2, q1_3, q1_4, q1_5, q1_6, q1_7, q1_8, q1_9, q1_10, q1_11⟩; have mk2 : True := trivial))
  obtain ⟨hbel, hblk⟩ := BRF.out _ b2.out
  have HBL := hide hbel
  have QR := hide hblk
  clear hbel hblk BRF b0 b1 b2 C0 C1
  repeat (first | go_values | go_skip | go_guarded | go_step | go_upon)
  refine bodyPost_ret (results_dec2 rfl _ _ _ _ _ _ _ rfl (QR.out.put4 _ _ _ _)) rfl ?_
  exact ⟨rfl, below_put4 HBL.out gle _ _ _ _⟩

theorem At_any (ca : Int) (na : Bool) (ta : ByteArray) (ea p m : Int) (w : World) (htab : Tab w) : Calls Tryz.prog 123 #[dcV ca na ta ea, .int .i64 p, .int .i64 m] w fun e w' => e = .returned (decErr (atR ca na (bys ta) ea p m)) ∧ Below w.heap.size w w' := by
  unfold atR
  by_cases h : MayD ca na (bys ta) ea
  · rw [if_neg (fun g => g h)]
    by_cases h1 : m < 0
    · rw [if_pos (.inl h1)]
      exact At_mlow ca na ta ea p m w h h1
    · by_cases h2 : 8 ≤ m
      · rw [if_pos (.inr h2)]
        exact At_mhigh ca na ta ea p m w h h2
      · rw [if_neg (by omega)]
        by_cases h3 : p < -4000
        · rw [if_pos (.inl h3)]
          exact At_low ca na ta ea p m w h (by omega) (by omega) h3
        · by_cases h4 : 4000 < p
          · rw [if_pos (.inr h4)]
            exact At_high ca na ta ea p m w h (by omega) (by omega) h4
          · rw [if_neg (by omega)]
            exact At_in ca na ta ea p m w h (by omega) (by omega) (by omega) (by omega) htab
  · rw [if_pos h]
    exact At_no ca na ta ea p m w h

set_option maxHeartbeats 1000000 in
theorem Step_bno (ca : Int) (na : Bool) (ta : ByteArray) (ea cb : Int) (nb : Bool) (tb : ByteArray) (eb m : Int) (w : World) (hb : ¬ MayD cb nb (bys tb) eb) : Calls Tryz.prog 127 #[dcV ca na ta ea, dcV cb nb tb eb, .int .i64 m] w fun e w' => e = .returned (.tuple #[dcV 0 false ⟨#[]⟩ 0, .int .i64 52]) ∧ Below w.heap.size w w' := by
  have K0 := hide (fun W => dmay_no cb nb tb eb W hb)
  have Ba0 := hide (((Blk.newAt w (w.heap.size) (rfl) #[.int .i64 ca, .bool na, .string ta, .int .i64 ea] 23).alloc (.cells #[.int .i64 cb, .bool nb, .string tb, .int .i64 eb] 23)).alloc (.cells #[.int .i64 0, .bool false, .string ⟨#[]⟩, .int .i64 0] 23))
  have Bb0 := hide ((Blk.newAt (w.alloc (.cells #[.int .i64 ca, .bool na, .string ta, .int .i64 ea] 23)) (w.heap.size + 1) (by simp) #[.int .i64 cb, .bool nb, .string tb, .int .i64 eb] 23).alloc (.cells #[.int .i64 0, .bool false, .string ⟨#[]⟩, .int .i64 0] 23))
  have Br0 := hide (Blk.newAt ((w.alloc (.cells #[.int .i64 ca, .bool na, .string ta, .int .i64 ea] 23)).alloc (.cells #[.int .i64 cb, .bool nb, .string tb, .int .i64 eb] 23)) (w.heap.size + 1 + 1) (by simp) #[.int .i64 0, .bool false, .string ⟨#[]⟩, .int .i64 0] 23)
  have HB0 : Hid (Below w.heap.size w (((w.alloc (.cells #[.int .i64 ca, .bool na, .string ta, .int .i64 ea] 23)).alloc (.cells #[.int .i64 cb, .bool nb, .string tb, .int .i64 eb] 23)).alloc (.cells #[.int .i64 0, .bool false, .string ⟨#[]⟩, .int .i64 0] 23))) := ((((Below.refl _ _).alloc (Nat.le_refl _) _).alloc (by simp <;> omega) _).alloc (by simp <;> omega) _)
  go_enter Tryz.func127, Tryz.ntmps127
  go_wp2_with fail
  refine (K0.out _).mono ?_
  rintro e w1 ⟨rfl, hb⟩
  have Ba1 := hide (Ba0.out.below hb Ba0.out.lt)
  have Bb1 := hide (Bb0.out.below hb Bb0.out.lt)
  have Br1 := hide (Br0.out.below hb Br0.out.lt)
  have HB1 := hide (HB0.out.trans (hb.mono HB0.out.size))
  clear hb Ba0 Bb0 Br0 HB0 
  obtain ⟨ya0, ya1, ya2, ya3⟩ := Ba1.out.four
  obtain ⟨yb0, yb1, yb2, yb3⟩ := Bb1.out.four
  obtain ⟨yr0, yr1, yr2, yr3⟩ := Br1.out.four
  have fr0 := Br1.out.free 0
  have fr1 := Br1.out.free 1
  have fr2 := Br1.out.free 2
  have fr3 := Br1.out.free 3
  go_wp2
  refine bodyPost_ret (results_dec2 rfl _ _ _ _ _ _ _ rfl (Br1.out.put4 _ _ _ _)) rfl ?_
  exact ⟨rfl, below_put4 (HB1.out) (by omega) _ _ _ _⟩

set_option maxHeartbeats 1000000 in
theorem Step_no (ca : Int) (na : Bool) (ta : ByteArray) (ea cb : Int) (nb : Bool) (tb : ByteArray) (eb m : Int) (w : World) (hb : MayD cb nb (bys tb) eb) (h : ¬ MayD ca na (bys ta) ea) : Calls Tryz.prog 127 #[dcV ca na ta ea, dcV cb nb tb eb, .int .i64 m] w fun e w' => e = .returned (.tuple #[dcV 0 false ⟨#[]⟩ 0, .int .i64 52]) ∧ Below w.heap.size w w' := by
  have K0 := hide (fun W => dmay_yes cb nb tb eb W hb)
  have K1 := hide (fun W => check_no ca na ta ea m W h)
  have Ba0 := hide (((Blk.newAt w (w.heap.size) (rfl) #[.int .i64 ca, .bool na, .string ta, .int .i64 ea] 23).alloc (.cells #[.int .i64 cb, .bool nb, .string tb, .int .i64 eb] 23)).alloc (.cells #[.int .i64 0, .bool false, .string ⟨#[]⟩, .int .i64 0] 23))
  have Bb0 := hide ((Blk.newAt (w.alloc (.cells #[.int .i64 ca, .bool na, .string ta, .int .i64 ea] 23)) (w.heap.size + 1) (by simp) #[.int .i64 cb, .bool nb, .string tb, .int .i64 eb] 23).alloc (.cells #[.int .i64 0, .bool false, .string ⟨#[]⟩, .int .i64 0] 23))
  have Br0 := hide (Blk.newAt ((w.alloc (.cells #[.int .i64 ca, .bool na, .string ta, .int .i64 ea] 23)).alloc (.cells #[.int .i64 cb, .bool nb, .string tb, .int .i64 eb] 23)) (w.heap.size + 1 + 1) (by simp) #[.int .i64 0, .bool false, .string ⟨#[]⟩, .int .i64 0] 23)
  have HB0 : Hid (Below w.heap.size w (((w.alloc (.cells #[.int .i64 ca, .bool na, .string ta, .int .i64 ea] 23)).alloc (.cells #[.int .i64 cb, .bool nb, .string tb, .int .i64 eb] 23)).alloc (.cells #[.int .i64 0, .bool false, .string ⟨#[]⟩, .int .i64 0] 23))) := ((((Below.refl _ _).alloc (Nat.le_refl _) _).alloc (by simp <;> omega) _).alloc (by simp <;> omega) _)
  go_enter Tryz.func127, Tryz.ntmps127
  go_wp2_with fail
  refine (K0.out _).mono ?_
  rintro e w1 ⟨rfl, hb⟩
  have Ba1 := hide (Ba0.out.below hb Ba0.out.lt)
  have Bb1 := hide (Bb0.out.below hb Bb0.out.lt)
  have Br1 := hide (Br0.out.below hb Br0.out.lt)
  have HB1 := hide (HB0.out.trans (hb.mono HB0.out.size))
  clear hb Ba0 Bb0 Br0 HB0 
  obtain ⟨ya0, ya1, ya2, ya3⟩ := Ba1.out.four
  obtain ⟨yb0, yb1, yb2, yb3⟩ := Bb1.out.four
  obtain ⟨yr0, yr1, yr2, yr3⟩ := Br1.out.four
  go_wp2_with fail
  refine (K1.out _).mono ?_
  rintro e w2 ⟨rfl, hb⟩
  have Ba2 := hide (Ba1.out.below hb Ba1.out.lt)
  have Bb2 := hide (Bb1.out.below hb Bb1.out.lt)
  have Br2 := hide (Br1.out.below hb Br1.out.lt)
  have HB2 := hide (HB1.out.trans (hb.mono HB1.out.size))
  clear hb Ba1 Bb1 Br1 HB1 ya0 ya1 ya2 ya3 yb0 yb1 yb2 yb3 yr0 yr1 yr2 yr3
  obtain ⟨ya0, ya1, ya2, ya3⟩ := Ba2.out.four
  obtain ⟨yb0, yb1, yb2, yb3⟩ := Bb2.out.four
  obtain ⟨yr0, yr1, yr2, yr3⟩ := Br2.out.four
  have fr0 := Br2.out.free 0
  have fr1 := Br2.out.free 1
  have fr2 := Br2.out.free 2
  have fr3 := Br2.out.free 3
  go_wp2
  refine bodyPost_ret (results_dec2 rfl _ _ _ _ _ _ _ rfl (Br2.out.put4 _ _ _ _)) rfl ?_
  exact ⟨rfl, below_put4 (HB2.out) (by omega) _ _ _ _⟩

set_option maxHeartbeats 1000000 in
theorem Step_mlow (ca : Int) (na : Bool) (ta : ByteArray) (ea cb : Int) (nb : Bool) (tb : ByteArray) (eb m : Int) (w : World) (hb : MayD cb nb (bys tb) eb) (h : MayD ca na (bys ta) ea) (hm : m < 0) : Calls Tryz.prog 127 #[dcV ca na ta ea, dcV cb nb tb eb, .int .i64 m] w fun e w' => e = .returned (.tuple #[dcV 0 false ⟨#[]⟩ 0, .int .i64 60]) ∧ Below w.heap.size w w' := by
  have K0 := hide (fun W => dmay_yes cb nb tb eb W hb)
  have K1 := hide (fun W => check_low ca na ta ea m W h hm)
  have Ba0 := hide (((Blk.newAt w (w.heap.size) (rfl) #[.int .i64 ca, .bool na, .string ta, .int .i64 ea] 23).alloc (.cells #[.int .i64 cb, .bool nb, .string tb, .int .i64 eb] 23)).alloc (.cells #[.int .i64 0, .bool false, .string ⟨#[]⟩, .int .i64 0] 23))
  have Bb0 := hide ((Blk.newAt (w.alloc (.cells #[.int .i64 ca, .bool na, .string ta, .int .i64 ea] 23)) (w.heap.size + 1) (by simp) #[.int .i64 cb, .bool nb, .string tb, .int .i64 eb] 23).alloc (.cells #[.int .i64 0, .bool false, .string ⟨#[]⟩, .int .i64 0] 23))
  have Br0 := hide (Blk.newAt ((w.alloc (.cells #[.int .i64 ca, .bool na, .string ta, .int .i64 ea] 23)).alloc (.cells #[.int .i64 cb, .bool nb, .string tb, .int .i64 eb] 23)) (w.heap.size + 1 + 1) (by simp) #[.int .i64 0, .bool false, .string ⟨#[]⟩, .int .i64 0] 23)
  have HB0 : Hid (Below w.heap.size w (((w.alloc (.cells #[.int .i64 ca, .bool na, .string ta, .int .i64 ea] 23)).alloc (.cells #[.int .i64 cb, .bool nb, .string tb, .int .i64 eb] 23)).alloc (.cells #[.int .i64 0, .bool false, .string ⟨#[]⟩, .int .i64 0] 23))) := ((((Below.refl _ _).alloc (Nat.le_refl _) _).alloc (by simp <;> omega) _).alloc (by simp <;> omega) _)
  go_enter Tryz.func127, Tryz.ntmps127
  go_wp2_with fail
  refine (K0.out _).mono ?_
  rintro e w1 ⟨rfl, hb⟩
  have Ba1 := hide (Ba0.out.below hb Ba0.out.lt)
  have Bb1 := hide (Bb0.out.below hb Bb0.out.lt)
  have Br1 := hide (Br0.out.below hb Br0.out.lt)
  have HB1 := hide (HB0.out.trans (hb.mono HB0.out.size))
  clear hb Ba0 Bb0 Br0 HB0 
  obtain ⟨ya0, ya1, ya2, ya3⟩ := Ba1.out.four
  obtain ⟨yb0, yb1, yb2, yb3⟩ := Bb1.out.four
  obtain ⟨yr0, yr1, yr2, yr3⟩ := Br1.out.four
  go_wp2_with fail
  refine (K1.out _).mono ?_
  rintro e w2 ⟨rfl, hb⟩
  have Ba2 := hide (Ba1.out.below hb Ba1.out.lt)
  have Bb2 := hide (Bb1.out.below hb Bb1.out.lt)
  have Br2 := hide (Br1.out.below hb Br1.out.lt)
  have HB2 := hide (HB1.out.trans (hb.mono HB1.out.size))
  clear hb Ba1 Bb1 Br1 HB1 ya0 ya1 ya2 ya3 yb0 yb1 yb2 yb3 yr0 yr1 yr2 yr3
  obtain ⟨ya0, ya1, ya2, ya3⟩ := Ba2.out.four
  obtain ⟨yb0, yb1, yb2, yb3⟩ := Bb2.out.four
  obtain ⟨yr0, yr1, yr2, yr3⟩ := Br2.out.four
  have fr0 := Br2.out.free 0
  have fr1 := Br2.out.free 1
  have fr2 := Br2.out.free 2
  have fr3 := Br2.out.free 3
  go_wp2
  refine bodyPost_ret (results_dec2 rfl _ _ _ _ _ _ _ rfl (Br2.out.put4 _ _ _ _)) rfl ?_
  exact ⟨rfl, below_put4 (HB2.out) (by omega) _ _ _ _⟩

set_option maxHeartbeats 1000000 in
theorem Step_mhigh (ca : Int) (na : Bool) (ta : ByteArray) (ea cb : Int) (nb : Bool) (tb : ByteArray) (eb m : Int) (w : World) (hb : MayD cb nb (bys tb) eb) (h : MayD ca na (bys ta) ea) (hm : 8 ≤ m) : Calls Tryz.prog 127 #[dcV ca na ta ea, dcV cb nb tb eb, .int .i64 m] w fun e w' => e = .returned (.tuple #[dcV 0 false ⟨#[]⟩ 0, .int .i64 60]) ∧ Below w.heap.size w w' := by
  have K0 := hide (fun W => dmay_yes cb nb tb eb W hb)
  have K1 := hide (fun W => check_high ca na ta ea m W h hm)
  have Ba0 := hide (((Blk.newAt w (w.heap.size) (rfl) #[.int .i64 ca, .bool na, .string ta, .int .i64 ea] 23).alloc (.cells #[.int .i64 cb, .bool nb, .string tb, .int .i64 eb] 23)).alloc (.cells #[.int .i64 0, .bool false, .string ⟨#[]⟩, .int .i64 0] 23))
  have Bb0 := hide ((Blk.newAt (w.alloc (.cells #[.int .i64 ca, .bool na, .string ta, .int .i64 ea] 23)) (w.heap.size + 1) (by simp) #[.int .i64 cb, .bool nb, .string tb, .int .i64 eb] 23).alloc (.cells #[.int .i64 0, .bool false, .string ⟨#[]⟩, .int .i64 0] 23))
  have Br0 := hide (Blk.newAt ((w.alloc (.cells #[.int .i64 ca, .bool na, .string ta, .int .i64 ea] 23)).alloc (.cells #[.int .i64 cb, .bool nb, .string tb, .int .i64 eb] 23)) (w.heap.size + 1 + 1) (by simp) #[.int .i64 0, .bool false, .string ⟨#[]⟩, .int .i64 0] 23)
  have HB0 : Hid (Below w.heap.size w (((w.alloc (.cells #[.int .i64 ca, .bool na, .string ta, .int .i64 ea] 23)).alloc (.cells #[.int .i64 cb, .bool nb, .string tb, .int .i64 eb] 23)).alloc (.cells #[.int .i64 0, .bool false, .string ⟨#[]⟩, .int .i64 0] 23))) := ((((Below.refl _ _).alloc (Nat.le_refl _) _).alloc (by simp <;> omega) _).alloc (by simp <;> omega) _)
  go_enter Tryz.func127, Tryz.ntmps127
  go_wp2_with fail
  refine (K0.out _).mono ?_
  rintro e w1 ⟨rfl, hb⟩
  have Ba1 := hide (Ba0.out.below hb Ba0.out.lt)
  have Bb1 := hide (Bb0.out.below hb Bb0.out.lt)
  have Br1 := hide (Br0.out.below hb Br0.out.lt)
  have HB1 := hide (HB0.out.trans (hb.mono HB0.out.size))
  clear hb Ba0 Bb0 Br0 HB0 
  obtain ⟨ya0, ya1, ya2, ya3⟩ := Ba1.out.four
  obtain ⟨yb0, yb1, yb2, yb3⟩ := Bb1.out.four
  obtain ⟨yr0, yr1, yr2, yr3⟩ := Br1.out.four
  go_wp2_with fail
  refine (K1.out _).mono ?_
  rintro e w2 ⟨rfl, hb⟩
  have Ba2 := hide (Ba1.out.below hb Ba1.out.lt)
  have Bb2 := hide (Bb1.out.below hb Bb1.out.lt)
  have Br2 := hide (Br1.out.below hb Br1.out.lt)
  have HB2 := hide (HB1.out.trans (hb.mono HB1.out.size))
  clear hb Ba1 Bb1 Br1 HB1 ya0 ya1 ya2 ya3 yb0 yb1 yb2 yb3 yr0 yr1 yr2 yr3
  obtain ⟨ya0, ya1, ya2, ya3⟩ := Ba2.out.four
  obtain ⟨yb0, yb1, yb2, yb3⟩ := Bb2.out.four
  obtain ⟨yr0, yr1, yr2, yr3⟩ := Br2.out.four
  have fr0 := Br2.out.free 0
  have fr1 := Br2.out.free 1
  have fr2 := Br2.out.free 2
  have fr3 := Br2.out.free 3
  go_wp2
  refine bodyPost_ret (results_dec2 rfl _ _ _ _ _ _ _ rfl (Br2.out.put4 _ _ _ _)) rfl ?_
  exact ⟨rfl, below_put4 (HB2.out) (by omega) _ _ _ _⟩

set_option maxHeartbeats 1000000 in
theorem Step_bad (ca : Int) (na : Bool) (ta : ByteArray) (ea cb : Int) (nb : Bool) (tb : ByteArray) (eb m : Int) (w : World) (hb : MayD cb nb (bys tb) eb) (h : MayD ca na (bys ta) ea) (m1 : 0 ≤ m) (m2 : m < 8) (hq : ∀ W, Calls Tryz.prog 172 #[dcV cb nb tb eb] W fun e w' => e = .returned (.bool false) ∧ Below W.heap.size W w') : Calls Tryz.prog 127 #[dcV ca na ta ea, dcV cb nb tb eb, .int .i64 m] w fun e w' => e = .returned (.tuple #[dcV 0 false ⟨#[]⟩ 0, .int .i64 62]) ∧ Below w.heap.size w w' := by
  have K0 := hide (fun W => dmay_yes cb nb tb eb W hb)
  have K1 := hide (fun W => check_ok ca na ta ea m W h m1 m2)
  have K2 := hide hq
  have Ba0 := hide (((Blk.newAt w (w.heap.size) (rfl) #[.int .i64 ca, .bool na, .string ta, .int .i64 ea] 23).alloc (.cells #[.int .i64 cb, .bool nb, .string tb, .int .i64 eb] 23)).alloc (.cells #[.int .i64 0, .bool false, .string ⟨#[]⟩, .int .i64 0] 23))
  have Bb0 := hide ((Blk.newAt (w.alloc (.cells #[.int .i64 ca, .bool na, .string ta, .int .i64 ea] 23)) (w.heap.size + 1) (by simp) #[.int .i64 cb, .bool nb, .string tb, .int .i64 eb] 23).alloc (.cells #[.int .i64 0, .bool false, .string ⟨#[]⟩, .int .i64 0] 23))
  have Br0 := hide (Blk.newAt ((w.alloc (.cells #[.int .i64 ca, .bool na, .string ta, .int .i64 ea] 23)).alloc (.cells #[.int .i64 cb, .bool nb, .string tb, .int .i64 eb] 23)) (w.heap.size + 1 + 1) (by simp) #[.int .i64 0, .bool false, .string ⟨#[]⟩, .int .i64 0] 23)
  have HB0 : Hid (Below w.heap.size w (((w.alloc (.cells #[.int .i64 ca, .bool na, .string ta, .int .i64 ea] 23)).alloc (.cells #[.int .i64 cb, .bool nb, .string tb, .int .i64 eb] 23)).alloc (.cells #[.int .i64 0, .bool false, .string ⟨#[]⟩, .int .i64 0] 23))) := ((((Below.refl _ _).alloc (Nat.le_refl _) _).alloc (by simp <;> omega) _).alloc (by simp <;> omega) _)
  go_enter Tryz.func127, Tryz.ntmps127
  go_wp2_with fail
  refine (K0.out _).mono ?_
  rintro e w1 ⟨rfl, hb⟩
  have Ba1 := hide (Ba0.out.below hb Ba0.out.lt)
  have Bb1 := hide (Bb0.out.below hb Bb0.out.lt)
  have Br1 := hide (Br0.out.below hb Br0.out.lt)
  have HB1 := hide (HB0.out.trans (hb.mono HB0.out.size))
  clear hb Ba0 Bb0 Br0 HB0 
  obtain ⟨ya0, ya1, ya2, ya3⟩ := Ba1.out.four
  obtain ⟨yb0, yb1, yb2, yb3⟩ := Bb1.out.four
  obtain ⟨yr0, yr1, yr2, yr3⟩ := Br1.out.four
  go_wp2_with fail
  refine (K1.out _).mono ?_
  rintro e w2 ⟨rfl, hb⟩
  have Ba2 := hide (Ba1.out.below hb Ba1.out.lt)
  have Bb2 := hide (Bb1.out.below hb Bb1.out.lt)
  have Br2 := hide (Br1.out.below hb Br1.out.lt)
  have HB2 := hide (HB1.out.trans (hb.mono HB1.out.size))
  clear hb Ba1 Bb1 Br1 HB1 ya0 ya1 ya2 ya3 yb0 yb1 yb2 yb3 yr0 yr1 yr2 yr3
  obtain ⟨ya0, ya1, ya2, ya3⟩ := Ba2.out.four
  obtain ⟨yb0, yb1, yb2, yb3⟩ := Bb2.out.four
  obtain ⟨yr0, yr1, yr2, yr3⟩ := Br2.out.four
  go_wp2_with fail
  refine (K2.out _).mono ?_
  rintro e w3 ⟨rfl, hb⟩
  have Ba3 := hide (Ba2.out.below hb Ba2.out.lt)
  have Bb3 := hide (Bb2.out.below hb Bb2.out.lt)
  have Br3 := hide (Br2.out.below hb Br2.out.lt)
  have HB3 := hide (HB2.out.trans (hb.mono HB2.out.size))
  clear hb Ba2 Bb2 Br2 HB2 ya0 ya1 ya2 ya3 yb0 yb1 yb2 yb3 yr0 yr1 yr2 yr3
  obtain ⟨ya0, ya1, ya2, ya3⟩ := Ba3.out.four
  obtain ⟨yb0, yb1, yb2, yb3⟩ := Bb3.out.four
  obtain ⟨yr0, yr1, yr2, yr3⟩ := Br3.out.four
  have fr0 := Br3.out.free 0
  have fr1 := Br3.out.free 1
  have fr2 := Br3.out.free 2
  have fr3 := Br3.out.free 3
  go_wp2
  refine bodyPost_ret (results_dec2 rfl _ _ _ _ _ _ _ rfl (Br3.out.put4 _ _ _ _)) rfl ?_
  exact ⟨rfl, below_put4 (HB3.out) (by omega) _ _ _ _⟩

set_option maxHeartbeats 2000000 in
theorem Step_in (ca : Int) (na : Bool) (ta : ByteArray) (ea : Int) (tb : ByteArray) (eb m : Int) (w : World) (hb : MayD 0 false (bys tb) eb) (h : MayD ca na (bys ta) ea) (m1 : 0 ≤ m) (m2 : m < 8) (hq : tb.size ≠ 0) (hl : tb.size ≤ 32) (htab : Tab w) : Calls Tryz.prog 127 #[dcV ca na ta ea, dcV 0 false tb eb, .int .i64 m] w fun e w' => e = .returned (decErr (rndD ⟨ca.toNat, na, bys ta, ea⟩ (decV (bys tb)) eb m.toNat)) ∧ Below w.heap.size w w' := by
  have K0 := hide (fun W => dmay_yes 0 false tb eb W hb)
  have K1 := hide (fun W => check_ok ca na ta ea m W h m1 m2)
  have K2 := hide (fun W => isStep_yes tb eb W hq hl)
  have bd := may_place hb
  have hok := may_okT hb hq
  have MG := fun (W : World) (hT : Tab W) => mult_raw ca na ta ea false tb eb m h m1 m2 hok.1 hok.2 hl (by omega) (by omega) W hT
  rcases hR : rndD ⟨ca.toNat, na, bys ta, ea⟩ (decV (bys tb)) eb m.toNat with ⟨⟨cc, nn, ll, ee⟩, er⟩
  rw [hR] at MG
  unfold decErr decVal at MG ⊢
  simp only at MG ⊢
  obtain ⟨D, hD⟩ : ∃ D : ByteArray, D = ⟨ll.toArray⟩ := ⟨_, rfl⟩
  rw [← hD] at MG ⊢
  have MU := hide MG
  have HT := hide htab
  clear MG hR hD htab
  clear h hb bd hok hq hl
  have Ba0 := hide (((Blk.newAt w (w.heap.size) (rfl) #[.int .i64 ca, .bool na, .string ta, .int .i64 ea] 23).alloc (.cells #[.int .i64 0, .bool false, .string tb, .int .i64 eb] 23)).alloc (.cells #[.int .i64 0, .bool false, .string ⟨#[]⟩, .int .i64 0] 23))
  have Bb0 := hide ((Blk.newAt (w.alloc (.cells #[.int .i64 ca, .bool na, .string ta, .int .i64 ea] 23)) (w.heap.size + 1) (by simp) #[.int .i64 0, .bool false, .string tb, .int .i64 eb] 23).alloc (.cells #[.int .i64 0, .bool false, .string ⟨#[]⟩, .int .i64 0] 23))
  have Br0 := hide (Blk.newAt ((w.alloc (.cells #[.int .i64 ca, .bool na, .string ta, .int .i64 ea] 23)).alloc (.cells #[.int .i64 0, .bool false, .string tb, .int .i64 eb] 23)) (w.heap.size + 1 + 1) (by simp) #[.int .i64 0, .bool false, .string ⟨#[]⟩, .int .i64 0] 23)
  have HB0 : Hid (Below w.heap.size w (((w.alloc (.cells #[.int .i64 ca, .bool na, .string ta, .int .i64 ea] 23)).alloc (.cells #[.int .i64 0, .bool false, .string tb, .int .i64 eb] 23)).alloc (.cells #[.int .i64 0, .bool false, .string ⟨#[]⟩, .int .i64 0] 23))) := ((((Below.refl _ _).alloc (Nat.le_refl _) _).alloc (by simp <;> omega) _).alloc (by simp <;> omega) _)
  go_enter Tryz.func127, Tryz.ntmps127
  go_wp2_with fail
  refine (K0.out _).mono ?_
  rintro e w1 ⟨rfl, hb⟩
  clear K0
  have Ba1 := hide (Ba0.out.below hb Ba0.out.lt)
  have Bb1 := hide (Bb0.out.below hb Bb0.out.lt)
  have Br1 := hide (Br0.out.below hb Br0.out.lt)
  have HB1 := hide (HB0.out.trans (hb.mono HB0.out.size))
  clear hb Ba0 Bb0 Br0 HB0 
  obtain ⟨ya0, ya1, ya2, ya3⟩ := Ba1.out.four
  obtain ⟨yb0, yb1, yb2, yb3⟩ := Bb1.out.four
  obtain ⟨yr0, yr1, yr2, yr3⟩ := Br1.out.four
  go_wp2_with fail
  refine (K1.out _).mono ?_
  rintro e w2 ⟨rfl, hb⟩
  clear K1
  have Ba2 := hide (Ba1.out.below hb Ba1.out.lt)
  have Bb2 := hide (Bb1.out.below hb Bb1.out.lt)
  have Br2 := hide (Br1.out.below hb Br1.out.lt)
  have HB2 := hide (HB1.out.trans (hb.mono HB1.out.size))
  clear hb Ba1 Bb1 Br1 HB1 ya0 ya1 ya2 ya3 yb0 yb1 yb2 yb3 yr0 yr1 yr2 yr3
  obtain ⟨ya0, ya1, ya2, ya3⟩ := Ba2.out.four
  obtain ⟨yb0, yb1, yb2, yb3⟩ := Bb2.out.four
  obtain ⟨yr0, yr1, yr2, yr3⟩ := Br2.out.four
  go_wp2_with fail
  refine (K2.out _).mono ?_
  rintro e w3 ⟨rfl, hb⟩
  clear K2
  have Ba3 := hide (Ba2.out.below hb Ba2.out.lt)
  have Bb3 := hide (Bb2.out.below hb Bb2.out.lt)
  have Br3 := hide (Br2.out.below hb Br2.out.lt)
  have HB3 := hide (HB2.out.trans (hb.mono HB2.out.size))
  clear hb Ba2 Bb2 Br2 HB2 ya0 ya1 ya2 ya3 yb0 yb1 yb2 yb3 yr0 yr1 yr2 yr3
  obtain ⟨ya0, ya1, ya2, ya3⟩ := Ba3.out.four
  obtain ⟨yb0, yb1, yb2, yb3⟩ := Bb3.out.four
  obtain ⟨yr0, yr1, yr2, yr3⟩ := Br3.out.four
  have HTC := hide (HT.out.below HB3.out)
  clear HT
  have MM := hide (MU.out _ HTC.out)
  clear HTC MU
  go_wp2_with fail
  refine (MM.out).mono ?_
  rintro e w4 ⟨rfl, hb⟩
  clear MM
  have Ba4 := hide (Ba3.out.below hb Ba3.out.lt)
  have Bb4 := hide (Bb3.out.below hb Bb3.out.lt)
  have Br4 := hide (Br3.out.below hb Br3.out.lt)
  have HB4 := hide (HB3.out.trans (hb.mono HB3.out.size))
  clear hb Ba3 Bb3 Br3 HB3 ya0 ya1 ya2 ya3 yb0 yb1 yb2 yb3 yr0 yr1 yr2 yr3
  obtain ⟨ya0, ya1, ya2, ya3⟩ := Ba4.out.four
  obtain ⟨yb0, yb1, yb2, yb3⟩ := Bb4.out.four
  obtain ⟨yr0, yr1, yr2, yr3⟩ := Br4.out.four
  have fr0 := Br4.out.free 0
  have fr1 := Br4.out.free 1
  have fr2 := Br4.out.free 2
  have fr3 := Br4.out.free 3
  go_wp2
  refine bodyPost_ret (results_dec2 rfl _ _ _ _ _ _ _ rfl (Br4.out.put4 _ _ _ _)) rfl ?_
  exact ⟨rfl, below_put4 (HB4.out) (by omega) _ _ _ _⟩

theorem Step_any (ca : Int) (na : Bool) (ta : ByteArray) (ea cb : Int) (nb : Bool) (tb : ByteArray) (eb m : Int) (w : World) (htab : Tab w) : Calls Tryz.prog 127 #[dcV ca na ta ea, dcV cb nb tb eb, .int .i64 m] w fun e w' => e = .returned (decErr (stepR ca na (bys ta) ea cb nb (bys tb) eb m)) ∧ Below w.heap.size w w' := by
  unfold stepR
  by_cases hb : MayD cb nb (bys tb) eb
  · rw [if_neg (fun g => g hb)]
    by_cases h : MayD ca na (bys ta) ea
    · rw [if_neg (fun g => g h)]
      by_cases h1 : m < 0
      · rw [if_pos (.inl h1)]
        exact Step_mlow ca na ta ea cb nb tb eb m w hb h h1
      · by_cases h2 : 8 ≤ m
        · rw [if_pos (.inr h2)]
          exact Step_mhigh ca na ta ea cb nb tb eb m w hb h h2
        · rw [if_neg (by omega)]
          by_cases hs : StepD cb nb (bys tb)
          · rw [if_neg (fun g => g hs)]
            obtain ⟨rfl, rfl, s3, s4⟩ := hs
            rw [bys_len] at s4
            exact Step_in ca na ta ea tb eb m w hb h (by omega) (by omega) (fun g => s3 ((bys_nil).2 g)) s4 htab
          · rw [if_pos hs]
            refine Step_bad ca na ta ea cb nb tb eb m w hb h (by omega) (by omega) (fun W => ?_)
            by_cases c1 : cb = 0
            · subst c1
              cases nb
              · by_cases c3 : tb.size = 0
                · obtain rfl : tb = ⟨#[]⟩ := by
                    obtain ⟨⟨l⟩⟩ := tb
                    have : l = [] := List.length_eq_zero_iff.1 c3
                    subst this; rfl
                  exact isStep_nil eb W
                · refine isStep_long tb eb W ?_
                  have : ¬ tb.size ≤ 32 := fun g => hs ⟨rfl, rfl, fun e => c3 (bys_nil.1 e), by rw [bys_len]; exact g⟩
                  omega
              · exact isStep_neg tb eb W
            · exact isStep_cls cb nb tb eb W c1
    · rw [if_pos h]
      exact Step_no ca na ta ea cb nb tb eb m w hb h
  · rw [if_pos hb]
    exact Step_bno ca na ta ea cb nb tb eb m w hb

end Go.Proofs.YtobloamnaemfnaaGreatDoor

namespace Go.Proofs.YtobloamnaemfnaaGreatDoor

structure PrecT where
  kind : Int
  minF : Int
  maxF : Int
  minS : Int
  maxS : Int
  strict : Bool
  sc : Int
  sn : Bool
  sd : List UInt8
  se : Int
  mode : Int
  hide : Bool
  imin : Int
  imax : Int

structure ShownT where
  cls : Int
  neg : Bool
  int : List UInt8
  frac : List UInt8
  exp : Int
  compact : Bool

def zeroS : ShownT := ⟨0, false, [], [], 0, false⟩

def NoFrac (p : PrecT) : Prop := p.minF = 0 ∧ p.maxF = 0
def NoSig (p : PrecT) : Prop := p.minS = 0 ∧ p.maxS = 0
def NoStep (p : PrecT) : Prop := p.sc = 0 ∧ p.sn = false ∧ p.sd = [] ∧ p.se = 0
def FracOk (p : PrecT) : Prop := (0 ≤ p.minF ∧ p.minF ≤ p.maxF) ∧ p.maxF ≤ 99
def SigOk (p : PrecT) : Prop := (1 ≤ p.minS ∧ p.minS ≤ p.maxS) ∧ p.maxS ≤ 99
def StepOk (p : PrecT) : Prop := MayD p.sc p.sn p.sd p.se ∧ StepD p.sc p.sn p.sd
def IntOk (p : PrecT) : Prop := (0 ≤ p.imin ∧ p.imin ≤ 99) ∧ (p.imax = 0 ∨ (p.imin ≤ p.imax ∧ p.imax ≤ 99))
def FieldsAll (p : PrecT) : Prop := NoFrac p ∧ NoSig p ∧ p.strict = false ∧ NoStep p
def FieldsFrac (p : PrecT) : Prop := FracOk p ∧ NoSig p ∧ p.strict = false ∧ NoStep p
def FieldsSig (p : PrecT) : Prop := NoFrac p ∧ SigOk p ∧ p.strict = false ∧ NoStep p
def FieldsBoth (p : PrecT) : Prop := FracOk p ∧ SigOk p ∧ NoStep p
def FieldsStep (p : PrecT) : Prop := (0 ≤ p.minF ∧ p.minF ≤ 99) ∧ p.maxF = 0 ∧ NoSig p ∧ p.strict = false ∧ StepOk p
def KindOk (p : PrecT) : Prop := (p.kind = 0 ∧ FieldsAll p) ∨ (p.kind = 1 ∧ FieldsFrac p) ∨ (p.kind = 2 ∧ FieldsSig p) ∨ (p.kind = 3 ∧ FieldsBoth p) ∨ (p.kind = 4 ∧ FieldsStep p)

def MayP (p : PrecT) : Prop := (0 ≤ p.mode ∧ p.mode ≤ 7) ∧ IntOk p ∧ KindOk p

noncomputable def checkP (p : PrecT) : Int := open Classical in if MayP p then 0 else 70

theorem checkP_yes {p : PrecT} (h : MayP p) : checkP p = 0 := if_pos h
theorem checkP_no {p : PrecT} (h : ¬ MayP p) : checkP p = 70 := if_neg h

def bothAt (p : PrecT) (pl : Int) : Int := if p.strict then max (-p.maxF) (pl - p.maxS) else min (-p.maxF) (pl - p.maxS)

noncomputable def roundP (p : PrecT) (c : Int) (n : Bool) (l : List UInt8) (e : Int) : DecT × Int :=
  if p.kind = 0 then (⟨c.toNat, n, l, e⟩, 0) else if p.kind = 1 then atR c n l e (-p.maxF) p.mode else if p.kind = 2 then digR c n l e p.maxS p.mode
  else if p.kind = 3 then atR c n l e (bothAt p ((l.length : Int) + e)) p.mode else stepR c n l e p.sc p.sn p.sd p.se p.mode

def sigL (p : PrecT) (r : DecT) : Int := if r.dig = [] then p.minS - 1 else max 0 (p.minS - ((r.dig.length : Int) + r.exp))

def leastP (p : PrecT) (r : DecT) : Int :=
  if p.kind = 0 then 0 else if p.kind = 1 then p.minF else if p.kind = 2 then sigL p r else if p.kind = 3 then max p.minF (sigL p r) else p.minF

def nought (n : Int) : List UInt8 := List.replicate n.toNat 48

def aheadD (l : List UInt8) (e : Int) : List UInt8 := if (l.length : Int) + e ≤ 0 then [] else if 0 ≤ e then l ++ nought e else l.take ((l.length : Int) + e).toNat

def behindD (l : List UInt8) (e : Int) : List UInt8 := if (l.length : Int) + e ≤ 0 then nought (-((l.length : Int) + e)) ++ l else if 0 ≤ e then [] else l.drop ((l.length : Int) + e).toNat

def fillI (p : PrecT) (a : List UInt8) : List UInt8 := nought (p.imin - a.length) ++ a
def wholeP (p : PrecT) (a : List UInt8) : List UInt8 := if 0 < p.imax ∧ p.imax < ((fillI p a).length : Int) then (fillI p a).drop (((fillI p a).length : Int) - p.imax).toNat else fillI p a

def fracP (p : PrecT) (b : List UInt8) (n : Int) : List UInt8 := if p.hide = true ∧ b = [] then [] else b ++ nought (n - b.length)

def digitsP (p : PrecT) (r : DecT) (n : Int) : List UInt8 × List UInt8 :=
  if wholeP p (aheadD r.dig r.exp) = [] ∧ fracP p (behindD r.dig r.exp) n = [] then ([48], []) else (wholeP p (aheadD r.dig r.exp), fracP p (behindD r.dig r.exp) n)

def shownP (p : PrecT) (r : DecT) : ShownT := if r.cls = 0 then ⟨0, r.neg, (digitsP p r (leastP p r)).1, (digitsP p r (leastP p r)).2, 0, false⟩ else ⟨r.cls, r.neg, [], [], 0, false⟩

noncomputable def showP (c : Int) (n : Bool) (l : List UInt8) (e : Int) (p : PrecT) : ShownT × Int := open Classical in
  if ¬ MayD c n l e then (zeroS, 52) else if ¬ MayP p then (zeroS, 70) else if (roundP p c n l e).2 ≠ 0 then (zeroS, (roundP p c n l e).2) else (shownP p (roundP p c n l e).1, 0)

def MayS (s : ShownT) : Prop := (-2001 ≤ s.exp ∧ s.exp ≤ 2001) ∧ ((s.cls = 0 ∧ (s.int ≠ [] ∨ s.frac ≠ []) ∧ (s.int.length ≤ 4096 ∧ DigB s.int) ∧ (s.frac.length ≤ 4096 ∧ DigB s.frac)) ∨ (s.cls = 1 ∧ s.int = [] ∧ s.frac = []) ∨ (s.cls = 2 ∧ s.int = [] ∧ s.frac = [] ∧ s.neg = false))

noncomputable def valueS (s : ShownT) : DecT × Int := open Classical in
  if ¬ MayS s then (zeroD, 71) else if s.cls ≠ 0 then (⟨s.cls.toNat, s.neg, [], 0⟩, 0) else tellF s.neg (decV (s.int ++ s.frac)) (s.exp - s.frac.length)

theorem step_err (c : Int) (n : Bool) (l : List UInt8) (e m : Int) (h1 : 0 ≤ m) (h2 : m < 8) : (MayD c n l e ∧ StepD c n l → (stepR 0 false [] 0 c n l e m).2 = 0) ∧ (¬ (MayD c n l e ∧ StepD c n l) → (stepR 0 false [] 0 c n l e m).2 ≠ 0) := by
  have hz : MayD 0 false [] 0 := .inl ⟨rfl, .inl ⟨rfl, rfl⟩⟩
  unfold stepR
  by_cases h : MayD c n l e
  · rw [if_neg (fun g => g h), if_neg (fun g => g hz), if_neg (by omega)]
    by_cases h3 : StepD c n l
    · rw [if_neg (fun g => g h3), rndD_zero rfl]
      exact ⟨fun _ => rfl, fun g => absurd ⟨h, h3⟩ g⟩
    · rw [if_pos h3]
      exact ⟨fun g => absurd g.2 h3, fun _ => by simp⟩
  · rw [if_pos h]
    exact ⟨fun g => absurd g.1 h, fun _ => by simp⟩

end Go.Proofs.YtobloamnaemfnaaGreatDoor

namespace Go.Proofs.YtobloamnaemfnaaGreatDoor
open Go.RowKit

section
variable {ca : Int} {na : Bool} {l : List UInt8} {ea p m : Int}

theorem atR_in (h : MayD ca na l ea) (hm : ¬ (m < 0 ∨ 8 ≤ m)) (hp : ¬ (p < -4000 ∨ 4000 < p)) : atR ca na l ea p m = rndD ⟨ca.toNat, na, l, ea⟩ 1 p m.toNat := by unfold atR; rw [if_neg (fun g => g h), if_neg hm, if_neg hp]
theorem digR_in (h : MayD ca na l ea) (hm : ¬ (m < 0 ∨ 8 ≤ m)) (hp : ¬ (p < 1 ∨ 1000 < p)) : digR ca na l ea p m = rndD ⟨ca.toNat, na, l, ea⟩ 1 ((l.length : Int) + ea - p) m.toNat := by unfold digR; rw [if_neg (fun g => g h), if_neg hm, if_neg hp]

variable {cb : Int} {nb : Bool} {k : List UInt8} {eb : Int}
theorem stepR_in (hb : MayD cb nb k eb) (h : MayD ca na l ea) (hm : ¬ (m < 0 ∨ 8 ≤ m)) (hs : StepD cb nb k) : stepR ca na l ea cb nb k eb m = rndD ⟨ca.toNat, na, l, ea⟩ (decV k) eb m.toNat := by unfold stepR; rw [if_neg (fun g => g hb), if_neg (fun g => g h), if_neg hm, if_neg (fun g => g hs)]
end

theorem tellF_mayR (neg : Bool) (N : Nat) (e : Int) : May (tellF neg N e).1 := by
  by_cases h : May (finD neg N e)
  · rw [tellF_yes h]; exact h
  · rw [tellF_no h]; exact may_zero false

theorem rndD_may {d : DecT} (h : May d) (N : Nat) (x : Int) (m : Nat) : May (rndD d N x m).1 := by
  by_cases hz : d.dig = []
  · rw [rndD_zero hz]; exact h
  · rw [rndD_fin hz]; exact tellF_mayR _ _ _

end Go.Proofs.YtobloamnaemfnaaGreatDoor

namespace Go.Proofs.YtobloamnaemfnaaGreatDoor

def unitN (p : PrecT) : Nat := if p.kind = 4 then decV p.sd else 1
def unitX (p : PrecT) (pl : Int) : Int := if p.kind = 1 then -p.maxF else if p.kind = 2 then pl - p.maxS else if p.kind = 3 then bothAt p pl else p.se

theorem mayP_kind {p : PrecT} (h : MayP p) : p.kind = 0 ∨ p.kind = 1 ∨ p.kind = 2 ∨ p.kind = 3 ∨ p.kind = 4 := by
  rcases h.2.2 with ⟨g, _⟩ | ⟨g, _⟩ | ⟨g, _⟩ | ⟨g, _⟩ | ⟨g, _⟩
  · exact .inl g
  · exact .inr (.inl g)
  · exact .inr (.inr (.inl g))
  · exact .inr (.inr (.inr (.inl g)))
  · exact .inr (.inr (.inr (.inr g)))

theorem mayP_1 {p : PrecT} (h : MayP p) (k : p.kind = 1) : FieldsFrac p := by
  rcases h.2.2 with ⟨g, _⟩ | ⟨g, q⟩ | ⟨g, _⟩ | ⟨g, _⟩ | ⟨g, _⟩ <;> first | exact q | omega
theorem mayP_0 {p : PrecT} (h : MayP p) (k : p.kind = 0) : FieldsAll p := by
  rcases h.2.2 with ⟨g, q⟩ | ⟨g, _⟩ | ⟨g, _⟩ | ⟨g, _⟩ | ⟨g, _⟩ <;> first | exact q | omega
theorem mayP_2 {p : PrecT} (h : MayP p) (k : p.kind = 2) : FieldsSig p := by
  rcases h.2.2 with ⟨g, _⟩ | ⟨g, _⟩ | ⟨g, q⟩ | ⟨g, _⟩ | ⟨g, _⟩ <;> first | exact q | omega
theorem mayP_3 {p : PrecT} (h : MayP p) (k : p.kind = 3) : FieldsBoth p := by
  rcases h.2.2 with ⟨g, _⟩ | ⟨g, _⟩ | ⟨g, _⟩ | ⟨g, q⟩ | ⟨g, _⟩ <;> first | exact q | omega
theorem mayP_4 {p : PrecT} (h : MayP p) (k : p.kind = 4) : FieldsStep p := by
  rcases h.2.2 with ⟨g, _⟩ | ⟨g, _⟩ | ⟨g, _⟩ | ⟨g, _⟩ | ⟨g, q⟩ <;> first | exact q | omega

theorem may_pl {c : Int} {n : Bool} {l : List UInt8} {e : Int} (h : MayD c n l e) : -3000 ≤ e ∧ e ≤ 2000 ∧ -2000 ≤ (l.length : Int) + e ∧ (l.length : Int) + e ≤ 2000 ∧ l.length ≤ 1000 := by
  rcases h with ⟨_, ⟨h1, h2⟩ | ⟨_, h1, h2, h3, _⟩⟩ | ⟨_, h1, h2⟩ | ⟨_, _, h1, h2⟩
  · rw [h1]; simp; omega
  · omega
  · rw [h1]; simp; omega
  · rw [h1]; simp; omega

theorem bothAt_in {p : PrecT} {pl : Int} (h : FieldsBoth p) (h1 : -2000 ≤ pl) (h2 : pl ≤ 2000) : -3000 ≤ bothAt p pl ∧ bothAt p pl ≤ 3000 := by
  obtain ⟨⟨⟨a1, a2⟩, a3⟩, ⟨⟨b1, b2⟩, b3⟩, _⟩ := h
  unfold bothAt
  split <;> omega

theorem roundP_0 {p : PrecT} {c : Int} {n : Bool} {l : List UInt8} {e : Int} (k : p.kind = 0) : roundP p c n l e = (⟨c.toNat, n, l, e⟩, 0) := by
  unfold roundP; rw [if_pos k]
theorem roundP_1 {p : PrecT} {c : Int} {n : Bool} {l : List UInt8} {e : Int} (k : p.kind = 1) : roundP p c n l e = atR c n l e (-p.maxF) p.mode := by
  unfold roundP; rw [if_neg (by omega), if_pos k]
theorem roundP_2 {p : PrecT} {c : Int} {n : Bool} {l : List UInt8} {e : Int} (k : p.kind = 2) : roundP p c n l e = digR c n l e p.maxS p.mode := by
  unfold roundP; rw [if_neg (by omega), if_neg (by omega), if_pos k]
theorem roundP_3 {p : PrecT} {c : Int} {n : Bool} {l : List UInt8} {e : Int} (k : p.kind = 3) : roundP p c n l e = atR c n l e (bothAt p ((l.length : Int) + e)) p.mode := by
  unfold roundP; rw [if_neg (by omega), if_neg (by omega), if_neg (by omega), if_pos k]
theorem roundP_4 {p : PrecT} {c : Int} {n : Bool} {l : List UInt8} {e : Int} (k : p.kind = 4) : roundP p c n l e = stepR c n l e p.sc p.sn p.sd p.se p.mode := by
  unfold roundP; rw [if_neg (by omega), if_neg (by omega), if_neg (by omega), if_neg (by omega)]

theorem roundP_rnd {p : PrecT} {c : Int} {n : Bool} {l : List UInt8} {e : Int} (hp : MayP p) (h : MayD c n l e) (k : p.kind ≠ 0) :
    roundP p c n l e = rndD ⟨c.toNat, n, l, e⟩ (unitN p) (unitX p ((l.length : Int) + e)) p.mode.toNat := by
  obtain ⟨_, _, b3, b4, _⟩ := may_pl h
  have hm : ¬ (p.mode < 0 ∨ 8 ≤ p.mode) := by have := hp.1; omega
  rcases mayP_kind hp with g | g | g | g | g
  · exact absurd g k
  · obtain ⟨⟨⟨a1, a2⟩, a3⟩, _⟩ := mayP_1 hp g
    rw [roundP_1 g, atR_in h hm (by omega)]
    unfold unitN unitX
    rw [if_neg (by omega), if_pos g]
  · obtain ⟨_, ⟨⟨a1, a2⟩, a3⟩, _⟩ := mayP_2 hp g
    rw [roundP_2 g, digR_in h hm (by omega)]
    unfold unitN unitX
    rw [if_neg (by omega), if_neg (by omega), if_pos g]
  · have := bothAt_in (mayP_3 hp g) b3 b4
    rw [roundP_3 g, atR_in h hm (by omega)]
    unfold unitN unitX
    rw [if_neg (by omega), if_neg (by omega), if_neg (by omega), if_pos g]
  · obtain ⟨_, _, _, _, hb, hs⟩ := mayP_4 hp g
    rw [roundP_4 g, stepR_in hb h hm hs]
    unfold unitN unitX
    rw [if_pos g, if_neg (by omega), if_neg (by omega), if_neg (by omega)]

theorem roundP_may {p : PrecT} {c : Int} {n : Bool} {l : List UInt8} {e : Int} (hp : MayP p) (h : MayD c n l e) : May (roundP p c n l e).1 := by
  by_cases k : p.kind = 0
  · rw [roundP_0 k]; exact may_of h
  · rw [roundP_rnd hp h k]; exact rndD_may (may_of h) _ _ _

theorem leastP_in {p : PrecT} (hp : MayP p) {r : DecT} (hr : May r) : 0 ≤ leastP p r ∧ leastP p r ≤ 3000 := by
  have b := may_pl (show MayD (r.cls : Int) r.neg r.dig r.exp from hr)
  have hs : ∀ (_ : SigOk p), 0 ≤ sigL p r ∧ sigL p r ≤ 3000 := by
    rintro ⟨⟨a1, a2⟩, a3⟩
    unfold sigL
    split <;> omega
  unfold leastP
  rcases mayP_kind hp with g | g | g | g | g
  · rw [if_pos g]; omega
  · obtain ⟨⟨⟨a1, a2⟩, a3⟩, _⟩ := mayP_1 hp g
    rw [if_neg (by omega), if_pos g]; omega
  · obtain ⟨_, q, _⟩ := mayP_2 hp g
    rw [if_neg (by omega), if_neg (by omega), if_pos g]; exact hs q
  · obtain ⟨⟨⟨a1, a2⟩, a3⟩, q, _⟩ := mayP_3 hp g
    have := hs q
    rw [if_neg (by omega), if_neg (by omega), if_neg (by omega), if_pos g]; omega
  · obtain ⟨⟨a1, a2⟩, _⟩ := mayP_4 hp g
    rw [if_neg (by omega), if_neg (by omega), if_neg (by omega), if_neg (by omega)]; omega

theorem showP_err {c : Int} {n : Bool} {l : List UInt8} {e : Int} {p : PrecT} (h : MayD c n l e) (hp : MayP p) (hr : (roundP p c n l e).2 ≠ 0) : showP c n l e p = (zeroS, (roundP p c n l e).2) := by
  unfold showP; rw [if_neg (fun g => g h), if_neg (fun g => g hp), if_pos hr]
theorem showP_in {c : Int} {n : Bool} {l : List UInt8} {e : Int} {p : PrecT} (h : MayD c n l e) (hp : MayP p) (hr : (roundP p c n l e).2 = 0) : showP c n l e p = (shownP p (roundP p c n l e).1, 0) := by
  unfold showP; rw [if_neg (fun g => g h), if_neg (fun g => g hp), if_neg (fun g => g hr)]

end Go.Proofs.YtobloamnaemfnaaGreatDoor

namespace Go.Proofs.YtobloamnaemfnaaGreatDoor
open Go.RowKit

theorem Blk.three {w : World} {b : Nat} {x0 x1 x2 : Value} {t : TypeId} (h : Blk w b #[x0, x1, x2] t) : w.cell? ⟨b, 0, none⟩ = some x0 ∧ w.cell? ⟨b, 1, none⟩ = some x1 ∧ w.cell? ⟨b, 2, none⟩ = some x2 := ⟨h.cell 0, h.cell 1, h.cell 2⟩
theorem Blk.six {w : World} {b : Nat} {x0 x1 x2 x3 x4 x5 : Value} {t : TypeId} (h : Blk w b #[x0, x1, x2, x3, x4, x5] t) : w.cell? ⟨b, 0, none⟩ = some x0 ∧ w.cell? ⟨b, 1, none⟩ = some x1 ∧ w.cell? ⟨b, 2, none⟩ = some x2 ∧ w.cell? ⟨b, 3, none⟩ = some x3 ∧ w.cell? ⟨b, 4, none⟩ = some x4 ∧ w.cell? ⟨b, 5, none⟩ = some x5 := ⟨h.cell 0, h.cell 1, h.cell 2, h.cell 3, h.cell 4, h.cell 5⟩
theorem Blk.fourteen {w : World} {b : Nat} {x0 x1 x2 x3 x4 x5 x6 x7 x8 x9 x10 x11 x12 x13 : Value} {t : TypeId} (h : Blk w b #[x0, x1, x2, x3, x4, x5, x6, x7, x8, x9, x10, x11, x12, x13] t) : w.cell? ⟨b, 0, none⟩ = some x0 ∧ w.cell? ⟨b, 1, none⟩ = some x1 ∧ w.cell? ⟨b, 2, none⟩ = some x2 ∧ w.cell? ⟨b, 3, none⟩ = some x3 ∧ w.cell? ⟨b, 4, none⟩ = some x4 ∧ w.cell? ⟨b, 5, none⟩ = some x5 ∧ w.cell? ⟨b, 6, none⟩ = some x6 ∧ w.cell? ⟨b, 7, none⟩ = some x7 ∧ w.cell? ⟨b, 8, none⟩ = some x8 ∧ w.cell? ⟨b, 9, none⟩ = some x9 ∧ w.cell? ⟨b, 10, none⟩ = some x10 ∧ w.cell? ⟨b, 11, none⟩ = some x11 ∧ w.cell? ⟨b, 12, none⟩ = some x12 ∧ w.cell? ⟨b, 13, none⟩ = some x13 := ⟨h.cell 0, h.cell 1, h.cell 2, h.cell 3, h.cell 4, h.cell 5, h.cell 6, h.cell 7, h.cell 8, h.cell 9, h.cell 10, h.cell 11, h.cell 12, h.cell 13⟩

theorem Blk.put6 {w : World} {b : Nat} {t : TypeId} {x0 x1 x2 x3 x4 x5 : Value} (h : Blk w b #[x0, x1, x2, x3, x4, x5] t) (y0 y1 y2 y3 y4 y5 : Value) : Blk ((((((w.setCell ⟨b, 0, none⟩ y0).setCell ⟨b, 1, none⟩ y1).setCell ⟨b, 2, none⟩ y2).setCell ⟨b, 3, none⟩ y3).setCell ⟨b, 4, none⟩ y4).setCell ⟨b, 5, none⟩ y5) b #[y0, y1, y2, y3, y4, y5] t := by
  unfold Blk at *
  simp only [World.setCell, Array.getElem?_modify, if_true, h, Option.map_some]
  rfl

theorem below_put6 {w W : World} {H : Nat} (h : Below w.heap.size w W) (hH : w.heap.size ≤ H) (y0 y1 y2 y3 y4 y5 : Value) : Below w.heap.size w ((((((W.setCell ⟨H, 0, none⟩ y0).setCell ⟨H, 1, none⟩ y1).setCell ⟨H, 2, none⟩ y2).setCell ⟨H, 3, none⟩ y3).setCell ⟨H, 4, none⟩ y4).setCell ⟨H, 5, none⟩ y5) :=
  (((((h.setCell hH _).setCell hH _).setCell hH _).setCell hH _).setCell hH _).setCell hH _

theorem results_shn2 {fn : Func} {a c : Tmp} (h : fn.results = #[.cell a 34, .tmp c]) (tmps : Array Value) (H : Nat) (x0 x1 x2 x3 x4 x5 : Value) (w : World) (ht : tmps.getD a undef = .pointer (some ⟨H, 0, none⟩)) (hp : Blk w H #[x0, x1, x2, x3, x4, x5] 34) :
    (results fn tmps).run Tryz.prog w = .ok (.tuple #[.agg #[x0, x1, x2, x3, x4, x5], tmps.getD c undef]) w := by
  have c0 := hp.cell 0
  have c1 := hp.cell 1
  have c2 := hp.cell 2
  have c3 := hp.cell 3
  have c4 := hp.cell 4
  have c5 := hp.cell 5
  simp at c0 c1 c2 c3 c4 c5
  rw [Array.getD_eq_getD_getElem?] at ht
  simp [results, h, ht, go_sem, c0, c1, c2, c3, c4, c5]

end Go.Proofs.YtobloamnaemfnaaGreatDoor

namespace Go.Proofs.YtobloamnaemfnaaGreatDoor
open Go.RowKit

theorem bal {w W : World} (h : Hid (Below w.heap.size w W)) (o : Obj) : Hid (Below w.heap.size w (W.alloc o)) := h.out.alloc h.out.size o

section
variable {w W : World} {T : TypeId} {H : Nat} {a b x1 y1 x2 y2 : Value} {o1 o2 : Option Addr} {r1 r2 : List Nat} {k : IntKind} {l1 h1 l2 h2 : Nat}
end

end Go.Proofs.YtobloamnaemfnaaGreatDoor

namespace Go.Proofs.YtobloamnaemfnaaGreatDoor
open Go.RowKit

end Go.Proofs.YtobloamnaemfnaaGreatDoor

namespace Go.Proofs.YtobloamnaemfnaaGreatDoor
open Go.RowKit

structure CutK (W : World) (cs : Array Value) (v : Value) (W' : World) : Prop where
  ex : ∃ H : Nat, v = .pointer (some ⟨H, 0, none⟩) ∧ Blk W' H cs 68 ∧ W.heap.size ≤ H ∧ Below W.heap.size W W'

theorem cutk_old {W w3 : World} {H : Nat} {x0 x1 x2 y0 y1 y2 : Value} (hb : Below W.heap.size W w3) (q : Blk w3 H #[x0, x1, x2] 68) (hH : W.heap.size ≤ H) :
    CutK W #[y0, y1, y2] (.pointer (some ⟨H, 0, none⟩)) (((w3.setCell ⟨H, 0, none⟩ y0).setCell ⟨H, 1, none⟩ y1).setCell ⟨H, 2, none⟩ y2) :=
  ⟨H, rfl, by unfold Blk at *; simp only [World.setCell, Array.getElem?_modify, if_true, q, Option.map_some]; rfl, hH, ((hb.setCell hH _).setCell hH _).setCell hH _⟩

theorem cutk_new {W w3 : World} {cs : Array Value} (hb : Below W.heap.size W w3) : CutK W cs (.pointer (some ⟨w3.heap.size, 0, none⟩)) (w3.alloc (.cells cs 68)) :=
  ⟨w3.heap.size, rfl, Blk.new _ _ _, hb.size, hb.alloc hb.size _⟩

theorem Blk.set23 {w : World} {b : Nat} {t : TypeId} {x0 x1 x2 x3 x4 x5 : Value} (h : Blk w b #[x0, x1, x2, x3, x4, x5] t) (y2 y3 : Value) : Blk ((w.setCell ⟨b, 2, none⟩ y2).setCell ⟨b, 3, none⟩ y3) b #[x0, x1, y2, y3, x4, x5] t := by
  unfold Blk at *
  simp only [World.setCell, Array.getElem?_modify, if_true, h, Option.map_some]
  rfl

end Go.Proofs.YtobloamnaemfnaaGreatDoor
