/-
  What round's At, Digits and Step answer, whatever they are handed.
  Plain data of chapter 7: precisions, what is shown, and what the document says of them.
  Plain mathematics: the texts of numbers, their parts, and what they say.
  What dec's cutDigits and unsigned do.
-/
import Derived.Test.YtobloamnaemfnaaGreatDoorUB2
import Derived.Test.YtobloamnaemfnaaGreatDoorUB9
import Derived.Lib.Strings
import Derived.Lib.Atoi
import Derived.Test.YtobloamnaemfnaaGreatDoorUB5
namespace Go.Proofs.YtobloamnaemfnaaGreatDoor
open Go.RowKit

def zeroD : DecT := ⟨0, false, [], 0⟩

noncomputable def atR (ca : Int) (na : Bool) (l : List UInt8) (ea p m : Int) : DecT × Int := open Classical in
  if ¬ MayD ca na l ea then (zeroD, 52) else if m < 0 ∨ 8 ≤ m then (zeroD, 60) else if p < -4000 ∨ 4000 < p then (zeroD, 61) else rndD ⟨ca.toNat, na, l, ea⟩ 1 p m.toNat

noncomputable def digR (ca : Int) (na : Bool) (l : List UInt8) (ea n m : Int) : DecT × Int := open Classical in
  if ¬ MayD ca na l ea then (zeroD, 52) else if m < 0 ∨ 8 ≤ m then (zeroD, 60) else if n < 1 ∨ 1000 < n then (zeroD, 61) else rndD ⟨ca.toNat, na, l, ea⟩ 1 ((l.length : Int) + ea - n) m.toNat

def StepD (c : Int) (n : Bool) (l : List UInt8) : Prop := c = 0 ∧ n = false ∧ l ≠ [] ∧ l.length ≤ 32

noncomputable def stepR (ca : Int) (na : Bool) (l : List UInt8) (ea : Int) (cb : Int) (nb : Bool) (k : List UInt8) (eb m : Int) : DecT × Int := open Classical in
  if ¬ MayD cb nb k eb then (zeroD, 52) else if ¬ MayD ca na l ea then (zeroD, 52) else if m < 0 ∨ 8 ≤ m then (zeroD, 60) else if ¬ StepD cb nb k then (zeroD, 62) else rndD ⟨ca.toNat, na, l, ea⟩ (decV k) eb m.toNat

theorem may_cls {c : Int} {n : Bool} {l : List UInt8} {e : Int} (h : MayD c n l e) : c = ((c.toNat : Nat) : Int) := by
  rcases h with ⟨h, _⟩ | ⟨h, _⟩ | ⟨h, _⟩ <;> omega

theorem may_of {c : Int} {n : Bool} {l : List UInt8} {e : Int} (h : MayD c n l e) : May ⟨c.toNat, n, l, e⟩ := by
  unfold May
  simp only
  rw [← may_cls h]
  exact h

theorem ok49 : OkT (bys ⟨#[49]⟩) := ⟨by decide, fun h => absurd h (by decide), fun k hk => by
  have h0 : k = 0 := by
    have : (bys ⟨#[49]⟩).length = 1 := rfl
    omega
  subst h0
  decide⟩

theorem may_place {c : Int} {n : Bool} {t : ByteArray} {e : Int} (h : MayD c n (bys t) e) : -3000 ≤ e ∧ e ≤ 2000 ∧ -2000 ≤ (t.size : Int) + e ∧ (t.size : Int) + e ≤ 2000 := by
  rcases h with ⟨_, ⟨h1, h2⟩ | ⟨_, h1, h2, h3, _⟩⟩ | ⟨_, h1, h2⟩ | ⟨_, _, h1, h2⟩
  · rw [bys_nil] at h1; omega
  · rw [bys_len] at h1 h2 h3; omega
  · rw [bys_nil] at h1; omega
  · rw [bys_nil] at h1; omega

theorem may_okT {n : Bool} {t : ByteArray} {e : Int} (h : MayD 0 n (bys t) e) (h0 : t.size ≠ 0) : OkT (bys t) ∧ byt (bys t) 0 ≠ 48 := by
  rcases h with ⟨_, ⟨h1, _⟩ | ⟨h1, _, _, _, h2, _, h3⟩⟩ | ⟨h1, _⟩ | ⟨h1, _⟩
  · exact absurd (bys_nil.1 h1) h0
  · exact ⟨⟨h1, fun e => absurd e h2, h3⟩, h2⟩
  · omega
  · omega

theorem mult_raw (ca : Int) (na : Bool) (ta : ByteArray) (ea : Int) (nb : Bool) (tb : ByteArray) (eb m : Int) (h : MayD ca na (bys ta) ea) (m1 : 0 ≤ m) (m2 : m < 8) (hok : OkT (bys tb)) (h48 : byt (bys tb) 0 ≠ 48) (hs : tb.size ≤ 32) (h1 : -4000 ≤ eb) (h2 : eb ≤ 4000) (w : World) (htab : Tab w) :
    Calls Tryz.prog 170 #[dcV ca na ta ea, dcV 0 nb tb eb, .int .i64 m] w fun e w' => e = .returned (decErr (rndD ⟨ca.toNat, na, bys ta, ea⟩ (decV (bys tb)) eb m.toNat)) ∧ Below w.heap.size w w' := by
  have g := mult_any ⟨ca.toNat, na, bys ta, ea⟩ (may_of h) nb tb eb m.toNat w (by omega) hok h48 hs h1 h2 htab
  unfold decVal at g
  simp only at g
  rw [mk_bys, ← may_cls h, show ((m.toNat : Nat) : Int) = m by omega] at g
  exact g

set_option maxHeartbeats 1000000 in
theorem At_no (ca : Int) (na : Bool) (ta : ByteArray) (ea p m : Int) (w : World) (h : ¬ MayD ca na (bys ta) ea) : Calls Tryz.prog 123 #[dcV ca na ta ea, .int .i64 p, .int .i64 m] w fun e w' => e = .returned (.tuple #[dcV 0 false ⟨#[]⟩ 0, .int .i64 52]) ∧ Below w.heap.size w w' := by
  have CK := hide (fun W => check_no ca na ta ea m W h)
  have Ba0 := hide ((Blk.newAt w (w.heap.size) (rfl) #[.int .i64 ca, .bool na, .string ta, .int .i64 ea] 23).alloc (.cells #[.int .i64 0, .bool false, .string ⟨#[]⟩, .int .i64 0] 23))
  have Br0 := hide (Blk.newAt (w.alloc (.cells #[.int .i64 ca, .bool na, .string ta, .int .i64 ea] 23)) (w.heap.size + 1) (by simp) #[.int .i64 0, .bool false, .string ⟨#[]⟩, .int .i64 0] 23)
  have HB0 : Hid (Below w.heap.size w ((w.alloc (.cells #[.int .i64 ca, .bool na, .string ta, .int .i64 ea] 23)).alloc (.cells #[.int .i64 0, .bool false, .string ⟨#[]⟩, .int .i64 0] 23))) := (((Below.refl _ _).alloc (Nat.le_refl _) _).alloc (by simp <;> omega) _)
  go_enter Tryz.func123, Tryz.ntmps123
  go_wp2_with fail
  refine (CK.out _).mono ?_
  rintro e w1 ⟨rfl, hb⟩
  have Ba1 := hide (Ba0.out.below hb Ba0.out.lt)
  have Br1 := hide (Br0.out.below hb Br0.out.lt)
  have HB1 := hide (HB0.out.trans (hb.mono HB0.out.size))
  clear hb Ba0 Br0 HB0 
  obtain ⟨ya0, ya1, ya2, ya3⟩ := Ba1.out.four
  obtain ⟨yr0, yr1, yr2, yr3⟩ := Br1.out.four
  have fr0 := Br1.out.free 0
  have fr1 := Br1.out.free 1
  have fr2 := Br1.out.free 2
  have fr3 := Br1.out.free 3
  go_wp2
  refine bodyPost_ret (results_dec2 rfl _ _ _ _ _ _ _ rfl (Br1.out.put4 _ _ _ _)) rfl ?_
  exact ⟨rfl, below_put4 (HB1.out) (by omega) _ _ _ _⟩

set_option maxHeartbeats 1000000 in
theorem At_mlow (ca : Int) (na : Bool) (ta : ByteArray) (ea p m : Int) (w : World) (h : MayD ca na (bys ta) ea) (hm : m < 0) : Calls Tryz.prog 123 #[dcV ca na ta ea, .int .i64 p, .int .i64 m] w fun e w' => e = .returned (.tuple #[dcV 0 false ⟨#[]⟩ 0, .int .i64 60]) ∧ Below w.heap.size w w' := by
  have CK := hide (fun W => check_low ca na ta ea m W h hm)
  have Ba0 := hide ((Blk.newAt w (w.heap.size) (rfl) #[.int .i64 ca, .bool na, .string ta, .int .i64 ea] 23).alloc (.cells #[.int .i64 0, .bool false, .string ⟨#[]⟩, .int .i64 0] 23))
  have Br0 := hide (Blk.newAt (w.alloc (.cells #[.int .i64 ca, .bool na, .string ta, .int .i64 ea] 23)) (w.heap.size + 1) (by simp) #[.int .i64 0, .bool false, .string ⟨#[]⟩, .int .i64 0] 23)
  have HB0 : Hid (Below w.heap.size w ((w.alloc (.cells #[.int .i64 ca, .bool na, .string ta, .int .i64 ea] 23)).alloc (.cells #[.int .i64 0, .bool false, .string ⟨#[]⟩, .int .i64 0] 23))) := (((Below.refl _ _).alloc (Nat.le_refl _) _).alloc (by simp <;> omega) _)
  go_enter Tryz.func123, Tryz.ntmps123
  go_wp2_with fail
  refine (CK.out _).mono ?_
  rintro e w1 ⟨rfl, hb⟩
  have Ba1 := hide (Ba0.out.below hb Ba0.out.lt)
  have Br1 := hide (Br0.out.below hb Br0.out.lt)
  have HB1 := hide (HB0.out.trans (hb.mono HB0.out.size))
  clear hb Ba0 Br0 HB0 
  obtain ⟨ya0, ya1, ya2, ya3⟩ := Ba1.out.four
  obtain ⟨yr0, yr1, yr2, yr3⟩ := Br1.out.four
  have fr0 := Br1.out.free 0
  have fr1 := Br1.out.free 1
  have fr2 := Br1.out.free 2
  have fr3 := Br1.out.free 3
  go_wp2
  refine bodyPost_ret (results_dec2 rfl _ _ _ _ _ _ _ rfl (Br1.out.put4 _ _ _ _)) rfl ?_
  exact ⟨rfl, below_put4 (HB1.out) (by omega) _ _ _ _⟩

set_option maxHeartbeats 1000000 in
theorem At_mhigh (ca : Int) (na : Bool) (ta : ByteArray) (ea p m : Int) (w : World) (h : MayD ca na (bys ta) ea) (hm : 8 ≤ m) : Calls Tryz.prog 123 #[dcV ca na ta ea, .int .i64 p, .int .i64 m] w fun e w' => e = .returned (.tuple #[dcV 0 false ⟨#[]⟩ 0, .int .i64 60]) ∧ Below w.heap.size w w' := by
  have CK := hide (fun W => check_high ca na ta ea m W h hm)
  have Ba0 := hide ((Blk.newAt w (w.heap.size) (rfl) #[.int .i64 ca, .bool na, .string ta, .int .i64 ea] 23).alloc (.cells #[.int .i64 0, .bool false, .string ⟨#[]⟩, .int .i64 0] 23))
  have Br0 := hide (Blk.newAt (w.alloc (.cells #[.int .i64 ca, .bool na, .string ta, .int .i64 ea] 23)) (w.heap.size + 1) (by simp) #[.int .i64 0, .bool false, .string ⟨#[]⟩, .int .i64 0] 23)
  have HB0 : Hid (Below w.heap.size w ((w.alloc (.cells #[.int .i64 ca, .bool na, .string ta, .int .i64 ea] 23)).alloc (.cells #[.int .i64 0, .bool false, .string ⟨#[]⟩, .int .i64 0] 23))) := (((Below.refl _ _).alloc (Nat.le_refl _) _).alloc (by simp <;> omega) _)
  go_enter Tryz.func123, Tryz.ntmps123
  go_wp2_with fail
  refine (CK.out _).mono ?_
  rintro e w1 ⟨rfl, hb⟩
  have Ba1 := hide (Ba0.out.below hb Ba0.out.lt)
  have Br1 := hide (Br0.out.below hb Br0.out.lt)
  have HB1 := hide (HB0.out.trans (hb.mono HB0.out.size))
  clear hb Ba0 Br0 HB0 
  obtain ⟨ya0, ya1, ya2, ya3⟩ := Ba1.out.four
  obtain ⟨yr0, yr1, yr2, yr3⟩ := Br1.out.four
  have fr0 := Br1.out.free 0
  have fr1 := Br1.out.free 1
  have fr2 := Br1.out.free 2
  have fr3 := Br1.out.free 3
  go_wp2
  refine bodyPost_ret (results_dec2 rfl _ _ _ _ _ _ _ rfl (Br1.out.put4 _ _ _ _)) rfl ?_
  exact ⟨rfl, below_put4 (HB1.out) (by omega) _ _ _ _⟩

set_option maxHeartbeats 1000000 in
theorem At_low (ca : Int) (na : Bool) (ta : ByteArray) (ea p m : Int) (w : World) (h : MayD ca na (bys ta) ea) (m1 : 0 ≤ m) (m2 : m < 8) (hp : p < -4000) : Calls Tryz.prog 123 #[dcV ca na ta ea, .int .i64 p, .int .i64 m] w fun e w' => e = .returned (.tuple #[dcV 0 false ⟨#[]⟩ 0, .int .i64 61]) ∧ Below w.heap.size w w' := by
  have CK := hide (fun W => check_ok ca na ta ea m W h m1 m2)
  have Ba0 := hide ((Blk.newAt w (w.heap.size) (rfl) #[.int .i64 ca, .bool na, .string ta, .int .i64 ea] 23).alloc (.cells #[.int .i64 0, .bool false, .string ⟨#[]⟩, .int .i64 0] 23))
  have Br0 := hide (Blk.newAt (w.alloc (.cells #[.int .i64 ca, .bool na, .string ta, .int .i64 ea] 23)) (w.heap.size + 1) (by simp) #[.int .i64 0, .bool false, .string ⟨#[]⟩, .int .i64 0] 23)
  have HB0 : Hid (Below w.heap.size w ((w.alloc (.cells #[.int .i64 ca, .bool na, .string ta, .int .i64 ea] 23)).alloc (.cells #[.int .i64 0, .bool false, .string ⟨#[]⟩, .int .i64 0] 23))) := (((Below.refl _ _).alloc (Nat.le_refl _) _).alloc (by simp <;> omega) _)
  go_enter Tryz.func123, Tryz.ntmps123
  go_wp2_with fail
  refine (CK.out _).mono ?_
  rintro e w1 ⟨rfl, hb⟩
  have Ba1 := hide (Ba0.out.below hb Ba0.out.lt)
  have Br1 := hide (Br0.out.below hb Br0.out.lt)
  have HB1 := hide (HB0.out.trans (hb.mono HB0.out.size))
  clear hb Ba0 Br0 HB0 
  obtain ⟨ya0, ya1, ya2, ya3⟩ := Ba1.out.four
  obtain ⟨yr0, yr1, yr2, yr3⟩ := Br1.out.four
  have fr0 := Br1.out.free 0
  have fr1 := Br1.out.free 1
  have fr2 := Br1.out.free 2
  have fr3 := Br1.out.free 3
  go_wp2
  refine bodyPost_ret (results_dec2 rfl _ _ _ _ _ _ _ rfl (Br1.out.put4 _ _ _ _)) rfl ?_
  exact ⟨rfl, below_put4 (HB1.out) (by omega) _ _ _ _⟩

set_option maxHeartbeats 1000000 in
theorem At_high (ca : Int) (na : Bool) (ta : ByteArray) (ea p m : Int) (w : World) (h : MayD ca na (bys ta) ea) (m1 : 0 ≤ m) (m2 : m < 8) (hp : 4000 < p) : Calls Tryz.prog 123 #[dcV ca na ta ea, .int .i64 p, .int .i64 m] w fun e w' => e = .returned (.tuple #[dcV 0 false ⟨#[]⟩ 0, .int .i64 61]) ∧ Below w.heap.size w w' := by
  have CK := hide (fun W => check_ok ca na ta ea m W h m1 m2)
  have Ba0 := hide ((Blk.newAt w (w.heap.size) (rfl) #[.int .i64 ca, .bool na, .string ta, .int .i64 ea] 23).alloc (.cells #[.int .i64 0, .bool false, .string ⟨#[]⟩, .int .i64 0] 23))
  have Br0 := hide (Blk.newAt (w.alloc (.cells #[.int .i64 ca, .bool na, .string ta, .int .i64 ea] 23)) (w.heap.size + 1) (by simp) #[.int .i64 0, .bool false, .string ⟨#[]⟩, .int .i64 0] 23)
  have HB0 : Hid (Below w.heap.size w ((w.alloc (.cells #[.int .i64 ca, .bool na, .string ta, .int .i64 ea] 23)).alloc (.cells #[.int .i64 0, .bool false, .string ⟨#[]⟩, .int .i64 0] 23))) := (((Below.refl _ _).alloc (Nat.le_refl _) _).alloc (by simp <;> omega) _)
  go_enter Tryz.func123, Tryz.ntmps123
  go_wp2_with fail
  refine (CK.out _).mono ?_
  rintro e w1 ⟨rfl, hb⟩
  have Ba1 := hide (Ba0.out.below hb Ba0.out.lt)
  have Br1 := hide (Br0.out.below hb Br0.out.lt)
  have HB1 := hide (HB0.out.trans (hb.mono HB0.out.size))
  clear hb Ba0 Br0 HB0 
  obtain ⟨ya0, ya1, ya2, ya3⟩ := Ba1.out.four
  obtain ⟨yr0, yr1, yr2, yr3⟩ := Br1.out.four
  have fr0 := Br1.out.free 0
  have fr1 := Br1.out.free 1
  have fr2 := Br1.out.free 2
  have fr3 := Br1.out.free 3
  go_wp2
  refine bodyPost_ret (results_dec2 rfl _ _ _ _ _ _ _ rfl (Br1.out.put4 _ _ _ _)) rfl ?_
  exact ⟨rfl, below_put4 (HB1.out) (by omega) _ _ _ _⟩

set_option maxHeartbeats 4000000 in
theorem At_in (ca : Int) (na : Bool) (ta : ByteArray) (ea p m : Int) (w : World) (h : MayD ca na (bys ta) ea) (m1 : 0 ≤ m) (m2 : m < 8) (p1 : -4000 ≤ p) (p2 : p ≤ 4000) (htab : Tab w) : Calls Tryz.prog 123 #[dcV ca na ta ea, .int .i64 p, .int .i64 m] w fun e w' => e = .returned (decErr (rndD ⟨ca.toNat, na, bys ta, ea⟩ 1 p m.toNat)) ∧ Below w.heap.size w w' := by
  have CK := hide (fun W => check_ok ca na ta ea m W h m1 m2)
  have bd := may_place h
  have MG := fun (W : World) (hT : Tab W) => mult_raw ca na ta ea false ⟨#[49]⟩ p m h m1 m2 ok49 (by decide) (by decide) (by omega) (by omega) W hT
  rw [show decV (bys ⟨#[49]⟩) = 1 from rfl] at MG
  rcases hR : rndD ⟨ca.toNat, na, bys ta, ea⟩ 1 p m.toNat with ⟨⟨cc, nn, ll, ee⟩, er⟩
  rw [hR] at MG
  unfold decErr decVal at MG ⊢
  simp only at MG ⊢
  obtain ⟨D, hD⟩ : ∃ D : ByteArray, D = ⟨ll.toArray⟩ := ⟨_, rfl⟩
  rw [← hD] at MG ⊢
  have MU := hide MG
  have HT := hide htab
  clear MG hR hD htab
  clear h bd
  have Ba0 := hide ((Blk.newAt w (w.heap.size) (rfl) #[.int .i64 ca, .bool na, .string ta, .int .i64 ea] 23).alloc (.cells #[.int .i64 0, .bool false, .string ⟨#[]⟩, .int .i64 0] 23))
  have Br0 := hide (Blk.newAt (w.alloc (.cells #[.int .i64 ca, .bool na, .string ta, .int .i64 ea] 23)) (w.heap.size + 1) (by simp) #[.int .i64 0, .bool false, .string ⟨#[]⟩, .int .i64 0] 23)
  have HB0 : Hid (Below w.heap.size w ((w.alloc (.cells #[.int .i64 ca, .bool na, .string ta, .int .i64 ea] 23)).alloc (.cells #[.int .i64 0, .bool false, .string ⟨#[]⟩, .int .i64 0] 23))) := (((Below.refl _ _).alloc (Nat.le_refl _) _).alloc (by simp <;> omega) _)
  go_enter Tryz.func123, Tryz.ntmps123
  go_wp2_with fail
  refine (CK.out _).mono ?_
  rintro e w1 ⟨rfl, hb⟩
  clear CK
  have Ba1 := hide (Ba0.out.below hb Ba0.out.lt)
  have Br1 := hide (Br0.out.below hb Br0.out.lt)
  have HB1 := hide (HB0.out.trans (hb.mono HB0.out.size))
  clear hb Ba0 Br0 HB0 
  obtain ⟨ya0, ya1, ya2, ya3⟩ := Ba1.out.four
  obtain ⟨yr0, yr1, yr2, yr3⟩ := Br1.out.four
  have HTC := hide (HT.out.below HB1.out)
  clear HT
  have HL : Hid (w.heap.size < w1.heap.size ∧ w.heap.size + 1 < w1.heap.size) := ⟨Ba1.out.lt, Br1.out.lt⟩
  obtain ⟨G, hG⟩ : ∃ G, G = w.heap.size + 1 := ⟨_, rfl⟩
  have gn0 : ¬ G = w.heap.size := by omega
  have gn1 : ¬ w.heap.size = G := by omega
  have gle : w.heap.size ≤ G := by omega
  have HG := hide hG
  rw [← hG] at Br1
  clear hG HL ya0 ya1 ya2 ya3 yr0 yr1 yr2 yr3
  have d0 : w1.cell? ⟨w.heap.size, 0, none⟩ = some (.int .i64 ca) := Ba1.out.cell 0
  have d1 : w1.cell? ⟨w.heap.size, 1, none⟩ = some (.bool na) := Ba1.out.cell 1
  have d2 : w1.cell? ⟨w.heap.size, 2, none⟩ = some (.string ta) := Ba1.out.cell 2
  have d3 : w1.cell? ⟨w.heap.size, 3, none⟩ = some (.int .i64 ea) := Ba1.out.cell 3
  have HC : Hid (∀ w', Below w1.heap.size w1 w' → w'.cell? ⟨w.heap.size, 0, none⟩ = some (.int .i64 ca) ∧ w'.cell? ⟨w.heap.size, 1, none⟩ = some (.bool na) ∧ w'.cell? ⟨w.heap.size, 2, none⟩ = some (.string ta) ∧ w'.cell? ⟨w.heap.size, 3, none⟩ = some (.int .i64 ea) ∧ w'.cell? ⟨G, 0, none⟩ = some (.int .i64 0) ∧ w'.cell? ⟨G, 1, none⟩ = some (.bool false) ∧ w'.cell? ⟨G, 2, none⟩ = some (.string ⟨#[]⟩) ∧ w'.cell? ⟨G, 3, none⟩ = some (.int .i64 0) ∧ w'.frozen? ⟨G, 0, none⟩ = false ∧ w'.frozen? ⟨G, 1, none⟩ = false ∧ w'.frozen? ⟨G, 2, none⟩ = false ∧ w'.frozen? ⟨G, 3, none⟩ = false) := by
    intro w' hb
    have Ba1q := Ba1.out.below hb Ba1.out.lt
    have Br1q := Br1.out.below hb Br1.out.lt
    exact ⟨Ba1q.cell 0, Ba1q.cell 1, Ba1q.cell 2, Ba1q.cell 3, Br1q.cell 0, Br1q.cell 1, Br1q.cell 2, Br1q.cell 3, Br1q.free 0, Br1q.free 1, Br1q.free 2, Br1q.free 3⟩
  have b0 : Hid (Below w1.heap.size w1 w1.drew) := bdrewD w1
  have C0 : Hid (∀ X, Hid (Below w1.heap.size w1 X) → Calls Tryz.prog 171 #[.int .i64 p] X fun e w' => e = .returned (.agg #[.int .i64 0, .bool false, .string ⟨#[49]⟩, .int .i64 p]) ∧ Hid (Below w1.heap.size w1 w') ∧ w'.cell? ⟨w.heap.size, 0, none⟩ = some (.int .i64 ca) ∧ w'.cell? ⟨w.heap.size, 1, none⟩ = some (.bool na) ∧ w'.cell? ⟨w.heap.size, 2, none⟩ = some (.string ta) ∧ w'.cell? ⟨w.heap.size, 3, none⟩ = some (.int .i64 ea) ∧ w'.cell? ⟨G, 0, none⟩ = some (.int .i64 0) ∧ w'.cell? ⟨G, 1, none⟩ = some (.bool false) ∧ w'.cell? ⟨G, 2, none⟩ = some (.string ⟨#[]⟩) ∧ w'.cell? ⟨G, 3, none⟩ = some (.int .i64 0) ∧ w'.frozen? ⟨G, 0, none⟩ = false ∧ w'.frozen? ⟨G, 1, none⟩ = false ∧ w'.frozen? ⟨G, 2, none⟩ = false ∧ w'.frozen? ⟨G, 3, none⟩ = false) := by
    intro X  bX 
    refine (powerOfTen_any p X).mono ?_
    rintro e w' ⟨rfl, hb⟩
    have bb := bX.out.trans (hb.mono bX.out.size)
    exact ⟨rfl, bb, HC.out _ bb⟩
  have C1 : Hid (∀ X, Hid (Below w1.heap.size w1 X) → Calls Tryz.prog 170 #[dcV ca na ta ea, dcV 0 false ⟨#[49]⟩ p, .int .i64 m] X fun e w' => e = .returned (.tuple #[.agg #[.int .i64 (cc : Int), .bool nn, .string D, .int .i64 ee], .int .i64 er]) ∧ Hid (Below w1.heap.size w1 w') ∧ w'.cell? ⟨w.heap.size, 0, none⟩ = some (.int .i64 ca) ∧ w'.cell? ⟨w.heap.size, 1, none⟩ = some (.bool na) ∧ w'.cell? ⟨w.heap.size, 2, none⟩ = some (.string ta) ∧ w'.cell? ⟨w.heap.size, 3, none⟩ = some (.int .i64 ea) ∧ w'.cell? ⟨G, 0, none⟩ = some (.int .i64 0) ∧ w'.cell? ⟨G, 1, none⟩ = some (.bool false) ∧ w'.cell? ⟨G, 2, none⟩ = some (.string ⟨#[]⟩) ∧ w'.cell? ⟨G, 3, none⟩ = some (.int .i64 0) ∧ w'.frozen? ⟨G, 0, none⟩ = false ∧ w'.frozen? ⟨G, 1, none⟩ = false ∧ w'.frozen? ⟨G, 2, none⟩ = false ∧ w'.frozen? ⟨G, 3, none⟩ = false) := by
    intro X  bX 
    refine (MU.out X (HTC.out.below bX.out)).mono ?_
    rintro e w' ⟨rfl, hb⟩
    have bb := bX.out.trans (hb.mono bX.out.size)
    exact ⟨rfl, bb, HC.out _ bb⟩
  have BRF : Hid (∀ w', Below w1.heap.size w1 w' → Below w.heap.size w w' ∧ Blk w' G #[.int .i64 0, .bool false, .string ⟨#[]⟩, .int .i64 0] 23) := fun w' hb => ⟨HB1.out.trans (hb.mono HB1.out.size), Br1.out.below hb Br1.out.lt⟩
  clear HC Ba1 Br1 HB1 HTC MU
  go_wp2_with fail
  simp only [← HG.out]
  have mk0 : True := trivial
  go_region_held3 (fun w' => w'.cell? ⟨w.heap.size, 0, none⟩ = some (.int .i64 ca) ∧ w'.cell? ⟨w.heap.size, 1, none⟩ = some (.bool na) ∧ w'.cell? ⟨w.heap.size, 2, none⟩ = some (.string ta) ∧ w'.cell? ⟨w.heap.size, 3, none⟩ = some (.int .i64 ea)) (go_keep) (first
    | (clear mk0; go_at_call 171; refine (C0.out _  b0 ).mono ?_; rintro e v1 ⟨rfl, b1, q0_0, q0_1, q0_2, q0_3, q0_4, q0_5, q0_6, q0_7, q0_8, q0_9, q0_10, q0_11⟩; have mk1 : True := trivial)
    | (clear mk1; go_at_call 170; refine (C1.out _  b1 ).mono ?_; rintro e v2 ⟨rfl, b2, q1_0, q1_1, q1_2, q1_3, q1_4, q1_5, q1_6, q1_7, q1_8, q1_9, q1_10, q1_11⟩; have mk2 : True := trivial))
  obtain ⟨hbel, hblk⟩ := BRF.out _ b2.out
  have HBL := hide hbel
  have QR := hide hblk
  clear hbel hblk BRF b0 b1 b2 C0 C1
  repeat (first | go_values | go_skip | go_guarded | go_step | go_upon)
  refine bodyPost_ret (results_dec2 rfl _ _ _ _ _ _ _ rfl (QR.out.put4 _ _ _ _)) rfl ?_
  exact ⟨rfl, below_put4 HBL.out gle _ _ _ _⟩

theorem At_any (ca : Int) (na : Bool) (ta : ByteArray) (ea p m : Int) (w : World) (htab : Tab w) : Calls Tryz.prog 123 #[dcV ca na ta ea, .int .i64 p, .int .i64 m] w fun e w' => e = .returned (decErr (atR ca na (bys ta) ea p m)) ∧ Below w.heap.size w w' := by
  unfold atR
  by_cases h : MayD ca na (bys ta) ea
  · rw [if_neg (fun g => g h)]
    by_cases h1 : m < 0
    · rw [if_pos (.inl h1)]
      exact At_mlow ca na ta ea p m w h h1
    · by_cases h2 : 8 ≤ m
      · rw [if_pos (.inr h2)]
        exact At_mhigh ca na ta ea p m w h h2
      · rw [if_neg (by omega)]
        by_cases h3 : p < -4000
        · rw [if_pos (.inl h3)]
          exact At_low ca na ta ea p m w h (by omega) (by omega) h3
        · by_cases h4 : 4000 < p
          · rw [if_pos (.inr h4)]
            exact At_high ca na ta ea p m w h (by omega) (by omega) h4
          · rw [if_neg (by omega)]
            exact At_in ca na ta ea p m w h (by omega) (by omega) (by omega) (by omega) htab
  · rw [if_pos h]
    exact At_no ca na ta ea p m w h

set_option maxHeartbeats 1000000 in
theorem Step_bno (ca : Int) (na : Bool) (ta : ByteArray) (ea cb : Int) (nb : Bool) (tb : ByteArray) (eb m : Int) (w : World) (hb : ¬ MayD cb nb (bys tb) eb) : Calls Tryz.prog 127 #[dcV ca na ta ea, dcV cb nb tb eb, .int .i64 m] w fun e w' => e = .returned (.tuple #[dcV 0 false ⟨#[]⟩ 0, .int .i64 52]) ∧ Below w.heap.size w w' := by
  have K0 := hide (fun W => dmay_no cb nb tb eb W hb)
  have Ba0 := hide (((Blk.newAt w (w.heap.size) (rfl) #[.int .i64 ca, .bool na, .string ta, .int .i64 ea] 23).alloc (.cells #[.int .i64 cb, .bool nb, .string tb, .int .i64 eb] 23)).alloc (.cells #[.int .i64 0, .bool false, .string ⟨#[]⟩, .int .i64 0] 23))
  have Bb0 := hide ((Blk.newAt (w.alloc (.cells #[.int .i64 ca, .bool na, .string ta, .int .i64 ea] 23)) (w.heap.size + 1) (by simp) #[.int .i64 cb, .bool nb, .string tb, .int .i64 eb] 23).alloc (.cells #[.int .i64 0, .bool false, .string ⟨#[]⟩, .int .i64 0] 23))
  have Br0 := hide (Blk.newAt ((w.alloc (.cells #[.int .i64 ca, .bool na, .string ta, .int .i64 ea] 23)).alloc (.cells #[.int .i64 cb, .bool nb, .string tb, .int .i64 eb] 23)) (w.heap.size + 1 + 1) (by simp) #[.int .i64 0, .bool false, .string ⟨#[]⟩, .int .i64 0] 23)
  have HB0 : Hid (Below w.heap.size w (((w.alloc (.cells #[.int .i64 ca, .bool na, .string ta, .int .i64 ea] 23)).alloc (.cells #[.int .i64 cb, .bool nb, .string tb, .int .i64 eb] 23)).alloc (.cells #[.int .i64 0, .bool false, .string ⟨#[]⟩, .int .i64 0] 23))) := ((((Below.refl _ _).alloc (Nat.le_refl _) _).alloc (by simp <;> omega) _).alloc (by simp <;> omega) _)
  go_enter Tryz.func127, Tryz.ntmps127
  go_wp2_with fail
  refine (K0.out _).mono ?_
  rintro e w1 ⟨rfl, hb⟩
  have Ba1 := hide (Ba0.out.below hb Ba0.out.lt)
  have Bb1 := hide (Bb0.out.below hb Bb0.out.lt)
  have Br1 := hide (Br0.out.below hb Br0.out.lt)
  have HB1 := hide (HB0.out.trans (hb.mono HB0.out.size))
  clear hb Ba0 Bb0 Br0 HB0 
  obtain ⟨ya0, ya1, ya2, ya3⟩ := Ba1.out.four
  obtain ⟨yb0, yb1, yb2, yb3⟩ := Bb1.out.four
  obtain ⟨yr0, yr1, yr2, yr3⟩ := Br1.out.four
  have fr0 := Br1.out.free 0
  have fr1 := Br1.out.free 1
  have fr2 := Br1.out.free 2
  have fr3 := Br1.out.free 3
  go_wp2
  refine bodyPost_ret (results_dec2 rfl _ _ _ _ _ _ _ rfl (Br1.out.put4 _ _ _ _)) rfl ?_
  exact ⟨rfl, below_put4 (HB1.out) (by omega) _ _ _ _⟩

set_option maxHeartbeats 1000000 in
theorem Step_no (ca : Int) (na : Bool) (ta : ByteArray) (ea cb : Int) (nb : Bool) (tb : ByteArray) (eb m : Int) (w : World) (hb : MayD cb nb (bys tb) eb) (h : ¬ MayD ca na (bys ta) ea) : Calls Tryz.prog 127 #[dcV ca na ta ea, dcV cb nb tb eb, .int .i64 m] w fun e w' => e = .returned (.tuple #[dcV 0 false ⟨#[]⟩ 0, .int .i64 52]) ∧ Below w.heap.size w w' := by
  have K0 := hide (fun W => dmay_yes cb nb tb eb W hb)
  have K1 := hide (fun W => check_no ca na ta ea m W h)
  have Ba0 := hide (((Blk.newAt w (w.heap.size) (rfl) #[.int .i64 ca, .bool na, .string ta, .int .i64 ea] 23).alloc (.cells #[.int .i64 cb, .bool nb, .string tb, .int .i64 eb] 23)).alloc (.cells #[.int .i64 0, .bool false, .string ⟨#[]⟩, .int .i64 0] 23))
  have Bb0 := hide ((Blk.newAt (w.alloc (.cells #[.int .i64 ca, .bool na, .string ta, .int .i64 ea] 23)) (w.heap.size + 1) (by simp) #[.int .i64 cb, .bool nb, .string tb, .int .i64 eb] 23).alloc (.cells #[.int .i64 0, .bool false, .string ⟨#[]⟩, .int .i64 0] 23))
  have Br0 := hide (Blk.newAt ((w.alloc (.cells #[.int .i64 ca, .bool na, .string ta, .int .i64 ea] 23)).alloc (.cells #[.int .i64 cb, .bool nb, .string tb, .int .i64 eb] 23)) (w.heap.size + 1 + 1) (by simp) #[.int .i64 0, .bool false, .string ⟨#[]⟩, .int .i64 0] 23)
  have HB0 : Hid (Below w.heap.size w (((w.alloc (.cells #[.int .i64 ca, .bool na, .string ta, .int .i64 ea] 23)).alloc (.cells #[.int .i64 cb, .bool nb, .string tb, .int .i64 eb] 23)).alloc (.cells #[.int .i64 0, .bool false, .string ⟨#[]⟩, .int .i64 0] 23))) := ((((Below.refl _ _).alloc (Nat.le_refl _) _).alloc (by simp <;> omega) _).alloc (by simp <;> omega) _)
  go_enter Tryz.func127, Tryz.ntmps127
  go_wp2_with fail
  refine (K0.out _).mono ?_
  rintro e w1 ⟨rfl, hb⟩
  have Ba1 := hide (Ba0.out.below hb Ba0.out.lt)
  have Bb1 := hide (Bb0.out.below hb Bb0.out.lt)
  have Br1 := hide (Br0.out.below hb Br0.out.lt)
  have HB1 := hide (HB0.out.trans (hb.mono HB0.out.size))
  clear hb Ba0 Bb0 Br0 HB0 
  obtain ⟨ya0, ya1, ya2, ya3⟩ := Ba1.out.four
  obtain ⟨yb0, yb1, yb2, yb3⟩ := Bb1.out.four
  obtain ⟨yr0, yr1, yr2, yr3⟩ := Br1.out.four
  go_wp2_with fail
  refine (K1.out _).mono ?_
  rintro e w2 ⟨rfl, hb⟩
  have Ba2 := hide (Ba1.out.below hb Ba1.out.lt)
  have Bb2 := hide (Bb1.out.below hb Bb1.out.lt)
  have Br2 := hide (Br1.out.below hb Br1.out.lt)
  have HB2 := hide (HB1.out.trans (hb.mono HB1.out.size))
  clear hb Ba1 Bb1 Br1 HB1 ya0 ya1 ya2 ya3 yb0 yb1 yb2 yb3 yr0 yr1 yr2 yr3
  obtain ⟨ya0, ya1, ya2, ya3⟩ := Ba2.out.four
  obtain ⟨yb0, yb1, yb2, yb3⟩ := Bb2.out.four
  obtain ⟨yr0, yr1, yr2, yr3⟩ := Br2.out.four
  have fr0 := Br2.out.free 0
  have fr1 := Br2.out.free 1
  have fr2 := Br2.out.free 2
  have fr3 := Br2.out.free 3
  go_wp2
  refine bodyPost_ret (results_dec2 rfl _ _ _ _ _ _ _ rfl (Br2.out.put4 _ _ _ _)) rfl ?_
  exact ⟨rfl, below_put4 (HB2.out) (by omega) _ _ _ _⟩

set_option maxHeartbeats 1000000 in
theorem Step_mlow (ca : Int) (na : Bool) (ta : ByteArray) (ea cb : Int) (nb : Bool) (tb : ByteArray) (eb m : Int) (w : World) (hb : MayD cb nb (bys tb) eb) (h : MayD ca na (bys ta) ea) (hm : m < 0) : Calls Tryz.prog 127 #[dcV ca na ta ea, dcV cb nb tb eb, .int .i64 m] w fun e w' => e = .returned (.tuple #[dcV 0 false ⟨#[]⟩ 0, .int .i64 60]) ∧ Below w.heap.size w w' := by
  have K0 := hide (fun W => dmay_yes cb nb tb eb W hb)
  have K1 := hide (fun W => check_low ca na ta ea m W h hm)
  have Ba0 := hide (((Blk.newAt w (w.heap.size) (rfl) #[.int .i64 ca, .bool na, .string ta, .int .i64 ea] 23).alloc (.cells #[.int .i64 cb, .bool nb, .string tb, .int .i64 eb] 23)).alloc (.cells #[.int .i64 0, .bool false, .string ⟨#[]⟩, .int .i64 0] 23))
  have Bb0 := hide ((Blk.newAt (w.alloc (.cells #[.int .i64 ca, .bool na, .string ta, .int .i64 ea] 23)) (w.heap.size + 1) (by simp) #[.int .i64 cb, .bool nb, .string tb, .int .i64 eb] 23).alloc (.cells #[.int .i64 0, .bool false, .string ⟨#[]⟩, .int .i64 0] 23))
  have Br0 := hide (Blk.newAt ((w.alloc (.cells #[.int .i64 ca, .bool na, .string ta, .int .i64 ea] 23)).alloc (.cells #[.int .i64 cb, .bool nb, .string tb, .int .i64 eb] 23)) (w.heap.size + 1 + 1) (by simp) #[.int .i64 0, .bool false, .string ⟨#[]⟩, .int .i64 0] 23)
  have HB0 : Hid (Below w.heap.size w (((w.alloc (.cells #[.int .i64 ca, .bool na, .string ta, .int .i64 ea] 23)).alloc (.cells #[.int .i64 cb, .bool nb, .string tb, .int .i64 eb] 23)).alloc (.cells #[.int .i64 0, .bool false, .string ⟨#[]⟩, .int .i64 0] 23))) := ((((Below.refl _ _).alloc (Nat.le_refl _) _).alloc (by simp <;> omega) _).alloc (by simp <;> omega) _)
  go_enter Tryz.func127, Tryz.ntmps127
  go_wp2_with fail
  refine (K0.out _).mono ?_
  rintro e w1 ⟨rfl, hb⟩
  have Ba1 := hide (Ba0.out.below hb Ba0.out.lt)
  have Bb1 := hide (Bb0.out.below hb Bb0.out.lt)
  have Br1 := hide (Br0.out.below hb Br0.out.lt)
  have HB1 := hide (HB0.out.trans (hb.mono HB0.out.size))
  clear hb Ba0 Bb0 Br0 HB0 
  obtain ⟨ya0, ya1, ya2, ya3⟩ := Ba1.out.four
  obtain ⟨yb0, yb1, yb2, yb3⟩ := Bb1.out.four
  obtain ⟨yr0, yr1, yr2, yr3⟩ := Br1.out.four
  go_wp2_with fail
  refine (K1.out _).mono ?_
  rintro e w2 ⟨rfl, hb⟩
  have Ba2 := hide (Ba1.out.below hb Ba1.out.lt)
  have Bb2 := hide (Bb1.out.below hb Bb1.out.lt)
  have Br2 := hide (Br1.out.below hb Br1.out.lt)
  have HB2 := hide (HB1.out.trans (hb.mono HB1.out.size))
  clear hb Ba1 Bb1 Br1 HB1 ya0 ya1 ya2 ya3 yb0 yb1 yb2 yb3 yr0 yr1 yr2 yr3
  obtain ⟨ya0, ya1, ya2, ya3⟩ := Ba2.out.four
  obtain ⟨yb0, yb1, yb2, yb3⟩ := Bb2.out.four
  obtain ⟨yr0, yr1, yr2, yr3⟩ := Br2.out.four
  have fr0 := Br2.out.free 0
  have fr1 := Br2.out.free 1
  have fr2 := Br2.out.free 2
  have fr3 := Br2.out.free 3
  go_wp2
  refine bodyPost_ret (results_dec2 rfl _ _ _ _ _ _ _ rfl (Br2.out.put4 _ _ _ _)) rfl ?_
  exact ⟨rfl, below_put4 (HB2.out) (by omega) _ _ _ _⟩

set_option maxHeartbeats 1000000 in
theorem Step_mhigh (ca : Int) (na : Bool) (ta : ByteArray) (ea cb : Int) (nb : Bool) (tb : ByteArray) (eb m : Int) (w : World) (hb : MayD cb nb (bys tb) eb) (h : MayD ca na (bys ta) ea) (hm : 8 ≤ m) : Calls Tryz.prog 127 #[dcV ca na ta ea, dcV cb nb tb eb, .int .i64 m] w fun e w' => e = .returned (.tuple #[dcV 0 false ⟨#[]⟩ 0, .int .i64 60]) ∧ Below w.heap.size w w' := by
  have K0 := hide (fun W => dmay_yes cb nb tb eb W hb)
  have K1 := hide (fun W => check_high ca na ta ea m W h hm)
  have Ba0 := hide (((Blk.newAt w (w.heap.size) (rfl) #[.int .i64 ca, .bool na, .string ta, .int .i64 ea] 23).alloc (.cells #[.int .i64 cb, .bool nb, .string tb, .int .i64 eb] 23)).alloc (.cells #[.int .i64 0, .bool false, .string ⟨#[]⟩, .int .i64 0] 23))
  have Bb0 := hide ((Blk.newAt (w.alloc (.cells #[.int .i64 ca, .bool na, .string ta, .int .i64 ea] 23)) (w.heap.size + 1) (by simp) #[.int .i64 cb, .bool nb, .string tb, .int .i64 eb] 23).alloc (.cells #[.int .i64 0, .bool false, .string ⟨#[]⟩, .int .i64 0] 23))
  have Br0 := hide (Blk.newAt ((w.alloc (.cells #[.int .i64 ca, .bool na, .string ta, .int .i64 ea] 23)).alloc (.cells #[.int .i64 cb, .bool nb, .string tb, .int .i64 eb] 23)) (w.heap.size + 1 + 1) (by simp) #[.int .i64 0, .bool false, .string ⟨#[]⟩, .int .i64 0] 23)
  have HB0 : Hid (Below w.heap.size w (((w.alloc (.cells #[.int .i64 ca, .bool na, .string ta, .int .i64 ea] 23)).alloc (.cells #[.int .i64 cb, .bool nb, .string tb, .int .i64 eb] 23)).alloc (.cells #[.int .i64 0, .bool false, .string ⟨#[]⟩, .int .i64 0] 23))) := ((((Below.refl _ _).alloc (Nat.le_refl _) _).alloc (by simp <;> omega) _).alloc (by simp <;> omega) _)
  go_enter Tryz.func127, Tryz.ntmps127
  go_wp2_with fail
  refine (K0.out _).mono ?_
  rintro e w1 ⟨rfl, hb⟩
  have Ba1 := hide (Ba0.out.below hb Ba0.out.lt)
  have Bb1 := hide (Bb0.out.below hb Bb0.out.lt)
  have Br1 := hide (Br0.out.below hb Br0.out.lt)
  have HB1 := hide (HB0.out.trans (hb.mono HB0.out.size))
  clear hb Ba0 Bb0 Br0 HB0 
  obtain ⟨ya0, ya1, ya2, ya3⟩ := Ba1.out.four
  obtain ⟨yb0, yb1, yb2, yb3⟩ := Bb1.out.four
  obtain ⟨yr0, yr1, yr2, yr3⟩ := Br1.out.four
  go_wp2_with fail
  refine (K1.out _).mono ?_
  rintro e w2 ⟨rfl, hb⟩
  have Ba2 := hide (Ba1.out.below hb Ba1.out.lt)
  have Bb2 := hide (Bb1.out.below hb Bb1.out.lt)
  have Br2 := hide (Br1.out.below hb Br1.out.lt)
  have HB2 := hide (HB1.out.trans (hb.mono HB1.out.size))
  clear hb Ba1 Bb1 Br1 HB1 ya0 ya1 ya2 ya3 yb0 yb1 yb2 yb3 yr0 yr1 yr2 yr3
  obtain ⟨ya0, ya1, ya2, ya3⟩ := Ba2.out.four
  obtain ⟨yb0, yb1, yb2, yb3⟩ := Bb2.out.four
  obtain ⟨yr0, yr1, yr2, yr3⟩ := Br2.out.four
  have fr0 := Br2.out.free 0
  have fr1 := Br2.out.free 1
  have fr2 := Br2.out.free 2
  have fr3 := Br2.out.free 3
  go_wp2
  refine bodyPost_ret (results_dec2 rfl _ _ _ _ _ _ _ rfl (Br2.out.put4 _ _ _ _)) rfl ?_
  exact ⟨rfl, below_put4 (HB2.out) (by omega) _ _ _ _⟩

set_option maxHeartbeats 1000000 in
theorem Step_bad (ca : Int) (na : Bool) (ta : ByteArray) (ea cb : Int) (nb : Bool) (tb : ByteArray) (eb m : Int) (w : World) (hb : MayD cb nb (bys tb) eb) (h : MayD ca na (bys ta) ea) (m1 : 0 ≤ m) (m2 : m < 8) (hq : ∀ W, Calls Tryz.prog 172 #[dcV cb nb tb eb] W fun e w' => e = .returned (.bool false) ∧ Below W.heap.size W w') : Calls Tryz.prog 127 #[dcV ca na ta ea, dcV cb nb tb eb, .int .i64 m] w fun e w' => e = .returned (.tuple #[dcV 0 false ⟨#[]⟩ 0, .int .i64 62]) ∧ Below w.heap.size w w' := by
  have K0 := hide (fun W => dmay_yes cb nb tb eb W hb)
  have K1 := hide (fun W => check_ok ca na ta ea m W h m1 m2)
  have K2 := hide hq
  have Ba0 := hide (((Blk.newAt w (w.heap.size) (rfl) #[.int .i64 ca, .bool na, .string ta, .int .i64 ea] 23).alloc (.cells #[.int .i64 cb, .bool nb, .string tb, .int .i64 eb] 23)).alloc (.cells #[.int .i64 0, .bool false, .string ⟨#[]⟩, .int .i64 0] 23))
  have Bb0 := hide ((Blk.newAt (w.alloc (.cells #[.int .i64 ca, .bool na, .string ta, .int .i64 ea] 23)) (w.heap.size + 1) (by simp) #[.int .i64 cb, .bool nb, .string tb, .int .i64 eb] 23).alloc (.cells #[.int .i64 0, .bool false, .string ⟨#[]⟩, .int .i64 0] 23))
  have Br0 := hide (Blk.newAt ((w.alloc (.cells #[.int .i64 ca, .bool na, .string ta, .int .i64 ea] 23)).alloc (.cells #[.int .i64 cb, .bool nb, .string tb, .int .i64 eb] 23)) (w.heap.size + 1 + 1) (by simp) #[.int .i64 0, .bool false, .string ⟨#[]⟩, .int .i64 0] 23)
  have HB0 : Hid (Below w.heap.size w (((w.alloc (.cells #[.int .i64 ca, .bool na, .string ta, .int .i64 ea] 23)).alloc (.cells #[.int .i64 cb, .bool nb, .string tb, .int .i64 eb] 23)).alloc (.cells #[.int .i64 0, .bool false, .string ⟨#[]⟩, .int .i64 0] 23))) := ((((Below.refl _ _).alloc (Nat.le_refl _) _).alloc (by simp <;> omega) _).alloc (by simp <;> omega) _)
  go_enter Tryz.func127, Tryz.ntmps127
  go_wp2_with fail
  refine (K0.out _).mono ?_
  rintro e w1 ⟨rfl, hb⟩
  have Ba1 := hide (Ba0.out.below hb Ba0.out.lt)
  have Bb1 := hide (Bb0.out.below hb Bb0.out.lt)
  have Br1 := hide (Br0.out.below hb Br0.out.lt)
  have HB1 := hide (HB0.out.trans (hb.mono HB0.out.size))
  clear hb Ba0 Bb0 Br0 HB0 
  obtain ⟨ya0, ya1, ya2, ya3⟩ := Ba1.out.four
  obtain ⟨yb0, yb1, yb2, yb3⟩ := Bb1.out.four
  obtain ⟨yr0, yr1, yr2, yr3⟩ := Br1.out.four
  go_wp2_with fail
  refine (K1.out _).mono ?_
  rintro e w2 ⟨rfl, hb⟩
  have Ba2 := hide (Ba1.out.below hb Ba1.out.lt)
  have Bb2 := hide (Bb1.out.below hb Bb1.out.lt)
  have Br2 := hide (Br1.out.below hb Br1.out.lt)
  have HB2 := hide (HB1.out.trans (hb.mono HB1.out.size))
  clear hb Ba1 Bb1 Br1 HB1 ya0 ya1 ya2 ya3 yb0 yb1 yb2 yb3 yr0 yr1 yr2 yr3
  obtain ⟨ya0, ya1, ya2, ya3⟩ := Ba2.out.four
  obtain ⟨yb0, yb1, yb2, yb3⟩ := Bb2.out.four
  obtain ⟨yr0, yr1, yr2, yr3⟩ := Br2.out.four
  go_wp2_with fail
  refine (K2.out _).mono ?_
  rintro e w3 ⟨rfl, hb⟩
  have Ba3 := hide (Ba2.out.below hb Ba2.out.lt)
  have Bb3 := hide (Bb2.out.below hb Bb2.out.lt)
  have Br3 := hide (Br2.out.below hb Br2.out.lt)
  have HB3 := hide (HB2.out.trans (hb.mono HB2.out.size))
  clear hb Ba2 Bb2 Br2 HB2 ya0 ya1 ya2 ya3 yb0 yb1 yb2 yb3 yr0 yr1 yr2 yr3
  obtain ⟨ya0, ya1, ya2, ya3⟩ := Ba3.out.four
  obtain ⟨yb0, yb1, yb2, yb3⟩ := Bb3.out.four
  obtain ⟨yr0, yr1, yr2, yr3⟩ := Br3.out.four
  have fr0 := Br3.out.free 0
  have fr1 := Br3.out.free 1
  have fr2 := Br3.out.free 2
  have fr3 := Br3.out.free 3
  go_wp2
  refine bodyPost_ret (results_dec2 rfl _ _ _ _ _ _ _ rfl (Br3.out.put4 _ _ _ _)) rfl ?_
  exact ⟨rfl, below_put4 (HB3.out) (by omega) _ _ _ _⟩

set_option maxHeartbeats 2000000 in
theorem Step_in (ca : Int) (na : Bool) (ta : ByteArray) (ea : Int) (tb : ByteArray) (eb m : Int) (w : World) (hb : MayD 0 false (bys tb) eb) (h : MayD ca na (bys ta) ea) (m1 : 0 ≤ m) (m2 : m < 8) (hq : tb.size ≠ 0) (hl : tb.size ≤ 32) (htab : Tab w) : Calls Tryz.prog 127 #[dcV ca na ta ea, dcV 0 false tb eb, .int .i64 m] w fun e w' => e = .returned (decErr (rndD ⟨ca.toNat, na, bys ta, ea⟩ (decV (bys tb)) eb m.toNat)) ∧ Below w.heap.size w w' := by
  have K0 := hide (fun W => dmay_yes 0 false tb eb W hb)
  have K1 := hide (fun W => check_ok ca na ta ea m W h m1 m2)
  have K2 := hide (fun W => isStep_yes tb eb W hq hl)
  have bd := may_place hb
  have hok := may_okT hb hq
  have MG := fun (W : World) (hT : Tab W) => mult_raw ca na ta ea false tb eb m h m1 m2 hok.1 hok.2 hl (by omega) (by omega) W hT
  rcases hR : rndD ⟨ca.toNat, na, bys ta, ea⟩ (decV (bys tb)) eb m.toNat with ⟨⟨cc, nn, ll, ee⟩, er⟩
  rw [hR] at MG
  unfold decErr decVal at MG ⊢
  simp only at MG ⊢
  obtain ⟨D, hD⟩ : ∃ D : ByteArray, D = ⟨ll.toArray⟩ := ⟨_, rfl⟩
  rw [← hD] at MG ⊢
  have MU := hide MG
  have HT := hide htab
  clear MG hR hD htab
  clear h hb bd hok hq hl
  have Ba0 := hide (((Blk.newAt w (w.heap.size) (rfl) #[.int .i64 ca, .bool na, .string ta, .int .i64 ea] 23).alloc (.cells #[.int .i64 0, .bool false, .string tb, .int .i64 eb] 23)).alloc (.cells #[.int .i64 0, .bool false, .string ⟨#[]⟩, .int .i64 0] 23))
  have Bb0 := hide ((Blk.newAt (w.alloc (.cells #[.int .i64 ca, .bool na, .string ta, .int .i64 ea] 23)) (w.heap.size + 1) (by simp) #[.int .i64 0, .bool false, .string tb, .int .i64 eb] 23).alloc (.cells #[.int .i64 0, .bool false, .string ⟨#[]⟩, .int .i64 0] 23))
  have Br0 := hide (Blk.newAt ((w.alloc (.cells #[.int .i64 ca, .bool na, .string ta, .int .i64 ea] 23)).alloc (.cells #[.int .i64 0, .bool false, .string tb, .int .i64 eb] 23)) (w.heap.size + 1 + 1) (by simp) #[.int .i64 0, .bool false, .string ⟨#[]⟩, .int .i64 0] 23)
  have HB0 : Hid (Below w.heap.size w (((w.alloc (.cells #[.int .i64 ca, .bool na, .string ta, .int .i64 ea] 23)).alloc (.cells #[.int .i64 0, .bool false, .string tb, .int .i64 eb] 23)).alloc (.cells #[.int .i64 0, .bool false, .string ⟨#[]⟩, .int .i64 0] 23))) := ((((Below.refl _ _).alloc (Nat.le_refl _) _).alloc (by simp <;> omega) _).alloc (by simp <;> omega) _)
  go_enter Tryz.func127, Tryz.ntmps127
  go_wp2_with fail
  refine (K0.out _).mono ?_
  rintro e w1 ⟨rfl, hb⟩
  clear K0
  have Ba1 := hide (Ba0.out.below hb Ba0.out.lt)
  have Bb1 := hide (Bb0.out.below hb Bb0.out.lt)
  have Br1 := hide (Br0.out.below hb Br0.out.lt)
  have HB1 := hide (HB0.out.trans (hb.mono HB0.out.size))
  clear hb Ba0 Bb0 Br0 HB0 
  obtain ⟨ya0, ya1, ya2, ya3⟩ := Ba1.out.four
  obtain ⟨yb0, yb1, yb2, yb3⟩ := Bb1.out.four
  obtain ⟨yr0, yr1, yr2, yr3⟩ := Br1.out.four
  go_wp2_with fail
  refine (K1.out _).mono ?_
  rintro e w2 ⟨rfl, hb⟩
  clear K1
  have Ba2 := hide (Ba1.out.below hb Ba1.out.lt)
  have Bb2 := hide (Bb1.out.below hb Bb1.out.lt)
  have Br2 := hide (Br1.out.below hb Br1.out.lt)
  have HB2 := hide (HB1.out.trans (hb.mono HB1.out.size))
  clear hb Ba1 Bb1 Br1 HB1 ya0 ya1 ya2 ya3 yb0 yb1 yb2 yb3 yr0 yr1 yr2 yr3
  obtain ⟨ya0, ya1, ya2, ya3⟩ := Ba2.out.four
  obtain ⟨yb0, yb1, yb2, yb3⟩ := Bb2.out.four
  obtain ⟨yr0, yr1, yr2, yr3⟩ := Br2.out.four
  go_wp2_with fail
  refine (K2.out _).mono ?_
  rintro e w3 ⟨rfl, hb⟩
  clear K2
  have Ba3 := hide (Ba2.out.below hb Ba2.out.lt)
  have Bb3 := hide (Bb2.out.below hb Bb2.out.lt)
  have Br3 := hide (Br2.out.below hb Br2.out.lt)
  have HB3 := hide (HB2.out.trans (hb.mono HB2.out.size))
  clear hb Ba2 Bb2 Br2 HB2 ya0 ya1 ya2 ya3 yb0 yb1 yb2 yb3 yr0 yr1 yr2 yr3
  obtain ⟨ya0, ya1, ya2, ya3⟩ := Ba3.out.four
  obtain ⟨yb0, yb1, yb2, yb3⟩ := Bb3.out.four
  obtain ⟨yr0, yr1, yr2, yr3⟩ := Br3.out.four
  have HTC := hide (HT.out.below HB3.out)
  clear HT
  have MM := hide (MU.out _ HTC.out)
  clear HTC MU
  go_wp2_with fail
  refine (MM.out).mono ?_
  rintro e w4 ⟨rfl, hb⟩
  clear MM
  have Ba4 := hide (Ba3.out.below hb Ba3.out.lt)
  have Bb4 := hide (Bb3.out.below hb Bb3.out.lt)
  have Br4 := hide (Br3.out.below hb Br3.out.lt)
  have HB4 := hide (HB3.out.trans (hb.mono HB3.out.size))
  clear hb Ba3 Bb3 Br3 HB3 ya0 ya1 ya2 ya3 yb0 yb1 yb2 yb3 yr0 yr1 yr2 yr3
  obtain ⟨ya0, ya1, ya2, ya3⟩ := Ba4.out.four
  obtain ⟨yb0, yb1, yb2, yb3⟩ := Bb4.out.four
  obtain ⟨yr0, yr1, yr2, yr3⟩ := Br4.out.four
  have fr0 := Br4.out.free 0
  have fr1 := Br4.out.free 1
  have fr2 := Br4.out.free 2
  have fr3 := Br4.out.free 3
  go_wp2
  refine bodyPost_ret (results_dec2 rfl _ _ _ _ _ _ _ rfl (Br4.out.put4 _ _ _ _)) rfl ?_
  exact ⟨rfl, below_put4 (HB4.out) (by omega) _ _ _ _⟩

theorem Step_any (ca : Int) (na : Bool) (ta : ByteArray) (ea cb : Int) (nb : Bool) (tb : ByteArray) (eb m : Int) (w : World) (htab : Tab w) : Calls Tryz.prog 127 #[dcV ca na ta ea, dcV cb nb tb eb, .int .i64 m] w fun e w' => e = .returned (decErr (stepR ca na (bys ta) ea cb nb (bys tb) eb m)) ∧ Below w.heap.size w w' := by
  unfold stepR
  by_cases hb : MayD cb nb (bys tb) eb
  · rw [if_neg (fun g => g hb)]
    by_cases h : MayD ca na (bys ta) ea
    · rw [if_neg (fun g => g h)]
      by_cases h1 : m < 0
      · rw [if_pos (.inl h1)]
        exact Step_mlow ca na ta ea cb nb tb eb m w hb h h1
      · by_cases h2 : 8 ≤ m
        · rw [if_pos (.inr h2)]
          exact Step_mhigh ca na ta ea cb nb tb eb m w hb h h2
        · rw [if_neg (by omega)]
          by_cases hs : StepD cb nb (bys tb)
          · rw [if_neg (fun g => g hs)]
            obtain ⟨rfl, rfl, s3, s4⟩ := hs
            rw [bys_len] at s4
            exact Step_in ca na ta ea tb eb m w hb h (by omega) (by omega) (fun g => s3 ((bys_nil).2 g)) s4 htab
          · rw [if_pos hs]
            refine Step_bad ca na ta ea cb nb tb eb m w hb h (by omega) (by omega) (fun W => ?_)
            by_cases c1 : cb = 0
            · subst c1
              cases nb
              · by_cases c3 : tb.size = 0
                · obtain rfl : tb = ⟨#[]⟩ := by
                    obtain ⟨⟨l⟩⟩ := tb
                    have : l = [] := List.length_eq_zero_iff.1 c3
                    subst this; rfl
                  exact isStep_nil eb W
                · refine isStep_long tb eb W ?_
                  have : ¬ tb.size ≤ 32 := fun g => hs ⟨rfl, rfl, fun e => c3 (bys_nil.1 e), by rw [bys_len]; exact g⟩
                  omega
              · exact isStep_neg tb eb W
            · exact isStep_cls cb nb tb eb W c1
    · rw [if_pos h]
      exact Step_no ca na ta ea cb nb tb eb m w hb h
  · rw [if_pos hb]
    exact Step_bno ca na ta ea cb nb tb eb m w hb

end Go.Proofs.YtobloamnaemfnaaGreatDoor

namespace Go.Proofs.YtobloamnaemfnaaGreatDoor

structure PrecT where
  kind : Int
  minF : Int
  maxF : Int
  minS : Int
  maxS : Int
  strict : Bool
  sc : Int
  sn : Bool
  sd : List UInt8
  se : Int
  mode : Int
  hide : Bool
  imin : Int
  imax : Int

structure ShownT where
  cls : Int
  neg : Bool
  int : List UInt8
  frac : List UInt8
  exp : Int
  compact : Bool

def zeroS : ShownT := ⟨0, false, [], [], 0, false⟩

def NoFrac (p : PrecT) : Prop := p.minF = 0 ∧ p.maxF = 0
def NoSig (p : PrecT) : Prop := p.minS = 0 ∧ p.maxS = 0
def NoStep (p : PrecT) : Prop := p.sc = 0 ∧ p.sn = false ∧ p.sd = [] ∧ p.se = 0
def FracOk (p : PrecT) : Prop := (0 ≤ p.minF ∧ p.minF ≤ p.maxF) ∧ p.maxF ≤ 99
def SigOk (p : PrecT) : Prop := (1 ≤ p.minS ∧ p.minS ≤ p.maxS) ∧ p.maxS ≤ 99
def StepOk (p : PrecT) : Prop := MayD p.sc p.sn p.sd p.se ∧ StepD p.sc p.sn p.sd
def IntOk (p : PrecT) : Prop := (0 ≤ p.imin ∧ p.imin ≤ 99) ∧ (p.imax = 0 ∨ (p.imin ≤ p.imax ∧ p.imax ≤ 99))
def FieldsAll (p : PrecT) : Prop := NoFrac p ∧ NoSig p ∧ p.strict = false ∧ NoStep p
def FieldsFrac (p : PrecT) : Prop := FracOk p ∧ NoSig p ∧ p.strict = false ∧ NoStep p
def FieldsSig (p : PrecT) : Prop := NoFrac p ∧ SigOk p ∧ p.strict = false ∧ NoStep p
def FieldsBoth (p : PrecT) : Prop := FracOk p ∧ SigOk p ∧ NoStep p
def FieldsStep (p : PrecT) : Prop := (0 ≤ p.minF ∧ p.minF ≤ 99) ∧ p.maxF = 0 ∧ NoSig p ∧ p.strict = false ∧ StepOk p
def KindOk (p : PrecT) : Prop := (p.kind = 0 ∧ FieldsAll p) ∨ (p.kind = 1 ∧ FieldsFrac p) ∨ (p.kind = 2 ∧ FieldsSig p) ∨ (p.kind = 3 ∧ FieldsBoth p) ∨ (p.kind = 4 ∧ FieldsStep p)

def MayP (p : PrecT) : Prop := (0 ≤ p.mode ∧ p.mode ≤ 7) ∧ IntOk p ∧ KindOk p

def bothAt (p : PrecT) (pl : Int) : Int := if p.strict then max (-p.maxF) (pl - p.maxS) else min (-p.maxF) (pl - p.maxS)

noncomputable def roundP (p : PrecT) (c : Int) (n : Bool) (l : List UInt8) (e : Int) : DecT × Int :=
  if p.kind = 0 then (⟨c.toNat, n, l, e⟩, 0) else if p.kind = 1 then atR c n l e (-p.maxF) p.mode else if p.kind = 2 then digR c n l e p.maxS p.mode
  else if p.kind = 3 then atR c n l e (bothAt p ((l.length : Int) + e)) p.mode else stepR c n l e p.sc p.sn p.sd p.se p.mode

def sigL (p : PrecT) (r : DecT) : Int := if r.dig = [] then p.minS - 1 else max 0 (p.minS - ((r.dig.length : Int) + r.exp))

def leastP (p : PrecT) (r : DecT) : Int :=
  if p.kind = 0 then 0 else if p.kind = 1 then p.minF else if p.kind = 2 then sigL p r else if p.kind = 3 then max p.minF (sigL p r) else p.minF

def nought (n : Int) : List UInt8 := List.replicate n.toNat 48

def aheadD (l : List UInt8) (e : Int) : List UInt8 := if (l.length : Int) + e ≤ 0 then [] else if 0 ≤ e then l ++ nought e else l.take ((l.length : Int) + e).toNat

def behindD (l : List UInt8) (e : Int) : List UInt8 := if (l.length : Int) + e ≤ 0 then nought (-((l.length : Int) + e)) ++ l else if 0 ≤ e then [] else l.drop ((l.length : Int) + e).toNat

def fillI (p : PrecT) (a : List UInt8) : List UInt8 := nought (p.imin - a.length) ++ a
def wholeP (p : PrecT) (a : List UInt8) : List UInt8 := if 0 < p.imax ∧ p.imax < ((fillI p a).length : Int) then (fillI p a).drop (((fillI p a).length : Int) - p.imax).toNat else fillI p a

def fracP (p : PrecT) (b : List UInt8) (n : Int) : List UInt8 := if p.hide = true ∧ b = [] then [] else b ++ nought (n - b.length)

def digitsP (p : PrecT) (r : DecT) (n : Int) : List UInt8 × List UInt8 :=
  if wholeP p (aheadD r.dig r.exp) = [] ∧ fracP p (behindD r.dig r.exp) n = [] then ([48], []) else (wholeP p (aheadD r.dig r.exp), fracP p (behindD r.dig r.exp) n)

def shownP (p : PrecT) (r : DecT) : ShownT := if r.cls = 0 then ⟨0, r.neg, (digitsP p r (leastP p r)).1, (digitsP p r (leastP p r)).2, 0, false⟩ else ⟨r.cls, r.neg, [], [], 0, false⟩

noncomputable def showP (c : Int) (n : Bool) (l : List UInt8) (e : Int) (p : PrecT) : ShownT × Int := open Classical in
  if ¬ MayD c n l e then (zeroS, 52) else if ¬ MayP p then (zeroS, 70) else if (roundP p c n l e).2 ≠ 0 then (zeroS, (roundP p c n l e).2) else (shownP p (roundP p c n l e).1, 0)

def MayS (s : ShownT) : Prop := (-2001 ≤ s.exp ∧ s.exp ≤ 2001) ∧ ((s.cls = 0 ∧ (s.int ≠ [] ∨ s.frac ≠ []) ∧ (s.int.length ≤ 4096 ∧ DigB s.int) ∧ (s.frac.length ≤ 4096 ∧ DigB s.frac)) ∨ (s.cls = 1 ∧ s.int = [] ∧ s.frac = []) ∨ (s.cls = 2 ∧ s.int = [] ∧ s.frac = [] ∧ s.neg = false))

noncomputable def valueS (s : ShownT) : DecT × Int := open Classical in
  if ¬ MayS s then (zeroD, 71) else if s.cls ≠ 0 then (⟨s.cls.toNat, s.neg, [], 0⟩, 0) else tellF s.neg (decV (s.int ++ s.frac)) (s.exp - s.frac.length)

theorem step_err (c : Int) (n : Bool) (l : List UInt8) (e m : Int) (h1 : 0 ≤ m) (h2 : m < 8) : (MayD c n l e ∧ StepD c n l → (stepR 0 false [] 0 c n l e m).2 = 0) ∧ (¬ (MayD c n l e ∧ StepD c n l) → (stepR 0 false [] 0 c n l e m).2 ≠ 0) := by
  have hz : MayD 0 false [] 0 := .inl ⟨rfl, .inl ⟨rfl, rfl⟩⟩
  unfold stepR
  by_cases h : MayD c n l e
  · rw [if_neg (fun g => g h), if_neg (fun g => g hz), if_neg (by omega)]
    by_cases h3 : StepD c n l
    · rw [if_neg (fun g => g h3), rndD_zero rfl]
      exact ⟨fun _ => rfl, fun g => absurd ⟨h, h3⟩ g⟩
    · rw [if_pos h3]
      exact ⟨fun g => absurd g.2 h3, fun _ => by simp⟩
  · rw [if_pos h]
    exact ⟨fun g => absurd g.1 h, fun _ => by simp⟩

end Go.Proofs.YtobloamnaemfnaaGreatDoor

namespace Go.Proofs.YtobloamnaemfnaaGreatDoor

def isDg (b : UInt8) : Bool := decide (48 ≤ b.toNat ∧ b.toNat ≤ 57)

def dgs (l : List UInt8) : List UInt8 := l.takeWhile isDg
def aft (l : List UInt8) : List UInt8 := l.dropWhile isDg

theorem dgs_aft (l : List UInt8) : dgs l ++ aft l = l := List.takeWhile_append_dropWhile
theorem dgs_len (l : List UInt8) : (dgs l).length ≤ l.length := by
  have := congrArg List.length (dgs_aft l)
  rw [List.length_append] at this; omega
theorem dgs_take (l : List UInt8) : l.take (dgs l).length = dgs l := by
  have h := congrArg (List.take (dgs l).length) (dgs_aft l)
  rw [List.take_left' rfl] at h; exact h.symm
theorem dgs_drop (l : List UInt8) : l.drop (dgs l).length = aft l := by
  have h := congrArg (List.drop (dgs l).length) (dgs_aft l)
  rw [List.drop_left' rfl] at h; exact h.symm

theorem dgs_digB : ∀ l : List UInt8, DigB (dgs l)
  | [] => fun k hk => by simp [dgs] at hk
  | b :: t => by
    unfold dgs
    by_cases h : isDg b = true
    · rw [List.takeWhile_cons_of_pos h]
      intro k hk
      rcases k with _ | k
      · rw [byt_cons0]; exact of_decide_eq_true h
      · rw [byt_consS]
        exact dgs_digB t k (by unfold dgs; simpa using hk)
    · rw [List.takeWhile_cons_of_neg h]
      intro k hk; simp at hk

theorem dgs_stop : ∀ l : List UInt8, (dgs l).length < l.length → ¬ (48 ≤ byt l (dgs l).length ∧ byt l (dgs l).length ≤ 57)
  | [], h => by simp at h
  | b :: t, h => by
    unfold dgs at *
    by_cases hb : isDg b = true
    · rw [List.takeWhile_cons_of_pos hb] at *
      simp only [List.length_cons] at *
      rw [byt_consS]
      exact dgs_stop t (by unfold dgs; omega)
    · rw [List.takeWhile_cons_of_neg hb]
      simp only [List.length_nil]
      rw [byt_cons0]
      exact fun e => hb (decide_eq_true e)

theorem dgs_at (l : List UInt8) {k : Nat} (h : k < (dgs l).length) : 48 ≤ byt l k ∧ byt l k ≤ 57 := by
  have h1 := dgs_digB l k h
  have h2 := byt_append_left (dgs l) (aft l) h
  rw [dgs_aft] at h2
  rwa [h2]

theorem dgs_all {l : List UInt8} (h : DigB l) : dgs l = l ∧ aft l = [] := by
  have h1 : (dgs l).length = l.length := by
    rcases Nat.lt_or_ge (dgs l).length l.length with e | e
    · exact absurd (h _ e) (dgs_stop l e)
    · have := dgs_len l; omega
  have h2 := dgs_take l
  have h3 := dgs_drop l
  rw [h1, List.take_length] at h2
  rw [h1, List.drop_length] at h3
  exact ⟨h2.symm, h3.symm⟩

theorem dgs_append {a b : List UInt8} (ha : DigB a) (hb : b = [] ∨ ¬ (48 ≤ byt b 0 ∧ byt b 0 ≤ 57)) : dgs (a ++ b) = a ∧ aft (a ++ b) = b := by
  induction a with
  | nil =>
    rcases hb with rfl | hb
    · exact ⟨rfl, rfl⟩
    · cases b with
      | nil => exact ⟨rfl, rfl⟩
      | cons x t =>
        rw [byt_cons0] at hb
        have : ¬ isDg x = true := fun e => hb (of_decide_eq_true e)
        unfold dgs aft
        rw [List.nil_append, List.takeWhile_cons_of_neg this, List.dropWhile_cons_of_neg this]
        exact ⟨rfl, rfl⟩
  | cons x t ih =>
    have h1 : isDg x = true := decide_eq_true ha.head
    obtain ⟨i1, i2⟩ := ih ha.tail
    unfold dgs aft at *
    rw [List.cons_append, List.takeWhile_cons_of_pos h1, List.dropWhile_cons_of_pos h1, i1, i2]
    exact ⟨rfl, rfl⟩

def unsg : List UInt8 → List UInt8
  | [] => []
  | b :: t => if b = 45 ∨ b = 43 then t else b :: t

def powV (l : List UInt8) : Int := if l.head? = some 45 then -(decV (unsg l) : Int) else (decV (unsg l) : Int)

theorem decFrom_val : ∀ (l : List UInt8) (a : Nat), DigB l → Lib.decFrom a l = some (a * 10 ^ l.length + decV l)
  | [], a, _ => by simp [Lib.decFrom, decV]
  | b :: t, a, h => by
    have hb := h.head
    rw [Lib.decFrom, show Lib.digitVal b = some (b.toNat - 48) by unfold Lib.digitVal; rw [if_pos hb]]
    simp only
    rw [decFrom_val t _ h.tail, decV_cons, List.length_cons]
    congr 1
    rw [Nat.add_mul, Nat.mul_assoc, Nat.pow_succ]
    have : 10 * 10 ^ t.length = 10 ^ t.length * 10 := Nat.mul_comm _ _
    rw [this]; omega

theorem decNat_val {l : List UInt8} (h0 : l ≠ []) (h : DigB l) : Lib.decNat l = some (decV l) := by
  unfold Lib.decNat
  have : l.isEmpty = false := by simpa using h0
  rw [this, decFrom_val l 0 h]
  simp

theorem atoi_val {l : List UInt8} (h0 : dgs (unsg l) ≠ []) (h1 : aft (unsg l) = []) : Lib.atoi l = some (powV l) := by
  have h2 : dgs (unsg l) = unsg l := by have := dgs_aft (unsg l); rwa [h1, List.append_nil] at this
  have hd : DigB (unsg l) := by rw [← h2]; exact dgs_digB _
  rw [h2] at h0
  cases l with
  | nil => exact absurd rfl h0
  | cons b t =>
    by_cases e1 : b = 45
    · subst e1
      have e : unsg (45 :: t) = t := rfl
      rw [e] at h0 hd
      unfold powV Lib.atoi
      rw [e]
      simp [decNat_val h0 hd]
    · by_cases e2 : b = 43
      · subst e2
        have e : unsg (43 :: t) = t := rfl
        rw [e] at h0 hd
        unfold powV Lib.atoi
        rw [e]
        simp [decNat_val h0 hd]
      · have e : unsg (b :: t) = b :: t := by simp [unsg, e1, e2]
        rw [e] at h0 hd
        unfold powV Lib.atoi
        rw [e]
        simp [e1, e2, decNat_val h0 hd]

structure Parts where
  neg : Bool
  ahead : List UInt8
  behind : List UInt8
  pow : Int

def p1 (s : List UInt8) : List UInt8 := Lib.trimPrefix s [45]
def p2 (s : List UInt8) : List UInt8 := aft (p1 s)
def pDot (s : List UInt8) : Bool := Lib.hasPrefix (p2 s) [46]
def pAhead (s : List UInt8) : List UInt8 := dgs (p1 s)
def pBehind (s : List UInt8) : List UInt8 := if pDot s then dgs (Lib.trimPrefix (p2 s) [46]) else []
def p3 (s : List UInt8) : List UInt8 := if pDot s then aft (Lib.trimPrefix (p2 s) [46]) else p2 s
def p4 (s : List UInt8) : List UInt8 := (p3 s).drop 1

def parseT (s : List UInt8) : Option Parts :=
  if pAhead s = [] ∧ pBehind s = [] then none
  else if p3 s = [] then some ⟨Lib.hasPrefix s [45], pAhead s, pBehind s, 0⟩
  else if ¬ (byt (p3 s) 0 = 101 ∨ byt (p3 s) 0 = 69) then none
  else if dgs (unsg (p4 s)) = [] ∨ 5 < (dgs (unsg (p4 s))).length ∨ aft (unsg (p4 s)) ≠ [] then none
  else some ⟨Lib.hasPrefix s [45], pAhead s, pBehind s, powV (p4 s)⟩

end Go.Proofs.YtobloamnaemfnaaGreatDoor

namespace Go.Proofs.YtobloamnaemfnaaGreatDoor
open Go.RowKit

theorem hp_one (l : List UInt8) (c : UInt8) : Lib.hasPrefix l [c] = decide (l.head? = some c) := by
  unfold Lib.hasPrefix
  cases l with
  | nil => rfl
  | cons b t =>
    by_cases h : b = c
    · subst h; simp
    · have h' : ¬ c = b := fun e => h e.symm
      show (c == b && List.isPrefixOf [] t) = _
      simp [h, h']

theorem head_pos {l : List UInt8} {c : UInt8} (h : l.head? = some c) : 0 < l.length := by
  cases l with
  | nil => simp at h
  | cons b t => simp

theorem unsg_drop {l : List UInt8} (h : l.head? = some 45 ∨ l.head? = some 43) : unsg l = l.drop 1 := by
  cases l with
  | nil => rfl
  | cons b t => simp at h; simp [unsg, h]

theorem unsg_same {l : List UInt8} (h1 : ¬ l.head? = some 45) (h2 : ¬ l.head? = some 43) : unsg l = l := by
  cases l with
  | nil => rfl
  | cons b t => simp at h1 h2; simp [unsg, h1, h2]

set_option maxHeartbeats 1000000 in
theorem dcut_any (s : ByteArray) (w : World) (hs : s.size ≤ 281474976710656) :
    Calls Tryz.prog 56 #[.string s] w fun e w' => e = .returned (.tuple #[.string ⟨(dgs (bys s)).toArray⟩, .string ⟨(aft (bys s)).toArray⟩]) ∧ Below w.heap.size w w' := by
  have H1 := hide (fun (k : Nat) (h : k < (dgs (bys s)).length) => dgs_at (bys s) h)
  have H2 := hide (dgs_stop (bys s))
  have H3 := hide (dgs_take (bys s))
  have H4 := hide (dgs_drop (bys s))
  have hle := dgs_len (bys s)
  rw [bys_len] at hle H2
  obtain ⟨n, hn⟩ : ∃ n, n = (dgs (bys s)).length := ⟨_, rfl⟩
  rw [← hn] at hle H1 H2 H3 H4
  obtain ⟨A, hA⟩ : ∃ A : ByteArray, A = ⟨(dgs (bys s)).toArray⟩ := ⟨_, rfl⟩
  obtain ⟨B, hB⟩ : ∃ B : ByteArray, B = ⟨(aft (bys s)).toArray⟩ := ⟨_, rfl⟩
  have HA : Hid (s.extract 0 n = A) := by rw [hA, ← H3.out, Lib.extract_upto]; rfl
  have HB : Hid (s.extract n s.size = B) := by rw [hB, ← H4.out, Lib.extract_from]; rfl
  rw [← hA, ← hB]
  clear hn hA hB H3 H4
  go_enter Tryz.func56, Tryz.ntmps56
  go_wp2
  go_loopw [4] (fun i wr => ∃ k : Nat, k ≤ n ∧ i = .int .i64 (k : Int) ∧ wr = w) (fun i _ => n - (intOf i).toNat)
  case atStart => exact ⟨0, Nat.zero_le _, rfl, rfl⟩
  case round =>
    obtain ⟨k, hk, rfl, rfl⟩ := hrel
    by_cases hlt : k < n
    · have hlt' : (k : Int) < (s.size : Int) := by omega
      have hks : k < s.size := by omega
      have hg : ∀ h : k < s.size, s[k].toNat = byt (bys s) k := fun h => byt_get s k h
      have hb := H1.out k hlt
      obtain ⟨b, hbb⟩ : ∃ b, b = byt (bys s) k := ⟨_, rfl⟩
      rw [← hbb] at hg hb
      have h1' : decide ((48 : Int) ≤ (b : Int)) = true := decide_eq_true (by omega)
      have h2' : decide ((b : Int) ≤ 57) = true := decide_eq_true (by omega)
      have h1'' : (48 : Int) ≤ (b : Int) := by omega
      have h2'' : (b : Int) ≤ 57 := by omega
      clear hbb
      go_wp2
      exact ⟨⟨k + 1, by omega, by go_num, trivial⟩, by simp [intOf]; omega⟩
    · have hkn : k = n := by omega
      by_cases hend : k < s.size
      · have hlt' : (k : Int) < (s.size : Int) := by omega
        have hg : ∀ h : k < s.size, s[k].toNat = byt (bys s) k := fun h => byt_get s k h
        have hb := H2.out (by omega)
        rw [← hkn] at hb
        obtain ⟨b, hbb⟩ : ∃ b, b = byt (bys s) k := ⟨_, rfl⟩
        rw [← hbb] at hg hb
        rw [← hkn] at HA HB
        clear hbb hkn hlt
        by_cases h1 : 48 ≤ b
        · have h1'' : (48 : Int) ≤ (b : Int) := by omega
          have h2'' : ¬ (b : Int) ≤ 57 := by omega
          go_wp2
          go_region
          go_wp2
          go_ret2
          rw [HA.out, HB.out]
          exact ⟨rfl, (Below.refl _ _).drew⟩
        · have h1'' : ¬ (48 : Int) ≤ (b : Int) := by omega
          go_wp2
          go_region
          go_wp2
          go_ret2
          rw [HA.out, HB.out]
          exact ⟨rfl, (Below.refl _ _).drew⟩
      · have hlt' : ¬ (k : Int) < (s.size : Int) := by omega
        rw [← hkn] at HA HB
        clear hkn hlt
        go_wp2
        go_region
        go_wp2
        go_ret2
        rw [HA.out, HB.out]
        exact ⟨rfl, (Below.refl _ _).drew⟩

set_option maxHeartbeats 1000000 in
theorem unsigned_any (s : ByteArray) (w : World) :
    Calls Tryz.prog 57 #[.string s] w fun e w' => e = .returned (.string ⟨(unsg (bys s)).toArray⟩) ∧ w = w' := by
  have P1 := hide (fun W => Tryz.strings_HasPrefix s ⟨#[45]⟩ W)
  have P2 := hide (fun W => Tryz.strings_HasPrefix s ⟨#[43]⟩ W)
  have hp1 : Lib.hasPrefix s.data.toList [45] = decide ((bys s).head? = some 45) := hp_one (bys s) 45
  have hp2 : Lib.hasPrefix s.data.toList [43] = decide ((bys s).head? = some 43) := hp_one (bys s) 43
  have e1 : (⟨#[45]⟩ : ByteArray).data.toList = [45] := rfl
  have e2 : (⟨#[43]⟩ : ByteArray).data.toList = [43] := rfl
  rw [e1, hp1] at P1
  rw [e2, hp2] at P2
  clear hp1 hp2 e1 e2
  by_cases h1 : (bys s).head? = some 45
  · rw [decide_eq_true h1] at P1
    have HU : Hid (s.extract 1 s.size = ⟨(unsg (bys s)).toArray⟩) := by rw [Lib.extract_from]; rw [unsg_drop (.inl h1)]; rfl
    have hs : (1 : Int) ≤ (s.size : Int) := by have := head_pos h1; rw [bys_len] at this; omega
    clear h1 P2
    go_enter Tryz.func57, Tryz.ntmps57
    go_wp2_with fail
    refine (P1.out _).mono ?_
    rintro e w' ⟨rfl, rfl⟩
    go_wp2
    go_ret
    rw [HU.out]
    exact ⟨rfl, rfl⟩
  · rw [decide_eq_false h1] at P1
    by_cases h2 : (bys s).head? = some 43
    · rw [decide_eq_true h2] at P2
      have HU : Hid (s.extract 1 s.size = ⟨(unsg (bys s)).toArray⟩) := by rw [Lib.extract_from]; rw [unsg_drop (.inr h2)]; rfl
      have hs : (1 : Int) ≤ (s.size : Int) := by have := head_pos h2; rw [bys_len] at this; omega
      clear h1 h2
      go_enter Tryz.func57, Tryz.ntmps57
      go_wp2_with fail
      refine (P1.out _).mono ?_
      rintro e w' ⟨rfl, rfl⟩
      go_wp2_with fail
      refine (P2.out _).mono ?_
      rintro e w' ⟨rfl, rfl⟩
      go_wp2
      go_ret
      rw [HU.out]
      exact ⟨rfl, rfl⟩
    · rw [decide_eq_false h2] at P2
      have HU : Hid (s = ⟨(unsg (bys s)).toArray⟩) := by rw [unsg_same h1 h2]; exact (mk_bys s).symm
      clear h1 h2
      go_enter Tryz.func57, Tryz.ntmps57
      go_wp2_with fail
      refine (P1.out _).mono ?_
      rintro e w' ⟨rfl, rfl⟩
      go_wp2_with fail
      refine (P2.out _).mono ?_
      rintro e w' ⟨rfl, rfl⟩
      go_wp2
      go_ret
      rw [← HU.out]
      exact ⟨rfl, rfl⟩

end Go.Proofs.YtobloamnaemfnaaGreatDoor
