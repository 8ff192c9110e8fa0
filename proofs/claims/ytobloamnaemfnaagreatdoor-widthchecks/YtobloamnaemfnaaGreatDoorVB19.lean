/-
  quipulaw07's awake answers true.
-/
import Derived.Test.YtobloamnaemfnaaGreatDoorVB16
import Derived.Test.YtobloamnaemfnaaGreatDoorVB18
namespace Go.Proofs.YtobloamnaemfnaaGreatDoor
open Go.RowKit

theorem x1005 : Fin ⟨0, false, [49, 48, 48, 53], -3⟩ := ⟨rfl, by decide, by decide, by decide, by decide, by decide, by decide, digB_ok rfl⟩
theorem xone : Fin ⟨0, false, [49], 0⟩ := ⟨rfl, by decide, by decide, by decide, by decide, by decide, by decide, digB_ok rfl⟩
theorem x125 : Fin ⟨0, false, [49, 50, 53], 2⟩ := ⟨rfl, by decide, by decide, by decide, by decide, by decide, by decide, digB_ok rfl⟩
theorem xp1 : MayP ⟨1, 2, 2, 0, 0, false, 0, false, [], 0, 4, false, 0, 0⟩ := ⟨⟨by decide, by decide⟩, ⟨⟨by decide, by decide⟩, .inl rfl⟩, .inr (.inl ⟨rfl, ⟨⟨by decide, by decide⟩, by decide⟩, ⟨rfl, rfl⟩, rfl, rfl, rfl, rfl, rfl⟩)⟩
theorem xp2 : ¬ MayP ⟨1, 3, 2, 0, 0, false, 0, false, [], 0, 4, false, 0, 0⟩ := fun h => by
  have := (mayP_1 h rfl).1.1.2
  exact absurd (show (3 : Int) ≤ 2 from this) (by decide)
theorem xp0 : MayP ⟨0, 0, 0, 0, 0, false, 0, false, [], 0, 0, false, 0, 0⟩ := ⟨⟨by decide, by decide⟩, ⟨⟨by decide, by decide⟩, .inl rfl⟩, .inl ⟨rfl, ⟨rfl, rfl⟩, ⟨rfl, rfl⟩, rfl, rfl, rfl, rfl, rfl⟩⟩

theorem xs1 : showP 0 false [49, 48, 48, 53] (-3) ⟨1, 2, 2, 0, 0, false, 0, false, [], 0, 4, false, 0, 0⟩ = (⟨0, false, [49], [48, 48], 0, false⟩, 0) := by
  have hr : roundP ⟨1, 2, 2, 0, 0, false, 0, false, [], 0, 4, false, 0, 0⟩ 0 false [49, 48, 48, 53] (-3) = (⟨0, false, [49], 0⟩, 0) := by
    rw [roundP_1 rfl]
    unfold atR
    rw [if_neg (fun g => g x1005.may), if_neg (by decide), if_neg (by decide)]
    unfold rndD
    rw [if_neg (by decide)]
    exact tellR_of (l := [49, 48, 48]) (digB_ok rfl) rfl rfl xone.may
  rw [showP_in (c := 0) (n := false) (l := [49, 48, 48, 53]) (e := -3) x1005.may xp1 (by rw [hr]), hr]
  rfl
theorem xs2 : ¬ MayD 0 false [] 1 := by
  rintro (⟨_, ⟨_, h⟩ | ⟨h, _⟩⟩ | ⟨h, _⟩ | ⟨h, _⟩)
  · cases h
  · exact h rfl
  · cases h
  · cases h
theorem xv1 : valueS ⟨0, false, [48, 48, 49, 50], [53, 48], 3, false⟩ = (⟨0, false, [49, 50, 53], 2⟩, 0) := by
  unfold valueS
  rw [if_neg (fun g => g ⟨⟨by decide, by decide⟩, .inl ⟨rfl, .inl (by decide), ⟨by decide, digB_ok rfl⟩, ⟨by decide, digB_ok rfl⟩⟩⟩), if_neg (fun g => g rfl)]
  exact tellR_of (l := [48, 48, 49, 50, 53, 48]) (digB_ok rfl) rfl rfl x125.may
theorem xv2 : valueS ⟨0, false, [], [], 0, false⟩ = (zeroD, 71) := by
  unfold valueS
  rw [if_pos]
  rintro ⟨_, ⟨_, h, _⟩ | ⟨h, _⟩ | ⟨h, _⟩⟩
  · exact h.elim (fun g => g rfl) (fun g => g rfl)
  · exact absurd (show (0 : Int) = 1 from h) (by decide)
  · exact absurd (show (0 : Int) = 2 from h) (by decide)

theorem xc1 (w : World) (h : Tab w) : Calls Tryz.prog 14 #[dcV 0 false ⟨#[49, 48, 48, 53]⟩ (-3), prV 1 2 2 0 0 false 0 false ⟨#[]⟩ 0 4 false 0 0] w fun e w' => e = .returned (.tuple #[.agg #[.int .i64 0, .bool false, .string ⟨#[49]⟩, .string ⟨#[48, 48]⟩, .int .i64 0, .bool false], .int .i64 0]) ∧ Below w.heap.size w w' := by
  have g := Show_k1 0 false ⟨#[49, 48, 48, 53]⟩ (-3) 2 2 0 0 false 0 false ⟨#[]⟩ 0 4 false 0 0 w h x1005.may xp1
  rw [show bys ⟨#[49, 48, 48, 53]⟩ = [49, 48, 48, 53] from rfl, show bys ⟨#[]⟩ = [] from rfl, xs1] at g
  exact g

theorem xc2 (w : World) (h : Tab w) : Calls Tryz.prog 14 #[dcV 0 false ⟨#[]⟩ 1, prV 1 2 2 0 0 false 0 false ⟨#[]⟩ 0 4 false 0 0] w fun e w' => e = .returned (.tuple #[.agg #[.int .i64 0, .bool false, .string ⟨#[]⟩, .string ⟨#[]⟩, .int .i64 0, .bool false], .int .i64 52]) ∧ Below w.heap.size w w' := by
  have _ := h
  exact show_no 0 false ⟨#[]⟩ 1 1 2 2 0 0 false 0 false ⟨#[]⟩ 0 4 false 0 0 w xs2

theorem xc3 (w : World) (h : Tab w) : Calls Tryz.prog 14 #[dcV 0 false ⟨#[]⟩ 0, prV 1 3 2 0 0 false 0 false ⟨#[]⟩ 0 4 false 0 0] w fun e w' => e = .returned (.tuple #[.agg #[.int .i64 0, .bool false, .string ⟨#[]⟩, .string ⟨#[]⟩, .int .i64 0, .bool false], .int .i64 70]) ∧ Below w.heap.size w w' := by
  exact show_bad 0 false ⟨#[]⟩ 0 1 3 2 0 0 false 0 false ⟨#[]⟩ 0 4 false 0 0 w h (may_zero false) xp2

theorem xc4 (w : World) (h : Tab w) : Calls Tryz.prog 16 #[shV 0 false ⟨#[48, 48, 49, 50]⟩ ⟨#[53, 48]⟩ 3 false] w fun e w' => e = .returned (.tuple #[.agg #[.int .i64 0, .bool false, .string ⟨#[49, 50, 53]⟩, .int .i64 2], .int .i64 0]) ∧ Below w.heap.size w w' := by
  have g := Value_any 0 false ⟨#[48, 48, 49, 50]⟩ ⟨#[53, 48]⟩ 3 false w h
  rw [show bys ⟨#[48, 48, 49, 50]⟩ = [48, 48, 49, 50] from rfl, show bys ⟨#[53, 48]⟩ = [53, 48] from rfl, xv1] at g
  exact g

theorem xc5 (w : World) (h : Tab w) : Calls Tryz.prog 16 #[shV 0 false ⟨#[]⟩ ⟨#[]⟩ 0 false] w fun e w' => e = .returned (.tuple #[.agg #[.int .i64 0, .bool false, .string ⟨#[]⟩, .int .i64 0], .int .i64 71]) ∧ Below w.heap.size w w' := by
  have g := Value_any 0 false ⟨#[]⟩ ⟨#[]⟩ 0 false w h
  rw [show bys ⟨#[]⟩ = [] from rfl, xv2] at g
  exact g

theorem xc6 (w : World) (h : Tab w) : Calls Tryz.prog 12 #[prV 1 3 2 0 0 false 0 false ⟨#[]⟩ 0 4 false 0 0] w fun e w' => e = .returned (.int .i64 70) ∧ Below w.heap.size w w' := by
  exact check_fP 1 3 2 0 0 false 0 false ⟨#[]⟩ 0 4 false 0 0 w h xp2

theorem xc7 (w : World) (h : Tab w) : Calls Tryz.prog 12 #[prV 0 0 0 0 0 false 0 false ⟨#[]⟩ 0 0 false 0 0] w fun e w' => e = .returned (.int .i64 0) ∧ Below w.heap.size w w' := by
  exact check_tP 0 0 0 0 0 false 0 false ⟨#[]⟩ 0 0 false 0 0 w h xp0

theorem Blk.fset1 {w : World} {b : Nat} {t : TypeId} {x0 x1 x2 x3 x4 x5 x6 x7 x8 x9 x10 x11 x12 x13 : Value} (h : Blk w b #[x0, x1, x2, x3, x4, x5, x6, x7, x8, x9, x10, x11, x12, x13] t) (y : Value) : Blk (w.setCell ⟨b, 1, none⟩ y) b #[x0, y, x2, x3, x4, x5, x6, x7, x8, x9, x10, x11, x12, x13] t := by
  unfold Blk at *
  simp only [World.setCell, Array.getElem?_modify, if_true, h, Option.map_some]
  rfl

set_option maxRecDepth 100000 in
set_option maxHeartbeats 4000000 in
theorem xawake_any (w : World) (htab : Tab w) : Calls Tryz.prog 11 #[] w fun e w' => e = .returned (.bool true) ∧ Below w.heap.size w w' := by
  have HT := hide htab
  clear htab
  have HB0 : Hid (Below w.heap.size w w) := Below.refl _ _
  go_enter Tryz.func11, Tryz.ntmps11
  have Bp1 := hide ((Blk.newAt w (w.heap.size) (rfl) #[.int .i64 1, .int .i64 2, .int .i64 2, .int .i64 0, .int .i64 0, .bool false, .int .i64 0, .bool false, .string ⟨#[]⟩, .int .i64 0, .int .i64 4, .bool false, .int .i64 0, .int .i64 0] 30))
  have HB1 : Hid (Below w.heap.size w (w.alloc (.cells #[.int .i64 1, .int .i64 2, .int .i64 2, .int .i64 0, .int .i64 0, .bool false, .int .i64 0, .bool false, .string ⟨#[]⟩, .int .i64 0, .int .i64 4, .bool false, .int .i64 0, .int .i64 0] 30))) := (HB0.out.alloc HB0.out.size _)
  clear  HB0 
  obtain ⟨yp0, yp1, yp2, yp3, yp4, yp5, yp6, yp7, yp8, yp9, yp10, yp11, yp12, yp13⟩ := Bp1.out.fourteen
  go_wp2_with fail
  refine (xc1 _ (HT.out.below HB1.out)).mono ?_
  rintro e w2 ⟨rfl, hb⟩
  have Bp2 := Blk.on Bp1 hb
  have HB2 := hide (HB1.out.trans (hb.mono HB1.out.size))
  clear hb Bp1 HB1 yp0 yp1 yp2 yp3 yp4 yp5 yp6 yp7 yp8 yp9 yp10 yp11 yp12 yp13
  have L1 := hide Bp2.out.lt
  obtain ⟨yp0, yp1, yp2, yp3, yp4, yp5, yp6, yp7, yp8, yp9, yp10, yp11, yp12, yp13⟩ := Bp2.out.fourteen
  have Bp3 := Blk.up Bp2 (.cells #[.int .i64 0, .bool false, .string ⟨#[49]⟩, .string ⟨#[48, 48]⟩, .int .i64 0, .bool false] 34)
  have Bs3 := hide ((Blk.newAt w2 (w2.heap.size) (rfl) #[.int .i64 0, .bool false, .string ⟨#[49]⟩, .string ⟨#[48, 48]⟩, .int .i64 0, .bool false] 34))
  have HB3 : Hid (Below w.heap.size w (w2.alloc (.cells #[.int .i64 0, .bool false, .string ⟨#[49]⟩, .string ⟨#[48, 48]⟩, .int .i64 0, .bool false] 34))) := (HB2.out.alloc HB2.out.size _)
  clear Bp2 HB2 yp0 yp1 yp2 yp3 yp4 yp5 yp6 yp7 yp8 yp9 yp10 yp11 yp12 yp13
  obtain ⟨yp0, yp1, yp2, yp3, yp4, yp5, yp6, yp7, yp8, yp9, yp10, yp11, yp12, yp13⟩ := Bp3.out.fourteen
  obtain ⟨ys0, ys1, ys2, ys3, ys4, ys5⟩ := Bs3.out.six
  go_wp2_with fail
  refine (xc2 _ (HT.out.below HB3.out)).mono ?_
  rintro e w4 ⟨rfl, hb⟩
  have Bp4 := Blk.on Bp3 hb
  have Bs4 := Blk.on Bs3 hb
  have HB4 := hide (HB3.out.trans (hb.mono HB3.out.size))
  clear hb Bp3 Bs3 HB3 yp0 yp1 yp2 yp3 yp4 yp5 yp6 yp7 yp8 yp9 yp10 yp11 yp12 yp13 ys0 ys1 ys2 ys3 ys4 ys5
  have L2 := hide Bp4.out.lt
  have L3 := hide Bs4.out.lt
  obtain ⟨yp0, yp1, yp2, yp3, yp4, yp5, yp6, yp7, yp8, yp9, yp10, yp11, yp12, yp13⟩ := Bp4.out.fourteen
  obtain ⟨ys0, ys1, ys2, ys3, ys4, ys5⟩ := Bs4.out.six
  have Bp5 := Blk.up Bp4 (.cells #[.int .i64 0, .bool false, .string ⟨#[]⟩, .string ⟨#[]⟩, .int .i64 0, .bool false] 34)
  have Bs5 := Blk.up Bs4 (.cells #[.int .i64 0, .bool false, .string ⟨#[]⟩, .string ⟨#[]⟩, .int .i64 0, .bool false] 34)
  have Bu5 := hide ((Blk.newAt w4 (w4.heap.size) (rfl) #[.int .i64 0, .bool false, .string ⟨#[]⟩, .string ⟨#[]⟩, .int .i64 0, .bool false] 34))
  have HB5 : Hid (Below w.heap.size w (w4.alloc (.cells #[.int .i64 0, .bool false, .string ⟨#[]⟩, .string ⟨#[]⟩, .int .i64 0, .bool false] 34))) := (HB4.out.alloc HB4.out.size _)
  clear Bp4 Bs4 HB4 yp0 yp1 yp2 yp3 yp4 yp5 yp6 yp7 yp8 yp9 yp10 yp11 yp12 yp13 ys0 ys1 ys2 ys3 ys4 ys5
  have ns : ¬ (⟨w.heap.size, 1, none⟩ : Addr).block = w2.heap.size := by have := L1.out; have := L2.out; simp only; omega
  have nu : ¬ (⟨w.heap.size, 1, none⟩ : Addr).block = w4.heap.size := by have := L1.out; have := L2.out; simp only; omega
  have fp1 := Bp5.out.free 1
  have yp1 := Bp5.out.cell 1
  simp at yp1
  have Bp6 := hide (Bp5.out.fset1 (.int .i64 3))
  have Bs6 := hide (Bs5.out.other ns (.int .i64 3))
  have Bu6 := hide (Bu5.out.other nu (.int .i64 3))
  have HB6 : Hid (Below w.heap.size w ((w4.alloc (.cells #[.int .i64 0, .bool false, .string ⟨#[]⟩, .string ⟨#[]⟩, .int .i64 0, .bool false] 34)).setCell ⟨w.heap.size, 1, none⟩ (.int .i64 3))) := HB5.out.setCell (Nat.le_refl _) _
  clear Bp5 Bs5 Bu5 HB5 ns nu L1 L2 L3
  obtain ⟨zp0, zp1, zp2, zp3, zp4, zp5, zp6, zp7, zp8, zp9, zp10, zp11, zp12, zp13⟩ := Bp6.out.fourteen
  go_wp2_with fail
  refine (xc3 _ (HT.out.below HB6.out)).mono ?_
  rintro e w7 ⟨rfl, hb⟩
  have Bp7 := Blk.on Bp6 hb
  have Bs7 := Blk.on Bs6 hb
  have Bu7 := Blk.on Bu6 hb
  have HB7 := hide (HB6.out.trans (hb.mono HB6.out.size))
  clear hb Bp6 Bs6 Bu6 HB6 zp0 zp1 zp2 zp3 zp4 zp5 zp6 zp7 zp8 zp9 zp10 zp11 zp12 zp13 yp1 fp1
  obtain ⟨yp0, yp1, yp2, yp3, yp4, yp5, yp6, yp7, yp8, yp9, yp10, yp11, yp12, yp13⟩ := Bp7.out.fourteen
  obtain ⟨ys0, ys1, ys2, ys3, ys4, ys5⟩ := Bs7.out.six
  obtain ⟨yu0, yu1, yu2, yu3, yu4, yu5⟩ := Bu7.out.six
  have Bp8 := Blk.up Bp7 (.cells #[.int .i64 0, .bool false, .string ⟨#[]⟩, .string ⟨#[]⟩, .int .i64 0, .bool false] 34)
  have Bs8 := Blk.up Bs7 (.cells #[.int .i64 0, .bool false, .string ⟨#[]⟩, .string ⟨#[]⟩, .int .i64 0, .bool false] 34)
  have Bu8 := Blk.up Bu7 (.cells #[.int .i64 0, .bool false, .string ⟨#[]⟩, .string ⟨#[]⟩, .int .i64 0, .bool false] 34)
  have Bq8 := hide ((Blk.newAt w7 (w7.heap.size) (rfl) #[.int .i64 0, .bool false, .string ⟨#[]⟩, .string ⟨#[]⟩, .int .i64 0, .bool false] 34))
  have HB8 : Hid (Below w.heap.size w (w7.alloc (.cells #[.int .i64 0, .bool false, .string ⟨#[]⟩, .string ⟨#[]⟩, .int .i64 0, .bool false] 34))) := (HB7.out.alloc HB7.out.size _)
  clear Bp7 Bs7 Bu7 HB7 yp0 yp1 yp2 yp3 yp4 yp5 yp6 yp7 yp8 yp9 yp10 yp11 yp12 yp13 ys0 ys1 ys2 ys3 ys4 ys5 yu0 yu1 yu2 yu3 yu4 yu5
  obtain ⟨yp0, yp1, yp2, yp3, yp4, yp5, yp6, yp7, yp8, yp9, yp10, yp11, yp12, yp13⟩ := Bp8.out.fourteen
  obtain ⟨ys0, ys1, ys2, ys3, ys4, ys5⟩ := Bs8.out.six
  obtain ⟨yu0, yu1, yu2, yu3, yu4, yu5⟩ := Bu8.out.six
  obtain ⟨yq0, yq1, yq2, yq3, yq4, yq5⟩ := Bq8.out.six
  go_wp2_with fail
  refine (xc4 _ (HT.out.below HB8.out)).mono ?_
  rintro e w9 ⟨rfl, hb⟩
  have Bp9 := Blk.on Bp8 hb
  have Bs9 := Blk.on Bs8 hb
  have Bu9 := Blk.on Bu8 hb
  have Bq9 := Blk.on Bq8 hb
  have HB9 := hide (HB8.out.trans (hb.mono HB8.out.size))
  clear hb Bp8 Bs8 Bu8 Bq8 HB8 yp0 yp1 yp2 yp3 yp4 yp5 yp6 yp7 yp8 yp9 yp10 yp11 yp12 yp13 ys0 ys1 ys2 ys3 ys4 ys5 yu0 yu1 yu2 yu3 yu4 yu5 yq0 yq1 yq2 yq3 yq4 yq5
  obtain ⟨yp0, yp1, yp2, yp3, yp4, yp5, yp6, yp7, yp8, yp9, yp10, yp11, yp12, yp13⟩ := Bp9.out.fourteen
  obtain ⟨ys0, ys1, ys2, ys3, ys4, ys5⟩ := Bs9.out.six
  obtain ⟨yu0, yu1, yu2, yu3, yu4, yu5⟩ := Bu9.out.six
  obtain ⟨yq0, yq1, yq2, yq3, yq4, yq5⟩ := Bq9.out.six
  have Bp10 := Blk.up Bp9 (.cells #[.int .i64 0, .bool false, .string ⟨#[49, 50, 53]⟩, .int .i64 2] 23)
  have Bs10 := Blk.up Bs9 (.cells #[.int .i64 0, .bool false, .string ⟨#[49, 50, 53]⟩, .int .i64 2] 23)
  have Bu10 := Blk.up Bu9 (.cells #[.int .i64 0, .bool false, .string ⟨#[49, 50, 53]⟩, .int .i64 2] 23)
  have Bq10 := Blk.up Bq9 (.cells #[.int .i64 0, .bool false, .string ⟨#[49, 50, 53]⟩, .int .i64 2] 23)
  have Bv10 := hide ((Blk.newAt w9 (w9.heap.size) (rfl) #[.int .i64 0, .bool false, .string ⟨#[49, 50, 53]⟩, .int .i64 2] 23))
  have HB10 : Hid (Below w.heap.size w (w9.alloc (.cells #[.int .i64 0, .bool false, .string ⟨#[49, 50, 53]⟩, .int .i64 2] 23))) := (HB9.out.alloc HB9.out.size _)
  clear Bp9 Bs9 Bu9 Bq9 HB9 yp0 yp1 yp2 yp3 yp4 yp5 yp6 yp7 yp8 yp9 yp10 yp11 yp12 yp13 ys0 ys1 ys2 ys3 ys4 ys5 yu0 yu1 yu2 yu3 yu4 yu5 yq0 yq1 yq2 yq3 yq4 yq5
  obtain ⟨yp0, yp1, yp2, yp3, yp4, yp5, yp6, yp7, yp8, yp9, yp10, yp11, yp12, yp13⟩ := Bp10.out.fourteen
  obtain ⟨ys0, ys1, ys2, ys3, ys4, ys5⟩ := Bs10.out.six
  obtain ⟨yu0, yu1, yu2, yu3, yu4, yu5⟩ := Bu10.out.six
  obtain ⟨yq0, yq1, yq2, yq3, yq4, yq5⟩ := Bq10.out.six
  obtain ⟨yv0, yv1, yv2, yv3⟩ := Bv10.out.four
  go_wp2_with fail
  refine (xc5 _ (HT.out.below HB10.out)).mono ?_
  rintro e w11 ⟨rfl, hb⟩
  have Bp11 := Blk.on Bp10 hb
  have Bs11 := Blk.on Bs10 hb
  have Bu11 := Blk.on Bu10 hb
  have Bq11 := Blk.on Bq10 hb
  have Bv11 := Blk.on Bv10 hb
  have HB11 := hide (HB10.out.trans (hb.mono HB10.out.size))
  clear hb Bp10 Bs10 Bu10 Bq10 Bv10 HB10 yp0 yp1 yp2 yp3 yp4 yp5 yp6 yp7 yp8 yp9 yp10 yp11 yp12 yp13 ys0 ys1 ys2 ys3 ys4 ys5 yu0 yu1 yu2 yu3 yu4 yu5 yq0 yq1 yq2 yq3 yq4 yq5 yv0 yv1 yv2 yv3
  obtain ⟨yp0, yp1, yp2, yp3, yp4, yp5, yp6, yp7, yp8, yp9, yp10, yp11, yp12, yp13⟩ := Bp11.out.fourteen
  obtain ⟨ys0, ys1, ys2, ys3, ys4, ys5⟩ := Bs11.out.six
  obtain ⟨yu0, yu1, yu2, yu3, yu4, yu5⟩ := Bu11.out.six
  obtain ⟨yq0, yq1, yq2, yq3, yq4, yq5⟩ := Bq11.out.six
  obtain ⟨yv0, yv1, yv2, yv3⟩ := Bv11.out.four
  have Bp12 := Blk.up Bp11 (.cells #[.int .i64 0, .bool false, .string ⟨#[]⟩, .int .i64 0] 23)
  have Bs12 := Blk.up Bs11 (.cells #[.int .i64 0, .bool false, .string ⟨#[]⟩, .int .i64 0] 23)
  have Bu12 := Blk.up Bu11 (.cells #[.int .i64 0, .bool false, .string ⟨#[]⟩, .int .i64 0] 23)
  have Bq12 := Blk.up Bq11 (.cells #[.int .i64 0, .bool false, .string ⟨#[]⟩, .int .i64 0] 23)
  have Bv12 := Blk.up Bv11 (.cells #[.int .i64 0, .bool false, .string ⟨#[]⟩, .int .i64 0] 23)
  have Bz12 := hide ((Blk.newAt w11 (w11.heap.size) (rfl) #[.int .i64 0, .bool false, .string ⟨#[]⟩, .int .i64 0] 23))
  have HB12 : Hid (Below w.heap.size w (w11.alloc (.cells #[.int .i64 0, .bool false, .string ⟨#[]⟩, .int .i64 0] 23))) := (HB11.out.alloc HB11.out.size _)
  clear Bp11 Bs11 Bu11 Bq11 Bv11 HB11 yp0 yp1 yp2 yp3 yp4 yp5 yp6 yp7 yp8 yp9 yp10 yp11 yp12 yp13 ys0 ys1 ys2 ys3 ys4 ys5 yu0 yu1 yu2 yu3 yu4 yu5 yq0 yq1 yq2 yq3 yq4 yq5 yv0 yv1 yv2 yv3
  obtain ⟨yp0, yp1, yp2, yp3, yp4, yp5, yp6, yp7, yp8, yp9, yp10, yp11, yp12, yp13⟩ := Bp12.out.fourteen
  obtain ⟨ys0, ys1, ys2, ys3, ys4, ys5⟩ := Bs12.out.six
  obtain ⟨yu0, yu1, yu2, yu3, yu4, yu5⟩ := Bu12.out.six
  obtain ⟨yq0, yq1, yq2, yq3, yq4, yq5⟩ := Bq12.out.six
  obtain ⟨yv0, yv1, yv2, yv3⟩ := Bv12.out.four
  obtain ⟨yz0, yz1, yz2, yz3⟩ := Bz12.out.four
  go_wp2_with fail
  refine (xc6 _ (HT.out.below HB12.out)).mono ?_
  rintro e w13 ⟨rfl, hb⟩
  have Bp13 := Blk.on Bp12 hb
  have Bs13 := Blk.on Bs12 hb
  have Bu13 := Blk.on Bu12 hb
  have Bq13 := Blk.on Bq12 hb
  have Bv13 := Blk.on Bv12 hb
  have Bz13 := Blk.on Bz12 hb
  have HB13 := hide (HB12.out.trans (hb.mono HB12.out.size))
  clear hb Bp12 Bs12 Bu12 Bq12 Bv12 Bz12 HB12 yp0 yp1 yp2 yp3 yp4 yp5 yp6 yp7 yp8 yp9 yp10 yp11 yp12 yp13 ys0 ys1 ys2 ys3 ys4 ys5 yu0 yu1 yu2 yu3 yu4 yu5 yq0 yq1 yq2 yq3 yq4 yq5 yv0 yv1 yv2 yv3 yz0 yz1 yz2 yz3
  obtain ⟨yp0, yp1, yp2, yp3, yp4, yp5, yp6, yp7, yp8, yp9, yp10, yp11, yp12, yp13⟩ := Bp13.out.fourteen
  obtain ⟨ys0, ys1, ys2, ys3, ys4, ys5⟩ := Bs13.out.six
  obtain ⟨yu0, yu1, yu2, yu3, yu4, yu5⟩ := Bu13.out.six
  obtain ⟨yq0, yq1, yq2, yq3, yq4, yq5⟩ := Bq13.out.six
  obtain ⟨yv0, yv1, yv2, yv3⟩ := Bv13.out.four
  obtain ⟨yz0, yz1, yz2, yz3⟩ := Bz13.out.four
  go_wp2_with fail
  refine (xc7 _ (HT.out.below HB13.out)).mono ?_
  rintro e w14 ⟨rfl, hb⟩
  have Bp14 := Blk.on Bp13 hb
  have Bs14 := Blk.on Bs13 hb
  have Bu14 := Blk.on Bu13 hb
  have Bq14 := Blk.on Bq13 hb
  have Bv14 := Blk.on Bv13 hb
  have Bz14 := Blk.on Bz13 hb
  have HB14 := hide (HB13.out.trans (hb.mono HB13.out.size))
  clear hb Bp13 Bs13 Bu13 Bq13 Bv13 Bz13 HB13 yp0 yp1 yp2 yp3 yp4 yp5 yp6 yp7 yp8 yp9 yp10 yp11 yp12 yp13 ys0 ys1 ys2 ys3 ys4 ys5 yu0 yu1 yu2 yu3 yu4 yu5 yq0 yq1 yq2 yq3 yq4 yq5 yv0 yv1 yv2 yv3 yz0 yz1 yz2 yz3
  obtain ⟨yp0, yp1, yp2, yp3, yp4, yp5, yp6, yp7, yp8, yp9, yp10, yp11, yp12, yp13⟩ := Bp14.out.fourteen
  obtain ⟨ys0, ys1, ys2, ys3, ys4, ys5⟩ := Bs14.out.six
  obtain ⟨yu0, yu1, yu2, yu3, yu4, yu5⟩ := Bu14.out.six
  obtain ⟨yq0, yq1, yq2, yq3, yq4, yq5⟩ := Bq14.out.six
  obtain ⟨yv0, yv1, yv2, yv3⟩ := Bv14.out.four
  obtain ⟨yz0, yz1, yz2, yz3⟩ := Bz14.out.four
  go_wp2
  go_ret
  exact ⟨rfl, HB14.out⟩

end Go.Proofs.YtobloamnaemfnaaGreatDoor
