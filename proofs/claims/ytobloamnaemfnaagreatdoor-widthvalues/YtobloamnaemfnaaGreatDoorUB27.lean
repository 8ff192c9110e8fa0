/-
  quipulaw06's awake: the calls answer what the document fixes.
  quipulaw07's awake answers true.
  WidthValues answers true, whatever it is handed.
  What the rows' list of package variables gives, and a world that holds them.
-/
import Derived.Test.YtobloamnaemfnaaGreatDoorUB2
import Derived.Test.YtobloamnaemfnaaGreatDoorUB10
import Derived.Test.YtobloamnaemfnaaGreatDoorUB26
import Derived.Test.YtobloamnaemfnaaGreatDoorUB13
import Derived.Test.YtobloamnaemfnaaGreatDoorUB23
import Derived.Test.YtobloamnaemfnaaGreatDoorRows
import Derived.Test.YtobloamnaemfnaaGreatDoorUB6
import Derived.Lib.LaidTab
import Derived.Deep.DeepHandedRow
namespace Go.Proofs.YtobloamnaemfnaaGreatDoor
open Go.RowKit

theorem digB_ok {l : List UInt8} (h : l.all (fun b => decide (48 ≤ b.toNat) && decide (b.toNat ≤ 57)) = true) : DigB l := by
  intro k hk
  unfold byt
  rw [List.getElem?_eq_getElem hk]
  have := List.all_eq_true.1 h _ (List.getElem_mem hk)
  simpa using this

theorem tellR_of {neg : Bool} {l : List UInt8} {e : Int} {N : Nat} {d : DecT} (hd : DigB l) (hN : N = decV l) (h : ofD neg l e = d) (hm : May d) : tellF neg N e = (d, 0) := by
  have e1 : finD neg N e = d := by rw [hN, ← ofD_fin neg l e hd]; exact h
  rw [tellF_yes (by rw [e1]; exact hm), e1]

theorem w1 : Fin ⟨0, false, [49], 0⟩ := ⟨rfl, by decide, by decide, by decide, by decide, by decide, by decide, digB_ok rfl⟩

end Go.Proofs.YtobloamnaemfnaaGreatDoor

namespace Go.Proofs.YtobloamnaemfnaaGreatDoor
open Go.RowKit

theorem x1005 : Fin ⟨0, false, [49, 48, 48, 53], -3⟩ := ⟨rfl, by decide, by decide, by decide, by decide, by decide, by decide, digB_ok rfl⟩
theorem xone : Fin ⟨0, false, [49], 0⟩ := ⟨rfl, by decide, by decide, by decide, by decide, by decide, by decide, digB_ok rfl⟩
theorem x125 : Fin ⟨0, false, [49, 50, 53], 2⟩ := ⟨rfl, by decide, by decide, by decide, by decide, by decide, by decide, digB_ok rfl⟩
theorem xp1 : MayP ⟨1, 2, 2, 0, 0, false, 0, false, [], 0, 4, false, 0, 0⟩ := ⟨⟨by decide, by decide⟩, ⟨⟨by decide, by decide⟩, .inl rfl⟩, .inr (.inl ⟨rfl, ⟨⟨by decide, by decide⟩, by decide⟩, ⟨rfl, rfl⟩, rfl, rfl, rfl, rfl, rfl⟩)⟩
theorem xp2 : ¬ MayP ⟨1, 3, 2, 0, 0, false, 0, false, [], 0, 4, false, 0, 0⟩ := fun h => by
  have := (mayP_1 h rfl).1.1.2
  exact absurd (show (3 : Int) ≤ 2 from this) (by decide)
theorem xp0 : MayP ⟨0, 0, 0, 0, 0, false, 0, false, [], 0, 0, false, 0, 0⟩ := ⟨⟨by decide, by decide⟩, ⟨⟨by decide, by decide⟩, .inl rfl⟩, .inl ⟨rfl, ⟨rfl, rfl⟩, ⟨rfl, rfl⟩, rfl, rfl, rfl, rfl, rfl⟩⟩

theorem xs1 : showP 0 false [49, 48, 48, 53] (-3) ⟨1, 2, 2, 0, 0, false, 0, false, [], 0, 4, false, 0, 0⟩ = (⟨0, false, [49], [48, 48], 0, false⟩, 0) := by
  have hr : roundP ⟨1, 2, 2, 0, 0, false, 0, false, [], 0, 4, false, 0, 0⟩ 0 false [49, 48, 48, 53] (-3) = (⟨0, false, [49], 0⟩, 0) := by
    rw [roundP_1 rfl]
    unfold atR
    rw [if_neg (fun g => g x1005.may), if_neg (by decide), if_neg (by decide)]
    unfold rndD
    rw [if_neg (by decide)]
    exact tellR_of (l := [49, 48, 48]) (digB_ok rfl) rfl rfl xone.may
  rw [showP_in (c := 0) (n := false) (l := [49, 48, 48, 53]) (e := -3) x1005.may xp1 (by rw [hr]), hr]
  rfl
theorem xs2 : ¬ MayD 0 false [] 1 := by
  rintro (⟨_, ⟨_, h⟩ | ⟨h, _⟩⟩ | ⟨h, _⟩ | ⟨h, _⟩)
  · cases h
  · exact h rfl
  · cases h
  · cases h
theorem xv1 : valueS ⟨0, false, [48, 48, 49, 50], [53, 48], 3, false⟩ = (⟨0, false, [49, 50, 53], 2⟩, 0) := by
  unfold valueS
  rw [if_neg (fun g => g ⟨⟨by decide, by decide⟩, .inl ⟨rfl, .inl (by decide), ⟨by decide, digB_ok rfl⟩, ⟨by decide, digB_ok rfl⟩⟩⟩), if_neg (fun g => g rfl)]
  exact tellR_of (l := [48, 48, 49, 50, 53, 48]) (digB_ok rfl) rfl rfl x125.may
theorem xv2 : valueS ⟨0, false, [], [], 0, false⟩ = (zeroD, 71) := by
  unfold valueS
  rw [if_pos]
  rintro ⟨_, ⟨_, h, _⟩ | ⟨h, _⟩ | ⟨h, _⟩⟩
  · exact h.elim (fun g => g rfl) (fun g => g rfl)
  · exact absurd (show (0 : Int) = 1 from h) (by decide)
  · exact absurd (show (0 : Int) = 2 from h) (by decide)

theorem xc1 (w : World) (h : Tab w) : Calls Tryz.prog 14 #[dcV 0 false ⟨#[49, 48, 48, 53]⟩ (-3), prV 1 2 2 0 0 false 0 false ⟨#[]⟩ 0 4 false 0 0] w fun e w' => e = .returned (.tuple #[.agg #[.int .i64 0, .bool false, .string ⟨#[49]⟩, .string ⟨#[48, 48]⟩, .int .i64 0, .bool false], .int .i64 0]) ∧ Below w.heap.size w w' := by
  have g := Show_k1 0 false ⟨#[49, 48, 48, 53]⟩ (-3) 2 2 0 0 false 0 false ⟨#[]⟩ 0 4 false 0 0 w h x1005.may xp1
  rw [show bys ⟨#[49, 48, 48, 53]⟩ = [49, 48, 48, 53] from rfl, show bys ⟨#[]⟩ = [] from rfl, xs1] at g
  exact g

theorem xc2 (w : World) (h : Tab w) : Calls Tryz.prog 14 #[dcV 0 false ⟨#[]⟩ 1, prV 1 2 2 0 0 false 0 false ⟨#[]⟩ 0 4 false 0 0] w fun e w' => e = .returned (.tuple #[.agg #[.int .i64 0, .bool false, .string ⟨#[]⟩, .string ⟨#[]⟩, .int .i64 0, .bool false], .int .i64 52]) ∧ Below w.heap.size w w' := by
  have _ := h
  exact show_no 0 false ⟨#[]⟩ 1 1 2 2 0 0 false 0 false ⟨#[]⟩ 0 4 false 0 0 w xs2

theorem xc3 (w : World) (h : Tab w) : Calls Tryz.prog 14 #[dcV 0 false ⟨#[]⟩ 0, prV 1 3 2 0 0 false 0 false ⟨#[]⟩ 0 4 false 0 0] w fun e w' => e = .returned (.tuple #[.agg #[.int .i64 0, .bool false, .string ⟨#[]⟩, .string ⟨#[]⟩, .int .i64 0, .bool false], .int .i64 70]) ∧ Below w.heap.size w w' := by
  exact show_bad 0 false ⟨#[]⟩ 0 1 3 2 0 0 false 0 false ⟨#[]⟩ 0 4 false 0 0 w h (may_zero false) xp2

theorem xc4 (w : World) (h : Tab w) : Calls Tryz.prog 16 #[shV 0 false ⟨#[48, 48, 49, 50]⟩ ⟨#[53, 48]⟩ 3 false] w fun e w' => e = .returned (.tuple #[.agg #[.int .i64 0, .bool false, .string ⟨#[49, 50, 53]⟩, .int .i64 2], .int .i64 0]) ∧ Below w.heap.size w w' := by
  have g := Value_any 0 false ⟨#[48, 48, 49, 50]⟩ ⟨#[53, 48]⟩ 3 false w h
  rw [show bys ⟨#[48, 48, 49, 50]⟩ = [48, 48, 49, 50] from rfl, show bys ⟨#[53, 48]⟩ = [53, 48] from rfl, xv1] at g
  exact g

theorem xc5 (w : World) (h : Tab w) : Calls Tryz.prog 16 #[shV 0 false ⟨#[]⟩ ⟨#[]⟩ 0 false] w fun e w' => e = .returned (.tuple #[.agg #[.int .i64 0, .bool false, .string ⟨#[]⟩, .int .i64 0], .int .i64 71]) ∧ Below w.heap.size w w' := by
  have g := Value_any 0 false ⟨#[]⟩ ⟨#[]⟩ 0 false w h
  rw [show bys ⟨#[]⟩ = [] from rfl, xv2] at g
  exact g

theorem xc6 (w : World) (h : Tab w) : Calls Tryz.prog 12 #[prV 1 3 2 0 0 false 0 false ⟨#[]⟩ 0 4 false 0 0] w fun e w' => e = .returned (.int .i64 70) ∧ Below w.heap.size w w' := by
  exact check_fP 1 3 2 0 0 false 0 false ⟨#[]⟩ 0 4 false 0 0 w h xp2

theorem xc7 (w : World) (h : Tab w) : Calls Tryz.prog 12 #[prV 0 0 0 0 0 false 0 false ⟨#[]⟩ 0 0 false 0 0] w fun e w' => e = .returned (.int .i64 0) ∧ Below w.heap.size w w' := by
  exact check_tP 0 0 0 0 0 false 0 false ⟨#[]⟩ 0 0 false 0 0 w h xp0

theorem Blk.fset1 {w : World} {b : Nat} {t : TypeId} {x0 x1 x2 x3 x4 x5 x6 x7 x8 x9 x10 x11 x12 x13 : Value} (h : Blk w b #[x0, x1, x2, x3, x4, x5, x6, x7, x8, x9, x10, x11, x12, x13] t) (y : Value) : Blk (w.setCell ⟨b, 1, none⟩ y) b #[x0, y, x2, x3, x4, x5, x6, x7, x8, x9, x10, x11, x12, x13] t := by
  unfold Blk at *
  simp only [World.setCell, Array.getElem?_modify, if_true, h, Option.map_some]
  rfl

set_option maxRecDepth 100000 in
set_option maxHeartbeats 4000000 in
theorem xawake_any (w : World) (htab : Tab w) : Calls Tryz.prog 11 #[] w fun e w' => e = .returned (.bool true) ∧ Below w.heap.size w w' := by
  have HT := hide htab
  clear htab
  have HB0 : Hid (Below w.heap.size w w) := Below.refl _ _
  go_enter Tryz.func11, Tryz.ntmps11
  have Bp1 := hide ((Blk.newAt w (w.heap.size) (rfl) #[.int .i64 1, .int .i64 2, .int .i64 2, .int .i64 0, .int .i64 0, .bool false, .int .i64 0, .bool false, .string ⟨#[]⟩, .int .i64 0, .int .i64 4, .bool false, .int .i64 0, .int .i64 0] 30))
  have HB1 : Hid (Below w.heap.size w (w.alloc (.cells #[.int .i64 1, .int .i64 2, .int .i64 2, .int .i64 0, .int .i64 0, .bool false, .int .i64 0, .bool false, .string ⟨#[]⟩, .int .i64 0, .int .i64 4, .bool false, .int .i64 0, .int .i64 0] 30))) := (HB0.out.alloc HB0.out.size _)
  clear  HB0 
  obtain ⟨yp0, yp1, yp2, yp3, yp4, yp5, yp6, yp7, yp8, yp9, yp10, yp11, yp12, yp13⟩ := Bp1.out.fourteen
  go_wp2_with fail
  refine (xc1 _ (HT.out.below HB1.out)).mono ?_
  rintro e w2 ⟨rfl, hb⟩
  have Bp2 := Blk.on Bp1 hb
  have HB2 := hide (HB1.out.trans (hb.mono HB1.out.size))
  clear hb Bp1 HB1 yp0 yp1 yp2 yp3 yp4 yp5 yp6 yp7 yp8 yp9 yp10 yp11 yp12 yp13
  have L1 := hide Bp2.out.lt
  obtain ⟨yp0, yp1, yp2, yp3, yp4, yp5, yp6, yp7, yp8, yp9, yp10, yp11, yp12, yp13⟩ := Bp2.out.fourteen
  have Bp3 := Blk.up Bp2 (.cells #[.int .i64 0, .bool false, .string ⟨#[49]⟩, .string ⟨#[48, 48]⟩, .int .i64 0, .bool false] 34)
  have Bs3 := hide ((Blk.newAt w2 (w2.heap.size) (rfl) #[.int .i64 0, .bool false, .string ⟨#[49]⟩, .string ⟨#[48, 48]⟩, .int .i64 0, .bool false] 34))
  have HB3 : Hid (Below w.heap.size w (w2.alloc (.cells #[.int .i64 0, .bool false, .string ⟨#[49]⟩, .string ⟨#[48, 48]⟩, .int .i64 0, .bool false] 34))) := (HB2.out.alloc HB2.out.size _)
  clear Bp2 HB2 yp0 yp1 yp2 yp3 yp4 yp5 yp6 yp7 yp8 yp9 yp10 yp11 yp12 yp13
  obtain ⟨yp0, yp1, yp2, yp3, yp4, yp5, yp6, yp7, yp8, yp9, yp10, yp11, yp12, yp13⟩ := Bp3.out.fourteen
  obtain ⟨ys0, ys1, ys2, ys3, ys4, ys5⟩ := Bs3.out.six
  go_wp2_with fail
  refine (xc2 _ (HT.out.below HB3.out)).mono ?_
  rintro e w4 ⟨rfl, hb⟩
  have Bp4 := Blk.on Bp3 hb
  have Bs4 := Blk.on Bs3 hb
  have HB4 := hide (HB3.out.trans (hb.mono HB3.out.size))
  clear hb Bp3 Bs3 HB3 yp0 yp1 yp2 yp3 yp4 yp5 yp6 yp7 yp8 yp9 yp10 yp11 yp12 yp13 ys0 ys1 ys2 ys3 ys4 ys5
  have L2 := hide Bp4.out.lt
  have L3 := hide Bs4.out.lt
  obtain ⟨yp0, yp1, yp2, yp3, yp4, yp5, yp6, yp7, yp8, yp9, yp10, yp11, yp12, yp13⟩ := Bp4.out.fourteen
  obtain ⟨ys0, ys1, ys2, ys3, ys4, ys5⟩ := Bs4.out.six
  have Bp5 := Blk.up Bp4 (.cells #[.int .i64 0, .bool false, .string ⟨#[]⟩, .string ⟨#[]⟩, .int .i64 0, .bool false] 34)
  have Bs5 := Blk.up Bs4 (.cells #[.int .i64 0, .bool false, .string ⟨#[]⟩, .string ⟨#[]⟩, .int .i64 0, .bool false] 34)
  have Bu5 := hide ((Blk.newAt w4 (w4.heap.size) (rfl) #[.int .i64 0, .bool false, .string ⟨#[]⟩, .string ⟨#[]⟩, .int .i64 0, .bool false] 34))
  have HB5 : Hid (Below w.heap.size w (w4.alloc (.cells #[.int .i64 0, .bool false, .string ⟨#[]⟩, .string ⟨#[]⟩, .int .i64 0, .bool false] 34))) := (HB4.out.alloc HB4.out.size _)
  clear Bp4 Bs4 HB4 yp0 yp1 yp2 yp3 yp4 yp5 yp6 yp7 yp8 yp9 yp10 yp11 yp12 yp13 ys0 ys1 ys2 ys3 ys4 ys5
  have ns : ¬ (⟨w.heap.size, 1, none⟩ : Addr).block = w2.heap.size := by have := L1.out; have := L2.out; simp only; omega
  have nu : ¬ (⟨w.heap.size, 1, none⟩ : Addr).block = w4.heap.size := by have := L1.out; have := L2.out; simp only; omega
  have fp1 := Bp5.out.free 1
  have yp1 := Bp5.out.cell 1
  simp at yp1
  have Bp6 := hide (Bp5.out.fset1 (.int .i64 3))
  have Bs6 := hide (Bs5.out.other ns (.int .i64 3))
  have Bu6 := hide (Bu5.out.other nu (.int .i64 3))
  have HB6 : Hid (Below w.heap.size w ((w4.alloc (.cells #[.int .i64 0, .bool false, .string ⟨#[]⟩, .string ⟨#[]⟩, .int .i64 0, .bool false] 34)).setCell ⟨w.heap.size, 1, none⟩ (.int .i64 3))) := HB5.out.setCell (Nat.le_refl _) _
  clear Bp5 Bs5 Bu5 HB5 ns nu L1 L2 L3
  obtain ⟨zp0, zp1, zp2, zp3, zp4, zp5, zp6, zp7, zp8, zp9, zp10, zp11, zp12, zp13⟩ := Bp6.out.fourteen
  go_wp2_with fail
  refine (xc3 _ (HT.out.below HB6.out)).mono ?_
  rintro e w7 ⟨rfl, hb⟩
  have Bp7 := Blk.on Bp6 hb
  have Bs7 := Blk.on Bs6 hb
  have Bu7 := Blk.on Bu6 hb
  have HB7 := hide (HB6.out.trans (hb.mono HB6.out.size))
  clear hb Bp6 Bs6 Bu6 HB6 zp0 zp1 zp2 zp3 zp4 zp5 zp6 zp7 zp8 zp9 zp10 zp11 zp12 zp13 yp1 fp1
  obtain ⟨yp0, yp1, yp2, yp3, yp4, yp5, yp6, yp7, yp8, yp9, yp10, yp11, yp12, yp13⟩ := Bp7.out.fourteen
  obtain ⟨ys0, ys1, ys2, ys3, ys4, ys5⟩ := Bs7.out.six
  obtain ⟨yu0, yu1, yu2, yu3, yu4, yu5⟩ := Bu7.out.six
  have Bp8 := Blk.up Bp7 (.cells #[.int .i64 0, .bool false, .string ⟨#[]⟩, .string ⟨#[]⟩, .int .i64 0, .bool false] 34)
  have Bs8 := Blk.up Bs7 (.cells #[.int .i64 0, .bool false, .string ⟨#[]⟩, .string ⟨#[]⟩, .int .i64 0, .bool false] 34)
  have Bu8 := Blk.up Bu7 (.cells #[.int .i64 0, .bool false, .string ⟨#[]⟩, .string ⟨#[]⟩, .int .i64 0, .bool false] 34)
  have Bq8 := hide ((Blk.newAt w7 (w7.heap.size) (rfl) #[.int .i64 0, .bool false, .string ⟨#[]⟩, .string ⟨#[]⟩, .int .i64 0, .bool false] 34))
  have HB8 : Hid (Below w.heap.size w (w7.alloc (.cells #[.int .i64 0, .bool false, .string ⟨#[]⟩, .string ⟨#[]⟩, .int .i64 0, .bool false] 34))) := (HB7.out.alloc HB7.out.size _)
  clear Bp7 Bs7 Bu7 HB7 yp0 yp1 yp2 yp3 yp4 yp5 yp6 yp7 yp8 yp9 yp10 yp11 yp12 yp13 ys0 ys1 ys2 ys3 ys4 ys5 yu0 yu1 yu2 yu3 yu4 yu5
  obtain ⟨yp0, yp1, yp2, yp3, yp4, yp5, yp6, yp7, yp8, yp9, yp10, yp11, yp12, yp13⟩ := Bp8.out.fourteen
  obtain ⟨ys0, ys1, ys2, ys3, ys4, ys5⟩ := Bs8.out.six
  obtain ⟨yu0, yu1, yu2, yu3, yu4, yu5⟩ := Bu8.out.six
  obtain ⟨yq0, yq1, yq2, yq3, yq4, yq5⟩ := Bq8.out.six
  go_wp2_with fail
  refine (xc4 _ (HT.out.below HB8.out)).mono ?_
  rintro e w9 ⟨rfl, hb⟩
  have Bp9 := Blk.on Bp8 hb
  have Bs9 := Blk.on Bs8 hb
  have Bu9 := Blk.on Bu8 hb
  have Bq9 := Blk.on Bq8 hb
  have HB9 := hide (HB8.out.trans (hb.mono HB8.out.size))
  clear hb Bp8 Bs8 Bu8 Bq8 HB8 yp0 yp1 yp2 yp3 yp4 yp5 yp6 yp7 yp8 yp9 yp10 yp11 yp12 yp13 ys0 ys1 ys2 ys3 ys4 ys5 yu0 yu1 yu2 yu3 yu4 yu5 yq0 yq1 yq2 yq3 yq4 yq5
  obtain ⟨yp0, yp1, yp2, yp3, yp4, yp5, yp6, yp7, yp8, yp9, yp10, yp11, yp12, yp13⟩ := Bp9.out.fourteen
  obtain ⟨ys0, ys1, ys2, ys3, ys4, ys5⟩ := Bs9.out.six
  obtain ⟨yu0, yu1, yu2, yu3, yu4, yu5⟩ := Bu9.out.six
  obtain ⟨yq0, yq1, yq2, yq3, yq4, yq5⟩ := Bq9.out.six
  have Bp10 := Blk.up Bp9 (.cells #[.int .i64 0, .bool false, .string ⟨#[49, 50, 53]⟩, .int .i64 2] 23)
  have Bs10 := Blk.up Bs9 (.cells #[.int .i64 0, .bool false, .string ⟨#[49, 50, 53]⟩, .int .i64 2] 23)
  have Bu10 := Blk.up Bu9 (.cells #[.int .i64 0, .bool false, .string ⟨#[49, 50, 53]⟩, .int .i64 2] 23)
  have Bq10 := Blk.up Bq9 (.cells #[.int .i64 0, .bool false, .string ⟨#[49, 50, 53]⟩, .int .i64 2] 23)
  have Bv10 := hide ((Blk.newAt w9 (w9.heap.size) (rfl) #[.int .i64 0, .bool false, .string ⟨#[49, 50, 53]⟩, .int .i64 2] 23))
  have HB10 : Hid (Below w.heap.size w (w9.alloc (.cells #[.int .i64 0, .bool false, .string ⟨#[49, 50, 53]⟩, .int .i64 2] 23))) := (HB9.out.alloc HB9.out.size _)
  clear Bp9 Bs9 Bu9 Bq9 HB9 yp0 yp1 yp2 yp3 yp4 yp5 yp6 yp7 yp8 yp9 yp10 yp11 yp12 yp13 ys0 ys1 ys2 ys3 ys4 ys5 yu0 yu1 yu2 yu3 yu4 yu5 yq0 yq1 yq2 yq3 yq4 yq5
  obtain ⟨yp0, yp1, yp2, yp3, yp4, yp5, yp6, yp7, yp8, yp9, yp10, yp11, yp12, yp13⟩ := Bp10.out.fourteen
  obtain ⟨ys0, ys1, ys2, ys3, ys4, ys5⟩ := Bs10.out.six
  obtain ⟨yu0, yu1, yu2, yu3, yu4, yu5⟩ := Bu10.out.six
  obtain ⟨yq0, yq1, yq2, yq3, yq4, yq5⟩ := Bq10.out.six
  obtain ⟨yv0, yv1, yv2, yv3⟩ := Bv10.out.four
  go_wp2_with fail
  refine (xc5 _ (HT.out.below HB10.out)).mono ?_
  rintro e w11 ⟨rfl, hb⟩
  have Bp11 := Blk.on Bp10 hb
  have Bs11 := Blk.on Bs10 hb
  have Bu11 := Blk.on Bu10 hb
  have Bq11 := Blk.on Bq10 hb
  have Bv11 := Blk.on Bv10 hb
  have HB11 := hide (HB10.out.trans (hb.mono HB10.out.size))
  clear hb Bp10 Bs10 Bu10 Bq10 Bv10 HB10 yp0 yp1 yp2 yp3 yp4 yp5 yp6 yp7 yp8 yp9 yp10 yp11 yp12 yp13 ys0 ys1 ys2 ys3 ys4 ys5 yu0 yu1 yu2 yu3 yu4 yu5 yq0 yq1 yq2 yq3 yq4 yq5 yv0 yv1 yv2 yv3
  obtain ⟨yp0, yp1, yp2, yp3, yp4, yp5, yp6, yp7, yp8, yp9, yp10, yp11, yp12, yp13⟩ := Bp11.out.fourteen
  obtain ⟨ys0, ys1, ys2, ys3, ys4, ys5⟩ := Bs11.out.six
  obtain ⟨yu0, yu1, yu2, yu3, yu4, yu5⟩ := Bu11.out.six
  obtain ⟨yq0, yq1, yq2, yq3, yq4, yq5⟩ := Bq11.out.six
  obtain ⟨yv0, yv1, yv2, yv3⟩ := Bv11.out.four
  have Bp12 := Blk.up Bp11 (.cells #[.int .i64 0, .bool false, .string ⟨#[]⟩, .int .i64 0] 23)
  have Bs12 := Blk.up Bs11 (.cells #[.int .i64 0, .bool false, .string ⟨#[]⟩, .int .i64 0] 23)
  have Bu12 := Blk.up Bu11 (.cells #[.int .i64 0, .bool false, .string ⟨#[]⟩, .int .i64 0] 23)
  have Bq12 := Blk.up Bq11 (.cells #[.int .i64 0, .bool false, .string ⟨#[]⟩, .int .i64 0] 23)
  have Bv12 := Blk.up Bv11 (.cells #[.int .i64 0, .bool false, .string ⟨#[]⟩, .int .i64 0] 23)
  have Bz12 := hide ((Blk.newAt w11 (w11.heap.size) (rfl) #[.int .i64 0, .bool false, .string ⟨#[]⟩, .int .i64 0] 23))
  have HB12 : Hid (Below w.heap.size w (w11.alloc (.cells #[.int .i64 0, .bool false, .string ⟨#[]⟩, .int .i64 0] 23))) := (HB11.out.alloc HB11.out.size _)
  clear Bp11 Bs11 Bu11 Bq11 Bv11 HB11 yp0 yp1 yp2 yp3 yp4 yp5 yp6 yp7 yp8 yp9 yp10 yp11 yp12 yp13 ys0 ys1 ys2 ys3 ys4 ys5 yu0 yu1 yu2 yu3 yu4 yu5 yq0 yq1 yq2 yq3 yq4 yq5 yv0 yv1 yv2 yv3
  obtain ⟨yp0, yp1, yp2, yp3, yp4, yp5, yp6, yp7, yp8, yp9, yp10, yp11, yp12, yp13⟩ := Bp12.out.fourteen
  obtain ⟨ys0, ys1, ys2, ys3, ys4, ys5⟩ := Bs12.out.six
  obtain ⟨yu0, yu1, yu2, yu3, yu4, yu5⟩ := Bu12.out.six
  obtain ⟨yq0, yq1, yq2, yq3, yq4, yq5⟩ := Bq12.out.six
  obtain ⟨yv0, yv1, yv2, yv3⟩ := Bv12.out.four
  obtain ⟨yz0, yz1, yz2, yz3⟩ := Bz12.out.four
  go_wp2_with fail
  refine (xc6 _ (HT.out.below HB12.out)).mono ?_
  rintro e w13 ⟨rfl, hb⟩
  have Bp13 := Blk.on Bp12 hb
  have Bs13 := Blk.on Bs12 hb
  have Bu13 := Blk.on Bu12 hb
  have Bq13 := Blk.on Bq12 hb
  have Bv13 := Blk.on Bv12 hb
  have Bz13 := Blk.on Bz12 hb
  have HB13 := hide (HB12.out.trans (hb.mono HB12.out.size))
  clear hb Bp12 Bs12 Bu12 Bq12 Bv12 Bz12 HB12 yp0 yp1 yp2 yp3 yp4 yp5 yp6 yp7 yp8 yp9 yp10 yp11 yp12 yp13 ys0 ys1 ys2 ys3 ys4 ys5 yu0 yu1 yu2 yu3 yu4 yu5 yq0 yq1 yq2 yq3 yq4 yq5 yv0 yv1 yv2 yv3 yz0 yz1 yz2 yz3
  obtain ⟨yp0, yp1, yp2, yp3, yp4, yp5, yp6, yp7, yp8, yp9, yp10, yp11, yp12, yp13⟩ := Bp13.out.fourteen
  obtain ⟨ys0, ys1, ys2, ys3, ys4, ys5⟩ := Bs13.out.six
  obtain ⟨yu0, yu1, yu2, yu3, yu4, yu5⟩ := Bu13.out.six
  obtain ⟨yq0, yq1, yq2, yq3, yq4, yq5⟩ := Bq13.out.six
  obtain ⟨yv0, yv1, yv2, yv3⟩ := Bv13.out.four
  obtain ⟨yz0, yz1, yz2, yz3⟩ := Bz13.out.four
  go_wp2_with fail
  refine (xc7 _ (HT.out.below HB13.out)).mono ?_
  rintro e w14 ⟨rfl, hb⟩
  have Bp14 := Blk.on Bp13 hb
  have Bs14 := Blk.on Bs13 hb
  have Bu14 := Blk.on Bu13 hb
  have Bq14 := Blk.on Bq13 hb
  have Bv14 := Blk.on Bv13 hb
  have Bz14 := Blk.on Bz13 hb
  have HB14 := hide (HB13.out.trans (hb.mono HB13.out.size))
  clear hb Bp13 Bs13 Bu13 Bq13 Bv13 Bz13 HB13 yp0 yp1 yp2 yp3 yp4 yp5 yp6 yp7 yp8 yp9 yp10 yp11 yp12 yp13 ys0 ys1 ys2 ys3 ys4 ys5 yu0 yu1 yu2 yu3 yu4 yu5 yq0 yq1 yq2 yq3 yq4 yq5 yv0 yv1 yv2 yv3 yz0 yz1 yz2 yz3
  obtain ⟨yp0, yp1, yp2, yp3, yp4, yp5, yp6, yp7, yp8, yp9, yp10, yp11, yp12, yp13⟩ := Bp14.out.fourteen
  obtain ⟨ys0, ys1, ys2, ys3, ys4, ys5⟩ := Bs14.out.six
  obtain ⟨yu0, yu1, yu2, yu3, yu4, yu5⟩ := Bu14.out.six
  obtain ⟨yq0, yq1, yq2, yq3, yq4, yq5⟩ := Bq14.out.six
  obtain ⟨yv0, yv1, yv2, yv3⟩ := Bv14.out.four
  obtain ⟨yz0, yz1, yz2, yz3⟩ := Bz14.out.four
  go_wp2
  go_ret
  exact ⟨rfl, HB14.out⟩

end Go.Proofs.YtobloamnaemfnaaGreatDoor

namespace Go.Proofs.YtobloamnaemfnaaGreatDoor
open Go.RowKit

set_option maxRecDepth 100000 in
set_option maxHeartbeats 4000000 in
theorem wvalues_gen (c : Int) (n : Bool) (ti tf : ByteArray) (x : Int) (cm : Bool) (cx : Int) (nx : Bool) (tx : ByteArray) (ex rx : Int) (w : World) (htab : Tab w) (h1 : ∀ W, Tab W → Calls Tryz.prog 16 #[shV c n ti tf x cm] W fun e w' => e = .returned (.tuple #[.agg #[.int .i64 cx, .bool nx, .string tx, .int .i64 ex], .int .i64 rx]) ∧ Below W.heap.size W w') (h2 : ∀ W, Calls Tryz.prog 17 #[shV c n ti tf x cm] W fun e w' => e = .returned (.tuple #[.agg #[.int .i64 cx, .bool nx, .string tx, .int .i64 ex], .int .i64 rx]) ∧ Below W.heap.size W w') : Calls Tryz.prog 6 #[shV c n ti tf x cm] w fun e w' => e = .returned (.bool true) ∧ Below w.heap.size w w' := by
  have H1 := hide h1
  have H2 := hide h2
  have HT := hide htab
  clear htab h1 h2
  have Bs0 := hide (Blk.newAt w (w.heap.size) (rfl) #[.int .i64 c, .bool n, .string ti, .string tf, .int .i64 x, .bool cm] 34)
  have HB0 : Hid (Below w.heap.size w (w.alloc (.cells #[.int .i64 c, .bool n, .string ti, .string tf, .int .i64 x, .bool cm] 34))) := ((Below.refl _ _).alloc (Nat.le_refl _) _)
  go_enter Tryz.func6, Tryz.ntmps6
  go_wp2_with fail
  refine (H1.out _ (HT.out.below HB0.out)).mono ?_
  rintro e w1 ⟨rfl, hb⟩
  have Bs1 := Blk.on Bs0 hb
  have HB1 := hide (HB0.out.trans (hb.mono HB0.out.size))
  clear hb Bs0 HB0 
  obtain ⟨ys0, ys1, ys2, ys3, ys4, ys5⟩ := Bs1.out.six
  have Bs2 := Blk.up Bs1 (.cells #[.int .i64 cx, .bool nx, .string tx, .int .i64 ex] 23)
  have Bv02 := hide ((Blk.newAt w1 (w1.heap.size) (rfl) #[.int .i64 cx, .bool nx, .string tx, .int .i64 ex] 23))
  have HB2 : Hid (Below w.heap.size w (w1.alloc (.cells #[.int .i64 cx, .bool nx, .string tx, .int .i64 ex] 23))) := (HB1.out.alloc HB1.out.size _)
  clear Bs1 HB1 ys0 ys1 ys2 ys3 ys4 ys5
  obtain ⟨ys0, ys1, ys2, ys3, ys4, ys5⟩ := Bs2.out.six
  obtain ⟨yv00, yv01, yv02, yv03⟩ := Bv02.out.four
  go_wp2_with fail
  refine (H2.out _).mono ?_
  rintro e w3 ⟨rfl, hb⟩
  have Bs3 := Blk.on Bs2 hb
  have Bv03 := Blk.on Bv02 hb
  have HB3 := hide (HB2.out.trans (hb.mono HB2.out.size))
  clear hb Bs2 Bv02 HB2 ys0 ys1 ys2 ys3 ys4 ys5 yv00 yv01 yv02 yv03
  obtain ⟨ys0, ys1, ys2, ys3, ys4, ys5⟩ := Bs3.out.six
  obtain ⟨yv00, yv01, yv02, yv03⟩ := Bv03.out.four
  have Bs4 := Blk.up Bs3 (.cells #[.int .i64 cx, .bool nx, .string tx, .int .i64 ex] 23)
  have Bv04 := Blk.up Bv03 (.cells #[.int .i64 cx, .bool nx, .string tx, .int .i64 ex] 23)
  have Bv14 := hide ((Blk.newAt w3 (w3.heap.size) (rfl) #[.int .i64 cx, .bool nx, .string tx, .int .i64 ex] 23))
  have HB4 : Hid (Below w.heap.size w (w3.alloc (.cells #[.int .i64 cx, .bool nx, .string tx, .int .i64 ex] 23))) := (HB3.out.alloc HB3.out.size _)
  clear Bs3 Bv03 HB3 ys0 ys1 ys2 ys3 ys4 ys5 yv00 yv01 yv02 yv03
  obtain ⟨ys0, ys1, ys2, ys3, ys4, ys5⟩ := Bs4.out.six
  obtain ⟨yv00, yv01, yv02, yv03⟩ := Bv04.out.four
  obtain ⟨yv10, yv11, yv12, yv13⟩ := Bv14.out.four
  have HTW := hide (HT.out.below HB4.out)
  clear HT H1 H2
  go_wp2_with fail
  refine (xawake_any _ HTW.out).mono ?_
  rintro e w5 ⟨rfl, hb⟩
  have Bs5 := Blk.on Bs4 hb
  have Bv05 := Blk.on Bv04 hb
  have Bv15 := Blk.on Bv14 hb
  have HB5 := hide (HB4.out.trans (hb.mono HB4.out.size))
  clear hb Bs4 Bv04 Bv14 HB4 ys0 ys1 ys2 ys3 ys4 ys5 yv00 yv01 yv02 yv03 yv10 yv11 yv12 yv13
  obtain ⟨ys0, ys1, ys2, ys3, ys4, ys5⟩ := Bs5.out.six
  obtain ⟨yv00, yv01, yv02, yv03⟩ := Bv05.out.four
  obtain ⟨yv10, yv11, yv12, yv13⟩ := Bv15.out.four
  go_wp2
  go_ret
  exact ⟨rfl, HB5.out⟩

theorem wvalues_walk (w : World) (htab : Tab w) (c : Int) (n : Bool) (ti tf : ByteArray) (x : Int) (cm : Bool) (b1 : ti.size ≤ 140737488355328) (b2 : tf.size ≤ 140737488355328) : Calls Tryz.prog 6 #[shV c n ti tf x cm] w fun e w' => e = .returned (.bool true) ∧ Below w.heap.size w w' :=
  wvalues_gen c n ti tf x cm _ _ _ _ _ w htab (fun W hW => Value_any c n ti tf x cm W hW) (fun W => rValue_any c n ti tf x cm W (by omega) (by omega))

end Go.Proofs.YtobloamnaemfnaaGreatDoor

namespace Go.Proofs.YtobloamnaemfnaaGreatDoor
open Go.RowKit

theorem tg : Tryz.prog.globalNamed "internal/strconv.uint64pow10" = some 3 := by kernel_rfl
theorem tgt : (Tryz.prog.globals[3]?).map (·.type) = some 215 := by kernel_rfl
theorem tc20 : Tryz.prog.cellsOf 215 = 20 := by kernel_rfl
theorem tc1 : Tryz.prog.cellsOf 134 = 1 := by kernel_rfl

theorem table {W : World} (h : laidMetH Tryz.prog [("math/bits.deBruijn32tab", Rows.laid_math_bits_deBruijn32tab), ("math/bits.deBruijn64tab", Rows.laid_math_bits_deBruijn64tab), ("internal/strconv.uint64pow10", Rows.laid_internal_strconv_uint64pow10), ("unicode/utf8.acceptRanges", Rows.laid_unicode_utf8_acceptRanges), ("strconv.ErrRange", Rows.laid_strconv_ErrRange), ("strconv.ErrSyntax", Rows.laid_strconv_ErrSyntax), ("unicode/utf8.first", Rows.laid_unicode_utf8_first)] W) : Tab W := by
  have h' : laidMet Tryz.prog [("math/bits.deBruijn32tab", Rows.laid_math_bits_deBruijn32tab), ("math/bits.deBruijn64tab", Rows.laid_math_bits_deBruijn64tab), ("internal/strconv.uint64pow10", Rows.laid_internal_strconv_uint64pow10), ("unicode/utf8.acceptRanges", Rows.laid_unicode_utf8_acceptRanges), ("strconv.ErrRange", Rows.laid_strconv_ErrRange), ("strconv.ErrSyntax", Rows.laid_strconv_ErrSyntax), ("unicode/utf8.first", Rows.laid_unicode_utf8_first)] W := h
  obtain ⟨ps, ⟨_, _, _, _, _, q1, _, _, _, _, ⟨_, _, _, _, _, q2, _, _, _, _, ⟨g', t', cs, fuel, p3, q3, hg', ht', hvar, hd, _, _⟩, _⟩, _⟩, _⟩ := h'
  obtain rfl := Option.some.inj (tg.symm.trans hg')
  obtain rfl := Option.some.inj (tgt.symm.trans ht')
  unfold Tab Lib.TabIs
  have hd' : DataW.trod (fun _ => ()) Tryz.prog W 0 (fun _ => true) false fuel 215 cs.toList = some (Lib.tabData .u64 Lib.pow10Tab, p3) := hd
  rw [hvar, ← Lib.cells_of_tab Tryz.underlying215 Tryz.underlying134 tc1 tc20 hd']

def tabVals : DataW Unit → Array Value
  | .agg l => (l.flatMap fun
      | .lit (.int k z) => [Value.int k z]
      | .agg l2 => l2.map fun
        | .lit (.int k z) => Value.int k z
        | _ => .int .u8 0
      | _ => []).toArray
  | _ => #[]

def putVals (d : DataW Unit) : Obj → Obj
  | .cells _ t frozen => .cells (tabVals d) t frozen
  | o => o

def errText : DataW Unit → ByteArray
  | .iface _ (.ptr (.agg [.lit (.string l)])) => ⟨l.toArray⟩
  | _ => ⟨#[]⟩

def putErr (b : Nat) : Obj → Obj
  | .cells _ t frozen => .cells #[.iface 221 (.pointer (some ⟨b, 0, none⟩))] t frozen
  | o => o

noncomputable def laidWorld (os : Os) : World :=
  { World.holding Tryz.prog os ⟨#[], #[], []⟩ with
    heap := (((((((((World.holding Tryz.prog os ⟨#[], #[], []⟩).heap.modify 6 (putVals Rows.laid_math_bits_deBruijn32tab)).modify 7 (putVals Rows.laid_math_bits_deBruijn64tab)).modify 3 (putVals Rows.laid_internal_strconv_uint64pow10)).modify 5 (putVals Rows.laid_unicode_utf8_acceptRanges)).modify 4 (putVals Rows.laid_unicode_utf8_first)).modify 1 (putErr (World.holding Tryz.prog os ⟨#[], #[], []⟩).heap.size)).modify 0 (putErr ((World.holding Tryz.prog os ⟨#[], #[], []⟩).heap.size + 1))).push (.cells #[.string (errText Rows.laid_strconv_ErrRange)] 223)).push (.cells #[.string (errText Rows.laid_strconv_ErrSyntax)] 223) }

end Go.Proofs.YtobloamnaemfnaaGreatDoor
