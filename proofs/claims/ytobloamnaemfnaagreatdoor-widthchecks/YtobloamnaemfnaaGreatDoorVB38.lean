/-
  What quipuref07's Check answers, whatever it is handed.
  WidthChecks answers true, whatever it is handed.
  What the rows' list of package variables gives, and a world that holds them.
-/
import Derived.Test.YtobloamnaemfnaaGreatDoorVB28
import Derived.Test.YtobloamnaemfnaaGreatDoorVB31
import Derived.Test.YtobloamnaemfnaaGreatDoorVB32
import Derived.Test.YtobloamnaemfnaaGreatDoorVB33
import Derived.Test.YtobloamnaemfnaaGreatDoorVB34
import Derived.Test.YtobloamnaemfnaaGreatDoorVB35
import Derived.Test.YtobloamnaemfnaaGreatDoorVB36
import Derived.Test.YtobloamnaemfnaaGreatDoorVB37
import Derived.Test.YtobloamnaemfnaaGreatDoorVB10
import Derived.Test.YtobloamnaemfnaaGreatDoorVB19
import Derived.Test.YtobloamnaemfnaaGreatDoorRows
import Derived.Test.YtobloamnaemfnaaGreatDoorVB6
import Derived.Lib.LaidTab
import Derived.Deep.DeepHandedRow
namespace Go.Proofs.YtobloamnaemfnaaGreatDoor
open Go.RowKit

theorem base_ok {p : PrecT} (h : BaseOk p.mode p.imin p.imax) : (0 ≤ p.mode ∧ p.mode ≤ 7) ∧ IntOk p := by
  unfold BaseOk at h
  rw [beq_iff_eq] at h
  unfold IntOk
  omega
theorem base_bad {p : PrecT} (h : BaseBad p.mode p.imin p.imax) : ¬ MayP p := by
  rintro ⟨h1, ⟨h2, h3⟩, _⟩
  unfold BaseBad at h
  omega
theorem bys_nex {t : ByteArray} (h : bys t ≠ []) : t.size ≠ 0 := fun e => h (bys_nil.2 e)

theorem step_errs (c : Int) (n : Bool) (l : List UInt8) (e : Int) : (StepD c n l ∧ MayD c n l e ∧ (stepR 0 false [] 0 c n l e 0).2 = 0) ∨ (¬ (MayD c n l e ∧ StepD c n l) ∧ ((stepR 0 false [] 0 c n l e 0).2 = 52 ∨ (stepR 0 false [] 0 c n l e 0).2 = 62)) := by
  have hz : MayD 0 false [] 0 := .inl ⟨rfl, .inl ⟨rfl, rfl⟩⟩
  unfold stepR
  by_cases h : MayD c n l e
  · rw [if_neg (fun g => g h), if_neg (fun g => g hz), if_neg (by omega)]
    by_cases h3 : StepD c n l
    · rw [if_neg (fun g => g h3), rndD_zero rfl]
      exact .inl ⟨h3, h, rfl⟩
    · rw [if_pos h3]
      exact .inr ⟨fun g => h3 g.2, .inr rfl⟩
  · rw [if_pos h]
    exact .inr ⟨fun g => h g.1, .inl rfl⟩

theorem rCheck_0 (mf xf ms xs : Int) (st : Bool) (cs : Int) (ns : Bool) (ts : ByteArray) (es md : Int) (hd : Bool) (im ix : Int) (w : World) : Calls Tryz.prog 13 #[prV 0 mf xf ms xs st cs ns ts es md hd im ix] w fun e w' => e = .returned (.int .i64 (checkP ⟨0, mf, xf, ms, xs, st, cs, ns, bys ts, es, md, hd, im, ix⟩)) ∧ Below w.heap.size w w' := by
  rcases base_or md im ix with hB | hB
  rotate_left
  · rw [checkP_no (base_bad (p := ⟨0, mf, xf, ms, xs, st, cs, ns, bys ts, es, md, hd, im, ix⟩) hB)]
    exact rchk0_bad mf xf ms xs st cs ns ts es md hd im ix w hB
  obtain ⟨ob1, ob2⟩ := base_ok (p := ⟨0, mf, xf, ms, xs, st, cs, ns, bys ts, es, md, hd, im, ix⟩) hB
  by_cases zmf : mf = 0
  rotate_left
  · have hno : ¬ MayP ⟨0, mf, xf, ms, xs, st, cs, ns, bys ts, es, md, hd, im, ix⟩ := fun g => zmf (by have q := mayP_0 g rfl; exact q.1.1)
    rw [checkP_no hno]
    exact rchk0_dmf mf xf ms xs st cs ns ts es md hd im ix w hB zmf
  by_cases zxf : xf = 0
  rotate_left
  · have hno : ¬ MayP ⟨0, mf, xf, ms, xs, st, cs, ns, bys ts, es, md, hd, im, ix⟩ := fun g => zxf (by have q := mayP_0 g rfl; exact q.1.2)
    rw [checkP_no hno]
    exact rchk0_dxf mf xf ms xs st cs ns ts es md hd im ix w hB zxf
  by_cases zms : ms = 0
  rotate_left
  · have hno : ¬ MayP ⟨0, mf, xf, ms, xs, st, cs, ns, bys ts, es, md, hd, im, ix⟩ := fun g => zms (by have q := mayP_0 g rfl; exact q.2.1.1)
    rw [checkP_no hno]
    exact rchk0_dms mf xf ms xs st cs ns ts es md hd im ix w hB zms
  by_cases zxs : xs = 0
  rotate_left
  · have hno : ¬ MayP ⟨0, mf, xf, ms, xs, st, cs, ns, bys ts, es, md, hd, im, ix⟩ := fun g => zxs (by have q := mayP_0 g rfl; exact q.2.1.2)
    rw [checkP_no hno]
    exact rchk0_dxs mf xf ms xs st cs ns ts es md hd im ix w hB zxs
  by_cases zcs : cs = 0
  rotate_left
  · have hno : ¬ MayP ⟨0, mf, xf, ms, xs, st, cs, ns, bys ts, es, md, hd, im, ix⟩ := fun g => zcs (by have q := mayP_0 g rfl; exact q.2.2.2.1)
    rw [checkP_no hno]
    exact rchk0_dcs mf xf ms xs st cs ns ts es md hd im ix w hB zcs
  by_cases zts : bys ts = []
  rotate_left
  · have hno : ¬ MayP ⟨0, mf, xf, ms, xs, st, cs, ns, bys ts, es, md, hd, im, ix⟩ := fun g => zts (by have q := mayP_0 g rfl; exact q.2.2.2.2.2.1)
    rw [checkP_no hno]
    exact rchk0_dts mf xf ms xs st cs ns ts es md hd im ix w hB (toList_ne (bys_nex zts))
  by_cases zes : es = 0
  rotate_left
  · have hno : ¬ MayP ⟨0, mf, xf, ms, xs, st, cs, ns, bys ts, es, md, hd, im, ix⟩ := fun g => zes (by have q := mayP_0 g rfl; exact q.2.2.2.2.2.2)
    rw [checkP_no hno]
    exact rchk0_des mf xf ms xs st cs ns ts es md hd im ix w hB zes
  cases st
  rotate_left
  · have hno : ¬ MayP ⟨0, mf, xf, ms, xs, true, cs, ns, bys ts, es, md, hd, im, ix⟩ := fun g => absurd (show true = false by have q := mayP_0 g rfl; exact q.2.2.1) (by decide)
    rw [checkP_no hno]
    exact rchk0_st mf xf ms xs cs ns ts es md hd im ix w hB
  cases ns
  rotate_left
  · have hno : ¬ MayP ⟨0, mf, xf, ms, xs, false, cs, true, bys ts, es, md, hd, im, ix⟩ := fun g => absurd (show true = false by have q := mayP_0 g rfl; exact q.2.2.2.2.1) (by decide)
    rw [checkP_no hno]
    exact rchk0_ns mf xf ms xs false cs ts es md hd im ix w hB
  subst zmf
  subst zxf
  subst zms
  subst zxs
  subst zcs
  obtain rfl := nil_bys zts
  subst zes
  have hok : MayP ⟨0, 0, 0, 0, 0, false, 0, false, bys ⟨#[]⟩, 0, md, hd, im, ix⟩ := ⟨ob1, ob2, .inl ⟨rfl, ⟨rfl, rfl⟩, ⟨rfl, rfl⟩, rfl, rfl, rfl, rfl, rfl⟩⟩
  rw [checkP_yes hok]
  exact rchk0_ok md hd im ix w hB

theorem rCheck_1 (mf xf ms xs : Int) (st : Bool) (cs : Int) (ns : Bool) (ts : ByteArray) (es md : Int) (hd : Bool) (im ix : Int) (w : World) : Calls Tryz.prog 13 #[prV 1 mf xf ms xs st cs ns ts es md hd im ix] w fun e w' => e = .returned (.int .i64 (checkP ⟨1, mf, xf, ms, xs, st, cs, ns, bys ts, es, md, hd, im, ix⟩)) ∧ Below w.heap.size w w' := by
  rcases base_or md im ix with hB | hB
  rotate_left
  · rw [checkP_no (base_bad (p := ⟨1, mf, xf, ms, xs, st, cs, ns, bys ts, es, md, hd, im, ix⟩) hB)]
    exact rchk1_bad mf xf ms xs st cs ns ts es md hd im ix w hB
  obtain ⟨ob1, ob2⟩ := base_ok (p := ⟨1, mf, xf, ms, xs, st, cs, ns, bys ts, es, md, hd, im, ix⟩) hB
  by_cases p0 : (0 ≤ mf ∧ mf ≤ xf) ∧ xf ≤ 99
  rotate_left
  · have hno : ¬ MayP ⟨1, mf, xf, ms, xs, st, cs, ns, bys ts, es, md, hd, im, ix⟩ := fun g => p0 (by have q := mayP_1 g rfl; exact q.1)
    rw [checkP_no hno]
    exact rchk1_p0 mf xf ms xs st cs ns ts es md hd im ix w p0 hB
  by_cases zms : ms = 0
  rotate_left
  · have hno : ¬ MayP ⟨1, mf, xf, ms, xs, st, cs, ns, bys ts, es, md, hd, im, ix⟩ := fun g => zms (by have q := mayP_1 g rfl; exact q.2.1.1)
    rw [checkP_no hno]
    exact rchk1_dms mf xf ms xs st cs ns ts es md hd im ix w p0 hB zms
  by_cases zxs : xs = 0
  rotate_left
  · have hno : ¬ MayP ⟨1, mf, xf, ms, xs, st, cs, ns, bys ts, es, md, hd, im, ix⟩ := fun g => zxs (by have q := mayP_1 g rfl; exact q.2.1.2)
    rw [checkP_no hno]
    exact rchk1_dxs mf xf ms xs st cs ns ts es md hd im ix w p0 hB zxs
  by_cases zcs : cs = 0
  rotate_left
  · have hno : ¬ MayP ⟨1, mf, xf, ms, xs, st, cs, ns, bys ts, es, md, hd, im, ix⟩ := fun g => zcs (by have q := mayP_1 g rfl; exact q.2.2.2.1)
    rw [checkP_no hno]
    exact rchk1_dcs mf xf ms xs st cs ns ts es md hd im ix w p0 hB zcs
  by_cases zts : bys ts = []
  rotate_left
  · have hno : ¬ MayP ⟨1, mf, xf, ms, xs, st, cs, ns, bys ts, es, md, hd, im, ix⟩ := fun g => zts (by have q := mayP_1 g rfl; exact q.2.2.2.2.2.1)
    rw [checkP_no hno]
    exact rchk1_dts mf xf ms xs st cs ns ts es md hd im ix w p0 hB (toList_ne (bys_nex zts))
  by_cases zes : es = 0
  rotate_left
  · have hno : ¬ MayP ⟨1, mf, xf, ms, xs, st, cs, ns, bys ts, es, md, hd, im, ix⟩ := fun g => zes (by have q := mayP_1 g rfl; exact q.2.2.2.2.2.2)
    rw [checkP_no hno]
    exact rchk1_des mf xf ms xs st cs ns ts es md hd im ix w p0 hB zes
  cases st
  rotate_left
  · have hno : ¬ MayP ⟨1, mf, xf, ms, xs, true, cs, ns, bys ts, es, md, hd, im, ix⟩ := fun g => absurd (show true = false by have q := mayP_1 g rfl; exact q.2.2.1) (by decide)
    rw [checkP_no hno]
    exact rchk1_st mf xf ms xs cs ns ts es md hd im ix w p0 hB
  cases ns
  rotate_left
  · have hno : ¬ MayP ⟨1, mf, xf, ms, xs, false, cs, true, bys ts, es, md, hd, im, ix⟩ := fun g => absurd (show true = false by have q := mayP_1 g rfl; exact q.2.2.2.2.1) (by decide)
    rw [checkP_no hno]
    exact rchk1_ns mf xf ms xs false cs ts es md hd im ix w p0 hB
  subst zms
  subst zxs
  subst zcs
  obtain rfl := nil_bys zts
  subst zes
  have hok : MayP ⟨1, mf, xf, 0, 0, false, 0, false, bys ⟨#[]⟩, 0, md, hd, im, ix⟩ := ⟨ob1, ob2, .inr (.inl ⟨rfl, p0, ⟨rfl, rfl⟩, rfl, rfl, rfl, rfl, rfl⟩)⟩
  rw [checkP_yes hok]
  exact rchk1_ok mf xf md hd im ix w p0 hB

theorem rCheck_2 (mf xf ms xs : Int) (st : Bool) (cs : Int) (ns : Bool) (ts : ByteArray) (es md : Int) (hd : Bool) (im ix : Int) (w : World) : Calls Tryz.prog 13 #[prV 2 mf xf ms xs st cs ns ts es md hd im ix] w fun e w' => e = .returned (.int .i64 (checkP ⟨2, mf, xf, ms, xs, st, cs, ns, bys ts, es, md, hd, im, ix⟩)) ∧ Below w.heap.size w w' := by
  rcases base_or md im ix with hB | hB
  rotate_left
  · rw [checkP_no (base_bad (p := ⟨2, mf, xf, ms, xs, st, cs, ns, bys ts, es, md, hd, im, ix⟩) hB)]
    exact rchk2_bad mf xf ms xs st cs ns ts es md hd im ix w hB
  obtain ⟨ob1, ob2⟩ := base_ok (p := ⟨2, mf, xf, ms, xs, st, cs, ns, bys ts, es, md, hd, im, ix⟩) hB
  by_cases p0 : (1 ≤ ms ∧ ms ≤ xs) ∧ xs ≤ 99
  rotate_left
  · have hno : ¬ MayP ⟨2, mf, xf, ms, xs, st, cs, ns, bys ts, es, md, hd, im, ix⟩ := fun g => p0 (by have q := mayP_2 g rfl; exact q.2.1)
    rw [checkP_no hno]
    exact rchk2_p0 mf xf ms xs st cs ns ts es md hd im ix w p0 hB
  by_cases zmf : mf = 0
  rotate_left
  · have hno : ¬ MayP ⟨2, mf, xf, ms, xs, st, cs, ns, bys ts, es, md, hd, im, ix⟩ := fun g => zmf (by have q := mayP_2 g rfl; exact q.1.1)
    rw [checkP_no hno]
    exact rchk2_dmf mf xf ms xs st cs ns ts es md hd im ix w p0 hB zmf
  by_cases zxf : xf = 0
  rotate_left
  · have hno : ¬ MayP ⟨2, mf, xf, ms, xs, st, cs, ns, bys ts, es, md, hd, im, ix⟩ := fun g => zxf (by have q := mayP_2 g rfl; exact q.1.2)
    rw [checkP_no hno]
    exact rchk2_dxf mf xf ms xs st cs ns ts es md hd im ix w p0 hB zxf
  by_cases zcs : cs = 0
  rotate_left
  · have hno : ¬ MayP ⟨2, mf, xf, ms, xs, st, cs, ns, bys ts, es, md, hd, im, ix⟩ := fun g => zcs (by have q := mayP_2 g rfl; exact q.2.2.2.1)
    rw [checkP_no hno]
    exact rchk2_dcs mf xf ms xs st cs ns ts es md hd im ix w p0 hB zcs
  by_cases zts : bys ts = []
  rotate_left
  · have hno : ¬ MayP ⟨2, mf, xf, ms, xs, st, cs, ns, bys ts, es, md, hd, im, ix⟩ := fun g => zts (by have q := mayP_2 g rfl; exact q.2.2.2.2.2.1)
    rw [checkP_no hno]
    exact rchk2_dts mf xf ms xs st cs ns ts es md hd im ix w p0 hB (toList_ne (bys_nex zts))
  by_cases zes : es = 0
  rotate_left
  · have hno : ¬ MayP ⟨2, mf, xf, ms, xs, st, cs, ns, bys ts, es, md, hd, im, ix⟩ := fun g => zes (by have q := mayP_2 g rfl; exact q.2.2.2.2.2.2)
    rw [checkP_no hno]
    exact rchk2_des mf xf ms xs st cs ns ts es md hd im ix w p0 hB zes
  cases st
  rotate_left
  · have hno : ¬ MayP ⟨2, mf, xf, ms, xs, true, cs, ns, bys ts, es, md, hd, im, ix⟩ := fun g => absurd (show true = false by have q := mayP_2 g rfl; exact q.2.2.1) (by decide)
    rw [checkP_no hno]
    exact rchk2_st mf xf ms xs cs ns ts es md hd im ix w p0 hB
  cases ns
  rotate_left
  · have hno : ¬ MayP ⟨2, mf, xf, ms, xs, false, cs, true, bys ts, es, md, hd, im, ix⟩ := fun g => absurd (show true = false by have q := mayP_2 g rfl; exact q.2.2.2.2.1) (by decide)
    rw [checkP_no hno]
    exact rchk2_ns mf xf ms xs false cs ts es md hd im ix w p0 hB
  subst zmf
  subst zxf
  subst zcs
  obtain rfl := nil_bys zts
  subst zes
  have hok : MayP ⟨2, 0, 0, ms, xs, false, 0, false, bys ⟨#[]⟩, 0, md, hd, im, ix⟩ := ⟨ob1, ob2, .inr (.inr (.inl ⟨rfl, ⟨rfl, rfl⟩, p0, rfl, rfl, rfl, rfl, rfl⟩))⟩
  rw [checkP_yes hok]
  exact rchk2_ok ms xs md hd im ix w p0 hB

theorem rCheck_3 (mf xf ms xs : Int) (st : Bool) (cs : Int) (ns : Bool) (ts : ByteArray) (es md : Int) (hd : Bool) (im ix : Int) (w : World) : Calls Tryz.prog 13 #[prV 3 mf xf ms xs st cs ns ts es md hd im ix] w fun e w' => e = .returned (.int .i64 (checkP ⟨3, mf, xf, ms, xs, st, cs, ns, bys ts, es, md, hd, im, ix⟩)) ∧ Below w.heap.size w w' := by
  rcases base_or md im ix with hB | hB
  rotate_left
  · rw [checkP_no (base_bad (p := ⟨3, mf, xf, ms, xs, st, cs, ns, bys ts, es, md, hd, im, ix⟩) hB)]
    exact rchk3_bad mf xf ms xs st cs ns ts es md hd im ix w hB
  obtain ⟨ob1, ob2⟩ := base_ok (p := ⟨3, mf, xf, ms, xs, st, cs, ns, bys ts, es, md, hd, im, ix⟩) hB
  by_cases p0 : (0 ≤ mf ∧ mf ≤ xf) ∧ xf ≤ 99
  rotate_left
  · have hno : ¬ MayP ⟨3, mf, xf, ms, xs, st, cs, ns, bys ts, es, md, hd, im, ix⟩ := fun g => p0 (by have q := mayP_3 g rfl; exact q.1)
    rw [checkP_no hno]
    exact rchk3_p0 mf xf ms xs st cs ns ts es md hd im ix w p0 hB
  by_cases p1 : (1 ≤ ms ∧ ms ≤ xs) ∧ xs ≤ 99
  rotate_left
  · have hno : ¬ MayP ⟨3, mf, xf, ms, xs, st, cs, ns, bys ts, es, md, hd, im, ix⟩ := fun g => p1 (by have q := mayP_3 g rfl; exact q.2.1)
    rw [checkP_no hno]
    exact rchk3_p1 mf xf ms xs st cs ns ts es md hd im ix w p0 p1 hB
  by_cases zcs : cs = 0
  rotate_left
  · have hno : ¬ MayP ⟨3, mf, xf, ms, xs, st, cs, ns, bys ts, es, md, hd, im, ix⟩ := fun g => zcs (by have q := mayP_3 g rfl; exact q.2.2.1)
    rw [checkP_no hno]
    exact rchk3_dcs mf xf ms xs st cs ns ts es md hd im ix w p0 p1 hB zcs
  by_cases zts : bys ts = []
  rotate_left
  · have hno : ¬ MayP ⟨3, mf, xf, ms, xs, st, cs, ns, bys ts, es, md, hd, im, ix⟩ := fun g => zts (by have q := mayP_3 g rfl; exact q.2.2.2.2.1)
    rw [checkP_no hno]
    exact rchk3_dts mf xf ms xs st cs ns ts es md hd im ix w p0 p1 hB (toList_ne (bys_nex zts))
  by_cases zes : es = 0
  rotate_left
  · have hno : ¬ MayP ⟨3, mf, xf, ms, xs, st, cs, ns, bys ts, es, md, hd, im, ix⟩ := fun g => zes (by have q := mayP_3 g rfl; exact q.2.2.2.2.2)
    rw [checkP_no hno]
    exact rchk3_des mf xf ms xs st cs ns ts es md hd im ix w p0 p1 hB zes
  cases ns
  rotate_left
  · have hno : ¬ MayP ⟨3, mf, xf, ms, xs, st, cs, true, bys ts, es, md, hd, im, ix⟩ := fun g => absurd (show true = false by have q := mayP_3 g rfl; exact q.2.2.2.1) (by decide)
    rw [checkP_no hno]
    exact rchk3_ns mf xf ms xs st cs ts es md hd im ix w p0 p1 hB
  subst zcs
  obtain rfl := nil_bys zts
  subst zes
  have hok : MayP ⟨3, mf, xf, ms, xs, st, 0, false, bys ⟨#[]⟩, 0, md, hd, im, ix⟩ := ⟨ob1, ob2, .inr (.inr (.inr (.inl ⟨rfl, p0, p1, rfl, rfl, rfl, rfl⟩)))⟩
  rw [checkP_yes hok]
  exact rchk3_ok mf xf ms xs st md hd im ix w p0 p1 hB

theorem rCheck_4 (mf xf ms xs : Int) (st : Bool) (cs : Int) (ns : Bool) (ts : ByteArray) (es md : Int) (hd : Bool) (im ix : Int) (w : World) : Calls Tryz.prog 13 #[prV 4 mf xf ms xs st cs ns ts es md hd im ix] w fun e w' => e = .returned (.int .i64 (checkP ⟨4, mf, xf, ms, xs, st, cs, ns, bys ts, es, md, hd, im, ix⟩)) ∧ Below w.heap.size w w' := by
  have ST := fun W => rStep_z cs ns ts es W
  rw [show bys ⟨#[]⟩ = [] from rfl] at ST
  rcases base_or md im ix with hB | hB
  rotate_left
  · rw [checkP_no (base_bad (p := ⟨4, mf, xf, ms, xs, st, cs, ns, bys ts, es, md, hd, im, ix⟩) hB)]
    exact rchk4_bad mf xf ms xs st cs ns ts es md hd im ix w _ _ _ _ _ ST hB
  obtain ⟨ob1, ob2⟩ := base_ok (p := ⟨4, mf, xf, ms, xs, st, cs, ns, bys ts, es, md, hd, im, ix⟩) hB
  rcases step_errs cs ns (bys ts) es with ⟨s1, s2, s3⟩ | ⟨s1, s2⟩
  rotate_left
  · have hno : ¬ MayP ⟨4, mf, xf, ms, xs, st, cs, ns, bys ts, es, md, hd, im, ix⟩ := fun g => s1 (mayP_4 g rfl).2.2.2.2
    rw [checkP_no hno]
    generalize stepR 0 false [] 0 cs ns (bys ts) es 0 = r at ST s2
    obtain ⟨r, er⟩ := r
    simp only at s2
    rcases s2 with rfl | rfl
    · exact rchk4_52 mf xf ms xs st cs ns ts es md hd im ix w _ _ _ _ ST hB
    · exact rchk4_62 mf xf ms xs st cs ns ts es md hd im ix w _ _ _ _ ST hB
  generalize stepR 0 false [] 0 cs ns (bys ts) es 0 = r at ST s3
  obtain ⟨r, er⟩ := r
  simp only at s3
  subst s3
  by_cases hm : 0 ≤ mf ∧ mf ≤ 99
  rotate_left
  · have hno : ¬ MayP ⟨4, mf, xf, ms, xs, st, cs, ns, bys ts, es, md, hd, im, ix⟩ := fun g => hm (mayP_4 g rfl).1
    rw [checkP_no hno]
    exact rchk4_m mf xf ms xs st cs ns ts es md hd im ix w _ _ _ _ ST hB (by omega)
  by_cases zxf : xf = 0
  rotate_left
  · have hno : ¬ MayP ⟨4, mf, xf, ms, xs, st, cs, ns, bys ts, es, md, hd, im, ix⟩ := fun g => zxf (by have q := mayP_4 g rfl; exact q.2.1)
    rw [checkP_no hno]
    exact rchk4_dxf mf xf ms xs st cs ns ts es md hd im ix w _ _ _ _ ST hB hm.1 hm.2 zxf
  by_cases zms : ms = 0
  rotate_left
  · have hno : ¬ MayP ⟨4, mf, xf, ms, xs, st, cs, ns, bys ts, es, md, hd, im, ix⟩ := fun g => zms (by have q := mayP_4 g rfl; exact q.2.2.1.1)
    rw [checkP_no hno]
    exact rchk4_dms mf xf ms xs st cs ns ts es md hd im ix w _ _ _ _ ST hB hm.1 hm.2 zms
  by_cases zxs : xs = 0
  rotate_left
  · have hno : ¬ MayP ⟨4, mf, xf, ms, xs, st, cs, ns, bys ts, es, md, hd, im, ix⟩ := fun g => zxs (by have q := mayP_4 g rfl; exact q.2.2.1.2)
    rw [checkP_no hno]
    exact rchk4_dxs mf xf ms xs st cs ns ts es md hd im ix w _ _ _ _ ST hB hm.1 hm.2 zxs
  cases st
  rotate_left
  · have hno : ¬ MayP ⟨4, mf, xf, ms, xs, true, cs, ns, bys ts, es, md, hd, im, ix⟩ := fun g => absurd (show true = false by have q := mayP_4 g rfl; exact q.2.2.2.1) (by decide)
    rw [checkP_no hno]
    exact rchk4_st mf xf ms xs cs ns ts es md hd im ix w _ _ _ _ ST hB hm.1 hm.2
  subst zxf
  subst zms
  subst zxs
  have hok : MayP ⟨4, mf, 0, 0, 0, false, cs, ns, bys ts, es, md, hd, im, ix⟩ := ⟨ob1, ob2, .inr (.inr (.inr (.inr ⟨rfl, hm, rfl, ⟨rfl, rfl⟩, rfl, s2, s1⟩)))⟩
  rw [checkP_yes hok]
  exact rchk4_ok mf cs ns ts es md hd im ix w _ _ _ _ ST hB hm.1 hm.2

theorem rCheck_any (k mf xf ms xs : Int) (st : Bool) (cs : Int) (ns : Bool) (ts : ByteArray) (es md : Int) (hd : Bool) (im ix : Int) (w : World) : Calls Tryz.prog 13 #[prV k mf xf ms xs st cs ns ts es md hd im ix] w fun e w' => e = .returned (.int .i64 (checkP ⟨k, mf, xf, ms, xs, st, cs, ns, bys ts, es, md, hd, im, ix⟩)) ∧ Below w.heap.size w w' := by
  by_cases k0 : k = 0
  · subst k0; exact rCheck_0 mf xf ms xs st cs ns ts es md hd im ix w
  by_cases k1 : k = 1
  · subst k1; exact rCheck_1 mf xf ms xs st cs ns ts es md hd im ix w
  by_cases k2 : k = 2
  · subst k2; exact rCheck_2 mf xf ms xs st cs ns ts es md hd im ix w
  by_cases k3 : k = 3
  · subst k3; exact rCheck_3 mf xf ms xs st cs ns ts es md hd im ix w
  by_cases k4 : k = 4
  · subst k4; exact rCheck_4 mf xf ms xs st cs ns ts es md hd im ix w
  have hno : ¬ MayP ⟨k, mf, xf, ms, xs, st, cs, ns, bys ts, es, md, hd, im, ix⟩ := by
    intro g
    rcases mayP_kind g with q | q | q | q | q
    · exact k0 q
    · exact k1 q
    · exact k2 q
    · exact k3 q
    · exact k4 q
  rw [checkP_no hno]
  rcases base_or md im ix with hB | hB
  · exact rchkn_ok k mf xf ms xs st cs ns ts es md hd im ix w k0 k1 k2 k3 k4 hB
  · exact rchkn_bad k mf xf ms xs st cs ns ts es md hd im ix w k0 k1 k2 k3 k4 hB

end Go.Proofs.YtobloamnaemfnaaGreatDoor

namespace Go.Proofs.YtobloamnaemfnaaGreatDoor
open Go.RowKit

set_option maxRecDepth 100000 in
set_option maxHeartbeats 4000000 in
theorem wchecks_gen (k mf xf ms xs : Int) (st : Bool) (cs : Int) (ns : Bool) (ts : ByteArray) (es md : Int) (hd : Bool) (im ix v : Int) (w : World) (htab : Tab w) (h1 : ∀ W, Tab W → Calls Tryz.prog 12 #[prV k mf xf ms xs st cs ns ts es md hd im ix] W fun e w' => e = .returned (.int .i64 v) ∧ Below W.heap.size W w') (h2 : ∀ W, Calls Tryz.prog 13 #[prV k mf xf ms xs st cs ns ts es md hd im ix] W fun e w' => e = .returned (.int .i64 v) ∧ Below W.heap.size W w') : Calls Tryz.prog 4 #[prV k mf xf ms xs st cs ns ts es md hd im ix] w fun e w' => e = .returned (.bool true) ∧ Below w.heap.size w w' := by
  have H1 := hide h1
  have H2 := hide h2
  have HT := hide htab
  clear htab h1 h2
  have Bp0 := hide (Blk.newAt w (w.heap.size) (rfl) #[.int .i64 k, .int .i64 mf, .int .i64 xf, .int .i64 ms, .int .i64 xs, .bool st, .int .i64 cs, .bool ns, .string ts, .int .i64 es, .int .i64 md, .bool hd, .int .i64 im, .int .i64 ix] 30)
  have HB0 : Hid (Below w.heap.size w (w.alloc (.cells #[.int .i64 k, .int .i64 mf, .int .i64 xf, .int .i64 ms, .int .i64 xs, .bool st, .int .i64 cs, .bool ns, .string ts, .int .i64 es, .int .i64 md, .bool hd, .int .i64 im, .int .i64 ix] 30))) := ((Below.refl _ _).alloc (Nat.le_refl _) _)
  have HTW := hide (HT.out.below HB0.out)
  obtain ⟨W, hW⟩ : ∃ W, W = (w.alloc (.cells #[.int .i64 k, .int .i64 mf, .int .i64 xf, .int .i64 ms, .int .i64 xs, .bool st, .int .i64 cs, .bool ns, .string ts, .int .i64 es, .int .i64 md, .bool hd, .int .i64 im, .int .i64 ix] 30)) := ⟨_, rfl⟩
  rw [← hW] at HB0 Bp0 HTW
  have HW := hide hW
  clear hW
  obtain ⟨yp0, yp1, yp2, yp3, yp4, yp5, yp6, yp7, yp8, yp9, yp10, yp11, yp12, yp13⟩ := Bp0.out.fourteen
  clear HT
  have b0 : Hid (Below W.heap.size W W.drew) := bdrewD W
  have HC : Hid (∀ w', Below W.heap.size W w' → w'.cell? ⟨w.heap.size, 0, none⟩ = some (.int .i64 k) ∧ w'.cell? ⟨w.heap.size, 1, none⟩ = some (.int .i64 mf) ∧ w'.cell? ⟨w.heap.size, 2, none⟩ = some (.int .i64 xf) ∧ w'.cell? ⟨w.heap.size, 3, none⟩ = some (.int .i64 ms) ∧ w'.cell? ⟨w.heap.size, 4, none⟩ = some (.int .i64 xs) ∧ w'.cell? ⟨w.heap.size, 5, none⟩ = some (.bool st) ∧ w'.cell? ⟨w.heap.size, 6, none⟩ = some (.int .i64 cs) ∧ w'.cell? ⟨w.heap.size, 7, none⟩ = some (.bool ns) ∧ w'.cell? ⟨w.heap.size, 8, none⟩ = some (.string ts) ∧ w'.cell? ⟨w.heap.size, 9, none⟩ = some (.int .i64 es) ∧ w'.cell? ⟨w.heap.size, 10, none⟩ = some (.int .i64 md) ∧ w'.cell? ⟨w.heap.size, 11, none⟩ = some (.bool hd) ∧ w'.cell? ⟨w.heap.size, 12, none⟩ = some (.int .i64 im) ∧ w'.cell? ⟨w.heap.size, 13, none⟩ = some (.int .i64 ix)) := fun w' hb => (Bp0.out.below hb Bp0.out.lt).fourteen
  go_enter Tryz.func4, Tryz.ntmps4
  go_wp2_with fail
  simp only [← HW.out]
  have mk0 : True := trivial
  go_region_held3 (fun w' => w'.cell? ⟨w.heap.size, 0, none⟩ = some (.int .i64 k) ∧ w'.cell? ⟨w.heap.size, 1, none⟩ = some (.int .i64 mf) ∧ w'.cell? ⟨w.heap.size, 2, none⟩ = some (.int .i64 xf) ∧ w'.cell? ⟨w.heap.size, 3, none⟩ = some (.int .i64 ms) ∧ w'.cell? ⟨w.heap.size, 4, none⟩ = some (.int .i64 xs) ∧ w'.cell? ⟨w.heap.size, 5, none⟩ = some (.bool st) ∧ w'.cell? ⟨w.heap.size, 6, none⟩ = some (.int .i64 cs) ∧ w'.cell? ⟨w.heap.size, 7, none⟩ = some (.bool ns) ∧ w'.cell? ⟨w.heap.size, 8, none⟩ = some (.string ts) ∧ w'.cell? ⟨w.heap.size, 9, none⟩ = some (.int .i64 es) ∧ w'.cell? ⟨w.heap.size, 10, none⟩ = some (.int .i64 md) ∧ w'.cell? ⟨w.heap.size, 11, none⟩ = some (.bool hd) ∧ w'.cell? ⟨w.heap.size, 12, none⟩ = some (.int .i64 im) ∧ w'.cell? ⟨w.heap.size, 13, none⟩ = some (.int .i64 ix)) (go_keep) (first
    | (clear mk0; go_at_call 11; refine (xawake_any _ (HTW.out.below b0.out)).mono ?_; rintro e umk1 ⟨rfl, hb⟩; have b1 := hide (b0.out.trans (hb.mono b0.out.size)); clear hb; obtain ⟨qmk1_0, qmk1_1, qmk1_2, qmk1_3, qmk1_4, qmk1_5, qmk1_6, qmk1_7, qmk1_8, qmk1_9, qmk1_10, qmk1_11, qmk1_12, qmk1_13⟩ := HC.out _ b1.out; have mk1 : True := trivial)
    | (clear mk1; go_at_call 12; refine (H1.out _ (HTW.out.below b1.out)).mono ?_; rintro e umka ⟨rfl, hb⟩; have b2 := hide (b1.out.trans (hb.mono b1.out.size)); clear hb; obtain ⟨qmka_0, qmka_1, qmka_2, qmka_3, qmka_4, qmka_5, qmka_6, qmka_7, qmka_8, qmka_9, qmka_10, qmka_11, qmka_12, qmka_13⟩ := HC.out _ b2.out; have mka : True := trivial)
    | (clear mk1; go_at_call 13; refine (H2.out _).mono ?_; rintro e umkb ⟨rfl, hb⟩; have b2 := hide (b1.out.trans (hb.mono b1.out.size)); clear hb; obtain ⟨qmkb_0, qmkb_1, qmkb_2, qmkb_3, qmkb_4, qmkb_5, qmkb_6, qmkb_7, qmkb_8, qmkb_9, qmkb_10, qmkb_11, qmkb_12, qmkb_13⟩ := HC.out _ b2.out; have mkb : True := trivial)
    | (clear mka; go_at_call 13; refine (H2.out _).mono ?_; rintro e umkx ⟨rfl, hb⟩; have b3 := hide (b2.out.trans (hb.mono b2.out.size)); clear hb; obtain ⟨qmkx_0, qmkx_1, qmkx_2, qmkx_3, qmkx_4, qmkx_5, qmkx_6, qmkx_7, qmkx_8, qmkx_9, qmkx_10, qmkx_11, qmkx_12, qmkx_13⟩ := HC.out _ b3.out; have mkx : True := trivial)
    | (clear mkb; go_at_call 12; refine (H1.out _ (HTW.out.below b2.out)).mono ?_; rintro e umkx ⟨rfl, hb⟩; have b3 := hide (b2.out.trans (hb.mono b2.out.size)); clear hb; obtain ⟨qmkx_0, qmkx_1, qmkx_2, qmkx_3, qmkx_4, qmkx_5, qmkx_6, qmkx_7, qmkx_8, qmkx_9, qmkx_10, qmkx_11, qmkx_12, qmkx_13⟩ := HC.out _ b3.out; have mkx : True := trivial))
  all_goals
    have HBE := hide (HB0.out.trans (b3.out.mono HB0.out.size))
    go_wp2
    go_ret
    exact ⟨rfl, HBE.out⟩

theorem wchecks_walk (w : World) (htab : Tab w) (k mf xf ms xs : Int) (st : Bool) (cs : Int) (ns : Bool) (ts : ByteArray) (es md : Int) (hd : Bool) (im ix : Int) : Calls Tryz.prog 4 #[prV k mf xf ms xs st cs ns ts es md hd im ix] w fun e w' => e = .returned (.bool true) ∧ Below w.heap.size w w' :=
  wchecks_gen k mf xf ms xs st cs ns ts es md hd im ix _ w htab (fun W hW => Check_any k mf xf ms xs st cs ns ts es md hd im ix W hW) (fun W => rCheck_any k mf xf ms xs st cs ns ts es md hd im ix W)

end Go.Proofs.YtobloamnaemfnaaGreatDoor

namespace Go.Proofs.YtobloamnaemfnaaGreatDoor
open Go.RowKit

theorem tg : Tryz.prog.globalNamed "internal/strconv.uint64pow10" = some 3 := by kernel_rfl
theorem tgt : (Tryz.prog.globals[3]?).map (·.type) = some 215 := by kernel_rfl
theorem tc20 : Tryz.prog.cellsOf 215 = 20 := by kernel_rfl
theorem tc1 : Tryz.prog.cellsOf 134 = 1 := by kernel_rfl

theorem table {W : World} (h : laidMetH Tryz.prog [("math/bits.deBruijn32tab", Rows.laid_math_bits_deBruijn32tab), ("math/bits.deBruijn64tab", Rows.laid_math_bits_deBruijn64tab), ("internal/strconv.uint64pow10", Rows.laid_internal_strconv_uint64pow10), ("unicode/utf8.acceptRanges", Rows.laid_unicode_utf8_acceptRanges), ("strconv.ErrRange", Rows.laid_strconv_ErrRange), ("strconv.ErrSyntax", Rows.laid_strconv_ErrSyntax), ("unicode/utf8.first", Rows.laid_unicode_utf8_first)] W) : Tab W := by
  have h' : laidMet Tryz.prog [("math/bits.deBruijn32tab", Rows.laid_math_bits_deBruijn32tab), ("math/bits.deBruijn64tab", Rows.laid_math_bits_deBruijn64tab), ("internal/strconv.uint64pow10", Rows.laid_internal_strconv_uint64pow10), ("unicode/utf8.acceptRanges", Rows.laid_unicode_utf8_acceptRanges), ("strconv.ErrRange", Rows.laid_strconv_ErrRange), ("strconv.ErrSyntax", Rows.laid_strconv_ErrSyntax), ("unicode/utf8.first", Rows.laid_unicode_utf8_first)] W := h
  obtain ⟨ps, ⟨_, _, _, _, _, q1, _, _, _, _, ⟨_, _, _, _, _, q2, _, _, _, _, ⟨g', t', cs, fuel, p3, q3, hg', ht', hvar, hd, _, _⟩, _⟩, _⟩, _⟩ := h'
  obtain rfl := Option.some.inj (tg.symm.trans hg')
  obtain rfl := Option.some.inj (tgt.symm.trans ht')
  unfold Tab Lib.TabIs
  have hd' : DataW.trod (fun _ => ()) Tryz.prog W 0 (fun _ => true) false fuel 215 cs.toList = some (Lib.tabData .u64 Lib.pow10Tab, p3) := hd
  rw [hvar, ← Lib.cells_of_tab Tryz.underlying215 Tryz.underlying134 tc1 tc20 hd']

def tabVals : DataW Unit → Array Value
  | .agg l => (l.flatMap fun
      | .lit (.int k z) => [Value.int k z]
      | .agg l2 => l2.map fun
        | .lit (.int k z) => Value.int k z
        | _ => .int .u8 0
      | _ => []).toArray
  | _ => #[]

def putVals (d : DataW Unit) : Obj → Obj
  | .cells _ t frozen => .cells (tabVals d) t frozen
  | o => o

def errText : DataW Unit → ByteArray
  | .iface _ (.ptr (.agg [.lit (.string l)])) => ⟨l.toArray⟩
  | _ => ⟨#[]⟩

def putErr (b : Nat) : Obj → Obj
  | .cells _ t frozen => .cells #[.iface 221 (.pointer (some ⟨b, 0, none⟩))] t frozen
  | o => o

noncomputable def laidWorld (os : Os) : World :=
  { World.holding Tryz.prog os ⟨#[], #[], []⟩ with
    heap := (((((((((World.holding Tryz.prog os ⟨#[], #[], []⟩).heap.modify 6 (putVals Rows.laid_math_bits_deBruijn32tab)).modify 7 (putVals Rows.laid_math_bits_deBruijn64tab)).modify 3 (putVals Rows.laid_internal_strconv_uint64pow10)).modify 5 (putVals Rows.laid_unicode_utf8_acceptRanges)).modify 4 (putVals Rows.laid_unicode_utf8_first)).modify 1 (putErr (World.holding Tryz.prog os ⟨#[], #[], []⟩).heap.size)).modify 0 (putErr ((World.holding Tryz.prog os ⟨#[], #[], []⟩).heap.size + 1))).push (.cells #[.string (errText Rows.laid_strconv_ErrRange)] 223)).push (.cells #[.string (errText Rows.laid_strconv_ErrSyntax)] 223) }

end Go.Proofs.YtobloamnaemfnaaGreatDoor
