/-
  The walk of WholeDivides.
-/
import Derived.Test.YtfcdjhjdiadbfaaDoorZRStruct
import Derived.Test.YtfcdjhjdiadbfaaDoorWAwake
namespace Go.Proofs.YtfcdjhjdiadbfaaDoor
open Go.RowKit

/-- What quipulaw02.in answers in a region. -/
structure XR (W W' : World) (m : Nat) (z : Int) (s : Bool) (o : Option Addr) (c : Nat) (r : List Nat) : Prop where
  ni : NI32 s r z
  le : r.length ≤ c
  few : r.length ≤ m
  res : Res .u32 W' o r W.heap.size W'.heap.size
  bel : Below W.heap.size W W'

theorem XR.of {W W' : World} {m : Nat} {z : Int} {e : Ending} (h : RWPost W m z e W') : ∃ s o c r, e = .returned (.agg #[.bool s, .slice o (List.length r) c]) ∧ Hid (XR W W' m z s o c r) := by
  obtain ⟨s, o, c, r, hs, rfl, h1, h2, h3, h4, h5⟩ := h
  exact ⟨s, o, c, r, rfl, NI32.mk hs h3, h1, h4, h2, h5⟩

/-- Where the ways through the region meet that divides by hand. -/
structure CutR (w : World) (z u : Int) (m : Nat) (v1 v2 : Value) (W : World) : Prop where
  ex : ∃ (H K : Nat) (s1 : Bool) (o1 : Option Addr) (c1 : Nat) (r1 : List Nat) (s2 : Bool) (o2 : Option Addr) (c2 : Nat) (r2 : List Nat), v1 = .pointer (some ⟨H, 0, none⟩) ∧ v2 = .pointer (some ⟨K, 0, none⟩) ∧
    Both w W 28 H K (.bool s1) (.slice o1 r1.length c1) (.bool s2) (.slice o2 r2.length c2) o1 r1 o2 r2 .u32 ∧ NI32 s1 r1 z ∧ NI32 s2 r2 u ∧ r1.length ≤ c1 ∧ r1.length ≤ m ∧ r2.length ≤ c2 ∧ r2.length ≤ m

set_option maxRecDepth 100000 in
set_option maxHeartbeats 4000000 in
theorem wdivides_zero (w : World) (tab : Tab w) (na : Bool) (oa : Option Addr) (la ca : Nat) (xa : List Nat) (hla : la ≤ ca) (hca : ca ≤ 1048576) (hxa : xa.length = la) (ata : At .u64 w oa xa) (za : Int) (va : Hid (NV na xa za)) (nb : Bool) (ob : Option Addr) (lb cb : Nat) (xb : List Nat) (hlb : lb ≤ cb) (hcb : cb ≤ 1048576) (hxb : xb.length = lb) (atb : At .u64 w ob xb) (zb : Int) (vb : Hid (NV nb xb zb)) (h0 : Hid (zb = 0)) :
    Calls Tryd.prog 4 #[.agg #[.bool na, .slice oa la ca], .agg #[.bool nb, .slice ob lb cb]] w fun e w' => e = .returned (.bool true) ∧ Below w.heap.size w w' := by
  go_enter Tryd.func4, Tryd.ntmps4
  go_wp2_with fail
  have hbw : Below w.heap.size w ((w.alloc (Obj.cells #[Value.bool na, Value.slice oa la ca] 24)).alloc (Obj.cells #[Value.bool nb, Value.slice ob lb cb] 24)) := ((Below.refl _ _).alloc (Nat.le_refl _) _).alloc (by simp) _
  have pa := (Pair.new w (.bool na) (.slice oa la ca) 24).alloc (Obj.cells #[Value.bool nb, Value.slice ob lb cb] 24)
  have pb := Pair.newAt (w.alloc (Obj.cells #[Value.bool na, Value.slice oa la ca] 24)) (w.heap.size + 1) (by simp) (.bool nb) (.slice ob lb cb) 24
  replace ata := (ata.alloc (Obj.cells #[Value.bool na, Value.slice oa la ca] 24)).alloc (Obj.cells #[Value.bool nb, Value.slice ob lb cb] 24)
  replace atb := (atb.alloc (Obj.cells #[Value.bool na, Value.slice oa la ca] 24)).alloc (Obj.cells #[Value.bool nb, Value.slice ob lb cb] 24)
  replace tab := (tab.alloc (Obj.cells #[Value.bool na, Value.slice oa la ca] 24)).alloc (Obj.cells #[Value.bool nb, Value.slice ob lb cb] 24)
  generalize ((w.alloc (Obj.cells #[Value.bool na, Value.slice oa la ca] 24)).alloc (Obj.cells #[Value.bool nb, Value.slice ob lb cb] 24)) = w0 at *
  refine (divz0 na nb oa ob la ca lb cb xa xb _ hla hlb hxa hxb ata atb za zb va vb (by omega) (by omega) h0).mono ?_
  rintro e wd ⟨sq, xq, rq, st, xt, rt, hs1, hs2, rfl, hq, hr, iq, ir, hbel⟩
  obtain ⟨oq, cq, rfl, hlq, hmq, atq⟩ := hq.shape
  obtain ⟨ot, ct, rfl, hlt, hmt, att⟩ := hr.shape
  have niq : Hid (NI sq rq (0)) := NI.mk hs1 iq
  have nit : Hid (NI st rt (0)) := NI.mk hs2 ir
  clear hq hr hs1 hs2 iq ir
  replace hbw := hbw.trans (hbel.mono hbw.size)
  replace ata := ata.below hbel
  replace pa := pa.below hbel pa.lt
  replace atb := atb.below hbel
  replace pb := pb.below hbel pb.lt
  replace tab := tab.below hbel
  clear hbel
  replace ata := (ata.alloc (Obj.cells #[Value.bool sq, Value.slice oq rq.length cq] 24)).alloc (Obj.cells #[Value.bool st, Value.slice ot rt.length ct] 24)
  replace atb := (atb.alloc (Obj.cells #[Value.bool sq, Value.slice oq rq.length cq] 24)).alloc (Obj.cells #[Value.bool st, Value.slice ot rt.length ct] 24)
  replace atq := (atq.alloc (Obj.cells #[Value.bool sq, Value.slice oq rq.length cq] 24)).alloc (Obj.cells #[Value.bool st, Value.slice ot rt.length ct] 24)
  replace att := (att.alloc (Obj.cells #[Value.bool sq, Value.slice oq rq.length cq] 24)).alloc (Obj.cells #[Value.bool st, Value.slice ot rt.length ct] 24)
  replace pa := (pa.alloc (Obj.cells #[Value.bool sq, Value.slice oq rq.length cq] 24)).alloc (Obj.cells #[Value.bool st, Value.slice ot rt.length ct] 24)
  replace pb := (pb.alloc (Obj.cells #[Value.bool sq, Value.slice oq rq.length cq] 24)).alloc (Obj.cells #[Value.bool st, Value.slice ot rt.length ct] 24)
  replace tab := (tab.alloc (Obj.cells #[Value.bool sq, Value.slice oq rq.length cq] 24)).alloc (Obj.cells #[Value.bool st, Value.slice ot rt.length ct] 24)
  have pq := (Pair.new wd (.bool sq) (.slice oq rq.length cq) 24).alloc (Obj.cells #[Value.bool st, Value.slice ot rt.length ct] 24)
  have pt := Pair.newAt (wd.alloc (Obj.cells #[Value.bool sq, Value.slice oq rq.length cq] 24)) (wd.heap.size + 1) (by simp) (.bool st) (.slice ot rt.length ct) 24
  replace hbw := (hbw.alloc hbw.size (Obj.cells #[Value.bool sq, Value.slice oq rq.length cq] 24))
  replace hbw := hbw.alloc hbw.size (Obj.cells #[Value.bool st, Value.slice ot rt.length ct] 24)
  have b0 := pb.cell0
  have b1 := pb.cell1
  go_wp2_with fail
  refine (lawin nb ob lb cb xb _ (by omega) hxb atb zb vb).mono ?_
  rintro e wi ⟨sy, oy, cy, ry, hsy, rfl, hly, rsy, isy, hmy, hbel⟩
  have niy : Hid (NI32 sy ry zb) := NI32.mk hsy isy
  have aty := rsy.1
  clear hsy isy rsy b0 b1
  replace hbw := hbw.trans (hbel.mono hbw.size)
  replace ata := ata.below hbel
  replace atb := atb.below hbel
  replace atq := atq.below hbel
  replace att := att.below hbel
  replace pa := pa.below hbel pa.lt
  replace pb := pb.below hbel pb.lt
  replace pq := pq.below hbel pq.lt
  replace pt := pt.below hbel pt.lt
  replace tab := tab.below hbel
  clear hbel
  obtain rfl : ry = [] := by have h := niy.out.2; rw [h0.out] at h; exact num_zero (by omega) h.2.1 h.2.2
  replace ata := ata.alloc (Obj.cells #[Value.bool sy, Value.slice oy 0 cy] 28)
  replace atb := atb.alloc (Obj.cells #[Value.bool sy, Value.slice oy 0 cy] 28)
  replace atq := atq.alloc (Obj.cells #[Value.bool sy, Value.slice oy 0 cy] 28)
  replace att := att.alloc (Obj.cells #[Value.bool sy, Value.slice oy 0 cy] 28)
  replace aty := aty.alloc (Obj.cells #[Value.bool sy, Value.slice oy 0 cy] 28)
  replace pa := pa.alloc (Obj.cells #[Value.bool sy, Value.slice oy 0 cy] 28)
  replace pb := pb.alloc (Obj.cells #[Value.bool sy, Value.slice oy 0 cy] 28)
  replace pq := pq.alloc (Obj.cells #[Value.bool sy, Value.slice oy 0 cy] 28)
  replace pt := pt.alloc (Obj.cells #[Value.bool sy, Value.slice oy 0 cy] 28)
  replace tab := tab.alloc (Obj.cells #[Value.bool sy, Value.slice oy 0 cy] 28)
  have py := Pair.new wi (.bool sy) (.slice oy 0 cy) 28
  replace hbw := hbw.alloc hbw.size (Obj.cells #[Value.bool sy, Value.slice oy 0 cy] 28)
  go_wp2_with fail
  refine (wawake_true _ tab).mono ?_
  rintro e wk ⟨rfl, hbel⟩
  replace hbw := hbw.trans (hbel.mono hbw.size)
  replace ata := ata.below hbel
  replace atb := atb.below hbel
  replace atq := atq.below hbel
  replace att := att.below hbel
  replace aty := aty.below hbel
  replace pa := pa.below hbel pa.lt
  replace pb := pb.below hbel pb.lt
  replace pq := pq.below hbel pq.lt
  replace pt := pt.below hbel pt.lt
  replace py := py.below hbel py.lt
  clear hbel tab
  have y1 := py.cell1
  have q0 := pq.cell0
  have q1 := pq.cell1
  clear ata atb aty pa pb
  go_wp2_with fail
  refine (samez sq false oq none rq.length cq 0 0 rq [] _ (by omega) rfl rfl atq (At.nil _ _ _) 0 0 niq NI.nil rfl).mono ?_
  rintro e w7 ⟨rfl, hbel⟩
  replace hbw := hbw.trans (hbel.mono hbw.size)
  replace att := att.below hbel
  replace pt := pt.below hbel pt.lt
  clear hbel y1 q0 q1 py pq atq
  have t0 := pt.cell0
  have t1 := pt.cell1
  go_wp2_with fail
  refine (samez st false ot none rt.length ct 0 0 rt [] _ (by omega) rfl rfl att (At.nil _ _ _) 0 0 nit NI.nil rfl).mono ?_
  rintro e w8 ⟨rfl, hbel⟩
  replace hbw := hbw.trans (hbel.mono hbw.size)
  clear hbel t0 t1 pt att
  go_wp2
  go_ret
  exact ⟨rfl, hbw⟩

set_option maxRecDepth 100000 in
set_option maxHeartbeats 4000000 in
theorem wdivides_more (w : World) (tab : Tab w) (na : Bool) (oa : Option Addr) (la ca : Nat) (xa : List Nat) (hla : la ≤ ca) (hca : ca ≤ 1048576) (hxa : xa.length = la) (ata : At .u64 w oa xa) (za : Int) (va : Hid (NV na xa za)) (nb : Bool) (ob : Option Addr) (lb cb : Nat) (xb : List Nat) (hlb : lb ≤ cb) (hcb : cb ≤ 1048576) (hxb : xb.length = lb) (atb : At .u64 w ob xb) (zb : Int) (vb : Hid (NV nb xb zb)) (h0 : Hid (zb ≠ 0)) :
    Calls Tryd.prog 4 #[.agg #[.bool na, .slice oa la ca], .agg #[.bool nb, .slice ob lb cb]] w fun e w' => e = .returned (.bool true) ∧ Below w.heap.size w w' := by
  go_enter Tryd.func4, Tryd.ntmps4
  go_wp2_with fail
  have hbw : Below w.heap.size w ((w.alloc (Obj.cells #[Value.bool na, Value.slice oa la ca] 24)).alloc (Obj.cells #[Value.bool nb, Value.slice ob lb cb] 24)) := ((Below.refl _ _).alloc (Nat.le_refl _) _).alloc (by simp) _
  have pa := (Pair.new w (.bool na) (.slice oa la ca) 24).alloc (Obj.cells #[Value.bool nb, Value.slice ob lb cb] 24)
  have pb := Pair.newAt (w.alloc (Obj.cells #[Value.bool na, Value.slice oa la ca] 24)) (w.heap.size + 1) (by simp) (.bool nb) (.slice ob lb cb) 24
  replace ata := (ata.alloc (Obj.cells #[Value.bool na, Value.slice oa la ca] 24)).alloc (Obj.cells #[Value.bool nb, Value.slice ob lb cb] 24)
  replace atb := (atb.alloc (Obj.cells #[Value.bool na, Value.slice oa la ca] 24)).alloc (Obj.cells #[Value.bool nb, Value.slice ob lb cb] 24)
  replace tab := (tab.alloc (Obj.cells #[Value.bool na, Value.slice oa la ca] 24)).alloc (Obj.cells #[Value.bool nb, Value.slice ob lb cb] 24)
  generalize ((w.alloc (Obj.cells #[Value.bool na, Value.slice oa la ca] 24)).alloc (Obj.cells #[Value.bool nb, Value.slice ob lb cb] 24)) = w0 at *
  refine (divz na nb oa ob la ca lb cb xa xb _ hla hlb hxa hxb ata atb za zb va vb (by omega) (by omega) h0).mono ?_
  rintro e wd ⟨sq, xq, rq, st, xt, rt, hs1, hs2, rfl, hq, hr, iq, ir, hbel⟩
  obtain ⟨oq, cq, rfl, hlq, hmq, atq⟩ := hq.shape
  obtain ⟨ot, ct, rfl, hlt, hmt, att⟩ := hr.shape
  have niq : Hid (NI sq rq (za / zb)) := NI.mk hs1 iq
  have nit : Hid (NI st rt (za % zb)) := NI.mk hs2 ir
  clear hq hr hs1 hs2 iq ir
  replace hbw := hbw.trans (hbel.mono hbw.size)
  replace ata := ata.below hbel
  replace pa := pa.below hbel pa.lt
  replace atb := atb.below hbel
  replace pb := pb.below hbel pb.lt
  replace tab := tab.below hbel
  clear hbel
  replace ata := (ata.alloc (Obj.cells #[Value.bool sq, Value.slice oq rq.length cq] 24)).alloc (Obj.cells #[Value.bool st, Value.slice ot rt.length ct] 24)
  replace atb := (atb.alloc (Obj.cells #[Value.bool sq, Value.slice oq rq.length cq] 24)).alloc (Obj.cells #[Value.bool st, Value.slice ot rt.length ct] 24)
  replace atq := (atq.alloc (Obj.cells #[Value.bool sq, Value.slice oq rq.length cq] 24)).alloc (Obj.cells #[Value.bool st, Value.slice ot rt.length ct] 24)
  replace att := (att.alloc (Obj.cells #[Value.bool sq, Value.slice oq rq.length cq] 24)).alloc (Obj.cells #[Value.bool st, Value.slice ot rt.length ct] 24)
  replace pa := (pa.alloc (Obj.cells #[Value.bool sq, Value.slice oq rq.length cq] 24)).alloc (Obj.cells #[Value.bool st, Value.slice ot rt.length ct] 24)
  replace pb := (pb.alloc (Obj.cells #[Value.bool sq, Value.slice oq rq.length cq] 24)).alloc (Obj.cells #[Value.bool st, Value.slice ot rt.length ct] 24)
  replace tab := (tab.alloc (Obj.cells #[Value.bool sq, Value.slice oq rq.length cq] 24)).alloc (Obj.cells #[Value.bool st, Value.slice ot rt.length ct] 24)
  have pq := (Pair.new wd (.bool sq) (.slice oq rq.length cq) 24).alloc (Obj.cells #[Value.bool st, Value.slice ot rt.length ct] 24)
  have pt := Pair.newAt (wd.alloc (Obj.cells #[Value.bool sq, Value.slice oq rq.length cq] 24)) (wd.heap.size + 1) (by simp) (.bool st) (.slice ot rt.length ct) 24
  replace hbw := (hbw.alloc hbw.size (Obj.cells #[Value.bool sq, Value.slice oq rq.length cq] 24))
  replace hbw := hbw.alloc hbw.size (Obj.cells #[Value.bool st, Value.slice ot rt.length ct] 24)
  have b0 := pb.cell0
  have b1 := pb.cell1
  go_wp2_with fail
  refine (lawin nb ob lb cb xb _ (by omega) hxb atb zb vb).mono ?_
  rintro e wi ⟨sy, oy, cy, ry, hsy, rfl, hly, rsy, isy, hmy, hbel⟩
  have niy : Hid (NI32 sy ry zb) := NI32.mk hsy isy
  have aty := rsy.1
  clear hsy isy rsy b0 b1
  replace hbw := hbw.trans (hbel.mono hbw.size)
  replace ata := ata.below hbel
  replace atb := atb.below hbel
  replace atq := atq.below hbel
  replace att := att.below hbel
  replace pa := pa.below hbel pa.lt
  replace pb := pb.below hbel pb.lt
  replace pq := pq.below hbel pq.lt
  replace pt := pt.below hbel pt.lt
  replace tab := tab.below hbel
  clear hbel
  have hyl : ry.length ≠ 0 := by
    intro h
    have h1 := niy.out.2.2.2
    rw [List.length_eq_zero_iff.1 h] at h1
    have h2 : (0 : Nat) = zb.natAbs := h1
    exact h0.out (by omega)
  have hyl' : ((ry.length : Int) == 0) = false := by rw [beq_eq_false_iff_ne]; omega
  clear hyl
  replace ata := ata.alloc (Obj.cells #[Value.bool sy, Value.slice oy ry.length cy] 28)
  replace atb := atb.alloc (Obj.cells #[Value.bool sy, Value.slice oy ry.length cy] 28)
  replace atq := atq.alloc (Obj.cells #[Value.bool sy, Value.slice oy ry.length cy] 28)
  replace att := att.alloc (Obj.cells #[Value.bool sy, Value.slice oy ry.length cy] 28)
  replace aty := aty.alloc (Obj.cells #[Value.bool sy, Value.slice oy ry.length cy] 28)
  replace pa := pa.alloc (Obj.cells #[Value.bool sy, Value.slice oy ry.length cy] 28)
  replace pb := pb.alloc (Obj.cells #[Value.bool sy, Value.slice oy ry.length cy] 28)
  replace pq := pq.alloc (Obj.cells #[Value.bool sy, Value.slice oy ry.length cy] 28)
  replace pt := pt.alloc (Obj.cells #[Value.bool sy, Value.slice oy ry.length cy] 28)
  replace tab := tab.alloc (Obj.cells #[Value.bool sy, Value.slice oy ry.length cy] 28)
  have py := Pair.new wi (.bool sy) (.slice oy ry.length cy) 28
  replace hbw := hbw.alloc hbw.size (Obj.cells #[Value.bool sy, Value.slice oy ry.length cy] 28)
  go_wp2_with fail
  refine (wawake_true _ tab).mono ?_
  rintro e wk ⟨rfl, hbel⟩
  replace hbw := hbw.trans (hbel.mono hbw.size)
  replace ata := ata.below hbel
  replace atb := atb.below hbel
  replace atq := atq.below hbel
  replace att := att.below hbel
  replace aty := aty.below hbel
  replace pa := pa.below hbel pa.lt
  replace pb := pb.below hbel pb.lt
  replace pq := pq.below hbel pq.lt
  replace pt := pt.below hbel pt.lt
  replace py := py.below hbel py.lt
  clear hbel tab
  have y1 := py.cell1
  have y0 := py.cell0
  obtain ⟨Ht, eHt⟩ : ∃ H, H = wd.heap.size + 1 := ⟨_, rfl⟩
  obtain ⟨Hq, eHq⟩ : ∃ H, H = wd.heap.size := ⟨_, rfl⟩
  obtain ⟨Hy, eHy⟩ : ∃ H, H = wi.heap.size := ⟨_, rfl⟩
  obtain ⟨Hb, eHb⟩ : ∃ H, H = w.heap.size + 1 := ⟨_, rfl⟩
  obtain ⟨Ha, eHa⟩ : ∃ H, H = w.heap.size := ⟨_, rfl⟩
  go_wp2_with fail
  simp only [← eHt]
  simp only [← eHb]
  simp only [← eHq]
  simp only [← eHy]
  simp only [← eHa]
  rw [← eHt] at pt
  rw [← eHq] at pq
  rw [← eHy] at py y0 y1
  rw [← eHb] at pb
  rw [← eHa] at pa
  clear eHt eHq eHy eHb eHa
  go_cut [9, 10] (fun v9 v10 wx => CutR wk (za / zb) (za % zb) 30000000 v9 v10 wx)
  case first =>
    have a0 := pa.cell0
    have a1 := pa.cell1
    have IN : Hid (∀ W, Hid (Below wk.heap.size wk W) → Calls Tryd.prog 8 #[.agg #[.bool na, .slice oa la ca]] W fun e w' => ∃ s o c r, e = .returned (.agg #[.bool s, .slice o (List.length r) c]) ∧ Hid (XR W w' (4 * la + 1) za s o c r) ∧ Hid (Below wk.heap.size wk w') ∧ w'.cell? ⟨Ha, 0, none⟩ = some (.bool na) ∧ w'.cell? ⟨Ha, 1, none⟩ = some (.slice oa la ca) ∧ w'.cell? ⟨Hy, 0, none⟩ = some (.bool sy) ∧ w'.cell? ⟨Hy, 1, none⟩ = some (.slice oy ry.length cy)) := by
      intro W hW
      refine (lawin na oa la ca xa W (by omega) hxa (ata.below hW.out) za va).mono ?_
      intro e w' h
      obtain ⟨s, o, c, r, he, hwr⟩ := XR.of h
      have hb : Below wk.heap.size wk w' := hW.out.trans (hwr.out.bel.mono hW.out.size)
      have qa := pa.below hb pa.lt
      have qy := py.below hb py.lt
      exact ⟨s, o, c, r, he, hwr, hb, qa.cell0, qa.cell1, qy.cell0, qy.cell1⟩
    have PA := hide pa
    have PY := hide py
    have ATY := hide aty
    have b0 : Hid (Below wk.heap.size wk wk.drew) := bdrew wk
    have bwk : Hid (Below wk.heap.size wk wk) := Below.refl _ _
    have HL : Hid (Ha < wk.heap.size ∧ Hy < wk.heap.size) := ⟨pa.lt, py.lt⟩
    have nawk0 : Ha ≠ wk.heap.size := (by have := HL.out; have := bwk.out.size; omega)
    have mawk0 : wk.heap.size ≠ Ha := (by have := HL.out; have := bwk.out.size; omega)
    have nywk0 : Hy ≠ wk.heap.size := (by have := HL.out; have := bwk.out.size; omega)
    have mywk0 : wk.heap.size ≠ Hy := (by have := HL.out; have := bwk.out.size; omega)
    have nawk1 : Ha ≠ wk.heap.size + 1 := (by have := HL.out; have := bwk.out.size; omega)
    have mawk1 : wk.heap.size + 1 ≠ Ha := (by have := HL.out; have := bwk.out.size; omega)
    have nywk1 : Hy ≠ wk.heap.size + 1 := (by have := HL.out; have := bwk.out.size; omega)
    have mywk1 : wk.heap.size + 1 ≠ Hy := (by have := HL.out; have := bwk.out.size; omega)
    clear ata atb atq att aty pa pb pq pt py va vb hyl' hbw
    go_region_held3 (fun w' => w'.cell? ⟨Ha, 0, none⟩ = some (.bool na) ∧ w'.cell? ⟨Ha, 1, none⟩ = some (.slice oa la ca) ∧ w'.cell? ⟨Hy, 0, none⟩ = some (.bool sy) ∧ w'.cell? ⟨Hy, 1, none⟩ = some (.slice oy ry.length cy)) (go_keep) (first | (go_at_call 8; refine (IN.out wk.drew b0).mono ?_; rintro e v2 ⟨sx, ox, cx, rx, rfl, f1, bv2, k0, k1, k2, k3⟩; have hxl : rx.length ≤ 5000000 := (by have := f1.out.few; omega); have nav20 : Ha ≠ v2.heap.size := (by have := HL.out; have := bv2.out.size; omega); have mav20 : v2.heap.size ≠ Ha := (by have := HL.out; have := bv2.out.size; omega); have nyv20 : Hy ≠ v2.heap.size := (by have := HL.out; have := bv2.out.size; omega); have myv20 : v2.heap.size ≠ Hy := (by have := HL.out; have := bv2.out.size; omega); have nav21 : Ha ≠ v2.heap.size + 1 := (by have := HL.out; have := bv2.out.size; omega); have mav21 : v2.heap.size + 1 ≠ Ha := (by have := HL.out; have := bv2.out.size; omega); have nyv21 : Hy ≠ v2.heap.size + 1 := (by have := HL.out; have := bv2.out.size; omega); have myv21 : v2.heap.size + 1 ≠ Hy := (by have := HL.out; have := bv2.out.size; omega); have mk0 : True := trivial) | (go_at_call 8; refine (IN.out (wk.drew.alloc (Obj.cells #[Value.bool false, Value.slice none 0 0] 28)) (bal b0 (Obj.cells #[Value.bool false, Value.slice none 0 0] 28))).mono ?_; rintro e v2 ⟨sx, ox, cx, rx, rfl, f1, bv2, k0, k1, k2, k3⟩; have q00 := (Pair.newAt wk.drew (wk.heap.size) (by simp) (.bool false) (.slice none 0 0) 28); have q0 := q00.below f1.out.bel q00.lt; clear q00; have Q0 := hide q0; have q0va := q0.cell0; have q0vb := q0.cell1; have q0vc := q0.free 0; have q0vd := q0.free 1; have q0e : wk.heap.size < v2.heap.size := q0.lt; clear q0; have hxl : rx.length ≤ 5000000 := (by have := f1.out.few; omega); have nav20 : Ha ≠ v2.heap.size := (by have := HL.out; have := bv2.out.size; omega); have mav20 : v2.heap.size ≠ Ha := (by have := HL.out; have := bv2.out.size; omega); have nyv20 : Hy ≠ v2.heap.size := (by have := HL.out; have := bv2.out.size; omega); have myv20 : v2.heap.size ≠ Hy := (by have := HL.out; have := bv2.out.size; omega); have mk1 : True := trivial) | (go_at_call 8; refine (IN.out ((wk.drew.alloc (Obj.cells #[Value.bool false, Value.slice none 0 0] 28)).alloc (Obj.cells #[Value.bool false, Value.slice none 0 0] 28)) (bal (bal b0 (Obj.cells #[Value.bool false, Value.slice none 0 0] 28)) (Obj.cells #[Value.bool false, Value.slice none 0 0] 28))).mono ?_; rintro e v2 ⟨sx, ox, cx, rx, rfl, f1, bv2, k0, k1, k2, k3⟩; have q00 := ((Pair.newAt wk.drew (wk.heap.size) (by simp) (.bool false) (.slice none 0 0) 28).alloc (Obj.cells #[Value.bool false, Value.slice none 0 0] 28)); have q0 := q00.below f1.out.bel q00.lt; clear q00; have Q0 := hide q0; have q0va := q0.cell0; have q0vb := q0.cell1; have q0vc := q0.free 0; have q0vd := q0.free 1; have q0e : wk.heap.size < v2.heap.size := q0.lt; clear q0; have q10 := (Pair.newAt (wk.drew.alloc (Obj.cells #[Value.bool false, Value.slice none 0 0] 28)) (wk.heap.size + 1) (by simp) (.bool false) (.slice none 0 0) 28); have q1 := q10.below f1.out.bel q10.lt; clear q10; have Q1 := hide q1; have q1va := q1.cell0; have q1vb := q1.cell1; have q1vc := q1.free 0; have q1vd := q1.free 1; have q1e : wk.heap.size + 1 < v2.heap.size := q1.lt; clear q1; have hxl : rx.length ≤ 5000000 := (by have := f1.out.few; omega); have mk2 : True := trivial) | (clear mk0; go_at_call 23; have gb : Hid (Below v2.heap.size v2 v2) := (Below.refl _ _); have gw : Hid (Below wk.heap.size wk v2) := bv2; refine (rdivwz sx sy ox oy rx.length cx ry.length cy rx ry v2 hxl (by omega) hly rfl rfl (f1.out.res.1.below gb.out) (ATY.out.below gw.out) za zb f1.out.ni niy h0).mono ?_; rintro e v3 ⟨s1, o1, c1, r1, s2, o2, c2, r2, rfl, n1, n2, le1, le2, m1, m2, g3', g2', hbel⟩; have HBEL := hide hbel; clear hbel; have bv3 : Hid (Below wk.heap.size wk v3) := gw.out.trans (HBEL.out.mono gw.out.size); have qa := PA.out.below bv3.out PA.out.lt; have qy := PY.out.below bv3.out PY.out.lt; have l0 := qa.cell0; have l1 := qa.cell1; have l2 := qy.cell0; have l3 := qy.cell1; clear qa qy; have g3 : Hid (Res .u32 v3 o1 r1 (v2.heap.size + 0) v3.heap.size) := (by have h := g3'.out; simpa [Hid] using h); have g2 : Hid (Res .u32 v3 o2 r2 (v2.heap.size + 0) v3.heap.size) := (by have h := g2'.out; simpa [Hid] using h); have sz3 : Hid (v2.heap.size + 0 ≤ v3.heap.size) := (by have h := HBEL.out.size; simpa [Hid] using h); have sz1 : Hid (wk.heap.size + 0 ≤ v2.heap.size) := (by have h := f1.out.bel.size; simpa [Hid] using h); clear g3' g2' gb gw HBEL; have nav30 : Ha ≠ v3.heap.size := (by have := HL.out; have := bv3.out.size; omega); have mav30 : v3.heap.size ≠ Ha := (by have := HL.out; have := bv3.out.size; omega); have nyv30 : Hy ≠ v3.heap.size := (by have := HL.out; have := bv3.out.size; omega); have myv30 : v3.heap.size ≠ Hy := (by have := HL.out; have := bv3.out.size; omega); have nav31 : Ha ≠ v3.heap.size + 1 := (by have := HL.out; have := bv3.out.size; omega); have mav31 : v3.heap.size + 1 ≠ Ha := (by have := HL.out; have := bv3.out.size; omega); have nyv31 : Hy ≠ v3.heap.size + 1 := (by have := HL.out; have := bv3.out.size; omega); have myv31 : v3.heap.size + 1 ≠ Hy := (by have := HL.out; have := bv3.out.size; omega); have mk00 : True := trivial) | (clear mk0; go_at_call 23; have gb : Hid (Below v2.heap.size v2 (v2.alloc (Obj.cells #[Value.bool false, Value.slice none 0 0] 28))) := (bal (Below.refl _ _) (Obj.cells #[Value.bool false, Value.slice none 0 0] 28)); have gw : Hid (Below wk.heap.size wk (v2.alloc (Obj.cells #[Value.bool false, Value.slice none 0 0] 28))) := (bal bv2 (Obj.cells #[Value.bool false, Value.slice none 0 0] 28)); refine (rdivwz sx sy ox oy rx.length cx ry.length cy rx ry (v2.alloc (Obj.cells #[Value.bool false, Value.slice none 0 0] 28)) hxl (by omega) hly rfl rfl (f1.out.res.1.below gb.out) (ATY.out.below gw.out) za zb f1.out.ni niy h0).mono ?_; rintro e v3 ⟨s1, o1, c1, r1, s2, o2, c2, r2, rfl, n1, n2, le1, le2, m1, m2, g3', g2', hbel⟩; have HBEL := hide hbel; clear hbel; have bv3 : Hid (Below wk.heap.size wk v3) := gw.out.trans (HBEL.out.mono gw.out.size); have qa := PA.out.below bv3.out PA.out.lt; have qy := PY.out.below bv3.out PY.out.lt; have l0 := qa.cell0; have l1 := qa.cell1; have l2 := qy.cell0; have l3 := qy.cell1; clear qa qy; have p00 := (Pair.newAt v2 (v2.heap.size) (by simp) (.bool false) (.slice none 0 0) 28); have p0 := p00.below HBEL.out p00.lt; clear p00; have P0 := hide p0; have p0wa := p0.cell0; have p0wb := p0.cell1; have p0wc := p0.free 0; have p0wd := p0.free 1; have p0j : v2.heap.size < v3.heap.size := p0.lt; clear p0; have g3 : Hid (Res .u32 v3 o1 r1 (v2.heap.size + 1) v3.heap.size) := (by have h := g3'.out; simpa [Hid] using h); have g2 : Hid (Res .u32 v3 o2 r2 (v2.heap.size + 1) v3.heap.size) := (by have h := g2'.out; simpa [Hid] using h); have sz3 : Hid (v2.heap.size + 1 ≤ v3.heap.size) := (by have h := HBEL.out.size; simpa [Hid] using h); have sz1 : Hid (wk.heap.size + 0 ≤ v2.heap.size) := (by have h := f1.out.bel.size; simpa [Hid] using h); clear g3' g2' gb gw HBEL; have nav30 : Ha ≠ v3.heap.size := (by have := HL.out; have := bv3.out.size; omega); have mav30 : v3.heap.size ≠ Ha := (by have := HL.out; have := bv3.out.size; omega); have nyv30 : Hy ≠ v3.heap.size := (by have := HL.out; have := bv3.out.size; omega); have myv30 : v3.heap.size ≠ Hy := (by have := HL.out; have := bv3.out.size; omega); have mk01 : True := trivial) | (clear mk0; go_at_call 23; have gb : Hid (Below v2.heap.size v2 ((v2.alloc (Obj.cells #[Value.bool false, Value.slice none 0 0] 28)).alloc (Obj.cells #[Value.bool false, Value.slice none 0 0] 28))) := (bal (bal (Below.refl _ _) (Obj.cells #[Value.bool false, Value.slice none 0 0] 28)) (Obj.cells #[Value.bool false, Value.slice none 0 0] 28)); have gw : Hid (Below wk.heap.size wk ((v2.alloc (Obj.cells #[Value.bool false, Value.slice none 0 0] 28)).alloc (Obj.cells #[Value.bool false, Value.slice none 0 0] 28))) := (bal (bal bv2 (Obj.cells #[Value.bool false, Value.slice none 0 0] 28)) (Obj.cells #[Value.bool false, Value.slice none 0 0] 28)); refine (rdivwz sx sy ox oy rx.length cx ry.length cy rx ry ((v2.alloc (Obj.cells #[Value.bool false, Value.slice none 0 0] 28)).alloc (Obj.cells #[Value.bool false, Value.slice none 0 0] 28)) hxl (by omega) hly rfl rfl (f1.out.res.1.below gb.out) (ATY.out.below gw.out) za zb f1.out.ni niy h0).mono ?_; rintro e v3 ⟨s1, o1, c1, r1, s2, o2, c2, r2, rfl, n1, n2, le1, le2, m1, m2, g3', g2', hbel⟩; have HBEL := hide hbel; clear hbel; have bv3 : Hid (Below wk.heap.size wk v3) := gw.out.trans (HBEL.out.mono gw.out.size); have qa := PA.out.below bv3.out PA.out.lt; have qy := PY.out.below bv3.out PY.out.lt; have l0 := qa.cell0; have l1 := qa.cell1; have l2 := qy.cell0; have l3 := qy.cell1; clear qa qy; have p00 := ((Pair.newAt v2 (v2.heap.size) (by simp) (.bool false) (.slice none 0 0) 28).alloc (Obj.cells #[Value.bool false, Value.slice none 0 0] 28)); have p0 := p00.below HBEL.out p00.lt; clear p00; have P0 := hide p0; have p0wa := p0.cell0; have p0wb := p0.cell1; have p0wc := p0.free 0; have p0wd := p0.free 1; have p0j : v2.heap.size < v3.heap.size := p0.lt; clear p0; have p10 := (Pair.newAt (v2.alloc (Obj.cells #[Value.bool false, Value.slice none 0 0] 28)) (v2.heap.size + 1) (by simp) (.bool false) (.slice none 0 0) 28); have p1 := p10.below HBEL.out p10.lt; clear p10; have P1 := hide p1; have p1wa := p1.cell0; have p1wb := p1.cell1; have p1wc := p1.free 0; have p1wd := p1.free 1; have p1j : v2.heap.size + 1 < v3.heap.size := p1.lt; clear p1; have g3 : Hid (Res .u32 v3 o1 r1 (v2.heap.size + 2) v3.heap.size) := (by have h := g3'.out; simpa [Hid] using h); have g2 : Hid (Res .u32 v3 o2 r2 (v2.heap.size + 2) v3.heap.size) := (by have h := g2'.out; simpa [Hid] using h); have sz3 : Hid (v2.heap.size + 2 ≤ v3.heap.size) := (by have h := HBEL.out.size; simpa [Hid] using h); have sz1 : Hid (wk.heap.size + 0 ≤ v2.heap.size) := (by have h := f1.out.bel.size; simpa [Hid] using h); clear g3' g2' gb gw HBEL; have mk02 : True := trivial) | (clear mk1; go_at_call 23; have gb : Hid (Below v2.heap.size v2 v2) := (Below.refl _ _); have gw : Hid (Below wk.heap.size wk v2) := bv2; refine (rdivwz sx sy ox oy rx.length cx ry.length cy rx ry v2 hxl (by omega) hly rfl rfl (f1.out.res.1.below gb.out) (ATY.out.below gw.out) za zb f1.out.ni niy h0).mono ?_; rintro e v3 ⟨s1, o1, c1, r1, s2, o2, c2, r2, rfl, n1, n2, le1, le2, m1, m2, g3', g2', hbel⟩; have HBEL := hide hbel; clear hbel; have bv3 : Hid (Below wk.heap.size wk v3) := gw.out.trans (HBEL.out.mono gw.out.size); have qa := PA.out.below bv3.out PA.out.lt; have qy := PY.out.below bv3.out PY.out.lt; have l0 := qa.cell0; have l1 := qa.cell1; have l2 := qy.cell0; have l3 := qy.cell1; clear qa qy; have q00 := Q0.out; have q0 := q00.below HBEL.out q00.lt; clear q00; replace Q0 := hide q0; have q0wa := q0.cell0; have q0wb := q0.cell1; have q0wc := q0.free 0; have q0wd := q0.free 1; have q0j : wk.heap.size < v3.heap.size := q0.lt; clear q0; have g3 : Hid (Res .u32 v3 o1 r1 (v2.heap.size + 0) v3.heap.size) := (by have h := g3'.out; simpa [Hid] using h); have g2 : Hid (Res .u32 v3 o2 r2 (v2.heap.size + 0) v3.heap.size) := (by have h := g2'.out; simpa [Hid] using h); have sz3 : Hid (v2.heap.size + 0 ≤ v3.heap.size) := (by have h := HBEL.out.size; simpa [Hid] using h); have sz1 : Hid (wk.heap.size + 1 ≤ v2.heap.size) := (by have h := f1.out.bel.size; simpa [Hid] using h); clear g3' g2' gb gw HBEL; have nav30 : Ha ≠ v3.heap.size := (by have := HL.out; have := bv3.out.size; omega); have mav30 : v3.heap.size ≠ Ha := (by have := HL.out; have := bv3.out.size; omega); have nyv30 : Hy ≠ v3.heap.size := (by have := HL.out; have := bv3.out.size; omega); have myv30 : v3.heap.size ≠ Hy := (by have := HL.out; have := bv3.out.size; omega); have mk10 : True := trivial) | (clear mk1; go_at_call 23; have gb : Hid (Below v2.heap.size v2 (v2.alloc (Obj.cells #[Value.bool false, Value.slice none 0 0] 28))) := (bal (Below.refl _ _) (Obj.cells #[Value.bool false, Value.slice none 0 0] 28)); have gw : Hid (Below wk.heap.size wk (v2.alloc (Obj.cells #[Value.bool false, Value.slice none 0 0] 28))) := (bal bv2 (Obj.cells #[Value.bool false, Value.slice none 0 0] 28)); refine (rdivwz sx sy ox oy rx.length cx ry.length cy rx ry (v2.alloc (Obj.cells #[Value.bool false, Value.slice none 0 0] 28)) hxl (by omega) hly rfl rfl (f1.out.res.1.below gb.out) (ATY.out.below gw.out) za zb f1.out.ni niy h0).mono ?_; rintro e v3 ⟨s1, o1, c1, r1, s2, o2, c2, r2, rfl, n1, n2, le1, le2, m1, m2, g3', g2', hbel⟩; have HBEL := hide hbel; clear hbel; have bv3 : Hid (Below wk.heap.size wk v3) := gw.out.trans (HBEL.out.mono gw.out.size); have qa := PA.out.below bv3.out PA.out.lt; have qy := PY.out.below bv3.out PY.out.lt; have l0 := qa.cell0; have l1 := qa.cell1; have l2 := qy.cell0; have l3 := qy.cell1; clear qa qy; have q00 := (Q0.out.alloc (Obj.cells #[Value.bool false, Value.slice none 0 0] 28)); have q0 := q00.below HBEL.out q00.lt; clear q00; replace Q0 := hide q0; have q0wa := q0.cell0; have q0wb := q0.cell1; have q0wc := q0.free 0; have q0wd := q0.free 1; have q0j : wk.heap.size < v3.heap.size := q0.lt; clear q0; have p00 := (Pair.newAt v2 (v2.heap.size) (by simp) (.bool false) (.slice none 0 0) 28); have p0 := p00.below HBEL.out p00.lt; clear p00; have P0 := hide p0; have p0wa := p0.cell0; have p0wb := p0.cell1; have p0wc := p0.free 0; have p0wd := p0.free 1; have p0j : v2.heap.size < v3.heap.size := p0.lt; clear p0; have g3 : Hid (Res .u32 v3 o1 r1 (v2.heap.size + 1) v3.heap.size) := (by have h := g3'.out; simpa [Hid] using h); have g2 : Hid (Res .u32 v3 o2 r2 (v2.heap.size + 1) v3.heap.size) := (by have h := g2'.out; simpa [Hid] using h); have sz3 : Hid (v2.heap.size + 1 ≤ v3.heap.size) := (by have h := HBEL.out.size; simpa [Hid] using h); have sz1 : Hid (wk.heap.size + 1 ≤ v2.heap.size) := (by have h := f1.out.bel.size; simpa [Hid] using h); clear g3' g2' gb gw HBEL; have mk11 : True := trivial) | (clear mk2; go_at_call 23; have gb : Hid (Below v2.heap.size v2 v2) := (Below.refl _ _); have gw : Hid (Below wk.heap.size wk v2) := bv2; refine (rdivwz sx sy ox oy rx.length cx ry.length cy rx ry v2 hxl (by omega) hly rfl rfl (f1.out.res.1.below gb.out) (ATY.out.below gw.out) za zb f1.out.ni niy h0).mono ?_; rintro e v3 ⟨s1, o1, c1, r1, s2, o2, c2, r2, rfl, n1, n2, le1, le2, m1, m2, g3', g2', hbel⟩; have HBEL := hide hbel; clear hbel; have bv3 : Hid (Below wk.heap.size wk v3) := gw.out.trans (HBEL.out.mono gw.out.size); have qa := PA.out.below bv3.out PA.out.lt; have qy := PY.out.below bv3.out PY.out.lt; have l0 := qa.cell0; have l1 := qa.cell1; have l2 := qy.cell0; have l3 := qy.cell1; clear qa qy; have q00 := Q0.out; have q0 := q00.below HBEL.out q00.lt; clear q00; replace Q0 := hide q0; have q0wa := q0.cell0; have q0wb := q0.cell1; have q0wc := q0.free 0; have q0wd := q0.free 1; have q0j : wk.heap.size < v3.heap.size := q0.lt; clear q0; have q10 := Q1.out; have q1 := q10.below HBEL.out q10.lt; clear q10; replace Q1 := hide q1; have q1wa := q1.cell0; have q1wb := q1.cell1; have q1wc := q1.free 0; have q1wd := q1.free 1; have q1j : wk.heap.size + 1 < v3.heap.size := q1.lt; clear q1; have g3 : Hid (Res .u32 v3 o1 r1 (v2.heap.size + 0) v3.heap.size) := (by have h := g3'.out; simpa [Hid] using h); have g2 : Hid (Res .u32 v3 o2 r2 (v2.heap.size + 0) v3.heap.size) := (by have h := g2'.out; simpa [Hid] using h); have sz3 : Hid (v2.heap.size + 0 ≤ v3.heap.size) := (by have h := HBEL.out.size; simpa [Hid] using h); have sz1 : Hid (wk.heap.size + 2 ≤ v2.heap.size) := (by have h := f1.out.bel.size; simpa [Hid] using h); clear g3' g2' gb gw HBEL; have mk20 : True := trivial))
    all_goals (go_wp2_with fail; go_meet)
    · clear mk00
      exact ⟨⟨v3.heap.size, v3.heap.size + 1, s1, o1, c1, r1, s2, o2, c2, r2, rfl, rfl, both_nn bv3.out g3.out g2.out, n1.out, n2.out, le1, by omega, le2, by omega⟩⟩
    · clear mk00
      exact ⟨⟨v3.heap.size + 1, v3.heap.size, s1, o1, c1, r1, s2, o2, c2, r2, rfl, rfl, both_mm bv3.out g3.out g2.out, n1.out, n2.out, le1, by omega, le2, by omega⟩⟩
    · clear mk01
      exact ⟨⟨v2.heap.size, v3.heap.size, s1, o1, c1, r1, s2, o2, c2, r2, rfl, rfl, both_on bv3.out P0.out (by have := sz1.out; have := sz3.out; omega) g3.out g2.out (by have := sz1.out; have := sz3.out; omega) (by have := sz1.out; have := sz3.out; omega), n1.out, n2.out, le1, by omega, le2, by omega⟩⟩
    · clear mk02
      exact ⟨⟨v2.heap.size, v2.heap.size + 1, s1, o1, c1, r1, s2, o2, c2, r2, rfl, rfl, both bv3.out P0.out P1.out (by have := sz1.out; have := sz3.out; omega) (by have := sz1.out; have := sz3.out; omega) (by have := sz1.out; have := sz3.out; omega) g3.out g2.out ⟨(by have := sz1.out; have := sz3.out; omega), (by have := sz1.out; have := sz3.out; omega)⟩ ⟨(by have := sz1.out; have := sz3.out; omega), (by have := sz1.out; have := sz3.out; omega)⟩, n1.out, n2.out, le1, by omega, le2, by omega⟩⟩
    · clear mk01
      exact ⟨⟨v3.heap.size, v2.heap.size, s1, o1, c1, r1, s2, o2, c2, r2, rfl, rfl, both_no bv3.out P0.out (by have := sz1.out; have := sz3.out; omega) g3.out g2.out (by have := sz1.out; have := sz3.out; omega) (by have := sz1.out; have := sz3.out; omega), n1.out, n2.out, le1, by omega, le2, by omega⟩⟩
    · clear mk02
      exact ⟨⟨v2.heap.size + 1, v2.heap.size, s1, o1, c1, r1, s2, o2, c2, r2, rfl, rfl, both bv3.out P1.out P0.out (by have := sz1.out; have := sz3.out; omega) (by have := sz1.out; have := sz3.out; omega) (by have := sz1.out; have := sz3.out; omega) g3.out g2.out ⟨(by have := sz1.out; have := sz3.out; omega), (by have := sz1.out; have := sz3.out; omega)⟩ ⟨(by have := sz1.out; have := sz3.out; omega), (by have := sz1.out; have := sz3.out; omega)⟩, n1.out, n2.out, le1, by omega, le2, by omega⟩⟩
    · clear mk10
      exact ⟨⟨wk.heap.size, v3.heap.size, s1, o1, c1, r1, s2, o2, c2, r2, rfl, rfl, both_on bv3.out Q0.out (by have := sz1.out; have := sz3.out; omega) g3.out g2.out (by have := sz1.out; have := sz3.out; omega) (by have := sz1.out; have := sz3.out; omega), n1.out, n2.out, le1, by omega, le2, by omega⟩⟩
    · clear mk11
      exact ⟨⟨wk.heap.size, v2.heap.size, s1, o1, c1, r1, s2, o2, c2, r2, rfl, rfl, both bv3.out Q0.out P0.out (by have := sz1.out; have := sz3.out; omega) (by have := sz1.out; have := sz3.out; omega) (by have := sz1.out; have := sz3.out; omega) g3.out g2.out ⟨(by have := sz1.out; have := sz3.out; omega), (by have := sz1.out; have := sz3.out; omega)⟩ ⟨(by have := sz1.out; have := sz3.out; omega), (by have := sz1.out; have := sz3.out; omega)⟩, n1.out, n2.out, le1, by omega, le2, by omega⟩⟩
    · clear mk20
      exact ⟨⟨wk.heap.size, wk.heap.size + 1, s1, o1, c1, r1, s2, o2, c2, r2, rfl, rfl, both bv3.out Q0.out Q1.out (by have := sz1.out; have := sz3.out; omega) (by have := sz1.out; have := sz3.out; omega) (by have := sz1.out; have := sz3.out; omega) g3.out g2.out ⟨(by have := sz1.out; have := sz3.out; omega), (by have := sz1.out; have := sz3.out; omega)⟩ ⟨(by have := sz1.out; have := sz3.out; omega), (by have := sz1.out; have := sz3.out; omega)⟩, n1.out, n2.out, le1, by omega, le2, by omega⟩⟩
    · clear mk10
      exact ⟨⟨v3.heap.size, wk.heap.size, s1, o1, c1, r1, s2, o2, c2, r2, rfl, rfl, both_no bv3.out Q0.out (by have := sz1.out; have := sz3.out; omega) g3.out g2.out (by have := sz1.out; have := sz3.out; omega) (by have := sz1.out; have := sz3.out; omega), n1.out, n2.out, le1, by omega, le2, by omega⟩⟩
    · clear mk11
      exact ⟨⟨v2.heap.size, wk.heap.size, s1, o1, c1, r1, s2, o2, c2, r2, rfl, rfl, both bv3.out P0.out Q0.out (by have := sz1.out; have := sz3.out; omega) (by have := sz1.out; have := sz3.out; omega) (by have := sz1.out; have := sz3.out; omega) g3.out g2.out ⟨(by have := sz1.out; have := sz3.out; omega), (by have := sz1.out; have := sz3.out; omega)⟩ ⟨(by have := sz1.out; have := sz3.out; omega), (by have := sz1.out; have := sz3.out; omega)⟩, n1.out, n2.out, le1, by omega, le2, by omega⟩⟩
    · clear mk20
      exact ⟨⟨wk.heap.size + 1, wk.heap.size, s1, o1, c1, r1, s2, o2, c2, r2, rfl, rfl, both bv3.out Q1.out Q0.out (by have := sz1.out; have := sz3.out; omega) (by have := sz1.out; have := sz3.out; omega) (by have := sz1.out; have := sz3.out; omega) g3.out g2.out ⟨(by have := sz1.out; have := sz3.out; omega), (by have := sz1.out; have := sz3.out; omega)⟩ ⟨(by have := sz1.out; have := sz3.out; omega), (by have := sz1.out; have := sz3.out; omega)⟩, n1.out, n2.out, le1, by omega, le2, by omega⟩⟩
  case rest =>
    obtain ⟨⟨Hu, Hv, su, ou, cu, ru, sv, ov, cv, rv, rfl, rfl, hboth, niu, niv, hlu, hmu, hlv, hmv⟩⟩ := hcut
    replace atq := atq.below hboth.bel
    replace att := att.below hboth.bel
    replace pq := pq.below hboth.bel pq.lt
    replace pt := pt.below hboth.bel pt.lt
    replace hbw := hbw.trans (hboth.bel.mono hbw.size)
    have pu := hboth.p1
    have pv := hboth.p2
    have atu := hboth.at1
    have atv := hboth.at2
    have NU := hide niu
    have NVV := hide niv
    clear hboth niu niv ata atb aty pa pb py y0 y1
    have q0 := pq.cell0
    have q1 := pq.cell1
    have u0 := pu.cell0
    have u1 := pu.cell1
    go_wp2_with fail
    refine (isz sq su oq ou rq.length cq ru.length cu rq ru _ (by omega) hlu rfl rfl atq atu _ _ niq NU rfl).mono ?_
    rintro e w8 ⟨rfl, hbel⟩
    replace hbw := hbw.trans (hbel.mono hbw.size)
    replace att := att.below hbel
    replace atv := atv.below hbel
    replace pt := pt.below hbel pt.lt
    replace pv := pv.below hbel pv.lt
    clear hbel q0 q1 u0 u1 pq pu atq atu
    have t0 := pt.cell0
    have t1 := pt.cell1
    have v0 := pv.cell0
    have v1 := pv.cell1
    go_wp2_with fail
    refine (isz st sv ot ov rt.length ct rv.length cv rt rv _ (by omega) hlv rfl rfl att atv _ _ nit NVV rfl).mono ?_
    rintro e w9 ⟨rfl, hbel⟩
    replace hbw := hbw.trans (hbel.mono hbw.size)
    clear hbel t0 t1 v0 v1 pt pv att atv
    go_wp2
    go_ret
    exact ⟨rfl, hbw⟩

theorem wdivides_walk (w : World) (tab : Tab w) (na : Bool) (oa : Option Addr) (la ca : Nat) (xa : List Nat) (hla : la ≤ ca) (hca : ca ≤ 1048576) (hxa : xa.length = la) (ata : At .u64 w oa xa) (oka : Ok B64 xa) (nb : Bool) (ob : Option Addr) (lb cb : Nat) (xb : List Nat) (hlb : lb ≤ cb) (hcb : cb ≤ 1048576) (hxb : xb.length = lb) (atb : At .u64 w ob xb) (okb : Ok B64 xb) :
    Calls Tryd.prog 4 #[.agg #[.bool na, .slice oa la ca], .agg #[.bool nb, .slice ob lb cb]] w fun e w' => e = .returned (.bool true) ∧ Below w.heap.size w w' := by
  by_cases h : zv nb (num B64 xb) = 0
  · exact wdivides_zero w tab na oa la ca xa hla hca hxa ata _ ⟨oka, rfl⟩ nb ob lb cb xb hlb hcb hxb atb _ ⟨okb, rfl⟩ h
  · exact wdivides_more w tab na oa la ca xa hla hca hxa ata _ ⟨oka, rfl⟩ nb ob lb cb xb hlb hcb hxb atb _ ⟨okb, rfl⟩ h

end Go.Proofs.YtfcdjhjdiadbfaaDoor
