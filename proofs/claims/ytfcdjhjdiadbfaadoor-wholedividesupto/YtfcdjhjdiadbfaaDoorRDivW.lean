/-
  What the reference's DivMod of whole numbers does.
-/
import Derived.Test.YtfcdjhjdiadbfaaDoorRStruct
import Derived.Test.YtfcdjhjdiadbfaaDoorRDiv3
import Derived.Test.YtfcdjhjdiadbfaaDoorZWhole
namespace Go.Proofs.YtfcdjhjdiadbfaaDoor
open Go.RowKit

/-- Quotient and rest, each in its one form, in new memory. -/
def RDWPost (w : World) (m : Nat) (zq zr : Int) (e : Ending) (w' : World) : Prop :=
  ∃ s1 o1 c1 r1 s2 o2 c2 r2, e = .returned (.tuple #[.agg #[.bool s1, .slice o1 (List.length r1) c1], .agg #[.bool s2, .slice o2 (List.length r2) c2]]) ∧ Hid (NI32 s1 r1 zq) ∧ Hid (NI32 s2 r2 zr) ∧ List.length r1 ≤ c1 ∧ List.length r2 ≤ c2 ∧
    r1.length ≤ m ∧ r2.length ≤ m ∧ Hid (Res .u32 w' o1 r1 w.heap.size w'.heap.size) ∧ Hid (Res .u32 w' o2 r2 w.heap.size w'.heap.size) ∧ Below w.heap.size w w'

theorem results_pairsR {fn : Func} {a b : Tmp} (h : fn.results = #[.cell a 28, .cell b 28]) (tmps : Array Value) (H K : Nat) (x y x' y' : Value) (w : World)
    (ht : tmps.getD a undef = .pointer (some ⟨H, 0, none⟩)) (hu : tmps.getD b undef = .pointer (some ⟨K, 0, none⟩)) (hp : Pair w H x y 28) (hq : Pair w K x' y' 28) :
    (results fn tmps).run Tryd.prog w = .ok (.tuple #[.agg #[x, y], .agg #[x', y']]) w := by
  have c0 := hp.cell0
  have c1 := hp.cell1
  have d0 := hq.cell0
  have d1 := hq.cell1
  rw [Array.getD_eq_getD_getElem?] at ht hu
  simp [results, h, ht, hu, go_sem, c0, c1, d0, d1]

theorem RDWPost.ret {w W : World} {m H K c1 c2 l1 h1 l2 h2 : Nat} {zq zr : Int} {s1 s2 : Bool} {o1 o2 : Option Addr} {x y x' y' : Value} {r1 r2 : List Nat} (n1 : NI32 s1 r1 zq) (n2 : NI32 s2 r2 zr) (e1 : r1.length ≤ c1) (e2 : r2.length ≤ c2) (m1 : r1.length ≤ m) (m2 : r2.length ≤ m)
    (f1 : Res .u32 W o1 r1 l1 h1) (f2 : Res .u32 W o2 r2 l2 h2) (a1 : H < l1 ∧ K < l1) (a2 : H < l2 ∧ K < l2) (g1 : w.heap.size ≤ H) (g2 : w.heap.size ≤ K) (t1 : h1 ≤ W.heap.size) (t2 : h2 ≤ W.heap.size) (hb : Below w.heap.size w W) :
    RDWPost w m zq zr (.returned (.tuple #[.agg #[.bool s1, .slice o1 r1.length c1], .agg #[.bool s2, .slice o2 r2.length c2]])) ((((W.setCell ⟨H, 0, none⟩ x).setCell ⟨H, 1, none⟩ y).setCell ⟨K, 0, none⟩ x').setCell ⟨K, 1, none⟩ y') := by
  refine ⟨s1, o1, c1, r1, s2, o2, c2, r2, rfl, n1, n2, e1, e2, m1, m2, ?_, ?_, (((hb.setCell g1 _).setCell g1 _).setCell g2 _).setCell g2 _⟩
  · exact ((((f1.set (.inl a1.1) _).set (.inl a1.1) _).set (.inl a1.2) _).set (.inl a1.2) _).mono (by omega) (by simpa [World.setCell] using t1)
  · exact ((((f2.set (.inl a2.1) _).set (.inl a2.1) _).set (.inl a2.2) _).set (.inl a2.2) _).mono (by omega) (by simpa [World.setCell] using t2)


set_option maxRecDepth 100000 in
set_option maxHeartbeats 2000000 in
theorem rdivw_ffn (oa ob : Option Addr) (la ca lb cb B : Nat) (xa xb : List Nat) (w : World) (hla : la ≤ 5000000) (hlb : lb ≤ 5000000) (hlbc : lb ≤ cb) (hxa : xa.length = la) (hxb : xb.length = lb) (ata : At .u32 w oa xa) (atb : At .u32 w ob xb) (oka : Ok 65536 xa) (isb : Hid (Is 65536 xb B)) (h0 : Hid (0 < B)) :
    Calls Tryd.prog 23 #[.agg #[.bool false, .slice oa la ca], .agg #[.bool false, .slice ob lb cb]] w (RDWPost w (la + lb + 3) (zv false (num 65536 xa) / zv false B) (zv false (num 65536 xa) % zv false B)) := by
  go_enter Tryd.func23, Tryd.ntmps23
  go_wp2_with fail
  have hb0 : Below w.heap.size w ((((w.alloc (Obj.cells #[Value.bool false, Value.slice oa la ca] 28)).alloc (Obj.cells #[Value.bool false, Value.slice ob lb cb] 28)).alloc (Obj.cells #[Value.bool false, Value.slice none 0 0] 28)).alloc (Obj.cells #[Value.bool false, Value.slice none 0 0] 28)) := ((((Below.refl _ _).alloc (Nat.le_refl _) _).alloc (by simp) _).alloc (by simp; omega) _).alloc (by simp; omega) _
  have pa := (((Pair.new w (.bool false) (.slice oa la ca) 28).alloc (Obj.cells #[Value.bool false, Value.slice ob lb cb] 28)).alloc (Obj.cells #[Value.bool false, Value.slice none 0 0] 28)).alloc (Obj.cells #[Value.bool false, Value.slice none 0 0] 28)
  have pb := ((Pair.newAt (w.alloc (Obj.cells #[Value.bool false, Value.slice oa la ca] 28)) (w.heap.size + 1) (by simp) (.bool false) (.slice ob lb cb) 28).alloc (Obj.cells #[Value.bool false, Value.slice none 0 0] 28)).alloc (Obj.cells #[Value.bool false, Value.slice none 0 0] 28)
  have p4 := (Pair.newAt ((w.alloc (Obj.cells #[Value.bool false, Value.slice oa la ca] 28)).alloc (Obj.cells #[Value.bool false, Value.slice ob lb cb] 28)) (w.heap.size + 1 + 1) (by simp) (.bool false) (.slice none 0 0) 28).alloc (Obj.cells #[Value.bool false, Value.slice none 0 0] 28)
  have p5 := Pair.newAt (((w.alloc (Obj.cells #[Value.bool false, Value.slice oa la ca] 28)).alloc (Obj.cells #[Value.bool false, Value.slice ob lb cb] 28)).alloc (Obj.cells #[Value.bool false, Value.slice none 0 0] 28)) (w.heap.size + 1 + 1 + 1) (by simp) (.bool false) (.slice none 0 0) 28
  have ax := (((ata.alloc (Obj.cells #[Value.bool false, Value.slice oa la ca] 28)).alloc (Obj.cells #[Value.bool false, Value.slice ob lb cb] 28)).alloc (Obj.cells #[Value.bool false, Value.slice none 0 0] 28)).alloc (Obj.cells #[Value.bool false, Value.slice none 0 0] 28)
  have ay := (((atb.alloc (Obj.cells #[Value.bool false, Value.slice oa la ca] 28)).alloc (Obj.cells #[Value.bool false, Value.slice ob lb cb] 28)).alloc (Obj.cells #[Value.bool false, Value.slice none 0 0] 28)).alloc (Obj.cells #[Value.bool false, Value.slice none 0 0] 28)
  clear ata atb
  generalize ((((w.alloc (Obj.cells #[Value.bool false, Value.slice oa la ca] 28)).alloc (Obj.cells #[Value.bool false, Value.slice ob lb cb] 28)).alloc (Obj.cells #[Value.bool false, Value.slice none 0 0] 28)).alloc (Obj.cells #[Value.bool false, Value.slice none 0 0] 28)) = w0 at *
  have hl4 := p4.lt
  have hl5 := p5.lt
  refine (rdivmod_any oa ob la ca lb cb xa xb _ (by omega) (by omega) hlbc hxa hxb ax ay oka isb.out.1 isb.out.2.1 (by rw [isb.out.2.2]; exact h0.out)).mono ?_
  rintro e w1 ⟨oq, cq, q, ot, ct, t, rfl, hlq, hlt, atq, att, isq, ist, hmq, hmt, hb1⟩
  rw [isb.out.2.2] at isq ist
  replace pa := pa.below hb1 pa.lt
  replace pb := pb.below hb1 pb.lt
  replace p4 := p4.below hb1 p4.lt
  replace p5 := p5.below hb1 p5.lt
  have ay1 := ay.below hb1
  have hbw := hb0.trans (hb1.mono hb0.size)
  have hz1 := hb1.size
  clear ax ay hb1 hb0
  have a0 := pa.cell0; have b0 := pb.cell0; have b1 := pb.cell1
  have e1 := wdiv_plain (na := false) (nb := false) (x := num 65536 xa) (y := B) (by have := h0.out; omega) (.inl rfl)
  have E1 := hide e1
  clear e1 ay1
  go_wp2_with fail
  refine (rmake false oq q.length cq q _ (by omega) rfl atq isq.1).mono ?_
  rintro e w2 ⟨s1, o1, c1, r1, hs1, rfl, hl1, rs1, is1, hm1, hbel⟩
  rw [isq.2.2] at hs1 is1
  replace pa := pa.below hbel pa.lt
  replace pb := pb.below hbel pb.lt
  replace p4 := p4.below hbel p4.lt
  replace p5 := p5.below hbel p5.lt
  replace a0 := pa.cell0
  replace b0 := pb.cell0
  replace b1 := pb.cell1
  have hz2 := hbel.size
  replace hbw := hbw.trans (hbel.mono hbw.size)
  have atR := att.below hbel
  have RS1 := hide rs1
  clear hbel rs1
  go_wp2_with fail
  refine (rmake false ot t.length ct t _ (by omega) rfl atR ist.1).mono ?_
  rintro e w3 ⟨s2, o2, c2, r2, hs2, rfl, hl2, rs2, is2, hm2, hbel⟩
  rw [ist.2.2] at hs2 is2
  replace pa := pa.below hbel pa.lt
  replace pb := pb.below hbel pb.lt
  replace p4 := p4.below hbel p4.lt
  replace p5 := p5.below hbel p5.lt
  replace a0 := pa.cell0
  replace b0 := pb.cell0
  replace b1 := pb.cell1
  have hz3 := hbel.size
  replace hbw := hbw.trans (hbel.mono hbw.size)
  have F1 := hide (RS1.out.below hbel)
  have F2 := hide rs2
  clear hbel rs2 RS1 atR a0 b0 b1 pa pb
  have N1 : Hid (NI32 s1 r1 (zv false (num 65536 xa) / zv false B)) := by show NI32 _ _ _; rw [E1.out.1]; exact NI32.mk hs1 is1
  have N2 : Hid (NI32 s2 r2 (zv false (num 65536 xa) % zv false B)) := by show NI32 _ _ _; rw [E1.out.2]; exact NI32.mk hs2 is2
  have c40 := p4.cell0; have c41 := p4.cell1; have f40 := p4.free 0; have f41 := p4.free 1
  have c50 := p5.cell0; have c51 := p5.cell1; have f50 := p5.free 0; have f51 := p5.free 1
  clear hs1 is1 hs2 is2 isq ist
  go_wp2
  refine bodyPost_ret (results_pairsR rfl _ _ _ _ _ _ _ _ rfl rfl ((p4.put _ _).other (by simp) _ |>.other (by simp) _) ((p5.other (by simp) _ |>.other (by simp) _).put _ _)) rfl ?_
  exact RDWPost.ret (H := w.heap.size + 1 + 1) (K := w.heap.size + 1 + 1 + 1) N1.out N2.out hl1 hl2 (by omega) (by omega) F1.out F2.out ⟨by omega, by omega⟩ ⟨by omega, by omega⟩ (by omega) (by omega) (by omega) (Nat.le_refl _) hbw


set_option maxRecDepth 100000 in
set_option maxHeartbeats 2000000 in
theorem rdivw_ftn (oa ob : Option Addr) (la ca lb cb B : Nat) (xa xb : List Nat) (w : World) (hla : la ≤ 5000000) (hlb : lb ≤ 5000000) (hlbc : lb ≤ cb) (hxa : xa.length = la) (hxb : xb.length = lb) (ata : At .u32 w oa xa) (atb : At .u32 w ob xb) (oka : Ok 65536 xa) (isb : Hid (Is 65536 xb B)) (h0 : Hid (0 < B)) :
    Calls Tryd.prog 23 #[.agg #[.bool false, .slice oa la ca], .agg #[.bool true, .slice ob lb cb]] w (RDWPost w (la + lb + 3) (zv false (num 65536 xa) / zv true B) (zv false (num 65536 xa) % zv true B)) := by
  go_enter Tryd.func23, Tryd.ntmps23
  go_wp2_with fail
  have hb0 : Below w.heap.size w ((((w.alloc (Obj.cells #[Value.bool false, Value.slice oa la ca] 28)).alloc (Obj.cells #[Value.bool true, Value.slice ob lb cb] 28)).alloc (Obj.cells #[Value.bool false, Value.slice none 0 0] 28)).alloc (Obj.cells #[Value.bool false, Value.slice none 0 0] 28)) := ((((Below.refl _ _).alloc (Nat.le_refl _) _).alloc (by simp) _).alloc (by simp; omega) _).alloc (by simp; omega) _
  have pa := (((Pair.new w (.bool false) (.slice oa la ca) 28).alloc (Obj.cells #[Value.bool true, Value.slice ob lb cb] 28)).alloc (Obj.cells #[Value.bool false, Value.slice none 0 0] 28)).alloc (Obj.cells #[Value.bool false, Value.slice none 0 0] 28)
  have pb := ((Pair.newAt (w.alloc (Obj.cells #[Value.bool false, Value.slice oa la ca] 28)) (w.heap.size + 1) (by simp) (.bool true) (.slice ob lb cb) 28).alloc (Obj.cells #[Value.bool false, Value.slice none 0 0] 28)).alloc (Obj.cells #[Value.bool false, Value.slice none 0 0] 28)
  have p4 := (Pair.newAt ((w.alloc (Obj.cells #[Value.bool false, Value.slice oa la ca] 28)).alloc (Obj.cells #[Value.bool true, Value.slice ob lb cb] 28)) (w.heap.size + 1 + 1) (by simp) (.bool false) (.slice none 0 0) 28).alloc (Obj.cells #[Value.bool false, Value.slice none 0 0] 28)
  have p5 := Pair.newAt (((w.alloc (Obj.cells #[Value.bool false, Value.slice oa la ca] 28)).alloc (Obj.cells #[Value.bool true, Value.slice ob lb cb] 28)).alloc (Obj.cells #[Value.bool false, Value.slice none 0 0] 28)) (w.heap.size + 1 + 1 + 1) (by simp) (.bool false) (.slice none 0 0) 28
  have ax := (((ata.alloc (Obj.cells #[Value.bool false, Value.slice oa la ca] 28)).alloc (Obj.cells #[Value.bool true, Value.slice ob lb cb] 28)).alloc (Obj.cells #[Value.bool false, Value.slice none 0 0] 28)).alloc (Obj.cells #[Value.bool false, Value.slice none 0 0] 28)
  have ay := (((atb.alloc (Obj.cells #[Value.bool false, Value.slice oa la ca] 28)).alloc (Obj.cells #[Value.bool true, Value.slice ob lb cb] 28)).alloc (Obj.cells #[Value.bool false, Value.slice none 0 0] 28)).alloc (Obj.cells #[Value.bool false, Value.slice none 0 0] 28)
  clear ata atb
  generalize ((((w.alloc (Obj.cells #[Value.bool false, Value.slice oa la ca] 28)).alloc (Obj.cells #[Value.bool true, Value.slice ob lb cb] 28)).alloc (Obj.cells #[Value.bool false, Value.slice none 0 0] 28)).alloc (Obj.cells #[Value.bool false, Value.slice none 0 0] 28)) = w0 at *
  have hl4 := p4.lt
  have hl5 := p5.lt
  refine (rdivmod_any oa ob la ca lb cb xa xb _ (by omega) (by omega) hlbc hxa hxb ax ay oka isb.out.1 isb.out.2.1 (by rw [isb.out.2.2]; exact h0.out)).mono ?_
  rintro e w1 ⟨oq, cq, q, ot, ct, t, rfl, hlq, hlt, atq, att, isq, ist, hmq, hmt, hb1⟩
  rw [isb.out.2.2] at isq ist
  replace pa := pa.below hb1 pa.lt
  replace pb := pb.below hb1 pb.lt
  replace p4 := p4.below hb1 p4.lt
  replace p5 := p5.below hb1 p5.lt
  have ay1 := ay.below hb1
  have hbw := hb0.trans (hb1.mono hb0.size)
  have hz1 := hb1.size
  clear ax ay hb1 hb0
  have a0 := pa.cell0; have b0 := pb.cell0; have b1 := pb.cell1
  have e1 := wdiv_plain (na := false) (nb := true) (x := num 65536 xa) (y := B) (by have := h0.out; omega) (.inl rfl)
  have E1 := hide e1
  clear e1 ay1
  go_wp2_with fail
  refine (rmake true oq q.length cq q _ (by omega) rfl atq isq.1).mono ?_
  rintro e w2 ⟨s1, o1, c1, r1, hs1, rfl, hl1, rs1, is1, hm1, hbel⟩
  rw [isq.2.2] at hs1 is1
  replace pa := pa.below hbel pa.lt
  replace pb := pb.below hbel pb.lt
  replace p4 := p4.below hbel p4.lt
  replace p5 := p5.below hbel p5.lt
  replace a0 := pa.cell0
  replace b0 := pb.cell0
  replace b1 := pb.cell1
  have hz2 := hbel.size
  replace hbw := hbw.trans (hbel.mono hbw.size)
  have atR := att.below hbel
  have RS1 := hide rs1
  clear hbel rs1
  go_wp2_with fail
  refine (rmake false ot t.length ct t _ (by omega) rfl atR ist.1).mono ?_
  rintro e w3 ⟨s2, o2, c2, r2, hs2, rfl, hl2, rs2, is2, hm2, hbel⟩
  rw [ist.2.2] at hs2 is2
  replace pa := pa.below hbel pa.lt
  replace pb := pb.below hbel pb.lt
  replace p4 := p4.below hbel p4.lt
  replace p5 := p5.below hbel p5.lt
  replace a0 := pa.cell0
  replace b0 := pb.cell0
  replace b1 := pb.cell1
  have hz3 := hbel.size
  replace hbw := hbw.trans (hbel.mono hbw.size)
  have F1 := hide (RS1.out.below hbel)
  have F2 := hide rs2
  clear hbel rs2 RS1 atR a0 b0 b1 pa pb
  have N1 : Hid (NI32 s1 r1 (zv false (num 65536 xa) / zv true B)) := by show NI32 _ _ _; rw [E1.out.1]; exact NI32.mk hs1 is1
  have N2 : Hid (NI32 s2 r2 (zv false (num 65536 xa) % zv true B)) := by show NI32 _ _ _; rw [E1.out.2]; exact NI32.mk hs2 is2
  have c40 := p4.cell0; have c41 := p4.cell1; have f40 := p4.free 0; have f41 := p4.free 1
  have c50 := p5.cell0; have c51 := p5.cell1; have f50 := p5.free 0; have f51 := p5.free 1
  clear hs1 is1 hs2 is2 isq ist
  go_wp2
  refine bodyPost_ret (results_pairsR rfl _ _ _ _ _ _ _ _ rfl rfl ((p4.put _ _).other (by simp) _ |>.other (by simp) _) ((p5.other (by simp) _ |>.other (by simp) _).put _ _)) rfl ?_
  exact RDWPost.ret (H := w.heap.size + 1 + 1) (K := w.heap.size + 1 + 1 + 1) N1.out N2.out hl1 hl2 (by omega) (by omega) F1.out F2.out ⟨by omega, by omega⟩ ⟨by omega, by omega⟩ (by omega) (by omega) (by omega) (Nat.le_refl _) hbw


set_option maxRecDepth 100000 in
set_option maxHeartbeats 2000000 in
theorem rdivw_tfn (oa ob : Option Addr) (la ca lb cb B : Nat) (xa xb : List Nat) (w : World) (hla : la ≤ 5000000) (hlb : lb ≤ 5000000) (hlbc : lb ≤ cb) (hxa : xa.length = la) (hxb : xb.length = lb) (ata : At .u32 w oa xa) (atb : At .u32 w ob xb) (oka : Ok 65536 xa) (isb : Hid (Is 65536 xb B)) (h0 : Hid (0 < B)) (hr : Hid (num 65536 xa % B = 0)) :
    Calls Tryd.prog 23 #[.agg #[.bool true, .slice oa la ca], .agg #[.bool false, .slice ob lb cb]] w (RDWPost w (la + lb + 3) (zv true (num 65536 xa) / zv false B) (zv true (num 65536 xa) % zv false B)) := by
  go_enter Tryd.func23, Tryd.ntmps23
  go_wp2_with fail
  have hb0 : Below w.heap.size w ((((w.alloc (Obj.cells #[Value.bool true, Value.slice oa la ca] 28)).alloc (Obj.cells #[Value.bool false, Value.slice ob lb cb] 28)).alloc (Obj.cells #[Value.bool false, Value.slice none 0 0] 28)).alloc (Obj.cells #[Value.bool false, Value.slice none 0 0] 28)) := ((((Below.refl _ _).alloc (Nat.le_refl _) _).alloc (by simp) _).alloc (by simp; omega) _).alloc (by simp; omega) _
  have pa := (((Pair.new w (.bool true) (.slice oa la ca) 28).alloc (Obj.cells #[Value.bool false, Value.slice ob lb cb] 28)).alloc (Obj.cells #[Value.bool false, Value.slice none 0 0] 28)).alloc (Obj.cells #[Value.bool false, Value.slice none 0 0] 28)
  have pb := ((Pair.newAt (w.alloc (Obj.cells #[Value.bool true, Value.slice oa la ca] 28)) (w.heap.size + 1) (by simp) (.bool false) (.slice ob lb cb) 28).alloc (Obj.cells #[Value.bool false, Value.slice none 0 0] 28)).alloc (Obj.cells #[Value.bool false, Value.slice none 0 0] 28)
  have p4 := (Pair.newAt ((w.alloc (Obj.cells #[Value.bool true, Value.slice oa la ca] 28)).alloc (Obj.cells #[Value.bool false, Value.slice ob lb cb] 28)) (w.heap.size + 1 + 1) (by simp) (.bool false) (.slice none 0 0) 28).alloc (Obj.cells #[Value.bool false, Value.slice none 0 0] 28)
  have p5 := Pair.newAt (((w.alloc (Obj.cells #[Value.bool true, Value.slice oa la ca] 28)).alloc (Obj.cells #[Value.bool false, Value.slice ob lb cb] 28)).alloc (Obj.cells #[Value.bool false, Value.slice none 0 0] 28)) (w.heap.size + 1 + 1 + 1) (by simp) (.bool false) (.slice none 0 0) 28
  have ax := (((ata.alloc (Obj.cells #[Value.bool true, Value.slice oa la ca] 28)).alloc (Obj.cells #[Value.bool false, Value.slice ob lb cb] 28)).alloc (Obj.cells #[Value.bool false, Value.slice none 0 0] 28)).alloc (Obj.cells #[Value.bool false, Value.slice none 0 0] 28)
  have ay := (((atb.alloc (Obj.cells #[Value.bool true, Value.slice oa la ca] 28)).alloc (Obj.cells #[Value.bool false, Value.slice ob lb cb] 28)).alloc (Obj.cells #[Value.bool false, Value.slice none 0 0] 28)).alloc (Obj.cells #[Value.bool false, Value.slice none 0 0] 28)
  clear ata atb
  generalize ((((w.alloc (Obj.cells #[Value.bool true, Value.slice oa la ca] 28)).alloc (Obj.cells #[Value.bool false, Value.slice ob lb cb] 28)).alloc (Obj.cells #[Value.bool false, Value.slice none 0 0] 28)).alloc (Obj.cells #[Value.bool false, Value.slice none 0 0] 28)) = w0 at *
  have hl4 := p4.lt
  have hl5 := p5.lt
  refine (rdivmod_any oa ob la ca lb cb xa xb _ (by omega) (by omega) hlbc hxa hxb ax ay oka isb.out.1 isb.out.2.1 (by rw [isb.out.2.2]; exact h0.out)).mono ?_
  rintro e w1 ⟨oq, cq, q, ot, ct, t, rfl, hlq, hlt, atq, att, isq, ist, hmq, hmt, hb1⟩
  rw [isb.out.2.2] at isq ist
  replace pa := pa.below hb1 pa.lt
  replace pb := pb.below hb1 pb.lt
  replace p4 := p4.below hb1 p4.lt
  replace p5 := p5.below hb1 p5.lt
  have ay1 := ay.below hb1
  have hbw := hb0.trans (hb1.mono hb0.size)
  have hz1 := hb1.size
  clear ax ay hb1 hb0
  have a0 := pa.cell0; have b0 := pb.cell0; have b1 := pb.cell1
  have e1 := wdiv_plain (na := true) (nb := false) (x := num 65536 xa) (y := B) (by have := h0.out; omega) (.inr hr.out)
  have ht0 : t.length = 0 := by rw [hr.out] at ist; rw [num_zero (by omega) ist.2.1 ist.2.2]; rfl
  have E1 := hide e1
  clear e1 ay1
  go_wp2_with fail
  refine (rmake true oq q.length cq q _ (by omega) rfl atq isq.1).mono ?_
  rintro e w2 ⟨s1, o1, c1, r1, hs1, rfl, hl1, rs1, is1, hm1, hbel⟩
  rw [isq.2.2] at hs1 is1
  replace pa := pa.below hbel pa.lt
  replace pb := pb.below hbel pb.lt
  replace p4 := p4.below hbel p4.lt
  replace p5 := p5.below hbel p5.lt
  replace a0 := pa.cell0
  replace b0 := pb.cell0
  replace b1 := pb.cell1
  have hz2 := hbel.size
  replace hbw := hbw.trans (hbel.mono hbw.size)
  have atR := att.below hbel
  have RS1 := hide rs1
  clear hbel rs1
  go_wp2_with fail
  refine (rmake false ot 0 ct t _ (by omega) ht0 atR ist.1).mono ?_
  rintro e w3 ⟨s2, o2, c2, r2, hs2, rfl, hl2, rs2, is2, hm2, hbel⟩
  rw [ist.2.2] at hs2 is2
  replace pa := pa.below hbel pa.lt
  replace pb := pb.below hbel pb.lt
  replace p4 := p4.below hbel p4.lt
  replace p5 := p5.below hbel p5.lt
  replace a0 := pa.cell0
  replace b0 := pb.cell0
  replace b1 := pb.cell1
  have hz3 := hbel.size
  replace hbw := hbw.trans (hbel.mono hbw.size)
  have F1 := hide (RS1.out.below hbel)
  have F2 := hide rs2
  clear hbel rs2 RS1 atR a0 b0 b1 pa pb
  have N1 : Hid (NI32 s1 r1 (zv true (num 65536 xa) / zv false B)) := by show NI32 _ _ _; rw [E1.out.1]; exact NI32.mk hs1 is1
  have N2 : Hid (NI32 s2 r2 (zv true (num 65536 xa) % zv false B)) := by show NI32 _ _ _; rw [E1.out.2]; exact NI32.mk hs2 is2
  have c40 := p4.cell0; have c41 := p4.cell1; have f40 := p4.free 0; have f41 := p4.free 1
  have c50 := p5.cell0; have c51 := p5.cell1; have f50 := p5.free 0; have f51 := p5.free 1
  clear hs1 is1 hs2 is2 isq ist
  go_wp2
  refine bodyPost_ret (results_pairsR rfl _ _ _ _ _ _ _ _ rfl rfl ((p4.put _ _).other (by simp) _ |>.other (by simp) _) ((p5.other (by simp) _ |>.other (by simp) _).put _ _)) rfl ?_
  exact RDWPost.ret (H := w.heap.size + 1 + 1) (K := w.heap.size + 1 + 1 + 1) N1.out N2.out hl1 hl2 (by omega) (by omega) F1.out F2.out ⟨by omega, by omega⟩ ⟨by omega, by omega⟩ (by omega) (by omega) (by omega) (Nat.le_refl _) hbw


set_option maxRecDepth 100000 in
set_option maxHeartbeats 2000000 in
theorem rdivw_tfs (oa ob : Option Addr) (la ca lb cb B : Nat) (xa xb : List Nat) (w : World) (hla : la ≤ 5000000) (hlb : lb ≤ 5000000) (hlbc : lb ≤ cb) (hxa : xa.length = la) (hxb : xb.length = lb) (ata : At .u32 w oa xa) (atb : At .u32 w ob xb) (oka : Ok 65536 xa) (isb : Hid (Is 65536 xb B)) (h0 : Hid (0 < B)) (hr : Hid (num 65536 xa % B ≠ 0)) :
    Calls Tryd.prog 23 #[.agg #[.bool true, .slice oa la ca], .agg #[.bool false, .slice ob lb cb]] w (RDWPost w (la + lb + 3) (zv true (num 65536 xa) / zv false B) (zv true (num 65536 xa) % zv false B)) := by
  go_enter Tryd.func23, Tryd.ntmps23
  go_wp2_with fail
  have hb0 : Below w.heap.size w ((((w.alloc (Obj.cells #[Value.bool true, Value.slice oa la ca] 28)).alloc (Obj.cells #[Value.bool false, Value.slice ob lb cb] 28)).alloc (Obj.cells #[Value.bool false, Value.slice none 0 0] 28)).alloc (Obj.cells #[Value.bool false, Value.slice none 0 0] 28)) := ((((Below.refl _ _).alloc (Nat.le_refl _) _).alloc (by simp) _).alloc (by simp; omega) _).alloc (by simp; omega) _
  have pa := (((Pair.new w (.bool true) (.slice oa la ca) 28).alloc (Obj.cells #[Value.bool false, Value.slice ob lb cb] 28)).alloc (Obj.cells #[Value.bool false, Value.slice none 0 0] 28)).alloc (Obj.cells #[Value.bool false, Value.slice none 0 0] 28)
  have pb := ((Pair.newAt (w.alloc (Obj.cells #[Value.bool true, Value.slice oa la ca] 28)) (w.heap.size + 1) (by simp) (.bool false) (.slice ob lb cb) 28).alloc (Obj.cells #[Value.bool false, Value.slice none 0 0] 28)).alloc (Obj.cells #[Value.bool false, Value.slice none 0 0] 28)
  have p4 := (Pair.newAt ((w.alloc (Obj.cells #[Value.bool true, Value.slice oa la ca] 28)).alloc (Obj.cells #[Value.bool false, Value.slice ob lb cb] 28)) (w.heap.size + 1 + 1) (by simp) (.bool false) (.slice none 0 0) 28).alloc (Obj.cells #[Value.bool false, Value.slice none 0 0] 28)
  have p5 := Pair.newAt (((w.alloc (Obj.cells #[Value.bool true, Value.slice oa la ca] 28)).alloc (Obj.cells #[Value.bool false, Value.slice ob lb cb] 28)).alloc (Obj.cells #[Value.bool false, Value.slice none 0 0] 28)) (w.heap.size + 1 + 1 + 1) (by simp) (.bool false) (.slice none 0 0) 28
  have ax := (((ata.alloc (Obj.cells #[Value.bool true, Value.slice oa la ca] 28)).alloc (Obj.cells #[Value.bool false, Value.slice ob lb cb] 28)).alloc (Obj.cells #[Value.bool false, Value.slice none 0 0] 28)).alloc (Obj.cells #[Value.bool false, Value.slice none 0 0] 28)
  have ay := (((atb.alloc (Obj.cells #[Value.bool true, Value.slice oa la ca] 28)).alloc (Obj.cells #[Value.bool false, Value.slice ob lb cb] 28)).alloc (Obj.cells #[Value.bool false, Value.slice none 0 0] 28)).alloc (Obj.cells #[Value.bool false, Value.slice none 0 0] 28)
  clear ata atb
  generalize ((((w.alloc (Obj.cells #[Value.bool true, Value.slice oa la ca] 28)).alloc (Obj.cells #[Value.bool false, Value.slice ob lb cb] 28)).alloc (Obj.cells #[Value.bool false, Value.slice none 0 0] 28)).alloc (Obj.cells #[Value.bool false, Value.slice none 0 0] 28)) = w0 at *
  have hl4 := p4.lt
  have hl5 := p5.lt
  refine (rdivmod_any oa ob la ca lb cb xa xb _ (by omega) (by omega) hlbc hxa hxb ax ay oka isb.out.1 isb.out.2.1 (by rw [isb.out.2.2]; exact h0.out)).mono ?_
  rintro e w1 ⟨oq, cq, q, ot, ct, t, rfl, hlq, hlt, atq, att, isq, ist, hmq, hmt, hb1⟩
  rw [isb.out.2.2] at isq ist
  replace pa := pa.below hb1 pa.lt
  replace pb := pb.below hb1 pb.lt
  replace p4 := p4.below hb1 p4.lt
  replace p5 := p5.below hb1 p5.lt
  have ay1 := ay.below hb1
  have hbw := hb0.trans (hb1.mono hb0.size)
  have hz1 := hb1.size
  clear ax ay hb1 hb0
  have a0 := pa.cell0; have b0 := pb.cell0; have b1 := pb.cell1
  have e1 := wdiv_left (nb := false) (x := num 65536 xa) (y := B) (by have := h0.out; omega) hr.out
  have htl : 0 < t.length := by
    rcases Nat.eq_zero_or_pos t.length with h | h
    · rw [List.length_eq_zero_iff.1 h] at ist; exact absurd ist.2.2.symm hr.out
    · exact h
  have htl' : (0 : Int) < (t.length : Int) := by omega
  have htb : t.length ≤ lb := hmt
  have E1 := hide e1
  have HLE : Hid (num 65536 xa % B ≤ B) := Nat.le_of_lt (Nat.mod_lt _ h0.out)
  clear e1
  go_wp2_with fail
  replace pa := pa.alloc (Obj.cells #[Value.int IntKind.u32 1] 73)
  replace pb := pb.alloc (Obj.cells #[Value.int IntKind.u32 1] 73)
  replace p4 := p4.alloc (Obj.cells #[Value.int IntKind.u32 1] 73)
  replace p5 := p5.alloc (Obj.cells #[Value.int IntKind.u32 1] 73)
  have aq := atq.alloc (Obj.cells #[Value.int IntKind.u32 1] 73)
  have at' := att.alloc (Obj.cells #[Value.int IntKind.u32 1] 73)
  have ay2 := ay1.alloc (Obj.cells #[Value.int IntKind.u32 1] 73)
  replace hbw := hbw.alloc hbw.size (Obj.cells #[Value.int IntKind.u32 1] 73)
  clear atq att ay1
  have hza : (w1.alloc (Obj.cells #[Value.int IntKind.u32 1] 73)).heap.size = w1.heap.size + 1 := by simp
  refine (radd_any oq (some ⟨w1.heap.size, 0, none⟩) q.length cq 1 1 q [1] _ (by omega) (by omega) rfl rfl aq (lit32 w1) isq.1 ok1).mono ?_
  rintro e w2 ⟨o5, c5, y5, rfl, hl5', at5, is5, hm5, hbel⟩
  rw [isq.2.2, show num 65536 [1] = 1 from rfl] at is5
  replace pa := pa.below hbel pa.lt
  replace pb := pb.below hbel pb.lt
  replace p4 := p4.below hbel p4.lt
  replace p5 := p5.below hbel p5.lt
  replace a0 := pa.cell0
  replace b0 := pb.cell0
  replace b1 := pb.cell1
  have hz2 := hbel.size
  replace hbw := hbw.trans (hbel.mono hbw.size)
  have att := at'.below hbel
  have ay3 := ay2.below hbel
  clear hbel aq at' ay2
  go_wp2_with fail
  refine (rsub_any ob ot lb cb t.length ct xb t _ (by omega) htb hxb rfl ay3 att isb.out.1 ist.1 (by rw [isb.out.2.2, ist.2.2]; exact HLE.out)).mono ?_
  rintro e w3 ⟨o6, c6, y6, rfl, hl6, at6, is6, hm6, hbel⟩
  rw [isb.out.2.2, ist.2.2] at is6
  replace pa := pa.below hbel pa.lt
  replace pb := pb.below hbel pb.lt
  replace p4 := p4.below hbel p4.lt
  replace p5 := p5.below hbel p5.lt
  replace a0 := pa.cell0
  replace b0 := pb.cell0
  replace b1 := pb.cell1
  have hz3 := hbel.size
  replace hbw := hbw.trans (hbel.mono hbw.size)
  have at5' := at5.below hbel
  clear hbel at5 att ay3
  go_wp2_with fail
  refine (rmake true o5 y5.length c5 y5 _ (by omega) rfl at5' is5.1).mono ?_
  rintro e w4 ⟨s1, o1, c1, r1, hs1, rfl, hl1, rs1, is1, hm1, hbel⟩
  rw [is5.2.2] at hs1 is1
  replace pa := pa.below hbel pa.lt
  replace pb := pb.below hbel pb.lt
  replace p4 := p4.below hbel p4.lt
  replace p5 := p5.below hbel p5.lt
  replace a0 := pa.cell0
  replace b0 := pb.cell0
  replace b1 := pb.cell1
  have hz4 := hbel.size
  replace hbw := hbw.trans (hbel.mono hbw.size)
  have atR := at6.below hbel
  have RS1 := hide rs1
  clear hbel rs1
  go_wp2_with fail
  refine (rmake false o6 y6.length c6 y6 _ (by omega) rfl atR is6.1).mono ?_
  rintro e w5 ⟨s2, o2, c2, r2, hs2, rfl, hl2, rs2, is2, hm2, hbel⟩
  rw [is6.2.2] at hs2 is2
  replace pa := pa.below hbel pa.lt
  replace pb := pb.below hbel pb.lt
  replace p4 := p4.below hbel p4.lt
  replace p5 := p5.below hbel p5.lt
  replace a0 := pa.cell0
  replace b0 := pb.cell0
  replace b1 := pb.cell1
  have hz5 := hbel.size
  replace hbw := hbw.trans (hbel.mono hbw.size)
  have F1 := hide (RS1.out.below hbel)
  have F2 := hide rs2
  clear hbel rs2 RS1 atR a0 b0 b1 pa pb
  have N1 : Hid (NI32 s1 r1 (zv true (num 65536 xa) / zv false B)) := by show NI32 _ _ _; rw [E1.out.1]; exact NI32.mk hs1 is1
  have N2 : Hid (NI32 s2 r2 (zv true (num 65536 xa) % zv false B)) := by show NI32 _ _ _; rw [E1.out.2]; exact NI32.mk hs2 is2
  have c40 := p4.cell0; have c41 := p4.cell1; have f40 := p4.free 0; have f41 := p4.free 1
  have c50 := p5.cell0; have c51 := p5.cell1; have f50 := p5.free 0; have f51 := p5.free 1
  clear hs1 is1 hs2 is2 isq ist
  go_wp2
  refine bodyPost_ret (results_pairsR rfl _ _ _ _ _ _ _ _ rfl rfl ((p4.put _ _).other (by simp) _ |>.other (by simp) _) ((p5.other (by simp) _ |>.other (by simp) _).put _ _)) rfl ?_
  exact RDWPost.ret (H := w.heap.size + 1 + 1) (K := w.heap.size + 1 + 1 + 1) N1.out N2.out hl1 hl2 (by omega) (by omega) F1.out F2.out ⟨by omega, by omega⟩ ⟨by omega, by omega⟩ (by omega) (by omega) (by omega) (Nat.le_refl _) hbw


set_option maxRecDepth 100000 in
set_option maxHeartbeats 2000000 in
theorem rdivw_ttn (oa ob : Option Addr) (la ca lb cb B : Nat) (xa xb : List Nat) (w : World) (hla : la ≤ 5000000) (hlb : lb ≤ 5000000) (hlbc : lb ≤ cb) (hxa : xa.length = la) (hxb : xb.length = lb) (ata : At .u32 w oa xa) (atb : At .u32 w ob xb) (oka : Ok 65536 xa) (isb : Hid (Is 65536 xb B)) (h0 : Hid (0 < B)) (hr : Hid (num 65536 xa % B = 0)) :
    Calls Tryd.prog 23 #[.agg #[.bool true, .slice oa la ca], .agg #[.bool true, .slice ob lb cb]] w (RDWPost w (la + lb + 3) (zv true (num 65536 xa) / zv true B) (zv true (num 65536 xa) % zv true B)) := by
  go_enter Tryd.func23, Tryd.ntmps23
  go_wp2_with fail
  have hb0 : Below w.heap.size w ((((w.alloc (Obj.cells #[Value.bool true, Value.slice oa la ca] 28)).alloc (Obj.cells #[Value.bool true, Value.slice ob lb cb] 28)).alloc (Obj.cells #[Value.bool false, Value.slice none 0 0] 28)).alloc (Obj.cells #[Value.bool false, Value.slice none 0 0] 28)) := ((((Below.refl _ _).alloc (Nat.le_refl _) _).alloc (by simp) _).alloc (by simp; omega) _).alloc (by simp; omega) _
  have pa := (((Pair.new w (.bool true) (.slice oa la ca) 28).alloc (Obj.cells #[Value.bool true, Value.slice ob lb cb] 28)).alloc (Obj.cells #[Value.bool false, Value.slice none 0 0] 28)).alloc (Obj.cells #[Value.bool false, Value.slice none 0 0] 28)
  have pb := ((Pair.newAt (w.alloc (Obj.cells #[Value.bool true, Value.slice oa la ca] 28)) (w.heap.size + 1) (by simp) (.bool true) (.slice ob lb cb) 28).alloc (Obj.cells #[Value.bool false, Value.slice none 0 0] 28)).alloc (Obj.cells #[Value.bool false, Value.slice none 0 0] 28)
  have p4 := (Pair.newAt ((w.alloc (Obj.cells #[Value.bool true, Value.slice oa la ca] 28)).alloc (Obj.cells #[Value.bool true, Value.slice ob lb cb] 28)) (w.heap.size + 1 + 1) (by simp) (.bool false) (.slice none 0 0) 28).alloc (Obj.cells #[Value.bool false, Value.slice none 0 0] 28)
  have p5 := Pair.newAt (((w.alloc (Obj.cells #[Value.bool true, Value.slice oa la ca] 28)).alloc (Obj.cells #[Value.bool true, Value.slice ob lb cb] 28)).alloc (Obj.cells #[Value.bool false, Value.slice none 0 0] 28)) (w.heap.size + 1 + 1 + 1) (by simp) (.bool false) (.slice none 0 0) 28
  have ax := (((ata.alloc (Obj.cells #[Value.bool true, Value.slice oa la ca] 28)).alloc (Obj.cells #[Value.bool true, Value.slice ob lb cb] 28)).alloc (Obj.cells #[Value.bool false, Value.slice none 0 0] 28)).alloc (Obj.cells #[Value.bool false, Value.slice none 0 0] 28)
  have ay := (((atb.alloc (Obj.cells #[Value.bool true, Value.slice oa la ca] 28)).alloc (Obj.cells #[Value.bool true, Value.slice ob lb cb] 28)).alloc (Obj.cells #[Value.bool false, Value.slice none 0 0] 28)).alloc (Obj.cells #[Value.bool false, Value.slice none 0 0] 28)
  clear ata atb
  generalize ((((w.alloc (Obj.cells #[Value.bool true, Value.slice oa la ca] 28)).alloc (Obj.cells #[Value.bool true, Value.slice ob lb cb] 28)).alloc (Obj.cells #[Value.bool false, Value.slice none 0 0] 28)).alloc (Obj.cells #[Value.bool false, Value.slice none 0 0] 28)) = w0 at *
  have hl4 := p4.lt
  have hl5 := p5.lt
  refine (rdivmod_any oa ob la ca lb cb xa xb _ (by omega) (by omega) hlbc hxa hxb ax ay oka isb.out.1 isb.out.2.1 (by rw [isb.out.2.2]; exact h0.out)).mono ?_
  rintro e w1 ⟨oq, cq, q, ot, ct, t, rfl, hlq, hlt, atq, att, isq, ist, hmq, hmt, hb1⟩
  rw [isb.out.2.2] at isq ist
  replace pa := pa.below hb1 pa.lt
  replace pb := pb.below hb1 pb.lt
  replace p4 := p4.below hb1 p4.lt
  replace p5 := p5.below hb1 p5.lt
  have ay1 := ay.below hb1
  have hbw := hb0.trans (hb1.mono hb0.size)
  have hz1 := hb1.size
  clear ax ay hb1 hb0
  have a0 := pa.cell0; have b0 := pb.cell0; have b1 := pb.cell1
  have e1 := wdiv_plain (na := true) (nb := true) (x := num 65536 xa) (y := B) (by have := h0.out; omega) (.inr hr.out)
  have ht0 : t.length = 0 := by rw [hr.out] at ist; rw [num_zero (by omega) ist.2.1 ist.2.2]; rfl
  have E1 := hide e1
  clear e1 ay1
  go_wp2_with fail
  refine (rmake false oq q.length cq q _ (by omega) rfl atq isq.1).mono ?_
  rintro e w2 ⟨s1, o1, c1, r1, hs1, rfl, hl1, rs1, is1, hm1, hbel⟩
  rw [isq.2.2] at hs1 is1
  replace pa := pa.below hbel pa.lt
  replace pb := pb.below hbel pb.lt
  replace p4 := p4.below hbel p4.lt
  replace p5 := p5.below hbel p5.lt
  replace a0 := pa.cell0
  replace b0 := pb.cell0
  replace b1 := pb.cell1
  have hz2 := hbel.size
  replace hbw := hbw.trans (hbel.mono hbw.size)
  have atR := att.below hbel
  have RS1 := hide rs1
  clear hbel rs1
  go_wp2_with fail
  refine (rmake false ot 0 ct t _ (by omega) ht0 atR ist.1).mono ?_
  rintro e w3 ⟨s2, o2, c2, r2, hs2, rfl, hl2, rs2, is2, hm2, hbel⟩
  rw [ist.2.2] at hs2 is2
  replace pa := pa.below hbel pa.lt
  replace pb := pb.below hbel pb.lt
  replace p4 := p4.below hbel p4.lt
  replace p5 := p5.below hbel p5.lt
  replace a0 := pa.cell0
  replace b0 := pb.cell0
  replace b1 := pb.cell1
  have hz3 := hbel.size
  replace hbw := hbw.trans (hbel.mono hbw.size)
  have F1 := hide (RS1.out.below hbel)
  have F2 := hide rs2
  clear hbel rs2 RS1 atR a0 b0 b1 pa pb
  have N1 : Hid (NI32 s1 r1 (zv true (num 65536 xa) / zv true B)) := by show NI32 _ _ _; rw [E1.out.1]; exact NI32.mk hs1 is1
  have N2 : Hid (NI32 s2 r2 (zv true (num 65536 xa) % zv true B)) := by show NI32 _ _ _; rw [E1.out.2]; exact NI32.mk hs2 is2
  have c40 := p4.cell0; have c41 := p4.cell1; have f40 := p4.free 0; have f41 := p4.free 1
  have c50 := p5.cell0; have c51 := p5.cell1; have f50 := p5.free 0; have f51 := p5.free 1
  clear hs1 is1 hs2 is2 isq ist
  go_wp2
  refine bodyPost_ret (results_pairsR rfl _ _ _ _ _ _ _ _ rfl rfl ((p4.put _ _).other (by simp) _ |>.other (by simp) _) ((p5.other (by simp) _ |>.other (by simp) _).put _ _)) rfl ?_
  exact RDWPost.ret (H := w.heap.size + 1 + 1) (K := w.heap.size + 1 + 1 + 1) N1.out N2.out hl1 hl2 (by omega) (by omega) F1.out F2.out ⟨by omega, by omega⟩ ⟨by omega, by omega⟩ (by omega) (by omega) (by omega) (Nat.le_refl _) hbw


set_option maxRecDepth 100000 in
set_option maxHeartbeats 2000000 in
theorem rdivw_tts (oa ob : Option Addr) (la ca lb cb B : Nat) (xa xb : List Nat) (w : World) (hla : la ≤ 5000000) (hlb : lb ≤ 5000000) (hlbc : lb ≤ cb) (hxa : xa.length = la) (hxb : xb.length = lb) (ata : At .u32 w oa xa) (atb : At .u32 w ob xb) (oka : Ok 65536 xa) (isb : Hid (Is 65536 xb B)) (h0 : Hid (0 < B)) (hr : Hid (num 65536 xa % B ≠ 0)) :
    Calls Tryd.prog 23 #[.agg #[.bool true, .slice oa la ca], .agg #[.bool true, .slice ob lb cb]] w (RDWPost w (la + lb + 3) (zv true (num 65536 xa) / zv true B) (zv true (num 65536 xa) % zv true B)) := by
  go_enter Tryd.func23, Tryd.ntmps23
  go_wp2_with fail
  have hb0 : Below w.heap.size w ((((w.alloc (Obj.cells #[Value.bool true, Value.slice oa la ca] 28)).alloc (Obj.cells #[Value.bool true, Value.slice ob lb cb] 28)).alloc (Obj.cells #[Value.bool false, Value.slice none 0 0] 28)).alloc (Obj.cells #[Value.bool false, Value.slice none 0 0] 28)) := ((((Below.refl _ _).alloc (Nat.le_refl _) _).alloc (by simp) _).alloc (by simp; omega) _).alloc (by simp; omega) _
  have pa := (((Pair.new w (.bool true) (.slice oa la ca) 28).alloc (Obj.cells #[Value.bool true, Value.slice ob lb cb] 28)).alloc (Obj.cells #[Value.bool false, Value.slice none 0 0] 28)).alloc (Obj.cells #[Value.bool false, Value.slice none 0 0] 28)
  have pb := ((Pair.newAt (w.alloc (Obj.cells #[Value.bool true, Value.slice oa la ca] 28)) (w.heap.size + 1) (by simp) (.bool true) (.slice ob lb cb) 28).alloc (Obj.cells #[Value.bool false, Value.slice none 0 0] 28)).alloc (Obj.cells #[Value.bool false, Value.slice none 0 0] 28)
  have p4 := (Pair.newAt ((w.alloc (Obj.cells #[Value.bool true, Value.slice oa la ca] 28)).alloc (Obj.cells #[Value.bool true, Value.slice ob lb cb] 28)) (w.heap.size + 1 + 1) (by simp) (.bool false) (.slice none 0 0) 28).alloc (Obj.cells #[Value.bool false, Value.slice none 0 0] 28)
  have p5 := Pair.newAt (((w.alloc (Obj.cells #[Value.bool true, Value.slice oa la ca] 28)).alloc (Obj.cells #[Value.bool true, Value.slice ob lb cb] 28)).alloc (Obj.cells #[Value.bool false, Value.slice none 0 0] 28)) (w.heap.size + 1 + 1 + 1) (by simp) (.bool false) (.slice none 0 0) 28
  have ax := (((ata.alloc (Obj.cells #[Value.bool true, Value.slice oa la ca] 28)).alloc (Obj.cells #[Value.bool true, Value.slice ob lb cb] 28)).alloc (Obj.cells #[Value.bool false, Value.slice none 0 0] 28)).alloc (Obj.cells #[Value.bool false, Value.slice none 0 0] 28)
  have ay := (((atb.alloc (Obj.cells #[Value.bool true, Value.slice oa la ca] 28)).alloc (Obj.cells #[Value.bool true, Value.slice ob lb cb] 28)).alloc (Obj.cells #[Value.bool false, Value.slice none 0 0] 28)).alloc (Obj.cells #[Value.bool false, Value.slice none 0 0] 28)
  clear ata atb
  generalize ((((w.alloc (Obj.cells #[Value.bool true, Value.slice oa la ca] 28)).alloc (Obj.cells #[Value.bool true, Value.slice ob lb cb] 28)).alloc (Obj.cells #[Value.bool false, Value.slice none 0 0] 28)).alloc (Obj.cells #[Value.bool false, Value.slice none 0 0] 28)) = w0 at *
  have hl4 := p4.lt
  have hl5 := p5.lt
  refine (rdivmod_any oa ob la ca lb cb xa xb _ (by omega) (by omega) hlbc hxa hxb ax ay oka isb.out.1 isb.out.2.1 (by rw [isb.out.2.2]; exact h0.out)).mono ?_
  rintro e w1 ⟨oq, cq, q, ot, ct, t, rfl, hlq, hlt, atq, att, isq, ist, hmq, hmt, hb1⟩
  rw [isb.out.2.2] at isq ist
  replace pa := pa.below hb1 pa.lt
  replace pb := pb.below hb1 pb.lt
  replace p4 := p4.below hb1 p4.lt
  replace p5 := p5.below hb1 p5.lt
  have ay1 := ay.below hb1
  have hbw := hb0.trans (hb1.mono hb0.size)
  have hz1 := hb1.size
  clear ax ay hb1 hb0
  have a0 := pa.cell0; have b0 := pb.cell0; have b1 := pb.cell1
  have e1 := wdiv_left (nb := true) (x := num 65536 xa) (y := B) (by have := h0.out; omega) hr.out
  have htl : 0 < t.length := by
    rcases Nat.eq_zero_or_pos t.length with h | h
    · rw [List.length_eq_zero_iff.1 h] at ist; exact absurd ist.2.2.symm hr.out
    · exact h
  have htl' : (0 : Int) < (t.length : Int) := by omega
  have htb : t.length ≤ lb := hmt
  have E1 := hide e1
  have HLE : Hid (num 65536 xa % B ≤ B) := Nat.le_of_lt (Nat.mod_lt _ h0.out)
  clear e1
  go_wp2_with fail
  replace pa := pa.alloc (Obj.cells #[Value.int IntKind.u32 1] 73)
  replace pb := pb.alloc (Obj.cells #[Value.int IntKind.u32 1] 73)
  replace p4 := p4.alloc (Obj.cells #[Value.int IntKind.u32 1] 73)
  replace p5 := p5.alloc (Obj.cells #[Value.int IntKind.u32 1] 73)
  have aq := atq.alloc (Obj.cells #[Value.int IntKind.u32 1] 73)
  have at' := att.alloc (Obj.cells #[Value.int IntKind.u32 1] 73)
  have ay2 := ay1.alloc (Obj.cells #[Value.int IntKind.u32 1] 73)
  replace hbw := hbw.alloc hbw.size (Obj.cells #[Value.int IntKind.u32 1] 73)
  clear atq att ay1
  have hza : (w1.alloc (Obj.cells #[Value.int IntKind.u32 1] 73)).heap.size = w1.heap.size + 1 := by simp
  refine (radd_any oq (some ⟨w1.heap.size, 0, none⟩) q.length cq 1 1 q [1] _ (by omega) (by omega) rfl rfl aq (lit32 w1) isq.1 ok1).mono ?_
  rintro e w2 ⟨o5, c5, y5, rfl, hl5', at5, is5, hm5, hbel⟩
  rw [isq.2.2, show num 65536 [1] = 1 from rfl] at is5
  replace pa := pa.below hbel pa.lt
  replace pb := pb.below hbel pb.lt
  replace p4 := p4.below hbel p4.lt
  replace p5 := p5.below hbel p5.lt
  replace a0 := pa.cell0
  replace b0 := pb.cell0
  replace b1 := pb.cell1
  have hz2 := hbel.size
  replace hbw := hbw.trans (hbel.mono hbw.size)
  have att := at'.below hbel
  have ay3 := ay2.below hbel
  clear hbel aq at' ay2
  go_wp2_with fail
  refine (rsub_any ob ot lb cb t.length ct xb t _ (by omega) htb hxb rfl ay3 att isb.out.1 ist.1 (by rw [isb.out.2.2, ist.2.2]; exact HLE.out)).mono ?_
  rintro e w3 ⟨o6, c6, y6, rfl, hl6, at6, is6, hm6, hbel⟩
  rw [isb.out.2.2, ist.2.2] at is6
  replace pa := pa.below hbel pa.lt
  replace pb := pb.below hbel pb.lt
  replace p4 := p4.below hbel p4.lt
  replace p5 := p5.below hbel p5.lt
  replace a0 := pa.cell0
  replace b0 := pb.cell0
  replace b1 := pb.cell1
  have hz3 := hbel.size
  replace hbw := hbw.trans (hbel.mono hbw.size)
  have at5' := at5.below hbel
  clear hbel at5 att ay3
  go_wp2_with fail
  refine (rmake false o5 y5.length c5 y5 _ (by omega) rfl at5' is5.1).mono ?_
  rintro e w4 ⟨s1, o1, c1, r1, hs1, rfl, hl1, rs1, is1, hm1, hbel⟩
  rw [is5.2.2] at hs1 is1
  replace pa := pa.below hbel pa.lt
  replace pb := pb.below hbel pb.lt
  replace p4 := p4.below hbel p4.lt
  replace p5 := p5.below hbel p5.lt
  replace a0 := pa.cell0
  replace b0 := pb.cell0
  replace b1 := pb.cell1
  have hz4 := hbel.size
  replace hbw := hbw.trans (hbel.mono hbw.size)
  have atR := at6.below hbel
  have RS1 := hide rs1
  clear hbel rs1
  go_wp2_with fail
  refine (rmake false o6 y6.length c6 y6 _ (by omega) rfl atR is6.1).mono ?_
  rintro e w5 ⟨s2, o2, c2, r2, hs2, rfl, hl2, rs2, is2, hm2, hbel⟩
  rw [is6.2.2] at hs2 is2
  replace pa := pa.below hbel pa.lt
  replace pb := pb.below hbel pb.lt
  replace p4 := p4.below hbel p4.lt
  replace p5 := p5.below hbel p5.lt
  replace a0 := pa.cell0
  replace b0 := pb.cell0
  replace b1 := pb.cell1
  have hz5 := hbel.size
  replace hbw := hbw.trans (hbel.mono hbw.size)
  have F1 := hide (RS1.out.below hbel)
  have F2 := hide rs2
  clear hbel rs2 RS1 atR a0 b0 b1 pa pb
  have N1 : Hid (NI32 s1 r1 (zv true (num 65536 xa) / zv true B)) := by show NI32 _ _ _; rw [E1.out.1]; exact NI32.mk hs1 is1
  have N2 : Hid (NI32 s2 r2 (zv true (num 65536 xa) % zv true B)) := by show NI32 _ _ _; rw [E1.out.2]; exact NI32.mk hs2 is2
  have c40 := p4.cell0; have c41 := p4.cell1; have f40 := p4.free 0; have f41 := p4.free 1
  have c50 := p5.cell0; have c51 := p5.cell1; have f50 := p5.free 0; have f51 := p5.free 1
  clear hs1 is1 hs2 is2 isq ist
  go_wp2
  refine bodyPost_ret (results_pairsR rfl _ _ _ _ _ _ _ _ rfl rfl ((p4.put _ _).other (by simp) _ |>.other (by simp) _) ((p5.other (by simp) _ |>.other (by simp) _).put _ _)) rfl ?_
  exact RDWPost.ret (H := w.heap.size + 1 + 1) (K := w.heap.size + 1 + 1 + 1) N1.out N2.out hl1 hl2 (by omega) (by omega) F1.out F2.out ⟨by omega, by omega⟩ ⟨by omega, by omega⟩ (by omega) (by omega) (by omega) (Nat.le_refl _) hbw


theorem rdivwz (s t : Bool) (oa ob : Option Addr) (la ca lb cb : Nat) (xa xb : List Nat) (w : World) (hla : la ≤ 5000000) (hlb : lb ≤ 5000000) (hlbc : lb ≤ cb) (hxa : xa.length = la) (hxb : xb.length = lb) (ata : At .u32 w oa xa) (atb : At .u32 w ob xb) (z u : Int) (hz : Hid (NI32 s xa z)) (hu : Hid (NI32 t xb u)) (h0 : Hid (u ≠ 0)) :
    Calls Tryd.prog 23 #[.agg #[.bool s, .slice oa la ca], .agg #[.bool t, .slice ob lb cb]] w (RDWPost w (la + lb + 3) (z / u) (z % u)) := by
  have hB : Hid (0 < u.natAbs) := by have := h0.out; show 0 < _; omega
  have v1 := hz.out.nv
  have v2 : zv t u.natAbs = u := by rw [← hu.out.2.2.2]; exact hu.out.nv.2
  rw [← v1.2, ← v2]
  cases s
  · cases t
    · exact rdivw_ffn oa ob la ca lb cb _ xa xb w hla hlb hlbc hxa hxb ata atb v1.1 hu.out.2 hB
    · exact rdivw_ftn oa ob la ca lb cb _ xa xb w hla hlb hlbc hxa hxb ata atb v1.1 hu.out.2 hB
  · by_cases hr : num 65536 xa % u.natAbs = 0
    · cases t
      · exact rdivw_tfn oa ob la ca lb cb _ xa xb w hla hlb hlbc hxa hxb ata atb v1.1 hu.out.2 hB hr
      · exact rdivw_ttn oa ob la ca lb cb _ xa xb w hla hlb hlbc hxa hxb ata atb v1.1 hu.out.2 hB hr
    · cases t
      · exact rdivw_tfs oa ob la ca lb cb _ xa xb w hla hlb hlbc hxa hxb ata atb v1.1 hu.out.2 hB hr
      · exact rdivw_tts oa ob la ca lb cb _ xa xb w hla hlb hlbc hxa hxb ata atb v1.1 hu.out.2 hB hr

end Go.Proofs.YtfcdjhjdiadbfaaDoor
