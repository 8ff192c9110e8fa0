/-
  What the reference's DivMod of whole numbers does.
  The reference's lists and whole numbers, of any length that comes: products, sums, quotients, as quipuref06 asks for them.
  A variable's cells, all at once; a variable behind what was laid and called.
  What quipuref06's greater, power and small do.
  quipuref06's greater, of any number.
  What quipuref06's power and small do.
  Where the ways through a region meet that lays a Dec variable between its calls.
  What quipuref06's To does.
  What quipuref06's To does: the number rounded as rndN tells.
  What shortest's holds and pick do.
  What shortest's all and reachOf do.
  What shortest's fewest does.
  Plain mathematics: the eight calls whose answers the document fixes.
-/
import Derived.Test.YtckijnlolmbdiaaGreatDoorZB7
import Derived.Test.YtckijnlolmbdiaaGreatDoorZB5
import Derived.Test.YtckijnlolmbdiaaGreatDoorZB2
import Derived.Test.YtckijnlolmbdiaaGreatDoorZB1
import Derived.Test.YtckijnlolmbdiaaGreatDoorZB4
import Derived.Deep.CutRange
import Derived.Deep.RegionHeld3
namespace Go.Proofs.YtckijnlolmbdiaaGreatDoor
open Go.RowKit

/-- Quotient and rest, each in its one form, in new memory. -/
def RDWPost (w : World) (m : Nat) (zq zr : Int) (e : Ending) (w' : World) : Prop :=
  ∃ s1 o1 c1 r1 s2 o2 c2 r2, e = .returned (.tuple #[.agg #[.bool s1, .slice o1 (List.length r1) c1], .agg #[.bool s2, .slice o2 (List.length r2) c2]]) ∧ Hid (NI32 s1 r1 zq) ∧ Hid (NI32 s2 r2 zr) ∧ List.length r1 ≤ c1 ∧ List.length r2 ≤ c2 ∧
    r1.length ≤ m ∧ r2.length ≤ m ∧ Hid (Res .u32 w' o1 r1 w.heap.size w'.heap.size) ∧ Hid (Res .u32 w' o2 r2 w.heap.size w'.heap.size) ∧ Below w.heap.size w w'

theorem results_pairsR {fn : Func} {a b : Tmp} (h : fn.results = #[.cell a 69, .cell b 69]) (tmps : Array Value) (H K : Nat) (x y x' y' : Value) (w : World)
    (ht : tmps.getD a undef = .pointer (some ⟨H, 0, none⟩)) (hu : tmps.getD b undef = .pointer (some ⟨K, 0, none⟩)) (hp : Pair w H x y 69) (hq : Pair w K x' y' 69) :
    (results fn tmps).run Tryz.prog w = .ok (.tuple #[.agg #[x, y], .agg #[x', y']]) w := by
  have c0 := hp.cell0
  have c1 := hp.cell1
  have d0 := hq.cell0
  have d1 := hq.cell1
  rw [Array.getD_eq_getD_getElem?] at ht hu
  simp [results, h, ht, hu, go_sem, c0, c1, d0, d1]

theorem RDWPost.ret {w W : World} {m H K c1 c2 l1 h1 l2 h2 : Nat} {zq zr : Int} {s1 s2 : Bool} {o1 o2 : Option Addr} {x y x' y' : Value} {r1 r2 : List Nat} (n1 : NI32 s1 r1 zq) (n2 : NI32 s2 r2 zr) (e1 : r1.length ≤ c1) (e2 : r2.length ≤ c2) (m1 : r1.length ≤ m) (m2 : r2.length ≤ m)
    (f1 : Res .u32 W o1 r1 l1 h1) (f2 : Res .u32 W o2 r2 l2 h2) (a1 : H < l1 ∧ K < l1) (a2 : H < l2 ∧ K < l2) (g1 : w.heap.size ≤ H) (g2 : w.heap.size ≤ K) (t1 : h1 ≤ W.heap.size) (t2 : h2 ≤ W.heap.size) (hb : Below w.heap.size w W) :
    RDWPost w m zq zr (.returned (.tuple #[.agg #[.bool s1, .slice o1 r1.length c1], .agg #[.bool s2, .slice o2 r2.length c2]])) ((((W.setCell ⟨H, 0, none⟩ x).setCell ⟨H, 1, none⟩ y).setCell ⟨K, 0, none⟩ x').setCell ⟨K, 1, none⟩ y') := by
  refine ⟨s1, o1, c1, r1, s2, o2, c2, r2, rfl, n1, n2, e1, e2, m1, m2, ?_, ?_, (((hb.setCell g1 _).setCell g1 _).setCell g2 _).setCell g2 _⟩
  · exact ((((f1.set (.inl a1.1) _).set (.inl a1.1) _).set (.inl a1.2) _).set (.inl a1.2) _).mono (by omega) (by simpa [World.setCell] using t1)
  · exact ((((f2.set (.inl a2.1) _).set (.inl a2.1) _).set (.inl a2.2) _).set (.inl a2.2) _).mono (by omega) (by simpa [World.setCell] using t2)


set_option maxRecDepth 100000 in
set_option maxHeartbeats 2000000 in
theorem rdivw_ffn (oa ob : Option Addr) (la ca lb cb B : Nat) (xa xb : List Nat) (w : World) (hla : la ≤ 5000000) (hlb : lb ≤ 5000000) (hlbc : lb ≤ cb) (hxa : xa.length = la) (hxb : xb.length = lb) (ata : At .u32 w oa xa) (atb : At .u32 w ob xb) (oka : Ok 65536 xa) (isb : Hid (Is 65536 xb B)) (h0 : Hid (0 < B)) :
    Calls Tryz.prog 92 #[.agg #[.bool false, .slice oa la ca], .agg #[.bool false, .slice ob lb cb]] w (RDWPost w (la + lb + 3) (zv false (num 65536 xa) / zv false B) (zv false (num 65536 xa) % zv false B)) := by
  go_enter Tryz.func92, Tryz.ntmps92
  go_wp2_with fail
  have hb0 : Below w.heap.size w ((((w.alloc (Obj.cells #[Value.bool false, Value.slice oa la ca] 69)).alloc (Obj.cells #[Value.bool false, Value.slice ob lb cb] 69)).alloc (Obj.cells #[Value.bool false, Value.slice none 0 0] 69)).alloc (Obj.cells #[Value.bool false, Value.slice none 0 0] 69)) := ((((Below.refl _ _).alloc (Nat.le_refl _) _).alloc (by simp) _).alloc (by simp; omega) _).alloc (by simp; omega) _
  have pa := (((Pair.new w (.bool false) (.slice oa la ca) 69).alloc (Obj.cells #[Value.bool false, Value.slice ob lb cb] 69)).alloc (Obj.cells #[Value.bool false, Value.slice none 0 0] 69)).alloc (Obj.cells #[Value.bool false, Value.slice none 0 0] 69)
  have pb := ((Pair.newAt (w.alloc (Obj.cells #[Value.bool false, Value.slice oa la ca] 69)) (w.heap.size + 1) (by simp) (.bool false) (.slice ob lb cb) 69).alloc (Obj.cells #[Value.bool false, Value.slice none 0 0] 69)).alloc (Obj.cells #[Value.bool false, Value.slice none 0 0] 69)
  have p4 := (Pair.newAt ((w.alloc (Obj.cells #[Value.bool false, Value.slice oa la ca] 69)).alloc (Obj.cells #[Value.bool false, Value.slice ob lb cb] 69)) (w.heap.size + 1 + 1) (by simp) (.bool false) (.slice none 0 0) 69).alloc (Obj.cells #[Value.bool false, Value.slice none 0 0] 69)
  have p5 := Pair.newAt (((w.alloc (Obj.cells #[Value.bool false, Value.slice oa la ca] 69)).alloc (Obj.cells #[Value.bool false, Value.slice ob lb cb] 69)).alloc (Obj.cells #[Value.bool false, Value.slice none 0 0] 69)) (w.heap.size + 1 + 1 + 1) (by simp) (.bool false) (.slice none 0 0) 69
  have ax := (((ata.alloc (Obj.cells #[Value.bool false, Value.slice oa la ca] 69)).alloc (Obj.cells #[Value.bool false, Value.slice ob lb cb] 69)).alloc (Obj.cells #[Value.bool false, Value.slice none 0 0] 69)).alloc (Obj.cells #[Value.bool false, Value.slice none 0 0] 69)
  have ay := (((atb.alloc (Obj.cells #[Value.bool false, Value.slice oa la ca] 69)).alloc (Obj.cells #[Value.bool false, Value.slice ob lb cb] 69)).alloc (Obj.cells #[Value.bool false, Value.slice none 0 0] 69)).alloc (Obj.cells #[Value.bool false, Value.slice none 0 0] 69)
  clear ata atb
  generalize ((((w.alloc (Obj.cells #[Value.bool false, Value.slice oa la ca] 69)).alloc (Obj.cells #[Value.bool false, Value.slice ob lb cb] 69)).alloc (Obj.cells #[Value.bool false, Value.slice none 0 0] 69)).alloc (Obj.cells #[Value.bool false, Value.slice none 0 0] 69)) = w0 at *
  have hl4 := p4.lt
  have hl5 := p5.lt
  refine (rdivmod_any oa ob la ca lb cb xa xb _ (by omega) (by omega) hlbc hxa hxb ax ay oka isb.out.1 isb.out.2.1 (by rw [isb.out.2.2]; exact h0.out)).mono ?_
  rintro e w1 ⟨oq, cq, q, ot, ct, t, rfl, hlq, hlt, atq, att, isq, ist, hmq, hmt, hb1⟩
  rw [isb.out.2.2] at isq ist
  replace pa := pa.below hb1 pa.lt
  replace pb := pb.below hb1 pb.lt
  replace p4 := p4.below hb1 p4.lt
  replace p5 := p5.below hb1 p5.lt
  have ay1 := ay.below hb1
  have hbw := hb0.trans (hb1.mono hb0.size)
  have hz1 := hb1.size
  clear ax ay hb1 hb0
  have a0 := pa.cell0; have b0 := pb.cell0; have b1 := pb.cell1
  have e1 := wdiv_plain (na := false) (nb := false) (x := num 65536 xa) (y := B) (by have := h0.out; omega) (.inl rfl)
  have E1 := hide e1
  clear e1 ay1
  go_wp2_with fail
  refine (rmake false oq q.length cq q _ (by omega) rfl atq isq.1).mono ?_
  rintro e w2 ⟨s1, o1, c1, r1, hs1, rfl, hl1, rs1, is1, hm1, hbel⟩
  rw [isq.2.2] at hs1 is1
  replace pa := pa.below hbel pa.lt
  replace pb := pb.below hbel pb.lt
  replace p4 := p4.below hbel p4.lt
  replace p5 := p5.below hbel p5.lt
  replace a0 := pa.cell0
  replace b0 := pb.cell0
  replace b1 := pb.cell1
  have hz2 := hbel.size
  replace hbw := hbw.trans (hbel.mono hbw.size)
  have atR := att.below hbel
  have RS1 := hide rs1
  clear hbel rs1
  go_wp2_with fail
  refine (rmake false ot t.length ct t _ (by omega) rfl atR ist.1).mono ?_
  rintro e w3 ⟨s2, o2, c2, r2, hs2, rfl, hl2, rs2, is2, hm2, hbel⟩
  rw [ist.2.2] at hs2 is2
  replace pa := pa.below hbel pa.lt
  replace pb := pb.below hbel pb.lt
  replace p4 := p4.below hbel p4.lt
  replace p5 := p5.below hbel p5.lt
  replace a0 := pa.cell0
  replace b0 := pb.cell0
  replace b1 := pb.cell1
  have hz3 := hbel.size
  replace hbw := hbw.trans (hbel.mono hbw.size)
  have F1 := hide (RS1.out.below hbel)
  have F2 := hide rs2
  clear hbel rs2 RS1 atR a0 b0 b1 pa pb
  have N1 : Hid (NI32 s1 r1 (zv false (num 65536 xa) / zv false B)) := by show NI32 _ _ _; rw [E1.out.1]; exact NI32.mk hs1 is1
  have N2 : Hid (NI32 s2 r2 (zv false (num 65536 xa) % zv false B)) := by show NI32 _ _ _; rw [E1.out.2]; exact NI32.mk hs2 is2
  have c40 := p4.cell0; have c41 := p4.cell1; have f40 := p4.free 0; have f41 := p4.free 1
  have c50 := p5.cell0; have c51 := p5.cell1; have f50 := p5.free 0; have f51 := p5.free 1
  clear hs1 is1 hs2 is2 isq ist
  go_wp2
  refine bodyPost_ret (results_pairsR rfl _ _ _ _ _ _ _ _ rfl rfl ((p4.put _ _).other (by simp) _ |>.other (by simp) _) ((p5.other (by simp) _ |>.other (by simp) _).put _ _)) rfl ?_
  exact RDWPost.ret (H := w.heap.size + 1 + 1) (K := w.heap.size + 1 + 1 + 1) N1.out N2.out hl1 hl2 (by omega) (by omega) F1.out F2.out ⟨by omega, by omega⟩ ⟨by omega, by omega⟩ (by omega) (by omega) (by omega) (Nat.le_refl _) hbw


set_option maxRecDepth 100000 in
set_option maxHeartbeats 2000000 in
theorem rdivw_ftn (oa ob : Option Addr) (la ca lb cb B : Nat) (xa xb : List Nat) (w : World) (hla : la ≤ 5000000) (hlb : lb ≤ 5000000) (hlbc : lb ≤ cb) (hxa : xa.length = la) (hxb : xb.length = lb) (ata : At .u32 w oa xa) (atb : At .u32 w ob xb) (oka : Ok 65536 xa) (isb : Hid (Is 65536 xb B)) (h0 : Hid (0 < B)) :
    Calls Tryz.prog 92 #[.agg #[.bool false, .slice oa la ca], .agg #[.bool true, .slice ob lb cb]] w (RDWPost w (la + lb + 3) (zv false (num 65536 xa) / zv true B) (zv false (num 65536 xa) % zv true B)) := by
  go_enter Tryz.func92, Tryz.ntmps92
  go_wp2_with fail
  have hb0 : Below w.heap.size w ((((w.alloc (Obj.cells #[Value.bool false, Value.slice oa la ca] 69)).alloc (Obj.cells #[Value.bool true, Value.slice ob lb cb] 69)).alloc (Obj.cells #[Value.bool false, Value.slice none 0 0] 69)).alloc (Obj.cells #[Value.bool false, Value.slice none 0 0] 69)) := ((((Below.refl _ _).alloc (Nat.le_refl _) _).alloc (by simp) _).alloc (by simp; omega) _).alloc (by simp; omega) _
  have pa := (((Pair.new w (.bool false) (.slice oa la ca) 69).alloc (Obj.cells #[Value.bool true, Value.slice ob lb cb] 69)).alloc (Obj.cells #[Value.bool false, Value.slice none 0 0] 69)).alloc (Obj.cells #[Value.bool false, Value.slice none 0 0] 69)
  have pb := ((Pair.newAt (w.alloc (Obj.cells #[Value.bool false, Value.slice oa la ca] 69)) (w.heap.size + 1) (by simp) (.bool true) (.slice ob lb cb) 69).alloc (Obj.cells #[Value.bool false, Value.slice none 0 0] 69)).alloc (Obj.cells #[Value.bool false, Value.slice none 0 0] 69)
  have p4 := (Pair.newAt ((w.alloc (Obj.cells #[Value.bool false, Value.slice oa la ca] 69)).alloc (Obj.cells #[Value.bool true, Value.slice ob lb cb] 69)) (w.heap.size + 1 + 1) (by simp) (.bool false) (.slice none 0 0) 69).alloc (Obj.cells #[Value.bool false, Value.slice none 0 0] 69)
  have p5 := Pair.newAt (((w.alloc (Obj.cells #[Value.bool false, Value.slice oa la ca] 69)).alloc (Obj.cells #[Value.bool true, Value.slice ob lb cb] 69)).alloc (Obj.cells #[Value.bool false, Value.slice none 0 0] 69)) (w.heap.size + 1 + 1 + 1) (by simp) (.bool false) (.slice none 0 0) 69
  have ax := (((ata.alloc (Obj.cells #[Value.bool false, Value.slice oa la ca] 69)).alloc (Obj.cells #[Value.bool true, Value.slice ob lb cb] 69)).alloc (Obj.cells #[Value.bool false, Value.slice none 0 0] 69)).alloc (Obj.cells #[Value.bool false, Value.slice none 0 0] 69)
  have ay := (((atb.alloc (Obj.cells #[Value.bool false, Value.slice oa la ca] 69)).alloc (Obj.cells #[Value.bool true, Value.slice ob lb cb] 69)).alloc (Obj.cells #[Value.bool false, Value.slice none 0 0] 69)).alloc (Obj.cells #[Value.bool false, Value.slice none 0 0] 69)
  clear ata atb
  generalize ((((w.alloc (Obj.cells #[Value.bool false, Value.slice oa la ca] 69)).alloc (Obj.cells #[Value.bool true, Value.slice ob lb cb] 69)).alloc (Obj.cells #[Value.bool false, Value.slice none 0 0] 69)).alloc (Obj.cells #[Value.bool false, Value.slice none 0 0] 69)) = w0 at *
  have hl4 := p4.lt
  have hl5 := p5.lt
  refine (rdivmod_any oa ob la ca lb cb xa xb _ (by omega) (by omega) hlbc hxa hxb ax ay oka isb.out.1 isb.out.2.1 (by rw [isb.out.2.2]; exact h0.out)).mono ?_
  rintro e w1 ⟨oq, cq, q, ot, ct, t, rfl, hlq, hlt, atq, att, isq, ist, hmq, hmt, hb1⟩
  rw [isb.out.2.2] at isq ist
  replace pa := pa.below hb1 pa.lt
  replace pb := pb.below hb1 pb.lt
  replace p4 := p4.below hb1 p4.lt
  replace p5 := p5.below hb1 p5.lt
  have ay1 := ay.below hb1
  have hbw := hb0.trans (hb1.mono hb0.size)
  have hz1 := hb1.size
  clear ax ay hb1 hb0
  have a0 := pa.cell0; have b0 := pb.cell0; have b1 := pb.cell1
  have e1 := wdiv_plain (na := false) (nb := true) (x := num 65536 xa) (y := B) (by have := h0.out; omega) (.inl rfl)
  have E1 := hide e1
  clear e1 ay1
  go_wp2_with fail
  refine (rmake true oq q.length cq q _ (by omega) rfl atq isq.1).mono ?_
  rintro e w2 ⟨s1, o1, c1, r1, hs1, rfl, hl1, rs1, is1, hm1, hbel⟩
  rw [isq.2.2] at hs1 is1
  replace pa := pa.below hbel pa.lt
  replace pb := pb.below hbel pb.lt
  replace p4 := p4.below hbel p4.lt
  replace p5 := p5.below hbel p5.lt
  replace a0 := pa.cell0
  replace b0 := pb.cell0
  replace b1 := pb.cell1
  have hz2 := hbel.size
  replace hbw := hbw.trans (hbel.mono hbw.size)
  have atR := att.below hbel
  have RS1 := hide rs1
  clear hbel rs1
  go_wp2_with fail
  refine (rmake false ot t.length ct t _ (by omega) rfl atR ist.1).mono ?_
  rintro e w3 ⟨s2, o2, c2, r2, hs2, rfl, hl2, rs2, is2, hm2, hbel⟩
  rw [ist.2.2] at hs2 is2
  replace pa := pa.below hbel pa.lt
  replace pb := pb.below hbel pb.lt
  replace p4 := p4.below hbel p4.lt
  replace p5 := p5.below hbel p5.lt
  replace a0 := pa.cell0
  replace b0 := pb.cell0
  replace b1 := pb.cell1
  have hz3 := hbel.size
  replace hbw := hbw.trans (hbel.mono hbw.size)
  have F1 := hide (RS1.out.below hbel)
  have F2 := hide rs2
  clear hbel rs2 RS1 atR a0 b0 b1 pa pb
  have N1 : Hid (NI32 s1 r1 (zv false (num 65536 xa) / zv true B)) := by show NI32 _ _ _; rw [E1.out.1]; exact NI32.mk hs1 is1
  have N2 : Hid (NI32 s2 r2 (zv false (num 65536 xa) % zv true B)) := by show NI32 _ _ _; rw [E1.out.2]; exact NI32.mk hs2 is2
  have c40 := p4.cell0; have c41 := p4.cell1; have f40 := p4.free 0; have f41 := p4.free 1
  have c50 := p5.cell0; have c51 := p5.cell1; have f50 := p5.free 0; have f51 := p5.free 1
  clear hs1 is1 hs2 is2 isq ist
  go_wp2
  refine bodyPost_ret (results_pairsR rfl _ _ _ _ _ _ _ _ rfl rfl ((p4.put _ _).other (by simp) _ |>.other (by simp) _) ((p5.other (by simp) _ |>.other (by simp) _).put _ _)) rfl ?_
  exact RDWPost.ret (H := w.heap.size + 1 + 1) (K := w.heap.size + 1 + 1 + 1) N1.out N2.out hl1 hl2 (by omega) (by omega) F1.out F2.out ⟨by omega, by omega⟩ ⟨by omega, by omega⟩ (by omega) (by omega) (by omega) (Nat.le_refl _) hbw


set_option maxRecDepth 100000 in
set_option maxHeartbeats 2000000 in
theorem rdivw_tfn (oa ob : Option Addr) (la ca lb cb B : Nat) (xa xb : List Nat) (w : World) (hla : la ≤ 5000000) (hlb : lb ≤ 5000000) (hlbc : lb ≤ cb) (hxa : xa.length = la) (hxb : xb.length = lb) (ata : At .u32 w oa xa) (atb : At .u32 w ob xb) (oka : Ok 65536 xa) (isb : Hid (Is 65536 xb B)) (h0 : Hid (0 < B)) (hr : Hid (num 65536 xa % B = 0)) :
    Calls Tryz.prog 92 #[.agg #[.bool true, .slice oa la ca], .agg #[.bool false, .slice ob lb cb]] w (RDWPost w (la + lb + 3) (zv true (num 65536 xa) / zv false B) (zv true (num 65536 xa) % zv false B)) := by
  go_enter Tryz.func92, Tryz.ntmps92
  go_wp2_with fail
  have hb0 : Below w.heap.size w ((((w.alloc (Obj.cells #[Value.bool true, Value.slice oa la ca] 69)).alloc (Obj.cells #[Value.bool false, Value.slice ob lb cb] 69)).alloc (Obj.cells #[Value.bool false, Value.slice none 0 0] 69)).alloc (Obj.cells #[Value.bool false, Value.slice none 0 0] 69)) := ((((Below.refl _ _).alloc (Nat.le_refl _) _).alloc (by simp) _).alloc (by simp; omega) _).alloc (by simp; omega) _
  have pa := (((Pair.new w (.bool true) (.slice oa la ca) 69).alloc (Obj.cells #[Value.bool false, Value.slice ob lb cb] 69)).alloc (Obj.cells #[Value.bool false, Value.slice none 0 0] 69)).alloc (Obj.cells #[Value.bool false, Value.slice none 0 0] 69)
  have pb := ((Pair.newAt (w.alloc (Obj.cells #[Value.bool true, Value.slice oa la ca] 69)) (w.heap.size + 1) (by simp) (.bool false) (.slice ob lb cb) 69).alloc (Obj.cells #[Value.bool false, Value.slice none 0 0] 69)).alloc (Obj.cells #[Value.bool false, Value.slice none 0 0] 69)
  have p4 := (Pair.newAt ((w.alloc (Obj.cells #[Value.bool true, Value.slice oa la ca] 69)).alloc (Obj.cells #[Value.bool false, Value.slice ob lb cb] 69)) (w.heap.size + 1 + 1) (by simp) (.bool false) (.slice none 0 0) 69).alloc (Obj.cells #[Value.bool false, Value.slice none 0 0] 69)
  have p5 := Pair.newAt (((w.alloc (Obj.cells #[Value.bool true, Value.slice oa la ca] 69)).alloc (Obj.cells #[Value.bool false, Value.slice ob lb cb] 69)).alloc (Obj.cells #[Value.bool false, Value.slice none 0 0] 69)) (w.heap.size + 1 + 1 + 1) (by simp) (.bool false) (.slice none 0 0) 69
  have ax := (((ata.alloc (Obj.cells #[Value.bool true, Value.slice oa la ca] 69)).alloc (Obj.cells #[Value.bool false, Value.slice ob lb cb] 69)).alloc (Obj.cells #[Value.bool false, Value.slice none 0 0] 69)).alloc (Obj.cells #[Value.bool false, Value.slice none 0 0] 69)
  have ay := (((atb.alloc (Obj.cells #[Value.bool true, Value.slice oa la ca] 69)).alloc (Obj.cells #[Value.bool false, Value.slice ob lb cb] 69)).alloc (Obj.cells #[Value.bool false, Value.slice none 0 0] 69)).alloc (Obj.cells #[Value.bool false, Value.slice none 0 0] 69)
  clear ata atb
  generalize ((((w.alloc (Obj.cells #[Value.bool true, Value.slice oa la ca] 69)).alloc (Obj.cells #[Value.bool false, Value.slice ob lb cb] 69)).alloc (Obj.cells #[Value.bool false, Value.slice none 0 0] 69)).alloc (Obj.cells #[Value.bool false, Value.slice none 0 0] 69)) = w0 at *
  have hl4 := p4.lt
  have hl5 := p5.lt
  refine (rdivmod_any oa ob la ca lb cb xa xb _ (by omega) (by omega) hlbc hxa hxb ax ay oka isb.out.1 isb.out.2.1 (by rw [isb.out.2.2]; exact h0.out)).mono ?_
  rintro e w1 ⟨oq, cq, q, ot, ct, t, rfl, hlq, hlt, atq, att, isq, ist, hmq, hmt, hb1⟩
  rw [isb.out.2.2] at isq ist
  replace pa := pa.below hb1 pa.lt
  replace pb := pb.below hb1 pb.lt
  replace p4 := p4.below hb1 p4.lt
  replace p5 := p5.below hb1 p5.lt
  have ay1 := ay.below hb1
  have hbw := hb0.trans (hb1.mono hb0.size)
  have hz1 := hb1.size
  clear ax ay hb1 hb0
  have a0 := pa.cell0; have b0 := pb.cell0; have b1 := pb.cell1
  have e1 := wdiv_plain (na := true) (nb := false) (x := num 65536 xa) (y := B) (by have := h0.out; omega) (.inr hr.out)
  have ht0 : t.length = 0 := by rw [hr.out] at ist; rw [num_zero (by omega) ist.2.1 ist.2.2]; rfl
  have E1 := hide e1
  clear e1 ay1
  go_wp2_with fail
  refine (rmake true oq q.length cq q _ (by omega) rfl atq isq.1).mono ?_
  rintro e w2 ⟨s1, o1, c1, r1, hs1, rfl, hl1, rs1, is1, hm1, hbel⟩
  rw [isq.2.2] at hs1 is1
  replace pa := pa.below hbel pa.lt
  replace pb := pb.below hbel pb.lt
  replace p4 := p4.below hbel p4.lt
  replace p5 := p5.below hbel p5.lt
  replace a0 := pa.cell0
  replace b0 := pb.cell0
  replace b1 := pb.cell1
  have hz2 := hbel.size
  replace hbw := hbw.trans (hbel.mono hbw.size)
  have atR := att.below hbel
  have RS1 := hide rs1
  clear hbel rs1
  go_wp2_with fail
  refine (rmake false ot 0 ct t _ (by omega) ht0 atR ist.1).mono ?_
  rintro e w3 ⟨s2, o2, c2, r2, hs2, rfl, hl2, rs2, is2, hm2, hbel⟩
  rw [ist.2.2] at hs2 is2
  replace pa := pa.below hbel pa.lt
  replace pb := pb.below hbel pb.lt
  replace p4 := p4.below hbel p4.lt
  replace p5 := p5.below hbel p5.lt
  replace a0 := pa.cell0
  replace b0 := pb.cell0
  replace b1 := pb.cell1
  have hz3 := hbel.size
  replace hbw := hbw.trans (hbel.mono hbw.size)
  have F1 := hide (RS1.out.below hbel)
  have F2 := hide rs2
  clear hbel rs2 RS1 atR a0 b0 b1 pa pb
  have N1 : Hid (NI32 s1 r1 (zv true (num 65536 xa) / zv false B)) := by show NI32 _ _ _; rw [E1.out.1]; exact NI32.mk hs1 is1
  have N2 : Hid (NI32 s2 r2 (zv true (num 65536 xa) % zv false B)) := by show NI32 _ _ _; rw [E1.out.2]; exact NI32.mk hs2 is2
  have c40 := p4.cell0; have c41 := p4.cell1; have f40 := p4.free 0; have f41 := p4.free 1
  have c50 := p5.cell0; have c51 := p5.cell1; have f50 := p5.free 0; have f51 := p5.free 1
  clear hs1 is1 hs2 is2 isq ist
  go_wp2
  refine bodyPost_ret (results_pairsR rfl _ _ _ _ _ _ _ _ rfl rfl ((p4.put _ _).other (by simp) _ |>.other (by simp) _) ((p5.other (by simp) _ |>.other (by simp) _).put _ _)) rfl ?_
  exact RDWPost.ret (H := w.heap.size + 1 + 1) (K := w.heap.size + 1 + 1 + 1) N1.out N2.out hl1 hl2 (by omega) (by omega) F1.out F2.out ⟨by omega, by omega⟩ ⟨by omega, by omega⟩ (by omega) (by omega) (by omega) (Nat.le_refl _) hbw


set_option maxRecDepth 100000 in
set_option maxHeartbeats 2000000 in
theorem rdivw_tfs (oa ob : Option Addr) (la ca lb cb B : Nat) (xa xb : List Nat) (w : World) (hla : la ≤ 5000000) (hlb : lb ≤ 5000000) (hlbc : lb ≤ cb) (hxa : xa.length = la) (hxb : xb.length = lb) (ata : At .u32 w oa xa) (atb : At .u32 w ob xb) (oka : Ok 65536 xa) (isb : Hid (Is 65536 xb B)) (h0 : Hid (0 < B)) (hr : Hid (num 65536 xa % B ≠ 0)) :
    Calls Tryz.prog 92 #[.agg #[.bool true, .slice oa la ca], .agg #[.bool false, .slice ob lb cb]] w (RDWPost w (la + lb + 3) (zv true (num 65536 xa) / zv false B) (zv true (num 65536 xa) % zv false B)) := by
  go_enter Tryz.func92, Tryz.ntmps92
  go_wp2_with fail
  have hb0 : Below w.heap.size w ((((w.alloc (Obj.cells #[Value.bool true, Value.slice oa la ca] 69)).alloc (Obj.cells #[Value.bool false, Value.slice ob lb cb] 69)).alloc (Obj.cells #[Value.bool false, Value.slice none 0 0] 69)).alloc (Obj.cells #[Value.bool false, Value.slice none 0 0] 69)) := ((((Below.refl _ _).alloc (Nat.le_refl _) _).alloc (by simp) _).alloc (by simp; omega) _).alloc (by simp; omega) _
  have pa := (((Pair.new w (.bool true) (.slice oa la ca) 69).alloc (Obj.cells #[Value.bool false, Value.slice ob lb cb] 69)).alloc (Obj.cells #[Value.bool false, Value.slice none 0 0] 69)).alloc (Obj.cells #[Value.bool false, Value.slice none 0 0] 69)
  have pb := ((Pair.newAt (w.alloc (Obj.cells #[Value.bool true, Value.slice oa la ca] 69)) (w.heap.size + 1) (by simp) (.bool false) (.slice ob lb cb) 69).alloc (Obj.cells #[Value.bool false, Value.slice none 0 0] 69)).alloc (Obj.cells #[Value.bool false, Value.slice none 0 0] 69)
  have p4 := (Pair.newAt ((w.alloc (Obj.cells #[Value.bool true, Value.slice oa la ca] 69)).alloc (Obj.cells #[Value.bool false, Value.slice ob lb cb] 69)) (w.heap.size + 1 + 1) (by simp) (.bool false) (.slice none 0 0) 69).alloc (Obj.cells #[Value.bool false, Value.slice none 0 0] 69)
  have p5 := Pair.newAt (((w.alloc (Obj.cells #[Value.bool true, Value.slice oa la ca] 69)).alloc (Obj.cells #[Value.bool false, Value.slice ob lb cb] 69)).alloc (Obj.cells #[Value.bool false, Value.slice none 0 0] 69)) (w.heap.size + 1 + 1 + 1) (by simp) (.bool false) (.slice none 0 0) 69
  have ax := (((ata.alloc (Obj.cells #[Value.bool true, Value.slice oa la ca] 69)).alloc (Obj.cells #[Value.bool false, Value.slice ob lb cb] 69)).alloc (Obj.cells #[Value.bool false, Value.slice none 0 0] 69)).alloc (Obj.cells #[Value.bool false, Value.slice none 0 0] 69)
  have ay := (((atb.alloc (Obj.cells #[Value.bool true, Value.slice oa la ca] 69)).alloc (Obj.cells #[Value.bool false, Value.slice ob lb cb] 69)).alloc (Obj.cells #[Value.bool false, Value.slice none 0 0] 69)).alloc (Obj.cells #[Value.bool false, Value.slice none 0 0] 69)
  clear ata atb
  generalize ((((w.alloc (Obj.cells #[Value.bool true, Value.slice oa la ca] 69)).alloc (Obj.cells #[Value.bool false, Value.slice ob lb cb] 69)).alloc (Obj.cells #[Value.bool false, Value.slice none 0 0] 69)).alloc (Obj.cells #[Value.bool false, Value.slice none 0 0] 69)) = w0 at *
  have hl4 := p4.lt
  have hl5 := p5.lt
  refine (rdivmod_any oa ob la ca lb cb xa xb _ (by omega) (by omega) hlbc hxa hxb ax ay oka isb.out.1 isb.out.2.1 (by rw [isb.out.2.2]; exact h0.out)).mono ?_
  rintro e w1 ⟨oq, cq, q, ot, ct, t, rfl, hlq, hlt, atq, att, isq, ist, hmq, hmt, hb1⟩
  rw [isb.out.2.2] at isq ist
  replace pa := pa.below hb1 pa.lt
  replace pb := pb.below hb1 pb.lt
  replace p4 := p4.below hb1 p4.lt
  replace p5 := p5.below hb1 p5.lt
  have ay1 := ay.below hb1
  have hbw := hb0.trans (hb1.mono hb0.size)
  have hz1 := hb1.size
  clear ax ay hb1 hb0
  have a0 := pa.cell0; have b0 := pb.cell0; have b1 := pb.cell1
  have e1 := wdiv_left (nb := false) (x := num 65536 xa) (y := B) (by have := h0.out; omega) hr.out
  have htl : 0 < t.length := by
    rcases Nat.eq_zero_or_pos t.length with h | h
    · rw [List.length_eq_zero_iff.1 h] at ist; exact absurd ist.2.2.symm hr.out
    · exact h
  have htl' : (0 : Int) < (t.length : Int) := by omega
  have htb : t.length ≤ lb := hmt
  have E1 := hide e1
  have HLE : Hid (num 65536 xa % B ≤ B) := Nat.le_of_lt (Nat.mod_lt _ h0.out)
  clear e1
  go_wp2_with fail
  replace pa := pa.alloc (Obj.cells #[Value.int IntKind.u32 1] 76)
  replace pb := pb.alloc (Obj.cells #[Value.int IntKind.u32 1] 76)
  replace p4 := p4.alloc (Obj.cells #[Value.int IntKind.u32 1] 76)
  replace p5 := p5.alloc (Obj.cells #[Value.int IntKind.u32 1] 76)
  have aq := atq.alloc (Obj.cells #[Value.int IntKind.u32 1] 76)
  have at' := att.alloc (Obj.cells #[Value.int IntKind.u32 1] 76)
  have ay2 := ay1.alloc (Obj.cells #[Value.int IntKind.u32 1] 76)
  replace hbw := hbw.alloc hbw.size (Obj.cells #[Value.int IntKind.u32 1] 76)
  clear atq att ay1
  have hza : (w1.alloc (Obj.cells #[Value.int IntKind.u32 1] 76)).heap.size = w1.heap.size + 1 := by simp
  refine (radd_any oq (some ⟨w1.heap.size, 0, none⟩) q.length cq 1 1 q [1] _ (by omega) (by omega) rfl rfl aq (lit32 w1) isq.1 ok1).mono ?_
  rintro e w2 ⟨o5, c5, y5, rfl, hl5', at5, is5, hm5, hbel⟩
  rw [isq.2.2, show num 65536 [1] = 1 from rfl] at is5
  replace pa := pa.below hbel pa.lt
  replace pb := pb.below hbel pb.lt
  replace p4 := p4.below hbel p4.lt
  replace p5 := p5.below hbel p5.lt
  replace a0 := pa.cell0
  replace b0 := pb.cell0
  replace b1 := pb.cell1
  have hz2 := hbel.size
  replace hbw := hbw.trans (hbel.mono hbw.size)
  have att := at'.below hbel
  have ay3 := ay2.below hbel
  clear hbel aq at' ay2
  go_wp2_with fail
  refine (rsub_any ob ot lb cb t.length ct xb t _ (by omega) htb hxb rfl ay3 att isb.out.1 ist.1 (by rw [isb.out.2.2, ist.2.2]; exact HLE.out)).mono ?_
  rintro e w3 ⟨o6, c6, y6, rfl, hl6, at6, is6, hm6, hbel⟩
  rw [isb.out.2.2, ist.2.2] at is6
  replace pa := pa.below hbel pa.lt
  replace pb := pb.below hbel pb.lt
  replace p4 := p4.below hbel p4.lt
  replace p5 := p5.below hbel p5.lt
  replace a0 := pa.cell0
  replace b0 := pb.cell0
  replace b1 := pb.cell1
  have hz3 := hbel.size
  replace hbw := hbw.trans (hbel.mono hbw.size)
  have at5' := at5.below hbel
  clear hbel at5 att ay3
  go_wp2_with fail
  refine (rmake true o5 y5.length c5 y5 _ (by omega) rfl at5' is5.1).mono ?_
  rintro e w4 ⟨s1, o1, c1, r1, hs1, rfl, hl1, rs1, is1, hm1, hbel⟩
  rw [is5.2.2] at hs1 is1
  replace pa := pa.below hbel pa.lt
  replace pb := pb.below hbel pb.lt
  replace p4 := p4.below hbel p4.lt
  replace p5 := p5.below hbel p5.lt
  replace a0 := pa.cell0
  replace b0 := pb.cell0
  replace b1 := pb.cell1
  have hz4 := hbel.size
  replace hbw := hbw.trans (hbel.mono hbw.size)
  have atR := at6.below hbel
  have RS1 := hide rs1
  clear hbel rs1
  go_wp2_with fail
  refine (rmake false o6 y6.length c6 y6 _ (by omega) rfl atR is6.1).mono ?_
  rintro e w5 ⟨s2, o2, c2, r2, hs2, rfl, hl2, rs2, is2, hm2, hbel⟩
  rw [is6.2.2] at hs2 is2
  replace pa := pa.below hbel pa.lt
  replace pb := pb.below hbel pb.lt
  replace p4 := p4.below hbel p4.lt
  replace p5 := p5.below hbel p5.lt
  replace a0 := pa.cell0
  replace b0 := pb.cell0
  replace b1 := pb.cell1
  have hz5 := hbel.size
  replace hbw := hbw.trans (hbel.mono hbw.size)
  have F1 := hide (RS1.out.below hbel)
  have F2 := hide rs2
  clear hbel rs2 RS1 atR a0 b0 b1 pa pb
  have N1 : Hid (NI32 s1 r1 (zv true (num 65536 xa) / zv false B)) := by show NI32 _ _ _; rw [E1.out.1]; exact NI32.mk hs1 is1
  have N2 : Hid (NI32 s2 r2 (zv true (num 65536 xa) % zv false B)) := by show NI32 _ _ _; rw [E1.out.2]; exact NI32.mk hs2 is2
  have c40 := p4.cell0; have c41 := p4.cell1; have f40 := p4.free 0; have f41 := p4.free 1
  have c50 := p5.cell0; have c51 := p5.cell1; have f50 := p5.free 0; have f51 := p5.free 1
  clear hs1 is1 hs2 is2 isq ist
  go_wp2
  refine bodyPost_ret (results_pairsR rfl _ _ _ _ _ _ _ _ rfl rfl ((p4.put _ _).other (by simp) _ |>.other (by simp) _) ((p5.other (by simp) _ |>.other (by simp) _).put _ _)) rfl ?_
  exact RDWPost.ret (H := w.heap.size + 1 + 1) (K := w.heap.size + 1 + 1 + 1) N1.out N2.out hl1 hl2 (by omega) (by omega) F1.out F2.out ⟨by omega, by omega⟩ ⟨by omega, by omega⟩ (by omega) (by omega) (by omega) (Nat.le_refl _) hbw


set_option maxRecDepth 100000 in
set_option maxHeartbeats 2000000 in
theorem rdivw_ttn (oa ob : Option Addr) (la ca lb cb B : Nat) (xa xb : List Nat) (w : World) (hla : la ≤ 5000000) (hlb : lb ≤ 5000000) (hlbc : lb ≤ cb) (hxa : xa.length = la) (hxb : xb.length = lb) (ata : At .u32 w oa xa) (atb : At .u32 w ob xb) (oka : Ok 65536 xa) (isb : Hid (Is 65536 xb B)) (h0 : Hid (0 < B)) (hr : Hid (num 65536 xa % B = 0)) :
    Calls Tryz.prog 92 #[.agg #[.bool true, .slice oa la ca], .agg #[.bool true, .slice ob lb cb]] w (RDWPost w (la + lb + 3) (zv true (num 65536 xa) / zv true B) (zv true (num 65536 xa) % zv true B)) := by
  go_enter Tryz.func92, Tryz.ntmps92
  go_wp2_with fail
  have hb0 : Below w.heap.size w ((((w.alloc (Obj.cells #[Value.bool true, Value.slice oa la ca] 69)).alloc (Obj.cells #[Value.bool true, Value.slice ob lb cb] 69)).alloc (Obj.cells #[Value.bool false, Value.slice none 0 0] 69)).alloc (Obj.cells #[Value.bool false, Value.slice none 0 0] 69)) := ((((Below.refl _ _).alloc (Nat.le_refl _) _).alloc (by simp) _).alloc (by simp; omega) _).alloc (by simp; omega) _
  have pa := (((Pair.new w (.bool true) (.slice oa la ca) 69).alloc (Obj.cells #[Value.bool true, Value.slice ob lb cb] 69)).alloc (Obj.cells #[Value.bool false, Value.slice none 0 0] 69)).alloc (Obj.cells #[Value.bool false, Value.slice none 0 0] 69)
  have pb := ((Pair.newAt (w.alloc (Obj.cells #[Value.bool true, Value.slice oa la ca] 69)) (w.heap.size + 1) (by simp) (.bool true) (.slice ob lb cb) 69).alloc (Obj.cells #[Value.bool false, Value.slice none 0 0] 69)).alloc (Obj.cells #[Value.bool false, Value.slice none 0 0] 69)
  have p4 := (Pair.newAt ((w.alloc (Obj.cells #[Value.bool true, Value.slice oa la ca] 69)).alloc (Obj.cells #[Value.bool true, Value.slice ob lb cb] 69)) (w.heap.size + 1 + 1) (by simp) (.bool false) (.slice none 0 0) 69).alloc (Obj.cells #[Value.bool false, Value.slice none 0 0] 69)
  have p5 := Pair.newAt (((w.alloc (Obj.cells #[Value.bool true, Value.slice oa la ca] 69)).alloc (Obj.cells #[Value.bool true, Value.slice ob lb cb] 69)).alloc (Obj.cells #[Value.bool false, Value.slice none 0 0] 69)) (w.heap.size + 1 + 1 + 1) (by simp) (.bool false) (.slice none 0 0) 69
  have ax := (((ata.alloc (Obj.cells #[Value.bool true, Value.slice oa la ca] 69)).alloc (Obj.cells #[Value.bool true, Value.slice ob lb cb] 69)).alloc (Obj.cells #[Value.bool false, Value.slice none 0 0] 69)).alloc (Obj.cells #[Value.bool false, Value.slice none 0 0] 69)
  have ay := (((atb.alloc (Obj.cells #[Value.bool true, Value.slice oa la ca] 69)).alloc (Obj.cells #[Value.bool true, Value.slice ob lb cb] 69)).alloc (Obj.cells #[Value.bool false, Value.slice none 0 0] 69)).alloc (Obj.cells #[Value.bool false, Value.slice none 0 0] 69)
  clear ata atb
  generalize ((((w.alloc (Obj.cells #[Value.bool true, Value.slice oa la ca] 69)).alloc (Obj.cells #[Value.bool true, Value.slice ob lb cb] 69)).alloc (Obj.cells #[Value.bool false, Value.slice none 0 0] 69)).alloc (Obj.cells #[Value.bool false, Value.slice none 0 0] 69)) = w0 at *
  have hl4 := p4.lt
  have hl5 := p5.lt
  refine (rdivmod_any oa ob la ca lb cb xa xb _ (by omega) (by omega) hlbc hxa hxb ax ay oka isb.out.1 isb.out.2.1 (by rw [isb.out.2.2]; exact h0.out)).mono ?_
  rintro e w1 ⟨oq, cq, q, ot, ct, t, rfl, hlq, hlt, atq, att, isq, ist, hmq, hmt, hb1⟩
  rw [isb.out.2.2] at isq ist
  replace pa := pa.below hb1 pa.lt
  replace pb := pb.below hb1 pb.lt
  replace p4 := p4.below hb1 p4.lt
  replace p5 := p5.below hb1 p5.lt
  have ay1 := ay.below hb1
  have hbw := hb0.trans (hb1.mono hb0.size)
  have hz1 := hb1.size
  clear ax ay hb1 hb0
  have a0 := pa.cell0; have b0 := pb.cell0; have b1 := pb.cell1
  have e1 := wdiv_plain (na := true) (nb := true) (x := num 65536 xa) (y := B) (by have := h0.out; omega) (.inr hr.out)
  have ht0 : t.length = 0 := by rw [hr.out] at ist; rw [num_zero (by omega) ist.2.1 ist.2.2]; rfl
  have E1 := hide e1
  clear e1 ay1
  go_wp2_with fail
  refine (rmake false oq q.length cq q _ (by omega) rfl atq isq.1).mono ?_
  rintro e w2 ⟨s1, o1, c1, r1, hs1, rfl, hl1, rs1, is1, hm1, hbel⟩
  rw [isq.2.2] at hs1 is1
  replace pa := pa.below hbel pa.lt
  replace pb := pb.below hbel pb.lt
  replace p4 := p4.below hbel p4.lt
  replace p5 := p5.below hbel p5.lt
  replace a0 := pa.cell0
  replace b0 := pb.cell0
  replace b1 := pb.cell1
  have hz2 := hbel.size
  replace hbw := hbw.trans (hbel.mono hbw.size)
  have atR := att.below hbel
  have RS1 := hide rs1
  clear hbel rs1
  go_wp2_with fail
  refine (rmake false ot 0 ct t _ (by omega) ht0 atR ist.1).mono ?_
  rintro e w3 ⟨s2, o2, c2, r2, hs2, rfl, hl2, rs2, is2, hm2, hbel⟩
  rw [ist.2.2] at hs2 is2
  replace pa := pa.below hbel pa.lt
  replace pb := pb.below hbel pb.lt
  replace p4 := p4.below hbel p4.lt
  replace p5 := p5.below hbel p5.lt
  replace a0 := pa.cell0
  replace b0 := pb.cell0
  replace b1 := pb.cell1
  have hz3 := hbel.size
  replace hbw := hbw.trans (hbel.mono hbw.size)
  have F1 := hide (RS1.out.below hbel)
  have F2 := hide rs2
  clear hbel rs2 RS1 atR a0 b0 b1 pa pb
  have N1 : Hid (NI32 s1 r1 (zv true (num 65536 xa) / zv true B)) := by show NI32 _ _ _; rw [E1.out.1]; exact NI32.mk hs1 is1
  have N2 : Hid (NI32 s2 r2 (zv true (num 65536 xa) % zv true B)) := by show NI32 _ _ _; rw [E1.out.2]; exact NI32.mk hs2 is2
  have c40 := p4.cell0; have c41 := p4.cell1; have f40 := p4.free 0; have f41 := p4.free 1
  have c50 := p5.cell0; have c51 := p5.cell1; have f50 := p5.free 0; have f51 := p5.free 1
  clear hs1 is1 hs2 is2 isq ist
  go_wp2
  refine bodyPost_ret (results_pairsR rfl _ _ _ _ _ _ _ _ rfl rfl ((p4.put _ _).other (by simp) _ |>.other (by simp) _) ((p5.other (by simp) _ |>.other (by simp) _).put _ _)) rfl ?_
  exact RDWPost.ret (H := w.heap.size + 1 + 1) (K := w.heap.size + 1 + 1 + 1) N1.out N2.out hl1 hl2 (by omega) (by omega) F1.out F2.out ⟨by omega, by omega⟩ ⟨by omega, by omega⟩ (by omega) (by omega) (by omega) (Nat.le_refl _) hbw


set_option maxRecDepth 100000 in
set_option maxHeartbeats 2000000 in
theorem rdivw_tts (oa ob : Option Addr) (la ca lb cb B : Nat) (xa xb : List Nat) (w : World) (hla : la ≤ 5000000) (hlb : lb ≤ 5000000) (hlbc : lb ≤ cb) (hxa : xa.length = la) (hxb : xb.length = lb) (ata : At .u32 w oa xa) (atb : At .u32 w ob xb) (oka : Ok 65536 xa) (isb : Hid (Is 65536 xb B)) (h0 : Hid (0 < B)) (hr : Hid (num 65536 xa % B ≠ 0)) :
    Calls Tryz.prog 92 #[.agg #[.bool true, .slice oa la ca], .agg #[.bool true, .slice ob lb cb]] w (RDWPost w (la + lb + 3) (zv true (num 65536 xa) / zv true B) (zv true (num 65536 xa) % zv true B)) := by
  go_enter Tryz.func92, Tryz.ntmps92
  go_wp2_with fail
  have hb0 : Below w.heap.size w ((((w.alloc (Obj.cells #[Value.bool true, Value.slice oa la ca] 69)).alloc (Obj.cells #[Value.bool true, Value.slice ob lb cb] 69)).alloc (Obj.cells #[Value.bool false, Value.slice none 0 0] 69)).alloc (Obj.cells #[Value.bool false, Value.slice none 0 0] 69)) := ((((Below.refl _ _).alloc (Nat.le_refl _) _).alloc (by simp) _).alloc (by simp; omega) _).alloc (by simp; omega) _
  have pa := (((Pair.new w (.bool true) (.slice oa la ca) 69).alloc (Obj.cells #[Value.bool true, Value.slice ob lb cb] 69)).alloc (Obj.cells #[Value.bool false, Value.slice none 0 0] 69)).alloc (Obj.cells #[Value.bool false, Value.slice none 0 0] 69)
  have pb := ((Pair.newAt (w.alloc (Obj.cells #[Value.bool true, Value.slice oa la ca] 69)) (w.heap.size + 1) (by simp) (.bool true) (.slice ob lb cb) 69).alloc (Obj.cells #[Value.bool false, Value.slice none 0 0] 69)).alloc (Obj.cells #[Value.bool false, Value.slice none 0 0] 69)
  have p4 := (Pair.newAt ((w.alloc (Obj.cells #[Value.bool true, Value.slice oa la ca] 69)).alloc (Obj.cells #[Value.bool true, Value.slice ob lb cb] 69)) (w.heap.size + 1 + 1) (by simp) (.bool false) (.slice none 0 0) 69).alloc (Obj.cells #[Value.bool false, Value.slice none 0 0] 69)
  have p5 := Pair.newAt (((w.alloc (Obj.cells #[Value.bool true, Value.slice oa la ca] 69)).alloc (Obj.cells #[Value.bool true, Value.slice ob lb cb] 69)).alloc (Obj.cells #[Value.bool false, Value.slice none 0 0] 69)) (w.heap.size + 1 + 1 + 1) (by simp) (.bool false) (.slice none 0 0) 69
  have ax := (((ata.alloc (Obj.cells #[Value.bool true, Value.slice oa la ca] 69)).alloc (Obj.cells #[Value.bool true, Value.slice ob lb cb] 69)).alloc (Obj.cells #[Value.bool false, Value.slice none 0 0] 69)).alloc (Obj.cells #[Value.bool false, Value.slice none 0 0] 69)
  have ay := (((atb.alloc (Obj.cells #[Value.bool true, Value.slice oa la ca] 69)).alloc (Obj.cells #[Value.bool true, Value.slice ob lb cb] 69)).alloc (Obj.cells #[Value.bool false, Value.slice none 0 0] 69)).alloc (Obj.cells #[Value.bool false, Value.slice none 0 0] 69)
  clear ata atb
  generalize ((((w.alloc (Obj.cells #[Value.bool true, Value.slice oa la ca] 69)).alloc (Obj.cells #[Value.bool true, Value.slice ob lb cb] 69)).alloc (Obj.cells #[Value.bool false, Value.slice none 0 0] 69)).alloc (Obj.cells #[Value.bool false, Value.slice none 0 0] 69)) = w0 at *
  have hl4 := p4.lt
  have hl5 := p5.lt
  refine (rdivmod_any oa ob la ca lb cb xa xb _ (by omega) (by omega) hlbc hxa hxb ax ay oka isb.out.1 isb.out.2.1 (by rw [isb.out.2.2]; exact h0.out)).mono ?_
  rintro e w1 ⟨oq, cq, q, ot, ct, t, rfl, hlq, hlt, atq, att, isq, ist, hmq, hmt, hb1⟩
  rw [isb.out.2.2] at isq ist
  replace pa := pa.below hb1 pa.lt
  replace pb := pb.below hb1 pb.lt
  replace p4 := p4.below hb1 p4.lt
  replace p5 := p5.below hb1 p5.lt
  have ay1 := ay.below hb1
  have hbw := hb0.trans (hb1.mono hb0.size)
  have hz1 := hb1.size
  clear ax ay hb1 hb0
  have a0 := pa.cell0; have b0 := pb.cell0; have b1 := pb.cell1
  have e1 := wdiv_left (nb := true) (x := num 65536 xa) (y := B) (by have := h0.out; omega) hr.out
  have htl : 0 < t.length := by
    rcases Nat.eq_zero_or_pos t.length with h | h
    · rw [List.length_eq_zero_iff.1 h] at ist; exact absurd ist.2.2.symm hr.out
    · exact h
  have htl' : (0 : Int) < (t.length : Int) := by omega
  have htb : t.length ≤ lb := hmt
  have E1 := hide e1
  have HLE : Hid (num 65536 xa % B ≤ B) := Nat.le_of_lt (Nat.mod_lt _ h0.out)
  clear e1
  go_wp2_with fail
  replace pa := pa.alloc (Obj.cells #[Value.int IntKind.u32 1] 76)
  replace pb := pb.alloc (Obj.cells #[Value.int IntKind.u32 1] 76)
  replace p4 := p4.alloc (Obj.cells #[Value.int IntKind.u32 1] 76)
  replace p5 := p5.alloc (Obj.cells #[Value.int IntKind.u32 1] 76)
  have aq := atq.alloc (Obj.cells #[Value.int IntKind.u32 1] 76)
  have at' := att.alloc (Obj.cells #[Value.int IntKind.u32 1] 76)
  have ay2 := ay1.alloc (Obj.cells #[Value.int IntKind.u32 1] 76)
  replace hbw := hbw.alloc hbw.size (Obj.cells #[Value.int IntKind.u32 1] 76)
  clear atq att ay1
  have hza : (w1.alloc (Obj.cells #[Value.int IntKind.u32 1] 76)).heap.size = w1.heap.size + 1 := by simp
  refine (radd_any oq (some ⟨w1.heap.size, 0, none⟩) q.length cq 1 1 q [1] _ (by omega) (by omega) rfl rfl aq (lit32 w1) isq.1 ok1).mono ?_
  rintro e w2 ⟨o5, c5, y5, rfl, hl5', at5, is5, hm5, hbel⟩
  rw [isq.2.2, show num 65536 [1] = 1 from rfl] at is5
  replace pa := pa.below hbel pa.lt
  replace pb := pb.below hbel pb.lt
  replace p4 := p4.below hbel p4.lt
  replace p5 := p5.below hbel p5.lt
  replace a0 := pa.cell0
  replace b0 := pb.cell0
  replace b1 := pb.cell1
  have hz2 := hbel.size
  replace hbw := hbw.trans (hbel.mono hbw.size)
  have att := at'.below hbel
  have ay3 := ay2.below hbel
  clear hbel aq at' ay2
  go_wp2_with fail
  refine (rsub_any ob ot lb cb t.length ct xb t _ (by omega) htb hxb rfl ay3 att isb.out.1 ist.1 (by rw [isb.out.2.2, ist.2.2]; exact HLE.out)).mono ?_
  rintro e w3 ⟨o6, c6, y6, rfl, hl6, at6, is6, hm6, hbel⟩
  rw [isb.out.2.2, ist.2.2] at is6
  replace pa := pa.below hbel pa.lt
  replace pb := pb.below hbel pb.lt
  replace p4 := p4.below hbel p4.lt
  replace p5 := p5.below hbel p5.lt
  replace a0 := pa.cell0
  replace b0 := pb.cell0
  replace b1 := pb.cell1
  have hz3 := hbel.size
  replace hbw := hbw.trans (hbel.mono hbw.size)
  have at5' := at5.below hbel
  clear hbel at5 att ay3
  go_wp2_with fail
  refine (rmake false o5 y5.length c5 y5 _ (by omega) rfl at5' is5.1).mono ?_
  rintro e w4 ⟨s1, o1, c1, r1, hs1, rfl, hl1, rs1, is1, hm1, hbel⟩
  rw [is5.2.2] at hs1 is1
  replace pa := pa.below hbel pa.lt
  replace pb := pb.below hbel pb.lt
  replace p4 := p4.below hbel p4.lt
  replace p5 := p5.below hbel p5.lt
  replace a0 := pa.cell0
  replace b0 := pb.cell0
  replace b1 := pb.cell1
  have hz4 := hbel.size
  replace hbw := hbw.trans (hbel.mono hbw.size)
  have atR := at6.below hbel
  have RS1 := hide rs1
  clear hbel rs1
  go_wp2_with fail
  refine (rmake false o6 y6.length c6 y6 _ (by omega) rfl atR is6.1).mono ?_
  rintro e w5 ⟨s2, o2, c2, r2, hs2, rfl, hl2, rs2, is2, hm2, hbel⟩
  rw [is6.2.2] at hs2 is2
  replace pa := pa.below hbel pa.lt
  replace pb := pb.below hbel pb.lt
  replace p4 := p4.below hbel p4.lt
  replace p5 := p5.below hbel p5.lt
  replace a0 := pa.cell0
  replace b0 := pb.cell0
  replace b1 := pb.cell1
  have hz5 := hbel.size
  replace hbw := hbw.trans (hbel.mono hbw.size)
  have F1 := hide (RS1.out.below hbel)
  have F2 := hide rs2
  clear hbel rs2 RS1 atR a0 b0 b1 pa pb
  have N1 : Hid (NI32 s1 r1 (zv true (num 65536 xa) / zv true B)) := by show NI32 _ _ _; rw [E1.out.1]; exact NI32.mk hs1 is1
  have N2 : Hid (NI32 s2 r2 (zv true (num 65536 xa) % zv true B)) := by show NI32 _ _ _; rw [E1.out.2]; exact NI32.mk hs2 is2
  have c40 := p4.cell0; have c41 := p4.cell1; have f40 := p4.free 0; have f41 := p4.free 1
  have c50 := p5.cell0; have c51 := p5.cell1; have f50 := p5.free 0; have f51 := p5.free 1
  clear hs1 is1 hs2 is2 isq ist
  go_wp2
  refine bodyPost_ret (results_pairsR rfl _ _ _ _ _ _ _ _ rfl rfl ((p4.put _ _).other (by simp) _ |>.other (by simp) _) ((p5.other (by simp) _ |>.other (by simp) _).put _ _)) rfl ?_
  exact RDWPost.ret (H := w.heap.size + 1 + 1) (K := w.heap.size + 1 + 1 + 1) N1.out N2.out hl1 hl2 (by omega) (by omega) F1.out F2.out ⟨by omega, by omega⟩ ⟨by omega, by omega⟩ (by omega) (by omega) (by omega) (Nat.le_refl _) hbw


theorem rdivwz (s t : Bool) (oa ob : Option Addr) (la ca lb cb : Nat) (xa xb : List Nat) (w : World) (hla : la ≤ 5000000) (hlb : lb ≤ 5000000) (hlbc : lb ≤ cb) (hxa : xa.length = la) (hxb : xb.length = lb) (ata : At .u32 w oa xa) (atb : At .u32 w ob xb) (z u : Int) (hz : Hid (NI32 s xa z)) (hu : Hid (NI32 t xb u)) (h0 : Hid (u ≠ 0)) :
    Calls Tryz.prog 92 #[.agg #[.bool s, .slice oa la ca], .agg #[.bool t, .slice ob lb cb]] w (RDWPost w (la + lb + 3) (z / u) (z % u)) := by
  have hB : Hid (0 < u.natAbs) := by have := h0.out; show 0 < _; omega
  have v1 := hz.out.nv
  have v2 : zv t u.natAbs = u := by rw [← hu.out.2.2.2]; exact hu.out.nv.2
  rw [← v1.2, ← v2]
  cases s
  · cases t
    · exact rdivw_ffn oa ob la ca lb cb _ xa xb w hla hlb hlbc hxa hxb ata atb v1.1 hu.out.2 hB
    · exact rdivw_ftn oa ob la ca lb cb _ xa xb w hla hlb hlbc hxa hxb ata atb v1.1 hu.out.2 hB
  · by_cases hr : num 65536 xa % u.natAbs = 0
    · cases t
      · exact rdivw_tfn oa ob la ca lb cb _ xa xb w hla hlb hlbc hxa hxb ata atb v1.1 hu.out.2 hB hr
      · exact rdivw_ttn oa ob la ca lb cb _ xa xb w hla hlb hlbc hxa hxb ata atb v1.1 hu.out.2 hB hr
    · cases t
      · exact rdivw_tfs oa ob la ca lb cb _ xa xb w hla hlb hlbc hxa hxb ata atb v1.1 hu.out.2 hB hr
      · exact rdivw_tts oa ob la ca lb cb _ xa xb w hla hlb hlbc hxa hxb ata atb v1.1 hu.out.2 hB hr

end Go.Proofs.YtckijnlolmbdiaaGreatDoor

namespace Go.Proofs.YtckijnlolmbdiaaGreatDoor
open Go.RowKit

theorem rpowL (n : Int) (k : Nat) (w : World) (hn : n = (k : Int)) (hk : k ≤ 8192) : Calls Tryz.prog 91 #[.int .i64 10, .int .i64 n] w fun e w' => (∃ o l c, e = .returned (.slice o l c) ∧ Hid (Rl w' o l c (10 ^ k) 1800)) ∧ Below w.heap.size w w' := by
  subst hn
  refine (rpow10 k hk w).mono ?_
  rintro e w' ⟨o, c, r, rfl, hle, hat, his, hm, hb⟩
  exact ⟨⟨o, r.length, c, rfl, r, rfl, hle, hm, hat, his⟩, hb⟩

theorem rmulL (oa ob : Option Addr) (la ca lb cb x y m p : Nat) (w : World) (h1 : Rl w oa la ca x m) (h2 : Rl w ob lb cb y p) (hm : m ≤ 100000) (hp : p ≤ 100000) : Calls Tryz.prog 90 #[.slice oa la ca, .slice ob lb cb] w fun e w' => (∃ o l c, e = .returned (.slice o l c) ∧ Hid (Rl w' o l c (x * y) (m + p))) ∧ Below w.heap.size w w' := by
  obtain ⟨r, g1, g2, g3, g4, g5⟩ := h1
  obtain ⟨s, f1, f2, f3, f4, f5⟩ := h2
  have g := rmul_any oa ob la ca lb cb r s w (by omega) (by omega) g1 f1 g4 f4 g5.1 f5.1
  rw [g5.2.2, f5.2.2] at g
  refine g.mono ?_
  rintro e w' ⟨o, c, y, rfl, hle, hat, his, hm, hb⟩
  exact ⟨⟨o, y.length, c, rfl, y, rfl, hle, by omega, hat, his⟩, hb⟩

theorem raddL (oa ob : Option Addr) (la ca lb cb x y m p : Nat) (w : World) (h1 : Rl w oa la ca x m) (h2 : Rl w ob lb cb y p) (hm : m ≤ 100000) (hp : p ≤ 100000) : Calls Tryz.prog 94 #[.slice oa la ca, .slice ob lb cb] w fun e w' => (∃ o l c, e = .returned (.slice o l c) ∧ Hid (Rl w' o l c (x + y) (max m p + 1))) ∧ Below w.heap.size w w' := by
  obtain ⟨r, g1, g2, g3, g4, g5⟩ := h1
  obtain ⟨s, f1, f2, f3, f4, f5⟩ := h2
  have g := radd_fresh oa ob la ca lb cb r s w (by omega) (by omega) g1 f1 g4 f4 g5.1 f5.1
  rw [g5.2.2, f5.2.2] at g
  refine g.mono ?_
  rintro e w' ⟨o, c, y, rfl, hle, hres, his, hm, hb⟩
  exact ⟨⟨o, y.length, c, rfl, y, rfl, hle, by omega, hres.1, his⟩, hb⟩

theorem rcmpL (oa ob : Option Addr) (la ca lb cb x y m p : Nat) (z : Int) (w : World) (h1 : Rl w oa la ca x m) (h2 : Rl w ob lb cb y p) (hm : m ≤ 100000) (hp : p ≤ 100000) (hz : cmpN x y = z) : Calls Tryz.prog 93 #[.slice oa la ca, .slice ob lb cb] w fun e w' => e = .returned (.int .i64 z) ∧ Below w.heap.size w w' := by
  obtain ⟨r, g1, g2, g3, g4, g5⟩ := h1
  obtain ⟨s, f1, f2, f3, f4, f5⟩ := h2
  exact rcmp_any oa ob la ca lb cb r s w g2 (by omega) f2 (by omega) g1 f1 g4 f4 g5.1 f5.1 z (by rw [g5.2.2, f5.2.2]; exact hz)

theorem raddG (s1 : Bool) (o1 : Option Addr) (l1 c1 : Nat) (s2 : Bool) (o2 : Option Addr) (l2 c2 : Nat) (z u : Int) (m p lo lo' : Nat) (w : World) (h1 : RI w s1 o1 l1 c1 z m lo) (h2 : RI w s2 o2 l2 c2 u p lo') (hm : m ≤ 100000) (hp : p ≤ 100000) :
    Calls Tryz.prog 96 #[.agg #[.bool s1, .slice o1 l1 c1], .agg #[.bool s2, .slice o2 l2 c2]] w fun e w' => (∃ s o l c, e = .returned (.agg #[.bool s, .slice o l c]) ∧ Hid (RI w' s o l c (z + u) (max m p + 2) w.heap.size)) ∧ Below w.heap.size w w' := by
  obtain ⟨x, g1, g2, g3, g4, g5, g6⟩ := h1
  obtain ⟨y, f1, f2, f3, f4, f5, f6⟩ := h2
  refine (raddz s1 s2 o1 o2 l1 c1 l2 c2 x y w (by omega) (by omega) g2 f2 g1 f1 g5.1 f5.1 z u ⟨g4, g6⟩ ⟨f4, f6⟩).mono ?_
  rintro e w' ⟨s, o', c', r', hs, rfl, hle, hres, his, hlen, hb⟩
  exact ⟨⟨s, o', r'.length, c', rfl, r', rfl, hle, by omega, hs.out, hres, his⟩, hb⟩

theorem rmulG (s1 : Bool) (o1 : Option Addr) (l1 c1 : Nat) (s2 : Bool) (o2 : Option Addr) (l2 c2 : Nat) (z u : Int) (m p lo lo' : Nat) (w : World) (h1 : RI w s1 o1 l1 c1 z m lo) (h2 : RI w s2 o2 l2 c2 u p lo') (hm : m ≤ 100000) (hp : p ≤ 100000) :
    Calls Tryz.prog 97 #[.agg #[.bool s1, .slice o1 l1 c1], .agg #[.bool s2, .slice o2 l2 c2]] w fun e w' => (∃ s o l c, e = .returned (.agg #[.bool s, .slice o l c]) ∧ Hid (RI w' s o l c (z * u) (m + p + 1) w.heap.size)) ∧ Below w.heap.size w w' := by
  obtain ⟨x, g1, g2, g3, g4, g5, g6⟩ := h1
  obtain ⟨y, f1, f2, f3, f4, f5, f6⟩ := h2
  refine (rmulz s1 s2 o1 o2 l1 c1 l2 c2 x y w (by omega) (by omega) g2 f2 g1 f1 g5.1 f5.1 z u (NI32.nv ⟨g4, g6⟩) (NI32.nv ⟨f4, f6⟩)).mono ?_
  rintro e w' ⟨s, o', c', r', hs, rfl, hle, hres, his, hlen, hb⟩
  exact ⟨⟨s, o', r'.length, c', rfl, r', rfl, hle, by omega, hs.out, hres, his⟩, hb⟩

theorem rdivG (s1 : Bool) (o1 : Option Addr) (l1 c1 : Nat) (s2 : Bool) (o2 : Option Addr) (l2 c2 : Nat) (z u : Int) (m p lo lo' : Nat) (w : World) (h1 : RI w s1 o1 l1 c1 z m lo) (h2 : RI w s2 o2 l2 c2 u p lo') (hm : m ≤ 100000) (hp : p ≤ 100000) (h0 : u ≠ 0) :
    Calls Tryz.prog 92 #[.agg #[.bool s1, .slice o1 l1 c1], .agg #[.bool s2, .slice o2 l2 c2]] w fun e w' => (∃ s o l c s' o' l' c', e = .returned (.tuple #[.agg #[.bool s, .slice o l c], .agg #[.bool s', .slice o' l' c']]) ∧ Hid (RI w' s o l c (z / u) (m + p + 3) w.heap.size) ∧ Hid (RI w' s' o' l' c' (z % u) (m + p + 3) w.heap.size)) ∧ Below w.heap.size w w' := by
  obtain ⟨x, g1, g2, g3, g4, g5, g6⟩ := h1
  obtain ⟨y, f1, f2, f3, f4, f5, f6⟩ := h2
  refine (rdivwz s1 s2 o1 o2 l1 c1 l2 c2 x y w (by omega) (by omega) f2 g1 f1 g5.1 f5.1 z u ⟨g4, g6⟩ ⟨f4, f6⟩ h0).mono ?_
  rintro e w' ⟨s, o, c, r, s', o', c', r', rfl, n1, n2, e1, e2, m1, m2, q1, q2, hb⟩
  exact ⟨⟨s, o, r.length, c, s', o', r'.length, c', rfl, ⟨r, rfl, e1, by omega, n1.out.1, q1.out, n1.out.2⟩, ⟨r', rfl, e2, by omega, n2.out.1, q2.out, n2.out.2⟩⟩, hb⟩

end Go.Proofs.YtckijnlolmbdiaaGreatDoor

namespace Go.Proofs.YtckijnlolmbdiaaGreatDoor
open Go.RowKit

theorem Blk.four {w : World} {b : Nat} {x0 x1 x2 x3 : Value} {t : TypeId} (h : Blk w b #[x0, x1, x2, x3] t) : w.cell? ⟨b, 0, none⟩ = some x0 ∧ w.cell? ⟨b, 1, none⟩ = some x1 ∧ w.cell? ⟨b, 2, none⟩ = some x2 ∧ w.cell? ⟨b, 3, none⟩ = some x3 := ⟨h.cell 0, h.cell 1, h.cell 2, h.cell 3⟩
theorem Blk.two {w : World} {b : Nat} {x0 x1 : Value} {t : TypeId} (h : Blk w b #[x0, x1] t) : w.cell? ⟨b, 0, none⟩ = some x0 ∧ w.cell? ⟨b, 1, none⟩ = some x1 := ⟨h.cell 0, h.cell 1⟩
theorem Blk.on {w w' : World} {b : Nat} {cs : Array Value} {t : TypeId} (h : Hid (Blk w b cs t)) (hb : Below w.heap.size w w') : Hid (Blk w' b cs t) := h.out.below hb h.out.lt
theorem Blk.up {w : World} {b : Nat} {cs : Array Value} {t : TypeId} (h : Hid (Blk w b cs t)) (o : Obj) : Hid (Blk (w.alloc o) b cs t) := h.out.alloc o

end Go.Proofs.YtckijnlolmbdiaaGreatDoor

namespace Go.Proofs.YtckijnlolmbdiaaGreatDoor
open Go.RowKit

/-- Is the greater neighbour taken? -/
def greaterB (m : Nat) (neg odd : Bool) (half : Int) : Bool :=
  match m with
  | 0 => true
  | 1 => false
  | 2 => neg
  | 3 => !neg
  | 4 => if half = 0 then odd else decide (0 < half)
  | 5 => if half = 0 then neg else decide (0 < half)
  | 6 => if half = 0 then !neg else decide (0 < half)
  | _ => if half = 0 then !odd else decide (0 < half)

set_option maxHeartbeats 1000000 in
theorem greater_0z (o : Option Addr) (c : Nat) (s neg : Bool) (half : Int) (w : World) (hh : half = -1 ∨ half = 0 ∨ half = 1)  : Calls Tryz.prog 95 #[.int .i64 0, .agg #[.bool s, .slice o 0 c], .bool neg, .int .i64 half] w fun e w' => e = .returned (.bool (greaterB 0 neg false half)) ∧ Below w.heap.size w w' := by
  rcases hh with rfl | rfl | rfl <;> cases neg
  all_goals
    go_enter Tryz.func95, Tryz.ntmps95
    go_wp2
    go_ret
    exact ⟨rfl, (Below.refl _ _).alloc (Nat.le_refl _) _⟩

set_option maxHeartbeats 1000000 in
theorem greater_0e (bk of l c x : Nat) (s neg : Bool) (half : Int) (w : World) (hh : half = -1 ∨ half = 0 ∨ half = 1) (hc : w.cell? ⟨bk, of, none⟩ = some (.int .u32 (x : Int))) (hb : bk < w.heap.size) (hx : x % 2 = 0) (hl : l ≤ 1000000) : Calls Tryz.prog 95 #[.int .i64 0, .agg #[.bool s, .slice (some ⟨bk, of, none⟩) (l + 1) c], .bool neg, .int .i64 half] w fun e w' => e = .returned (.bool (greaterB 0 neg false half)) ∧ Below w.heap.size w w' := by
  have h1 : (x : Int).tmod 2 = 0 := by
    have := hx
    rw [Int.tmod_eq_emod_of_nonneg (by omega)]
    omega
  have h2 : (0 : Int) < (l : Int) + 1 := by omega
  have h3 : (w.alloc (.cells #[.bool s, .slice (some ⟨bk, of, none⟩) (l + 1) c] 69)).cell? ⟨bk, of, none⟩ = some (.int .u32 (x : Int)) := by
    rw [World.cell?_alloc_past _ _ _ hb]; exact hc
  clear hx hc
  rcases hh with rfl | rfl | rfl <;> cases neg
  all_goals
    go_enter Tryz.func95, Tryz.ntmps95
    go_wp2
    go_ret
    exact ⟨rfl, (Below.refl _ _).alloc (Nat.le_refl _) _⟩

set_option maxHeartbeats 1000000 in
theorem greater_0o (bk of l c x : Nat) (s neg : Bool) (half : Int) (w : World) (hh : half = -1 ∨ half = 0 ∨ half = 1) (hc : w.cell? ⟨bk, of, none⟩ = some (.int .u32 (x : Int))) (hb : bk < w.heap.size) (hx : x % 2 = 1) (hl : l ≤ 1000000) : Calls Tryz.prog 95 #[.int .i64 0, .agg #[.bool s, .slice (some ⟨bk, of, none⟩) (l + 1) c], .bool neg, .int .i64 half] w fun e w' => e = .returned (.bool (greaterB 0 neg true half)) ∧ Below w.heap.size w w' := by
  have h1 : (x : Int).tmod 2 = 1 := by
    have := hx
    rw [Int.tmod_eq_emod_of_nonneg (by omega)]
    omega
  have h2 : (0 : Int) < (l : Int) + 1 := by omega
  have h3 : (w.alloc (.cells #[.bool s, .slice (some ⟨bk, of, none⟩) (l + 1) c] 69)).cell? ⟨bk, of, none⟩ = some (.int .u32 (x : Int)) := by
    rw [World.cell?_alloc_past _ _ _ hb]; exact hc
  clear hx hc
  rcases hh with rfl | rfl | rfl <;> cases neg
  all_goals
    go_enter Tryz.func95, Tryz.ntmps95
    go_wp2
    go_ret
    exact ⟨rfl, (Below.refl _ _).alloc (Nat.le_refl _) _⟩

set_option maxHeartbeats 1000000 in
theorem greater_1z (o : Option Addr) (c : Nat) (s neg : Bool) (half : Int) (w : World) (hh : half = -1 ∨ half = 0 ∨ half = 1)  : Calls Tryz.prog 95 #[.int .i64 1, .agg #[.bool s, .slice o 0 c], .bool neg, .int .i64 half] w fun e w' => e = .returned (.bool (greaterB 1 neg false half)) ∧ Below w.heap.size w w' := by
  rcases hh with rfl | rfl | rfl <;> cases neg
  all_goals
    go_enter Tryz.func95, Tryz.ntmps95
    go_wp2
    go_ret
    exact ⟨rfl, (Below.refl _ _).alloc (Nat.le_refl _) _⟩

set_option maxHeartbeats 1000000 in
theorem greater_1e (bk of l c x : Nat) (s neg : Bool) (half : Int) (w : World) (hh : half = -1 ∨ half = 0 ∨ half = 1) (hc : w.cell? ⟨bk, of, none⟩ = some (.int .u32 (x : Int))) (hb : bk < w.heap.size) (hx : x % 2 = 0) (hl : l ≤ 1000000) : Calls Tryz.prog 95 #[.int .i64 1, .agg #[.bool s, .slice (some ⟨bk, of, none⟩) (l + 1) c], .bool neg, .int .i64 half] w fun e w' => e = .returned (.bool (greaterB 1 neg false half)) ∧ Below w.heap.size w w' := by
  have h1 : (x : Int).tmod 2 = 0 := by
    have := hx
    rw [Int.tmod_eq_emod_of_nonneg (by omega)]
    omega
  have h2 : (0 : Int) < (l : Int) + 1 := by omega
  have h3 : (w.alloc (.cells #[.bool s, .slice (some ⟨bk, of, none⟩) (l + 1) c] 69)).cell? ⟨bk, of, none⟩ = some (.int .u32 (x : Int)) := by
    rw [World.cell?_alloc_past _ _ _ hb]; exact hc
  clear hx hc
  rcases hh with rfl | rfl | rfl <;> cases neg
  all_goals
    go_enter Tryz.func95, Tryz.ntmps95
    go_wp2
    go_ret
    exact ⟨rfl, (Below.refl _ _).alloc (Nat.le_refl _) _⟩

set_option maxHeartbeats 1000000 in
theorem greater_1o (bk of l c x : Nat) (s neg : Bool) (half : Int) (w : World) (hh : half = -1 ∨ half = 0 ∨ half = 1) (hc : w.cell? ⟨bk, of, none⟩ = some (.int .u32 (x : Int))) (hb : bk < w.heap.size) (hx : x % 2 = 1) (hl : l ≤ 1000000) : Calls Tryz.prog 95 #[.int .i64 1, .agg #[.bool s, .slice (some ⟨bk, of, none⟩) (l + 1) c], .bool neg, .int .i64 half] w fun e w' => e = .returned (.bool (greaterB 1 neg true half)) ∧ Below w.heap.size w w' := by
  have h1 : (x : Int).tmod 2 = 1 := by
    have := hx
    rw [Int.tmod_eq_emod_of_nonneg (by omega)]
    omega
  have h2 : (0 : Int) < (l : Int) + 1 := by omega
  have h3 : (w.alloc (.cells #[.bool s, .slice (some ⟨bk, of, none⟩) (l + 1) c] 69)).cell? ⟨bk, of, none⟩ = some (.int .u32 (x : Int)) := by
    rw [World.cell?_alloc_past _ _ _ hb]; exact hc
  clear hx hc
  rcases hh with rfl | rfl | rfl <;> cases neg
  all_goals
    go_enter Tryz.func95, Tryz.ntmps95
    go_wp2
    go_ret
    exact ⟨rfl, (Below.refl _ _).alloc (Nat.le_refl _) _⟩

set_option maxHeartbeats 1000000 in
theorem greater_2z (o : Option Addr) (c : Nat) (s neg : Bool) (half : Int) (w : World) (hh : half = -1 ∨ half = 0 ∨ half = 1)  : Calls Tryz.prog 95 #[.int .i64 2, .agg #[.bool s, .slice o 0 c], .bool neg, .int .i64 half] w fun e w' => e = .returned (.bool (greaterB 2 neg false half)) ∧ Below w.heap.size w w' := by
  rcases hh with rfl | rfl | rfl <;> cases neg
  all_goals
    go_enter Tryz.func95, Tryz.ntmps95
    go_wp2
    go_ret
    exact ⟨rfl, (Below.refl _ _).alloc (Nat.le_refl _) _⟩

set_option maxHeartbeats 1000000 in
theorem greater_2e (bk of l c x : Nat) (s neg : Bool) (half : Int) (w : World) (hh : half = -1 ∨ half = 0 ∨ half = 1) (hc : w.cell? ⟨bk, of, none⟩ = some (.int .u32 (x : Int))) (hb : bk < w.heap.size) (hx : x % 2 = 0) (hl : l ≤ 1000000) : Calls Tryz.prog 95 #[.int .i64 2, .agg #[.bool s, .slice (some ⟨bk, of, none⟩) (l + 1) c], .bool neg, .int .i64 half] w fun e w' => e = .returned (.bool (greaterB 2 neg false half)) ∧ Below w.heap.size w w' := by
  have h1 : (x : Int).tmod 2 = 0 := by
    have := hx
    rw [Int.tmod_eq_emod_of_nonneg (by omega)]
    omega
  have h2 : (0 : Int) < (l : Int) + 1 := by omega
  have h3 : (w.alloc (.cells #[.bool s, .slice (some ⟨bk, of, none⟩) (l + 1) c] 69)).cell? ⟨bk, of, none⟩ = some (.int .u32 (x : Int)) := by
    rw [World.cell?_alloc_past _ _ _ hb]; exact hc
  clear hx hc
  rcases hh with rfl | rfl | rfl <;> cases neg
  all_goals
    go_enter Tryz.func95, Tryz.ntmps95
    go_wp2
    go_ret
    exact ⟨rfl, (Below.refl _ _).alloc (Nat.le_refl _) _⟩

set_option maxHeartbeats 1000000 in
theorem greater_2o (bk of l c x : Nat) (s neg : Bool) (half : Int) (w : World) (hh : half = -1 ∨ half = 0 ∨ half = 1) (hc : w.cell? ⟨bk, of, none⟩ = some (.int .u32 (x : Int))) (hb : bk < w.heap.size) (hx : x % 2 = 1) (hl : l ≤ 1000000) : Calls Tryz.prog 95 #[.int .i64 2, .agg #[.bool s, .slice (some ⟨bk, of, none⟩) (l + 1) c], .bool neg, .int .i64 half] w fun e w' => e = .returned (.bool (greaterB 2 neg true half)) ∧ Below w.heap.size w w' := by
  have h1 : (x : Int).tmod 2 = 1 := by
    have := hx
    rw [Int.tmod_eq_emod_of_nonneg (by omega)]
    omega
  have h2 : (0 : Int) < (l : Int) + 1 := by omega
  have h3 : (w.alloc (.cells #[.bool s, .slice (some ⟨bk, of, none⟩) (l + 1) c] 69)).cell? ⟨bk, of, none⟩ = some (.int .u32 (x : Int)) := by
    rw [World.cell?_alloc_past _ _ _ hb]; exact hc
  clear hx hc
  rcases hh with rfl | rfl | rfl <;> cases neg
  all_goals
    go_enter Tryz.func95, Tryz.ntmps95
    go_wp2
    go_ret
    exact ⟨rfl, (Below.refl _ _).alloc (Nat.le_refl _) _⟩

set_option maxHeartbeats 1000000 in
theorem greater_3z (o : Option Addr) (c : Nat) (s neg : Bool) (half : Int) (w : World) (hh : half = -1 ∨ half = 0 ∨ half = 1)  : Calls Tryz.prog 95 #[.int .i64 3, .agg #[.bool s, .slice o 0 c], .bool neg, .int .i64 half] w fun e w' => e = .returned (.bool (greaterB 3 neg false half)) ∧ Below w.heap.size w w' := by
  rcases hh with rfl | rfl | rfl <;> cases neg
  all_goals
    go_enter Tryz.func95, Tryz.ntmps95
    go_wp2
    go_ret
    exact ⟨rfl, (Below.refl _ _).alloc (Nat.le_refl _) _⟩

set_option maxHeartbeats 1000000 in
theorem greater_3e (bk of l c x : Nat) (s neg : Bool) (half : Int) (w : World) (hh : half = -1 ∨ half = 0 ∨ half = 1) (hc : w.cell? ⟨bk, of, none⟩ = some (.int .u32 (x : Int))) (hb : bk < w.heap.size) (hx : x % 2 = 0) (hl : l ≤ 1000000) : Calls Tryz.prog 95 #[.int .i64 3, .agg #[.bool s, .slice (some ⟨bk, of, none⟩) (l + 1) c], .bool neg, .int .i64 half] w fun e w' => e = .returned (.bool (greaterB 3 neg false half)) ∧ Below w.heap.size w w' := by
  have h1 : (x : Int).tmod 2 = 0 := by
    have := hx
    rw [Int.tmod_eq_emod_of_nonneg (by omega)]
    omega
  have h2 : (0 : Int) < (l : Int) + 1 := by omega
  have h3 : (w.alloc (.cells #[.bool s, .slice (some ⟨bk, of, none⟩) (l + 1) c] 69)).cell? ⟨bk, of, none⟩ = some (.int .u32 (x : Int)) := by
    rw [World.cell?_alloc_past _ _ _ hb]; exact hc
  clear hx hc
  rcases hh with rfl | rfl | rfl <;> cases neg
  all_goals
    go_enter Tryz.func95, Tryz.ntmps95
    go_wp2
    go_ret
    exact ⟨rfl, (Below.refl _ _).alloc (Nat.le_refl _) _⟩

set_option maxHeartbeats 1000000 in
theorem greater_3o (bk of l c x : Nat) (s neg : Bool) (half : Int) (w : World) (hh : half = -1 ∨ half = 0 ∨ half = 1) (hc : w.cell? ⟨bk, of, none⟩ = some (.int .u32 (x : Int))) (hb : bk < w.heap.size) (hx : x % 2 = 1) (hl : l ≤ 1000000) : Calls Tryz.prog 95 #[.int .i64 3, .agg #[.bool s, .slice (some ⟨bk, of, none⟩) (l + 1) c], .bool neg, .int .i64 half] w fun e w' => e = .returned (.bool (greaterB 3 neg true half)) ∧ Below w.heap.size w w' := by
  have h1 : (x : Int).tmod 2 = 1 := by
    have := hx
    rw [Int.tmod_eq_emod_of_nonneg (by omega)]
    omega
  have h2 : (0 : Int) < (l : Int) + 1 := by omega
  have h3 : (w.alloc (.cells #[.bool s, .slice (some ⟨bk, of, none⟩) (l + 1) c] 69)).cell? ⟨bk, of, none⟩ = some (.int .u32 (x : Int)) := by
    rw [World.cell?_alloc_past _ _ _ hb]; exact hc
  clear hx hc
  rcases hh with rfl | rfl | rfl <;> cases neg
  all_goals
    go_enter Tryz.func95, Tryz.ntmps95
    go_wp2
    go_ret
    exact ⟨rfl, (Below.refl _ _).alloc (Nat.le_refl _) _⟩

set_option maxHeartbeats 1000000 in
theorem greater_4z (o : Option Addr) (c : Nat) (s neg : Bool) (half : Int) (w : World) (hh : half = -1 ∨ half = 0 ∨ half = 1)  : Calls Tryz.prog 95 #[.int .i64 4, .agg #[.bool s, .slice o 0 c], .bool neg, .int .i64 half] w fun e w' => e = .returned (.bool (greaterB 4 neg false half)) ∧ Below w.heap.size w w' := by
  rcases hh with rfl | rfl | rfl <;> cases neg
  all_goals
    go_enter Tryz.func95, Tryz.ntmps95
    go_wp2
    go_ret
    exact ⟨rfl, (Below.refl _ _).alloc (Nat.le_refl _) _⟩

set_option maxHeartbeats 1000000 in
theorem greater_4e (bk of l c x : Nat) (s neg : Bool) (half : Int) (w : World) (hh : half = -1 ∨ half = 0 ∨ half = 1) (hc : w.cell? ⟨bk, of, none⟩ = some (.int .u32 (x : Int))) (hb : bk < w.heap.size) (hx : x % 2 = 0) (hl : l ≤ 1000000) : Calls Tryz.prog 95 #[.int .i64 4, .agg #[.bool s, .slice (some ⟨bk, of, none⟩) (l + 1) c], .bool neg, .int .i64 half] w fun e w' => e = .returned (.bool (greaterB 4 neg false half)) ∧ Below w.heap.size w w' := by
  have h1 : (x : Int).tmod 2 = 0 := by
    have := hx
    rw [Int.tmod_eq_emod_of_nonneg (by omega)]
    omega
  have h2 : (0 : Int) < (l : Int) + 1 := by omega
  have h3 : (w.alloc (.cells #[.bool s, .slice (some ⟨bk, of, none⟩) (l + 1) c] 69)).cell? ⟨bk, of, none⟩ = some (.int .u32 (x : Int)) := by
    rw [World.cell?_alloc_past _ _ _ hb]; exact hc
  clear hx hc
  rcases hh with rfl | rfl | rfl <;> cases neg
  all_goals
    go_enter Tryz.func95, Tryz.ntmps95
    go_wp2
    go_ret
    exact ⟨rfl, (Below.refl _ _).alloc (Nat.le_refl _) _⟩

set_option maxHeartbeats 1000000 in
theorem greater_4o (bk of l c x : Nat) (s neg : Bool) (half : Int) (w : World) (hh : half = -1 ∨ half = 0 ∨ half = 1) (hc : w.cell? ⟨bk, of, none⟩ = some (.int .u32 (x : Int))) (hb : bk < w.heap.size) (hx : x % 2 = 1) (hl : l ≤ 1000000) : Calls Tryz.prog 95 #[.int .i64 4, .agg #[.bool s, .slice (some ⟨bk, of, none⟩) (l + 1) c], .bool neg, .int .i64 half] w fun e w' => e = .returned (.bool (greaterB 4 neg true half)) ∧ Below w.heap.size w w' := by
  have h1 : (x : Int).tmod 2 = 1 := by
    have := hx
    rw [Int.tmod_eq_emod_of_nonneg (by omega)]
    omega
  have h2 : (0 : Int) < (l : Int) + 1 := by omega
  have h3 : (w.alloc (.cells #[.bool s, .slice (some ⟨bk, of, none⟩) (l + 1) c] 69)).cell? ⟨bk, of, none⟩ = some (.int .u32 (x : Int)) := by
    rw [World.cell?_alloc_past _ _ _ hb]; exact hc
  clear hx hc
  rcases hh with rfl | rfl | rfl <;> cases neg
  all_goals
    go_enter Tryz.func95, Tryz.ntmps95
    go_wp2
    go_ret
    exact ⟨rfl, (Below.refl _ _).alloc (Nat.le_refl _) _⟩

set_option maxHeartbeats 1000000 in
theorem greater_5z (o : Option Addr) (c : Nat) (s neg : Bool) (half : Int) (w : World) (hh : half = -1 ∨ half = 0 ∨ half = 1)  : Calls Tryz.prog 95 #[.int .i64 5, .agg #[.bool s, .slice o 0 c], .bool neg, .int .i64 half] w fun e w' => e = .returned (.bool (greaterB 5 neg false half)) ∧ Below w.heap.size w w' := by
  rcases hh with rfl | rfl | rfl <;> cases neg
  all_goals
    go_enter Tryz.func95, Tryz.ntmps95
    go_wp2
    go_ret
    exact ⟨rfl, (Below.refl _ _).alloc (Nat.le_refl _) _⟩

set_option maxHeartbeats 1000000 in
theorem greater_5e (bk of l c x : Nat) (s neg : Bool) (half : Int) (w : World) (hh : half = -1 ∨ half = 0 ∨ half = 1) (hc : w.cell? ⟨bk, of, none⟩ = some (.int .u32 (x : Int))) (hb : bk < w.heap.size) (hx : x % 2 = 0) (hl : l ≤ 1000000) : Calls Tryz.prog 95 #[.int .i64 5, .agg #[.bool s, .slice (some ⟨bk, of, none⟩) (l + 1) c], .bool neg, .int .i64 half] w fun e w' => e = .returned (.bool (greaterB 5 neg false half)) ∧ Below w.heap.size w w' := by
  have h1 : (x : Int).tmod 2 = 0 := by
    have := hx
    rw [Int.tmod_eq_emod_of_nonneg (by omega)]
    omega
  have h2 : (0 : Int) < (l : Int) + 1 := by omega
  have h3 : (w.alloc (.cells #[.bool s, .slice (some ⟨bk, of, none⟩) (l + 1) c] 69)).cell? ⟨bk, of, none⟩ = some (.int .u32 (x : Int)) := by
    rw [World.cell?_alloc_past _ _ _ hb]; exact hc
  clear hx hc
  rcases hh with rfl | rfl | rfl <;> cases neg
  all_goals
    go_enter Tryz.func95, Tryz.ntmps95
    go_wp2
    go_ret
    exact ⟨rfl, (Below.refl _ _).alloc (Nat.le_refl _) _⟩

set_option maxHeartbeats 1000000 in
theorem greater_5o (bk of l c x : Nat) (s neg : Bool) (half : Int) (w : World) (hh : half = -1 ∨ half = 0 ∨ half = 1) (hc : w.cell? ⟨bk, of, none⟩ = some (.int .u32 (x : Int))) (hb : bk < w.heap.size) (hx : x % 2 = 1) (hl : l ≤ 1000000) : Calls Tryz.prog 95 #[.int .i64 5, .agg #[.bool s, .slice (some ⟨bk, of, none⟩) (l + 1) c], .bool neg, .int .i64 half] w fun e w' => e = .returned (.bool (greaterB 5 neg true half)) ∧ Below w.heap.size w w' := by
  have h1 : (x : Int).tmod 2 = 1 := by
    have := hx
    rw [Int.tmod_eq_emod_of_nonneg (by omega)]
    omega
  have h2 : (0 : Int) < (l : Int) + 1 := by omega
  have h3 : (w.alloc (.cells #[.bool s, .slice (some ⟨bk, of, none⟩) (l + 1) c] 69)).cell? ⟨bk, of, none⟩ = some (.int .u32 (x : Int)) := by
    rw [World.cell?_alloc_past _ _ _ hb]; exact hc
  clear hx hc
  rcases hh with rfl | rfl | rfl <;> cases neg
  all_goals
    go_enter Tryz.func95, Tryz.ntmps95
    go_wp2
    go_ret
    exact ⟨rfl, (Below.refl _ _).alloc (Nat.le_refl _) _⟩

set_option maxHeartbeats 1000000 in
theorem greater_6z (o : Option Addr) (c : Nat) (s neg : Bool) (half : Int) (w : World) (hh : half = -1 ∨ half = 0 ∨ half = 1)  : Calls Tryz.prog 95 #[.int .i64 6, .agg #[.bool s, .slice o 0 c], .bool neg, .int .i64 half] w fun e w' => e = .returned (.bool (greaterB 6 neg false half)) ∧ Below w.heap.size w w' := by
  rcases hh with rfl | rfl | rfl <;> cases neg
  all_goals
    go_enter Tryz.func95, Tryz.ntmps95
    go_wp2
    go_ret
    exact ⟨rfl, (Below.refl _ _).alloc (Nat.le_refl _) _⟩

set_option maxHeartbeats 1000000 in
theorem greater_6e (bk of l c x : Nat) (s neg : Bool) (half : Int) (w : World) (hh : half = -1 ∨ half = 0 ∨ half = 1) (hc : w.cell? ⟨bk, of, none⟩ = some (.int .u32 (x : Int))) (hb : bk < w.heap.size) (hx : x % 2 = 0) (hl : l ≤ 1000000) : Calls Tryz.prog 95 #[.int .i64 6, .agg #[.bool s, .slice (some ⟨bk, of, none⟩) (l + 1) c], .bool neg, .int .i64 half] w fun e w' => e = .returned (.bool (greaterB 6 neg false half)) ∧ Below w.heap.size w w' := by
  have h1 : (x : Int).tmod 2 = 0 := by
    have := hx
    rw [Int.tmod_eq_emod_of_nonneg (by omega)]
    omega
  have h2 : (0 : Int) < (l : Int) + 1 := by omega
  have h3 : (w.alloc (.cells #[.bool s, .slice (some ⟨bk, of, none⟩) (l + 1) c] 69)).cell? ⟨bk, of, none⟩ = some (.int .u32 (x : Int)) := by
    rw [World.cell?_alloc_past _ _ _ hb]; exact hc
  clear hx hc
  rcases hh with rfl | rfl | rfl <;> cases neg
  all_goals
    go_enter Tryz.func95, Tryz.ntmps95
    go_wp2
    go_ret
    exact ⟨rfl, (Below.refl _ _).alloc (Nat.le_refl _) _⟩

set_option maxHeartbeats 1000000 in
theorem greater_6o (bk of l c x : Nat) (s neg : Bool) (half : Int) (w : World) (hh : half = -1 ∨ half = 0 ∨ half = 1) (hc : w.cell? ⟨bk, of, none⟩ = some (.int .u32 (x : Int))) (hb : bk < w.heap.size) (hx : x % 2 = 1) (hl : l ≤ 1000000) : Calls Tryz.prog 95 #[.int .i64 6, .agg #[.bool s, .slice (some ⟨bk, of, none⟩) (l + 1) c], .bool neg, .int .i64 half] w fun e w' => e = .returned (.bool (greaterB 6 neg true half)) ∧ Below w.heap.size w w' := by
  have h1 : (x : Int).tmod 2 = 1 := by
    have := hx
    rw [Int.tmod_eq_emod_of_nonneg (by omega)]
    omega
  have h2 : (0 : Int) < (l : Int) + 1 := by omega
  have h3 : (w.alloc (.cells #[.bool s, .slice (some ⟨bk, of, none⟩) (l + 1) c] 69)).cell? ⟨bk, of, none⟩ = some (.int .u32 (x : Int)) := by
    rw [World.cell?_alloc_past _ _ _ hb]; exact hc
  clear hx hc
  rcases hh with rfl | rfl | rfl <;> cases neg
  all_goals
    go_enter Tryz.func95, Tryz.ntmps95
    go_wp2
    go_ret
    exact ⟨rfl, (Below.refl _ _).alloc (Nat.le_refl _) _⟩

set_option maxHeartbeats 1000000 in
theorem greater_7z (o : Option Addr) (c : Nat) (s neg : Bool) (half : Int) (w : World) (hh : half = -1 ∨ half = 0 ∨ half = 1)  : Calls Tryz.prog 95 #[.int .i64 7, .agg #[.bool s, .slice o 0 c], .bool neg, .int .i64 half] w fun e w' => e = .returned (.bool (greaterB 7 neg false half)) ∧ Below w.heap.size w w' := by
  rcases hh with rfl | rfl | rfl <;> cases neg
  all_goals
    go_enter Tryz.func95, Tryz.ntmps95
    go_wp2
    go_ret
    exact ⟨rfl, (Below.refl _ _).alloc (Nat.le_refl _) _⟩

set_option maxHeartbeats 1000000 in
theorem greater_7e (bk of l c x : Nat) (s neg : Bool) (half : Int) (w : World) (hh : half = -1 ∨ half = 0 ∨ half = 1) (hc : w.cell? ⟨bk, of, none⟩ = some (.int .u32 (x : Int))) (hb : bk < w.heap.size) (hx : x % 2 = 0) (hl : l ≤ 1000000) : Calls Tryz.prog 95 #[.int .i64 7, .agg #[.bool s, .slice (some ⟨bk, of, none⟩) (l + 1) c], .bool neg, .int .i64 half] w fun e w' => e = .returned (.bool (greaterB 7 neg false half)) ∧ Below w.heap.size w w' := by
  have h1 : (x : Int).tmod 2 = 0 := by
    have := hx
    rw [Int.tmod_eq_emod_of_nonneg (by omega)]
    omega
  have h2 : (0 : Int) < (l : Int) + 1 := by omega
  have h3 : (w.alloc (.cells #[.bool s, .slice (some ⟨bk, of, none⟩) (l + 1) c] 69)).cell? ⟨bk, of, none⟩ = some (.int .u32 (x : Int)) := by
    rw [World.cell?_alloc_past _ _ _ hb]; exact hc
  clear hx hc
  rcases hh with rfl | rfl | rfl <;> cases neg
  all_goals
    go_enter Tryz.func95, Tryz.ntmps95
    go_wp2
    go_ret
    exact ⟨rfl, (Below.refl _ _).alloc (Nat.le_refl _) _⟩

set_option maxHeartbeats 1000000 in
theorem greater_7o (bk of l c x : Nat) (s neg : Bool) (half : Int) (w : World) (hh : half = -1 ∨ half = 0 ∨ half = 1) (hc : w.cell? ⟨bk, of, none⟩ = some (.int .u32 (x : Int))) (hb : bk < w.heap.size) (hx : x % 2 = 1) (hl : l ≤ 1000000) : Calls Tryz.prog 95 #[.int .i64 7, .agg #[.bool s, .slice (some ⟨bk, of, none⟩) (l + 1) c], .bool neg, .int .i64 half] w fun e w' => e = .returned (.bool (greaterB 7 neg true half)) ∧ Below w.heap.size w w' := by
  have h1 : (x : Int).tmod 2 = 1 := by
    have := hx
    rw [Int.tmod_eq_emod_of_nonneg (by omega)]
    omega
  have h2 : (0 : Int) < (l : Int) + 1 := by omega
  have h3 : (w.alloc (.cells #[.bool s, .slice (some ⟨bk, of, none⟩) (l + 1) c] 69)).cell? ⟨bk, of, none⟩ = some (.int .u32 (x : Int)) := by
    rw [World.cell?_alloc_past _ _ _ hb]; exact hc
  clear hx hc
  rcases hh with rfl | rfl | rfl <;> cases neg
  all_goals
    go_enter Tryz.func95, Tryz.ntmps95
    go_wp2
    go_ret
    exact ⟨rfl, (Below.refl _ _).alloc (Nat.le_refl _) _⟩

end Go.Proofs.YtckijnlolmbdiaaGreatDoor

namespace Go.Proofs.YtckijnlolmbdiaaGreatDoor
open Go.RowKit

theorem V_even {f : Nat → Nat} : ∀ n, V 65536 f (n + 1) % 2 = f 0 % 2
  | 0 => by simp [V]
  | n + 1 => by
    have h : V 65536 f (n + 1 + 1) = V 65536 f (n + 1) + f (n + 1) * 65536 ^ (n + 1) := by simp only [V]
    rw [h, Nat.pow_succ, ← Nat.mul_assoc, Nat.add_mod, V_even n]
    have : f (n + 1) * 65536 ^ n * 65536 % 2 = 0 := by omega
    omega

theorem ri_low {W : World} {s : Bool} {o : Option Addr} {l c m lo : Nat} {z : Int} (h : RI W s o (l + 1) c z m lo) : ∃ bk of x : Nat, o = some ⟨bk, of, none⟩ ∧ W.cell? ⟨bk, of, none⟩ = some (.int .u32 (x : Int)) ∧ bk < W.heap.size ∧ (x : Int) % 2 = z % 2 := by
  obtain ⟨r, h1, h2, h3, h4, h5, h6⟩ := h
  rcases h5.1 with e | ⟨b, f, e1, e2, e3⟩
  · subst e; simp at h1
  · refine ⟨b, f, r[0]?.getD 0, e1, e3 0 (by omega), e2, ?_⟩
    have := V_even (f := dg r) l
    rw [← h1] at this
    have h7 : num 65536 r = z.natAbs := h6.2.2
    unfold num at h7
    rw [h7] at this
    simp only [dg] at this
    omega

theorem greater_any (m : Nat) (hm : m < 8) (s : Bool) (o : Option Addr) (l c : Nat) (z : Int) (p lo : Nat) (neg : Bool) (half : Int) (w : World) (h : RI w s o l c z p lo) (hp : p ≤ 1000000) (hh : half = -1 ∨ half = 0 ∨ half = 1) : Calls Tryz.prog 95 #[.int .i64 (m : Int), .agg #[.bool s, .slice o l c], .bool neg, .int .i64 half] w fun e w' => e = .returned (.bool (greaterB m neg (decide (z % 2 = 1)) half)) ∧ Below w.heap.size w w' := by
  have hl : l ≤ p := by obtain ⟨r, h1, h2, h3, h4⟩ := h; exact h3
  cases l with
  | zero =>
    have hz : z % 2 = 0 := by
      obtain ⟨r, h1, h2, h3, h4, h5, h6⟩ := h
      obtain rfl : r = [] := List.eq_nil_of_length_eq_zero (by omega)
      have : (0 : Nat) = z.natAbs := h6.2.2
      omega
    rw [show decide (z % 2 = 1) = false by rw [hz]; rfl]
    have : m = 0 ∨ m = 1 ∨ m = 2 ∨ m = 3 ∨ m = 4 ∨ m = 5 ∨ m = 6 ∨ m = 7 := by omega
    rcases this with rfl | rfl | rfl | rfl | rfl | rfl | rfl | rfl
    · exact greater_0z o c s neg half w hh
    · exact greater_1z o c s neg half w hh
    · exact greater_2z o c s neg half w hh
    · exact greater_3z o c s neg half w hh
    · exact greater_4z o c s neg half w hh
    · exact greater_5z o c s neg half w hh
    · exact greater_6z o c s neg half w hh
    · exact greater_7z o c s neg half w hh
  | succ l =>
    obtain ⟨bk, of, x, rfl, hc, hb, hx⟩ := ri_low h
    have : m = 0 ∨ m = 1 ∨ m = 2 ∨ m = 3 ∨ m = 4 ∨ m = 5 ∨ m = 6 ∨ m = 7 := by omega
    by_cases hz : z % 2 = 1
    · rw [show decide (z % 2 = 1) = true by rw [hz]; rfl]
      rcases this with rfl | rfl | rfl | rfl | rfl | rfl | rfl | rfl
      · exact greater_0o bk of l c x s neg half w hh hc hb (by omega) (by omega)
      · exact greater_1o bk of l c x s neg half w hh hc hb (by omega) (by omega)
      · exact greater_2o bk of l c x s neg half w hh hc hb (by omega) (by omega)
      · exact greater_3o bk of l c x s neg half w hh hc hb (by omega) (by omega)
      · exact greater_4o bk of l c x s neg half w hh hc hb (by omega) (by omega)
      · exact greater_5o bk of l c x s neg half w hh hc hb (by omega) (by omega)
      · exact greater_6o bk of l c x s neg half w hh hc hb (by omega) (by omega)
      · exact greater_7o bk of l c x s neg half w hh hc hb (by omega) (by omega)
    · rw [show decide (z % 2 = 1) = false by simp [hz]]
      rcases this with rfl | rfl | rfl | rfl | rfl | rfl | rfl | rfl
      · exact greater_0e bk of l c x s neg half w hh hc hb (by omega) (by omega)
      · exact greater_1e bk of l c x s neg half w hh hc hb (by omega) (by omega)
      · exact greater_2e bk of l c x s neg half w hh hc hb (by omega) (by omega)
      · exact greater_3e bk of l c x s neg half w hh hc hb (by omega) (by omega)
      · exact greater_4e bk of l c x s neg half w hh hc hb (by omega) (by omega)
      · exact greater_5e bk of l c x s neg half w hh hc hb (by omega) (by omega)
      · exact greater_6e bk of l c x s neg half w hh hc hb (by omega) (by omega)
      · exact greater_7e bk of l c x s neg half w hh hc hb (by omega) (by omega)

end Go.Proofs.YtckijnlolmbdiaaGreatDoor

namespace Go.Proofs.YtckijnlolmbdiaaGreatDoor
open Go.RowKit

theorem is_one : Is 65536 [1] 1 := ⟨fun i => by rcases i with _ | i <;> simp [dg], fun n hn => by
  have : n = 0 := by simpa using hn.symm
  subst this; simp [dg], rfl⟩

theorem at_one (w : World) (b : Nat) (t : TypeId) (h : Blk w b #[.int .u32 1] t) : At .u32 w (some ⟨b, 0, none⟩) [1] :=
  .inr ⟨b, 0, rfl, h.lt, fun i hi => by
    have : i = 0 := by simp at hi; exact hi
    subst this
    exact h.cell 0⟩

theorem rl_one (w : World) (b : Nat) (t : TypeId) (h : Blk w b #[.int .u32 1] t) : Rl w (some ⟨b, 0, none⟩) 1 1 1 1 := ⟨[1], rfl, Nat.le_refl _, Nat.le_refl _, at_one w b t h, is_one⟩

set_option maxHeartbeats 1000000 in
theorem rpower (x : Int) (w : World) : Calls Tryz.prog 46 #[.int .i64 x] w fun e w' => (∃ s o l c, e = .returned (.agg #[.bool s, .slice o l c, .int .i64 x]) ∧ Hid (RI w' s o l c 1 2 (w.heap.size + 1))) ∧ Below w.heap.size w w' := by
  have Br0 := hide ((Blk.newAt w w.heap.size rfl #[.bool false, .slice none 0 0, .int .i64 0] 71).alloc (.cells #[.int .u32 1] 76))
  have R1 := hide (rl_one _ (w.heap.size + 1) 76 (Blk.newAt (w.alloc (.cells #[.bool false, .slice none 0 0, .int .i64 0] 71)) (w.heap.size + 1) (by simp) #[.int .u32 1] 76))
  have HB0 : Hid (Below w.heap.size w ((w.alloc (.cells #[.bool false, .slice none 0 0, .int .i64 0] 71)).alloc (.cells #[.int .u32 1] 76))) := (((Below.refl _ _).alloc (Nat.le_refl _) _).alloc (by simp) _)
  have MK := hide (rmakeI false (some ⟨w.heap.size + 1, 0, none⟩) 1 1 1 1 _ (by omega) R1.out)
  go_enter Tryz.func46, Tryz.ntmps46
  go_wp2_with fail
  refine (MK.out).mono ?_
  rintro e w1 ⟨⟨s, o, l, c, rfl, hz⟩, hb⟩
  have Br1 := Blk.on Br0 hb
  have HB1 := hide (HB0.out.trans (hb.mono HB0.out.size))
  have HZ := hide hz
  have y0 : w1.cell? ⟨w.heap.size, 0, none⟩ = some (.bool false) := Br1.out.cell 0
  have y1 : w1.cell? ⟨w.heap.size, 1, none⟩ = some (.slice none 0 0) := Br1.out.cell 1
  have y2 : w1.cell? ⟨w.heap.size, 2, none⟩ = some (.int .i64 0) := Br1.out.cell 2
  have f0 := Br1.out.free 0
  have f1 := Br1.out.free 1
  have f2 := Br1.out.free 2
  clear hb hz Br0 HB0 R1 MK
  go_wp2
  refine bodyPost_ret (results_num rfl _ _ _ _ _ _ rfl (Br1.out.put3 _ _ _)) rfl ?_
  have hl : w.heap.size < ((w.alloc (.cells #[.bool false, .slice none 0 0, .int .i64 0] 71)).alloc (.cells #[.int .u32 1] 76)).heap.size := by simp; omega
  exact ⟨⟨s, o, l, c, rfl, ((((HZ.out.set hl _).set hl _).set hl _).lo (by simp) (by omega))⟩, ((HB1.out.setCell (Nat.le_refl _) _).setCell (Nat.le_refl _) _).setCell (Nat.le_refl _) _⟩

end Go.Proofs.YtckijnlolmbdiaaGreatDoor

namespace Go.Proofs.YtckijnlolmbdiaaGreatDoor
open Go.RowKit

end Go.Proofs.YtckijnlolmbdiaaGreatDoor

namespace Go.Proofs.YtckijnlolmbdiaaGreatDoor
open Go.RowKit

theorem cmp_three (x y : Nat) : cmpN x y = -1 ∨ cmpN x y = 0 ∨ cmpN x y = 1 := by
  unfold cmpN
  split
  · simp
  · split <;> simp

theorem ri_len {W : World} {s : Bool} {o : Option Addr} {l c m lo : Nat} {z : Int} (h : RI W s o l c z m lo) : l = 0 ↔ z = 0 := by
  obtain ⟨r, h1, h2, h3, h4, h5, h6⟩ := h
  constructor
  · intro h
    obtain rfl : r = [] := List.eq_nil_of_length_eq_zero (by omega)
    have : (0 : Nat) = z.natAbs := h6.2.2
    omega
  · rintro rfl
    have := Is.uniq (by omega) h6 (Is.none (b := 65536) (by omega))
    rw [← h1, this]
    rfl

theorem zvf_ne {z : Int} (h : z ≠ 0) (k : Nat) : zv false (z.natAbs * 10 ^ k) ≠ 0 := by
  have : 0 < z.natAbs * 10 ^ k := Nat.mul_pos (by omega) (Nat.pow_pos (by omega))
  simp only [zv, Bool.false_eq_true, if_false]
  omega

set_option maxRecDepth 100000 in
set_option maxHeartbeats 8000000 in
theorem rto_exact (sx : Bool) (ox : Option Addr) (lx cx : Nat) (ex : Int) (su : Bool) (ou : Option Addr) (lu cu : Nat) (eu : Int) (zx zu : Int) (ka ku lo : Nat) (m : Int) (w : World) (hx : RI w sx ox lx cx zx 1002 lo) (hu : RI w su ou lu cu zu 1002 lo) (hka : ex - min ex eu = (ka : Int)) (hku : eu - min ex eu = (ku : Int)) (hk : ka ≤ 8000 ∧ ku ≤ 8000) (hu0 : zu ≠ 0) (hm : zv sx (zx.natAbs * 10 ^ ka) % zv false (zu.natAbs * 10 ^ ku) = 0) : Calls Tryz.prog 44 #[.agg #[.bool sx, .slice ox lx cx, .int .i64 ex], .agg #[.bool su, .slice ou lu cu, .int .i64 eu], .int .i64 m] w fun e w' => (∃ s o l c, e = .returned (.agg #[.bool s, .slice o l c, .int .i64 (min ex eu)]) ∧ Hid (RI w' s o l c ((zv sx (zx.natAbs * 10 ^ ka) / zv false (zu.natAbs * 10 ^ ku)) * zv false (zu.natAbs * 10 ^ ku)) 8413 0)) ∧ Below w.heap.size w w' := by
  have HM := hide hm
  clear hm
  have HX := hide hx
  have HU := hide hu
  have KA := hide hka
  have KU := hide hku
  have HK := hide hk
  have HU0 := hide hu0
  obtain ⟨e, he⟩ : ∃ e, e = min ex eu := ⟨_, rfl⟩
  rw [← he] at KA KU
  have HE := hide he
  have wa : IntKind.i64.wrap (ex - e) = ex - e := by rw [IntKind.wrap_i64]; have := KA.out; omega
  have wu : IntKind.i64.wrap (eu - e) = eu - e := by rw [IntKind.wrap_i64]; have := KU.out; omega
  clear hx hu hka hku hk he hu0
  have Bx0 := hide (((Blk.newAt w (w.heap.size) (rfl) #[.bool sx, .slice ox lx cx, .int .i64 ex] 71).alloc (.cells #[.bool su, .slice ou lu cu, .int .i64 eu] 71)).alloc (.cells #[.bool false, .slice none 0 0, .int .i64 0] 71))
  have Bu0 := hide ((Blk.newAt (w.alloc (.cells #[.bool sx, .slice ox lx cx, .int .i64 ex] 71)) (w.heap.size + 1) (by simp) #[.bool su, .slice ou lu cu, .int .i64 eu] 71).alloc (.cells #[.bool false, .slice none 0 0, .int .i64 0] 71))
  have Br0 := hide (Blk.newAt ((w.alloc (.cells #[.bool sx, .slice ox lx cx, .int .i64 ex] 71)).alloc (.cells #[.bool su, .slice ou lu cu, .int .i64 eu] 71)) (w.heap.size + 1 + 1) (by simp) #[.bool false, .slice none 0 0, .int .i64 0] 71)
  have HB0 : Hid (Below w.heap.size w (((w.alloc (.cells #[.bool sx, .slice ox lx cx, .int .i64 ex] 71)).alloc (.cells #[.bool su, .slice ou lu cu, .int .i64 eu] 71)).alloc (.cells #[.bool false, .slice none 0 0, .int .i64 0] 71))) := ((((Below.refl _ _).alloc (Nat.le_refl _) _).alloc (by simp <;> omega) _).alloc (by simp <;> omega) _)
  have HXW := hide (HX.out.below HB0.out)
  have HUW := hide (HU.out.below HB0.out)
  obtain ⟨W, hW⟩ : ∃ W, W = (((w.alloc (.cells #[.bool sx, .slice ox lx cx, .int .i64 ex] 71)).alloc (.cells #[.bool su, .slice ou lu cu, .int .i64 eu] 71)).alloc (.cells #[.bool false, .slice none 0 0, .int .i64 0] 71)) := ⟨_, rfl⟩
  rw [← hW] at HB0 Bx0 Bu0 Br0 HXW HUW
  have HW := hide hW
  clear hW
  have yx0 : W.cell? ⟨w.heap.size, 0, none⟩ = some (.bool sx) := Bx0.out.cell 0
  have yx1 : W.cell? ⟨w.heap.size, 1, none⟩ = some (.slice ox lx cx) := Bx0.out.cell 1
  have yx2 : W.cell? ⟨w.heap.size, 2, none⟩ = some (.int .i64 ex) := Bx0.out.cell 2
  have yu0 : W.cell? ⟨w.heap.size + 1, 0, none⟩ = some (.bool su) := Bu0.out.cell 0
  have yu1 : W.cell? ⟨w.heap.size + 1, 1, none⟩ = some (.slice ou lu cu) := Bu0.out.cell 1
  have yu2 : W.cell? ⟨w.heap.size + 1, 2, none⟩ = some (.int .i64 eu) := Bu0.out.cell 2
  have yr0 : W.cell? ⟨w.heap.size + 1 + 1, 0, none⟩ = some (.bool false) := Br0.out.cell 0
  have yr1 : W.cell? ⟨w.heap.size + 1 + 1, 1, none⟩ = some (.slice none 0 0) := Br0.out.cell 1
  have yr2 : W.cell? ⟨w.heap.size + 1 + 1, 2, none⟩ = some (.int .i64 0) := Br0.out.cell 2
  clear HX HU
  go_enter Tryz.func44, Tryz.ntmps44
  have b0 : Hid (Below W.heap.size W W.drew) := bdrewD W
  have C0 : Hid (∀ X, Hid (Below W.heap.size W X) → Calls Tryz.prog 91 #[.int .i64 10, .int .i64 (ex - e)] X fun e w' => (∃ o l c, e = .returned (.slice o l c) ∧ Hid (Rl w' o l c (10 ^ ka) 1800)) ∧ Hid (Below W.heap.size W w') ∧ w'.cell? ⟨w.heap.size, 0, none⟩ = some (.bool sx) ∧ w'.cell? ⟨w.heap.size, 1, none⟩ = some (.slice ox lx cx) ∧ w'.cell? ⟨w.heap.size, 2, none⟩ = some (.int .i64 ex) ∧ w'.cell? ⟨w.heap.size + 1, 0, none⟩ = some (.bool su) ∧ w'.cell? ⟨w.heap.size + 1, 1, none⟩ = some (.slice ou lu cu) ∧ w'.cell? ⟨w.heap.size + 1, 2, none⟩ = some (.int .i64 eu)) := by
    intro X bX
    refine (rpowL (ex - e) ka X KA.out (by have := HK.out; omega)).mono ?_
    rintro e w' ⟨⟨o, l, c, rfl, hz⟩, hb⟩
    have bb := bX.out.trans (hb.mono bX.out.size)
    have Bxq := Bx0.out.below bb Bx0.out.lt
    have Buq := Bu0.out.below bb Bu0.out.lt
    exact ⟨⟨o, l, c, rfl, hz⟩, bb, Bxq.cell 0, Bxq.cell 1, Bxq.cell 2, Buq.cell 0, Buq.cell 1, Buq.cell 2⟩
  have C1 : Hid (∀ X (o : Option Addr) (l c : Nat), Hid (Below W.heap.size W X) → Rl X o l c (10 ^ ka) 1800 → Calls Tryz.prog 90 #[.slice ox lx cx, .slice o l c] X fun e w' => (∃ o l c, e = .returned (.slice o l c) ∧ Hid (Rl w' o l c (zx.natAbs * 10 ^ ka) 2802)) ∧ Hid (Below W.heap.size W w') ∧ w'.cell? ⟨w.heap.size, 0, none⟩ = some (.bool sx) ∧ w'.cell? ⟨w.heap.size, 1, none⟩ = some (.slice ox lx cx) ∧ w'.cell? ⟨w.heap.size, 2, none⟩ = some (.int .i64 ex) ∧ w'.cell? ⟨w.heap.size + 1, 0, none⟩ = some (.bool su) ∧ w'.cell? ⟨w.heap.size + 1, 1, none⟩ = some (.slice ou lu cu) ∧ w'.cell? ⟨w.heap.size + 1, 2, none⟩ = some (.int .i64 eu)) := by
    intro X o l c bX hq
    refine (rmulL _ _ _ _ _ _ _ _ _ _ X (HXW.out.below bX.out).abs hq (by omega) (by omega)).mono ?_
    rintro e w' ⟨⟨o, l, c, rfl, hz⟩, hb⟩
    have bb := bX.out.trans (hb.mono bX.out.size)
    have Bxq := Bx0.out.below bb Bx0.out.lt
    have Buq := Bu0.out.below bb Bu0.out.lt
    exact ⟨⟨o, l, c, rfl, hz⟩, bb, Bxq.cell 0, Bxq.cell 1, Bxq.cell 2, Buq.cell 0, Buq.cell 1, Buq.cell 2⟩
  go_wp2_with fail
  simp only [← HW.out]
  try simp only [← HE.out]
  have mk0 : True := trivial
  go_region_held3 (fun w' => w'.cell? ⟨w.heap.size, 0, none⟩ = some (.bool sx) ∧ w'.cell? ⟨w.heap.size, 1, none⟩ = some (.slice ox lx cx) ∧ w'.cell? ⟨w.heap.size, 2, none⟩ = some (.int .i64 ex) ∧ w'.cell? ⟨w.heap.size + 1, 0, none⟩ = some (.bool su) ∧ w'.cell? ⟨w.heap.size + 1, 1, none⟩ = some (.slice ou lu cu) ∧ w'.cell? ⟨w.heap.size + 1, 2, none⟩ = some (.int .i64 eu)) (go_keep) (first
    | (clear mk0; go_at_call 91; refine (C0.out _ b0).mono ?_; rintro e w1 ⟨⟨o1, l1, c1, rfl, Z1⟩, b1, q0_0, q0_1, q0_2, q0_3, q0_4, q0_5⟩; have mk1 : True := trivial)
    | (clear mk1; go_at_call 90; refine (C1.out _ _ _ _ b1 Z1.out).mono ?_; rintro e w2 ⟨⟨oa, la, ca, rfl, Za⟩, b2, q1_0, q1_1, q1_2, q1_3, q1_4, q1_5⟩; have mk2 : True := trivial))
  have Bx2 := hide (Bx0.out.below b2.out Bx0.out.lt)
  have Bu2 := hide (Bu0.out.below b2.out Bu0.out.lt)
  have Br2 := hide (Br0.out.below b2.out Br0.out.lt)
  have HB2 := hide (HB0.out.trans (b2.out.mono HB0.out.size))
  replace HXW := hide (HXW.out.below b2.out)
  replace HUW := hide (HUW.out.below b2.out)
  clear mk2 b0 b1 b2 C0 C1 Z1 q0_0 q0_1 q0_2 q0_3 q0_4 q0_5 q1_0 q1_1 q1_2 q1_3 q1_4 q1_5 Bx0 Bu0 Br0 HB0 yx0 yx1 yx2 yu0 yu1 yu2 yr0 yr1 yr2
  have yx0 : w2.cell? ⟨w.heap.size, 0, none⟩ = some (.bool sx) := Bx2.out.cell 0
  have yx1 : w2.cell? ⟨w.heap.size, 1, none⟩ = some (.slice ox lx cx) := Bx2.out.cell 1
  have yx2 : w2.cell? ⟨w.heap.size, 2, none⟩ = some (.int .i64 ex) := Bx2.out.cell 2
  have yu0 : w2.cell? ⟨w.heap.size + 1, 0, none⟩ = some (.bool su) := Bu2.out.cell 0
  have yu1 : w2.cell? ⟨w.heap.size + 1, 1, none⟩ = some (.slice ou lu cu) := Bu2.out.cell 1
  have yu2 : w2.cell? ⟨w.heap.size + 1, 2, none⟩ = some (.int .i64 eu) := Bu2.out.cell 2
  have yr0 : w2.cell? ⟨w.heap.size + 1 + 1, 0, none⟩ = some (.bool false) := Br2.out.cell 0
  have yr1 : w2.cell? ⟨w.heap.size + 1 + 1, 1, none⟩ = some (.slice none 0 0) := Br2.out.cell 1
  have yr2 : w2.cell? ⟨w.heap.size + 1 + 1, 2, none⟩ = some (.int .i64 0) := Br2.out.cell 2
  have b0 : Hid (Below w2.heap.size w2 w2.drew) := bdrewD w2
  have C0 : Hid (∀ X, Hid (Below w2.heap.size w2 X) → Calls Tryz.prog 91 #[.int .i64 10, .int .i64 (eu - e)] X fun e w' => (∃ o l c, e = .returned (.slice o l c) ∧ Hid (Rl w' o l c (10 ^ ku) 1800)) ∧ Hid (Below w2.heap.size w2 w') ∧ w'.cell? ⟨w.heap.size, 0, none⟩ = some (.bool sx) ∧ w'.cell? ⟨w.heap.size, 1, none⟩ = some (.slice ox lx cx) ∧ w'.cell? ⟨w.heap.size, 2, none⟩ = some (.int .i64 ex) ∧ w'.cell? ⟨w.heap.size + 1, 0, none⟩ = some (.bool su) ∧ w'.cell? ⟨w.heap.size + 1, 1, none⟩ = some (.slice ou lu cu) ∧ w'.cell? ⟨w.heap.size + 1, 2, none⟩ = some (.int .i64 eu)) := by
    intro X bX
    refine (rpowL (eu - e) ku X KU.out (by have := HK.out; omega)).mono ?_
    rintro e w' ⟨⟨o, l, c, rfl, hz⟩, hb⟩
    have bb := bX.out.trans (hb.mono bX.out.size)
    have Bxq := Bx2.out.below bb Bx2.out.lt
    have Buq := Bu2.out.below bb Bu2.out.lt
    exact ⟨⟨o, l, c, rfl, hz⟩, bb, Bxq.cell 0, Bxq.cell 1, Bxq.cell 2, Buq.cell 0, Buq.cell 1, Buq.cell 2⟩
  have C1 : Hid (∀ X (o : Option Addr) (l c : Nat), Hid (Below w2.heap.size w2 X) → Rl X o l c (10 ^ ku) 1800 → Calls Tryz.prog 90 #[.slice ou lu cu, .slice o l c] X fun e w' => (∃ o l c, e = .returned (.slice o l c) ∧ Hid (Rl w' o l c (zu.natAbs * 10 ^ ku) 2802)) ∧ Hid (Below w2.heap.size w2 w') ∧ w'.cell? ⟨w.heap.size, 0, none⟩ = some (.bool sx) ∧ w'.cell? ⟨w.heap.size, 1, none⟩ = some (.slice ox lx cx) ∧ w'.cell? ⟨w.heap.size, 2, none⟩ = some (.int .i64 ex) ∧ w'.cell? ⟨w.heap.size + 1, 0, none⟩ = some (.bool su) ∧ w'.cell? ⟨w.heap.size + 1, 1, none⟩ = some (.slice ou lu cu) ∧ w'.cell? ⟨w.heap.size + 1, 2, none⟩ = some (.int .i64 eu)) := by
    intro X o l c bX hq
    refine (rmulL _ _ _ _ _ _ _ _ _ _ X (HUW.out.below bX.out).abs hq (by omega) (by omega)).mono ?_
    rintro e w' ⟨⟨o, l, c, rfl, hz⟩, hb⟩
    have bb := bX.out.trans (hb.mono bX.out.size)
    have Bxq := Bx2.out.below bb Bx2.out.lt
    have Buq := Bu2.out.below bb Bu2.out.lt
    exact ⟨⟨o, l, c, rfl, hz⟩, bb, Bxq.cell 0, Bxq.cell 1, Bxq.cell 2, Buq.cell 0, Buq.cell 1, Buq.cell 2⟩
  go_wp2_with fail
  have mk0 : True := trivial
  go_region_held3 (fun w' => w'.cell? ⟨w.heap.size, 0, none⟩ = some (.bool sx) ∧ w'.cell? ⟨w.heap.size, 1, none⟩ = some (.slice ox lx cx) ∧ w'.cell? ⟨w.heap.size, 2, none⟩ = some (.int .i64 ex) ∧ w'.cell? ⟨w.heap.size + 1, 0, none⟩ = some (.bool su) ∧ w'.cell? ⟨w.heap.size + 1, 1, none⟩ = some (.slice ou lu cu) ∧ w'.cell? ⟨w.heap.size + 1, 2, none⟩ = some (.int .i64 eu)) (go_keep) (first
    | (clear mk0; go_at_call 91; refine (C0.out _ b0).mono ?_; rintro e w3 ⟨⟨o1, l1, c1, rfl, Z1⟩, b1, q0_0, q0_1, q0_2, q0_3, q0_4, q0_5⟩; have mk1 : True := trivial)
    | (clear mk1; go_at_call 90; refine (C1.out _ _ _ _ b1 Z1.out).mono ?_; rintro e w4 ⟨⟨ob, lb, cb, rfl, Zb⟩, b2, q1_0, q1_1, q1_2, q1_3, q1_4, q1_5⟩; have mk2 : True := trivial))
  have Bx4 := hide (Bx2.out.below b2.out Bx2.out.lt)
  have Bu4 := hide (Bu2.out.below b2.out Bu2.out.lt)
  have Br4 := hide (Br2.out.below b2.out Br2.out.lt)
  have HB4 := hide (HB2.out.trans (b2.out.mono HB2.out.size))
  replace HXW := hide (HXW.out.below b2.out)
  replace HUW := hide (HUW.out.below b2.out)
  replace Za := hide (Za.out.below b2.out)
  clear mk2 b0 b1 b2 C0 C1 Z1 q0_0 q0_1 q0_2 q0_3 q0_4 q0_5 q1_0 q1_1 q1_2 q1_3 q1_4 q1_5 Bx2 Bu2 Br2 HB2 yx0 yx1 yx2 yu0 yu1 yu2 yr0 yr1 yr2
  have yx0 : w4.cell? ⟨w.heap.size, 0, none⟩ = some (.bool sx) := Bx4.out.cell 0
  have yx1 : w4.cell? ⟨w.heap.size, 1, none⟩ = some (.slice ox lx cx) := Bx4.out.cell 1
  have yx2 : w4.cell? ⟨w.heap.size, 2, none⟩ = some (.int .i64 ex) := Bx4.out.cell 2
  have yu0 : w4.cell? ⟨w.heap.size + 1, 0, none⟩ = some (.bool su) := Bu4.out.cell 0
  have yu1 : w4.cell? ⟨w.heap.size + 1, 1, none⟩ = some (.slice ou lu cu) := Bu4.out.cell 1
  have yu2 : w4.cell? ⟨w.heap.size + 1, 2, none⟩ = some (.int .i64 eu) := Bu4.out.cell 2
  have yr0 : w4.cell? ⟨w.heap.size + 1 + 1, 0, none⟩ = some (.bool false) := Br4.out.cell 0
  have yr1 : w4.cell? ⟨w.heap.size + 1 + 1, 1, none⟩ = some (.slice none 0 0) := Br4.out.cell 1
  have yr2 : w4.cell? ⟨w.heap.size + 1 + 1, 2, none⟩ = some (.int .i64 0) := Br4.out.cell 2
  clear HXW HUW KA KU
  have M1 := hide (rmakeI sx _ _ _ _ _ w4 (by omega) Za.out)
  clear Za
  go_wp2_with fail
  refine (M1.out).mono ?_
  rintro e w5 ⟨⟨s3, o3, l3, c3, rfl, Z3⟩, hb⟩
  have Yb := hide (Zb.out.below hb)
  clear Zb M1
  have R3 := hide Z3
  clear Z3
  have Bx5 := hide (Bx4.out.below hb Bx4.out.lt)
  have Bu5 := hide (Bu4.out.below hb Bu4.out.lt)
  have Br5 := hide (Br4.out.below hb Br4.out.lt)
  have HB5 := hide (HB4.out.trans (hb.mono HB4.out.size))
  clear hb Bx4 Bu4 Br4 HB4 yx0 yx1 yx2 yu0 yu1 yu2 yr0 yr1 yr2
  have yx0 : w5.cell? ⟨w.heap.size, 0, none⟩ = some (.bool sx) := Bx5.out.cell 0
  have yx1 : w5.cell? ⟨w.heap.size, 1, none⟩ = some (.slice ox lx cx) := Bx5.out.cell 1
  have yx2 : w5.cell? ⟨w.heap.size, 2, none⟩ = some (.int .i64 ex) := Bx5.out.cell 2
  have yu0 : w5.cell? ⟨w.heap.size + 1, 0, none⟩ = some (.bool su) := Bu5.out.cell 0
  have yu1 : w5.cell? ⟨w.heap.size + 1, 1, none⟩ = some (.slice ou lu cu) := Bu5.out.cell 1
  have yu2 : w5.cell? ⟨w.heap.size + 1, 2, none⟩ = some (.int .i64 eu) := Bu5.out.cell 2
  have yr0 : w5.cell? ⟨w.heap.size + 1 + 1, 0, none⟩ = some (.bool false) := Br5.out.cell 0
  have yr1 : w5.cell? ⟨w.heap.size + 1 + 1, 1, none⟩ = some (.slice none 0 0) := Br5.out.cell 1
  have yr2 : w5.cell? ⟨w.heap.size + 1 + 1, 2, none⟩ = some (.int .i64 0) := Br5.out.cell 2
  have M2 := hide (rmakeI false _ _ _ _ _ w5 (by omega) Yb.out)
  go_wp2_with fail
  refine (M2.out).mono ?_
  rintro e w6 ⟨⟨s4, o4, l4, c4, rfl, Z4⟩, hb⟩
  have Zb := hide (Yb.out.below hb)
  have R3b := hide (R3.out.below hb)
  have R4 := hide Z4
  clear Yb R3 M2 Z4
  have Bx6 := hide (Bx5.out.below hb Bx5.out.lt)
  have Bu6 := hide (Bu5.out.below hb Bu5.out.lt)
  have Br6 := hide (Br5.out.below hb Br5.out.lt)
  have HB6 := hide (HB5.out.trans (hb.mono HB5.out.size))
  clear hb Bx5 Bu5 Br5 HB5 yx0 yx1 yx2 yu0 yu1 yu2 yr0 yr1 yr2
  have yx0 : w6.cell? ⟨w.heap.size, 0, none⟩ = some (.bool sx) := Bx6.out.cell 0
  have yx1 : w6.cell? ⟨w.heap.size, 1, none⟩ = some (.slice ox lx cx) := Bx6.out.cell 1
  have yx2 : w6.cell? ⟨w.heap.size, 2, none⟩ = some (.int .i64 ex) := Bx6.out.cell 2
  have yu0 : w6.cell? ⟨w.heap.size + 1, 0, none⟩ = some (.bool su) := Bu6.out.cell 0
  have yu1 : w6.cell? ⟨w.heap.size + 1, 1, none⟩ = some (.slice ou lu cu) := Bu6.out.cell 1
  have yu2 : w6.cell? ⟨w.heap.size + 1, 2, none⟩ = some (.int .i64 eu) := Bu6.out.cell 2
  have yr0 : w6.cell? ⟨w.heap.size + 1 + 1, 0, none⟩ = some (.bool false) := Br6.out.cell 0
  have yr1 : w6.cell? ⟨w.heap.size + 1 + 1, 1, none⟩ = some (.slice none 0 0) := Br6.out.cell 1
  have yr2 : w6.cell? ⟨w.heap.size + 1 + 1, 2, none⟩ = some (.int .i64 0) := Br6.out.cell 2
  have DV := hide (rdivG _ _ _ _ _ _ _ _ _ _ _ _ _ _ w6 R3b.out R4.out (by omega) (by omega) (zvf_ne HU0.out ku))
  go_wp2_with fail
  refine (DV.out).mono ?_
  rintro e w7 ⟨⟨sq, oq, lq, cq, sr, or, lr, cr, rfl, ZQ, ZR⟩, hb⟩
  have Yb := hide (Zb.out.below hb)
  clear Zb R3b R4 DV
  have Bx7 := hide (Bx6.out.below hb Bx6.out.lt)
  have Bu7 := hide (Bu6.out.below hb Bu6.out.lt)
  have Br7 := hide (Br6.out.below hb Br6.out.lt)
  have HB7 := hide (HB6.out.trans (hb.mono HB6.out.size))
  clear hb Bx6 Bu6 Br6 HB6 yx0 yx1 yx2 yu0 yu1 yu2 yr0 yr1 yr2
  have yx0 : w7.cell? ⟨w.heap.size, 0, none⟩ = some (.bool sx) := Bx7.out.cell 0
  have yx1 : w7.cell? ⟨w.heap.size, 1, none⟩ = some (.slice ox lx cx) := Bx7.out.cell 1
  have yx2 : w7.cell? ⟨w.heap.size, 2, none⟩ = some (.int .i64 ex) := Bx7.out.cell 2
  have yu0 : w7.cell? ⟨w.heap.size + 1, 0, none⟩ = some (.bool su) := Bu7.out.cell 0
  have yu1 : w7.cell? ⟨w.heap.size + 1, 1, none⟩ = some (.slice ou lu cu) := Bu7.out.cell 1
  have yu2 : w7.cell? ⟨w.heap.size + 1, 2, none⟩ = some (.int .i64 eu) := Bu7.out.cell 2
  have yr0 : w7.cell? ⟨w.heap.size + 1 + 1, 0, none⟩ = some (.bool false) := Br7.out.cell 0
  have yr1 : w7.cell? ⟨w.heap.size + 1 + 1, 1, none⟩ = some (.slice none 0 0) := Br7.out.cell 1
  have yr2 : w7.cell? ⟨w.heap.size + 1 + 1, 2, none⟩ = some (.int .i64 0) := Br7.out.cell 2
  obtain rfl := (ri_len ZR.out).2 HM.out
  clear HM
  have HRQ : Hid (w.heap.size + 1 + 1 < w7.heap.size) := hide Br7.out.lt
  have Bx8 := hide (((Bx7.out.alloc (.cells #[.bool sq, .slice oq lq cq] 69)).alloc (.cells #[.bool sr, .slice or 0 cr] 69)))
  have Bu8 := hide (((Bu7.out.alloc (.cells #[.bool sq, .slice oq lq cq] 69)).alloc (.cells #[.bool sr, .slice or 0 cr] 69)))
  have Br8 := hide (((Br7.out.alloc (.cells #[.bool sq, .slice oq lq cq] 69)).alloc (.cells #[.bool sr, .slice or 0 cr] 69)))
  have Bq8 := hide (((Blk.newAt w7 (w7.heap.size) (rfl) #[.bool sq, .slice oq lq cq] 69).alloc (.cells #[.bool sr, .slice or 0 cr] 69)))
  have Bt8 := hide ((Blk.newAt (w7.alloc (.cells #[.bool sq, .slice oq lq cq] 69)) (w7.heap.size + 1) (by simp) #[.bool sr, .slice or 0 cr] 69))
  have HB8 : Hid (Below w.heap.size w ((w7.alloc (.cells #[.bool sq, .slice oq lq cq] 69)).alloc (.cells #[.bool sr, .slice or 0 cr] 69))) := ((HB7.out.alloc HB7.out.size _).alloc (by have := HB7.out.size; simp; omega) _)
  clear Bx7 Bu7 Br7 HB7 yx0 yx1 yx2 yu0 yu1 yu2 yr0 yr1 yr2
  have yx0 : ((w7.alloc (.cells #[.bool sq, .slice oq lq cq] 69)).alloc (.cells #[.bool sr, .slice or 0 cr] 69)).cell? ⟨w.heap.size, 0, none⟩ = some (.bool sx) := Bx8.out.cell 0
  have yx1 : ((w7.alloc (.cells #[.bool sq, .slice oq lq cq] 69)).alloc (.cells #[.bool sr, .slice or 0 cr] 69)).cell? ⟨w.heap.size, 1, none⟩ = some (.slice ox lx cx) := Bx8.out.cell 1
  have yx2 : ((w7.alloc (.cells #[.bool sq, .slice oq lq cq] 69)).alloc (.cells #[.bool sr, .slice or 0 cr] 69)).cell? ⟨w.heap.size, 2, none⟩ = some (.int .i64 ex) := Bx8.out.cell 2
  have yu0 : ((w7.alloc (.cells #[.bool sq, .slice oq lq cq] 69)).alloc (.cells #[.bool sr, .slice or 0 cr] 69)).cell? ⟨w.heap.size + 1, 0, none⟩ = some (.bool su) := Bu8.out.cell 0
  have yu1 : ((w7.alloc (.cells #[.bool sq, .slice oq lq cq] 69)).alloc (.cells #[.bool sr, .slice or 0 cr] 69)).cell? ⟨w.heap.size + 1, 1, none⟩ = some (.slice ou lu cu) := Bu8.out.cell 1
  have yu2 : ((w7.alloc (.cells #[.bool sq, .slice oq lq cq] 69)).alloc (.cells #[.bool sr, .slice or 0 cr] 69)).cell? ⟨w.heap.size + 1, 2, none⟩ = some (.int .i64 eu) := Bu8.out.cell 2
  have yr0 : ((w7.alloc (.cells #[.bool sq, .slice oq lq cq] 69)).alloc (.cells #[.bool sr, .slice or 0 cr] 69)).cell? ⟨w.heap.size + 1 + 1, 0, none⟩ = some (.bool false) := Br8.out.cell 0
  have yr1 : ((w7.alloc (.cells #[.bool sq, .slice oq lq cq] 69)).alloc (.cells #[.bool sr, .slice or 0 cr] 69)).cell? ⟨w.heap.size + 1 + 1, 1, none⟩ = some (.slice none 0 0) := Br8.out.cell 1
  have yr2 : ((w7.alloc (.cells #[.bool sq, .slice oq lq cq] 69)).alloc (.cells #[.bool sr, .slice or 0 cr] 69)).cell? ⟨w.heap.size + 1 + 1, 2, none⟩ = some (.int .i64 0) := Br8.out.cell 2
  have yq0 : ((w7.alloc (.cells #[.bool sq, .slice oq lq cq] 69)).alloc (.cells #[.bool sr, .slice or 0 cr] 69)).cell? ⟨w7.heap.size, 0, none⟩ = some (.bool sq) := Bq8.out.cell 0
  have yq1 : ((w7.alloc (.cells #[.bool sq, .slice oq lq cq] 69)).alloc (.cells #[.bool sr, .slice or 0 cr] 69)).cell? ⟨w7.heap.size, 1, none⟩ = some (.slice oq lq cq) := Bq8.out.cell 1
  have yt0 : ((w7.alloc (.cells #[.bool sq, .slice oq lq cq] 69)).alloc (.cells #[.bool sr, .slice or 0 cr] 69)).cell? ⟨w7.heap.size + 1, 0, none⟩ = some (.bool sr) := Bt8.out.cell 0
  have yt1 : ((w7.alloc (.cells #[.bool sq, .slice oq lq cq] 69)).alloc (.cells #[.bool sr, .slice or 0 cr] 69)).cell? ⟨w7.heap.size + 1, 1, none⟩ = some (.slice or 0 cr) := Bt8.out.cell 1
  go_wp2_with fail
  obtain ⟨W8, hW8⟩ : ∃ x, x = ((w7.alloc (.cells #[.bool sq, .slice oq lq cq] 69)).alloc (.cells #[.bool sr, .slice or 0 cr] 69)) := ⟨_, rfl⟩
  rw [← hW8] at HB8 Bx8 Bu8 Br8 Bq8 Bt8 yx0 yx1 yx2 yu0 yu1 yu2 yr0 yr1 yr2 yq0 yq1 yt0 yt1
  have HF := hide hW8
  have bal8 : Below w7.heap.size w7 W8 := by rw [hW8]; exact ((Below.refl _ _).alloc (Nat.le_refl _) _).alloc (by simp) _
  replace Yb := hide (Yb.out.below bal8)
  replace ZQ := hide (ZQ.out.below bal8)
  clear ZR hW8 bal8
  simp only [← HF.out]
  obtain ⟨G, hG⟩ : ∃ G, G = w.heap.size + 1 + 1 := ⟨_, rfl⟩
  have HQL : Hid (w.heap.size + 1 + 1 < w7.heap.size) := HRQ.out
  have gn1 : ¬ G = w7.heap.size := by have := HQL.out; omega
  have gn2 : ¬ w7.heap.size = G := by have := HQL.out; omega
  have gle : w.heap.size ≤ G := by omega
  have HG := hide hG
  rw [← hG] at Br8
  clear hG HQL HRQ yx0 yx1 yx2 yu0 yu1 yu2 yr0 yr1 yr2 yq0 yq1 yt0 yt1
  have d0 : W8.cell? ⟨w7.heap.size, 0, none⟩ = some (.bool sq) := Bq8.out.cell 0
  have d1 : W8.cell? ⟨w7.heap.size, 1, none⟩ = some (.slice oq lq cq) := Bq8.out.cell 1
  have HC : Hid (∀ w', Below W8.heap.size W8 w' → w'.cell? ⟨w7.heap.size, 0, none⟩ = some (.bool sq) ∧ w'.cell? ⟨w7.heap.size, 1, none⟩ = some (.slice oq lq cq) ∧ w'.cell? ⟨G, 0, none⟩ = some (.bool false) ∧ w'.cell? ⟨G, 1, none⟩ = some (.slice none 0 0) ∧ w'.cell? ⟨G, 2, none⟩ = some (.int .i64 0) ∧ w'.frozen? ⟨G, 0, none⟩ = false ∧ w'.frozen? ⟨G, 1, none⟩ = false ∧ w'.frozen? ⟨G, 2, none⟩ = false) := by
    intro w' hb
    have Bqq := Bq8.out.below hb Bq8.out.lt
    have Brq := Br8.out.below hb Br8.out.lt
    exact ⟨Bqq.cell 0, Bqq.cell 1, Brq.cell 0, Brq.cell 1, Brq.cell 2, Brq.free 0, Brq.free 1, Brq.free 2⟩
  have b0 : Hid (Below W8.heap.size W8 W8.drew) := bdrewD W8
  have C0 : Hid (∀ X, Hid (Below W8.heap.size W8 X) → Calls Tryz.prog 47 #[.bool false, .slice ob lb cb] X fun e w' => (∃ s o l c, e = .returned (.agg #[.bool s, .slice o l c]) ∧ Hid (RI w' s o l c (zv false (zu.natAbs * 10 ^ ku)) 2803 0)) ∧ Hid (Below W8.heap.size W8 w') ∧ w'.cell? ⟨w7.heap.size, 0, none⟩ = some (.bool sq) ∧ w'.cell? ⟨w7.heap.size, 1, none⟩ = some (.slice oq lq cq) ∧ w'.cell? ⟨G, 0, none⟩ = some (.bool false) ∧ w'.cell? ⟨G, 1, none⟩ = some (.slice none 0 0) ∧ w'.cell? ⟨G, 2, none⟩ = some (.int .i64 0) ∧ w'.frozen? ⟨G, 0, none⟩ = false ∧ w'.frozen? ⟨G, 1, none⟩ = false ∧ w'.frozen? ⟨G, 2, none⟩ = false) := by
    intro X bX
    refine (rmakeI false _ _ _ _ _ X (by omega) (Yb.out.below bX.out)).mono ?_
    rintro e w' ⟨⟨s, o, l, c, rfl, hz⟩, hb⟩
    have bb := bX.out.trans (hb.mono bX.out.size)
    exact ⟨⟨s, o, l, c, rfl, hz.lo (Nat.zero_le _) (Nat.le_refl _)⟩, bb, HC.out _ bb⟩
  have C1 : Hid (∀ X (s : Bool) (o : Option Addr) (l c : Nat), Hid (Below W8.heap.size W8 X) → RI X s o l c (zv false (zu.natAbs * 10 ^ ku)) 2803 0 → Calls Tryz.prog 97 #[.agg #[.bool sq, .slice oq lq cq], .agg #[.bool s, .slice o l c]] X fun e w' => (∃ s o l c, e = .returned (.agg #[.bool s, .slice o l c]) ∧ Hid (RI w' s o l c ((zv sx (zx.natAbs * 10 ^ ka) / zv false (zu.natAbs * 10 ^ ku)) * zv false (zu.natAbs * 10 ^ ku)) 8413 W8.heap.size)) ∧ Hid (Below W8.heap.size W8 w') ∧ w'.cell? ⟨w7.heap.size, 0, none⟩ = some (.bool sq) ∧ w'.cell? ⟨w7.heap.size, 1, none⟩ = some (.slice oq lq cq) ∧ w'.cell? ⟨G, 0, none⟩ = some (.bool false) ∧ w'.cell? ⟨G, 1, none⟩ = some (.slice none 0 0) ∧ w'.cell? ⟨G, 2, none⟩ = some (.int .i64 0) ∧ w'.frozen? ⟨G, 0, none⟩ = false ∧ w'.frozen? ⟨G, 1, none⟩ = false ∧ w'.frozen? ⟨G, 2, none⟩ = false) := by
    intro X s o l c bX hq
    refine (rmulG _ _ _ _ _ _ _ _ _ _ _ _ _ _ X (ZQ.out.below bX.out) hq (by omega) (by omega)).mono ?_
    rintro e w' ⟨⟨s, o, l, c, rfl, hz⟩, hb⟩
    have bb := bX.out.trans (hb.mono bX.out.size)
    exact ⟨⟨s, o, l, c, rfl, hz.out.lo bX.out.size (by omega)⟩, bb, HC.out _ bb⟩
  have BRF : Hid (∀ w', Below W8.heap.size W8 w' → Below w.heap.size w w' ∧ Blk w' G #[.bool false, .slice none 0 0, .int .i64 0] 71) := fun w' hb => ⟨HB8.out.trans (hb.mono HB8.out.size), Br8.out.below hb Br8.out.lt⟩
  have HGW : Hid (G < W8.heap.size) := Br8.out.lt
  clear HC Yb ZQ Bx8 Bu8 Br8 Bq8 Bt8 HB8
  go_wp2_with fail
  try simp only [← HF.out]
  simp only [← HG.out]
  have mk0 : True := trivial
  go_region_held3 (fun w' => w'.cell? ⟨w7.heap.size, 0, none⟩ = some (.bool sq) ∧ w'.cell? ⟨w7.heap.size, 1, none⟩ = some (.slice oq lq cq)) (go_keep) (first
    | (clear mk0; go_at_call 47; refine (C0.out _ b0).mono ?_; rintro e u1 ⟨⟨s5, o5, l5, c5, rfl, Z5⟩, b1, q0_0, q0_1, q0_2, q0_3, q0_4, q0_5, q0_6, q0_7⟩; have mk1 : True := trivial)
    | (clear mk1; go_at_call 97; refine (C1.out _ _ _ _ _ b1 Z5.out).mono ?_; rintro e u2 ⟨⟨s6, o6, l6, c6, rfl, Z6⟩, b2, q1_0, q1_1, q1_2, q1_3, q1_4, q1_5, q1_6, q1_7⟩; have mk2 : True := trivial))
  obtain ⟨hbel, hblk⟩ := BRF.out _ b2.out
  have HBL := hide hbel
  have QR := hide hblk
  clear hbel hblk BRF b0 b1 b2 C0 C1
  repeat (first | go_values | go_skip | go_guarded | go_step | go_upon)
  refine bodyPost_ret (results_num rfl _ _ _ _ _ _ rfl (QR.out.put3 _ _ _)) rfl ?_
  exact ⟨⟨s6, o6, l6, c6, by rw [HE.out], ((((Z6.out.set HGW.out _).set HGW.out _).set HGW.out _).lo (Nat.zero_le _) (by omega))⟩, ((HBL.out.setCell gle _).setCell gle _).setCell gle _⟩

set_option maxRecDepth 100000 in
set_option maxHeartbeats 8000000 in
theorem rto_low (sx : Bool) (ox : Option Addr) (lx cx : Nat) (ex : Int) (su : Bool) (ou : Option Addr) (lu cu : Nat) (eu : Int) (zx zu : Int) (ka ku lo : Nat) (m : Nat) (w : World) (hx : RI w sx ox lx cx zx 1002 lo) (hu : RI w su ou lu cu zu 1002 lo) (hka : ex - min ex eu = (ka : Int)) (hku : eu - min ex eu = (ku : Int)) (hk : ka ≤ 8000 ∧ ku ≤ 8000) (hu0 : zu ≠ 0) (hm : zv sx (zx.natAbs * 10 ^ ka) % zv false (zu.natAbs * 10 ^ ku) ≠ 0) (hm8 : m < 8) (hg : greaterB m sx (decide ((zv sx (zx.natAbs * 10 ^ ka) / zv false (zu.natAbs * 10 ^ ku)) % 2 = 1)) (cmpN ((zv sx (zx.natAbs * 10 ^ ka) % zv false (zu.natAbs * 10 ^ ku)).natAbs + (zv sx (zx.natAbs * 10 ^ ka) % zv false (zu.natAbs * 10 ^ ku)).natAbs) (zu.natAbs * 10 ^ ku)) = false) : Calls Tryz.prog 44 #[.agg #[.bool sx, .slice ox lx cx, .int .i64 ex], .agg #[.bool su, .slice ou lu cu, .int .i64 eu], .int .i64 (m : Int)] w fun e w' => (∃ s o l c, e = .returned (.agg #[.bool s, .slice o l c, .int .i64 (min ex eu)]) ∧ Hid (RI w' s o l c ((zv sx (zx.natAbs * 10 ^ ka) / zv false (zu.natAbs * 10 ^ ku)) * zv false (zu.natAbs * 10 ^ ku)) 8413 0)) ∧ Below w.heap.size w w' := by
  have HM8 := hide hm8
  clear hm8
  have HM := hide hm
  clear hm
  have HX := hide hx
  have HU := hide hu
  have KA := hide hka
  have KU := hide hku
  have HK := hide hk
  have HU0 := hide hu0
  obtain ⟨e, he⟩ : ∃ e, e = min ex eu := ⟨_, rfl⟩
  rw [← he] at KA KU
  have HE := hide he
  have wa : IntKind.i64.wrap (ex - e) = ex - e := by rw [IntKind.wrap_i64]; have := KA.out; omega
  have wu : IntKind.i64.wrap (eu - e) = eu - e := by rw [IntKind.wrap_i64]; have := KU.out; omega
  clear hx hu hka hku hk he hu0
  have Bx0 := hide (((Blk.newAt w (w.heap.size) (rfl) #[.bool sx, .slice ox lx cx, .int .i64 ex] 71).alloc (.cells #[.bool su, .slice ou lu cu, .int .i64 eu] 71)).alloc (.cells #[.bool false, .slice none 0 0, .int .i64 0] 71))
  have Bu0 := hide ((Blk.newAt (w.alloc (.cells #[.bool sx, .slice ox lx cx, .int .i64 ex] 71)) (w.heap.size + 1) (by simp) #[.bool su, .slice ou lu cu, .int .i64 eu] 71).alloc (.cells #[.bool false, .slice none 0 0, .int .i64 0] 71))
  have Br0 := hide (Blk.newAt ((w.alloc (.cells #[.bool sx, .slice ox lx cx, .int .i64 ex] 71)).alloc (.cells #[.bool su, .slice ou lu cu, .int .i64 eu] 71)) (w.heap.size + 1 + 1) (by simp) #[.bool false, .slice none 0 0, .int .i64 0] 71)
  have HB0 : Hid (Below w.heap.size w (((w.alloc (.cells #[.bool sx, .slice ox lx cx, .int .i64 ex] 71)).alloc (.cells #[.bool su, .slice ou lu cu, .int .i64 eu] 71)).alloc (.cells #[.bool false, .slice none 0 0, .int .i64 0] 71))) := ((((Below.refl _ _).alloc (Nat.le_refl _) _).alloc (by simp <;> omega) _).alloc (by simp <;> omega) _)
  have HXW := hide (HX.out.below HB0.out)
  have HUW := hide (HU.out.below HB0.out)
  obtain ⟨W, hW⟩ : ∃ W, W = (((w.alloc (.cells #[.bool sx, .slice ox lx cx, .int .i64 ex] 71)).alloc (.cells #[.bool su, .slice ou lu cu, .int .i64 eu] 71)).alloc (.cells #[.bool false, .slice none 0 0, .int .i64 0] 71)) := ⟨_, rfl⟩
  rw [← hW] at HB0 Bx0 Bu0 Br0 HXW HUW
  have HW := hide hW
  clear hW
  have yx0 : W.cell? ⟨w.heap.size, 0, none⟩ = some (.bool sx) := Bx0.out.cell 0
  have yx1 : W.cell? ⟨w.heap.size, 1, none⟩ = some (.slice ox lx cx) := Bx0.out.cell 1
  have yx2 : W.cell? ⟨w.heap.size, 2, none⟩ = some (.int .i64 ex) := Bx0.out.cell 2
  have yu0 : W.cell? ⟨w.heap.size + 1, 0, none⟩ = some (.bool su) := Bu0.out.cell 0
  have yu1 : W.cell? ⟨w.heap.size + 1, 1, none⟩ = some (.slice ou lu cu) := Bu0.out.cell 1
  have yu2 : W.cell? ⟨w.heap.size + 1, 2, none⟩ = some (.int .i64 eu) := Bu0.out.cell 2
  have yr0 : W.cell? ⟨w.heap.size + 1 + 1, 0, none⟩ = some (.bool false) := Br0.out.cell 0
  have yr1 : W.cell? ⟨w.heap.size + 1 + 1, 1, none⟩ = some (.slice none 0 0) := Br0.out.cell 1
  have yr2 : W.cell? ⟨w.heap.size + 1 + 1, 2, none⟩ = some (.int .i64 0) := Br0.out.cell 2
  clear HX HU
  go_enter Tryz.func44, Tryz.ntmps44
  have b0 : Hid (Below W.heap.size W W.drew) := bdrewD W
  have C0 : Hid (∀ X, Hid (Below W.heap.size W X) → Calls Tryz.prog 91 #[.int .i64 10, .int .i64 (ex - e)] X fun e w' => (∃ o l c, e = .returned (.slice o l c) ∧ Hid (Rl w' o l c (10 ^ ka) 1800)) ∧ Hid (Below W.heap.size W w') ∧ w'.cell? ⟨w.heap.size, 0, none⟩ = some (.bool sx) ∧ w'.cell? ⟨w.heap.size, 1, none⟩ = some (.slice ox lx cx) ∧ w'.cell? ⟨w.heap.size, 2, none⟩ = some (.int .i64 ex) ∧ w'.cell? ⟨w.heap.size + 1, 0, none⟩ = some (.bool su) ∧ w'.cell? ⟨w.heap.size + 1, 1, none⟩ = some (.slice ou lu cu) ∧ w'.cell? ⟨w.heap.size + 1, 2, none⟩ = some (.int .i64 eu)) := by
    intro X bX
    refine (rpowL (ex - e) ka X KA.out (by have := HK.out; omega)).mono ?_
    rintro e w' ⟨⟨o, l, c, rfl, hz⟩, hb⟩
    have bb := bX.out.trans (hb.mono bX.out.size)
    have Bxq := Bx0.out.below bb Bx0.out.lt
    have Buq := Bu0.out.below bb Bu0.out.lt
    exact ⟨⟨o, l, c, rfl, hz⟩, bb, Bxq.cell 0, Bxq.cell 1, Bxq.cell 2, Buq.cell 0, Buq.cell 1, Buq.cell 2⟩
  have C1 : Hid (∀ X (o : Option Addr) (l c : Nat), Hid (Below W.heap.size W X) → Rl X o l c (10 ^ ka) 1800 → Calls Tryz.prog 90 #[.slice ox lx cx, .slice o l c] X fun e w' => (∃ o l c, e = .returned (.slice o l c) ∧ Hid (Rl w' o l c (zx.natAbs * 10 ^ ka) 2802)) ∧ Hid (Below W.heap.size W w') ∧ w'.cell? ⟨w.heap.size, 0, none⟩ = some (.bool sx) ∧ w'.cell? ⟨w.heap.size, 1, none⟩ = some (.slice ox lx cx) ∧ w'.cell? ⟨w.heap.size, 2, none⟩ = some (.int .i64 ex) ∧ w'.cell? ⟨w.heap.size + 1, 0, none⟩ = some (.bool su) ∧ w'.cell? ⟨w.heap.size + 1, 1, none⟩ = some (.slice ou lu cu) ∧ w'.cell? ⟨w.heap.size + 1, 2, none⟩ = some (.int .i64 eu)) := by
    intro X o l c bX hq
    refine (rmulL _ _ _ _ _ _ _ _ _ _ X (HXW.out.below bX.out).abs hq (by omega) (by omega)).mono ?_
    rintro e w' ⟨⟨o, l, c, rfl, hz⟩, hb⟩
    have bb := bX.out.trans (hb.mono bX.out.size)
    have Bxq := Bx0.out.below bb Bx0.out.lt
    have Buq := Bu0.out.below bb Bu0.out.lt
    exact ⟨⟨o, l, c, rfl, hz⟩, bb, Bxq.cell 0, Bxq.cell 1, Bxq.cell 2, Buq.cell 0, Buq.cell 1, Buq.cell 2⟩
  go_wp2_with fail
  simp only [← HW.out]
  try simp only [← HE.out]
  have mk0 : True := trivial
  go_region_held3 (fun w' => w'.cell? ⟨w.heap.size, 0, none⟩ = some (.bool sx) ∧ w'.cell? ⟨w.heap.size, 1, none⟩ = some (.slice ox lx cx) ∧ w'.cell? ⟨w.heap.size, 2, none⟩ = some (.int .i64 ex) ∧ w'.cell? ⟨w.heap.size + 1, 0, none⟩ = some (.bool su) ∧ w'.cell? ⟨w.heap.size + 1, 1, none⟩ = some (.slice ou lu cu) ∧ w'.cell? ⟨w.heap.size + 1, 2, none⟩ = some (.int .i64 eu)) (go_keep) (first
    | (clear mk0; go_at_call 91; refine (C0.out _ b0).mono ?_; rintro e w1 ⟨⟨o1, l1, c1, rfl, Z1⟩, b1, q0_0, q0_1, q0_2, q0_3, q0_4, q0_5⟩; have mk1 : True := trivial)
    | (clear mk1; go_at_call 90; refine (C1.out _ _ _ _ b1 Z1.out).mono ?_; rintro e w2 ⟨⟨oa, la, ca, rfl, Za⟩, b2, q1_0, q1_1, q1_2, q1_3, q1_4, q1_5⟩; have mk2 : True := trivial))
  have Bx2 := hide (Bx0.out.below b2.out Bx0.out.lt)
  have Bu2 := hide (Bu0.out.below b2.out Bu0.out.lt)
  have Br2 := hide (Br0.out.below b2.out Br0.out.lt)
  have HB2 := hide (HB0.out.trans (b2.out.mono HB0.out.size))
  replace HXW := hide (HXW.out.below b2.out)
  replace HUW := hide (HUW.out.below b2.out)
  clear mk2 b0 b1 b2 C0 C1 Z1 q0_0 q0_1 q0_2 q0_3 q0_4 q0_5 q1_0 q1_1 q1_2 q1_3 q1_4 q1_5 Bx0 Bu0 Br0 HB0 yx0 yx1 yx2 yu0 yu1 yu2 yr0 yr1 yr2
  have yx0 : w2.cell? ⟨w.heap.size, 0, none⟩ = some (.bool sx) := Bx2.out.cell 0
  have yx1 : w2.cell? ⟨w.heap.size, 1, none⟩ = some (.slice ox lx cx) := Bx2.out.cell 1
  have yx2 : w2.cell? ⟨w.heap.size, 2, none⟩ = some (.int .i64 ex) := Bx2.out.cell 2
  have yu0 : w2.cell? ⟨w.heap.size + 1, 0, none⟩ = some (.bool su) := Bu2.out.cell 0
  have yu1 : w2.cell? ⟨w.heap.size + 1, 1, none⟩ = some (.slice ou lu cu) := Bu2.out.cell 1
  have yu2 : w2.cell? ⟨w.heap.size + 1, 2, none⟩ = some (.int .i64 eu) := Bu2.out.cell 2
  have yr0 : w2.cell? ⟨w.heap.size + 1 + 1, 0, none⟩ = some (.bool false) := Br2.out.cell 0
  have yr1 : w2.cell? ⟨w.heap.size + 1 + 1, 1, none⟩ = some (.slice none 0 0) := Br2.out.cell 1
  have yr2 : w2.cell? ⟨w.heap.size + 1 + 1, 2, none⟩ = some (.int .i64 0) := Br2.out.cell 2
  have b0 : Hid (Below w2.heap.size w2 w2.drew) := bdrewD w2
  have C0 : Hid (∀ X, Hid (Below w2.heap.size w2 X) → Calls Tryz.prog 91 #[.int .i64 10, .int .i64 (eu - e)] X fun e w' => (∃ o l c, e = .returned (.slice o l c) ∧ Hid (Rl w' o l c (10 ^ ku) 1800)) ∧ Hid (Below w2.heap.size w2 w') ∧ w'.cell? ⟨w.heap.size, 0, none⟩ = some (.bool sx) ∧ w'.cell? ⟨w.heap.size, 1, none⟩ = some (.slice ox lx cx) ∧ w'.cell? ⟨w.heap.size, 2, none⟩ = some (.int .i64 ex) ∧ w'.cell? ⟨w.heap.size + 1, 0, none⟩ = some (.bool su) ∧ w'.cell? ⟨w.heap.size + 1, 1, none⟩ = some (.slice ou lu cu) ∧ w'.cell? ⟨w.heap.size + 1, 2, none⟩ = some (.int .i64 eu)) := by
    intro X bX
    refine (rpowL (eu - e) ku X KU.out (by have := HK.out; omega)).mono ?_
    rintro e w' ⟨⟨o, l, c, rfl, hz⟩, hb⟩
    have bb := bX.out.trans (hb.mono bX.out.size)
    have Bxq := Bx2.out.below bb Bx2.out.lt
    have Buq := Bu2.out.below bb Bu2.out.lt
    exact ⟨⟨o, l, c, rfl, hz⟩, bb, Bxq.cell 0, Bxq.cell 1, Bxq.cell 2, Buq.cell 0, Buq.cell 1, Buq.cell 2⟩
  have C1 : Hid (∀ X (o : Option Addr) (l c : Nat), Hid (Below w2.heap.size w2 X) → Rl X o l c (10 ^ ku) 1800 → Calls Tryz.prog 90 #[.slice ou lu cu, .slice o l c] X fun e w' => (∃ o l c, e = .returned (.slice o l c) ∧ Hid (Rl w' o l c (zu.natAbs * 10 ^ ku) 2802)) ∧ Hid (Below w2.heap.size w2 w') ∧ w'.cell? ⟨w.heap.size, 0, none⟩ = some (.bool sx) ∧ w'.cell? ⟨w.heap.size, 1, none⟩ = some (.slice ox lx cx) ∧ w'.cell? ⟨w.heap.size, 2, none⟩ = some (.int .i64 ex) ∧ w'.cell? ⟨w.heap.size + 1, 0, none⟩ = some (.bool su) ∧ w'.cell? ⟨w.heap.size + 1, 1, none⟩ = some (.slice ou lu cu) ∧ w'.cell? ⟨w.heap.size + 1, 2, none⟩ = some (.int .i64 eu)) := by
    intro X o l c bX hq
    refine (rmulL _ _ _ _ _ _ _ _ _ _ X (HUW.out.below bX.out).abs hq (by omega) (by omega)).mono ?_
    rintro e w' ⟨⟨o, l, c, rfl, hz⟩, hb⟩
    have bb := bX.out.trans (hb.mono bX.out.size)
    have Bxq := Bx2.out.below bb Bx2.out.lt
    have Buq := Bu2.out.below bb Bu2.out.lt
    exact ⟨⟨o, l, c, rfl, hz⟩, bb, Bxq.cell 0, Bxq.cell 1, Bxq.cell 2, Buq.cell 0, Buq.cell 1, Buq.cell 2⟩
  go_wp2_with fail
  have mk0 : True := trivial
  go_region_held3 (fun w' => w'.cell? ⟨w.heap.size, 0, none⟩ = some (.bool sx) ∧ w'.cell? ⟨w.heap.size, 1, none⟩ = some (.slice ox lx cx) ∧ w'.cell? ⟨w.heap.size, 2, none⟩ = some (.int .i64 ex) ∧ w'.cell? ⟨w.heap.size + 1, 0, none⟩ = some (.bool su) ∧ w'.cell? ⟨w.heap.size + 1, 1, none⟩ = some (.slice ou lu cu) ∧ w'.cell? ⟨w.heap.size + 1, 2, none⟩ = some (.int .i64 eu)) (go_keep) (first
    | (clear mk0; go_at_call 91; refine (C0.out _ b0).mono ?_; rintro e w3 ⟨⟨o1, l1, c1, rfl, Z1⟩, b1, q0_0, q0_1, q0_2, q0_3, q0_4, q0_5⟩; have mk1 : True := trivial)
    | (clear mk1; go_at_call 90; refine (C1.out _ _ _ _ b1 Z1.out).mono ?_; rintro e w4 ⟨⟨ob, lb, cb, rfl, Zb⟩, b2, q1_0, q1_1, q1_2, q1_3, q1_4, q1_5⟩; have mk2 : True := trivial))
  have Bx4 := hide (Bx2.out.below b2.out Bx2.out.lt)
  have Bu4 := hide (Bu2.out.below b2.out Bu2.out.lt)
  have Br4 := hide (Br2.out.below b2.out Br2.out.lt)
  have HB4 := hide (HB2.out.trans (b2.out.mono HB2.out.size))
  replace HXW := hide (HXW.out.below b2.out)
  replace HUW := hide (HUW.out.below b2.out)
  replace Za := hide (Za.out.below b2.out)
  clear mk2 b0 b1 b2 C0 C1 Z1 q0_0 q0_1 q0_2 q0_3 q0_4 q0_5 q1_0 q1_1 q1_2 q1_3 q1_4 q1_5 Bx2 Bu2 Br2 HB2 yx0 yx1 yx2 yu0 yu1 yu2 yr0 yr1 yr2
  have yx0 : w4.cell? ⟨w.heap.size, 0, none⟩ = some (.bool sx) := Bx4.out.cell 0
  have yx1 : w4.cell? ⟨w.heap.size, 1, none⟩ = some (.slice ox lx cx) := Bx4.out.cell 1
  have yx2 : w4.cell? ⟨w.heap.size, 2, none⟩ = some (.int .i64 ex) := Bx4.out.cell 2
  have yu0 : w4.cell? ⟨w.heap.size + 1, 0, none⟩ = some (.bool su) := Bu4.out.cell 0
  have yu1 : w4.cell? ⟨w.heap.size + 1, 1, none⟩ = some (.slice ou lu cu) := Bu4.out.cell 1
  have yu2 : w4.cell? ⟨w.heap.size + 1, 2, none⟩ = some (.int .i64 eu) := Bu4.out.cell 2
  have yr0 : w4.cell? ⟨w.heap.size + 1 + 1, 0, none⟩ = some (.bool false) := Br4.out.cell 0
  have yr1 : w4.cell? ⟨w.heap.size + 1 + 1, 1, none⟩ = some (.slice none 0 0) := Br4.out.cell 1
  have yr2 : w4.cell? ⟨w.heap.size + 1 + 1, 2, none⟩ = some (.int .i64 0) := Br4.out.cell 2
  clear HXW HUW KA KU
  have M1 := hide (rmakeI sx _ _ _ _ _ w4 (by omega) Za.out)
  clear Za
  go_wp2_with fail
  refine (M1.out).mono ?_
  rintro e w5 ⟨⟨s3, o3, l3, c3, rfl, Z3⟩, hb⟩
  have Yb := hide (Zb.out.below hb)
  clear Zb M1
  have R3 := hide Z3
  clear Z3
  have Bx5 := hide (Bx4.out.below hb Bx4.out.lt)
  have Bu5 := hide (Bu4.out.below hb Bu4.out.lt)
  have Br5 := hide (Br4.out.below hb Br4.out.lt)
  have HB5 := hide (HB4.out.trans (hb.mono HB4.out.size))
  clear hb Bx4 Bu4 Br4 HB4 yx0 yx1 yx2 yu0 yu1 yu2 yr0 yr1 yr2
  have yx0 : w5.cell? ⟨w.heap.size, 0, none⟩ = some (.bool sx) := Bx5.out.cell 0
  have yx1 : w5.cell? ⟨w.heap.size, 1, none⟩ = some (.slice ox lx cx) := Bx5.out.cell 1
  have yx2 : w5.cell? ⟨w.heap.size, 2, none⟩ = some (.int .i64 ex) := Bx5.out.cell 2
  have yu0 : w5.cell? ⟨w.heap.size + 1, 0, none⟩ = some (.bool su) := Bu5.out.cell 0
  have yu1 : w5.cell? ⟨w.heap.size + 1, 1, none⟩ = some (.slice ou lu cu) := Bu5.out.cell 1
  have yu2 : w5.cell? ⟨w.heap.size + 1, 2, none⟩ = some (.int .i64 eu) := Bu5.out.cell 2
  have yr0 : w5.cell? ⟨w.heap.size + 1 + 1, 0, none⟩ = some (.bool false) := Br5.out.cell 0
  have yr1 : w5.cell? ⟨w.heap.size + 1 + 1, 1, none⟩ = some (.slice none 0 0) := Br5.out.cell 1
  have yr2 : w5.cell? ⟨w.heap.size + 1 + 1, 2, none⟩ = some (.int .i64 0) := Br5.out.cell 2
  have M2 := hide (rmakeI false _ _ _ _ _ w5 (by omega) Yb.out)
  go_wp2_with fail
  refine (M2.out).mono ?_
  rintro e w6 ⟨⟨s4, o4, l4, c4, rfl, Z4⟩, hb⟩
  have Zb := hide (Yb.out.below hb)
  have R3b := hide (R3.out.below hb)
  have R4 := hide Z4
  clear Yb R3 M2 Z4
  have Bx6 := hide (Bx5.out.below hb Bx5.out.lt)
  have Bu6 := hide (Bu5.out.below hb Bu5.out.lt)
  have Br6 := hide (Br5.out.below hb Br5.out.lt)
  have HB6 := hide (HB5.out.trans (hb.mono HB5.out.size))
  clear hb Bx5 Bu5 Br5 HB5 yx0 yx1 yx2 yu0 yu1 yu2 yr0 yr1 yr2
  have yx0 : w6.cell? ⟨w.heap.size, 0, none⟩ = some (.bool sx) := Bx6.out.cell 0
  have yx1 : w6.cell? ⟨w.heap.size, 1, none⟩ = some (.slice ox lx cx) := Bx6.out.cell 1
  have yx2 : w6.cell? ⟨w.heap.size, 2, none⟩ = some (.int .i64 ex) := Bx6.out.cell 2
  have yu0 : w6.cell? ⟨w.heap.size + 1, 0, none⟩ = some (.bool su) := Bu6.out.cell 0
  have yu1 : w6.cell? ⟨w.heap.size + 1, 1, none⟩ = some (.slice ou lu cu) := Bu6.out.cell 1
  have yu2 : w6.cell? ⟨w.heap.size + 1, 2, none⟩ = some (.int .i64 eu) := Bu6.out.cell 2
  have yr0 : w6.cell? ⟨w.heap.size + 1 + 1, 0, none⟩ = some (.bool false) := Br6.out.cell 0
  have yr1 : w6.cell? ⟨w.heap.size + 1 + 1, 1, none⟩ = some (.slice none 0 0) := Br6.out.cell 1
  have yr2 : w6.cell? ⟨w.heap.size + 1 + 1, 2, none⟩ = some (.int .i64 0) := Br6.out.cell 2
  have DV := hide (rdivG _ _ _ _ _ _ _ _ _ _ _ _ _ _ w6 R3b.out R4.out (by omega) (by omega) (zvf_ne HU0.out ku))
  go_wp2_with fail
  refine (DV.out).mono ?_
  rintro e w7 ⟨⟨sq, oq, lq, cq, sr, or, lr, cr, rfl, ZQ, ZR⟩, hb⟩
  have Yb := hide (Zb.out.below hb)
  clear Zb R3b R4 DV
  have Bx7 := hide (Bx6.out.below hb Bx6.out.lt)
  have Bu7 := hide (Bu6.out.below hb Bu6.out.lt)
  have Br7 := hide (Br6.out.below hb Br6.out.lt)
  have HB7 := hide (HB6.out.trans (hb.mono HB6.out.size))
  clear hb Bx6 Bu6 Br6 HB6 yx0 yx1 yx2 yu0 yu1 yu2 yr0 yr1 yr2
  have yx0 : w7.cell? ⟨w.heap.size, 0, none⟩ = some (.bool sx) := Bx7.out.cell 0
  have yx1 : w7.cell? ⟨w.heap.size, 1, none⟩ = some (.slice ox lx cx) := Bx7.out.cell 1
  have yx2 : w7.cell? ⟨w.heap.size, 2, none⟩ = some (.int .i64 ex) := Bx7.out.cell 2
  have yu0 : w7.cell? ⟨w.heap.size + 1, 0, none⟩ = some (.bool su) := Bu7.out.cell 0
  have yu1 : w7.cell? ⟨w.heap.size + 1, 1, none⟩ = some (.slice ou lu cu) := Bu7.out.cell 1
  have yu2 : w7.cell? ⟨w.heap.size + 1, 2, none⟩ = some (.int .i64 eu) := Bu7.out.cell 2
  have yr0 : w7.cell? ⟨w.heap.size + 1 + 1, 0, none⟩ = some (.bool false) := Br7.out.cell 0
  have yr1 : w7.cell? ⟨w.heap.size + 1 + 1, 1, none⟩ = some (.slice none 0 0) := Br7.out.cell 1
  have yr2 : w7.cell? ⟨w.heap.size + 1 + 1, 2, none⟩ = some (.int .i64 0) := Br7.out.cell 2
  have HRQ : Hid (w.heap.size + 1 + 1 < w7.heap.size) := hide Br7.out.lt
  have Bx8 := hide (((Bx7.out.alloc (.cells #[.bool sq, .slice oq lq cq] 69)).alloc (.cells #[.bool sr, .slice or lr cr] 69)))
  have Bu8 := hide (((Bu7.out.alloc (.cells #[.bool sq, .slice oq lq cq] 69)).alloc (.cells #[.bool sr, .slice or lr cr] 69)))
  have Br8 := hide (((Br7.out.alloc (.cells #[.bool sq, .slice oq lq cq] 69)).alloc (.cells #[.bool sr, .slice or lr cr] 69)))
  have Bq8 := hide (((Blk.newAt w7 (w7.heap.size) (rfl) #[.bool sq, .slice oq lq cq] 69).alloc (.cells #[.bool sr, .slice or lr cr] 69)))
  have Bt8 := hide ((Blk.newAt (w7.alloc (.cells #[.bool sq, .slice oq lq cq] 69)) (w7.heap.size + 1) (by simp) #[.bool sr, .slice or lr cr] 69))
  have HB8 : Hid (Below w.heap.size w ((w7.alloc (.cells #[.bool sq, .slice oq lq cq] 69)).alloc (.cells #[.bool sr, .slice or lr cr] 69))) := ((HB7.out.alloc HB7.out.size _).alloc (by have := HB7.out.size; simp; omega) _)
  clear Bx7 Bu7 Br7 HB7 yx0 yx1 yx2 yu0 yu1 yu2 yr0 yr1 yr2
  have yx0 : ((w7.alloc (.cells #[.bool sq, .slice oq lq cq] 69)).alloc (.cells #[.bool sr, .slice or lr cr] 69)).cell? ⟨w.heap.size, 0, none⟩ = some (.bool sx) := Bx8.out.cell 0
  have yx1 : ((w7.alloc (.cells #[.bool sq, .slice oq lq cq] 69)).alloc (.cells #[.bool sr, .slice or lr cr] 69)).cell? ⟨w.heap.size, 1, none⟩ = some (.slice ox lx cx) := Bx8.out.cell 1
  have yx2 : ((w7.alloc (.cells #[.bool sq, .slice oq lq cq] 69)).alloc (.cells #[.bool sr, .slice or lr cr] 69)).cell? ⟨w.heap.size, 2, none⟩ = some (.int .i64 ex) := Bx8.out.cell 2
  have yu0 : ((w7.alloc (.cells #[.bool sq, .slice oq lq cq] 69)).alloc (.cells #[.bool sr, .slice or lr cr] 69)).cell? ⟨w.heap.size + 1, 0, none⟩ = some (.bool su) := Bu8.out.cell 0
  have yu1 : ((w7.alloc (.cells #[.bool sq, .slice oq lq cq] 69)).alloc (.cells #[.bool sr, .slice or lr cr] 69)).cell? ⟨w.heap.size + 1, 1, none⟩ = some (.slice ou lu cu) := Bu8.out.cell 1
  have yu2 : ((w7.alloc (.cells #[.bool sq, .slice oq lq cq] 69)).alloc (.cells #[.bool sr, .slice or lr cr] 69)).cell? ⟨w.heap.size + 1, 2, none⟩ = some (.int .i64 eu) := Bu8.out.cell 2
  have yr0 : ((w7.alloc (.cells #[.bool sq, .slice oq lq cq] 69)).alloc (.cells #[.bool sr, .slice or lr cr] 69)).cell? ⟨w.heap.size + 1 + 1, 0, none⟩ = some (.bool false) := Br8.out.cell 0
  have yr1 : ((w7.alloc (.cells #[.bool sq, .slice oq lq cq] 69)).alloc (.cells #[.bool sr, .slice or lr cr] 69)).cell? ⟨w.heap.size + 1 + 1, 1, none⟩ = some (.slice none 0 0) := Br8.out.cell 1
  have yr2 : ((w7.alloc (.cells #[.bool sq, .slice oq lq cq] 69)).alloc (.cells #[.bool sr, .slice or lr cr] 69)).cell? ⟨w.heap.size + 1 + 1, 2, none⟩ = some (.int .i64 0) := Br8.out.cell 2
  have yq0 : ((w7.alloc (.cells #[.bool sq, .slice oq lq cq] 69)).alloc (.cells #[.bool sr, .slice or lr cr] 69)).cell? ⟨w7.heap.size, 0, none⟩ = some (.bool sq) := Bq8.out.cell 0
  have yq1 : ((w7.alloc (.cells #[.bool sq, .slice oq lq cq] 69)).alloc (.cells #[.bool sr, .slice or lr cr] 69)).cell? ⟨w7.heap.size, 1, none⟩ = some (.slice oq lq cq) := Bq8.out.cell 1
  have yt0 : ((w7.alloc (.cells #[.bool sq, .slice oq lq cq] 69)).alloc (.cells #[.bool sr, .slice or lr cr] 69)).cell? ⟨w7.heap.size + 1, 0, none⟩ = some (.bool sr) := Bt8.out.cell 0
  have yt1 : ((w7.alloc (.cells #[.bool sq, .slice oq lq cq] 69)).alloc (.cells #[.bool sr, .slice or lr cr] 69)).cell? ⟨w7.heap.size + 1, 1, none⟩ = some (.slice or lr cr) := Bt8.out.cell 1
  have hlr : (0 : Int) < (lr : Int) := by have := mt (ri_len ZR.out).1 HM.out; omega
  clear HM
  obtain ⟨W8, hW8⟩ : ∃ x, x = ((w7.alloc (.cells #[.bool sq, .slice oq lq cq] 69)).alloc (.cells #[.bool sr, .slice or lr cr] 69)) := ⟨_, rfl⟩
  rw [← hW8] at HB8 Bx8 Bu8 Br8 Bq8 Bt8 yx0 yx1 yx2 yu0 yu1 yu2 yr0 yr1 yr2 yq0 yq1 yt0 yt1
  have HF := hide hW8
  have bal8 : Below w7.heap.size w7 W8 := by rw [hW8]; exact ((Below.refl _ _).alloc (Nat.le_refl _) _).alloc (by simp) _
  replace Yb := hide (Yb.out.below bal8)
  replace ZQ := hide (ZQ.out.below bal8)
  replace ZR := hide (ZR.out.below bal8)
  clear hW8 bal8
  go_wp2_with fail
  simp only [← HF.out]
  obtain ⟨hf, hhf⟩ : ∃ h, h = cmpN ((zv sx (zx.natAbs * 10 ^ ka) % zv false (zu.natAbs * 10 ^ ku)).natAbs + (zv sx (zx.natAbs * 10 ^ ka) % zv false (zu.natAbs * 10 ^ ku)).natAbs) (zu.natAbs * 10 ^ ku) := ⟨_, rfl⟩
  have HH := hide (show hf = -1 ∨ hf = 0 ∨ hf = 1 by rw [hhf]; exact cmp_three _ _)
  have HG : Hid (greaterB m sx (decide ((zv sx (zx.natAbs * 10 ^ ka) / zv false (zu.natAbs * 10 ^ ku)) % 2 = 1)) hf = false) := by rw [hhf]; exact hg
  have HHF := hide hhf
  clear hg hhf
  have CA := hide (raddL _ _ _ _ _ _ _ _ _ _ W8 ZR.out.abs ZR.out.abs (by omega) (by omega))
  clear ZR
  skip
  refine (CA.out).mono ?_
  rintro e w9 ⟨⟨o9, l9, c9, rfl, Z9⟩, hb⟩
  have Yn := hide (Yb.out.below hb)
  have Qn := hide (ZQ.out.below hb)
  clear Yb ZQ
  have Yb := Yn
  have ZQ := Qn
  clear Yn Qn
  clear CA
  have Bx9 := hide (Bx8.out.below hb Bx8.out.lt)
  have Bu9 := hide (Bu8.out.below hb Bu8.out.lt)
  have Br9 := hide (Br8.out.below hb Br8.out.lt)
  have Bq9 := hide (Bq8.out.below hb Bq8.out.lt)
  have Bt9 := hide (Bt8.out.below hb Bt8.out.lt)
  have HB9 := hide (HB8.out.trans (hb.mono HB8.out.size))
  clear hb Bx8 Bu8 Br8 Bq8 Bt8 HB8 yx0 yx1 yx2 yu0 yu1 yu2 yr0 yr1 yr2 yq0 yq1 yt0 yt1
  have yx0 : w9.cell? ⟨w.heap.size, 0, none⟩ = some (.bool sx) := Bx9.out.cell 0
  have yx1 : w9.cell? ⟨w.heap.size, 1, none⟩ = some (.slice ox lx cx) := Bx9.out.cell 1
  have yx2 : w9.cell? ⟨w.heap.size, 2, none⟩ = some (.int .i64 ex) := Bx9.out.cell 2
  have yu0 : w9.cell? ⟨w.heap.size + 1, 0, none⟩ = some (.bool su) := Bu9.out.cell 0
  have yu1 : w9.cell? ⟨w.heap.size + 1, 1, none⟩ = some (.slice ou lu cu) := Bu9.out.cell 1
  have yu2 : w9.cell? ⟨w.heap.size + 1, 2, none⟩ = some (.int .i64 eu) := Bu9.out.cell 2
  have yr0 : w9.cell? ⟨w.heap.size + 1 + 1, 0, none⟩ = some (.bool false) := Br9.out.cell 0
  have yr1 : w9.cell? ⟨w.heap.size + 1 + 1, 1, none⟩ = some (.slice none 0 0) := Br9.out.cell 1
  have yr2 : w9.cell? ⟨w.heap.size + 1 + 1, 2, none⟩ = some (.int .i64 0) := Br9.out.cell 2
  have yq0 : w9.cell? ⟨w7.heap.size, 0, none⟩ = some (.bool sq) := Bq9.out.cell 0
  have yq1 : w9.cell? ⟨w7.heap.size, 1, none⟩ = some (.slice oq lq cq) := Bq9.out.cell 1
  have yt0 : w9.cell? ⟨w7.heap.size + 1, 0, none⟩ = some (.bool sr) := Bt9.out.cell 0
  have yt1 : w9.cell? ⟨w7.heap.size + 1, 1, none⟩ = some (.slice or lr cr) := Bt9.out.cell 1
  have CC := hide (rcmpL _ _ _ _ _ _ _ _ _ _ hf w9 Z9.out Yb.out (by omega) (by omega) HHF.out.symm)
  clear Z9 HHF
  go_wp2_with fail
  refine (CC.out).mono ?_
  rintro e w10 ⟨rfl, hb⟩
  have Yn := hide (Yb.out.below hb)
  have Qn := hide (ZQ.out.below hb)
  clear Yb ZQ
  have Yb := Yn
  have ZQ := Qn
  clear Yn Qn
  clear CC
  have Bx10 := hide (Bx9.out.below hb Bx9.out.lt)
  have Bu10 := hide (Bu9.out.below hb Bu9.out.lt)
  have Br10 := hide (Br9.out.below hb Br9.out.lt)
  have Bq10 := hide (Bq9.out.below hb Bq9.out.lt)
  have Bt10 := hide (Bt9.out.below hb Bt9.out.lt)
  have HB10 := hide (HB9.out.trans (hb.mono HB9.out.size))
  clear hb Bx9 Bu9 Br9 Bq9 Bt9 HB9 yx0 yx1 yx2 yu0 yu1 yu2 yr0 yr1 yr2 yq0 yq1 yt0 yt1
  have yx0 : w10.cell? ⟨w.heap.size, 0, none⟩ = some (.bool sx) := Bx10.out.cell 0
  have yx1 : w10.cell? ⟨w.heap.size, 1, none⟩ = some (.slice ox lx cx) := Bx10.out.cell 1
  have yx2 : w10.cell? ⟨w.heap.size, 2, none⟩ = some (.int .i64 ex) := Bx10.out.cell 2
  have yu0 : w10.cell? ⟨w.heap.size + 1, 0, none⟩ = some (.bool su) := Bu10.out.cell 0
  have yu1 : w10.cell? ⟨w.heap.size + 1, 1, none⟩ = some (.slice ou lu cu) := Bu10.out.cell 1
  have yu2 : w10.cell? ⟨w.heap.size + 1, 2, none⟩ = some (.int .i64 eu) := Bu10.out.cell 2
  have yr0 : w10.cell? ⟨w.heap.size + 1 + 1, 0, none⟩ = some (.bool false) := Br10.out.cell 0
  have yr1 : w10.cell? ⟨w.heap.size + 1 + 1, 1, none⟩ = some (.slice none 0 0) := Br10.out.cell 1
  have yr2 : w10.cell? ⟨w.heap.size + 1 + 1, 2, none⟩ = some (.int .i64 0) := Br10.out.cell 2
  have yq0 : w10.cell? ⟨w7.heap.size, 0, none⟩ = some (.bool sq) := Bq10.out.cell 0
  have yq1 : w10.cell? ⟨w7.heap.size, 1, none⟩ = some (.slice oq lq cq) := Bq10.out.cell 1
  have yt0 : w10.cell? ⟨w7.heap.size + 1, 0, none⟩ = some (.bool sr) := Bt10.out.cell 0
  have yt1 : w10.cell? ⟨w7.heap.size + 1, 1, none⟩ = some (.slice or lr cr) := Bt10.out.cell 1
  have CG := greater_any m HM8.out _ _ _ _ _ _ _ sx hf w10 ZQ.out (by omega) HH.out
  rw [HG.out] at CG
  have CG := hide CG
  clear HG HH
  go_wp2_with fail
  refine (CG.out).mono ?_
  rintro e w11 ⟨rfl, hb⟩
  have Yn := hide (Yb.out.below hb)
  have Qn := hide (ZQ.out.below hb)
  clear Yb ZQ
  have Yb := Yn
  have ZQ := Qn
  clear Yn Qn
  clear CG
  have Bx11 := hide (Bx10.out.below hb Bx10.out.lt)
  have Bu11 := hide (Bu10.out.below hb Bu10.out.lt)
  have Br11 := hide (Br10.out.below hb Br10.out.lt)
  have Bq11 := hide (Bq10.out.below hb Bq10.out.lt)
  have Bt11 := hide (Bt10.out.below hb Bt10.out.lt)
  have HB11 := hide (HB10.out.trans (hb.mono HB10.out.size))
  clear hb Bx10 Bu10 Br10 Bq10 Bt10 HB10 yx0 yx1 yx2 yu0 yu1 yu2 yr0 yr1 yr2 yq0 yq1 yt0 yt1
  have yx0 : w11.cell? ⟨w.heap.size, 0, none⟩ = some (.bool sx) := Bx11.out.cell 0
  have yx1 : w11.cell? ⟨w.heap.size, 1, none⟩ = some (.slice ox lx cx) := Bx11.out.cell 1
  have yx2 : w11.cell? ⟨w.heap.size, 2, none⟩ = some (.int .i64 ex) := Bx11.out.cell 2
  have yu0 : w11.cell? ⟨w.heap.size + 1, 0, none⟩ = some (.bool su) := Bu11.out.cell 0
  have yu1 : w11.cell? ⟨w.heap.size + 1, 1, none⟩ = some (.slice ou lu cu) := Bu11.out.cell 1
  have yu2 : w11.cell? ⟨w.heap.size + 1, 2, none⟩ = some (.int .i64 eu) := Bu11.out.cell 2
  have yr0 : w11.cell? ⟨w.heap.size + 1 + 1, 0, none⟩ = some (.bool false) := Br11.out.cell 0
  have yr1 : w11.cell? ⟨w.heap.size + 1 + 1, 1, none⟩ = some (.slice none 0 0) := Br11.out.cell 1
  have yr2 : w11.cell? ⟨w.heap.size + 1 + 1, 2, none⟩ = some (.int .i64 0) := Br11.out.cell 2
  have yq0 : w11.cell? ⟨w7.heap.size, 0, none⟩ = some (.bool sq) := Bq11.out.cell 0
  have yq1 : w11.cell? ⟨w7.heap.size, 1, none⟩ = some (.slice oq lq cq) := Bq11.out.cell 1
  have yt0 : w11.cell? ⟨w7.heap.size + 1, 0, none⟩ = some (.bool sr) := Bt11.out.cell 0
  have yt1 : w11.cell? ⟨w7.heap.size + 1, 1, none⟩ = some (.slice or lr cr) := Bt11.out.cell 1
  obtain ⟨G, hG⟩ : ∃ G, G = w.heap.size + 1 + 1 := ⟨_, rfl⟩
  have HQL : Hid (w.heap.size + 1 + 1 < w7.heap.size) := HRQ.out
  have gn1 : ¬ G = w7.heap.size := by have := HQL.out; omega
  have gn2 : ¬ w7.heap.size = G := by have := HQL.out; omega
  have gle : w.heap.size ≤ G := by omega
  have HG := hide hG
  rw [← hG] at Br11
  clear hG HQL HRQ yx0 yx1 yx2 yu0 yu1 yu2 yr0 yr1 yr2 yq0 yq1 yt0 yt1
  have d0 : w11.cell? ⟨w7.heap.size, 0, none⟩ = some (.bool sq) := Bq11.out.cell 0
  have d1 : w11.cell? ⟨w7.heap.size, 1, none⟩ = some (.slice oq lq cq) := Bq11.out.cell 1
  have HC : Hid (∀ w', Below w11.heap.size w11 w' → w'.cell? ⟨w7.heap.size, 0, none⟩ = some (.bool sq) ∧ w'.cell? ⟨w7.heap.size, 1, none⟩ = some (.slice oq lq cq) ∧ w'.cell? ⟨G, 0, none⟩ = some (.bool false) ∧ w'.cell? ⟨G, 1, none⟩ = some (.slice none 0 0) ∧ w'.cell? ⟨G, 2, none⟩ = some (.int .i64 0) ∧ w'.frozen? ⟨G, 0, none⟩ = false ∧ w'.frozen? ⟨G, 1, none⟩ = false ∧ w'.frozen? ⟨G, 2, none⟩ = false) := by
    intro w' hb
    have Bqq := Bq11.out.below hb Bq11.out.lt
    have Brq := Br11.out.below hb Br11.out.lt
    exact ⟨Bqq.cell 0, Bqq.cell 1, Brq.cell 0, Brq.cell 1, Brq.cell 2, Brq.free 0, Brq.free 1, Brq.free 2⟩
  have b0 : Hid (Below w11.heap.size w11 w11.drew) := bdrewD w11
  have C0 : Hid (∀ X, Hid (Below w11.heap.size w11 X) → Calls Tryz.prog 47 #[.bool false, .slice ob lb cb] X fun e w' => (∃ s o l c, e = .returned (.agg #[.bool s, .slice o l c]) ∧ Hid (RI w' s o l c (zv false (zu.natAbs * 10 ^ ku)) 2803 0)) ∧ Hid (Below w11.heap.size w11 w') ∧ w'.cell? ⟨w7.heap.size, 0, none⟩ = some (.bool sq) ∧ w'.cell? ⟨w7.heap.size, 1, none⟩ = some (.slice oq lq cq) ∧ w'.cell? ⟨G, 0, none⟩ = some (.bool false) ∧ w'.cell? ⟨G, 1, none⟩ = some (.slice none 0 0) ∧ w'.cell? ⟨G, 2, none⟩ = some (.int .i64 0) ∧ w'.frozen? ⟨G, 0, none⟩ = false ∧ w'.frozen? ⟨G, 1, none⟩ = false ∧ w'.frozen? ⟨G, 2, none⟩ = false) := by
    intro X bX
    refine (rmakeI false _ _ _ _ _ X (by omega) (Yb.out.below bX.out)).mono ?_
    rintro e w' ⟨⟨s, o, l, c, rfl, hz⟩, hb⟩
    have bb := bX.out.trans (hb.mono bX.out.size)
    exact ⟨⟨s, o, l, c, rfl, hz.lo (Nat.zero_le _) (Nat.le_refl _)⟩, bb, HC.out _ bb⟩
  have C1 : Hid (∀ X (s : Bool) (o : Option Addr) (l c : Nat), Hid (Below w11.heap.size w11 X) → RI X s o l c (zv false (zu.natAbs * 10 ^ ku)) 2803 0 → Calls Tryz.prog 97 #[.agg #[.bool sq, .slice oq lq cq], .agg #[.bool s, .slice o l c]] X fun e w' => (∃ s o l c, e = .returned (.agg #[.bool s, .slice o l c]) ∧ Hid (RI w' s o l c ((zv sx (zx.natAbs * 10 ^ ka) / zv false (zu.natAbs * 10 ^ ku)) * zv false (zu.natAbs * 10 ^ ku)) 8413 w11.heap.size)) ∧ Hid (Below w11.heap.size w11 w') ∧ w'.cell? ⟨w7.heap.size, 0, none⟩ = some (.bool sq) ∧ w'.cell? ⟨w7.heap.size, 1, none⟩ = some (.slice oq lq cq) ∧ w'.cell? ⟨G, 0, none⟩ = some (.bool false) ∧ w'.cell? ⟨G, 1, none⟩ = some (.slice none 0 0) ∧ w'.cell? ⟨G, 2, none⟩ = some (.int .i64 0) ∧ w'.frozen? ⟨G, 0, none⟩ = false ∧ w'.frozen? ⟨G, 1, none⟩ = false ∧ w'.frozen? ⟨G, 2, none⟩ = false) := by
    intro X s o l c bX hq
    refine (rmulG _ _ _ _ _ _ _ _ _ _ _ _ _ _ X (ZQ.out.below bX.out) hq (by omega) (by omega)).mono ?_
    rintro e w' ⟨⟨s, o, l, c, rfl, hz⟩, hb⟩
    have bb := bX.out.trans (hb.mono bX.out.size)
    exact ⟨⟨s, o, l, c, rfl, hz.out.lo bX.out.size (by omega)⟩, bb, HC.out _ bb⟩
  have BRF : Hid (∀ w', Below w11.heap.size w11 w' → Below w.heap.size w w' ∧ Blk w' G #[.bool false, .slice none 0 0, .int .i64 0] 71) := fun w' hb => ⟨HB11.out.trans (hb.mono HB11.out.size), Br11.out.below hb Br11.out.lt⟩
  have HGW : Hid (G < w11.heap.size) := Br11.out.lt
  clear HC Yb ZQ Bx11 Bu11 Br11 Bq11 Bt11 HB11
  go_wp2_with fail
  try simp only [← HF.out]
  simp only [← HG.out]
  have mk0 : True := trivial
  go_region_held3 (fun w' => w'.cell? ⟨w7.heap.size, 0, none⟩ = some (.bool sq) ∧ w'.cell? ⟨w7.heap.size, 1, none⟩ = some (.slice oq lq cq)) (go_keep) (first
    | (clear mk0; go_at_call 47; refine (C0.out _ b0).mono ?_; rintro e u1 ⟨⟨s5, o5, l5, c5, rfl, Z5⟩, b1, q0_0, q0_1, q0_2, q0_3, q0_4, q0_5, q0_6, q0_7⟩; have mk1 : True := trivial)
    | (clear mk1; go_at_call 97; refine (C1.out _ _ _ _ _ b1 Z5.out).mono ?_; rintro e u2 ⟨⟨s6, o6, l6, c6, rfl, Z6⟩, b2, q1_0, q1_1, q1_2, q1_3, q1_4, q1_5, q1_6, q1_7⟩; have mk2 : True := trivial))
  obtain ⟨hbel, hblk⟩ := BRF.out _ b2.out
  have HBL := hide hbel
  have QR := hide hblk
  clear hbel hblk BRF b0 b1 b2 C0 C1
  repeat (first | go_values | go_skip | go_guarded | go_step | go_upon)
  refine bodyPost_ret (results_num rfl _ _ _ _ _ _ rfl (QR.out.put3 _ _ _)) rfl ?_
  exact ⟨⟨s6, o6, l6, c6, by rw [HE.out], ((((Z6.out.set HGW.out _).set HGW.out _).set HGW.out _).lo (Nat.zero_le _) (by omega))⟩, ((HBL.out.setCell gle _).setCell gle _).setCell gle _⟩

set_option maxRecDepth 100000 in
set_option maxHeartbeats 8000000 in
theorem rto_up (sx : Bool) (ox : Option Addr) (lx cx : Nat) (ex : Int) (su : Bool) (ou : Option Addr) (lu cu : Nat) (eu : Int) (zx zu : Int) (ka ku lo : Nat) (m : Nat) (w : World) (hx : RI w sx ox lx cx zx 1002 lo) (hu : RI w su ou lu cu zu 1002 lo) (hka : ex - min ex eu = (ka : Int)) (hku : eu - min ex eu = (ku : Int)) (hk : ka ≤ 8000 ∧ ku ≤ 8000) (hu0 : zu ≠ 0) (hm : zv sx (zx.natAbs * 10 ^ ka) % zv false (zu.natAbs * 10 ^ ku) ≠ 0) (hm8 : m < 8) (hg : greaterB m sx (decide ((zv sx (zx.natAbs * 10 ^ ka) / zv false (zu.natAbs * 10 ^ ku)) % 2 = 1)) (cmpN ((zv sx (zx.natAbs * 10 ^ ka) % zv false (zu.natAbs * 10 ^ ku)).natAbs + (zv sx (zx.natAbs * 10 ^ ka) % zv false (zu.natAbs * 10 ^ ku)).natAbs) (zu.natAbs * 10 ^ ku)) = true) : Calls Tryz.prog 44 #[.agg #[.bool sx, .slice ox lx cx, .int .i64 ex], .agg #[.bool su, .slice ou lu cu, .int .i64 eu], .int .i64 (m : Int)] w fun e w' => (∃ s o l c, e = .returned (.agg #[.bool s, .slice o l c, .int .i64 (min ex eu)]) ∧ Hid (RI w' s o l c (((zv sx (zx.natAbs * 10 ^ ka) / zv false (zu.natAbs * 10 ^ ku)) + 1) * zv false (zu.natAbs * 10 ^ ku)) 8430 0)) ∧ Below w.heap.size w w' := by
  have HM8 := hide hm8
  clear hm8
  have HM := hide hm
  clear hm
  have HX := hide hx
  have HU := hide hu
  have KA := hide hka
  have KU := hide hku
  have HK := hide hk
  have HU0 := hide hu0
  obtain ⟨e, he⟩ : ∃ e, e = min ex eu := ⟨_, rfl⟩
  rw [← he] at KA KU
  have HE := hide he
  have wa : IntKind.i64.wrap (ex - e) = ex - e := by rw [IntKind.wrap_i64]; have := KA.out; omega
  have wu : IntKind.i64.wrap (eu - e) = eu - e := by rw [IntKind.wrap_i64]; have := KU.out; omega
  clear hx hu hka hku hk he hu0
  have Bx0 := hide (((Blk.newAt w (w.heap.size) (rfl) #[.bool sx, .slice ox lx cx, .int .i64 ex] 71).alloc (.cells #[.bool su, .slice ou lu cu, .int .i64 eu] 71)).alloc (.cells #[.bool false, .slice none 0 0, .int .i64 0] 71))
  have Bu0 := hide ((Blk.newAt (w.alloc (.cells #[.bool sx, .slice ox lx cx, .int .i64 ex] 71)) (w.heap.size + 1) (by simp) #[.bool su, .slice ou lu cu, .int .i64 eu] 71).alloc (.cells #[.bool false, .slice none 0 0, .int .i64 0] 71))
  have Br0 := hide (Blk.newAt ((w.alloc (.cells #[.bool sx, .slice ox lx cx, .int .i64 ex] 71)).alloc (.cells #[.bool su, .slice ou lu cu, .int .i64 eu] 71)) (w.heap.size + 1 + 1) (by simp) #[.bool false, .slice none 0 0, .int .i64 0] 71)
  have HB0 : Hid (Below w.heap.size w (((w.alloc (.cells #[.bool sx, .slice ox lx cx, .int .i64 ex] 71)).alloc (.cells #[.bool su, .slice ou lu cu, .int .i64 eu] 71)).alloc (.cells #[.bool false, .slice none 0 0, .int .i64 0] 71))) := ((((Below.refl _ _).alloc (Nat.le_refl _) _).alloc (by simp <;> omega) _).alloc (by simp <;> omega) _)
  have HXW := hide (HX.out.below HB0.out)
  have HUW := hide (HU.out.below HB0.out)
  obtain ⟨W, hW⟩ : ∃ W, W = (((w.alloc (.cells #[.bool sx, .slice ox lx cx, .int .i64 ex] 71)).alloc (.cells #[.bool su, .slice ou lu cu, .int .i64 eu] 71)).alloc (.cells #[.bool false, .slice none 0 0, .int .i64 0] 71)) := ⟨_, rfl⟩
  rw [← hW] at HB0 Bx0 Bu0 Br0 HXW HUW
  have HW := hide hW
  clear hW
  have yx0 : W.cell? ⟨w.heap.size, 0, none⟩ = some (.bool sx) := Bx0.out.cell 0
  have yx1 : W.cell? ⟨w.heap.size, 1, none⟩ = some (.slice ox lx cx) := Bx0.out.cell 1
  have yx2 : W.cell? ⟨w.heap.size, 2, none⟩ = some (.int .i64 ex) := Bx0.out.cell 2
  have yu0 : W.cell? ⟨w.heap.size + 1, 0, none⟩ = some (.bool su) := Bu0.out.cell 0
  have yu1 : W.cell? ⟨w.heap.size + 1, 1, none⟩ = some (.slice ou lu cu) := Bu0.out.cell 1
  have yu2 : W.cell? ⟨w.heap.size + 1, 2, none⟩ = some (.int .i64 eu) := Bu0.out.cell 2
  have yr0 : W.cell? ⟨w.heap.size + 1 + 1, 0, none⟩ = some (.bool false) := Br0.out.cell 0
  have yr1 : W.cell? ⟨w.heap.size + 1 + 1, 1, none⟩ = some (.slice none 0 0) := Br0.out.cell 1
  have yr2 : W.cell? ⟨w.heap.size + 1 + 1, 2, none⟩ = some (.int .i64 0) := Br0.out.cell 2
  clear HX HU
  go_enter Tryz.func44, Tryz.ntmps44
  have b0 : Hid (Below W.heap.size W W.drew) := bdrewD W
  have C0 : Hid (∀ X, Hid (Below W.heap.size W X) → Calls Tryz.prog 91 #[.int .i64 10, .int .i64 (ex - e)] X fun e w' => (∃ o l c, e = .returned (.slice o l c) ∧ Hid (Rl w' o l c (10 ^ ka) 1800)) ∧ Hid (Below W.heap.size W w') ∧ w'.cell? ⟨w.heap.size, 0, none⟩ = some (.bool sx) ∧ w'.cell? ⟨w.heap.size, 1, none⟩ = some (.slice ox lx cx) ∧ w'.cell? ⟨w.heap.size, 2, none⟩ = some (.int .i64 ex) ∧ w'.cell? ⟨w.heap.size + 1, 0, none⟩ = some (.bool su) ∧ w'.cell? ⟨w.heap.size + 1, 1, none⟩ = some (.slice ou lu cu) ∧ w'.cell? ⟨w.heap.size + 1, 2, none⟩ = some (.int .i64 eu)) := by
    intro X bX
    refine (rpowL (ex - e) ka X KA.out (by have := HK.out; omega)).mono ?_
    rintro e w' ⟨⟨o, l, c, rfl, hz⟩, hb⟩
    have bb := bX.out.trans (hb.mono bX.out.size)
    have Bxq := Bx0.out.below bb Bx0.out.lt
    have Buq := Bu0.out.below bb Bu0.out.lt
    exact ⟨⟨o, l, c, rfl, hz⟩, bb, Bxq.cell 0, Bxq.cell 1, Bxq.cell 2, Buq.cell 0, Buq.cell 1, Buq.cell 2⟩
  have C1 : Hid (∀ X (o : Option Addr) (l c : Nat), Hid (Below W.heap.size W X) → Rl X o l c (10 ^ ka) 1800 → Calls Tryz.prog 90 #[.slice ox lx cx, .slice o l c] X fun e w' => (∃ o l c, e = .returned (.slice o l c) ∧ Hid (Rl w' o l c (zx.natAbs * 10 ^ ka) 2802)) ∧ Hid (Below W.heap.size W w') ∧ w'.cell? ⟨w.heap.size, 0, none⟩ = some (.bool sx) ∧ w'.cell? ⟨w.heap.size, 1, none⟩ = some (.slice ox lx cx) ∧ w'.cell? ⟨w.heap.size, 2, none⟩ = some (.int .i64 ex) ∧ w'.cell? ⟨w.heap.size + 1, 0, none⟩ = some (.bool su) ∧ w'.cell? ⟨w.heap.size + 1, 1, none⟩ = some (.slice ou lu cu) ∧ w'.cell? ⟨w.heap.size + 1, 2, none⟩ = some (.int .i64 eu)) := by
    intro X o l c bX hq
    refine (rmulL _ _ _ _ _ _ _ _ _ _ X (HXW.out.below bX.out).abs hq (by omega) (by omega)).mono ?_
    rintro e w' ⟨⟨o, l, c, rfl, hz⟩, hb⟩
    have bb := bX.out.trans (hb.mono bX.out.size)
    have Bxq := Bx0.out.below bb Bx0.out.lt
    have Buq := Bu0.out.below bb Bu0.out.lt
    exact ⟨⟨o, l, c, rfl, hz⟩, bb, Bxq.cell 0, Bxq.cell 1, Bxq.cell 2, Buq.cell 0, Buq.cell 1, Buq.cell 2⟩
  go_wp2_with fail
  simp only [← HW.out]
  try simp only [← HE.out]
  have mk0 : True := trivial
  go_region_held3 (fun w' => w'.cell? ⟨w.heap.size, 0, none⟩ = some (.bool sx) ∧ w'.cell? ⟨w.heap.size, 1, none⟩ = some (.slice ox lx cx) ∧ w'.cell? ⟨w.heap.size, 2, none⟩ = some (.int .i64 ex) ∧ w'.cell? ⟨w.heap.size + 1, 0, none⟩ = some (.bool su) ∧ w'.cell? ⟨w.heap.size + 1, 1, none⟩ = some (.slice ou lu cu) ∧ w'.cell? ⟨w.heap.size + 1, 2, none⟩ = some (.int .i64 eu)) (go_keep) (first
    | (clear mk0; go_at_call 91; refine (C0.out _ b0).mono ?_; rintro e w1 ⟨⟨o1, l1, c1, rfl, Z1⟩, b1, q0_0, q0_1, q0_2, q0_3, q0_4, q0_5⟩; have mk1 : True := trivial)
    | (clear mk1; go_at_call 90; refine (C1.out _ _ _ _ b1 Z1.out).mono ?_; rintro e w2 ⟨⟨oa, la, ca, rfl, Za⟩, b2, q1_0, q1_1, q1_2, q1_3, q1_4, q1_5⟩; have mk2 : True := trivial))
  have Bx2 := hide (Bx0.out.below b2.out Bx0.out.lt)
  have Bu2 := hide (Bu0.out.below b2.out Bu0.out.lt)
  have Br2 := hide (Br0.out.below b2.out Br0.out.lt)
  have HB2 := hide (HB0.out.trans (b2.out.mono HB0.out.size))
  replace HXW := hide (HXW.out.below b2.out)
  replace HUW := hide (HUW.out.below b2.out)
  clear mk2 b0 b1 b2 C0 C1 Z1 q0_0 q0_1 q0_2 q0_3 q0_4 q0_5 q1_0 q1_1 q1_2 q1_3 q1_4 q1_5 Bx0 Bu0 Br0 HB0 yx0 yx1 yx2 yu0 yu1 yu2 yr0 yr1 yr2
  have yx0 : w2.cell? ⟨w.heap.size, 0, none⟩ = some (.bool sx) := Bx2.out.cell 0
  have yx1 : w2.cell? ⟨w.heap.size, 1, none⟩ = some (.slice ox lx cx) := Bx2.out.cell 1
  have yx2 : w2.cell? ⟨w.heap.size, 2, none⟩ = some (.int .i64 ex) := Bx2.out.cell 2
  have yu0 : w2.cell? ⟨w.heap.size + 1, 0, none⟩ = some (.bool su) := Bu2.out.cell 0
  have yu1 : w2.cell? ⟨w.heap.size + 1, 1, none⟩ = some (.slice ou lu cu) := Bu2.out.cell 1
  have yu2 : w2.cell? ⟨w.heap.size + 1, 2, none⟩ = some (.int .i64 eu) := Bu2.out.cell 2
  have yr0 : w2.cell? ⟨w.heap.size + 1 + 1, 0, none⟩ = some (.bool false) := Br2.out.cell 0
  have yr1 : w2.cell? ⟨w.heap.size + 1 + 1, 1, none⟩ = some (.slice none 0 0) := Br2.out.cell 1
  have yr2 : w2.cell? ⟨w.heap.size + 1 + 1, 2, none⟩ = some (.int .i64 0) := Br2.out.cell 2
  have b0 : Hid (Below w2.heap.size w2 w2.drew) := bdrewD w2
  have C0 : Hid (∀ X, Hid (Below w2.heap.size w2 X) → Calls Tryz.prog 91 #[.int .i64 10, .int .i64 (eu - e)] X fun e w' => (∃ o l c, e = .returned (.slice o l c) ∧ Hid (Rl w' o l c (10 ^ ku) 1800)) ∧ Hid (Below w2.heap.size w2 w') ∧ w'.cell? ⟨w.heap.size, 0, none⟩ = some (.bool sx) ∧ w'.cell? ⟨w.heap.size, 1, none⟩ = some (.slice ox lx cx) ∧ w'.cell? ⟨w.heap.size, 2, none⟩ = some (.int .i64 ex) ∧ w'.cell? ⟨w.heap.size + 1, 0, none⟩ = some (.bool su) ∧ w'.cell? ⟨w.heap.size + 1, 1, none⟩ = some (.slice ou lu cu) ∧ w'.cell? ⟨w.heap.size + 1, 2, none⟩ = some (.int .i64 eu)) := by
    intro X bX
    refine (rpowL (eu - e) ku X KU.out (by have := HK.out; omega)).mono ?_
    rintro e w' ⟨⟨o, l, c, rfl, hz⟩, hb⟩
    have bb := bX.out.trans (hb.mono bX.out.size)
    have Bxq := Bx2.out.below bb Bx2.out.lt
    have Buq := Bu2.out.below bb Bu2.out.lt
    exact ⟨⟨o, l, c, rfl, hz⟩, bb, Bxq.cell 0, Bxq.cell 1, Bxq.cell 2, Buq.cell 0, Buq.cell 1, Buq.cell 2⟩
  have C1 : Hid (∀ X (o : Option Addr) (l c : Nat), Hid (Below w2.heap.size w2 X) → Rl X o l c (10 ^ ku) 1800 → Calls Tryz.prog 90 #[.slice ou lu cu, .slice o l c] X fun e w' => (∃ o l c, e = .returned (.slice o l c) ∧ Hid (Rl w' o l c (zu.natAbs * 10 ^ ku) 2802)) ∧ Hid (Below w2.heap.size w2 w') ∧ w'.cell? ⟨w.heap.size, 0, none⟩ = some (.bool sx) ∧ w'.cell? ⟨w.heap.size, 1, none⟩ = some (.slice ox lx cx) ∧ w'.cell? ⟨w.heap.size, 2, none⟩ = some (.int .i64 ex) ∧ w'.cell? ⟨w.heap.size + 1, 0, none⟩ = some (.bool su) ∧ w'.cell? ⟨w.heap.size + 1, 1, none⟩ = some (.slice ou lu cu) ∧ w'.cell? ⟨w.heap.size + 1, 2, none⟩ = some (.int .i64 eu)) := by
    intro X o l c bX hq
    refine (rmulL _ _ _ _ _ _ _ _ _ _ X (HUW.out.below bX.out).abs hq (by omega) (by omega)).mono ?_
    rintro e w' ⟨⟨o, l, c, rfl, hz⟩, hb⟩
    have bb := bX.out.trans (hb.mono bX.out.size)
    have Bxq := Bx2.out.below bb Bx2.out.lt
    have Buq := Bu2.out.below bb Bu2.out.lt
    exact ⟨⟨o, l, c, rfl, hz⟩, bb, Bxq.cell 0, Bxq.cell 1, Bxq.cell 2, Buq.cell 0, Buq.cell 1, Buq.cell 2⟩
  go_wp2_with fail
  have mk0 : True := trivial
  go_region_held3 (fun w' => w'.cell? ⟨w.heap.size, 0, none⟩ = some (.bool sx) ∧ w'.cell? ⟨w.heap.size, 1, none⟩ = some (.slice ox lx cx) ∧ w'.cell? ⟨w.heap.size, 2, none⟩ = some (.int .i64 ex) ∧ w'.cell? ⟨w.heap.size + 1, 0, none⟩ = some (.bool su) ∧ w'.cell? ⟨w.heap.size + 1, 1, none⟩ = some (.slice ou lu cu) ∧ w'.cell? ⟨w.heap.size + 1, 2, none⟩ = some (.int .i64 eu)) (go_keep) (first
    | (clear mk0; go_at_call 91; refine (C0.out _ b0).mono ?_; rintro e w3 ⟨⟨o1, l1, c1, rfl, Z1⟩, b1, q0_0, q0_1, q0_2, q0_3, q0_4, q0_5⟩; have mk1 : True := trivial)
    | (clear mk1; go_at_call 90; refine (C1.out _ _ _ _ b1 Z1.out).mono ?_; rintro e w4 ⟨⟨ob, lb, cb, rfl, Zb⟩, b2, q1_0, q1_1, q1_2, q1_3, q1_4, q1_5⟩; have mk2 : True := trivial))
  have Bx4 := hide (Bx2.out.below b2.out Bx2.out.lt)
  have Bu4 := hide (Bu2.out.below b2.out Bu2.out.lt)
  have Br4 := hide (Br2.out.below b2.out Br2.out.lt)
  have HB4 := hide (HB2.out.trans (b2.out.mono HB2.out.size))
  replace HXW := hide (HXW.out.below b2.out)
  replace HUW := hide (HUW.out.below b2.out)
  replace Za := hide (Za.out.below b2.out)
  clear mk2 b0 b1 b2 C0 C1 Z1 q0_0 q0_1 q0_2 q0_3 q0_4 q0_5 q1_0 q1_1 q1_2 q1_3 q1_4 q1_5 Bx2 Bu2 Br2 HB2 yx0 yx1 yx2 yu0 yu1 yu2 yr0 yr1 yr2
  have yx0 : w4.cell? ⟨w.heap.size, 0, none⟩ = some (.bool sx) := Bx4.out.cell 0
  have yx1 : w4.cell? ⟨w.heap.size, 1, none⟩ = some (.slice ox lx cx) := Bx4.out.cell 1
  have yx2 : w4.cell? ⟨w.heap.size, 2, none⟩ = some (.int .i64 ex) := Bx4.out.cell 2
  have yu0 : w4.cell? ⟨w.heap.size + 1, 0, none⟩ = some (.bool su) := Bu4.out.cell 0
  have yu1 : w4.cell? ⟨w.heap.size + 1, 1, none⟩ = some (.slice ou lu cu) := Bu4.out.cell 1
  have yu2 : w4.cell? ⟨w.heap.size + 1, 2, none⟩ = some (.int .i64 eu) := Bu4.out.cell 2
  have yr0 : w4.cell? ⟨w.heap.size + 1 + 1, 0, none⟩ = some (.bool false) := Br4.out.cell 0
  have yr1 : w4.cell? ⟨w.heap.size + 1 + 1, 1, none⟩ = some (.slice none 0 0) := Br4.out.cell 1
  have yr2 : w4.cell? ⟨w.heap.size + 1 + 1, 2, none⟩ = some (.int .i64 0) := Br4.out.cell 2
  clear HXW HUW KA KU
  have M1 := hide (rmakeI sx _ _ _ _ _ w4 (by omega) Za.out)
  clear Za
  go_wp2_with fail
  refine (M1.out).mono ?_
  rintro e w5 ⟨⟨s3, o3, l3, c3, rfl, Z3⟩, hb⟩
  have Yb := hide (Zb.out.below hb)
  clear Zb M1
  have R3 := hide Z3
  clear Z3
  have Bx5 := hide (Bx4.out.below hb Bx4.out.lt)
  have Bu5 := hide (Bu4.out.below hb Bu4.out.lt)
  have Br5 := hide (Br4.out.below hb Br4.out.lt)
  have HB5 := hide (HB4.out.trans (hb.mono HB4.out.size))
  clear hb Bx4 Bu4 Br4 HB4 yx0 yx1 yx2 yu0 yu1 yu2 yr0 yr1 yr2
  have yx0 : w5.cell? ⟨w.heap.size, 0, none⟩ = some (.bool sx) := Bx5.out.cell 0
  have yx1 : w5.cell? ⟨w.heap.size, 1, none⟩ = some (.slice ox lx cx) := Bx5.out.cell 1
  have yx2 : w5.cell? ⟨w.heap.size, 2, none⟩ = some (.int .i64 ex) := Bx5.out.cell 2
  have yu0 : w5.cell? ⟨w.heap.size + 1, 0, none⟩ = some (.bool su) := Bu5.out.cell 0
  have yu1 : w5.cell? ⟨w.heap.size + 1, 1, none⟩ = some (.slice ou lu cu) := Bu5.out.cell 1
  have yu2 : w5.cell? ⟨w.heap.size + 1, 2, none⟩ = some (.int .i64 eu) := Bu5.out.cell 2
  have yr0 : w5.cell? ⟨w.heap.size + 1 + 1, 0, none⟩ = some (.bool false) := Br5.out.cell 0
  have yr1 : w5.cell? ⟨w.heap.size + 1 + 1, 1, none⟩ = some (.slice none 0 0) := Br5.out.cell 1
  have yr2 : w5.cell? ⟨w.heap.size + 1 + 1, 2, none⟩ = some (.int .i64 0) := Br5.out.cell 2
  have M2 := hide (rmakeI false _ _ _ _ _ w5 (by omega) Yb.out)
  go_wp2_with fail
  refine (M2.out).mono ?_
  rintro e w6 ⟨⟨s4, o4, l4, c4, rfl, Z4⟩, hb⟩
  have Zb := hide (Yb.out.below hb)
  have R3b := hide (R3.out.below hb)
  have R4 := hide Z4
  clear Yb R3 M2 Z4
  have Bx6 := hide (Bx5.out.below hb Bx5.out.lt)
  have Bu6 := hide (Bu5.out.below hb Bu5.out.lt)
  have Br6 := hide (Br5.out.below hb Br5.out.lt)
  have HB6 := hide (HB5.out.trans (hb.mono HB5.out.size))
  clear hb Bx5 Bu5 Br5 HB5 yx0 yx1 yx2 yu0 yu1 yu2 yr0 yr1 yr2
  have yx0 : w6.cell? ⟨w.heap.size, 0, none⟩ = some (.bool sx) := Bx6.out.cell 0
  have yx1 : w6.cell? ⟨w.heap.size, 1, none⟩ = some (.slice ox lx cx) := Bx6.out.cell 1
  have yx2 : w6.cell? ⟨w.heap.size, 2, none⟩ = some (.int .i64 ex) := Bx6.out.cell 2
  have yu0 : w6.cell? ⟨w.heap.size + 1, 0, none⟩ = some (.bool su) := Bu6.out.cell 0
  have yu1 : w6.cell? ⟨w.heap.size + 1, 1, none⟩ = some (.slice ou lu cu) := Bu6.out.cell 1
  have yu2 : w6.cell? ⟨w.heap.size + 1, 2, none⟩ = some (.int .i64 eu) := Bu6.out.cell 2
  have yr0 : w6.cell? ⟨w.heap.size + 1 + 1, 0, none⟩ = some (.bool false) := Br6.out.cell 0
  have yr1 : w6.cell? ⟨w.heap.size + 1 + 1, 1, none⟩ = some (.slice none 0 0) := Br6.out.cell 1
  have yr2 : w6.cell? ⟨w.heap.size + 1 + 1, 2, none⟩ = some (.int .i64 0) := Br6.out.cell 2
  have DV := hide (rdivG _ _ _ _ _ _ _ _ _ _ _ _ _ _ w6 R3b.out R4.out (by omega) (by omega) (zvf_ne HU0.out ku))
  go_wp2_with fail
  refine (DV.out).mono ?_
  rintro e w7 ⟨⟨sq, oq, lq, cq, sr, or, lr, cr, rfl, ZQ, ZR⟩, hb⟩
  have Y6 := Zb
  have H6 := hide hb
  have H67 := hide hb.size
  have Yb := hide (Zb.out.below hb)
  clear Zb R3b R4 DV
  have Bx7 := hide (Bx6.out.below hb Bx6.out.lt)
  have Bu7 := hide (Bu6.out.below hb Bu6.out.lt)
  have Br7 := hide (Br6.out.below hb Br6.out.lt)
  have HB7 := hide (HB6.out.trans (hb.mono HB6.out.size))
  clear hb Bx6 Bu6 Br6 HB6 yx0 yx1 yx2 yu0 yu1 yu2 yr0 yr1 yr2
  have yx0 : w7.cell? ⟨w.heap.size, 0, none⟩ = some (.bool sx) := Bx7.out.cell 0
  have yx1 : w7.cell? ⟨w.heap.size, 1, none⟩ = some (.slice ox lx cx) := Bx7.out.cell 1
  have yx2 : w7.cell? ⟨w.heap.size, 2, none⟩ = some (.int .i64 ex) := Bx7.out.cell 2
  have yu0 : w7.cell? ⟨w.heap.size + 1, 0, none⟩ = some (.bool su) := Bu7.out.cell 0
  have yu1 : w7.cell? ⟨w.heap.size + 1, 1, none⟩ = some (.slice ou lu cu) := Bu7.out.cell 1
  have yu2 : w7.cell? ⟨w.heap.size + 1, 2, none⟩ = some (.int .i64 eu) := Bu7.out.cell 2
  have yr0 : w7.cell? ⟨w.heap.size + 1 + 1, 0, none⟩ = some (.bool false) := Br7.out.cell 0
  have yr1 : w7.cell? ⟨w.heap.size + 1 + 1, 1, none⟩ = some (.slice none 0 0) := Br7.out.cell 1
  have yr2 : w7.cell? ⟨w.heap.size + 1 + 1, 2, none⟩ = some (.int .i64 0) := Br7.out.cell 2
  have HRQ : Hid (w.heap.size + 1 + 1 < w7.heap.size) := hide Br7.out.lt
  have Bx8 := hide (((Bx7.out.alloc (.cells #[.bool sq, .slice oq lq cq] 69)).alloc (.cells #[.bool sr, .slice or lr cr] 69)))
  have Bu8 := hide (((Bu7.out.alloc (.cells #[.bool sq, .slice oq lq cq] 69)).alloc (.cells #[.bool sr, .slice or lr cr] 69)))
  have Br8 := hide (((Br7.out.alloc (.cells #[.bool sq, .slice oq lq cq] 69)).alloc (.cells #[.bool sr, .slice or lr cr] 69)))
  have Bq8 := hide (((Blk.newAt w7 (w7.heap.size) (rfl) #[.bool sq, .slice oq lq cq] 69).alloc (.cells #[.bool sr, .slice or lr cr] 69)))
  have Bt8 := hide ((Blk.newAt (w7.alloc (.cells #[.bool sq, .slice oq lq cq] 69)) (w7.heap.size + 1) (by simp) #[.bool sr, .slice or lr cr] 69))
  have HB8 : Hid (Below w.heap.size w ((w7.alloc (.cells #[.bool sq, .slice oq lq cq] 69)).alloc (.cells #[.bool sr, .slice or lr cr] 69))) := ((HB7.out.alloc HB7.out.size _).alloc (by have := HB7.out.size; simp; omega) _)
  clear Bx7 Bu7 Br7 HB7 yx0 yx1 yx2 yu0 yu1 yu2 yr0 yr1 yr2
  have yx0 : ((w7.alloc (.cells #[.bool sq, .slice oq lq cq] 69)).alloc (.cells #[.bool sr, .slice or lr cr] 69)).cell? ⟨w.heap.size, 0, none⟩ = some (.bool sx) := Bx8.out.cell 0
  have yx1 : ((w7.alloc (.cells #[.bool sq, .slice oq lq cq] 69)).alloc (.cells #[.bool sr, .slice or lr cr] 69)).cell? ⟨w.heap.size, 1, none⟩ = some (.slice ox lx cx) := Bx8.out.cell 1
  have yx2 : ((w7.alloc (.cells #[.bool sq, .slice oq lq cq] 69)).alloc (.cells #[.bool sr, .slice or lr cr] 69)).cell? ⟨w.heap.size, 2, none⟩ = some (.int .i64 ex) := Bx8.out.cell 2
  have yu0 : ((w7.alloc (.cells #[.bool sq, .slice oq lq cq] 69)).alloc (.cells #[.bool sr, .slice or lr cr] 69)).cell? ⟨w.heap.size + 1, 0, none⟩ = some (.bool su) := Bu8.out.cell 0
  have yu1 : ((w7.alloc (.cells #[.bool sq, .slice oq lq cq] 69)).alloc (.cells #[.bool sr, .slice or lr cr] 69)).cell? ⟨w.heap.size + 1, 1, none⟩ = some (.slice ou lu cu) := Bu8.out.cell 1
  have yu2 : ((w7.alloc (.cells #[.bool sq, .slice oq lq cq] 69)).alloc (.cells #[.bool sr, .slice or lr cr] 69)).cell? ⟨w.heap.size + 1, 2, none⟩ = some (.int .i64 eu) := Bu8.out.cell 2
  have yr0 : ((w7.alloc (.cells #[.bool sq, .slice oq lq cq] 69)).alloc (.cells #[.bool sr, .slice or lr cr] 69)).cell? ⟨w.heap.size + 1 + 1, 0, none⟩ = some (.bool false) := Br8.out.cell 0
  have yr1 : ((w7.alloc (.cells #[.bool sq, .slice oq lq cq] 69)).alloc (.cells #[.bool sr, .slice or lr cr] 69)).cell? ⟨w.heap.size + 1 + 1, 1, none⟩ = some (.slice none 0 0) := Br8.out.cell 1
  have yr2 : ((w7.alloc (.cells #[.bool sq, .slice oq lq cq] 69)).alloc (.cells #[.bool sr, .slice or lr cr] 69)).cell? ⟨w.heap.size + 1 + 1, 2, none⟩ = some (.int .i64 0) := Br8.out.cell 2
  have yq0 : ((w7.alloc (.cells #[.bool sq, .slice oq lq cq] 69)).alloc (.cells #[.bool sr, .slice or lr cr] 69)).cell? ⟨w7.heap.size, 0, none⟩ = some (.bool sq) := Bq8.out.cell 0
  have yq1 : ((w7.alloc (.cells #[.bool sq, .slice oq lq cq] 69)).alloc (.cells #[.bool sr, .slice or lr cr] 69)).cell? ⟨w7.heap.size, 1, none⟩ = some (.slice oq lq cq) := Bq8.out.cell 1
  have yt0 : ((w7.alloc (.cells #[.bool sq, .slice oq lq cq] 69)).alloc (.cells #[.bool sr, .slice or lr cr] 69)).cell? ⟨w7.heap.size + 1, 0, none⟩ = some (.bool sr) := Bt8.out.cell 0
  have yt1 : ((w7.alloc (.cells #[.bool sq, .slice oq lq cq] 69)).alloc (.cells #[.bool sr, .slice or lr cr] 69)).cell? ⟨w7.heap.size + 1, 1, none⟩ = some (.slice or lr cr) := Bt8.out.cell 1
  have hlr : (0 : Int) < (lr : Int) := by have := mt (ri_len ZR.out).1 HM.out; omega
  clear HM
  obtain ⟨W8, hW8⟩ : ∃ x, x = ((w7.alloc (.cells #[.bool sq, .slice oq lq cq] 69)).alloc (.cells #[.bool sr, .slice or lr cr] 69)) := ⟨_, rfl⟩
  rw [← hW8] at HB8 Bx8 Bu8 Br8 Bq8 Bt8 yx0 yx1 yx2 yu0 yu1 yu2 yr0 yr1 yr2 yq0 yq1 yt0 yt1
  have HF := hide hW8
  have bal8 : Below w7.heap.size w7 W8 := by rw [hW8]; exact ((Below.refl _ _).alloc (Nat.le_refl _) _).alloc (by simp) _
  replace Yb := hide (Yb.out.below bal8)
  replace ZQ := hide (ZQ.out.below bal8)
  replace ZR := hide (ZR.out.below bal8)
  replace H6 := hide (H6.out.trans (bal8.mono H6.out.size))
  clear hW8 bal8
  go_wp2_with fail
  simp only [← HF.out]
  obtain ⟨hf, hhf⟩ : ∃ h, h = cmpN ((zv sx (zx.natAbs * 10 ^ ka) % zv false (zu.natAbs * 10 ^ ku)).natAbs + (zv sx (zx.natAbs * 10 ^ ka) % zv false (zu.natAbs * 10 ^ ku)).natAbs) (zu.natAbs * 10 ^ ku) := ⟨_, rfl⟩
  have HH := hide (show hf = -1 ∨ hf = 0 ∨ hf = 1 by rw [hhf]; exact cmp_three _ _)
  have HG : Hid (greaterB m sx (decide ((zv sx (zx.natAbs * 10 ^ ka) / zv false (zu.natAbs * 10 ^ ku)) % 2 = 1)) hf = true) := by rw [hhf]; exact hg
  have HHF := hide hhf
  clear hg hhf
  have CA := hide (raddL _ _ _ _ _ _ _ _ _ _ W8 ZR.out.abs ZR.out.abs (by omega) (by omega))
  clear ZR
  skip
  refine (CA.out).mono ?_
  rintro e w9 ⟨⟨o9, l9, c9, rfl, Z9⟩, hb⟩
  have Yn := hide (Yb.out.below hb)
  have Qn := hide (ZQ.out.below hb)
  clear Yb ZQ
  have Yb := Yn
  have ZQ := Qn
  clear Yn Qn
  replace H6 := hide (H6.out.trans (hb.mono H6.out.size))
  clear CA
  have Bx9 := hide (Bx8.out.below hb Bx8.out.lt)
  have Bu9 := hide (Bu8.out.below hb Bu8.out.lt)
  have Br9 := hide (Br8.out.below hb Br8.out.lt)
  have Bq9 := hide (Bq8.out.below hb Bq8.out.lt)
  have Bt9 := hide (Bt8.out.below hb Bt8.out.lt)
  have HB9 := hide (HB8.out.trans (hb.mono HB8.out.size))
  clear hb Bx8 Bu8 Br8 Bq8 Bt8 HB8 yx0 yx1 yx2 yu0 yu1 yu2 yr0 yr1 yr2 yq0 yq1 yt0 yt1
  have yx0 : w9.cell? ⟨w.heap.size, 0, none⟩ = some (.bool sx) := Bx9.out.cell 0
  have yx1 : w9.cell? ⟨w.heap.size, 1, none⟩ = some (.slice ox lx cx) := Bx9.out.cell 1
  have yx2 : w9.cell? ⟨w.heap.size, 2, none⟩ = some (.int .i64 ex) := Bx9.out.cell 2
  have yu0 : w9.cell? ⟨w.heap.size + 1, 0, none⟩ = some (.bool su) := Bu9.out.cell 0
  have yu1 : w9.cell? ⟨w.heap.size + 1, 1, none⟩ = some (.slice ou lu cu) := Bu9.out.cell 1
  have yu2 : w9.cell? ⟨w.heap.size + 1, 2, none⟩ = some (.int .i64 eu) := Bu9.out.cell 2
  have yr0 : w9.cell? ⟨w.heap.size + 1 + 1, 0, none⟩ = some (.bool false) := Br9.out.cell 0
  have yr1 : w9.cell? ⟨w.heap.size + 1 + 1, 1, none⟩ = some (.slice none 0 0) := Br9.out.cell 1
  have yr2 : w9.cell? ⟨w.heap.size + 1 + 1, 2, none⟩ = some (.int .i64 0) := Br9.out.cell 2
  have yq0 : w9.cell? ⟨w7.heap.size, 0, none⟩ = some (.bool sq) := Bq9.out.cell 0
  have yq1 : w9.cell? ⟨w7.heap.size, 1, none⟩ = some (.slice oq lq cq) := Bq9.out.cell 1
  have yt0 : w9.cell? ⟨w7.heap.size + 1, 0, none⟩ = some (.bool sr) := Bt9.out.cell 0
  have yt1 : w9.cell? ⟨w7.heap.size + 1, 1, none⟩ = some (.slice or lr cr) := Bt9.out.cell 1
  have CC := hide (rcmpL _ _ _ _ _ _ _ _ _ _ hf w9 Z9.out Yb.out (by omega) (by omega) HHF.out.symm)
  clear Z9 HHF
  go_wp2_with fail
  refine (CC.out).mono ?_
  rintro e w10 ⟨rfl, hb⟩
  have Yn := hide (Yb.out.below hb)
  have Qn := hide (ZQ.out.below hb)
  clear Yb ZQ
  have Yb := Yn
  have ZQ := Qn
  clear Yn Qn
  replace H6 := hide (H6.out.trans (hb.mono H6.out.size))
  clear CC
  have Bx10 := hide (Bx9.out.below hb Bx9.out.lt)
  have Bu10 := hide (Bu9.out.below hb Bu9.out.lt)
  have Br10 := hide (Br9.out.below hb Br9.out.lt)
  have Bq10 := hide (Bq9.out.below hb Bq9.out.lt)
  have Bt10 := hide (Bt9.out.below hb Bt9.out.lt)
  have HB10 := hide (HB9.out.trans (hb.mono HB9.out.size))
  clear hb Bx9 Bu9 Br9 Bq9 Bt9 HB9 yx0 yx1 yx2 yu0 yu1 yu2 yr0 yr1 yr2 yq0 yq1 yt0 yt1
  have yx0 : w10.cell? ⟨w.heap.size, 0, none⟩ = some (.bool sx) := Bx10.out.cell 0
  have yx1 : w10.cell? ⟨w.heap.size, 1, none⟩ = some (.slice ox lx cx) := Bx10.out.cell 1
  have yx2 : w10.cell? ⟨w.heap.size, 2, none⟩ = some (.int .i64 ex) := Bx10.out.cell 2
  have yu0 : w10.cell? ⟨w.heap.size + 1, 0, none⟩ = some (.bool su) := Bu10.out.cell 0
  have yu1 : w10.cell? ⟨w.heap.size + 1, 1, none⟩ = some (.slice ou lu cu) := Bu10.out.cell 1
  have yu2 : w10.cell? ⟨w.heap.size + 1, 2, none⟩ = some (.int .i64 eu) := Bu10.out.cell 2
  have yr0 : w10.cell? ⟨w.heap.size + 1 + 1, 0, none⟩ = some (.bool false) := Br10.out.cell 0
  have yr1 : w10.cell? ⟨w.heap.size + 1 + 1, 1, none⟩ = some (.slice none 0 0) := Br10.out.cell 1
  have yr2 : w10.cell? ⟨w.heap.size + 1 + 1, 2, none⟩ = some (.int .i64 0) := Br10.out.cell 2
  have yq0 : w10.cell? ⟨w7.heap.size, 0, none⟩ = some (.bool sq) := Bq10.out.cell 0
  have yq1 : w10.cell? ⟨w7.heap.size, 1, none⟩ = some (.slice oq lq cq) := Bq10.out.cell 1
  have yt0 : w10.cell? ⟨w7.heap.size + 1, 0, none⟩ = some (.bool sr) := Bt10.out.cell 0
  have yt1 : w10.cell? ⟨w7.heap.size + 1, 1, none⟩ = some (.slice or lr cr) := Bt10.out.cell 1
  have CG := greater_any m HM8.out _ _ _ _ _ _ _ sx hf w10 ZQ.out (by omega) HH.out
  rw [HG.out] at CG
  have CG := hide CG
  clear HG HH
  go_wp2_with fail
  refine (CG.out).mono ?_
  rintro e w11 ⟨rfl, hb⟩
  have Yn := hide (Yb.out.below hb)
  have Qn := hide (ZQ.out.below hb)
  clear Yb ZQ
  have Yb := Yn
  have ZQ := Qn
  clear Yn Qn
  replace H6 := hide (H6.out.trans (hb.mono H6.out.size))
  clear CG
  have Bx11 := hide (Bx10.out.below hb Bx10.out.lt)
  have Bu11 := hide (Bu10.out.below hb Bu10.out.lt)
  have Br11 := hide (Br10.out.below hb Br10.out.lt)
  have Bq11 := hide (Bq10.out.below hb Bq10.out.lt)
  have Bt11 := hide (Bt10.out.below hb Bt10.out.lt)
  have HB11 := hide (HB10.out.trans (hb.mono HB10.out.size))
  clear hb Bx10 Bu10 Br10 Bq10 Bt10 HB10 yx0 yx1 yx2 yu0 yu1 yu2 yr0 yr1 yr2 yq0 yq1 yt0 yt1
  have yx0 : w11.cell? ⟨w.heap.size, 0, none⟩ = some (.bool sx) := Bx11.out.cell 0
  have yx1 : w11.cell? ⟨w.heap.size, 1, none⟩ = some (.slice ox lx cx) := Bx11.out.cell 1
  have yx2 : w11.cell? ⟨w.heap.size, 2, none⟩ = some (.int .i64 ex) := Bx11.out.cell 2
  have yu0 : w11.cell? ⟨w.heap.size + 1, 0, none⟩ = some (.bool su) := Bu11.out.cell 0
  have yu1 : w11.cell? ⟨w.heap.size + 1, 1, none⟩ = some (.slice ou lu cu) := Bu11.out.cell 1
  have yu2 : w11.cell? ⟨w.heap.size + 1, 2, none⟩ = some (.int .i64 eu) := Bu11.out.cell 2
  have yr0 : w11.cell? ⟨w.heap.size + 1 + 1, 0, none⟩ = some (.bool false) := Br11.out.cell 0
  have yr1 : w11.cell? ⟨w.heap.size + 1 + 1, 1, none⟩ = some (.slice none 0 0) := Br11.out.cell 1
  have yr2 : w11.cell? ⟨w.heap.size + 1 + 1, 2, none⟩ = some (.int .i64 0) := Br11.out.cell 2
  have yq0 : w11.cell? ⟨w7.heap.size, 0, none⟩ = some (.bool sq) := Bq11.out.cell 0
  have yq1 : w11.cell? ⟨w7.heap.size, 1, none⟩ = some (.slice oq lq cq) := Bq11.out.cell 1
  have yt0 : w11.cell? ⟨w7.heap.size + 1, 0, none⟩ = some (.bool sr) := Bt11.out.cell 0
  have yt1 : w11.cell? ⟨w7.heap.size + 1, 1, none⟩ = some (.slice or lr cr) := Bt11.out.cell 1
  clear yx0 yx1 yx2 yu0 yu1 yu2 yr0 yr1 yr2 yq0 yq1 yt0 yt1
  have d0 : w11.cell? ⟨w7.heap.size, 0, none⟩ = some (.bool sq) := Bq11.out.cell 0
  have d1 : w11.cell? ⟨w7.heap.size, 1, none⟩ = some (.slice oq lq cq) := Bq11.out.cell 1
  have d2 := Bq11.out.free 0
  have d3 := Bq11.out.free 1
  have HC : Hid (∀ w', Below w11.heap.size w11 w' → w'.cell? ⟨w7.heap.size, 0, none⟩ = some (.bool sq) ∧ w'.cell? ⟨w7.heap.size, 1, none⟩ = some (.slice oq lq cq) ∧ w'.frozen? ⟨w7.heap.size, 0, none⟩ = false ∧ w'.frozen? ⟨w7.heap.size, 1, none⟩ = false) := by
    intro w' hb
    have Bqq := Bq11.out.below hb Bq11.out.lt
    exact ⟨Bqq.cell 0, Bqq.cell 1, Bqq.free 0, Bqq.free 1⟩
  have b0 : Hid (Below w11.heap.size w11 w11.drew) := bdrewD w11
  have C0 : Hid (∀ X, Hid (Below w11.heap.size w11 X) → Calls Tryz.prog 47 #[.bool false, .slice (some ⟨X.heap.size, 0, none⟩) 1 1] (X.alloc (.cells #[.int .u32 1] 76)) fun e w' => (∃ s o l c, e = .returned (.agg #[.bool s, .slice o l c]) ∧ Hid (RI w' s o l c 1 2 0)) ∧ Hid (Below w11.heap.size w11 w') ∧ w'.cell? ⟨w7.heap.size, 0, none⟩ = some (.bool sq) ∧ w'.cell? ⟨w7.heap.size, 1, none⟩ = some (.slice oq lq cq) ∧ w'.frozen? ⟨w7.heap.size, 0, none⟩ = false ∧ w'.frozen? ⟨w7.heap.size, 1, none⟩ = false) := by
    intro X bX
    refine (rmakeI false _ 1 1 1 1 _ (by omega) (rl_one _ X.heap.size 76 (Blk.newAt X X.heap.size rfl #[.int .u32 1] 76))).mono ?_
    rintro e w' ⟨⟨s, o, l, c, rfl, hz⟩, hb⟩
    have b1 := bX.out.alloc bX.out.size (.cells #[.int .u32 1] 76)
    have bb := b1.trans (hb.mono b1.size)
    exact ⟨⟨s, o, l, c, rfl, hz.lo (Nat.zero_le _) (Nat.le_refl _)⟩, bb, HC.out _ bb⟩
  have C1 : Hid (∀ X (s : Bool) (o : Option Addr) (l c : Nat), Hid (Below w11.heap.size w11 X) → RI X s o l c 1 2 0 → Calls Tryz.prog 96 #[.agg #[.bool sq, .slice oq lq cq], .agg #[.bool s, .slice o l c]] X fun e w' => (∃ s o l c, e = .returned (.agg #[.bool s, .slice o l c]) ∧ Hid (RI w' s o l c ((zv sx (zx.natAbs * 10 ^ ka) / zv false (zu.natAbs * 10 ^ ku)) + 1) 5620 w11.heap.size)) ∧ Hid (Below w11.heap.size w11 w') ∧ w'.cell? ⟨w7.heap.size, 0, none⟩ = some (.bool sq) ∧ w'.cell? ⟨w7.heap.size, 1, none⟩ = some (.slice oq lq cq) ∧ w'.frozen? ⟨w7.heap.size, 0, none⟩ = false ∧ w'.frozen? ⟨w7.heap.size, 1, none⟩ = false) := by
    intro X s o l c bX hq
    refine (raddG _ _ _ _ _ _ _ _ _ _ _ _ _ _ X (ZQ.out.below bX.out) hq (by omega) (by omega)).mono ?_
    rintro e w' ⟨⟨s, o, l, c, rfl, hz⟩, hb⟩
    have bb := bX.out.trans (hb.mono bX.out.size)
    exact ⟨⟨s, o, l, c, rfl, hz.out.lo bX.out.size (by omega)⟩, bb, HC.out _ bb⟩
  have hal := (HC.out _ (b0.out.alloc b0.out.size (.cells #[.int .u32 1] 76)))
  obtain ⟨j0, j1, j2, j3⟩ := hal
  obtain ⟨i0, i1, i2, i3⟩ := HC.out _ b0.out
  have lt0 : w7.heap.size < w11.heap.size := Bq11.out.lt
  have ne1 : ¬ w7.heap.size = w11.heap.size := by omega
  have ne2 : ¬ w11.heap.size = w7.heap.size := by omega
  clear HC
  go_wp2_with fail
  have mk0 : True := trivial
  go_region_with (first
    | (clear mk0; go_at_call 47; refine (C0.out _ b0).mono ?_; rintro e u1 ⟨⟨s5, o5, l5, c5, rfl, Z5⟩, b1, q0_0, q0_1, q0_2, q0_3⟩; have mk1 : True := trivial)
    | (clear mk1; go_at_call 96; refine (C1.out _ _ _ _ _ b1 Z5.out).mono ?_; rintro e u2 ⟨⟨s6, o6, l6, c6, rfl, Z6⟩, b2, q1_0, q1_1, q1_2, q1_3⟩; have mk2 : True := trivial))
  all_goals
    have h6 := H6.out.trans (b2.out.mono H6.out.size)
    have Y12 : Hid (Rl ((u2.setCell ⟨w7.heap.size, 0, none⟩ (.bool s6)).setCell ⟨w7.heap.size, 1, none⟩ (.slice o6 l6 c6)) ob lb cb (zu.natAbs * 10 ^ ku) 2802) := hide (Y6.out.below ((h6.setCell H67.out _).setCell H67.out _))
    have Q12 : Hid (RI ((u2.setCell ⟨w7.heap.size, 0, none⟩ (.bool s6)).setCell ⟨w7.heap.size, 1, none⟩ (.slice o6 l6 c6)) s6 o6 l6 c6 ((zv sx (zx.natAbs * 10 ^ ka) / zv false (zu.natAbs * 10 ^ ku)) + 1) 5620 w11.heap.size) := hide ((Z6.out.set lt0 _).set lt0 _)
    have Bq12 : Hid (Blk ((u2.setCell ⟨w7.heap.size, 0, none⟩ (.bool s6)).setCell ⟨w7.heap.size, 1, none⟩ (.slice o6 l6 c6)) (w7.heap.size) #[.bool s6, .slice o6 l6 c6] 69) := hide ((Bq11.out.below b2.out Bq11.out.lt).putI2 _ _)
    have Br12 : Hid (Blk ((u2.setCell ⟨w7.heap.size, 0, none⟩ (.bool s6)).setCell ⟨w7.heap.size, 1, none⟩ (.slice o6 l6 c6)) (w.heap.size + 1 + 1) #[.bool false, .slice none 0 0, .int .i64 0] 71) := hide (((Br11.out.below b2.out Br11.out.lt).other (a := ⟨w7.heap.size, 0, none⟩) (Nat.ne_of_gt HRQ.out) _).other (a := ⟨w7.heap.size, 1, none⟩) (Nat.ne_of_gt HRQ.out) _)
    have hwq : w.heap.size ≤ w7.heap.size := by have := HRQ.out; omega
    have HB12 : Hid (Below w.heap.size w ((u2.setCell ⟨w7.heap.size, 0, none⟩ (.bool s6)).setCell ⟨w7.heap.size, 1, none⟩ (.slice o6 l6 c6))) := hide (((HB11.out.trans (b2.out.mono HB11.out.size)).setCell hwq _).setCell hwq _)
    clear mk2 b0 b1 b2 C0 C1 Z5 Z6 q0_0 q0_1 q0_2 q0_3 q1_0 q1_1 q1_2 q1_3 d0 d1 d2 d3 i0 i1 i2 i3 j0 j1 j2 j3 lt0 ne1 ne2 hwq h6 H6 H67 Y6 ZQ Yb HF Bx11 Bu11 Br11 Bq11 Bt11 HB11
    obtain ⟨W12, hW12⟩ : ∃ x, x = ((u2.setCell ⟨w7.heap.size, 0, none⟩ (.bool s6)).setCell ⟨w7.heap.size, 1, none⟩ (.slice o6 l6 c6)) := ⟨_, rfl⟩
    rw [← hW12] at Y12 Q12 Bq12 Br12 HB12 ⊢
    have HF := hide hW12
    clear hW12
    have Yb := Y12
    clear Y12
    obtain ⟨G, hG⟩ : ∃ G, G = w.heap.size + 1 + 1 := ⟨_, rfl⟩
    have HQL : Hid (w.heap.size + 1 + 1 < w7.heap.size) := HRQ.out
    have gn1 : ¬ G = w7.heap.size := by have := HQL.out; omega
    have gn2 : ¬ w7.heap.size = G := by have := HQL.out; omega
    have gle : w.heap.size ≤ G := by omega
    have HG := hide hG
    rw [← hG] at Br12
    clear hG HQL HRQ 
    have d0 : W12.cell? ⟨w7.heap.size, 0, none⟩ = some (.bool s6) := Bq12.out.cell 0
    have d1 : W12.cell? ⟨w7.heap.size, 1, none⟩ = some (.slice o6 l6 c6) := Bq12.out.cell 1
    have HC : Hid (∀ w', Below W12.heap.size W12 w' → w'.cell? ⟨w7.heap.size, 0, none⟩ = some (.bool s6) ∧ w'.cell? ⟨w7.heap.size, 1, none⟩ = some (.slice o6 l6 c6) ∧ w'.cell? ⟨G, 0, none⟩ = some (.bool false) ∧ w'.cell? ⟨G, 1, none⟩ = some (.slice none 0 0) ∧ w'.cell? ⟨G, 2, none⟩ = some (.int .i64 0) ∧ w'.frozen? ⟨G, 0, none⟩ = false ∧ w'.frozen? ⟨G, 1, none⟩ = false ∧ w'.frozen? ⟨G, 2, none⟩ = false) := by
      intro w' hb
      have Bqq := Bq12.out.below hb Bq12.out.lt
      have Brq := Br12.out.below hb Br12.out.lt
      exact ⟨Bqq.cell 0, Bqq.cell 1, Brq.cell 0, Brq.cell 1, Brq.cell 2, Brq.free 0, Brq.free 1, Brq.free 2⟩
    have b0 : Hid (Below W12.heap.size W12 W12.drew) := bdrewD W12
    have C0 : Hid (∀ X, Hid (Below W12.heap.size W12 X) → Calls Tryz.prog 47 #[.bool false, .slice ob lb cb] X fun e w' => (∃ s o l c, e = .returned (.agg #[.bool s, .slice o l c]) ∧ Hid (RI w' s o l c (zv false (zu.natAbs * 10 ^ ku)) 2803 0)) ∧ Hid (Below W12.heap.size W12 w') ∧ w'.cell? ⟨w7.heap.size, 0, none⟩ = some (.bool s6) ∧ w'.cell? ⟨w7.heap.size, 1, none⟩ = some (.slice o6 l6 c6) ∧ w'.cell? ⟨G, 0, none⟩ = some (.bool false) ∧ w'.cell? ⟨G, 1, none⟩ = some (.slice none 0 0) ∧ w'.cell? ⟨G, 2, none⟩ = some (.int .i64 0) ∧ w'.frozen? ⟨G, 0, none⟩ = false ∧ w'.frozen? ⟨G, 1, none⟩ = false ∧ w'.frozen? ⟨G, 2, none⟩ = false) := by
      intro X bX
      refine (rmakeI false _ _ _ _ _ X (by omega) (Yb.out.below bX.out)).mono ?_
      rintro e w' ⟨⟨s, o, l, c, rfl, hz⟩, hb⟩
      have bb := bX.out.trans (hb.mono bX.out.size)
      exact ⟨⟨s, o, l, c, rfl, hz.lo (Nat.zero_le _) (Nat.le_refl _)⟩, bb, HC.out _ bb⟩
    have C1 : Hid (∀ X (s : Bool) (o : Option Addr) (l c : Nat), Hid (Below W12.heap.size W12 X) → RI X s o l c (zv false (zu.natAbs * 10 ^ ku)) 2803 0 → Calls Tryz.prog 97 #[.agg #[.bool s6, .slice o6 l6 c6], .agg #[.bool s, .slice o l c]] X fun e w' => (∃ s o l c, e = .returned (.agg #[.bool s, .slice o l c]) ∧ Hid (RI w' s o l c (((zv sx (zx.natAbs * 10 ^ ka) / zv false (zu.natAbs * 10 ^ ku)) + 1) * zv false (zu.natAbs * 10 ^ ku)) 8424 W12.heap.size)) ∧ Hid (Below W12.heap.size W12 w') ∧ w'.cell? ⟨w7.heap.size, 0, none⟩ = some (.bool s6) ∧ w'.cell? ⟨w7.heap.size, 1, none⟩ = some (.slice o6 l6 c6) ∧ w'.cell? ⟨G, 0, none⟩ = some (.bool false) ∧ w'.cell? ⟨G, 1, none⟩ = some (.slice none 0 0) ∧ w'.cell? ⟨G, 2, none⟩ = some (.int .i64 0) ∧ w'.frozen? ⟨G, 0, none⟩ = false ∧ w'.frozen? ⟨G, 1, none⟩ = false ∧ w'.frozen? ⟨G, 2, none⟩ = false) := by
      intro X s o l c bX hq
      refine (rmulG _ _ _ _ _ _ _ _ _ _ _ _ _ _ X (Q12.out.below bX.out) hq (by omega) (by omega)).mono ?_
      rintro e w' ⟨⟨s, o, l, c, rfl, hz⟩, hb⟩
      have bb := bX.out.trans (hb.mono bX.out.size)
      exact ⟨⟨s, o, l, c, rfl, hz.out.lo bX.out.size (by omega)⟩, bb, HC.out _ bb⟩
    have BRF : Hid (∀ w', Below W12.heap.size W12 w' → Below w.heap.size w w' ∧ Blk w' G #[.bool false, .slice none 0 0, .int .i64 0] 71) := fun w' hb => ⟨HB12.out.trans (hb.mono HB12.out.size), Br12.out.below hb Br12.out.lt⟩
    have HGW : Hid (G < W12.heap.size) := Br12.out.lt
    clear HC Yb Q12 Br12 Bq12 HB12
    go_wp2_with fail
    try simp only [← HF.out]
    simp only [← HG.out]
    have mk0 : True := trivial
    go_region_held3 (fun w' => w'.cell? ⟨w7.heap.size, 0, none⟩ = some (.bool s6) ∧ w'.cell? ⟨w7.heap.size, 1, none⟩ = some (.slice o6 l6 c6)) (go_keep) (first
      | (clear mk0; go_at_call 47; refine (C0.out _ b0).mono ?_; rintro e u1 ⟨⟨s5, o5, l5, c5, rfl, Z5⟩, b1, q0_0, q0_1, q0_2, q0_3, q0_4, q0_5, q0_6, q0_7⟩; have mk1 : True := trivial)
      | (clear mk1; go_at_call 97; refine (C1.out _ _ _ _ _ b1 Z5.out).mono ?_; rintro e u2 ⟨⟨s7, o7, l7, c7, rfl, Z7⟩, b2, q1_0, q1_1, q1_2, q1_3, q1_4, q1_5, q1_6, q1_7⟩; have mk2 : True := trivial))
    obtain ⟨hbel, hblk⟩ := BRF.out _ b2.out
    have HBL := hide hbel
    have QR := hide hblk
    clear hbel hblk BRF b0 b1 b2 C0 C1
    repeat (first | go_values | go_skip | go_guarded | go_step | go_upon)
    refine bodyPost_ret (results_num rfl _ _ _ _ _ _ rfl (QR.out.put3 _ _ _)) rfl ?_
    exact ⟨⟨s7, o7, l7, c7, by rw [HE.out], ((((Z7.out.set HGW.out _).set HGW.out _).set HGW.out _).lo (Nat.zero_le _) (by omega))⟩, ((HBL.out.setCell gle _).setCell gle _).setCell gle _⟩

end Go.Proofs.YtckijnlolmbdiaaGreatDoor

namespace Go.Proofs.YtckijnlolmbdiaaGreatDoor
open Go.RowKit

theorem greater_pos (m : Nat) (hm : m < 8) (odd : Bool) (h : Int) (hh : h = -1 ∨ h = 0 ∨ h = 1) : greaterB m false odd h = leavesB m false odd h := by
  have : m = 0 ∨ m = 1 ∨ m = 2 ∨ m = 3 ∨ m = 4 ∨ m = 5 ∨ m = 6 ∨ m = 7 := by omega
  rcases this with rfl | rfl | rfl | rfl | rfl | rfl | rfl | rfl <;> rcases hh with rfl | rfl | rfl <;> cases odd <;> rfl

theorem greater_neg (m : Nat) (hm : m < 8) (odd : Bool) (h : Int) (hh : h = -1 ∨ h = 0 ∨ h = 1) : greaterB m true (!odd) (-h) = !leavesB m true odd h := by
  have : m = 0 ∨ m = 1 ∨ m = 2 ∨ m = 3 ∨ m = 4 ∨ m = 5 ∨ m = 6 ∨ m = 7 := by omega
  rcases this with rfl | rfl | rfl | rfl | rfl | rfl | rfl | rfl <;> rcases hh with rfl | rfl | rfl <;> cases odd <;> rfl

theorem cmp_rest {a U : Nat} (h : a < U) : cmpN ((U - a) + (U - a)) U = - cmpN (a + a) U := by
  unfold cmpN
  by_cases h1 : a + a < U
  · rw [if_neg (by omega), if_pos (by omega), if_pos h1]; rfl
  · by_cases h2 : U < a + a
    · rw [if_pos (by omega), if_neg h1, if_pos h2]
    · rw [if_neg (by omega), if_neg (by omega), if_neg h1, if_neg h2]; rfl

theorem neg_floor {A U : Nat} (h : A % U ≠ 0) (hU : 0 < U) : -(A : Int) / (U : Int) = -((A / U : Nat) : Int) - 1 ∧ -(A : Int) % (U : Int) = ((U - A % U : Nat) : Int) := by
  have hl := Nat.mod_lt A hU
  have hd := Nat.div_add_mod A U
  have e : -(A : Int) = ((U - A % U : Nat) : Int) + (U : Int) * (-((A / U : Nat) : Int) - 1) := by
    have : (A : Int) = (U : Int) * ((A / U : Nat) : Int) + ((A % U : Nat) : Int) := by
      rw [← Int.natCast_mul, ← Int.natCast_add, hd]
    rw [Int.mul_sub, Int.mul_neg]
    omega
  constructor
  · rw [e, Int.add_mul_ediv_left _ _ (by omega), Int.ediv_eq_zero_of_lt (by omega) (by omega)]
    omega
  · rw [e, Int.add_mul_emod_self_left, Int.emod_eq_of_lt (by omega) (by omega)]

theorem rto (sx : Bool) (ox : Option Addr) (lx cx : Nat) (ex : Int) (su : Bool) (ou : Option Addr) (lu cu : Nat) (eu : Int) (zx zu : Int) (ka ku lo m : Nat) (w : World) (hx : RI w sx ox lx cx zx 1002 lo) (hu : RI w su ou lu cu zu 1002 lo) (hka : ex - min ex eu = (ka : Int)) (hku : eu - min ex eu = (ku : Int)) (hk : ka ≤ 8000 ∧ ku ≤ 8000) (hu0 : zu ≠ 0) (hm8 : m < 8) :
    Calls Tryz.prog 44 #[.agg #[.bool sx, .slice ox lx cx, .int .i64 ex], .agg #[.bool su, .slice ou lu cu, .int .i64 eu], .int .i64 (m : Int)] w fun e w' => (∃ s o l c, e = .returned (.agg #[.bool s, .slice o l c, .int .i64 (min ex eu)]) ∧ Hid (RI w' s o l c (zv sx (rndN (zx.natAbs * 10 ^ ka) (zu.natAbs * 10 ^ ku) sx m * (zu.natAbs * 10 ^ ku))) 8430 0)) ∧ Below w.heap.size w w' := by
  have hU : 0 < zu.natAbs * 10 ^ ku := Nat.mul_pos (by omega) (Nat.pow_pos (by omega))
  have E := rto_exact sx ox lx cx ex su ou lu cu eu zx zu ka ku lo (m : Int) w hx hu hka hku hk hu0
  have Lw := rto_low sx ox lx cx ex su ou lu cu eu zx zu ka ku lo m w hx hu hka hku hk hu0
  have Up := rto_up sx ox lx cx ex su ou lu cu eu zx zu ka ku lo m w hx hu hka hku hk hu0
  clear hx hu hka hku hk hu0
  generalize zx.natAbs * 10 ^ ka = A at *
  generalize zu.natAbs * 10 ^ ku = U at *
  have hh := cmp_three (A % U + A % U) U
  have hl := Nat.mod_lt A hU
  have fin : ∀ (q : Int) (p : Nat), p ≤ 8430 → q * zv false U = zv sx (rndN A U sx m * U) → (Calls Tryz.prog 44 #[.agg #[.bool sx, .slice ox lx cx, .int .i64 ex], .agg #[.bool su, .slice ou lu cu, .int .i64 eu], .int .i64 (m : Int)] w fun e w' => (∃ s o l c, e = .returned (.agg #[.bool s, .slice o l c, .int .i64 (min ex eu)]) ∧ Hid (RI w' s o l c (q * zv false U) p 0)) ∧ Below w.heap.size w w') → Calls Tryz.prog 44 #[.agg #[.bool sx, .slice ox lx cx, .int .i64 ex], .agg #[.bool su, .slice ou lu cu, .int .i64 eu], .int .i64 (m : Int)] w fun e w' => (∃ s o l c, e = .returned (.agg #[.bool s, .slice o l c, .int .i64 (min ex eu)]) ∧ Hid (RI w' s o l c (zv sx (rndN A U sx m * U)) 8430 0)) ∧ Below w.heap.size w w' := by
    intro q p hp hq hC
    refine hC.mono ?_
    rintro e w' ⟨⟨s, o, l, c, rfl, hz⟩, hb⟩
    rw [hq] at hz
    exact ⟨⟨s, o, l, c, rfl, hz.out.lo (Nat.le_refl _) hp⟩, hb⟩
  have zt : ∀ n : Nat, zv true n = -(n : Int) := fun n => by simp [zv]
  have zf : ∀ n : Nat, zv false n = (n : Int) := fun n => by simp [zv]
  by_cases h0 : A % U = 0
  · refine fin _ _ (by omega) ?_ (E ?_)
    · rw [rndN_exact sx m h0]
      have hd := Nat.div_mul_cancel (Nat.dvd_of_mod_eq_zero h0)
      cases sx
      · rw [zf, zf, zf, ← Int.natCast_ediv, ← Int.natCast_mul]
      · rw [zt, zf, zt, Int.neg_ediv_of_dvd (Int.natCast_dvd_natCast.2 (Nat.dvd_of_mod_eq_zero h0)), ← Int.natCast_ediv, Int.neg_mul, ← Int.natCast_mul]
    · cases sx
      · rw [zf, zf, ← Int.natCast_emod, h0]; rfl
      · rw [zt, zf]; exact Int.emod_eq_zero_of_dvd ((Int.dvd_neg).2 (Int.natCast_dvd_natCast.2 (Nat.dvd_of_mod_eq_zero h0)))
  · cases sx
    · have e1 : zv false A / zv false U = ((A / U : Nat) : Int) := by rw [zf, zf, Int.natCast_ediv]
      have e2 : zv false A % zv false U = ((A % U : Nat) : Int) := by rw [zf, zf, Int.natCast_emod]
      rw [e1, e2] at Lw Up
      have eo : decide (((A / U : Nat) : Int) % 2 = 1) = decide (A / U % 2 = 1) := by congr 1; simp; omega
      rw [Int.natAbs_natCast, eo, greater_pos _ hm8 _ _ hh] at Lw Up
      by_cases hl : leavesB m false (decide (A / U % 2 = 1)) (cmpN (A % U + A % U) U) = true
      · refine fin _ _ (by omega) ?_ (Up (by omega) hm8 hl)
        unfold rndN
        rw [if_neg h0, if_pos hl, zf, zf, Int.natCast_mul, Int.natCast_add]; rfl
      · refine fin _ _ (by omega) ?_ (Lw (by omega) hm8 (by simpa using hl))
        unfold rndN
        rw [if_neg h0, if_neg hl, zf, zf, Int.natCast_mul, Nat.add_zero]
    · obtain ⟨n1, n2⟩ := neg_floor h0 hU
      have e1 : zv true A / zv false U = -((A / U : Nat) : Int) - 1 := by rw [zt, zf, n1]
      have e2 : zv true A % zv false U = ((U - A % U : Nat) : Int) := by rw [zt, zf, n2]
      rw [e1, e2] at Lw Up
      have eo : decide ((-((A / U : Nat) : Int) - 1) % 2 = 1) = !decide (A / U % 2 = 1) := by
        by_cases h : A / U % 2 = 1
        · rw [decide_eq_true h, decide_eq_false (by omega)]; rfl
        · rw [decide_eq_false h, decide_eq_true (by omega)]; rfl
      rw [Int.natAbs_natCast, eo, cmp_rest hl, greater_neg _ hm8 _ _ hh] at Lw Up
      by_cases hv : leavesB m true (decide (A / U % 2 = 1)) (cmpN (A % U + A % U) U) = true
      · refine fin _ _ (by omega) ?_ (Lw (by omega) hm8 (by rw [hv]; rfl))
        unfold rndN
        rw [if_neg h0, if_pos hv, zf, zt, Int.natCast_mul, Int.natCast_add, ← Int.neg_mul]
        congr 1; omega
      · refine fin _ _ (by omega) ?_ (Up (by omega) hm8 (by simpa using hv))
        unfold rndN
        rw [if_neg h0, if_neg hv, zf, zt, Int.natCast_mul, Nat.add_zero, ← Int.neg_mul]
        congr 1; omega

end Go.Proofs.YtckijnlolmbdiaaGreatDoor

namespace Go.Proofs.YtckijnlolmbdiaaGreatDoor
open Go.RowKit

section
variable {r : Near} {clo : Bool} {number rest unit : Nat} (hc : r.clo = clo)
include hc
end

end Go.Proofs.YtckijnlolmbdiaaGreatDoor

namespace Go.Proofs.YtckijnlolmbdiaaGreatDoor
open Go.RowKit

end Go.Proofs.YtckijnlolmbdiaaGreatDoor

namespace Go.Proofs.YtckijnlolmbdiaaGreatDoor
open Go.RowKit

end Go.Proofs.YtckijnlolmbdiaaGreatDoor

namespace Go.Proofs.YtckijnlolmbdiaaGreatDoor

end Go.Proofs.YtckijnlolmbdiaaGreatDoor
