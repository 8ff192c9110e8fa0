/-
  What quipuref06's told does.
  quipuref06's told, of any number that may be and isn't zero.
  What quipuref06's Digits does.
  What quipuref06's Digits answers, whatever it is handed.
  What the rows' list of package variables gives, and a world that holds them.
-/
import Derived.Test.YtcclbcnmkaobpaaGreatDoorZB35
import Derived.Test.YtcclbcnmkaobpaaGreatDoorZB30
import Derived.Test.YtcclbcnmkaobpaaGreatDoorZB5
import Derived.Test.YtcclbcnmkaobpaaGreatDoorZB6
import Derived.Test.YtcclbcnmkaobpaaGreatDoorRows
import Derived.Test.YtcclbcnmkaobpaaGreatDoorZB9
import Derived.Lib.LaidTab
import Derived.Deep.DeepHandedRow
namespace Go.Proofs.YtcclbcnmkaobpaaGreatDoor
open Go.RowKit

structure CutV (W : World) (cs : Array Value) (er : Value) (v u : Value) (W' : World) : Prop where
  ex : ∃ H : Nat, v = .pointer (some ⟨H, 0, none⟩) ∧ u = er ∧ Blk W' H cs 23 ∧ W.heap.size ≤ H ∧ Below W.heap.size W W'

theorem cutv_old {W w3 : World} {H : Nat} {x0 x1 x2 x3 y0 y1 y2 y3 : Value} {er : Value} (hb : Below W.heap.size W w3) (q : Blk w3 H #[x0, x1, x2, x3] 23) (hH : W.heap.size ≤ H) :
    CutV W #[y0, y1, y2, y3] er (.pointer (some ⟨H, 0, none⟩)) er ((((w3.setCell ⟨H, 0, none⟩ y0).setCell ⟨H, 1, none⟩ y1).setCell ⟨H, 2, none⟩ y2).setCell ⟨H, 3, none⟩ y3) :=
  ⟨H, rfl, rfl, q.put4 _ _ _ _, hH, below_put4 hb hH _ _ _ _⟩

theorem cutv_new {W w3 : World} {cs : Array Value} {er : Value} (hb : Below W.heap.size W w3) :
    CutV W cs er (.pointer (some ⟨w3.heap.size, 0, none⟩)) er (w3.alloc (.cells cs 23)) :=
  ⟨w3.heap.size, rfl, rfl, Blk.new _ _ _, hb.size, hb.alloc hb.size _⟩

set_option maxRecDepth 100000 in
set_option maxHeartbeats 4000000 in
theorem rtold6_yes (ca : Int) (na : Bool) (ta : ByteArray) (ea : Int) (su : Bool) (ou : Option Addr) (lu cu : Nat) (eu E z1 z2 : Int) (m : Nat) (cd : Int) (nd : Bool) (td : ByteArray) (ed : Int) (w : World) (hO : ∀ X, Below w.heap.size w X → Calls Tryz.prog 31 #[dcV ca na ta ea] X fun e w' => (∃ s o l c, e = .returned (.agg #[.bool s, .slice o l c, .int .i64 ea]) ∧ Hid (RI w' s o l c z1 1002 0)) ∧ Below X.heap.size X w') (hT : ∀ X (s : Bool) (o : Option Addr) (l c : Nat), Below w.heap.size w X → RI X s o l c z1 1002 0 → Calls Tryz.prog 30 #[.agg #[.bool s, .slice o l c, .int .i64 ea], .agg #[.bool su, .slice ou lu cu, .int .i64 eu], .int .i64 (m : Int)] X fun e w' => (∃ s o l c, e = .returned (.agg #[.bool s, .slice o l c, .int .i64 E]) ∧ Hid (RI w' s o l c z2 8430 0)) ∧ Below X.heap.size X w') (hD : ∀ X (s : Bool) (o : Option Addr) (l c : Nat), RI X s o l c z2 8430 0 → Calls Tryz.prog 34 #[.agg #[.bool s, .slice o l c, .int .i64 E], .bool na] X fun e w' => e = .returned (.tuple #[.agg #[.int .i64 cd, .bool nd, .string td, .int .i64 ed], .bool true]) ∧ Below X.heap.size X w') : Calls Tryz.prog 35 #[dcV ca na ta ea, .agg #[.bool su, .slice ou lu cu, .int .i64 eu], .int .i64 (m : Int)] w fun e w' => e = .returned (.tuple #[.agg #[.int .i64 cd, .bool nd, .string td, .int .i64 ed], .int .i64 0]) ∧ Below w.heap.size w w' := by
  have KO := hide hO
  have KT := hide hT
  have KD := hide hD
  clear hO hT hD
  have Ba0 := hide (((Blk.newAt w (w.heap.size) (rfl) #[.int .i64 ca, .bool na, .string ta, .int .i64 ea] 23).alloc (.cells #[.bool su, .slice ou lu cu, .int .i64 eu] 55)).alloc (.cells #[.int .i64 0, .bool false, .string ⟨#[]⟩, .int .i64 0] 23))
  have Bu0 := hide ((Blk.newAt (w.alloc (.cells #[.int .i64 ca, .bool na, .string ta, .int .i64 ea] 23)) (w.heap.size + 1) (by simp) #[.bool su, .slice ou lu cu, .int .i64 eu] 55).alloc (.cells #[.int .i64 0, .bool false, .string ⟨#[]⟩, .int .i64 0] 23))
  have Br0 := hide (Blk.newAt ((w.alloc (.cells #[.int .i64 ca, .bool na, .string ta, .int .i64 ea] 23)).alloc (.cells #[.bool su, .slice ou lu cu, .int .i64 eu] 55)) (w.heap.size + 1 + 1) (by simp) #[.int .i64 0, .bool false, .string ⟨#[]⟩, .int .i64 0] 23)
  have HB0 : Hid (Below w.heap.size w (((w.alloc (.cells #[.int .i64 ca, .bool na, .string ta, .int .i64 ea] 23)).alloc (.cells #[.bool su, .slice ou lu cu, .int .i64 eu] 55)).alloc (.cells #[.int .i64 0, .bool false, .string ⟨#[]⟩, .int .i64 0] 23))) := ((((Below.refl _ _).alloc (Nat.le_refl _) _).alloc (by simp <;> omega) _).alloc (by simp <;> omega) _)
  obtain ⟨W, hW⟩ : ∃ W, W = (((w.alloc (.cells #[.int .i64 ca, .bool na, .string ta, .int .i64 ea] 23)).alloc (.cells #[.bool su, .slice ou lu cu, .int .i64 eu] 55)).alloc (.cells #[.int .i64 0, .bool false, .string ⟨#[]⟩, .int .i64 0] 23)) := ⟨_, rfl⟩
  rw [← hW] at HB0 Ba0 Bu0 Br0 
  have HW := hide hW
  clear hW
  have ya0 : W.cell? ⟨w.heap.size, 0, none⟩ = some (.int .i64 ca) := Ba0.out.cell 0
  have ya1 : W.cell? ⟨w.heap.size, 1, none⟩ = some (.bool na) := Ba0.out.cell 1
  have ya2 : W.cell? ⟨w.heap.size, 2, none⟩ = some (.string ta) := Ba0.out.cell 2
  have ya3 : W.cell? ⟨w.heap.size, 3, none⟩ = some (.int .i64 ea) := Ba0.out.cell 3
  have yu0 : W.cell? ⟨w.heap.size + 1, 0, none⟩ = some (.bool su) := Bu0.out.cell 0
  have yu1 : W.cell? ⟨w.heap.size + 1, 1, none⟩ = some (.slice ou lu cu) := Bu0.out.cell 1
  have yu2 : W.cell? ⟨w.heap.size + 1, 2, none⟩ = some (.int .i64 eu) := Bu0.out.cell 2
  have yr0 : W.cell? ⟨w.heap.size + 1 + 1, 0, none⟩ = some (.int .i64 0) := Br0.out.cell 0
  have yr1 : W.cell? ⟨w.heap.size + 1 + 1, 1, none⟩ = some (.bool false) := Br0.out.cell 1
  have yr2 : W.cell? ⟨w.heap.size + 1 + 1, 2, none⟩ = some (.string ⟨#[]⟩) := Br0.out.cell 2
  have yr3 : W.cell? ⟨w.heap.size + 1 + 1, 3, none⟩ = some (.int .i64 0) := Br0.out.cell 3
  go_enter Tryz.func35, Tryz.ntmps35
  have HL : Hid (w.heap.size < W.heap.size ∧ w.heap.size + 1 < W.heap.size) := ⟨Ba0.out.lt, Bu0.out.lt⟩
  go_wp2_with fail
  simp only [← HW.out]
  go_cut [8, 9] (fun vp ve wx => CutV W #[.int .i64 cd, .bool nd, .string td, .int .i64 ed] (.bool true) vp ve wx)
  case first =>
    have C0 : Hid (∀ X, Hid (Below W.heap.size W X) → Calls Tryz.prog 31 #[dcV ca na ta ea] X fun e w' => (∃ s o l c, e = .returned (.agg #[.bool s, .slice o l c, .int .i64 ea]) ∧ Hid (RI w' s o l c z1 1002 0)) ∧ Hid (Below X.heap.size X w') ∧ Hid (Below W.heap.size W w') ∧ w'.cell? ⟨w.heap.size, 0, none⟩ = some (.int .i64 ca) ∧ w'.cell? ⟨w.heap.size, 1, none⟩ = some (.bool na) ∧ w'.cell? ⟨w.heap.size, 2, none⟩ = some (.string ta) ∧ w'.cell? ⟨w.heap.size, 3, none⟩ = some (.int .i64 ea) ∧ w'.cell? ⟨w.heap.size + 1, 0, none⟩ = some (.bool su) ∧ w'.cell? ⟨w.heap.size + 1, 1, none⟩ = some (.slice ou lu cu) ∧ w'.cell? ⟨w.heap.size + 1, 2, none⟩ = some (.int .i64 eu)) := by
      intro X bX
      refine (KO.out X (HB0.out.trans (bX.out.mono HB0.out.size))).mono ?_
      rintro e w' ⟨⟨s, o, l, c, rfl, hz⟩, hb⟩
      have bb := bX.out.trans (hb.mono bX.out.size)
      have Baq := Ba0.out.below bb Ba0.out.lt
      have Buq := Bu0.out.below bb Bu0.out.lt
      exact ⟨⟨s, o, l, c, rfl, hz⟩, hb, bb, Baq.cell 0, Baq.cell 1, Baq.cell 2, Baq.cell 3, Buq.cell 0, Buq.cell 1, Buq.cell 2⟩
    have C1 : Hid (∀ X (s : Bool) (o : Option Addr) (l c : Nat), Hid (Below W.heap.size W X) → RI X s o l c z1 1002 0 → Calls Tryz.prog 30 #[.agg #[.bool s, .slice o l c, .int .i64 ea], .agg #[.bool su, .slice ou lu cu, .int .i64 eu], .int .i64 (m : Int)] X fun e w' => (∃ s o l c, e = .returned (.agg #[.bool s, .slice o l c, .int .i64 E]) ∧ Hid (RI w' s o l c z2 8430 0)) ∧ Hid (Below X.heap.size X w') ∧ Hid (Below W.heap.size W w') ∧ w'.cell? ⟨w.heap.size, 0, none⟩ = some (.int .i64 ca) ∧ w'.cell? ⟨w.heap.size, 1, none⟩ = some (.bool na) ∧ w'.cell? ⟨w.heap.size, 2, none⟩ = some (.string ta) ∧ w'.cell? ⟨w.heap.size, 3, none⟩ = some (.int .i64 ea) ∧ w'.cell? ⟨w.heap.size + 1, 0, none⟩ = some (.bool su) ∧ w'.cell? ⟨w.heap.size + 1, 1, none⟩ = some (.slice ou lu cu) ∧ w'.cell? ⟨w.heap.size + 1, 2, none⟩ = some (.int .i64 eu)) := by
      intro X s o l c bX hz
      refine (KT.out X _ _ _ _ (HB0.out.trans (bX.out.mono HB0.out.size)) hz).mono ?_
      rintro e w' ⟨⟨s, o, l, c, rfl, hz⟩, hb⟩
      have bb := bX.out.trans (hb.mono bX.out.size)
      have Baq := Ba0.out.below bb Ba0.out.lt
      have Buq := Bu0.out.below bb Bu0.out.lt
      exact ⟨⟨s, o, l, c, rfl, hz⟩, hb, bb, Baq.cell 0, Baq.cell 1, Baq.cell 2, Baq.cell 3, Buq.cell 0, Buq.cell 1, Buq.cell 2⟩
    have C2 : Hid (∀ X (s : Bool) (o : Option Addr) (l c : Nat), Hid (Below W.heap.size W X) → RI X s o l c z2 8430 0 → Calls Tryz.prog 34 #[.agg #[.bool s, .slice o l c, .int .i64 E], .bool na] X fun e w' => e = .returned (.tuple #[.agg #[.int .i64 cd, .bool nd, .string td, .int .i64 ed], .bool true]) ∧ Hid (Below X.heap.size X w') ∧ Hid (Below W.heap.size W w') ∧ w'.cell? ⟨w.heap.size, 0, none⟩ = some (.int .i64 ca) ∧ w'.cell? ⟨w.heap.size, 1, none⟩ = some (.bool na) ∧ w'.cell? ⟨w.heap.size, 2, none⟩ = some (.string ta) ∧ w'.cell? ⟨w.heap.size, 3, none⟩ = some (.int .i64 ea) ∧ w'.cell? ⟨w.heap.size + 1, 0, none⟩ = some (.bool su) ∧ w'.cell? ⟨w.heap.size + 1, 1, none⟩ = some (.slice ou lu cu) ∧ w'.cell? ⟨w.heap.size + 1, 2, none⟩ = some (.int .i64 eu)) := by
      intro X s o l c bX hz
      refine (KD.out X _ _ _ _ hz).mono ?_
      rintro e w' ⟨rfl, hb⟩
      have bb := bX.out.trans (hb.mono bX.out.size)
      have Baq := Ba0.out.below bb Ba0.out.lt
      have Buq := Bu0.out.below bb Bu0.out.lt
      exact ⟨rfl, hb, bb, Baq.cell 0, Baq.cell 1, Baq.cell 2, Baq.cell 3, Buq.cell 0, Buq.cell 1, Buq.cell 2⟩
    have b0 : Hid (Below W.heap.size W W.drew) := bdrewD W
    have naW : ¬ w.heap.size = W.heap.size := (by have := HL.out; omega)
    have maW : ¬ W.heap.size = w.heap.size := (by have := HL.out; omega)
    have nuW : ¬ w.heap.size + 1 = W.heap.size := (by have := HL.out; omega)
    have muW : ¬ W.heap.size = w.heap.size + 1 := (by have := HL.out; omega)
    have mk0 : True := trivial
    go_region_held3 (fun w' => w'.cell? ⟨w.heap.size, 0, none⟩ = some (.int .i64 ca) ∧ w'.cell? ⟨w.heap.size, 1, none⟩ = some (.bool na) ∧ w'.cell? ⟨w.heap.size, 2, none⟩ = some (.string ta) ∧ w'.cell? ⟨w.heap.size, 3, none⟩ = some (.int .i64 ea) ∧ w'.cell? ⟨w.heap.size + 1, 0, none⟩ = some (.bool su) ∧ w'.cell? ⟨w.heap.size + 1, 1, none⟩ = some (.slice ou lu cu) ∧ w'.cell? ⟨w.heap.size + 1, 2, none⟩ = some (.int .i64 eu)) (go_keep) (first
        | (clear mk0; go_at_call 31; refine (C0.out _ (bal b0 (Obj.cells #[Value.int .i64 0, Value.bool false, Value.string ⟨#[]⟩, Value.int .i64 0] 23))).mono ?_; rintro e u1 ⟨⟨s1, o1, l1, c1, rfl, Z1⟩, R1, b1, q0_0, q0_1, q0_2, q0_3, q0_4, q0_5, q0_6⟩; have QN := (Blk.newAt W.drew W.heap.size rfl #[.int .i64 0, .bool false, .string ⟨#[]⟩, .int .i64 0] 23).below R1.out (Blk.newAt W.drew W.heap.size rfl #[.int .i64 0, .bool false, .string ⟨#[]⟩, .int .i64 0] 23).lt; have h0 : u1.cell? ⟨W.heap.size, 0, none⟩ = some (.int .i64 0) := QN.cell 0; have h1 : u1.cell? ⟨W.heap.size, 1, none⟩ = some (.bool false) := QN.cell 1; have h2 : u1.cell? ⟨W.heap.size, 2, none⟩ = some (.string ⟨#[]⟩) := QN.cell 2; have h3 : u1.cell? ⟨W.heap.size, 3, none⟩ = some (.int .i64 0) := QN.cell 3; have h4 := QN.free 0; have h5 := QN.free 1; have h6 := QN.free 2; have h7 := QN.free 3; have QH := hide QN; clear QN; have mk1L0 : True := trivial)
        | (clear mk0; go_at_call 31; refine (C0.out _ b0).mono ?_; rintro e u1 ⟨⟨s1, o1, l1, c1, rfl, Z1⟩, R1, b1, q0_0, q0_1, q0_2, q0_3, q0_4, q0_5, q0_6⟩; have nau1 : ¬ w.heap.size = u1.heap.size := (by have := HL.out; have := b1.out.size; omega); have mau1 : ¬ u1.heap.size = w.heap.size := (by have := HL.out; have := b1.out.size; omega); have nuu1 : ¬ w.heap.size + 1 = u1.heap.size := (by have := HL.out; have := b1.out.size; omega); have muu1 : ¬ u1.heap.size = w.heap.size + 1 := (by have := HL.out; have := b1.out.size; omega); have mk1 : True := trivial)
        | (clear mk1L0; go_at_call 30; refine (C1.out _ _ _ _ _ b1 Z1.out).mono ?_; rintro e u2 ⟨⟨s2, o2, l2, c2, rfl, Z2⟩, R2, b2, q1_0, q1_1, q1_2, q1_3, q1_4, q1_5, q1_6⟩; clear h0 h1 h2 h3 h4 h5 h6 h7; have QN := QH.out.below R2.out QH.out.lt; have h0 : u2.cell? ⟨W.heap.size, 0, none⟩ = some (.int .i64 0) := QN.cell 0; have h1 : u2.cell? ⟨W.heap.size, 1, none⟩ = some (.bool false) := QN.cell 1; have h2 : u2.cell? ⟨W.heap.size, 2, none⟩ = some (.string ⟨#[]⟩) := QN.cell 2; have h3 : u2.cell? ⟨W.heap.size, 3, none⟩ = some (.int .i64 0) := QN.cell 3; have h4 := QN.free 0; have h5 := QN.free 1; have h6 := QN.free 2; have h7 := QN.free 3; have QH := hide QN; clear QN; have mk2L0 : True := trivial)
        | (clear mk1; go_at_call 30; refine (C1.out _ _ _ _ _ (bal b1 (Obj.cells #[Value.int .i64 0, Value.bool false, Value.string ⟨#[]⟩, Value.int .i64 0] 23)) (Z1.out.below ((Below.refl _ _).alloc (Nat.le_refl _) _))).mono ?_; rintro e u2 ⟨⟨s2, o2, l2, c2, rfl, Z2⟩, R2, b2, q1_0, q1_1, q1_2, q1_3, q1_4, q1_5, q1_6⟩; have QN := (Blk.newAt u1 u1.heap.size rfl #[.int .i64 0, .bool false, .string ⟨#[]⟩, .int .i64 0] 23).below R2.out (Blk.newAt u1 u1.heap.size rfl #[.int .i64 0, .bool false, .string ⟨#[]⟩, .int .i64 0] 23).lt; have h0 : u2.cell? ⟨u1.heap.size, 0, none⟩ = some (.int .i64 0) := QN.cell 0; have h1 : u2.cell? ⟨u1.heap.size, 1, none⟩ = some (.bool false) := QN.cell 1; have h2 : u2.cell? ⟨u1.heap.size, 2, none⟩ = some (.string ⟨#[]⟩) := QN.cell 2; have h3 : u2.cell? ⟨u1.heap.size, 3, none⟩ = some (.int .i64 0) := QN.cell 3; have h4 := QN.free 0; have h5 := QN.free 1; have h6 := QN.free 2; have h7 := QN.free 3; have QH := hide QN; clear QN; have mk2L1 : True := trivial)
        | (clear mk1; go_at_call 30; refine (C1.out _ _ _ _ _ b1 Z1.out).mono ?_; rintro e u2 ⟨⟨s2, o2, l2, c2, rfl, Z2⟩, R2, b2, q1_0, q1_1, q1_2, q1_3, q1_4, q1_5, q1_6⟩; have nau2 : ¬ w.heap.size = u2.heap.size := (by have := HL.out; have := b2.out.size; omega); have mau2 : ¬ u2.heap.size = w.heap.size := (by have := HL.out; have := b2.out.size; omega); have nuu2 : ¬ w.heap.size + 1 = u2.heap.size := (by have := HL.out; have := b2.out.size; omega); have muu2 : ¬ u2.heap.size = w.heap.size + 1 := (by have := HL.out; have := b2.out.size; omega); have mk2 : True := trivial)
        | (clear mk2L0; go_at_call 34; refine (C2.out _ _ _ _ _ b2 Z2.out).mono ?_; rintro e u3 ⟨rfl, R3, b3, q2_0, q2_1, q2_2, q2_3, q2_4, q2_5, q2_6⟩; clear h0 h1 h2 h3 h4 h5 h6 h7; have QN := QH.out.below R3.out QH.out.lt; have h0 : u3.cell? ⟨W.heap.size, 0, none⟩ = some (.int .i64 0) := QN.cell 0; have h1 : u3.cell? ⟨W.heap.size, 1, none⟩ = some (.bool false) := QN.cell 1; have h2 : u3.cell? ⟨W.heap.size, 2, none⟩ = some (.string ⟨#[]⟩) := QN.cell 2; have h3 : u3.cell? ⟨W.heap.size, 3, none⟩ = some (.int .i64 0) := QN.cell 3; have h4 := QN.free 0; have h5 := QN.free 1; have h6 := QN.free 2; have h7 := QN.free 3; have QH := hide QN; clear QN; have mk3L0 : True := trivial)
        | (clear mk2L1; go_at_call 34; refine (C2.out _ _ _ _ _ b2 Z2.out).mono ?_; rintro e u3 ⟨rfl, R3, b3, q2_0, q2_1, q2_2, q2_3, q2_4, q2_5, q2_6⟩; clear h0 h1 h2 h3 h4 h5 h6 h7; have QN := QH.out.below R3.out QH.out.lt; have h0 : u3.cell? ⟨u1.heap.size, 0, none⟩ = some (.int .i64 0) := QN.cell 0; have h1 : u3.cell? ⟨u1.heap.size, 1, none⟩ = some (.bool false) := QN.cell 1; have h2 : u3.cell? ⟨u1.heap.size, 2, none⟩ = some (.string ⟨#[]⟩) := QN.cell 2; have h3 : u3.cell? ⟨u1.heap.size, 3, none⟩ = some (.int .i64 0) := QN.cell 3; have h4 := QN.free 0; have h5 := QN.free 1; have h6 := QN.free 2; have h7 := QN.free 3; have QH := hide QN; clear QN; have mk3L1 : True := trivial)
        | (clear mk2; go_at_call 34; refine (C2.out _ _ _ _ _ (bal b2 (Obj.cells #[Value.int .i64 0, Value.bool false, Value.string ⟨#[]⟩, Value.int .i64 0] 23)) (Z2.out.below ((Below.refl _ _).alloc (Nat.le_refl _) _))).mono ?_; rintro e u3 ⟨rfl, R3, b3, q2_0, q2_1, q2_2, q2_3, q2_4, q2_5, q2_6⟩; have QN := (Blk.newAt u2 u2.heap.size rfl #[.int .i64 0, .bool false, .string ⟨#[]⟩, .int .i64 0] 23).below R3.out (Blk.newAt u2 u2.heap.size rfl #[.int .i64 0, .bool false, .string ⟨#[]⟩, .int .i64 0] 23).lt; have h0 : u3.cell? ⟨u2.heap.size, 0, none⟩ = some (.int .i64 0) := QN.cell 0; have h1 : u3.cell? ⟨u2.heap.size, 1, none⟩ = some (.bool false) := QN.cell 1; have h2 : u3.cell? ⟨u2.heap.size, 2, none⟩ = some (.string ⟨#[]⟩) := QN.cell 2; have h3 : u3.cell? ⟨u2.heap.size, 3, none⟩ = some (.int .i64 0) := QN.cell 3; have h4 := QN.free 0; have h5 := QN.free 1; have h6 := QN.free 2; have h7 := QN.free 3; have QH := hide QN; clear QN; have mk3L2 : True := trivial)
        | (clear mk2; go_at_call 34; refine (C2.out _ _ _ _ _ b2 Z2.out).mono ?_; rintro e u3 ⟨rfl, R3, b3, q2_0, q2_1, q2_2, q2_3, q2_4, q2_5, q2_6⟩; have nau3 : ¬ w.heap.size = u3.heap.size := (by have := HL.out; have := b3.out.size; omega); have mau3 : ¬ u3.heap.size = w.heap.size := (by have := HL.out; have := b3.out.size; omega); have nuu3 : ¬ w.heap.size + 1 = u3.heap.size := (by have := HL.out; have := b3.out.size; omega); have muu3 : ¬ u3.heap.size = w.heap.size + 1 := (by have := HL.out; have := b3.out.size; omega); have mk3 : True := trivial))
    all_goals (go_wp2_with fail; go_meet)
    all_goals (first | (clear mk3L0; exact cutv_old b3.out QH.out (Nat.le_refl _)) | (clear mk3L1; exact cutv_old b3.out QH.out b1.out.size) | (clear mk3L2; exact cutv_old b3.out QH.out b2.out.size) | (clear mk3; exact cutv_new b3.out))
  obtain ⟨⟨Hx, rfl, rfl, hq, hH, hbc⟩⟩ := hcut
  obtain ⟨w1, hwk⟩ : ∃ x, x = wc := ⟨_, rfl⟩
  subst hwk
  have Ba1 := hide (Ba0.out.below hbc Ba0.out.lt)
  have Bu1 := hide (Bu0.out.below hbc Bu0.out.lt)
  have Br1 := hide (Br0.out.below hbc Br0.out.lt)
  have Bx1 := hide hq
  have HB1 := hide (HB0.out.trans (hbc.mono HB0.out.size))
  clear HL hq hH hbc Ba0 Bu0 Br0 HB0 ya0 ya1 ya2 ya3 yu0 yu1 yu2 yr0 yr1 yr2 yr3
  have ya0 : w1.cell? ⟨w.heap.size, 0, none⟩ = some (.int .i64 ca) := Ba1.out.cell 0
  have ya1 : w1.cell? ⟨w.heap.size, 1, none⟩ = some (.bool na) := Ba1.out.cell 1
  have ya2 : w1.cell? ⟨w.heap.size, 2, none⟩ = some (.string ta) := Ba1.out.cell 2
  have ya3 : w1.cell? ⟨w.heap.size, 3, none⟩ = some (.int .i64 ea) := Ba1.out.cell 3
  have yu0 : w1.cell? ⟨w.heap.size + 1, 0, none⟩ = some (.bool su) := Bu1.out.cell 0
  have yu1 : w1.cell? ⟨w.heap.size + 1, 1, none⟩ = some (.slice ou lu cu) := Bu1.out.cell 1
  have yu2 : w1.cell? ⟨w.heap.size + 1, 2, none⟩ = some (.int .i64 eu) := Bu1.out.cell 2
  have yr0 : w1.cell? ⟨w.heap.size + 1 + 1, 0, none⟩ = some (.int .i64 0) := Br1.out.cell 0
  have yr1 : w1.cell? ⟨w.heap.size + 1 + 1, 1, none⟩ = some (.bool false) := Br1.out.cell 1
  have yr2 : w1.cell? ⟨w.heap.size + 1 + 1, 2, none⟩ = some (.string ⟨#[]⟩) := Br1.out.cell 2
  have yr3 : w1.cell? ⟨w.heap.size + 1 + 1, 3, none⟩ = some (.int .i64 0) := Br1.out.cell 3
  have yx0 : w1.cell? ⟨Hx, 0, none⟩ = some (.int .i64 cd) := Bx1.out.cell 0
  have yx1 : w1.cell? ⟨Hx, 1, none⟩ = some (.bool nd) := Bx1.out.cell 1
  have yx2 : w1.cell? ⟨Hx, 2, none⟩ = some (.string td) := Bx1.out.cell 2
  have yx3 : w1.cell? ⟨Hx, 3, none⟩ = some (.int .i64 ed) := Bx1.out.cell 3
  have fr0 := Br1.out.free 0
  have fr1 := Br1.out.free 1
  have fr2 := Br1.out.free 2
  have fr3 := Br1.out.free 3
  go_wp2
  refine bodyPost_ret (results_dec2 rfl _ _ _ _ _ _ _ rfl (Br1.out.put4 _ _ _ _)) rfl ?_
  exact ⟨rfl, below_put4 (HB1.out) (by omega) _ _ _ _⟩

set_option maxRecDepth 100000 in
set_option maxHeartbeats 4000000 in
theorem rtold6_no (ca : Int) (na : Bool) (ta : ByteArray) (ea : Int) (su : Bool) (ou : Option Addr) (lu cu : Nat) (eu E z1 z2 : Int) (m : Nat) (w : World) (hO : ∀ X, Below w.heap.size w X → Calls Tryz.prog 31 #[dcV ca na ta ea] X fun e w' => (∃ s o l c, e = .returned (.agg #[.bool s, .slice o l c, .int .i64 ea]) ∧ Hid (RI w' s o l c z1 1002 0)) ∧ Below X.heap.size X w') (hT : ∀ X (s : Bool) (o : Option Addr) (l c : Nat), Below w.heap.size w X → RI X s o l c z1 1002 0 → Calls Tryz.prog 30 #[.agg #[.bool s, .slice o l c, .int .i64 ea], .agg #[.bool su, .slice ou lu cu, .int .i64 eu], .int .i64 (m : Int)] X fun e w' => (∃ s o l c, e = .returned (.agg #[.bool s, .slice o l c, .int .i64 E]) ∧ Hid (RI w' s o l c z2 8430 0)) ∧ Below X.heap.size X w') (hD : ∀ X (s : Bool) (o : Option Addr) (l c : Nat), RI X s o l c z2 8430 0 → Calls Tryz.prog 34 #[.agg #[.bool s, .slice o l c, .int .i64 E], .bool na] X fun e w' => e = .returned (.tuple #[.agg #[.int .i64 0, .bool false, .string ⟨#[]⟩, .int .i64 0], .bool false]) ∧ Below X.heap.size X w') : Calls Tryz.prog 35 #[dcV ca na ta ea, .agg #[.bool su, .slice ou lu cu, .int .i64 eu], .int .i64 (m : Int)] w fun e w' => e = .returned (.tuple #[.agg #[.int .i64 0, .bool false, .string ⟨#[]⟩, .int .i64 0], .int .i64 51]) ∧ Below w.heap.size w w' := by
  have KO := hide hO
  have KT := hide hT
  have KD := hide hD
  clear hO hT hD
  have Ba0 := hide (((Blk.newAt w (w.heap.size) (rfl) #[.int .i64 ca, .bool na, .string ta, .int .i64 ea] 23).alloc (.cells #[.bool su, .slice ou lu cu, .int .i64 eu] 55)).alloc (.cells #[.int .i64 0, .bool false, .string ⟨#[]⟩, .int .i64 0] 23))
  have Bu0 := hide ((Blk.newAt (w.alloc (.cells #[.int .i64 ca, .bool na, .string ta, .int .i64 ea] 23)) (w.heap.size + 1) (by simp) #[.bool su, .slice ou lu cu, .int .i64 eu] 55).alloc (.cells #[.int .i64 0, .bool false, .string ⟨#[]⟩, .int .i64 0] 23))
  have Br0 := hide (Blk.newAt ((w.alloc (.cells #[.int .i64 ca, .bool na, .string ta, .int .i64 ea] 23)).alloc (.cells #[.bool su, .slice ou lu cu, .int .i64 eu] 55)) (w.heap.size + 1 + 1) (by simp) #[.int .i64 0, .bool false, .string ⟨#[]⟩, .int .i64 0] 23)
  have HB0 : Hid (Below w.heap.size w (((w.alloc (.cells #[.int .i64 ca, .bool na, .string ta, .int .i64 ea] 23)).alloc (.cells #[.bool su, .slice ou lu cu, .int .i64 eu] 55)).alloc (.cells #[.int .i64 0, .bool false, .string ⟨#[]⟩, .int .i64 0] 23))) := ((((Below.refl _ _).alloc (Nat.le_refl _) _).alloc (by simp <;> omega) _).alloc (by simp <;> omega) _)
  obtain ⟨W, hW⟩ : ∃ W, W = (((w.alloc (.cells #[.int .i64 ca, .bool na, .string ta, .int .i64 ea] 23)).alloc (.cells #[.bool su, .slice ou lu cu, .int .i64 eu] 55)).alloc (.cells #[.int .i64 0, .bool false, .string ⟨#[]⟩, .int .i64 0] 23)) := ⟨_, rfl⟩
  rw [← hW] at HB0 Ba0 Bu0 Br0 
  have HW := hide hW
  clear hW
  have ya0 : W.cell? ⟨w.heap.size, 0, none⟩ = some (.int .i64 ca) := Ba0.out.cell 0
  have ya1 : W.cell? ⟨w.heap.size, 1, none⟩ = some (.bool na) := Ba0.out.cell 1
  have ya2 : W.cell? ⟨w.heap.size, 2, none⟩ = some (.string ta) := Ba0.out.cell 2
  have ya3 : W.cell? ⟨w.heap.size, 3, none⟩ = some (.int .i64 ea) := Ba0.out.cell 3
  have yu0 : W.cell? ⟨w.heap.size + 1, 0, none⟩ = some (.bool su) := Bu0.out.cell 0
  have yu1 : W.cell? ⟨w.heap.size + 1, 1, none⟩ = some (.slice ou lu cu) := Bu0.out.cell 1
  have yu2 : W.cell? ⟨w.heap.size + 1, 2, none⟩ = some (.int .i64 eu) := Bu0.out.cell 2
  have yr0 : W.cell? ⟨w.heap.size + 1 + 1, 0, none⟩ = some (.int .i64 0) := Br0.out.cell 0
  have yr1 : W.cell? ⟨w.heap.size + 1 + 1, 1, none⟩ = some (.bool false) := Br0.out.cell 1
  have yr2 : W.cell? ⟨w.heap.size + 1 + 1, 2, none⟩ = some (.string ⟨#[]⟩) := Br0.out.cell 2
  have yr3 : W.cell? ⟨w.heap.size + 1 + 1, 3, none⟩ = some (.int .i64 0) := Br0.out.cell 3
  go_enter Tryz.func35, Tryz.ntmps35
  have HL : Hid (w.heap.size < W.heap.size ∧ w.heap.size + 1 < W.heap.size) := ⟨Ba0.out.lt, Bu0.out.lt⟩
  go_wp2_with fail
  simp only [← HW.out]
  go_cut [8, 9] (fun vp ve wx => CutV W #[.int .i64 0, .bool false, .string ⟨#[]⟩, .int .i64 0] (.bool false) vp ve wx)
  case first =>
    have C0 : Hid (∀ X, Hid (Below W.heap.size W X) → Calls Tryz.prog 31 #[dcV ca na ta ea] X fun e w' => (∃ s o l c, e = .returned (.agg #[.bool s, .slice o l c, .int .i64 ea]) ∧ Hid (RI w' s o l c z1 1002 0)) ∧ Hid (Below X.heap.size X w') ∧ Hid (Below W.heap.size W w') ∧ w'.cell? ⟨w.heap.size, 0, none⟩ = some (.int .i64 ca) ∧ w'.cell? ⟨w.heap.size, 1, none⟩ = some (.bool na) ∧ w'.cell? ⟨w.heap.size, 2, none⟩ = some (.string ta) ∧ w'.cell? ⟨w.heap.size, 3, none⟩ = some (.int .i64 ea) ∧ w'.cell? ⟨w.heap.size + 1, 0, none⟩ = some (.bool su) ∧ w'.cell? ⟨w.heap.size + 1, 1, none⟩ = some (.slice ou lu cu) ∧ w'.cell? ⟨w.heap.size + 1, 2, none⟩ = some (.int .i64 eu)) := by
      intro X bX
      refine (KO.out X (HB0.out.trans (bX.out.mono HB0.out.size))).mono ?_
      rintro e w' ⟨⟨s, o, l, c, rfl, hz⟩, hb⟩
      have bb := bX.out.trans (hb.mono bX.out.size)
      have Baq := Ba0.out.below bb Ba0.out.lt
      have Buq := Bu0.out.below bb Bu0.out.lt
      exact ⟨⟨s, o, l, c, rfl, hz⟩, hb, bb, Baq.cell 0, Baq.cell 1, Baq.cell 2, Baq.cell 3, Buq.cell 0, Buq.cell 1, Buq.cell 2⟩
    have C1 : Hid (∀ X (s : Bool) (o : Option Addr) (l c : Nat), Hid (Below W.heap.size W X) → RI X s o l c z1 1002 0 → Calls Tryz.prog 30 #[.agg #[.bool s, .slice o l c, .int .i64 ea], .agg #[.bool su, .slice ou lu cu, .int .i64 eu], .int .i64 (m : Int)] X fun e w' => (∃ s o l c, e = .returned (.agg #[.bool s, .slice o l c, .int .i64 E]) ∧ Hid (RI w' s o l c z2 8430 0)) ∧ Hid (Below X.heap.size X w') ∧ Hid (Below W.heap.size W w') ∧ w'.cell? ⟨w.heap.size, 0, none⟩ = some (.int .i64 ca) ∧ w'.cell? ⟨w.heap.size, 1, none⟩ = some (.bool na) ∧ w'.cell? ⟨w.heap.size, 2, none⟩ = some (.string ta) ∧ w'.cell? ⟨w.heap.size, 3, none⟩ = some (.int .i64 ea) ∧ w'.cell? ⟨w.heap.size + 1, 0, none⟩ = some (.bool su) ∧ w'.cell? ⟨w.heap.size + 1, 1, none⟩ = some (.slice ou lu cu) ∧ w'.cell? ⟨w.heap.size + 1, 2, none⟩ = some (.int .i64 eu)) := by
      intro X s o l c bX hz
      refine (KT.out X _ _ _ _ (HB0.out.trans (bX.out.mono HB0.out.size)) hz).mono ?_
      rintro e w' ⟨⟨s, o, l, c, rfl, hz⟩, hb⟩
      have bb := bX.out.trans (hb.mono bX.out.size)
      have Baq := Ba0.out.below bb Ba0.out.lt
      have Buq := Bu0.out.below bb Bu0.out.lt
      exact ⟨⟨s, o, l, c, rfl, hz⟩, hb, bb, Baq.cell 0, Baq.cell 1, Baq.cell 2, Baq.cell 3, Buq.cell 0, Buq.cell 1, Buq.cell 2⟩
    have C2 : Hid (∀ X (s : Bool) (o : Option Addr) (l c : Nat), Hid (Below W.heap.size W X) → RI X s o l c z2 8430 0 → Calls Tryz.prog 34 #[.agg #[.bool s, .slice o l c, .int .i64 E], .bool na] X fun e w' => e = .returned (.tuple #[.agg #[.int .i64 0, .bool false, .string ⟨#[]⟩, .int .i64 0], .bool false]) ∧ Hid (Below X.heap.size X w') ∧ Hid (Below W.heap.size W w') ∧ w'.cell? ⟨w.heap.size, 0, none⟩ = some (.int .i64 ca) ∧ w'.cell? ⟨w.heap.size, 1, none⟩ = some (.bool na) ∧ w'.cell? ⟨w.heap.size, 2, none⟩ = some (.string ta) ∧ w'.cell? ⟨w.heap.size, 3, none⟩ = some (.int .i64 ea) ∧ w'.cell? ⟨w.heap.size + 1, 0, none⟩ = some (.bool su) ∧ w'.cell? ⟨w.heap.size + 1, 1, none⟩ = some (.slice ou lu cu) ∧ w'.cell? ⟨w.heap.size + 1, 2, none⟩ = some (.int .i64 eu)) := by
      intro X s o l c bX hz
      refine (KD.out X _ _ _ _ hz).mono ?_
      rintro e w' ⟨rfl, hb⟩
      have bb := bX.out.trans (hb.mono bX.out.size)
      have Baq := Ba0.out.below bb Ba0.out.lt
      have Buq := Bu0.out.below bb Bu0.out.lt
      exact ⟨rfl, hb, bb, Baq.cell 0, Baq.cell 1, Baq.cell 2, Baq.cell 3, Buq.cell 0, Buq.cell 1, Buq.cell 2⟩
    have b0 : Hid (Below W.heap.size W W.drew) := bdrewD W
    have naW : ¬ w.heap.size = W.heap.size := (by have := HL.out; omega)
    have maW : ¬ W.heap.size = w.heap.size := (by have := HL.out; omega)
    have nuW : ¬ w.heap.size + 1 = W.heap.size := (by have := HL.out; omega)
    have muW : ¬ W.heap.size = w.heap.size + 1 := (by have := HL.out; omega)
    have mk0 : True := trivial
    go_region_held3 (fun w' => w'.cell? ⟨w.heap.size, 0, none⟩ = some (.int .i64 ca) ∧ w'.cell? ⟨w.heap.size, 1, none⟩ = some (.bool na) ∧ w'.cell? ⟨w.heap.size, 2, none⟩ = some (.string ta) ∧ w'.cell? ⟨w.heap.size, 3, none⟩ = some (.int .i64 ea) ∧ w'.cell? ⟨w.heap.size + 1, 0, none⟩ = some (.bool su) ∧ w'.cell? ⟨w.heap.size + 1, 1, none⟩ = some (.slice ou lu cu) ∧ w'.cell? ⟨w.heap.size + 1, 2, none⟩ = some (.int .i64 eu)) (go_keep) (first
        | (clear mk0; go_at_call 31; refine (C0.out _ (bal b0 (Obj.cells #[Value.int .i64 0, Value.bool false, Value.string ⟨#[]⟩, Value.int .i64 0] 23))).mono ?_; rintro e u1 ⟨⟨s1, o1, l1, c1, rfl, Z1⟩, R1, b1, q0_0, q0_1, q0_2, q0_3, q0_4, q0_5, q0_6⟩; have QN := (Blk.newAt W.drew W.heap.size rfl #[.int .i64 0, .bool false, .string ⟨#[]⟩, .int .i64 0] 23).below R1.out (Blk.newAt W.drew W.heap.size rfl #[.int .i64 0, .bool false, .string ⟨#[]⟩, .int .i64 0] 23).lt; have h0 : u1.cell? ⟨W.heap.size, 0, none⟩ = some (.int .i64 0) := QN.cell 0; have h1 : u1.cell? ⟨W.heap.size, 1, none⟩ = some (.bool false) := QN.cell 1; have h2 : u1.cell? ⟨W.heap.size, 2, none⟩ = some (.string ⟨#[]⟩) := QN.cell 2; have h3 : u1.cell? ⟨W.heap.size, 3, none⟩ = some (.int .i64 0) := QN.cell 3; have h4 := QN.free 0; have h5 := QN.free 1; have h6 := QN.free 2; have h7 := QN.free 3; have QH := hide QN; clear QN; have mk1L0 : True := trivial)
        | (clear mk0; go_at_call 31; refine (C0.out _ b0).mono ?_; rintro e u1 ⟨⟨s1, o1, l1, c1, rfl, Z1⟩, R1, b1, q0_0, q0_1, q0_2, q0_3, q0_4, q0_5, q0_6⟩; have nau1 : ¬ w.heap.size = u1.heap.size := (by have := HL.out; have := b1.out.size; omega); have mau1 : ¬ u1.heap.size = w.heap.size := (by have := HL.out; have := b1.out.size; omega); have nuu1 : ¬ w.heap.size + 1 = u1.heap.size := (by have := HL.out; have := b1.out.size; omega); have muu1 : ¬ u1.heap.size = w.heap.size + 1 := (by have := HL.out; have := b1.out.size; omega); have mk1 : True := trivial)
        | (clear mk1L0; go_at_call 30; refine (C1.out _ _ _ _ _ b1 Z1.out).mono ?_; rintro e u2 ⟨⟨s2, o2, l2, c2, rfl, Z2⟩, R2, b2, q1_0, q1_1, q1_2, q1_3, q1_4, q1_5, q1_6⟩; clear h0 h1 h2 h3 h4 h5 h6 h7; have QN := QH.out.below R2.out QH.out.lt; have h0 : u2.cell? ⟨W.heap.size, 0, none⟩ = some (.int .i64 0) := QN.cell 0; have h1 : u2.cell? ⟨W.heap.size, 1, none⟩ = some (.bool false) := QN.cell 1; have h2 : u2.cell? ⟨W.heap.size, 2, none⟩ = some (.string ⟨#[]⟩) := QN.cell 2; have h3 : u2.cell? ⟨W.heap.size, 3, none⟩ = some (.int .i64 0) := QN.cell 3; have h4 := QN.free 0; have h5 := QN.free 1; have h6 := QN.free 2; have h7 := QN.free 3; have QH := hide QN; clear QN; have mk2L0 : True := trivial)
        | (clear mk1; go_at_call 30; refine (C1.out _ _ _ _ _ (bal b1 (Obj.cells #[Value.int .i64 0, Value.bool false, Value.string ⟨#[]⟩, Value.int .i64 0] 23)) (Z1.out.below ((Below.refl _ _).alloc (Nat.le_refl _) _))).mono ?_; rintro e u2 ⟨⟨s2, o2, l2, c2, rfl, Z2⟩, R2, b2, q1_0, q1_1, q1_2, q1_3, q1_4, q1_5, q1_6⟩; have QN := (Blk.newAt u1 u1.heap.size rfl #[.int .i64 0, .bool false, .string ⟨#[]⟩, .int .i64 0] 23).below R2.out (Blk.newAt u1 u1.heap.size rfl #[.int .i64 0, .bool false, .string ⟨#[]⟩, .int .i64 0] 23).lt; have h0 : u2.cell? ⟨u1.heap.size, 0, none⟩ = some (.int .i64 0) := QN.cell 0; have h1 : u2.cell? ⟨u1.heap.size, 1, none⟩ = some (.bool false) := QN.cell 1; have h2 : u2.cell? ⟨u1.heap.size, 2, none⟩ = some (.string ⟨#[]⟩) := QN.cell 2; have h3 : u2.cell? ⟨u1.heap.size, 3, none⟩ = some (.int .i64 0) := QN.cell 3; have h4 := QN.free 0; have h5 := QN.free 1; have h6 := QN.free 2; have h7 := QN.free 3; have QH := hide QN; clear QN; have mk2L1 : True := trivial)
        | (clear mk1; go_at_call 30; refine (C1.out _ _ _ _ _ b1 Z1.out).mono ?_; rintro e u2 ⟨⟨s2, o2, l2, c2, rfl, Z2⟩, R2, b2, q1_0, q1_1, q1_2, q1_3, q1_4, q1_5, q1_6⟩; have nau2 : ¬ w.heap.size = u2.heap.size := (by have := HL.out; have := b2.out.size; omega); have mau2 : ¬ u2.heap.size = w.heap.size := (by have := HL.out; have := b2.out.size; omega); have nuu2 : ¬ w.heap.size + 1 = u2.heap.size := (by have := HL.out; have := b2.out.size; omega); have muu2 : ¬ u2.heap.size = w.heap.size + 1 := (by have := HL.out; have := b2.out.size; omega); have mk2 : True := trivial)
        | (clear mk2L0; go_at_call 34; refine (C2.out _ _ _ _ _ b2 Z2.out).mono ?_; rintro e u3 ⟨rfl, R3, b3, q2_0, q2_1, q2_2, q2_3, q2_4, q2_5, q2_6⟩; clear h0 h1 h2 h3 h4 h5 h6 h7; have QN := QH.out.below R3.out QH.out.lt; have h0 : u3.cell? ⟨W.heap.size, 0, none⟩ = some (.int .i64 0) := QN.cell 0; have h1 : u3.cell? ⟨W.heap.size, 1, none⟩ = some (.bool false) := QN.cell 1; have h2 : u3.cell? ⟨W.heap.size, 2, none⟩ = some (.string ⟨#[]⟩) := QN.cell 2; have h3 : u3.cell? ⟨W.heap.size, 3, none⟩ = some (.int .i64 0) := QN.cell 3; have h4 := QN.free 0; have h5 := QN.free 1; have h6 := QN.free 2; have h7 := QN.free 3; have QH := hide QN; clear QN; have mk3L0 : True := trivial)
        | (clear mk2L1; go_at_call 34; refine (C2.out _ _ _ _ _ b2 Z2.out).mono ?_; rintro e u3 ⟨rfl, R3, b3, q2_0, q2_1, q2_2, q2_3, q2_4, q2_5, q2_6⟩; clear h0 h1 h2 h3 h4 h5 h6 h7; have QN := QH.out.below R3.out QH.out.lt; have h0 : u3.cell? ⟨u1.heap.size, 0, none⟩ = some (.int .i64 0) := QN.cell 0; have h1 : u3.cell? ⟨u1.heap.size, 1, none⟩ = some (.bool false) := QN.cell 1; have h2 : u3.cell? ⟨u1.heap.size, 2, none⟩ = some (.string ⟨#[]⟩) := QN.cell 2; have h3 : u3.cell? ⟨u1.heap.size, 3, none⟩ = some (.int .i64 0) := QN.cell 3; have h4 := QN.free 0; have h5 := QN.free 1; have h6 := QN.free 2; have h7 := QN.free 3; have QH := hide QN; clear QN; have mk3L1 : True := trivial)
        | (clear mk2; go_at_call 34; refine (C2.out _ _ _ _ _ (bal b2 (Obj.cells #[Value.int .i64 0, Value.bool false, Value.string ⟨#[]⟩, Value.int .i64 0] 23)) (Z2.out.below ((Below.refl _ _).alloc (Nat.le_refl _) _))).mono ?_; rintro e u3 ⟨rfl, R3, b3, q2_0, q2_1, q2_2, q2_3, q2_4, q2_5, q2_6⟩; have QN := (Blk.newAt u2 u2.heap.size rfl #[.int .i64 0, .bool false, .string ⟨#[]⟩, .int .i64 0] 23).below R3.out (Blk.newAt u2 u2.heap.size rfl #[.int .i64 0, .bool false, .string ⟨#[]⟩, .int .i64 0] 23).lt; have h0 : u3.cell? ⟨u2.heap.size, 0, none⟩ = some (.int .i64 0) := QN.cell 0; have h1 : u3.cell? ⟨u2.heap.size, 1, none⟩ = some (.bool false) := QN.cell 1; have h2 : u3.cell? ⟨u2.heap.size, 2, none⟩ = some (.string ⟨#[]⟩) := QN.cell 2; have h3 : u3.cell? ⟨u2.heap.size, 3, none⟩ = some (.int .i64 0) := QN.cell 3; have h4 := QN.free 0; have h5 := QN.free 1; have h6 := QN.free 2; have h7 := QN.free 3; have QH := hide QN; clear QN; have mk3L2 : True := trivial)
        | (clear mk2; go_at_call 34; refine (C2.out _ _ _ _ _ b2 Z2.out).mono ?_; rintro e u3 ⟨rfl, R3, b3, q2_0, q2_1, q2_2, q2_3, q2_4, q2_5, q2_6⟩; have nau3 : ¬ w.heap.size = u3.heap.size := (by have := HL.out; have := b3.out.size; omega); have mau3 : ¬ u3.heap.size = w.heap.size := (by have := HL.out; have := b3.out.size; omega); have nuu3 : ¬ w.heap.size + 1 = u3.heap.size := (by have := HL.out; have := b3.out.size; omega); have muu3 : ¬ u3.heap.size = w.heap.size + 1 := (by have := HL.out; have := b3.out.size; omega); have mk3 : True := trivial))
    all_goals (go_wp2_with fail; go_meet)
    all_goals (first | (clear mk3L0; exact cutv_old b3.out QH.out (Nat.le_refl _)) | (clear mk3L1; exact cutv_old b3.out QH.out b1.out.size) | (clear mk3L2; exact cutv_old b3.out QH.out b2.out.size) | (clear mk3; exact cutv_new b3.out))
  obtain ⟨⟨Hx, rfl, rfl, hq, hH, hbc⟩⟩ := hcut
  obtain ⟨w1, hwk⟩ : ∃ x, x = wc := ⟨_, rfl⟩
  subst hwk
  have Ba1 := hide (Ba0.out.below hbc Ba0.out.lt)
  have Bu1 := hide (Bu0.out.below hbc Bu0.out.lt)
  have Br1 := hide (Br0.out.below hbc Br0.out.lt)
  have Bx1 := hide hq
  have HB1 := hide (HB0.out.trans (hbc.mono HB0.out.size))
  clear HL hq hH hbc Ba0 Bu0 Br0 HB0 ya0 ya1 ya2 ya3 yu0 yu1 yu2 yr0 yr1 yr2 yr3
  have ya0 : w1.cell? ⟨w.heap.size, 0, none⟩ = some (.int .i64 ca) := Ba1.out.cell 0
  have ya1 : w1.cell? ⟨w.heap.size, 1, none⟩ = some (.bool na) := Ba1.out.cell 1
  have ya2 : w1.cell? ⟨w.heap.size, 2, none⟩ = some (.string ta) := Ba1.out.cell 2
  have ya3 : w1.cell? ⟨w.heap.size, 3, none⟩ = some (.int .i64 ea) := Ba1.out.cell 3
  have yu0 : w1.cell? ⟨w.heap.size + 1, 0, none⟩ = some (.bool su) := Bu1.out.cell 0
  have yu1 : w1.cell? ⟨w.heap.size + 1, 1, none⟩ = some (.slice ou lu cu) := Bu1.out.cell 1
  have yu2 : w1.cell? ⟨w.heap.size + 1, 2, none⟩ = some (.int .i64 eu) := Bu1.out.cell 2
  have yr0 : w1.cell? ⟨w.heap.size + 1 + 1, 0, none⟩ = some (.int .i64 0) := Br1.out.cell 0
  have yr1 : w1.cell? ⟨w.heap.size + 1 + 1, 1, none⟩ = some (.bool false) := Br1.out.cell 1
  have yr2 : w1.cell? ⟨w.heap.size + 1 + 1, 2, none⟩ = some (.string ⟨#[]⟩) := Br1.out.cell 2
  have yr3 : w1.cell? ⟨w.heap.size + 1 + 1, 3, none⟩ = some (.int .i64 0) := Br1.out.cell 3
  have yx0 : w1.cell? ⟨Hx, 0, none⟩ = some (.int .i64 0) := Bx1.out.cell 0
  have yx1 : w1.cell? ⟨Hx, 1, none⟩ = some (.bool false) := Bx1.out.cell 1
  have yx2 : w1.cell? ⟨Hx, 2, none⟩ = some (.string ⟨#[]⟩) := Bx1.out.cell 2
  have yx3 : w1.cell? ⟨Hx, 3, none⟩ = some (.int .i64 0) := Bx1.out.cell 3
  have fr0 := Br1.out.free 0
  have fr1 := Br1.out.free 1
  have fr2 := Br1.out.free 2
  have fr3 := Br1.out.free 3
  go_wp2
  refine bodyPost_ret (results_dec2 rfl _ _ _ _ _ _ _ rfl (Br1.out.put4 _ _ _ _)) rfl ?_
  exact ⟨rfl, below_put4 (HB1.out) (by omega) _ _ _ _⟩

end Go.Proofs.YtcclbcnmkaobpaaGreatDoor

namespace Go.Proofs.YtcclbcnmkaobpaaGreatDoor
open Go.RowKit

theorem zv_nat (b : Bool) (n : Nat) : (zv b n).natAbs = n := by cases b <;> simp [zv]

theorem zv_sgn {b : Bool} {n : Nat} (h : n ≠ 0) : decide (zv b n < 0) = b := by
  cases b
  · simp only [zv, Bool.false_eq_true, if_false, decide_eq_false_iff_not]; omega
  · simp only [zv, if_true, decide_eq_true_eq]; omega

theorem tellF_tens (neg : Bool) (N k : Nat) (e : Int) : tellF neg (N * 10 ^ k) e = tellF neg N (e + k) := by
  unfold tellF
  rw [finD_tens]

theorem rtold6_any (d : DecT) (hf : Fin d) (su : Bool) (ou : Option Addr) (lu cu : Nat) (N : Nat) (eu : Int) (m lo : Nat) (w : World) (hu : RI w su ou lu cu (N : Int) 1002 lo) (n0 : N ≠ 0) (hN : N < 10 ^ 32) (h1 : -4000 ≤ eu) (h2 : eu ≤ 4000) (hm : m < 8) :
    Calls Tryz.prog 35 #[decVal d, .agg #[.bool su, .slice ou lu cu, .int .i64 eu], .int .i64 (m : Int)] w fun e w' => e = .returned (decErr (rndD d N eu m)) ∧ Below w.heap.size w w' := by
  have l1 := hf.len
  have l2 := hf.lo
  have l3 := hf.hi
  have lp := List.length_pos_iff.2 hf.ne
  have bm : bys ⟨d.dig.toArray⟩ = d.dig := bys_mk _
  have sm0 : (⟨d.dig.toArray⟩ : ByteArray).size = d.dig.length := size_mk0 _
  rw [rndD_fin hf.ne]
  obtain ⟨ka, hka⟩ : ∃ ka : Nat, ka = (d.exp - min d.exp eu).toNat := ⟨_, rfl⟩
  obtain ⟨ku, hku⟩ : ∃ ku : Nat, ku = (eu - min d.exp eu).toNat := ⟨_, rfl⟩
  rw [← hka, ← hku]
  have v0 := hf.val
  have a1 := decV_lt _ d.dig rfl hf.dig
  obtain ⟨Z, hZ⟩ : ∃ Z, Z = rndN (decV d.dig * 10 ^ ka) (N * 10 ^ ku) d.neg m * (N * 10 ^ ku) := ⟨_, rfl⟩
  have eT : tellF d.neg (rndN (decV d.dig * 10 ^ ka) (N * 10 ^ ku) d.neg m * N) eu = tellF d.neg Z (min d.exp eu) := by
    rw [hZ, ← Nat.mul_assoc, tellF_tens, hku]
    congr 1; omega
  rw [eT]
  obtain ⟨K, hK⟩ : ∃ K, K = 19999 := ⟨_, rfl⟩
  have bZ : Z < 10 ^ (K + 1) := by
    have bA : decV d.dig * 10 ^ ka < 10 ^ (d.dig.length + ka) := by
      rw [Nat.pow_add]; exact Nat.mul_lt_mul_of_pos_right a1 (Nat.pow_pos (by omega))
    have bU : N * 10 ^ ku < 10 ^ (32 + ku) := by
      rw [Nat.pow_add]; exact Nat.mul_lt_mul_of_pos_right hN (Nat.pow_pos (by omega))
    have cA : 10 ^ (d.dig.length + ka) ≤ 10 ^ K := Nat.pow_le_pow_right (by omega) (by omega)
    have cU : 10 ^ (32 + ku) ≤ 10 ^ K := Nat.pow_le_pow_right (by omega) (by omega)
    have e9 : 10 ^ (K + 1) = 10 ^ K * 10 := Nat.pow_succ _ _
    have hle : Z ≤ decV d.dig * 10 ^ ka + N * 10 ^ ku := by
      rw [hZ]
      have hd := Nat.div_mul_le_self (decV d.dig * 10 ^ ka) (N * 10 ^ ku)
      rcases rndN_two (decV d.dig * 10 ^ ka) (N * 10 ^ ku) d.neg m with e | ⟨_, e⟩
      · rw [e]; omega
      · rw [e, Nat.add_mul, Nat.one_mul]; omega
    rw [e9]
    generalize 10 ^ K = T at *
    omega
  have hs : sizeN Z ≤ 20000 := by have := sizeN_le bZ (by omega); omega
  clear bZ eT a1 hK
  have hO : ∀ X, Below w.heap.size w X → Calls Tryz.prog 31 #[dcV (d.cls : Int) d.neg ⟨d.dig.toArray⟩ d.exp] X fun e w' => (∃ s o l c, e = .returned (.agg #[.bool s, .slice o l c, .int .i64 d.exp]) ∧ Hid (RI w' s o l c (zv d.neg (decV d.dig)) 1002 0)) ∧ Below X.heap.size X w' := by
    intro X _
    refine (rnof (d.cls : Int) d.neg ⟨d.dig.toArray⟩ d.exp X (by rw [sm0]; exact l1) (by rw [bm]; exact hf.dig)).mono ?_
    rintro e w' ⟨⟨s, o, l, c, rfl, hz⟩, hb⟩
    rw [bm] at hz
    exact ⟨⟨s, o, l, c, rfl, hz.lo (Nat.zero_le _) (Nat.le_refl _)⟩, hb⟩
  have hT : ∀ X (s : Bool) (o : Option Addr) (l c : Nat), Below w.heap.size w X → RI X s o l c (zv d.neg (decV d.dig)) 1002 0 → Calls Tryz.prog 30 #[.agg #[.bool s, .slice o l c, .int .i64 d.exp], .agg #[.bool su, .slice ou lu cu, .int .i64 eu], .int .i64 (m : Int)] X fun e w' => (∃ s o l c, e = .returned (.agg #[.bool s, .slice o l c, .int .i64 (min d.exp eu)]) ∧ Hid (RI w' s o l c (zv d.neg Z) 8430 0)) ∧ Below X.heap.size X w' := by
    intro X s o l c hb hz
    obtain rfl : s = d.neg := by
      obtain ⟨_, _, _, _, g, _⟩ := hz
      rw [g]; exact zv_sgn v0
    have := rto d.neg o l c d.exp su ou lu cu eu (zv d.neg (decV d.dig)) (N : Int) ka ku 0 m X hz ((hu.below hb).lo (Nat.zero_le _) (Nat.le_refl _)) (by omega) (by omega) ⟨by omega, by omega⟩ (by omega) hm
    rw [zv_nat, Int.natAbs_natCast, ← hZ] at this
    exact this
  by_cases h0 : Z = 0
  · subst h0
    have e : tellF d.neg 0 (min d.exp eu) = (⟨0, d.neg, [], 0⟩, 0) := tellF_yes (may_zero d.neg)
    rw [e]
    refine rtold6_yes (d.cls : Int) d.neg ⟨d.dig.toArray⟩ d.exp su ou lu cu eu (min d.exp eu) _ _ m 0 d.neg ⟨#[]⟩ 0 w hO hT ?_
    intro X s o l c hz
    have hz' := hz.abs
    rw [zv_nat] at hz'
    exact rndec_zero s o l c _ d.neg 8430 X hz' (by omega)
  · have ef : finD d.neg Z (min d.exp eu) = decA d.neg Z (min d.exp eu) := by unfold finD; rw [if_neg h0]
    have hsg : ∀ X (s : Bool) (o : Option Addr) (l c : Nat), RI X s o l c (zv d.neg Z) 8430 0 → s = d.neg ∧ Rl X o l c Z 8430 := by
      intro X s o l c hz
      have hz' := hz.abs
      rw [zv_nat] at hz'
      obtain ⟨_, _, _, _, g, _⟩ := hz
      exact ⟨by rw [g]; exact zv_sgn h0, hz'⟩
    by_cases hmay : May (decA d.neg Z (min d.exp eu))
    · rw [tellF_yes (by rw [ef]; exact hmay), ef]
      refine rtold6_yes (d.cls : Int) d.neg ⟨d.dig.toArray⟩ d.exp su ou lu cu eu (min d.exp eu) _ _ m _ _ _ _ w hO hT ?_
      intro X s o l c hz
      obtain ⟨rfl, hr⟩ := hsg X s o l c hz
      exact rndec_yes d.neg o l c _ d.neg Z 8430 X hr (by omega) h0 hs (by omega) (by omega) hmay
    · rw [tellF_no (by rw [ef]; exact hmay)]
      refine rtold6_no (d.cls : Int) d.neg ⟨d.dig.toArray⟩ d.exp su ou lu cu eu (min d.exp eu) _ _ m w hO hT ?_
      intro X s o l c hz
      obtain ⟨rfl, hr⟩ := hsg X s o l c hz
      exact rndec_no d.neg o l c _ d.neg Z 8430 X hr (by omega) h0 hs (by omega) (by omega) hmay

end Go.Proofs.YtcclbcnmkaobpaaGreatDoor

namespace Go.Proofs.YtcclbcnmkaobpaaGreatDoor
open Go.RowKit

set_option maxHeartbeats 2000000 in
theorem rDigits_no (ca : Int) (na : Bool) (ta : ByteArray) (ea : Int) (n m : Int) (w : World) (h : ¬ MayD ca na (bys ta) ea) : Calls Tryz.prog 15 #[dcV ca na ta ea, .int .i64 n, .int .i64 m] w fun e w' => e = .returned (.tuple #[dcV 0 false ⟨#[]⟩ 0, .int .i64 52]) ∧ Below w.heap.size w w' := by
  have CK := hide (fun W => rmay_no ca na ta ea W h)
  clear h
  have Ba0 := hide ((Blk.newAt w (w.heap.size) (rfl) #[.int .i64 ca, .bool na, .string ta, .int .i64 ea] 23).alloc (.cells #[.int .i64 0, .bool false, .string ⟨#[]⟩, .int .i64 0] 23))
  have Br0 := hide (Blk.newAt (w.alloc (.cells #[.int .i64 ca, .bool na, .string ta, .int .i64 ea] 23)) (w.heap.size + 1) (by simp) #[.int .i64 0, .bool false, .string ⟨#[]⟩, .int .i64 0] 23)
  have HB0 : Hid (Below w.heap.size w ((w.alloc (.cells #[.int .i64 ca, .bool na, .string ta, .int .i64 ea] 23)).alloc (.cells #[.int .i64 0, .bool false, .string ⟨#[]⟩, .int .i64 0] 23))) := (((Below.refl _ _).alloc (Nat.le_refl _) _).alloc (by simp <;> omega) _)
  go_enter Tryz.func15, Tryz.ntmps15
  go_wp2_with fail
  refine (CK.out _).mono ?_
  rintro e w1 ⟨rfl, hb⟩
  have Ba1 := hide (Ba0.out.below hb Ba0.out.lt)
  have Br1 := hide (Br0.out.below hb Br0.out.lt)
  have HB1 := hide (HB0.out.trans (hb.mono HB0.out.size))
  clear hb Ba0 Br0 HB0 
  have ya0 : w1.cell? ⟨w.heap.size, 0, none⟩ = some (.int .i64 ca) := Ba1.out.cell 0
  have ya1 : w1.cell? ⟨w.heap.size, 1, none⟩ = some (.bool na) := Ba1.out.cell 1
  have ya2 : w1.cell? ⟨w.heap.size, 2, none⟩ = some (.string ta) := Ba1.out.cell 2
  have ya3 : w1.cell? ⟨w.heap.size, 3, none⟩ = some (.int .i64 ea) := Ba1.out.cell 3
  have yr0 : w1.cell? ⟨w.heap.size + 1, 0, none⟩ = some (.int .i64 0) := Br1.out.cell 0
  have yr1 : w1.cell? ⟨w.heap.size + 1, 1, none⟩ = some (.bool false) := Br1.out.cell 1
  have yr2 : w1.cell? ⟨w.heap.size + 1, 2, none⟩ = some (.string ⟨#[]⟩) := Br1.out.cell 2
  have yr3 : w1.cell? ⟨w.heap.size + 1, 3, none⟩ = some (.int .i64 0) := Br1.out.cell 3
  have fr0 := Br1.out.free 0
  have fr1 := Br1.out.free 1
  have fr2 := Br1.out.free 2
  have fr3 := Br1.out.free 3
  go_wp2
  refine bodyPost_ret (results_dec2 rfl _ _ _ _ _ _ _ rfl (Br1.out.put4 _ _ _ _)) rfl ?_
  exact ⟨rfl, below_put4 (HB1.out) (by omega) _ _ _ _⟩

set_option maxHeartbeats 2000000 in
theorem rDigits_mlow (ca : Int) (na : Bool) (ta : ByteArray) (ea : Int) (n m : Int) (w : World) (h : MayD ca na (bys ta) ea) (hm : m < 0) : Calls Tryz.prog 15 #[dcV ca na ta ea, .int .i64 n, .int .i64 m] w fun e w' => e = .returned (.tuple #[dcV 0 false ⟨#[]⟩ 0, .int .i64 60]) ∧ Below w.heap.size w w' := by
  have CK := hide (fun W => rmay_yes ca na ta ea W h)
  clear h
  have Ba0 := hide ((Blk.newAt w (w.heap.size) (rfl) #[.int .i64 ca, .bool na, .string ta, .int .i64 ea] 23).alloc (.cells #[.int .i64 0, .bool false, .string ⟨#[]⟩, .int .i64 0] 23))
  have Br0 := hide (Blk.newAt (w.alloc (.cells #[.int .i64 ca, .bool na, .string ta, .int .i64 ea] 23)) (w.heap.size + 1) (by simp) #[.int .i64 0, .bool false, .string ⟨#[]⟩, .int .i64 0] 23)
  have HB0 : Hid (Below w.heap.size w ((w.alloc (.cells #[.int .i64 ca, .bool na, .string ta, .int .i64 ea] 23)).alloc (.cells #[.int .i64 0, .bool false, .string ⟨#[]⟩, .int .i64 0] 23))) := (((Below.refl _ _).alloc (Nat.le_refl _) _).alloc (by simp <;> omega) _)
  go_enter Tryz.func15, Tryz.ntmps15
  go_wp2_with fail
  refine (CK.out _).mono ?_
  rintro e w1 ⟨rfl, hb⟩
  have Ba1 := hide (Ba0.out.below hb Ba0.out.lt)
  have Br1 := hide (Br0.out.below hb Br0.out.lt)
  have HB1 := hide (HB0.out.trans (hb.mono HB0.out.size))
  clear hb Ba0 Br0 HB0 
  have ya0 : w1.cell? ⟨w.heap.size, 0, none⟩ = some (.int .i64 ca) := Ba1.out.cell 0
  have ya1 : w1.cell? ⟨w.heap.size, 1, none⟩ = some (.bool na) := Ba1.out.cell 1
  have ya2 : w1.cell? ⟨w.heap.size, 2, none⟩ = some (.string ta) := Ba1.out.cell 2
  have ya3 : w1.cell? ⟨w.heap.size, 3, none⟩ = some (.int .i64 ea) := Ba1.out.cell 3
  have yr0 : w1.cell? ⟨w.heap.size + 1, 0, none⟩ = some (.int .i64 0) := Br1.out.cell 0
  have yr1 : w1.cell? ⟨w.heap.size + 1, 1, none⟩ = some (.bool false) := Br1.out.cell 1
  have yr2 : w1.cell? ⟨w.heap.size + 1, 2, none⟩ = some (.string ⟨#[]⟩) := Br1.out.cell 2
  have yr3 : w1.cell? ⟨w.heap.size + 1, 3, none⟩ = some (.int .i64 0) := Br1.out.cell 3
  have fr0 := Br1.out.free 0
  have fr1 := Br1.out.free 1
  have fr2 := Br1.out.free 2
  have fr3 := Br1.out.free 3
  go_wp2
  refine bodyPost_ret (results_dec2 rfl _ _ _ _ _ _ _ rfl (Br1.out.put4 _ _ _ _)) rfl ?_
  exact ⟨rfl, below_put4 (HB1.out) (by omega) _ _ _ _⟩

set_option maxHeartbeats 2000000 in
theorem rDigits_mhigh (ca : Int) (na : Bool) (ta : ByteArray) (ea : Int) (n m : Int) (w : World) (h : MayD ca na (bys ta) ea) (hm : 8 ≤ m) : Calls Tryz.prog 15 #[dcV ca na ta ea, .int .i64 n, .int .i64 m] w fun e w' => e = .returned (.tuple #[dcV 0 false ⟨#[]⟩ 0, .int .i64 60]) ∧ Below w.heap.size w w' := by
  have CK := hide (fun W => rmay_yes ca na ta ea W h)
  clear h
  have hm7 : 7 < m := by omega
  have Ba0 := hide ((Blk.newAt w (w.heap.size) (rfl) #[.int .i64 ca, .bool na, .string ta, .int .i64 ea] 23).alloc (.cells #[.int .i64 0, .bool false, .string ⟨#[]⟩, .int .i64 0] 23))
  have Br0 := hide (Blk.newAt (w.alloc (.cells #[.int .i64 ca, .bool na, .string ta, .int .i64 ea] 23)) (w.heap.size + 1) (by simp) #[.int .i64 0, .bool false, .string ⟨#[]⟩, .int .i64 0] 23)
  have HB0 : Hid (Below w.heap.size w ((w.alloc (.cells #[.int .i64 ca, .bool na, .string ta, .int .i64 ea] 23)).alloc (.cells #[.int .i64 0, .bool false, .string ⟨#[]⟩, .int .i64 0] 23))) := (((Below.refl _ _).alloc (Nat.le_refl _) _).alloc (by simp <;> omega) _)
  go_enter Tryz.func15, Tryz.ntmps15
  go_wp2_with fail
  refine (CK.out _).mono ?_
  rintro e w1 ⟨rfl, hb⟩
  have Ba1 := hide (Ba0.out.below hb Ba0.out.lt)
  have Br1 := hide (Br0.out.below hb Br0.out.lt)
  have HB1 := hide (HB0.out.trans (hb.mono HB0.out.size))
  clear hb Ba0 Br0 HB0 
  have ya0 : w1.cell? ⟨w.heap.size, 0, none⟩ = some (.int .i64 ca) := Ba1.out.cell 0
  have ya1 : w1.cell? ⟨w.heap.size, 1, none⟩ = some (.bool na) := Ba1.out.cell 1
  have ya2 : w1.cell? ⟨w.heap.size, 2, none⟩ = some (.string ta) := Ba1.out.cell 2
  have ya3 : w1.cell? ⟨w.heap.size, 3, none⟩ = some (.int .i64 ea) := Ba1.out.cell 3
  have yr0 : w1.cell? ⟨w.heap.size + 1, 0, none⟩ = some (.int .i64 0) := Br1.out.cell 0
  have yr1 : w1.cell? ⟨w.heap.size + 1, 1, none⟩ = some (.bool false) := Br1.out.cell 1
  have yr2 : w1.cell? ⟨w.heap.size + 1, 2, none⟩ = some (.string ⟨#[]⟩) := Br1.out.cell 2
  have yr3 : w1.cell? ⟨w.heap.size + 1, 3, none⟩ = some (.int .i64 0) := Br1.out.cell 3
  have fr0 := Br1.out.free 0
  have fr1 := Br1.out.free 1
  have fr2 := Br1.out.free 2
  have fr3 := Br1.out.free 3
  go_wp2
  refine bodyPost_ret (results_dec2 rfl _ _ _ _ _ _ _ rfl (Br1.out.put4 _ _ _ _)) rfl ?_
  exact ⟨rfl, below_put4 (HB1.out) (by omega) _ _ _ _⟩

set_option maxHeartbeats 2000000 in
theorem rDigits_low (ca : Int) (na : Bool) (ta : ByteArray) (ea : Int) (n m : Int) (w : World) (h : MayD ca na (bys ta) ea) (m1 : 0 ≤ m) (m2 : m < 8) (hp : n < 1) : Calls Tryz.prog 15 #[dcV ca na ta ea, .int .i64 n, .int .i64 m] w fun e w' => e = .returned (.tuple #[dcV 0 false ⟨#[]⟩ 0, .int .i64 61]) ∧ Below w.heap.size w w' := by
  have CK := hide (fun W => rmay_yes ca na ta ea W h)
  clear h
  have m7 : ¬ 7 < m := by omega
  have m0 : ¬ m < 0 := by omega
  have Ba0 := hide ((Blk.newAt w (w.heap.size) (rfl) #[.int .i64 ca, .bool na, .string ta, .int .i64 ea] 23).alloc (.cells #[.int .i64 0, .bool false, .string ⟨#[]⟩, .int .i64 0] 23))
  have Br0 := hide (Blk.newAt (w.alloc (.cells #[.int .i64 ca, .bool na, .string ta, .int .i64 ea] 23)) (w.heap.size + 1) (by simp) #[.int .i64 0, .bool false, .string ⟨#[]⟩, .int .i64 0] 23)
  have HB0 : Hid (Below w.heap.size w ((w.alloc (.cells #[.int .i64 ca, .bool na, .string ta, .int .i64 ea] 23)).alloc (.cells #[.int .i64 0, .bool false, .string ⟨#[]⟩, .int .i64 0] 23))) := (((Below.refl _ _).alloc (Nat.le_refl _) _).alloc (by simp <;> omega) _)
  go_enter Tryz.func15, Tryz.ntmps15
  go_wp2_with fail
  refine (CK.out _).mono ?_
  rintro e w1 ⟨rfl, hb⟩
  have Ba1 := hide (Ba0.out.below hb Ba0.out.lt)
  have Br1 := hide (Br0.out.below hb Br0.out.lt)
  have HB1 := hide (HB0.out.trans (hb.mono HB0.out.size))
  clear hb Ba0 Br0 HB0 
  have ya0 : w1.cell? ⟨w.heap.size, 0, none⟩ = some (.int .i64 ca) := Ba1.out.cell 0
  have ya1 : w1.cell? ⟨w.heap.size, 1, none⟩ = some (.bool na) := Ba1.out.cell 1
  have ya2 : w1.cell? ⟨w.heap.size, 2, none⟩ = some (.string ta) := Ba1.out.cell 2
  have ya3 : w1.cell? ⟨w.heap.size, 3, none⟩ = some (.int .i64 ea) := Ba1.out.cell 3
  have yr0 : w1.cell? ⟨w.heap.size + 1, 0, none⟩ = some (.int .i64 0) := Br1.out.cell 0
  have yr1 : w1.cell? ⟨w.heap.size + 1, 1, none⟩ = some (.bool false) := Br1.out.cell 1
  have yr2 : w1.cell? ⟨w.heap.size + 1, 2, none⟩ = some (.string ⟨#[]⟩) := Br1.out.cell 2
  have yr3 : w1.cell? ⟨w.heap.size + 1, 3, none⟩ = some (.int .i64 0) := Br1.out.cell 3
  have fr0 := Br1.out.free 0
  have fr1 := Br1.out.free 1
  have fr2 := Br1.out.free 2
  have fr3 := Br1.out.free 3
  go_wp2
  refine bodyPost_ret (results_dec2 rfl _ _ _ _ _ _ _ rfl (Br1.out.put4 _ _ _ _)) rfl ?_
  exact ⟨rfl, below_put4 (HB1.out) (by omega) _ _ _ _⟩

set_option maxHeartbeats 2000000 in
theorem rDigits_high (ca : Int) (na : Bool) (ta : ByteArray) (ea : Int) (n m : Int) (w : World) (h : MayD ca na (bys ta) ea) (m1 : 0 ≤ m) (m2 : m < 8) (hp : 1000 < n) : Calls Tryz.prog 15 #[dcV ca na ta ea, .int .i64 n, .int .i64 m] w fun e w' => e = .returned (.tuple #[dcV 0 false ⟨#[]⟩ 0, .int .i64 61]) ∧ Below w.heap.size w w' := by
  have CK := hide (fun W => rmay_yes ca na ta ea W h)
  clear h
  have m7 : ¬ 7 < m := by omega
  have m0 : ¬ m < 0 := by omega
  have n1 : ¬ n < 1 := by omega
  have Ba0 := hide ((Blk.newAt w (w.heap.size) (rfl) #[.int .i64 ca, .bool na, .string ta, .int .i64 ea] 23).alloc (.cells #[.int .i64 0, .bool false, .string ⟨#[]⟩, .int .i64 0] 23))
  have Br0 := hide (Blk.newAt (w.alloc (.cells #[.int .i64 ca, .bool na, .string ta, .int .i64 ea] 23)) (w.heap.size + 1) (by simp) #[.int .i64 0, .bool false, .string ⟨#[]⟩, .int .i64 0] 23)
  have HB0 : Hid (Below w.heap.size w ((w.alloc (.cells #[.int .i64 ca, .bool na, .string ta, .int .i64 ea] 23)).alloc (.cells #[.int .i64 0, .bool false, .string ⟨#[]⟩, .int .i64 0] 23))) := (((Below.refl _ _).alloc (Nat.le_refl _) _).alloc (by simp <;> omega) _)
  go_enter Tryz.func15, Tryz.ntmps15
  go_wp2_with fail
  refine (CK.out _).mono ?_
  rintro e w1 ⟨rfl, hb⟩
  have Ba1 := hide (Ba0.out.below hb Ba0.out.lt)
  have Br1 := hide (Br0.out.below hb Br0.out.lt)
  have HB1 := hide (HB0.out.trans (hb.mono HB0.out.size))
  clear hb Ba0 Br0 HB0 
  have ya0 : w1.cell? ⟨w.heap.size, 0, none⟩ = some (.int .i64 ca) := Ba1.out.cell 0
  have ya1 : w1.cell? ⟨w.heap.size, 1, none⟩ = some (.bool na) := Ba1.out.cell 1
  have ya2 : w1.cell? ⟨w.heap.size, 2, none⟩ = some (.string ta) := Ba1.out.cell 2
  have ya3 : w1.cell? ⟨w.heap.size, 3, none⟩ = some (.int .i64 ea) := Ba1.out.cell 3
  have yr0 : w1.cell? ⟨w.heap.size + 1, 0, none⟩ = some (.int .i64 0) := Br1.out.cell 0
  have yr1 : w1.cell? ⟨w.heap.size + 1, 1, none⟩ = some (.bool false) := Br1.out.cell 1
  have yr2 : w1.cell? ⟨w.heap.size + 1, 2, none⟩ = some (.string ⟨#[]⟩) := Br1.out.cell 2
  have yr3 : w1.cell? ⟨w.heap.size + 1, 3, none⟩ = some (.int .i64 0) := Br1.out.cell 3
  have fr0 := Br1.out.free 0
  have fr1 := Br1.out.free 1
  have fr2 := Br1.out.free 2
  have fr3 := Br1.out.free 3
  go_wp2
  refine bodyPost_ret (results_dec2 rfl _ _ _ _ _ _ _ rfl (Br1.out.put4 _ _ _ _)) rfl ?_
  exact ⟨rfl, below_put4 (HB1.out) (by omega) _ _ _ _⟩

set_option maxHeartbeats 2000000 in
theorem rDigits_nil (ca : Int) (na : Bool) (ea : Int) (n m : Int) (w : World) (h : MayD ca na (bys ⟨#[]⟩) ea) (m1 : 0 ≤ m) (m2 : m < 8) (p1 : 1 ≤ n) (p2 : n ≤ 1000) : Calls Tryz.prog 15 #[dcV ca na ⟨#[]⟩ ea, .int .i64 n, .int .i64 m] w fun e w' => e = .returned (.tuple #[dcV ca na ⟨#[]⟩ ea, .int .i64 0]) ∧ Below w.heap.size w w' := by
  have CK := hide (fun W => rmay_yes ca na ⟨#[]⟩ ea W h)
  clear h
  have m7 : ¬ 7 < m := by omega
  have m0 : ¬ m < 0 := by omega
  have n1 : ¬ n < 1 := by omega
  have n2 : ¬ 1000 < n := by omega
  have Ba0 := hide ((Blk.newAt w (w.heap.size) (rfl) #[.int .i64 ca, .bool na, .string ⟨#[]⟩, .int .i64 ea] 23).alloc (.cells #[.int .i64 0, .bool false, .string ⟨#[]⟩, .int .i64 0] 23))
  have Br0 := hide (Blk.newAt (w.alloc (.cells #[.int .i64 ca, .bool na, .string ⟨#[]⟩, .int .i64 ea] 23)) (w.heap.size + 1) (by simp) #[.int .i64 0, .bool false, .string ⟨#[]⟩, .int .i64 0] 23)
  have HB0 : Hid (Below w.heap.size w ((w.alloc (.cells #[.int .i64 ca, .bool na, .string ⟨#[]⟩, .int .i64 ea] 23)).alloc (.cells #[.int .i64 0, .bool false, .string ⟨#[]⟩, .int .i64 0] 23))) := (((Below.refl _ _).alloc (Nat.le_refl _) _).alloc (by simp <;> omega) _)
  go_enter Tryz.func15, Tryz.ntmps15
  go_wp2_with fail
  refine (CK.out _).mono ?_
  rintro e w1 ⟨rfl, hb⟩
  have Ba1 := hide (Ba0.out.below hb Ba0.out.lt)
  have Br1 := hide (Br0.out.below hb Br0.out.lt)
  have HB1 := hide (HB0.out.trans (hb.mono HB0.out.size))
  clear hb Ba0 Br0 HB0 
  have ya0 : w1.cell? ⟨w.heap.size, 0, none⟩ = some (.int .i64 ca) := Ba1.out.cell 0
  have ya1 : w1.cell? ⟨w.heap.size, 1, none⟩ = some (.bool na) := Ba1.out.cell 1
  have ya2 : w1.cell? ⟨w.heap.size, 2, none⟩ = some (.string ⟨#[]⟩) := Ba1.out.cell 2
  have ya3 : w1.cell? ⟨w.heap.size, 3, none⟩ = some (.int .i64 ea) := Ba1.out.cell 3
  have yr0 : w1.cell? ⟨w.heap.size + 1, 0, none⟩ = some (.int .i64 0) := Br1.out.cell 0
  have yr1 : w1.cell? ⟨w.heap.size + 1, 1, none⟩ = some (.bool false) := Br1.out.cell 1
  have yr2 : w1.cell? ⟨w.heap.size + 1, 2, none⟩ = some (.string ⟨#[]⟩) := Br1.out.cell 2
  have yr3 : w1.cell? ⟨w.heap.size + 1, 3, none⟩ = some (.int .i64 0) := Br1.out.cell 3
  have fr0 := Br1.out.free 0
  have fr1 := Br1.out.free 1
  have fr2 := Br1.out.free 2
  have fr3 := Br1.out.free 3
  go_wp2
  refine bodyPost_ret (results_dec2 rfl _ _ _ _ _ _ _ rfl (Br1.out.put4 _ _ _ _)) rfl ?_
  exact ⟨rfl, below_put4 (HB1.out) (by omega) _ _ _ _⟩

set_option maxHeartbeats 2000000 in
theorem rDigits_keep (ca : Int) (na : Bool) (ta : ByteArray) (ea : Int) (n m : Int) (w : World) (h : MayD ca na (bys ta) ea) (m1 : 0 ≤ m) (m2 : m < 8) (p1 : 1 ≤ n) (p2 : n ≤ 1000) (hz : ta.size ≠ 0) (hn : (ta.size : Int) ≤ n) : Calls Tryz.prog 15 #[dcV ca na ta ea, .int .i64 n, .int .i64 m] w fun e w' => e = .returned (.tuple #[dcV ca na ta ea, .int .i64 0]) ∧ Below w.heap.size w w' := by
  have CK := hide (fun W => rmay_yes ca na ta ea W h)
  clear h
  have m7 : ¬ 7 < m := by omega
  have m0 : ¬ m < 0 := by omega
  have n1 : ¬ n < 1 := by omega
  have n2 : ¬ 1000 < n := by omega
  have hz2 := toList_ne hz
  have Ba0 := hide ((Blk.newAt w (w.heap.size) (rfl) #[.int .i64 ca, .bool na, .string ta, .int .i64 ea] 23).alloc (.cells #[.int .i64 0, .bool false, .string ⟨#[]⟩, .int .i64 0] 23))
  have Br0 := hide (Blk.newAt (w.alloc (.cells #[.int .i64 ca, .bool na, .string ta, .int .i64 ea] 23)) (w.heap.size + 1) (by simp) #[.int .i64 0, .bool false, .string ⟨#[]⟩, .int .i64 0] 23)
  have HB0 : Hid (Below w.heap.size w ((w.alloc (.cells #[.int .i64 ca, .bool na, .string ta, .int .i64 ea] 23)).alloc (.cells #[.int .i64 0, .bool false, .string ⟨#[]⟩, .int .i64 0] 23))) := (((Below.refl _ _).alloc (Nat.le_refl _) _).alloc (by simp <;> omega) _)
  go_enter Tryz.func15, Tryz.ntmps15
  go_wp2_with fail
  refine (CK.out _).mono ?_
  rintro e w1 ⟨rfl, hb⟩
  have Ba1 := hide (Ba0.out.below hb Ba0.out.lt)
  have Br1 := hide (Br0.out.below hb Br0.out.lt)
  have HB1 := hide (HB0.out.trans (hb.mono HB0.out.size))
  clear hb Ba0 Br0 HB0 
  have ya0 : w1.cell? ⟨w.heap.size, 0, none⟩ = some (.int .i64 ca) := Ba1.out.cell 0
  have ya1 : w1.cell? ⟨w.heap.size, 1, none⟩ = some (.bool na) := Ba1.out.cell 1
  have ya2 : w1.cell? ⟨w.heap.size, 2, none⟩ = some (.string ta) := Ba1.out.cell 2
  have ya3 : w1.cell? ⟨w.heap.size, 3, none⟩ = some (.int .i64 ea) := Ba1.out.cell 3
  have yr0 : w1.cell? ⟨w.heap.size + 1, 0, none⟩ = some (.int .i64 0) := Br1.out.cell 0
  have yr1 : w1.cell? ⟨w.heap.size + 1, 1, none⟩ = some (.bool false) := Br1.out.cell 1
  have yr2 : w1.cell? ⟨w.heap.size + 1, 2, none⟩ = some (.string ⟨#[]⟩) := Br1.out.cell 2
  have yr3 : w1.cell? ⟨w.heap.size + 1, 3, none⟩ = some (.int .i64 0) := Br1.out.cell 3
  have fr0 := Br1.out.free 0
  have fr1 := Br1.out.free 1
  have fr2 := Br1.out.free 2
  have fr3 := Br1.out.free 3
  go_wp2
  refine bodyPost_ret (results_dec2 rfl _ _ _ _ _ _ _ rfl (Br1.out.put4 _ _ _ _)) rfl ?_
  exact ⟨rfl, below_put4 (HB1.out) (by omega) _ _ _ _⟩

set_option maxHeartbeats 4000000 in
theorem rDigits_in (ca : Int) (na : Bool) (ta : ByteArray) (ea : Int) (n m : Int) (cr : Int) (nr : Bool) (tr : ByteArray) (er f : Int) (w : World) (h : MayD ca na (bys ta) ea) (m1 : 0 ≤ m) (m2 : m < 8) (p1 : 1 ≤ n) (p2 : n ≤ 1000) (hz : ta.size ≠ 0) (hn : n < (ta.size : Int)) (hs : ta.size ≤ 1000) (he : -10000 ≤ ea ∧ ea ≤ 10000) (hU : ∀ X (s : Bool) (o : Option Addr) (l c : Nat), RI X s o l c 1 2 0 → Calls Tryz.prog 35 #[dcV ca na ta ea, .agg #[.bool s, .slice o l c, .int .i64 ((ta.size : Int) + ea - n)], .int .i64 m] X fun e w' => e = .returned (.tuple #[.agg #[.int .i64 cr, .bool nr, .string tr, .int .i64 er], .int .i64 f]) ∧ Below X.heap.size X w') : Calls Tryz.prog 15 #[dcV ca na ta ea, .int .i64 n, .int .i64 m] w fun e w' => e = .returned (.tuple #[.agg #[.int .i64 cr, .bool nr, .string tr, .int .i64 er], .int .i64 f]) ∧ Below w.heap.size w w' := by
  have CK := hide (fun W => rmay_yes ca na ta ea W h)
  clear h
  have m7 : ¬ 7 < m := by omega
  have m0 : ¬ m < 0 := by omega
  have n1 : ¬ n < 1 := by omega
  have n2 : ¬ 1000 < n := by omega
  have hz2 := toList_ne hz
  have hw : IntKind.i64.wrap ((ta.size : Int) + ea - n) = (ta.size : Int) + ea - n := by rw [IntKind.wrap_i64]; omega
  have hw2 : IntKind.i64.wrap ((ta.size : Int) + ea) = (ta.size : Int) + ea := by rw [IntKind.wrap_i64]; omega
  have hn2 : ¬ (ta.size : Int) ≤ n := by omega
  have MU := hide hU
  clear hU
  have Ba0 := hide ((Blk.newAt w (w.heap.size) (rfl) #[.int .i64 ca, .bool na, .string ta, .int .i64 ea] 23).alloc (.cells #[.int .i64 0, .bool false, .string ⟨#[]⟩, .int .i64 0] 23))
  have Br0 := hide (Blk.newAt (w.alloc (.cells #[.int .i64 ca, .bool na, .string ta, .int .i64 ea] 23)) (w.heap.size + 1) (by simp) #[.int .i64 0, .bool false, .string ⟨#[]⟩, .int .i64 0] 23)
  have HB0 : Hid (Below w.heap.size w ((w.alloc (.cells #[.int .i64 ca, .bool na, .string ta, .int .i64 ea] 23)).alloc (.cells #[.int .i64 0, .bool false, .string ⟨#[]⟩, .int .i64 0] 23))) := (((Below.refl _ _).alloc (Nat.le_refl _) _).alloc (by simp <;> omega) _)
  go_enter Tryz.func15, Tryz.ntmps15
  go_wp2_with fail
  refine (CK.out _).mono ?_
  rintro e w1 ⟨rfl, hb⟩
  clear CK
  have Ba1 := hide (Ba0.out.below hb Ba0.out.lt)
  have Br1 := hide (Br0.out.below hb Br0.out.lt)
  have HB1 := hide (HB0.out.trans (hb.mono HB0.out.size))
  clear hb Ba0 Br0 HB0 
  have ya0 : w1.cell? ⟨w.heap.size, 0, none⟩ = some (.int .i64 ca) := Ba1.out.cell 0
  have ya1 : w1.cell? ⟨w.heap.size, 1, none⟩ = some (.bool na) := Ba1.out.cell 1
  have ya2 : w1.cell? ⟨w.heap.size, 2, none⟩ = some (.string ta) := Ba1.out.cell 2
  have ya3 : w1.cell? ⟨w.heap.size, 3, none⟩ = some (.int .i64 ea) := Ba1.out.cell 3
  have yr0 : w1.cell? ⟨w.heap.size + 1, 0, none⟩ = some (.int .i64 0) := Br1.out.cell 0
  have yr1 : w1.cell? ⟨w.heap.size + 1, 1, none⟩ = some (.bool false) := Br1.out.cell 1
  have yr2 : w1.cell? ⟨w.heap.size + 1, 2, none⟩ = some (.string ⟨#[]⟩) := Br1.out.cell 2
  have yr3 : w1.cell? ⟨w.heap.size + 1, 3, none⟩ = some (.int .i64 0) := Br1.out.cell 3
  have HL : Hid (w.heap.size < w1.heap.size ∧ w.heap.size + 1 < w1.heap.size) := ⟨Ba1.out.lt, Br1.out.lt⟩
  obtain ⟨G, hG⟩ : ∃ G, G = w.heap.size + 1 := ⟨_, rfl⟩
  have gn0 : ¬ G = w.heap.size := by omega
  have gn1 : ¬ w.heap.size = G := by omega
  have gle : w.heap.size ≤ G := by omega
  have HG := hide hG
  rw [← hG] at Br1
  clear hG HL ya0 ya1 ya2 ya3 yr0 yr1 yr2 yr3
  have d0 : w1.cell? ⟨w.heap.size, 0, none⟩ = some (.int .i64 ca) := Ba1.out.cell 0
  have d1 : w1.cell? ⟨w.heap.size, 1, none⟩ = some (.bool na) := Ba1.out.cell 1
  have d2 : w1.cell? ⟨w.heap.size, 2, none⟩ = some (.string ta) := Ba1.out.cell 2
  have d3 : w1.cell? ⟨w.heap.size, 3, none⟩ = some (.int .i64 ea) := Ba1.out.cell 3
  have HC : Hid (∀ w', Below w1.heap.size w1 w' → w'.cell? ⟨w.heap.size, 0, none⟩ = some (.int .i64 ca) ∧ w'.cell? ⟨w.heap.size, 1, none⟩ = some (.bool na) ∧ w'.cell? ⟨w.heap.size, 2, none⟩ = some (.string ta) ∧ w'.cell? ⟨w.heap.size, 3, none⟩ = some (.int .i64 ea) ∧ w'.cell? ⟨G, 0, none⟩ = some (.int .i64 0) ∧ w'.cell? ⟨G, 1, none⟩ = some (.bool false) ∧ w'.cell? ⟨G, 2, none⟩ = some (.string ⟨#[]⟩) ∧ w'.cell? ⟨G, 3, none⟩ = some (.int .i64 0) ∧ w'.frozen? ⟨G, 0, none⟩ = false ∧ w'.frozen? ⟨G, 1, none⟩ = false ∧ w'.frozen? ⟨G, 2, none⟩ = false ∧ w'.frozen? ⟨G, 3, none⟩ = false) := by
    intro w' hb
    have Ba1q := Ba1.out.below hb Ba1.out.lt
    have Br1q := Br1.out.below hb Br1.out.lt
    exact ⟨Ba1q.cell 0, Ba1q.cell 1, Ba1q.cell 2, Ba1q.cell 3, Br1q.cell 0, Br1q.cell 1, Br1q.cell 2, Br1q.cell 3, Br1q.free 0, Br1q.free 1, Br1q.free 2, Br1q.free 3⟩
  have b0 : Hid (Below w1.heap.size w1 w1.drew) := bdrewD w1
  have C0 : Hid (∀ X, Hid (Below w1.heap.size w1 X) → Calls Tryz.prog 32 #[.int .i64 ((ta.size : Int) + ea - n)] X fun e w' => (∃ s o l c, e = .returned (.agg #[.bool s, .slice o l c, .int .i64 ((ta.size : Int) + ea - n)]) ∧ Hid (RI w' s o l c 1 2 0)) ∧ Hid (Below w1.heap.size w1 w') ∧ w'.cell? ⟨w.heap.size, 0, none⟩ = some (.int .i64 ca) ∧ w'.cell? ⟨w.heap.size, 1, none⟩ = some (.bool na) ∧ w'.cell? ⟨w.heap.size, 2, none⟩ = some (.string ta) ∧ w'.cell? ⟨w.heap.size, 3, none⟩ = some (.int .i64 ea) ∧ w'.cell? ⟨G, 0, none⟩ = some (.int .i64 0) ∧ w'.cell? ⟨G, 1, none⟩ = some (.bool false) ∧ w'.cell? ⟨G, 2, none⟩ = some (.string ⟨#[]⟩) ∧ w'.cell? ⟨G, 3, none⟩ = some (.int .i64 0) ∧ w'.frozen? ⟨G, 0, none⟩ = false ∧ w'.frozen? ⟨G, 1, none⟩ = false ∧ w'.frozen? ⟨G, 2, none⟩ = false ∧ w'.frozen? ⟨G, 3, none⟩ = false) := by
    intro X  bX 
    refine (rpower ((ta.size : Int) + ea - n) X).mono ?_
    rintro e w' ⟨⟨s, o, l, c, rfl, hz⟩, hb⟩
    have bb := bX.out.trans (hb.mono bX.out.size)
    exact ⟨⟨s, o, l, c, rfl, hz.out.lo (Nat.zero_le _) (Nat.le_refl _)⟩, bb, HC.out _ bb⟩
  have C1 : Hid (∀ X (s : Bool) (o : Option Addr) (l c : Nat), Hid (Below w1.heap.size w1 X) → RI X s o l c 1 2 0 → Calls Tryz.prog 35 #[dcV ca na ta ea, .agg #[.bool s, .slice o l c, .int .i64 ((ta.size : Int) + ea - n)], .int .i64 m] X fun e w' => e = .returned (.tuple #[.agg #[.int .i64 cr, .bool nr, .string tr, .int .i64 er], .int .i64 f]) ∧ Hid (Below w1.heap.size w1 w') ∧ w'.cell? ⟨w.heap.size, 0, none⟩ = some (.int .i64 ca) ∧ w'.cell? ⟨w.heap.size, 1, none⟩ = some (.bool na) ∧ w'.cell? ⟨w.heap.size, 2, none⟩ = some (.string ta) ∧ w'.cell? ⟨w.heap.size, 3, none⟩ = some (.int .i64 ea) ∧ w'.cell? ⟨G, 0, none⟩ = some (.int .i64 0) ∧ w'.cell? ⟨G, 1, none⟩ = some (.bool false) ∧ w'.cell? ⟨G, 2, none⟩ = some (.string ⟨#[]⟩) ∧ w'.cell? ⟨G, 3, none⟩ = some (.int .i64 0) ∧ w'.frozen? ⟨G, 0, none⟩ = false ∧ w'.frozen? ⟨G, 1, none⟩ = false ∧ w'.frozen? ⟨G, 2, none⟩ = false ∧ w'.frozen? ⟨G, 3, none⟩ = false) := by
    intro X s o l c bX hz
    refine (MU.out X _ _ _ _ hz).mono ?_
    rintro e w' ⟨rfl, hb⟩
    have bb := bX.out.trans (hb.mono bX.out.size)
    exact ⟨rfl, bb, HC.out _ bb⟩
  have BRF : Hid (∀ w', Below w1.heap.size w1 w' → Below w.heap.size w w' ∧ Blk w' G #[.int .i64 0, .bool false, .string ⟨#[]⟩, .int .i64 0] 23) := fun w' hb => ⟨HB1.out.trans (hb.mono HB1.out.size), Br1.out.below hb Br1.out.lt⟩
  clear HC Ba1 Br1 HB1 MU
  go_wp2_with fail
  simp only [← HG.out]
  have mk0 : True := trivial
  go_region_held3 (fun w' => w'.cell? ⟨w.heap.size, 0, none⟩ = some (.int .i64 ca) ∧ w'.cell? ⟨w.heap.size, 1, none⟩ = some (.bool na) ∧ w'.cell? ⟨w.heap.size, 2, none⟩ = some (.string ta) ∧ w'.cell? ⟨w.heap.size, 3, none⟩ = some (.int .i64 ea)) (go_keep) (first
    | (clear mk0; go_at_call 32; refine (C0.out _  b0 ).mono ?_; rintro e v1 ⟨⟨s1, o1, l1, c1, rfl, Z1⟩, b1, q0_0, q0_1, q0_2, q0_3, q0_4, q0_5, q0_6, q0_7, q0_8, q0_9, q0_10, q0_11⟩; have mk1 : True := trivial)
    | (clear mk1; go_at_call 35; refine (C1.out _ _ _ _ _ b1 Z1.out).mono ?_; rintro e v2 ⟨rfl, b2, q1_0, q1_1, q1_2, q1_3, q1_4, q1_5, q1_6, q1_7, q1_8, q1_9, q1_10, q1_11⟩; have mk2 : True := trivial))
  obtain ⟨hbel, hblk⟩ := BRF.out _ b2.out
  have HBL := hide hbel
  have QR := hide hblk
  clear hbel hblk BRF b0 b1 b2 C0 C1
  repeat (first | go_values | go_skip | go_guarded | go_step | go_upon)
  refine bodyPost_ret (results_dec2 rfl _ _ _ _ _ _ _ rfl (QR.out.put4 _ _ _ _)) rfl ?_
  exact ⟨rfl, below_put4 HBL.out gle _ _ _ _⟩

end Go.Proofs.YtcclbcnmkaobpaaGreatDoor

namespace Go.Proofs.YtcclbcnmkaobpaaGreatDoor
open Go.RowKit

theorem decErr_d {ca : Int} {na : Bool} {ta : ByteArray} {ea : Int} (h : MayD ca na (bys ta) ea) : decErr (⟨ca.toNat, na, bys ta, ea⟩, 0) = .tuple #[dcV ca na ta ea, .int .i64 0] := by
  unfold decErr decVal
  simp only
  rw [mk_bys, ← may_cls h]

theorem rtold6_raw (ca : Int) (na : Bool) (ta : ByteArray) (ea : Int) (m : Int) (h : MayD ca na (bys ta) ea) (h0 : ta.size ≠ 0) (m1 : 0 ≤ m) (m2 : m < 8) (N : Nat) (eu : Int) (n0 : N ≠ 0) (hN : N < 10 ^ 32) (h1 : -4000 ≤ eu) (h2 : eu ≤ 4000) (su : Bool) (ou : Option Addr) (lu cu lo : Nat) (w : World) (hu : RI w su ou lu cu (N : Int) 1002 lo) :
    Calls Tryz.prog 35 #[dcV ca na ta ea, .agg #[.bool su, .slice ou lu cu, .int .i64 eu], .int .i64 m] w fun e w' => e = .returned (decErr (rndD ⟨ca.toNat, na, bys ta, ea⟩ N eu m.toNat)) ∧ Below w.heap.size w w' := by
  have g := rtold6_any ⟨ca.toNat, na, bys ta, ea⟩ (may_fin (may_of h) (fun e => h0 (bys_nil.1 e))) su ou lu cu N eu m.toNat lo w hu n0 hN h1 h2 (by omega)
  unfold decVal at g
  simp only at g
  rw [mk_bys, ← may_cls h, show ((m.toNat : Nat) : Int) = m by omega] at g
  exact g

theorem rDigits_any (ca : Int) (na : Bool) (ta : ByteArray) (ea : Int) (n m : Int) (w : World) : Calls Tryz.prog 15 #[dcV ca na ta ea, .int .i64 n, .int .i64 m] w fun e w' => e = .returned (decErr (digR ca na (bys ta) ea n m)) ∧ Below w.heap.size w w' := by
  unfold digR
  by_cases h : MayD ca na (bys ta) ea
  · rw [if_neg (fun g => g h)]
    by_cases h1 : m < 0
    · rw [if_pos (.inl h1)]
      exact rDigits_mlow ca na ta ea n m w h h1
    · by_cases h2 : 8 ≤ m
      · rw [if_pos (.inr h2)]
        exact rDigits_mhigh ca na ta ea n m w h h2
      · rw [if_neg (by omega)]
        by_cases h3 : n < 1
        · rw [if_pos (.inl h3)]
          exact rDigits_low ca na ta ea n m w h (by omega) (by omega) h3
        · by_cases h4 : 1000 < n
          · rw [if_pos (.inr h4)]
            exact rDigits_high ca na ta ea n m w h (by omega) (by omega) h4
          · rw [if_neg (by omega)]
            by_cases h0 : ta.size = 0
            · have e0 : bys ta = [] := bys_nil.2 h0
              rw [rndD_zero (show DecT.dig ⟨ca.toNat, na, bys ta, ea⟩ = [] from e0), decErr_d h]
              obtain rfl : ta = ⟨#[]⟩ := by
                have := mk_bys ta
                rw [e0] at this
                exact this.symm
              exact rDigits_nil ca na ea n m w h (by omega) (by omega) (by omega) (by omega)
            · have bd := may_place h
              by_cases h5 : (ta.size : Int) ≤ n
              · rw [rndD_exact (may_fin (may_of h) (fun e => h0 (bys_nil.1 e))) m.toNat (by simp only; rw [bys_len, show ((ta.size : Int) + ea - n - min ea ((ta.size : Int) + ea - n)).toNat = 0 by omega, Nat.pow_zero, Nat.mul_one, Nat.mod_one]), decErr_d h]
                exact rDigits_keep ca na ta ea n m w h (by omega) (by omega) (by omega) (by omega) h0 h5
              · have hs : ta.size ≤ 1000 := by
                  have := (may_fin (may_of h) (fun e => h0 (bys_nil.1 e))).len
                  simp only at this
                  rw [bys_len] at this
                  exact this
                rw [bys_len]
                exact rDigits_in ca na ta ea n m _ _ _ _ _ w h (by omega) (by omega) (by omega) (by omega) h0 (by omega) hs (by omega)
                  (fun X s o l c hz => rtold6_raw ca na ta ea m h h0 (by omega) (by omega) 1 ((ta.size : Int) + ea - n) (by omega) (by decide) (by omega) (by omega) s o l c 0 X (hz.lo (Nat.le_refl _) (by omega)))
  · rw [if_pos h]
    exact rDigits_no ca na ta ea n m w h

end Go.Proofs.YtcclbcnmkaobpaaGreatDoor

namespace Go.Proofs.YtcclbcnmkaobpaaGreatDoor
open Go.RowKit

theorem tg : Tryz.prog.globalNamed "internal/strconv.uint64pow10" = some 3 := by kernel_rfl
theorem tgt : (Tryz.prog.globals[3]?).map (·.type) = some 182 := by kernel_rfl
theorem tc20 : Tryz.prog.cellsOf 182 = 20 := by kernel_rfl
theorem tc1 : Tryz.prog.cellsOf 77 = 1 := by kernel_rfl

theorem table {W : World} (h : laidMetH Tryz.prog [("math/bits.deBruijn32tab", Rows.laid_math_bits_deBruijn32tab), ("math/bits.deBruijn64tab", Rows.laid_math_bits_deBruijn64tab), ("internal/strconv.uint64pow10", Rows.laid_internal_strconv_uint64pow10), ("unicode/utf8.acceptRanges", Rows.laid_unicode_utf8_acceptRanges), ("unicode/utf8.first", Rows.laid_unicode_utf8_first)] W) : Tab W := by
  have h' : laidMet Tryz.prog [("math/bits.deBruijn32tab", Rows.laid_math_bits_deBruijn32tab), ("math/bits.deBruijn64tab", Rows.laid_math_bits_deBruijn64tab), ("internal/strconv.uint64pow10", Rows.laid_internal_strconv_uint64pow10), ("unicode/utf8.acceptRanges", Rows.laid_unicode_utf8_acceptRanges), ("unicode/utf8.first", Rows.laid_unicode_utf8_first)] W := h
  obtain ⟨ps, ⟨_, _, _, _, _, q1, _, _, _, _, ⟨_, _, _, _, _, q2, _, _, _, _, ⟨g', t', cs, fuel, p3, q3, hg', ht', hvar, hd, _, _⟩, _⟩, _⟩, _⟩ := h'
  obtain rfl := Option.some.inj (tg.symm.trans hg')
  obtain rfl := Option.some.inj (tgt.symm.trans ht')
  unfold Tab Lib.TabIs
  have hd' : DataW.trod (fun _ => ()) Tryz.prog W 0 (fun _ => true) false fuel 182 cs.toList = some (Lib.tabData .u64 Lib.pow10Tab, p3) := hd
  rw [hvar, ← Lib.cells_of_tab Tryz.underlying182 Tryz.underlying77 tc1 tc20 hd']

/-- The values of a table's reading, whose places hold one number or a few. -/
def tabVals : DataW Unit → Array Value
  | .agg l => (l.flatMap fun
      | .lit (.int k z) => [Value.int k z]
      | .agg l2 => l2.map fun
        | .lit (.int k z) => Value.int k z
        | _ => .int .u8 0
      | _ => []).toArray
  | _ => #[]

/-- A block that holds other values, of the same type. -/
def putVals (d : DataW Unit) : Obj → Obj
  | .cells _ t frozen => .cells (tabVals d) t frozen
  | o => o

/-- The settled world, the five tables holding what their initialisers lay. -/
noncomputable def laidWorld (os : Os) : World :=
  { World.holding Tryz.prog os ⟨#[], #[], []⟩ with
    heap := (((((World.holding Tryz.prog os ⟨#[], #[], []⟩).heap.modify 6 (putVals Rows.laid_math_bits_deBruijn32tab)).modify 7 (putVals Rows.laid_math_bits_deBruijn64tab)).modify 3 (putVals Rows.laid_internal_strconv_uint64pow10)).modify 5 (putVals Rows.laid_unicode_utf8_acceptRanges)).modify 4 (putVals Rows.laid_unicode_utf8_first) }

end Go.Proofs.YtcclbcnmkaobpaaGreatDoor
