/-
  What quipuref07's Value does.
  What quipuref07's Value answers, whatever it is handed.
  What At, Digits and Step answer, case by case.
  Plain facts of what a precision rounds to.
  Where the ways meet through the region that lays the variable for what a kind does.
  What width's fieldsOf.. do: the other three.
  What stands in the table of kinds.
-/
import Derived.Test.YtobloamnaemfnaaGreatDoorUB14
import Derived.Test.YtobloamnaemfnaaGreatDoorUB22
import Derived.Test.YtobloamnaemfnaaGreatDoorUB10
import Derived.Test.YtobloamnaemfnaaGreatDoorUB11
import Derived.Test.YtobloamnaemfnaaGreatDoorUB18
import Derived.Test.YtobloamnaemfnaaGreatDoorUB12
namespace Go.Proofs.YtobloamnaemfnaaGreatDoor
open Go.RowKit

set_option maxHeartbeats 1000000 in
theorem rvalue_no (c : Int) (n : Bool) (ti tf : ByteArray) (x : Int) (cm : Bool) (w : World) (b1 : ti.size ≤ 281474976710656) (b2 : tf.size ≤ 281474976710656) (h : ¬ MayS ⟨c, n, bys ti, bys tf, x, cm⟩) : Calls Tryz.prog 17 #[shV c n ti tf x cm] w fun e w' => e = .returned (.tuple #[dcV 0 false ⟨#[]⟩ 0, .int .i64 71]) ∧ Below w.heap.size w w' := by
  have MS := hide (fun W => rmayS_F c n ti tf x cm W b1 b2 h)
  clear h b1 b2
  have Bs0 := hide ((Blk.newAt w (w.heap.size) (rfl) #[.int .i64 c, .bool n, .string ti, .string tf, .int .i64 x, .bool cm] 34).alloc (.cells #[.int .i64 0, .bool false, .string ⟨#[]⟩, .int .i64 0] 23))
  have Br0 := hide (Blk.newAt (w.alloc (.cells #[.int .i64 c, .bool n, .string ti, .string tf, .int .i64 x, .bool cm] 34)) (w.heap.size + 1) (by simp) #[.int .i64 0, .bool false, .string ⟨#[]⟩, .int .i64 0] 23)
  have HB0 : Hid (Below w.heap.size w ((w.alloc (.cells #[.int .i64 c, .bool n, .string ti, .string tf, .int .i64 x, .bool cm] 34)).alloc (.cells #[.int .i64 0, .bool false, .string ⟨#[]⟩, .int .i64 0] 23))) := (((Below.refl _ _).alloc (Nat.le_refl _) _).alloc (by simp <;> omega) _)
  go_enter Tryz.func17, Tryz.ntmps17
  go_wp2_with fail
  refine (MS.out _).mono ?_
  rintro e w1 ⟨rfl, hb⟩
  have Bs1 := Blk.on Bs0 hb
  have Br1 := Blk.on Br0 hb
  have HB1 := hide (HB0.out.trans (hb.mono HB0.out.size))
  clear hb Bs0 Br0 HB0 
  obtain ⟨ys0, ys1, ys2, ys3, ys4, ys5⟩ := Bs1.out.six
  obtain ⟨yr0, yr1, yr2, yr3⟩ := Br1.out.four
  have fr0 := Br1.out.free 0
  have fr1 := Br1.out.free 1
  have fr2 := Br1.out.free 2
  have fr3 := Br1.out.free 3
  go_wp2
  refine bodyPost_ret (results_dec2 rfl _ _ _ _ _ _ _ rfl (Br1.out.put4 _ _ _ _)) rfl ?_
  exact ⟨rfl, below_put4 (HB1.out) (by omega) _ _ _ _⟩

set_option maxHeartbeats 1000000 in
theorem rvalue_cls (c : Int) (n : Bool) (ti tf : ByteArray) (x : Int) (cm : Bool) (w : World) (h : MayS ⟨c, n, bys ti, bys tf, x, cm⟩) (h0 : ¬ c = 0) : Calls Tryz.prog 17 #[shV c n ti tf x cm] w fun e w' => e = .returned (.tuple #[dcV c n ⟨#[]⟩ 0, .int .i64 0]) ∧ Below w.heap.size w w' := by
  have MS := hide (fun W => rmayS_T c n ti tf x cm W h)
  clear h
  have Bs0 := hide ((Blk.newAt w (w.heap.size) (rfl) #[.int .i64 c, .bool n, .string ti, .string tf, .int .i64 x, .bool cm] 34).alloc (.cells #[.int .i64 0, .bool false, .string ⟨#[]⟩, .int .i64 0] 23))
  have Br0 := hide (Blk.newAt (w.alloc (.cells #[.int .i64 c, .bool n, .string ti, .string tf, .int .i64 x, .bool cm] 34)) (w.heap.size + 1) (by simp) #[.int .i64 0, .bool false, .string ⟨#[]⟩, .int .i64 0] 23)
  have HB0 : Hid (Below w.heap.size w ((w.alloc (.cells #[.int .i64 c, .bool n, .string ti, .string tf, .int .i64 x, .bool cm] 34)).alloc (.cells #[.int .i64 0, .bool false, .string ⟨#[]⟩, .int .i64 0] 23))) := (((Below.refl _ _).alloc (Nat.le_refl _) _).alloc (by simp <;> omega) _)
  go_enter Tryz.func17, Tryz.ntmps17
  go_wp2_with fail
  refine (MS.out _).mono ?_
  rintro e w1 ⟨rfl, hb⟩
  have Bs1 := Blk.on Bs0 hb
  have Br1 := Blk.on Br0 hb
  have HB1 := hide (HB0.out.trans (hb.mono HB0.out.size))
  clear hb Bs0 Br0 HB0 
  obtain ⟨ys0, ys1, ys2, ys3, ys4, ys5⟩ := Bs1.out.six
  obtain ⟨yr0, yr1, yr2, yr3⟩ := Br1.out.four
  have fr0 := Br1.out.free 0
  have fr1 := Br1.out.free 1
  have fr2 := Br1.out.free 2
  have fr3 := Br1.out.free 3
  go_wp2
  refine bodyPost_ret (results_dec2 rfl _ _ _ _ _ _ _ rfl (Br1.out.put4 _ _ _ _)) rfl ?_
  exact ⟨rfl, below_put4 (HB1.out) (by omega) _ _ _ _⟩

set_option maxRecDepth 100000 in
set_option maxHeartbeats 4000000 in
theorem rvalue_yes (n : Bool) (ti tf : ByteArray) (x : Int) (cm : Bool) (N m M : Nat) (z cd : Int) (nd : Bool) (td : ByteArray) (ed : Int) (w : World) (h : MayS ⟨0, n, bys ti, bys tf, x, cm⟩) (z1 : ti.size ≤ 4096) (z2 : tf.size ≤ 4096) (z3 : -2001 ≤ x) (z4 : x ≤ 2001) (hO : ∀ X, Calls Tryz.prog 47 #[.string (ti ++ tf)] X fun e w' => (∃ o l c, e = .returned (.slice o l c) ∧ Hid (Rl w' o l c N m)) ∧ Below X.heap.size X w') (hM : ∀ X (o : Option Addr) (l c : Nat), Rl X o l c N m → Calls Tryz.prog 46 #[.bool n, .slice o l c] X fun e w' => (∃ s o l c, e = .returned (.agg #[.bool s, .slice o l c]) ∧ Hid (RI w' s o l c z M 0)) ∧ Below X.heap.size X w') (hD : ∀ X (s : Bool) (o : Option Addr) (l c : Nat), RI X s o l c z M 0 → Calls Tryz.prog 48 #[.agg #[.bool s, .slice o l c, .int .i64 (x - (tf.size : Int))], .bool n] X fun e w' => e = .returned (.tuple #[.agg #[.int .i64 cd, .bool nd, .string td, .int .i64 ed], .bool true]) ∧ Below X.heap.size X w') : Calls Tryz.prog 17 #[shV 0 n ti tf x cm] w fun e w' => e = .returned (.tuple #[.agg #[.int .i64 cd, .bool nd, .string td, .int .i64 ed], .int .i64 0]) ∧ Below w.heap.size w w' := by
  have MS := hide (fun W => rmayS_T 0 n ti tf x cm W h)
  have KO := hide hO
  have KM := hide hM
  have KD := hide hD
  have hw : IntKind.i64.wrap (x - (tf.size : Int)) = x - (tf.size : Int) := by rw [IntKind.wrap_i64]; omega
  have hs : ¬ 9223372036854775807 < ti.size + tf.size := by omega
  clear hO hM hD h z1 z2 z3 z4
  have Bs0 := hide ((Blk.newAt w (w.heap.size) (rfl) #[.int .i64 0, .bool n, .string ti, .string tf, .int .i64 x, .bool cm] 34).alloc (.cells #[.int .i64 0, .bool false, .string ⟨#[]⟩, .int .i64 0] 23))
  have Br0 := hide (Blk.newAt (w.alloc (.cells #[.int .i64 0, .bool n, .string ti, .string tf, .int .i64 x, .bool cm] 34)) (w.heap.size + 1) (by simp) #[.int .i64 0, .bool false, .string ⟨#[]⟩, .int .i64 0] 23)
  have HB0 : Hid (Below w.heap.size w ((w.alloc (.cells #[.int .i64 0, .bool n, .string ti, .string tf, .int .i64 x, .bool cm] 34)).alloc (.cells #[.int .i64 0, .bool false, .string ⟨#[]⟩, .int .i64 0] 23))) := (((Below.refl _ _).alloc (Nat.le_refl _) _).alloc (by simp <;> omega) _)
  go_enter Tryz.func17, Tryz.ntmps17
  go_wp2_with fail
  refine (MS.out _).mono ?_
  rintro e w1 ⟨rfl, hb⟩
  have Bs1 := Blk.on Bs0 hb
  have Br1 := Blk.on Br0 hb
  have HB1 := hide (HB0.out.trans (hb.mono HB0.out.size))
  clear hb Bs0 Br0 HB0 
  obtain ⟨ys0, ys1, ys2, ys3, ys4, ys5⟩ := Bs1.out.six
  obtain ⟨yr0, yr1, yr2, yr3⟩ := Br1.out.four
  have HL : Hid (w.heap.size < w1.heap.size) := Bs1.out.lt
  go_wp2_with fail
  go_cut [4, 5] (fun vp ve wx => CutV w1 #[.int .i64 cd, .bool nd, .string td, .int .i64 ed] (.bool true) vp ve wx)
  case first =>
    have C0 : Hid (∀ X, Hid (Below w1.heap.size w1 X) → Calls Tryz.prog 47 #[.string (ti ++ tf)] X fun e w' => (∃ o l c, e = .returned (.slice o l c) ∧ Hid (Rl w' o l c N m)) ∧ Hid (Below X.heap.size X w') ∧ Hid (Below w1.heap.size w1 w') ∧ w'.cell? ⟨w.heap.size, 1, none⟩ = some (.bool n) ∧ w'.cell? ⟨w.heap.size, 2, none⟩ = some (.string ti) ∧ w'.cell? ⟨w.heap.size, 3, none⟩ = some (.string tf) ∧ w'.cell? ⟨w.heap.size, 4, none⟩ = some (.int .i64 x)) := by
      intro X bX
      refine (KO.out X).mono ?_
      rintro e w' ⟨⟨o, l, c, rfl, hz⟩, hb⟩
      have bb := bX.out.trans (hb.mono bX.out.size)
      have Bsq := Bs1.out.below bb Bs1.out.lt
      exact ⟨⟨o, l, c, rfl, hz⟩, hb, bb, Bsq.cell 1, Bsq.cell 2, Bsq.cell 3, Bsq.cell 4⟩
    have C1 : Hid (∀ X (o : Option Addr) (l c : Nat), Hid (Below w1.heap.size w1 X) → Rl X o l c N m → Calls Tryz.prog 46 #[.bool n, .slice o l c] X fun e w' => (∃ s o l c, e = .returned (.agg #[.bool s, .slice o l c]) ∧ Hid (RI w' s o l c z M 0)) ∧ Hid (Below X.heap.size X w') ∧ Hid (Below w1.heap.size w1 w') ∧ w'.cell? ⟨w.heap.size, 1, none⟩ = some (.bool n) ∧ w'.cell? ⟨w.heap.size, 2, none⟩ = some (.string ti) ∧ w'.cell? ⟨w.heap.size, 3, none⟩ = some (.string tf) ∧ w'.cell? ⟨w.heap.size, 4, none⟩ = some (.int .i64 x)) := by
      intro X o l c bX hz
      refine (KM.out X _ _ _ hz).mono ?_
      rintro e w' ⟨⟨s, o, l, c, rfl, hz⟩, hb⟩
      have bb := bX.out.trans (hb.mono bX.out.size)
      have Bsq := Bs1.out.below bb Bs1.out.lt
      exact ⟨⟨s, o, l, c, rfl, hz⟩, hb, bb, Bsq.cell 1, Bsq.cell 2, Bsq.cell 3, Bsq.cell 4⟩
    have C2 : Hid (∀ X (s : Bool) (o : Option Addr) (l c : Nat), Hid (Below w1.heap.size w1 X) → RI X s o l c z M 0 → Calls Tryz.prog 48 #[.agg #[.bool s, .slice o l c, .int .i64 (x - (tf.size : Int))], .bool n] X fun e w' => e = .returned (.tuple #[.agg #[.int .i64 cd, .bool nd, .string td, .int .i64 ed], .bool true]) ∧ Hid (Below X.heap.size X w') ∧ Hid (Below w1.heap.size w1 w') ∧ w'.cell? ⟨w.heap.size, 1, none⟩ = some (.bool n) ∧ w'.cell? ⟨w.heap.size, 2, none⟩ = some (.string ti) ∧ w'.cell? ⟨w.heap.size, 3, none⟩ = some (.string tf) ∧ w'.cell? ⟨w.heap.size, 4, none⟩ = some (.int .i64 x)) := by
      intro X s o l c bX hz
      refine (KD.out X _ _ _ _ hz).mono ?_
      rintro e w' ⟨rfl, hb⟩
      have bb := bX.out.trans (hb.mono bX.out.size)
      have Bsq := Bs1.out.below bb Bs1.out.lt
      exact ⟨rfl, hb, bb, Bsq.cell 1, Bsq.cell 2, Bsq.cell 3, Bsq.cell 4⟩
    have b0 : Hid (Below w1.heap.size w1 w1.drew) := bdrewD w1
    have nsw1 : ¬ w.heap.size = w1.heap.size := (by have := HL.out; omega)
    have msw1 : ¬ w1.heap.size = w.heap.size := (by have := HL.out; omega)
    have mk0 : True := trivial
    go_region_held3 (fun w' => w'.cell? ⟨w.heap.size, 1, none⟩ = some (.bool n) ∧ w'.cell? ⟨w.heap.size, 2, none⟩ = some (.string ti) ∧ w'.cell? ⟨w.heap.size, 3, none⟩ = some (.string tf) ∧ w'.cell? ⟨w.heap.size, 4, none⟩ = some (.int .i64 x)) (go_keep) (first
        | (clear mk0; go_at_call 47; refine (C0.out _ (bal b0 (Obj.cells #[Value.int .i64 0, Value.bool false, Value.string ⟨#[]⟩, Value.int .i64 0] 23))).mono ?_; rintro e u1 ⟨⟨o1, l1, c1, rfl, Z1⟩, R1, b1, q0_0, q0_1, q0_2, q0_3⟩; have QN := (Blk.newAt w1.drew w1.heap.size rfl #[.int .i64 0, .bool false, .string ⟨#[]⟩, .int .i64 0] 23).below R1.out (Blk.newAt w1.drew w1.heap.size rfl #[.int .i64 0, .bool false, .string ⟨#[]⟩, .int .i64 0] 23).lt; have h0 : u1.cell? ⟨w1.heap.size, 0, none⟩ = some (.int .i64 0) := QN.cell 0; have h1 : u1.cell? ⟨w1.heap.size, 1, none⟩ = some (.bool false) := QN.cell 1; have h2 : u1.cell? ⟨w1.heap.size, 2, none⟩ = some (.string ⟨#[]⟩) := QN.cell 2; have h3 : u1.cell? ⟨w1.heap.size, 3, none⟩ = some (.int .i64 0) := QN.cell 3; have h4 := QN.free 0; have h5 := QN.free 1; have h6 := QN.free 2; have h7 := QN.free 3; have QH := hide QN; clear QN; have mk1L0 : True := trivial)
        | (clear mk0; go_at_call 47; refine (C0.out _ b0).mono ?_; rintro e u1 ⟨⟨o1, l1, c1, rfl, Z1⟩, R1, b1, q0_0, q0_1, q0_2, q0_3⟩; have nsu1 : ¬ w.heap.size = u1.heap.size := (by have := HL.out; have := b1.out.size; omega); have msu1 : ¬ u1.heap.size = w.heap.size := (by have := HL.out; have := b1.out.size; omega); have mk1 : True := trivial)
        | (clear mk1L0; go_at_call 46; refine (C1.out _ _ _ _ b1 Z1.out).mono ?_; rintro e u2 ⟨⟨s2, o2, l2, c2, rfl, Z2⟩, R2, b2, q1_0, q1_1, q1_2, q1_3⟩; clear h0 h1 h2 h3 h4 h5 h6 h7; have QN := QH.out.below R2.out QH.out.lt; have h0 : u2.cell? ⟨w1.heap.size, 0, none⟩ = some (.int .i64 0) := QN.cell 0; have h1 : u2.cell? ⟨w1.heap.size, 1, none⟩ = some (.bool false) := QN.cell 1; have h2 : u2.cell? ⟨w1.heap.size, 2, none⟩ = some (.string ⟨#[]⟩) := QN.cell 2; have h3 : u2.cell? ⟨w1.heap.size, 3, none⟩ = some (.int .i64 0) := QN.cell 3; have h4 := QN.free 0; have h5 := QN.free 1; have h6 := QN.free 2; have h7 := QN.free 3; have QH := hide QN; clear QN; have mk2L0 : True := trivial)
        | (clear mk1; go_at_call 46; refine (C1.out _ _ _ _ (bal b1 (Obj.cells #[Value.int .i64 0, Value.bool false, Value.string ⟨#[]⟩, Value.int .i64 0] 23)) (Z1.out.below ((Below.refl _ _).alloc (Nat.le_refl _) _))).mono ?_; rintro e u2 ⟨⟨s2, o2, l2, c2, rfl, Z2⟩, R2, b2, q1_0, q1_1, q1_2, q1_3⟩; have QN := (Blk.newAt u1 u1.heap.size rfl #[.int .i64 0, .bool false, .string ⟨#[]⟩, .int .i64 0] 23).below R2.out (Blk.newAt u1 u1.heap.size rfl #[.int .i64 0, .bool false, .string ⟨#[]⟩, .int .i64 0] 23).lt; have h0 : u2.cell? ⟨u1.heap.size, 0, none⟩ = some (.int .i64 0) := QN.cell 0; have h1 : u2.cell? ⟨u1.heap.size, 1, none⟩ = some (.bool false) := QN.cell 1; have h2 : u2.cell? ⟨u1.heap.size, 2, none⟩ = some (.string ⟨#[]⟩) := QN.cell 2; have h3 : u2.cell? ⟨u1.heap.size, 3, none⟩ = some (.int .i64 0) := QN.cell 3; have h4 := QN.free 0; have h5 := QN.free 1; have h6 := QN.free 2; have h7 := QN.free 3; have QH := hide QN; clear QN; have mk2L1 : True := trivial)
        | (clear mk1; go_at_call 46; refine (C1.out _ _ _ _ b1 Z1.out).mono ?_; rintro e u2 ⟨⟨s2, o2, l2, c2, rfl, Z2⟩, R2, b2, q1_0, q1_1, q1_2, q1_3⟩; have nsu2 : ¬ w.heap.size = u2.heap.size := (by have := HL.out; have := b2.out.size; omega); have msu2 : ¬ u2.heap.size = w.heap.size := (by have := HL.out; have := b2.out.size; omega); have mk2 : True := trivial)
        | (clear mk2L0; go_at_call 48; refine (C2.out _ _ _ _ _ b2 Z2.out).mono ?_; rintro e u3 ⟨rfl, R3, b3, q2_0, q2_1, q2_2, q2_3⟩; clear h0 h1 h2 h3 h4 h5 h6 h7; have QN := QH.out.below R3.out QH.out.lt; have h0 : u3.cell? ⟨w1.heap.size, 0, none⟩ = some (.int .i64 0) := QN.cell 0; have h1 : u3.cell? ⟨w1.heap.size, 1, none⟩ = some (.bool false) := QN.cell 1; have h2 : u3.cell? ⟨w1.heap.size, 2, none⟩ = some (.string ⟨#[]⟩) := QN.cell 2; have h3 : u3.cell? ⟨w1.heap.size, 3, none⟩ = some (.int .i64 0) := QN.cell 3; have h4 := QN.free 0; have h5 := QN.free 1; have h6 := QN.free 2; have h7 := QN.free 3; have QH := hide QN; clear QN; have mk3L0 : True := trivial)
        | (clear mk2L1; go_at_call 48; refine (C2.out _ _ _ _ _ b2 Z2.out).mono ?_; rintro e u3 ⟨rfl, R3, b3, q2_0, q2_1, q2_2, q2_3⟩; clear h0 h1 h2 h3 h4 h5 h6 h7; have QN := QH.out.below R3.out QH.out.lt; have h0 : u3.cell? ⟨u1.heap.size, 0, none⟩ = some (.int .i64 0) := QN.cell 0; have h1 : u3.cell? ⟨u1.heap.size, 1, none⟩ = some (.bool false) := QN.cell 1; have h2 : u3.cell? ⟨u1.heap.size, 2, none⟩ = some (.string ⟨#[]⟩) := QN.cell 2; have h3 : u3.cell? ⟨u1.heap.size, 3, none⟩ = some (.int .i64 0) := QN.cell 3; have h4 := QN.free 0; have h5 := QN.free 1; have h6 := QN.free 2; have h7 := QN.free 3; have QH := hide QN; clear QN; have mk3L1 : True := trivial)
        | (clear mk2; go_at_call 48; refine (C2.out _ _ _ _ _ (bal b2 (Obj.cells #[Value.int .i64 0, Value.bool false, Value.string ⟨#[]⟩, Value.int .i64 0] 23)) (Z2.out.below ((Below.refl _ _).alloc (Nat.le_refl _) _))).mono ?_; rintro e u3 ⟨rfl, R3, b3, q2_0, q2_1, q2_2, q2_3⟩; have QN := (Blk.newAt u2 u2.heap.size rfl #[.int .i64 0, .bool false, .string ⟨#[]⟩, .int .i64 0] 23).below R3.out (Blk.newAt u2 u2.heap.size rfl #[.int .i64 0, .bool false, .string ⟨#[]⟩, .int .i64 0] 23).lt; have h0 : u3.cell? ⟨u2.heap.size, 0, none⟩ = some (.int .i64 0) := QN.cell 0; have h1 : u3.cell? ⟨u2.heap.size, 1, none⟩ = some (.bool false) := QN.cell 1; have h2 : u3.cell? ⟨u2.heap.size, 2, none⟩ = some (.string ⟨#[]⟩) := QN.cell 2; have h3 : u3.cell? ⟨u2.heap.size, 3, none⟩ = some (.int .i64 0) := QN.cell 3; have h4 := QN.free 0; have h5 := QN.free 1; have h6 := QN.free 2; have h7 := QN.free 3; have QH := hide QN; clear QN; have mk3L2 : True := trivial)
        | (clear mk2; go_at_call 48; refine (C2.out _ _ _ _ _ b2 Z2.out).mono ?_; rintro e u3 ⟨rfl, R3, b3, q2_0, q2_1, q2_2, q2_3⟩; have nsu3 : ¬ w.heap.size = u3.heap.size := (by have := HL.out; have := b3.out.size; omega); have msu3 : ¬ u3.heap.size = w.heap.size := (by have := HL.out; have := b3.out.size; omega); have mk3 : True := trivial))
    all_goals (go_wp2_with fail; go_meet)
    all_goals (first | (clear mk3L0; exact cutv_old b3.out QH.out (Nat.le_refl _)) | (clear mk3L1; exact cutv_old b3.out QH.out b1.out.size) | (clear mk3L2; exact cutv_old b3.out QH.out b2.out.size) | (clear mk3; exact cutv_new b3.out))
  obtain ⟨⟨Hx, rfl, rfl, hq, hH, hbc⟩⟩ := hcut
  obtain ⟨w2, hwk⟩ : ∃ x, x = wc := ⟨_, rfl⟩
  subst hwk
  have Bs2 := hide (Bs1.out.below hbc Bs1.out.lt)
  have Br2 := hide (Br1.out.below hbc Br1.out.lt)
  have Bx2 := hide hq
  have HB2 := hide (HB1.out.trans (hbc.mono HB1.out.size))
  clear HL hq hH hbc Bs1 Br1 HB1 ys0 ys1 ys2 ys3 ys4 ys5 yr0 yr1 yr2 yr3
  obtain ⟨ys0, ys1, ys2, ys3, ys4, ys5⟩ := Bs2.out.six
  obtain ⟨yr0, yr1, yr2, yr3⟩ := Br2.out.four
  obtain ⟨yx0, yx1, yx2, yx3⟩ := Bx2.out.four
  have fr0 := Br2.out.free 0
  have fr1 := Br2.out.free 1
  have fr2 := Br2.out.free 2
  have fr3 := Br2.out.free 3
  go_wp2
  refine bodyPost_ret (results_dec2 rfl _ _ _ _ _ _ _ rfl (Br2.out.put4 _ _ _ _)) rfl ?_
  exact ⟨rfl, below_put4 (HB2.out) (by omega) _ _ _ _⟩

set_option maxRecDepth 100000 in
set_option maxHeartbeats 4000000 in
theorem rvalue_out (n : Bool) (ti tf : ByteArray) (x : Int) (cm : Bool) (N m M : Nat) (z : Int)  (w : World) (h : MayS ⟨0, n, bys ti, bys tf, x, cm⟩) (z1 : ti.size ≤ 4096) (z2 : tf.size ≤ 4096) (z3 : -2001 ≤ x) (z4 : x ≤ 2001) (hO : ∀ X, Calls Tryz.prog 47 #[.string (ti ++ tf)] X fun e w' => (∃ o l c, e = .returned (.slice o l c) ∧ Hid (Rl w' o l c N m)) ∧ Below X.heap.size X w') (hM : ∀ X (o : Option Addr) (l c : Nat), Rl X o l c N m → Calls Tryz.prog 46 #[.bool n, .slice o l c] X fun e w' => (∃ s o l c, e = .returned (.agg #[.bool s, .slice o l c]) ∧ Hid (RI w' s o l c z M 0)) ∧ Below X.heap.size X w') (hD : ∀ X (s : Bool) (o : Option Addr) (l c : Nat), RI X s o l c z M 0 → Calls Tryz.prog 48 #[.agg #[.bool s, .slice o l c, .int .i64 (x - (tf.size : Int))], .bool n] X fun e w' => e = .returned (.tuple #[.agg #[.int .i64 0, .bool false, .string ⟨#[]⟩, .int .i64 0], .bool false]) ∧ Below X.heap.size X w') : Calls Tryz.prog 17 #[shV 0 n ti tf x cm] w fun e w' => e = .returned (.tuple #[.agg #[.int .i64 0, .bool false, .string ⟨#[]⟩, .int .i64 0], .int .i64 51]) ∧ Below w.heap.size w w' := by
  have MS := hide (fun W => rmayS_T 0 n ti tf x cm W h)
  have KO := hide hO
  have KM := hide hM
  have KD := hide hD
  have hw : IntKind.i64.wrap (x - (tf.size : Int)) = x - (tf.size : Int) := by rw [IntKind.wrap_i64]; omega
  have hs : ¬ 9223372036854775807 < ti.size + tf.size := by omega
  clear hO hM hD h z1 z2 z3 z4
  have Bs0 := hide ((Blk.newAt w (w.heap.size) (rfl) #[.int .i64 0, .bool n, .string ti, .string tf, .int .i64 x, .bool cm] 34).alloc (.cells #[.int .i64 0, .bool false, .string ⟨#[]⟩, .int .i64 0] 23))
  have Br0 := hide (Blk.newAt (w.alloc (.cells #[.int .i64 0, .bool n, .string ti, .string tf, .int .i64 x, .bool cm] 34)) (w.heap.size + 1) (by simp) #[.int .i64 0, .bool false, .string ⟨#[]⟩, .int .i64 0] 23)
  have HB0 : Hid (Below w.heap.size w ((w.alloc (.cells #[.int .i64 0, .bool n, .string ti, .string tf, .int .i64 x, .bool cm] 34)).alloc (.cells #[.int .i64 0, .bool false, .string ⟨#[]⟩, .int .i64 0] 23))) := (((Below.refl _ _).alloc (Nat.le_refl _) _).alloc (by simp <;> omega) _)
  go_enter Tryz.func17, Tryz.ntmps17
  go_wp2_with fail
  refine (MS.out _).mono ?_
  rintro e w1 ⟨rfl, hb⟩
  have Bs1 := Blk.on Bs0 hb
  have Br1 := Blk.on Br0 hb
  have HB1 := hide (HB0.out.trans (hb.mono HB0.out.size))
  clear hb Bs0 Br0 HB0 
  obtain ⟨ys0, ys1, ys2, ys3, ys4, ys5⟩ := Bs1.out.six
  obtain ⟨yr0, yr1, yr2, yr3⟩ := Br1.out.four
  have HL : Hid (w.heap.size < w1.heap.size) := Bs1.out.lt
  go_wp2_with fail
  go_cut [4, 5] (fun vp ve wx => CutV w1 #[.int .i64 0, .bool false, .string ⟨#[]⟩, .int .i64 0] (.bool false) vp ve wx)
  case first =>
    have C0 : Hid (∀ X, Hid (Below w1.heap.size w1 X) → Calls Tryz.prog 47 #[.string (ti ++ tf)] X fun e w' => (∃ o l c, e = .returned (.slice o l c) ∧ Hid (Rl w' o l c N m)) ∧ Hid (Below X.heap.size X w') ∧ Hid (Below w1.heap.size w1 w') ∧ w'.cell? ⟨w.heap.size, 1, none⟩ = some (.bool n) ∧ w'.cell? ⟨w.heap.size, 2, none⟩ = some (.string ti) ∧ w'.cell? ⟨w.heap.size, 3, none⟩ = some (.string tf) ∧ w'.cell? ⟨w.heap.size, 4, none⟩ = some (.int .i64 x)) := by
      intro X bX
      refine (KO.out X).mono ?_
      rintro e w' ⟨⟨o, l, c, rfl, hz⟩, hb⟩
      have bb := bX.out.trans (hb.mono bX.out.size)
      have Bsq := Bs1.out.below bb Bs1.out.lt
      exact ⟨⟨o, l, c, rfl, hz⟩, hb, bb, Bsq.cell 1, Bsq.cell 2, Bsq.cell 3, Bsq.cell 4⟩
    have C1 : Hid (∀ X (o : Option Addr) (l c : Nat), Hid (Below w1.heap.size w1 X) → Rl X o l c N m → Calls Tryz.prog 46 #[.bool n, .slice o l c] X fun e w' => (∃ s o l c, e = .returned (.agg #[.bool s, .slice o l c]) ∧ Hid (RI w' s o l c z M 0)) ∧ Hid (Below X.heap.size X w') ∧ Hid (Below w1.heap.size w1 w') ∧ w'.cell? ⟨w.heap.size, 1, none⟩ = some (.bool n) ∧ w'.cell? ⟨w.heap.size, 2, none⟩ = some (.string ti) ∧ w'.cell? ⟨w.heap.size, 3, none⟩ = some (.string tf) ∧ w'.cell? ⟨w.heap.size, 4, none⟩ = some (.int .i64 x)) := by
      intro X o l c bX hz
      refine (KM.out X _ _ _ hz).mono ?_
      rintro e w' ⟨⟨s, o, l, c, rfl, hz⟩, hb⟩
      have bb := bX.out.trans (hb.mono bX.out.size)
      have Bsq := Bs1.out.below bb Bs1.out.lt
      exact ⟨⟨s, o, l, c, rfl, hz⟩, hb, bb, Bsq.cell 1, Bsq.cell 2, Bsq.cell 3, Bsq.cell 4⟩
    have C2 : Hid (∀ X (s : Bool) (o : Option Addr) (l c : Nat), Hid (Below w1.heap.size w1 X) → RI X s o l c z M 0 → Calls Tryz.prog 48 #[.agg #[.bool s, .slice o l c, .int .i64 (x - (tf.size : Int))], .bool n] X fun e w' => e = .returned (.tuple #[.agg #[.int .i64 0, .bool false, .string ⟨#[]⟩, .int .i64 0], .bool false]) ∧ Hid (Below X.heap.size X w') ∧ Hid (Below w1.heap.size w1 w') ∧ w'.cell? ⟨w.heap.size, 1, none⟩ = some (.bool n) ∧ w'.cell? ⟨w.heap.size, 2, none⟩ = some (.string ti) ∧ w'.cell? ⟨w.heap.size, 3, none⟩ = some (.string tf) ∧ w'.cell? ⟨w.heap.size, 4, none⟩ = some (.int .i64 x)) := by
      intro X s o l c bX hz
      refine (KD.out X _ _ _ _ hz).mono ?_
      rintro e w' ⟨rfl, hb⟩
      have bb := bX.out.trans (hb.mono bX.out.size)
      have Bsq := Bs1.out.below bb Bs1.out.lt
      exact ⟨rfl, hb, bb, Bsq.cell 1, Bsq.cell 2, Bsq.cell 3, Bsq.cell 4⟩
    have b0 : Hid (Below w1.heap.size w1 w1.drew) := bdrewD w1
    have nsw1 : ¬ w.heap.size = w1.heap.size := (by have := HL.out; omega)
    have msw1 : ¬ w1.heap.size = w.heap.size := (by have := HL.out; omega)
    have mk0 : True := trivial
    go_region_held3 (fun w' => w'.cell? ⟨w.heap.size, 1, none⟩ = some (.bool n) ∧ w'.cell? ⟨w.heap.size, 2, none⟩ = some (.string ti) ∧ w'.cell? ⟨w.heap.size, 3, none⟩ = some (.string tf) ∧ w'.cell? ⟨w.heap.size, 4, none⟩ = some (.int .i64 x)) (go_keep) (first
        | (clear mk0; go_at_call 47; refine (C0.out _ (bal b0 (Obj.cells #[Value.int .i64 0, Value.bool false, Value.string ⟨#[]⟩, Value.int .i64 0] 23))).mono ?_; rintro e u1 ⟨⟨o1, l1, c1, rfl, Z1⟩, R1, b1, q0_0, q0_1, q0_2, q0_3⟩; have QN := (Blk.newAt w1.drew w1.heap.size rfl #[.int .i64 0, .bool false, .string ⟨#[]⟩, .int .i64 0] 23).below R1.out (Blk.newAt w1.drew w1.heap.size rfl #[.int .i64 0, .bool false, .string ⟨#[]⟩, .int .i64 0] 23).lt; have h0 : u1.cell? ⟨w1.heap.size, 0, none⟩ = some (.int .i64 0) := QN.cell 0; have h1 : u1.cell? ⟨w1.heap.size, 1, none⟩ = some (.bool false) := QN.cell 1; have h2 : u1.cell? ⟨w1.heap.size, 2, none⟩ = some (.string ⟨#[]⟩) := QN.cell 2; have h3 : u1.cell? ⟨w1.heap.size, 3, none⟩ = some (.int .i64 0) := QN.cell 3; have h4 := QN.free 0; have h5 := QN.free 1; have h6 := QN.free 2; have h7 := QN.free 3; have QH := hide QN; clear QN; have mk1L0 : True := trivial)
        | (clear mk0; go_at_call 47; refine (C0.out _ b0).mono ?_; rintro e u1 ⟨⟨o1, l1, c1, rfl, Z1⟩, R1, b1, q0_0, q0_1, q0_2, q0_3⟩; have nsu1 : ¬ w.heap.size = u1.heap.size := (by have := HL.out; have := b1.out.size; omega); have msu1 : ¬ u1.heap.size = w.heap.size := (by have := HL.out; have := b1.out.size; omega); have mk1 : True := trivial)
        | (clear mk1L0; go_at_call 46; refine (C1.out _ _ _ _ b1 Z1.out).mono ?_; rintro e u2 ⟨⟨s2, o2, l2, c2, rfl, Z2⟩, R2, b2, q1_0, q1_1, q1_2, q1_3⟩; clear h0 h1 h2 h3 h4 h5 h6 h7; have QN := QH.out.below R2.out QH.out.lt; have h0 : u2.cell? ⟨w1.heap.size, 0, none⟩ = some (.int .i64 0) := QN.cell 0; have h1 : u2.cell? ⟨w1.heap.size, 1, none⟩ = some (.bool false) := QN.cell 1; have h2 : u2.cell? ⟨w1.heap.size, 2, none⟩ = some (.string ⟨#[]⟩) := QN.cell 2; have h3 : u2.cell? ⟨w1.heap.size, 3, none⟩ = some (.int .i64 0) := QN.cell 3; have h4 := QN.free 0; have h5 := QN.free 1; have h6 := QN.free 2; have h7 := QN.free 3; have QH := hide QN; clear QN; have mk2L0 : True := trivial)
        | (clear mk1; go_at_call 46; refine (C1.out _ _ _ _ (bal b1 (Obj.cells #[Value.int .i64 0, Value.bool false, Value.string ⟨#[]⟩, Value.int .i64 0] 23)) (Z1.out.below ((Below.refl _ _).alloc (Nat.le_refl _) _))).mono ?_; rintro e u2 ⟨⟨s2, o2, l2, c2, rfl, Z2⟩, R2, b2, q1_0, q1_1, q1_2, q1_3⟩; have QN := (Blk.newAt u1 u1.heap.size rfl #[.int .i64 0, .bool false, .string ⟨#[]⟩, .int .i64 0] 23).below R2.out (Blk.newAt u1 u1.heap.size rfl #[.int .i64 0, .bool false, .string ⟨#[]⟩, .int .i64 0] 23).lt; have h0 : u2.cell? ⟨u1.heap.size, 0, none⟩ = some (.int .i64 0) := QN.cell 0; have h1 : u2.cell? ⟨u1.heap.size, 1, none⟩ = some (.bool false) := QN.cell 1; have h2 : u2.cell? ⟨u1.heap.size, 2, none⟩ = some (.string ⟨#[]⟩) := QN.cell 2; have h3 : u2.cell? ⟨u1.heap.size, 3, none⟩ = some (.int .i64 0) := QN.cell 3; have h4 := QN.free 0; have h5 := QN.free 1; have h6 := QN.free 2; have h7 := QN.free 3; have QH := hide QN; clear QN; have mk2L1 : True := trivial)
        | (clear mk1; go_at_call 46; refine (C1.out _ _ _ _ b1 Z1.out).mono ?_; rintro e u2 ⟨⟨s2, o2, l2, c2, rfl, Z2⟩, R2, b2, q1_0, q1_1, q1_2, q1_3⟩; have nsu2 : ¬ w.heap.size = u2.heap.size := (by have := HL.out; have := b2.out.size; omega); have msu2 : ¬ u2.heap.size = w.heap.size := (by have := HL.out; have := b2.out.size; omega); have mk2 : True := trivial)
        | (clear mk2L0; go_at_call 48; refine (C2.out _ _ _ _ _ b2 Z2.out).mono ?_; rintro e u3 ⟨rfl, R3, b3, q2_0, q2_1, q2_2, q2_3⟩; clear h0 h1 h2 h3 h4 h5 h6 h7; have QN := QH.out.below R3.out QH.out.lt; have h0 : u3.cell? ⟨w1.heap.size, 0, none⟩ = some (.int .i64 0) := QN.cell 0; have h1 : u3.cell? ⟨w1.heap.size, 1, none⟩ = some (.bool false) := QN.cell 1; have h2 : u3.cell? ⟨w1.heap.size, 2, none⟩ = some (.string ⟨#[]⟩) := QN.cell 2; have h3 : u3.cell? ⟨w1.heap.size, 3, none⟩ = some (.int .i64 0) := QN.cell 3; have h4 := QN.free 0; have h5 := QN.free 1; have h6 := QN.free 2; have h7 := QN.free 3; have QH := hide QN; clear QN; have mk3L0 : True := trivial)
        | (clear mk2L1; go_at_call 48; refine (C2.out _ _ _ _ _ b2 Z2.out).mono ?_; rintro e u3 ⟨rfl, R3, b3, q2_0, q2_1, q2_2, q2_3⟩; clear h0 h1 h2 h3 h4 h5 h6 h7; have QN := QH.out.below R3.out QH.out.lt; have h0 : u3.cell? ⟨u1.heap.size, 0, none⟩ = some (.int .i64 0) := QN.cell 0; have h1 : u3.cell? ⟨u1.heap.size, 1, none⟩ = some (.bool false) := QN.cell 1; have h2 : u3.cell? ⟨u1.heap.size, 2, none⟩ = some (.string ⟨#[]⟩) := QN.cell 2; have h3 : u3.cell? ⟨u1.heap.size, 3, none⟩ = some (.int .i64 0) := QN.cell 3; have h4 := QN.free 0; have h5 := QN.free 1; have h6 := QN.free 2; have h7 := QN.free 3; have QH := hide QN; clear QN; have mk3L1 : True := trivial)
        | (clear mk2; go_at_call 48; refine (C2.out _ _ _ _ _ (bal b2 (Obj.cells #[Value.int .i64 0, Value.bool false, Value.string ⟨#[]⟩, Value.int .i64 0] 23)) (Z2.out.below ((Below.refl _ _).alloc (Nat.le_refl _) _))).mono ?_; rintro e u3 ⟨rfl, R3, b3, q2_0, q2_1, q2_2, q2_3⟩; have QN := (Blk.newAt u2 u2.heap.size rfl #[.int .i64 0, .bool false, .string ⟨#[]⟩, .int .i64 0] 23).below R3.out (Blk.newAt u2 u2.heap.size rfl #[.int .i64 0, .bool false, .string ⟨#[]⟩, .int .i64 0] 23).lt; have h0 : u3.cell? ⟨u2.heap.size, 0, none⟩ = some (.int .i64 0) := QN.cell 0; have h1 : u3.cell? ⟨u2.heap.size, 1, none⟩ = some (.bool false) := QN.cell 1; have h2 : u3.cell? ⟨u2.heap.size, 2, none⟩ = some (.string ⟨#[]⟩) := QN.cell 2; have h3 : u3.cell? ⟨u2.heap.size, 3, none⟩ = some (.int .i64 0) := QN.cell 3; have h4 := QN.free 0; have h5 := QN.free 1; have h6 := QN.free 2; have h7 := QN.free 3; have QH := hide QN; clear QN; have mk3L2 : True := trivial)
        | (clear mk2; go_at_call 48; refine (C2.out _ _ _ _ _ b2 Z2.out).mono ?_; rintro e u3 ⟨rfl, R3, b3, q2_0, q2_1, q2_2, q2_3⟩; have nsu3 : ¬ w.heap.size = u3.heap.size := (by have := HL.out; have := b3.out.size; omega); have msu3 : ¬ u3.heap.size = w.heap.size := (by have := HL.out; have := b3.out.size; omega); have mk3 : True := trivial))
    all_goals (go_wp2_with fail; go_meet)
    all_goals (first | (clear mk3L0; exact cutv_old b3.out QH.out (Nat.le_refl _)) | (clear mk3L1; exact cutv_old b3.out QH.out b1.out.size) | (clear mk3L2; exact cutv_old b3.out QH.out b2.out.size) | (clear mk3; exact cutv_new b3.out))
  obtain ⟨⟨Hx, rfl, rfl, hq, hH, hbc⟩⟩ := hcut
  obtain ⟨w2, hwk⟩ : ∃ x, x = wc := ⟨_, rfl⟩
  subst hwk
  have Bs2 := hide (Bs1.out.below hbc Bs1.out.lt)
  have Br2 := hide (Br1.out.below hbc Br1.out.lt)
  have Bx2 := hide hq
  have HB2 := hide (HB1.out.trans (hbc.mono HB1.out.size))
  clear HL hq hH hbc Bs1 Br1 HB1 ys0 ys1 ys2 ys3 ys4 ys5 yr0 yr1 yr2 yr3
  obtain ⟨ys0, ys1, ys2, ys3, ys4, ys5⟩ := Bs2.out.six
  obtain ⟨yr0, yr1, yr2, yr3⟩ := Br2.out.four
  obtain ⟨yx0, yx1, yx2, yx3⟩ := Bx2.out.four
  have fr0 := Br2.out.free 0
  have fr1 := Br2.out.free 1
  have fr2 := Br2.out.free 2
  have fr3 := Br2.out.free 3
  go_wp2
  refine bodyPost_ret (results_dec2 rfl _ _ _ _ _ _ _ rfl (Br2.out.put4 _ _ _ _)) rfl ?_
  exact ⟨rfl, below_put4 (HB2.out) (by omega) _ _ _ _⟩

end Go.Proofs.YtobloamnaemfnaaGreatDoor

namespace Go.Proofs.YtobloamnaemfnaaGreatDoor
open Go.RowKit

theorem zv_sign {n : Bool} {N : Nat} (h : N ≠ 0) : decide (zv n N < 0) = n := by
  unfold zv
  cases n
  · simp
  · simp; omega

theorem rValue_any (c : Int) (n : Bool) (ti tf : ByteArray) (x : Int) (cm : Bool) (w : World) (b1 : ti.size ≤ 281474976710656) (b2 : tf.size ≤ 281474976710656) : Calls Tryz.prog 17 #[shV c n ti tf x cm] w fun e w' => e = .returned (decErr (valueS ⟨c, n, bys ti, bys tf, x, cm⟩)) ∧ Below w.heap.size w w' := by
  unfold valueS
  by_cases h : MayS ⟨c, n, bys ti, bys tf, x, cm⟩
  rotate_left
  · rw [if_pos h]
    exact rvalue_no c n ti tf x cm w b1 b2 h
  rw [if_neg (fun g => g h)]
  by_cases h0 : c = 0
  rotate_left
  · rw [if_pos h0]
    have hc : c = ((c.toNat : Nat) : Int) := by
      obtain ⟨_, h2⟩ := h
      rcases h2 with ⟨h1, _⟩ | ⟨h1, _⟩ | ⟨h1, _⟩ <;> simp only at h1 <;> omega
    have g := rvalue_cls c n ti tf x cm w h h0
    unfold decErr decVal
    simp only
    rw [← hc]
    exact g
  subst h0
  rw [if_neg (fun g => g rfl)]
  obtain ⟨⟨x1, x2⟩, h2⟩ := id h
  simp only at x1 x2
  rcases h2 with ⟨_, _, ⟨h3, h4⟩, ⟨h5, h6⟩⟩ | ⟨h1, _⟩ | ⟨h1, _⟩
  rotate_left
  · exact absurd (show (0 : Int) = 1 from h1) (by decide)
  · exact absurd (show (0 : Int) = 2 from h1) (by decide)
  simp only at h3 h4 h5 h6
  have hD : DigB (bys ti ++ bys tf) := h4.append h6
  rw [bys_len] at h3 h5
  simp only
  rw [bys_len]
  have hlt := decV_lt _ (bys ti ++ bys tf) rfl hD
  rw [List.length_append, bys_len, bys_len] at hlt
  have hsz : sizeN (decV (bys ti ++ bys tf)) ≤ 20000 := Nat.le_trans (sizeN_le (Nat.lt_of_lt_of_le hlt (Nat.pow_le_pow_right (by omega) (Nat.le_succ _))) (by omega)) (by omega)
  have hO : ∀ X, Calls Tryz.prog 47 #[.string (ti ++ tf)] X fun e w' => (∃ o l c, e = .returned (.slice o l c) ∧ Hid (Rl w' o l c (decV (bys ti ++ bys tf)) 8193)) ∧ Below X.heap.size X w' := by
    intro X
    refine (rof_any (ti ++ tf) X (by rw [ByteArray.size_append]; omega) (by rw [bys_append]; exact hD)).mono ?_
    rintro e w' ⟨o, c, r, rfl, hle, hat, his, hm, hb⟩
    rw [bys_append] at his
    rw [ByteArray.size_append] at hm
    exact ⟨⟨o, r.length, c, rfl, r, rfl, hle, by omega, hat, his⟩, hb⟩
  have hM : ∀ X (o : Option Addr) (l c : Nat), Rl X o l c (decV (bys ti ++ bys tf)) 8193 → Calls Tryz.prog 46 #[.bool n, .slice o l c] X fun e w' => (∃ s o l c, e = .returned (.agg #[.bool s, .slice o l c]) ∧ Hid (RI w' s o l c (zv n (decV (bys ti ++ bys tf))) 8194 0)) ∧ Below X.heap.size X w' := by
    intro X o l c hz
    refine (rmakeI n o l c _ 8193 X (by omega) hz).mono ?_
    rintro e w' ⟨⟨s, o, l, c, rfl, hi⟩, hb⟩
    exact ⟨⟨s, o, l, c, rfl, hi.lo (Nat.zero_le _) (by omega)⟩, hb⟩
  generalize decV (bys ti ++ bys tf) = N at *
  by_cases hN : N = 0
  · subst hN
    have ht : tellF n 0 (x - (tf.size : Int)) = (⟨0, n, [], 0⟩, 0) := tellF_yes (N := 0) (may_zero n)
    rw [ht]
    refine rvalue_yes n ti tf x cm 0 8193 8194 (zv n 0) 0 n ⟨#[]⟩ 0 w h h3 h5 x1 x2 hO hM ?_
    intro X s o l c hi
    have ha := hi.abs
    rw [zv_abs] at ha
    exact rndec_zero s o l c _ n 8194 X ha (by omega)
  · have hf : finD n N (x - (tf.size : Int)) = decA n N (x - (tf.size : Int)) := by unfold finD; rw [if_neg hN]
    by_cases hm : May (decA n N (x - (tf.size : Int)))
    · rw [tellF_yes (by rw [hf]; exact hm), hf]
      refine rvalue_yes n ti tf x cm N 8193 8194 (zv n N) _ _ _ _ w h h3 h5 x1 x2 hO hM ?_
      intro X s o l c hi
      have ha := hi.abs
      rw [zv_abs] at ha
      obtain ⟨_, _, _, _, hs, _⟩ := hi
      rw [zv_sign hN] at hs
      subst hs
      exact rndec_yes s o l c _ s N 8194 X ha (by omega) hN hsz (by omega) (by omega) hm
    · rw [tellF_no (by rw [hf]; exact hm)]
      refine rvalue_out n ti tf x cm N 8193 8194 (zv n N) w h h3 h5 x1 x2 hO hM ?_
      intro X s o l c hi
      have ha := hi.abs
      rw [zv_abs] at ha
      obtain ⟨_, _, _, _, hs, _⟩ := hi
      rw [zv_sign hN] at hs
      subst hs
      exact rndec_no s o l c _ s N 8194 X ha (by omega) hN hsz (by omega) (by omega) hm

end Go.Proofs.YtobloamnaemfnaaGreatDoor

namespace Go.Proofs.YtobloamnaemfnaaGreatDoor
open Go.RowKit

section
variable {ca : Int} {na : Bool} {l : List UInt8} {ea p m : Int}

theorem atR_in (h : MayD ca na l ea) (hm : ¬ (m < 0 ∨ 8 ≤ m)) (hp : ¬ (p < -4000 ∨ 4000 < p)) : atR ca na l ea p m = rndD ⟨ca.toNat, na, l, ea⟩ 1 p m.toNat := by unfold atR; rw [if_neg (fun g => g h), if_neg hm, if_neg hp]
theorem digR_in (h : MayD ca na l ea) (hm : ¬ (m < 0 ∨ 8 ≤ m)) (hp : ¬ (p < 1 ∨ 1000 < p)) : digR ca na l ea p m = rndD ⟨ca.toNat, na, l, ea⟩ 1 ((l.length : Int) + ea - p) m.toNat := by unfold digR; rw [if_neg (fun g => g h), if_neg hm, if_neg hp]

variable {cb : Int} {nb : Bool} {k : List UInt8} {eb : Int}
theorem stepR_in (hb : MayD cb nb k eb) (h : MayD ca na l ea) (hm : ¬ (m < 0 ∨ 8 ≤ m)) (hs : StepD cb nb k) : stepR ca na l ea cb nb k eb m = rndD ⟨ca.toNat, na, l, ea⟩ (decV k) eb m.toNat := by unfold stepR; rw [if_neg (fun g => g hb), if_neg (fun g => g h), if_neg hm, if_neg (fun g => g hs)]
end

theorem tellF_mayR (neg : Bool) (N : Nat) (e : Int) : May (tellF neg N e).1 := by
  by_cases h : May (finD neg N e)
  · rw [tellF_yes h]; exact h
  · rw [tellF_no h]; exact may_zero false

theorem rndD_may {d : DecT} (h : May d) (N : Nat) (x : Int) (m : Nat) : May (rndD d N x m).1 := by
  by_cases hz : d.dig = []
  · rw [rndD_zero hz]; exact h
  · rw [rndD_fin hz]; exact tellF_mayR _ _ _

end Go.Proofs.YtobloamnaemfnaaGreatDoor

namespace Go.Proofs.YtobloamnaemfnaaGreatDoor

def unitN (p : PrecT) : Nat := if p.kind = 4 then decV p.sd else 1
def unitX (p : PrecT) (pl : Int) : Int := if p.kind = 1 then -p.maxF else if p.kind = 2 then pl - p.maxS else if p.kind = 3 then bothAt p pl else p.se

theorem mayP_kind {p : PrecT} (h : MayP p) : p.kind = 0 ∨ p.kind = 1 ∨ p.kind = 2 ∨ p.kind = 3 ∨ p.kind = 4 := by
  rcases h.2.2 with ⟨g, _⟩ | ⟨g, _⟩ | ⟨g, _⟩ | ⟨g, _⟩ | ⟨g, _⟩
  · exact .inl g
  · exact .inr (.inl g)
  · exact .inr (.inr (.inl g))
  · exact .inr (.inr (.inr (.inl g)))
  · exact .inr (.inr (.inr (.inr g)))

theorem mayP_1 {p : PrecT} (h : MayP p) (k : p.kind = 1) : FieldsFrac p := by
  rcases h.2.2 with ⟨g, _⟩ | ⟨g, q⟩ | ⟨g, _⟩ | ⟨g, _⟩ | ⟨g, _⟩ <;> first | exact q | omega
theorem mayP_2 {p : PrecT} (h : MayP p) (k : p.kind = 2) : FieldsSig p := by
  rcases h.2.2 with ⟨g, _⟩ | ⟨g, _⟩ | ⟨g, q⟩ | ⟨g, _⟩ | ⟨g, _⟩ <;> first | exact q | omega
theorem mayP_3 {p : PrecT} (h : MayP p) (k : p.kind = 3) : FieldsBoth p := by
  rcases h.2.2 with ⟨g, _⟩ | ⟨g, _⟩ | ⟨g, _⟩ | ⟨g, q⟩ | ⟨g, _⟩ <;> first | exact q | omega
theorem mayP_4 {p : PrecT} (h : MayP p) (k : p.kind = 4) : FieldsStep p := by
  rcases h.2.2 with ⟨g, _⟩ | ⟨g, _⟩ | ⟨g, _⟩ | ⟨g, _⟩ | ⟨g, q⟩ <;> first | exact q | omega

theorem may_pl {c : Int} {n : Bool} {l : List UInt8} {e : Int} (h : MayD c n l e) : -3000 ≤ e ∧ e ≤ 2000 ∧ -2000 ≤ (l.length : Int) + e ∧ (l.length : Int) + e ≤ 2000 ∧ l.length ≤ 1000 := by
  rcases h with ⟨_, ⟨h1, h2⟩ | ⟨_, h1, h2, h3, _⟩⟩ | ⟨_, h1, h2⟩ | ⟨_, _, h1, h2⟩
  · rw [h1]; simp; omega
  · omega
  · rw [h1]; simp; omega
  · rw [h1]; simp; omega

theorem bothAt_in {p : PrecT} {pl : Int} (h : FieldsBoth p) (h1 : -2000 ≤ pl) (h2 : pl ≤ 2000) : -3000 ≤ bothAt p pl ∧ bothAt p pl ≤ 3000 := by
  obtain ⟨⟨⟨a1, a2⟩, a3⟩, ⟨⟨b1, b2⟩, b3⟩, _⟩ := h
  unfold bothAt
  split <;> omega

theorem roundP_0 {p : PrecT} {c : Int} {n : Bool} {l : List UInt8} {e : Int} (k : p.kind = 0) : roundP p c n l e = (⟨c.toNat, n, l, e⟩, 0) := by
  unfold roundP; rw [if_pos k]
theorem roundP_1 {p : PrecT} {c : Int} {n : Bool} {l : List UInt8} {e : Int} (k : p.kind = 1) : roundP p c n l e = atR c n l e (-p.maxF) p.mode := by
  unfold roundP; rw [if_neg (by omega), if_pos k]
theorem roundP_2 {p : PrecT} {c : Int} {n : Bool} {l : List UInt8} {e : Int} (k : p.kind = 2) : roundP p c n l e = digR c n l e p.maxS p.mode := by
  unfold roundP; rw [if_neg (by omega), if_neg (by omega), if_pos k]
theorem roundP_3 {p : PrecT} {c : Int} {n : Bool} {l : List UInt8} {e : Int} (k : p.kind = 3) : roundP p c n l e = atR c n l e (bothAt p ((l.length : Int) + e)) p.mode := by
  unfold roundP; rw [if_neg (by omega), if_neg (by omega), if_neg (by omega), if_pos k]
theorem roundP_4 {p : PrecT} {c : Int} {n : Bool} {l : List UInt8} {e : Int} (k : p.kind = 4) : roundP p c n l e = stepR c n l e p.sc p.sn p.sd p.se p.mode := by
  unfold roundP; rw [if_neg (by omega), if_neg (by omega), if_neg (by omega), if_neg (by omega)]

theorem roundP_rnd {p : PrecT} {c : Int} {n : Bool} {l : List UInt8} {e : Int} (hp : MayP p) (h : MayD c n l e) (k : p.kind ≠ 0) :
    roundP p c n l e = rndD ⟨c.toNat, n, l, e⟩ (unitN p) (unitX p ((l.length : Int) + e)) p.mode.toNat := by
  obtain ⟨_, _, b3, b4, _⟩ := may_pl h
  have hm : ¬ (p.mode < 0 ∨ 8 ≤ p.mode) := by have := hp.1; omega
  rcases mayP_kind hp with g | g | g | g | g
  · exact absurd g k
  · obtain ⟨⟨⟨a1, a2⟩, a3⟩, _⟩ := mayP_1 hp g
    rw [roundP_1 g, atR_in h hm (by omega)]
    unfold unitN unitX
    rw [if_neg (by omega), if_pos g]
  · obtain ⟨_, ⟨⟨a1, a2⟩, a3⟩, _⟩ := mayP_2 hp g
    rw [roundP_2 g, digR_in h hm (by omega)]
    unfold unitN unitX
    rw [if_neg (by omega), if_neg (by omega), if_pos g]
  · have := bothAt_in (mayP_3 hp g) b3 b4
    rw [roundP_3 g, atR_in h hm (by omega)]
    unfold unitN unitX
    rw [if_neg (by omega), if_neg (by omega), if_neg (by omega), if_pos g]
  · obtain ⟨_, _, _, _, hb, hs⟩ := mayP_4 hp g
    rw [roundP_4 g, stepR_in hb h hm hs]
    unfold unitN unitX
    rw [if_pos g, if_neg (by omega), if_neg (by omega), if_neg (by omega)]

theorem roundP_may {p : PrecT} {c : Int} {n : Bool} {l : List UInt8} {e : Int} (hp : MayP p) (h : MayD c n l e) : May (roundP p c n l e).1 := by
  by_cases k : p.kind = 0
  · rw [roundP_0 k]; exact may_of h
  · rw [roundP_rnd hp h k]; exact rndD_may (may_of h) _ _ _

theorem leastP_in {p : PrecT} (hp : MayP p) {r : DecT} (hr : May r) : 0 ≤ leastP p r ∧ leastP p r ≤ 3000 := by
  have b := may_pl (show MayD (r.cls : Int) r.neg r.dig r.exp from hr)
  have hs : ∀ (_ : SigOk p), 0 ≤ sigL p r ∧ sigL p r ≤ 3000 := by
    rintro ⟨⟨a1, a2⟩, a3⟩
    unfold sigL
    split <;> omega
  unfold leastP
  rcases mayP_kind hp with g | g | g | g | g
  · rw [if_pos g]; omega
  · obtain ⟨⟨⟨a1, a2⟩, a3⟩, _⟩ := mayP_1 hp g
    rw [if_neg (by omega), if_pos g]; omega
  · obtain ⟨_, q, _⟩ := mayP_2 hp g
    rw [if_neg (by omega), if_neg (by omega), if_pos g]; exact hs q
  · obtain ⟨⟨⟨a1, a2⟩, a3⟩, q, _⟩ := mayP_3 hp g
    have := hs q
    rw [if_neg (by omega), if_neg (by omega), if_neg (by omega), if_pos g]; omega
  · obtain ⟨⟨a1, a2⟩, _⟩ := mayP_4 hp g
    rw [if_neg (by omega), if_neg (by omega), if_neg (by omega), if_neg (by omega)]; omega

theorem showP_err {c : Int} {n : Bool} {l : List UInt8} {e : Int} {p : PrecT} (h : MayD c n l e) (hp : MayP p) (hr : (roundP p c n l e).2 ≠ 0) : showP c n l e p = (zeroS, (roundP p c n l e).2) := by
  unfold showP; rw [if_neg (fun g => g h), if_neg (fun g => g hp), if_pos hr]
theorem showP_in {c : Int} {n : Bool} {l : List UInt8} {e : Int} {p : PrecT} (h : MayD c n l e) (hp : MayP p) (hr : (roundP p c n l e).2 = 0) : showP c n l e p = (shownP p (roundP p c n l e).1, 0) := by
  unfold showP; rw [if_neg (fun g => g h), if_neg (fun g => g hp), if_neg (fun g => g hr)]

end Go.Proofs.YtobloamnaemfnaaGreatDoor

namespace Go.Proofs.YtobloamnaemfnaaGreatDoor
open Go.RowKit

structure CutK (W : World) (cs : Array Value) (v : Value) (W' : World) : Prop where
  ex : ∃ H : Nat, v = .pointer (some ⟨H, 0, none⟩) ∧ Blk W' H cs 68 ∧ W.heap.size ≤ H ∧ Below W.heap.size W W'

theorem cutk_old {W w3 : World} {H : Nat} {x0 x1 x2 y0 y1 y2 : Value} (hb : Below W.heap.size W w3) (q : Blk w3 H #[x0, x1, x2] 68) (hH : W.heap.size ≤ H) :
    CutK W #[y0, y1, y2] (.pointer (some ⟨H, 0, none⟩)) (((w3.setCell ⟨H, 0, none⟩ y0).setCell ⟨H, 1, none⟩ y1).setCell ⟨H, 2, none⟩ y2) :=
  ⟨H, rfl, by unfold Blk at *; simp only [World.setCell, Array.getElem?_modify, if_true, q, Option.map_some]; rfl, hH, ((hb.setCell hH _).setCell hH _).setCell hH _⟩

theorem cutk_new {W w3 : World} {cs : Array Value} (hb : Below W.heap.size W w3) : CutK W cs (.pointer (some ⟨w3.heap.size, 0, none⟩)) (w3.alloc (.cells cs 68)) :=
  ⟨w3.heap.size, rfl, Blk.new _ _ _, hb.size, hb.alloc hb.size _⟩

theorem Blk.set23 {w : World} {b : Nat} {t : TypeId} {x0 x1 x2 x3 x4 x5 : Value} (h : Blk w b #[x0, x1, x2, x3, x4, x5] t) (y2 y3 : Value) : Blk ((w.setCell ⟨b, 2, none⟩ y2).setCell ⟨b, 3, none⟩ y3) b #[x0, x1, y2, y3, x4, x5] t := by
  unfold Blk at *
  simp only [World.setCell, Array.getElem?_modify, if_true, h, Option.map_some]
  rfl

end Go.Proofs.YtobloamnaemfnaaGreatDoor

namespace Go.Proofs.YtobloamnaemfnaaGreatDoor
open Go.RowKit

set_option maxHeartbeats 1000000 in
theorem fieldsOfSig_t (k mf xf ms xs cs : Int) (ns : Bool) (ts : ByteArray) (es md : Int) (hd : Bool) (im ix : Int) (w : World) (h0 : (NoFrac ⟨k, mf, xf, ms, xs, false, cs, ns, bys ts, es, md, hd, im, ix⟩)) (h1 : (SigOk ⟨k, mf, xf, ms, xs, false, cs, ns, bys ts, es, md, hd, im, ix⟩)) (h3 : (NoStep ⟨k, mf, xf, ms, xs, false, cs, ns, bys ts, es, md, hd, im, ix⟩)) : Calls Tryz.prog 80 #[prV k mf xf ms xs false cs ns ts es md hd im ix] w fun e w' => e = .returned (.bool true) ∧ Below w.heap.size w w' := by
  have C0 := hide (fun W => lacksFrac_T k mf xf ms xs false cs ns ts es md hd im ix W h0)
  clear h0
  have C1 := hide (fun W => maySig_T k mf xf ms xs false cs ns ts es md hd im ix W h1)
  clear h1
  have C3 := hide (fun W => lacksStep_T k mf xf ms xs false cs ns ts es md hd im ix W h3)
  clear h3
  have Bp0 := hide (Blk.newAt w (w.heap.size) (rfl) #[.int .i64 k, .int .i64 mf, .int .i64 xf, .int .i64 ms, .int .i64 xs, .bool false, .int .i64 cs, .bool ns, .string ts, .int .i64 es, .int .i64 md, .bool hd, .int .i64 im, .int .i64 ix] 61)
  have HB0 : Hid (Below w.heap.size w (w.alloc (.cells #[.int .i64 k, .int .i64 mf, .int .i64 xf, .int .i64 ms, .int .i64 xs, .bool false, .int .i64 cs, .bool ns, .string ts, .int .i64 es, .int .i64 md, .bool hd, .int .i64 im, .int .i64 ix] 61))) := ((Below.refl _ _).alloc (Nat.le_refl _) _)
  go_enter Tryz.func80, Tryz.ntmps80
  go_wp2_with fail
  refine (C0.out _).mono ?_
  rintro e w1 ⟨rfl, hb⟩
  have Bp1 := Blk.on Bp0 hb
  have HB1 := hide (HB0.out.trans (hb.mono HB0.out.size))
  clear hb Bp0 HB0 
  obtain ⟨yp0, yp1, yp2, yp3, yp4, yp5, yp6, yp7, yp8, yp9, yp10, yp11, yp12, yp13⟩ := Bp1.out.fourteen
  go_wp2_with fail
  refine (C1.out _).mono ?_
  rintro e w2 ⟨rfl, hb⟩
  have Bp2 := Blk.on Bp1 hb
  have HB2 := hide (HB1.out.trans (hb.mono HB1.out.size))
  clear hb Bp1 HB1 yp0 yp1 yp2 yp3 yp4 yp5 yp6 yp7 yp8 yp9 yp10 yp11 yp12 yp13
  obtain ⟨yp0, yp1, yp2, yp3, yp4, yp5, yp6, yp7, yp8, yp9, yp10, yp11, yp12, yp13⟩ := Bp2.out.fourteen
  go_wp2_with fail
  refine (C3.out _).mono ?_
  rintro e w3 ⟨rfl, hb⟩
  have Bp3 := Blk.on Bp2 hb
  have HB3 := hide (HB2.out.trans (hb.mono HB2.out.size))
  clear hb Bp2 HB2 yp0 yp1 yp2 yp3 yp4 yp5 yp6 yp7 yp8 yp9 yp10 yp11 yp12 yp13
  obtain ⟨yp0, yp1, yp2, yp3, yp4, yp5, yp6, yp7, yp8, yp9, yp10, yp11, yp12, yp13⟩ := Bp3.out.fourteen
  go_wp2
  go_ret
  exact ⟨rfl, HB3.out⟩

set_option maxHeartbeats 1000000 in
theorem fieldsOfSig_f0 (k mf xf ms xs : Int) (st : Bool) (cs : Int) (ns : Bool) (ts : ByteArray) (es md : Int) (hd : Bool) (im ix : Int) (w : World) (h0 : ¬ (NoFrac ⟨k, mf, xf, ms, xs, st, cs, ns, bys ts, es, md, hd, im, ix⟩)) : Calls Tryz.prog 80 #[prV k mf xf ms xs st cs ns ts es md hd im ix] w fun e w' => e = .returned (.bool false) ∧ Below w.heap.size w w' := by
  have C0 := hide (fun W => lacksFrac_F k mf xf ms xs st cs ns ts es md hd im ix W h0)
  clear h0
  have Bp0 := hide (Blk.newAt w (w.heap.size) (rfl) #[.int .i64 k, .int .i64 mf, .int .i64 xf, .int .i64 ms, .int .i64 xs, .bool st, .int .i64 cs, .bool ns, .string ts, .int .i64 es, .int .i64 md, .bool hd, .int .i64 im, .int .i64 ix] 61)
  have HB0 : Hid (Below w.heap.size w (w.alloc (.cells #[.int .i64 k, .int .i64 mf, .int .i64 xf, .int .i64 ms, .int .i64 xs, .bool st, .int .i64 cs, .bool ns, .string ts, .int .i64 es, .int .i64 md, .bool hd, .int .i64 im, .int .i64 ix] 61))) := ((Below.refl _ _).alloc (Nat.le_refl _) _)
  go_enter Tryz.func80, Tryz.ntmps80
  go_wp2_with fail
  refine (C0.out _).mono ?_
  rintro e w1 ⟨rfl, hb⟩
  have Bp1 := Blk.on Bp0 hb
  have HB1 := hide (HB0.out.trans (hb.mono HB0.out.size))
  clear hb Bp0 HB0 
  obtain ⟨yp0, yp1, yp2, yp3, yp4, yp5, yp6, yp7, yp8, yp9, yp10, yp11, yp12, yp13⟩ := Bp1.out.fourteen
  go_wp2
  go_ret
  exact ⟨rfl, HB1.out⟩

set_option maxHeartbeats 1000000 in
theorem fieldsOfSig_f1 (k mf xf ms xs : Int) (st : Bool) (cs : Int) (ns : Bool) (ts : ByteArray) (es md : Int) (hd : Bool) (im ix : Int) (w : World) (h0 : (NoFrac ⟨k, mf, xf, ms, xs, st, cs, ns, bys ts, es, md, hd, im, ix⟩)) (h1 : ¬ (SigOk ⟨k, mf, xf, ms, xs, st, cs, ns, bys ts, es, md, hd, im, ix⟩)) : Calls Tryz.prog 80 #[prV k mf xf ms xs st cs ns ts es md hd im ix] w fun e w' => e = .returned (.bool false) ∧ Below w.heap.size w w' := by
  have C0 := hide (fun W => lacksFrac_T k mf xf ms xs st cs ns ts es md hd im ix W h0)
  clear h0
  have C1 := hide (fun W => maySig_F k mf xf ms xs st cs ns ts es md hd im ix W h1)
  clear h1
  have Bp0 := hide (Blk.newAt w (w.heap.size) (rfl) #[.int .i64 k, .int .i64 mf, .int .i64 xf, .int .i64 ms, .int .i64 xs, .bool st, .int .i64 cs, .bool ns, .string ts, .int .i64 es, .int .i64 md, .bool hd, .int .i64 im, .int .i64 ix] 61)
  have HB0 : Hid (Below w.heap.size w (w.alloc (.cells #[.int .i64 k, .int .i64 mf, .int .i64 xf, .int .i64 ms, .int .i64 xs, .bool st, .int .i64 cs, .bool ns, .string ts, .int .i64 es, .int .i64 md, .bool hd, .int .i64 im, .int .i64 ix] 61))) := ((Below.refl _ _).alloc (Nat.le_refl _) _)
  go_enter Tryz.func80, Tryz.ntmps80
  go_wp2_with fail
  refine (C0.out _).mono ?_
  rintro e w1 ⟨rfl, hb⟩
  have Bp1 := Blk.on Bp0 hb
  have HB1 := hide (HB0.out.trans (hb.mono HB0.out.size))
  clear hb Bp0 HB0 
  obtain ⟨yp0, yp1, yp2, yp3, yp4, yp5, yp6, yp7, yp8, yp9, yp10, yp11, yp12, yp13⟩ := Bp1.out.fourteen
  go_wp2_with fail
  refine (C1.out _).mono ?_
  rintro e w2 ⟨rfl, hb⟩
  have Bp2 := Blk.on Bp1 hb
  have HB2 := hide (HB1.out.trans (hb.mono HB1.out.size))
  clear hb Bp1 HB1 yp0 yp1 yp2 yp3 yp4 yp5 yp6 yp7 yp8 yp9 yp10 yp11 yp12 yp13
  obtain ⟨yp0, yp1, yp2, yp3, yp4, yp5, yp6, yp7, yp8, yp9, yp10, yp11, yp12, yp13⟩ := Bp2.out.fourteen
  go_wp2
  go_ret
  exact ⟨rfl, HB2.out⟩

set_option maxHeartbeats 1000000 in
theorem fieldsOfSig_f2 (k mf xf ms xs cs : Int) (ns : Bool) (ts : ByteArray) (es md : Int) (hd : Bool) (im ix : Int) (w : World) (h0 : (NoFrac ⟨k, mf, xf, ms, xs, true, cs, ns, bys ts, es, md, hd, im, ix⟩)) (h1 : (SigOk ⟨k, mf, xf, ms, xs, true, cs, ns, bys ts, es, md, hd, im, ix⟩)) : Calls Tryz.prog 80 #[prV k mf xf ms xs true cs ns ts es md hd im ix] w fun e w' => e = .returned (.bool false) ∧ Below w.heap.size w w' := by
  have C0 := hide (fun W => lacksFrac_T k mf xf ms xs true cs ns ts es md hd im ix W h0)
  clear h0
  have C1 := hide (fun W => maySig_T k mf xf ms xs true cs ns ts es md hd im ix W h1)
  clear h1
  have Bp0 := hide (Blk.newAt w (w.heap.size) (rfl) #[.int .i64 k, .int .i64 mf, .int .i64 xf, .int .i64 ms, .int .i64 xs, .bool true, .int .i64 cs, .bool ns, .string ts, .int .i64 es, .int .i64 md, .bool hd, .int .i64 im, .int .i64 ix] 61)
  have HB0 : Hid (Below w.heap.size w (w.alloc (.cells #[.int .i64 k, .int .i64 mf, .int .i64 xf, .int .i64 ms, .int .i64 xs, .bool true, .int .i64 cs, .bool ns, .string ts, .int .i64 es, .int .i64 md, .bool hd, .int .i64 im, .int .i64 ix] 61))) := ((Below.refl _ _).alloc (Nat.le_refl _) _)
  go_enter Tryz.func80, Tryz.ntmps80
  go_wp2_with fail
  refine (C0.out _).mono ?_
  rintro e w1 ⟨rfl, hb⟩
  have Bp1 := Blk.on Bp0 hb
  have HB1 := hide (HB0.out.trans (hb.mono HB0.out.size))
  clear hb Bp0 HB0 
  obtain ⟨yp0, yp1, yp2, yp3, yp4, yp5, yp6, yp7, yp8, yp9, yp10, yp11, yp12, yp13⟩ := Bp1.out.fourteen
  go_wp2_with fail
  refine (C1.out _).mono ?_
  rintro e w2 ⟨rfl, hb⟩
  have Bp2 := Blk.on Bp1 hb
  have HB2 := hide (HB1.out.trans (hb.mono HB1.out.size))
  clear hb Bp1 HB1 yp0 yp1 yp2 yp3 yp4 yp5 yp6 yp7 yp8 yp9 yp10 yp11 yp12 yp13
  obtain ⟨yp0, yp1, yp2, yp3, yp4, yp5, yp6, yp7, yp8, yp9, yp10, yp11, yp12, yp13⟩ := Bp2.out.fourteen
  go_wp2
  go_ret
  exact ⟨rfl, HB2.out⟩

set_option maxHeartbeats 1000000 in
theorem fieldsOfSig_f3 (k mf xf ms xs cs : Int) (ns : Bool) (ts : ByteArray) (es md : Int) (hd : Bool) (im ix : Int) (w : World) (h0 : (NoFrac ⟨k, mf, xf, ms, xs, false, cs, ns, bys ts, es, md, hd, im, ix⟩)) (h1 : (SigOk ⟨k, mf, xf, ms, xs, false, cs, ns, bys ts, es, md, hd, im, ix⟩)) (h3 : ¬ (NoStep ⟨k, mf, xf, ms, xs, false, cs, ns, bys ts, es, md, hd, im, ix⟩)) : Calls Tryz.prog 80 #[prV k mf xf ms xs false cs ns ts es md hd im ix] w fun e w' => e = .returned (.bool false) ∧ Below w.heap.size w w' := by
  have C0 := hide (fun W => lacksFrac_T k mf xf ms xs false cs ns ts es md hd im ix W h0)
  clear h0
  have C1 := hide (fun W => maySig_T k mf xf ms xs false cs ns ts es md hd im ix W h1)
  clear h1
  have C3 := hide (fun W => lacksStep_F k mf xf ms xs false cs ns ts es md hd im ix W h3)
  clear h3
  have Bp0 := hide (Blk.newAt w (w.heap.size) (rfl) #[.int .i64 k, .int .i64 mf, .int .i64 xf, .int .i64 ms, .int .i64 xs, .bool false, .int .i64 cs, .bool ns, .string ts, .int .i64 es, .int .i64 md, .bool hd, .int .i64 im, .int .i64 ix] 61)
  have HB0 : Hid (Below w.heap.size w (w.alloc (.cells #[.int .i64 k, .int .i64 mf, .int .i64 xf, .int .i64 ms, .int .i64 xs, .bool false, .int .i64 cs, .bool ns, .string ts, .int .i64 es, .int .i64 md, .bool hd, .int .i64 im, .int .i64 ix] 61))) := ((Below.refl _ _).alloc (Nat.le_refl _) _)
  go_enter Tryz.func80, Tryz.ntmps80
  go_wp2_with fail
  refine (C0.out _).mono ?_
  rintro e w1 ⟨rfl, hb⟩
  have Bp1 := Blk.on Bp0 hb
  have HB1 := hide (HB0.out.trans (hb.mono HB0.out.size))
  clear hb Bp0 HB0 
  obtain ⟨yp0, yp1, yp2, yp3, yp4, yp5, yp6, yp7, yp8, yp9, yp10, yp11, yp12, yp13⟩ := Bp1.out.fourteen
  go_wp2_with fail
  refine (C1.out _).mono ?_
  rintro e w2 ⟨rfl, hb⟩
  have Bp2 := Blk.on Bp1 hb
  have HB2 := hide (HB1.out.trans (hb.mono HB1.out.size))
  clear hb Bp1 HB1 yp0 yp1 yp2 yp3 yp4 yp5 yp6 yp7 yp8 yp9 yp10 yp11 yp12 yp13
  obtain ⟨yp0, yp1, yp2, yp3, yp4, yp5, yp6, yp7, yp8, yp9, yp10, yp11, yp12, yp13⟩ := Bp2.out.fourteen
  go_wp2_with fail
  refine (C3.out _).mono ?_
  rintro e w3 ⟨rfl, hb⟩
  have Bp3 := Blk.on Bp2 hb
  have HB3 := hide (HB2.out.trans (hb.mono HB2.out.size))
  clear hb Bp2 HB2 yp0 yp1 yp2 yp3 yp4 yp5 yp6 yp7 yp8 yp9 yp10 yp11 yp12 yp13
  obtain ⟨yp0, yp1, yp2, yp3, yp4, yp5, yp6, yp7, yp8, yp9, yp10, yp11, yp12, yp13⟩ := Bp3.out.fourteen
  go_wp2
  go_ret
  exact ⟨rfl, HB3.out⟩

theorem fieldsOfSig_T (k mf xf ms xs : Int) (st : Bool) (cs : Int) (ns : Bool) (ts : ByteArray) (es md : Int) (hd : Bool) (im ix : Int) (w : World) (h : FieldsSig ⟨k, mf, xf, ms, xs, st, cs, ns, bys ts, es, md, hd, im, ix⟩) : Calls Tryz.prog 80 #[prV k mf xf ms xs st cs ns ts es md hd im ix] w fun e w' => e = .returned (.bool true) ∧ Below w.heap.size w w' := by
  obtain ⟨g0, g1, g2, g3⟩ := h
  simp only at g2
  subst g2
  exact fieldsOfSig_t k mf xf ms xs cs ns ts es md hd im ix w g0 g1 g3

theorem fieldsOfSig_F (k mf xf ms xs : Int) (st : Bool) (cs : Int) (ns : Bool) (ts : ByteArray) (es md : Int) (hd : Bool) (im ix : Int) (w : World) (h : ¬ FieldsSig ⟨k, mf, xf, ms, xs, st, cs, ns, bys ts, es, md, hd, im, ix⟩) : Calls Tryz.prog 80 #[prV k mf xf ms xs st cs ns ts es md hd im ix] w fun e w' => e = .returned (.bool false) ∧ Below w.heap.size w w' := by
  by_cases q0 : NoFrac ⟨k, mf, xf, ms, xs, st, cs, ns, bys ts, es, md, hd, im, ix⟩
  rotate_left
  · exact fieldsOfSig_f0 k mf xf ms xs st cs ns ts es md hd im ix w  q0
  by_cases q1 : SigOk ⟨k, mf, xf, ms, xs, st, cs, ns, bys ts, es, md, hd, im, ix⟩
  rotate_left
  · exact fieldsOfSig_f1 k mf xf ms xs st cs ns ts es md hd im ix w q0 q1
  cases st
  rotate_left
  · exact fieldsOfSig_f2 k mf xf ms xs cs ns ts es md hd im ix w q0 q1
  exact fieldsOfSig_f3 k mf xf ms xs cs ns ts es md hd im ix w q0 q1 (fun q3 => h ⟨q0, q1, rfl, q3⟩)

set_option maxHeartbeats 1000000 in
theorem fieldsOfBoth_t (k mf xf ms xs : Int) (st : Bool) (cs : Int) (ns : Bool) (ts : ByteArray) (es md : Int) (hd : Bool) (im ix : Int) (w : World) (h0 : (FracOk ⟨k, mf, xf, ms, xs, st, cs, ns, bys ts, es, md, hd, im, ix⟩)) (h1 : (SigOk ⟨k, mf, xf, ms, xs, st, cs, ns, bys ts, es, md, hd, im, ix⟩)) (h2 : (NoStep ⟨k, mf, xf, ms, xs, st, cs, ns, bys ts, es, md, hd, im, ix⟩)) : Calls Tryz.prog 83 #[prV k mf xf ms xs st cs ns ts es md hd im ix] w fun e w' => e = .returned (.bool true) ∧ Below w.heap.size w w' := by
  have C0 := hide (fun W => mayFrac_T k mf xf ms xs st cs ns ts es md hd im ix W h0)
  clear h0
  have C1 := hide (fun W => maySig_T k mf xf ms xs st cs ns ts es md hd im ix W h1)
  clear h1
  have C2 := hide (fun W => lacksStep_T k mf xf ms xs st cs ns ts es md hd im ix W h2)
  clear h2
  have Bp0 := hide (Blk.newAt w (w.heap.size) (rfl) #[.int .i64 k, .int .i64 mf, .int .i64 xf, .int .i64 ms, .int .i64 xs, .bool st, .int .i64 cs, .bool ns, .string ts, .int .i64 es, .int .i64 md, .bool hd, .int .i64 im, .int .i64 ix] 61)
  have HB0 : Hid (Below w.heap.size w (w.alloc (.cells #[.int .i64 k, .int .i64 mf, .int .i64 xf, .int .i64 ms, .int .i64 xs, .bool st, .int .i64 cs, .bool ns, .string ts, .int .i64 es, .int .i64 md, .bool hd, .int .i64 im, .int .i64 ix] 61))) := ((Below.refl _ _).alloc (Nat.le_refl _) _)
  go_enter Tryz.func83, Tryz.ntmps83
  go_wp2_with fail
  refine (C0.out _).mono ?_
  rintro e w1 ⟨rfl, hb⟩
  have Bp1 := Blk.on Bp0 hb
  have HB1 := hide (HB0.out.trans (hb.mono HB0.out.size))
  clear hb Bp0 HB0 
  obtain ⟨yp0, yp1, yp2, yp3, yp4, yp5, yp6, yp7, yp8, yp9, yp10, yp11, yp12, yp13⟩ := Bp1.out.fourteen
  go_wp2_with fail
  refine (C1.out _).mono ?_
  rintro e w2 ⟨rfl, hb⟩
  have Bp2 := Blk.on Bp1 hb
  have HB2 := hide (HB1.out.trans (hb.mono HB1.out.size))
  clear hb Bp1 HB1 yp0 yp1 yp2 yp3 yp4 yp5 yp6 yp7 yp8 yp9 yp10 yp11 yp12 yp13
  obtain ⟨yp0, yp1, yp2, yp3, yp4, yp5, yp6, yp7, yp8, yp9, yp10, yp11, yp12, yp13⟩ := Bp2.out.fourteen
  go_wp2_with fail
  refine (C2.out _).mono ?_
  rintro e w3 ⟨rfl, hb⟩
  have Bp3 := Blk.on Bp2 hb
  have HB3 := hide (HB2.out.trans (hb.mono HB2.out.size))
  clear hb Bp2 HB2 yp0 yp1 yp2 yp3 yp4 yp5 yp6 yp7 yp8 yp9 yp10 yp11 yp12 yp13
  obtain ⟨yp0, yp1, yp2, yp3, yp4, yp5, yp6, yp7, yp8, yp9, yp10, yp11, yp12, yp13⟩ := Bp3.out.fourteen
  go_wp2
  go_ret
  exact ⟨rfl, HB3.out⟩

set_option maxHeartbeats 1000000 in
theorem fieldsOfBoth_f0 (k mf xf ms xs : Int) (st : Bool) (cs : Int) (ns : Bool) (ts : ByteArray) (es md : Int) (hd : Bool) (im ix : Int) (w : World) (h0 : ¬ (FracOk ⟨k, mf, xf, ms, xs, st, cs, ns, bys ts, es, md, hd, im, ix⟩)) : Calls Tryz.prog 83 #[prV k mf xf ms xs st cs ns ts es md hd im ix] w fun e w' => e = .returned (.bool false) ∧ Below w.heap.size w w' := by
  have C0 := hide (fun W => mayFrac_F k mf xf ms xs st cs ns ts es md hd im ix W h0)
  clear h0
  have Bp0 := hide (Blk.newAt w (w.heap.size) (rfl) #[.int .i64 k, .int .i64 mf, .int .i64 xf, .int .i64 ms, .int .i64 xs, .bool st, .int .i64 cs, .bool ns, .string ts, .int .i64 es, .int .i64 md, .bool hd, .int .i64 im, .int .i64 ix] 61)
  have HB0 : Hid (Below w.heap.size w (w.alloc (.cells #[.int .i64 k, .int .i64 mf, .int .i64 xf, .int .i64 ms, .int .i64 xs, .bool st, .int .i64 cs, .bool ns, .string ts, .int .i64 es, .int .i64 md, .bool hd, .int .i64 im, .int .i64 ix] 61))) := ((Below.refl _ _).alloc (Nat.le_refl _) _)
  go_enter Tryz.func83, Tryz.ntmps83
  go_wp2_with fail
  refine (C0.out _).mono ?_
  rintro e w1 ⟨rfl, hb⟩
  have Bp1 := Blk.on Bp0 hb
  have HB1 := hide (HB0.out.trans (hb.mono HB0.out.size))
  clear hb Bp0 HB0 
  obtain ⟨yp0, yp1, yp2, yp3, yp4, yp5, yp6, yp7, yp8, yp9, yp10, yp11, yp12, yp13⟩ := Bp1.out.fourteen
  go_wp2
  go_ret
  exact ⟨rfl, HB1.out⟩

set_option maxHeartbeats 1000000 in
theorem fieldsOfBoth_f1 (k mf xf ms xs : Int) (st : Bool) (cs : Int) (ns : Bool) (ts : ByteArray) (es md : Int) (hd : Bool) (im ix : Int) (w : World) (h0 : (FracOk ⟨k, mf, xf, ms, xs, st, cs, ns, bys ts, es, md, hd, im, ix⟩)) (h1 : ¬ (SigOk ⟨k, mf, xf, ms, xs, st, cs, ns, bys ts, es, md, hd, im, ix⟩)) : Calls Tryz.prog 83 #[prV k mf xf ms xs st cs ns ts es md hd im ix] w fun e w' => e = .returned (.bool false) ∧ Below w.heap.size w w' := by
  have C0 := hide (fun W => mayFrac_T k mf xf ms xs st cs ns ts es md hd im ix W h0)
  clear h0
  have C1 := hide (fun W => maySig_F k mf xf ms xs st cs ns ts es md hd im ix W h1)
  clear h1
  have Bp0 := hide (Blk.newAt w (w.heap.size) (rfl) #[.int .i64 k, .int .i64 mf, .int .i64 xf, .int .i64 ms, .int .i64 xs, .bool st, .int .i64 cs, .bool ns, .string ts, .int .i64 es, .int .i64 md, .bool hd, .int .i64 im, .int .i64 ix] 61)
  have HB0 : Hid (Below w.heap.size w (w.alloc (.cells #[.int .i64 k, .int .i64 mf, .int .i64 xf, .int .i64 ms, .int .i64 xs, .bool st, .int .i64 cs, .bool ns, .string ts, .int .i64 es, .int .i64 md, .bool hd, .int .i64 im, .int .i64 ix] 61))) := ((Below.refl _ _).alloc (Nat.le_refl _) _)
  go_enter Tryz.func83, Tryz.ntmps83
  go_wp2_with fail
  refine (C0.out _).mono ?_
  rintro e w1 ⟨rfl, hb⟩
  have Bp1 := Blk.on Bp0 hb
  have HB1 := hide (HB0.out.trans (hb.mono HB0.out.size))
  clear hb Bp0 HB0 
  obtain ⟨yp0, yp1, yp2, yp3, yp4, yp5, yp6, yp7, yp8, yp9, yp10, yp11, yp12, yp13⟩ := Bp1.out.fourteen
  go_wp2_with fail
  refine (C1.out _).mono ?_
  rintro e w2 ⟨rfl, hb⟩
  have Bp2 := Blk.on Bp1 hb
  have HB2 := hide (HB1.out.trans (hb.mono HB1.out.size))
  clear hb Bp1 HB1 yp0 yp1 yp2 yp3 yp4 yp5 yp6 yp7 yp8 yp9 yp10 yp11 yp12 yp13
  obtain ⟨yp0, yp1, yp2, yp3, yp4, yp5, yp6, yp7, yp8, yp9, yp10, yp11, yp12, yp13⟩ := Bp2.out.fourteen
  go_wp2
  go_ret
  exact ⟨rfl, HB2.out⟩

set_option maxHeartbeats 1000000 in
theorem fieldsOfBoth_f2 (k mf xf ms xs : Int) (st : Bool) (cs : Int) (ns : Bool) (ts : ByteArray) (es md : Int) (hd : Bool) (im ix : Int) (w : World) (h0 : (FracOk ⟨k, mf, xf, ms, xs, st, cs, ns, bys ts, es, md, hd, im, ix⟩)) (h1 : (SigOk ⟨k, mf, xf, ms, xs, st, cs, ns, bys ts, es, md, hd, im, ix⟩)) (h2 : ¬ (NoStep ⟨k, mf, xf, ms, xs, st, cs, ns, bys ts, es, md, hd, im, ix⟩)) : Calls Tryz.prog 83 #[prV k mf xf ms xs st cs ns ts es md hd im ix] w fun e w' => e = .returned (.bool false) ∧ Below w.heap.size w w' := by
  have C0 := hide (fun W => mayFrac_T k mf xf ms xs st cs ns ts es md hd im ix W h0)
  clear h0
  have C1 := hide (fun W => maySig_T k mf xf ms xs st cs ns ts es md hd im ix W h1)
  clear h1
  have C2 := hide (fun W => lacksStep_F k mf xf ms xs st cs ns ts es md hd im ix W h2)
  clear h2
  have Bp0 := hide (Blk.newAt w (w.heap.size) (rfl) #[.int .i64 k, .int .i64 mf, .int .i64 xf, .int .i64 ms, .int .i64 xs, .bool st, .int .i64 cs, .bool ns, .string ts, .int .i64 es, .int .i64 md, .bool hd, .int .i64 im, .int .i64 ix] 61)
  have HB0 : Hid (Below w.heap.size w (w.alloc (.cells #[.int .i64 k, .int .i64 mf, .int .i64 xf, .int .i64 ms, .int .i64 xs, .bool st, .int .i64 cs, .bool ns, .string ts, .int .i64 es, .int .i64 md, .bool hd, .int .i64 im, .int .i64 ix] 61))) := ((Below.refl _ _).alloc (Nat.le_refl _) _)
  go_enter Tryz.func83, Tryz.ntmps83
  go_wp2_with fail
  refine (C0.out _).mono ?_
  rintro e w1 ⟨rfl, hb⟩
  have Bp1 := Blk.on Bp0 hb
  have HB1 := hide (HB0.out.trans (hb.mono HB0.out.size))
  clear hb Bp0 HB0 
  obtain ⟨yp0, yp1, yp2, yp3, yp4, yp5, yp6, yp7, yp8, yp9, yp10, yp11, yp12, yp13⟩ := Bp1.out.fourteen
  go_wp2_with fail
  refine (C1.out _).mono ?_
  rintro e w2 ⟨rfl, hb⟩
  have Bp2 := Blk.on Bp1 hb
  have HB2 := hide (HB1.out.trans (hb.mono HB1.out.size))
  clear hb Bp1 HB1 yp0 yp1 yp2 yp3 yp4 yp5 yp6 yp7 yp8 yp9 yp10 yp11 yp12 yp13
  obtain ⟨yp0, yp1, yp2, yp3, yp4, yp5, yp6, yp7, yp8, yp9, yp10, yp11, yp12, yp13⟩ := Bp2.out.fourteen
  go_wp2_with fail
  refine (C2.out _).mono ?_
  rintro e w3 ⟨rfl, hb⟩
  have Bp3 := Blk.on Bp2 hb
  have HB3 := hide (HB2.out.trans (hb.mono HB2.out.size))
  clear hb Bp2 HB2 yp0 yp1 yp2 yp3 yp4 yp5 yp6 yp7 yp8 yp9 yp10 yp11 yp12 yp13
  obtain ⟨yp0, yp1, yp2, yp3, yp4, yp5, yp6, yp7, yp8, yp9, yp10, yp11, yp12, yp13⟩ := Bp3.out.fourteen
  go_wp2
  go_ret
  exact ⟨rfl, HB3.out⟩

theorem fieldsOfBoth_T (k mf xf ms xs : Int) (st : Bool) (cs : Int) (ns : Bool) (ts : ByteArray) (es md : Int) (hd : Bool) (im ix : Int) (w : World) (h : FieldsBoth ⟨k, mf, xf, ms, xs, st, cs, ns, bys ts, es, md, hd, im, ix⟩) : Calls Tryz.prog 83 #[prV k mf xf ms xs st cs ns ts es md hd im ix] w fun e w' => e = .returned (.bool true) ∧ Below w.heap.size w w' := by
  obtain ⟨g0, g1, g2⟩ := h
  exact fieldsOfBoth_t k mf xf ms xs st cs ns ts es md hd im ix w g0 g1 g2

theorem fieldsOfBoth_F (k mf xf ms xs : Int) (st : Bool) (cs : Int) (ns : Bool) (ts : ByteArray) (es md : Int) (hd : Bool) (im ix : Int) (w : World) (h : ¬ FieldsBoth ⟨k, mf, xf, ms, xs, st, cs, ns, bys ts, es, md, hd, im, ix⟩) : Calls Tryz.prog 83 #[prV k mf xf ms xs st cs ns ts es md hd im ix] w fun e w' => e = .returned (.bool false) ∧ Below w.heap.size w w' := by
  by_cases q0 : FracOk ⟨k, mf, xf, ms, xs, st, cs, ns, bys ts, es, md, hd, im, ix⟩
  rotate_left
  · exact fieldsOfBoth_f0 k mf xf ms xs st cs ns ts es md hd im ix w  q0
  by_cases q1 : SigOk ⟨k, mf, xf, ms, xs, st, cs, ns, bys ts, es, md, hd, im, ix⟩
  rotate_left
  · exact fieldsOfBoth_f1 k mf xf ms xs st cs ns ts es md hd im ix w q0 q1
  exact fieldsOfBoth_f2 k mf xf ms xs st cs ns ts es md hd im ix w q0 q1 (fun q2 => h ⟨q0, q1, q2⟩)

set_option maxHeartbeats 1000000 in
theorem fieldsOfStep_t (k mf ms xs cs : Int) (ns : Bool) (ts : ByteArray) (es md : Int) (hd : Bool) (im ix : Int) (w : World) (htab : Tab w) (h0 : (0 ≤ mf ∧ mf ≤ 99)) (h2 : (NoSig ⟨k, mf, 0, ms, xs, false, cs, ns, bys ts, es, md, hd, im, ix⟩)) (h4 : (StepOk ⟨k, mf, 0, ms, xs, false, cs, ns, bys ts, es, md, hd, im, ix⟩)) : Calls Tryz.prog 86 #[prV k mf 0 ms xs false cs ns ts es md hd im ix] w fun e w' => e = .returned (.bool true) ∧ Below w.heap.size w w' := by
  have C0 := hide (fun W => within_t mf 0 99 W h0.1 h0.2)
  clear h0
  have C2 := hide (fun W => lacksSig_T k mf 0 ms xs false cs ns ts es md hd im ix W h2)
  clear h2
  have C4 := hide (fun W (hW : Tab W) => mayStep_T k mf 0 ms xs false cs ns ts es md hd im ix W hW h4)
  clear h4
  have HT := hide htab
  clear htab
  have Bp0 := hide (Blk.newAt w (w.heap.size) (rfl) #[.int .i64 k, .int .i64 mf, .int .i64 0, .int .i64 ms, .int .i64 xs, .bool false, .int .i64 cs, .bool ns, .string ts, .int .i64 es, .int .i64 md, .bool hd, .int .i64 im, .int .i64 ix] 61)
  have HB0 : Hid (Below w.heap.size w (w.alloc (.cells #[.int .i64 k, .int .i64 mf, .int .i64 0, .int .i64 ms, .int .i64 xs, .bool false, .int .i64 cs, .bool ns, .string ts, .int .i64 es, .int .i64 md, .bool hd, .int .i64 im, .int .i64 ix] 61))) := ((Below.refl _ _).alloc (Nat.le_refl _) _)
  go_enter Tryz.func86, Tryz.ntmps86
  go_wp2_with fail
  refine (C0.out _).mono ?_
  rintro e w1 ⟨rfl, hb⟩
  have Bp1 := Blk.on Bp0 hb
  have HB1 := hide (HB0.out.trans (hb.mono HB0.out.size))
  clear hb Bp0 HB0 
  obtain ⟨yp0, yp1, yp2, yp3, yp4, yp5, yp6, yp7, yp8, yp9, yp10, yp11, yp12, yp13⟩ := Bp1.out.fourteen
  go_wp2_with fail
  refine (C2.out _).mono ?_
  rintro e w2 ⟨rfl, hb⟩
  have Bp2 := Blk.on Bp1 hb
  have HB2 := hide (HB1.out.trans (hb.mono HB1.out.size))
  clear hb Bp1 HB1 yp0 yp1 yp2 yp3 yp4 yp5 yp6 yp7 yp8 yp9 yp10 yp11 yp12 yp13
  obtain ⟨yp0, yp1, yp2, yp3, yp4, yp5, yp6, yp7, yp8, yp9, yp10, yp11, yp12, yp13⟩ := Bp2.out.fourteen
  go_wp2_with fail
  refine (C4.out _ (HT.out.below HB2.out)).mono ?_
  rintro e w3 ⟨rfl, hb⟩
  have Bp3 := Blk.on Bp2 hb
  have HB3 := hide (HB2.out.trans (hb.mono HB2.out.size))
  clear hb Bp2 HB2 yp0 yp1 yp2 yp3 yp4 yp5 yp6 yp7 yp8 yp9 yp10 yp11 yp12 yp13
  obtain ⟨yp0, yp1, yp2, yp3, yp4, yp5, yp6, yp7, yp8, yp9, yp10, yp11, yp12, yp13⟩ := Bp3.out.fourteen
  go_wp2
  go_ret
  exact ⟨rfl, HB3.out⟩

set_option maxHeartbeats 1000000 in
theorem fieldsOfStep_f0 (k mf xf ms xs : Int) (st : Bool) (cs : Int) (ns : Bool) (ts : ByteArray) (es md : Int) (hd : Bool) (im ix : Int) (w : World) (h0 : ¬ (0 ≤ mf ∧ mf ≤ 99)) : Calls Tryz.prog 86 #[prV k mf xf ms xs st cs ns ts es md hd im ix] w fun e w' => e = .returned (.bool false) ∧ Below w.heap.size w w' := by
  have C0 := hide (fun W => within_f mf 0 99 W h0)
  clear h0
  have Bp0 := hide (Blk.newAt w (w.heap.size) (rfl) #[.int .i64 k, .int .i64 mf, .int .i64 xf, .int .i64 ms, .int .i64 xs, .bool st, .int .i64 cs, .bool ns, .string ts, .int .i64 es, .int .i64 md, .bool hd, .int .i64 im, .int .i64 ix] 61)
  have HB0 : Hid (Below w.heap.size w (w.alloc (.cells #[.int .i64 k, .int .i64 mf, .int .i64 xf, .int .i64 ms, .int .i64 xs, .bool st, .int .i64 cs, .bool ns, .string ts, .int .i64 es, .int .i64 md, .bool hd, .int .i64 im, .int .i64 ix] 61))) := ((Below.refl _ _).alloc (Nat.le_refl _) _)
  go_enter Tryz.func86, Tryz.ntmps86
  go_wp2_with fail
  refine (C0.out _).mono ?_
  rintro e w1 ⟨rfl, hb⟩
  have Bp1 := Blk.on Bp0 hb
  have HB1 := hide (HB0.out.trans (hb.mono HB0.out.size))
  clear hb Bp0 HB0 
  obtain ⟨yp0, yp1, yp2, yp3, yp4, yp5, yp6, yp7, yp8, yp9, yp10, yp11, yp12, yp13⟩ := Bp1.out.fourteen
  go_wp2
  go_ret
  exact ⟨rfl, HB1.out⟩

set_option maxHeartbeats 1000000 in
theorem fieldsOfStep_f1 (k mf xf ms xs : Int) (st : Bool) (cs : Int) (ns : Bool) (ts : ByteArray) (es md : Int) (hd : Bool) (im ix : Int) (w : World) (h0 : (0 ≤ mf ∧ mf ≤ 99)) (hx : ¬ xf = 0) : Calls Tryz.prog 86 #[prV k mf xf ms xs st cs ns ts es md hd im ix] w fun e w' => e = .returned (.bool false) ∧ Below w.heap.size w w' := by
  have C0 := hide (fun W => within_t mf 0 99 W h0.1 h0.2)
  clear h0
  have Bp0 := hide (Blk.newAt w (w.heap.size) (rfl) #[.int .i64 k, .int .i64 mf, .int .i64 xf, .int .i64 ms, .int .i64 xs, .bool st, .int .i64 cs, .bool ns, .string ts, .int .i64 es, .int .i64 md, .bool hd, .int .i64 im, .int .i64 ix] 61)
  have HB0 : Hid (Below w.heap.size w (w.alloc (.cells #[.int .i64 k, .int .i64 mf, .int .i64 xf, .int .i64 ms, .int .i64 xs, .bool st, .int .i64 cs, .bool ns, .string ts, .int .i64 es, .int .i64 md, .bool hd, .int .i64 im, .int .i64 ix] 61))) := ((Below.refl _ _).alloc (Nat.le_refl _) _)
  go_enter Tryz.func86, Tryz.ntmps86
  go_wp2_with fail
  refine (C0.out _).mono ?_
  rintro e w1 ⟨rfl, hb⟩
  have Bp1 := Blk.on Bp0 hb
  have HB1 := hide (HB0.out.trans (hb.mono HB0.out.size))
  clear hb Bp0 HB0 
  obtain ⟨yp0, yp1, yp2, yp3, yp4, yp5, yp6, yp7, yp8, yp9, yp10, yp11, yp12, yp13⟩ := Bp1.out.fourteen
  go_wp2
  go_ret
  exact ⟨rfl, HB1.out⟩

set_option maxHeartbeats 1000000 in
theorem fieldsOfStep_f2 (k mf ms xs : Int) (st : Bool) (cs : Int) (ns : Bool) (ts : ByteArray) (es md : Int) (hd : Bool) (im ix : Int) (w : World) (h0 : (0 ≤ mf ∧ mf ≤ 99)) (h2 : ¬ (NoSig ⟨k, mf, 0, ms, xs, st, cs, ns, bys ts, es, md, hd, im, ix⟩)) : Calls Tryz.prog 86 #[prV k mf 0 ms xs st cs ns ts es md hd im ix] w fun e w' => e = .returned (.bool false) ∧ Below w.heap.size w w' := by
  have C0 := hide (fun W => within_t mf 0 99 W h0.1 h0.2)
  clear h0
  have C2 := hide (fun W => lacksSig_F k mf 0 ms xs st cs ns ts es md hd im ix W h2)
  clear h2
  have Bp0 := hide (Blk.newAt w (w.heap.size) (rfl) #[.int .i64 k, .int .i64 mf, .int .i64 0, .int .i64 ms, .int .i64 xs, .bool st, .int .i64 cs, .bool ns, .string ts, .int .i64 es, .int .i64 md, .bool hd, .int .i64 im, .int .i64 ix] 61)
  have HB0 : Hid (Below w.heap.size w (w.alloc (.cells #[.int .i64 k, .int .i64 mf, .int .i64 0, .int .i64 ms, .int .i64 xs, .bool st, .int .i64 cs, .bool ns, .string ts, .int .i64 es, .int .i64 md, .bool hd, .int .i64 im, .int .i64 ix] 61))) := ((Below.refl _ _).alloc (Nat.le_refl _) _)
  go_enter Tryz.func86, Tryz.ntmps86
  go_wp2_with fail
  refine (C0.out _).mono ?_
  rintro e w1 ⟨rfl, hb⟩
  have Bp1 := Blk.on Bp0 hb
  have HB1 := hide (HB0.out.trans (hb.mono HB0.out.size))
  clear hb Bp0 HB0 
  obtain ⟨yp0, yp1, yp2, yp3, yp4, yp5, yp6, yp7, yp8, yp9, yp10, yp11, yp12, yp13⟩ := Bp1.out.fourteen
  go_wp2_with fail
  refine (C2.out _).mono ?_
  rintro e w2 ⟨rfl, hb⟩
  have Bp2 := Blk.on Bp1 hb
  have HB2 := hide (HB1.out.trans (hb.mono HB1.out.size))
  clear hb Bp1 HB1 yp0 yp1 yp2 yp3 yp4 yp5 yp6 yp7 yp8 yp9 yp10 yp11 yp12 yp13
  obtain ⟨yp0, yp1, yp2, yp3, yp4, yp5, yp6, yp7, yp8, yp9, yp10, yp11, yp12, yp13⟩ := Bp2.out.fourteen
  go_wp2
  go_ret
  exact ⟨rfl, HB2.out⟩

set_option maxHeartbeats 1000000 in
theorem fieldsOfStep_f3 (k mf ms xs cs : Int) (ns : Bool) (ts : ByteArray) (es md : Int) (hd : Bool) (im ix : Int) (w : World) (h0 : (0 ≤ mf ∧ mf ≤ 99)) (h2 : (NoSig ⟨k, mf, 0, ms, xs, true, cs, ns, bys ts, es, md, hd, im, ix⟩)) : Calls Tryz.prog 86 #[prV k mf 0 ms xs true cs ns ts es md hd im ix] w fun e w' => e = .returned (.bool false) ∧ Below w.heap.size w w' := by
  have C0 := hide (fun W => within_t mf 0 99 W h0.1 h0.2)
  clear h0
  have C2 := hide (fun W => lacksSig_T k mf 0 ms xs true cs ns ts es md hd im ix W h2)
  clear h2
  have Bp0 := hide (Blk.newAt w (w.heap.size) (rfl) #[.int .i64 k, .int .i64 mf, .int .i64 0, .int .i64 ms, .int .i64 xs, .bool true, .int .i64 cs, .bool ns, .string ts, .int .i64 es, .int .i64 md, .bool hd, .int .i64 im, .int .i64 ix] 61)
  have HB0 : Hid (Below w.heap.size w (w.alloc (.cells #[.int .i64 k, .int .i64 mf, .int .i64 0, .int .i64 ms, .int .i64 xs, .bool true, .int .i64 cs, .bool ns, .string ts, .int .i64 es, .int .i64 md, .bool hd, .int .i64 im, .int .i64 ix] 61))) := ((Below.refl _ _).alloc (Nat.le_refl _) _)
  go_enter Tryz.func86, Tryz.ntmps86
  go_wp2_with fail
  refine (C0.out _).mono ?_
  rintro e w1 ⟨rfl, hb⟩
  have Bp1 := Blk.on Bp0 hb
  have HB1 := hide (HB0.out.trans (hb.mono HB0.out.size))
  clear hb Bp0 HB0 
  obtain ⟨yp0, yp1, yp2, yp3, yp4, yp5, yp6, yp7, yp8, yp9, yp10, yp11, yp12, yp13⟩ := Bp1.out.fourteen
  go_wp2_with fail
  refine (C2.out _).mono ?_
  rintro e w2 ⟨rfl, hb⟩
  have Bp2 := Blk.on Bp1 hb
  have HB2 := hide (HB1.out.trans (hb.mono HB1.out.size))
  clear hb Bp1 HB1 yp0 yp1 yp2 yp3 yp4 yp5 yp6 yp7 yp8 yp9 yp10 yp11 yp12 yp13
  obtain ⟨yp0, yp1, yp2, yp3, yp4, yp5, yp6, yp7, yp8, yp9, yp10, yp11, yp12, yp13⟩ := Bp2.out.fourteen
  go_wp2
  go_ret
  exact ⟨rfl, HB2.out⟩

set_option maxHeartbeats 1000000 in
theorem fieldsOfStep_f4 (k mf ms xs cs : Int) (ns : Bool) (ts : ByteArray) (es md : Int) (hd : Bool) (im ix : Int) (w : World) (htab : Tab w) (h0 : (0 ≤ mf ∧ mf ≤ 99)) (h2 : (NoSig ⟨k, mf, 0, ms, xs, false, cs, ns, bys ts, es, md, hd, im, ix⟩)) (h4 : ¬ (StepOk ⟨k, mf, 0, ms, xs, false, cs, ns, bys ts, es, md, hd, im, ix⟩)) : Calls Tryz.prog 86 #[prV k mf 0 ms xs false cs ns ts es md hd im ix] w fun e w' => e = .returned (.bool false) ∧ Below w.heap.size w w' := by
  have C0 := hide (fun W => within_t mf 0 99 W h0.1 h0.2)
  clear h0
  have C2 := hide (fun W => lacksSig_T k mf 0 ms xs false cs ns ts es md hd im ix W h2)
  clear h2
  have C4 := hide (fun W (hW : Tab W) => mayStep_F k mf 0 ms xs false cs ns ts es md hd im ix W hW h4)
  clear h4
  have HT := hide htab
  clear htab
  have Bp0 := hide (Blk.newAt w (w.heap.size) (rfl) #[.int .i64 k, .int .i64 mf, .int .i64 0, .int .i64 ms, .int .i64 xs, .bool false, .int .i64 cs, .bool ns, .string ts, .int .i64 es, .int .i64 md, .bool hd, .int .i64 im, .int .i64 ix] 61)
  have HB0 : Hid (Below w.heap.size w (w.alloc (.cells #[.int .i64 k, .int .i64 mf, .int .i64 0, .int .i64 ms, .int .i64 xs, .bool false, .int .i64 cs, .bool ns, .string ts, .int .i64 es, .int .i64 md, .bool hd, .int .i64 im, .int .i64 ix] 61))) := ((Below.refl _ _).alloc (Nat.le_refl _) _)
  go_enter Tryz.func86, Tryz.ntmps86
  go_wp2_with fail
  refine (C0.out _).mono ?_
  rintro e w1 ⟨rfl, hb⟩
  have Bp1 := Blk.on Bp0 hb
  have HB1 := hide (HB0.out.trans (hb.mono HB0.out.size))
  clear hb Bp0 HB0 
  obtain ⟨yp0, yp1, yp2, yp3, yp4, yp5, yp6, yp7, yp8, yp9, yp10, yp11, yp12, yp13⟩ := Bp1.out.fourteen
  go_wp2_with fail
  refine (C2.out _).mono ?_
  rintro e w2 ⟨rfl, hb⟩
  have Bp2 := Blk.on Bp1 hb
  have HB2 := hide (HB1.out.trans (hb.mono HB1.out.size))
  clear hb Bp1 HB1 yp0 yp1 yp2 yp3 yp4 yp5 yp6 yp7 yp8 yp9 yp10 yp11 yp12 yp13
  obtain ⟨yp0, yp1, yp2, yp3, yp4, yp5, yp6, yp7, yp8, yp9, yp10, yp11, yp12, yp13⟩ := Bp2.out.fourteen
  go_wp2_with fail
  refine (C4.out _ (HT.out.below HB2.out)).mono ?_
  rintro e w3 ⟨rfl, hb⟩
  have Bp3 := Blk.on Bp2 hb
  have HB3 := hide (HB2.out.trans (hb.mono HB2.out.size))
  clear hb Bp2 HB2 yp0 yp1 yp2 yp3 yp4 yp5 yp6 yp7 yp8 yp9 yp10 yp11 yp12 yp13
  obtain ⟨yp0, yp1, yp2, yp3, yp4, yp5, yp6, yp7, yp8, yp9, yp10, yp11, yp12, yp13⟩ := Bp3.out.fourteen
  go_wp2
  go_ret
  exact ⟨rfl, HB3.out⟩

theorem fieldsOfStep_T (k mf xf ms xs : Int) (st : Bool) (cs : Int) (ns : Bool) (ts : ByteArray) (es md : Int) (hd : Bool) (im ix : Int) (w : World) (htab : Tab w) (h : FieldsStep ⟨k, mf, xf, ms, xs, st, cs, ns, bys ts, es, md, hd, im, ix⟩) : Calls Tryz.prog 86 #[prV k mf xf ms xs st cs ns ts es md hd im ix] w fun e w' => e = .returned (.bool true) ∧ Below w.heap.size w w' := by
  obtain ⟨g0, g1, g2, g3, g4⟩ := h
  simp only at g1
  subst g1
  simp only at g3
  subst g3
  exact fieldsOfStep_t k mf ms xs cs ns ts es md hd im ix w htab g0 g2 g4

theorem fieldsOfStep_F (k mf xf ms xs : Int) (st : Bool) (cs : Int) (ns : Bool) (ts : ByteArray) (es md : Int) (hd : Bool) (im ix : Int) (w : World) (htab : Tab w) (h : ¬ FieldsStep ⟨k, mf, xf, ms, xs, st, cs, ns, bys ts, es, md, hd, im, ix⟩) : Calls Tryz.prog 86 #[prV k mf xf ms xs st cs ns ts es md hd im ix] w fun e w' => e = .returned (.bool false) ∧ Below w.heap.size w w' := by
  by_cases q0 : 0 ≤ mf ∧ mf ≤ 99
  rotate_left
  · exact fieldsOfStep_f0 k mf xf ms xs st cs ns ts es md hd im ix w  q0
  by_cases q1 : xf = 0
  rotate_left
  · exact fieldsOfStep_f1 k mf xf ms xs st cs ns ts es md hd im ix w q0 q1
  subst q1
  by_cases q2 : NoSig ⟨k, mf, 0, ms, xs, st, cs, ns, bys ts, es, md, hd, im, ix⟩
  rotate_left
  · exact fieldsOfStep_f2 k mf ms xs st cs ns ts es md hd im ix w q0 q2
  cases st
  rotate_left
  · exact fieldsOfStep_f3 k mf ms xs cs ns ts es md hd im ix w q0 q2
  exact fieldsOfStep_f4 k mf ms xs cs ns ts es md hd im ix w htab q0 q2 (fun q4 => h ⟨q0, rfl, q2, rfl, q4⟩)

end Go.Proofs.YtobloamnaemfnaaGreatDoor

namespace Go.Proofs.YtobloamnaemfnaaGreatDoor
open Go.RowKit

theorem kinds_at0 (W : World) : (Instr.index 69 (.agg #[.func (.func 74) #[] #[], .func (.func 75) #[] #[], .func (.func 76) #[] #[], .func (.func 77) #[] #[], .func (.func 78) #[] #[], .func (.func 79) #[] #[], .func (.func 80) #[] #[], .func (.func 81) #[] #[], .func (.func 82) #[] #[], .func (.func 83) #[] #[], .func (.func 84) #[] #[], .func (.func 85) #[] #[], .func (.func 86) #[] #[], .func (.func 87) #[] #[], .func (.func 79) #[] #[]]) (.int .i64 0)).run Tryz.prog W = .ok (.agg #[.func (.func 74) #[] #[], .func (.func 75) #[] #[], .func (.func 76) #[] #[]]) W := by kernel_rfl
theorem kinds_at1 (W : World) : (Instr.index 69 (.agg #[.func (.func 74) #[] #[], .func (.func 75) #[] #[], .func (.func 76) #[] #[], .func (.func 77) #[] #[], .func (.func 78) #[] #[], .func (.func 79) #[] #[], .func (.func 80) #[] #[], .func (.func 81) #[] #[], .func (.func 82) #[] #[], .func (.func 83) #[] #[], .func (.func 84) #[] #[], .func (.func 85) #[] #[], .func (.func 86) #[] #[], .func (.func 87) #[] #[], .func (.func 79) #[] #[]]) (.int .i64 1)).run Tryz.prog W = .ok (.agg #[.func (.func 77) #[] #[], .func (.func 78) #[] #[], .func (.func 79) #[] #[]]) W := by kernel_rfl
theorem kinds_at2 (W : World) : (Instr.index 69 (.agg #[.func (.func 74) #[] #[], .func (.func 75) #[] #[], .func (.func 76) #[] #[], .func (.func 77) #[] #[], .func (.func 78) #[] #[], .func (.func 79) #[] #[], .func (.func 80) #[] #[], .func (.func 81) #[] #[], .func (.func 82) #[] #[], .func (.func 83) #[] #[], .func (.func 84) #[] #[], .func (.func 85) #[] #[], .func (.func 86) #[] #[], .func (.func 87) #[] #[], .func (.func 79) #[] #[]]) (.int .i64 2)).run Tryz.prog W = .ok (.agg #[.func (.func 80) #[] #[], .func (.func 81) #[] #[], .func (.func 82) #[] #[]]) W := by kernel_rfl
theorem kinds_at3 (W : World) : (Instr.index 69 (.agg #[.func (.func 74) #[] #[], .func (.func 75) #[] #[], .func (.func 76) #[] #[], .func (.func 77) #[] #[], .func (.func 78) #[] #[], .func (.func 79) #[] #[], .func (.func 80) #[] #[], .func (.func 81) #[] #[], .func (.func 82) #[] #[], .func (.func 83) #[] #[], .func (.func 84) #[] #[], .func (.func 85) #[] #[], .func (.func 86) #[] #[], .func (.func 87) #[] #[], .func (.func 79) #[] #[]]) (.int .i64 3)).run Tryz.prog W = .ok (.agg #[.func (.func 83) #[] #[], .func (.func 84) #[] #[], .func (.func 85) #[] #[]]) W := by kernel_rfl
theorem kinds_at4 (W : World) : (Instr.index 69 (.agg #[.func (.func 74) #[] #[], .func (.func 75) #[] #[], .func (.func 76) #[] #[], .func (.func 77) #[] #[], .func (.func 78) #[] #[], .func (.func 79) #[] #[], .func (.func 80) #[] #[], .func (.func 81) #[] #[], .func (.func 82) #[] #[], .func (.func 83) #[] #[], .func (.func 84) #[] #[], .func (.func 85) #[] #[], .func (.func 86) #[] #[], .func (.func 87) #[] #[], .func (.func 79) #[] #[]]) (.int .i64 4)).run Tryz.prog W = .ok (.agg #[.func (.func 86) #[] #[], .func (.func 87) #[] #[], .func (.func 79) #[] #[]]) W := by kernel_rfl

end Go.Proofs.YtobloamnaemfnaaGreatDoor
