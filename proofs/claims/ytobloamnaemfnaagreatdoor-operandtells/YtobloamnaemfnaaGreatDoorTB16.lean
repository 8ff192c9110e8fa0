/-
  What quipuref08's Of does, as it should.
  What operand's May does.
  quipulaw08's awake answers true.
  What quipuref08's Of answers, whatever it is handed; OperandTells answers true, whatever it is handed.
-/
import Derived.Test.YtobloamnaemfnaaGreatDoorTB15
import Derived.Test.YtobloamnaemfnaaGreatDoorTB14
namespace Go.Proofs.YtobloamnaemfnaaGreatDoor
open Go.RowKit

set_option maxRecDepth 100000 in
set_option maxHeartbeats 8000000 in
theorem rof_true (n : Bool) (ti tf : ByteArray) (E : Nat) (w : World) (h : MayS ⟨0, n, bys ti, bys tf, (E : Int), true⟩) (ha : ti.size ≤ 4096) (hb : tf.size ≤ 4096) (hE : E ≤ 2001) : Calls Tryz.prog 19 #[shV 0 n ti tf (E : Int) true] w fun e w' => e = .returned (.tuple #[.agg #[.string ⟨(operS ⟨0, n, bys ti, bys tf, (E : Int), true⟩).i.toArray⟩, .int .i64 (operS ⟨0, n, bys ti, bys tf, (E : Int), true⟩).v, .int .i64 (operS ⟨0, n, bys ti, bys tf, (E : Int), true⟩).w, .string ⟨(operS ⟨0, n, bys ti, bys tf, (E : Int), true⟩).f.toArray⟩, .string ⟨(operS ⟨0, n, bys ti, bys tf, (E : Int), true⟩).t.toArray⟩, .int .i64 (operS ⟨0, n, bys ti, bys tf, (E : Int), true⟩).e], .int .i64 0]) ∧ Below w.heap.size w w' := by
  have HM := hide (fun W => rmayS_T 0 n ti tf (E : Int) true W h)
  clear h
  have hE0 : decide ((E : Int) < 0) = false := decide_eq_false (by omega)
  obtain ⟨i0, hi, hz0, hz1, hz2⟩ := info_parts Tryz.infoBz
  have Bs0 := hide ((Blk.newAt w (w.heap.size) (rfl) #[.int .i64 0, .bool n, .string ti, .string tf, .int .i64 (E : Int), .bool true] 34).alloc (.cells #[.string ⟨#[]⟩, .int .i64 0, .int .i64 0, .string ⟨#[]⟩, .string ⟨#[]⟩, .int .i64 0] 41))
  have Br0 := hide (Blk.newAt (w.alloc (.cells #[.int .i64 0, .bool n, .string ti, .string tf, .int .i64 (E : Int), .bool true] 34)) (w.heap.size + 1) (by simp) #[.string ⟨#[]⟩, .int .i64 0, .int .i64 0, .string ⟨#[]⟩, .string ⟨#[]⟩, .int .i64 0] 41)
  have HB0 : Hid (Below w.heap.size w ((w.alloc (.cells #[.int .i64 0, .bool n, .string ti, .string tf, .int .i64 (E : Int), .bool true] 34)).alloc (.cells #[.string ⟨#[]⟩, .int .i64 0, .int .i64 0, .string ⟨#[]⟩, .string ⟨#[]⟩, .int .i64 0] 41))) := (((Below.refl _ _).alloc (Nat.le_refl _) _).alloc (by simp <;> omega) _)
  go_enter Tryz.func19, Tryz.ntmps19
  go_wp2_with fail
  refine (HM.out _).mono ?_
  rintro e w1 ⟨rfl, hb⟩
  have Bs1 := Blk.on Bs0 hb
  have Br1 := Blk.on Br0 hb
  have HB1 := hide (HB0.out.trans (hb.mono HB0.out.size))
  clear hb Bs0 Br0 HB0 
  obtain ⟨ys0, ys1, ys2, ys3, ys4, ys5⟩ := Bs1.out.six
  obtain ⟨yr0, yr1, yr2, yr3, yr4, yr5⟩ := Br1.out.six
  clear HM
  have cva := convB_by ti
  have cvb := convB_by tf
  have HSW : Hid (∀ w', Below w1.heap.size w1 w' → w'.cell? ⟨w.heap.size, 2, none⟩ = some (.string ti) ∧ w'.cell? ⟨w.heap.size, 3, none⟩ = some (.string tf)) := fun w' hb => ⟨(Bs1.out.below hb Bs1.out.lt).cell 2, (Bs1.out.below hb Bs1.out.lt).cell 3⟩
  go_upto_region 3 with (fail)
  go_cut [4, 5, 6] (fun va vb vc wx => CutB w1 ti tf va vb vc wx)
  case first =>
    refine wp_region_held_drew (S := (fun w' => w'.cell? ⟨w.heap.size, 2, none⟩ = some (.string ti) ∧ w'.cell? ⟨w.heap.size, 3, none⟩ = some (.string tf))) (by kernel_rfl) ?_ (fun hHeld => ?_)
    · (try dsimp only)
      go_keep
    refine wpAnyH_take (i := 0) (oi := Oper.mk (some 27) _ _ _ _ _) (v := .pointer (some ⟨w.heap.size, 2, none⟩)) rfl (by kernel_rfl) (by kernel_rfl) (by kernel_rfl) (fun _ _ _ h => h) (Or.inl ⟨by rfl, ?_⟩) (by assumption) ?_
    · intro wX hSw
      (try dsimp only at hSw)
      go_simp
    simp only [Act.put, List.setIfInBounds_toArray, List.set_cons_succ, List.set_cons_zero]
    refine wpAnyH_take (i := 1) (oi := Oper.mk (some 28) _ _ _ _ _) (v := .string ti) rfl (by kernel_rfl) (by kernel_rfl) (by kernel_rfl) (fun _ _ _ h => h) (Or.inl ⟨by rfl, ?_⟩) (by assumption) ?_
    · intro wX hSw
      (try dsimp only at hSw)
      go_simp
    simp only [Act.put, List.setIfInBounds_toArray, List.set_cons_succ, List.set_cons_zero]
    refine wpAnyH_take (i := 3) (oi := Oper.mk (some 30) _ _ _ _ _) (v := .pointer (some ⟨w.heap.size, 3, none⟩)) rfl (by kernel_rfl) (by kernel_rfl) (by kernel_rfl) (fun _ _ _ h => h) (Or.inl ⟨by rfl, ?_⟩) (by assumption) ?_
    · intro wX hSw
      (try dsimp only at hSw)
      go_simp
    simp only [Act.put, List.setIfInBounds_toArray, List.set_cons_succ, List.set_cons_zero]
    refine wpAnyH_take (i := 4) (oi := Oper.mk (some 31) _ _ _ _ _) (v := .string tf) rfl (by kernel_rfl) (by kernel_rfl) (by kernel_rfl) (fun _ _ _ h => h) (Or.inl ⟨by rfl, ?_⟩) (by assumption) ?_
    · intro wX hSw
      (try dsimp only at hSw)
      go_simp
    simp only [Act.put, List.setIfInBounds_toArray, List.set_cons_succ, List.set_cons_zero]
    have bA : Below w1.heap.size w1 (Lib.bytesWorld w1.drew 5 ti) := ((Below.refl w1.heap.size w1).drew).trans (Joins.below_bytesWorld _ w1.drew 5 ti (Nat.le_refl _))
    have bB : Below w1.heap.size w1 (Lib.bytesWorld w1.drew 5 tf) := ((Below.refl w1.heap.size w1).drew).trans (Joins.below_bytesWorld _ w1.drew 5 tf (Nat.le_refl _))
    have BA := hide bA
    have BB := hide bB
    clear bA bB
    refine wpAnyH_ready (rs := [2, 5]) (by kernel_rfl) (by simp) ?_
    refine AllReadyH.cons (o := Oper.mk (some 29) _ _ _ _ _) rfl (fun K hK => ?_) (AllReadyH.cons (o := Oper.mk (some 32) _ _ _ _ _) rfl (fun K hK => ?_) AllReadyH.nil)
    · go_simp
      refine hK.out _ _ ?_ (fun hHeld => ?_)
      · exact HSW.out _ BA.out
      clear hK K
      refine wpAnyH_take (i := 6) (oi := Oper.mk (some 4) _ _ _ _ _) (v := .slice (some ⟨w1.heap.size, 0, none⟩) ti.size (grownCap w1.drew ti.size 0 5)) rfl (by kernel_rfl) (by kernel_rfl) (by kernel_rfl) (fun _ _ _ h => h) (Or.inl ⟨by rfl, ?_⟩) (by assumption) ?_
      · intro wX hSw
        (try dsimp only at hSw)
        go_simp
      simp only [Act.put, List.setIfInBounds_toArray, List.set_cons_succ, List.set_cons_zero]
      refine wpAnyH_ready (rs := [5]) (by kernel_rfl) (by simp) ?_
      refine AllReadyH.cons (o := Oper.mk (some 32) _ _ _ _ _) rfl (fun K hK => ?_) AllReadyH.nil
      go_simp
      refine hK.out _ _ ?_ (fun hHeld => ?_)
      · exact HSW.out _ (BA.out.trans ((bytes_below (Lib.bytesWorld w1.drew 5 ti) 5 tf).mono BA.out.size))
      clear hK K
      refine wpAnyH_take (i := 7) (oi := Oper.mk (some 5) _ _ _ _ _) (v := .slice (some ⟨(Lib.bytesWorld w1.drew 5 ti).heap.size, 0, none⟩) tf.size (grownCap (Lib.bytesWorld w1.drew 5 ti) tf.size 0 5)) rfl (by kernel_rfl) (by kernel_rfl) (by kernel_rfl) (fun _ _ _ h => h) (Or.inl ⟨by rfl, ?_⟩) (by assumption) ?_
      · intro wX hSw
        (try dsimp only at hSw)
        go_simp
      simp only [Act.put, List.setIfInBounds_toArray, List.set_cons_succ, List.set_cons_zero]
      refine wpAnyH_take (i := 8) (oi := Oper.mk (some 6) _ _ _ _ _) (v := .int .i64 0) rfl (by kernel_rfl) (by kernel_rfl) (by kernel_rfl) (fun _ _ _ h => h) (Or.inl ⟨by rfl, ?_⟩) (by assumption) ?_
      · intro wX hSw
        (try dsimp only at hSw)
        go_simp
      simp only [Act.put, List.setIfInBounds_toArray, List.set_cons_succ, List.set_cons_zero]
      refine wpAnyH_done (by kernel_rfl) ?_ _
      go_wp2_with fail
      go_meet
      exact cutB_a w1 ti tf
    · go_simp
      refine hK.out _ _ ?_ (fun hHeld => ?_)
      · exact HSW.out _ BB.out
      clear hK K
      refine wpAnyH_ready (rs := [2]) (by kernel_rfl) (by simp) ?_
      refine AllReadyH.cons (o := Oper.mk (some 29) _ _ _ _ _) rfl (fun K hK => ?_) AllReadyH.nil
      go_simp
      refine hK.out _ _ ?_ (fun hHeld => ?_)
      · exact HSW.out _ (BB.out.trans ((bytes_below (Lib.bytesWorld w1.drew 5 tf) 5 ti).mono BB.out.size))
      clear hK K
      refine wpAnyH_take (i := 6) (oi := Oper.mk (some 4) _ _ _ _ _) (v := .slice (some ⟨(Lib.bytesWorld w1.drew 5 tf).heap.size, 0, none⟩) ti.size (grownCap (Lib.bytesWorld w1.drew 5 tf) ti.size 0 5)) rfl (by kernel_rfl) (by kernel_rfl) (by kernel_rfl) (fun _ _ _ h => h) (Or.inl ⟨by rfl, ?_⟩) (by assumption) ?_
      · intro wX hSw
        (try dsimp only at hSw)
        go_simp
      simp only [Act.put, List.setIfInBounds_toArray, List.set_cons_succ, List.set_cons_zero]
      refine wpAnyH_take (i := 7) (oi := Oper.mk (some 5) _ _ _ _ _) (v := .slice (some ⟨w1.heap.size, 0, none⟩) tf.size (grownCap w1.drew tf.size 0 5)) rfl (by kernel_rfl) (by kernel_rfl) (by kernel_rfl) (fun _ _ _ h => h) (Or.inl ⟨by rfl, ?_⟩) (by assumption) ?_
      · intro wX hSw
        (try dsimp only at hSw)
        go_simp
      simp only [Act.put, List.setIfInBounds_toArray, List.set_cons_succ, List.set_cons_zero]
      refine wpAnyH_take (i := 8) (oi := Oper.mk (some 6) _ _ _ _ _) (v := .int .i64 0) rfl (by kernel_rfl) (by kernel_rfl) (by kernel_rfl) (fun _ _ _ h => h) (Or.inl ⟨by rfl, ?_⟩) (by assumption) ?_
      · intro wX hSw
        (try dsimp only at hSw)
        go_simp
      simp only [Act.put, List.setIfInBounds_toArray, List.set_cons_succ, List.set_cons_zero]
      refine wpAnyH_done (by kernel_rfl) ?_ _
      go_wp2_with fail
      go_meet
      exact cutB_b w1 ti tf
  obtain ⟨⟨rfl, ⟨g0, c0, rfl, hob⟩, ⟨g, cf, rfl, hof, hne⟩, hbc⟩⟩ := hcut
  obtain ⟨X, hX⟩ : ∃ x, x = wc := ⟨_, rfl⟩
  subst hX
  clear ys0 ys1 ys2 ys3 ys4 ys5 yr0 yr1 yr2 yr3 yr4 yr5
  have Bs9 := hide (Bs1.out.below hbc Bs1.out.lt)
  obtain ⟨ys0, ys1, ys2, ys3, ys4, ys5⟩ := Bs9.out.six
  obtain ⟨hsz0, hgB, hgX, hcf, hcl⟩ := hof.cells
  clear hsz0
  have hcl2 : ∀ i, i < tf.size → X.cell? ⟨g, i, none⟩ = some (.int .u8 ((byt (bys tf) i : Nat) : Int)) := fun i hi => by
    have hl := bys_len tf
    rw [hcl i (by rw [List.length_map, hl]; exact hi)]
    unfold byt
    simp [show i < (bys tf).length by omega]
  have hm0 : moveA (bys ti) (bys tf) 0 = bys ti := by unfold moveA; simp
  have OB0 : Hid (Ob w1.heap.size X (.slice (some ⟨g0, 0, none⟩) ti.size c0) ((moveA (bys ti) (bys tf) 0).map UInt8.toNat)) := by rw [hm0]; exact hob
  have CL0 := hide hcl2
  have NE0 := hide hne
  have BC0 := hide hbc
  have GX := hide (And.intro hgB hgX)
  have BRK := hide (fun (w2 : World) (hb : Below w1.heap.size w1 w2) => Br1.out.below hb Br1.out.lt)
  have LRK := hide Br1.out.lt
  have HBK := hide (fun (w2 : World) (hb : Below w1.heap.size w1 w2) => HB1.out.trans (hb.mono HB1.out.size))
  clear hob hof hne hbc hgB hgX hcl hcl2 hm0 HSW cva cvb Bs1 Br1 HB1 
  go_wp2
  clear ys0 ys1 ys2 ys3 ys4 ys5 Bs9
  go_loopw [4, 5, 7] (fun a b i wr => ∃ j o : Nat, j ≤ E ∧ Hid (Ob w1.heap.size wr a ((moveA (bys ti) (bys tf) j).map UInt8.toNat)) ∧ b = .slice (some ⟨g, o, none⟩) (tf.size - min j tf.size) (cf - min j tf.size) ∧ (j < tf.size → o = j) ∧ i = .int .i64 (j : Int) ∧ Hid (a.ownBlock ≠ some g) ∧ Hid (Below w1.heap.size w1 wr) ∧ Hid (∀ i, i < tf.size → wr.cell? ⟨g, i, none⟩ = some (.int .u8 ((byt (bys tf) i : Nat) : Int))) ∧ Hid (g < wr.heap.size)) (fun _ _ i _ => E - (intOf i).toNat)
  case atStart => exact ⟨0, 0, Nat.zero_le _, OB0, by simp, fun _ => rfl, rfl, NE0, BC0, CL0, GX.out.2⟩
  case round =>
    clear OB0 NE0 BC0 CL0
    obtain ⟨j, o, hj, hob, rfl, ho, rfl, hne, hbw, hcl, hgl⟩ := hrel
    by_cases hlt : j < E
    · have g9 : (j : Int) < (E : Int) := by omega
      by_cases hN : j < tf.size
      · obtain rfl : j = o := (ho hN).symm
        have hm : min j tf.size = j := Nat.min_eq_left (by omega)
        rw [hm]
        have c0 := hcl.out j hN
        obtain ⟨d, hd⟩ : ∃ d, d = byt (bys tf) j := ⟨_, rfl⟩
        rw [← hd] at c0
        have EY := hide (move_more (a := bys ti) (b := bys tf) (j := j) (by rw [bys_len]; exact hN))
        rw [← hd] at EY
        have hpos : (0 : Int) < ((tf.size - j : Nat) : Int) := by omega
        have hone : (1 : Int) ≤ ((tf.size - j : Nat) : Int) := by omega
        have hd2 : d < 256 := by rw [hd]; exact byt_lt _ _
        have HMN : Hid (min (j + 1) tf.size = j + 1) := Nat.min_eq_left (by omega)
        clear hd hm
        have HLT := hide (hob.out.lt)
        have hl : ((moveA (bys ti) (bys tf) j).map UInt8.toNat).length ≤ 1000000 := by rw [List.length_map, moveA_len, bys_len]; omega
        obtain ⟨ys, hys⟩ : ∃ ys, ys = (moveA (bys ti) (bys tf) j).map UInt8.toNat := ⟨_, rfl⟩
        rw [← hys] at hob EY hl
        have HX := hide (hob.out.below ((Below.refl _ _).alloc (Nat.le_refl _) (Obj.cells #[.int .u8 (d : Int)] 5)))
        clear hys
        go_wp2_with (at_builtin; refine append_ob _ rfl _ _ 50 rfl i0 Tryz.underlying50 hi hz0 hz1 hz2 _ _ rfl HX.out ⟨wr.heap.size, 0, none⟩ 1 d rfl ?c1y ?c2y ?_)
        try case c1y => first | exact new_cell wr _ _ | simp
        try case c2y => exact hl
        intro v' w2 hob' hgr hli
        have hb1 := hbw.out.alloc hbw.out.size (Obj.cells #[.int .u8 (d : Int)] 5)
        have HB1 := hide (hb1.grown hgr hb1.size (fun q hq => (HLT.out q hq).1))
        have hO1 : Ob w1.heap.size w2 v' ((moveA (bys ti) (bys tf) (j + 1)).map UInt8.toNat) := by rw [EY.out]; exact hob'
        have HO1 := hide hO1
        have hgb : w2.heap[g]? = wr.heap[g]? := (hgr.block g (by have := hgl.out; simp; omega) (fun e => hne.out e.symm)).trans (Below.heap_alloc _ _ _ hgl.out)
        have HC1 := hide (fun i (hi : i < tf.size) => (World.cell?_of_block (a := ⟨g, i, none⟩) hgb).trans (hcl.out i hi))
        have HG1 := hide (Nat.lt_of_lt_of_le hgl.out (Nat.le_trans (by simp) hgr.size))
        have HNE1 : Hid (v'.ownBlock ≠ some g) := fun e => (hli g e).elim (fun q => hne.out q) (fun q => by have := hgl.out; (try simp at q); omega)
        clear hob hbw HX HLT hob' hgr hb1 hO1 EY hl hgb hcl hgl hne hli c0
        by_cases hcap : cf - j = 1
        · go_wp2
          go_roundw
          case rel => exact ⟨j + 1, j, by omega, HO1, by rw [HMN.out]; congr 1 <;> omega, by omega, by go_num, HNE1, HB1, HC1, HG1⟩
          case measure => simp [intOf]; omega
        · go_wp2
          go_roundw
          case rel => exact ⟨j + 1, (j + 1), by omega, HO1, by rw [HMN.out]; congr 1 <;> omega, by omega, by go_num, HNE1, HB1, HC1, HG1⟩
          case measure => simp [intOf]; omega
      · have hm : min j tf.size = tf.size := Nat.min_eq_right (by omega)
        rw [hm, Nat.sub_self]
        have EY := hide (move_nought (a := bys ti) (b := bys tf) (j := j) (by rw [bys_len]; exact hN))
        have HMN : Hid (min (j + 1) tf.size = tf.size) := Nat.min_eq_right (by omega)
        clear hm
        have HLT := hide (hob.out.lt)
        have hl : ((moveA (bys ti) (bys tf) j).map UInt8.toNat).length ≤ 1000000 := by rw [List.length_map, moveA_len, bys_len]; omega
        obtain ⟨ys, hys⟩ : ∃ ys, ys = (moveA (bys ti) (bys tf) j).map UInt8.toNat := ⟨_, rfl⟩
        rw [← hys] at hob EY hl
        have HX := hide (hob.out.below ((Below.refl _ _).alloc (Nat.le_refl _) (Obj.cells #[.int .u8 48] 5)))
        clear hys
        go_wp2_with (at_builtin; refine append_ob _ rfl _ _ 50 rfl i0 Tryz.underlying50 hi hz0 hz1 hz2 _ _ rfl HX.out ⟨wr.heap.size, 0, none⟩ 1 48 rfl ?c1n ?c2n ?_)
        try case c1n => first | exact new_cell wr _ _ | simp
        try case c2n => exact hl
        intro v' w2 hob' hgr hli
        have hb1 := hbw.out.alloc hbw.out.size (Obj.cells #[.int .u8 48] 5)
        have HB1 := hide (hb1.grown hgr hb1.size (fun q hq => (HLT.out q hq).1))
        have hO1 : Ob w1.heap.size w2 v' ((moveA (bys ti) (bys tf) (j + 1)).map UInt8.toNat) := by rw [EY.out]; exact hob'
        have HO1 := hide hO1
        have hgb : w2.heap[g]? = wr.heap[g]? := (hgr.block g (by have := hgl.out; simp; omega) (fun e => hne.out e.symm)).trans (Below.heap_alloc _ _ _ hgl.out)
        have HC1 := hide (fun i (hi : i < tf.size) => (World.cell?_of_block (a := ⟨g, i, none⟩) hgb).trans (hcl.out i hi))
        have HG1 := hide (Nat.lt_of_lt_of_le hgl.out (Nat.le_trans (by simp) hgr.size))
        have HNE1 : Hid (v'.ownBlock ≠ some g) := fun e => (hli g e).elim (fun q => hne.out q) (fun q => by have := hgl.out; (try simp at q); omega)
        clear hob hbw HX HLT hob' hgr hb1 hO1 EY hl hgb hcl hgl hne hli
        go_wp2
        go_roundw
        case rel => exact ⟨j + 1, o, by omega, HO1, by rw [HMN.out]; congr 1 <;> omega, by omega, by go_num, HNE1, HB1, HC1, HG1⟩
        case measure => simp [intOf]; omega
    · obtain rfl : j = E := by omega
      have g9 : ¬ (j : Int) < (j : Int) := by omega
      obtain ⟨ga, ca, hva⟩ : ∃ ga ca, u4 = Value.slice (some ⟨ga, 0, none⟩) (moveA (bys ti) (bys tf) j).length ca := by
        obtain ⟨ga, ca, cur, fz, e, _⟩ := hob.out
        exact ⟨ga, ca, by rw [e, List.length_map]⟩
      subst hva
      obtain ⟨hsz1, hgaB, hgaX, hsz2, hac⟩ := hob.out.cells
      clear hsz1 hsz2
      obtain ⟨lf, hlf⟩ : ∃ lf, lf = (bys tf).drop j := ⟨_, rfl⟩
      have hll : lf.length = tf.size - min j tf.size := by rw [hlf, List.length_drop, bys_len]; omega
      rw [← hll]
      have hfc : ∀ i, i < lf.length → wr.cell? ⟨g, o + i, none⟩ = some (.int .u8 ((byt lf i : Nat) : Int)) := fun i hi => by
        have hJ : j < tf.size := by omega
        rw [ho hJ, hcl.out _ (by omega), hlf, byt_drop]
      have CV : Hid (CvS ga g o (moveA (bys ti) (bys tf) j) lf wr) := ⟨fun i hi => by
        rw [hac i (by rw [List.length_map]; exact hi)]
        unfold byt
        simp [hi], hfc⟩
      have FC := hide hfc
      have hls : lf.length ≤ 4096 := by omega
      obtain ⟨A, hA⟩ : ∃ A, A = moveA (bys ti) (bys tf) j := ⟨_, rfl⟩
      rw [← hA] at CV ⊢
      obtain ⟨off, hoff⟩ : ∃ off, off = o := ⟨_, rfl⟩
      rw [← hoff] at CV FC ⊢
      obtain ⟨cf2, hcf2⟩ : ∃ c, c = cf - min j tf.size := ⟨_, rfl⟩
      rw [← hcf2]
      have hcl2 : lf.length ≤ cf2 := by omega
      have NGA : Hid (¬ w.heap.size + 1 = ga ∧ ¬ w.heap.size + 1 = g) := by have h1 := LRK.out; have h2 := GX.out.1; exact ⟨by omega, by omega⟩
      have HOP := hide (fun (q : Nat) (hq : shortN lf = q) => oper_is (n := n) (ti := ti) (tf := tf) (x := (j : Int)) (cm := true) (j := j) (A := A) (lf := lf) (by unfold expO; simp) hA hlf hq)
      clear hob hac hcl hfc hne hgl hgaB hgaX hA hlf hll hoff hcf2 GX hj ho
      go_wp2
      go_loop [8] (fun v => ∃ q : Nat, q ≤ lf.length ∧ v = .int .i64 (q : Int) ∧ Hid (shortK lf q = shortN lf)) (fun v => (intOf v).toNat)
      case atStart => exact ⟨lf.length, Nat.le_refl _, rfl, rfl⟩
      case round =>
        obtain ⟨q, hq, rfl, hsk⟩ := hrel
        by_cases hstop : q ≠ 0 ∧ byt lf (q - 1) = 48
        · obtain ⟨hq0, hb⟩ := hstop
          obtain ⟨p, rfl⟩ : ∃ p, q = p + 1 := ⟨q - 1, by omega⟩
          have c0 := FC.out p (by omega)
          rw [show p + 1 - 1 = p from rfl] at hb
          rw [hb] at c0
          have HSK : Hid (shortK lf p = shortN lf) := by
            have h := hsk.out
            unfold shortK at h
            rw [if_pos hb] at h
            exact h
          have hpos : (0 : Int) < ((p + 1 : Nat) : Int) := by omega
          have hpl : (p : Int) < (lf.length : Int) := by omega
          clear hsk hb hq0
          go_wp2
          go_round
          case rel => exact ⟨p, by omega, by go_num, HSK⟩
          case measure => simp [intOf]
        · have hsn : shortN lf = q := by
            have h1 := shortK_self (l := lf) (k := q) (by
              by_cases h0 : q = 0
              · exact .inl h0
              · exact .inr fun e => hstop ⟨h0, e⟩)
            rw [h1] at hsk
            exact hsk.out.symm
          have hex : q = 0 ∨ ∃ p b : Nat, q = p + 1 ∧ ¬ b = 48 ∧ b < 256 ∧ wr.cell? ⟨g, off + p, none⟩ = some (.int .u8 (b : Int)) := by
            by_cases h0 : q = 0
            · exact .inl h0
            · refine .inr ⟨q - 1, byt lf (q - 1), by omega, fun e => hstop ⟨h0, e⟩, byt_lt _ _, FC.out _ (by omega)⟩
          have HSN := hide hsn
          clear hstop hsk hsn FC
          have HBW := hide (HBK.out _ hbw.out)
          have CVD : Hid (CvS ga g off A lf wr.drew) := CV.out.set NGA.out.1 NGA.out.2 (fun _ _ => rfl)
          have CVP : Hid (∀ y0 y1 y2 y3 y4 y5, CvS ga g off A lf ((((((wr.setCell ⟨w.heap.size + 1, 0, none⟩ y0).setCell ⟨w.heap.size + 1, 1, none⟩ y1).setCell ⟨w.heap.size + 1, 2, none⟩ y2).setCell ⟨w.heap.size + 1, 3, none⟩ y3).setCell ⟨w.heap.size + 1, 4, none⟩ y4).setCell ⟨w.heap.size + 1, 5, none⟩ y5).drew) := fun y0 y1 y2 y3 y4 y5 => CV.out.set NGA.out.1 NGA.out.2 (fun b hb => put6_drew wr _ _ _ _ _ _ _ b hb)
          have KV := hide (fun (w' : World) (h : CvS ga g off A lf w') => h.conv (ca := ca) (cf := cf2) hq)
          have BRW := hide (BRK.out _ hbw.out)
          obtain ⟨yr0, yr1, yr2, yr3, yr4, yr5⟩ := BRW.out.six
          have fr0 := BRW.out.free 0
          have fr1 := BRW.out.free 1
          have fr2 := BRW.out.free 2
          have fr3 := BRW.out.free 3
          have fr4 := BRW.out.free 4
          have fr5 := BRW.out.free 5
          have hql : (q : Int) ≤ (cf2 : Int) := by omega
          have hql2 : (q : Int) ≤ (lf.length : Int) := by omega
          clear NGA CV BRK HBK hbw
          have TAIL : True := trivial
          rcases hex with rfl | ⟨p, b, rfl, hb1, hb2, c0⟩
          · go_upto_region 16 with (fail)
            refine wp_region_held_drew (S := CvS ga g off A lf) (by kernel_rfl) ?_ (fun hHeld => ?_)
            · exact CVD.out
            refine wpAnyH_take (i := 0) (oi := Oper.mk (some 70) _ _ _ _ _) (v := .slice (some ⟨ga, 0, none⟩) A.length ca) rfl (by kernel_rfl) (by kernel_rfl) (by kernel_rfl) (fun _ _ _ h => h) (Or.inl ⟨by rfl, ?_⟩) (by assumption) ?_
            · intro wX hSw
              (try dsimp only at hSw)
              clear hSw
              go_simp
            simp only [Act.put, List.setIfInBounds_toArray, List.set_cons_succ, List.set_cons_zero]
            refine wpAnyH_take (i := 1) (oi := Oper.mk (some 71) _ _ _ _ _) (v := .string ⟨A.toArray⟩) rfl (by kernel_rfl) (by kernel_rfl) (by kernel_rfl) (fun _ _ _ h => h) (Or.inl ⟨by rfl, ?_⟩) (by assumption) ?_
            · intro wX hSw
              (try dsimp only at hSw)
              obtain ⟨kc1, kc2, kc3⟩ := KV.out wX hSw
              clear hSw
              go_simp
            simp only [Act.put, List.setIfInBounds_toArray, List.set_cons_succ, List.set_cons_zero]
            refine wpAnyH_take (i := 3) (oi := Oper.mk (some 73) _ _ _ _ _) (v := .slice (some ⟨g, off, none⟩) lf.length cf2) rfl (by kernel_rfl) (by kernel_rfl) (by kernel_rfl) (fun _ _ _ h => h) (Or.inl ⟨by rfl, ?_⟩) (by assumption) ?_
            · intro wX hSw
              (try dsimp only at hSw)
              clear hSw
              go_simp
            simp only [Act.put, List.setIfInBounds_toArray, List.set_cons_succ, List.set_cons_zero]
            refine wpAnyH_take (i := 4) (oi := Oper.mk (some 74) _ _ _ _ _) (v := .int .i64 (lf.length : Int)) rfl (by kernel_rfl) (by kernel_rfl) (by kernel_rfl) (fun _ _ _ h => h) (Or.inl ⟨by rfl, ?_⟩) (by assumption) ?_
            · intro wX hSw
              (try dsimp only at hSw)
              clear hSw
              go_simp
            simp only [Act.put, List.setIfInBounds_toArray, List.set_cons_succ, List.set_cons_zero]
            refine wpAnyH_take (i := 5) (oi := Oper.mk (some 75) _ _ _ _ _) (v := .int .i64 0) rfl (by kernel_rfl) (by kernel_rfl) (by kernel_rfl) (fun _ _ _ h => h) (Or.inl ⟨by rfl, ?_⟩) (by assumption) ?_
            · intro wX hSw
              (try dsimp only at hSw)
              clear hSw
              go_simp
            simp only [Act.put, List.setIfInBounds_toArray, List.set_cons_succ, List.set_cons_zero]
            refine wpAnyH_take (i := 6) (oi := Oper.mk (some 76) _ _ _ _ _) (v := .slice (some ⟨g, off, none⟩) lf.length cf2) rfl (by kernel_rfl) (by kernel_rfl) (by kernel_rfl) (fun _ _ _ h => h) (Or.inl ⟨by rfl, ?_⟩) (by assumption) ?_
            · intro wX hSw
              (try dsimp only at hSw)
              clear hSw
              go_simp
            simp only [Act.put, List.setIfInBounds_toArray, List.set_cons_succ, List.set_cons_zero]
            refine wpAnyH_take (i := 7) (oi := Oper.mk (some 77) _ _ _ _ _) (v := .string ⟨lf.toArray⟩) rfl (by kernel_rfl) (by kernel_rfl) (by kernel_rfl) (fun _ _ _ h => h) (Or.inl ⟨by rfl, ?_⟩) (by assumption) ?_
            · intro wX hSw
              (try dsimp only at hSw)
              obtain ⟨kc1, kc2, kc3⟩ := KV.out wX hSw
              clear hSw
              go_simp
            simp only [Act.put, List.setIfInBounds_toArray, List.set_cons_succ, List.set_cons_zero]
            refine wpAnyH_take (i := 9) (oi := Oper.mk (some 79) _ _ _ _ _) (v := .slice (some ⟨g, off, none⟩) lf.length cf2) rfl (by kernel_rfl) (by kernel_rfl) (by kernel_rfl) (fun _ _ _ h => h) (Or.inl ⟨by rfl, ?_⟩) (by assumption) ?_
            · intro wX hSw
              (try dsimp only at hSw)
              clear hSw
              go_simp
            simp only [Act.put, List.setIfInBounds_toArray, List.set_cons_succ, List.set_cons_zero]
            refine wpAnyH_take (i := 10) (oi := Oper.mk (some 80) _ _ _ _ _) (v := .int .i64 0) rfl (by kernel_rfl) (by kernel_rfl) (by kernel_rfl) (fun _ _ _ h => h) (Or.inl ⟨by rfl, ?_⟩) (by assumption) ?_
            · intro wX hSw
              (try dsimp only at hSw)
              clear hSw
              go_simp
            simp only [Act.put, List.setIfInBounds_toArray, List.set_cons_succ, List.set_cons_zero]
            refine wpAnyH_take (i := 11) (oi := Oper.mk (some 81) _ _ _ _ _) (v := .slice (some ⟨g, off, none⟩) 0 cf2) rfl (by kernel_rfl) (by kernel_rfl) (by kernel_rfl) (fun _ _ _ h => h) (Or.inl ⟨by rfl, ?_⟩) (by assumption) ?_
            · intro wX hSw
              (try dsimp only at hSw)
              clear hSw
              go_simp
            simp only [Act.put, List.setIfInBounds_toArray, List.set_cons_succ, List.set_cons_zero]
            refine wpAnyH_take (i := 12) (oi := Oper.mk (some 82) _ _ _ _ _) (v := .string ⟨(lf.take 0).toArray⟩) rfl (by kernel_rfl) (by kernel_rfl) (by kernel_rfl) (fun _ _ _ h => h) (Or.inl ⟨by rfl, ?_⟩) (by assumption) ?_
            · intro wX hSw
              (try dsimp only at hSw)
              obtain ⟨kc1, kc2, kc3⟩ := KV.out wX hSw
              clear hSw
              go_simp
            simp only [Act.put, List.setIfInBounds_toArray, List.set_cons_succ, List.set_cons_zero]
            refine wpAnyH_take (i := 14) (oi := Oper.mk (some 84) _ _ _ _ _) (v := .int .i64 (j : Int)) rfl (by kernel_rfl) (by kernel_rfl) (by kernel_rfl) (fun _ _ _ h => h) (Or.inl ⟨by rfl, ?_⟩) (by assumption) ?_
            · intro wX hSw
              (try dsimp only at hSw)
              clear hSw
              go_simp
            simp only [Act.put, List.setIfInBounds_toArray, List.set_cons_succ, List.set_cons_zero]
            refine wpAnyH_ready (rs := [2]) (by kernel_rfl) (by simp) ?_
            refine AllReadyH.cons (o := Oper.mk (some 72) _ _ _ _ _) rfl (fun K hK => ?_) AllReadyH.nil
            go_simp
            refine (rahead_any ⟨A.toArray⟩ _).mono ?_
            rintro e u ⟨he, rfl⟩
            rw [bys_mk (A)] at he
            subst he
            refine hK.out _ _ ?_ (fun hHeld => ?_)
            · exact CVD.out
            clear hK K
            refine wpAnyH_ready (rs := [8]) (by kernel_rfl) (by simp) ?_
            refine AllReadyH.cons (o := Oper.mk (some 78) _ _ _ _ _) rfl (fun K hK => ?_) AllReadyH.nil
            go_simp
            refine (rahead_any ⟨lf.toArray⟩ _).mono ?_
            rintro e u ⟨he, rfl⟩
            rw [bys_mk (lf)] at he
            subst he
            refine hK.out _ _ ?_ (fun hHeld => ?_)
            · exact CVD.out
            clear hK K
            refine wpAnyH_ready (rs := [13]) (by kernel_rfl) (by simp) ?_
            refine AllReadyH.cons (o := Oper.mk (some 83) _ _ _ _ _) rfl (fun K hK => ?_) AllReadyH.nil
            go_simp
            refine (rahead_any ⟨(lf.take 0).toArray⟩ _).mono ?_
            rintro e u ⟨he, rfl⟩
            rw [bys_mk (lf.take 0)] at he
            subst he
            refine hK.out _ _ ?_ (fun hHeld => ?_)
            · exact CVD.out
            clear hK K
            refine wpAnyH_take (i := 15) (oi := Oper.mk (some 85) _ _ _ _ _) (v := .agg #[.string ⟨(numO A).toArray⟩, .int .i64 (lf.length : Int), .int .i64 0, .string ⟨(numO lf).toArray⟩, .string ⟨(numO (lf.take 0)).toArray⟩, .int .i64 (j : Int)]) rfl (by kernel_rfl) (by kernel_rfl) (by kernel_rfl) (fun _ _ _ h => h) (Or.inl ⟨by rfl, ?_⟩) (by assumption) ?_
            · intro wX hSw
              (try dsimp only at hSw)
              clear hSw
              go_simp
            simp only [Act.put, List.setIfInBounds_toArray, List.set_cons_succ, List.set_cons_zero]
            refine wpAnyH_ready (rs := [16]) (by kernel_rfl) (by simp) ?_
            refine AllReadyH.cons (o := Oper.mk none _ _ _ _ _) rfl (fun K hK => ?_) AllReadyH.nil
            go_simp
            refine hK.out _ _ ?_ (fun hHeld => ?_)
            · exact CVP.out _ _ _ _ _ _
            clear hK K
            refine wpAnyH_take (i := 17) (oi := Oper.mk (some 3) _ _ _ _ _) (v := .int .i64 0) rfl (by kernel_rfl) (by kernel_rfl) (by kernel_rfl) (fun _ _ _ h => h) (Or.inl ⟨by rfl, ?_⟩) (by assumption) ?_
            · intro wX hSw
              (try dsimp only at hSw)
              clear hSw
              go_simp
            simp only [Act.put, List.setIfInBounds_toArray, List.set_cons_succ, List.set_cons_zero]
            refine wpAnyH_done (by kernel_rfl) ?_ _
            go_wp2
            refine bodyPost_ret (results_opr2 rfl _ _ _ _ _ _ _ _ _ rfl (BRW.out.put6 _ _ _ _ _ _).drawn) rfl ?_
            exact ⟨by rw [HOP.out _ HSN.out]; rfl, (below_put6 HBW.out (by omega) _ _ _ _ _ _).drew⟩
          · have hpos : (0 : Int) < ((p + 1 : Nat) : Int) := by omega
            have hpl : (p : Int) < (lf.length : Int) := by omega
            have hbn : ¬ (b : Int) = 48 := by omega
            have hbe : ((b : Int) == 48) = false := beq_false_of_ne hbn
            have hq3 : ¬ (cf2 : Int) < (p : Int) + 1 := by omega
            have hq4 : (0 : Int) ≤ (p : Int) + 1 := by omega
            go_upto_region 16 with (fail)
            refine wp_region_held_drew (S := CvS ga g off A lf) (by kernel_rfl) ?_ (fun hHeld => ?_)
            · exact CVD.out
            refine wpAnyH_take (i := 0) (oi := Oper.mk (some 70) _ _ _ _ _) (v := .slice (some ⟨ga, 0, none⟩) A.length ca) rfl (by kernel_rfl) (by kernel_rfl) (by kernel_rfl) (fun _ _ _ h => h) (Or.inl ⟨by rfl, ?_⟩) (by assumption) ?_
            · intro wX hSw
              (try dsimp only at hSw)
              clear hSw
              go_simp
            simp only [Act.put, List.setIfInBounds_toArray, List.set_cons_succ, List.set_cons_zero]
            refine wpAnyH_take (i := 1) (oi := Oper.mk (some 71) _ _ _ _ _) (v := .string ⟨A.toArray⟩) rfl (by kernel_rfl) (by kernel_rfl) (by kernel_rfl) (fun _ _ _ h => h) (Or.inl ⟨by rfl, ?_⟩) (by assumption) ?_
            · intro wX hSw
              (try dsimp only at hSw)
              obtain ⟨kc1, kc2, kc3⟩ := KV.out wX hSw
              clear hSw
              go_simp
            simp only [Act.put, List.setIfInBounds_toArray, List.set_cons_succ, List.set_cons_zero]
            refine wpAnyH_take (i := 3) (oi := Oper.mk (some 73) _ _ _ _ _) (v := .slice (some ⟨g, off, none⟩) lf.length cf2) rfl (by kernel_rfl) (by kernel_rfl) (by kernel_rfl) (fun _ _ _ h => h) (Or.inl ⟨by rfl, ?_⟩) (by assumption) ?_
            · intro wX hSw
              (try dsimp only at hSw)
              clear hSw
              go_simp
            simp only [Act.put, List.setIfInBounds_toArray, List.set_cons_succ, List.set_cons_zero]
            refine wpAnyH_take (i := 4) (oi := Oper.mk (some 74) _ _ _ _ _) (v := .int .i64 (lf.length : Int)) rfl (by kernel_rfl) (by kernel_rfl) (by kernel_rfl) (fun _ _ _ h => h) (Or.inl ⟨by rfl, ?_⟩) (by assumption) ?_
            · intro wX hSw
              (try dsimp only at hSw)
              clear hSw
              go_simp
            simp only [Act.put, List.setIfInBounds_toArray, List.set_cons_succ, List.set_cons_zero]
            refine wpAnyH_take (i := 5) (oi := Oper.mk (some 75) _ _ _ _ _) (v := .int .i64 (((p + 1) : Nat) : Int)) rfl (by kernel_rfl) (by kernel_rfl) (by kernel_rfl) (fun _ _ _ h => h) (Or.inl ⟨by rfl, ?_⟩) (by assumption) ?_
            · intro wX hSw
              (try dsimp only at hSw)
              clear hSw
              go_simp
            simp only [Act.put, List.setIfInBounds_toArray, List.set_cons_succ, List.set_cons_zero]
            refine wpAnyH_take (i := 6) (oi := Oper.mk (some 76) _ _ _ _ _) (v := .slice (some ⟨g, off, none⟩) lf.length cf2) rfl (by kernel_rfl) (by kernel_rfl) (by kernel_rfl) (fun _ _ _ h => h) (Or.inl ⟨by rfl, ?_⟩) (by assumption) ?_
            · intro wX hSw
              (try dsimp only at hSw)
              clear hSw
              go_simp
            simp only [Act.put, List.setIfInBounds_toArray, List.set_cons_succ, List.set_cons_zero]
            refine wpAnyH_take (i := 7) (oi := Oper.mk (some 77) _ _ _ _ _) (v := .string ⟨lf.toArray⟩) rfl (by kernel_rfl) (by kernel_rfl) (by kernel_rfl) (fun _ _ _ h => h) (Or.inl ⟨by rfl, ?_⟩) (by assumption) ?_
            · intro wX hSw
              (try dsimp only at hSw)
              obtain ⟨kc1, kc2, kc3⟩ := KV.out wX hSw
              clear hSw
              go_simp
            simp only [Act.put, List.setIfInBounds_toArray, List.set_cons_succ, List.set_cons_zero]
            refine wpAnyH_take (i := 9) (oi := Oper.mk (some 79) _ _ _ _ _) (v := .slice (some ⟨g, off, none⟩) lf.length cf2) rfl (by kernel_rfl) (by kernel_rfl) (by kernel_rfl) (fun _ _ _ h => h) (Or.inl ⟨by rfl, ?_⟩) (by assumption) ?_
            · intro wX hSw
              (try dsimp only at hSw)
              clear hSw
              go_simp
            simp only [Act.put, List.setIfInBounds_toArray, List.set_cons_succ, List.set_cons_zero]
            refine wpAnyH_take (i := 10) (oi := Oper.mk (some 80) _ _ _ _ _) (v := .int .i64 (((p + 1) : Nat) : Int)) rfl (by kernel_rfl) (by kernel_rfl) (by kernel_rfl) (fun _ _ _ h => h) (Or.inl ⟨by rfl, ?_⟩) (by assumption) ?_
            · intro wX hSw
              (try dsimp only at hSw)
              clear hSw
              go_simp
            simp only [Act.put, List.setIfInBounds_toArray, List.set_cons_succ, List.set_cons_zero]
            refine wpAnyH_take (i := 11) (oi := Oper.mk (some 81) _ _ _ _ _) (v := .slice (some ⟨g, off, none⟩) (p + 1) cf2) rfl (by kernel_rfl) (by kernel_rfl) (by kernel_rfl) (fun _ _ _ h => h) (Or.inl ⟨by rfl, ?_⟩) (by assumption) ?_
            · intro wX hSw
              (try dsimp only at hSw)
              clear hSw
              go_simp
            simp only [Act.put, List.setIfInBounds_toArray, List.set_cons_succ, List.set_cons_zero]
            refine wpAnyH_take (i := 12) (oi := Oper.mk (some 82) _ _ _ _ _) (v := .string ⟨(lf.take (p + 1)).toArray⟩) rfl (by kernel_rfl) (by kernel_rfl) (by kernel_rfl) (fun _ _ _ h => h) (Or.inl ⟨by rfl, ?_⟩) (by assumption) ?_
            · intro wX hSw
              (try dsimp only at hSw)
              obtain ⟨kc1, kc2, kc3⟩ := KV.out wX hSw
              clear hSw
              go_simp
            simp only [Act.put, List.setIfInBounds_toArray, List.set_cons_succ, List.set_cons_zero]
            refine wpAnyH_take (i := 14) (oi := Oper.mk (some 84) _ _ _ _ _) (v := .int .i64 (j : Int)) rfl (by kernel_rfl) (by kernel_rfl) (by kernel_rfl) (fun _ _ _ h => h) (Or.inl ⟨by rfl, ?_⟩) (by assumption) ?_
            · intro wX hSw
              (try dsimp only at hSw)
              clear hSw
              go_simp
            simp only [Act.put, List.setIfInBounds_toArray, List.set_cons_succ, List.set_cons_zero]
            refine wpAnyH_ready (rs := [2]) (by kernel_rfl) (by simp) ?_
            refine AllReadyH.cons (o := Oper.mk (some 72) _ _ _ _ _) rfl (fun K hK => ?_) AllReadyH.nil
            go_simp
            refine (rahead_any ⟨A.toArray⟩ _).mono ?_
            rintro e u ⟨he, rfl⟩
            rw [bys_mk (A)] at he
            subst he
            refine hK.out _ _ ?_ (fun hHeld => ?_)
            · exact CVD.out
            clear hK K
            refine wpAnyH_ready (rs := [8]) (by kernel_rfl) (by simp) ?_
            refine AllReadyH.cons (o := Oper.mk (some 78) _ _ _ _ _) rfl (fun K hK => ?_) AllReadyH.nil
            go_simp
            refine (rahead_any ⟨lf.toArray⟩ _).mono ?_
            rintro e u ⟨he, rfl⟩
            rw [bys_mk (lf)] at he
            subst he
            refine hK.out _ _ ?_ (fun hHeld => ?_)
            · exact CVD.out
            clear hK K
            refine wpAnyH_ready (rs := [13]) (by kernel_rfl) (by simp) ?_
            refine AllReadyH.cons (o := Oper.mk (some 83) _ _ _ _ _) rfl (fun K hK => ?_) AllReadyH.nil
            go_simp
            refine (rahead_any ⟨(lf.take (p + 1)).toArray⟩ _).mono ?_
            rintro e u ⟨he, rfl⟩
            rw [bys_mk (lf.take (p + 1))] at he
            subst he
            refine hK.out _ _ ?_ (fun hHeld => ?_)
            · exact CVD.out
            clear hK K
            refine wpAnyH_take (i := 15) (oi := Oper.mk (some 85) _ _ _ _ _) (v := .agg #[.string ⟨(numO A).toArray⟩, .int .i64 (lf.length : Int), .int .i64 (((p + 1) : Nat) : Int), .string ⟨(numO lf).toArray⟩, .string ⟨(numO (lf.take (p + 1))).toArray⟩, .int .i64 (j : Int)]) rfl (by kernel_rfl) (by kernel_rfl) (by kernel_rfl) (fun _ _ _ h => h) (Or.inl ⟨by rfl, ?_⟩) (by assumption) ?_
            · intro wX hSw
              (try dsimp only at hSw)
              clear hSw
              go_simp
            simp only [Act.put, List.setIfInBounds_toArray, List.set_cons_succ, List.set_cons_zero]
            refine wpAnyH_ready (rs := [16]) (by kernel_rfl) (by simp) ?_
            refine AllReadyH.cons (o := Oper.mk none _ _ _ _ _) rfl (fun K hK => ?_) AllReadyH.nil
            go_simp
            refine hK.out _ _ ?_ (fun hHeld => ?_)
            · exact CVP.out _ _ _ _ _ _
            clear hK K
            refine wpAnyH_take (i := 17) (oi := Oper.mk (some 3) _ _ _ _ _) (v := .int .i64 0) rfl (by kernel_rfl) (by kernel_rfl) (by kernel_rfl) (fun _ _ _ h => h) (Or.inl ⟨by rfl, ?_⟩) (by assumption) ?_
            · intro wX hSw
              (try dsimp only at hSw)
              clear hSw
              go_simp
            simp only [Act.put, List.setIfInBounds_toArray, List.set_cons_succ, List.set_cons_zero]
            refine wpAnyH_done (by kernel_rfl) ?_ _
            go_wp2
            refine bodyPost_ret (results_opr2 rfl _ _ _ _ _ _ _ _ _ rfl (BRW.out.put6 _ _ _ _ _ _).drawn) rfl ?_
            exact ⟨by rw [HOP.out _ HSN.out]; rfl, (below_put6 HBW.out (by omega) _ _ _ _ _ _).drew⟩

end Go.Proofs.YtobloamnaemfnaaGreatDoor

namespace Go.Proofs.YtobloamnaemfnaaGreatDoor
open Go.RowKit

theorem ne_text {f g : ByteArray} (h : bys f ≠ bys g) : (f.toList == g.toList) = false := by
  rw [ByteArray.toList_eq, ByteArray.toList_eq]
  exact beq_eq_false_iff_ne.2 h

set_option maxHeartbeats 2000000 in
theorem omay_0 (i : ByteArray) (v z : Int) (f t : ByteArray) (e : Int) (w : World) (h0 : ¬ (NumT (bys i) 8192))  : Calls Tryz.prog 54 #[opV i v z f t e] w fun e w' => e = .returned (.bool false) ∧ Below w.heap.size w w' := by
  have K0 := hide (fun W => isNum_F i W h0)
  clear h0
  have Bs0 := hide (Blk.newAt w (w.heap.size) (rfl) #[.string i, .int .i64 v, .int .i64 z, .string f, .string t, .int .i64 e] 41)
  have HB0 : Hid (Below w.heap.size w (w.alloc (.cells #[.string i, .int .i64 v, .int .i64 z, .string f, .string t, .int .i64 e] 41))) := ((Below.refl _ _).alloc (Nat.le_refl _) _)
  go_enter Tryz.func54, Tryz.ntmps54
  go_wp2_with fail
  refine (K0.out _).mono ?_
  rintro e w1 ⟨rfl, hb⟩
  have Bs1 := Blk.on Bs0 hb
  have HB1 := hide (HB0.out.trans (hb.mono HB0.out.size))
  clear hb Bs0 HB0 
  obtain ⟨ys0, ys1, ys2, ys3, ys4, ys5⟩ := Bs1.out.six
  go_wp2
  go_ret
  exact ⟨rfl, HB1.out⟩

set_option maxHeartbeats 2000000 in
theorem omay_1 (i : ByteArray) (v z : Int) (f t : ByteArray) (e : Int) (w : World) (h0 : NumT (bys i) 8192) (h1 : ¬ (NumT (bys t) 8192))  : Calls Tryz.prog 54 #[opV i v z f t e] w fun e w' => e = .returned (.bool false) ∧ Below w.heap.size w w' := by
  have K0 := hide (fun W => isNum_T i W h0)
  have K1 := hide (fun W => isNum_F t W h1)
  clear h0 h1
  have Bs0 := hide (Blk.newAt w (w.heap.size) (rfl) #[.string i, .int .i64 v, .int .i64 z, .string f, .string t, .int .i64 e] 41)
  have HB0 : Hid (Below w.heap.size w (w.alloc (.cells #[.string i, .int .i64 v, .int .i64 z, .string f, .string t, .int .i64 e] 41))) := ((Below.refl _ _).alloc (Nat.le_refl _) _)
  go_enter Tryz.func54, Tryz.ntmps54
  go_wp2_with fail
  refine (K0.out _).mono ?_
  rintro e w1 ⟨rfl, hb⟩
  have Bs1 := Blk.on Bs0 hb
  have HB1 := hide (HB0.out.trans (hb.mono HB0.out.size))
  clear hb Bs0 HB0 
  obtain ⟨ys0, ys1, ys2, ys3, ys4, ys5⟩ := Bs1.out.six
  go_wp2_with fail
  refine (K1.out _).mono ?_
  rintro e w2 ⟨rfl, hb⟩
  have Bs2 := Blk.on Bs1 hb
  have HB2 := hide (HB1.out.trans (hb.mono HB1.out.size))
  clear hb Bs1 HB1 ys0 ys1 ys2 ys3 ys4 ys5
  obtain ⟨ys0, ys1, ys2, ys3, ys4, ys5⟩ := Bs2.out.six
  go_wp2
  go_ret
  exact ⟨rfl, HB2.out⟩

set_option maxHeartbeats 2000000 in
theorem omay_2 (i : ByteArray) (v z : Int) (f t : ByteArray) (e : Int) (w : World) (h0 : NumT (bys i) 8192) (h1 : NumT (bys t) 8192) (h2 : ¬ (0 ≤ v ∧ v ≤ 8192))  : Calls Tryz.prog 54 #[opV i v z f t e] w fun e w' => e = .returned (.bool false) ∧ Below w.heap.size w w' := by
  have K0 := hide (fun W => isNum_T i W h0)
  have K1 := hide (fun W => isNum_T t W h1)
  have K2 := hide (fun W => isCount_f v W h2)
  clear h0 h1 h2
  have Bs0 := hide (Blk.newAt w (w.heap.size) (rfl) #[.string i, .int .i64 v, .int .i64 z, .string f, .string t, .int .i64 e] 41)
  have HB0 : Hid (Below w.heap.size w (w.alloc (.cells #[.string i, .int .i64 v, .int .i64 z, .string f, .string t, .int .i64 e] 41))) := ((Below.refl _ _).alloc (Nat.le_refl _) _)
  go_enter Tryz.func54, Tryz.ntmps54
  go_wp2_with fail
  refine (K0.out _).mono ?_
  rintro e w1 ⟨rfl, hb⟩
  have Bs1 := Blk.on Bs0 hb
  have HB1 := hide (HB0.out.trans (hb.mono HB0.out.size))
  clear hb Bs0 HB0 
  obtain ⟨ys0, ys1, ys2, ys3, ys4, ys5⟩ := Bs1.out.six
  go_wp2_with fail
  refine (K1.out _).mono ?_
  rintro e w2 ⟨rfl, hb⟩
  have Bs2 := Blk.on Bs1 hb
  have HB2 := hide (HB1.out.trans (hb.mono HB1.out.size))
  clear hb Bs1 HB1 ys0 ys1 ys2 ys3 ys4 ys5
  obtain ⟨ys0, ys1, ys2, ys3, ys4, ys5⟩ := Bs2.out.six
  go_wp2_with fail
  refine (K2.out _).mono ?_
  rintro e w3 ⟨rfl, hb⟩
  have Bs3 := Blk.on Bs2 hb
  have HB3 := hide (HB2.out.trans (hb.mono HB2.out.size))
  clear hb Bs2 HB2 ys0 ys1 ys2 ys3 ys4 ys5
  obtain ⟨ys0, ys1, ys2, ys3, ys4, ys5⟩ := Bs3.out.six
  go_wp2
  go_ret
  exact ⟨rfl, HB3.out⟩

set_option maxHeartbeats 2000000 in
theorem omay_3 (i : ByteArray) (v z : Int) (f t : ByteArray) (e : Int) (w : World) (h0 : NumT (bys i) 8192) (h1 : NumT (bys t) 8192) (h2 : 0 ≤ v ∧ v ≤ 8192) (h3 : ¬ (0 ≤ z ∧ z ≤ 8192))  : Calls Tryz.prog 54 #[opV i v z f t e] w fun e w' => e = .returned (.bool false) ∧ Below w.heap.size w w' := by
  have K0 := hide (fun W => isNum_T i W h0)
  have K1 := hide (fun W => isNum_T t W h1)
  have K2 := hide (fun W => isCount_t v W h2.1 h2.2)
  have K3 := hide (fun W => isCount_f z W h3)
  clear h0 h1 h2 h3
  have Bs0 := hide (Blk.newAt w (w.heap.size) (rfl) #[.string i, .int .i64 v, .int .i64 z, .string f, .string t, .int .i64 e] 41)
  have HB0 : Hid (Below w.heap.size w (w.alloc (.cells #[.string i, .int .i64 v, .int .i64 z, .string f, .string t, .int .i64 e] 41))) := ((Below.refl _ _).alloc (Nat.le_refl _) _)
  go_enter Tryz.func54, Tryz.ntmps54
  go_wp2_with fail
  refine (K0.out _).mono ?_
  rintro e w1 ⟨rfl, hb⟩
  have Bs1 := Blk.on Bs0 hb
  have HB1 := hide (HB0.out.trans (hb.mono HB0.out.size))
  clear hb Bs0 HB0 
  obtain ⟨ys0, ys1, ys2, ys3, ys4, ys5⟩ := Bs1.out.six
  go_wp2_with fail
  refine (K1.out _).mono ?_
  rintro e w2 ⟨rfl, hb⟩
  have Bs2 := Blk.on Bs1 hb
  have HB2 := hide (HB1.out.trans (hb.mono HB1.out.size))
  clear hb Bs1 HB1 ys0 ys1 ys2 ys3 ys4 ys5
  obtain ⟨ys0, ys1, ys2, ys3, ys4, ys5⟩ := Bs2.out.six
  go_wp2_with fail
  refine (K2.out _).mono ?_
  rintro e w3 ⟨rfl, hb⟩
  have Bs3 := Blk.on Bs2 hb
  have HB3 := hide (HB2.out.trans (hb.mono HB2.out.size))
  clear hb Bs2 HB2 ys0 ys1 ys2 ys3 ys4 ys5
  obtain ⟨ys0, ys1, ys2, ys3, ys4, ys5⟩ := Bs3.out.six
  go_wp2_with fail
  refine (K3.out _).mono ?_
  rintro e w4 ⟨rfl, hb⟩
  have Bs4 := Blk.on Bs3 hb
  have HB4 := hide (HB3.out.trans (hb.mono HB3.out.size))
  clear hb Bs3 HB3 ys0 ys1 ys2 ys3 ys4 ys5
  obtain ⟨ys0, ys1, ys2, ys3, ys4, ys5⟩ := Bs4.out.six
  go_wp2
  go_ret
  exact ⟨rfl, HB4.out⟩

set_option maxHeartbeats 2000000 in
theorem omay_4 (i : ByteArray) (v z : Int) (f t : ByteArray) (e : Int) (w : World) (h0 : NumT (bys i) 8192) (h1 : NumT (bys t) 8192) (h2 : 0 ≤ v ∧ v ≤ 8192) (h3 : 0 ≤ z ∧ z ≤ 8192) (h4 : ¬ (0 ≤ e ∧ e ≤ 8192))  : Calls Tryz.prog 54 #[opV i v z f t e] w fun e w' => e = .returned (.bool false) ∧ Below w.heap.size w w' := by
  have K0 := hide (fun W => isNum_T i W h0)
  have K1 := hide (fun W => isNum_T t W h1)
  have K2 := hide (fun W => isCount_t v W h2.1 h2.2)
  have K3 := hide (fun W => isCount_t z W h3.1 h3.2)
  have K4 := hide (fun W => isCount_f e W h4)
  clear h0 h1 h2 h3 h4
  have Bs0 := hide (Blk.newAt w (w.heap.size) (rfl) #[.string i, .int .i64 v, .int .i64 z, .string f, .string t, .int .i64 e] 41)
  have HB0 : Hid (Below w.heap.size w (w.alloc (.cells #[.string i, .int .i64 v, .int .i64 z, .string f, .string t, .int .i64 e] 41))) := ((Below.refl _ _).alloc (Nat.le_refl _) _)
  go_enter Tryz.func54, Tryz.ntmps54
  go_wp2_with fail
  refine (K0.out _).mono ?_
  rintro e w1 ⟨rfl, hb⟩
  have Bs1 := Blk.on Bs0 hb
  have HB1 := hide (HB0.out.trans (hb.mono HB0.out.size))
  clear hb Bs0 HB0 
  obtain ⟨ys0, ys1, ys2, ys3, ys4, ys5⟩ := Bs1.out.six
  go_wp2_with fail
  refine (K1.out _).mono ?_
  rintro e w2 ⟨rfl, hb⟩
  have Bs2 := Blk.on Bs1 hb
  have HB2 := hide (HB1.out.trans (hb.mono HB1.out.size))
  clear hb Bs1 HB1 ys0 ys1 ys2 ys3 ys4 ys5
  obtain ⟨ys0, ys1, ys2, ys3, ys4, ys5⟩ := Bs2.out.six
  go_wp2_with fail
  refine (K2.out _).mono ?_
  rintro e w3 ⟨rfl, hb⟩
  have Bs3 := Blk.on Bs2 hb
  have HB3 := hide (HB2.out.trans (hb.mono HB2.out.size))
  clear hb Bs2 HB2 ys0 ys1 ys2 ys3 ys4 ys5
  obtain ⟨ys0, ys1, ys2, ys3, ys4, ys5⟩ := Bs3.out.six
  go_wp2_with fail
  refine (K3.out _).mono ?_
  rintro e w4 ⟨rfl, hb⟩
  have Bs4 := Blk.on Bs3 hb
  have HB4 := hide (HB3.out.trans (hb.mono HB3.out.size))
  clear hb Bs3 HB3 ys0 ys1 ys2 ys3 ys4 ys5
  obtain ⟨ys0, ys1, ys2, ys3, ys4, ys5⟩ := Bs4.out.six
  go_wp2_with fail
  refine (K4.out _).mono ?_
  rintro e w5 ⟨rfl, hb⟩
  have Bs5 := Blk.on Bs4 hb
  have HB5 := hide (HB4.out.trans (hb.mono HB4.out.size))
  clear hb Bs4 HB4 ys0 ys1 ys2 ys3 ys4 ys5
  obtain ⟨ys0, ys1, ys2, ys3, ys4, ys5⟩ := Bs5.out.six
  go_wp2
  go_ret
  exact ⟨rfl, HB5.out⟩

set_option maxHeartbeats 2000000 in
theorem omay_5 (i : ByteArray) (v z : Int) (f t : ByteArray) (e : Int) (w : World) (h0 : NumT (bys i) 8192) (h1 : NumT (bys t) 8192) (h2 : 0 ≤ v ∧ v ≤ 8192) (h3 : 0 ≤ z ∧ z ≤ 8192) (h4 : 0 ≤ e ∧ e ≤ 8192) (h5 : v < z) : Calls Tryz.prog 54 #[opV i v z f t e] w fun e w' => e = .returned (.bool false) ∧ Below w.heap.size w w' := by
  have K0 := hide (fun W => isNum_T i W h0)
  have K1 := hide (fun W => isNum_T t W h1)
  have K2 := hide (fun W => isCount_t v W h2.1 h2.2)
  have K3 := hide (fun W => isCount_t z W h3.1 h3.2)
  have K4 := hide (fun W => isCount_t e W h4.1 h4.2)
  have g5 : decide (v < z) = true := decide_eq_true h5
  clear h0 h1 h2 h3 h4
  have Bs0 := hide (Blk.newAt w (w.heap.size) (rfl) #[.string i, .int .i64 v, .int .i64 z, .string f, .string t, .int .i64 e] 41)
  have HB0 : Hid (Below w.heap.size w (w.alloc (.cells #[.string i, .int .i64 v, .int .i64 z, .string f, .string t, .int .i64 e] 41))) := ((Below.refl _ _).alloc (Nat.le_refl _) _)
  go_enter Tryz.func54, Tryz.ntmps54
  go_wp2_with fail
  refine (K0.out _).mono ?_
  rintro e w1 ⟨rfl, hb⟩
  have Bs1 := Blk.on Bs0 hb
  have HB1 := hide (HB0.out.trans (hb.mono HB0.out.size))
  clear hb Bs0 HB0 
  obtain ⟨ys0, ys1, ys2, ys3, ys4, ys5⟩ := Bs1.out.six
  go_wp2_with fail
  refine (K1.out _).mono ?_
  rintro e w2 ⟨rfl, hb⟩
  have Bs2 := Blk.on Bs1 hb
  have HB2 := hide (HB1.out.trans (hb.mono HB1.out.size))
  clear hb Bs1 HB1 ys0 ys1 ys2 ys3 ys4 ys5
  obtain ⟨ys0, ys1, ys2, ys3, ys4, ys5⟩ := Bs2.out.six
  go_wp2_with fail
  refine (K2.out _).mono ?_
  rintro e w3 ⟨rfl, hb⟩
  have Bs3 := Blk.on Bs2 hb
  have HB3 := hide (HB2.out.trans (hb.mono HB2.out.size))
  clear hb Bs2 HB2 ys0 ys1 ys2 ys3 ys4 ys5
  obtain ⟨ys0, ys1, ys2, ys3, ys4, ys5⟩ := Bs3.out.six
  go_wp2_with fail
  refine (K3.out _).mono ?_
  rintro e w4 ⟨rfl, hb⟩
  have Bs4 := Blk.on Bs3 hb
  have HB4 := hide (HB3.out.trans (hb.mono HB3.out.size))
  clear hb Bs3 HB3 ys0 ys1 ys2 ys3 ys4 ys5
  obtain ⟨ys0, ys1, ys2, ys3, ys4, ys5⟩ := Bs4.out.six
  go_wp2_with fail
  refine (K4.out _).mono ?_
  rintro e w5 ⟨rfl, hb⟩
  have Bs5 := Blk.on Bs4 hb
  have HB5 := hide (HB4.out.trans (hb.mono HB4.out.size))
  clear hb Bs4 HB4 ys0 ys1 ys2 ys3 ys4 ys5
  obtain ⟨ys0, ys1, ys2, ys3, ys4, ys5⟩ := Bs5.out.six
  go_wp2
  go_ret
  exact ⟨rfl, HB5.out⟩

set_option maxHeartbeats 2000000 in
theorem omay_zt (i : ByteArray) (v z e : Int) (w : World) (h0 : NumT (bys i) 8192) (h2 : 0 ≤ v ∧ v ≤ 8192) (h3 : 0 ≤ z ∧ z ≤ 8192) (h4 : 0 ≤ e ∧ e ≤ 8192) (h5 : z ≤ v)  : Calls Tryz.prog 54 #[opV i v z ⟨#[48]⟩ ⟨#[48]⟩ e] w fun e w' => e = .returned (.bool true) ∧ Below w.heap.size w w' := by
  have K0 := hide (fun W => isNum_T i W h0)
  have K1 := hide (fun W => isNum_0 W)
  have K2 := hide (fun W => isCount_t v W h2.1 h2.2)
  have K3 := hide (fun W => isCount_t z W h3.1 h3.2)
  have K4 := hide (fun W => isCount_t e W h4.1 h4.2)
  have g5 : decide (v < z) = false := decide_eq_false (by omega)
  clear h5
  clear h0 h2 h3 h4
  have Bs0 := hide (Blk.newAt w (w.heap.size) (rfl) #[.string i, .int .i64 v, .int .i64 z, .string ⟨#[48]⟩, .string ⟨#[48]⟩, .int .i64 e] 41)
  have HB0 : Hid (Below w.heap.size w (w.alloc (.cells #[.string i, .int .i64 v, .int .i64 z, .string ⟨#[48]⟩, .string ⟨#[48]⟩, .int .i64 e] 41))) := ((Below.refl _ _).alloc (Nat.le_refl _) _)
  go_enter Tryz.func54, Tryz.ntmps54
  go_wp2_with fail
  refine (K0.out _).mono ?_
  rintro e w1 ⟨rfl, hb⟩
  have Bs1 := Blk.on Bs0 hb
  have HB1 := hide (HB0.out.trans (hb.mono HB0.out.size))
  clear hb Bs0 HB0 
  obtain ⟨ys0, ys1, ys2, ys3, ys4, ys5⟩ := Bs1.out.six
  go_wp2_with fail
  refine (K1.out _).mono ?_
  rintro e w2 ⟨rfl, hb⟩
  have Bs2 := Blk.on Bs1 hb
  have HB2 := hide (HB1.out.trans (hb.mono HB1.out.size))
  clear hb Bs1 HB1 ys0 ys1 ys2 ys3 ys4 ys5
  obtain ⟨ys0, ys1, ys2, ys3, ys4, ys5⟩ := Bs2.out.six
  go_wp2_with fail
  refine (K2.out _).mono ?_
  rintro e w3 ⟨rfl, hb⟩
  have Bs3 := Blk.on Bs2 hb
  have HB3 := hide (HB2.out.trans (hb.mono HB2.out.size))
  clear hb Bs2 HB2 ys0 ys1 ys2 ys3 ys4 ys5
  obtain ⟨ys0, ys1, ys2, ys3, ys4, ys5⟩ := Bs3.out.six
  go_wp2_with fail
  refine (K3.out _).mono ?_
  rintro e w4 ⟨rfl, hb⟩
  have Bs4 := Blk.on Bs3 hb
  have HB4 := hide (HB3.out.trans (hb.mono HB3.out.size))
  clear hb Bs3 HB3 ys0 ys1 ys2 ys3 ys4 ys5
  obtain ⟨ys0, ys1, ys2, ys3, ys4, ys5⟩ := Bs4.out.six
  go_wp2_with fail
  refine (K4.out _).mono ?_
  rintro e w5 ⟨rfl, hb⟩
  have Bs5 := Blk.on Bs4 hb
  have HB5 := hide (HB4.out.trans (hb.mono HB4.out.size))
  clear hb Bs4 HB4 ys0 ys1 ys2 ys3 ys4 ys5
  obtain ⟨ys0, ys1, ys2, ys3, ys4, ys5⟩ := Bs5.out.six
  go_wp2
  go_ret
  exact ⟨rfl, HB5.out⟩

set_option maxHeartbeats 2000000 in
theorem omay_zf (i : ByteArray) (v z : Int) (f : ByteArray) (e : Int) (w : World) (h0 : NumT (bys i) 8192) (h2 : 0 ≤ v ∧ v ≤ 8192) (h3 : 0 ≤ z ∧ z ≤ 8192) (h4 : 0 ≤ e ∧ e ≤ 8192) (h5 : z ≤ v) (h6 : bys f ≠ [48]) : Calls Tryz.prog 54 #[opV i v z f ⟨#[48]⟩ e] w fun e w' => e = .returned (.bool false) ∧ Below w.heap.size w w' := by
  have K0 := hide (fun W => isNum_T i W h0)
  have K1 := hide (fun W => isNum_0 W)
  have K2 := hide (fun W => isCount_t v W h2.1 h2.2)
  have K3 := hide (fun W => isCount_t z W h3.1 h3.2)
  have K4 := hide (fun W => isCount_t e W h4.1 h4.2)
  have g5 : decide (v < z) = false := decide_eq_false (by omega)
  have hq := ne_nought h6
  clear h5 h6
  clear h0 h2 h3 h4
  have Bs0 := hide (Blk.newAt w (w.heap.size) (rfl) #[.string i, .int .i64 v, .int .i64 z, .string f, .string ⟨#[48]⟩, .int .i64 e] 41)
  have HB0 : Hid (Below w.heap.size w (w.alloc (.cells #[.string i, .int .i64 v, .int .i64 z, .string f, .string ⟨#[48]⟩, .int .i64 e] 41))) := ((Below.refl _ _).alloc (Nat.le_refl _) _)
  go_enter Tryz.func54, Tryz.ntmps54
  go_wp2_with fail
  refine (K0.out _).mono ?_
  rintro e w1 ⟨rfl, hb⟩
  have Bs1 := Blk.on Bs0 hb
  have HB1 := hide (HB0.out.trans (hb.mono HB0.out.size))
  clear hb Bs0 HB0 
  obtain ⟨ys0, ys1, ys2, ys3, ys4, ys5⟩ := Bs1.out.six
  go_wp2_with fail
  refine (K1.out _).mono ?_
  rintro e w2 ⟨rfl, hb⟩
  have Bs2 := Blk.on Bs1 hb
  have HB2 := hide (HB1.out.trans (hb.mono HB1.out.size))
  clear hb Bs1 HB1 ys0 ys1 ys2 ys3 ys4 ys5
  obtain ⟨ys0, ys1, ys2, ys3, ys4, ys5⟩ := Bs2.out.six
  go_wp2_with fail
  refine (K2.out _).mono ?_
  rintro e w3 ⟨rfl, hb⟩
  have Bs3 := Blk.on Bs2 hb
  have HB3 := hide (HB2.out.trans (hb.mono HB2.out.size))
  clear hb Bs2 HB2 ys0 ys1 ys2 ys3 ys4 ys5
  obtain ⟨ys0, ys1, ys2, ys3, ys4, ys5⟩ := Bs3.out.six
  go_wp2_with fail
  refine (K3.out _).mono ?_
  rintro e w4 ⟨rfl, hb⟩
  have Bs4 := Blk.on Bs3 hb
  have HB4 := hide (HB3.out.trans (hb.mono HB3.out.size))
  clear hb Bs3 HB3 ys0 ys1 ys2 ys3 ys4 ys5
  obtain ⟨ys0, ys1, ys2, ys3, ys4, ys5⟩ := Bs4.out.six
  go_wp2_with fail
  refine (K4.out _).mono ?_
  rintro e w5 ⟨rfl, hb⟩
  have Bs5 := Blk.on Bs4 hb
  have HB5 := hide (HB4.out.trans (hb.mono HB4.out.size))
  clear hb Bs4 HB4 ys0 ys1 ys2 ys3 ys4 ys5
  obtain ⟨ys0, ys1, ys2, ys3, ys4, ys5⟩ := Bs5.out.six
  go_wp2
  go_ret
  exact ⟨rfl, HB5.out⟩

set_option maxHeartbeats 2000000 in
theorem omay_l (i : ByteArray) (v z : Int) (f t : ByteArray) (e : Int) (w : World) (h0 : NumT (bys i) 8192) (h1 : NumT (bys t) 8192) (h2 : 0 ≤ v ∧ v ≤ 8192) (h3 : 0 ≤ z ∧ z ≤ 8192) (h4 : 0 ≤ e ∧ e ≤ 8192) (h5 : z ≤ v) (h6 : bys t ≠ [48]) (h7 : ¬ (t.size : Int) ≤ z) : Calls Tryz.prog 54 #[opV i v z f t e] w fun e w' => e = .returned (.bool false) ∧ Below w.heap.size w w' := by
  have K0 := hide (fun W => isNum_T i W h0)
  have K1 := hide (fun W => isNum_T t W h1)
  have K2 := hide (fun W => isCount_t v W h2.1 h2.2)
  have K3 := hide (fun W => isCount_t z W h3.1 h3.2)
  have K4 := hide (fun W => isCount_t e W h4.1 h4.2)
  have g5 : decide (v < z) = false := decide_eq_false (by omega)
  have hq := ne_nought h6
  have h8 : decide ((t.size : Int) ≤ z) = false := decide_eq_false h7
  clear h5 h6 h7
  clear h0 h1 h2 h3 h4
  have Bs0 := hide (Blk.newAt w (w.heap.size) (rfl) #[.string i, .int .i64 v, .int .i64 z, .string f, .string t, .int .i64 e] 41)
  have HB0 : Hid (Below w.heap.size w (w.alloc (.cells #[.string i, .int .i64 v, .int .i64 z, .string f, .string t, .int .i64 e] 41))) := ((Below.refl _ _).alloc (Nat.le_refl _) _)
  go_enter Tryz.func54, Tryz.ntmps54
  go_wp2_with fail
  refine (K0.out _).mono ?_
  rintro e w1 ⟨rfl, hb⟩
  have Bs1 := Blk.on Bs0 hb
  have HB1 := hide (HB0.out.trans (hb.mono HB0.out.size))
  clear hb Bs0 HB0 
  obtain ⟨ys0, ys1, ys2, ys3, ys4, ys5⟩ := Bs1.out.six
  go_wp2_with fail
  refine (K1.out _).mono ?_
  rintro e w2 ⟨rfl, hb⟩
  have Bs2 := Blk.on Bs1 hb
  have HB2 := hide (HB1.out.trans (hb.mono HB1.out.size))
  clear hb Bs1 HB1 ys0 ys1 ys2 ys3 ys4 ys5
  obtain ⟨ys0, ys1, ys2, ys3, ys4, ys5⟩ := Bs2.out.six
  go_wp2_with fail
  refine (K2.out _).mono ?_
  rintro e w3 ⟨rfl, hb⟩
  have Bs3 := Blk.on Bs2 hb
  have HB3 := hide (HB2.out.trans (hb.mono HB2.out.size))
  clear hb Bs2 HB2 ys0 ys1 ys2 ys3 ys4 ys5
  obtain ⟨ys0, ys1, ys2, ys3, ys4, ys5⟩ := Bs3.out.six
  go_wp2_with fail
  refine (K3.out _).mono ?_
  rintro e w4 ⟨rfl, hb⟩
  have Bs4 := Blk.on Bs3 hb
  have HB4 := hide (HB3.out.trans (hb.mono HB3.out.size))
  clear hb Bs3 HB3 ys0 ys1 ys2 ys3 ys4 ys5
  obtain ⟨ys0, ys1, ys2, ys3, ys4, ys5⟩ := Bs4.out.six
  go_wp2_with fail
  refine (K4.out _).mono ?_
  rintro e w5 ⟨rfl, hb⟩
  have Bs5 := Blk.on Bs4 hb
  have HB5 := hide (HB4.out.trans (hb.mono HB4.out.size))
  clear hb Bs4 HB4 ys0 ys1 ys2 ys3 ys4 ys5
  obtain ⟨ys0, ys1, ys2, ys3, ys4, ys5⟩ := Bs5.out.six
  go_wp2_with fail
  refine wp_region_held_drew (S := (fun w' => w'.cell? ⟨w.heap.size, 2, none⟩ = some (.int .i64 z) ∧ w'.cell? ⟨w.heap.size, 4, none⟩ = some (.string t))) (by kernel_rfl) ?_ (fun hHeld => ?_)
  · (try dsimp only)
    go_keep
  refine wpAnyH_take (i := 0) (oi := Oper.mk (some 44) _ _ _ _ _) (v := .pointer (some ⟨w.heap.size, 4, none⟩)) rfl (by kernel_rfl) (by kernel_rfl) (by kernel_rfl) (fun _ _ _ h => h) (Or.inl ⟨by rfl, ?_⟩) (by assumption) ?_
  · intro wX hSw
    (try dsimp only at hSw)
    go_simp
  simp only [Act.put, List.setIfInBounds_toArray, List.set_cons_succ, List.set_cons_zero]
  refine wpAnyH_take (i := 1) (oi := Oper.mk (some 45) _ _ _ _ _) (v := .string t) rfl (by kernel_rfl) (by kernel_rfl) (by kernel_rfl) (fun _ _ _ h => h) (Or.inl ⟨by rfl, ?_⟩) (by assumption) ?_
  · intro wX hSw
    (try dsimp only at hSw)
    go_simp
  simp only [Act.put, List.setIfInBounds_toArray, List.set_cons_succ, List.set_cons_zero]
  refine wpAnyH_take (i := 2) (oi := Oper.mk (some 46) _ _ _ _ _) (v := .int .i64 (t.size : Int)) rfl (by kernel_rfl) (by kernel_rfl) (by kernel_rfl) (fun _ _ _ h => h) (Or.inl ⟨by rfl, ?_⟩) (by assumption) ?_
  · intro wX hSw
    (try dsimp only at hSw)
    go_simp
  simp only [Act.put, List.setIfInBounds_toArray, List.set_cons_succ, List.set_cons_zero]
  refine wpAnyH_take (i := 3) (oi := Oper.mk (some 47) _ _ _ _ _) (v := .pointer (some ⟨w.heap.size, 2, none⟩)) rfl (by kernel_rfl) (by kernel_rfl) (by kernel_rfl) (fun _ _ _ h => h) (Or.inl ⟨by rfl, ?_⟩) (by assumption) ?_
  · intro wX hSw
    (try dsimp only at hSw)
    go_simp
  simp only [Act.put, List.setIfInBounds_toArray, List.set_cons_succ, List.set_cons_zero]
  refine wpAnyH_take (i := 4) (oi := Oper.mk (some 48) _ _ _ _ _) (v := .int .i64 z) rfl (by kernel_rfl) (by kernel_rfl) (by kernel_rfl) (fun _ _ _ h => h) (Or.inl ⟨by rfl, ?_⟩) (by assumption) ?_
  · intro wX hSw
    (try dsimp only at hSw)
    go_simp
  simp only [Act.put, List.setIfInBounds_toArray, List.set_cons_succ, List.set_cons_zero]
  refine wpAnyH_take (i := 5) (oi := Oper.mk (some 49) _ _ _ _ _) (v := .bool false) rfl (by kernel_rfl) (by kernel_rfl) (by kernel_rfl) (fun _ _ _ h => h) (Or.inl ⟨by rfl, ?_⟩) (by assumption) ?_
  · intro wX hSw
    (try dsimp only at hSw)
    go_simp
  simp only [Act.put, List.setIfInBounds_toArray, List.set_cons_succ, List.set_cons_zero]
  refine wpAnyH_take (i := 6) (oi := Oper.mk (some 50) _ _ _ _ _) (v := .bool false) rfl (by kernel_rfl) (by kernel_rfl) (by kernel_rfl) (fun _ _ _ h => h) (Or.inl ⟨by rfl, ?_⟩) (by assumption) ?_
  · intro wX hSw
    (try dsimp only at hSw)
    go_simp
  simp only [Act.put, List.setIfInBounds_toArray, List.set_cons_succ, List.set_cons_zero]
  refine wpAnyH_take (i := 7) (oi := Oper.mk (some 51) _ _ _ _ _) (v := undef) rfl (by kernel_rfl) (by kernel_rfl) (by kernel_rfl) (fun _ _ _ h => h) (Or.inr ⟨by rfl, rfl⟩) (by assumption) ?_
  simp only [Act.put, List.setIfInBounds_toArray, List.set_cons_succ, List.set_cons_zero]
  refine wpAnyH_take (i := 8) (oi := Oper.mk (some 52) _ _ _ _ _) (v := undef) rfl (by kernel_rfl) (by kernel_rfl) (by kernel_rfl) (fun _ _ _ h => h) (Or.inr ⟨by rfl, rfl⟩) (by assumption) ?_
  simp only [Act.put, List.setIfInBounds_toArray, List.set_cons_succ, List.set_cons_zero]
  refine wpAnyH_take (i := 9) (oi := Oper.mk (some 53) _ _ _ _ _) (v := undef) rfl (by kernel_rfl) (by kernel_rfl) (by kernel_rfl) (fun _ _ _ h => h) (Or.inr ⟨by rfl, rfl⟩) (by assumption) ?_
  simp only [Act.put, List.setIfInBounds_toArray, List.set_cons_succ, List.set_cons_zero]
  refine wpAnyH_take (i := 10) (oi := Oper.mk (some 54) _ _ _ _ _) (v := undef) rfl (by kernel_rfl) (by kernel_rfl) (by kernel_rfl) (fun _ _ _ h => h) (Or.inr ⟨by rfl, rfl⟩) (by assumption) ?_
  simp only [Act.put, List.setIfInBounds_toArray, List.set_cons_succ, List.set_cons_zero]
  refine wpAnyH_take (i := 11) (oi := Oper.mk (some 55) _ _ _ _ _) (v := undef) rfl (by kernel_rfl) (by kernel_rfl) (by kernel_rfl) (fun _ _ _ h => h) (Or.inr ⟨by rfl, rfl⟩) (by assumption) ?_
  simp only [Act.put, List.setIfInBounds_toArray, List.set_cons_succ, List.set_cons_zero]
  refine wpAnyH_take (i := 12) (oi := Oper.mk (some 56) _ _ _ _ _) (v := undef) rfl (by kernel_rfl) (by kernel_rfl) (by kernel_rfl) (fun _ _ _ h => h) (Or.inr ⟨by rfl, rfl⟩) (by assumption) ?_
  simp only [Act.put, List.setIfInBounds_toArray, List.set_cons_succ, List.set_cons_zero]
  refine wpAnyH_take (i := 13) (oi := Oper.mk (some 57) _ _ _ _ _) (v := undef) rfl (by kernel_rfl) (by kernel_rfl) (by kernel_rfl) (fun _ _ _ h => h) (Or.inr ⟨by rfl, rfl⟩) (by assumption) ?_
  simp only [Act.put, List.setIfInBounds_toArray, List.set_cons_succ, List.set_cons_zero]
  refine wpAnyH_take (i := 14) (oi := Oper.mk (some 58) _ _ _ _ _) (v := undef) rfl (by kernel_rfl) (by kernel_rfl) (by kernel_rfl) (fun _ _ _ h => h) (Or.inr ⟨by rfl, rfl⟩) (by assumption) ?_
  simp only [Act.put, List.setIfInBounds_toArray, List.set_cons_succ, List.set_cons_zero]
  refine wpAnyH_take (i := 15) (oi := Oper.mk (some 59) _ _ _ _ _) (v := undef) rfl (by kernel_rfl) (by kernel_rfl) (by kernel_rfl) (fun _ _ _ h => h) (Or.inr ⟨by rfl, rfl⟩) (by assumption) ?_
  simp only [Act.put, List.setIfInBounds_toArray, List.set_cons_succ, List.set_cons_zero]
  refine wpAnyH_take (i := 16) (oi := Oper.mk (some 60) _ _ _ _ _) (v := undef) rfl (by kernel_rfl) (by kernel_rfl) (by kernel_rfl) (fun _ _ _ h => h) (Or.inr ⟨by rfl, rfl⟩) (by assumption) ?_
  simp only [Act.put, List.setIfInBounds_toArray, List.set_cons_succ, List.set_cons_zero]
  refine wpAnyH_take (i := 17) (oi := Oper.mk (some 61) _ _ _ _ _) (v := undef) rfl (by kernel_rfl) (by kernel_rfl) (by kernel_rfl) (fun _ _ _ h => h) (Or.inr ⟨by rfl, rfl⟩) (by assumption) ?_
  simp only [Act.put, List.setIfInBounds_toArray, List.set_cons_succ, List.set_cons_zero]
  refine wpAnyH_take (i := 18) (oi := Oper.mk (some 62) _ _ _ _ _) (v := undef) rfl (by kernel_rfl) (by kernel_rfl) (by kernel_rfl) (fun _ _ _ h => h) (Or.inr ⟨by rfl, rfl⟩) (by assumption) ?_
  simp only [Act.put, List.setIfInBounds_toArray, List.set_cons_succ, List.set_cons_zero]
  refine wpAnyH_take (i := 19) (oi := Oper.mk (some 63) _ _ _ _ _) (v := .bool false) rfl (by kernel_rfl) (by kernel_rfl) (by kernel_rfl) (fun _ _ _ h => h) (Or.inl ⟨by rfl, ?_⟩) (by assumption) ?_
  · intro wX hSw
    (try dsimp only at hSw)
    go_simp
  simp only [Act.put, List.setIfInBounds_toArray, List.set_cons_succ, List.set_cons_zero]
  refine wpAnyH_take (i := 20) (oi := Oper.mk (some 2) _ _ _ _ _) (v := .bool false) rfl (by kernel_rfl) (by kernel_rfl) (by kernel_rfl) (fun _ _ _ h => h) (Or.inl ⟨by rfl, ?_⟩) (by assumption) ?_
  · intro wX hSw
    (try dsimp only at hSw)
    go_simp
  simp only [Act.put, List.setIfInBounds_toArray, List.set_cons_succ, List.set_cons_zero]
  refine wpAnyH_done (by kernel_rfl) ?_ _
  have HBE := hide HB5.out.drew
  go_wp2
  go_ret
  exact ⟨rfl, HBE.out⟩

set_option maxHeartbeats 2000000 in
theorem omay_n (i : ByteArray) (v z : Int) (f t : ByteArray) (e : Int) (w : World) (h0 : NumT (bys i) 8192) (h1 : NumT (bys t) 8192) (h2 : 0 ≤ v ∧ v ≤ 8192) (h3 : 0 ≤ z ∧ z ≤ 8192) (h4 : 0 ≤ e ∧ e ≤ 8192) (h5 : z ≤ v) (h6 : bys t ≠ [48]) (h7 : (t.size : Int) ≤ z) (N : ByteArray) (hN : ∀ W, Calls Tryz.prog 99 #[.int .i64 (v - z)] W fun e w' => e = .returned (.string N) ∧ Below W.heap.size W w') (hn : N.size ≤ 10000) (ht : t.size ≤ 10000) (h9 : bys f ≠ bys t ++ bys N) : Calls Tryz.prog 54 #[opV i v z f t e] w fun e w' => e = .returned (.bool false) ∧ Below w.heap.size w w' := by
  have K0 := hide (fun W => isNum_T i W h0)
  have K1 := hide (fun W => isNum_T t W h1)
  have K2 := hide (fun W => isCount_t v W h2.1 h2.2)
  have K3 := hide (fun W => isCount_t z W h3.1 h3.2)
  have K4 := hide (fun W => isCount_t e W h4.1 h4.2)
  have g5 : decide (v < z) = false := decide_eq_false (by omega)
  have hq := ne_nought h6
  have hf := ne_text (f := f) (g := t ++ N) (by rw [bys_append]; exact h9)
  clear h9
  have HN := hide hN
  have hw : IntKind.i64.wrap (v - z) = v - z := by rw [IntKind.wrap_i64]; omega
  have hs : ¬ 9223372036854775807 < t.size + N.size := by omega
  have h8 : decide ((t.size : Int) ≤ z) = true := decide_eq_true h7
  clear h5 h6 h7 hN hn ht
  clear h0 h1 h2 h3 h4
  have Bs0 := hide (Blk.newAt w (w.heap.size) (rfl) #[.string i, .int .i64 v, .int .i64 z, .string f, .string t, .int .i64 e] 41)
  have HB0 : Hid (Below w.heap.size w (w.alloc (.cells #[.string i, .int .i64 v, .int .i64 z, .string f, .string t, .int .i64 e] 41))) := ((Below.refl _ _).alloc (Nat.le_refl _) _)
  go_enter Tryz.func54, Tryz.ntmps54
  go_wp2_with fail
  refine (K0.out _).mono ?_
  rintro e w1 ⟨rfl, hb⟩
  have Bs1 := Blk.on Bs0 hb
  have HB1 := hide (HB0.out.trans (hb.mono HB0.out.size))
  clear hb Bs0 HB0 
  obtain ⟨ys0, ys1, ys2, ys3, ys4, ys5⟩ := Bs1.out.six
  go_wp2_with fail
  refine (K1.out _).mono ?_
  rintro e w2 ⟨rfl, hb⟩
  have Bs2 := Blk.on Bs1 hb
  have HB2 := hide (HB1.out.trans (hb.mono HB1.out.size))
  clear hb Bs1 HB1 ys0 ys1 ys2 ys3 ys4 ys5
  obtain ⟨ys0, ys1, ys2, ys3, ys4, ys5⟩ := Bs2.out.six
  go_wp2_with fail
  refine (K2.out _).mono ?_
  rintro e w3 ⟨rfl, hb⟩
  have Bs3 := Blk.on Bs2 hb
  have HB3 := hide (HB2.out.trans (hb.mono HB2.out.size))
  clear hb Bs2 HB2 ys0 ys1 ys2 ys3 ys4 ys5
  obtain ⟨ys0, ys1, ys2, ys3, ys4, ys5⟩ := Bs3.out.six
  go_wp2_with fail
  refine (K3.out _).mono ?_
  rintro e w4 ⟨rfl, hb⟩
  have Bs4 := Blk.on Bs3 hb
  have HB4 := hide (HB3.out.trans (hb.mono HB3.out.size))
  clear hb Bs3 HB3 ys0 ys1 ys2 ys3 ys4 ys5
  obtain ⟨ys0, ys1, ys2, ys3, ys4, ys5⟩ := Bs4.out.six
  go_wp2_with fail
  refine (K4.out _).mono ?_
  rintro e w5 ⟨rfl, hb⟩
  have Bs5 := Blk.on Bs4 hb
  have HB5 := hide (HB4.out.trans (hb.mono HB4.out.size))
  clear hb Bs4 HB4 ys0 ys1 ys2 ys3 ys4 ys5
  obtain ⟨ys0, ys1, ys2, ys3, ys4, ys5⟩ := Bs5.out.six
  have b0 : Hid (Below w5.heap.size w5 w5.drew) := bdrewD w5
  have C0 : Hid (∀ X, Hid (Below w5.heap.size w5 X) → Calls Tryz.prog 99 #[.int .i64 (v - z)] X fun e w' => e = .returned (.string N) ∧ Hid (Below w5.heap.size w5 w') ∧ w'.cell? ⟨w.heap.size, 1, none⟩ = some (.int .i64 v) ∧ w'.cell? ⟨w.heap.size, 2, none⟩ = some (.int .i64 z) ∧ w'.cell? ⟨w.heap.size, 3, none⟩ = some (.string f) ∧ w'.cell? ⟨w.heap.size, 4, none⟩ = some (.string t)) := by
    intro X bX
    refine (HN.out X).mono ?_
    rintro e w' ⟨rfl, hb⟩
    have bb := bX.out.trans (hb.mono bX.out.size)
    have Bsq := Bs5.out.below bb Bs5.out.lt
    exact ⟨rfl, bb, Bsq.cell 1, Bsq.cell 2, Bsq.cell 3, Bsq.cell 4⟩
  go_wp2_with fail
  have mk0 : True := trivial
  go_region_held3 (fun w' => w'.cell? ⟨w.heap.size, 1, none⟩ = some (.int .i64 v) ∧ w'.cell? ⟨w.heap.size, 2, none⟩ = some (.int .i64 z) ∧ w'.cell? ⟨w.heap.size, 3, none⟩ = some (.string f) ∧ w'.cell? ⟨w.heap.size, 4, none⟩ = some (.string t)) (go_keep) (first
    | (clear mk0; go_at_call 99; refine (C0.out _ b0).mono ?_; rintro e w6 ⟨rfl, b1, q0_0, q0_1, q0_2, q0_3⟩; have mk1 : True := trivial))
  have Bs6 := hide (Bs5.out.below b1.out Bs5.out.lt)
  have HB6 := hide (HB5.out.trans (b1.out.mono HB5.out.size))
  clear mk1 b0 b1 C0 q0_0 q0_1 q0_2 q0_3 Bs5 HB5 ys0 ys1 ys2 ys3 ys4 ys5
  obtain ⟨ys0, ys1, ys2, ys3, ys4, ys5⟩ := Bs6.out.six
  go_wp2
  go_ret
  exact ⟨rfl, HB6.out⟩

set_option maxHeartbeats 2000000 in
theorem omay_y (i : ByteArray) (v z : Int) (t : ByteArray) (e : Int) (N : ByteArray) (w : World) (h0 : NumT (bys i) 8192) (h1 : NumT (bys t) 8192) (h2 : 0 ≤ v ∧ v ≤ 8192) (h3 : 0 ≤ z ∧ z ≤ 8192) (h4 : 0 ≤ e ∧ e ≤ 8192) (h5 : z ≤ v) (h6 : bys t ≠ [48]) (h7 : (t.size : Int) ≤ z) (hN : ∀ W, Calls Tryz.prog 99 #[.int .i64 (v - z)] W fun e w' => e = .returned (.string N) ∧ Below W.heap.size W w') (hn : N.size ≤ 10000) (ht : t.size ≤ 10000) : Calls Tryz.prog 54 #[opV i v z (t ++ N) t e] w fun e w' => e = .returned (.bool true) ∧ Below w.heap.size w w' := by
  have K0 := hide (fun W => isNum_T i W h0)
  have K1 := hide (fun W => isNum_T t W h1)
  have K2 := hide (fun W => isCount_t v W h2.1 h2.2)
  have K3 := hide (fun W => isCount_t z W h3.1 h3.2)
  have K4 := hide (fun W => isCount_t e W h4.1 h4.2)
  have g5 : decide (v < z) = false := decide_eq_false (by omega)
  have hq := ne_nought h6
  have HN := hide hN
  have hw : IntKind.i64.wrap (v - z) = v - z := by rw [IntKind.wrap_i64]; omega
  have hs : ¬ 9223372036854775807 < t.size + N.size := by omega
  have h8 : decide ((t.size : Int) ≤ z) = true := decide_eq_true h7
  clear h5 h6 h7 hN hn ht
  clear h0 h1 h2 h3 h4
  have Bs0 := hide (Blk.newAt w (w.heap.size) (rfl) #[.string i, .int .i64 v, .int .i64 z, .string (t ++ N), .string t, .int .i64 e] 41)
  have HB0 : Hid (Below w.heap.size w (w.alloc (.cells #[.string i, .int .i64 v, .int .i64 z, .string (t ++ N), .string t, .int .i64 e] 41))) := ((Below.refl _ _).alloc (Nat.le_refl _) _)
  go_enter Tryz.func54, Tryz.ntmps54
  go_wp2_with fail
  refine (K0.out _).mono ?_
  rintro e w1 ⟨rfl, hb⟩
  have Bs1 := Blk.on Bs0 hb
  have HB1 := hide (HB0.out.trans (hb.mono HB0.out.size))
  clear hb Bs0 HB0 
  obtain ⟨ys0, ys1, ys2, ys3, ys4, ys5⟩ := Bs1.out.six
  go_wp2_with fail
  refine (K1.out _).mono ?_
  rintro e w2 ⟨rfl, hb⟩
  have Bs2 := Blk.on Bs1 hb
  have HB2 := hide (HB1.out.trans (hb.mono HB1.out.size))
  clear hb Bs1 HB1 ys0 ys1 ys2 ys3 ys4 ys5
  obtain ⟨ys0, ys1, ys2, ys3, ys4, ys5⟩ := Bs2.out.six
  go_wp2_with fail
  refine (K2.out _).mono ?_
  rintro e w3 ⟨rfl, hb⟩
  have Bs3 := Blk.on Bs2 hb
  have HB3 := hide (HB2.out.trans (hb.mono HB2.out.size))
  clear hb Bs2 HB2 ys0 ys1 ys2 ys3 ys4 ys5
  obtain ⟨ys0, ys1, ys2, ys3, ys4, ys5⟩ := Bs3.out.six
  go_wp2_with fail
  refine (K3.out _).mono ?_
  rintro e w4 ⟨rfl, hb⟩
  have Bs4 := Blk.on Bs3 hb
  have HB4 := hide (HB3.out.trans (hb.mono HB3.out.size))
  clear hb Bs3 HB3 ys0 ys1 ys2 ys3 ys4 ys5
  obtain ⟨ys0, ys1, ys2, ys3, ys4, ys5⟩ := Bs4.out.six
  go_wp2_with fail
  refine (K4.out _).mono ?_
  rintro e w5 ⟨rfl, hb⟩
  have Bs5 := Blk.on Bs4 hb
  have HB5 := hide (HB4.out.trans (hb.mono HB4.out.size))
  clear hb Bs4 HB4 ys0 ys1 ys2 ys3 ys4 ys5
  obtain ⟨ys0, ys1, ys2, ys3, ys4, ys5⟩ := Bs5.out.six
  have b0 : Hid (Below w5.heap.size w5 w5.drew) := bdrewD w5
  have C0 : Hid (∀ X, Hid (Below w5.heap.size w5 X) → Calls Tryz.prog 99 #[.int .i64 (v - z)] X fun e w' => e = .returned (.string N) ∧ Hid (Below w5.heap.size w5 w') ∧ w'.cell? ⟨w.heap.size, 1, none⟩ = some (.int .i64 v) ∧ w'.cell? ⟨w.heap.size, 2, none⟩ = some (.int .i64 z) ∧ w'.cell? ⟨w.heap.size, 3, none⟩ = some (.string (t ++ N)) ∧ w'.cell? ⟨w.heap.size, 4, none⟩ = some (.string t)) := by
    intro X bX
    refine (HN.out X).mono ?_
    rintro e w' ⟨rfl, hb⟩
    have bb := bX.out.trans (hb.mono bX.out.size)
    have Bsq := Bs5.out.below bb Bs5.out.lt
    exact ⟨rfl, bb, Bsq.cell 1, Bsq.cell 2, Bsq.cell 3, Bsq.cell 4⟩
  go_wp2_with fail
  have mk0 : True := trivial
  go_region_held3 (fun w' => w'.cell? ⟨w.heap.size, 1, none⟩ = some (.int .i64 v) ∧ w'.cell? ⟨w.heap.size, 2, none⟩ = some (.int .i64 z) ∧ w'.cell? ⟨w.heap.size, 3, none⟩ = some (.string (t ++ N)) ∧ w'.cell? ⟨w.heap.size, 4, none⟩ = some (.string t)) (go_keep) (first
    | (clear mk0; go_at_call 99; refine (C0.out _ b0).mono ?_; rintro e w6 ⟨rfl, b1, q0_0, q0_1, q0_2, q0_3⟩; have mk1 : True := trivial))
  have Bs6 := hide (Bs5.out.below b1.out Bs5.out.lt)
  have HB6 := hide (HB5.out.trans (b1.out.mono HB5.out.size))
  clear mk1 b0 b1 C0 q0_0 q0_1 q0_2 q0_3 Bs5 HB5 ys0 ys1 ys2 ys3 ys4 ys5
  obtain ⟨ys0, ys1, ys2, ys3, ys4, ys5⟩ := Bs6.out.six
  go_wp2
  go_ret
  exact ⟨rfl, HB6.out⟩

theorem bys_inj {f g : ByteArray} (h : bys f = bys g) : f = g := (mk_bys f).symm.trans ((congrArg (fun l : List UInt8 => (⟨l.toArray⟩ : ByteArray)) h).trans (mk_bys g))

theorem NumT.up {l : List UInt8} {m m' : Int} (h : NumT l m) (hm : m ≤ m') : NumT l m' := by
  rcases h with h | ⟨h1, h2, h3⟩
  · exact .inl h
  · exact .inr ⟨h1, by omega, h3⟩

theorem mayO_iff (x : OperT) : MayO x ↔ NumT x.i 8192 ∧ NumT x.t 8192 ∧ (0 ≤ x.v ∧ x.v ≤ 8192) ∧ (0 ≤ x.w ∧ x.w ≤ 8192) ∧ (0 ≤ x.e ∧ x.e ≤ 8192) ∧ x.w ≤ x.v ∧ ((x.t = [48] ∧ x.f = [48]) ∨ (x.t ≠ [48] ∧ (x.t.length : Int) ≤ x.w ∧ x.f = x.t ++ List.replicate (x.v - x.w).toNat 48)) := by
  constructor
  · rintro ⟨⟨v1, v2⟩, ⟨w1, w2⟩, ⟨e1, e2⟩, hi, hf, ht, h1, h2⟩
    refine ⟨hi, ht.up (by omega), ⟨v1, v2⟩, ⟨w1, by omega⟩, ⟨e1, e2⟩, w2, ?_⟩
    by_cases h : x.t = [48]
    · exact .inl ⟨h, h1 h⟩
    · exact .inr ⟨h, (ht.resolve_left h).2.1, h2 h⟩
  · rintro ⟨hi, ht, ⟨v1, v2⟩, ⟨w1, w2⟩, ⟨e1, e2⟩, hw, h⟩
    rcases h with ⟨h1, h2⟩ | ⟨h1, h2, h3⟩
    · exact ⟨⟨v1, v2⟩, ⟨w1, hw⟩, ⟨e1, e2⟩, hi, .inl h2, .inl h1, fun _ => h2, fun g => absurd h1 g⟩
    · obtain ⟨a1, a2, a3, a4⟩ := ht.resolve_left h1
      refine ⟨⟨v1, v2⟩, ⟨w1, hw⟩, ⟨e1, e2⟩, hi, .inr ⟨?_, ?_, ?_, ?_⟩, .inr ⟨a1, h2, a3, a4⟩, fun g => absurd g h1, fun _ => h3⟩
      · rw [h3]; intro g; exact a1 (List.append_eq_nil_iff.1 g).1
      · rw [h3, List.length_append, List.length_replicate]; omega
      · rw [h3, byt_append_left _ _ (List.length_pos_iff.2 a1)]; exact a3
      · rw [h3]; exact a4.append (digB_rep _)

theorem May_T (i : ByteArray) (v z : Int) (f t : ByteArray) (e : Int) (w : World) (h : MayO ⟨bys i, v, z, bys f, bys t, e⟩) : Calls Tryz.prog 54 #[opV i v z f t e] w fun e w' => e = .returned (.bool true) ∧ Below w.heap.size w w' := by
  obtain ⟨h0, h1, h2, h3, h4, h5, h⟩ := (mayO_iff _).1 h
  simp only at h0 h1 h2 h3 h4 h5 h
  rcases h with ⟨g1, g2⟩ | ⟨g1, g2, g3⟩
  · obtain rfl : t = ⟨#[48]⟩ := by rw [← mk_bys t, g1]
    obtain rfl : f = ⟨#[48]⟩ := by rw [← mk_bys f, g2]
    exact omay_zt i v z e w h0 h2 h3 h4 h5
  · have hl : t.size ≤ 8192 := by
      rw [bys_len] at g2
      omega
    obtain rfl : f = t ++ ⟨(List.replicate (v - z).toNat 48).toArray⟩ := bys_inj (by rw [g3, bys_append, bys_mk (List.replicate (v - z).toNat 48)])
    refine omay_y i v z t e _ w h0 h1 h2 h3 h4 h5 g1 (by rw [bys_len] at g2; exact g2) (fun W => ?_) (by rw [size_mk0, List.length_replicate]; omega) (by omega)
    have := onoughts_any (v - z).toNat W (by omega)
    rwa [show (((v - z).toNat : Nat) : Int) = v - z by omega] at this

theorem May_F (i : ByteArray) (v z : Int) (f t : ByteArray) (e : Int) (w : World) (h : ¬ MayO ⟨bys i, v, z, bys f, bys t, e⟩) : Calls Tryz.prog 54 #[opV i v z f t e] w fun e w' => e = .returned (.bool false) ∧ Below w.heap.size w w' := by
  rw [mayO_iff] at h
  simp only at h
  by_cases h0 : NumT (bys i) 8192
  rotate_left
  · exact omay_0 i v z f t e w h0
  by_cases h1 : NumT (bys t) 8192
  rotate_left
  · exact omay_1 i v z f t e w h0 h1
  by_cases h2 : 0 ≤ v ∧ v ≤ 8192
  rotate_left
  · exact omay_2 i v z f t e w h0 h1 h2
  by_cases h3 : 0 ≤ z ∧ z ≤ 8192
  rotate_left
  · exact omay_3 i v z f t e w h0 h1 h2 h3
  by_cases h4 : 0 ≤ e ∧ e ≤ 8192
  rotate_left
  · exact omay_4 i v z f t e w h0 h1 h2 h3 h4
  by_cases h5 : z ≤ v
  rotate_left
  · exact omay_5 i v z f t e w h0 h1 h2 h3 h4 (by omega)
  by_cases g1 : bys t = [48]
  · obtain rfl : t = ⟨#[48]⟩ := by rw [← mk_bys t, g1]
    exact omay_zf i v z f e w h0 h2 h3 h4 h5 (fun g => h ⟨h0, h1, h2, h3, h4, h5, .inl ⟨g1, g⟩⟩)
  · by_cases g2 : (t.size : Int) ≤ z
    · refine omay_n i v z f t e w h0 h1 h2 h3 h4 h5 g1 g2 ⟨(List.replicate (v - z).toNat 48).toArray⟩ (fun W => ?_) (by rw [size_mk0, List.length_replicate]; omega) (by omega) (fun g => h ⟨h0, h1, h2, h3, h4, h5, .inr ⟨g1, by rw [bys_len]; exact g2, by rw [g, bys_mk (List.replicate (v - z).toNat 48)]⟩⟩)
      have := onoughts_any (v - z).toNat W (by omega)
      rwa [show (((v - z).toNat : Nat) : Int) = v - z by omega] at this
    · exact omay_l i v z f t e w h0 h1 h2 h3 h4 h5 g1 g2

end Go.Proofs.YtobloamnaemfnaaGreatDoor

namespace Go.Proofs.YtobloamnaemfnaaGreatDoor
open Go.RowKit

theorem digB_all {l : List UInt8} (h : l.all (fun b => decide (48 ≤ b.toNat) && decide (b.toNat ≤ 57)) = true) : DigB l := by
  intro k hk
  unfold byt
  rw [List.getElem?_eq_getElem hk]
  have := List.all_eq_true.1 h _ (List.getElem_mem hk)
  simpa using this

theorem qs1 : ofS ⟨0, false, [48, 49], [50, 51, 48], 0, false⟩ = (⟨[49], 3, 2, [50, 51, 48], [50, 51], 0⟩, 0) := (ofS_yes ⟨⟨⟨by decide, by decide⟩, .inl ⟨rfl, .inl (by decide), ⟨by decide, digB_all rfl⟩, ⟨by decide, digB_all rfl⟩⟩⟩, rfl, fun h => by first | decide | cases h⟩).trans rfl
theorem qs2 : ofS ⟨0, false, [49], [50], 6, true⟩ = (⟨[49, 50, 48, 48, 48, 48, 48], 0, 0, [48], [48], 6⟩, 0) := (ofS_yes ⟨⟨⟨by decide, by decide⟩, .inl ⟨rfl, .inl (by decide), ⟨by decide, digB_all rfl⟩, ⟨by decide, digB_all rfl⟩⟩⟩, rfl, fun h => by first | decide | cases h⟩).trans rfl
theorem qs3 : ofS ⟨0, false, [], [], 0, false⟩ = (⟨[], 0, 0, [], [], 0⟩, 80) := ofS_no (by
  rintro ⟨⟨_, ⟨_, h, _⟩ | ⟨h, _⟩ | ⟨h, _⟩⟩, _, _⟩
  · exact h.elim (fun g => g rfl) (fun g => g rfl)
  · exact absurd (show (0 : Int) = 1 from h) (by decide)
  · exact absurd (show (0 : Int) = 2 from h) (by decide))
theorem qm1 : MayO ⟨[49], 3, 2, [50, 51, 48], [50, 51], 0⟩ := by
  have h : HasO ⟨0, false, [48, 49], [50, 51, 48], 0, false⟩ := ⟨⟨⟨by decide, by decide⟩, .inl ⟨rfl, .inl (by decide), ⟨by decide, digB_all rfl⟩, ⟨by decide, digB_all rfl⟩⟩⟩, rfl, fun h => by first | decide | cases h⟩
  have e := congrArg Prod.fst ((ofS_yes h).symm.trans qs1)
  have g := oper_may h
  rw [show operS ⟨0, false, [48, 49], [50, 51, 48], 0, false⟩ = ⟨[49], 3, 2, [50, 51, 48], [50, 51], 0⟩ from e] at g
  exact g
theorem qm3 : ¬ MayO ⟨[], 0, 0, [], [], 0⟩ := fun h => by
  rcases h.2.2.2.1 with g | g
  · exact absurd (show ([] : List UInt8) = [48] from g) (by decide)
  · exact g.1 rfl

theorem qo1 (w : World) (htab : Tab w) : Calls Tryz.prog 18 #[shV 0 false ⟨#[48, 49]⟩ ⟨#[50, 51, 48]⟩ 0 false] w fun e w' => e = .returned (.tuple #[.agg #[.string ⟨#[49]⟩, .int .i64 3, .int .i64 2, .string ⟨#[50, 51, 48]⟩, .string ⟨#[50, 51]⟩, .int .i64 0], .int .i64 0]) ∧ Below w.heap.size w w' := by
  have h := Of_any 0 false ⟨#[48, 49]⟩ ⟨#[50, 51, 48]⟩ 0 false w htab
  rw [show ofS ⟨0, false, bys ⟨#[48, 49]⟩, bys ⟨#[50, 51, 48]⟩, 0, false⟩ = (⟨[49], 3, 2, [50, 51, 48], [50, 51], 0⟩, 0) from qs1] at h
  exact h
theorem qo2 (w : World) (htab : Tab w) : Calls Tryz.prog 18 #[shV 0 false ⟨#[49]⟩ ⟨#[50]⟩ 6 true] w fun e w' => e = .returned (.tuple #[.agg #[.string ⟨#[49, 50, 48, 48, 48, 48, 48]⟩, .int .i64 0, .int .i64 0, .string ⟨#[48]⟩, .string ⟨#[48]⟩, .int .i64 6], .int .i64 0]) ∧ Below w.heap.size w w' := by
  have h := Of_any 0 false ⟨#[49]⟩ ⟨#[50]⟩ 6 true w htab
  rw [show ofS ⟨0, false, bys ⟨#[49]⟩, bys ⟨#[50]⟩, 6, true⟩ = (⟨[49, 50, 48, 48, 48, 48, 48], 0, 0, [48], [48], 6⟩, 0) from qs2] at h
  exact h
theorem qo3 (w : World) (htab : Tab w) : Calls Tryz.prog 18 #[shV 0 false ⟨#[]⟩ ⟨#[]⟩ 0 false] w fun e w' => e = .returned (.tuple #[.agg #[.string ⟨#[]⟩, .int .i64 0, .int .i64 0, .string ⟨#[]⟩, .string ⟨#[]⟩, .int .i64 0], .int .i64 80]) ∧ Below w.heap.size w w' := by
  have h := Of_any 0 false ⟨#[]⟩ ⟨#[]⟩ 0 false w htab
  rw [show ofS ⟨0, false, bys ⟨#[]⟩, bys ⟨#[]⟩, 0, false⟩ = (⟨[], 0, 0, [], [], 0⟩, 80) from qs3] at h
  exact h
set_option maxRecDepth 100000 in
set_option maxHeartbeats 4000000 in
theorem qawake_any (w : World) (htab : Tab w) : Calls Tryz.prog 20 #[] w fun e w' => e = .returned (.bool true) ∧ Below w.heap.size w w' := by
  have HT := hide htab
  have HB0 : Hid (Below w.heap.size w w) := Below.refl _ _
  clear htab
  go_enter Tryz.func20, Tryz.ntmps20
  go_wp2_with fail
  refine (qo1 _ (HT.out.below HB0.out)).mono ?_
  rintro e w1 ⟨rfl, hb⟩
  have HB1 := hide (HB0.out.trans (hb.mono HB0.out.size))
  clear hb  HB0 
  have Bx2 := hide ((Blk.newAt w1 (w1.heap.size) (rfl) #[.string ⟨#[49]⟩, .int .i64 3, .int .i64 2, .string ⟨#[50, 51, 48]⟩, .string ⟨#[50, 51]⟩, .int .i64 0] 41))
  have HB2 : Hid (Below w.heap.size w (w1.alloc (.cells #[.string ⟨#[49]⟩, .int .i64 3, .int .i64 2, .string ⟨#[50, 51, 48]⟩, .string ⟨#[50, 51]⟩, .int .i64 0] 41))) := (HB1.out.alloc HB1.out.size _)
  clear  HB1 
  obtain ⟨yx0, yx1, yx2, yx3, yx4, yx5⟩ := Bx2.out.six
  go_wp2_with fail
  refine (qo2 _ (HT.out.below HB2.out)).mono ?_
  rintro e w3 ⟨rfl, hb⟩
  have Bx3 := Blk.on Bx2 hb
  have HB3 := hide (HB2.out.trans (hb.mono HB2.out.size))
  clear hb Bx2 HB2 yx0 yx1 yx2 yx3 yx4 yx5
  obtain ⟨yx0, yx1, yx2, yx3, yx4, yx5⟩ := Bx3.out.six
  have Bx4 := Blk.up Bx3 (.cells #[.string ⟨#[49, 50, 48, 48, 48, 48, 48]⟩, .int .i64 0, .int .i64 0, .string ⟨#[48]⟩, .string ⟨#[48]⟩, .int .i64 6] 41)
  have By4 := hide ((Blk.newAt w3 (w3.heap.size) (rfl) #[.string ⟨#[49, 50, 48, 48, 48, 48, 48]⟩, .int .i64 0, .int .i64 0, .string ⟨#[48]⟩, .string ⟨#[48]⟩, .int .i64 6] 41))
  have HB4 : Hid (Below w.heap.size w (w3.alloc (.cells #[.string ⟨#[49, 50, 48, 48, 48, 48, 48]⟩, .int .i64 0, .int .i64 0, .string ⟨#[48]⟩, .string ⟨#[48]⟩, .int .i64 6] 41))) := (HB3.out.alloc HB3.out.size _)
  clear Bx3 HB3 yx0 yx1 yx2 yx3 yx4 yx5
  obtain ⟨yx0, yx1, yx2, yx3, yx4, yx5⟩ := Bx4.out.six
  obtain ⟨yy0, yy1, yy2, yy3, yy4, yy5⟩ := By4.out.six
  go_wp2_with fail
  refine (qo3 _ (HT.out.below HB4.out)).mono ?_
  rintro e w5 ⟨rfl, hb⟩
  have Bx5 := Blk.on Bx4 hb
  have By5 := Blk.on By4 hb
  have HB5 := hide (HB4.out.trans (hb.mono HB4.out.size))
  clear hb Bx4 By4 HB4 yx0 yx1 yx2 yx3 yx4 yx5 yy0 yy1 yy2 yy3 yy4 yy5
  obtain ⟨yx0, yx1, yx2, yx3, yx4, yx5⟩ := Bx5.out.six
  obtain ⟨yy0, yy1, yy2, yy3, yy4, yy5⟩ := By5.out.six
  have Bx6 := Blk.up Bx5 (.cells #[.string ⟨#[]⟩, .int .i64 0, .int .i64 0, .string ⟨#[]⟩, .string ⟨#[]⟩, .int .i64 0] 41)
  have By6 := Blk.up By5 (.cells #[.string ⟨#[]⟩, .int .i64 0, .int .i64 0, .string ⟨#[]⟩, .string ⟨#[]⟩, .int .i64 0] 41)
  have Bg6 := hide ((Blk.newAt w5 (w5.heap.size) (rfl) #[.string ⟨#[]⟩, .int .i64 0, .int .i64 0, .string ⟨#[]⟩, .string ⟨#[]⟩, .int .i64 0] 41))
  have HB6 : Hid (Below w.heap.size w (w5.alloc (.cells #[.string ⟨#[]⟩, .int .i64 0, .int .i64 0, .string ⟨#[]⟩, .string ⟨#[]⟩, .int .i64 0] 41))) := (HB5.out.alloc HB5.out.size _)
  clear Bx5 By5 HB5 yx0 yx1 yx2 yx3 yx4 yx5 yy0 yy1 yy2 yy3 yy4 yy5
  obtain ⟨yx0, yx1, yx2, yx3, yx4, yx5⟩ := Bx6.out.six
  obtain ⟨yy0, yy1, yy2, yy3, yy4, yy5⟩ := By6.out.six
  obtain ⟨yg0, yg1, yg2, yg3, yg4, yg5⟩ := Bg6.out.six
  have Bx7 := Blk.up Bx6 (.cells #[.string ⟨#[49]⟩, .int .i64 3, .int .i64 2, .string ⟨#[50, 51, 48]⟩, .string ⟨#[50, 51]⟩, .int .i64 0] 41)
  have By7 := Blk.up By6 (.cells #[.string ⟨#[49]⟩, .int .i64 3, .int .i64 2, .string ⟨#[50, 51, 48]⟩, .string ⟨#[50, 51]⟩, .int .i64 0] 41)
  have Bg7 := Blk.up Bg6 (.cells #[.string ⟨#[49]⟩, .int .i64 3, .int .i64 2, .string ⟨#[50, 51, 48]⟩, .string ⟨#[50, 51]⟩, .int .i64 0] 41)
  have Bm7 := hide ((Blk.newAt (w5.alloc (.cells #[.string ⟨#[]⟩, .int .i64 0, .int .i64 0, .string ⟨#[]⟩, .string ⟨#[]⟩, .int .i64 0] 41)) ((w5.alloc (.cells #[.string ⟨#[]⟩, .int .i64 0, .int .i64 0, .string ⟨#[]⟩, .string ⟨#[]⟩, .int .i64 0] 41)).heap.size) (rfl) #[.string ⟨#[49]⟩, .int .i64 3, .int .i64 2, .string ⟨#[50, 51, 48]⟩, .string ⟨#[50, 51]⟩, .int .i64 0] 41))
  have HB7 : Hid (Below w.heap.size w ((w5.alloc (.cells #[.string ⟨#[]⟩, .int .i64 0, .int .i64 0, .string ⟨#[]⟩, .string ⟨#[]⟩, .int .i64 0] 41)).alloc (.cells #[.string ⟨#[49]⟩, .int .i64 3, .int .i64 2, .string ⟨#[50, 51, 48]⟩, .string ⟨#[50, 51]⟩, .int .i64 0] 41))) := (HB6.out.alloc HB6.out.size _)
  clear Bx6 By6 Bg6 HB6 yx0 yx1 yx2 yx3 yx4 yx5 yy0 yy1 yy2 yy3 yy4 yy5 yg0 yg1 yg2 yg3 yg4 yg5
  obtain ⟨yx0, yx1, yx2, yx3, yx4, yx5⟩ := Bx7.out.six
  obtain ⟨yy0, yy1, yy2, yy3, yy4, yy5⟩ := By7.out.six
  obtain ⟨yg0, yg1, yg2, yg3, yg4, yg5⟩ := Bg7.out.six
  obtain ⟨ym0, ym1, ym2, ym3, ym4, ym5⟩ := Bm7.out.six
  go_wp2_with fail
  refine (May_T ⟨#[49]⟩ 3 2 ⟨#[50, 51, 48]⟩ ⟨#[50, 51]⟩ 0 _ qm1).mono ?_
  rintro e w8 ⟨rfl, hb⟩
  have Bx8 := Blk.on Bx7 hb
  have By8 := Blk.on By7 hb
  have Bg8 := Blk.on Bg7 hb
  have Bm8 := Blk.on Bm7 hb
  have HB8 := hide (HB7.out.trans (hb.mono HB7.out.size))
  clear hb Bx7 By7 Bg7 Bm7 HB7 yx0 yx1 yx2 yx3 yx4 yx5 yy0 yy1 yy2 yy3 yy4 yy5 yg0 yg1 yg2 yg3 yg4 yg5 ym0 ym1 ym2 ym3 ym4 ym5
  obtain ⟨yx0, yx1, yx2, yx3, yx4, yx5⟩ := Bx8.out.six
  obtain ⟨yy0, yy1, yy2, yy3, yy4, yy5⟩ := By8.out.six
  obtain ⟨yg0, yg1, yg2, yg3, yg4, yg5⟩ := Bg8.out.six
  obtain ⟨ym0, ym1, ym2, ym3, ym4, ym5⟩ := Bm8.out.six
  go_wp2_with fail
  refine (May_F ⟨#[]⟩ 0 0 ⟨#[]⟩ ⟨#[]⟩ 0 _ qm3).mono ?_
  rintro e w9 ⟨rfl, hb⟩
  have Bx9 := Blk.on Bx8 hb
  have By9 := Blk.on By8 hb
  have Bg9 := Blk.on Bg8 hb
  have Bm9 := Blk.on Bm8 hb
  have HB9 := hide (HB8.out.trans (hb.mono HB8.out.size))
  clear hb Bx8 By8 Bg8 Bm8 HB8 yx0 yx1 yx2 yx3 yx4 yx5 yy0 yy1 yy2 yy3 yy4 yy5 yg0 yg1 yg2 yg3 yg4 yg5 ym0 ym1 ym2 ym3 ym4 ym5
  obtain ⟨yx0, yx1, yx2, yx3, yx4, yx5⟩ := Bx9.out.six
  obtain ⟨yy0, yy1, yy2, yy3, yy4, yy5⟩ := By9.out.six
  obtain ⟨yg0, yg1, yg2, yg3, yg4, yg5⟩ := Bg9.out.six
  obtain ⟨ym0, ym1, ym2, ym3, ym4, ym5⟩ := Bm9.out.six
  go_wp2
  go_ret
  exact ⟨rfl, HB9.out⟩

end Go.Proofs.YtobloamnaemfnaaGreatDoor

namespace Go.Proofs.YtobloamnaemfnaaGreatDoor
open Go.RowKit

theorem rOf_any (c : Int) (n : Bool) (ti tf : ByteArray) (x : Int) (cm : Bool) (w : World) (b1 : ti.size ≤ 281474976710656) (b2 : tf.size ≤ 281474976710656) : Calls Tryz.prog 19 #[shV c n ti tf x cm] w fun e w' => e = .returned (opErr (ofS ⟨c, n, bys ti, bys tf, x, cm⟩)) ∧ Below w.heap.size w w' := by
  by_cases h : HasO ⟨c, n, bys ti, bys tf, x, cm⟩
  · rw [ofS_yes h]
    obtain ⟨hm, hc, he⟩ := h
    simp only at hc he
    subst hc
    obtain ⟨_, ⟨_, _, ⟨h3, _⟩, ⟨h5, _⟩⟩ | ⟨g1, _⟩ | ⟨g1, _⟩⟩ := id hm
    rotate_left
    · exact absurd (show (0 : Int) = 1 from g1) (by decide)
    · exact absurd (show (0 : Int) = 2 from g1) (by decide)
    have hx := hm.1
    simp only at h3 h5 hx
    rw [bys_len] at h3 h5
    cases cm
    · exact rof_false n ti tf x w hm h5
    · obtain ⟨E, rfl⟩ := Int.eq_ofNat_of_zero_le (he rfl)
      exact rof_true n ti tf E w hm h3 h5 (by omega)
  · rw [ofS_no h]
    by_cases hm : MayS ⟨c, n, bys ti, bys tf, x, cm⟩
    · have hcl : c = 0 ∨ c = 1 ∨ c = 2 := by
        rcases hm.2 with ⟨h1, _⟩ | ⟨h1, _⟩ | ⟨h1, _⟩
        · exact .inl h1
        · exact .inr (.inl h1)
        · exact .inr (.inr h1)
      rcases hcl with rfl | rfl | rfl
      · cases cm
        · exact absurd ⟨hm, rfl, fun g => by cases g⟩ h
        · have he : ¬ 0 ≤ x := fun g => h ⟨hm, rfl, fun _ => g⟩
          exact rof_x n ti tf x w hm (by omega)
      · exact rof_k1 n ti tf x cm w hm
      · exact rof_k2 n ti tf x cm w hm
    · exact rof_m c n ti tf x cm w b1 b2 hm

set_option maxRecDepth 100000 in
set_option maxHeartbeats 4000000 in
theorem otells_gen (c : Int) (n : Bool) (ti tf : ByteArray) (x : Int) (cm : Bool) (I : ByteArray) (v z : Int) (F T : ByteArray) (E rx : Int) (w : World) (htab : Tab w) (h1 : ∀ W, Tab W → Calls Tryz.prog 18 #[shV c n ti tf x cm] W fun e w' => e = .returned (.tuple #[.agg #[.string I, .int .i64 v, .int .i64 z, .string F, .string T, .int .i64 E], .int .i64 rx]) ∧ Below W.heap.size W w') (h2 : ∀ W, Calls Tryz.prog 19 #[shV c n ti tf x cm] W fun e w' => e = .returned (.tuple #[.agg #[.string I, .int .i64 v, .int .i64 z, .string F, .string T, .int .i64 E], .int .i64 rx]) ∧ Below W.heap.size W w') : Calls Tryz.prog 7 #[shV c n ti tf x cm] w fun e w' => e = .returned (.bool true) ∧ Below w.heap.size w w' := by
  have H1 := hide h1
  have H2 := hide h2
  have HT := hide htab
  clear htab h1 h2
  have Bs0 := hide (Blk.newAt w (w.heap.size) (rfl) #[.int .i64 c, .bool n, .string ti, .string tf, .int .i64 x, .bool cm] 34)
  have HB0 : Hid (Below w.heap.size w (w.alloc (.cells #[.int .i64 c, .bool n, .string ti, .string tf, .int .i64 x, .bool cm] 34))) := ((Below.refl _ _).alloc (Nat.le_refl _) _)
  go_enter Tryz.func7, Tryz.ntmps7
  go_wp2_with fail
  refine (H1.out _ (HT.out.below HB0.out)).mono ?_
  rintro e w1 ⟨rfl, hb⟩
  have Bs1 := Blk.on Bs0 hb
  have HB1 := hide (HB0.out.trans (hb.mono HB0.out.size))
  clear hb Bs0 HB0 
  obtain ⟨ys0, ys1, ys2, ys3, ys4, ys5⟩ := Bs1.out.six
  have Bs2 := Blk.up Bs1 (.cells #[.string I, .int .i64 v, .int .i64 z, .string F, .string T, .int .i64 E] 41)
  have Bx2 := hide ((Blk.newAt w1 (w1.heap.size) (rfl) #[.string I, .int .i64 v, .int .i64 z, .string F, .string T, .int .i64 E] 41))
  have HB2 : Hid (Below w.heap.size w (w1.alloc (.cells #[.string I, .int .i64 v, .int .i64 z, .string F, .string T, .int .i64 E] 41))) := (HB1.out.alloc HB1.out.size _)
  clear Bs1 HB1 ys0 ys1 ys2 ys3 ys4 ys5
  obtain ⟨ys0, ys1, ys2, ys3, ys4, ys5⟩ := Bs2.out.six
  obtain ⟨yx0, yx1, yx2, yx3, yx4, yx5⟩ := Bx2.out.six
  go_wp2_with fail
  refine (H2.out _).mono ?_
  rintro e w3 ⟨rfl, hb⟩
  have Bs3 := Blk.on Bs2 hb
  have Bx3 := Blk.on Bx2 hb
  have HB3 := hide (HB2.out.trans (hb.mono HB2.out.size))
  clear hb Bs2 Bx2 HB2 ys0 ys1 ys2 ys3 ys4 ys5 yx0 yx1 yx2 yx3 yx4 yx5
  obtain ⟨ys0, ys1, ys2, ys3, ys4, ys5⟩ := Bs3.out.six
  obtain ⟨yx0, yx1, yx2, yx3, yx4, yx5⟩ := Bx3.out.six
  have Bs4 := Blk.up Bs3 (.cells #[.string I, .int .i64 v, .int .i64 z, .string F, .string T, .int .i64 E] 41)
  have Bx4 := Blk.up Bx3 (.cells #[.string I, .int .i64 v, .int .i64 z, .string F, .string T, .int .i64 E] 41)
  have By4 := hide ((Blk.newAt w3 (w3.heap.size) (rfl) #[.string I, .int .i64 v, .int .i64 z, .string F, .string T, .int .i64 E] 41))
  have HB4 : Hid (Below w.heap.size w (w3.alloc (.cells #[.string I, .int .i64 v, .int .i64 z, .string F, .string T, .int .i64 E] 41))) := (HB3.out.alloc HB3.out.size _)
  clear Bs3 Bx3 HB3 ys0 ys1 ys2 ys3 ys4 ys5 yx0 yx1 yx2 yx3 yx4 yx5
  obtain ⟨ys0, ys1, ys2, ys3, ys4, ys5⟩ := Bs4.out.six
  obtain ⟨yx0, yx1, yx2, yx3, yx4, yx5⟩ := Bx4.out.six
  obtain ⟨yy0, yy1, yy2, yy3, yy4, yy5⟩ := By4.out.six
  have HTW := hide (HT.out.below HB4.out)
  clear HT H1 H2
  go_wp2_with fail
  refine (qawake_any _ HTW.out).mono ?_
  rintro e w5 ⟨rfl, hb⟩
  have Bs5 := Blk.on Bs4 hb
  have Bx5 := Blk.on Bx4 hb
  have By5 := Blk.on By4 hb
  have HB5 := hide (HB4.out.trans (hb.mono HB4.out.size))
  clear hb Bs4 Bx4 By4 HB4 ys0 ys1 ys2 ys3 ys4 ys5 yx0 yx1 yx2 yx3 yx4 yx5 yy0 yy1 yy2 yy3 yy4 yy5
  obtain ⟨ys0, ys1, ys2, ys3, ys4, ys5⟩ := Bs5.out.six
  obtain ⟨yx0, yx1, yx2, yx3, yx4, yx5⟩ := Bx5.out.six
  obtain ⟨yy0, yy1, yy2, yy3, yy4, yy5⟩ := By5.out.six
  go_wp2
  go_ret
  exact ⟨rfl, HB5.out⟩

theorem otells_walk (w : World) (htab : Tab w) (c : Int) (n : Bool) (ti tf : ByteArray) (x : Int) (cm : Bool) (b1 : ti.size ≤ 140737488355328) (b2 : tf.size ≤ 140737488355328) : Calls Tryz.prog 7 #[shV c n ti tf x cm] w fun e w' => e = .returned (.bool true) ∧ Below w.heap.size w w' :=
  otells_gen c n ti tf x cm _ _ _ _ _ _ _ w htab (fun W hW => Of_any c n ti tf x cm W hW) (fun W => rOf_any c n ti tf x cm W (by omega) (by omega))

end Go.Proofs.YtobloamnaemfnaaGreatDoor
