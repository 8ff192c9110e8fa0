/-
  DigitsAlike answers true, whatever it is handed: the law's walk.
-/
import Derived.Test.YtbfegnbaleclfaaGreatDoorAB23
import Derived.Test.YtbfegnbaleclfaaGreatDoorAB24
namespace Go.Proofs.YtbfegnbaleclfaaGreatDoor
open Go.RowKit

theorem exec_load_mid {P : Program} {op : Oper} {a : Act} {w : World} (ty : TypeId) (x : Operand) (ho : op.op = .load ty x)
    (b o : Nat) (hx : a.eval x = .pointer (some ⟨b, o, none⟩)) (cs : List Value) (d : TypeDesc) (hc : w.rangeAt b o cs)
    (hu : P.underlying ty = some d) (hd : d.isRow = true) (hi : (P.info? ty).map (·.size) = some cs.length) : (execOp a.eval op).run P w = .ok (.value (.agg cs.toArray)) w := by
  unfold execOp
  simp only [ho, hx, Instr.loadAt, Instr.sureAddr, Sem.run_bind, Sem.run_pure, Result.andThen_ok, run_loadVar_mid w b o ty cs d hc hu hd hi]

structure PzA (b : Nat) (c : Int) (n : Bool) (ti tf : ByteArray) (x : Int) (cm : Bool) (SC : Array Value) (ga gb gc : Int) (gl : Bool) (w : World) : Prop where
  sh : w.cell? ⟨b, 0, none⟩ = some (.int .i64 c) ∧ w.cell? ⟨b, 1, none⟩ = some (.bool n) ∧ w.cell? ⟨b, 2, none⟩ = some (.string ti) ∧ w.cell? ⟨b, 3, none⟩ = some (.string tf) ∧ w.cell? ⟨b, 4, none⟩ = some (.int .i64 x) ∧ w.cell? ⟨b, 5, none⟩ = some (.bool cm)
  sy : w.rangeAt (b + 1) 0 SC.toList
  gr : w.cell? ⟨b + 2, 0, none⟩ = some (.int .i64 ga) ∧ w.cell? ⟨b + 2, 1, none⟩ = some (.int .i64 gb) ∧ w.cell? ⟨b + 2, 2, none⟩ = some (.int .i64 gc) ∧ w.cell? ⟨b + 2, 3, none⟩ = some (.bool gl)

structure SL9 (W0 : World) (b : Nat) (c : Int) (SC : Array Value) (g g2 i : Nat) (f : Int) (tA tB : ByteArray) (w : World) : Prop where
  a0 : w.cell? ⟨g, i * 2, none⟩ = some (.string tA)
  a1 : w.cell? ⟨g, i * 2 + 1, none⟩ = some (.int .i64 f)
  b0 : w.cell? ⟨g2, i * 2, none⟩ = some (.string tB)
  b1 : w.cell? ⟨g2, i * 2 + 1, none⟩ = some (.int .i64 f)
  cl : w.cell? ⟨b, 0, none⟩ = some (.int .i64 c)
  sy : w.rangeAt (b + 1) 0 SC.toList
  bl : Below W0.heap.size W0 w

set_option maxRecDepth 100000 in
set_option maxHeartbeats 16000000 in
theorem dgal_row (w : World) (htab : Tab w) (c : Int) (n : Bool) (ti tf : ByteArray) (x : Int) (cm : Bool) (_hz1 : ti.size ≤ 1048576) (_hz2 : tf.size ≤ 1048576) (s : Sy) (hs : ∀ q, (s.dig q).size ≤ 1048576) (hsi : s.inf.size ≤ 1048576) (hsn : s.nan.size ≤ 1048576) (ga gb gc : Int) (gl : Bool) (hf : ga ≤ 9223372036854775807) (hu : gb ≤ 9223372036854775807) :
    Calls Tryz.prog 3 #[shV c n ti tf x cm, symV s, groupsV ga gb gc gl] w fun r w' => r = .returned (.bool true) ∧ Below w.heap.size w w' := by
  obtain ⟨SC, hSC⟩ : ∃ SC, SC = symC s := ⟨_, rfl⟩
  obtain ⟨W, hW⟩ : ∃ W, W = ((w.alloc (.cells #[.int .i64 c, .bool n, .string ti, .string tf, .int .i64 x, .bool cm] 23)).alloc (.cells SC 26)).alloc (.cells #[.int .i64 ga, .int .i64 gb, .int .i64 gc, .bool gl] 28) := ⟨_, rfl⟩
  have BX0 := hide (show Blk W w.heap.size #[.int .i64 c, .bool n, .string ti, .string tf, .int .i64 x, .bool cm] 23 by rw [hW]; exact ((Blk.newAt w w.heap.size rfl _ _).alloc _).alloc _)
  have BY0 := hide (show Blk W (w.heap.size + 1) SC 26 by rw [hW]; exact (Blk.newAt _ _ (by simp) _ _).alloc _)
  have BG0 := hide (show Blk W (w.heap.size + 2) #[.int .i64 ga, .int .i64 gb, .int .i64 gc, .bool gl] 28 by rw [hW]; exact Blk.newAt _ _ (by simp) _ _)
  have HB0 : Hid (Below w.heap.size w W) := hide (by rw [hW]; exact (((Below.refl _ _).alloc (Nat.le_refl _) _).alloc (by simp) _).alloc (by simp <;> omega) _)
  have HW := hide hW.symm
  have SI : (Tryz.prog.info? 26).map (·.size) = some SC.toList.length := by rw [hSC]; exact symInfo
  have EV : symV s = .agg SC := by rw [hSC]; rfl
  have EL : symV lat = .agg latC := rfl
  have C1 := hide (fun X hX => lpieces_any c n ti tf x cm s ga gb gc gl X hX hs hf hu)
  have C2 := hide (fun X hX => lpieces_any c n ti tf x cm lat ga gb gc gl X hX lat_le hf hu)
  have C3 := hide (fun X hX => lpieces_any c n ti tf x cm s 0 gb gc gl X hX hs (by decide) hu)
  have CR := hide (fun X (ds : ByteArray) (hd : DigB (bys ds)) (hn : ds.size ≤ 4096) => rWrite_any ds s X hd (by omega) (by
    have h2 := wrL_le s 1048576 hs (bys ds)
    have h4 : (bys ds).length * 1048576 ≤ 4096 * 1048576 := Nat.mul_le_mul_right _ (by rw [bys_len]; exact hn)
    omega))
  have HL := hide (fun X => latin_any X)
  have HA := hide (fun X hX => awake16_any X hX)
  have CD : Hid (∀ q, q < 10 → SC[q]? = some (.string (s.dig q))) := hide (fun q h => by rw [hSC]; exact symC_dig s q h)
  have CE : Hid (SC[10]? = some (.string s.dec) ∧ SC[11]? = some (.string s.grp) ∧ SC[17]? = some (.string s.inf) ∧ SC[18]? = some (.string s.nan)) := hide (by rw [hSC]; exact ⟨rfl, rfl, rfl, rfl⟩)
  obtain ⟨PA, hPA⟩ : ∃ PA, PA = pcsP ⟨c, n, bys ti, bys tf, x, cm⟩ s ga gb gc gl := ⟨_, rfl⟩
  obtain ⟨PB, hPB⟩ : ∃ PB, PB = pcsP ⟨c, n, bys ti, bys tf, x, cm⟩ lat ga gb gc gl := ⟨_, rfl⟩
  obtain ⟨PZ, hPZ⟩ : ∃ PZ, PZ = pcsP ⟨c, n, bys ti, bys tf, x, cm⟩ s 0 gb gc gl := ⟨_, rfl⟩
  have AL : Hid (NeS s → AlT PA PB c s) := hide (fun h => by rw [hPA, hPB]; exact al_all h ⟨c, n, bys ti, bys tf, x, cm⟩ ga gb gc gl)
  have OI : cntF 2 PZ ≤ 1 ∧ (catF 2 PZ).length ≤ 100000000000 := by rw [hPZ]; exact one_int _ s hs hsi hsn gb gc gl
  obtain ⟨ka, hka⟩ : ∃ ka, ka = PA.length := ⟨_, rfl⟩
  obtain ⟨kb, hkb⟩ : ∃ kb, kb = PB.length := ⟨_, rfl⟩
  obtain ⟨kz, hkz⟩ : ∃ kz, kz = PZ.length := ⟨_, rfl⟩
  have lka : ka ≤ 10000 := by rw [hka, hPA]; exact pcsP_len _ _ _ _ _ _
  have lkb : kb ≤ 10000 := by rw [hkb, hPB]; exact pcsP_len _ _ _ _ _ _
  have lkz : kz ≤ 10000 := by rw [hkz, hPZ]; exact pcsP_len _ _ _ _ _ _
  rw [← hPA, ← hka, EV] at C1
  rw [← hPB, ← hkb, EL] at C2
  rw [← hPZ, ← hkz, EV] at C3
  rw [EV] at CR ⊢
  rw [EL] at HL
  have HKA := hide hka
  have HKB := hide hkb
  have HKZ := hide hkz
  have HT := hide htab
  clear hW hPA hPB hPZ hka hkb hkz hSC EV EL htab hs hsi hsn hf hu
  unfold groupsV at C1 C2 C3 ⊢
  have S0 : Hid (∀ X, Below W.heap.size W X → PzA w.heap.size c n ti tf x cm SC ga gb gc gl X) := hide (fun X hX => ⟨shown6 (BX0.out.below hX BX0.out.lt), (BY0.out.below hX BY0.out.lt).range, (BG0.out.below hX BG0.out.lt).fourD⟩)
  have CL : Hid (∀ X, Hid (Below W.heap.size W X) → Calls Tryz.prog 5 #[] X fun e w' => e = .returned (.agg latC) ∧ Hid (Below X.heap.size X w') ∧ Hid (Below W.heap.size W w') ∧ PzA w.heap.size c n ti tf x cm SC ga gb gc gl w') := hide (fun X hX => (HL.out X).mono fun e w' ⟨q1, q2⟩ => by
    have bb := hX.out.trans (q2.mono hX.out.size)
    exact ⟨q1, hide q2, hide bb, S0.out _ bb⟩)
  have CA : Hid (∀ X, Hid (Below W.heap.size W X) → Calls Tryz.prog 4 #[shV c n ti tf x cm, .agg SC, .agg #[.int .i64 ga, .int .i64 gb, .int .i64 gc, .bool gl]] X fun e w' => (∃ uo uc, e = .returned (.slice uo ka uc) ∧ Hid (w'.ownsRow W.heap.size 36 2 (.slice uo ka uc) ka (cellsP PA))) ∧ Hid (Below X.heap.size X w') ∧ Hid (Below W.heap.size W w') ∧ PzA w.heap.size c n ti tf x cm SC ga gb gc gl w') := hide (fun X hX => (C1.out X (HT.out.below (HB0.out.trans (hX.out.mono HB0.out.size)))).mono fun e w' ⟨⟨v, q1, q2⟩, q3⟩ => by
    have bb := hX.out.trans (q3.mono hX.out.size)
    obtain ⟨uo, uc, rfl⟩ := ownD_slice q2
    exact ⟨⟨uo, uc, q1, hide (ownD_mono q2 hX.out.size)⟩, hide q3, hide bb, S0.out _ bb⟩)
  have CB : Hid (∀ X, Hid (Below W.heap.size W X) → Calls Tryz.prog 4 #[shV c n ti tf x cm, .agg latC, .agg #[.int .i64 ga, .int .i64 gb, .int .i64 gc, .bool gl]] X fun e w' => (∃ uo uc, e = .returned (.slice uo kb uc) ∧ Hid (w'.ownsRow W.heap.size 36 2 (.slice uo kb uc) kb (cellsP PB))) ∧ Hid (Below X.heap.size X w') ∧ Hid (Below W.heap.size W w') ∧ PzA w.heap.size c n ti tf x cm SC ga gb gc gl w') := hide (fun X hX => (C2.out X (HT.out.below (HB0.out.trans (hX.out.mono HB0.out.size)))).mono fun e w' ⟨⟨v, q1, q2⟩, q3⟩ => by
    have bb := hX.out.trans (q3.mono hX.out.size)
    obtain ⟨uo, uc, rfl⟩ := ownD_slice q2
    exact ⟨⟨uo, uc, q1, hide (ownD_mono q2 hX.out.size)⟩, hide q3, hide bb, S0.out _ bb⟩)
  have hS0 := S0.out W.drew (Below.refl _ _).drew
  have hBW : Hid (Below W.heap.size W W.drew) := hide (Below.refl _ _).drew
  go_enter Tryz.func3, Tryz.ntmps3
  go_wp2_with (simp only [HW.out])
  refine wp_region_held_drew (S := PzA w.heap.size c n ti tf x cm SC ga gb gc gl) (by kernel_rfl) ?_ (fun hHeld => ?_)
  · assumption
  refine wpAnyH_take (i := 0) (oi := Oper.mk (some 13) _ _ _ _ _) (v := .agg #[.int .i64 c, .bool n, .string ti, .string tf, .int .i64 x, .bool cm]) rfl (by kernel_rfl) (by kernel_rfl) (by kernel_rfl) (fun _ _ _ h => h) (Or.inl ⟨by rfl, ?_⟩) (by assumption) ?_
  · intro wX hSw
    (try dsimp only at hSw)
    obtain ⟨q0, q1, q2, q3, q4, q5⟩ := hSw.sh
    go_simp
  simp only [Act.put, List.setIfInBounds_toArray, List.set_cons_succ, List.set_cons_zero]
  refine wpAnyH_take (i := 1) (oi := Oper.mk (some 14) _ _ _ _ _) (v := .agg SC) rfl (by kernel_rfl) (by kernel_rfl) (by kernel_rfl) (fun _ _ _ h => h) (Or.inl ⟨by rfl, ?_⟩) (by assumption) ?_
  · intro wX hSw
    (try dsimp only at hSw)
    exact (exec_load_mid 26 (.tmp 4) rfl (w.heap.size + 1) 0 (by rfl) SC.toList _ hSw.sy Tryz.underlying26 rfl SI).trans (by rw [Array.toArray_toList])
  simp only [Act.put, List.setIfInBounds_toArray, List.set_cons_succ, List.set_cons_zero]
  refine wpAnyH_take (i := 2) (oi := Oper.mk (some 15) _ _ _ _ _) (v := .agg #[.int .i64 ga, .int .i64 gb, .int .i64 gc, .bool gl]) rfl (by kernel_rfl) (by kernel_rfl) (by kernel_rfl) (fun _ _ _ h => h) (Or.inl ⟨by rfl, ?_⟩) (by assumption) ?_
  · intro wX hSw
    (try dsimp only at hSw)
    obtain ⟨q0, q1, q2, q3⟩ := hSw.gr
    go_simp
  simp only [Act.put, List.setIfInBounds_toArray, List.set_cons_succ, List.set_cons_zero]
  refine wpAnyH_take (i := 4) (oi := Oper.mk (some 17) _ _ _ _ _) (v := .agg #[.int .i64 c, .bool n, .string ti, .string tf, .int .i64 x, .bool cm]) rfl (by kernel_rfl) (by kernel_rfl) (by kernel_rfl) (fun _ _ _ h => h) (Or.inl ⟨by rfl, ?_⟩) (by assumption) ?_
  · intro wX hSw
    (try dsimp only at hSw)
    obtain ⟨q0, q1, q2, q3, q4, q5⟩ := hSw.sh
    go_simp
  simp only [Act.put, List.setIfInBounds_toArray, List.set_cons_succ, List.set_cons_zero]
  refine wpAnyH_take (i := 6) (oi := Oper.mk (some 19) _ _ _ _ _) (v := .agg #[.int .i64 ga, .int .i64 gb, .int .i64 gc, .bool gl]) rfl (by kernel_rfl) (by kernel_rfl) (by kernel_rfl) (fun _ _ _ h => h) (Or.inl ⟨by rfl, ?_⟩) (by assumption) ?_
  · intro wX hSw
    (try dsimp only at hSw)
    obtain ⟨q0, q1, q2, q3⟩ := hSw.gr
    go_simp
  simp only [Act.put, List.setIfInBounds_toArray, List.set_cons_succ, List.set_cons_zero]
  refine wpAnyH_ready (rs := [3]) (by kernel_rfl) (by simp) ?_
  refine AllReadyH.cons (o := Oper.mk (some 16) _ _ _ _ _) rfl (fun K hK => ?_) AllReadyH.nil
  go_simp
  refine (CA.out _ hBW).mono ?_
  rintro e w1 ⟨⟨uo, uc, rfl, O1⟩, d1, b1, s1⟩
  refine hK.out _ _ ?_ (fun hHeld => ?_)
  · assumption
  clear hK K
  refine wpAnyH_ready (rs := [5]) (by kernel_rfl) (by simp) ?_
  refine AllReadyH.cons (o := Oper.mk (some 18) _ _ _ _ _) rfl (fun K hK => ?_) AllReadyH.nil
  go_simp
  refine (CL.out _ b1).mono ?_
  rintro e w2 ⟨rfl, d2, b2, s2⟩
  refine hK.out _ _ ?_ (fun hHeld => ?_)
  · assumption
  clear hK K
  have O2 := hide (ownD_below O1.out d2.out)
  clear O1 d1 d2 b1 s1
  refine wpAnyH_ready (rs := [7]) (by kernel_rfl) (by simp) ?_
  refine AllReadyH.cons (o := Oper.mk (some 20) _ _ _ _ _) rfl (fun K hK => ?_) AllReadyH.nil
  go_simp
  refine (CB.out _ b2).mono ?_
  rintro e w3 ⟨⟨vo, vc, rfl, P3⟩, d3, b3, s3⟩
  refine hK.out _ _ ?_ (fun hHeld => ?_)
  · assumption
  clear hK K
  have O3 := hide (ownD_below O2.out d3.out)
  refine wpAnyH_take (i := 8) (oi := Oper.mk (some 7) _ _ _ _ _) (v := .slice uo ka uc) rfl (by kernel_rfl) (by kernel_rfl) (by kernel_rfl) (fun _ _ _ h => h) (Or.inl ⟨by rfl, ?_⟩) (by assumption) ?_
  · intro wX hSw
    (try dsimp only at hSw)
    go_simp
  simp only [Act.put, List.setIfInBounds_toArray, List.set_cons_succ, List.set_cons_zero]
  refine wpAnyH_take (i := 9) (oi := Oper.mk (some 8) _ _ _ _ _) (v := .slice vo kb vc) rfl (by kernel_rfl) (by kernel_rfl) (by kernel_rfl) (fun _ _ _ h => h) (Or.inl ⟨by rfl, ?_⟩) (by assumption) ?_
  · intro wX hSw
    (try dsimp only at hSw)
    go_simp
  simp only [Act.put, List.setIfInBounds_toArray, List.set_cons_succ, List.set_cons_zero]
  refine wpAnyH_done (by kernel_rfl) ?_ _
  have BX3 := hide (BX0.out.below b3.out BX0.out.lt)
  have BY3 := hide (BY0.out.below b3.out BY0.out.lt)
  have BG3 := hide (BG0.out.below b3.out BG0.out.lt)
  have HB3 := hide (HB0.out.trans (b3.out.mono HB0.out.size))
  have hW3 : W.heap.size ≤ w3.heap.size := b3.out.size
  have hWw : w.heap.size + 2 < W.heap.size := BG0.out.lt
  clear CL CA CB S0 hS0 hBW b2 s2 O2 d3 b3 s3 hHeld BX0 BY0 BG0 HB0 C1 C2 HL HW
  obtain ⟨g_0, g_1, g_2, g_3⟩ := BG3.out.fourD
  obtain ⟨x_0, x_1, x_2, x_3, x_4, x_5⟩ := shown6 BX3.out
  have BG4 : Hid (Blk (w3.setCell ⟨w.heap.size + 2, 0, none⟩ (.int .i64 0)) (w.heap.size + 2) #[.int .i64 0, .int .i64 gb, .int .i64 gc, .bool gl] 28) := hide (BG3.out.set0 _)
  have BX4 := hide (BX3.out.other (a := ⟨w.heap.size + 2, 0, none⟩) (by simp) (.int .i64 0))
  have BY4 := hide (BY3.out.other (a := ⟨w.heap.size + 2, 0, none⟩) (by simp) (.int .i64 0))
  have OA4 := hide (ownD_set (i := 0) (u := .int .i64 0) O3.out hWw)
  have OB4 := hide (ownD_set (i := 0) (u := .int .i64 0) P3.out hWw)
  have HB4 := hide (HB3.out.setCell (p := ⟨w.heap.size + 2, 0, none⟩) (by simp only []; omega) (.int .i64 0))
  have hW4 : W.heap.size ≤ (w3.setCell ⟨w.heap.size + 2, 0, none⟩ (.int .i64 0)).heap.size := by simpa [World.setCell] using hW3
  obtain ⟨w4, hw4⟩ : ∃ w4, w4 = w3.setCell ⟨w.heap.size + 2, 0, none⟩ (.int .i64 0) := ⟨_, rfl⟩
  rw [← hw4] at BX4 BY4 BG4 OA4 OB4 HB4 hW4
  have HV4 := hide hw4.symm
  have ry4 := BY4.out.range
  obtain ⟨h_0, h_1, h_2, h_3⟩ := BG4.out.fourD
  obtain ⟨y_0, y_1, y_2, y_3, y_4, y_5⟩ := shown6 BX4.out
  have hg3 : w3.frozen? ⟨w.heap.size + 2, 0, none⟩ = false := BG3.out.free 0
  have CZ := hide ((C3.out w4 (HT.out.below HB4.out)))
  clear hw4 BX3 BY3 BG3 O3 P3 HB3 hW3 C3 x_0 x_1 x_2 x_3 x_4 x_5
  go_wp2_with (first | simp only [HV4.out] | (refine wpList_load_mid rfl 26 _ rfl _ _ rfl SC.toList _ ry4 Tryz.underlying26 rfl SI ?_; rw [Array.toArray_toList]))
  refine CZ.out.mono ?_
  rintro e w5 ⟨⟨v, rfl, ho5⟩, hb5⟩
  have BX5 := Blk.on BX4 hb5
  have BY5 := Blk.on BY4 hb5
  have OA5 := hide (ownD_below OA4.out hb5)
  have OB5 := hide (ownD_below OB4.out hb5)
  have HB5 := hide (HB4.out.trans (hb5.mono HB4.out.size))
  have hW5 : W.heap.size ≤ w5.heap.size := Nat.le_trans hW4 hb5.size
  obtain ⟨q, hq⟩ : ∃ q, q = cntF 2 PZ := ⟨_, rfl⟩
  have CO := hide (ofL_any 2 PZ (by rw [← HKZ.out]; exact ho5) (by rw [← HKZ.out]; exact lkz) OI.2)
  rw [← hq] at CO
  have hq1 : ¬ (1 : Int) < (q : Int) := by have := OI.1; omega
  clear hb5 ho5 CZ BX4 BY4 BG4 OA4 OB4 HB4 hW4 HV4 ry4 h_0 h_1 h_2 h_3 y_0 y_1 y_2 y_3 y_4 y_5 hg3 g_0 g_1 g_2 g_3 hWw hq OI HKZ lkz
  go_wp2_with fail
  refine CO.out.mono ?_
  rintro e w6 ⟨rfl, hb6⟩
  have BX6 := Blk.on BX5 hb6
  have BY6 := Blk.on BY5 hb6
  have OA6 := hide (ownD_below OA5.out hb6)
  have OB6 := hide (ownD_below OB5.out hb6)
  have HB6 := hide (HB5.out.trans (hb6.mono HB5.out.size))
  have HA6 := hide (HA.out w6 (HT.out.below HB6.out))
  clear hb6 CO BX5 BY5 OA5 OB5 HB5 HA hW5
  go_wp2_with fail
  refine HA6.out.mono ?_
  rintro e w7 ⟨rfl, hb7⟩
  have BX7 := Blk.on BX6 hb7
  have BY7 := Blk.on BY6 hb7
  have OA7 := hide (ownD_below OA6.out hb7)
  have OB7 := hide (ownD_below OB6.out hb7)
  have HB7 := hide (HB6.out.trans (hb7.mono HB6.out.size))
  clear hb7 HA6 BX6 BY6 OA6 OB6 HB6
  go_wp2_with fail
  go_loopw [11] (fun m wr => ∃ i : Nat, i ≤ 10 ∧ m = .int .i64 (i : Int) ∧ Hid (∀ z, z < i → 0 < (s.dig z).size) ∧ Hid (Below w7.heap.size w7 wr)) (fun m _ => 10 - (intOf m).toNat)
  case atStart => exact ⟨0, by omega, rfl, hide (fun z hz => absurd hz (Nat.not_lt_zero _)), hide (Below.refl _ _)⟩
  case round =>
    obtain ⟨i, hi, rfl, HZ, BB⟩ := hrel
    have BYr := Blk.on BY7 BB.out
    have HBr := hide (HB7.out.trans (BB.out.mono HB7.out.size))
    by_cases hlt : i < 10
    · have hlt' : (i : Int) < 10 := by omega
      obtain ⟨t, ht⟩ : ∃ t, t = s.dig i := ⟨_, rfl⟩
      have ct : wr.cell? ⟨w.heap.size + 1, i, none⟩ = some (.string t) := by rw [BYr.out.cell i, CD.out i hlt, ht]
      by_cases h0 : t.size = 0
      · obtain rfl := emptyD h0
        clear ht h0 HZ BX7 BY7 OA7 OB7 HB7
        go_wp2
        go_ret
        exact ⟨rfl, HBr.out⟩
      · have HZ2 : Hid (∀ z, z < i + 1 → 0 < (s.dig z).size) := hide (fun z hz => by
          by_cases e : z = i
          · subst e; rw [← ht]; omega
          · exact HZ.out z (by omega))
        have i1 := tlD_ne h0
        have i2 := tlD_ie h0
        have i3 := tlD_nb h0
        clear ht h0 HZ BX7 BY7 OA7 OB7 HB7
        go_wp2
        exact ⟨⟨i + 1, by omega, by go_num, HZ2, BB⟩, by simp [intOf]; omega⟩
    · obtain rfl : i = 10 := by omega
      have DG : Hid (∀ z, 0 < (s.dig z).size) := hide (fun z => by
        by_cases hz : z < 10
        · exact HZ.out z hz
        · obtain ⟨k, rfl⟩ : ∃ k, z = k + 10 := ⟨z - 10, by omega⟩
          exact HZ.out 9 (by omega))
      have BX8 := Blk.on BX7 BB.out
      have OA8 := hide (ownD_below OA7.out BB.out)
      have OB8 := hide (ownD_below OB7.out BB.out)
      have hlt' : ¬ (10 : Int) < 10 := by omega
      obtain ⟨tD, hD⟩ : ∃ t, t = s.dec := ⟨_, rfl⟩
      obtain ⟨tG, hG⟩ : ∃ t, t = s.grp := ⟨_, rfl⟩
      obtain ⟨tI, hI⟩ : ∃ t, t = s.inf := ⟨_, rfl⟩
      obtain ⟨tN, hN⟩ : ∃ t, t = s.nan := ⟨_, rfl⟩
      have c10 : wr.cell? ⟨w.heap.size + 1, 10, none⟩ = some (.string tD) := by rw [BYr.out.cell 10, CE.out.1, hD]
      have c11 : wr.cell? ⟨w.heap.size + 1, 11, none⟩ = some (.string tG) := by rw [BYr.out.cell 11, CE.out.2.1, hG]
      have c17 : wr.cell? ⟨w.heap.size + 1, 17, none⟩ = some (.string tI) := by rw [BYr.out.cell 17, CE.out.2.2.1, hI]
      have c18 : wr.cell? ⟨w.heap.size + 1, 18, none⟩ = some (.string tN) := by rw [BYr.out.cell 18, CE.out.2.2.2, hN]
      have NE : Hid (tD.size ≠ 0 → tG.size ≠ 0 → tI.size ≠ 0 → tN.size ≠ 0 → NeS s) := hide (fun h1 h2 h3 h4 => ⟨DG.out, by rw [← hD]; omega, by rw [← hG]; omega, by rw [← hI]; omega, by rw [← hN]; omega⟩)
      clear hD hG hI hN DG HZ CD CE BX7 BY7 OA7 OB7 HB7 HT hlt
      rw [show ((10 : Nat) : Int) = 10 from rfl]
      by_cases d0 : tD.size = 0
      · obtain rfl := emptyD d0
        clear d0 NE
        go_wp2
        go_ret
        exact ⟨rfl, HBr.out⟩
      have D1 := tlD_ne d0
      have D2 := tlD_ie d0
      have D3 := tlD_nb d0
      by_cases g0 : tG.size = 0
      · obtain rfl := emptyD g0
        clear g0 NE
        go_wp2
        go_ret
        exact ⟨rfl, HBr.out⟩
      have G1 := tlD_ne g0
      have G2 := tlD_ie g0
      have G3 := tlD_nb g0
      by_cases e0 : tI.size = 0
      · obtain rfl := emptyD e0
        clear e0 NE
        go_wp2
        go_ret
        exact ⟨rfl, HBr.out⟩
      have I1 := tlD_ne e0
      have I2 := tlD_ie e0
      have I3 := tlD_nb e0
      by_cases n0 : tN.size = 0
      · obtain rfl := emptyD n0
        clear n0 NE
        go_wp2
        go_ret
        exact ⟨rfl, HBr.out⟩
      have N1 := tlD_ne n0
      have N2 := tlD_ie n0
      have N3 := tlD_nb n0
      have AT := hide (AL.out (NE.out d0 g0 e0 n0))
      have hkk : kb = ka := by rw [HKA.out, HKB.out, AT.out.ln]
      subst hkk
      clear NE AL d0 g0 e0 n0
      have hne : ((kb : Int) != (kb : Int)) = false := by simp
      obtain ⟨w8, hw8⟩ : ∃ w8, w8 = wr := ⟨_, rfl⟩
      subst hw8
      go_wp2_with fail
      go_loopw [12] (fun m wq => ∃ i : Nat, i ≤ kb ∧ m = .int .i64 (i : Int) ∧ Hid (Below w8.heap.size w8 wq)) (fun m _ => kb - (intOf m).toNat)
      case atStart => exact ⟨0, Nat.zero_le _, rfl, hide (Below.refl _ _)⟩
      case round =>
        obtain ⟨i, hik, rfl, BQ⟩ := hrel
        by_cases hlt : i < kb
        · have HOA := hide (ownD_below OA8.out BQ.out)
          have HOB := hide (ownD_below OB8.out BQ.out)
          have hBX := hide (BX8.out.below BQ.out BX8.out.lt)
          have hBY := hide (BYr.out.below BQ.out BYr.out.lt)
          obtain ⟨g, cap, hv, _, _, _⟩ := ownD_some HOA.out (by omega)
          simp only [Value.slice.injEq] at hv
          obtain ⟨rfl, _, rfl⟩ := hv
          obtain ⟨g2, cap2, hv, _, _, _⟩ := ownD_some HOB.out (by omega)
          simp only [Value.slice.injEq] at hv
          obtain ⟨rfl, _, rfl⟩ := hv
          have hlt2 : (i : Int) < (kb : Int) := by omega
          have hia : i < PA.length := by rw [← HKA.out]; exact hlt
          have hib : i < PB.length := by rw [← HKB.out]; exact hlt
          obtain ⟨q0, q1⟩ := cellsP_at PA i hia
          obtain ⟨r0, r1⟩ := cellsP_at PB i hib
          have cA0 := (HOA.out.cellAt (i * 2) (by omega)).trans q0
          have cA1 := (HOA.out.cellAt (i * 2 + 1) (by omega)).trans q1
          have cB0 := (HOB.out.cellAt (i * 2) (by omega)).trans r0
          have cB1 := (HOB.out.cellAt (i * 2 + 1) (by omega)).trans r1
          have EF := AT.out.fl i hia
          have EW := AT.out.wr
          rw [← EF] at cB1
          have EW2 : c = 0 → ((pcN PA i).field = 2 ∨ (pcN PA i).field = 5) → DigB (bys (pcN PB i).text) ∧ (pcN PB i).text.size ≤ 4096 ∧ (pcN PA i).text = mkP (wrL s (bys (pcN PB i).text)) := fun h1 h2 => EW h1 i hia h2
          generalize (pcN PA i).field = f at *
          generalize (pcN PA i).text = tA at *
          generalize (pcN PB i).text = tB at *
          have hEW := hide EW2
          clear EF EW EW2 q0 q1 r0 r1 hia hib
          have KS : Hid (∀ X, Below wr.heap.size wr X → SL9 wr w.heap.size c SC g g2 i f tA tB X) := hide (fun X hX => ⟨cellD_on hX cA0, cellD_on hX cA1, cellD_on hX cB0, cellD_on hX cB1, (hBX.out.below hX hBX.out.lt).cell 0, (hBY.out.below hX hBY.out.lt).range, hX⟩)
          have CW : Hid (c = 0 → (f = 2 ∨ f = 5) → ∀ X, SL9 wr w.heap.size c SC g g2 i f tA tB X → Calls Tryz.prog 8 #[.string tB, .agg SC] X fun e w9 => e = .returned (.string tA) ∧ SL9 wr w.heap.size c SC g g2 i f tA tB w9) := hide (fun h1 h2 X hX => by
            obtain ⟨e1, e2, e3⟩ := hEW.out h1 h2
            rw [e3]
            refine (CR.out X tB e1 e2).mono ?_
            rintro e w' ⟨p1, p2⟩
            rw [← e3] at *
            exact ⟨p1, KS.out _ (hX.bl.trans (p2.mono hX.bl.size))⟩)
          have S0 := KS.out wr.drew (Below.refl _ _).drew
          clear HOA HOB hBX hBY cA0 cA1 cB0 cB1 hEW AT OA8 OB8 CR
          have eb1 : ((f : Int) != f) = false := by simp
          by_cases hc : c = 0
          · subst hc
            by_cases hf2 : f = 2
            · subst hf2
              have CN : Hid (∀ X, SL9 wr w.heap.size 0 SC g g2 i 2 tA tB X → Calls Tryz.prog 8 #[.string tB, .agg SC] X fun e w9 => e = .returned (.string tA) ∧ SL9 wr w.heap.size 0 SC g g2 i 2 tA tB w9) := hide (fun X hX => CW.out rfl (.inl rfl) X hX)
              clear CW
              go_wp2_with fail
              refine wp_region_held_drew (S := (SL9 wr w.heap.size 0 SC g g2 i 2 tA tB)) (by kernel_rfl) ?_ (fun hHeld => ?_)
              · assumption
              refine wpAnyH_take (i := 0) (oi := Oper.mk (some 74) _ _ _ _ _) (v := .slice (some ⟨g, 0, none⟩) kb uc) rfl (by kernel_rfl) (by kernel_rfl) (by kernel_rfl) (fun _ _ _ h => h) (Or.inl ⟨by rfl, ?_⟩) (by assumption) ?_
              · intro wX hSw
                (try dsimp only at hSw)
                go_simp
              simp only [Act.put, List.setIfInBounds_toArray, List.set_cons_succ, List.set_cons_zero]
              refine wpAnyH_take (i := 1) (oi := Oper.mk (some 75) _ _ _ _ _) (v := .int .i64 (i : Int)) rfl (by kernel_rfl) (by kernel_rfl) (by kernel_rfl) (fun _ _ _ h => h) (Or.inl ⟨by rfl, ?_⟩) (by assumption) ?_
              · intro wX hSw
                (try dsimp only at hSw)
                go_simp
              simp only [Act.put, List.setIfInBounds_toArray, List.set_cons_succ, List.set_cons_zero]
              refine wpAnyH_take (i := 2) (oi := Oper.mk (some 76) _ _ _ _ _) (v := .pointer (some ⟨g, i * 2, none⟩)) rfl (by kernel_rfl) (by kernel_rfl) (by kernel_rfl) (fun _ _ _ h => h) (Or.inl ⟨by rfl, ?_⟩) (by assumption) ?_
              · intro wX hSw
                (try dsimp only at hSw)
                go_simp
              simp only [Act.put, List.setIfInBounds_toArray, List.set_cons_succ, List.set_cons_zero]
              refine wpAnyH_take (i := 3) (oi := Oper.mk (some 77) _ _ _ _ _) (v := .pointer (some ⟨g, i * 2 + 1, none⟩)) rfl (by kernel_rfl) (by kernel_rfl) (by kernel_rfl) (fun _ _ _ h => h) (Or.inl ⟨by rfl, ?_⟩) (by assumption) ?_
              · intro wX hSw
                (try dsimp only at hSw)
                go_simp
              simp only [Act.put, List.setIfInBounds_toArray, List.set_cons_succ, List.set_cons_zero]
              refine wpAnyH_take (i := 4) (oi := Oper.mk (some 78) _ _ _ _ _) (v := .int .i64 2) rfl (by kernel_rfl) (by kernel_rfl) (by kernel_rfl) (fun _ _ _ h => h) (Or.inl ⟨by rfl, ?_⟩) (by assumption) ?_
              · intro wX hSw
                (try dsimp only at hSw)
                have q0 := hSw.a1
                go_simp
              simp only [Act.put, List.setIfInBounds_toArray, List.set_cons_succ, List.set_cons_zero]
              refine wpAnyH_take (i := 5) (oi := Oper.mk (some 79) _ _ _ _ _) (v := .slice (some ⟨g2, 0, none⟩) kb vc) rfl (by kernel_rfl) (by kernel_rfl) (by kernel_rfl) (fun _ _ _ h => h) (Or.inl ⟨by rfl, ?_⟩) (by assumption) ?_
              · intro wX hSw
                (try dsimp only at hSw)
                go_simp
              simp only [Act.put, List.setIfInBounds_toArray, List.set_cons_succ, List.set_cons_zero]
              refine wpAnyH_take (i := 6) (oi := Oper.mk (some 80) _ _ _ _ _) (v := .int .i64 (i : Int)) rfl (by kernel_rfl) (by kernel_rfl) (by kernel_rfl) (fun _ _ _ h => h) (Or.inl ⟨by rfl, ?_⟩) (by assumption) ?_
              · intro wX hSw
                (try dsimp only at hSw)
                go_simp
              simp only [Act.put, List.setIfInBounds_toArray, List.set_cons_succ, List.set_cons_zero]
              refine wpAnyH_take (i := 7) (oi := Oper.mk (some 81) _ _ _ _ _) (v := .pointer (some ⟨g2, i * 2, none⟩)) rfl (by kernel_rfl) (by kernel_rfl) (by kernel_rfl) (fun _ _ _ h => h) (Or.inl ⟨by rfl, ?_⟩) (by assumption) ?_
              · intro wX hSw
                (try dsimp only at hSw)
                go_simp
              simp only [Act.put, List.setIfInBounds_toArray, List.set_cons_succ, List.set_cons_zero]
              refine wpAnyH_take (i := 8) (oi := Oper.mk (some 82) _ _ _ _ _) (v := .pointer (some ⟨g2, i * 2 + 1, none⟩)) rfl (by kernel_rfl) (by kernel_rfl) (by kernel_rfl) (fun _ _ _ h => h) (Or.inl ⟨by rfl, ?_⟩) (by assumption) ?_
              · intro wX hSw
                (try dsimp only at hSw)
                go_simp
              simp only [Act.put, List.setIfInBounds_toArray, List.set_cons_succ, List.set_cons_zero]
              refine wpAnyH_take (i := 9) (oi := Oper.mk (some 83) _ _ _ _ _) (v := .int .i64 2) rfl (by kernel_rfl) (by kernel_rfl) (by kernel_rfl) (fun _ _ _ h => h) (Or.inl ⟨by rfl, ?_⟩) (by assumption) ?_
              · intro wX hSw
                (try dsimp only at hSw)
                have q0 := hSw.b1
                go_simp
              simp only [Act.put, List.setIfInBounds_toArray, List.set_cons_succ, List.set_cons_zero]
              refine wpAnyH_take (i := 10) (oi := Oper.mk (some 84) _ _ _ _ _) (v := .bool false) rfl (by kernel_rfl) (by kernel_rfl) (by kernel_rfl) (fun _ _ _ h => h) (Or.inl ⟨by rfl, ?_⟩) (by assumption) ?_
              · intro wX hSw
                (try dsimp only at hSw)
                go_simp
              simp only [Act.put, List.setIfInBounds_toArray, List.set_cons_succ, List.set_cons_zero]
              refine wpAnyH_take (i := 11) (oi := Oper.mk (some 85) _ _ _ _ _) (v := .bool false) rfl (by kernel_rfl) (by kernel_rfl) (by kernel_rfl) (fun _ _ _ h => h) (Or.inl ⟨by rfl, ?_⟩) (by assumption) ?_
              · intro wX hSw
                (try dsimp only at hSw)
                go_simp
              simp only [Act.put, List.setIfInBounds_toArray, List.set_cons_succ, List.set_cons_zero]
              refine wpAnyH_take (i := 12) (oi := Oper.mk (some 86) _ _ _ _ _) (v := .pointer (some ⟨w.heap.size, 0, none⟩)) rfl (by kernel_rfl) (by kernel_rfl) (by kernel_rfl) (fun _ _ _ h => h) (Or.inl ⟨by rfl, ?_⟩) (by assumption) ?_
              · intro wX hSw
                (try dsimp only at hSw)
                go_simp
              simp only [Act.put, List.setIfInBounds_toArray, List.set_cons_succ, List.set_cons_zero]
              refine wpAnyH_take (i := 13) (oi := Oper.mk (some 87) _ _ _ _ _) (v := .int .i64 0) rfl (by kernel_rfl) (by kernel_rfl) (by kernel_rfl) (fun _ _ _ h => h) (Or.inl ⟨by rfl, ?_⟩) (by assumption) ?_
              · intro wX hSw
                (try dsimp only at hSw)
                have q0 := hSw.cl
                go_simp
              simp only [Act.put, List.setIfInBounds_toArray, List.set_cons_succ, List.set_cons_zero]
              refine wpAnyH_take (i := 14) (oi := Oper.mk (some 88) _ _ _ _ _) (v := .bool true) rfl (by kernel_rfl) (by kernel_rfl) (by kernel_rfl) (fun _ _ _ h => h) (Or.inl ⟨by rfl, ?_⟩) (by assumption) ?_
              · intro wX hSw
                (try dsimp only at hSw)
                go_simp
              simp only [Act.put, List.setIfInBounds_toArray, List.set_cons_succ, List.set_cons_zero]
              refine wpAnyH_take (i := 15) (oi := Oper.mk (some 89) _ _ _ _ _) (v := .bool true) rfl (by kernel_rfl) (by kernel_rfl) (by kernel_rfl) (fun _ _ _ h => h) (Or.inl ⟨by rfl, ?_⟩) (by assumption) ?_
              · intro wX hSw
                (try dsimp only at hSw)
                go_simp
              simp only [Act.put, List.setIfInBounds_toArray, List.set_cons_succ, List.set_cons_zero]
              refine wpAnyH_take (i := 16) (oi := Oper.mk (some 90) _ _ _ _ _) (v := .slice (some ⟨g, 0, none⟩) kb uc) rfl (by kernel_rfl) (by kernel_rfl) (by kernel_rfl) (fun _ _ _ h => h) (Or.inl ⟨by rfl, ?_⟩) (by assumption) ?_
              · intro wX hSw
                (try dsimp only at hSw)
                go_simp
              simp only [Act.put, List.setIfInBounds_toArray, List.set_cons_succ, List.set_cons_zero]
              refine wpAnyH_take (i := 17) (oi := Oper.mk (some 91) _ _ _ _ _) (v := .int .i64 (i : Int)) rfl (by kernel_rfl) (by kernel_rfl) (by kernel_rfl) (fun _ _ _ h => h) (Or.inl ⟨by rfl, ?_⟩) (by assumption) ?_
              · intro wX hSw
                (try dsimp only at hSw)
                go_simp
              simp only [Act.put, List.setIfInBounds_toArray, List.set_cons_succ, List.set_cons_zero]
              refine wpAnyH_take (i := 18) (oi := Oper.mk (some 92) _ _ _ _ _) (v := .pointer (some ⟨g, i * 2, none⟩)) rfl (by kernel_rfl) (by kernel_rfl) (by kernel_rfl) (fun _ _ _ h => h) (Or.inl ⟨by rfl, ?_⟩) (by assumption) ?_
              · intro wX hSw
                (try dsimp only at hSw)
                go_simp
              simp only [Act.put, List.setIfInBounds_toArray, List.set_cons_succ, List.set_cons_zero]
              refine wpAnyH_take (i := 19) (oi := Oper.mk (some 93) _ _ _ _ _) (v := .pointer (some ⟨g, i * 2 + 1, none⟩)) rfl (by kernel_rfl) (by kernel_rfl) (by kernel_rfl) (fun _ _ _ h => h) (Or.inl ⟨by rfl, ?_⟩) (by assumption) ?_
              · intro wX hSw
                (try dsimp only at hSw)
                go_simp
              simp only [Act.put, List.setIfInBounds_toArray, List.set_cons_succ, List.set_cons_zero]
              refine wpAnyH_take (i := 20) (oi := Oper.mk (some 94) _ _ _ _ _) (v := .int .i64 2) rfl (by kernel_rfl) (by kernel_rfl) (by kernel_rfl) (fun _ _ _ h => h) (Or.inl ⟨by rfl, ?_⟩) (by assumption) ?_
              · intro wX hSw
                (try dsimp only at hSw)
                have q0 := hSw.a1
                go_simp
              simp only [Act.put, List.setIfInBounds_toArray, List.set_cons_succ, List.set_cons_zero]
              refine wpAnyH_take (i := 21) (oi := Oper.mk (some 95) _ _ _ _ _) (v := .bool true) rfl (by kernel_rfl) (by kernel_rfl) (by kernel_rfl) (fun _ _ _ h => h) (Or.inl ⟨by rfl, ?_⟩) (by assumption) ?_
              · intro wX hSw
                (try dsimp only at hSw)
                go_simp
              simp only [Act.put, List.setIfInBounds_toArray, List.set_cons_succ, List.set_cons_zero]
              refine wpAnyH_take (i := 22) (oi := Oper.mk (some 96) _ _ _ _ _) (v := .bool true) rfl (by kernel_rfl) (by kernel_rfl) (by kernel_rfl) (fun _ _ _ h => h) (Or.inl ⟨by rfl, ?_⟩) (by assumption) ?_
              · intro wX hSw
                (try dsimp only at hSw)
                go_simp
              simp only [Act.put, List.setIfInBounds_toArray, List.set_cons_succ, List.set_cons_zero]
              refine wpAnyH_take (i := 23) (oi := Oper.mk (some 97) _ _ _ _ _) (v := undef) rfl (by kernel_rfl) (by kernel_rfl) (by kernel_rfl) (fun _ _ _ h => h) (Or.inr ⟨by rfl, rfl⟩) (by assumption) ?_
              simp only [Act.put, List.setIfInBounds_toArray, List.set_cons_succ, List.set_cons_zero]
              refine wpAnyH_take (i := 24) (oi := Oper.mk (some 98) _ _ _ _ _) (v := undef) rfl (by kernel_rfl) (by kernel_rfl) (by kernel_rfl) (fun _ _ _ h => h) (Or.inr ⟨by rfl, rfl⟩) (by assumption) ?_
              simp only [Act.put, List.setIfInBounds_toArray, List.set_cons_succ, List.set_cons_zero]
              refine wpAnyH_take (i := 25) (oi := Oper.mk (some 99) _ _ _ _ _) (v := undef) rfl (by kernel_rfl) (by kernel_rfl) (by kernel_rfl) (fun _ _ _ h => h) (Or.inr ⟨by rfl, rfl⟩) (by assumption) ?_
              simp only [Act.put, List.setIfInBounds_toArray, List.set_cons_succ, List.set_cons_zero]
              refine wpAnyH_take (i := 26) (oi := Oper.mk (some 100) _ _ _ _ _) (v := undef) rfl (by kernel_rfl) (by kernel_rfl) (by kernel_rfl) (fun _ _ _ h => h) (Or.inr ⟨by rfl, rfl⟩) (by assumption) ?_
              simp only [Act.put, List.setIfInBounds_toArray, List.set_cons_succ, List.set_cons_zero]
              refine wpAnyH_take (i := 27) (oi := Oper.mk (some 101) _ _ _ _ _) (v := undef) rfl (by kernel_rfl) (by kernel_rfl) (by kernel_rfl) (fun _ _ _ h => h) (Or.inr ⟨by rfl, rfl⟩) (by assumption) ?_
              simp only [Act.put, List.setIfInBounds_toArray, List.set_cons_succ, List.set_cons_zero]
              refine wpAnyH_take (i := 28) (oi := Oper.mk (some 102) _ _ _ _ _) (v := undef) rfl (by kernel_rfl) (by kernel_rfl) (by kernel_rfl) (fun _ _ _ h => h) (Or.inr ⟨by rfl, rfl⟩) (by assumption) ?_
              simp only [Act.put, List.setIfInBounds_toArray, List.set_cons_succ, List.set_cons_zero]
              refine wpAnyH_take (i := 29) (oi := Oper.mk (some 103) _ _ _ _ _) (v := .bool true) rfl (by kernel_rfl) (by kernel_rfl) (by kernel_rfl) (fun _ _ _ h => h) (Or.inl ⟨by rfl, ?_⟩) (by assumption) ?_
              · intro wX hSw
                (try dsimp only at hSw)
                go_simp
              simp only [Act.put, List.setIfInBounds_toArray, List.set_cons_succ, List.set_cons_zero]
              refine wpAnyH_take (i := 30) (oi := Oper.mk (some 104) _ _ _ _ _) (v := .bool true) rfl (by kernel_rfl) (by kernel_rfl) (by kernel_rfl) (fun _ _ _ h => h) (Or.inl ⟨by rfl, ?_⟩) (by assumption) ?_
              · intro wX hSw
                (try dsimp only at hSw)
                go_simp
              simp only [Act.put, List.setIfInBounds_toArray, List.set_cons_succ, List.set_cons_zero]
              refine wpAnyH_take (i := 31) (oi := Oper.mk (some 105) _ _ _ _ _) (v := .bool true) rfl (by kernel_rfl) (by kernel_rfl) (by kernel_rfl) (fun _ _ _ h => h) (Or.inl ⟨by rfl, ?_⟩) (by assumption) ?_
              · intro wX hSw
                (try dsimp only at hSw)
                go_simp
              simp only [Act.put, List.setIfInBounds_toArray, List.set_cons_succ, List.set_cons_zero]
              refine wpAnyH_take (i := 32) (oi := Oper.mk (some 106) _ _ _ _ _) (v := .slice (some ⟨g, 0, none⟩) kb uc) rfl (by kernel_rfl) (by kernel_rfl) (by kernel_rfl) (fun _ _ _ h => h) (Or.inl ⟨by rfl, ?_⟩) (by assumption) ?_
              · intro wX hSw
                (try dsimp only at hSw)
                go_simp
              simp only [Act.put, List.setIfInBounds_toArray, List.set_cons_succ, List.set_cons_zero]
              refine wpAnyH_take (i := 33) (oi := Oper.mk (some 107) _ _ _ _ _) (v := .int .i64 (i : Int)) rfl (by kernel_rfl) (by kernel_rfl) (by kernel_rfl) (fun _ _ _ h => h) (Or.inl ⟨by rfl, ?_⟩) (by assumption) ?_
              · intro wX hSw
                (try dsimp only at hSw)
                go_simp
              simp only [Act.put, List.setIfInBounds_toArray, List.set_cons_succ, List.set_cons_zero]
              refine wpAnyH_take (i := 34) (oi := Oper.mk (some 108) _ _ _ _ _) (v := .pointer (some ⟨g, i * 2, none⟩)) rfl (by kernel_rfl) (by kernel_rfl) (by kernel_rfl) (fun _ _ _ h => h) (Or.inl ⟨by rfl, ?_⟩) (by assumption) ?_
              · intro wX hSw
                (try dsimp only at hSw)
                go_simp
              simp only [Act.put, List.setIfInBounds_toArray, List.set_cons_succ, List.set_cons_zero]
              refine wpAnyH_take (i := 35) (oi := Oper.mk (some 109) _ _ _ _ _) (v := .pointer (some ⟨g, i * 2, none⟩)) rfl (by kernel_rfl) (by kernel_rfl) (by kernel_rfl) (fun _ _ _ h => h) (Or.inl ⟨by rfl, ?_⟩) (by assumption) ?_
              · intro wX hSw
                (try dsimp only at hSw)
                go_simp
              simp only [Act.put, List.setIfInBounds_toArray, List.set_cons_succ, List.set_cons_zero]
              refine wpAnyH_take (i := 36) (oi := Oper.mk (some 110) _ _ _ _ _) (v := .string tA) rfl (by kernel_rfl) (by kernel_rfl) (by kernel_rfl) (fun _ _ _ h => h) (Or.inl ⟨by rfl, ?_⟩) (by assumption) ?_
              · intro wX hSw
                (try dsimp only at hSw)
                have q0 := hSw.a0
                go_simp
              simp only [Act.put, List.setIfInBounds_toArray, List.set_cons_succ, List.set_cons_zero]
              refine wpAnyH_take (i := 37) (oi := Oper.mk (some 111) _ _ _ _ _) (v := .slice (some ⟨g2, 0, none⟩) kb vc) rfl (by kernel_rfl) (by kernel_rfl) (by kernel_rfl) (fun _ _ _ h => h) (Or.inl ⟨by rfl, ?_⟩) (by assumption) ?_
              · intro wX hSw
                (try dsimp only at hSw)
                go_simp
              simp only [Act.put, List.setIfInBounds_toArray, List.set_cons_succ, List.set_cons_zero]
              refine wpAnyH_take (i := 38) (oi := Oper.mk (some 112) _ _ _ _ _) (v := .int .i64 (i : Int)) rfl (by kernel_rfl) (by kernel_rfl) (by kernel_rfl) (fun _ _ _ h => h) (Or.inl ⟨by rfl, ?_⟩) (by assumption) ?_
              · intro wX hSw
                (try dsimp only at hSw)
                go_simp
              simp only [Act.put, List.setIfInBounds_toArray, List.set_cons_succ, List.set_cons_zero]
              refine wpAnyH_take (i := 39) (oi := Oper.mk (some 113) _ _ _ _ _) (v := .pointer (some ⟨g2, i * 2, none⟩)) rfl (by kernel_rfl) (by kernel_rfl) (by kernel_rfl) (fun _ _ _ h => h) (Or.inl ⟨by rfl, ?_⟩) (by assumption) ?_
              · intro wX hSw
                (try dsimp only at hSw)
                go_simp
              simp only [Act.put, List.setIfInBounds_toArray, List.set_cons_succ, List.set_cons_zero]
              refine wpAnyH_take (i := 40) (oi := Oper.mk (some 114) _ _ _ _ _) (v := .pointer (some ⟨g2, i * 2, none⟩)) rfl (by kernel_rfl) (by kernel_rfl) (by kernel_rfl) (fun _ _ _ h => h) (Or.inl ⟨by rfl, ?_⟩) (by assumption) ?_
              · intro wX hSw
                (try dsimp only at hSw)
                go_simp
              simp only [Act.put, List.setIfInBounds_toArray, List.set_cons_succ, List.set_cons_zero]
              refine wpAnyH_take (i := 41) (oi := Oper.mk (some 115) _ _ _ _ _) (v := .string tB) rfl (by kernel_rfl) (by kernel_rfl) (by kernel_rfl) (fun _ _ _ h => h) (Or.inl ⟨by rfl, ?_⟩) (by assumption) ?_
              · intro wX hSw
                (try dsimp only at hSw)
                have q0 := hSw.b0
                go_simp
              simp only [Act.put, List.setIfInBounds_toArray, List.set_cons_succ, List.set_cons_zero]
              refine wpAnyH_take (i := 42) (oi := Oper.mk (some 116) _ _ _ _ _) (v := .agg SC.toList.toArray) rfl (by kernel_rfl) (by kernel_rfl) (by kernel_rfl) (fun _ _ _ h => h) (Or.inl ⟨by rfl, ?_⟩) (by assumption) ?_
              · intro wX hSw
                (try dsimp only at hSw)
                exact exec_load_mid 26 (.tmp 4) rfl (w.heap.size + 1) 0 (by rfl) SC.toList _ hSw.sy Tryz.underlying26 rfl SI
              rw [Array.toArray_toList]
              simp only [Act.put, List.setIfInBounds_toArray, List.set_cons_succ, List.set_cons_zero]
              refine wpAnyH_ready (rs := [43]) (by kernel_rfl) (by simp) ?_
              refine AllReadyH.cons (o := Oper.mk (some 117) _ _ _ _ _) rfl (fun K hK => ?_) AllReadyH.nil
              go_simp
              refine (CN.out _ hHeld).mono ?_
              rintro e w9 ⟨rfl, s9⟩
              refine hK.out _ _ ?_ (fun hHeld => ?_)
              · assumption
              clear hK K
              refine wpAnyH_take (i := 44) (oi := Oper.mk (some 118) _ _ _ _ _) (v := .bool false) rfl (by kernel_rfl) (by kernel_rfl) (by kernel_rfl) (fun _ _ _ h => h) (Or.inl ⟨by rfl, ?_⟩) (by assumption) ?_
              · intro wX hSw
                (try dsimp only at hSw)
                go_simp
              simp only [Act.put, List.setIfInBounds_toArray, List.set_cons_succ, List.set_cons_zero]
              refine wpAnyH_take (i := 45) (oi := Oper.mk (some 119) _ _ _ _ _) (v := .bool false) rfl (by kernel_rfl) (by kernel_rfl) (by kernel_rfl) (fun _ _ _ h => h) (Or.inl ⟨by rfl, ?_⟩) (by assumption) ?_
              · intro wX hSw
                (try dsimp only at hSw)
                go_simp
              simp only [Act.put, List.setIfInBounds_toArray, List.set_cons_succ, List.set_cons_zero]
              refine wpAnyH_take (i := 46) (oi := Oper.mk (some 120) _ _ _ _ _) (v := .bool false) rfl (by kernel_rfl) (by kernel_rfl) (by kernel_rfl) (fun _ _ _ h => h) (Or.inl ⟨by rfl, ?_⟩) (by assumption) ?_
              · intro wX hSw
                (try dsimp only at hSw)
                go_simp
              simp only [Act.put, List.setIfInBounds_toArray, List.set_cons_succ, List.set_cons_zero]
              refine wpAnyH_done (by kernel_rfl) ?_ _
              have HN := hide (BQ.out.trans (hHeld.bl.mono BQ.out.size))
              clear hHeld KS CN
              go_wp2
              exact ⟨⟨i + 1, by omega, by go_num, HN⟩, by simp [intOf]; omega⟩
            · have hf1 : (f == 2) = false := by simpa using hf2
              by_cases hf5 : f = 5
              · subst hf5
                have CN : Hid (∀ X, SL9 wr w.heap.size 0 SC g g2 i 5 tA tB X → Calls Tryz.prog 8 #[.string tB, .agg SC] X fun e w9 => e = .returned (.string tA) ∧ SL9 wr w.heap.size 0 SC g g2 i 5 tA tB w9) := hide (fun X hX => CW.out rfl (.inr rfl) X hX)
                clear CW
                go_wp2_with fail
                refine wp_region_held_drew (S := (SL9 wr w.heap.size 0 SC g g2 i 5 tA tB)) (by kernel_rfl) ?_ (fun hHeld => ?_)
                · assumption
                refine wpAnyH_take (i := 0) (oi := Oper.mk (some 74) _ _ _ _ _) (v := .slice (some ⟨g, 0, none⟩) kb uc) rfl (by kernel_rfl) (by kernel_rfl) (by kernel_rfl) (fun _ _ _ h => h) (Or.inl ⟨by rfl, ?_⟩) (by assumption) ?_
                · intro wX hSw
                  (try dsimp only at hSw)
                  go_simp
                simp only [Act.put, List.setIfInBounds_toArray, List.set_cons_succ, List.set_cons_zero]
                refine wpAnyH_take (i := 1) (oi := Oper.mk (some 75) _ _ _ _ _) (v := .int .i64 (i : Int)) rfl (by kernel_rfl) (by kernel_rfl) (by kernel_rfl) (fun _ _ _ h => h) (Or.inl ⟨by rfl, ?_⟩) (by assumption) ?_
                · intro wX hSw
                  (try dsimp only at hSw)
                  go_simp
                simp only [Act.put, List.setIfInBounds_toArray, List.set_cons_succ, List.set_cons_zero]
                refine wpAnyH_take (i := 2) (oi := Oper.mk (some 76) _ _ _ _ _) (v := .pointer (some ⟨g, i * 2, none⟩)) rfl (by kernel_rfl) (by kernel_rfl) (by kernel_rfl) (fun _ _ _ h => h) (Or.inl ⟨by rfl, ?_⟩) (by assumption) ?_
                · intro wX hSw
                  (try dsimp only at hSw)
                  go_simp
                simp only [Act.put, List.setIfInBounds_toArray, List.set_cons_succ, List.set_cons_zero]
                refine wpAnyH_take (i := 3) (oi := Oper.mk (some 77) _ _ _ _ _) (v := .pointer (some ⟨g, i * 2 + 1, none⟩)) rfl (by kernel_rfl) (by kernel_rfl) (by kernel_rfl) (fun _ _ _ h => h) (Or.inl ⟨by rfl, ?_⟩) (by assumption) ?_
                · intro wX hSw
                  (try dsimp only at hSw)
                  go_simp
                simp only [Act.put, List.setIfInBounds_toArray, List.set_cons_succ, List.set_cons_zero]
                refine wpAnyH_take (i := 4) (oi := Oper.mk (some 78) _ _ _ _ _) (v := .int .i64 5) rfl (by kernel_rfl) (by kernel_rfl) (by kernel_rfl) (fun _ _ _ h => h) (Or.inl ⟨by rfl, ?_⟩) (by assumption) ?_
                · intro wX hSw
                  (try dsimp only at hSw)
                  have q0 := hSw.a1
                  go_simp
                simp only [Act.put, List.setIfInBounds_toArray, List.set_cons_succ, List.set_cons_zero]
                refine wpAnyH_take (i := 5) (oi := Oper.mk (some 79) _ _ _ _ _) (v := .slice (some ⟨g2, 0, none⟩) kb vc) rfl (by kernel_rfl) (by kernel_rfl) (by kernel_rfl) (fun _ _ _ h => h) (Or.inl ⟨by rfl, ?_⟩) (by assumption) ?_
                · intro wX hSw
                  (try dsimp only at hSw)
                  go_simp
                simp only [Act.put, List.setIfInBounds_toArray, List.set_cons_succ, List.set_cons_zero]
                refine wpAnyH_take (i := 6) (oi := Oper.mk (some 80) _ _ _ _ _) (v := .int .i64 (i : Int)) rfl (by kernel_rfl) (by kernel_rfl) (by kernel_rfl) (fun _ _ _ h => h) (Or.inl ⟨by rfl, ?_⟩) (by assumption) ?_
                · intro wX hSw
                  (try dsimp only at hSw)
                  go_simp
                simp only [Act.put, List.setIfInBounds_toArray, List.set_cons_succ, List.set_cons_zero]
                refine wpAnyH_take (i := 7) (oi := Oper.mk (some 81) _ _ _ _ _) (v := .pointer (some ⟨g2, i * 2, none⟩)) rfl (by kernel_rfl) (by kernel_rfl) (by kernel_rfl) (fun _ _ _ h => h) (Or.inl ⟨by rfl, ?_⟩) (by assumption) ?_
                · intro wX hSw
                  (try dsimp only at hSw)
                  go_simp
                simp only [Act.put, List.setIfInBounds_toArray, List.set_cons_succ, List.set_cons_zero]
                refine wpAnyH_take (i := 8) (oi := Oper.mk (some 82) _ _ _ _ _) (v := .pointer (some ⟨g2, i * 2 + 1, none⟩)) rfl (by kernel_rfl) (by kernel_rfl) (by kernel_rfl) (fun _ _ _ h => h) (Or.inl ⟨by rfl, ?_⟩) (by assumption) ?_
                · intro wX hSw
                  (try dsimp only at hSw)
                  go_simp
                simp only [Act.put, List.setIfInBounds_toArray, List.set_cons_succ, List.set_cons_zero]
                refine wpAnyH_take (i := 9) (oi := Oper.mk (some 83) _ _ _ _ _) (v := .int .i64 5) rfl (by kernel_rfl) (by kernel_rfl) (by kernel_rfl) (fun _ _ _ h => h) (Or.inl ⟨by rfl, ?_⟩) (by assumption) ?_
                · intro wX hSw
                  (try dsimp only at hSw)
                  have q0 := hSw.b1
                  go_simp
                simp only [Act.put, List.setIfInBounds_toArray, List.set_cons_succ, List.set_cons_zero]
                refine wpAnyH_take (i := 10) (oi := Oper.mk (some 84) _ _ _ _ _) (v := .bool false) rfl (by kernel_rfl) (by kernel_rfl) (by kernel_rfl) (fun _ _ _ h => h) (Or.inl ⟨by rfl, ?_⟩) (by assumption) ?_
                · intro wX hSw
                  (try dsimp only at hSw)
                  go_simp
                simp only [Act.put, List.setIfInBounds_toArray, List.set_cons_succ, List.set_cons_zero]
                refine wpAnyH_take (i := 11) (oi := Oper.mk (some 85) _ _ _ _ _) (v := .bool false) rfl (by kernel_rfl) (by kernel_rfl) (by kernel_rfl) (fun _ _ _ h => h) (Or.inl ⟨by rfl, ?_⟩) (by assumption) ?_
                · intro wX hSw
                  (try dsimp only at hSw)
                  go_simp
                simp only [Act.put, List.setIfInBounds_toArray, List.set_cons_succ, List.set_cons_zero]
                refine wpAnyH_take (i := 12) (oi := Oper.mk (some 86) _ _ _ _ _) (v := .pointer (some ⟨w.heap.size, 0, none⟩)) rfl (by kernel_rfl) (by kernel_rfl) (by kernel_rfl) (fun _ _ _ h => h) (Or.inl ⟨by rfl, ?_⟩) (by assumption) ?_
                · intro wX hSw
                  (try dsimp only at hSw)
                  go_simp
                simp only [Act.put, List.setIfInBounds_toArray, List.set_cons_succ, List.set_cons_zero]
                refine wpAnyH_take (i := 13) (oi := Oper.mk (some 87) _ _ _ _ _) (v := .int .i64 0) rfl (by kernel_rfl) (by kernel_rfl) (by kernel_rfl) (fun _ _ _ h => h) (Or.inl ⟨by rfl, ?_⟩) (by assumption) ?_
                · intro wX hSw
                  (try dsimp only at hSw)
                  have q0 := hSw.cl
                  go_simp
                simp only [Act.put, List.setIfInBounds_toArray, List.set_cons_succ, List.set_cons_zero]
                refine wpAnyH_take (i := 14) (oi := Oper.mk (some 88) _ _ _ _ _) (v := .bool true) rfl (by kernel_rfl) (by kernel_rfl) (by kernel_rfl) (fun _ _ _ h => h) (Or.inl ⟨by rfl, ?_⟩) (by assumption) ?_
                · intro wX hSw
                  (try dsimp only at hSw)
                  go_simp
                simp only [Act.put, List.setIfInBounds_toArray, List.set_cons_succ, List.set_cons_zero]
                refine wpAnyH_take (i := 15) (oi := Oper.mk (some 89) _ _ _ _ _) (v := .bool true) rfl (by kernel_rfl) (by kernel_rfl) (by kernel_rfl) (fun _ _ _ h => h) (Or.inl ⟨by rfl, ?_⟩) (by assumption) ?_
                · intro wX hSw
                  (try dsimp only at hSw)
                  go_simp
                simp only [Act.put, List.setIfInBounds_toArray, List.set_cons_succ, List.set_cons_zero]
                refine wpAnyH_take (i := 16) (oi := Oper.mk (some 90) _ _ _ _ _) (v := .slice (some ⟨g, 0, none⟩) kb uc) rfl (by kernel_rfl) (by kernel_rfl) (by kernel_rfl) (fun _ _ _ h => h) (Or.inl ⟨by rfl, ?_⟩) (by assumption) ?_
                · intro wX hSw
                  (try dsimp only at hSw)
                  go_simp
                simp only [Act.put, List.setIfInBounds_toArray, List.set_cons_succ, List.set_cons_zero]
                refine wpAnyH_take (i := 17) (oi := Oper.mk (some 91) _ _ _ _ _) (v := .int .i64 (i : Int)) rfl (by kernel_rfl) (by kernel_rfl) (by kernel_rfl) (fun _ _ _ h => h) (Or.inl ⟨by rfl, ?_⟩) (by assumption) ?_
                · intro wX hSw
                  (try dsimp only at hSw)
                  go_simp
                simp only [Act.put, List.setIfInBounds_toArray, List.set_cons_succ, List.set_cons_zero]
                refine wpAnyH_take (i := 18) (oi := Oper.mk (some 92) _ _ _ _ _) (v := .pointer (some ⟨g, i * 2, none⟩)) rfl (by kernel_rfl) (by kernel_rfl) (by kernel_rfl) (fun _ _ _ h => h) (Or.inl ⟨by rfl, ?_⟩) (by assumption) ?_
                · intro wX hSw
                  (try dsimp only at hSw)
                  go_simp
                simp only [Act.put, List.setIfInBounds_toArray, List.set_cons_succ, List.set_cons_zero]
                refine wpAnyH_take (i := 19) (oi := Oper.mk (some 93) _ _ _ _ _) (v := .pointer (some ⟨g, i * 2 + 1, none⟩)) rfl (by kernel_rfl) (by kernel_rfl) (by kernel_rfl) (fun _ _ _ h => h) (Or.inl ⟨by rfl, ?_⟩) (by assumption) ?_
                · intro wX hSw
                  (try dsimp only at hSw)
                  go_simp
                simp only [Act.put, List.setIfInBounds_toArray, List.set_cons_succ, List.set_cons_zero]
                refine wpAnyH_take (i := 20) (oi := Oper.mk (some 94) _ _ _ _ _) (v := .int .i64 5) rfl (by kernel_rfl) (by kernel_rfl) (by kernel_rfl) (fun _ _ _ h => h) (Or.inl ⟨by rfl, ?_⟩) (by assumption) ?_
                · intro wX hSw
                  (try dsimp only at hSw)
                  have q0 := hSw.a1
                  go_simp
                simp only [Act.put, List.setIfInBounds_toArray, List.set_cons_succ, List.set_cons_zero]
                refine wpAnyH_take (i := 21) (oi := Oper.mk (some 95) _ _ _ _ _) (v := .bool false) rfl (by kernel_rfl) (by kernel_rfl) (by kernel_rfl) (fun _ _ _ h => h) (Or.inl ⟨by rfl, ?_⟩) (by assumption) ?_
                · intro wX hSw
                  (try dsimp only at hSw)
                  go_simp
                simp only [Act.put, List.setIfInBounds_toArray, List.set_cons_succ, List.set_cons_zero]
                refine wpAnyH_take (i := 22) (oi := Oper.mk (some 96) _ _ _ _ _) (v := .bool false) rfl (by kernel_rfl) (by kernel_rfl) (by kernel_rfl) (fun _ _ _ h => h) (Or.inl ⟨by rfl, ?_⟩) (by assumption) ?_
                · intro wX hSw
                  (try dsimp only at hSw)
                  go_simp
                simp only [Act.put, List.setIfInBounds_toArray, List.set_cons_succ, List.set_cons_zero]
                refine wpAnyH_take (i := 23) (oi := Oper.mk (some 97) _ _ _ _ _) (v := .slice (some ⟨g, 0, none⟩) kb uc) rfl (by kernel_rfl) (by kernel_rfl) (by kernel_rfl) (fun _ _ _ h => h) (Or.inl ⟨by rfl, ?_⟩) (by assumption) ?_
                · intro wX hSw
                  (try dsimp only at hSw)
                  go_simp
                simp only [Act.put, List.setIfInBounds_toArray, List.set_cons_succ, List.set_cons_zero]
                refine wpAnyH_take (i := 24) (oi := Oper.mk (some 98) _ _ _ _ _) (v := .int .i64 (i : Int)) rfl (by kernel_rfl) (by kernel_rfl) (by kernel_rfl) (fun _ _ _ h => h) (Or.inl ⟨by rfl, ?_⟩) (by assumption) ?_
                · intro wX hSw
                  (try dsimp only at hSw)
                  go_simp
                simp only [Act.put, List.setIfInBounds_toArray, List.set_cons_succ, List.set_cons_zero]
                refine wpAnyH_take (i := 25) (oi := Oper.mk (some 99) _ _ _ _ _) (v := .pointer (some ⟨g, i * 2, none⟩)) rfl (by kernel_rfl) (by kernel_rfl) (by kernel_rfl) (fun _ _ _ h => h) (Or.inl ⟨by rfl, ?_⟩) (by assumption) ?_
                · intro wX hSw
                  (try dsimp only at hSw)
                  go_simp
                simp only [Act.put, List.setIfInBounds_toArray, List.set_cons_succ, List.set_cons_zero]
                refine wpAnyH_take (i := 26) (oi := Oper.mk (some 100) _ _ _ _ _) (v := .pointer (some ⟨g, i * 2 + 1, none⟩)) rfl (by kernel_rfl) (by kernel_rfl) (by kernel_rfl) (fun _ _ _ h => h) (Or.inl ⟨by rfl, ?_⟩) (by assumption) ?_
                · intro wX hSw
                  (try dsimp only at hSw)
                  go_simp
                simp only [Act.put, List.setIfInBounds_toArray, List.set_cons_succ, List.set_cons_zero]
                refine wpAnyH_take (i := 27) (oi := Oper.mk (some 101) _ _ _ _ _) (v := .int .i64 5) rfl (by kernel_rfl) (by kernel_rfl) (by kernel_rfl) (fun _ _ _ h => h) (Or.inl ⟨by rfl, ?_⟩) (by assumption) ?_
                · intro wX hSw
                  (try dsimp only at hSw)
                  have q0 := hSw.a1
                  go_simp
                simp only [Act.put, List.setIfInBounds_toArray, List.set_cons_succ, List.set_cons_zero]
                refine wpAnyH_take (i := 28) (oi := Oper.mk (some 102) _ _ _ _ _) (v := .bool true) rfl (by kernel_rfl) (by kernel_rfl) (by kernel_rfl) (fun _ _ _ h => h) (Or.inl ⟨by rfl, ?_⟩) (by assumption) ?_
                · intro wX hSw
                  (try dsimp only at hSw)
                  go_simp
                simp only [Act.put, List.setIfInBounds_toArray, List.set_cons_succ, List.set_cons_zero]
                refine wpAnyH_take (i := 29) (oi := Oper.mk (some 103) _ _ _ _ _) (v := .bool true) rfl (by kernel_rfl) (by kernel_rfl) (by kernel_rfl) (fun _ _ _ h => h) (Or.inl ⟨by rfl, ?_⟩) (by assumption) ?_
                · intro wX hSw
                  (try dsimp only at hSw)
                  go_simp
                simp only [Act.put, List.setIfInBounds_toArray, List.set_cons_succ, List.set_cons_zero]
                refine wpAnyH_take (i := 30) (oi := Oper.mk (some 104) _ _ _ _ _) (v := .bool true) rfl (by kernel_rfl) (by kernel_rfl) (by kernel_rfl) (fun _ _ _ h => h) (Or.inl ⟨by rfl, ?_⟩) (by assumption) ?_
                · intro wX hSw
                  (try dsimp only at hSw)
                  go_simp
                simp only [Act.put, List.setIfInBounds_toArray, List.set_cons_succ, List.set_cons_zero]
                refine wpAnyH_take (i := 31) (oi := Oper.mk (some 105) _ _ _ _ _) (v := .bool true) rfl (by kernel_rfl) (by kernel_rfl) (by kernel_rfl) (fun _ _ _ h => h) (Or.inl ⟨by rfl, ?_⟩) (by assumption) ?_
                · intro wX hSw
                  (try dsimp only at hSw)
                  go_simp
                simp only [Act.put, List.setIfInBounds_toArray, List.set_cons_succ, List.set_cons_zero]
                refine wpAnyH_take (i := 32) (oi := Oper.mk (some 106) _ _ _ _ _) (v := .slice (some ⟨g, 0, none⟩) kb uc) rfl (by kernel_rfl) (by kernel_rfl) (by kernel_rfl) (fun _ _ _ h => h) (Or.inl ⟨by rfl, ?_⟩) (by assumption) ?_
                · intro wX hSw
                  (try dsimp only at hSw)
                  go_simp
                simp only [Act.put, List.setIfInBounds_toArray, List.set_cons_succ, List.set_cons_zero]
                refine wpAnyH_take (i := 33) (oi := Oper.mk (some 107) _ _ _ _ _) (v := .int .i64 (i : Int)) rfl (by kernel_rfl) (by kernel_rfl) (by kernel_rfl) (fun _ _ _ h => h) (Or.inl ⟨by rfl, ?_⟩) (by assumption) ?_
                · intro wX hSw
                  (try dsimp only at hSw)
                  go_simp
                simp only [Act.put, List.setIfInBounds_toArray, List.set_cons_succ, List.set_cons_zero]
                refine wpAnyH_take (i := 34) (oi := Oper.mk (some 108) _ _ _ _ _) (v := .pointer (some ⟨g, i * 2, none⟩)) rfl (by kernel_rfl) (by kernel_rfl) (by kernel_rfl) (fun _ _ _ h => h) (Or.inl ⟨by rfl, ?_⟩) (by assumption) ?_
                · intro wX hSw
                  (try dsimp only at hSw)
                  go_simp
                simp only [Act.put, List.setIfInBounds_toArray, List.set_cons_succ, List.set_cons_zero]
                refine wpAnyH_take (i := 35) (oi := Oper.mk (some 109) _ _ _ _ _) (v := .pointer (some ⟨g, i * 2, none⟩)) rfl (by kernel_rfl) (by kernel_rfl) (by kernel_rfl) (fun _ _ _ h => h) (Or.inl ⟨by rfl, ?_⟩) (by assumption) ?_
                · intro wX hSw
                  (try dsimp only at hSw)
                  go_simp
                simp only [Act.put, List.setIfInBounds_toArray, List.set_cons_succ, List.set_cons_zero]
                refine wpAnyH_take (i := 36) (oi := Oper.mk (some 110) _ _ _ _ _) (v := .string tA) rfl (by kernel_rfl) (by kernel_rfl) (by kernel_rfl) (fun _ _ _ h => h) (Or.inl ⟨by rfl, ?_⟩) (by assumption) ?_
                · intro wX hSw
                  (try dsimp only at hSw)
                  have q0 := hSw.a0
                  go_simp
                simp only [Act.put, List.setIfInBounds_toArray, List.set_cons_succ, List.set_cons_zero]
                refine wpAnyH_take (i := 37) (oi := Oper.mk (some 111) _ _ _ _ _) (v := .slice (some ⟨g2, 0, none⟩) kb vc) rfl (by kernel_rfl) (by kernel_rfl) (by kernel_rfl) (fun _ _ _ h => h) (Or.inl ⟨by rfl, ?_⟩) (by assumption) ?_
                · intro wX hSw
                  (try dsimp only at hSw)
                  go_simp
                simp only [Act.put, List.setIfInBounds_toArray, List.set_cons_succ, List.set_cons_zero]
                refine wpAnyH_take (i := 38) (oi := Oper.mk (some 112) _ _ _ _ _) (v := .int .i64 (i : Int)) rfl (by kernel_rfl) (by kernel_rfl) (by kernel_rfl) (fun _ _ _ h => h) (Or.inl ⟨by rfl, ?_⟩) (by assumption) ?_
                · intro wX hSw
                  (try dsimp only at hSw)
                  go_simp
                simp only [Act.put, List.setIfInBounds_toArray, List.set_cons_succ, List.set_cons_zero]
                refine wpAnyH_take (i := 39) (oi := Oper.mk (some 113) _ _ _ _ _) (v := .pointer (some ⟨g2, i * 2, none⟩)) rfl (by kernel_rfl) (by kernel_rfl) (by kernel_rfl) (fun _ _ _ h => h) (Or.inl ⟨by rfl, ?_⟩) (by assumption) ?_
                · intro wX hSw
                  (try dsimp only at hSw)
                  go_simp
                simp only [Act.put, List.setIfInBounds_toArray, List.set_cons_succ, List.set_cons_zero]
                refine wpAnyH_take (i := 40) (oi := Oper.mk (some 114) _ _ _ _ _) (v := .pointer (some ⟨g2, i * 2, none⟩)) rfl (by kernel_rfl) (by kernel_rfl) (by kernel_rfl) (fun _ _ _ h => h) (Or.inl ⟨by rfl, ?_⟩) (by assumption) ?_
                · intro wX hSw
                  (try dsimp only at hSw)
                  go_simp
                simp only [Act.put, List.setIfInBounds_toArray, List.set_cons_succ, List.set_cons_zero]
                refine wpAnyH_take (i := 41) (oi := Oper.mk (some 115) _ _ _ _ _) (v := .string tB) rfl (by kernel_rfl) (by kernel_rfl) (by kernel_rfl) (fun _ _ _ h => h) (Or.inl ⟨by rfl, ?_⟩) (by assumption) ?_
                · intro wX hSw
                  (try dsimp only at hSw)
                  have q0 := hSw.b0
                  go_simp
                simp only [Act.put, List.setIfInBounds_toArray, List.set_cons_succ, List.set_cons_zero]
                refine wpAnyH_take (i := 42) (oi := Oper.mk (some 116) _ _ _ _ _) (v := .agg SC.toList.toArray) rfl (by kernel_rfl) (by kernel_rfl) (by kernel_rfl) (fun _ _ _ h => h) (Or.inl ⟨by rfl, ?_⟩) (by assumption) ?_
                · intro wX hSw
                  (try dsimp only at hSw)
                  exact exec_load_mid 26 (.tmp 4) rfl (w.heap.size + 1) 0 (by rfl) SC.toList _ hSw.sy Tryz.underlying26 rfl SI
                rw [Array.toArray_toList]
                simp only [Act.put, List.setIfInBounds_toArray, List.set_cons_succ, List.set_cons_zero]
                refine wpAnyH_ready (rs := [43]) (by kernel_rfl) (by simp) ?_
                refine AllReadyH.cons (o := Oper.mk (some 117) _ _ _ _ _) rfl (fun K hK => ?_) AllReadyH.nil
                go_simp
                refine (CN.out _ hHeld).mono ?_
                rintro e w9 ⟨rfl, s9⟩
                refine hK.out _ _ ?_ (fun hHeld => ?_)
                · assumption
                clear hK K
                refine wpAnyH_take (i := 44) (oi := Oper.mk (some 118) _ _ _ _ _) (v := .bool false) rfl (by kernel_rfl) (by kernel_rfl) (by kernel_rfl) (fun _ _ _ h => h) (Or.inl ⟨by rfl, ?_⟩) (by assumption) ?_
                · intro wX hSw
                  (try dsimp only at hSw)
                  go_simp
                simp only [Act.put, List.setIfInBounds_toArray, List.set_cons_succ, List.set_cons_zero]
                refine wpAnyH_take (i := 45) (oi := Oper.mk (some 119) _ _ _ _ _) (v := .bool false) rfl (by kernel_rfl) (by kernel_rfl) (by kernel_rfl) (fun _ _ _ h => h) (Or.inl ⟨by rfl, ?_⟩) (by assumption) ?_
                · intro wX hSw
                  (try dsimp only at hSw)
                  go_simp
                simp only [Act.put, List.setIfInBounds_toArray, List.set_cons_succ, List.set_cons_zero]
                refine wpAnyH_take (i := 46) (oi := Oper.mk (some 120) _ _ _ _ _) (v := .bool false) rfl (by kernel_rfl) (by kernel_rfl) (by kernel_rfl) (fun _ _ _ h => h) (Or.inl ⟨by rfl, ?_⟩) (by assumption) ?_
                · intro wX hSw
                  (try dsimp only at hSw)
                  go_simp
                simp only [Act.put, List.setIfInBounds_toArray, List.set_cons_succ, List.set_cons_zero]
                refine wpAnyH_done (by kernel_rfl) ?_ _
                have HN := hide (BQ.out.trans (hHeld.bl.mono BQ.out.size))
                clear hHeld KS CN
                go_wp2
                exact ⟨⟨i + 1, by omega, by go_num, HN⟩, by simp [intOf]; omega⟩
              · have hf3 : (f == 5) = false := by simpa using hf5
                clear CW
                go_wp2_with fail
                refine wp_region_held_drew (S := (SL9 wr w.heap.size 0 SC g g2 i f tA tB)) (by kernel_rfl) ?_ (fun hHeld => ?_)
                · assumption
                refine wpAnyH_take (i := 0) (oi := Oper.mk (some 74) _ _ _ _ _) (v := .slice (some ⟨g, 0, none⟩) kb uc) rfl (by kernel_rfl) (by kernel_rfl) (by kernel_rfl) (fun _ _ _ h => h) (Or.inl ⟨by rfl, ?_⟩) (by assumption) ?_
                · intro wX hSw
                  (try dsimp only at hSw)
                  go_simp
                simp only [Act.put, List.setIfInBounds_toArray, List.set_cons_succ, List.set_cons_zero]
                refine wpAnyH_take (i := 1) (oi := Oper.mk (some 75) _ _ _ _ _) (v := .int .i64 (i : Int)) rfl (by kernel_rfl) (by kernel_rfl) (by kernel_rfl) (fun _ _ _ h => h) (Or.inl ⟨by rfl, ?_⟩) (by assumption) ?_
                · intro wX hSw
                  (try dsimp only at hSw)
                  go_simp
                simp only [Act.put, List.setIfInBounds_toArray, List.set_cons_succ, List.set_cons_zero]
                refine wpAnyH_take (i := 2) (oi := Oper.mk (some 76) _ _ _ _ _) (v := .pointer (some ⟨g, i * 2, none⟩)) rfl (by kernel_rfl) (by kernel_rfl) (by kernel_rfl) (fun _ _ _ h => h) (Or.inl ⟨by rfl, ?_⟩) (by assumption) ?_
                · intro wX hSw
                  (try dsimp only at hSw)
                  go_simp
                simp only [Act.put, List.setIfInBounds_toArray, List.set_cons_succ, List.set_cons_zero]
                refine wpAnyH_take (i := 3) (oi := Oper.mk (some 77) _ _ _ _ _) (v := .pointer (some ⟨g, i * 2 + 1, none⟩)) rfl (by kernel_rfl) (by kernel_rfl) (by kernel_rfl) (fun _ _ _ h => h) (Or.inl ⟨by rfl, ?_⟩) (by assumption) ?_
                · intro wX hSw
                  (try dsimp only at hSw)
                  go_simp
                simp only [Act.put, List.setIfInBounds_toArray, List.set_cons_succ, List.set_cons_zero]
                refine wpAnyH_take (i := 4) (oi := Oper.mk (some 78) _ _ _ _ _) (v := .int .i64 f) rfl (by kernel_rfl) (by kernel_rfl) (by kernel_rfl) (fun _ _ _ h => h) (Or.inl ⟨by rfl, ?_⟩) (by assumption) ?_
                · intro wX hSw
                  (try dsimp only at hSw)
                  have q0 := hSw.a1
                  go_simp
                simp only [Act.put, List.setIfInBounds_toArray, List.set_cons_succ, List.set_cons_zero]
                refine wpAnyH_take (i := 5) (oi := Oper.mk (some 79) _ _ _ _ _) (v := .slice (some ⟨g2, 0, none⟩) kb vc) rfl (by kernel_rfl) (by kernel_rfl) (by kernel_rfl) (fun _ _ _ h => h) (Or.inl ⟨by rfl, ?_⟩) (by assumption) ?_
                · intro wX hSw
                  (try dsimp only at hSw)
                  go_simp
                simp only [Act.put, List.setIfInBounds_toArray, List.set_cons_succ, List.set_cons_zero]
                refine wpAnyH_take (i := 6) (oi := Oper.mk (some 80) _ _ _ _ _) (v := .int .i64 (i : Int)) rfl (by kernel_rfl) (by kernel_rfl) (by kernel_rfl) (fun _ _ _ h => h) (Or.inl ⟨by rfl, ?_⟩) (by assumption) ?_
                · intro wX hSw
                  (try dsimp only at hSw)
                  go_simp
                simp only [Act.put, List.setIfInBounds_toArray, List.set_cons_succ, List.set_cons_zero]
                refine wpAnyH_take (i := 7) (oi := Oper.mk (some 81) _ _ _ _ _) (v := .pointer (some ⟨g2, i * 2, none⟩)) rfl (by kernel_rfl) (by kernel_rfl) (by kernel_rfl) (fun _ _ _ h => h) (Or.inl ⟨by rfl, ?_⟩) (by assumption) ?_
                · intro wX hSw
                  (try dsimp only at hSw)
                  go_simp
                simp only [Act.put, List.setIfInBounds_toArray, List.set_cons_succ, List.set_cons_zero]
                refine wpAnyH_take (i := 8) (oi := Oper.mk (some 82) _ _ _ _ _) (v := .pointer (some ⟨g2, i * 2 + 1, none⟩)) rfl (by kernel_rfl) (by kernel_rfl) (by kernel_rfl) (fun _ _ _ h => h) (Or.inl ⟨by rfl, ?_⟩) (by assumption) ?_
                · intro wX hSw
                  (try dsimp only at hSw)
                  go_simp
                simp only [Act.put, List.setIfInBounds_toArray, List.set_cons_succ, List.set_cons_zero]
                refine wpAnyH_take (i := 9) (oi := Oper.mk (some 83) _ _ _ _ _) (v := .int .i64 f) rfl (by kernel_rfl) (by kernel_rfl) (by kernel_rfl) (fun _ _ _ h => h) (Or.inl ⟨by rfl, ?_⟩) (by assumption) ?_
                · intro wX hSw
                  (try dsimp only at hSw)
                  have q0 := hSw.b1
                  go_simp
                simp only [Act.put, List.setIfInBounds_toArray, List.set_cons_succ, List.set_cons_zero]
                refine wpAnyH_take (i := 10) (oi := Oper.mk (some 84) _ _ _ _ _) (v := .bool false) rfl (by kernel_rfl) (by kernel_rfl) (by kernel_rfl) (fun _ _ _ h => h) (Or.inl ⟨by rfl, ?_⟩) (by assumption) ?_
                · intro wX hSw
                  (try dsimp only at hSw)
                  go_simp
                simp only [Act.put, List.setIfInBounds_toArray, List.set_cons_succ, List.set_cons_zero]
                refine wpAnyH_take (i := 11) (oi := Oper.mk (some 85) _ _ _ _ _) (v := .bool false) rfl (by kernel_rfl) (by kernel_rfl) (by kernel_rfl) (fun _ _ _ h => h) (Or.inl ⟨by rfl, ?_⟩) (by assumption) ?_
                · intro wX hSw
                  (try dsimp only at hSw)
                  go_simp
                simp only [Act.put, List.setIfInBounds_toArray, List.set_cons_succ, List.set_cons_zero]
                refine wpAnyH_take (i := 12) (oi := Oper.mk (some 86) _ _ _ _ _) (v := .pointer (some ⟨w.heap.size, 0, none⟩)) rfl (by kernel_rfl) (by kernel_rfl) (by kernel_rfl) (fun _ _ _ h => h) (Or.inl ⟨by rfl, ?_⟩) (by assumption) ?_
                · intro wX hSw
                  (try dsimp only at hSw)
                  go_simp
                simp only [Act.put, List.setIfInBounds_toArray, List.set_cons_succ, List.set_cons_zero]
                refine wpAnyH_take (i := 13) (oi := Oper.mk (some 87) _ _ _ _ _) (v := .int .i64 0) rfl (by kernel_rfl) (by kernel_rfl) (by kernel_rfl) (fun _ _ _ h => h) (Or.inl ⟨by rfl, ?_⟩) (by assumption) ?_
                · intro wX hSw
                  (try dsimp only at hSw)
                  have q0 := hSw.cl
                  go_simp
                simp only [Act.put, List.setIfInBounds_toArray, List.set_cons_succ, List.set_cons_zero]
                refine wpAnyH_take (i := 14) (oi := Oper.mk (some 88) _ _ _ _ _) (v := .bool true) rfl (by kernel_rfl) (by kernel_rfl) (by kernel_rfl) (fun _ _ _ h => h) (Or.inl ⟨by rfl, ?_⟩) (by assumption) ?_
                · intro wX hSw
                  (try dsimp only at hSw)
                  go_simp
                simp only [Act.put, List.setIfInBounds_toArray, List.set_cons_succ, List.set_cons_zero]
                refine wpAnyH_take (i := 15) (oi := Oper.mk (some 89) _ _ _ _ _) (v := .bool true) rfl (by kernel_rfl) (by kernel_rfl) (by kernel_rfl) (fun _ _ _ h => h) (Or.inl ⟨by rfl, ?_⟩) (by assumption) ?_
                · intro wX hSw
                  (try dsimp only at hSw)
                  go_simp
                simp only [Act.put, List.setIfInBounds_toArray, List.set_cons_succ, List.set_cons_zero]
                refine wpAnyH_take (i := 16) (oi := Oper.mk (some 90) _ _ _ _ _) (v := .slice (some ⟨g, 0, none⟩) kb uc) rfl (by kernel_rfl) (by kernel_rfl) (by kernel_rfl) (fun _ _ _ h => h) (Or.inl ⟨by rfl, ?_⟩) (by assumption) ?_
                · intro wX hSw
                  (try dsimp only at hSw)
                  go_simp
                simp only [Act.put, List.setIfInBounds_toArray, List.set_cons_succ, List.set_cons_zero]
                refine wpAnyH_take (i := 17) (oi := Oper.mk (some 91) _ _ _ _ _) (v := .int .i64 (i : Int)) rfl (by kernel_rfl) (by kernel_rfl) (by kernel_rfl) (fun _ _ _ h => h) (Or.inl ⟨by rfl, ?_⟩) (by assumption) ?_
                · intro wX hSw
                  (try dsimp only at hSw)
                  go_simp
                simp only [Act.put, List.setIfInBounds_toArray, List.set_cons_succ, List.set_cons_zero]
                refine wpAnyH_take (i := 18) (oi := Oper.mk (some 92) _ _ _ _ _) (v := .pointer (some ⟨g, i * 2, none⟩)) rfl (by kernel_rfl) (by kernel_rfl) (by kernel_rfl) (fun _ _ _ h => h) (Or.inl ⟨by rfl, ?_⟩) (by assumption) ?_
                · intro wX hSw
                  (try dsimp only at hSw)
                  go_simp
                simp only [Act.put, List.setIfInBounds_toArray, List.set_cons_succ, List.set_cons_zero]
                refine wpAnyH_take (i := 19) (oi := Oper.mk (some 93) _ _ _ _ _) (v := .pointer (some ⟨g, i * 2 + 1, none⟩)) rfl (by kernel_rfl) (by kernel_rfl) (by kernel_rfl) (fun _ _ _ h => h) (Or.inl ⟨by rfl, ?_⟩) (by assumption) ?_
                · intro wX hSw
                  (try dsimp only at hSw)
                  go_simp
                simp only [Act.put, List.setIfInBounds_toArray, List.set_cons_succ, List.set_cons_zero]
                refine wpAnyH_take (i := 20) (oi := Oper.mk (some 94) _ _ _ _ _) (v := .int .i64 f) rfl (by kernel_rfl) (by kernel_rfl) (by kernel_rfl) (fun _ _ _ h => h) (Or.inl ⟨by rfl, ?_⟩) (by assumption) ?_
                · intro wX hSw
                  (try dsimp only at hSw)
                  have q0 := hSw.a1
                  go_simp
                simp only [Act.put, List.setIfInBounds_toArray, List.set_cons_succ, List.set_cons_zero]
                refine wpAnyH_take (i := 21) (oi := Oper.mk (some 95) _ _ _ _ _) (v := .bool false) rfl (by kernel_rfl) (by kernel_rfl) (by kernel_rfl) (fun _ _ _ h => h) (Or.inl ⟨by rfl, ?_⟩) (by assumption) ?_
                · intro wX hSw
                  (try dsimp only at hSw)
                  go_simp
                simp only [Act.put, List.setIfInBounds_toArray, List.set_cons_succ, List.set_cons_zero]
                refine wpAnyH_take (i := 22) (oi := Oper.mk (some 96) _ _ _ _ _) (v := .bool false) rfl (by kernel_rfl) (by kernel_rfl) (by kernel_rfl) (fun _ _ _ h => h) (Or.inl ⟨by rfl, ?_⟩) (by assumption) ?_
                · intro wX hSw
                  (try dsimp only at hSw)
                  go_simp
                simp only [Act.put, List.setIfInBounds_toArray, List.set_cons_succ, List.set_cons_zero]
                refine wpAnyH_take (i := 23) (oi := Oper.mk (some 97) _ _ _ _ _) (v := .slice (some ⟨g, 0, none⟩) kb uc) rfl (by kernel_rfl) (by kernel_rfl) (by kernel_rfl) (fun _ _ _ h => h) (Or.inl ⟨by rfl, ?_⟩) (by assumption) ?_
                · intro wX hSw
                  (try dsimp only at hSw)
                  go_simp
                simp only [Act.put, List.setIfInBounds_toArray, List.set_cons_succ, List.set_cons_zero]
                refine wpAnyH_take (i := 24) (oi := Oper.mk (some 98) _ _ _ _ _) (v := .int .i64 (i : Int)) rfl (by kernel_rfl) (by kernel_rfl) (by kernel_rfl) (fun _ _ _ h => h) (Or.inl ⟨by rfl, ?_⟩) (by assumption) ?_
                · intro wX hSw
                  (try dsimp only at hSw)
                  go_simp
                simp only [Act.put, List.setIfInBounds_toArray, List.set_cons_succ, List.set_cons_zero]
                refine wpAnyH_take (i := 25) (oi := Oper.mk (some 99) _ _ _ _ _) (v := .pointer (some ⟨g, i * 2, none⟩)) rfl (by kernel_rfl) (by kernel_rfl) (by kernel_rfl) (fun _ _ _ h => h) (Or.inl ⟨by rfl, ?_⟩) (by assumption) ?_
                · intro wX hSw
                  (try dsimp only at hSw)
                  go_simp
                simp only [Act.put, List.setIfInBounds_toArray, List.set_cons_succ, List.set_cons_zero]
                refine wpAnyH_take (i := 26) (oi := Oper.mk (some 100) _ _ _ _ _) (v := .pointer (some ⟨g, i * 2 + 1, none⟩)) rfl (by kernel_rfl) (by kernel_rfl) (by kernel_rfl) (fun _ _ _ h => h) (Or.inl ⟨by rfl, ?_⟩) (by assumption) ?_
                · intro wX hSw
                  (try dsimp only at hSw)
                  go_simp
                simp only [Act.put, List.setIfInBounds_toArray, List.set_cons_succ, List.set_cons_zero]
                refine wpAnyH_take (i := 27) (oi := Oper.mk (some 101) _ _ _ _ _) (v := .int .i64 f) rfl (by kernel_rfl) (by kernel_rfl) (by kernel_rfl) (fun _ _ _ h => h) (Or.inl ⟨by rfl, ?_⟩) (by assumption) ?_
                · intro wX hSw
                  (try dsimp only at hSw)
                  have q0 := hSw.a1
                  go_simp
                simp only [Act.put, List.setIfInBounds_toArray, List.set_cons_succ, List.set_cons_zero]
                refine wpAnyH_take (i := 28) (oi := Oper.mk (some 102) _ _ _ _ _) (v := .bool false) rfl (by kernel_rfl) (by kernel_rfl) (by kernel_rfl) (fun _ _ _ h => h) (Or.inl ⟨by rfl, ?_⟩) (by assumption) ?_
                · intro wX hSw
                  (try dsimp only at hSw)
                  go_simp
                simp only [Act.put, List.setIfInBounds_toArray, List.set_cons_succ, List.set_cons_zero]
                refine wpAnyH_take (i := 29) (oi := Oper.mk (some 103) _ _ _ _ _) (v := .bool false) rfl (by kernel_rfl) (by kernel_rfl) (by kernel_rfl) (fun _ _ _ h => h) (Or.inl ⟨by rfl, ?_⟩) (by assumption) ?_
                · intro wX hSw
                  (try dsimp only at hSw)
                  go_simp
                simp only [Act.put, List.setIfInBounds_toArray, List.set_cons_succ, List.set_cons_zero]
                refine wpAnyH_take (i := 30) (oi := Oper.mk (some 104) _ _ _ _ _) (v := .bool false) rfl (by kernel_rfl) (by kernel_rfl) (by kernel_rfl) (fun _ _ _ h => h) (Or.inl ⟨by rfl, ?_⟩) (by assumption) ?_
                · intro wX hSw
                  (try dsimp only at hSw)
                  go_simp
                simp only [Act.put, List.setIfInBounds_toArray, List.set_cons_succ, List.set_cons_zero]
                refine wpAnyH_take (i := 31) (oi := Oper.mk (some 105) _ _ _ _ _) (v := .bool false) rfl (by kernel_rfl) (by kernel_rfl) (by kernel_rfl) (fun _ _ _ h => h) (Or.inl ⟨by rfl, ?_⟩) (by assumption) ?_
                · intro wX hSw
                  (try dsimp only at hSw)
                  go_simp
                simp only [Act.put, List.setIfInBounds_toArray, List.set_cons_succ, List.set_cons_zero]
                refine wpAnyH_take (i := 32) (oi := Oper.mk (some 106) _ _ _ _ _) (v := undef) rfl (by kernel_rfl) (by kernel_rfl) (by kernel_rfl) (fun _ _ _ h => h) (Or.inr ⟨by rfl, rfl⟩) (by assumption) ?_
                simp only [Act.put, List.setIfInBounds_toArray, List.set_cons_succ, List.set_cons_zero]
                refine wpAnyH_take (i := 33) (oi := Oper.mk (some 107) _ _ _ _ _) (v := undef) rfl (by kernel_rfl) (by kernel_rfl) (by kernel_rfl) (fun _ _ _ h => h) (Or.inr ⟨by rfl, rfl⟩) (by assumption) ?_
                simp only [Act.put, List.setIfInBounds_toArray, List.set_cons_succ, List.set_cons_zero]
                refine wpAnyH_take (i := 34) (oi := Oper.mk (some 108) _ _ _ _ _) (v := undef) rfl (by kernel_rfl) (by kernel_rfl) (by kernel_rfl) (fun _ _ _ h => h) (Or.inr ⟨by rfl, rfl⟩) (by assumption) ?_
                simp only [Act.put, List.setIfInBounds_toArray, List.set_cons_succ, List.set_cons_zero]
                refine wpAnyH_take (i := 35) (oi := Oper.mk (some 109) _ _ _ _ _) (v := undef) rfl (by kernel_rfl) (by kernel_rfl) (by kernel_rfl) (fun _ _ _ h => h) (Or.inr ⟨by rfl, rfl⟩) (by assumption) ?_
                simp only [Act.put, List.setIfInBounds_toArray, List.set_cons_succ, List.set_cons_zero]
                refine wpAnyH_take (i := 36) (oi := Oper.mk (some 110) _ _ _ _ _) (v := undef) rfl (by kernel_rfl) (by kernel_rfl) (by kernel_rfl) (fun _ _ _ h => h) (Or.inr ⟨by rfl, rfl⟩) (by assumption) ?_
                simp only [Act.put, List.setIfInBounds_toArray, List.set_cons_succ, List.set_cons_zero]
                refine wpAnyH_take (i := 37) (oi := Oper.mk (some 111) _ _ _ _ _) (v := undef) rfl (by kernel_rfl) (by kernel_rfl) (by kernel_rfl) (fun _ _ _ h => h) (Or.inr ⟨by rfl, rfl⟩) (by assumption) ?_
                simp only [Act.put, List.setIfInBounds_toArray, List.set_cons_succ, List.set_cons_zero]
                refine wpAnyH_take (i := 38) (oi := Oper.mk (some 112) _ _ _ _ _) (v := undef) rfl (by kernel_rfl) (by kernel_rfl) (by kernel_rfl) (fun _ _ _ h => h) (Or.inr ⟨by rfl, rfl⟩) (by assumption) ?_
                simp only [Act.put, List.setIfInBounds_toArray, List.set_cons_succ, List.set_cons_zero]
                refine wpAnyH_take (i := 39) (oi := Oper.mk (some 113) _ _ _ _ _) (v := undef) rfl (by kernel_rfl) (by kernel_rfl) (by kernel_rfl) (fun _ _ _ h => h) (Or.inr ⟨by rfl, rfl⟩) (by assumption) ?_
                simp only [Act.put, List.setIfInBounds_toArray, List.set_cons_succ, List.set_cons_zero]
                refine wpAnyH_take (i := 40) (oi := Oper.mk (some 114) _ _ _ _ _) (v := undef) rfl (by kernel_rfl) (by kernel_rfl) (by kernel_rfl) (fun _ _ _ h => h) (Or.inr ⟨by rfl, rfl⟩) (by assumption) ?_
                simp only [Act.put, List.setIfInBounds_toArray, List.set_cons_succ, List.set_cons_zero]
                refine wpAnyH_take (i := 41) (oi := Oper.mk (some 115) _ _ _ _ _) (v := undef) rfl (by kernel_rfl) (by kernel_rfl) (by kernel_rfl) (fun _ _ _ h => h) (Or.inr ⟨by rfl, rfl⟩) (by assumption) ?_
                simp only [Act.put, List.setIfInBounds_toArray, List.set_cons_succ, List.set_cons_zero]
                refine wpAnyH_take (i := 42) (oi := Oper.mk (some 116) _ _ _ _ _) (v := undef) rfl (by kernel_rfl) (by kernel_rfl) (by kernel_rfl) (fun _ _ _ h => h) (Or.inr ⟨by rfl, rfl⟩) (by assumption) ?_
                simp only [Act.put, List.setIfInBounds_toArray, List.set_cons_succ, List.set_cons_zero]
                refine wpAnyH_take (i := 43) (oi := Oper.mk (some 117) _ _ _ _ _) (v := undef) rfl (by kernel_rfl) (by kernel_rfl) (by kernel_rfl) (fun _ _ _ h => h) (Or.inr ⟨by rfl, rfl⟩) (by assumption) ?_
                simp only [Act.put, List.setIfInBounds_toArray, List.set_cons_succ, List.set_cons_zero]
                refine wpAnyH_take (i := 44) (oi := Oper.mk (some 118) _ _ _ _ _) (v := undef) rfl (by kernel_rfl) (by kernel_rfl) (by kernel_rfl) (fun _ _ _ h => h) (Or.inr ⟨by rfl, rfl⟩) (by assumption) ?_
                simp only [Act.put, List.setIfInBounds_toArray, List.set_cons_succ, List.set_cons_zero]
                refine wpAnyH_take (i := 45) (oi := Oper.mk (some 119) _ _ _ _ _) (v := .bool false) rfl (by kernel_rfl) (by kernel_rfl) (by kernel_rfl) (fun _ _ _ h => h) (Or.inl ⟨by rfl, ?_⟩) (by assumption) ?_
                · intro wX hSw
                  (try dsimp only at hSw)
                  go_simp
                simp only [Act.put, List.setIfInBounds_toArray, List.set_cons_succ, List.set_cons_zero]
                refine wpAnyH_take (i := 46) (oi := Oper.mk (some 120) _ _ _ _ _) (v := .bool false) rfl (by kernel_rfl) (by kernel_rfl) (by kernel_rfl) (fun _ _ _ h => h) (Or.inl ⟨by rfl, ?_⟩) (by assumption) ?_
                · intro wX hSw
                  (try dsimp only at hSw)
                  go_simp
                simp only [Act.put, List.setIfInBounds_toArray, List.set_cons_succ, List.set_cons_zero]
                refine wpAnyH_done (by kernel_rfl) ?_ _
                have HN := hide (BQ.out.trans (hHeld.bl.mono BQ.out.size))
                clear hHeld KS
                go_wp2
                exact ⟨⟨i + 1, by omega, by go_num, HN⟩, by simp [intOf]; omega⟩
          · have hc1 : (c == 0) = false := by simpa using hc
            clear CW
            go_wp2_with fail
            refine wp_region_held_drew (S := (SL9 wr w.heap.size c SC g g2 i f tA tB)) (by kernel_rfl) ?_ (fun hHeld => ?_)
            · assumption
            refine wpAnyH_take (i := 0) (oi := Oper.mk (some 74) _ _ _ _ _) (v := .slice (some ⟨g, 0, none⟩) kb uc) rfl (by kernel_rfl) (by kernel_rfl) (by kernel_rfl) (fun _ _ _ h => h) (Or.inl ⟨by rfl, ?_⟩) (by assumption) ?_
            · intro wX hSw
              (try dsimp only at hSw)
              go_simp
            simp only [Act.put, List.setIfInBounds_toArray, List.set_cons_succ, List.set_cons_zero]
            refine wpAnyH_take (i := 1) (oi := Oper.mk (some 75) _ _ _ _ _) (v := .int .i64 (i : Int)) rfl (by kernel_rfl) (by kernel_rfl) (by kernel_rfl) (fun _ _ _ h => h) (Or.inl ⟨by rfl, ?_⟩) (by assumption) ?_
            · intro wX hSw
              (try dsimp only at hSw)
              go_simp
            simp only [Act.put, List.setIfInBounds_toArray, List.set_cons_succ, List.set_cons_zero]
            refine wpAnyH_take (i := 2) (oi := Oper.mk (some 76) _ _ _ _ _) (v := .pointer (some ⟨g, i * 2, none⟩)) rfl (by kernel_rfl) (by kernel_rfl) (by kernel_rfl) (fun _ _ _ h => h) (Or.inl ⟨by rfl, ?_⟩) (by assumption) ?_
            · intro wX hSw
              (try dsimp only at hSw)
              go_simp
            simp only [Act.put, List.setIfInBounds_toArray, List.set_cons_succ, List.set_cons_zero]
            refine wpAnyH_take (i := 3) (oi := Oper.mk (some 77) _ _ _ _ _) (v := .pointer (some ⟨g, i * 2 + 1, none⟩)) rfl (by kernel_rfl) (by kernel_rfl) (by kernel_rfl) (fun _ _ _ h => h) (Or.inl ⟨by rfl, ?_⟩) (by assumption) ?_
            · intro wX hSw
              (try dsimp only at hSw)
              go_simp
            simp only [Act.put, List.setIfInBounds_toArray, List.set_cons_succ, List.set_cons_zero]
            refine wpAnyH_take (i := 4) (oi := Oper.mk (some 78) _ _ _ _ _) (v := .int .i64 f) rfl (by kernel_rfl) (by kernel_rfl) (by kernel_rfl) (fun _ _ _ h => h) (Or.inl ⟨by rfl, ?_⟩) (by assumption) ?_
            · intro wX hSw
              (try dsimp only at hSw)
              have q0 := hSw.a1
              go_simp
            simp only [Act.put, List.setIfInBounds_toArray, List.set_cons_succ, List.set_cons_zero]
            refine wpAnyH_take (i := 5) (oi := Oper.mk (some 79) _ _ _ _ _) (v := .slice (some ⟨g2, 0, none⟩) kb vc) rfl (by kernel_rfl) (by kernel_rfl) (by kernel_rfl) (fun _ _ _ h => h) (Or.inl ⟨by rfl, ?_⟩) (by assumption) ?_
            · intro wX hSw
              (try dsimp only at hSw)
              go_simp
            simp only [Act.put, List.setIfInBounds_toArray, List.set_cons_succ, List.set_cons_zero]
            refine wpAnyH_take (i := 6) (oi := Oper.mk (some 80) _ _ _ _ _) (v := .int .i64 (i : Int)) rfl (by kernel_rfl) (by kernel_rfl) (by kernel_rfl) (fun _ _ _ h => h) (Or.inl ⟨by rfl, ?_⟩) (by assumption) ?_
            · intro wX hSw
              (try dsimp only at hSw)
              go_simp
            simp only [Act.put, List.setIfInBounds_toArray, List.set_cons_succ, List.set_cons_zero]
            refine wpAnyH_take (i := 7) (oi := Oper.mk (some 81) _ _ _ _ _) (v := .pointer (some ⟨g2, i * 2, none⟩)) rfl (by kernel_rfl) (by kernel_rfl) (by kernel_rfl) (fun _ _ _ h => h) (Or.inl ⟨by rfl, ?_⟩) (by assumption) ?_
            · intro wX hSw
              (try dsimp only at hSw)
              go_simp
            simp only [Act.put, List.setIfInBounds_toArray, List.set_cons_succ, List.set_cons_zero]
            refine wpAnyH_take (i := 8) (oi := Oper.mk (some 82) _ _ _ _ _) (v := .pointer (some ⟨g2, i * 2 + 1, none⟩)) rfl (by kernel_rfl) (by kernel_rfl) (by kernel_rfl) (fun _ _ _ h => h) (Or.inl ⟨by rfl, ?_⟩) (by assumption) ?_
            · intro wX hSw
              (try dsimp only at hSw)
              go_simp
            simp only [Act.put, List.setIfInBounds_toArray, List.set_cons_succ, List.set_cons_zero]
            refine wpAnyH_take (i := 9) (oi := Oper.mk (some 83) _ _ _ _ _) (v := .int .i64 f) rfl (by kernel_rfl) (by kernel_rfl) (by kernel_rfl) (fun _ _ _ h => h) (Or.inl ⟨by rfl, ?_⟩) (by assumption) ?_
            · intro wX hSw
              (try dsimp only at hSw)
              have q0 := hSw.b1
              go_simp
            simp only [Act.put, List.setIfInBounds_toArray, List.set_cons_succ, List.set_cons_zero]
            refine wpAnyH_take (i := 10) (oi := Oper.mk (some 84) _ _ _ _ _) (v := .bool false) rfl (by kernel_rfl) (by kernel_rfl) (by kernel_rfl) (fun _ _ _ h => h) (Or.inl ⟨by rfl, ?_⟩) (by assumption) ?_
            · intro wX hSw
              (try dsimp only at hSw)
              go_simp
            simp only [Act.put, List.setIfInBounds_toArray, List.set_cons_succ, List.set_cons_zero]
            refine wpAnyH_take (i := 11) (oi := Oper.mk (some 85) _ _ _ _ _) (v := .bool false) rfl (by kernel_rfl) (by kernel_rfl) (by kernel_rfl) (fun _ _ _ h => h) (Or.inl ⟨by rfl, ?_⟩) (by assumption) ?_
            · intro wX hSw
              (try dsimp only at hSw)
              go_simp
            simp only [Act.put, List.setIfInBounds_toArray, List.set_cons_succ, List.set_cons_zero]
            refine wpAnyH_take (i := 12) (oi := Oper.mk (some 86) _ _ _ _ _) (v := .pointer (some ⟨w.heap.size, 0, none⟩)) rfl (by kernel_rfl) (by kernel_rfl) (by kernel_rfl) (fun _ _ _ h => h) (Or.inl ⟨by rfl, ?_⟩) (by assumption) ?_
            · intro wX hSw
              (try dsimp only at hSw)
              go_simp
            simp only [Act.put, List.setIfInBounds_toArray, List.set_cons_succ, List.set_cons_zero]
            refine wpAnyH_take (i := 13) (oi := Oper.mk (some 87) _ _ _ _ _) (v := .int .i64 c) rfl (by kernel_rfl) (by kernel_rfl) (by kernel_rfl) (fun _ _ _ h => h) (Or.inl ⟨by rfl, ?_⟩) (by assumption) ?_
            · intro wX hSw
              (try dsimp only at hSw)
              have q0 := hSw.cl
              go_simp
            simp only [Act.put, List.setIfInBounds_toArray, List.set_cons_succ, List.set_cons_zero]
            refine wpAnyH_take (i := 14) (oi := Oper.mk (some 88) _ _ _ _ _) (v := .bool false) rfl (by kernel_rfl) (by kernel_rfl) (by kernel_rfl) (fun _ _ _ h => h) (Or.inl ⟨by rfl, ?_⟩) (by assumption) ?_
            · intro wX hSw
              (try dsimp only at hSw)
              go_simp
            simp only [Act.put, List.setIfInBounds_toArray, List.set_cons_succ, List.set_cons_zero]
            refine wpAnyH_take (i := 15) (oi := Oper.mk (some 89) _ _ _ _ _) (v := .bool false) rfl (by kernel_rfl) (by kernel_rfl) (by kernel_rfl) (fun _ _ _ h => h) (Or.inl ⟨by rfl, ?_⟩) (by assumption) ?_
            · intro wX hSw
              (try dsimp only at hSw)
              go_simp
            simp only [Act.put, List.setIfInBounds_toArray, List.set_cons_succ, List.set_cons_zero]
            refine wpAnyH_take (i := 16) (oi := Oper.mk (some 90) _ _ _ _ _) (v := undef) rfl (by kernel_rfl) (by kernel_rfl) (by kernel_rfl) (fun _ _ _ h => h) (Or.inr ⟨by rfl, rfl⟩) (by assumption) ?_
            simp only [Act.put, List.setIfInBounds_toArray, List.set_cons_succ, List.set_cons_zero]
            refine wpAnyH_take (i := 17) (oi := Oper.mk (some 91) _ _ _ _ _) (v := undef) rfl (by kernel_rfl) (by kernel_rfl) (by kernel_rfl) (fun _ _ _ h => h) (Or.inr ⟨by rfl, rfl⟩) (by assumption) ?_
            simp only [Act.put, List.setIfInBounds_toArray, List.set_cons_succ, List.set_cons_zero]
            refine wpAnyH_take (i := 18) (oi := Oper.mk (some 92) _ _ _ _ _) (v := undef) rfl (by kernel_rfl) (by kernel_rfl) (by kernel_rfl) (fun _ _ _ h => h) (Or.inr ⟨by rfl, rfl⟩) (by assumption) ?_
            simp only [Act.put, List.setIfInBounds_toArray, List.set_cons_succ, List.set_cons_zero]
            refine wpAnyH_take (i := 19) (oi := Oper.mk (some 93) _ _ _ _ _) (v := undef) rfl (by kernel_rfl) (by kernel_rfl) (by kernel_rfl) (fun _ _ _ h => h) (Or.inr ⟨by rfl, rfl⟩) (by assumption) ?_
            simp only [Act.put, List.setIfInBounds_toArray, List.set_cons_succ, List.set_cons_zero]
            refine wpAnyH_take (i := 20) (oi := Oper.mk (some 94) _ _ _ _ _) (v := undef) rfl (by kernel_rfl) (by kernel_rfl) (by kernel_rfl) (fun _ _ _ h => h) (Or.inr ⟨by rfl, rfl⟩) (by assumption) ?_
            simp only [Act.put, List.setIfInBounds_toArray, List.set_cons_succ, List.set_cons_zero]
            refine wpAnyH_take (i := 21) (oi := Oper.mk (some 95) _ _ _ _ _) (v := undef) rfl (by kernel_rfl) (by kernel_rfl) (by kernel_rfl) (fun _ _ _ h => h) (Or.inr ⟨by rfl, rfl⟩) (by assumption) ?_
            simp only [Act.put, List.setIfInBounds_toArray, List.set_cons_succ, List.set_cons_zero]
            refine wpAnyH_take (i := 22) (oi := Oper.mk (some 96) _ _ _ _ _) (v := undef) rfl (by kernel_rfl) (by kernel_rfl) (by kernel_rfl) (fun _ _ _ h => h) (Or.inr ⟨by rfl, rfl⟩) (by assumption) ?_
            simp only [Act.put, List.setIfInBounds_toArray, List.set_cons_succ, List.set_cons_zero]
            refine wpAnyH_take (i := 23) (oi := Oper.mk (some 97) _ _ _ _ _) (v := undef) rfl (by kernel_rfl) (by kernel_rfl) (by kernel_rfl) (fun _ _ _ h => h) (Or.inr ⟨by rfl, rfl⟩) (by assumption) ?_
            simp only [Act.put, List.setIfInBounds_toArray, List.set_cons_succ, List.set_cons_zero]
            refine wpAnyH_take (i := 24) (oi := Oper.mk (some 98) _ _ _ _ _) (v := undef) rfl (by kernel_rfl) (by kernel_rfl) (by kernel_rfl) (fun _ _ _ h => h) (Or.inr ⟨by rfl, rfl⟩) (by assumption) ?_
            simp only [Act.put, List.setIfInBounds_toArray, List.set_cons_succ, List.set_cons_zero]
            refine wpAnyH_take (i := 25) (oi := Oper.mk (some 99) _ _ _ _ _) (v := undef) rfl (by kernel_rfl) (by kernel_rfl) (by kernel_rfl) (fun _ _ _ h => h) (Or.inr ⟨by rfl, rfl⟩) (by assumption) ?_
            simp only [Act.put, List.setIfInBounds_toArray, List.set_cons_succ, List.set_cons_zero]
            refine wpAnyH_take (i := 26) (oi := Oper.mk (some 100) _ _ _ _ _) (v := undef) rfl (by kernel_rfl) (by kernel_rfl) (by kernel_rfl) (fun _ _ _ h => h) (Or.inr ⟨by rfl, rfl⟩) (by assumption) ?_
            simp only [Act.put, List.setIfInBounds_toArray, List.set_cons_succ, List.set_cons_zero]
            refine wpAnyH_take (i := 27) (oi := Oper.mk (some 101) _ _ _ _ _) (v := undef) rfl (by kernel_rfl) (by kernel_rfl) (by kernel_rfl) (fun _ _ _ h => h) (Or.inr ⟨by rfl, rfl⟩) (by assumption) ?_
            simp only [Act.put, List.setIfInBounds_toArray, List.set_cons_succ, List.set_cons_zero]
            refine wpAnyH_take (i := 28) (oi := Oper.mk (some 102) _ _ _ _ _) (v := undef) rfl (by kernel_rfl) (by kernel_rfl) (by kernel_rfl) (fun _ _ _ h => h) (Or.inr ⟨by rfl, rfl⟩) (by assumption) ?_
            simp only [Act.put, List.setIfInBounds_toArray, List.set_cons_succ, List.set_cons_zero]
            refine wpAnyH_take (i := 29) (oi := Oper.mk (some 103) _ _ _ _ _) (v := undef) rfl (by kernel_rfl) (by kernel_rfl) (by kernel_rfl) (fun _ _ _ h => h) (Or.inr ⟨by rfl, rfl⟩) (by assumption) ?_
            simp only [Act.put, List.setIfInBounds_toArray, List.set_cons_succ, List.set_cons_zero]
            refine wpAnyH_take (i := 30) (oi := Oper.mk (some 104) _ _ _ _ _) (v := .bool false) rfl (by kernel_rfl) (by kernel_rfl) (by kernel_rfl) (fun _ _ _ h => h) (Or.inl ⟨by rfl, ?_⟩) (by assumption) ?_
            · intro wX hSw
              (try dsimp only at hSw)
              go_simp
            simp only [Act.put, List.setIfInBounds_toArray, List.set_cons_succ, List.set_cons_zero]
            refine wpAnyH_take (i := 31) (oi := Oper.mk (some 105) _ _ _ _ _) (v := .bool false) rfl (by kernel_rfl) (by kernel_rfl) (by kernel_rfl) (fun _ _ _ h => h) (Or.inl ⟨by rfl, ?_⟩) (by assumption) ?_
            · intro wX hSw
              (try dsimp only at hSw)
              go_simp
            simp only [Act.put, List.setIfInBounds_toArray, List.set_cons_succ, List.set_cons_zero]
            refine wpAnyH_take (i := 32) (oi := Oper.mk (some 106) _ _ _ _ _) (v := undef) rfl (by kernel_rfl) (by kernel_rfl) (by kernel_rfl) (fun _ _ _ h => h) (Or.inr ⟨by rfl, rfl⟩) (by assumption) ?_
            simp only [Act.put, List.setIfInBounds_toArray, List.set_cons_succ, List.set_cons_zero]
            refine wpAnyH_take (i := 33) (oi := Oper.mk (some 107) _ _ _ _ _) (v := undef) rfl (by kernel_rfl) (by kernel_rfl) (by kernel_rfl) (fun _ _ _ h => h) (Or.inr ⟨by rfl, rfl⟩) (by assumption) ?_
            simp only [Act.put, List.setIfInBounds_toArray, List.set_cons_succ, List.set_cons_zero]
            refine wpAnyH_take (i := 34) (oi := Oper.mk (some 108) _ _ _ _ _) (v := undef) rfl (by kernel_rfl) (by kernel_rfl) (by kernel_rfl) (fun _ _ _ h => h) (Or.inr ⟨by rfl, rfl⟩) (by assumption) ?_
            simp only [Act.put, List.setIfInBounds_toArray, List.set_cons_succ, List.set_cons_zero]
            refine wpAnyH_take (i := 35) (oi := Oper.mk (some 109) _ _ _ _ _) (v := undef) rfl (by kernel_rfl) (by kernel_rfl) (by kernel_rfl) (fun _ _ _ h => h) (Or.inr ⟨by rfl, rfl⟩) (by assumption) ?_
            simp only [Act.put, List.setIfInBounds_toArray, List.set_cons_succ, List.set_cons_zero]
            refine wpAnyH_take (i := 36) (oi := Oper.mk (some 110) _ _ _ _ _) (v := undef) rfl (by kernel_rfl) (by kernel_rfl) (by kernel_rfl) (fun _ _ _ h => h) (Or.inr ⟨by rfl, rfl⟩) (by assumption) ?_
            simp only [Act.put, List.setIfInBounds_toArray, List.set_cons_succ, List.set_cons_zero]
            refine wpAnyH_take (i := 37) (oi := Oper.mk (some 111) _ _ _ _ _) (v := undef) rfl (by kernel_rfl) (by kernel_rfl) (by kernel_rfl) (fun _ _ _ h => h) (Or.inr ⟨by rfl, rfl⟩) (by assumption) ?_
            simp only [Act.put, List.setIfInBounds_toArray, List.set_cons_succ, List.set_cons_zero]
            refine wpAnyH_take (i := 38) (oi := Oper.mk (some 112) _ _ _ _ _) (v := undef) rfl (by kernel_rfl) (by kernel_rfl) (by kernel_rfl) (fun _ _ _ h => h) (Or.inr ⟨by rfl, rfl⟩) (by assumption) ?_
            simp only [Act.put, List.setIfInBounds_toArray, List.set_cons_succ, List.set_cons_zero]
            refine wpAnyH_take (i := 39) (oi := Oper.mk (some 113) _ _ _ _ _) (v := undef) rfl (by kernel_rfl) (by kernel_rfl) (by kernel_rfl) (fun _ _ _ h => h) (Or.inr ⟨by rfl, rfl⟩) (by assumption) ?_
            simp only [Act.put, List.setIfInBounds_toArray, List.set_cons_succ, List.set_cons_zero]
            refine wpAnyH_take (i := 40) (oi := Oper.mk (some 114) _ _ _ _ _) (v := undef) rfl (by kernel_rfl) (by kernel_rfl) (by kernel_rfl) (fun _ _ _ h => h) (Or.inr ⟨by rfl, rfl⟩) (by assumption) ?_
            simp only [Act.put, List.setIfInBounds_toArray, List.set_cons_succ, List.set_cons_zero]
            refine wpAnyH_take (i := 41) (oi := Oper.mk (some 115) _ _ _ _ _) (v := undef) rfl (by kernel_rfl) (by kernel_rfl) (by kernel_rfl) (fun _ _ _ h => h) (Or.inr ⟨by rfl, rfl⟩) (by assumption) ?_
            simp only [Act.put, List.setIfInBounds_toArray, List.set_cons_succ, List.set_cons_zero]
            refine wpAnyH_take (i := 42) (oi := Oper.mk (some 116) _ _ _ _ _) (v := undef) rfl (by kernel_rfl) (by kernel_rfl) (by kernel_rfl) (fun _ _ _ h => h) (Or.inr ⟨by rfl, rfl⟩) (by assumption) ?_
            simp only [Act.put, List.setIfInBounds_toArray, List.set_cons_succ, List.set_cons_zero]
            refine wpAnyH_take (i := 43) (oi := Oper.mk (some 117) _ _ _ _ _) (v := undef) rfl (by kernel_rfl) (by kernel_rfl) (by kernel_rfl) (fun _ _ _ h => h) (Or.inr ⟨by rfl, rfl⟩) (by assumption) ?_
            simp only [Act.put, List.setIfInBounds_toArray, List.set_cons_succ, List.set_cons_zero]
            refine wpAnyH_take (i := 44) (oi := Oper.mk (some 118) _ _ _ _ _) (v := undef) rfl (by kernel_rfl) (by kernel_rfl) (by kernel_rfl) (fun _ _ _ h => h) (Or.inr ⟨by rfl, rfl⟩) (by assumption) ?_
            simp only [Act.put, List.setIfInBounds_toArray, List.set_cons_succ, List.set_cons_zero]
            refine wpAnyH_take (i := 45) (oi := Oper.mk (some 119) _ _ _ _ _) (v := .bool false) rfl (by kernel_rfl) (by kernel_rfl) (by kernel_rfl) (fun _ _ _ h => h) (Or.inl ⟨by rfl, ?_⟩) (by assumption) ?_
            · intro wX hSw
              (try dsimp only at hSw)
              go_simp
            simp only [Act.put, List.setIfInBounds_toArray, List.set_cons_succ, List.set_cons_zero]
            refine wpAnyH_take (i := 46) (oi := Oper.mk (some 120) _ _ _ _ _) (v := .bool false) rfl (by kernel_rfl) (by kernel_rfl) (by kernel_rfl) (fun _ _ _ h => h) (Or.inl ⟨by rfl, ?_⟩) (by assumption) ?_
            · intro wX hSw
              (try dsimp only at hSw)
              go_simp
            simp only [Act.put, List.setIfInBounds_toArray, List.set_cons_succ, List.set_cons_zero]
            refine wpAnyH_done (by kernel_rfl) ?_ _
            have HN := hide (BQ.out.trans (hHeld.bl.mono BQ.out.size))
            clear hHeld KS
            go_wp2
            exact ⟨⟨i + 1, by omega, by go_num, HN⟩, by simp [intOf]; omega⟩
        · obtain rfl : i = kb := by omega
          have hl : ¬ (i : Int) < (i : Int) := by omega
          have HE := hide (HBr.out.trans (BQ.out.mono HBr.out.size))
          go_wp2
          go_ret
          exact ⟨rfl, HE.out⟩

end Go.Proofs.YtbfegnbaleclfaaGreatDoor
