/-
  What digits' amount, filled and Exponent answer.
  Plain symbols; what the laws' latin and awake answer.
  DigitsPieces answers true, whatever it is handed: the law's walk; what the laws' pieces answers.
  Plain symbols: how long the pieces of whole digits are; what the groups' sizes are.
-/
import Derived.Test.YtbfegnbaleclfaaGreatDoorAB21
import Derived.Test.YtbfegnbaleclfaaGreatDoorAB6
import Derived.Test.YtbfegnbaleclfaaGreatDoorAB11
import Derived.Test.YtbfegnbaleclfaaGreatDoorAB22
import Derived.Lib.EndianMore
import Derived.Test.YtbfegnbaleclfaaGreatDoorAB15
namespace Go.Proofs.YtbfegnbaleclfaaGreatDoor
open Go.RowKit

set_option maxHeartbeats 1000000 in
theorem amountD_any (e : Int) (w : World) (h1 : -9223372036854775808 ≤ e) (h2 : e ≤ 9223372036854775807) : Calls Tryz.prog 19 #[.int .i64 e] w fun r w' => r = .returned (.int .u64 ((e.natAbs : Nat) : Int)) ∧ w' = w := by
  by_cases h : e < 0
  · have hw1 : IntKind.u64.wrap e = e + 18446744073709551616 := by rw [IntKind.wrap_u64]; omega
    have hw2 : IntKind.u64.wrap (-(e + 18446744073709551616)) = ((e.natAbs : Nat) : Int) := by rw [IntKind.wrap_u64]; omega
    go_enter Tryz.func19, Tryz.ntmps19
    go_wp2
    go_ret
    exact ⟨by first | rfl | (rw [hw2]), rfl⟩
  · have hw1 : IntKind.u64.wrap e = ((e.natAbs : Nat) : Int) := by rw [IntKind.wrap_u64]; omega
    go_enter Tryz.func19, Tryz.ntmps19
    go_wp2
    go_ret
    exact ⟨by first | rfl | (rw [hw1]), rfl⟩

set_option maxHeartbeats 1000000 in
theorem filledD_any (n : Nat) (least : Int) (w : World) (hn : n < 18446744073709551616) (hl : least ≤ 9223372036854775807) (htab : Tab w) : Calls Tryz.prog 18 #[.int .u64 (n : Int), .int .i64 least] w fun r w' => r = .returned (.string (mkP (fillL n least))) ∧ Below w.heap.size w w' := by
  have FU := hide (fmtUint_any n hn w htab)
  have DL : (Lib.decDigits n).length ≤ 20 := sizeN_le (Nat.lt_of_lt_of_le hn (by decide)) (by omega)
  obtain ⟨d, hd⟩ : ∃ d : ByteArray, d = ⟨(Lib.decDigits n).toArray⟩ := ⟨_, rfl⟩
  have hds : d.size = (Lib.decDigits n).length := by rw [hd, size_mk0]
  rw [← hd] at FU
  by_cases h : least ≤ (d.size : Int)
  · have E : Hid (d = mkP (fillL n least)) := hide (by
      unfold fillL
      rw [show (min 99 (least - ((Lib.decDigits n).length : Int))).toNat = 0 by omega, hd]
      rfl)
    clear htab hd hds
    go_enter Tryz.func18, Tryz.ntmps18
    go_wp2_with fail
    refine FU.out.mono ?_
    rintro e w1 ⟨rfl, hb⟩
    have HB := hide hb
    clear hb
    go_wp2
    go_ret
    exact ⟨by rw [E.out]; rfl, HB.out⟩
  · obtain ⟨k, hk⟩ : ∃ k : Nat, (k : Int) = min 99 (least - (d.size : Int)) := ⟨(min 99 (least - (d.size : Int))).toNat, by omega⟩
    have RP := hide (fun W => repeat_any k W (by omega))
    obtain ⟨z, hz⟩ : ∃ z : ByteArray, z = ⟨(List.replicate k (48 : UInt8)).toArray⟩ := ⟨_, rfl⟩
    rw [← hz] at RP
    have E : Hid (z ++ d = mkP (fillL n least)) := hide (by
      unfold fillL
      rw [show (min 99 (least - ((Lib.decDigits n).length : Int))).toNat = k by omega, mkP_app, hz, hd]
      rfl)
    have hzs : z.size = k := by rw [hz, size_mk0, List.length_replicate]
    have hcat : ¬ 9223372036854775807 < z.size + d.size := by omega
    have hw : IntKind.i64.wrap (least - (d.size : Int)) = least - (d.size : Int) := by rw [IntKind.wrap_i64]; omega
    have MN : ∀ (w : World) (ts : Array TypeId) (t : TypeId), (Builtin.min_ ts t #[.int .i64 (least - (d.size : Int)), .int .i64 99]).run Tryz.prog w = .ok (.int .i64 (k : Int)) w := by
      intro w ts t
      rw [run_min_int2, hk]
      congr 2
      omega
    clear htab hd hds hz hk
    go_enter Tryz.func18, Tryz.ntmps18
    go_wp2_with fail
    refine FU.out.mono ?_
    rintro e w1 ⟨rfl, hb⟩
    have HB := hide hb
    clear hb
    go_wp2_with fail
    refine (RP.out _).mono ?_
    rintro e w2 ⟨rfl, hb2⟩
    have HB2 := hide (HB.out.trans (hb2.mono HB.out.size))
    clear hb2
    go_wp2
    go_ret
    exact ⟨by rw [E.out]; rfl, HB2.out⟩

def SyS (b : Nat) (SC : Array Value) (w : World) : Prop := w.rangeAt b 0 SC.toList
theorem fillL_dig (n : Nat) (least : Int) : DigB (fillL n least) := by
  unfold fillL
  intro k hk
  by_cases h : k < (List.replicate (min 99 (least - ((Lib.decDigits n).length : Int))).toNat (48 : UInt8)).length
  · have e : byt (List.replicate (min 99 (least - ((Lib.decDigits n).length : Int))).toNat 48 ++ Lib.decDigits n) k = 48 := by
      unfold byt
      rw [List.getElem?_append_left h, List.getElem?_replicate, if_pos (by simpa using h)]
      rfl
    rw [e]; decide
  · have h' : (List.replicate (min 99 (least - ((Lib.decDigits n).length : Int))).toNat (48 : UInt8)).length ≤ k := by omega
    have e : byt (List.replicate (min 99 (least - ((Lib.decDigits n).length : Int))).toNat 48 ++ Lib.decDigits n) k = byt (Lib.decDigits n) (k - (List.replicate (min 99 (least - ((Lib.decDigits n).length : Int))).toNat (48 : UInt8)).length) := by
      unfold byt
      rw [List.getElem?_append_right h']
    rw [e]
    exact (dd_okT n).2.2 _ (by rw [List.length_append] at hk; omega)
theorem fillL_len (n : Nat) (least : Int) (hn : n < 18446744073709551616) : (fillL n least).length ≤ 200 := by
  have DL : (Lib.decDigits n).length ≤ 20 := sizeN_le (Nat.lt_of_lt_of_le hn (by decide)) (by omega)
  unfold fillL
  rw [List.length_append, List.length_replicate]
  omega

set_option maxRecDepth 100000 in
set_option maxHeartbeats 16000000 in
theorem exponent_any (e least : Int) (plus : Bool) (s : Sy) (w : World) (htab : Tab w) (h1 : -9223372036854775808 ≤ e) (h2 : e ≤ 9223372036854775807) (hl : least ≤ 9223372036854775807) (hw : (wrL s (fillL e.natAbs least)).length ≤ 140737488355328) :
    Calls Tryz.prog 10 #[.int .i64 e, .int .i64 least, .bool plus, symV s] w fun r w' => (∃ v, r = .returned v ∧ w'.ownsRow w.heap.size 36 2 v (expP e least plus s).length (cellsP (expP e least plus s))) ∧ Below w.heap.size w w' := by
  obtain ⟨SC, hSC⟩ : ∃ SC, SC = symC s := ⟨_, rfl⟩
  obtain ⟨W, hW⟩ : ∃ W, W = w.alloc (.cells SC 26) := ⟨_, rfl⟩
  have BY0 := hide (show Blk W w.heap.size SC 26 by rw [hW]; exact Blk.newAt _ _ rfl _ _)
  have HB0 : Hid (Below w.heap.size w W) := hide (by rw [hW]; exact (Below.refl _ _).alloc (Nat.le_refl _) _)
  obtain ⟨W2, hW2⟩ : ∃ W2, W2 = W.alloc (.cells #[.slice none 0 0] 47) := ⟨_, rfl⟩
  have hDw : w.heap.size < W.heap.size := BY0.out.lt
  have BB2 : Hid (Below W.heap.size W W2) := hide (by rw [hW2]; exact (Below.refl _ _).alloc (Nat.le_refl _) _)
  have BY2 := Blk.on BY0 BB2.out
  have HB2 := hide (HB0.out.trans (BB2.out.mono HB0.out.size))
  have R2 : Hid (RowV W2 W.heap.size (.slice none 0 0) []) := hide ⟨by rw [hW2]; exact Blk.newAt W W.heap.size rfl _ _, World.ownsRow_nil _ _ _ _⟩
  have HW := hide hW.symm
  have HW2 := hide hW2.symm
  have SL : SC.toList.length = 21 := by rw [hSC]; rfl
  have C10 : Hid (SC[16]? = some (.string s.exp) ∧ SC[12]? = some (.string s.min) ∧ SC[13]? = some (.string s.plu)) := hide (by rw [hSC]; exact ⟨rfl, rfl, rfl⟩)
  have SI : (Tryz.prog.info? 26).map (·.size) = some SC.toList.length := by rw [SL]; exact symInfo
  have HT := hide htab
  have WR : Hid (∀ (t : ByteArray) X, DigB (bys t) → t.size ≤ 4096 → Calls Tryz.prog 16 #[.string t, .agg SC] X fun e w' => (∃ v, e = .returned v ∧ ∃ B, w'.ownsRow B 9 1 v t.size (cellsD s (bys t))) ∧ Below X.heap.size X w') := hide (fun t X h1 h2 => by
    rw [hSC]
    exact (written_any t s X h1 (by omega)).mono fun e w' ⟨⟨v, q1, q2⟩, q3⟩ => ⟨⟨v, q1, _, q2⟩, q3⟩)
  have HP := hide (put_any [] s.exp 6 R2.out (by simp))
  have EV : symV s = .agg SC := by rw [hSC]; rfl
  rw [EV]
  have y_16 := (BY2.out.cell 16).trans C10.out.1
  clear hW hW2 EV SL BB2 BY0 HB0 htab hSC
  obtain ⟨NA, hNA0⟩ : ∃ NA, NA = e.natAbs := ⟨_, rfl⟩
  obtain ⟨TX, hTX0⟩ : ∃ TX, TX = mkP (fillL e.natAbs least) := ⟨_, rfl⟩
  obtain ⟨JX, hJX0⟩ : ∃ JX, JX = mkP (wrL s (fillL e.natAbs least)) := ⟨_, rfl⟩
  have hNA : Hid (((e.natAbs : Nat) : Int) = (NA : Int)) := hide (by rw [hNA0])
  have hNAl : NA < 18446744073709551616 := by omega
  have hTX : Hid (mkP (fillL NA least) = TX) := hide (by rw [hTX0, hNA0])
  have hTd : DigB (bys TX) := by rw [hTX0]; exact fillL_dig _ _
  have hTl : TX.size ≤ 4096 := by
    have := fillL_len NA least hNAl
    rw [hTX0, mkP_size, ← hNA0]
    omega
  have hw' : (wrL s (bys TX)).length ≤ 140737488355328 := by rw [hTX0]; exact hw
  have hJX : Hid (mkP (wrL s (bys TX)) = JX) := hide (by rw [hTX0, hJX0]; rfl)
  have PE : Hid (expP e least plus s = oneP s.exp 6 ++ sgnP e plus s ++ oneP JX 8) := hide (by unfold expP; rw [hJX0])
  clear hw hNA0 hTX0 hJX0
  go_enter Tryz.func10, Tryz.ntmps10
  go_wp2_with (first | simp only [HW.out] | simp only [HW2.out])
  refine HP.out.mono ?_
  rintro r wz1 ⟨rfl, ⟨vz1, hvz1⟩, hbz1, hoz1⟩
  rw [List.nil_append] at hvz1
  have RZ1 := hide hvz1
  have KK := KD.of R2.out hoz1
  have BYZ1 := hide (KK.blk BY2.out (by decide) (by decide))
  have HBZ1 := hide (HB2.out.trans (hbz1.mono (by omega)))
  have hD1 : W.heap.size < wz1.heap.size := RZ1.out.1.lt
  clear hvz1 hbz1 hoz1 KK HP R2 BY2 HB2 y_16 HW HW2
  by_cases hneg : e < 0
  · have PS : Hid (oneP s.exp 6 ++ oneP s.min 7 = oneP s.exp 6 ++ sgnP e plus s) := hide (by unfold sgnP; rw [if_pos hneg])
    have y_12 := (BYZ1.out.cell 12).trans C10.out.2.1
    have HS := hide (put_any (oneP s.exp 6) s.min 7 RZ1.out (by have := oneP_len s.exp 6; omega))
    go_wp2_with fail
    refine HS.out.mono ?_
    rintro r wz2 ⟨rfl, ⟨vz2, hvz2⟩, hbz2, hoz2⟩
    have RZ2 := hide hvz2
    have KK := KD.of RZ1.out hoz2
    have BYZ2 := hide (KK.blk BYZ1.out (by decide) (by decide))
    have HBZ2 := hide (HBZ1.out.trans (hbz2.mono (by omega)))
    have hD2 : W.heap.size < wz2.heap.size := RZ2.out.1.lt
    clear hvz2 hbz2 hoz2 KK HS BYZ1 RZ1 HBZ1 hD1 y_12
    have KS : Hid (∀ X, Below wz2.heap.size wz2 X → SyS w.heap.size SC X) := hide (fun X hb => (BYZ2.out.below hb BYZ2.out.lt).range)
    have C1 : Hid (∀ X, Hid (Below wz2.heap.size wz2 X) → Calls Tryz.prog 19 #[.int .i64 e] X fun r w' => r = .returned (.int .u64 (NA : Int)) ∧ Hid (Below wz2.heap.size wz2 w') ∧ SyS w.heap.size SC w') := hide (fun X bX => by
      refine (amountD_any e X h1 h2).mono ?_
      rintro r w' ⟨h3, rfl⟩
      rw [hNA.out] at h3
      exact ⟨h3, bX, KS.out _ bX.out⟩)
    have C3 : Hid (∀ X, Hid (Below wz2.heap.size wz2 X) → Calls Tryz.prog 18 #[.int .u64 (NA : Int), .int .i64 least] X fun r w' => r = .returned (.string TX) ∧ Hid (Below wz2.heap.size wz2 w') ∧ SyS w.heap.size SC w') := hide (fun X bX => by
      refine (filledD_any NA least X hNAl hl (HT.out.below (HBZ2.out.trans (bX.out.mono HBZ2.out.size)))).mono ?_
      rintro r w' ⟨h3, hb⟩
      rw [hTX.out] at h3
      have bb := bX.out.trans (hb.mono bX.out.size)
      exact ⟨h3, hide bb, KS.out _ bb⟩)
    have C5 : Hid (∀ X, Hid (Below wz2.heap.size wz2 X) → Calls Tryz.prog 16 #[.string TX, .agg SC] X fun r w' => (∃ v, r = .returned v ∧ Hid (∃ B, w'.ownsRow B 9 1 v TX.size (cellsD s (bys TX)))) ∧ Hid (Below wz2.heap.size wz2 w') ∧ SyS w.heap.size SC w') := hide (fun X bX => by
      refine (WR.out TX X hTd hTl).mono ?_
      rintro r w' ⟨⟨v, rfl, ho⟩, hb⟩
      have bb := bX.out.trans (hb.mono bX.out.size)
      exact ⟨⟨v, rfl, hide ho⟩, hide bb, KS.out _ bb⟩)
    have C6 : Hid (∀ X tv, Hid (∃ B, X.ownsRow B 9 1 tv TX.size (cellsD s (bys TX))) → Hid (Below wz2.heap.size wz2 X) → Calls Tryz.prog 17 #[tv] X fun r w' => r = .returned (.string JX) ∧ Hid (Below wz2.heap.size wz2 w') ∧ SyS w.heap.size SC w') := hide (fun X tv ho bX => by
      obtain ⟨B, ho⟩ := ho.out
      refine (joined_own s (bys TX) ho (bys_len TX) (by omega) hw').mono ?_
      rintro r w' ⟨h3, hb⟩
      rw [hJX.out] at h3
      have bb := bX.out.trans (hb.mono bX.out.size)
      exact ⟨h3, hide bb, KS.out _ bb⟩)
    have C7 : Hid (∀ X, Hid (Below wz2.heap.size wz2 X) → Calls Tryz.prog 12 #[.pointer (some ⟨W.heap.size, 0, none⟩), .string JX, .int .i64 8] X fun r w' => r = .returned (.tuple #[]) ∧ Hid (∃ v', RowV w' W.heap.size v' ((oneP s.exp 6 ++ oneP s.min 7) ++ oneP JX 8)) ∧ Hid (Below w.heap.size w w') ∧ SyS w.heap.size SC w') := hide (fun X bX => by
      refine (put_any (oneP s.exp 6 ++ oneP s.min 7) JX 8 (RZ2.out.below bX.out) (by have := oneP_len s.exp 6; have := oneP_len s.min 7; have := oneP_len s.plu 7; (try simp only [List.length_append]); omega)).mono ?_
      rintro r w' ⟨h3, hv, hb, ho⟩
      have BYq := (KD.of (RZ2.out.below bX.out) ho).blk (BYZ2.out.below bX.out BYZ2.out.lt) (by decide) (by decide)
      exact ⟨h3, hide hv, hide ((HBZ2.out.trans (bX.out.mono HBZ2.out.size)).trans (hb.mono (by omega))), BYq.range⟩)
    have b0 : Hid (Below wz2.heap.size wz2 wz2.drew) := bdrewD wz2
    have hS0 := KS.out wz2.drew b0.out
    clear KS WR HT RZ2 BYZ2 HBZ2 hTd hTl hw' h1 h2 hl hNAl hD2
    go_wp2_with fail
    refine wp_region_held_drew (S := SyS w.heap.size SC) (by kernel_rfl) ?_ (fun hHeld => ?_)
    · assumption
    refine wpAnyH_take (i := 0) (oi := Oper.mk (some 24) _ _ _ _ _) (v := .int .i64 e) rfl (by kernel_rfl) (by kernel_rfl) (by kernel_rfl) (fun _ _ _ h => h) (Or.inl ⟨by rfl, ?_⟩) (by assumption) ?_
    · intro wX hSw
      (try dsimp only at hSw)
      go_simp
    simp only [Act.put, List.setIfInBounds_toArray, List.set_cons_succ, List.set_cons_zero]
    refine wpAnyH_take (i := 2) (oi := Oper.mk (some 26) _ _ _ _ _) (v := .int .i64 least) rfl (by kernel_rfl) (by kernel_rfl) (by kernel_rfl) (fun _ _ _ h => h) (Or.inl ⟨by rfl, ?_⟩) (by assumption) ?_
    · intro wX hSw
      (try dsimp only at hSw)
      go_simp
    simp only [Act.put, List.setIfInBounds_toArray, List.set_cons_succ, List.set_cons_zero]
    refine wpAnyH_take (i := 4) (oi := Oper.mk (some 28) _ _ _ _ _) (v := .agg SC.toList.toArray) rfl (by kernel_rfl) (by kernel_rfl) (by kernel_rfl) (fun _ _ _ h => h) (yieldsIf_load_mid (by rfl) _ _ rfl _ _ rfl SC.toList _ (fun _ hw => hw) Tryz.underlying26 rfl SI) (by assumption) ?_
    rw [Array.toArray_toList]
    simp only [Act.put, List.setIfInBounds_toArray, List.set_cons_succ, List.set_cons_zero]
    refine wpAnyH_ready (rs := [1]) (by kernel_rfl) (by simp) ?_
    refine AllReadyH.cons (o := Oper.mk (some 25) _ _ _ _ _) rfl (fun K hK => ?_) AllReadyH.nil
    go_simp
    refine (C1.out _ b0).mono ?_
    rintro r w3 ⟨rfl, b1, s1⟩
    refine hK.out _ _ ?_ (fun hHeld => ?_)
    · assumption
    clear hK K
    refine wpAnyH_ready (rs := [3]) (by kernel_rfl) (by simp) ?_
    refine AllReadyH.cons (o := Oper.mk (some 27) _ _ _ _ _) rfl (fun K hK => ?_) AllReadyH.nil
    go_simp
    refine (C3.out _ b1).mono ?_
    rintro r w4 ⟨rfl, b2, s2⟩
    refine hK.out _ _ ?_ (fun hHeld => ?_)
    · assumption
    clear hK K
    refine wpAnyH_ready (rs := [5]) (by kernel_rfl) (by simp) ?_
    refine AllReadyH.cons (o := Oper.mk (some 29) _ _ _ _ _) rfl (fun K hK => ?_) AllReadyH.nil
    go_simp
    refine (C5.out _ b2).mono ?_
    rintro r w5 ⟨⟨tv, rfl, o1⟩, b3, s3⟩
    refine hK.out _ _ ?_ (fun hHeld => ?_)
    · assumption
    clear hK K
    refine wpAnyH_ready (rs := [6]) (by kernel_rfl) (by simp) ?_
    refine AllReadyH.cons (o := Oper.mk (some 30) _ _ _ _ _) rfl (fun K hK => ?_) AllReadyH.nil
    go_simp
    refine (C6.out _ _ o1 b3).mono ?_
    rintro r w6 ⟨rfl, b4, s4⟩
    refine hK.out _ _ ?_ (fun hHeld => ?_)
    · assumption
    clear hK K
    refine wpAnyH_ready (rs := [7]) (by kernel_rfl) (by simp) ?_
    refine AllReadyH.cons (o := Oper.mk (some 31) _ _ _ _ _) rfl (fun K hK => ?_) AllReadyH.nil
    go_simp
    refine (C7.out _ b4).mono ?_
    rintro r w7 ⟨rfl, RZ0, b5, s5⟩
    refine hK.out _ _ ?_ (fun hHeld => ?_)
    · assumption
    clear hK K
    refine wpAnyH_done (by kernel_rfl) ?_ _
    obtain ⟨v7, RZ7⟩ := RZ0.out
    have R7 := hide RZ7
    clear RZ7 RZ0 C1 C3 C5 C6 C7 b0 b1 b2 b3 b4 s1 s2 s3 s4 s5 hS0 o1 hHeld
    have d7 := R7.out.1.cell 0
    go_wp2
    go_ret
    refine ⟨⟨_, rfl, ?_⟩, b5.out⟩
    have q := ownD_mono R7.out.2 (Nat.le_of_lt (Nat.lt_succ_of_lt hDw))
    rw [PS.out, ← PE.out] at q
    exact q
  · cases plus
    · have PS : Hid (oneP s.exp 6 = oneP s.exp 6 ++ sgnP e false s) := hide (by unfold sgnP; rw [if_neg hneg]; simp)
      have KS : Hid (∀ X, Below wz1.heap.size wz1 X → SyS w.heap.size SC X) := hide (fun X hb => (BYZ1.out.below hb BYZ1.out.lt).range)
      have C1 : Hid (∀ X, Hid (Below wz1.heap.size wz1 X) → Calls Tryz.prog 19 #[.int .i64 e] X fun r w' => r = .returned (.int .u64 (NA : Int)) ∧ Hid (Below wz1.heap.size wz1 w') ∧ SyS w.heap.size SC w') := hide (fun X bX => by
        refine (amountD_any e X h1 h2).mono ?_
        rintro r w' ⟨h3, rfl⟩
        rw [hNA.out] at h3
        exact ⟨h3, bX, KS.out _ bX.out⟩)
      have C3 : Hid (∀ X, Hid (Below wz1.heap.size wz1 X) → Calls Tryz.prog 18 #[.int .u64 (NA : Int), .int .i64 least] X fun r w' => r = .returned (.string TX) ∧ Hid (Below wz1.heap.size wz1 w') ∧ SyS w.heap.size SC w') := hide (fun X bX => by
        refine (filledD_any NA least X hNAl hl (HT.out.below (HBZ1.out.trans (bX.out.mono HBZ1.out.size)))).mono ?_
        rintro r w' ⟨h3, hb⟩
        rw [hTX.out] at h3
        have bb := bX.out.trans (hb.mono bX.out.size)
        exact ⟨h3, hide bb, KS.out _ bb⟩)
      have C5 : Hid (∀ X, Hid (Below wz1.heap.size wz1 X) → Calls Tryz.prog 16 #[.string TX, .agg SC] X fun r w' => (∃ v, r = .returned v ∧ Hid (∃ B, w'.ownsRow B 9 1 v TX.size (cellsD s (bys TX)))) ∧ Hid (Below wz1.heap.size wz1 w') ∧ SyS w.heap.size SC w') := hide (fun X bX => by
        refine (WR.out TX X hTd hTl).mono ?_
        rintro r w' ⟨⟨v, rfl, ho⟩, hb⟩
        have bb := bX.out.trans (hb.mono bX.out.size)
        exact ⟨⟨v, rfl, hide ho⟩, hide bb, KS.out _ bb⟩)
      have C6 : Hid (∀ X tv, Hid (∃ B, X.ownsRow B 9 1 tv TX.size (cellsD s (bys TX))) → Hid (Below wz1.heap.size wz1 X) → Calls Tryz.prog 17 #[tv] X fun r w' => r = .returned (.string JX) ∧ Hid (Below wz1.heap.size wz1 w') ∧ SyS w.heap.size SC w') := hide (fun X tv ho bX => by
        obtain ⟨B, ho⟩ := ho.out
        refine (joined_own s (bys TX) ho (bys_len TX) (by omega) hw').mono ?_
        rintro r w' ⟨h3, hb⟩
        rw [hJX.out] at h3
        have bb := bX.out.trans (hb.mono bX.out.size)
        exact ⟨h3, hide bb, KS.out _ bb⟩)
      have C7 : Hid (∀ X, Hid (Below wz1.heap.size wz1 X) → Calls Tryz.prog 12 #[.pointer (some ⟨W.heap.size, 0, none⟩), .string JX, .int .i64 8] X fun r w' => r = .returned (.tuple #[]) ∧ Hid (∃ v', RowV w' W.heap.size v' ((oneP s.exp 6) ++ oneP JX 8)) ∧ Hid (Below w.heap.size w w') ∧ SyS w.heap.size SC w') := hide (fun X bX => by
        refine (put_any (oneP s.exp 6) JX 8 (RZ1.out.below bX.out) (by have := oneP_len s.exp 6; have := oneP_len s.min 7; have := oneP_len s.plu 7; (try simp only [List.length_append]); omega)).mono ?_
        rintro r w' ⟨h3, hv, hb, ho⟩
        have BYq := (KD.of (RZ1.out.below bX.out) ho).blk (BYZ1.out.below bX.out BYZ1.out.lt) (by decide) (by decide)
        exact ⟨h3, hide hv, hide ((HBZ1.out.trans (bX.out.mono HBZ1.out.size)).trans (hb.mono (by omega))), BYq.range⟩)
      have b0 : Hid (Below wz1.heap.size wz1 wz1.drew) := bdrewD wz1
      have hS0 := KS.out wz1.drew b0.out
      clear KS WR HT RZ1 BYZ1 HBZ1 hTd hTl hw' h1 h2 hl hNAl hD1
      go_wp2_with fail
      refine wp_region_held_drew (S := SyS w.heap.size SC) (by kernel_rfl) ?_ (fun hHeld => ?_)
      · assumption
      refine wpAnyH_take (i := 0) (oi := Oper.mk (some 24) _ _ _ _ _) (v := .int .i64 e) rfl (by kernel_rfl) (by kernel_rfl) (by kernel_rfl) (fun _ _ _ h => h) (Or.inl ⟨by rfl, ?_⟩) (by assumption) ?_
      · intro wX hSw
        (try dsimp only at hSw)
        go_simp
      simp only [Act.put, List.setIfInBounds_toArray, List.set_cons_succ, List.set_cons_zero]
      refine wpAnyH_take (i := 2) (oi := Oper.mk (some 26) _ _ _ _ _) (v := .int .i64 least) rfl (by kernel_rfl) (by kernel_rfl) (by kernel_rfl) (fun _ _ _ h => h) (Or.inl ⟨by rfl, ?_⟩) (by assumption) ?_
      · intro wX hSw
        (try dsimp only at hSw)
        go_simp
      simp only [Act.put, List.setIfInBounds_toArray, List.set_cons_succ, List.set_cons_zero]
      refine wpAnyH_take (i := 4) (oi := Oper.mk (some 28) _ _ _ _ _) (v := .agg SC.toList.toArray) rfl (by kernel_rfl) (by kernel_rfl) (by kernel_rfl) (fun _ _ _ h => h) (yieldsIf_load_mid (by rfl) _ _ rfl _ _ rfl SC.toList _ (fun _ hw => hw) Tryz.underlying26 rfl SI) (by assumption) ?_
      rw [Array.toArray_toList]
      simp only [Act.put, List.setIfInBounds_toArray, List.set_cons_succ, List.set_cons_zero]
      refine wpAnyH_ready (rs := [1]) (by kernel_rfl) (by simp) ?_
      refine AllReadyH.cons (o := Oper.mk (some 25) _ _ _ _ _) rfl (fun K hK => ?_) AllReadyH.nil
      go_simp
      refine (C1.out _ b0).mono ?_
      rintro r w3 ⟨rfl, b1, s1⟩
      refine hK.out _ _ ?_ (fun hHeld => ?_)
      · assumption
      clear hK K
      refine wpAnyH_ready (rs := [3]) (by kernel_rfl) (by simp) ?_
      refine AllReadyH.cons (o := Oper.mk (some 27) _ _ _ _ _) rfl (fun K hK => ?_) AllReadyH.nil
      go_simp
      refine (C3.out _ b1).mono ?_
      rintro r w4 ⟨rfl, b2, s2⟩
      refine hK.out _ _ ?_ (fun hHeld => ?_)
      · assumption
      clear hK K
      refine wpAnyH_ready (rs := [5]) (by kernel_rfl) (by simp) ?_
      refine AllReadyH.cons (o := Oper.mk (some 29) _ _ _ _ _) rfl (fun K hK => ?_) AllReadyH.nil
      go_simp
      refine (C5.out _ b2).mono ?_
      rintro r w5 ⟨⟨tv, rfl, o1⟩, b3, s3⟩
      refine hK.out _ _ ?_ (fun hHeld => ?_)
      · assumption
      clear hK K
      refine wpAnyH_ready (rs := [6]) (by kernel_rfl) (by simp) ?_
      refine AllReadyH.cons (o := Oper.mk (some 30) _ _ _ _ _) rfl (fun K hK => ?_) AllReadyH.nil
      go_simp
      refine (C6.out _ _ o1 b3).mono ?_
      rintro r w6 ⟨rfl, b4, s4⟩
      refine hK.out _ _ ?_ (fun hHeld => ?_)
      · assumption
      clear hK K
      refine wpAnyH_ready (rs := [7]) (by kernel_rfl) (by simp) ?_
      refine AllReadyH.cons (o := Oper.mk (some 31) _ _ _ _ _) rfl (fun K hK => ?_) AllReadyH.nil
      go_simp
      refine (C7.out _ b4).mono ?_
      rintro r w7 ⟨rfl, RZ0, b5, s5⟩
      refine hK.out _ _ ?_ (fun hHeld => ?_)
      · assumption
      clear hK K
      refine wpAnyH_done (by kernel_rfl) ?_ _
      obtain ⟨v7, RZ7⟩ := RZ0.out
      have R7 := hide RZ7
      clear RZ7 RZ0 C1 C3 C5 C6 C7 b0 b1 b2 b3 b4 s1 s2 s3 s4 s5 hS0 o1 hHeld
      have d7 := R7.out.1.cell 0
      go_wp2
      go_ret
      refine ⟨⟨_, rfl, ?_⟩, b5.out⟩
      have q := ownD_mono R7.out.2 (Nat.le_of_lt (Nat.lt_succ_of_lt hDw))
      rw [PS.out, ← PE.out] at q
      exact q
    · have PS : Hid (oneP s.exp 6 ++ oneP s.plu 7 = oneP s.exp 6 ++ sgnP e true s) := hide (by unfold sgnP; rw [if_neg hneg, if_pos rfl])
      have y_13 := (BYZ1.out.cell 13).trans C10.out.2.2
      have HS := hide (put_any (oneP s.exp 6) s.plu 7 RZ1.out (by have := oneP_len s.exp 6; omega))
      go_wp2_with fail
      refine HS.out.mono ?_
      rintro r wz2 ⟨rfl, ⟨vz2, hvz2⟩, hbz2, hoz2⟩
      have RZ2 := hide hvz2
      have KK := KD.of RZ1.out hoz2
      have BYZ2 := hide (KK.blk BYZ1.out (by decide) (by decide))
      have HBZ2 := hide (HBZ1.out.trans (hbz2.mono (by omega)))
      have hD2 : W.heap.size < wz2.heap.size := RZ2.out.1.lt
      clear hvz2 hbz2 hoz2 KK HS BYZ1 RZ1 HBZ1 hD1 y_13
      have KS : Hid (∀ X, Below wz2.heap.size wz2 X → SyS w.heap.size SC X) := hide (fun X hb => (BYZ2.out.below hb BYZ2.out.lt).range)
      have C1 : Hid (∀ X, Hid (Below wz2.heap.size wz2 X) → Calls Tryz.prog 19 #[.int .i64 e] X fun r w' => r = .returned (.int .u64 (NA : Int)) ∧ Hid (Below wz2.heap.size wz2 w') ∧ SyS w.heap.size SC w') := hide (fun X bX => by
        refine (amountD_any e X h1 h2).mono ?_
        rintro r w' ⟨h3, rfl⟩
        rw [hNA.out] at h3
        exact ⟨h3, bX, KS.out _ bX.out⟩)
      have C3 : Hid (∀ X, Hid (Below wz2.heap.size wz2 X) → Calls Tryz.prog 18 #[.int .u64 (NA : Int), .int .i64 least] X fun r w' => r = .returned (.string TX) ∧ Hid (Below wz2.heap.size wz2 w') ∧ SyS w.heap.size SC w') := hide (fun X bX => by
        refine (filledD_any NA least X hNAl hl (HT.out.below (HBZ2.out.trans (bX.out.mono HBZ2.out.size)))).mono ?_
        rintro r w' ⟨h3, hb⟩
        rw [hTX.out] at h3
        have bb := bX.out.trans (hb.mono bX.out.size)
        exact ⟨h3, hide bb, KS.out _ bb⟩)
      have C5 : Hid (∀ X, Hid (Below wz2.heap.size wz2 X) → Calls Tryz.prog 16 #[.string TX, .agg SC] X fun r w' => (∃ v, r = .returned v ∧ Hid (∃ B, w'.ownsRow B 9 1 v TX.size (cellsD s (bys TX)))) ∧ Hid (Below wz2.heap.size wz2 w') ∧ SyS w.heap.size SC w') := hide (fun X bX => by
        refine (WR.out TX X hTd hTl).mono ?_
        rintro r w' ⟨⟨v, rfl, ho⟩, hb⟩
        have bb := bX.out.trans (hb.mono bX.out.size)
        exact ⟨⟨v, rfl, hide ho⟩, hide bb, KS.out _ bb⟩)
      have C6 : Hid (∀ X tv, Hid (∃ B, X.ownsRow B 9 1 tv TX.size (cellsD s (bys TX))) → Hid (Below wz2.heap.size wz2 X) → Calls Tryz.prog 17 #[tv] X fun r w' => r = .returned (.string JX) ∧ Hid (Below wz2.heap.size wz2 w') ∧ SyS w.heap.size SC w') := hide (fun X tv ho bX => by
        obtain ⟨B, ho⟩ := ho.out
        refine (joined_own s (bys TX) ho (bys_len TX) (by omega) hw').mono ?_
        rintro r w' ⟨h3, hb⟩
        rw [hJX.out] at h3
        have bb := bX.out.trans (hb.mono bX.out.size)
        exact ⟨h3, hide bb, KS.out _ bb⟩)
      have C7 : Hid (∀ X, Hid (Below wz2.heap.size wz2 X) → Calls Tryz.prog 12 #[.pointer (some ⟨W.heap.size, 0, none⟩), .string JX, .int .i64 8] X fun r w' => r = .returned (.tuple #[]) ∧ Hid (∃ v', RowV w' W.heap.size v' ((oneP s.exp 6 ++ oneP s.plu 7) ++ oneP JX 8)) ∧ Hid (Below w.heap.size w w') ∧ SyS w.heap.size SC w') := hide (fun X bX => by
        refine (put_any (oneP s.exp 6 ++ oneP s.plu 7) JX 8 (RZ2.out.below bX.out) (by have := oneP_len s.exp 6; have := oneP_len s.min 7; have := oneP_len s.plu 7; (try simp only [List.length_append]); omega)).mono ?_
        rintro r w' ⟨h3, hv, hb, ho⟩
        have BYq := (KD.of (RZ2.out.below bX.out) ho).blk (BYZ2.out.below bX.out BYZ2.out.lt) (by decide) (by decide)
        exact ⟨h3, hide hv, hide ((HBZ2.out.trans (bX.out.mono HBZ2.out.size)).trans (hb.mono (by omega))), BYq.range⟩)
      have b0 : Hid (Below wz2.heap.size wz2 wz2.drew) := bdrewD wz2
      have hS0 := KS.out wz2.drew b0.out
      clear KS WR HT RZ2 BYZ2 HBZ2 hTd hTl hw' h1 h2 hl hNAl hD2
      go_wp2_with fail
      refine wp_region_held_drew (S := SyS w.heap.size SC) (by kernel_rfl) ?_ (fun hHeld => ?_)
      · assumption
      refine wpAnyH_take (i := 0) (oi := Oper.mk (some 24) _ _ _ _ _) (v := .int .i64 e) rfl (by kernel_rfl) (by kernel_rfl) (by kernel_rfl) (fun _ _ _ h => h) (Or.inl ⟨by rfl, ?_⟩) (by assumption) ?_
      · intro wX hSw
        (try dsimp only at hSw)
        go_simp
      simp only [Act.put, List.setIfInBounds_toArray, List.set_cons_succ, List.set_cons_zero]
      refine wpAnyH_take (i := 2) (oi := Oper.mk (some 26) _ _ _ _ _) (v := .int .i64 least) rfl (by kernel_rfl) (by kernel_rfl) (by kernel_rfl) (fun _ _ _ h => h) (Or.inl ⟨by rfl, ?_⟩) (by assumption) ?_
      · intro wX hSw
        (try dsimp only at hSw)
        go_simp
      simp only [Act.put, List.setIfInBounds_toArray, List.set_cons_succ, List.set_cons_zero]
      refine wpAnyH_take (i := 4) (oi := Oper.mk (some 28) _ _ _ _ _) (v := .agg SC.toList.toArray) rfl (by kernel_rfl) (by kernel_rfl) (by kernel_rfl) (fun _ _ _ h => h) (yieldsIf_load_mid (by rfl) _ _ rfl _ _ rfl SC.toList _ (fun _ hw => hw) Tryz.underlying26 rfl SI) (by assumption) ?_
      rw [Array.toArray_toList]
      simp only [Act.put, List.setIfInBounds_toArray, List.set_cons_succ, List.set_cons_zero]
      refine wpAnyH_ready (rs := [1]) (by kernel_rfl) (by simp) ?_
      refine AllReadyH.cons (o := Oper.mk (some 25) _ _ _ _ _) rfl (fun K hK => ?_) AllReadyH.nil
      go_simp
      refine (C1.out _ b0).mono ?_
      rintro r w3 ⟨rfl, b1, s1⟩
      refine hK.out _ _ ?_ (fun hHeld => ?_)
      · assumption
      clear hK K
      refine wpAnyH_ready (rs := [3]) (by kernel_rfl) (by simp) ?_
      refine AllReadyH.cons (o := Oper.mk (some 27) _ _ _ _ _) rfl (fun K hK => ?_) AllReadyH.nil
      go_simp
      refine (C3.out _ b1).mono ?_
      rintro r w4 ⟨rfl, b2, s2⟩
      refine hK.out _ _ ?_ (fun hHeld => ?_)
      · assumption
      clear hK K
      refine wpAnyH_ready (rs := [5]) (by kernel_rfl) (by simp) ?_
      refine AllReadyH.cons (o := Oper.mk (some 29) _ _ _ _ _) rfl (fun K hK => ?_) AllReadyH.nil
      go_simp
      refine (C5.out _ b2).mono ?_
      rintro r w5 ⟨⟨tv, rfl, o1⟩, b3, s3⟩
      refine hK.out _ _ ?_ (fun hHeld => ?_)
      · assumption
      clear hK K
      refine wpAnyH_ready (rs := [6]) (by kernel_rfl) (by simp) ?_
      refine AllReadyH.cons (o := Oper.mk (some 30) _ _ _ _ _) rfl (fun K hK => ?_) AllReadyH.nil
      go_simp
      refine (C6.out _ _ o1 b3).mono ?_
      rintro r w6 ⟨rfl, b4, s4⟩
      refine hK.out _ _ ?_ (fun hHeld => ?_)
      · assumption
      clear hK K
      refine wpAnyH_ready (rs := [7]) (by kernel_rfl) (by simp) ?_
      refine AllReadyH.cons (o := Oper.mk (some 31) _ _ _ _ _) rfl (fun K hK => ?_) AllReadyH.nil
      go_simp
      refine (C7.out _ b4).mono ?_
      rintro r w7 ⟨rfl, RZ0, b5, s5⟩
      refine hK.out _ _ ?_ (fun hHeld => ?_)
      · assumption
      clear hK K
      refine wpAnyH_done (by kernel_rfl) ?_ _
      obtain ⟨v7, RZ7⟩ := RZ0.out
      have R7 := hide RZ7
      clear RZ7 RZ0 C1 C3 C5 C6 C7 b0 b1 b2 b3 b4 s1 s2 s3 s4 s5 hS0 o1 hHeld
      have d7 := R7.out.1.cell 0
      go_wp2
      go_ret
      refine ⟨⟨_, rfl, ?_⟩, b5.out⟩
      have q := ownD_mono R7.out.2 (Nat.le_of_lt (Nat.lt_succ_of_lt hDw))
      rw [PS.out, ← PE.out] at q
      exact q

end Go.Proofs.YtbfegnbaleclfaaGreatDoor

namespace Go.Proofs.YtbfegnbaleclfaaGreatDoor
open Go.RowKit

def lat : Sy := { d0 := ⟨#[48]⟩, d1 := ⟨#[49]⟩, d2 := ⟨#[50]⟩, d3 := ⟨#[51]⟩, d4 := ⟨#[52]⟩, d5 := ⟨#[53]⟩, d6 := ⟨#[54]⟩, d7 := ⟨#[55]⟩, d8 := ⟨#[56]⟩, d9 := ⟨#[57]⟩, dec := ⟨#[46]⟩, grp := ⟨#[44]⟩, min := ⟨#[45]⟩, plu := ⟨#[43]⟩, pct := ⟨#[]⟩, pml := ⟨#[]⟩, exp := ⟨#[69]⟩, inf := ⟨#[105, 110, 102]⟩, nan := ⟨#[110, 97, 110]⟩, app := ⟨#[]⟩, rng := ⟨#[]⟩ }
def latC : Array Value := #[.string ⟨#[48]⟩, .string ⟨#[49]⟩, .string ⟨#[50]⟩, .string ⟨#[51]⟩, .string ⟨#[52]⟩, .string ⟨#[53]⟩, .string ⟨#[54]⟩, .string ⟨#[55]⟩, .string ⟨#[56]⟩, .string ⟨#[57]⟩, .string ⟨#[46]⟩, .string ⟨#[44]⟩, .string ⟨#[45]⟩, .string ⟨#[43]⟩, .string ⟨#[]⟩, .string ⟨#[]⟩, .string ⟨#[69]⟩, .string ⟨#[105, 110, 102]⟩, .string ⟨#[110, 97, 110]⟩, .string ⟨#[]⟩, .string ⟨#[]⟩]
theorem results_sym {fn : Func} {a : Tmp} (h : fn.results = #[.cell a 26]) (tmps : Array Value) (H : Nat) (cs : Array Value) (w : World) (ht : tmps.getD a undef = .pointer (some ⟨H, 0, none⟩)) (hl : cs.toList.length = 21) (hp : w.rangeAt H 0 cs.toList) :
    (results fn tmps).run Tryz.prog w = .ok (.agg cs) w := by
  have hr := run_loadVar_mid (P := Tryz.prog) w H 0 26 cs.toList _ hp Tryz.underlying26 rfl (by rw [hl]; exact symInfo)
  rw [Array.toArray_toList] at hr
  rw [Array.getD_eq_getD_getElem?] at ht
  simp [results, h, ht, asAddr, hr]

theorem wpList_build {P : Program} {ops : Array Oper} {rest : List Oper} {op : Oper} {a : Act} {w : World} {Q : Exit → Act → World → Prop} (hgd : op.guard = none) (t : TypeId) (parts : Array (Nat × Operand)) (ho : op.op = .build t parts)
    (v : Value) (hv : ∀ w, (Instr.build t (parts.map fun (i, x) => (i, a.eval x))).run P w = .ok v w) (h : wpList P ops Q rest (a.put op.dst v) w) : wpList P ops Q (op :: rest) a w :=
  wpList_plain hgd fun K hK => by
    have hk := hK _ _ h
    unfold Oper.wp execOp
    simp only [ho, hv, Sem.run_bind, Result.andThen_ok]
    exact hk

theorem wpList_alloc {P : Program} {ops : Array Oper} {rest : List Oper} {op : Oper} {a : Act} {w w' : World} {Q : Exit → Act → World → Prop} (hgd : op.guard = none) (t : TypeId) (ho : op.op = .alloc t)
    (v : Value) (hv : (Instr.alloc t true (.tuple #[])).run P w = .ok v w') (h : wpList P ops Q rest (a.put op.dst v) w') : wpList P ops Q (op :: rest) a w :=
  wpList_plain hgd fun K hK => by
    have hk := hK _ _ h
    unfold Oper.wp execOp
    simp only [ho, hv, Sem.run_bind, Result.andThen_ok]
    exact hk

set_option maxRecDepth 100000 in
set_option maxHeartbeats 4000000 in
theorem latin_any (w : World) : Calls Tryz.prog 5 #[] w fun e w' => e = .returned (symV lat) ∧ Below w.heap.size w w' := by
  have ZB : Hid (∀ z : Array Value, z.size = 21 → (w.alloc (.cells z 26)).there w.heap.size 0 latC.size) := hide (fun z hz j hj => by
    have q := Blk.newAt w w.heap.size rfl z 26
    have hj' : j < 21 := hj
    refine ⟨?_, q.free _⟩
    rw [Nat.zero_add, q.cell j, Array.getElem?_eq_getElem (by omega)]
    rfl)
  have ONE : Hid (latC.all (·.oneCell') = true) := hide (by kernel_rfl)
  have SI : (Tryz.prog.info? 26).map (·.size) = some latC.size := symInfo
  obtain ⟨Z, hZ⟩ : ∃ Z : Array Value, Z = (Array.replicate 21 (Value.string ⟨#[]⟩)) := ⟨_, rfl⟩
  have AL1 : ∀ w, (Instr.alloc 26 true (.tuple #[])).run Tryz.prog w = .ok (.pointer (some ⟨w.heap.size, 0, none⟩)) (w.alloc (.cells Z 26)) := fun w => by rw [hZ]; kernel_rfl
  have hZs : Z.size = 21 := by rw [hZ]; rfl
  have HZ := hide hZs
  clear hZ hZs
  go_enter Tryz.func5, Tryz.ntmps5
  go_wp2_with (first
    | (refine wpList_alloc rfl 26 rfl _ (AL1 w) ?_)
    | (refine wpList_build rfl 24 _ rfl (.agg #[.string ⟨#[48]⟩, .string ⟨#[49]⟩, .string ⟨#[50]⟩, .string ⟨#[51]⟩, .string ⟨#[52]⟩, .string ⟨#[53]⟩, .string ⟨#[54]⟩, .string ⟨#[55]⟩, .string ⟨#[56]⟩, .string ⟨#[57]⟩]) (fun w => by kernel_rfl) ?_)
    | (refine wpList_build rfl 26 _ rfl (.agg latC) (fun w => by kernel_rfl) ?_)
    | (refine wpList_store_mid rfl 26 _ _ rfl w.heap.size 0 latC rfl rfl (ZB.out Z HZ.out) SI ONE.out ?_; generalize hW3 : World.setCells _ w.heap.size 0 _ = W3))
  have R3 := World.rangeAt_setCells_same (w.alloc (.cells Z 26)) w.heap.size 0 latC.toList (ZB.out Z HZ.out)
  have B3 : Below w.heap.size w ((w.alloc (.cells Z 26)).setCells w.heap.size 0 latC.toList) := ((Below.refl _ _).alloc (Nat.le_refl _) _).trans (Lib.below_setCells_w (Nat.le_refl _) _ _ _)
  rw [hW3] at R3 B3
  refine bodyPost_ret (results_sym rfl _ w.heap.size latC _ rfl rfl R3) rfl ?_
  exact ⟨rfl, B3⟩

theorem digB_all {l : List UInt8} (h : l.all (fun c => decide (48 ≤ c.toNat) && decide (c.toNat ≤ 57)) = true) : DigB l := fun k hk => by
  have q := List.all_eq_true.1 h l[k] (List.getElem_mem hk)
  rw [Bool.and_eq_true, decide_eq_true_eq, decide_eq_true_eq] at q
  have e : byt l k = l[k].toNat := by unfold byt; rw [List.getElem?_eq_getElem hk]; rfl
  rw [e]
  exact q

theorem pcsP_ex : pcsP ⟨0, false, [49, 50, 51, 52, 53, 54, 55], [56, 57], 0, false⟩ lat 3 2 1 false = [⟨⟨#[49, 50]⟩, 2⟩, ⟨⟨#[44]⟩, 3⟩, ⟨⟨#[51, 52]⟩, 2⟩, ⟨⟨#[44]⟩, 3⟩, ⟨⟨#[53, 54, 55]⟩, 2⟩, ⟨⟨#[46]⟩, 4⟩, ⟨⟨#[56, 57]⟩, 5⟩] := by
  have h : MayS ⟨0, false, [49, 50, 51, 52, 53, 54, 55], [56, 57], 0, false⟩ := ⟨⟨by decide, by decide⟩, .inl ⟨rfl, .inl (by decide), ⟨by decide, digB_all (by decide)⟩, ⟨by decide, digB_all (by decide)⟩⟩⟩
  exact (pcsP_fin lat 3 2 1 false h rfl).trans (by kernel_rfl)
theorem expP_ex : expP (-12) 3 false lat = [⟨⟨#[69]⟩, 6⟩, ⟨⟨#[45]⟩, 7⟩, ⟨⟨#[48, 49, 50]⟩, 8⟩] := by kernel_rfl

set_option maxRecDepth 100000 in
set_option maxHeartbeats 8000000 in
theorem awake16_any (w : World) (htab : Tab w) : Calls Tryz.prog 7 #[] w fun e w' => e = .returned (.bool true) ∧ Below w.heap.size w w' := by
  have HT := hide htab
  have HL := hide (fun X => latin_any X)
  have HP : Hid (∀ X, Tab X → Calls Tryz.prog 9 #[.agg #[.int .i64 0, .bool false, .string ⟨#[49, 50, 51, 52, 53, 54, 55]⟩, .string ⟨#[56, 57]⟩, .int .i64 0, .bool false], .agg latC, .int .i64 3, .int .i64 2, .int .i64 1, .bool false] X fun e w' => (∃ v, e = .returned v ∧ w'.ownsRow X.heap.size 36 2 v 7 (cellsP [⟨⟨#[49, 50]⟩, 2⟩, ⟨⟨#[44]⟩, 3⟩, ⟨⟨#[51, 52]⟩, 2⟩, ⟨⟨#[44]⟩, 3⟩, ⟨⟨#[53, 54, 55]⟩, 2⟩, ⟨⟨#[46]⟩, 4⟩, ⟨⟨#[56, 57]⟩, 5⟩])) ∧ Below X.heap.size X w') := hide (fun X hX => by
    have q := dPieces_any 0 false ⟨#[49, 50, 51, 52, 53, 54, 55]⟩ ⟨#[56, 57]⟩ 0 false lat 3 2 1 false X hX (by decide) (by decide) (of_decide_eq_true (by kernel_rfl)) (of_decide_eq_true (by kernel_rfl))
    rw [show pcsP ⟨0, false, bys ⟨#[49, 50, 51, 52, 53, 54, 55]⟩, bys ⟨#[56, 57]⟩, 0, false⟩ lat 3 2 1 false = [⟨⟨#[49, 50]⟩, 2⟩, ⟨⟨#[44]⟩, 3⟩, ⟨⟨#[51, 52]⟩, 2⟩, ⟨⟨#[44]⟩, 3⟩, ⟨⟨#[53, 54, 55]⟩, 2⟩, ⟨⟨#[46]⟩, 4⟩, ⟨⟨#[56, 57]⟩, 5⟩] from pcsP_ex] at q
    exact q)
  have HE : Hid (∀ X, Tab X → Calls Tryz.prog 10 #[.int .i64 (-12), .int .i64 3, .bool false, .agg latC] X fun e w' => (∃ v, e = .returned v ∧ w'.ownsRow X.heap.size 36 2 v 3 (cellsP [⟨⟨#[69]⟩, 6⟩, ⟨⟨#[45]⟩, 7⟩, ⟨⟨#[48, 49, 50]⟩, 8⟩])) ∧ Below X.heap.size X w') := hide (fun X hX => by
    have q := exponent_any (-12) 3 false lat X hX (by decide) (by decide) (by decide) (of_decide_eq_true (by kernel_rfl))
    rw [expP_ex] at q
    exact q)
  have EV : symV lat = .agg latC := rfl
  rw [EV] at HL
  clear htab EV
  go_enter Tryz.func7, Tryz.ntmps7
  go_wp2_with fail
  refine (HL.out _).mono ?_
  rintro e w1 ⟨rfl, hb1⟩
  have HB1 := hide hb1
  have HP1 := hide (HP.out w1 (HT.out.below hb1))
  clear hb1 HP
  go_wp2_with fail
  refine HP1.out.mono ?_
  rintro e w2 ⟨⟨v, rfl, ho⟩, hb2⟩
  obtain ⟨g, cg, rfl, _, _, hcg⟩ := ownD_some ho (by decide)
  have O2 := hide ho
  have HB2 := hide (HB1.out.trans (hb2.mono HB1.out.size))
  clear ho hb2 HP1 HB1
  go_wp2_with fail
  refine (HL.out _).mono ?_
  rintro e w3 ⟨rfl, hb3⟩
  have O3 := hide (ownD_below O2.out hb3)
  have HB3 := hide (HB2.out.trans (hb3.mono HB2.out.size))
  have HE1 := hide (HE.out w3 (HT.out.below HB3.out))
  clear hb3 O2 HB2 HE HL
  go_wp2_with fail
  refine HE1.out.mono ?_
  rintro e w4 ⟨⟨v, rfl, ho⟩, hb4⟩
  obtain ⟨h, ch, rfl, _, _, hch⟩ := ownD_some ho (by decide)
  have O4 := hide (ownD_below O3.out hb4)
  have M4 := hide ho
  have HB4 := hide (HB3.out.trans (hb4.mono HB3.out.size))
  clear ho hb4 HE1 O3 HB3 HT
  have a0 : w4.cell? ⟨g, 0, none⟩ = some (.string ⟨#[49, 50]⟩) := O4.out.cellAt 0 (by decide)
  have a1 : w4.cell? ⟨g, 1, none⟩ = some (.int .i64 2) := O4.out.cellAt 1 (by decide)
  have a2 : w4.cell? ⟨g, 2, none⟩ = some (.string ⟨#[44]⟩) := O4.out.cellAt 2 (by decide)
  have a3 : w4.cell? ⟨g, 3, none⟩ = some (.int .i64 3) := O4.out.cellAt 3 (by decide)
  have a8 : w4.cell? ⟨g, 8, none⟩ = some (.string ⟨#[53, 54, 55]⟩) := O4.out.cellAt 8 (by decide)
  have a9 : w4.cell? ⟨g, 9, none⟩ = some (.int .i64 2) := O4.out.cellAt 9 (by decide)
  have a10 : w4.cell? ⟨g, 10, none⟩ = some (.string ⟨#[46]⟩) := O4.out.cellAt 10 (by decide)
  have a11 : w4.cell? ⟨g, 11, none⟩ = some (.int .i64 4) := O4.out.cellAt 11 (by decide)
  have a12 : w4.cell? ⟨g, 12, none⟩ = some (.string ⟨#[56, 57]⟩) := O4.out.cellAt 12 (by decide)
  have a13 : w4.cell? ⟨g, 13, none⟩ = some (.int .i64 5) := O4.out.cellAt 13 (by decide)
  have b0 : w4.cell? ⟨h, 0, none⟩ = some (.string ⟨#[69]⟩) := M4.out.cellAt 0 (by decide)
  have b1 : w4.cell? ⟨h, 1, none⟩ = some (.int .i64 6) := M4.out.cellAt 1 (by decide)
  have b2 : w4.cell? ⟨h, 2, none⟩ = some (.string ⟨#[45]⟩) := M4.out.cellAt 2 (by decide)
  have b3 : w4.cell? ⟨h, 3, none⟩ = some (.int .i64 7) := M4.out.cellAt 3 (by decide)
  have b4 : w4.cell? ⟨h, 4, none⟩ = some (.string ⟨#[48, 49, 50]⟩) := M4.out.cellAt 4 (by decide)
  have b5 : w4.cell? ⟨h, 5, none⟩ = some (.int .i64 8) := M4.out.cellAt 5 (by decide)
  have EQ : ∀ (x : ByteArray) (n : Int) (W : World), (binOp .eql 36 (.agg #[.string x, .int .i64 n]) (.agg #[.string x, .int .i64 n])).run Tryz.prog W = .ok (.bool true) W := fun x n W => by have q := pc_eql ⟨x, n⟩ ⟨x, n⟩ W; rwa [decide_eq_true rfl] at q
  clear O4 M4
  go_wp2
  go_ret
  exact ⟨rfl, HB4.out⟩

end Go.Proofs.YtbfegnbaleclfaaGreatDoor

namespace Go.Proofs.YtbfegnbaleclfaaGreatDoor
open Go.RowKit

theorem Blk.fourD {w : World} {b : Nat} {x0 x1 x2 x3 : Value} {t : TypeId} (h : Blk w b #[x0, x1, x2, x3] t) : w.cell? ⟨b, 0, none⟩ = some x0 ∧ w.cell? ⟨b, 1, none⟩ = some x1 ∧ w.cell? ⟨b, 2, none⟩ = some x2 ∧ w.cell? ⟨b, 3, none⟩ = some x3 := ⟨h.cell 0, h.cell 1, h.cell 2, h.cell 3⟩

theorem wrL_may {y : ShownT} (s : Sy) (hs : ∀ q, (s.dig q).size ≤ 1048576) (h : MayS y) : (wrL s y.int).length ≤ 100000000000 ∧ (wrL s y.frac).length ≤ 100000000000 := by
  have h1 : y.int.length ≤ 4096 ∧ y.frac.length ≤ 4096 := by
    obtain ⟨_, ⟨_, _, ⟨q, _⟩, ⟨r, _⟩⟩ | ⟨_, q, r⟩ | ⟨_, q, r, _⟩⟩ := h
    · exact ⟨q, r⟩
    · rw [q, r]; simp
    · rw [q, r]; simp
  have h2 := wrL_le s 1048576 hs y.int
  have h3 := wrL_le s 1048576 hs y.frac
  have h4 : y.int.length * 1048576 ≤ 4096 * 1048576 := Nat.mul_le_mul_right _ h1.1
  have h5 : y.frac.length * 1048576 ≤ 4096 * 1048576 := Nat.mul_le_mul_right _ h1.2
  omega

theorem dPieces_sy (c : Int) (n : Bool) (ti tf : ByteArray) (x : Int) (cm : Bool) (s : Sy) (ga gb gc : Int) (gl : Bool) (w : World) (htab : Tab w) (hs : ∀ q, (s.dig q).size ≤ 1048576) (hf : ga ≤ 9223372036854775807) (hu : gb ≤ 9223372036854775807) :
    Calls Tryz.prog 9 #[shV c n ti tf x cm, symV s, .int .i64 ga, .int .i64 gb, .int .i64 gc, .bool gl] w fun e w' => (∃ v, e = .returned v ∧ w'.ownsRow w.heap.size 36 2 v (pcsP ⟨c, n, bys ti, bys tf, x, cm⟩ s ga gb gc gl).length (cellsP (pcsP ⟨c, n, bys ti, bys tf, x, cm⟩ s ga gb gc gl))) ∧ Below w.heap.size w w' := by
  by_cases h : MayS ⟨c, n, bys ti, bys tf, x, cm⟩
  · exact dPieces_any c n ti tf x cm s ga gb gc gl w htab hf hu (wrL_may s hs h).1 (wrL_may s hs h).2
  · rw [pcsP_no s ga gb gc gl h]
    refine (pieces_no c n ti tf x cm s ga gb gc gl w htab h).mono ?_
    rintro e w' ⟨h1, h2⟩
    exact ⟨⟨_, h1, World.ownsRow_nil _ _ _ _⟩, h2⟩
set_option maxRecDepth 100000 in
set_option maxHeartbeats 4000000 in
theorem lpieces_any (c : Int) (n : Bool) (ti tf : ByteArray) (x : Int) (cm : Bool) (s : Sy) (ga gb gc : Int) (gl : Bool) (w : World) (htab : Tab w) (hs : ∀ q, (s.dig q).size ≤ 1048576) (hf : ga ≤ 9223372036854775807) (hu : gb ≤ 9223372036854775807) :
    Calls Tryz.prog 4 #[shV c n ti tf x cm, symV s, groupsV ga gb gc gl] w fun e w' => (∃ v, e = .returned v ∧ w'.ownsRow w.heap.size 36 2 v (pcsP ⟨c, n, bys ti, bys tf, x, cm⟩ s ga gb gc gl).length (cellsP (pcsP ⟨c, n, bys ti, bys tf, x, cm⟩ s ga gb gc gl))) ∧ Below w.heap.size w w' := by
  obtain ⟨SC, hSC⟩ : ∃ SC, SC = symC s := ⟨_, rfl⟩
  obtain ⟨W, hW⟩ : ∃ W, W = ((w.alloc (.cells #[.int .i64 c, .bool n, .string ti, .string tf, .int .i64 x, .bool cm] 23)).alloc (.cells SC 26)).alloc (.cells #[.int .i64 ga, .int .i64 gb, .int .i64 gc, .bool gl] 28) := ⟨_, rfl⟩
  have BX0 := hide (show Blk W w.heap.size #[.int .i64 c, .bool n, .string ti, .string tf, .int .i64 x, .bool cm] 23 by rw [hW]; exact ((Blk.newAt w w.heap.size rfl _ _).alloc _).alloc _)
  have BY0 := hide (show Blk W (w.heap.size + 1) SC 26 by rw [hW]; exact (Blk.newAt _ _ (by simp) _ _).alloc _)
  have BG0 := hide (show Blk W (w.heap.size + 2) #[.int .i64 ga, .int .i64 gb, .int .i64 gc, .bool gl] 28 by rw [hW]; exact Blk.newAt _ _ (by simp) _ _)
  have HB0 : Hid (Below w.heap.size w W) := hide (by rw [hW]; exact (((Below.refl _ _).alloc (Nat.le_refl _) _).alloc (by simp) _).alloc (by simp <;> omega) _)
  have NW : W.heap.size = w.heap.size + 3 := by rw [hW]; simp
  have HW := hide hW.symm
  have SI : (Tryz.prog.info? 26).map (·.size) = some SC.toList.length := by rw [hSC]; exact symInfo
  have EV : symV s = .agg SC := by rw [hSC]; rfl
  have CP := hide (dPieces_sy c n ti tf x cm s ga gb gc gl W (htab.below HB0.out) hs hf hu)
  obtain ⟨PS, hPS⟩ : ∃ PS, PS = pcsP ⟨c, n, bys ti, bys tf, x, cm⟩ s ga gb gc gl := ⟨_, rfl⟩
  obtain ⟨k, hk⟩ : ∃ k, k = PS.length := ⟨_, rfl⟩
  rw [← hPS, ← hk, EV] at CP
  rw [← hPS, ← hk, EV]
  clear hW hPS hk hSC EV htab hs hf hu
  unfold groupsV
  obtain ⟨x_0, x_1, x_2, x_3, x_4, x_5⟩ := shown6 BX0.out
  obtain ⟨g_0, g_1, g_2, g_3⟩ := BG0.out.fourD
  go_enter Tryz.func4, Tryz.ntmps4
  go_wp2_with (first | simp only [HW.out] | (refine wpList_load_mid rfl 26 _ rfl _ _ rfl SC.toList _ BY0.out.range Tryz.underlying26 rfl SI ?_; rw [Array.toArray_toList]))
  refine CP.out.mono ?_
  rintro e w1 ⟨⟨v, rfl, ho⟩, hb1⟩
  have O1 := hide ho
  have HB1 := hide (HB0.out.trans (hb1.mono HB0.out.size))
  have hs := HB0.out.size
  clear ho hb1 CP x_0 x_1 x_2 x_3 x_4 x_5 g_0 g_1 g_2 g_3
  go_wp2
  go_ret
  exact ⟨⟨_, rfl, ownD_mono O1.out hs⟩, HB1.out⟩

theorem pcsP_len (y : ShownT) (s : Sy) (a b c : Int) (al : Bool) : (pcsP y s a b c al).length ≤ 10000 := by
  by_cases h : MayS y
  · rcases mayS_cls h with hc | hc | hc
    · rw [pcsP_fin s a b c al h hc]
      have h1 := intP_len s (szG y.int.length a b c) y.int
      have h2 := szG_le y.int.length a b c
      have h3 : y.int.length ≤ 4096 := by
        obtain ⟨_, ⟨_, _, ⟨q, _⟩, _⟩ | ⟨_, q, _⟩ | ⟨_, q, _⟩⟩ := h
        · exact q
        · rw [q]; simp
        · rw [q]; simp
      have h4 := oneP_len s.dec 4
      have h5 := oneP_len (mkP (wrL s y.frac)) 5
      unfold fraP
      simp only [List.length_append]
      split
      · omega
      · simp only [List.length_nil]; omega
    · rw [pcsP_inf s a b c al h hc]
      have := oneP_len s.inf 2
      omega
    · rw [pcsP_nan s a b c al h hc]
      have := oneP_len s.nan 2
      omega
  · rw [pcsP_no s a b c al h]
    simp

end Go.Proofs.YtbfegnbaleclfaaGreatDoor

namespace Go.Proofs.YtbfegnbaleclfaaGreatDoor

theorem lat_dig {c : UInt8} (h : 48 ≤ c.toNat ∧ c.toNat ≤ 57) : digT lat c = ⟨#[c]⟩ := by
  obtain ⟨h1, h2⟩ := h
  have hc : c = UInt8.ofNat c.toNat := by simp
  have : c.toNat = 48 ∨ c.toNat = 49 ∨ c.toNat = 50 ∨ c.toNat = 51 ∨ c.toNat = 52 ∨ c.toNat = 53 ∨ c.toNat = 54 ∨ c.toNat = 55 ∨ c.toNat = 56 ∨ c.toNat = 57 := by omega
  rcases this with h | h | h | h | h | h | h | h | h | h <;> (rw [h] at hc; subst hc; rfl)
theorem lat_wr : ∀ {ds : List UInt8}, DigB ds → wrL lat ds = ds
  | [], _ => rfl
  | c :: ds, h => by
    have h0 := h 0 (by simp)
    have e0 : byt (c :: ds) 0 = c.toNat := rfl
    rw [e0] at h0
    have ht : DigB ds := fun k hk => by
      have := h (k + 1) (by simp; omega)
      exact this
    rw [wrL_cons, lat_dig h0, lat_wr ht]
    rfl

theorem digB_takeD {l : List UInt8} (h : DigB l) (k : Nat) : DigB (l.take k) := by
  have := digB_part h 0 k
  rwa [List.drop_zero] at this
theorem digB_dropD {l : List UInt8} (h : DigB l) (k : Nat) : DigB (l.drop k) := by
  have := digB_part h k l.length
  rwa [List.take_of_length_le (by rw [List.length_drop]; omega)] at this

theorem szG_pos (n : Nat) (first further least : Int) : ∀ z ∈ szG n first further least, 0 < z := by
  have h : ∀ (f a : Nat) (L : List Nat), n - a ≤ f → Rem n first further least a L → ∀ z ∈ L, 0 < z := by
    intro f
    induction f with
    | zero =>
      intro a L hf h z hz
      have := h.1
      obtain rfl : a = n := by omega
      rw [h.done] at hz
      cases hz
    | succ f ih =>
      intro a L hf h z hz
      by_cases ha : a < n
      · obtain ⟨s, L', rfl, h1, h2, _, h4, _⟩ := h.step ha
        rcases List.mem_cons.1 hz with rfl | hz
        · exact h1
        · exact ih (a + s) L' (by omega) h4 z hz
      · have := h.1
        obtain rfl : a = n := by omega
        rw [h.done] at hz
        cases hz
  exact h n 0 _ (by omega) (Rem.start n first further least)

end Go.Proofs.YtbfegnbaleclfaaGreatDoor
