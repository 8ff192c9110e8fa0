/-
  What the reference's get reads: a table without a parent.
  What the reference's get reads: a table with a parent.
  What the reference's get reads: a table.
-/
import Derived.Test.YtihnakblcfealaaGreatDoorEB12
namespace Go.Proofs.YtihnakblcfealaaGreatDoor
open Go.RowKit

set_option maxRecDepth 100000 in
set_option maxHeartbeats 4000000 in
theorem rget_A {w : World} {D : Nat} {s : ByteArray} {st : St} {v : Value} {ps : List ByteArray} (hs : s.size ≤ 140737488355328) (hp : st.1 ≤ s.size) (hc : CuR w D s st.1 st.2) (ht : TxD w D v ps) (hk : gV s (gS s st 2) 1 = 255) :
    Calls Tryz.prog 13 #[.pointer (some ⟨D, 0, none⟩), v] w fun x w' => ∃ ve, x = .returned (.tuple #[.agg #[.string (refG ps s st).1.name, .int .i64 (refG ps s st).1.parent, ve], .bool (refG ps s st).2.1]) ∧ w'.ownsRow w.heap.size 33 4 ve (refG ps s st).1.ents.length (cellsEn (refG ps s st).1.ents) ∧ CuR w' D s (refG ps s st).2.2.1 (refG ps s st).2.2.2 ∧ (refG ps s st).2.2.1 ≤ s.size ∧ But D w w' := by
  obtain ⟨i0, hi, hz0, hz1, hz2⟩ := info_parts infoE
  have hDw := hc.lt
  obtain ⟨WA, hWA⟩ : ∃ WA, WA = w.alloc (.cells #[.string ⟨#[]⟩, .int .i64 0, .slice none 0 0] 31) := ⟨_, rfl⟩
  have BA : Hid (Below w.heap.size w WA) := hide (by rw [hWA]; exact (Below.refl _ _).alloc (Nat.le_refl _) _)
  have QH : Hid (Blk WA w.heap.size #[.string ⟨#[]⟩, .int .i64 0, .slice none 0 0] 31) := hide (by rw [hWA]; exact Blk.newAt w w.heap.size rfl _ _)
  have HWA := hide hWA.symm
  have HDW := hide hDw
  have UA := hide (But.of_below (D := D) BA.out)
  have TA := hide (ht.but UA.out)
  have T0 := hide ht
  have C1 := hide (rGetS 2 hs hp (by decide) (hc.off BA.out hDw))
  have HV : Hid (∀ X, TxD X D v ps → ∀ i : Nat, Calls Tryz.prog 34 #[v, .int .i64 (i : Int)] X fun e w' => e = .returned (.tuple #[.string (txN ps i), .bool (decide (i < ps.length))]) ∧ Below X.heap.size X w') := hide (fun X h i => rAtN h i)
  obtain ⟨N1, hN1⟩ : ∃ N1, N1 = gV s st 2 := ⟨_, rfl⟩
  rw [← hN1] at C1
  have HN1 := hide hN1
  have hp1 := gS_le s st 2 hp
  obtain ⟨S1, hS1⟩ : ∃ S1, S1 = gS s st 2 := ⟨_, rfl⟩
  rw [← hS1] at C1 hp1
  have HS1 := hide hS1
  obtain ⟨ao, cap, rfl, hcap, htc⟩ := ht
  clear hWA hc hN1 hS1 htc hDw
  go_enter Tryz.func13, Tryz.ntmps13
  go_wp2_with (simp only [HWA.out])
  refine C1.out.mono ?_
  rintro x w1 ⟨rfl, hc1, hb1⟩
  have U1 := hide (UA.out.trans hb1)
  have HC1 := hide hc1
  have T1 := hide (TA.out.but hb1)
  have Q1 := hide (hb1.blk QH.out (by have := HDW.out; omega))
  clear hc1 hb1 C1
  go_wp2_with fail
  refine (HV.out _ T1.out N1).mono ?_
  rintro x w2 ⟨rfl, hb2⟩
  have U2 := hide (U1.out.trans (.of_below hb2))
  have HC2 := hide (HC1.out.off hb2 HC1.out.lt)
  have Q2 := hide (Q1.out.below hb2 Q1.out.lt)
  have T2 := hide (T1.out.but (.of_below hb2))
  clear hb2 HC1 Q1 T1 U1
  obtain ⟨S2, hS2⟩ : ∃ S2, S2 = gS s S1 1 := ⟨_, rfl⟩
  obtain ⟨N2, hN2⟩ : ∃ N2, N2 = gV s S1 1 := ⟨_, rfl⟩
  have hp2 := gS_le s S1 1 hp1
  have C3 := hide (rGetS 1 hs hp1 (by decide) HC2.out)
  rw [← hS2, ← hN2] at C3
  rw [← hS2] at hp2
  have HS2 := hide hS2
  have HN2 := hide hN2
  clear hS2 hN2
  go_wp2_with fail
  refine C3.out.mono ?_
  rintro x w3 ⟨rfl, hc3, hb3⟩
  have U3 := hide (U2.out.trans hb3)
  have HC3 := hide hc3
  have T3 := hide (T2.out.but hb3)
  have Q3 := hide (hb3.blk Q2.out (by have := HDW.out; omega))
  clear hc3 hb3 C3 HC2 Q2 T2 U2
  obtain ⟨NM, hNM⟩ : ∃ NM, NM = txN ps N1 := ⟨_, rfl⟩
  rw [← hNM]
  have HNM := hide hNM
  obtain ⟨OK, hOK⟩ : ∃ OK, OK = decide (N1 < ps.length) := ⟨_, rfl⟩
  rw [← hOK]
  have HOK := hide hOK
  clear hNM hOK
  have hwD : w.heap.size ≠ D := by have := HDW.out; omega
  have hw3 : w.heap.size < w3.heap.size := Blk.lt Q3.out
  have hD3 : D < w3.heap.size := HC3.out.lt
  obtain ⟨S3, hS3⟩ : ∃ S3, S3 = gS s S2 2 := ⟨_, rfl⟩
  obtain ⟨N3, hN3⟩ : ∃ N3, N3 = gV s S2 2 := ⟨_, rfl⟩
  have hp3 := gS_le s S2 2 hp2
  rw [← hS3] at hp3
  have HS3 := hide hS3
  have HN3 := hide hN3
  have HLS : Hid (refLs ps s st = refL ps s N3 S3 OK) := hide (by unfold refLs refS; rw [← HS1.out, ← HS2.out, ← HN1.out, ← hN3, ← hS3, ← HOK.out])
  have HGT : Hid ((refG ps s st).1.name = NM ∧ (refG ps s st).1.parent = parV N2) := hide (by unfold refG; rw [← HS1.out, ← HN1.out, ← HN2.out]; exact ⟨HNM.out.symm, rfl⟩)
  have HP4 : Hid (∀ X, CuR X D s S2.1 S2.2 → Calls Tryz.prog 11 #[.pointer (some ⟨D, 0, none⟩), .int .i64 2] X fun x w' => x = .returned (.int .i64 (N3 : Int)) ∧ CuR w' D s S3.1 S3.2 ∧ But D X w') := hide (fun X h => by rw [hS3, hN3]; exact rGetS 2 hs hp2 (by decide) h)
  obtain ⟨PR, hPR⟩ : ∃ PR, PR = parV N2 := ⟨_, rfl⟩
  obtain ⟨W4, hW4⟩ : ∃ W4, W4 = w3.alloc (.cells #[.string NM, .int .i64 PR, .slice none 0 0] 31) := ⟨_, rfl⟩
  have BW4 : Hid (Below w3.heap.size w3 W4) := hide (by rw [hW4]; exact (Below.refl _ _).alloc (Nat.le_refl _) _)
  have QT4 : Hid (Blk W4 w3.heap.size #[.string NM, .int .i64 PR, .slice none 0 0] 31) := hide (by rw [hW4]; exact Blk.new _ _ _)
  have HPR := hide hPR
  have HCA : Hid (N2 = 255 → w3.alloc (.cells #[.string NM, .int .i64 (-1), .slice none 0 0] 31) = W4) := hide (fun q => by rw [hW4, hPR]; unfold parV; rw [if_pos q])
  have HCB : Hid (N2 ≠ 255 → w3.alloc (.cells #[.string NM, .int .i64 (N2 : Int), .slice none 0 0] 31) = W4) := hide (fun q => by rw [hW4, hPR]; unfold parV; rw [if_neg q])
  have U4 := hide (U3.out.trans (.of_below BW4.out))
  have HC4 := hide (HC3.out.off BW4.out hD3)
  have T4 := hide (T3.out.but (.of_below BW4.out))
  have Q4 := hide (Q3.out.below BW4.out hw3)
  have C4 := hide (HP4.out W4 HC4.out)
  clear hW4 hPR hN3 hS3 HP4 U3 HC3 T3 Q3
  have h255 : N2 = 255 := by rw [HN2.out, HS1.out]; exact hk
  all_goals
    have HX := hide (HCA.out h255)
    have hb : ((N2 : Int) == 255) = true := by (rw [h255]; rfl)
    clear h255 HCA HCB
    go_wp2_with fail
    simp only [HX.out]
  all_goals
    generalize w3.heap.size = T at *
    clear HX hb
    refine C4.out.mono ?_
    rintro x w5 ⟨rfl, hc5, hb5⟩
    have U5 := hide (U4.out.trans hb5)
    have HC5 := hide hc5
    have T5 := hide (T4.out.but hb5)
    have Q5 := hide (hb5.blk Q4.out hwD)
    have QT5 := hide (hb5.blk QT4.out (by omega))
    clear hc5 hb5 C4 HC4 T4 Q4 QT4 U4 BW4
    go_wp2_with fail
  all_goals
    have HT5 := hide QT5.out.lt
    have hwT : w.heap.size < T := hw3
    have hDT : D < T := hD3
    go_loopw [7, 10] (fun x y wr => ∃ (i : Nat) (b : Bool) (es : List Ent) (p e : Nat) (ve : Value), i ≤ N3 ∧ x = .bool b ∧ y = .int .i64 (i : Int) ∧ es.length = i ∧ p ≤ s.size ∧ Hid (refL ps s N3 S3 OK = (es ++ (refL ps s (N3 - i) (p, e) b).1, (refL ps s (N3 - i) (p, e) b).2)) ∧ Hid (CuR wr D s p e) ∧ Hid (But D w wr) ∧ Hid (TxD wr D (.slice ao ps.length cap) ps) ∧ Hid (Blk wr w.heap.size #[.string ⟨#[]⟩, .int .i64 0, .slice none 0 0] 31) ∧ Hid (Blk wr T #[.string NM, .int .i64 PR, ve] 31) ∧ Hid (wr.ownsRow (T + 1) 33 4 ve i (cellsEn es))) (fun _ y _ => N3 - (intOf y).toNat)
    case atStart => exact ⟨0, OK, [], S3.1, S3.2, .slice none 0 0, Nat.zero_le _, rfl, rfl, rfl, hp3, hide rfl, HC5, U5, T5, Q5, QT5, hide (World.ownsRow_nil _ _ _ _)⟩
    case round =>
      obtain ⟨i, b, es, p, e, ve, hiN, rfl, rfl, hel, hpz, HR, HC, HU, HT, HQ, HQT, HOW⟩ := hrel
      have c2 := Blk.cell HC.out 2
      have hlt : i < N3 ∧ b = true ∧ e = 0 ∨ (¬ (i < N3 ∧ b = true ∧ e = 0) ∧ Hid (refL ps s N3 S3 OK = (es, b, (p, e)))) := by
        by_cases q : i < N3 ∧ b = true ∧ e = 0
        · exact .inl q
        · refine .inr ⟨q, hide ?_⟩
          rw [HR.out, refL_stop (by
            by_cases q1 : i < N3
            · by_cases q2 : b = true
              · exact .inr (.inr (fun q3 => q ⟨q1, q2, q3⟩))
              · exact .inr (.inl (by simpa using q2))
            · exact .inl (by omega)), List.append_nil]
      rcases hlt with ⟨hlt, rfl, rfl⟩ | ⟨hno, HX⟩
      · have hlt' : (i : Int) < (N3 : Int) := by omega
        have hN3l : N3 < 65536 := by rw [HN3.out]; exact gV2_lt s S2
        obtain ⟨j, hj⟩ : ∃ j, N3 - i = j + 1 := ⟨N3 - i - 1, by omega⟩
        rw [hj, refL_next rfl] at HR
        have hj2 : N3 - (i + 1) = j := by omega
        obtain ⟨K1, hK1⟩ : ∃ K1, K1 = gV s (p, 0) 2 := ⟨_, rfl⟩
        obtain ⟨Sa, hSa⟩ : ∃ Sa, Sa = gS s (p, 0) 2 := ⟨_, rfl⟩
        obtain ⟨K2, hK2⟩ : ∃ K2, K2 = gV s Sa 1 := ⟨_, rfl⟩
        obtain ⟨Sb, hSb⟩ : ∃ Sb, Sb = gS s Sa 1 := ⟨_, rfl⟩
        obtain ⟨K3, hK3⟩ : ∃ K3, K3 = gV s Sb 4 := ⟨_, rfl⟩
        obtain ⟨Sc, hSc⟩ : ∃ Sc, Sc = gS s Sb 4 := ⟨_, rfl⟩
        have hpa := gS_le s (p, 0) 2 hpz
        rw [← hSa] at hpa
        have hpb := gS_le s Sa 1 hpa
        rw [← hSb] at hpb
        have hpc := gS_le s Sb 4 hpb
        rw [← hSc] at hpc
        have HRD : Hid (rdE ps s (p, 0) = (if K2 = 1 then ⟨txN ps K1, 1, ⟨#[]⟩, (K3 : Int)⟩ else ⟨txN ps K1, (K2 : Int), txN ps K3, 0⟩, Sc)) := hide (by unfold rdE; rw [← hK1, ← hSa, ← hK2, ← hSb, ← hK3, ← hSc])
        have HOE : Hid (okE ps s (p, 0) = (decide (K1 < ps.length) && (decide (K2 = 1) || decide (K3 < ps.length)))) := hide (by unfold okE; rw [← hK1, ← hSa, ← hK2, ← hSb, ← hK3])
        have Ca : Hid (Calls Tryz.prog 11 #[.pointer (some ⟨D, 0, none⟩), .int .i64 2] wr fun x w' => x = .returned (.int .i64 (K1 : Int)) ∧ CuR w' D s Sa.1 Sa.2 ∧ But D wr w') := hide (by rw [hK1, hSa]; exact rGetS (st := (p, 0)) 2 hs hpz (by decide) HC.out)
        have HPb : Hid (∀ X, CuR X D s Sa.1 Sa.2 → Calls Tryz.prog 11 #[.pointer (some ⟨D, 0, none⟩), .int .i64 1] X fun x w' => x = .returned (.int .i64 (K2 : Int)) ∧ CuR w' D s Sb.1 Sb.2 ∧ But D X w') := hide (fun X h => by rw [hK2, hSb]; exact rGetS 1 hs hpa (by decide) h)
        have HPc : Hid (∀ X, CuR X D s Sb.1 Sb.2 → Calls Tryz.prog 11 #[.pointer (some ⟨D, 0, none⟩), .int .i64 4] X fun x w' => x = .returned (.int .i64 (K3 : Int)) ∧ CuR w' D s Sc.1 Sc.2 ∧ But D X w') := hide (fun X h => by rw [hK3, hSc]; exact rGetS 4 hs hpb (by decide) h)
        obtain ⟨ao', cap', rfl⟩ := own_sliceB HOW.out
        have hDr := HC.out.lt
        have hTr := HQT.out.lt
        have hwr := HQ.out.lt
        clear hK1 hK2 hK3 hSa hSb hSc hj
        go_wp2_with fail
        refine Ca.out.mono ?_
        rintro x wa ⟨rfl, hca, hba⟩
        have HCa := hide hca
        have HBa := hide hba
        clear hca hba Ca
        go_wp2_with fail
        refine (HV.out _ (HT.out.but HBa.out) K1).mono ?_
        rintro x wb ⟨rfl, hbb⟩
        have HBb := hide (HBa.out.trans (.of_below hbb))
        have Cb := hide (HPb.out _ (HCa.out.off hbb HCa.out.lt))
        clear hbb HCa HBa HPb
        obtain ⟨KY, hKY⟩ : ∃ KY, KY = txN ps K1 := ⟨_, rfl⟩
        rw [← hKY]
        have HKY := hide hKY
        obtain ⟨F1, hF1⟩ : ∃ F1, F1 = decide (K1 < ps.length) := ⟨_, rfl⟩
        rw [← hF1]
        have HF1 := hide hF1
        clear hKY hF1
        go_wp2_with fail
        refine Cb.out.mono ?_
        rintro x wc ⟨rfl, hcc, hbc⟩
        have HBc := hide (HBb.out.trans hbc)
        have HCc := hide hcc
        clear hbc hcc HBb Cb
        obtain ⟨WX, hWX⟩ : ∃ WX, WX = wc.alloc (.cells #[.string KY, .int .i64 (K2 : Int), .string ⟨#[]⟩, .int .i64 0] 33) := ⟨_, rfl⟩
        have BX : Below wc.heap.size wc WX := by rw [hWX]; exact (Below.refl _ _).alloc (Nat.le_refl _) _
        have QX : Hid (Blk WX wc.heap.size #[.string KY, .int .i64 (K2 : Int), .string ⟨#[]⟩, .int .i64 0] 33) := hide (by rw [hWX]; exact Blk.new _ _ _)
        have HX : wc.alloc (.cells #[.string KY, .int .i64 (K2 : Int), .string ⟨#[]⟩, .int .i64 0] 33) = WX := hWX.symm
        have HBX := hide (HBc.out.trans (.of_below BX))
        have Cc := hide (HPc.out _ (HCc.out.off BX HCc.out.lt))
        have hXr : wr.heap.size ≤ wc.heap.size := HBc.out.size
        have HHX := hide HX
        clear BX hWX HCc HBc HPc HX
        go_wp2_with fail
        simp only [HHX.out]
        generalize wc.heap.size = X at *
        clear HHX
        refine Cc.out.mono ?_
        rintro x wd ⟨rfl, hcd, hbd⟩
        have HBd := hide (HBX.out.trans hbd)
        have HCd := hide hcd
        have QXd := hide (hbd.blk QX.out (by omega))
        clear hbd hcd HBX Cc QX
        have x1 := Blk.cell QXd.out 1
        by_cases hk : K2 = 1
        · have hk' : ((K2 : Int) == 1) = true := by rw [hk]; rfl
          have HE1 : Hid (rdE ps s (p, 0) = (⟨KY, (K2 : Int), ⟨#[]⟩, (K3 : Int)⟩, (Sc.1, Sc.2))) := hide (by rw [HRD.out, if_pos hk, HKY.out, hk]; rfl)
          have HE2 : Hid (okE ps s (p, 0) = F1) := hide (by rw [HOE.out, ← HF1.out, decide_eq_true hk, Bool.true_or, Bool.and_true])
          have HBs := HBd
          have HCs := HCd
          have QXs := QXd
          clear hk HRD HOE HBd HCd
          obtain ⟨W10, hW10⟩ : ∃ W10, W10 = wd.setCell ⟨X, 3, none⟩ (.int .i64 (K3 : Int)) := ⟨_, rfl⟩
          have HW10 := hide hW10.symm
          have HB10 : Hid (But D wr W10) := hide (by rw [hW10]; exact HBs.out.setNew hXr _)
          have HC10 : Hid (CuR W10 D s Sc.1 Sc.2) := hide (by rw [hW10]; exact Blk.other HCs.out (a := ⟨X, 3, none⟩) (by show X ≠ D; omega) _)
          have QX10 : Hid (Blk W10 X #[.string KY, .int .i64 (K2 : Int), .string ⟨#[]⟩, .int .i64 (K3 : Int)] 33) := hide (by rw [hW10]; exact Blk.set3of4 QXs.out _)
          have QT10 : Hid (Blk W10 T #[.string NM, .int .i64 PR, .slice ao' i cap'] 31) := hide (HB10.out.blk HQT.out (by omega))
          have HO10 : Hid (W10.ownsRow (T + 1) 33 4 (.slice ao' i cap') i (cellsEn es)) := hide (own_butB HOW.out HB10.out (by omega))
          have HO2 := hide (HO10.out.alloc (.cells #[.string KY, .int .i64 (K2 : Int), .string ⟨#[]⟩, .int .i64 (K3 : Int)] 33))
          have ONE : Hid (∀ u ∈ [Value.string KY, Value.int .i64 (K2 : Int), .string ⟨#[]⟩, .int .i64 (K3 : Int)], u.oneCell' = true) := hide (by
            intro u hu
            simp only [List.mem_cons, List.not_mem_nil, or_false] at hu
            rcases hu with rfl | rfl | rfl | rfl <;> rfl)
          have hs10 : Hid (T + 1 ≤ W10.heap.size) := hide (QT10.out.lt)
          have xf2 := Blk.free QXs.out 3
          have xc2 := Blk.cell QXs.out 3
          have y0 := Blk.cell QX10.out 0
          have y1 := Blk.cell QX10.out 1
          have y2 := Blk.cell QX10.out 2
          have y3 := Blk.cell QX10.out 3
          have t2 := Blk.cell QT10.out 2
          clear hW10 HBs HCs
          go_wp2_with (first
            | simp only [HW10.out]
            | (at_builtin; refine wpList_append_own _ rfl _ _ 29 rfl (T + 1) 33 i0 (.agg #[.string ⟨#[]⟩, .int .i64 0, .string ⟨#[]⟩, .int .i64 0]) 4 48 Tryz.underlying29 hi hz0 hz1 hz2 rfl (by decide) _ i (cellsEn es) rfl HO2.out ⟨W10.heap.size, 0, none⟩ 1 1 [.string KY, .int .i64 (K2 : Int), .string ⟨#[]⟩, .int .i64 (K3 : Int)] rfl rfl (cell_four_new _ _ _ _ _ _) ONE.out (by unfold maxLen; omega) (by omega) (by have := hs10.out; simp; omega) ?_
               intro v' w3 hown' hg3 hnil3
               obtain ⟨ao2, cap2, rfl⟩ := own_sliceB hown'
               have B3 := hide ((((Below.refl (T + 1) W10).alloc hs10.out (.cells #[.string KY, .int .i64 (K2 : Int), .string ⟨#[]⟩, .int .i64 (K3 : Int)] 33)).grown hg3 (by have := hs10.out; simp; omega) (fun j hj => (HO2.out.lt j hj).1)))
               have O3 := hide hown'
               have QT3 := hide (Blk.below QT10.out B3.out (Nat.lt_succ_self T))
               have tf2 := Blk.free QT3.out 2
               have tc2 := Blk.cell QT3.out 2
               clear hg3 hnil3 hown' t2))
          have HBE : Hid (But D w (w3.setCell ⟨T, 2, none⟩ (.slice ao2 (i + 1) cap2))) := hide (((HU.out.trans HB10.out).up B3.out (by omega)).setNew (Nat.le_of_lt hwT) _)
          refine ⟨⟨i + 1, _, es ++ [⟨KY, (K2 : Int), ⟨#[]⟩, (K3 : Int)⟩], Sc.1, Sc.2, .slice ao2 (i + 1) cap2, by omega, rfl, by go_num, by simp [hel], hpc, hide ?_, hide ?_, HBE, hide (T0.out.but HBE.out), hide ?_, hide (QT3.out.set2of3 _), hide ?_⟩, by simp [intOf]; omega⟩
          · rw [hj2, HR.out, HE1.out, HE2.out, List.append_assoc]; rfl
          · exact Blk.other (HC10.out.off B3.out (by omega)) (a := ⟨T, 2, none⟩) (by show T ≠ D; omega) _
          · exact Blk.other (Blk.below (HB10.out.blk HQ.out hwD) B3.out (by omega)) (a := ⟨T, 2, none⟩) (by show T ≠ w.heap.size; omega) _
          · rw [cellsEn_snoc]; exact own_setB O3.out (Nat.lt_succ_self T)
        · have hk' : ((K2 : Int) == 1) = false := beq_eq_false_iff_ne.2 (by omega)
          go_wp2_with fail
          refine (HV.out _ (HT.out.but HBd.out) K3).mono ?_
          rintro x we ⟨rfl, hbe⟩
          have HBs := hide (HBd.out.trans (.of_below hbe))
          have HCs := hide (HCd.out.off hbe HCd.out.lt)
          have QXs := hide (QXd.out.below hbe QXd.out.lt)
          obtain ⟨TX, hTX⟩ : ∃ TX, TX = txN ps K3 := ⟨_, rfl⟩
          rw [← hTX]
          obtain ⟨F3, hF3⟩ : ∃ F3, F3 = decide (K3 < ps.length) := ⟨_, rfl⟩
          rw [← hF3]
          have HE1 : Hid (rdE ps s (p, 0) = (⟨KY, (K2 : Int), TX, 0⟩, (Sc.1, Sc.2))) := hide (by rw [HRD.out, if_neg hk, HKY.out, hTX])
          have HE2 : Hid (okE ps s (p, 0) = (F1 && F3)) := hide (by rw [HOE.out, ← HF1.out, ← hF3, decide_eq_false hk, Bool.false_or])
          clear hk HRD HOE HBd HCd QXd hTX hF3 hbe HF1
          cases F1 with
          | true =>
            obtain ⟨W10, hW10⟩ : ∃ W10, W10 = we.setCell ⟨X, 2, none⟩ (.string TX) := ⟨_, rfl⟩
            have HW10 := hide hW10.symm
            have HB10 : Hid (But D wr W10) := hide (by rw [hW10]; exact HBs.out.setNew hXr _)
            have HC10 : Hid (CuR W10 D s Sc.1 Sc.2) := hide (by rw [hW10]; exact Blk.other HCs.out (a := ⟨X, 2, none⟩) (by show X ≠ D; omega) _)
            have QX10 : Hid (Blk W10 X #[.string KY, .int .i64 (K2 : Int), .string TX, .int .i64 0] 33) := hide (by rw [hW10]; exact Blk.set2of4 QXs.out _)
            have QT10 : Hid (Blk W10 T #[.string NM, .int .i64 PR, .slice ao' i cap'] 31) := hide (HB10.out.blk HQT.out (by omega))
            have HO10 : Hid (W10.ownsRow (T + 1) 33 4 (.slice ao' i cap') i (cellsEn es)) := hide (own_butB HOW.out HB10.out (by omega))
            have HO2 := hide (HO10.out.alloc (.cells #[.string KY, .int .i64 (K2 : Int), .string TX, .int .i64 0] 33))
            have ONE : Hid (∀ u ∈ [Value.string KY, Value.int .i64 (K2 : Int), .string TX, .int .i64 0], u.oneCell' = true) := hide (by
              intro u hu
              simp only [List.mem_cons, List.not_mem_nil, or_false] at hu
              rcases hu with rfl | rfl | rfl | rfl <;> rfl)
            have hs10 : Hid (T + 1 ≤ W10.heap.size) := hide (QT10.out.lt)
            have xf2 := Blk.free QXs.out 2
            have xc2 := Blk.cell QXs.out 2
            have y0 := Blk.cell QX10.out 0
            have y1 := Blk.cell QX10.out 1
            have y2 := Blk.cell QX10.out 2
            have y3 := Blk.cell QX10.out 3
            have t2 := Blk.cell QT10.out 2
            clear hW10 HBs HCs
            go_wp2_with (first
              | simp only [HW10.out]
              | (at_builtin; refine wpList_append_own _ rfl _ _ 29 rfl (T + 1) 33 i0 (.agg #[.string ⟨#[]⟩, .int .i64 0, .string ⟨#[]⟩, .int .i64 0]) 4 48 Tryz.underlying29 hi hz0 hz1 hz2 rfl (by decide) _ i (cellsEn es) rfl HO2.out ⟨W10.heap.size, 0, none⟩ 1 1 [.string KY, .int .i64 (K2 : Int), .string TX, .int .i64 0] rfl rfl (cell_four_new _ _ _ _ _ _) ONE.out (by unfold maxLen; omega) (by omega) (by have := hs10.out; simp; omega) ?_
                 intro v' w3 hown' hg3 hnil3
                 obtain ⟨ao2, cap2, rfl⟩ := own_sliceB hown'
                 have B3 := hide ((((Below.refl (T + 1) W10).alloc hs10.out (.cells #[.string KY, .int .i64 (K2 : Int), .string TX, .int .i64 0] 33)).grown hg3 (by have := hs10.out; simp; omega) (fun j hj => (HO2.out.lt j hj).1)))
                 have O3 := hide hown'
                 have QT3 := hide (Blk.below QT10.out B3.out (Nat.lt_succ_self T))
                 have tf2 := Blk.free QT3.out 2
                 have tc2 := Blk.cell QT3.out 2
                 clear hg3 hnil3 hown' t2))
            have HBE : Hid (But D w (w3.setCell ⟨T, 2, none⟩ (.slice ao2 (i + 1) cap2))) := hide (((HU.out.trans HB10.out).up B3.out (by omega)).setNew (Nat.le_of_lt hwT) _)
            refine ⟨⟨i + 1, _, es ++ [⟨KY, (K2 : Int), TX, 0⟩], Sc.1, Sc.2, .slice ao2 (i + 1) cap2, by omega, rfl, by go_num, by simp [hel], hpc, hide ?_, hide ?_, HBE, hide (T0.out.but HBE.out), hide ?_, hide (QT3.out.set2of3 _), hide ?_⟩, by simp [intOf]; omega⟩
            · rw [hj2, HR.out, HE1.out, HE2.out, List.append_assoc]; rfl
            · exact Blk.other (HC10.out.off B3.out (by omega)) (a := ⟨T, 2, none⟩) (by show T ≠ D; omega) _
            · exact Blk.other (Blk.below (HB10.out.blk HQ.out hwD) B3.out (by omega)) (a := ⟨T, 2, none⟩) (by show T ≠ w.heap.size; omega) _
            · rw [cellsEn_snoc]; exact own_setB O3.out (Nat.lt_succ_self T)
          | false =>
            obtain ⟨W10, hW10⟩ : ∃ W10, W10 = we.setCell ⟨X, 2, none⟩ (.string TX) := ⟨_, rfl⟩
            have HW10 := hide hW10.symm
            have HB10 : Hid (But D wr W10) := hide (by rw [hW10]; exact HBs.out.setNew hXr _)
            have HC10 : Hid (CuR W10 D s Sc.1 Sc.2) := hide (by rw [hW10]; exact Blk.other HCs.out (a := ⟨X, 2, none⟩) (by show X ≠ D; omega) _)
            have QX10 : Hid (Blk W10 X #[.string KY, .int .i64 (K2 : Int), .string TX, .int .i64 0] 33) := hide (by rw [hW10]; exact Blk.set2of4 QXs.out _)
            have QT10 : Hid (Blk W10 T #[.string NM, .int .i64 PR, .slice ao' i cap'] 31) := hide (HB10.out.blk HQT.out (by omega))
            have HO10 : Hid (W10.ownsRow (T + 1) 33 4 (.slice ao' i cap') i (cellsEn es)) := hide (own_butB HOW.out HB10.out (by omega))
            have HO2 := hide (HO10.out.alloc (.cells #[.string KY, .int .i64 (K2 : Int), .string TX, .int .i64 0] 33))
            have ONE : Hid (∀ u ∈ [Value.string KY, Value.int .i64 (K2 : Int), .string TX, .int .i64 0], u.oneCell' = true) := hide (by
              intro u hu
              simp only [List.mem_cons, List.not_mem_nil, or_false] at hu
              rcases hu with rfl | rfl | rfl | rfl <;> rfl)
            have hs10 : Hid (T + 1 ≤ W10.heap.size) := hide (QT10.out.lt)
            have xf2 := Blk.free QXs.out 2
            have xc2 := Blk.cell QXs.out 2
            have y0 := Blk.cell QX10.out 0
            have y1 := Blk.cell QX10.out 1
            have y2 := Blk.cell QX10.out 2
            have y3 := Blk.cell QX10.out 3
            have t2 := Blk.cell QT10.out 2
            clear hW10 HBs HCs
            go_wp2_with (first
              | simp only [HW10.out]
              | (at_builtin; refine wpList_append_own _ rfl _ _ 29 rfl (T + 1) 33 i0 (.agg #[.string ⟨#[]⟩, .int .i64 0, .string ⟨#[]⟩, .int .i64 0]) 4 48 Tryz.underlying29 hi hz0 hz1 hz2 rfl (by decide) _ i (cellsEn es) rfl HO2.out ⟨W10.heap.size, 0, none⟩ 1 1 [.string KY, .int .i64 (K2 : Int), .string TX, .int .i64 0] rfl rfl (cell_four_new _ _ _ _ _ _) ONE.out (by unfold maxLen; omega) (by omega) (by have := hs10.out; simp; omega) ?_
                 intro v' w3 hown' hg3 hnil3
                 obtain ⟨ao2, cap2, rfl⟩ := own_sliceB hown'
                 have B3 := hide ((((Below.refl (T + 1) W10).alloc hs10.out (.cells #[.string KY, .int .i64 (K2 : Int), .string TX, .int .i64 0] 33)).grown hg3 (by have := hs10.out; simp; omega) (fun j hj => (HO2.out.lt j hj).1)))
                 have O3 := hide hown'
                 have QT3 := hide (Blk.below QT10.out B3.out (Nat.lt_succ_self T))
                 have tf2 := Blk.free QT3.out 2
                 have tc2 := Blk.cell QT3.out 2
                 clear hg3 hnil3 hown' t2))
            have HBE : Hid (But D w (w3.setCell ⟨T, 2, none⟩ (.slice ao2 (i + 1) cap2))) := hide (((HU.out.trans HB10.out).up B3.out (by omega)).setNew (Nat.le_of_lt hwT) _)
            refine ⟨⟨i + 1, _, es ++ [⟨KY, (K2 : Int), TX, 0⟩], Sc.1, Sc.2, .slice ao2 (i + 1) cap2, by omega, rfl, by go_num, by simp [hel], hpc, hide ?_, hide ?_, HBE, hide (T0.out.but HBE.out), hide ?_, hide (QT3.out.set2of3 _), hide ?_⟩, by simp [intOf]; omega⟩
            · rw [hj2, HR.out, HE1.out, HE2.out, List.append_assoc]; rfl
            · exact Blk.other (HC10.out.off B3.out (by omega)) (a := ⟨T, 2, none⟩) (by show T ≠ D; omega) _
            · exact Blk.other (Blk.below (HB10.out.blk HQ.out hwD) B3.out (by omega)) (a := ⟨T, 2, none⟩) (by show T ≠ w.heap.size; omega) _
            · rw [cellsEn_snoc]; exact own_setB O3.out (Nat.lt_succ_self T)
      · clear HR
        have t0 := Blk.cell HQT.out 0
        have t1 := Blk.cell HQT.out 1
        have t2 := Blk.cell HQT.out 2
        have r0 := Blk.cell HQ.out 0
        have r1 := Blk.cell HQ.out 1
        have r2 := Blk.cell HQ.out 2
        have s0 := Blk.free HQ.out 0
        have s1 := Blk.free HQ.out 1
        have s2 := Blk.free HQ.out 2
        obtain ⟨ao', cap', rfl⟩ := own_sliceB HOW.out
        have HRG : Hid ((refG ps s st).1.name = NM ∧ (refG ps s st).1.parent = PR ∧ (refG ps s st).1.ents = es ∧ (refG ps s st).2.1 = (b && decide (e = 0)) ∧ (refG ps s st).2.2 = (p, e)) := hide (by
          refine ⟨HGT.out.1, by rw [HPR.out]; exact HGT.out.2, ?_, ?_, ?_⟩
          · show (refLs ps s st).1 = es; rw [HLS.out, HX.out]
          · show ((refLs ps s st).2.1 && decide ((refLs ps s st).2.2.2 = 0)) = _; rw [HLS.out, HX.out]
          · show (refLs ps s st).2.2 = _; rw [HLS.out, HX.out])
        subst hel
        have QF : Hid (Blk ((((wr.setCell ⟨w.heap.size, 0, none⟩ (.string NM)).setCell ⟨w.heap.size, 1, none⟩ (.int .i64 PR)).setCell ⟨w.heap.size, 2, none⟩ (.slice ao' es.length cap')).drew) w.heap.size #[.string NM, .int .i64 PR, .slice ao' es.length cap'] 31) := hide (HQ.out.put3 _ _ _)
        have OWF : Hid ((((wr.setCell ⟨w.heap.size, 0, none⟩ (.string NM)).setCell ⟨w.heap.size, 1, none⟩ (.int .i64 PR)).setCell ⟨w.heap.size, 2, none⟩ (.slice ao' es.length cap')).drew.ownsRow w.heap.size 33 4 (.slice ao' es.length cap') es.length (cellsEn es)) := hide (own_belowB (own_baseB (own_setB (own_setB (own_setB HOW.out (by omega)) (by omega)) (by omega)) (by omega)) (Below.refl _ _).drew)
        have CF : Hid (CuR (((wr.setCell ⟨w.heap.size, 0, none⟩ (.string NM)).setCell ⟨w.heap.size, 1, none⟩ (.int .i64 PR)).setCell ⟨w.heap.size, 2, none⟩ (.slice ao' es.length cap')).drew D s p e) := hide (Blk.other (Blk.other (Blk.other HC.out (a := ⟨w.heap.size, 0, none⟩) hwD _) (a := ⟨w.heap.size, 1, none⟩) hwD _) (a := ⟨w.heap.size, 2, none⟩) hwD _)
        have UF : Hid (But D w (((wr.setCell ⟨w.heap.size, 0, none⟩ (.string NM)).setCell ⟨w.heap.size, 1, none⟩ (.int .i64 PR)).setCell ⟨w.heap.size, 2, none⟩ (.slice ao' es.length cap')).drew) := hide ((((HU.out.setNew (Nat.le_refl _) _).setNew (Nat.le_refl _) _).setNew (Nat.le_refl _) _).trans (.of_below (Below.refl _ _).drew))
        have hN : (es.length : Int) < (N3 : Int) ∨ ¬ (es.length : Int) < (N3 : Int) := Decidable.em _
        generalize hei : es.length = i at *
        have HEI := hide hei
        clear hei
        cases b with
        | true =>
          by_cases q3 : e = 0
          · subst q3
            have q1 : ¬ (i : Int) < (N3 : Int) := fun h => hno ⟨by omega, rfl, rfl⟩
            clear hN hno HOW
            go_wp2_with fail
            go_region
            go_wp2
            refine bodyPost_ret (results_tab2 rfl _ _ _ _ _ _ rfl QF.out) rfl ?_
            obtain ⟨g1, g2, g3, g4, g5⟩ := HRG.out
            rw [g1, g2, g3, g4, g5, HEI.out]
            exact ⟨_, rfl, OWF.out, CF.out, hpz, UF.out⟩
          · have q3' : ((e : Int) == 0) = false := beq_eq_false_iff_ne.2 (by omega)
            have q4 : decide (e = 0) = false := decide_eq_false q3
            clear hno HOW
            rcases hN with q1 | q1
            · go_wp2_with fail
              go_region
              go_wp2
              refine bodyPost_ret (results_tab2 rfl _ _ _ _ _ _ rfl QF.out) rfl ?_
              obtain ⟨g1, g2, g3, g4, g5⟩ := HRG.out
              rw [g1, g2, g3, g4, g5, HEI.out]
              exact ⟨_, by rw [q4]; rfl, OWF.out, CF.out, hpz, UF.out⟩
            · go_wp2_with fail
              go_region
              go_wp2
              refine bodyPost_ret (results_tab2 rfl _ _ _ _ _ _ rfl QF.out) rfl ?_
              obtain ⟨g1, g2, g3, g4, g5⟩ := HRG.out
              rw [g1, g2, g3, g4, g5, HEI.out]
              exact ⟨_, by rw [q4]; rfl, OWF.out, CF.out, hpz, UF.out⟩
        | false =>
          clear hno HOW
          rcases hN with q1 | q1
          · go_wp2_with fail
            go_region
            go_wp2
            refine bodyPost_ret (results_tab2 rfl _ _ _ _ _ _ rfl QF.out) rfl ?_
            obtain ⟨g1, g2, g3, g4, g5⟩ := HRG.out
            rw [g1, g2, g3, g4, g5, HEI.out]
            exact ⟨_, rfl, OWF.out, CF.out, hpz, UF.out⟩
          · go_wp2_with fail
            go_region
            go_wp2
            refine bodyPost_ret (results_tab2 rfl _ _ _ _ _ _ rfl QF.out) rfl ?_
            obtain ⟨g1, g2, g3, g4, g5⟩ := HRG.out
            rw [g1, g2, g3, g4, g5, HEI.out]
            exact ⟨_, rfl, OWF.out, CF.out, hpz, UF.out⟩

end Go.Proofs.YtihnakblcfealaaGreatDoor

namespace Go.Proofs.YtihnakblcfealaaGreatDoor
open Go.RowKit

set_option maxRecDepth 100000 in
set_option maxHeartbeats 4000000 in
theorem rget_B {w : World} {D : Nat} {s : ByteArray} {st : St} {v : Value} {ps : List ByteArray} (hs : s.size ≤ 140737488355328) (hp : st.1 ≤ s.size) (hc : CuR w D s st.1 st.2) (ht : TxD w D v ps) (hk : gV s (gS s st 2) 1 ≠ 255) :
    Calls Tryz.prog 13 #[.pointer (some ⟨D, 0, none⟩), v] w fun x w' => ∃ ve, x = .returned (.tuple #[.agg #[.string (refG ps s st).1.name, .int .i64 (refG ps s st).1.parent, ve], .bool (refG ps s st).2.1]) ∧ w'.ownsRow w.heap.size 33 4 ve (refG ps s st).1.ents.length (cellsEn (refG ps s st).1.ents) ∧ CuR w' D s (refG ps s st).2.2.1 (refG ps s st).2.2.2 ∧ (refG ps s st).2.2.1 ≤ s.size ∧ But D w w' := by
  obtain ⟨i0, hi, hz0, hz1, hz2⟩ := info_parts infoE
  have hDw := hc.lt
  obtain ⟨WA, hWA⟩ : ∃ WA, WA = w.alloc (.cells #[.string ⟨#[]⟩, .int .i64 0, .slice none 0 0] 31) := ⟨_, rfl⟩
  have BA : Hid (Below w.heap.size w WA) := hide (by rw [hWA]; exact (Below.refl _ _).alloc (Nat.le_refl _) _)
  have QH : Hid (Blk WA w.heap.size #[.string ⟨#[]⟩, .int .i64 0, .slice none 0 0] 31) := hide (by rw [hWA]; exact Blk.newAt w w.heap.size rfl _ _)
  have HWA := hide hWA.symm
  have HDW := hide hDw
  have UA := hide (But.of_below (D := D) BA.out)
  have TA := hide (ht.but UA.out)
  have T0 := hide ht
  have C1 := hide (rGetS 2 hs hp (by decide) (hc.off BA.out hDw))
  have HV : Hid (∀ X, TxD X D v ps → ∀ i : Nat, Calls Tryz.prog 34 #[v, .int .i64 (i : Int)] X fun e w' => e = .returned (.tuple #[.string (txN ps i), .bool (decide (i < ps.length))]) ∧ Below X.heap.size X w') := hide (fun X h i => rAtN h i)
  obtain ⟨N1, hN1⟩ : ∃ N1, N1 = gV s st 2 := ⟨_, rfl⟩
  rw [← hN1] at C1
  have HN1 := hide hN1
  have hp1 := gS_le s st 2 hp
  obtain ⟨S1, hS1⟩ : ∃ S1, S1 = gS s st 2 := ⟨_, rfl⟩
  rw [← hS1] at C1 hp1
  have HS1 := hide hS1
  obtain ⟨ao, cap, rfl, hcap, htc⟩ := ht
  clear hWA hc hN1 hS1 htc hDw
  go_enter Tryz.func13, Tryz.ntmps13
  go_wp2_with (simp only [HWA.out])
  refine C1.out.mono ?_
  rintro x w1 ⟨rfl, hc1, hb1⟩
  have U1 := hide (UA.out.trans hb1)
  have HC1 := hide hc1
  have T1 := hide (TA.out.but hb1)
  have Q1 := hide (hb1.blk QH.out (by have := HDW.out; omega))
  clear hc1 hb1 C1
  go_wp2_with fail
  refine (HV.out _ T1.out N1).mono ?_
  rintro x w2 ⟨rfl, hb2⟩
  have U2 := hide (U1.out.trans (.of_below hb2))
  have HC2 := hide (HC1.out.off hb2 HC1.out.lt)
  have Q2 := hide (Q1.out.below hb2 Q1.out.lt)
  have T2 := hide (T1.out.but (.of_below hb2))
  clear hb2 HC1 Q1 T1 U1
  obtain ⟨S2, hS2⟩ : ∃ S2, S2 = gS s S1 1 := ⟨_, rfl⟩
  obtain ⟨N2, hN2⟩ : ∃ N2, N2 = gV s S1 1 := ⟨_, rfl⟩
  have hp2 := gS_le s S1 1 hp1
  have C3 := hide (rGetS 1 hs hp1 (by decide) HC2.out)
  rw [← hS2, ← hN2] at C3
  rw [← hS2] at hp2
  have HS2 := hide hS2
  have HN2 := hide hN2
  clear hS2 hN2
  go_wp2_with fail
  refine C3.out.mono ?_
  rintro x w3 ⟨rfl, hc3, hb3⟩
  have U3 := hide (U2.out.trans hb3)
  have HC3 := hide hc3
  have T3 := hide (T2.out.but hb3)
  have Q3 := hide (hb3.blk Q2.out (by have := HDW.out; omega))
  clear hc3 hb3 C3 HC2 Q2 T2 U2
  obtain ⟨NM, hNM⟩ : ∃ NM, NM = txN ps N1 := ⟨_, rfl⟩
  rw [← hNM]
  have HNM := hide hNM
  obtain ⟨OK, hOK⟩ : ∃ OK, OK = decide (N1 < ps.length) := ⟨_, rfl⟩
  rw [← hOK]
  have HOK := hide hOK
  clear hNM hOK
  have hwD : w.heap.size ≠ D := by have := HDW.out; omega
  have hw3 : w.heap.size < w3.heap.size := Blk.lt Q3.out
  have hD3 : D < w3.heap.size := HC3.out.lt
  obtain ⟨S3, hS3⟩ : ∃ S3, S3 = gS s S2 2 := ⟨_, rfl⟩
  obtain ⟨N3, hN3⟩ : ∃ N3, N3 = gV s S2 2 := ⟨_, rfl⟩
  have hp3 := gS_le s S2 2 hp2
  rw [← hS3] at hp3
  have HS3 := hide hS3
  have HN3 := hide hN3
  have HLS : Hid (refLs ps s st = refL ps s N3 S3 OK) := hide (by unfold refLs refS; rw [← HS1.out, ← HS2.out, ← HN1.out, ← hN3, ← hS3, ← HOK.out])
  have HGT : Hid ((refG ps s st).1.name = NM ∧ (refG ps s st).1.parent = parV N2) := hide (by unfold refG; rw [← HS1.out, ← HN1.out, ← HN2.out]; exact ⟨HNM.out.symm, rfl⟩)
  have HP4 : Hid (∀ X, CuR X D s S2.1 S2.2 → Calls Tryz.prog 11 #[.pointer (some ⟨D, 0, none⟩), .int .i64 2] X fun x w' => x = .returned (.int .i64 (N3 : Int)) ∧ CuR w' D s S3.1 S3.2 ∧ But D X w') := hide (fun X h => by rw [hS3, hN3]; exact rGetS 2 hs hp2 (by decide) h)
  obtain ⟨PR, hPR⟩ : ∃ PR, PR = parV N2 := ⟨_, rfl⟩
  obtain ⟨W4, hW4⟩ : ∃ W4, W4 = w3.alloc (.cells #[.string NM, .int .i64 PR, .slice none 0 0] 31) := ⟨_, rfl⟩
  have BW4 : Hid (Below w3.heap.size w3 W4) := hide (by rw [hW4]; exact (Below.refl _ _).alloc (Nat.le_refl _) _)
  have QT4 : Hid (Blk W4 w3.heap.size #[.string NM, .int .i64 PR, .slice none 0 0] 31) := hide (by rw [hW4]; exact Blk.new _ _ _)
  have HPR := hide hPR
  have HCA : Hid (N2 = 255 → w3.alloc (.cells #[.string NM, .int .i64 (-1), .slice none 0 0] 31) = W4) := hide (fun q => by rw [hW4, hPR]; unfold parV; rw [if_pos q])
  have HCB : Hid (N2 ≠ 255 → w3.alloc (.cells #[.string NM, .int .i64 (N2 : Int), .slice none 0 0] 31) = W4) := hide (fun q => by rw [hW4, hPR]; unfold parV; rw [if_neg q])
  have U4 := hide (U3.out.trans (.of_below BW4.out))
  have HC4 := hide (HC3.out.off BW4.out hD3)
  have T4 := hide (T3.out.but (.of_below BW4.out))
  have Q4 := hide (Q3.out.below BW4.out hw3)
  have C4 := hide (HP4.out W4 HC4.out)
  clear hW4 hPR hN3 hS3 HP4 U3 HC3 T3 Q3
  have h255 : N2 ≠ 255 := by rw [HN2.out, HS1.out]; exact hk
  all_goals
    have HX := hide (HCB.out h255)
    have hb : ((N2 : Int) == 255) = false := beq_eq_false_iff_ne.2 (by omega)
    clear h255 HCA HCB
    go_wp2_with fail
    simp only [HX.out]
  all_goals
    generalize w3.heap.size = T at *
    clear HX hb
    refine C4.out.mono ?_
    rintro x w5 ⟨rfl, hc5, hb5⟩
    have U5 := hide (U4.out.trans hb5)
    have HC5 := hide hc5
    have T5 := hide (T4.out.but hb5)
    have Q5 := hide (hb5.blk Q4.out hwD)
    have QT5 := hide (hb5.blk QT4.out (by omega))
    clear hc5 hb5 C4 HC4 T4 Q4 QT4 U4 BW4
    go_wp2_with fail
  all_goals
    have HT5 := hide QT5.out.lt
    have hwT : w.heap.size < T := hw3
    have hDT : D < T := hD3
    go_loopw [7, 10] (fun x y wr => ∃ (i : Nat) (b : Bool) (es : List Ent) (p e : Nat) (ve : Value), i ≤ N3 ∧ x = .bool b ∧ y = .int .i64 (i : Int) ∧ es.length = i ∧ p ≤ s.size ∧ Hid (refL ps s N3 S3 OK = (es ++ (refL ps s (N3 - i) (p, e) b).1, (refL ps s (N3 - i) (p, e) b).2)) ∧ Hid (CuR wr D s p e) ∧ Hid (But D w wr) ∧ Hid (TxD wr D (.slice ao ps.length cap) ps) ∧ Hid (Blk wr w.heap.size #[.string ⟨#[]⟩, .int .i64 0, .slice none 0 0] 31) ∧ Hid (Blk wr T #[.string NM, .int .i64 PR, ve] 31) ∧ Hid (wr.ownsRow (T + 1) 33 4 ve i (cellsEn es))) (fun _ y _ => N3 - (intOf y).toNat)
    case atStart => exact ⟨0, OK, [], S3.1, S3.2, .slice none 0 0, Nat.zero_le _, rfl, rfl, rfl, hp3, hide rfl, HC5, U5, T5, Q5, QT5, hide (World.ownsRow_nil _ _ _ _)⟩
    case round =>
      obtain ⟨i, b, es, p, e, ve, hiN, rfl, rfl, hel, hpz, HR, HC, HU, HT, HQ, HQT, HOW⟩ := hrel
      have c2 := Blk.cell HC.out 2
      have hlt : i < N3 ∧ b = true ∧ e = 0 ∨ (¬ (i < N3 ∧ b = true ∧ e = 0) ∧ Hid (refL ps s N3 S3 OK = (es, b, (p, e)))) := by
        by_cases q : i < N3 ∧ b = true ∧ e = 0
        · exact .inl q
        · refine .inr ⟨q, hide ?_⟩
          rw [HR.out, refL_stop (by
            by_cases q1 : i < N3
            · by_cases q2 : b = true
              · exact .inr (.inr (fun q3 => q ⟨q1, q2, q3⟩))
              · exact .inr (.inl (by simpa using q2))
            · exact .inl (by omega)), List.append_nil]
      rcases hlt with ⟨hlt, rfl, rfl⟩ | ⟨hno, HX⟩
      · have hlt' : (i : Int) < (N3 : Int) := by omega
        have hN3l : N3 < 65536 := by rw [HN3.out]; exact gV2_lt s S2
        obtain ⟨j, hj⟩ : ∃ j, N3 - i = j + 1 := ⟨N3 - i - 1, by omega⟩
        rw [hj, refL_next rfl] at HR
        have hj2 : N3 - (i + 1) = j := by omega
        obtain ⟨K1, hK1⟩ : ∃ K1, K1 = gV s (p, 0) 2 := ⟨_, rfl⟩
        obtain ⟨Sa, hSa⟩ : ∃ Sa, Sa = gS s (p, 0) 2 := ⟨_, rfl⟩
        obtain ⟨K2, hK2⟩ : ∃ K2, K2 = gV s Sa 1 := ⟨_, rfl⟩
        obtain ⟨Sb, hSb⟩ : ∃ Sb, Sb = gS s Sa 1 := ⟨_, rfl⟩
        obtain ⟨K3, hK3⟩ : ∃ K3, K3 = gV s Sb 4 := ⟨_, rfl⟩
        obtain ⟨Sc, hSc⟩ : ∃ Sc, Sc = gS s Sb 4 := ⟨_, rfl⟩
        have hpa := gS_le s (p, 0) 2 hpz
        rw [← hSa] at hpa
        have hpb := gS_le s Sa 1 hpa
        rw [← hSb] at hpb
        have hpc := gS_le s Sb 4 hpb
        rw [← hSc] at hpc
        have HRD : Hid (rdE ps s (p, 0) = (if K2 = 1 then ⟨txN ps K1, 1, ⟨#[]⟩, (K3 : Int)⟩ else ⟨txN ps K1, (K2 : Int), txN ps K3, 0⟩, Sc)) := hide (by unfold rdE; rw [← hK1, ← hSa, ← hK2, ← hSb, ← hK3, ← hSc])
        have HOE : Hid (okE ps s (p, 0) = (decide (K1 < ps.length) && (decide (K2 = 1) || decide (K3 < ps.length)))) := hide (by unfold okE; rw [← hK1, ← hSa, ← hK2, ← hSb, ← hK3])
        have Ca : Hid (Calls Tryz.prog 11 #[.pointer (some ⟨D, 0, none⟩), .int .i64 2] wr fun x w' => x = .returned (.int .i64 (K1 : Int)) ∧ CuR w' D s Sa.1 Sa.2 ∧ But D wr w') := hide (by rw [hK1, hSa]; exact rGetS (st := (p, 0)) 2 hs hpz (by decide) HC.out)
        have HPb : Hid (∀ X, CuR X D s Sa.1 Sa.2 → Calls Tryz.prog 11 #[.pointer (some ⟨D, 0, none⟩), .int .i64 1] X fun x w' => x = .returned (.int .i64 (K2 : Int)) ∧ CuR w' D s Sb.1 Sb.2 ∧ But D X w') := hide (fun X h => by rw [hK2, hSb]; exact rGetS 1 hs hpa (by decide) h)
        have HPc : Hid (∀ X, CuR X D s Sb.1 Sb.2 → Calls Tryz.prog 11 #[.pointer (some ⟨D, 0, none⟩), .int .i64 4] X fun x w' => x = .returned (.int .i64 (K3 : Int)) ∧ CuR w' D s Sc.1 Sc.2 ∧ But D X w') := hide (fun X h => by rw [hK3, hSc]; exact rGetS 4 hs hpb (by decide) h)
        obtain ⟨ao', cap', rfl⟩ := own_sliceB HOW.out
        have hDr := HC.out.lt
        have hTr := HQT.out.lt
        have hwr := HQ.out.lt
        clear hK1 hK2 hK3 hSa hSb hSc hj
        go_wp2_with fail
        refine Ca.out.mono ?_
        rintro x wa ⟨rfl, hca, hba⟩
        have HCa := hide hca
        have HBa := hide hba
        clear hca hba Ca
        go_wp2_with fail
        refine (HV.out _ (HT.out.but HBa.out) K1).mono ?_
        rintro x wb ⟨rfl, hbb⟩
        have HBb := hide (HBa.out.trans (.of_below hbb))
        have Cb := hide (HPb.out _ (HCa.out.off hbb HCa.out.lt))
        clear hbb HCa HBa HPb
        obtain ⟨KY, hKY⟩ : ∃ KY, KY = txN ps K1 := ⟨_, rfl⟩
        rw [← hKY]
        have HKY := hide hKY
        obtain ⟨F1, hF1⟩ : ∃ F1, F1 = decide (K1 < ps.length) := ⟨_, rfl⟩
        rw [← hF1]
        have HF1 := hide hF1
        clear hKY hF1
        go_wp2_with fail
        refine Cb.out.mono ?_
        rintro x wc ⟨rfl, hcc, hbc⟩
        have HBc := hide (HBb.out.trans hbc)
        have HCc := hide hcc
        clear hbc hcc HBb Cb
        obtain ⟨WX, hWX⟩ : ∃ WX, WX = wc.alloc (.cells #[.string KY, .int .i64 (K2 : Int), .string ⟨#[]⟩, .int .i64 0] 33) := ⟨_, rfl⟩
        have BX : Below wc.heap.size wc WX := by rw [hWX]; exact (Below.refl _ _).alloc (Nat.le_refl _) _
        have QX : Hid (Blk WX wc.heap.size #[.string KY, .int .i64 (K2 : Int), .string ⟨#[]⟩, .int .i64 0] 33) := hide (by rw [hWX]; exact Blk.new _ _ _)
        have HX : wc.alloc (.cells #[.string KY, .int .i64 (K2 : Int), .string ⟨#[]⟩, .int .i64 0] 33) = WX := hWX.symm
        have HBX := hide (HBc.out.trans (.of_below BX))
        have Cc := hide (HPc.out _ (HCc.out.off BX HCc.out.lt))
        have hXr : wr.heap.size ≤ wc.heap.size := HBc.out.size
        have HHX := hide HX
        clear BX hWX HCc HBc HPc HX
        go_wp2_with fail
        simp only [HHX.out]
        generalize wc.heap.size = X at *
        clear HHX
        refine Cc.out.mono ?_
        rintro x wd ⟨rfl, hcd, hbd⟩
        have HBd := hide (HBX.out.trans hbd)
        have HCd := hide hcd
        have QXd := hide (hbd.blk QX.out (by omega))
        clear hbd hcd HBX Cc QX
        have x1 := Blk.cell QXd.out 1
        by_cases hk : K2 = 1
        · have hk' : ((K2 : Int) == 1) = true := by rw [hk]; rfl
          have HE1 : Hid (rdE ps s (p, 0) = (⟨KY, (K2 : Int), ⟨#[]⟩, (K3 : Int)⟩, (Sc.1, Sc.2))) := hide (by rw [HRD.out, if_pos hk, HKY.out, hk]; rfl)
          have HE2 : Hid (okE ps s (p, 0) = F1) := hide (by rw [HOE.out, ← HF1.out, decide_eq_true hk, Bool.true_or, Bool.and_true])
          have HBs := HBd
          have HCs := HCd
          have QXs := QXd
          clear hk HRD HOE HBd HCd
          obtain ⟨W10, hW10⟩ : ∃ W10, W10 = wd.setCell ⟨X, 3, none⟩ (.int .i64 (K3 : Int)) := ⟨_, rfl⟩
          have HW10 := hide hW10.symm
          have HB10 : Hid (But D wr W10) := hide (by rw [hW10]; exact HBs.out.setNew hXr _)
          have HC10 : Hid (CuR W10 D s Sc.1 Sc.2) := hide (by rw [hW10]; exact Blk.other HCs.out (a := ⟨X, 3, none⟩) (by show X ≠ D; omega) _)
          have QX10 : Hid (Blk W10 X #[.string KY, .int .i64 (K2 : Int), .string ⟨#[]⟩, .int .i64 (K3 : Int)] 33) := hide (by rw [hW10]; exact Blk.set3of4 QXs.out _)
          have QT10 : Hid (Blk W10 T #[.string NM, .int .i64 PR, .slice ao' i cap'] 31) := hide (HB10.out.blk HQT.out (by omega))
          have HO10 : Hid (W10.ownsRow (T + 1) 33 4 (.slice ao' i cap') i (cellsEn es)) := hide (own_butB HOW.out HB10.out (by omega))
          have HO2 := hide (HO10.out.alloc (.cells #[.string KY, .int .i64 (K2 : Int), .string ⟨#[]⟩, .int .i64 (K3 : Int)] 33))
          have ONE : Hid (∀ u ∈ [Value.string KY, Value.int .i64 (K2 : Int), .string ⟨#[]⟩, .int .i64 (K3 : Int)], u.oneCell' = true) := hide (by
            intro u hu
            simp only [List.mem_cons, List.not_mem_nil, or_false] at hu
            rcases hu with rfl | rfl | rfl | rfl <;> rfl)
          have hs10 : Hid (T + 1 ≤ W10.heap.size) := hide (QT10.out.lt)
          have xf2 := Blk.free QXs.out 3
          have xc2 := Blk.cell QXs.out 3
          have y0 := Blk.cell QX10.out 0
          have y1 := Blk.cell QX10.out 1
          have y2 := Blk.cell QX10.out 2
          have y3 := Blk.cell QX10.out 3
          have t2 := Blk.cell QT10.out 2
          clear hW10 HBs HCs
          go_wp2_with (first
            | simp only [HW10.out]
            | (at_builtin; refine wpList_append_own _ rfl _ _ 29 rfl (T + 1) 33 i0 (.agg #[.string ⟨#[]⟩, .int .i64 0, .string ⟨#[]⟩, .int .i64 0]) 4 48 Tryz.underlying29 hi hz0 hz1 hz2 rfl (by decide) _ i (cellsEn es) rfl HO2.out ⟨W10.heap.size, 0, none⟩ 1 1 [.string KY, .int .i64 (K2 : Int), .string ⟨#[]⟩, .int .i64 (K3 : Int)] rfl rfl (cell_four_new _ _ _ _ _ _) ONE.out (by unfold maxLen; omega) (by omega) (by have := hs10.out; simp; omega) ?_
               intro v' w3 hown' hg3 hnil3
               obtain ⟨ao2, cap2, rfl⟩ := own_sliceB hown'
               have B3 := hide ((((Below.refl (T + 1) W10).alloc hs10.out (.cells #[.string KY, .int .i64 (K2 : Int), .string ⟨#[]⟩, .int .i64 (K3 : Int)] 33)).grown hg3 (by have := hs10.out; simp; omega) (fun j hj => (HO2.out.lt j hj).1)))
               have O3 := hide hown'
               have QT3 := hide (Blk.below QT10.out B3.out (Nat.lt_succ_self T))
               have tf2 := Blk.free QT3.out 2
               have tc2 := Blk.cell QT3.out 2
               clear hg3 hnil3 hown' t2))
          have HBE : Hid (But D w (w3.setCell ⟨T, 2, none⟩ (.slice ao2 (i + 1) cap2))) := hide (((HU.out.trans HB10.out).up B3.out (by omega)).setNew (Nat.le_of_lt hwT) _)
          refine ⟨⟨i + 1, _, es ++ [⟨KY, (K2 : Int), ⟨#[]⟩, (K3 : Int)⟩], Sc.1, Sc.2, .slice ao2 (i + 1) cap2, by omega, rfl, by go_num, by simp [hel], hpc, hide ?_, hide ?_, HBE, hide (T0.out.but HBE.out), hide ?_, hide (QT3.out.set2of3 _), hide ?_⟩, by simp [intOf]; omega⟩
          · rw [hj2, HR.out, HE1.out, HE2.out, List.append_assoc]; rfl
          · exact Blk.other (HC10.out.off B3.out (by omega)) (a := ⟨T, 2, none⟩) (by show T ≠ D; omega) _
          · exact Blk.other (Blk.below (HB10.out.blk HQ.out hwD) B3.out (by omega)) (a := ⟨T, 2, none⟩) (by show T ≠ w.heap.size; omega) _
          · rw [cellsEn_snoc]; exact own_setB O3.out (Nat.lt_succ_self T)
        · have hk' : ((K2 : Int) == 1) = false := beq_eq_false_iff_ne.2 (by omega)
          go_wp2_with fail
          refine (HV.out _ (HT.out.but HBd.out) K3).mono ?_
          rintro x we ⟨rfl, hbe⟩
          have HBs := hide (HBd.out.trans (.of_below hbe))
          have HCs := hide (HCd.out.off hbe HCd.out.lt)
          have QXs := hide (QXd.out.below hbe QXd.out.lt)
          obtain ⟨TX, hTX⟩ : ∃ TX, TX = txN ps K3 := ⟨_, rfl⟩
          rw [← hTX]
          obtain ⟨F3, hF3⟩ : ∃ F3, F3 = decide (K3 < ps.length) := ⟨_, rfl⟩
          rw [← hF3]
          have HE1 : Hid (rdE ps s (p, 0) = (⟨KY, (K2 : Int), TX, 0⟩, (Sc.1, Sc.2))) := hide (by rw [HRD.out, if_neg hk, HKY.out, hTX])
          have HE2 : Hid (okE ps s (p, 0) = (F1 && F3)) := hide (by rw [HOE.out, ← HF1.out, ← hF3, decide_eq_false hk, Bool.false_or])
          clear hk HRD HOE HBd HCd QXd hTX hF3 hbe HF1
          cases F1 with
          | true =>
            obtain ⟨W10, hW10⟩ : ∃ W10, W10 = we.setCell ⟨X, 2, none⟩ (.string TX) := ⟨_, rfl⟩
            have HW10 := hide hW10.symm
            have HB10 : Hid (But D wr W10) := hide (by rw [hW10]; exact HBs.out.setNew hXr _)
            have HC10 : Hid (CuR W10 D s Sc.1 Sc.2) := hide (by rw [hW10]; exact Blk.other HCs.out (a := ⟨X, 2, none⟩) (by show X ≠ D; omega) _)
            have QX10 : Hid (Blk W10 X #[.string KY, .int .i64 (K2 : Int), .string TX, .int .i64 0] 33) := hide (by rw [hW10]; exact Blk.set2of4 QXs.out _)
            have QT10 : Hid (Blk W10 T #[.string NM, .int .i64 PR, .slice ao' i cap'] 31) := hide (HB10.out.blk HQT.out (by omega))
            have HO10 : Hid (W10.ownsRow (T + 1) 33 4 (.slice ao' i cap') i (cellsEn es)) := hide (own_butB HOW.out HB10.out (by omega))
            have HO2 := hide (HO10.out.alloc (.cells #[.string KY, .int .i64 (K2 : Int), .string TX, .int .i64 0] 33))
            have ONE : Hid (∀ u ∈ [Value.string KY, Value.int .i64 (K2 : Int), .string TX, .int .i64 0], u.oneCell' = true) := hide (by
              intro u hu
              simp only [List.mem_cons, List.not_mem_nil, or_false] at hu
              rcases hu with rfl | rfl | rfl | rfl <;> rfl)
            have hs10 : Hid (T + 1 ≤ W10.heap.size) := hide (QT10.out.lt)
            have xf2 := Blk.free QXs.out 2
            have xc2 := Blk.cell QXs.out 2
            have y0 := Blk.cell QX10.out 0
            have y1 := Blk.cell QX10.out 1
            have y2 := Blk.cell QX10.out 2
            have y3 := Blk.cell QX10.out 3
            have t2 := Blk.cell QT10.out 2
            clear hW10 HBs HCs
            go_wp2_with (first
              | simp only [HW10.out]
              | (at_builtin; refine wpList_append_own _ rfl _ _ 29 rfl (T + 1) 33 i0 (.agg #[.string ⟨#[]⟩, .int .i64 0, .string ⟨#[]⟩, .int .i64 0]) 4 48 Tryz.underlying29 hi hz0 hz1 hz2 rfl (by decide) _ i (cellsEn es) rfl HO2.out ⟨W10.heap.size, 0, none⟩ 1 1 [.string KY, .int .i64 (K2 : Int), .string TX, .int .i64 0] rfl rfl (cell_four_new _ _ _ _ _ _) ONE.out (by unfold maxLen; omega) (by omega) (by have := hs10.out; simp; omega) ?_
                 intro v' w3 hown' hg3 hnil3
                 obtain ⟨ao2, cap2, rfl⟩ := own_sliceB hown'
                 have B3 := hide ((((Below.refl (T + 1) W10).alloc hs10.out (.cells #[.string KY, .int .i64 (K2 : Int), .string TX, .int .i64 0] 33)).grown hg3 (by have := hs10.out; simp; omega) (fun j hj => (HO2.out.lt j hj).1)))
                 have O3 := hide hown'
                 have QT3 := hide (Blk.below QT10.out B3.out (Nat.lt_succ_self T))
                 have tf2 := Blk.free QT3.out 2
                 have tc2 := Blk.cell QT3.out 2
                 clear hg3 hnil3 hown' t2))
            have HBE : Hid (But D w (w3.setCell ⟨T, 2, none⟩ (.slice ao2 (i + 1) cap2))) := hide (((HU.out.trans HB10.out).up B3.out (by omega)).setNew (Nat.le_of_lt hwT) _)
            refine ⟨⟨i + 1, _, es ++ [⟨KY, (K2 : Int), TX, 0⟩], Sc.1, Sc.2, .slice ao2 (i + 1) cap2, by omega, rfl, by go_num, by simp [hel], hpc, hide ?_, hide ?_, HBE, hide (T0.out.but HBE.out), hide ?_, hide (QT3.out.set2of3 _), hide ?_⟩, by simp [intOf]; omega⟩
            · rw [hj2, HR.out, HE1.out, HE2.out, List.append_assoc]; rfl
            · exact Blk.other (HC10.out.off B3.out (by omega)) (a := ⟨T, 2, none⟩) (by show T ≠ D; omega) _
            · exact Blk.other (Blk.below (HB10.out.blk HQ.out hwD) B3.out (by omega)) (a := ⟨T, 2, none⟩) (by show T ≠ w.heap.size; omega) _
            · rw [cellsEn_snoc]; exact own_setB O3.out (Nat.lt_succ_self T)
          | false =>
            obtain ⟨W10, hW10⟩ : ∃ W10, W10 = we.setCell ⟨X, 2, none⟩ (.string TX) := ⟨_, rfl⟩
            have HW10 := hide hW10.symm
            have HB10 : Hid (But D wr W10) := hide (by rw [hW10]; exact HBs.out.setNew hXr _)
            have HC10 : Hid (CuR W10 D s Sc.1 Sc.2) := hide (by rw [hW10]; exact Blk.other HCs.out (a := ⟨X, 2, none⟩) (by show X ≠ D; omega) _)
            have QX10 : Hid (Blk W10 X #[.string KY, .int .i64 (K2 : Int), .string TX, .int .i64 0] 33) := hide (by rw [hW10]; exact Blk.set2of4 QXs.out _)
            have QT10 : Hid (Blk W10 T #[.string NM, .int .i64 PR, .slice ao' i cap'] 31) := hide (HB10.out.blk HQT.out (by omega))
            have HO10 : Hid (W10.ownsRow (T + 1) 33 4 (.slice ao' i cap') i (cellsEn es)) := hide (own_butB HOW.out HB10.out (by omega))
            have HO2 := hide (HO10.out.alloc (.cells #[.string KY, .int .i64 (K2 : Int), .string TX, .int .i64 0] 33))
            have ONE : Hid (∀ u ∈ [Value.string KY, Value.int .i64 (K2 : Int), .string TX, .int .i64 0], u.oneCell' = true) := hide (by
              intro u hu
              simp only [List.mem_cons, List.not_mem_nil, or_false] at hu
              rcases hu with rfl | rfl | rfl | rfl <;> rfl)
            have hs10 : Hid (T + 1 ≤ W10.heap.size) := hide (QT10.out.lt)
            have xf2 := Blk.free QXs.out 2
            have xc2 := Blk.cell QXs.out 2
            have y0 := Blk.cell QX10.out 0
            have y1 := Blk.cell QX10.out 1
            have y2 := Blk.cell QX10.out 2
            have y3 := Blk.cell QX10.out 3
            have t2 := Blk.cell QT10.out 2
            clear hW10 HBs HCs
            go_wp2_with (first
              | simp only [HW10.out]
              | (at_builtin; refine wpList_append_own _ rfl _ _ 29 rfl (T + 1) 33 i0 (.agg #[.string ⟨#[]⟩, .int .i64 0, .string ⟨#[]⟩, .int .i64 0]) 4 48 Tryz.underlying29 hi hz0 hz1 hz2 rfl (by decide) _ i (cellsEn es) rfl HO2.out ⟨W10.heap.size, 0, none⟩ 1 1 [.string KY, .int .i64 (K2 : Int), .string TX, .int .i64 0] rfl rfl (cell_four_new _ _ _ _ _ _) ONE.out (by unfold maxLen; omega) (by omega) (by have := hs10.out; simp; omega) ?_
                 intro v' w3 hown' hg3 hnil3
                 obtain ⟨ao2, cap2, rfl⟩ := own_sliceB hown'
                 have B3 := hide ((((Below.refl (T + 1) W10).alloc hs10.out (.cells #[.string KY, .int .i64 (K2 : Int), .string TX, .int .i64 0] 33)).grown hg3 (by have := hs10.out; simp; omega) (fun j hj => (HO2.out.lt j hj).1)))
                 have O3 := hide hown'
                 have QT3 := hide (Blk.below QT10.out B3.out (Nat.lt_succ_self T))
                 have tf2 := Blk.free QT3.out 2
                 have tc2 := Blk.cell QT3.out 2
                 clear hg3 hnil3 hown' t2))
            have HBE : Hid (But D w (w3.setCell ⟨T, 2, none⟩ (.slice ao2 (i + 1) cap2))) := hide (((HU.out.trans HB10.out).up B3.out (by omega)).setNew (Nat.le_of_lt hwT) _)
            refine ⟨⟨i + 1, _, es ++ [⟨KY, (K2 : Int), TX, 0⟩], Sc.1, Sc.2, .slice ao2 (i + 1) cap2, by omega, rfl, by go_num, by simp [hel], hpc, hide ?_, hide ?_, HBE, hide (T0.out.but HBE.out), hide ?_, hide (QT3.out.set2of3 _), hide ?_⟩, by simp [intOf]; omega⟩
            · rw [hj2, HR.out, HE1.out, HE2.out, List.append_assoc]; rfl
            · exact Blk.other (HC10.out.off B3.out (by omega)) (a := ⟨T, 2, none⟩) (by show T ≠ D; omega) _
            · exact Blk.other (Blk.below (HB10.out.blk HQ.out hwD) B3.out (by omega)) (a := ⟨T, 2, none⟩) (by show T ≠ w.heap.size; omega) _
            · rw [cellsEn_snoc]; exact own_setB O3.out (Nat.lt_succ_self T)
      · clear HR
        have t0 := Blk.cell HQT.out 0
        have t1 := Blk.cell HQT.out 1
        have t2 := Blk.cell HQT.out 2
        have r0 := Blk.cell HQ.out 0
        have r1 := Blk.cell HQ.out 1
        have r2 := Blk.cell HQ.out 2
        have s0 := Blk.free HQ.out 0
        have s1 := Blk.free HQ.out 1
        have s2 := Blk.free HQ.out 2
        obtain ⟨ao', cap', rfl⟩ := own_sliceB HOW.out
        have HRG : Hid ((refG ps s st).1.name = NM ∧ (refG ps s st).1.parent = PR ∧ (refG ps s st).1.ents = es ∧ (refG ps s st).2.1 = (b && decide (e = 0)) ∧ (refG ps s st).2.2 = (p, e)) := hide (by
          refine ⟨HGT.out.1, by rw [HPR.out]; exact HGT.out.2, ?_, ?_, ?_⟩
          · show (refLs ps s st).1 = es; rw [HLS.out, HX.out]
          · show ((refLs ps s st).2.1 && decide ((refLs ps s st).2.2.2 = 0)) = _; rw [HLS.out, HX.out]
          · show (refLs ps s st).2.2 = _; rw [HLS.out, HX.out])
        subst hel
        have QF : Hid (Blk ((((wr.setCell ⟨w.heap.size, 0, none⟩ (.string NM)).setCell ⟨w.heap.size, 1, none⟩ (.int .i64 PR)).setCell ⟨w.heap.size, 2, none⟩ (.slice ao' es.length cap')).drew) w.heap.size #[.string NM, .int .i64 PR, .slice ao' es.length cap'] 31) := hide (HQ.out.put3 _ _ _)
        have OWF : Hid ((((wr.setCell ⟨w.heap.size, 0, none⟩ (.string NM)).setCell ⟨w.heap.size, 1, none⟩ (.int .i64 PR)).setCell ⟨w.heap.size, 2, none⟩ (.slice ao' es.length cap')).drew.ownsRow w.heap.size 33 4 (.slice ao' es.length cap') es.length (cellsEn es)) := hide (own_belowB (own_baseB (own_setB (own_setB (own_setB HOW.out (by omega)) (by omega)) (by omega)) (by omega)) (Below.refl _ _).drew)
        have CF : Hid (CuR (((wr.setCell ⟨w.heap.size, 0, none⟩ (.string NM)).setCell ⟨w.heap.size, 1, none⟩ (.int .i64 PR)).setCell ⟨w.heap.size, 2, none⟩ (.slice ao' es.length cap')).drew D s p e) := hide (Blk.other (Blk.other (Blk.other HC.out (a := ⟨w.heap.size, 0, none⟩) hwD _) (a := ⟨w.heap.size, 1, none⟩) hwD _) (a := ⟨w.heap.size, 2, none⟩) hwD _)
        have UF : Hid (But D w (((wr.setCell ⟨w.heap.size, 0, none⟩ (.string NM)).setCell ⟨w.heap.size, 1, none⟩ (.int .i64 PR)).setCell ⟨w.heap.size, 2, none⟩ (.slice ao' es.length cap')).drew) := hide ((((HU.out.setNew (Nat.le_refl _) _).setNew (Nat.le_refl _) _).setNew (Nat.le_refl _) _).trans (.of_below (Below.refl _ _).drew))
        have hN : (es.length : Int) < (N3 : Int) ∨ ¬ (es.length : Int) < (N3 : Int) := Decidable.em _
        generalize hei : es.length = i at *
        have HEI := hide hei
        clear hei
        cases b with
        | true =>
          by_cases q3 : e = 0
          · subst q3
            have q1 : ¬ (i : Int) < (N3 : Int) := fun h => hno ⟨by omega, rfl, rfl⟩
            clear hN hno HOW
            go_wp2_with fail
            go_region
            go_wp2
            refine bodyPost_ret (results_tab2 rfl _ _ _ _ _ _ rfl QF.out) rfl ?_
            obtain ⟨g1, g2, g3, g4, g5⟩ := HRG.out
            rw [g1, g2, g3, g4, g5, HEI.out]
            exact ⟨_, rfl, OWF.out, CF.out, hpz, UF.out⟩
          · have q3' : ((e : Int) == 0) = false := beq_eq_false_iff_ne.2 (by omega)
            have q4 : decide (e = 0) = false := decide_eq_false q3
            clear hno HOW
            rcases hN with q1 | q1
            · go_wp2_with fail
              go_region
              go_wp2
              refine bodyPost_ret (results_tab2 rfl _ _ _ _ _ _ rfl QF.out) rfl ?_
              obtain ⟨g1, g2, g3, g4, g5⟩ := HRG.out
              rw [g1, g2, g3, g4, g5, HEI.out]
              exact ⟨_, by rw [q4]; rfl, OWF.out, CF.out, hpz, UF.out⟩
            · go_wp2_with fail
              go_region
              go_wp2
              refine bodyPost_ret (results_tab2 rfl _ _ _ _ _ _ rfl QF.out) rfl ?_
              obtain ⟨g1, g2, g3, g4, g5⟩ := HRG.out
              rw [g1, g2, g3, g4, g5, HEI.out]
              exact ⟨_, by rw [q4]; rfl, OWF.out, CF.out, hpz, UF.out⟩
        | false =>
          clear hno HOW
          rcases hN with q1 | q1
          · go_wp2_with fail
            go_region
            go_wp2
            refine bodyPost_ret (results_tab2 rfl _ _ _ _ _ _ rfl QF.out) rfl ?_
            obtain ⟨g1, g2, g3, g4, g5⟩ := HRG.out
            rw [g1, g2, g3, g4, g5, HEI.out]
            exact ⟨_, rfl, OWF.out, CF.out, hpz, UF.out⟩
          · go_wp2_with fail
            go_region
            go_wp2
            refine bodyPost_ret (results_tab2 rfl _ _ _ _ _ _ rfl QF.out) rfl ?_
            obtain ⟨g1, g2, g3, g4, g5⟩ := HRG.out
            rw [g1, g2, g3, g4, g5, HEI.out]
            exact ⟨_, rfl, OWF.out, CF.out, hpz, UF.out⟩

end Go.Proofs.YtihnakblcfealaaGreatDoor

namespace Go.Proofs.YtihnakblcfealaaGreatDoor
open Go.RowKit

theorem rget_any {w : World} {D : Nat} {s : ByteArray} {st : St} {v : Value} {ps : List ByteArray} (hs : s.size ≤ 140737488355328) (hp : st.1 ≤ s.size) (hc : CuR w D s st.1 st.2) (ht : TxD w D v ps) :
    Calls Tryz.prog 13 #[.pointer (some ⟨D, 0, none⟩), v] w fun x w' => ∃ ve, x = .returned (.tuple #[.agg #[.string (refG ps s st).1.name, .int .i64 (refG ps s st).1.parent, ve], .bool (refG ps s st).2.1]) ∧ w'.ownsRow w.heap.size 33 4 ve (refG ps s st).1.ents.length (cellsEn (refG ps s st).1.ents) ∧ CuR w' D s (refG ps s st).2.2.1 (refG ps s st).2.2.2 ∧ (refG ps s st).2.2.1 ≤ s.size ∧ But D w w' := by
  by_cases hk : gV s (gS s st 2) 1 = 255
  · exact rget_A hs hp hc ht hk
  · exact rget_B hs hp hc ht hk

end Go.Proofs.YtihnakblcfealaaGreatDoor
