/-
  What the reference's Decode answers.
  An append to a list without room lays a new list, and changes nothing that was there.
  What BundleReads overwrites, and what stays.
  BundleReads, of bytes that are no bundle.
-/
import Derived.Test.YtihnakblcfealaaGreatDoorEB13
import Derived.Test.YtihnakblcfealaaGreatDoorEB15
import Derived.Test.YtihnakblcfealaaGreatDoorEB16
import Derived.Test.YtihnakblcfealaaGreatDoorEB11
import Derived.Test.YtihnakblcfealaaGreatDoorEB12
import Derived.Deep.Upon
namespace Go.Proofs.YtihnakblcfealaaGreatDoor
open Go.RowKit

def DecR (s : ByteArray) (w : World) (x : Ending) (w' : World) : Prop :=
  (decOk s = true → ∃ v cs, x = .returned (.tuple #[.agg #[v], .int .i64 0]) ∧ cs.map Prod.fst = (rdB s).1 ∧ w'.ownsRow w.heap.size 31 3 v cs.length (cellsTb cs) ∧ EntsR w' w.heap.size cs) ∧ (decOk s = false → x = .returned (.tuple #[.agg #[.slice none 0 0], .int .i64 120])) ∧ Below w.heap.size w w'

set_option maxRecDepth 100000 in
set_option maxHeartbeats 4000000 in
theorem rDecode_any (s : ByteArray) (w : World) (hs : s.size ≤ 140737488355328) : Calls Tryz.prog 5 #[.string s] w fun x w' => DecR s w x w' := by
  obtain ⟨i0, hi, hz0, hz1, hz2⟩ := info_parts infoS
  obtain ⟨i1, hi1, hy0, hy1, hy2⟩ := info_parts infoT
  obtain ⟨WA, hWA⟩ : ∃ WA, WA = w.alloc (.cells #[.slice none 0 0] 24) := ⟨_, rfl⟩
  have BA : Hid (Below w.heap.size w WA) := hide (by rw [hWA]; exact (Below.refl _ _).alloc (Nat.le_refl _) _)
  have QH : Hid (Blk WA w.heap.size #[.slice none 0 0] 24) := hide (by rw [hWA]; exact Blk.newAt w w.heap.size rfl _ _)
  have HWA := hide hWA.symm
  obtain ⟨D, hD⟩ : ∃ D, D = WA.heap.size := ⟨_, rfl⟩
  have hDw : w.heap.size < D := by rw [hD]; exact QH.out.lt
  obtain ⟨WB, hWB⟩ : ∃ WB, WB = WA.alloc (.cells #[.string s, .int .i64 0, .int .i64 0] 46) := ⟨_, rfl⟩
  have BB : Below D WA WB := by rw [hWB, hD]; exact (Below.refl _ _).alloc (Nat.le_refl _) _
  have CB : CuR WB D s 0 0 := by rw [hWB, hD]; exact Blk.new _ _ _
  have hWBs : WB.heap.size = D + 1 := by rw [hWB, hD]; simp
  obtain ⟨WL, hWL⟩ : ∃ WL, WL = WB.alloc (.cells #[] 9) := ⟨_, rfl⟩
  have BL : Hid (Below D WA WL) := hide (by rw [hWL]; exact BB.alloc (by rw [← hD] at *; omega) _)
  have CL : Hid (CuR WL D s 0 0) := hide (by rw [hWL]; exact CB.off ((Below.refl WB.heap.size WB).alloc (Nat.le_refl _) _) CB.lt)
  have OL : Hid (WL.ownsRow (D + 1) 9 1 (.slice (some ⟨D + 1, 0, none⟩) 0 0) 0 []) := hide (by
    have q := World.ownsRow_lit (base := D + 1) (e := 9) (size := 1) WB #[] 0 (by omega) (by unfold maxLen; omega) rfl
    rw [hWBs] at q
    rw [hWL]
    exact q)
  have HWL : Hid (((WA.alloc (.cells #[.string s, .int .i64 0, .int .i64 0] 46)).alloc (.cells #[] 9)) = WL) := hide (by rw [hWL, hWB])
  have HD := hide hD
  obtain ⟨N, hN⟩ : ∃ N, N = gV s (0, 0) 2 := ⟨_, rfl⟩
  obtain ⟨S0, hS0⟩ : ∃ S0, S0 = gS s (0, 0) 2 := ⟨_, rfl⟩
  have hp0 := gS_le s (0, 0) 2 (Nat.zero_le _)
  rw [← hS0] at hp0
  have hNl : N < 65536 := by rw [hN]; exact gV2_lt s (0, 0)
  have HRP : Hid (refP s = refXs s N S0) := hide (by unfold refP; rw [← hN, ← hS0])
  have C1 : Hid (Calls Tryz.prog 11 #[.pointer (some ⟨D, 0, none⟩), .int .i64 2] WL fun x w' => x = .returned (.int .i64 (N : Int)) ∧ CuR w' D s S0.1 S0.2 ∧ But D WL w') := hide (by rw [hN, hS0]; exact rGetS (st := (0, 0)) 2 hs (Nat.zero_le _) (by decide) CL.out)
  clear hWA hWB hWL hWBs BB CB hN hS0 hD
  go_enter Tryz.func5, Tryz.ntmps5
  go_wp2_with (simp only [HWA.out])
  simp only [HWL.out]
  simp only [← HD.out]
  refine C1.out.mono ?_
  rintro x w1 ⟨rfl, hc1, hb1⟩
  have HC1 := hide hc1
  have B1 : Hid (Below D WA w1) := hide (BL.out.trans (hb1.to_below (by rw [HD.out]; exact BL.out.size) (Nat.le_refl _)))
  have O1 : Hid (w1.ownsRow (D + 1) 9 1 (.slice (some ⟨D + 1, 0, none⟩) 0 0) 0 []) := hide (own_butB OL.out hb1 (Nat.lt_succ_self D))
  clear hc1 hb1 C1 OL CL BL HWL
  go_wp2_with fail
  go_loopw [5, 7] (fun x y wr => ∃ (i : Nat) (l : List ByteArray) (p e : Nat) (ao : Option Addr) (cap : Nat), i ≤ N ∧ x = .slice ao i cap ∧ y = .int .i64 (i : Int) ∧ l.length = i ∧ p ≤ s.size ∧ Hid (refXs s N S0 = (l ++ (refXs s (N - i) (p, e)).1, (refXs s (N - i) (p, e)).2)) ∧ Hid (CuR wr D s p e) ∧ Hid (Below D WA wr) ∧ Hid (wr.ownsRow (D + 1) 9 1 (.slice ao i cap) i (l.map Value.string))) (fun _ y _ => N - (intOf y).toNat)
  case atStart => exact ⟨0, [], S0.1, S0.2, _, _, Nat.zero_le _, rfl, rfl, rfl, hp0, hide rfl, HC1, B1, O1⟩
  case round =>
    obtain ⟨i, l, p, e, ao, cap, hiN, rfl, rfl, hil, hpz, HR, HC, HB, HO⟩ := hrel
    have c2 := Blk.cell HC.out 2
    have hDr := HC.out.lt
    have hlt : i < N ∧ e = 0 ∨ (¬ (i < N ∧ e = 0) ∧ Hid (refXs s N S0 = (l, (p, e)))) := by
      by_cases q : i < N ∧ e = 0
      · exact .inl q
      · refine .inr ⟨q, hide ?_⟩
        rw [HR.out, refXs_stop (by
          by_cases q1 : i < N
          · exact .inr (fun q3 => q ⟨q1, q3⟩)
          · exact .inl (by omega)), List.append_nil]
    rcases hlt with ⟨hlt, rfl⟩ | ⟨hno, HX⟩
    · have hlt' : (i : Int) < (N : Int) := by omega
      obtain ⟨j, hj⟩ : ∃ j, N - i = j + 1 := ⟨N - i - 1, by omega⟩
      rw [hj, refXs_next rfl] at HR
      have hj2 : N - (i + 1) = j := by omega
      have CT : Hid (Calls Tryz.prog 12 #[.pointer (some ⟨D, 0, none⟩), .int .i64 1024] wr fun x w' => x = .returned (.string (xV s (p, 0))) ∧ CuR w' D s (xS s (p, 0)).1 (xS s (p, 0)).2 ∧ But D wr w') := hide (rText_any hs hpz HC.out)
      have hpx := xS_le s (p, 0) hpz
      obtain ⟨XV, hXV⟩ : ∃ XV, XV = xV s (p, 0) := ⟨_, rfl⟩
      obtain ⟨XS, hXS⟩ : ∃ XS, XS = xS s (p, 0) := ⟨_, rfl⟩
      rw [← hXV, ← hXS] at CT HR
      rw [← hXS] at hpx
      clear hXV hXS hj
      go_wp2_with fail
      refine CT.out.mono ?_
      rintro x wa ⟨rfl, hca, hba⟩
      have HCa := hide hca
      have HBa : Hid (Below D WA wa) := hide (HB.out.trans (hba.to_below (Nat.le_of_lt hDr) (Nat.le_refl _)))
      have HOa := hide (own_butB HO.out hba (Nat.lt_succ_self D))
      have HO2 := hide (HOa.out.alloc (.cells #[.string XV] 9))
      have hDa := HCa.out.lt
      clear hca hba CT
      go_wp2_with (at_builtin; refine wpList_append_own _ rfl _ _ 38 rfl (D + 1) 9 i0 (.string ⟨#[]⟩) 1 16 Tryz.underlying38 hi hz0 hz1 hz2 rfl (by decide) _ i (l.map Value.string) rfl HO2.out ⟨wa.heap.size, 0, none⟩ 1 1 [.string XV] rfl rfl (cell_one_new _ _ _) (by simp [Value.oneCell']) (by unfold maxLen; omega) (by omega) (by simp; omega) ?_
                   intro v' w3 hown' hg3 hnil3
                   obtain ⟨ao2, cap2, rfl⟩ := own_sliceB hown'
                   have B3 : Hid (Below (D + 1) wa w3) := hide (((Below.refl (D + 1) wa).alloc hDa (.cells #[.string XV] 9)).grown hg3 (by simp; omega) (fun j hj => (HO2.out.lt j hj).1))
                   have O3 := hide hown'
                   clear hg3 hnil3 hown')
      refine ⟨⟨i + 1, l ++ [XV], XS.1, XS.2, ao2, cap2, by omega, rfl, by go_num, by simp [hil], hpx, hide ?_, hide (HCa.out.off B3.out (Nat.lt_succ_self D)), hide (HBa.out.trans (B3.out.mono (Nat.le_succ D))), hide ?_⟩, by simp [intOf]; omega⟩
      · rw [hj2, HR.out, List.append_assoc]; rfl
      · rw [List.map_append]; exact O3.out
    · clear HR
      have TD : Hid (TxD wr D (.slice ao i cap) l) := hide (by subst hil; exact TxD.of_own (D := D) HO.out (Nat.lt_succ_self D))
      have HRF : Hid (refP s = (l, (p, e))) := hide (by rw [HRP.out, HX.out])
      obtain ⟨WC, hWC⟩ : ∃ WC, WC = wr.alloc (.cells #[.slice none 0 0] 24) := ⟨_, rfl⟩
      have BC : Below wr.heap.size wr WC := by rw [hWC]; exact (Below.refl _ _).alloc (Nat.le_refl _) _
      have QC : Hid (Blk WC wr.heap.size #[.slice none 0 0] 24) := hide (by rw [hWC]; exact Blk.new _ _ _)
      have HWC := hide hWC.symm
      obtain ⟨M, hM⟩ : ∃ M, M = gV s (p, e) 1 := ⟨_, rfl⟩
      obtain ⟨S1, hS1⟩ : ∃ S1, S1 = gS s (p, e) 1 := ⟨_, rfl⟩
      have hp1 := gS_le s (p, e) 1 hpz
      rw [← hS1] at hp1
      have hMl : M < 256 := by
        rw [hM]
        unfold gV getV
        split
        · exact beA_lt (bys s) p 1
        · decide
      obtain ⟨OK, hOK⟩ : ∃ OK, OK = decide (S1.2 = 0) := ⟨_, rfl⟩
      have HRB : Hid (refB s = refTs l s M S1 OK) := hide (by unfold refB; rw [HRF.out]; show refTs l s (gV s (p, e) 1) (gS s (p, e) 1) (decide ((gS s (p, e) 1).2 = 0)) = _; rw [← hM, ← hS1, ← hOK])
      have hok : ((S1.2 : Int) == 0) = OK := by
        rw [hOK]
        by_cases q : S1.2 = 0
        · rw [decide_eq_true q, q]; rfl
        · rw [decide_eq_false q]; exact beq_eq_false_iff_ne.2 (by omega)
      have C2 : Hid (Calls Tryz.prog 11 #[.pointer (some ⟨D, 0, none⟩), .int .i64 1] WC fun x w' => x = .returned (.int .i64 (M : Int)) ∧ CuR w' D s S1.1 S1.2 ∧ But D WC w') := hide (by rw [hM, hS1]; exact rGetS (st := (p, e)) 1 hs hpz (by decide) (HC.out.off BC hDr))
      have HBC := hide BC
      clear hWC hM hS1 hOK HX BC HO
      rcases Decidable.em (i < N) with q1 | q1
      all_goals
        first
        | (have q2 : (i : Int) < (N : Int) := (by omega); have q4 : ¬ e = 0 := fun h => hno ⟨q1, h⟩; have q3 : ((e : Int) == 0) = false := beq_eq_false_iff_ne.2 (by omega))
        | (have q2 : ¬ (i : Int) < (N : Int) := (by omega); have q3 : True := trivial)
        clear hno
        go_wp2_with fail
        simp only [HWC.out]
        have hBk : D < wr.heap.size := hDr
        have hBw : WA.heap.size ≤ wr.heap.size := HB.out.size
        obtain ⟨Bk, hBke⟩ : ∃ Bk, Bk = wr.heap.size := ⟨_, rfl⟩
        have HBke := hide hBke
        rw [← hBke] at QC hBk ⊢
        clear hBke HWC q1 q2 q3
        refine C2.out.mono ?_
        rintro x wd ⟨rfl, hcd, hbd⟩
        have HCd := hide hcd
        have U1 : Hid (But D wr wd) := hide ((But.of_below HBC.out).trans hbd)
        have QCd : Hid (Blk wd Bk #[.slice none 0 0] 24) := hide (hbd.blk QC.out (by omega))
        have d2 := Blk.cell hcd 2
        clear hcd hbd C2 HBC QC c2 HC
        have HGC : Hid (∀ (X : World) (q f : Nat), q ≤ s.size → CuR X D s q f → TxD X D (.slice ao i cap) l → Calls Tryz.prog 13 #[.pointer (some ⟨D, 0, none⟩), .slice ao i cap] X fun x w' => ∃ ve, x = .returned (.tuple #[.agg #[.string (refG l s (q, f)).1.name, .int .i64 (refG l s (q, f)).1.parent, ve], .bool (refG l s (q, f)).2.1]) ∧ w'.ownsRow X.heap.size 33 4 ve (refG l s (q, f)).1.ents.length (cellsEn (refG l s (q, f)).1.ents) ∧ CuR w' D s (refG l s (q, f)).2.2.1 (refG l s (q, f)).2.2.2 ∧ (refG l s (q, f)).2.2.1 ≤ s.size ∧ But D X w') := hide (fun X q f h1 h2 h3 => rget_any (st := (q, f)) hs h1 h2 h3)
        have hUs : wr.heap.size = Bk := HBke.out.symm
        have HUs := hide hUs
        clear hUs
        go_wp2_with fail
        obtain ⟨WR, hWR⟩ : ∃ X, X = wr := ⟨_, rfl⟩
        subst hWR
        go_loopw [10, 11] (fun x y w2 => ∃ (j : Nat) (b : Bool) (cs : List (Tab × Value)) (q f : Nat) (a2 : Option Addr) (k2 : Nat), j ≤ M ∧ x = .bool b ∧ y = .int .i64 (j : Int) ∧ cs.length = j ∧ q ≤ s.size ∧ Hid (refTs l s M S1 OK = (cs.map Prod.fst ++ (refTs l s (M - j) (q, f) b).1, (refTs l s (M - j) (q, f) b).2)) ∧ Hid (CuR w2 D s q f) ∧ Hid (But D WR w2) ∧ Hid (Blk w2 Bk #[.slice a2 j k2] 24) ∧ Hid (w2.ownsRow (Bk + 1) 31 3 (.slice a2 j k2) j (cellsTb cs)) ∧ Hid (EntsR w2 (Bk + 1) cs)) (fun _ y _ => M - (intOf y).toNat)
        case atStart => exact ⟨0, OK, [], S1.1, S1.2, none, 0, Nat.zero_le _, rfl, rfl, rfl, hp1, hide rfl, HCd, U1, QCd, hide (World.ownsRow_nil _ _ _ _), hide (fun c hc => by simp at hc)⟩
        case round =>
          clear d2
          obtain ⟨j, b, cs, q, f, a2, k2, hjM, rfl, rfl, hcl, hqz, HR, HC, HU, HQ, HO, HE⟩ := hrel
          have hlt : j < M ∧ b = true ∨ (¬ (j < M ∧ b = true) ∧ Hid (refTs l s M S1 OK = (cs.map Prod.fst, b, (q, f)))) := by
            by_cases z : j < M ∧ b = true
            · exact .inl z
            · refine .inr ⟨z, hide ?_⟩
              rw [HR.out, refTs_stop (by
                by_cases z1 : j < M
                · refine .inr ?_
                  cases b with
                  | true => exact absurd ⟨z1, rfl⟩ z
                  | false => rfl
                · exact .inl (by omega)), List.append_nil]
          rcases hlt with ⟨hlt, rfl⟩ | ⟨hno, HX⟩
          · have hlt' : (j : Int) < (M : Int) := by omega
            obtain ⟨k, hk⟩ : ∃ k, M - j = k + 1 := ⟨M - j - 1, by omega⟩
            rw [hk, refTs_next] at HR
            have hk2 : M - (j + 1) = k := by omega
            have CG := hide (HGC.out wr q f hqz HC.out (TD.out.but HU.out))
            obtain ⟨GT, GF, GS, hG⟩ : ∃ GT GF GS, refG l s (q, f) = (GT, GF, GS) := ⟨_, _, _, rfl⟩
            rw [hG] at CG HR
            clear hG hk
            have hBr : Bk < wr.heap.size := HQ.out.lt
            go_wp2_with fail
            refine CG.out.mono ?_
            rintro x wa ⟨ve, rfl, hoe, hca, hqa, hba⟩
            obtain ⟨a4, k4, rfl⟩ := own_sliceB hoe
            simp only
            obtain ⟨wt, hwt⟩ : ∃ wt, wt = wa.alloc (.cells #[.string GT.name, .int .i64 GT.parent, .slice a4 GT.ents.length k4] 31) := ⟨_, rfl⟩
            have HWT := hide hwt.symm
            have BT : Below wa.heap.size wa wt := by rw [hwt]; exact (Below.refl _ _).alloc (Nat.le_refl _) _
            have QT : Hid (Blk wt wa.heap.size #[.string GT.name, .int .i64 GT.parent, .slice a4 GT.ents.length k4] 31) := hide (by rw [hwt]; exact Blk.new _ _ _)
            have hbt : But D wr wt := hba.trans (.of_below BT)
            have HBa : Hid (But D WR wt) := hide (HU.out.trans hbt)
            have HCa := hide (hca.off BT hca.lt)
            have HQa := hide (hbt.blk HQ.out (by omega))
            have HOa := hide (own_butB HO.out hbt (by omega))
            have HEa : Hid (EntsR wt (Bk + 1) (cs ++ [(GT, .slice a4 GT.ents.length k4)])) := hide ((HE.out.but hbt (by omega)).add (own_belowB (own_baseB hoe (by omega)) BT))
            have HO2 := hide (HOa.out.alloc (.cells #[.string GT.name, .int .i64 GT.parent, .slice a4 GT.ents.length k4] 31))
            have HE2 := hide (HEa.out.below ((Below.refl wt.heap.size wt).alloc (Nat.le_refl _) (.cells #[.string GT.name, .int .i64 GT.parent, .slice a4 GT.ents.length k4] 31)))
            have ONE : Hid (∀ u ∈ [Value.string GT.name, Value.int .i64 GT.parent, Value.slice a4 GT.ents.length k4], u.oneCell' = true) := hide (by
              intro u hu
              simp only [List.mem_cons, List.not_mem_nil, or_false] at hu
              rcases hu with rfl | rfl | rfl <;> rfl)
            have hBa : Bk + 1 ≤ wt.heap.size := HQa.out.lt
            have b0 := Blk.cell HQa.out 0
            have x0 := Blk.cell QT.out 0
            have x1 := Blk.cell QT.out 1
            have x2 := Blk.cell QT.out 2
            clear hca hba hoe CG hwt BT hbt
            go_wp2_with (first
              | simp only [HWT.out]
              | (at_builtin; refine wpList_append_own _ rfl _ _ 22 rfl (Bk + 1) 31 i1 (.agg #[.string ⟨#[]⟩, .int .i64 0, .slice none 0 0]) 3 48 Tryz.underlying22 hi1 hy0 hy1 hy2 rfl (by decide) _ j (cellsTb cs) rfl HO2.out ⟨wt.heap.size, 0, none⟩ 1 1 [.string GT.name, .int .i64 GT.parent, .slice a4 GT.ents.length k4] rfl rfl (cell_three_new _ _ _ _ _) ONE.out (by unfold maxLen; omega) (by omega) (by simp; omega) ?_
                 intro v' w3 hown' hg3 hnil3
                 obtain ⟨a5, k5, rfl⟩ := own_sliceB hown'
                 have B3 : Hid (Below (Bk + 1) wt w3) := hide (((Below.refl (Bk + 1) wt).alloc hBa (.cells #[.string GT.name, .int .i64 GT.parent, .slice a4 GT.ents.length k4] 31)).grown hg3 (by simp; omega) (fun j hj => (HO2.out.lt j hj).1))
                 have E3 := hide (HE2.out.grown HO2.out hg3)
                 have O3 := hide hown'
                 have Q3 := hide (HQa.out.below B3.out (Nat.lt_succ_self Bk))
                 have c3 := Blk.cell Q3.out 0
                 have f3 := Blk.free Q3.out 0
                 clear hg3 hnil3 hown' b0))
            refine ⟨⟨j + 1, GF, cs ++ [(GT, .slice a4 GT.ents.length k4)], GS.1, GS.2, a5, k5, by omega, rfl, by go_num, by simp [hcl], hqa, hide ?_, hide ?_, hide ?_, hide (Q3.out.one _), hide ?_, hide (E3.out.set (Nat.lt_succ_self Bk))⟩, by simp [intOf]; omega⟩
            · rw [hk2, HR.out, List.map_append, List.append_assoc]; rfl
            · exact Blk.other (HCa.out.off B3.out (by omega)) (a := ⟨Bk, 0, none⟩) (by show Bk ≠ D; omega) _
            · exact (HBa.out.up B3.out (by rw [HUs.out]; omega)).setNew (by rw [HUs.out]; exact Nat.le_refl _) _
            · rw [cellsTb_app]; exact own_setB O3.out (Nat.lt_succ_self Bk)
          · clear HR
            have TS : Hid (TSl wr (.slice a2 j k2) (cs.map Prod.fst)) := hide (by subst hcl; exact TSl.of_own HO.out HE.out.esl (Below.refl _ _))
            have hWR : w.heap.size ≤ WR.heap.size := Nat.le_of_lt (Nat.lt_of_lt_of_le QH.out.lt HB.out.size)
            have UW : Hid (Below w.heap.size w wr) := hide ((BA.out.trans (HB.out.mono (Nat.le_of_lt hDw))).trans (HU.out.to_below hWR (Nat.le_of_lt hDw)))
            have QR : Hid (Blk wr w.heap.size #[.slice none 0 0] 24) := hide (HU.out.blk (QH.out.below HB.out hDw) (by omega))
            have HRX : Hid (refB s = (cs.map Prod.fst, b, (q, f))) := hide (by rw [HRB.out, HX.out])
            have hwB : w.heap.size < Bk := by omega
            cases b with
            | false =>
              have OKF : Hid (decOk s = false) := hide (by
                cases h : decOk s with
                | false => rfl
                | true =>
                  have := ((ref_dec s).1 h).1
                  rw [HRX.out] at this
                  cases this)
              have r0 := Blk.cell QR.out 0
              have g0 := Blk.free QR.out 0
              have QN := hide (QR.out.one (.slice none 0 0))
              have UN := hide (UW.out.setCell (p := ⟨w.heap.size, 0, none⟩) (Nat.le_refl _) (.slice none 0 0))
              clear hno
              rcases Decidable.em ((j : Int) < (M : Int)) with z | z
              all_goals
                go_wp2
                refine bodyPost_ret (results_bun2 rfl _ _ _ _ rfl QN.out) rfl ?_
                exact ⟨fun h => by (rw [OKF.out] at h; cases h), fun _ => rfl, UN.out⟩
            | true =>
              have z : ¬ (j : Int) < (M : Int) := fun h => hno ⟨by omega, rfl⟩
              obtain ⟨hsz, hln⟩ := ref_size s hs
              have HSZ := hide hsz
              rw [HRX.out] at hln HSZ
              have EN : Hid (Calls Tryz.prog 14 #[.agg #[.slice a2 j k2]] wr fun e w' => e = .returned (encA (cs.map Prod.fst)) ∧ Below wr.heap.size wr w') := hide (rEncode_any TS.out (Nat.le_trans hln (by decide)) HSZ.out)
              have RE : Hid (encA (cs.map Prod.fst) = .tuple #[.string (if checkT (cs.map Prod.fst) = 0 then ⟨(encT (cs.map Prod.fst)).toArray⟩ else ⟨#[]⟩), .int .i64 (checkT (cs.map Prod.fst) : Int)]) := hide rfl
              obtain ⟨C, hC⟩ : ∃ C, C = checkT (cs.map Prod.fst) := ⟨_, rfl⟩
              rw [← hC] at RE
              rw [RE.out] at EN
              obtain ⟨X, hX⟩ : ∃ X : ByteArray, X = (if C = 0 then ⟨(encT (cs.map Prod.fst)).toArray⟩ else ⟨#[]⟩) := ⟨_, rfl⟩
              rw [← hX] at EN
              have DX : Hid (decOk s = (decide (C = 0) && (X.toList == s.toList))) := hide (by
                obtain ⟨d1, d2⟩ := ref_dec s
                rw [HRX.out] at d1 d2
                simp only at d1 d2
                cases h : decOk s with
                | true =>
                  obtain ⟨k1, k2⟩ := of_decide_eq_true h
                  obtain ⟨_, e2⟩ := d1 h
                  rw [← e2] at k1 k2
                  have c0 : C = 0 := by rw [hC]; exact k1
                  rw [hX, if_pos c0, eqT, decide_eq_true c0, Bool.true_and, k2]
                  exact (decide_eq_true (mkByB s)).symm
                | false =>
                  by_cases c0 : C = 0
                  · rw [hX, if_pos c0, eqT, decide_eq_true c0, Bool.true_and]
                    refine (decide_eq_false (fun k => ?_)).symm
                    have := d2 trivial (by rw [← hC]; exact c0) (congrArg bys k)
                    rw [h] at this
                    cases this
                  · rw [decide_eq_false c0, Bool.false_and])
              have b0 := Blk.cell HQ.out 0
              clear hno hC hX RE hsz hln
              go_wp2_with fail
              refine EN.out.mono ?_
              rintro x w3 ⟨rfl, hb3⟩
              have U3 := hide (UW.out.trans (hb3.mono UW.out.size))
              have Q3 := hide (QR.out.below hb3 QR.out.lt)
              have B3 := hide (HQ.out.below hb3 HQ.out.lt)
              have O3 := hide (own_belowB HO.out hb3)
              have E3 := hide (HE.out.below hb3)
              have p0 := Blk.cell B3.out 0
              have h0 := Blk.cell Q3.out 0
              have g0 := Blk.free Q3.out 0
              have QN := hide (Q3.out.one (.slice none 0 0))
              have QY := hide (Q3.out.one (.slice a2 j k2))
              have UN := hide (U3.out.setCell (p := ⟨w.heap.size, 0, none⟩) (Nat.le_refl _) (.slice none 0 0))
              have UY := hide (U3.out.setCell (p := ⟨w.heap.size, 0, none⟩) (Nat.le_refl _) (.slice a2 j k2))
              have OY : Hid ((w3.setCell ⟨w.heap.size, 0, none⟩ (.slice a2 j k2)).ownsRow w.heap.size 31 3 (.slice a2 j k2) j (cellsTb cs)) := hide (own_baseB (own_setB O3.out (by omega)) (by omega))
              have EY : Hid (EntsR (w3.setCell ⟨w.heap.size, 0, none⟩ (.slice a2 j k2)) w.heap.size cs) := hide ((E3.out.set (by omega)).base (by omega))
              clear hb3 EN b0
              by_cases hC0 : C = 0
              · subst hC0
                cases hx : (X.toList == s.toList) with
                | true =>
                  have OKT : Hid (decOk s = true) := hide (by rw [DX.out, hx]; rfl)
                  clear DX
                  go_wp2
                  refine bodyPost_ret (results_bun2 rfl _ _ _ _ rfl QY.out) rfl ?_
                  exact ⟨fun h => ⟨_, cs, rfl, by rw [← ((ref_dec s).1 h).2, HRX.out], by rw [hcl]; exact OY.out, EY.out⟩, fun h => by (rw [OKT.out] at h; cases h), UY.out⟩
                | false =>
                  have OKF : Hid (decOk s = false) := hide (by rw [DX.out, hx]; rfl)
                  clear DX
                  go_wp2
                  refine bodyPost_ret (results_bun2 rfl _ _ _ _ rfl QN.out) rfl ?_
                  exact ⟨fun h => by (rw [OKF.out] at h; cases h), fun _ => rfl, UN.out⟩
              · have OKF : Hid (decOk s = false) := hide (by rw [DX.out, decide_eq_false hC0]; rfl)
                have hC' : ((C : Int) == 0) = false := beq_eq_false_iff_ne.2 (by omega)
                have hC2 : ((C : Int) != 0) = true := by rw [bne, hC']; rfl
                clear DX
                go_wp2
                refine bodyPost_ret (results_bun2 rfl _ _ _ _ rfl QN.out) rfl ?_
                exact ⟨fun h => by (rw [OKF.out] at h; cases h), fun _ => rfl, UN.out⟩

end Go.Proofs.YtihnakblcfealaaGreatDoor

namespace Go.Proofs.YtihnakblcfealaaGreatDoor
open Go.RowKit

theorem run_append_full {P : Program} {w : World} (t ty e : TypeId) (i : TypeInfo) (z : Value) (size bytes : Nat) (ht : P.underlying t = some (.slice e)) (hi : P.info? e = some i) (hz : i.zero = some z)
    (hsize : i.size = size) (hby : i.bytes = bytes) (hzs : z.cells.size = size) (hsz : 0 < size) {v : Value} {n : Nat} {xs : List Value} {B : Nat} (hB : B ≤ w.heap.size) (hown : w.ownsRow B e size v n xs)
    (hfull : (v = .slice none 0 0 ∧ n = 0) ∨ ∃ g, v = .slice (some ⟨g, 0, none⟩) n n ∧ g < w.heap.size) (a : Addr) (m c : Nat) (news : List Value) (hl : news.length = m * size) (hnews : ∀ j u, news[j]? = some u → w.cell? (a.add j) = some u)
    (h1 : ∀ u ∈ news, u.oneCell' = true) (h63 : n + m ≤ maxLen) (hbytes : (n + m) * bytes ≤ 140737488355328) (hm : 0 < m) :
    ∃ g c' w', (Builtin.append_ #[t, t] ty #[v, .slice (some a) m c]).run P w = .ok (.slice (some ⟨g, 0, none⟩) (n + m) c') w' ∧ w.heap.size ≤ g ∧ Below w.heap.size w w' := by
  obtain ⟨v1, w1, r1, _, gr, _⟩ := run_append_own (P := P) w B t ty e i z size bytes ht hi hz hsize hby hzs hsz v n xs hown a m c news hl hnews h1 h63 hbytes hB
  obtain ⟨ao, b, hv, hc⟩ : ∃ ao b, v = .slice ao n n ∧ Came w size ao b 0 n n xs := by
    rcases hfull with ⟨rfl, rfl⟩ | ⟨g, rfl, hg⟩
    · have hx : xs.length = 0 := by rw [hown.1, Nat.zero_mul]
      obtain rfl := List.length_eq_zero_iff.1 hx
      exact ⟨none, 0, rfl, Nat.le_refl _, fun h => absurd h (Nat.lt_irrefl _), fun h => absurd h (Nat.lt_irrefl _), by simp, fun j u h => by simp at h, fun j h => by simp at h⟩
    · refine ⟨some ⟨g, 0, none⟩, g, rfl, Nat.le_refl _, fun _ => rfl, fun _ => hg, hown.1, fun j u h => ?_, fun j h => by rw [Nat.sub_self, Nat.zero_mul] at h; omega⟩
      have q := World.ownsRow.cells hown (g := g) rfl j u h
      rw [Addr.add_lit] at q
      exact q
  subst hv
  obtain ⟨v2, w2, r2, U⟩ := run_append_upon (P := P) hc t t ty i z bytes ht hi hz hsize hby hzs (Upon.start hc) (.slice (some a) m c) m news (Src.ofSlice w ht a m c news hl hnews h1) (by simpa using h63) (by simpa using hbytes)
  rw [r1] at r2
  injection r2 with e1 e2
  subst e1 e2
  have hr : Upon.next n n size 0 0 m = 0 := by unfold Upon.next; rw [if_neg (by omega)]
  rw [hr] at U
  have hb : Below w.heap.size w w1 := ⟨gr.os, gr.tape, gr.output, gr.size, fun k hk => U.kept.block hk (fun p hp => by
    obtain ⟨j, hj, _⟩ := hp
    exact absurd hj (Nat.not_lt_zero _))⟩
  rcases U.val with ⟨q, _⟩ | ⟨_, g, c', rfl, ho⟩
  · omega
  · exact ⟨g, c', w1, by rw [r1, Nat.zero_add], ho.new, hb⟩

theorem step_append_full {P : Program} {ops : Array Oper} {o : Oper} {a : Act} {w : World} {K : Act → World → Prop} {Q : Exit → Act → World → Prop} {E : Prop}
    (hg : o.guard = none) (s x : Operand) (t : TypeId) (ho : o.op = Op.call { callee := Callee.builtin Builtin.append, args := #[s, x], argTypes := #[t, t] })
    (e : TypeId) (i : TypeInfo) (z : Value) (size bytes : Nat) (ht : P.underlying t = some (.slice e)) (hi : P.info? e = some i) (hz : i.zero = some z)
    (hsize : i.size = size) (hby : i.bytes = bytes) (hzs : z.cells.size = size) (hsz : 0 < size) (v : Value) (n : Nat) (xs : List Value) (B : Nat) (hs : a.eval s = v) (hB : B ≤ w.heap.size) (hown : w.ownsRow B e size v n xs)
    (hfull : (v = .slice none 0 0 ∧ n = 0) ∨ ∃ g, v = .slice (some ⟨g, 0, none⟩) n n ∧ g < w.heap.size) (ad : Addr) (m c : Nat) (news : List Value) (hx : a.eval x = .slice (some ad) m c) (hl : news.length = m * size) (hnews : ∀ j u, news[j]? = some u → w.cell? (ad.add j) = some u)
    (h1 : ∀ u ∈ news, u.oneCell' = true) (h63 : n + m ≤ maxLen) (hbytes : (n + m) * bytes ≤ 140737488355328) (hm : 0 < m)
    (hK : ∀ g c' w', w.heap.size ≤ g → Below w.heap.size w w' → K (a.put o.dst (.slice (some ⟨g, 0, none⟩) (n + m) c')) w') :
    if Region.wanted o (yielded ops a.tmps) = true then Oper.wp P o a w K Q else E := by
  have hw : Region.wanted o (yielded ops a.tmps) = true := by simp [Region.wanted, hg]
  rw [if_pos hw]
  obtain ⟨g, c', w', hrun, hgg, hb⟩ := run_append_full (P := P) t o.type e i z size bytes ht hi hz hsize hby hzs hsz hB hown hfull ad m c news hl hnews h1 h63 hbytes hm
  unfold Oper.wp
  simp [execOp, ho, resolve, invoke, builtin, hs, hx, hrun, Result.andThen]
  exact hK g c' w' hgg hb

end Go.Proofs.YtihnakblcfealaaGreatDoor

namespace Go.Proofs.YtihnakblcfealaaGreatDoor
open Go.RowKit

structure Mid (lo hi : Nat) (w w' : World) : Prop where
  os : w'.os = w.os
  tape : w'.tape = w.tape
  output : w'.output = w.output
  size : w.heap.size ≤ w'.heap.size
  block : ∀ b, b < w.heap.size → (b < lo ∨ hi ≤ b) → w'.heap[b]? = w.heap[b]?
section
variable {lo hi : Nat} {a b c : World}
theorem Mid.refl (lo hi : Nat) (w : World) : Mid lo hi w w := ⟨rfl, rfl, rfl, Nat.le_refl _, fun _ _ _ => rfl⟩
theorem Mid.below (h : Mid lo hi a b) (hb : Below b.heap.size b c) : Mid lo hi a c := ⟨hb.os.trans h.os, hb.tape.trans h.tape, hb.output.trans h.output, Nat.le_trans h.size hb.size, fun k h1 h2 => (hb.block k (Nat.lt_of_lt_of_le h1 h.size)).trans (h.block k h1 h2)⟩
theorem Mid.set (h : Mid lo hi a b) (g i : Nat) (v : Value) (h1 : lo ≤ g) (h2 : g < hi) : Mid lo hi a (b.setCell ⟨g, i, none⟩ v) := by
  refine ⟨h.os, h.tape, h.output, by rw [show (b.setCell ⟨g, i, none⟩ v).heap.size = b.heap.size by simp [World.setCell]]; exact h.size, fun k k1 k2 => ?_⟩
  have hne : g ≠ k := by omega
  rw [← h.block k k1 k2]
  simp [World.setCell, Array.getElem?_modify, hne]
theorem Mid.blk (h : Mid lo hi a b) {g : Nat} {cs : Array Value} {T : TypeId} (hg : Blk a g cs T) (h1 : g < lo ∨ hi ≤ g) : Blk b g cs T := by
  have := hg.lt
  unfold Blk at *
  rw [h.block g this h1]
  exact hg
theorem Mid.own (h : Mid lo hi a b) {B sz n : Nat} {e : TypeId} {v : Value} {xs : List Value} (ho : a.ownsRow B e sz v n xs) (hB : hi ≤ B) : b.ownsRow B e sz v n xs := by
  refine ⟨ho.1, ?_⟩
  rcases ho.2 with q | ⟨g, cap, cur, rfl, hg, hh, r⟩
  · exact .inl q
  · exact .inr ⟨g, cap, cur, rfl, hg, by rw [h.block g (lt_of_block hh) (.inr (by omega))]; exact hh, r⟩
theorem Mid.made (h : Mid lo hi a b) {T : TypeId} {B n : Nat} {v : Value} {cs : List Value} (hm : Made T B a v n cs) (hB : hi ≤ B) : Made T B b v n cs := by
  rcases hm with q | ⟨g, h1, h2, h3⟩
  · exact .inl q
  · exact .inr ⟨g, h1, h2, h.blk h3 (.inr (by omega))⟩
theorem Mid.madeT (h : Mid lo hi a b) {B : Nat} {v : Value} {cs : List (Tab × Value)} (hm : MadeT B a v cs) (hB : hi ≤ B) : MadeT B b v cs := ⟨h.made hm.1 hB, fun c hc => h.made (hm.2 c hc) hB⟩
theorem Mid.ents (h : Mid lo hi a b) {B : Nat} {cs : List (Tab × Value)} (hm : EntsR a B cs) (hB : hi ≤ B) : EntsR b B cs := fun c hc => h.own (hm c hc) hB
theorem Mid.out {w : World} {B : Nat} (h : Mid lo hi a b) (hw : Below B w a) (h1 : B ≤ lo) (h2 : B ≤ a.heap.size) : Below B w b :=
  hw.trans ⟨h.os, h.tape, h.output, h.size, fun k hk => h.block k (by omega) (.inl (by omega))⟩
end

def Room (T : TypeId) (sz lo hi : Nat) (w : World) (v : Value) (n : Nat) : Prop := (n = 0 ∧ v = .slice none 0 0) ∨ ∃ g arr, v = .slice (some ⟨g, 0, none⟩) n n ∧ lo ≤ g ∧ g < hi ∧ Blk w g arr T ∧ arr.size = n * sz
theorem Room.of_made {T : TypeId} {sz lo hi n : Nat} {w : World} {v : Value} {cs : List Value} (h : Made T lo w v n cs) (hl : cs.length = n * sz) (hw : w.heap.size ≤ hi) : Room T sz lo hi w v n := by
  rcases h with h | ⟨g, h1, h2, h3⟩
  · exact .inl h
  · exact .inr ⟨g, cs.toArray, h1, h2, Nat.lt_of_lt_of_le h3.lt hw, h3, by simpa using hl⟩
theorem Room.below {T : TypeId} {sz lo hi n : Nat} {w w' : World} {v : Value} (h : Room T sz lo hi w v n) (hb : Below w.heap.size w w') : Room T sz lo hi w' v n := by
  rcases h with h | ⟨g, arr, h1, h2, h3, h4, h5⟩
  · exact .inl h
  · exact .inr ⟨g, arr, h1, h2, h3, h4.below hb h4.lt, h5⟩
theorem Room.set {T : TypeId} {sz lo hi n : Nat} {w : World} {v : Value} (h : Room T sz lo hi w v n) (k j : Nat) (u : Value) : Room T sz lo hi (w.setCell ⟨k, j, none⟩ u) v n := by
  rcases h with h | ⟨g, arr, h1, h2, h3, h4, h5⟩
  · exact .inl h
  · by_cases e : k = g
    · subst e
      exact .inr ⟨k, arr.setIfInBounds j u, h1, h2, h3, h4.setL u, by simpa using h5⟩
    · exact .inr ⟨g, arr, h1, h2, h3, h4.other (a := ⟨k, j, none⟩) e u, h5⟩
theorem Room.own {T : TypeId} {sz lo hi n : Nat} {w : World} {v : Value} (h : Room T sz lo hi w v n) (hn : n ≤ maxLen) : ∃ xs, w.ownsRow 0 T sz v n xs ∧ ((v = .slice none 0 0 ∧ n = 0) ∨ ∃ g, v = .slice (some ⟨g, 0, none⟩) n n ∧ g < w.heap.size) := by
  rcases h with ⟨rfl, rfl⟩ | ⟨g, arr, rfl, _, _, h4, h5⟩
  · exact ⟨[], World.ownsRow_nil _ _ _ _, .inl ⟨rfl, rfl⟩⟩
  · refine ⟨arr.toList, ⟨by simpa using h5, .inr ⟨g, n, arr, rfl, Nat.zero_le _, h4, Nat.le_refl _, hn, by simpa using h5, ?_⟩⟩, .inr ⟨g, rfl, h4.lt⟩⟩
    rw [← h5, ← Array.length_toList, List.take_length]

def RoomT (lo hi : Nat) (w : World) (v : Value) (cs : List (Tab × Value)) (i : Nat) : Prop := (cs.length = 0 ∧ v = .slice none 0 0) ∨ ∃ g arr, v = .slice (some ⟨g, 0, none⟩) cs.length cs.length ∧ lo ≤ g ∧ g < hi ∧ Blk w g arr 31 ∧ arr.size = cs.length * 3 ∧ ∀ k c, i ≤ k → cs[k]? = some c → arr[k * 3 + 2]? = some c.2

section
variable {lo hi i : Nat} {w w' : World} {v : Value} {cs : List (Tab × Value)}
theorem RoomT.below (h : RoomT lo hi w v cs i) (hb : Below w.heap.size w w') : RoomT lo hi w' v cs i := by
  rcases h with h | ⟨g, arr, h1, h2, h3, h4, h5⟩
  · exact .inl h
  · exact .inr ⟨g, arr, h1, h2, h3, h4.below hb h4.lt, h5⟩
theorem RoomT.off (h : RoomT lo hi w v cs i) {k j : Nat} {arr : Array Value} {T : TypeId} (hk : Blk w k arr T) (hT : T ≠ 31) (u : Value) : RoomT lo hi (w.setCell ⟨k, j, none⟩ u) v cs i := by
  rcases h with h | ⟨g, arr', h1, h2, h3, h4, h5⟩
  · exact .inl h
  · refine .inr ⟨g, arr', h1, h2, h3, h4.other (a := ⟨k, j, none⟩) (fun e => hT ?_) u, h5⟩
    have e' : k = g := e
    subst e'
    unfold Blk at hk h4
    rw [hk] at h4
    simp only [Option.some.injEq, Obj.cells.injEq] at h4
    exact h4.2.1
theorem RoomT.put {n : Nat} {g cap : Nat} (h : RoomT lo hi w (.slice (some ⟨g, 0, none⟩) n cap) cs i) {j : Nat} (hj : ∀ k, i + 1 ≤ k → j ≠ k * 3 + 2) (u : Value) : RoomT lo hi (w.setCell ⟨g, j, none⟩ u) (.slice (some ⟨g, 0, none⟩) n cap) cs (i + 1) := by
  rcases h with ⟨_, h⟩ | ⟨g', arr, h1, h2, h3, h4, h5, h6⟩
  · cases h
  · simp only [Value.slice.injEq, Option.some.injEq, Addr.mk.injEq] at h1
    obtain ⟨⟨rfl, _, _⟩, rfl, rfl⟩ := h1
    refine .inr ⟨g, arr.setIfInBounds j u, rfl, h2, h3, h4.setL u, by simpa using h5, fun k c hk hc => ?_⟩
    rw [Array.getElem?_setIfInBounds_ne (hj k hk)]
    exact h6 k c (Nat.le_of_succ_le hk) hc
theorem RoomT.putS {n : Nat} {g cap : Nat} (h : RoomT lo hi w (.slice (some ⟨g, 0, none⟩) n cap) cs i) {j : Nat} (hj : ∀ k, i ≤ k → j ≠ k * 3 + 2) (u : Value) : RoomT lo hi (w.setCell ⟨g, j, none⟩ u) (.slice (some ⟨g, 0, none⟩) n cap) cs i := by
  rcases h with ⟨_, h⟩ | ⟨g', arr, h1, h2, h3, h4, h5, h6⟩
  · cases h
  · simp only [Value.slice.injEq, Option.some.injEq, Addr.mk.injEq] at h1
    obtain ⟨⟨rfl, _, _⟩, rfl, rfl⟩ := h1
    refine .inr ⟨g, arr.setIfInBounds j u, rfl, h2, h3, h4.setL u, by simpa using h5, fun k c hk hc => ?_⟩
    rw [Array.getElem?_setIfInBounds_ne (hj k hk)]
    exact h6 k c hk hc
theorem RoomT.at {L cap : Nat} {ao : Option Addr} {c : Tab × Value} (h : RoomT lo hi w (.slice ao L cap) cs i) (hc : cs[i]? = some c) : ∃ g, ao = some ⟨g, 0, none⟩ ∧ lo ≤ g ∧ g < hi ∧ ∃ arr, Blk w g arr 31 ∧ w.cell? ⟨g, i * 3 + 2, none⟩ = some c.2 ∧ (∃ u, w.cell? ⟨g, i * 3, none⟩ = some u) := by
  have hi' : i < cs.length := by
    rcases Nat.lt_or_ge i cs.length with q | q
    · exact q
    · rw [List.getElem?_eq_none q] at hc; cases hc
  rcases h with ⟨h0, _⟩ | ⟨g, arr, h1, h2, h3, h4, h5, h6⟩
  · omega
  · simp only [Value.slice.injEq] at h1
    refine ⟨g, h1.1, h2, h3, arr, h4, by rw [h4.cell]; exact h6 i c (Nat.le_refl _) hc, arr[i * 3]'(by omega), by rw [h4.cell]; exact Array.getElem?_eq_getElem _⟩
theorem Room.slice {T : TypeId} {sz n : Nat} {u : Value} (h : Room T sz lo hi w u n) : ∃ ao cap, u = .slice ao n cap := by
  rcases h with ⟨rfl, rfl⟩ | ⟨g, _, rfl, _⟩
  · exact ⟨_, _, rfl⟩
  · exact ⟨_, _, rfl⟩
theorem Room.at {T : TypeId} {sz n cap k : Nat} {ao : Option Addr} (h : Room T sz lo hi w (.slice ao n cap) n) (hk : k < n) : ∃ g, ao = some ⟨g, 0, none⟩ ∧ lo ≤ g ∧ g < hi ∧ ∃ arr, Blk w g arr T ∧ ∀ j, j < sz → ∃ u, w.cell? ⟨g, k * sz + j, none⟩ = some u := by
  rcases h with ⟨h0, _⟩ | ⟨g, arr, h1, h2, h3, h4, h5⟩
  · omega
  · simp only [Value.slice.injEq] at h1
    refine ⟨g, h1.1, h2, h3, arr, h4, fun j hj => ?_⟩
    have hb : k * sz + j < arr.size := by
      rw [h5]
      have : (k + 1) * sz ≤ n * sz := Nat.mul_le_mul_right _ hk
      rw [Nat.add_mul, Nat.one_mul] at this
      omega
    exact ⟨arr[k * sz + j], by rw [h4.cell]; exact Array.getElem?_eq_getElem hb⟩
theorem RoomT.of_made (h : MadeT lo w v cs) (hw : w.heap.size ≤ hi) : RoomT lo hi w v cs 0 := by
  rcases h.1 with ⟨h0, h1⟩ | ⟨g, h1, h2, h3⟩
  · exact .inl ⟨h0, h1⟩
  · exact .inr ⟨g, (cellsTb cs).toArray, h1, h2, Nat.lt_of_lt_of_le h3.lt hw, h3, by simpa using cellsTb_len cs, fun k c _ hc => by
      obtain ⟨_, _, g2⟩ := cellsTb_get cs k c hc
      simpa using g2⟩
end

end Go.Proofs.YtihnakblcfealaaGreatDoor

namespace Go.Proofs.YtihnakblcfealaaGreatDoor
open Go.RowKit

set_option maxRecDepth 100000 in
set_option maxHeartbeats 4000000 in
theorem reads_no {w : World} (s : ByteArray) (hs : s.size ≤ 140737488355328) (hT : U8 w) (hno : decOk s = false) :
    Calls Tryz.prog 3 #[.string s] w fun e w' => e = .returned (.bool true) ∧ Below w.heap.size w w' := by
  have HT := hide hT
  have DC : Hid (∀ X, U8 X → Calls Tryz.prog 4 #[.string s] X fun x w' => x = .returned (.tuple #[.agg #[.slice none 0 0], .int .i64 120]) ∧ Below X.heap.size X w') := hide (fun X hX => (Decode_any s X hs hX).mono fun x w' h => ⟨h.2.1 hno, h.2.2⟩)
  have RC : Hid (∀ X, Calls Tryz.prog 5 #[.string s] X fun x w' => x = .returned (.tuple #[.agg #[.slice none 0 0], .int .i64 120]) ∧ Below X.heap.size X w') := hide (fun X => (rDecode_any s X hs).mono fun x w' h => ⟨h.2.1 hno, h.2.2⟩)
  have SM : Hid (∀ X, Calls Tryz.prog 6 #[.agg #[.slice none 0 0], .agg #[.slice none 0 0]] X fun e w' => e = .returned (.bool true) ∧ Below X.heap.size X w') := hide (fun X => same_eq (ts := []) ⟨none, 0, rfl, Nat.le_refl _, .inl rfl⟩ ⟨none, 0, rfl, Nat.le_refl _, .inl rfl⟩ (by decide) (fun i => ⟨Nat.zero_le _, Nat.zero_le _, fun j => ⟨Nat.zero_le _, Nat.zero_le _⟩⟩))
  clear hT hno
  go_enter Tryz.func3, Tryz.ntmps3
  go_wp2_with fail
  refine (DC.out _ HT.out).mono ?_
  rintro x w1 ⟨rfl, hb1⟩
  obtain ⟨WA, hWA⟩ : ∃ WA, WA = w1.alloc (.cells #[.slice none 0 0] 24) := ⟨_, rfl⟩
  have BWA : Hid (Below w1.heap.size w1 WA) := hide (by rw [hWA]; exact (Below.refl _ _).alloc (Nat.le_refl _) _)
  have QWA : Hid (Blk WA w1.heap.size #[.slice none 0 0] 24) := hide (by rw [hWA]; exact Blk.new _ _ _)
  have HWA := hide hWA.symm
  clear hWA
  have UA : Hid (Below w.heap.size w WA) := hide (hb1.trans (BWA.out.mono hb1.size))
  clear hb1
  go_wp2_with fail
  simp only [HWA.out]
  refine (RC.out _).mono ?_
  rintro x w2 ⟨rfl, hb2⟩
  obtain ⟨WB, hWB⟩ : ∃ WB, WB = w2.alloc (.cells #[.slice none 0 0] 24) := ⟨_, rfl⟩
  have BWB : Hid (Below w2.heap.size w2 WB) := hide (by rw [hWB]; exact (Below.refl _ _).alloc (Nat.le_refl _) _)
  have QWB : Hid (Blk WB w2.heap.size #[.slice none 0 0] 24) := hide (by rw [hWB]; exact Blk.new _ _ _)
  have HWB := hide hWB.symm
  clear hWB
  have UB : Hid (Below w.heap.size w WB) := hide (UA.out.trans ((hb2.trans (BWB.out.mono hb2.size)).mono UA.out.size))
  have QA2 : Hid (∀ X, Below WB.heap.size WB X → Blk X w1.heap.size #[.slice none 0 0] 24) := hide (fun X hX => ((QWA.out.below hb2 QWA.out.lt).below BWB.out (Blk.lt (QWA.out.below hb2 QWA.out.lt))).below hX (Nat.lt_of_lt_of_le QWA.out.lt (Nat.le_trans hb2.size BWB.out.size)))
  have QB2 : Hid (∀ X, Below WB.heap.size WB X → Blk X w2.heap.size #[.slice none 0 0] 24) := hide (fun X hX => QWB.out.below hX QWB.out.lt)
  have a0 : (w2.alloc (.cells #[.slice none 0 0] 24)).cell? ⟨w1.heap.size, 0, none⟩ = some (.slice none 0 0) := by rw [HWB.out]; exact (QA2.out WB (Below.refl _ _)).cell 0
  have HUB := hide (HT.out.below UB.out)
  clear hb2
  go_wp2_with fail
  simp only [HWB.out]
  refine (SM.out _).mono ?_
  rintro x w3 ⟨rfl, hb3⟩
  have B3 := hide hb3
  clear a0
  go_wp2_with fail
  refine (DC.out _ (HUB.out.below B3.out)).mono ?_
  rintro x w4 ⟨rfl, hb4⟩
  obtain ⟨WC, hWC⟩ : ∃ WC, WC = w4.alloc (.cells #[.slice none 0 0] 24) := ⟨_, rfl⟩
  have BWC : Hid (Below w4.heap.size w4 WC) := hide (by rw [hWC]; exact (Below.refl _ _).alloc (Nat.le_refl _) _)
  have QWC : Hid (Blk WC w4.heap.size #[.slice none 0 0] 24) := hide (by rw [hWC]; exact Blk.new _ _ _)
  have HWC := hide hWC.symm
  clear hWC
  have B4 : Hid (Below WB.heap.size WB WC) := hide (hb3.trans ((hb4.trans (BWC.out.mono hb4.size)).mono hb3.size))
  have QC4 : Hid (∀ X, Below WC.heap.size WC X → Blk X w4.heap.size #[.slice none 0 0] 24) := hide (fun X hX => QWC.out.below hX QWC.out.lt)
  have a1 : (w4.alloc (.cells #[.slice none 0 0] 24)).cell? ⟨w1.heap.size, 0, none⟩ = some (.slice none 0 0) := by rw [HWC.out]; exact (QA2.out WC B4.out).cell 0
  have HUC := hide (HUB.out.below B4.out)
  clear hb3 hb4
  go_wp2_with fail
  simp only [HWC.out]
  go_loopw [9] (fun y wr => y = .int .i64 0 ∧ WC = wr) (fun _ _ => 0)
  case atStart => exact ⟨rfl, rfl⟩
  case round =>
    obtain ⟨rfl, rfl⟩ := hrel
    have a2 := (QA2.out WC B4.out).cell 0
    have FX : Hid (∀ X, U8 X → Calls Tryz.prog 7 #[] X fun e w' => e = .returned (.bool true) ∧ Below X.heap.size X w') := hide (fun X hX => fixed_any X hX)
    go_wp2_with fail
    refine (DC.out _ HUC.out).mono ?_
    rintro x w5 ⟨rfl, hb5⟩
    obtain ⟨WD, hWD⟩ : ∃ WD, WD = w5.alloc (.cells #[.slice none 0 0] 24) := ⟨_, rfl⟩
    have BWD : Hid (Below w5.heap.size w5 WD) := hide (by rw [hWD]; exact (Below.refl _ _).alloc (Nat.le_refl _) _)
    have QWD : Hid (Blk WD w5.heap.size #[.slice none 0 0] 24) := hide (by rw [hWD]; exact Blk.new _ _ _)
    have HWD := hide hWD.symm
    have B5 : Hid (Below WC.heap.size WC WD) := hide (hb5.trans (BWD.out.mono hb5.size))
    have UD : Hid (Below WB.heap.size WB WD) := hide (B4.out.trans (B5.out.mono B4.out.size))
    have QC5 : Hid (∀ X, Below WD.heap.size WD X → Blk X w4.heap.size #[.slice none 0 0] 24) := hide (fun X hX => QC4.out X (B5.out.trans (hX.mono B5.out.size)))
    have QB5 : Hid (∀ X, Below WD.heap.size WD X → Blk X w2.heap.size #[.slice none 0 0] 24) := hide (fun X hX => QB2.out X (UD.out.trans (hX.mono UD.out.size)))
    have QD5 : Hid (∀ X, Below WD.heap.size WD X → Blk X w5.heap.size #[.slice none 0 0] 24) := hide (fun X hX => QWD.out.below hX QWD.out.lt)
    have HUD := hide (HUC.out.below B5.out)
    clear hb5 hWD a2
    have e1 : (w5.alloc (.cells #[.slice none 0 0] 24)).cell? ⟨w4.heap.size, 0, none⟩ = some (.slice none 0 0) := by rw [HWD.out]; exact (QC5.out WD (Below.refl _ _)).cell 0
    have e2 : (w5.alloc (.cells #[.slice none 0 0] 24)).cell? ⟨w2.heap.size, 0, none⟩ = some (.slice none 0 0) := by rw [HWD.out]; exact (QB5.out WD (Below.refl _ _)).cell 0
    go_wp2_with fail
    simp only [HWD.out]
    refine (SM.out _).mono ?_
    rintro x w6 ⟨rfl, hb6⟩
    have d1 := (QD5.out w6 hb6).cell 0
    have d2 := (QB5.out w6 hb6).cell 0
    have H6 := hide hb6
    clear hb6 e1 e2
    go_wp2_with fail
    refine (SM.out _).mono ?_
    rintro x w7 ⟨rfl, hb7⟩
    have H7 := hide (H6.out.trans (hb7.mono H6.out.size))
    clear hb7 d1 d2 H6
    go_wp2_with fail
    refine (FX.out _ (HUD.out.below H7.out)).mono ?_
    rintro x w8 ⟨rfl, hb8⟩
    have H8 := hide (H7.out.trans (hb8.mono H7.out.size))
    clear hb8
    go_wp2
    go_ret
    exact ⟨rfl, UB.out.trans ((UD.out.trans (H8.out.mono UD.out.size)).mono UB.out.size)⟩

end Go.Proofs.YtihnakblcfealaaGreatDoor
