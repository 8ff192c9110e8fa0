/-
  Tokens and their texts go there and back: the law's walk.
-/
import Derived.Test.YtobcbffakldfcaaDoorAB5
import Derived.Test.YtobcbffakldfcaaDoorAB3
namespace Go.Proofs.YtobcbffakldfcaaDoor
open Go.RowKit

theorem parse_is (l : List UInt8) : (parseR l).1 = 0 ∨ ((parseR l).1 = 130 ∨ (parseR l).1 = 131 ∨ (parseR l).1 = 132) ∧ (parseR l).2 = [] := by
  unfold parseR
  split
  · exact .inr ⟨.inr (.inl rfl), rfl⟩
  · split
    · exact .inr ⟨.inr (.inl rfl), rfl⟩
    · split
      · exact .inr ⟨.inl rfl, rfl⟩
      · split
        · exact .inl rfl
        · next h =>
          rcases chkT_is _ with q | q
          · exact absurd q h
          · exact .inr ⟨.inr q, rfl⟩

set_option maxRecDepth 100000 in
set_option maxHeartbeats 8000000 in
theorem back_row {w : World} {v : Value} {ts : List Tok} (s : ByteArray) (h : TSl w v ts) (hz : SzT ts) (hl : ts.length ≤ 140737488355328) (hs : s.size ≤ 140737488355328) (hT : Wd w) :
    Calls Tryd.prog 5 #[v, .string s] w fun e w' => e = .returned (.bool true) ∧ Below w.heap.size w w' := by
  have H1 := hide (Print_any h hl hz hT)
  have CK : Hid (∀ X, Below w.heap.size w X → Calls Tryd.prog 13 #[v] X fun e w' => e = .returned (.int .i64 (chkT ts : Int)) ∧ Below X.heap.size X w') := hide (fun X hX => Check_any (h.below hX) hl hz (hT.below hX).u8)
  have TS := hide h
  have HT := hide hT
  have hc := chkT_is ts
  unfold printR at H1
  obtain ⟨C, hC⟩ : ∃ C, C = chkT ts := ⟨_, rfl⟩
  rw [← hC] at H1 CK hc
  clear h hT
  rcases hc with hc0 | hc0
  · have hc1 : chkT ts = 0 := by rw [← hC]; exact hc0
    subst hc0
    rw [if_pos rfl] at H1
    obtain ⟨hM, hl64, hs64⟩ := chk_ok hc1
    have hpl := prtL_len ts hM
    have hps : (mkB (prtL ts)).size ≤ 1000000 := by rw [size_mkB]; omega
    have PP := parse_print hc1
    obtain ⟨PL, hPL⟩ : ∃ PL, PL = mkB (prtL ts) := ⟨_, rfl⟩
    rw [← hPL] at hps
    have PB : Hid (parseR (bys PL) = (0, ts)) := hide (by rw [hPL, bys_mkB]; exact PP)
    simp only [← hPL] at H1
    clear PP hPL hpl hM hs64 hC hc1 hl64
    go_enter Tryd.func5, Tryd.ntmps5
    go_wp2_with fail
    refine H1.out.mono ?_
    rintro e w1 ⟨rfl, hb1⟩
    have B1 := hide hb1
    have H2 := hide (CK.out w1 hb1)
    clear hb1 H1 CK
    go_wp2_with fail
    refine H2.out.mono ?_
    rintro e w2 ⟨rfl, hb2⟩
    have B2 := hide (B1.out.trans (hb2.mono B1.out.size))
    have H3 := hide (Parse_any PL w2 (by omega) (HT.out.below B2.out))
    rw [PB.out] at H3
    clear hb2 H2 B1 PB
    go_wp2_with fail
    refine H3.out.mono ?_
    rintro e w3 ⟨v3, rfl, hp3, hb3⟩
    have P3 := hide (show w3.ownsRow w2.heap.size 32 3 v3 ts.length (cellsT ts) from hp3)
    have B3 := hide (B2.out.trans (hb3.mono B2.out.size))
    have H4 := hide (Same_any (TS.out.below B3.out) (TSl.of_own P3.out) hl)
    rw [decide_eq_true rfl] at H4
    clear hp3 hb3 H3 B2 P3
    go_wp2_with fail
    refine H4.out.mono ?_
    rintro e wx ⟨rfl, hbx⟩
    have BX := hide (B3.out.trans (hbx.mono B3.out.size))
    clear hbx H4 B3 TS
    have TWx := hide (HT.out.below BX.out)
    have H5 := hide (Parse_any s wx (by omega) TWx.out)
    have hA := parse_is (bys s)
    obtain ⟨A, hAe⟩ : ∃ A, A = parseR (bys s) := ⟨_, rfl⟩
    rw [← hAe] at H5 hA
    have OKA : Hid (A.1 = 0 → chkT A.2 = 0) := hide (fun h => by
      have q : parseR (bys s) = (0, A.2) := by rw [← hAe, ← h]
      exact (parseR_ok q).choose_spec.2.2.2)
    clear hAe TWx
    obtain ⟨A1, A2⟩ := A
    simp only at H5 hA OKA
    go_wp2_with fail
    refine H5.out.mono ?_
    rintro e w5 ⟨v5, rfl, hp5, hb5⟩
    have P5 := hide (show w5.ownsRow wx.heap.size 32 3 v5 A2.length (cellsT A2) from hp5)
    have B5 := hide (BX.out.trans (hb5.mono BX.out.size))
    clear hp5 hb5 H5 BX
    obtain ⟨ao5, c5, rfl⟩ := own_slice P5.out
    rcases hA with hA0 | ⟨hAe, rfl⟩
    · subst hA0
      have hc5 := OKA.out rfl
      obtain ⟨hM5, hl5, hs5⟩ := chk_ok hc5
      have SZ5 : Hid (SzT A2) := hide (fun i => Nat.le_trans (size_tok A2 i) (by omega))
      have TW5 := hide (HT.out.below B5.out)
      have H6 := hide (Print_any (TSl.of_own P5.out) (by omega) SZ5.out TW5.out)
      rw [show printR A2 = (0, prtL A2) by unfold printR; rw [if_pos hc5]] at H6
      have hpl := prtL_len A2 hM5
      have hps : (mkB (prtL A2)).size ≤ 1000000 := by rw [size_mkB]; omega
      have PP := parse_print hc5
      have CK : Hid (∀ X, Below w5.heap.size w5 X → Calls Tryd.prog 13 #[.slice ao5 A2.length c5] X fun e w' => e = .returned (.int .i64 0) ∧ Below X.heap.size X w') := hide (fun X hX => by
        have q := Check_any (TSl.of_own (own_below P5.out hX)) (by omega) SZ5.out (TW5.out.below hX).u8
        rw [hc5] at q
        exact q)
      have hl5' : A2.length ≤ 140737488355328 := by omega
      obtain ⟨PL, hPL⟩ : ∃ PL, PL = mkB (prtL A2) := ⟨_, rfl⟩
      rw [← hPL] at hps
      have PB : Hid (parseR (bys PL) = (0, A2)) := hide (by rw [hPL, bys_mkB]; exact PP)
      simp only [← hPL] at H6
      clear PP hPL hpl hM5 hs5 hc5 OKA hl5
      go_wp2_with fail
      refine H6.out.mono ?_
      rintro e w6 ⟨rfl, hb6⟩
      have B6 := hide hb6
      have H7 := hide (Parse_any PL w6 (by omega) (TW5.out.below hb6))
      rw [PB.out] at H7
      clear hb6 H6 PB
      go_wp2_with fail
      refine H7.out.mono ?_
      rintro e w7 ⟨v7, rfl, hp7, hb7⟩
      have B7 := hide (B6.out.trans (hb7.mono B6.out.size))
      have P7 := hide (show w7.ownsRow w6.heap.size 32 3 v7 A2.length (cellsT A2) from hp7)
      have H8 := hide (CK.out w7 B7.out)
      clear hp7 hb7 H7 CK B6
      go_wp2_with fail
      refine H8.out.mono ?_
      rintro e w8 ⟨rfl, hb8⟩
      have B8 := hide (B7.out.trans (hb8.mono B7.out.size))
      have H9 := hide (Same_any (TSl.of_own (own_below P5.out B8.out)) (TSl.of_own (own_below P7.out hb8)) hl5')
      rw [decide_eq_true rfl] at H9
      clear hb8 H8 B7
      go_wp2_with fail
      refine H9.out.mono ?_
      rintro e w9 ⟨rfl, hb9⟩
      have B9 := hide (B5.out.trans ((B8.out.trans (hb9.mono B8.out.size)).mono B5.out.size))
      have H10 := hide (fixed13_any w9 (HT.out.below B9.out))
      clear hb9 H9 B8
      go_wp2_with fail
      refine H10.out.mono ?_
      rintro e w10 ⟨rfl, hb10⟩
      have FIN := hide (B9.out.trans (hb10.mono B9.out.size))
      clear hb10 H10
      go_wp2
      go_ret
      exact ⟨rfl, FIN.out⟩
    · have H6 := hide (fixed13_any w5 (HT.out.below B5.out))
      rw [show ([] : List Tok).length = 0 from rfl]
      clear OKA P5
      rcases hAe with rfl | rfl | rfl
      all_goals
        go_wp2_with fail
        refine H6.out.mono ?_
        rintro e w6 ⟨rfl, hb6⟩
        have FIN := hide (B5.out.trans (hb6.mono B5.out.size))
        clear hb6 H6
        go_wp2
        go_ret
        exact ⟨rfl, FIN.out⟩
  · clear hC
    rw [if_neg (by omega)] at H1
    rcases hc0 with rfl | rfl
    all_goals
      go_enter Tryd.func5, Tryd.ntmps5
      go_wp2_with fail
      refine H1.out.mono ?_
      rintro e w1 ⟨rfl, hb1⟩
      have B1 := hide hb1
      have H2 := hide (CK.out w1 hb1)
      clear hb1 H1 CK
      go_wp2_with fail
      refine H2.out.mono ?_
      rintro e wx ⟨rfl, hb2⟩
      have BX := hide (B1.out.trans (hb2.mono B1.out.size))
      clear hb2 H2 B1 TS
      have TWx := hide (HT.out.below BX.out)
      have H5 := hide (Parse_any s wx (by omega) TWx.out)
      have hA := parse_is (bys s)
      obtain ⟨A, hAe⟩ : ∃ A, A = parseR (bys s) := ⟨_, rfl⟩
      rw [← hAe] at H5 hA
      have OKA : Hid (A.1 = 0 → chkT A.2 = 0) := hide (fun h => by
        have q : parseR (bys s) = (0, A.2) := by rw [← hAe, ← h]
        exact (parseR_ok q).choose_spec.2.2.2)
      clear hAe TWx
      obtain ⟨A1, A2⟩ := A
      simp only at H5 hA OKA
      go_wp2_with fail
      refine H5.out.mono ?_
      rintro e w5 ⟨v5, rfl, hp5, hb5⟩
      have P5 := hide (show w5.ownsRow wx.heap.size 32 3 v5 A2.length (cellsT A2) from hp5)
      have B5 := hide (BX.out.trans (hb5.mono BX.out.size))
      clear hp5 hb5 H5 BX
      obtain ⟨ao5, c5, rfl⟩ := own_slice P5.out
      rcases hA with hA0 | ⟨hAe, rfl⟩
      · subst hA0
        have hc5 := OKA.out rfl
        obtain ⟨hM5, hl5, hs5⟩ := chk_ok hc5
        have SZ5 : Hid (SzT A2) := hide (fun i => Nat.le_trans (size_tok A2 i) (by omega))
        have TW5 := hide (HT.out.below B5.out)
        have H6 := hide (Print_any (TSl.of_own P5.out) (by omega) SZ5.out TW5.out)
        rw [show printR A2 = (0, prtL A2) by unfold printR; rw [if_pos hc5]] at H6
        have hpl := prtL_len A2 hM5
        have hps : (mkB (prtL A2)).size ≤ 1000000 := by rw [size_mkB]; omega
        have PP := parse_print hc5
        have CK : Hid (∀ X, Below w5.heap.size w5 X → Calls Tryd.prog 13 #[.slice ao5 A2.length c5] X fun e w' => e = .returned (.int .i64 0) ∧ Below X.heap.size X w') := hide (fun X hX => by
          have q := Check_any (TSl.of_own (own_below P5.out hX)) (by omega) SZ5.out (TW5.out.below hX).u8
          rw [hc5] at q
          exact q)
        have hl5' : A2.length ≤ 140737488355328 := by omega
        obtain ⟨PL, hPL⟩ : ∃ PL, PL = mkB (prtL A2) := ⟨_, rfl⟩
        rw [← hPL] at hps
        have PB : Hid (parseR (bys PL) = (0, A2)) := hide (by rw [hPL, bys_mkB]; exact PP)
        simp only [← hPL] at H6
        clear PP hPL hpl hM5 hs5 hc5 OKA hl5
        go_wp2_with fail
        refine H6.out.mono ?_
        rintro e w6 ⟨rfl, hb6⟩
        have B6 := hide hb6
        have H7 := hide (Parse_any PL w6 (by omega) (TW5.out.below hb6))
        rw [PB.out] at H7
        clear hb6 H6 PB
        go_wp2_with fail
        refine H7.out.mono ?_
        rintro e w7 ⟨v7, rfl, hp7, hb7⟩
        have B7 := hide (B6.out.trans (hb7.mono B6.out.size))
        have P7 := hide (show w7.ownsRow w6.heap.size 32 3 v7 A2.length (cellsT A2) from hp7)
        have H8 := hide (CK.out w7 B7.out)
        clear hp7 hb7 H7 CK B6
        go_wp2_with fail
        refine H8.out.mono ?_
        rintro e w8 ⟨rfl, hb8⟩
        have B8 := hide (B7.out.trans (hb8.mono B7.out.size))
        have H9 := hide (Same_any (TSl.of_own (own_below P5.out B8.out)) (TSl.of_own (own_below P7.out hb8)) hl5')
        rw [decide_eq_true rfl] at H9
        clear hb8 H8 B7
        go_wp2_with fail
        refine H9.out.mono ?_
        rintro e w9 ⟨rfl, hb9⟩
        have B9 := hide (B5.out.trans ((B8.out.trans (hb9.mono B8.out.size)).mono B5.out.size))
        have H10 := hide (fixed13_any w9 (HT.out.below B9.out))
        clear hb9 H9 B8
        go_wp2_with fail
        refine H10.out.mono ?_
        rintro e w10 ⟨rfl, hb10⟩
        have FIN := hide (B9.out.trans (hb10.mono B9.out.size))
        clear hb10 H10
        go_wp2
        go_ret
        exact ⟨rfl, FIN.out⟩
      · have H6 := hide (fixed13_any w5 (HT.out.below B5.out))
        rw [show ([] : List Tok).length = 0 from rfl]
        clear OKA P5
        rcases hAe with rfl | rfl | rfl
        all_goals
          go_wp2_with fail
          refine H6.out.mono ?_
          rintro e w6 ⟨rfl, hb6⟩
          have FIN := hide (B5.out.trans (hb6.mono B5.out.size))
          clear hb6 H6
          go_wp2
          go_ret
          exact ⟨rfl, FIN.out⟩

theorem affixBack_row (W : World) (tab : Wd W) (v : Value) (ts : List Tok) (h : TSl W v ts) (hz : SzT ts) (hl : ts.length * 32 ≤ 140737488351232) (s : ByteArray) (hs : s.size ≤ 140737488355328) :
    Calls Tryd.prog 5 #[v, .string s] W fun e w' => e = .returned (.bool true) ∧ Below W.heap.size W w' := back_row s h hz (by omega) hs tab

end Go.Proofs.YtobcbffakldfcaaDoor
