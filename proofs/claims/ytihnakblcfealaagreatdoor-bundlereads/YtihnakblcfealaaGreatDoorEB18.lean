/-
  BundleReads, of a bundle's bytes.
  What the rows' list of package variables gives, and a world that holds them (a dump without DecodeRuneInString).
-/
import Derived.Test.YtihnakblcfealaaGreatDoorEB17
import Derived.Test.YtihnakblcfealaaGreatDoorEB12
import Derived.Test.YtihnakblcfealaaGreatDoorRows
import Derived.Test.YtihnakblcfealaaGreatDoorEB2
import Derived.Lib.LaidU8
import Derived.Deep.DeepHandedRow
namespace Go.Proofs.YtihnakblcfealaaGreatDoor
open Go.RowKit

set_option maxRecDepth 100000 in
set_option maxHeartbeats 4000000 in
theorem reads_yes {w : World} (s : ByteArray) (hs : s.size ≤ 140737488355328) (hT : U8 w) (hok : decOk s = true) :
    Calls Tryz.prog 3 #[.string s] w fun e w' => e = .returned (.bool true) ∧ Below w.heap.size w w' := by
  obtain ⟨i1, hi1, hy0, hy1, hy2⟩ := info_parts infoE
  have HT := hide hT
  obtain ⟨hsz, hln⟩ := rdB_size s hs
  have DC : Hid (∀ X, U8 X → Calls Tryz.prog 4 #[.string s] X fun x w' => ∃ v cs, x = .returned (.tuple #[.agg #[v], .int .i64 0]) ∧ cs.map Prod.fst = (rdB s).1 ∧ MadeT X.heap.size w' v cs ∧ Below X.heap.size X w') := hide (fun X hX => (Decode_any s X hs hX).mono fun x w' h => by
    obtain ⟨v, cs, h1, h2, h3⟩ := h.1 hok
    exact ⟨v, cs, h1, h2, h3, h.2.2⟩)
  have RC : Hid (∀ X, Calls Tryz.prog 5 #[.string s] X fun x w' => ∃ v cs, x = .returned (.tuple #[.agg #[v], .int .i64 0]) ∧ cs.map Prod.fst = (rdB s).1 ∧ w'.ownsRow X.heap.size 31 3 v cs.length (cellsTb cs) ∧ EntsR w' X.heap.size cs ∧ Below X.heap.size X w') := hide (fun X => (rDecode_any s X hs).mono fun x w' h => by
    obtain ⟨v, cs, h1, h2, h3, h4⟩ := h.1 hok
    exact ⟨v, cs, h1, h2, h3, h4, h.2.2⟩)
  have SM : Hid (∀ X v1 v2, TSl X v1 (rdB s).1 → TSl X v2 (rdB s).1 → Calls Tryz.prog 6 #[.agg #[v1], .agg #[v2]] X fun e w' => e = .returned (.bool true) ∧ Below X.heap.size X w') := hide (fun X v1 v2 h1 h2 => same_eq h1 h2 (Nat.le_trans hln (by decide)) hsz)
  have FX : Hid (∀ X, U8 X → Calls Tryz.prog 7 #[] X fun e w' => e = .returned (.bool true) ∧ Below X.heap.size X w') := hide (fun X hX => fixed_any X hX)
  have HSZ := hide (counts_len (check_zero (of_decide_eq_true hok).1).1).2.2
  clear hT hok hsz
  go_enter Tryz.func3, Tryz.ntmps3
  go_wp2_with fail
  refine (DC.out _ HT.out).mono ?_
  rintro x w1 ⟨va, ca, rfl, hca, hma, hb1⟩
  obtain ⟨aa, ka, rfl⟩ := hma.1.slice
  obtain ⟨WA, hWA⟩ : ∃ WA, WA = w1.alloc (.cells #[.slice aa ca.length ka] 24) := ⟨_, rfl⟩
  have BWA : Hid (Below w1.heap.size w1 WA) := hide (by rw [hWA]; exact (Below.refl _ _).alloc (Nat.le_refl _) _)
  have QWA : Hid (Blk WA w1.heap.size #[.slice aa ca.length ka] 24) := hide (by rw [hWA]; exact Blk.new _ _ _)
  have HWA := hide hWA.symm
  have MA : Hid (MadeT w.heap.size WA (.slice aa ca.length ka) ca) := hide (hma.below BWA.out)
  have MA1 := hide hma
  have HCA := hide hca
  have UA : Hid (Below w.heap.size w WA) := hide (hb1.trans (BWA.out.mono hb1.size))
  have hlo : w.heap.size ≤ w1.heap.size := hb1.size
  clear hb1 hWA hca hma
  go_wp2_with fail
  simp only [HWA.out]
  refine (RC.out _).mono ?_
  rintro x w2 ⟨vb, cb, rfl, hcb, hob, heb, hb2⟩
  obtain ⟨ab, kb, rfl⟩ := own_sliceB hob
  obtain ⟨WB, hWB⟩ : ∃ WB, WB = w2.alloc (.cells #[.slice ab cb.length kb] 24) := ⟨_, rfl⟩
  have BWB : Hid (Below w2.heap.size w2 WB) := hide (by rw [hWB]; exact (Below.refl _ _).alloc (Nat.le_refl _) _)
  have QWB : Hid (Blk WB w2.heap.size #[.slice ab cb.length kb] 24) := hide (by rw [hWB]; exact Blk.new _ _ _)
  have HWB := hide hWB.symm
  have OB : Hid (WB.ownsRow WA.heap.size 31 3 (.slice ab cb.length kb) cb.length (cellsTb cb)) := hide (own_belowB hob BWB.out)
  have EB : Hid (EntsR WB WA.heap.size cb) := hide (heb.below BWB.out)
  have HCB := hide hcb
  have B2 : Hid (Below WA.heap.size WA WB) := hide (hb2.trans (BWB.out.mono hb2.size))
  have UB : Hid (Below w.heap.size w WB) := hide (UA.out.trans (B2.out.mono UA.out.size))
  have MA2 : Hid (MadeT w.heap.size WB (.slice aa ca.length ka) ca) := hide (MA.out.below B2.out)
  have TB : Hid (TSl WB (.slice ab cb.length kb) (rdB s).1) := hide (by rw [← HCB.out]; exact TSl.of_own OB.out EB.out.esl (Below.refl _ _))
  have TA : Hid (TSl WB (.slice aa ca.length ka) (rdB s).1) := hide (by rw [← HCA.out]; exact TSl.of_made MA2.out)
  have QA2 : Hid (Blk WB w1.heap.size #[.slice aa ca.length ka] 24) := hide (QWA.out.below B2.out QWA.out.lt)
  have a0 : (w2.alloc (.cells #[.slice ab cb.length kb] 24)).cell? ⟨w1.heap.size, 0, none⟩ = some (.slice aa ca.length ka) := by rw [HWB.out]; exact QA2.out.cell 0
  have HUB := hide (HT.out.below UB.out)
  have hA : w1.heap.size < WA.heap.size := QWA.out.lt
  have hWAw2 : WA.heap.size ≤ w2.heap.size := hb2.size
  clear hb2 hob heb hcb hWB
  go_wp2_with fail
  simp only [HWB.out]
  refine (SM.out _ _ _ TA.out TB.out).mono ?_
  rintro x w3 ⟨rfl, hb3⟩
  clear a0
  have B3 := hide hb3
  clear hb3
  go_wp2_with fail
  refine (DC.out _ (HUB.out.below B3.out)).mono ?_
  rintro x w4 ⟨vc, cc, rfl, hcc, hmc, hb4⟩
  obtain ⟨ac, kc, rfl⟩ := hmc.1.slice
  obtain ⟨WC, hWC⟩ : ∃ WC, WC = w4.alloc (.cells #[.slice ac cc.length kc] 24) := ⟨_, rfl⟩
  have BWC : Hid (Below w4.heap.size w4 WC) := hide (by rw [hWC]; exact (Below.refl _ _).alloc (Nat.le_refl _) _)
  have QWC : Hid (Blk WC w4.heap.size #[.slice ac cc.length kc] 24) := hide (by rw [hWC]; exact Blk.new _ _ _)
  have HWC := hide hWC.symm
  have MC : Hid (MadeT w3.heap.size WC (.slice ac cc.length kc) cc) := hide (hmc.below BWC.out)
  have HCC := hide hcc
  have B4 : Hid (Below WB.heap.size WB WC) := hide (B3.out.trans ((hb4.trans (BWC.out.mono hb4.size)).mono B3.out.size))
  have hw34 : WB.heap.size ≤ w3.heap.size := B3.out.size
  have hw4 : w3.heap.size ≤ w4.heap.size := hb4.size
  clear hb4 hcc hmc hWC
  go_wp2_with fail
  simp only [HWC.out]
  have B1C : Hid (Below w1.heap.size w1 WC) := hide (BWA.out.trans ((B2.out.trans (B4.out.mono (Nat.le_of_lt (Nat.lt_of_le_of_lt hWAw2 QWB.out.lt)))).mono (Nat.le_of_lt hA)))
  have RT0 : Hid (RoomT w.heap.size w1.heap.size WC (.slice aa ca.length ka) ca 0) := hide ((RoomT.of_made MA1.out (Nat.le_refl _)).below B1C.out)
  have RE0 : Hid (∀ c ∈ ca, Room 33 4 w.heap.size w1.heap.size WC c.2 c.1.ents.length) := hide (fun c hc => (Room.of_made (MA1.out.2 c hc) (cellsEn_len _) (Nat.le_refl _)).below B1C.out)
  have QAC : Hid (Blk WC w1.heap.size #[.slice aa ca.length ka] 24) := hide (QA2.out.below B4.out QA2.out.lt)
  have HEL : Hid (∀ c ∈ ca, c.1.ents.length ≤ 1024) := hide (fun c hc => by
    obtain ⟨j, hj, rfl⟩ := List.getElem_of_mem hc
    have q := HSZ.out j
    rw [← HCA.out] at q
    have e : tabN (ca.map Prod.fst) j = (ca[j]).1 := tabN_get (by rw [List.getElem?_map, List.getElem?_eq_getElem hj]; rfl)
    rw [e] at q
    exact q)
  obtain ⟨L, hL⟩ : ∃ L, L = ca.length := ⟨_, rfl⟩
  have HL := hide hL
  have hLb : L ≤ 16 := by
    have q := congrArg List.length HCA.out
    rw [List.length_map] at q
    omega
  rw [← hL] at RT0 QAC ⊢
  clear hL
  go_loopw [9] (fun y wr => ∃ i : Nat, i ≤ L ∧ y = .int .i64 (i : Int) ∧ Hid (Mid w.heap.size w1.heap.size WC wr) ∧ Hid (RoomT w.heap.size w1.heap.size wr (.slice aa L ka) ca i) ∧ Hid (∀ c ∈ ca, Room 33 4 w.heap.size w1.heap.size wr c.2 c.1.ents.length)) (fun y _ => L - (intOf y).toNat)
  case atStart => exact ⟨0, Nat.zero_le _, rfl, hide (Mid.refl _ _ _), RT0, RE0⟩
  case round =>
    obtain ⟨i, hiL, rfl, HM, HR, HE⟩ := hrel
    have a0 := (HM.out.blk QAC.out (.inr (Nat.le_refl _))).cell 0
    by_cases hlt : i < L
    · have hlt' : (i : Int) < (L : Int) := by omega
      have hic : i < ca.length := by rw [← HL.out]; exact hlt
      have hci : ca[i]? = some ca[i] := List.getElem?_eq_getElem hic
      obtain ⟨c, hc⟩ : ∃ c, c = ca[i] := ⟨_, rfl⟩
      rw [← hc] at hci
      have hmem : c ∈ ca := List.mem_of_getElem? hci
      have HMEM := hide hmem
      have HCI := hide hci
      obtain ⟨ae, ke, hve⟩ := (HE.out c hmem).slice
      have HVE := hide hve
      obtain ⟨m, hm⟩ : ∃ m, m = c.1.ents.length := ⟨_, rfl⟩
      have hml : m ≤ 1024 := by rw [hm]; exact HEL.out c hmem
      have HMM := hide hm
      obtain ⟨gT, rfl, _, _, arr, hbk, t2, _⟩ := HR.out.at hci
      rw [hve, ← hm] at t2
      have HLT := hide hlt
      clear hlt hic hci hc hmem hve hm hbk
      go_wp2_with fail
      go_loopw [10] (fun y wr => ∃ k : Nat, k ≤ m ∧ y = .int .i64 (k : Int) ∧ Hid (Mid w.heap.size w1.heap.size WC wr) ∧ Hid (RoomT w.heap.size w1.heap.size wr (.slice (some ⟨gT, 0, none⟩) L ka) ca i) ∧ Hid (∀ c ∈ ca, Room 33 4 w.heap.size w1.heap.size wr c.2 c.1.ents.length)) (fun y _ => m - (intOf y).toNat)
      case atStart => exact ⟨0, Nat.zero_le _, rfl, HM, HR, HE⟩
      case round =>
        clear a0 t2
        obtain ⟨k, hkm, rfl, HM, HR, HE⟩ := hrel
        have a0 := (HM.out.blk QAC.out (.inr (Nat.le_refl _))).cell 0
        obtain ⟨g', e', _, _, arr, hbk, t2, _⟩ := HR.out.at HCI.out
        rw [Option.some.injEq, Addr.mk.injEq] at e'
        obtain ⟨rfl, _⟩ := e'
        rw [HVE.out, ← HMM.out] at t2
        clear hbk
        by_cases hk : k < m
        · have hk' : (k : Int) < (m : Int) := by omega
          have HRM : Hid (Room 33 4 w.heap.size w1.heap.size wr (.slice ae m ke) m) := hide (by have q := HE.out c HMEM.out; rw [HVE.out, ← HMM.out] at q; exact q)
          obtain ⟨gE, rfl, hE1, hE2, arrE, hbE, hEc⟩ := HRM.out.at hk
          obtain ⟨o, hko⟩ : ∃ o, k * 4 = o := ⟨_, rfl⟩
          obtain ⟨u0, x0⟩ : ∃ u, wr.cell? ⟨gE, o, none⟩ = some u := by have q := hEc 0 (by decide); rw [hko] at q; exact q
          obtain ⟨u1, x1⟩ : ∃ u, wr.cell? ⟨gE, o + 1, none⟩ = some u := by have q := hEc 1 (by decide); rw [hko] at q; exact q
          obtain ⟨u2, x2⟩ : ∃ u, wr.cell? ⟨gE, o + 2, none⟩ = some u := by have q := hEc 2 (by decide); rw [hko] at q; exact q
          obtain ⟨u3, x3⟩ : ∃ u, wr.cell? ⟨gE, o + 3, none⟩ = some u := by have q := hEc 3 (by decide); rw [hko] at q; exact q
          have y0 := hbE.free o
          have y1 := hbE.free (o + 1)
          have y2 := hbE.free (o + 2)
          have y3 := hbE.free (o + 3)
          have HBE := hide hbE
          have hne : 33 ≠ 31 := by decide
          have HNE := hide hne
          clear hEc hbE hne
          go_wp2
          refine ⟨⟨k + 1, by omega, by go_num, hide ((((HM.out.set gE _ _ hE1 hE2).set gE _ _ hE1 hE2).set gE _ _ hE1 hE2).set gE _ _ hE1 hE2), hide ((((HR.out.off HBE.out HNE.out _).off (HBE.out.setL _) HNE.out _).off ((HBE.out.setL _).setL _) HNE.out _).off (((HBE.out.setL _).setL _).setL _) HNE.out _), hide (fun c hc => ((((HE.out c hc).set _ _ _).set _ _ _).set _ _ _).set _ _ _)⟩, by simp [intOf]; omega⟩
        · have hk' : ¬ (k : Int) < (m : Int) := by omega
          have HRM : Hid (Room 33 4 w.heap.size w1.heap.size wr (.slice ae m ke) m) := hide (by have q := HE.out c HMEM.out; rw [HVE.out, ← HMM.out] at q; exact q)
          obtain ⟨xs, hown, hfull⟩ := HRM.out.own (by unfold maxLen; omega)
          obtain ⟨g', e', hT1, hT2, arr, hbk, _, ⟨un, n0⟩⟩ := HR.out.at HCI.out
          rw [Option.some.injEq, Addr.mk.injEq] at e'
          obtain ⟨rfl, _⟩ := e'
          have OWX : Hid (∀ X, Below wr.heap.size wr X → X.ownsRow 0 33 4 (.slice ae m ke) m xs) := hide (fun X hX => own_belowB hown hX)
          have FUL : Hid (∀ X, Below wr.heap.size wr X → (Value.slice ae m ke = .slice none 0 0 ∧ m = 0) ∨ ∃ g, Value.slice ae m ke = .slice (some ⟨g, 0, none⟩) m m ∧ g < X.heap.size) := hide (fun X hX => by
            rcases hfull with q | ⟨g, q1, q2⟩
            · exact .inl q
            · exact .inr ⟨g, q1, Nat.lt_of_lt_of_le q2 hX.size⟩)
          have KT : Hid (∀ X, Below wr.heap.size wr X → Blk X gT arr 31) := hide (fun X hX => hbk.below hX hbk.lt)
          have KC : Hid (∀ X, Below wr.heap.size wr X → X.cell? ⟨gT, i * 3 + 2, none⟩ = some (.slice ae m ke) ∧ X.frozen? ⟨gT, i * 3 + 2, none⟩ = false) := hide (fun X hX => ⟨by rw [(KT.out X hX).cell, ← hbk.cell]; exact t2, (KT.out X hX).free _⟩)
          have BX : Hid (Below wr.heap.size wr ((wr.alloc (.cells #[.string ⟨#[109, 111, 114, 101]⟩, .int .i64 0, .string ⟨#[]⟩, .int .i64 0] 33)).drew)) := hide ((Below.refl _ _).alloc (Nat.le_refl _) _).drew
          have NEW : Hid (∀ j u, [Value.string ⟨#[109, 111, 114, 101]⟩, .int .i64 0, .string ⟨#[]⟩, .int .i64 0][j]? = some u → ((wr.alloc (.cells #[.string ⟨#[109, 111, 114, 101]⟩, .int .i64 0, .string ⟨#[]⟩, .int .i64 0] 33)).drew).cell? ((⟨wr.heap.size, 0, none⟩ : Addr).add j) = some u) := hide (fun j u h => cell_four_new wr _ _ _ _ _ j u h)
          have ONE : Hid (∀ u ∈ [Value.string ⟨#[109, 111, 114, 101]⟩, .int .i64 0, .string ⟨#[]⟩, .int .i64 0], u.oneCell' = true) := hide (by
            intro u hu
            simp only [List.mem_cons, List.not_mem_nil, or_false] at hu
            rcases hu with rfl | rfl | rfl | rfl <;> rfl)
          have HN0 := hide n0
          have HBK := hide hbk
          have QAr := HM.out.blk QAC.out (.inr (Nat.le_refl _))
          have KA : Hid (∀ X, Below wr.heap.size wr X → X.cell? ⟨w1.heap.size, 0, none⟩ = some (.slice (some ⟨gT, 0, none⟩) L ka)) := hide (fun X hX => (QAr.below hX QAr.lt).cell 0)
          have a1 := KA.out _ BX.out
          have t3 := (KC.out _ BX.out).1
          clear hown hfull hbk n0 QAr
          go_wp2_with fail
          go_region_law ((refine step_append_full (by rfl) _ _ _ (by rfl) 33 i1 (.agg #[.string ⟨#[]⟩, .int .i64 0, .string ⟨#[]⟩, .int .i64 0]) 4 48 Tryz.underlying29 hi1 hy0 hy1 hy2 rfl (by decide) (.slice ae m ke) m xs 0 (by rfl) (Nat.zero_le _) (OWX.out _ BX.out) (FUL.out _ BX.out) ⟨wr.heap.size, 0, none⟩ 1 1 [.string ⟨#[109, 111, 114, 101]⟩, .int .i64 0, .string ⟨#[]⟩, .int .i64 0] (by rfl) rfl NEW.out ONE.out (by unfold maxLen; omega) (by omega) (by decide) ?_; intro g4 c4 w4 hg4 hb4; have Z := hide (BX.out.trans (hb4.mono BX.out.size)); have z0 := (KC.out w4 Z.out).1; have z1 := (KC.out w4 Z.out).2; have z2 := KA.out w4 Z.out))
          all_goals
            obtain ⟨W5, hW5⟩ : ∃ W5, W5 = w4.setCell ⟨gT, i * 3 + 2, none⟩ (.slice (some ⟨g4, 0, none⟩) (m + 1) c4) := ⟨_, rfl⟩
            have M5 : Hid (Mid w.heap.size w1.heap.size WC W5) := hide (by rw [hW5]; exact (HM.out.below Z.out).set gT _ _ hT1 hT2)
            have R5 : Hid (RoomT w.heap.size w1.heap.size W5 (.slice (some ⟨gT, 0, none⟩) L ka) ca (i + 1)) := hide (by rw [hW5]; exact (HR.out.below Z.out).put (fun k hk => by omega) _)
            have E5 : Hid (∀ c ∈ ca, Room 33 4 w.heap.size w1.heap.size W5 c.2 c.1.ents.length) := hide (fun c hc => by rw [hW5]; exact ((HE.out c hc).below Z.out).set _ _ _)
            have BT5 : Hid (Blk W5 gT (arr.setIfInBounds (i * 3 + 2) (.slice (some ⟨g4, 0, none⟩) (m + 1) c4)) 31) := hide (by rw [hW5]; exact (KT.out w4 Z.out).setL _)
            have n5 : W5.cell? ⟨gT, i * 3, none⟩ = some un := by rw [BT5.out.cell, Array.getElem?_setIfInBounds_ne (by omega), ← HBK.out.cell]; exact HN0.out
            have f5 := BT5.out.free (i * 3)
            have a5 := (M5.out.blk QAC.out (.inr (Nat.le_refl _))).cell 0
            have HW5 := hide hW5.symm
            clear hW5 z0 z1 z2 a0 a1 t2 t3 HN0 HBK KT KC KA OWX FUL BX NEW ONE HRM hg4 hb4
            simp only [HW5.out]
            go_wp2
            have hlt := HLT.out
            refine ⟨⟨i + 1, by omega, by go_num, hide (M5.out.set gT _ _ hT1 hT2), hide (R5.out.putS (fun k hk => by omega) _), hide (fun c hc => (E5.out c hc).set _ _ _)⟩, by simp [intOf]; omega⟩
    · obtain rfl : i = L := by omega
      have hlt' : ¬ (i : Int) < (i : Int) := by omega
      have hWBC : WB.heap.size ≤ WC.heap.size := B4.out.size
      have hw2B : w2.heap.size < WB.heap.size := QWB.out.lt
      have hw4C : w4.heap.size < WC.heap.size := QWC.out.lt
      have UC : Hid (Below w.heap.size w WC) := hide (UB.out.trans (B4.out.mono UB.out.size))
      have UR : Hid (Below w.heap.size w wr) := hide (HM.out.out UC.out (Nat.le_refl _) UC.out.size)
      have TBr : Hid (TSl wr (.slice ab cb.length kb) (rdB s).1) := hide (by rw [← HCB.out]; exact TSl.of_own (HM.out.own (own_belowB OB.out B4.out) (Nat.le_of_lt hA)) (HM.out.ents (EB.out.below B4.out) (Nat.le_of_lt hA)).esl (Below.refl _ _))
      have TCr : Hid (TSl wr (.slice ac cc.length kc) (rdB s).1) := hide (by rw [← HCC.out]; exact TSl.of_made (HM.out.madeT MC.out (by omega)))
      have QBr : Hid (Blk wr w2.heap.size #[.slice ab cb.length kb] 24) := hide (HM.out.blk (QWB.out.below B4.out QWB.out.lt) (.inr (by omega)))
      have QCr : Hid (Blk wr w4.heap.size #[.slice ac cc.length kc] 24) := hide (HM.out.blk QWC.out (.inr (by omega)))
      have HUR := hide (HT.out.below UR.out)
      clear HR HE HM
      go_wp2_with fail
      refine (DC.out _ HUR.out).mono ?_
      rintro x w5 ⟨vd, cd, rfl, hcd, hmd, hb5⟩
      obtain ⟨ad, kd, rfl⟩ := hmd.1.slice
      obtain ⟨WD, hWD⟩ : ∃ WD, WD = w5.alloc (.cells #[.slice ad cd.length kd] 24) := ⟨_, rfl⟩
      have BWD : Hid (Below w5.heap.size w5 WD) := hide (by rw [hWD]; exact (Below.refl _ _).alloc (Nat.le_refl _) _)
      have QWD : Hid (Blk WD w5.heap.size #[.slice ad cd.length kd] 24) := hide (by rw [hWD]; exact Blk.new _ _ _)
      have HWD := hide hWD.symm
      have B5 : Hid (Below wr.heap.size wr WD) := hide (hb5.trans (BWD.out.mono hb5.size))
      have TDd : Hid (TSl WD (.slice ad cd.length kd) (rdB s).1) := hide (by rw [← hcd]; exact TSl.of_made (hmd.below BWD.out))
      have TBd := hide (TBr.out.below B5.out)
      have TCd := hide (TCr.out.below B5.out)
      have e1 : (w5.alloc (.cells #[.slice ad cd.length kd] 24)).cell? ⟨w4.heap.size, 0, none⟩ = some (.slice ac cc.length kc) := by rw [HWD.out]; exact (QCr.out.below B5.out QCr.out.lt).cell 0
      have e2 : (w5.alloc (.cells #[.slice ad cd.length kd] 24)).cell? ⟨w2.heap.size, 0, none⟩ = some (.slice ab cb.length kb) := by rw [HWD.out]; exact (QBr.out.below B5.out QBr.out.lt).cell 0
      have QBd := hide (QBr.out.below B5.out QBr.out.lt)
      clear hb5 hWD hcd hmd a0
      go_wp2_with fail
      simp only [HWD.out]
      refine (SM.out _ _ _ TCd.out TBd.out).mono ?_
      rintro x w6 ⟨rfl, hb6⟩
      have d1 := (QWD.out.below hb6 QWD.out.lt).cell 0
      have d2 := (QBd.out.below hb6 QBd.out.lt).cell 0
      have TD6 := hide (TDd.out.below hb6)
      have TB6 := hide (TBd.out.below hb6)
      have U6 := hide (B5.out.trans (hb6.mono B5.out.size))
      clear hb6 e1 e2
      go_wp2_with fail
      refine (SM.out _ _ _ TD6.out TB6.out).mono ?_
      rintro x w7 ⟨rfl, hb7⟩
      have U7 := hide (U6.out.trans (hb7.mono U6.out.size))
      clear hb7 d1 d2
      go_wp2_with fail
      refine (FX.out _ (HUR.out.below U7.out)).mono ?_
      rintro x w8 ⟨rfl, hb8⟩
      have U8' := hide (U7.out.trans (hb8.mono U7.out.size))
      clear hb8
      go_wp2
      go_ret
      exact ⟨rfl, UR.out.trans (U8'.out.mono UR.out.size)⟩

theorem reads_row {w : World} (s : ByteArray) (hs : s.size ≤ 140737488355328) (hT : U8 w) :
    Calls Tryz.prog 3 #[.string s] w fun e w' => e = .returned (.bool true) ∧ Below w.heap.size w w' := by
  cases h : decOk s with
  | true => exact reads_yes s hs hT h
  | false => exact reads_no s hs hT h
theorem bundleReads_row (w : World) (hT : U8 w) (s : ByteArray) (hs : s.size ≤ 140737488355328) :
    Calls Tryz.prog 3 #[.string s] w fun e w' => e = .returned (.bool true) ∧ Below w.heap.size w w' := reads_row s hs hT

end Go.Proofs.YtihnakblcfealaaGreatDoor

namespace Go.Proofs.YtihnakblcfealaaGreatDoor
open Go.RowKit

theorem laid_first : (Rows.laid_unicode_utf8_first : DataW Unit) = Lib.firstData := by kernel_rfl
theorem laid_accept : (Rows.laid_unicode_utf8_acceptRanges : DataW Unit) = Lib.acceptData := by kernel_rfl
theorem cellsAR : Tryz.prog.cellsOf 140 = 2 := by kernel_rfl
theorem cellsU8 : Tryz.prog.cellsOf 5 = 1 := by kernel_rfl
theorem cellsFT : Tryz.prog.cellsOf 138 = 256 := by kernel_rfl

theorem first_of {W : World} (h : Lib.VarReads Tryz.prog W "unicode/utf8.first" Lib.firstData) : ∀ c, c < 256 → W.cell? ⟨0, c, none⟩ = some (.int .u8 (Lib.firstT c : Int)) := by
  intro c hc
  obtain ⟨g, t, cs, fuel, p, hg, hty, hvar, hd⟩ := h
  have eg : g = 0 := Option.some.inj (hg.symm.trans (by kernel_rfl))
  subst eg
  have et : t = 138 := Option.some.inj (hty.symm.trans (by kernel_rfl))
  subst et
  have hcs := Lib.cells_of_tab Tryz.underlying138 Tryz.underlying5 cellsU8 cellsFT hd
  rw [World.var?_cell hg hvar c, ← Array.getElem?_toList, hcs]
  simp [Lib.firstTab, hc]

theorem accept_of {W : World} (h : Lib.VarReads Tryz.prog W "unicode/utf8.acceptRanges" Lib.acceptData) : ∀ i, i < 16 → W.cell? ⟨1, 2 * i, none⟩ = some (.int .u8 (Lib.accLo i : Int)) ∧ W.cell? ⟨1, 2 * i + 1, none⟩ = some (.int .u8 (Lib.accHi i : Int)) := by
  intro i hi
  obtain ⟨g, t, cs, fuel, p, hg, hty, hvar, hd⟩ := h
  have eg : g = 1 := Option.some.inj (hg.symm.trans (by kernel_rfl))
  subst eg
  have et : t = 141 := Option.some.inj (hty.symm.trans (by kernel_rfl))
  subst et
  obtain ⟨fu, d, q, hdi, he⟩ := Lib.array_elem Tryz.underlying141 hd i hi
  rw [cellsAR] at he
  have hdv : d = .agg ([(Lib.accLo i : Int), (Lib.accHi i : Int)].map fun z => .lit (.int .u8 z)) := by
    rw [List.getElem?_map, List.getElem?_range hi] at hdi
    exact (Option.some.inj hdi).symm
  subst hdv
  have fields : ∀ (j : Nat) (f : Field), (Tryz.prog.fieldsOf 140)[j]? = some f → Tryz.prog.underlying f.type = some (.int .u8) ∧ f.offset = j ∧ Tryz.prog.cellsOf f.type = 1 := by
    intro j f hj
    have e2 : Tryz.prog.fieldsOf 140 = #[(Tryz.prog.fieldsOf 140)[0]!, (Tryz.prog.fieldsOf 140)[1]!] := by kernel_rfl
    rw [e2] at hj
    match j, hj with
    | 0, hj => simp at hj; subst hj; exact ⟨by kernel_rfl, by kernel_rfl, by kernel_rfl⟩
    | 1, hj => simp at hj; subst hj; exact ⟨by kernel_rfl, by kernel_rfl, by kernel_rfl⟩
    | j + 2, hj => simp at hj
  have hcs := Lib.ints_of_struct (fs := Tryz.prog.fieldsOf 140) (by kernel_rfl) fields (by kernel_rfl) he
  have q0 := congrArg (fun l => l[0]?) hcs
  have q1 := congrArg (fun l => l[1]?) hcs
  simp only [List.getElem?_take, List.getElem?_drop] at q0 q1
  refine ⟨?_, ?_⟩
  · rw [World.var?_cell hg hvar (2 * i), ← Array.getElem?_toList, Nat.mul_comm]
    simpa using q0
  · rw [World.var?_cell hg hvar (2 * i + 1), ← Array.getElem?_toList, Nat.mul_comm]
    simpa using q1

theorem table {W : World} (h : laidMetH Tryz.prog [("unicode/utf8.acceptRanges", Rows.laid_unicode_utf8_acceptRanges), ("unicode/utf8.first", Rows.laid_unicode_utf8_first)] W) : U8 W := by
  have h' : laidMet Tryz.prog [("unicode/utf8.acceptRanges", Rows.laid_unicode_utf8_acceptRanges), ("unicode/utf8.first", Rows.laid_unicode_utf8_first)] W := h
  have h3 := Lib.laidMet.reads h' (n := "unicode/utf8.first") (d := Rows.laid_unicode_utf8_first) (by simp)
  have h4 := Lib.laidMet.reads h' (n := "unicode/utf8.acceptRanges") (d := Rows.laid_unicode_utf8_acceptRanges) (by simp)
  rw [laid_first] at h3
  rw [laid_accept] at h4
  exact ⟨first_of h3, accept_of h4⟩

def tabVals : DataW Unit → Array Value
  | .agg l => (l.flatMap fun
      | .lit (.int k z) => [Value.int k z]
      | .agg l2 => l2.map fun
        | .lit (.int k z) => Value.int k z
        | _ => .int .u8 0
      | _ => []).toArray
  | _ => #[]

def putVals (d : DataW Unit) : Obj → Obj
  | .cells _ t frozen => .cells (tabVals d) t frozen
  | o => o

noncomputable def laidWorld (os : Os) : World :=
  { World.holding Tryz.prog os ⟨#[], #[], []⟩ with
    heap := ((World.holding Tryz.prog os ⟨#[], #[], []⟩).heap.modify 1 (putVals Rows.laid_unicode_utf8_acceptRanges)).modify 0 (putVals Rows.laid_unicode_utf8_first) }

end Go.Proofs.YtihnakblcfealaaGreatDoor
