/-
  quipuref12.Copy: a bundle in memory of its own, a mark behind each list.
  What quipuref12's Marked answers of what Copy made.
  quipuref12.SameTexts of two lists that read the same, nil or not; what Keys answers as a list.
  BundleFinds.
  What the rows' list of package variables gives, and a world that holds them (a dump without DecodeRuneInString).
-/
import Derived.Test.YtobmdifledegbaaGreatDoorAB6
import Derived.Test.YtobmdifledegbaaGreatDoorAB4
import Derived.Test.YtobmdifledegbaaGreatDoorAB3
import Derived.Test.YtobmdifledegbaaGreatDoorAB13
import Derived.Test.YtobmdifledegbaaGreatDoorRows
import Derived.Test.YtobmdifledegbaaGreatDoorAB2
import Derived.Lib.LaidU8
import Derived.Deep.DeepHandedRow
namespace Go.Proofs.YtobmdifledegbaaGreatDoor
open Go.RowKit

set_option maxRecDepth 100000 in
set_option maxHeartbeats 4000000 in
theorem copy_any {w : World} {v : Value} {ts : List Tab} (h : TSl w v ts) (hl : (ts.length + 1) * 48 ≤ 281474976710656) (he : ∀ k, k < ts.length → ((tabN ts k).ents.length + 1) * 48 ≤ 281474976710656) :
    Calls Tryz.prog 6 #[.agg #[v]] w fun x w' => ∃ v' cs, x = .returned (.agg #[v']) ∧ cs.map Prod.fst = ts ∧ MkdT w.heap.size w' v' cs ∧ Below w.heap.size w w' := by
  obtain ⟨i0, hi, hz0, hz1, hz2⟩ := info_parts infoT
  obtain ⟨i1, hi1, hy0, hy1, hy2⟩ := info_parts infoE
  obtain ⟨ao, cap, rfl, hcap, hat⟩ := h
  obtain ⟨L, hL⟩ : ∃ L, L = ts.length := ⟨_, rfl⟩
  have HL := hide hL
  have HE := hide he
  have HAT := hide hat
  rw [← hL] at hcap hl ⊢
  clear hat he hL
  obtain ⟨WA, hWA⟩ : ∃ WA, WA = (w.alloc (.cells #[.slice ao L cap] 24)).alloc (.cells #[.slice none 0 0] 24) := ⟨_, rfl⟩
  have BA : Hid (Below w.heap.size w WA) := hide (by rw [hWA]; exact ((Below.refl _ _).alloc (Nat.le_refl _) _).alloc ((Below.refl _ _).alloc (Nat.le_refl _) _).size _)
  have Q1 : Hid (Blk WA w.heap.size #[.slice ao L cap] 24) := hide (by rw [hWA]; exact (Blk.new _ _ _).alloc _)
  have Q2 : Hid (Blk WA (w.heap.size + 1) #[.slice none 0 0] 24) := hide (by rw [hWA]; exact Blk.newAt _ _ (by simp) _ _)
  have hWAs : Hid (WA.heap.size = w.heap.size + 2) := hide (by rw [hWA]; simp)
  have HWA := hide hWA.symm
  have q0 := Q1.out.cell 0
  clear hWA
  go_enter Tryz.func6, Tryz.ntmps6
  go_wp2_with (first
    | simp only [HWA.out]
    | (at_make; refine wpList_make_own _ rfl _ _ 22 rfl w.heap.size 37 i0 (.agg #[.string ⟨#[]⟩, .int .i64 0, .slice none 0 0]) 3 Tryz.underlying22 hi hz0 hz1 _ _ _ (L + 1) rfl rfl (by first | rfl | omega) (by rw [hz2]; omega) (by unfold maxLen; omega) (by have := hWAs.out; omega) ?_; intro w1 hrow hgr))
  have hWAs := hWAs.out
  have BA1 := hide (BA.out.grown hgr (by omega) (fun j hj => by cases hj))
  have hG1 : WA.heap.size < w1.heap.size := (World.ownsRow.lt hrow _ rfl).2
  obtain ⟨G, hG⟩ : ∃ G, G = WA.heap.size := ⟨_, rfl⟩
  obtain ⟨O, hO⟩ : ∃ O, O = w1.heap.size := ⟨_, rfl⟩
  obtain ⟨WC, hWC⟩ : ∃ WC, WC = w1.alloc (.cells #[.slice (some ⟨G, 0, none⟩) 0 (L + 1)] 24) := ⟨_, rfl⟩
  have P1 : Hid (Blk WC w.heap.size #[.slice ao L cap] 24) := hide (by
    rw [hWC]
    have q := Q1.out
    unfold Blk at *
    rw [Below.heap_alloc _ _ _ (by omega), hgr.block _ (by omega) (by simp)]
    exact q)
  have P2 : Hid (Blk WC (w.heap.size + 1) #[.slice none 0 0] 24) := hide (by
    rw [hWC]
    have q := Q2.out
    unfold Blk at *
    rw [Below.heap_alloc _ _ _ (by omega), hgr.block _ (by omega) (by simp)]
    exact q)
  have BO : Hid (Blk WC O #[.slice (some ⟨G, 0, none⟩) 0 (L + 1)] 24) := hide (by rw [hWC]; exact Blk.newAt _ _ hO.symm _ _)
  have OG : Hid (WC.ownsRow G 37 3 (.slice (some ⟨G, 0, none⟩) 0 (L + 1)) 0 []) := hide (by
    rw [hWC, hG]
    rcases hrow with ⟨r1, ⟨q, _⟩ | ⟨g', cap', cur, q, _, hh, r⟩⟩
    · cases q
    · simp only [Value.slice.injEq, Option.some.injEq, Addr.mk.injEq] at q
      obtain ⟨⟨rfl, _, _⟩, _, rfl⟩ := q
      exact ⟨r1, .inr ⟨WA.heap.size, L + 1, cur, rfl, Nat.le_refl _, by rw [Below.heap_alloc _ _ _ hG1]; exact hh, r⟩⟩)
  have BC : Hid (Below w.heap.size w WC) := hide (by rw [hWC]; exact BA1.out.alloc BA1.out.size _)
  have hWCs : Hid (WC.heap.size = O + 1) := hide (by rw [hWC, hO]; simp)
  have HWC := hide hWC.symm
  have hNG : Hid (w.heap.size + 2 = G) := hide (by omega)
  have hGO : Hid (G < O) := hide (by omega)
  rw [← hG] at *
  clear hWC hrow hgr Q1 Q2 q0 BA BA1 HWA hG1 hWAs hG
  go_wp2_with (simp only [HWC.out])
  simp only [← hO]
  clear hO HWC
  go_loopw [4] (fun y wr => ∃ (k : Nat) (cs : List (Tab × Value)), k ≤ L ∧ y = .int .i64 (k : Int) ∧ Hid (cs.map Prod.fst = ts.take k) ∧ Hid (Below w.heap.size w wr) ∧ Hid (O < wr.heap.size) ∧ Hid (Blk wr w.heap.size #[.slice ao L cap] 24) ∧ Hid (Blk wr (w.heap.size + 1) #[.slice none 0 0] 24) ∧ Hid (Blk wr O #[.slice (some ⟨G, 0, none⟩) k (L + 1)] 24) ∧ Hid (wr.ownsRow G 37 3 (.slice (some ⟨G, 0, none⟩) k (L + 1)) k (cellsTb cs)) ∧ Hid (∀ c ∈ cs, MkdE (O + 1) wr c)) (fun y _ => L - (intOf y).toNat)
  case atStart => exact ⟨0, [], Nat.zero_le _, rfl, hide rfl, BC, hide (by have := hWCs.out; omega), P1, P2, BO, OG, hide (fun c hc => by simp at hc)⟩
  case round =>
    obtain ⟨k, cs, hk, rfl, HC, HB, HO, R1, R2, RO, RG, RM⟩ := hrel
    clear P1 P2 BO OG BC hWCs
    have q0 := R1.out.cell 0
    by_cases hkl : k < L
    · have hkl' : (k : Int) < (L : Int) := by omega
      have hkt : k < ts.length := by rw [← HL.out]; exact hkl
      obtain ⟨b, o, rfl, hbw, HCL⟩ : ∃ b o, ao = some ⟨b, o, none⟩ ∧ Hid (b < w.heap.size) ∧ Hid (∀ i, i < ts.length → TabAt w b o i (tabN ts i)) := by
        rcases HAT.out with q | ⟨b, o, rfl, q, hcl⟩
        · rw [q] at hkt; simp at hkt
        · exact ⟨b, o, rfl, hide q, hide hcl⟩
      obtain ⟨c0, c1, ve, c2, hes⟩ := (HCL.out k hkt).below hbw.out HB.out
      have heb := HE.out k hkt
      have TK : Hid (ts.take (k + 1) = ts.take k ++ [tabN ts k]) := hide (by rw [List.take_add_one, tabN_some hkt]; rfl)
      obtain ⟨g, hg⟩ : ∃ g, g = tabN ts k := ⟨_, rfl⟩
      rw [← hg] at c0 c1 hes heb TK
      clear hg hkt HCL
      obtain ⟨nm, pr, es⟩ := g
      obtain ⟨a2, cap2, rfl, hc2, hE2⟩ := hes
      simp only [] at c0 c1 c2 heb hc2 hE2
      obtain ⟨M, hM⟩ : ∃ M, M = es.length := ⟨_, rfl⟩
      rw [← hM] at c2 heb hc2
      have HM := hide hM
      obtain ⟨WB, hWB⟩ : ∃ WB, WB = wr.alloc (.cells #[.string nm, .int .i64 pr, .slice a2 M cap2] 37) := ⟨_, rfl⟩
      have BB : Hid (Below wr.heap.size wr WB) := hide (by rw [hWB]; exact (Below.refl _ _).alloc (Nat.le_refl _) _)
      have T1 : Hid (Blk WB wr.heap.size #[.string nm, .int .i64 pr, .slice a2 M cap2] 37) := hide (by rw [hWB]; exact Blk.newAt _ _ rfl _ _)
      have hBs : Hid (WB.heap.size = wr.heap.size + 1) := hide (by rw [hWB]; simp)
      have HE2 := hide hE2
      have HWB := hide hWB.symm
      have T2F : Hid (∀ w2, WB.grownBy w2 none → Blk w2 wr.heap.size #[.string nm, .int .i64 pr, .slice a2 M cap2] 37) := hide (fun w2 hg => by
        have q := T1.out
        have hlt := T1.out.lt
        unfold Blk at *
        rw [hg.block _ hlt (by simp)]
        exact q)
      have hOB : O + 1 ≤ WB.heap.size := by have := HO.out; have := hBs.out; omega
      have HOB := hide hOB
      clear hWB hM hE2 hOB
      have SRCF : Hid (∀ w2, WB.grownBy w2 none → ∀ ad, a2 = some ad → ∀ j u, (cellsEn es)[j]? = some u → w2.cell? (ad.add j) = some u) := hide (by
        rintro w2 hg ad rfl j u hu
        rcases HE2.out with q | ⟨b2, o2, q, q2, hcl⟩
        · rw [q] at hu; simp [cellsEn] at hu
        · obtain rfl := Option.some.inj q
          have h5 := EAt.cells hcl j u hu
          rw [← h5]
          exact (BB.out.grown hg BB.out.size (fun j hj => by cases hj)).cell (p := (⟨b2, o2, none⟩ : Addr).add j) (by rw [Addr.add_lit]; exact q2))
      have NON : Hid (a2 = none → M = 0) := hide (by
        rintro rfl
        rcases HE2.out with q | ⟨b2, o2, q, _⟩
        · rw [HM.out, q]; rfl
        · cases q)
      have HEL : Hid ((cellsEn es).length = M * 4) := hide (by rw [cellsEn_len, HM.out])
      have t2 := T1.out.cell 2
      go_wp2_with (first
        | simp only [HWB.out]
        | (at_make; refine wpList_make_own _ rfl _ _ 35 rfl (O + 1) 39 i1 (.agg #[.string ⟨#[]⟩, .int .i64 0, .string ⟨#[]⟩, .int .i64 0]) 4 Tryz.underlying35 hi1 hy0 hy1 _ _ _ (M + 1) rfl rfl (by first | rfl | omega) (by rw [hy2]; omega) (by unfold maxLen; omega) HOB.out ?_; intro w2 hrow2 hgr2; have t2b := (T2F.out w2 hgr2).cell 2)
        | (at_builtin; refine wpB_append _ rfl _ _ 35 rfl (O + 1) 39 i1 4 Tryz.underlying35 hi1 hy1 WB.heap.size 0 (M + 1) [] rfl hrow2 a2 M cap2 (cellsEn es) rfl HEL.out NON.out (SRCF.out w2 hgr2) (cellsEn_one es) (by omega) ?_; intro w3 hrow3 hgr3))
      have B2 : Hid (Below wr.heap.size wr w2) := hide (BB.out.grown hgr2 BB.out.size (fun j hj => by cases hj))
      have T2 := hide (T2F.out w2 hgr2)
      rw [Nat.zero_add, List.nil_append] at hrow3
      obtain ⟨gE, hgE⟩ : ∃ gE, gE = WB.heap.size := ⟨_, rfl⟩
      have HgE : Hid (gE = wr.heap.size + 1) := hide (by rw [hgE]; exact hBs.out)
      have HgO : Hid (O + 1 ≤ gE) := hide (by rw [hgE]; exact HOB.out)
      rw [← hgE] at hrow3 hgr3
      simp only [← hgE]
      have E3 := hide hrow3
      have B3 : Hid (Below wr.heap.size wr w3) := hide (B2.out.grown hgr3 B2.out.size (fun j hj => by cases hj; have := HgE.out; omega))
      have T3 : Hid (Blk w3 wr.heap.size #[.string nm, .int .i64 pr, .slice a2 M cap2] 37) := hide (by
        have q := T2.out
        have hlt := T2.out.lt
        unfold Blk at *
        rw [hgr3.block _ hlt (by have := HgE.out; simp; omega)]
        exact q)
      clear hrow3 hgr3 t2b hrow2 hgr2 t2 hgE HOB T1 T2F B2 T2 SRCF NON
      have t2 := T3.out.cell 2
      have t3 := T3.out.free 2
      have t2a := (T3.out.alloc (.cells #[.string ⟨#[98, 101, 104, 105, 110, 100]⟩, .int .i64 0, .string ⟨#[]⟩, .int .i64 0] 39)).cell 2
      have n1 : ¬ w3.heap.size = wr.heap.size := (by have := T3.out.lt; omega)
      have n2 : ¬ wr.heap.size = w3.heap.size := (by have := T3.out.lt; omega)
      have n5 : ¬ gE = wr.heap.size := (by have := HgE.out; omega)
      have n6 : (M : Int) ≤ (M : Int) + 1 := by omega
      have OW : Hid ((w3.alloc (.cells #[.string ⟨#[98, 101, 104, 105, 110, 100]⟩, .int .i64 0, .string ⟨#[]⟩, .int .i64 0] 39)).drew.ownsRow (O + 1) 39 4 (.slice (some ⟨gE, 0, none⟩) M (M + 1)) M (cellsEn es)) := hide (own_belowB E3.out ((Below.refl _ _).alloc (Nat.le_refl _) _).drew)
      have NEWS : Hid (∀ j u, [Value.string ⟨#[98, 101, 104, 105, 110, 100]⟩, .int .i64 0, .string ⟨#[]⟩, .int .i64 0][j]? = some u → (w3.alloc (.cells #[.string ⟨#[98, 101, 104, 105, 110, 100]⟩, .int .i64 0, .string ⟨#[]⟩, .int .i64 0] 39)).drew.cell? ((⟨w3.heap.size, 0, none⟩ : Addr).add j) = some u) := hide (cell_four_new _ _ _ _ _ _)
      have ONE : Hid (∀ u ∈ [Value.string ⟨#[98, 101, 104, 105, 110, 100]⟩, .int .i64 0, .string ⟨#[]⟩, .int .i64 0], u.oneCell' = true) := hide (by
        intro u hu
        simp only [List.mem_cons, List.not_mem_nil, or_false] at hu
        rcases hu with rfl | rfl | rfl | rfl <;> rfl)
      have KX : Hid (∀ w4, (w3.alloc (.cells #[.string ⟨#[98, 101, 104, 105, 110, 100]⟩, .int .i64 0, .string ⟨#[]⟩, .int .i64 0] 39)).drew.grownBy w4 (some gE) → Blk w4 wr.heap.size #[.string nm, .int .i64 pr, .slice a2 M cap2] 37) := hide (fun w4 hg => by
        have q := T3.out.alloc (.cells #[.string ⟨#[98, 101, 104, 105, 110, 100]⟩, .int .i64 0, .string ⟨#[]⟩, .int .i64 0] 39)
        have := T3.out.lt
        unfold Blk at *
        rw [hg.block wr.heap.size (by show wr.heap.size < (w3.heap.push _).size; rw [Array.size_push]; omega) (by have := HgE.out; simp; omega)]
        exact q)
      have KB : Hid (∀ w4, (w3.alloc (.cells #[.string ⟨#[98, 101, 104, 105, 110, 100]⟩, .int .i64 0, .string ⟨#[]⟩, .int .i64 0] 39)).drew.grownBy w4 (some gE) → Below wr.heap.size wr w4) := hide (fun w4 hg => (B3.out.alloc B3.out.size _).drew.grown hg (by show _ ≤ (w3.heap.push _).size; rw [Array.size_push]; have := B3.out.size; omega) (fun j hj => by cases hj; have := HgE.out; omega))
      go_wp2_with fail
      go_region_law ((refine step_append_fits (by rfl) _ _ _ (by rfl) (O + 1) 39 i1 4 Tryz.underlying35 hi1 hy1 gE M (M + 1) (cellsEn es) rfl OW.out ⟨w3.heap.size, 0, none⟩ 1 1 [.string ⟨#[98, 101, 104, 105, 110, 100]⟩, .int .i64 0, .string ⟨#[]⟩, .int .i64 0] rfl rfl NEWS.out ONE.out (Nat.le_refl _) ?_; intro w4 hown hgr; have z0 := (KX.out w4 hgr).cell 2; have z1 := (KX.out w4 hgr).free 2))
      all_goals
        have KX4 := hide (KX.out w4 hgr)
        have KB4 := hide (KB.out w4 hgr)
        obtain ⟨W5, hW5⟩ : ∃ W5, W5 = w4.setCell ⟨wr.heap.size, 2, none⟩ (.slice (some ⟨gE, 0, none⟩) M (M + 1)) := ⟨_, rfl⟩
        have B5 : Hid (Below wr.heap.size wr W5) := hide (by rw [hW5]; exact KB4.out.setCell (p := ⟨wr.heap.size, 2, none⟩) (Nat.le_refl _) _)
        have T5 : Hid (Blk W5 wr.heap.size #[.string nm, .int .i64 pr, .slice (some ⟨gE, 0, none⟩) M (M + 1)] 37) := hide (by rw [hW5]; exact KX4.out.set2of3b _)
        have E5 := hide (((Kept.refl wr.heap.size wr.heap.size w4).set wr.heap.size 2 (.slice (some ⟨gE, 0, none⟩) M (M + 1)) (.inl rfl)).own hown (by have := HgE.out; simp [Value.ownBlock]; omega) (by have := HgE.out; simp [Value.ownBlock]; omega))
        rw [← hW5] at E5
        have HW5 := hide hW5.symm
        have RO5 := hide (RO.out.below B5.out RO.out.lt)
        have OG5 := hide (own_belowB RG.out B5.out)
        have OG6 := hide (own_belowB OG5.out ((Below.refl W5.heap.size W5).alloc (Nat.le_refl _) (.cells #[Value.string nm, .int .i64 pr, .slice (some ⟨gE, 0, none⟩) M (M + 1)] 37)))
        have NEW6 : Hid (∀ ad, some (⟨W5.heap.size, 0, none⟩ : Addr) = some ad → ∀ j u, [Value.string nm, .int .i64 pr, .slice (some ⟨gE, 0, none⟩) M (M + 1)][j]? = some u → (W5.alloc (.cells #[Value.string nm, .int .i64 pr, .slice (some ⟨gE, 0, none⟩) M (M + 1)] 37)).cell? (ad.add j) = some u) := hide (fun ad h => by cases h; exact cell_three_new _ _ _ _ _)
        have ONE6 : Hid (∀ u ∈ [Value.string nm, .int .i64 pr, .slice (some ⟨gE, 0, none⟩) M (M + 1)], u.oneCell' = true) := hide (by
          intro u hu
          simp only [List.mem_cons, List.not_mem_nil, or_false] at hu
          rcases hu with rfl | rfl | rfl <;> rfl)
        have RO7F : Hid (∀ w7, (W5.alloc (.cells #[Value.string nm, .int .i64 pr, .slice (some ⟨gE, 0, none⟩) M (M + 1)] 37)).grownBy w7 (some G) → Blk w7 O #[.slice (some ⟨G, 0, none⟩) k (L + 1)] 24) := hide (fun w7 hg => by
          have q := RO5.out.alloc (.cells #[Value.string nm, .int .i64 pr, .slice (some ⟨gE, 0, none⟩) M (M + 1)] 37)
          have hlt := q.lt
          unfold Blk at *
          rw [hg.block O hlt (by have := hGO.out; simp; omega)]
          exact q)
        have K7F : Hid (∀ w7, (W5.alloc (.cells #[Value.string nm, .int .i64 pr, .slice (some ⟨gE, 0, none⟩) M (M + 1)] 37)).grownBy w7 (some G) → Kept O G W5 w7) := hide (fun w7 hg => ((Kept.refl O G W5).alloc _).grown hg (fun g hg => .inr (.inr (by cases hg; rfl))))
        have r0 := RO5.out.cell 0
        have d0 := T5.out.cell 0
        have d1 := T5.out.cell 1
        have d2 := T5.out.cell 2
        have hkL : k + 1 ≤ L + 1 := by omega
        clear hown hgr z0 z1 t2 t3 t2a n1 n2 n5 n6 OW NEWS ONE KX KB KX4 KB4 hW5 c0 c1 c2 E3 T3 B3
        go_wp2_with (first
          | simp only [HW5.out]
          | (at_builtin; refine wpB_append _ rfl _ _ 22 rfl G 37 i0 3 Tryz.underlying22 hi hz1 G k (L + 1) (cellsTb cs) rfl OG6.out (some ⟨W5.heap.size, 0, none⟩) 1 1 [Value.string nm, .int .i64 pr, .slice (some ⟨gE, 0, none⟩) M (M + 1)] rfl rfl (fun h => by cases h) NEW6.out ONE6.out hkL ?_; intro w7 hrow7 hgr7; have z0 := (RO7F.out w7 hgr7).cell 0; have z1 := (RO7F.out w7 hgr7).free 0))
        have K8 : Hid (Kept O G W5 (w7.setCell ⟨O, 0, none⟩ (.slice (some ⟨G, 0, none⟩) (k + 1) (L + 1)))) := hide ((K7F.out w7 hgr7).set O 0 _ (.inl rfl))
        have BW5 := hide (HB.out.trans (B5.out.mono HB.out.size))
        have lO := HO.out
        have lG := hGO.out
        have lN := hNG.out
        have lE := HgE.out
        have lB := B5.out.size
        refine ⟨⟨k + 1, cs ++ [(⟨nm, pr, es⟩, .slice (some ⟨gE, 0, none⟩) M (M + 1))], by omega, by go_num, ?_, ?_, ?_, ?_, ?_, ?_, ?_, ?_⟩, by simp [intOf]; omega⟩
        · exact hide (by rw [List.map_append, HC.out, TK.out]; rfl)
        · exact hide (K8.out.out BW5.out BW5.out.size (by omega) (by omega))
        · exact hide (by have := K8.out.size; omega)
        · exact hide (K8.out.blk (R1.out.below B5.out R1.out.lt) (by omega) (by omega))
        · exact hide (K8.out.blk (R2.out.below B5.out R2.out.lt) (by omega) (by omega))
        · exact hide ((RO7F.out w7 hgr7).set0of1 _)
        · exact hide (by
            have q := ((Kept.refl O O w7).set O 0 (.slice (some ⟨G, 0, none⟩) (k + 1) (L + 1)) (.inl rfl)).own hrow7 (by simp [Value.ownBlock]; omega) (by simp [Value.ownBlock]; omega)
            rw [cellsTb_app]
            exact q)
        · refine hide (fun c hc => ?_)
          rcases List.mem_append.1 hc with q | q
          · exact ((RM.out c q).below B5.out).kept K8.out (by omega) (by omega)
          · simp only [List.mem_cons, List.not_mem_nil, or_false] at q
            subst q
            refine ⟨gE, M + 1, by simp only [HM.out], ?_⟩
            simp only [← HM.out]
            exact K8.out.own E5.out (by simp [Value.ownBlock]; omega) (by simp [Value.ownBlock]; omega)
    · obtain rfl : k = L := by omega
      have hkl' : ¬ (k : Int) < (k : Int) := by omega
      have q1 := RO.out.cell 0
      have q2 := RO.out.free 0
      have OW : Hid ((wr.alloc (.cells #[.string ⟨#[98, 101, 104, 105, 110, 100]⟩, .int .i64 0, .slice none 0 0] 37)).drew.ownsRow G 37 3 (.slice (some ⟨G, 0, none⟩) k (k + 1)) k (cellsTb cs)) := hide (own_belowB RG.out ((Below.refl _ _).alloc (Nat.le_refl _) _).drew)
      have NEWS : Hid (∀ j u, [Value.string ⟨#[98, 101, 104, 105, 110, 100]⟩, .int .i64 0, .slice none 0 0][j]? = some u → (wr.alloc (.cells #[.string ⟨#[98, 101, 104, 105, 110, 100]⟩, .int .i64 0, .slice none 0 0] 37)).drew.cell? ((⟨wr.heap.size, 0, none⟩ : Addr).add j) = some u) := hide (cell_three_new _ _ _ _ _)
      have ONE : Hid (∀ u ∈ [Value.string ⟨#[98, 101, 104, 105, 110, 100]⟩, .int .i64 0, .slice none 0 0], u.oneCell' = true) := hide (by
        intro u hu
        simp only [List.mem_cons, List.not_mem_nil, or_false] at hu
        rcases hu with rfl | rfl | rfl <;> rfl)
      have GK : Hid (∀ w4, (wr.alloc (.cells #[.string ⟨#[98, 101, 104, 105, 110, 100]⟩, .int .i64 0, .slice none 0 0] 37)).drew.grownBy w4 (some G) → Kept O G wr w4) := hide (fun w4 hg => ((Kept.refl O G wr).alloc _).drew.grown hg (fun g hg => .inr (.inr (by cases hg; rfl))))
      have KO : Hid (∀ w4, (wr.alloc (.cells #[.string ⟨#[98, 101, 104, 105, 110, 100]⟩, .int .i64 0, .slice none 0 0] 37)).drew.grownBy w4 (some G) → Blk w4 O #[.slice (some ⟨G, 0, none⟩) k (k + 1)] 24) := hide (fun w4 hg => by
        have q := RO.out.alloc (.cells #[.string ⟨#[98, 101, 104, 105, 110, 100]⟩, .int .i64 0, .slice none 0 0] 37)
        have := RO.out.lt
        unfold Blk at *
        rw [hg.block O (by show O < (wr.heap.push _).size; rw [Array.size_push]; omega) (by have := hGO.out; simp; omega)]
        exact q)
      have n1 : ¬ wr.heap.size = O := (by have := HO.out; omega)
      have n2 : ¬ O = wr.heap.size := (by have := HO.out; omega)
      have n3 : ¬ wr.heap.size = w.heap.size := (by have := HO.out; have := hGO.out; have := hNG.out; omega)
      have n4 : ¬ w.heap.size = wr.heap.size := (by have := HO.out; have := hGO.out; have := hNG.out; omega)
      have n5 : ¬ G = O := (by have := hGO.out; omega)
      have n6 : (k : Int) ≤ (k : Int) + 1 := by omega
      have m0 := (R1.out.alloc (.cells #[.string ⟨#[98, 101, 104, 105, 110, 100]⟩, .int .i64 0, .slice none 0 0] 37)).cell 0
      have m1 := (RO.out.alloc (.cells #[.string ⟨#[98, 101, 104, 105, 110, 100]⟩, .int .i64 0, .slice none 0 0] 37)).cell 0
      have HKL : Hid (cs.length = k) := hide (by have := congrArg List.length HC.out; rw [List.length_map, List.length_take, ← HL.out, Nat.min_self] at this; exact this)
      clear hkl
      go_wp2_with fail
      go_region_law ((refine step_append_fits (by rfl) _ _ _ (by rfl) G 37 i0 3 Tryz.underlying22 hi hz1 G k (k + 1) (cellsTb cs) rfl OW.out ⟨wr.heap.size, 0, none⟩ 1 1 [.string ⟨#[98, 101, 104, 105, 110, 100]⟩, .int .i64 0, .slice none 0 0] rfl rfl NEWS.out ONE.out (Nat.le_refl _) ?_; intro w4 hown hgr; have z0 := (KO.out w4 hgr).cell 0; have z1 := (KO.out w4 hgr).free 0; have z2 := ((GK.out w4 hgr).blk R1.out (by have := hGO.out; have := hNG.out; omega) (by have := hNG.out; omega)).cell 0))
      all_goals
        have K4 := hide (GK.out w4 hgr)
        have KK : Hid (Kept O (w.heap.size + 1) w4 ((w4.setCell ⟨O, 0, none⟩ (.slice (some ⟨G, 0, none⟩) k (k + 1))).setCell ⟨w.heap.size + 1, 0, none⟩ (.slice (some ⟨G, 0, none⟩) k (k + 1)))) := hide (((Kept.refl O (w.heap.size + 1) w4).set O 0 _ (.inl rfl)).set (w.heap.size + 1) 0 _ (.inr (.inr rfl)))
        have HOW := hide hown
        have R24 := K4.out.blk R2.out (by have := hGO.out; have := hNG.out; omega) (by have := hNG.out; omega)
        have R25 := hide (R24.other (a := ⟨O, 0, none⟩) (by show O ≠ w.heap.size + 1; have := hGO.out; have := hNG.out; omega) (.slice (some ⟨G, 0, none⟩) k (k + 1)))
        have R26 := hide (R25.out.set0of1 (.slice (some ⟨G, 0, none⟩) k (k + 1)))
        have b1 := R24.free 0
        have b4 := R24.cell 0
        have b2 : ¬ O = w.heap.size + 1 := (by have := hGO.out; have := hNG.out; omega)
        have b3 : ¬ w.heap.size + 1 = O := (by have := hGO.out; have := hNG.out; omega)
        clear hown hgr z1 z2 q0 q1 q2 m0 m1 n1 n2 n3 n4 n5 n6 OW NEWS ONE GK KO R24 R25
        go_wp2
        refine bodyPost_ret (results_bun1 rfl _ _ _ _ rfl R26.out) rfl ?_
        refine ⟨_, cs, rfl, by rw [HC.out, HL.out, List.take_length], ⟨G, k + 1, ?_, ?_, fun c hc => ?_⟩, ?_⟩
        · rw [HKL.out]
        · rw [HKL.out]
          exact own_baseB (KK.out.own HOW.out (by have := hGO.out; simp [Value.ownBlock]; omega) (by have := hNG.out; simp [Value.ownBlock]; omega)) (by have := hNG.out; omega)
        · exact (((RM.out c hc).kept K4.out (by omega) (by have := hGO.out; omega)).kept KK.out (by omega) (by have := hGO.out; have := hNG.out; omega)).base (by have := hGO.out; have := hNG.out; omega)
        · exact KK.out.out (K4.out.out HB.out HB.out.size (by have := hGO.out; have := hNG.out; omega) (by have := hNG.out; omega)) (by have := HB.out.size; have := K4.out.size; omega) (by have := hGO.out; have := hNG.out; omega) (by omega)

end Go.Proofs.YtobmdifledegbaaGreatDoor

namespace Go.Proofs.YtobmdifledegbaaGreatDoor
open Go.RowKit

theorem cell_mark {w : World} {B g n cap : Nat} {xs : List Value} {m : Value} {ms : List Value} {e : TypeId} {sz : Nat} (h : w.ownsRow B e sz (.slice (some ⟨g, 0, none⟩) (n + 1) cap) (n + 1) (xs ++ m :: ms)) (hx : xs.length = n * sz) : w.cell? ⟨g, n * sz, none⟩ = some m := by
  have := World.ownsRow.cells h (g := g) rfl (n * sz) m (by rw [List.getElem?_append_right (by omega), hx, Nat.sub_self]; rfl)
  rw [Addr.add_lit, Nat.zero_add] at this
  exact this

set_option maxRecDepth 100000 in
set_option maxHeartbeats 4000000 in
theorem marked_any {w : World} {B : Nat} {v : Value} {cs : List (Tab × Value)} (h : MkdT B w v cs) (hl : cs.length ≤ 4398046511104) (he : ∀ c ∈ cs, c.1.ents.length ≤ 4398046511104) :
    Calls Tryz.prog 11 #[.agg #[v]] w fun e w' => e = .returned (.bool true) ∧ Below w.heap.size w w' := by
  obtain ⟨gC, cC, rfl, hown, hmk⟩ := h
  obtain ⟨hownp, hcC⟩ := own_pre hown (cellsTb_len _)
  have hm0 := cell_mark (ms := [.int .i64 0, .slice none 0 0]) hown (cellsTb_len _)
  obtain ⟨L, hL⟩ : ∃ L, L = cs.length := ⟨_, rfl⟩
  have HL := hide hL
  have hgl := (World.ownsRow.lt hown _ rfl).2
  have HCL := hide (fun i c (hi : cs[i]? = some c) => (World.ownsRow.cells hownp (g := gC) rfl (i * 3 + 2) c.2 (cellsTb_get cs i c hi).2.2))
  have HMK := hide hmk
  have HE := hide he
  rw [← hL] at hl hcC hm0 ⊢
  obtain ⟨WA, hWA⟩ : ∃ WA, WA = w.alloc (.cells #[.slice (some ⟨gC, 0, none⟩) L cC] 24) := ⟨_, rfl⟩
  have BA : Hid (Below w.heap.size w WA) := hide (by rw [hWA]; exact (Below.refl _ _).alloc (Nat.le_refl _) _)
  have Q1 : Hid (Blk WA w.heap.size #[.slice (some ⟨gC, 0, none⟩) L cC] 24) := hide (by rw [hWA]; exact Blk.newAt _ _ rfl _ _)
  have q0 := Q1.out.cell 0
  have m0 := (BA.out.cell (p := ⟨gC, L * 3, none⟩) hgl).trans hm0
  have hgl' := hide hgl
  have hb1 : (L : Int) + 1 ≤ (cC : Int) := by omega
  have hb2 : (0 : Int) ≤ (L : Int) + 1 := by omega
  have hb3 : (L : Int) < (L : Int) + 1 := by omega
  have HWA := hide hWA.symm
  unfold behB at m0
  clear hWA hown hownp hL hmk he hm0 hgl
  go_enter Tryz.func11, Tryz.ntmps11
  go_wp2_with (simp only [HWA.out])
  go_region
  have KP : Hid (∀ X, Below WA.heap.size WA X → Blk X w.heap.size #[.slice (some ⟨gC, 0, none⟩) L cC] 24) := hide (fun X hX => Q1.out.below hX Q1.out.lt)
  clear q0 m0 hb1 hb2 hb3
  go_wp2
  go_loopw [3] (fun y wr => ∃ k : Nat, k ≤ L ∧ y = .int .i64 (k : Int) ∧ Hid (Below WA.heap.size WA wr)) (fun y _ => L - (intOf y).toNat)
  case atStart => exact ⟨0, Nat.zero_le _, rfl, hide (Below.refl _ _).drew⟩
  case round =>
    obtain ⟨k, hk, rfl, HW⟩ := hrel
    have q0 := (KP.out wr HW.out).cell 0
    by_cases hkl : k < L
    · have hkl' : (k : Int) < (L : Int) := by omega
      have hci : cs[k]? = some (cs[k]'(by rw [← HL.out]; exact hkl)) := List.getElem?_eq_getElem _
      obtain ⟨c, hc⟩ : ∃ c, c = cs[k]'(by rw [← HL.out]; exact hkl) := ⟨_, rfl⟩
      rw [← hc] at hci
      have hmem : c ∈ cs := List.mem_of_getElem? hci
      have hT := hide (BA.out.trans (HW.out.mono BA.out.size))
      have c2' : w.cell? ⟨gC, k * 3 + 2, none⟩ = some c.2 := by
        have := HCL.out k c hci
        rw [Addr.add_lit, Nat.zero_add] at this
        exact this
      have c2 := (hT.out.cell (p := ⟨gC, k * 3 + 2, none⟩) hgl'.out).trans c2'
      obtain ⟨gE, cE, hv, hownE⟩ := HMK.out c hmem
      have hlE := HE.out c hmem
      have hgE := (World.ownsRow.lt hownE _ rfl).2
      have hmE := cell_mark (ms := [.int .i64 0, .string ⟨#[]⟩, .int .i64 0]) hownE (cellsEn_len _)
      obtain ⟨_, hcE⟩ := own_pre hownE (cellsEn_len _)
      obtain ⟨M, hM⟩ : ∃ M, M = c.1.ents.length := ⟨_, rfl⟩
      rw [← hM] at hv hlE hmE hcE
      rw [hv] at c2
      have m0 := (hT.out.cell (p := ⟨gE, M * 4, none⟩) hgE).trans hmE
      have hb1 : (M : Int) + 1 ≤ (cE : Int) := by omega
      have hb2 : (0 : Int) ≤ (M : Int) + 1 := by omega
      have hb3 : (M : Int) < (M : Int) + 1 := by omega
      unfold behB at m0
      clear hci hc hmem c2' hv hownE hgE hmE hM
      go_wp2
      exact ⟨⟨k + 1, by omega, by go_num, HW⟩, by simp [intOf]; omega⟩
    · obtain rfl : k = L := by omega
      have hkl' : ¬ (k : Int) < (k : Int) := by omega
      clear hkl
      go_wp2
      go_ret
      exact ⟨rfl, BA.out.trans (HW.out.mono BA.out.size)⟩

end Go.Proofs.YtobmdifledegbaaGreatDoor

namespace Go.Proofs.YtobmdifledegbaaGreatDoor
open Go.RowKit

set_option maxRecDepth 100000 in
set_option maxHeartbeats 4000000 in
theorem sameTexts_any {w : World} {v1 v2 : Value} {ps : List (List UInt8)} (h1 : TxS w v1 ps) (h2 : TxS w v2 ps) (hL : ps.length ≤ 4398046511104) :
    Calls Tryz.prog 19 #[v1, v2] w fun e w' => e = .returned (.bool true) ∧ Below w.heap.size w w' := by
  obtain ⟨a1, c1, rfl, hc1, hx1⟩ := h1
  obtain ⟨a2, c2, rfl, hc2, hx2⟩ := h2
  obtain ⟨L, hL'⟩ : ∃ L, L = ps.length := ⟨_, rfl⟩
  have HL := hide hL'
  rw [← hL'] at hL hc1 hc2 hx1 hx2 ⊢
  have H1 : Hid (∀ i, i < L → ∃ g o, a1 = some ⟨g, o, none⟩ ∧ ∀ X, Below w.heap.size w X → ∀ j, j < L → X.cell? ⟨g, o + j, none⟩ = some (.string ⟨(atP ps j).toArray⟩)) := hide (fun i hi => by
    obtain ⟨g, o, e, hg, hc⟩ := hx1 i hi
    exact ⟨g, o, e, fun X hX j hj => (hX.cell hg).trans (hc j hj)⟩)
  have H2 : Hid (∀ i, i < L → ∃ g o, a2 = some ⟨g, o, none⟩ ∧ ∀ X, Below w.heap.size w X → ∀ j, j < L → X.cell? ⟨g, o + j, none⟩ = some (.string ⟨(atP ps j).toArray⟩)) := hide (fun i hi => by
    obtain ⟨g, o, e, hg, hc⟩ := hx2 i hi
    exact ⟨g, o, e, fun X hX j hj => (hX.cell hg).trans (hc j hj)⟩)
  clear hx1 hx2 hL'
  go_enter Tryz.func19, Tryz.ntmps19
  go_wp2
  go_loopw [5] (fun y wr => ∃ k : Nat, k ≤ L ∧ y = .int .i64 (k : Int) ∧ Hid (Below w.heap.size w wr)) (fun y _ => L - (intOf y).toNat)
  case atStart => exact ⟨0, Nat.zero_le _, rfl, hide (Below.refl _ _)⟩
  case round =>
    obtain ⟨k, hk, rfl, HB⟩ := hrel
    by_cases hkl : k < L
    · have hkl' : (k : Int) < (L : Int) := by omega
      obtain ⟨g1, o1, rfl, hc1'⟩ := H1.out k hkl
      obtain ⟨g2, o2, rfl, hc2'⟩ := H2.out k hkl
      have l1 := hc1' wr HB.out k hkl
      have l2 := hc2' wr HB.out k hkl
      generalize (⟨(atP ps k).toArray⟩ : ByteArray) = s at *
      clear hc1' hc2'
      go_wp2_with fail
      go_region
      go_wp2
      exact ⟨⟨k + 1, by omega, by go_num, hide HB.out.drew⟩, by simp [intOf]; omega⟩
    · obtain rfl : k = L := by omega
      have hkl' : ¬ (k : Int) < (k : Int) := by omega
      clear hkl
      go_wp2
      go_ret
      exact ⟨rfl, HB.out⟩

def keysOf (C : Nat) (ps : List (List UInt8)) : List (List UInt8) := if C = 0 then ps else []

theorem AnsK.row {C : Nat} {ps : List (List UInt8)} {w w' : World} {e : Ending} (h : AnsK C ps w e w') : ∃ ao cap, e = .returned (.tuple #[.slice ao (keysOf C ps).length cap, .int .i64 (C : Int)]) ∧ RowS w' w.heap.size (.slice ao (keysOf C ps).length cap) (keysOf C ps) ∧ Below w.heap.size w w' := by
  obtain ⟨h1, h2, h3⟩ := h
  unfold keysOf
  by_cases hC : C = 0
  · obtain ⟨q, cap, e1, e2⟩ := h1 hC
    rw [if_pos hC]
    exact ⟨_, cap, by rw [e1, hC]; rfl, e2, h3⟩
  · rw [if_neg hC]
    exact ⟨none, 0, h2 hC, World.ownsRow_nil _ _ _ _, h3⟩

end Go.Proofs.YtobmdifledegbaaGreatDoor

namespace Go.Proofs.YtobmdifledegbaaGreatDoor
open Go.RowKit

theorem keysOf_len {ts : List Tab} {n key : ByteArray} : (keysOf (chE ts n) (poolL (keysL key (chL ts n)))).length ≤ 16384 := by
  unfold keysOf
  by_cases hC : chE ts n = 0
  · rw [if_pos hC, pool_len]
    obtain ⟨hg, hl16, _, _⟩ := ch_good hC
    have h1 := poolS_le (keysL key (chL ts n))
    have h2 := keysL_len key (chL ts n) (fun t ht => by obtain ⟨k, _, rfl⟩ := mem_tabN ht; exact (hg k).1)
    omega
  · rw [if_neg hC]
    exact Nat.zero_le _

set_option maxRecDepth 100000 in
set_option maxHeartbeats 4000000 in
theorem finds_row {w : World} {v : Value} {ts : List Tab} (n key : ByteArray) (h : TSl w v ts) (hl : ts.length ≤ 4398046511104) (hz : SzT ts) (hT : U8 w) :
    Calls Tryz.prog 5 #[.agg #[v], .string n, .string key] w fun e w' => e = .returned (.bool true) ∧ Below w.heap.size w w' := by
  obtain ⟨i0, hi, hz0, hz1, hz2⟩ := info_parts infoS
  obtain ⟨WA, hWA⟩ : ∃ WA, WA = w.alloc (.cells #[v] 24) := ⟨_, rfl⟩
  have BA : Hid (Below w.heap.size w WA) := hide (by rw [hWA]; exact (Below.refl _ _).alloc (Nat.le_refl _) _)
  have Q1 : Hid (Blk WA w.heap.size #[v] 24) := hide (by rw [hWA]; exact Blk.newAt _ _ rfl _ _)
  have SA := hide (h.below BA.out)
  have HT := hide (hT.below BA.out)
  have HZ := hide hz
  have HLT := hide hl
  have CP := hide (copy_any SA.out (by omega) (fun k _ => by have := (hz k).2.1; omega))
  have RF : Hid (∀ X, Below WA.heap.size WA X → Calls Tryz.prog 16 #[.agg #[v], .string n, .string key] X fun e w' => e = .returned (ansF (findT ts n key)) ∧ Below X.heap.size X w') := hide (fun X hX => rFind_any n key (SA.out.below hX) hl HZ.out)
  have RK : Hid (∀ X, Below WA.heap.size WA X → Calls Tryz.prog 18 #[.agg #[v], .string n, .string key] X fun e w' => AnsK (chE ts n) (poolL (keysL key (chL ts n))) X e w') := hide (fun X hX => rKeys_any n key (SA.out.below hX) hl HZ.out)
  have HWA := hide hWA.symm
  have q0 := Q1.out.cell 0
  clear hWA hT hz h hl
  go_enter Tryz.func5, Tryz.ntmps5
  go_wp2_with (simp only [HWA.out])
  refine CP.out.mono ?_
  rintro x w1 ⟨v', cs, rfl, hcs, hmk, hb1⟩
  obtain ⟨gC, cC, rfl, _⟩ := id hmk
  have B1 := hide hb1
  obtain ⟨H7, hH7⟩ : ∃ H, H = w1.heap.size := ⟨_, rfl⟩
  obtain ⟨WD, hWD⟩ : ∃ WD, WD = w1.alloc (.cells #[.slice (some ⟨gC, 0, none⟩) cs.length cC] 24) := ⟨_, rfl⟩
  have BWD : Hid (Below w1.heap.size w1 WD) := hide (by rw [hWD]; exact (Below.refl _ _).alloc (Nat.le_refl _) _)
  have BD : Hid (Below WA.heap.size WA WD) := hide (B1.out.trans (BWD.out.mono B1.out.size))
  have QD : Hid (Blk WD w1.heap.size #[.slice (some ⟨gC, 0, none⟩) cs.length cC] 24) := hide (by rw [hWD]; exact Blk.newAt _ _ rfl _ _)
  have PD := hide (Q1.out.below BD.out Q1.out.lt)
  have MK := hide (hmk.below BWD.out)
  have HCS := hide hcs
  have TD : Hid (TSl WD (.slice (some ⟨gC, 0, none⟩) cs.length cC) ts) := hide (by rw [← HCS.out]; exact MK.out.tsl)
  have FN : Hid (∀ X, Below WD.heap.size WD X → Calls Tryz.prog 15 #[.agg #[.slice (some ⟨gC, 0, none⟩) cs.length cC], .string n, .string key] X fun e w' => e = .returned (ansF (findT ts n key)) ∧ Below X.heap.size X w') := hide (fun X hX => Find_any n key (TD.out.below hX) (by have := HLT.out; omega) HZ.out (HT.out.below (BD.out.trans (hX.mono BD.out.size))))
  have KN : Hid (∀ X, Below WD.heap.size WD X → Calls Tryz.prog 17 #[.agg #[.slice (some ⟨gC, 0, none⟩) cs.length cC], .string n, .string key] X fun e w' => AnsK (chE ts n) (poolL (keysL key (chL ts n))) X e w') := hide (fun X hX => Keys_any n key (TD.out.below hX) (by have := HLT.out; omega) HZ.out (HT.out.below (BD.out.trans (hX.mono BD.out.size))))
  obtain ⟨F, hF⟩ : ∃ F, F = findT ts n key := ⟨_, rfl⟩
  rw [← hF] at FN RF
  clear hF
  obtain ⟨⟨xk, xn, xt, xm⟩, xe⟩ := F
  have F2 := hide (FN.out WD (Below.refl _ _))
  have d0 := QD.out.cell 0
  have HWD := hide hWD.symm
  clear hb1 hWD hmk hcs CP q0 FN hH7
  go_wp2_with (simp only [HWD.out])
  refine F2.out.mono ?_
  rintro x w2 ⟨rfl, hb2⟩
  obtain ⟨WE, hWE⟩ : ∃ WE, WE = w2.alloc (.cells #[.string xk, .int .i64 xn, .string xt, .int .i64 xm] 39) := ⟨_, rfl⟩
  have BWE : Hid (Below w2.heap.size w2 WE) := hide (by rw [hWE]; exact (Below.refl _ _).alloc (Nat.le_refl _) _)
  have BE : Hid (Below WD.heap.size WD WE) := hide (hb2.trans (BWE.out.mono hb2.size))
  have XE : Hid (Blk WE w2.heap.size #[.string xk, .int .i64 xn, .string xt, .int .i64 xm] 39) := hide (by rw [hWE]; exact Blk.newAt _ _ rfl _ _)
  have F3 := hide (RF.out WE (BD.out.trans (BE.out.mono BD.out.size)))
  have PE := hide (PD.out.below BE.out PD.out.lt)
  have e0 := PE.out.cell 0
  have HWE := hide hWE.symm
  clear hb2 hWE F2 RF d0
  unfold ansF entV at *
  go_wp2_with (simp only [HWE.out])
  refine F3.out.mono ?_
  rintro x w3 ⟨rfl, hb3⟩
  obtain ⟨WF, hWF⟩ : ∃ WF, WF = w3.alloc (.cells #[.string xk, .int .i64 xn, .string xt, .int .i64 xm] 39) := ⟨_, rfl⟩
  have BWF : Hid (Below w3.heap.size w3 WF) := hide (by rw [hWF]; exact (Below.refl _ _).alloc (Nat.le_refl _) _)
  have BEF : Hid (Below WE.heap.size WE WF) := hide (hb3.trans (BWF.out.mono hb3.size))
  have BF : Hid (Below WD.heap.size WD WF) := hide (BE.out.trans (BEF.out.mono BE.out.size))
  have XF := hide (XE.out.below BEF.out XE.out.lt)
  have YF : Hid (Blk WF w3.heap.size #[.string xk, .int .i64 xn, .string xt, .int .i64 xm] 39) := hide (by rw [hWF]; exact Blk.newAt _ _ rfl _ _)
  have QF := hide (QD.out.below BF.out QD.out.lt)
  have PF := hide (PD.out.below BF.out PD.out.lt)
  have F4 := hide (KN.out WF BF.out)
  have f0 := QF.out.cell 0
  have HWF := hide hWF.symm
  clear hb3 hWF F3 e0
  go_wp2_with (simp only [HWF.out])
  refine F4.out.mono ?_
  rintro x w4 hans
  obtain ⟨al, cl, rfl, hrow, hb4⟩ := hans.row
  have KL := hide (keysOf_len (ts := ts) (n := n) (key := key))
  obtain ⟨ps, hps⟩ : ∃ ps, ps = keysOf (chE ts n) (poolL (keysL key (chL ts n))) := ⟨_, rfl⟩
  have HPS := hide hps
  rw [← hps] at KL hrow ⊢
  obtain ⟨L, hL⟩ : ∃ L, L = ps.length := ⟨_, rfl⟩
  have HL := hide hL
  have OL : Hid (w4.ownsRow WF.heap.size 9 1 (.slice al L cl) L (ps.map encStr)) := hide (by rw [hL]; unfold RowS at hrow; rw [← hL] at hrow; exact hL ▸ hrow)
  rw [← hL] at KL ⊢
  have B4 := hide hb4
  have BD4 : Hid (Below WD.heap.size WD w4) := hide (BF.out.trans (hb4.mono BF.out.size))
  have F5 := hide (RK.out w4 (BD.out.trans (BD4.out.mono BD.out.size)))
  have p0 := (PF.out.below hb4 PF.out.lt).cell 0
  clear hans hrow hb4 hps hL F4 f0 RK
  go_wp2_with fail
  refine F5.out.mono ?_
  rintro x w5 hans
  obtain ⟨am, cm, rfl, hrowm, hb5⟩ := hans.row
  rw [← HPS.out] at hrowm ⊢
  rw [← HL.out] at hrowm ⊢
  have B5 := hide (B4.out.trans (hb5.mono B4.out.size))
  have OL5 := hide (own_belowB OL.out hb5)
  have hb5' := hide hb5
  have RM : Hid (w5.ownsRow w4.heap.size 9 1 (.slice am L cm) L (ps.map encStr)) := hide (by unfold RowS at hrowm; exact HL.out ▸ hrowm)
  clear hans hrowm hb5 F5 p0
  have hKL : L ≤ 16384 := KL.out
  have XG := hide (XF.out.below B5.out XF.out.lt)
  have YG := hide (YF.out.below B5.out YF.out.lt)
  have x0 := XG.out.cell 0
  have x1 := XG.out.cell 1
  have x2 := XG.out.cell 2
  have x3 := XG.out.cell 3
  have y0 := YG.out.cell 0
  have y1 := YG.out.cell 1
  have y2 := YG.out.cell 2
  have y3 := YG.out.cell 3
  have TXF : Hid (∀ X B a c, X.ownsRow B 9 1 (.slice a L c) L (ps.map encStr) → TxS X (.slice a L c) ps) := hide (fun X B a c h => TxS.of_row (B := B) (by unfold RowS; rw [← HL.out]; exact h))
  have ST := hide (sameTexts_any (TXF.out _ _ _ _ OL5.out) (TXF.out _ _ _ _ RM.out) (by have := HL.out; omega))
  go_wp2_with fail
  refine ST.out.mono ?_
  rintro x w6 ⟨rfl, hb6⟩
  have B6 := hide (B5.out.trans (hb6.mono B5.out.size))
  have OL6 := hide (own_belowB OL5.out hb6)
  have RM6 := hide (own_belowB RM.out hb6)
  clear hb6 ST x0 x1 x2 x3 y0 y1 y2 y3 XG YG
  go_wp2
  go_loopw [16] (fun x wr => ∃ (k : Nat) (ys : List Value), k ≤ L ∧ x = .int .i64 (k : Int) ∧ Hid (wr.ownsRow WF.heap.size 9 1 (.slice al L cl) L ys) ∧ Hid (wr.ownsRow w4.heap.size 9 1 (.slice am L cm) L (ps.map encStr)) ∧ Hid (Below WF.heap.size WF wr)) (fun x _ => L - (intOf x).toNat)
  case atStart => exact ⟨0, _, Nat.zero_le _, rfl, OL6, RM6, B6⟩
  case round =>
    clear OL6 RM6 B6
    obtain ⟨k, ys, hk, rfl, HO, HM, HB⟩ := hrel
    by_cases hkl : k < L
    · have hkl' : (k : Int) < (L : Int) := by omega
      obtain ⟨q, rfl⟩ : ∃ q, al = some ⟨q, 0, none⟩ := by
        rcases HO.out.2 with ⟨h1, h2⟩ | ⟨g, cap, cur, h1, _⟩
        · omega
        · exact ⟨g, by simp only [Value.slice.injEq] at h1; exact h1.1⟩
      have hq4 := (World.ownsRow.lt OL.out q rfl).2
      have hqF := (World.ownsRow.lt OL.out q rfl).1
      obtain ⟨u, hu⟩ : ∃ u, ys[k]? = some u := ⟨_, List.getElem?_eq_getElem (by rw [HO.out.1]; omega)⟩
      have c0 := (World.ownsRow.cellAt HO.out k (by omega)).trans hu
      have f0 := World.ownsRow.frozenAt HO.out k
      obtain ⟨s1, s2⟩ := World.ownsRow.stored HO.out k (.string ⟨#[111, 118, 101, 114]⟩)
      have S1 := hide s1
      have M1 := hide (World.ownsRow.kept HM.out s2 (Or.inr (fun e => by have := (World.ownsRow.lt HM.out q e).1; omega)))
      have B1x := hide (HB.out.setCell (p := ⟨q, k, none⟩) hqF (.string ⟨#[111, 118, 101, 114]⟩))
      clear s1 s2 hu hq4 hqF HO HM HB
      go_wp2
      exact ⟨⟨k + 1, _, by omega, by go_num, S1, M1, B1x⟩, by simp [intOf]; omega⟩
    · obtain rfl : k = L := by omega
      have hkl' : ¬ (k : Int) < (k : Int) := by omega
      have NEW : Hid (∀ j u, [Value.string ⟨#[109, 111, 114, 101]⟩][j]? = some u → (wr.alloc (.cells #[.string ⟨#[109, 111, 114, 101]⟩] 9)).cell? ((⟨wr.heap.size, 0, none⟩ : Addr).add j) = some u) := hide (fun j u hj => by
        have h : Blk (wr.alloc (.cells #[.string ⟨#[109, 111, 114, 101]⟩] 9)) wr.heap.size #[.string ⟨#[109, 111, 114, 101]⟩] 9 := Blk.newAt wr wr.heap.size rfl _ _
        rw [Addr.add_lit, Nat.zero_add, h.cell j]
        match j, hj with
        | 0, hj => exact hj)
      have ONE : Hid (∀ u ∈ [Value.string ⟨#[109, 111, 114, 101]⟩], u.oneCell' = true) := hide (fun u hu => by
        simp only [List.mem_cons, List.not_mem_nil, or_false] at hu
        subst hu
        rfl)
      have hAl : Below wr.heap.size wr (wr.alloc (.cells #[.string ⟨#[109, 111, 114, 101]⟩] 9)) := (Below.refl _ _).alloc (Nat.le_refl _) _
      have OA := hide (own_belowB HO.out hAl)
      have MA := hide (own_belowB HM.out hAl)
      have BAl := hide (HB.out.trans (hAl.mono HB.out.size))
      have hBs : Hid (WF.heap.size ≤ (wr.alloc (.cells #[.string ⟨#[109, 111, 114, 101]⟩] 9)).heap.size) := hide BAl.out.size
      clear hAl hkl HO HM HB
      go_wp2_with (at_builtin; refine wpList_append_lies _ rfl _ _ 43 rfl WF.heap.size 9 i0 (.string ⟨#[]⟩) 1 16 Tryz.underlying43 hi hz0 hz1 hz2 rfl (by decide) (.slice al k cl) k ys rfl OA.out ⟨wr.heap.size, 0, none⟩ 1 1 [.string ⟨#[109, 111, 114, 101]⟩] rfl rfl NEW.out ONE.out (by decide) (by unfold maxLen; omega) (by omega) hBs.out _ rfl ?_; intro g8 c8 w8 hown8 hgr8 hat8 hlt8; have B8 := hide (BAl.out.grown hgr8 hBs.out (fun j hj => (World.ownsRow.lt OA.out j hj).1)); have u0 := (QD.out.below (BF.out.trans (B8.out.mono BF.out.size)) QD.out.lt).cell 0)
      have M8 := hide (World.ownsRow.kept MA.out hgr8 (by
        cases hm : (Value.slice am k cm).ownBlock with
        | none => exact .inl rfl
        | some g =>
          right
          intro e
          have h1 := (World.ownsRow.lt OL.out g (by rw [← e])).2
          have h2 := (World.ownsRow.lt RM.out g hm).1
          omega))
      have BD8 := hide (BF.out.trans (B8.out.mono BF.out.size))
      have K8 := hide (KN.out w8 BD8.out)
      clear hown8 hgr8 hat8 hlt8 OA MA NEW ONE BAl hBs
      go_wp2_with fail
      refine K8.out.mono ?_
      rintro x w9 hans
      obtain ⟨an, cn, rfl, hrown, hb9⟩ := hans.row
      rw [← HPS.out] at hrown ⊢
      rw [← HL.out] at hrown ⊢
      have B9 := hide (B8.out.trans (hb9.mono B8.out.size))
      have BD9 := hide (BF.out.trans (B9.out.mono BF.out.size))
      have BW9 := hide (BD.out.trans (BD9.out.mono BD.out.size))
      have M9 := hide (own_belowB M8.out hb9)
      have N9 : Hid (w9.ownsRow w8.heap.size 9 1 (.slice an k cn) k (ps.map encStr)) := hide (by unfold RowS at hrown; exact HL.out ▸ hrown)
      have ST9 := hide (sameTexts_any (TXF.out _ _ _ _ N9.out) (TXF.out _ _ _ _ M9.out) (by have := HL.out; omega))
      have SM : Hid (∀ X, Below w9.heap.size w9 X → Calls Tryz.prog 10 #[.agg #[.slice (some ⟨gC, 0, none⟩) cs.length cC], .agg #[v]] X fun e w' => e = .returned (.bool true) ∧ Below X.heap.size X w') := hide (fun X hX => same_eq ((TD.out.below BD9.out).below hX) ((SA.out.below BW9.out).below hX) HLT.out HZ.out)
      have MKD : Hid (∀ X, Below w9.heap.size w9 X → Calls Tryz.prog 11 #[.agg #[.slice (some ⟨gC, 0, none⟩) cs.length cC]] X fun e w' => e = .returned (.bool true) ∧ Below X.heap.size X w') := hide (fun X hX => marked_any ((MK.out.below BD9.out).below hX) (by have := HLT.out; have h2 := congrArg List.length HCS.out; rw [List.length_map] at h2; omega) (fun c hc => by
        obtain ⟨i, hi, rfl⟩ := List.getElem_of_mem hc
        have h2 := (HZ.out i).2.1
        have e : tabN ts i = cs[i].1 := tabN_get (by rw [← HCS.out, List.getElem?_map, List.getElem?_eq_getElem hi]; rfl)
        rw [e] at h2
        exact h2))
      have Q9 := hide (QD.out.below BD9.out QD.out.lt)
      have P9 := hide (PD.out.below BD9.out PD.out.lt)
      have BT9 := hide (BA.out.trans (BW9.out.mono BA.out.size))
      have HT9 := hide (HT.out.below BW9.out)
      clear hans hrown hb9 K8 u0
      go_wp2_with fail
      refine ST9.out.mono ?_
      rintro x v0 ⟨rfl, hv0⟩
      have V0 := hide hv0
      have u0 := (Q9.out.below hv0 Q9.out.lt).cell 0
      have u1 := (P9.out.below hv0 P9.out.lt).cell 0
      have SM1 := hide (SM.out v0 hv0)
      clear ST9 hv0
      go_wp2_with fail
      refine SM1.out.mono ?_
      rintro x z1 ⟨rfl, hz1⟩
      have V1 := hide (V0.out.trans (hz1.mono V0.out.size))
      have u2 := (Q9.out.below V1.out Q9.out.lt).cell 0
      have MK1 := hide (MKD.out z1 V1.out)
      clear SM1 hz1 u0 u1
      go_wp2_with fail
      refine MK1.out.mono ?_
      rintro x z2 ⟨rfl, hz2⟩
      have V2 := hide (V1.out.trans (hz2.mono V1.out.size))
      have FX := hide (fixed_any z2 (HT9.out.below V2.out))
      clear MK1 hz2 u2
      go_wp2_with fail
      refine FX.out.mono ?_
      rintro x z3 ⟨rfl, hz3⟩
      have V3 := hide (BT9.out.trans ((V2.out.trans (hz3.mono V2.out.size)).mono BT9.out.size))
      clear FX hz3
      go_wp2
      go_ret
      exact ⟨rfl, V3.out⟩

theorem bundleFinds_row (w : World) (hT : U8 w) (v : Value) (ts : List Tab) (h : TSl w v ts) (hl : ts.length ≤ 4398046511104) (hz : SzT ts) (a : ByteArray) (_ha : a.size ≤ 140737488355328) (b : ByteArray) (_hb : b.size ≤ 140737488355328) :
    Calls Tryz.prog 5 #[.agg #[v], .string a, .string b] w fun e w' => e = .returned (.bool true) ∧ Below w.heap.size w w' := finds_row a b h hl hz hT

end Go.Proofs.YtobmdifledegbaaGreatDoor

namespace Go.Proofs.YtobmdifledegbaaGreatDoor
open Go.RowKit

theorem laid_first : (Rows.laid_unicode_utf8_first : DataW Unit) = Lib.firstData := by kernel_rfl
theorem laid_accept : (Rows.laid_unicode_utf8_acceptRanges : DataW Unit) = Lib.acceptData := by kernel_rfl
theorem cellsAR : Tryz.prog.cellsOf 144 = 2 := by kernel_rfl
theorem cellsU8 : Tryz.prog.cellsOf 5 = 1 := by kernel_rfl
theorem cellsFT : Tryz.prog.cellsOf 142 = 256 := by kernel_rfl

theorem first_of {W : World} (h : Lib.VarReads Tryz.prog W "unicode/utf8.first" Lib.firstData) : ∀ c, c < 256 → W.cell? ⟨0, c, none⟩ = some (.int .u8 (Lib.firstT c : Int)) := by
  intro c hc
  obtain ⟨g, t, cs, fuel, p, hg, hty, hvar, hd⟩ := h
  have eg : g = 0 := Option.some.inj (hg.symm.trans (by kernel_rfl))
  subst eg
  have et : t = 142 := Option.some.inj (hty.symm.trans (by kernel_rfl))
  subst et
  have hcs := Lib.cells_of_tab Tryz.underlying142 Tryz.underlying5 cellsU8 cellsFT hd
  rw [World.var?_cell hg hvar c, ← Array.getElem?_toList, hcs]
  simp [Lib.firstTab, hc]

theorem accept_of {W : World} (h : Lib.VarReads Tryz.prog W "unicode/utf8.acceptRanges" Lib.acceptData) : ∀ i, i < 16 → W.cell? ⟨1, 2 * i, none⟩ = some (.int .u8 (Lib.accLo i : Int)) ∧ W.cell? ⟨1, 2 * i + 1, none⟩ = some (.int .u8 (Lib.accHi i : Int)) := by
  intro i hi
  obtain ⟨g, t, cs, fuel, p, hg, hty, hvar, hd⟩ := h
  have eg : g = 1 := Option.some.inj (hg.symm.trans (by kernel_rfl))
  subst eg
  have et : t = 145 := Option.some.inj (hty.symm.trans (by kernel_rfl))
  subst et
  obtain ⟨fu, d, q, hdi, he⟩ := Lib.array_elem Tryz.underlying145 hd i hi
  rw [cellsAR] at he
  have hdv : d = .agg ([(Lib.accLo i : Int), (Lib.accHi i : Int)].map fun z => .lit (.int .u8 z)) := by
    rw [List.getElem?_map, List.getElem?_range hi] at hdi
    exact (Option.some.inj hdi).symm
  subst hdv
  have fields : ∀ (j : Nat) (f : Field), (Tryz.prog.fieldsOf 144)[j]? = some f → Tryz.prog.underlying f.type = some (.int .u8) ∧ f.offset = j ∧ Tryz.prog.cellsOf f.type = 1 := by
    intro j f hj
    have e2 : Tryz.prog.fieldsOf 144 = #[(Tryz.prog.fieldsOf 144)[0]!, (Tryz.prog.fieldsOf 144)[1]!] := by kernel_rfl
    rw [e2] at hj
    match j, hj with
    | 0, hj => simp at hj; subst hj; exact ⟨by kernel_rfl, by kernel_rfl, by kernel_rfl⟩
    | 1, hj => simp at hj; subst hj; exact ⟨by kernel_rfl, by kernel_rfl, by kernel_rfl⟩
    | j + 2, hj => simp at hj
  have hcs := Lib.ints_of_struct (fs := Tryz.prog.fieldsOf 144) (by kernel_rfl) fields (by kernel_rfl) he
  have q0 := congrArg (fun l => l[0]?) hcs
  have q1 := congrArg (fun l => l[1]?) hcs
  simp only [List.getElem?_take, List.getElem?_drop] at q0 q1
  refine ⟨?_, ?_⟩
  · rw [World.var?_cell hg hvar (2 * i), ← Array.getElem?_toList, Nat.mul_comm]
    simpa using q0
  · rw [World.var?_cell hg hvar (2 * i + 1), ← Array.getElem?_toList, Nat.mul_comm]
    simpa using q1

theorem table {W : World} (h : laidMetH Tryz.prog [("unicode/utf8.acceptRanges", Rows.laid_unicode_utf8_acceptRanges), ("unicode/utf8.first", Rows.laid_unicode_utf8_first)] W) : U8 W := by
  have h' : laidMet Tryz.prog [("unicode/utf8.acceptRanges", Rows.laid_unicode_utf8_acceptRanges), ("unicode/utf8.first", Rows.laid_unicode_utf8_first)] W := h
  have h3 := Lib.laidMet.reads h' (n := "unicode/utf8.first") (d := Rows.laid_unicode_utf8_first) (by simp)
  have h4 := Lib.laidMet.reads h' (n := "unicode/utf8.acceptRanges") (d := Rows.laid_unicode_utf8_acceptRanges) (by simp)
  rw [laid_first] at h3
  rw [laid_accept] at h4
  exact ⟨first_of h3, accept_of h4⟩

def tabVals : DataW Unit → Array Value
  | .agg l => (l.flatMap fun
      | .lit (.int k z) => [Value.int k z]
      | .agg l2 => l2.map fun
        | .lit (.int k z) => Value.int k z
        | _ => .int .u8 0
      | _ => []).toArray
  | _ => #[]

def putVals (d : DataW Unit) : Obj → Obj
  | .cells _ t frozen => .cells (tabVals d) t frozen
  | o => o

noncomputable def laidWorld (os : Os) : World :=
  { World.holding Tryz.prog os ⟨#[], #[], []⟩ with
    heap := ((World.holding Tryz.prog os ⟨#[], #[], []⟩).heap.modify 1 (putVals Rows.laid_unicode_utf8_acceptRanges)).modify 0 (putVals Rows.laid_unicode_utf8_first) }

end Go.Proofs.YtobmdifledegbaaGreatDoor
