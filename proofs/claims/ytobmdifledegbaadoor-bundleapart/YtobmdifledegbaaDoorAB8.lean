/-
  BundleApart.
  What the rows' list of package variables gives, and a world that holds them (a dump without DecodeRuneInString).
-/
import Derived.Test.YtobmdifledegbaaDoorAB6
import Derived.Test.YtobmdifledegbaaDoorAB7
import Derived.Deep.RegionLawGrows
import Derived.Test.YtobmdifledegbaaDoorRows
import Derived.Test.YtobmdifledegbaaDoorAB2
import Derived.Lib.LaidU8
import Derived.Deep.DeepHandedRow
namespace Go.Proofs.YtobmdifledegbaaDoor
open Go.RowKit

theorem own_formS {w : World} {B sz n : Nat} {e : TypeId} {v : Value} {xs : List Value} (h : w.ownsRow B e sz v (n + 1) xs) : ∃ g cap, v = .slice (some ⟨g, 0, none⟩) (n + 1) cap ∧ B ≤ g ∧ g < w.heap.size ∧ n + 1 ≤ cap := by
  rcases h.2 with ⟨_, q⟩ | ⟨g, cap, cur, rfl, hg, hh, hn, _⟩
  · cases q
  · exact ⟨g, cap, rfl, hg, lt_of_block hh, hn⟩

theorem own_snoc {w : World} {B n : Nat} {v u : Value} {cs : List (Tab × Value)} {a : ByteArray} {b : Int} {es : List Ent} (h : w.ownsRow B 27 3 v n (cellsTb cs ++ [.string a, .int .i64 b, u])) : w.ownsRow B 27 3 v n (cellsTb (cs ++ [(⟨a, b, es⟩, u)])) := by
  rw [cellsTb_app]
  exact h

structure CutC (W : World) (n : Nat) (ts : List Tab) (v : Value) (W' : World) : Prop where
  ex : ∃ H g c : Nat, v = .pointer (some ⟨H, 0, none⟩) ∧ Blk W' H #[.slice (some ⟨g, 0, none⟩) n c] 24 ∧ TSl W' (.slice (some ⟨g, 0, none⟩) n c) ts ∧ Below W.heap.size W W'

theorem cutc_old {W w4 : World} {H g c n B : Nat} {z : Value} {cs : List (Tab × Value)} {ts : List Tab} (hb : Below W.heap.size W w4) (q : Blk w4 H #[z] 24) (hH : W.heap.size ≤ H)
    (ho : w4.ownsRow B 27 3 (.slice (some ⟨g, 0, none⟩) n c) n (cellsTb cs)) (hn : n = cs.length) (hc : ∀ c ∈ cs, ESl W c.2 c.1.ents) (ht : cs.map Prod.fst = ts) :
    CutC W n ts (.pointer (some ⟨H, 0, none⟩)) (w4.setCell ⟨H, 0, none⟩ (.slice (some ⟨g, 0, none⟩) n c)) := by
  subst hn ht
  have hne : (Value.slice (some ⟨g, 0, none⟩) cs.length c).ownBlock ≠ some H := by
    intro e
    have e' : g = H := by simpa [Value.ownBlock] using e
    subst e'
    rcases ho.2 with ⟨q', _⟩ | ⟨g', cap, cur, q', _, hh, _⟩
    · cases q'
    · simp only [Value.slice.injEq, Option.some.injEq, Addr.mk.injEq] at q'
      obtain ⟨⟨rfl, _, _⟩, _, _⟩ := q'
      unfold Blk at q
      rw [hh] at q
      simp at q
  have hb' : Below W.heap.size W (w4.setCell ⟨H, 0, none⟩ (.slice (some ⟨g, 0, none⟩) cs.length c)) := hb.setCell (p := ⟨H, 0, none⟩) hH _
  exact ⟨H, g, c, rfl, q.set0of1 _, TSl.of_own (((Kept.refl H H w4).set H 0 _ (.inl rfl)).own ho hne hne) hc hb', hb'⟩

theorem cutc_new {W w4 : World} {g c n B : Nat} {cs : List (Tab × Value)} {ts : List Tab} (hb : Below W.heap.size W w4)
    (ho : w4.ownsRow B 27 3 (.slice (some ⟨g, 0, none⟩) n c) n (cellsTb cs)) (hn : n = cs.length) (hc : ∀ c ∈ cs, ESl W c.2 c.1.ents) (ht : cs.map Prod.fst = ts) :
    CutC W n ts (.pointer (some ⟨w4.heap.size, 0, none⟩)) (w4.alloc (.cells #[.slice (some ⟨g, 0, none⟩) n c] 24)) := by
  subst hn ht
  have hb' := hb.alloc hb.size (.cells #[.slice (some ⟨g, 0, none⟩) cs.length c] 24)
  exact ⟨w4.heap.size, g, c, rfl, Blk.new _ _ _, TSl.of_own (own_belowB ho ((Below.refl _ _).alloc (Nat.le_refl _) _)) hc hb', hb'⟩

set_option maxRecDepth 100000 in
set_option maxHeartbeats 4000000 in
theorem apart_row {w : World} {v ve : Value} {ts : List Tab} {te : List Ent} (tn : ByteArray) (tp : Int) (key : ByteArray) (h : TSl w v ts) (hl : ts.length ≤ 4398046511104) (hz : SzT ts) (hE : ESl w ve te) (hz2t : SzT (ts ++ [⟨tn, tp, te⟩])) (hT : U8 w) :
    Calls Tryd.prog 3 #[.agg #[v], .agg #[.string tn, .int .i64 tp, ve], .string key] w fun e w' => e = .returned (.bool true) ∧ Below w.heap.size w w' := by
  obtain ⟨WA, hWA⟩ : ∃ WA, WA = (w.alloc (.cells #[v] 24)).alloc (.cells #[.string tn, .int .i64 tp, ve] 27) := ⟨_, rfl⟩
  have BA : Hid (Below w.heap.size w WA) := hide (by rw [hWA]; exact ((Below.refl _ _).alloc (Nat.le_refl _) _).alloc ((Below.refl _ _).alloc (Nat.le_refl _) _).size _)
  have P1 : Hid (Blk WA w.heap.size #[v] 24) := hide (by rw [hWA]; exact (Blk.new _ _ _).alloc _)
  have Q2 : Hid (Blk WA (w.heap.size + 1) #[.string tn, .int .i64 tp, ve] 27) := hide (by rw [hWA]; exact Blk.newAt _ _ (by simp) _ _)
  have HWAs : Hid (WA.heap.size = w.heap.size + 2) := hide (by rw [hWA]; simp)
  have HWA := hide hWA.symm
  have HT := hide hT
  have HZ := hide hz
  have HZ2 := hide hz2t
  have SA := hide (h.below BA.out)
  have CK := hide (Check_any SA.out (by omega) hz (hT.below BA.out))
  have q0 := P1.out.cell 0
  by_cases hC : checkT ts = 0
  · have HC0 := hide hC
    rw [hC] at CK
    rw [show ((0 : Nat) : Int) = 0 from rfl] at CK
    obtain ⟨cl1, cl2, cl3⟩ := counts_len (check_zero hC).1
    obtain ⟨i0, hi, hz0, hz1, hz2⟩ := info_parts infoT
    have CP := hide (fun X (hX : Below WA.heap.size WA X) => copy_any (SA.out.below hX) (by omega) (fun k _ => by have := cl3 k; omega))
    obtain ⟨ao, cap, rfl, hcap, hat⟩ := h
    obtain ⟨ea, ec, rfl, hem, hea⟩ := hE
    obtain ⟨L, hL⟩ : ∃ L, L = ts.length := ⟨_, rfl⟩
    have HL := hide hL
    rw [← hL] at hcap CK CP P1 HWA SA q0 cl1 cl2 ⊢
    have HLt : Hid (ts.length ≤ 16) := hide (by rw [← hL]; exact cl2)
    obtain ⟨b, o, rfl, HLT, HCLA⟩ : ∃ b o, ao = some ⟨b, o, none⟩ ∧ Hid (b < WA.heap.size) ∧ Hid (∀ X, Below WA.heap.size WA X → ∀ i, i < ts.length → TabAt X b o i (tabN ts i)) := by
      obtain ⟨ao', cap', hv, _, hat⟩ := SA.out
      obtain ⟨rfl, _, _⟩ := Value.slice.inj hv
      rcases hat with q | ⟨b, o, rfl, q, hcl⟩
      · rw [q] at hL; simp at hL; omega
      · exact ⟨b, o, rfl, hide q, hide (fun X hX i hi => (hcl i hi).below q hX)⟩
    obtain ⟨em, hem'⟩ : ∃ em, em = te.length := ⟨_, rfl⟩
    rw [← hem'] at hem HWA Q2 ⊢
    have HEM := hide hem'
    have HEA : Hid (ESl w (.slice ea em ec) te) := hide ⟨ea, ec, by rw [hem'], by rw [← hem']; exact hem, hea⟩
    clear hWA hT hz hz2t hat hL hC cl3 hea hem'
    go_enter Tryd.func3, Tryd.ntmps3
    go_wp2_with (simp only [HWA.out])
    refine CK.out.mono ?_
    rintro x w1 ⟨rfl, hz1⟩
    have B1 := hide hz1
    have CP1 := hide (CP.out w1 hz1)
    have q1 := (P1.out.below hz1 P1.out.lt).cell 0
    clear hz1 CK CP q0
    go_wp2_with fail
    refine CP1.out.mono ?_
    rintro x w2 ⟨v', cs, rfl, hcs, hmk, hb2⟩
    have B2 := hide (B1.out.trans (hb2.mono B1.out.size))
    obtain ⟨gC, cC, rfl, hown, hmke⟩ := hmk
    have hcl : cs.length = L := by rw [HL.out, ← hcs, List.length_map]
    rw [hcl] at hown ⊢
    obtain ⟨hownp, hcC⟩ := own_pre hown (by rw [cellsTb_len, hcl])
    have HcC := hide hcC
    have hgC : gC < w2.heap.size := (World.ownsRow.lt hown _ rfl).2
    have HCSL := hide hcl
    have HCS := hide hcs
    obtain ⟨WD, hWD⟩ : ∃ WD, WD = w2.alloc (.cells #[.slice (some ⟨gC, 0, none⟩) L cC] 24) := ⟨_, rfl⟩
    have BWD : Hid (Below w2.heap.size w2 WD) := hide (by rw [hWD]; exact (Below.refl _ _).alloc (Nat.le_refl _) _)
    have BD : Hid (Below WA.heap.size WA WD) := hide (B2.out.trans (BWD.out.mono B2.out.size))
    have HWDs : Hid (WD.heap.size = w2.heap.size + 1) := hide (by rw [hWD]; simp)
    have HW2s : Hid (w.heap.size + 2 ≤ w2.heap.size) := hide (by have := B2.out.size; have := HWAs.out; omega)
    have PD := hide (P1.out.below BD.out P1.out.lt)
    have MD := hide (Q2.out.below BD.out Q2.out.lt)
    have OD : Hid (Blk WD w2.heap.size #[.slice (some ⟨gC, 0, none⟩) L cC] 24) := hide (by rw [hWD]; exact Blk.newAt _ _ rfl _ _)
    have OLL : Hid ((cellsTb cs).length = L * 3) := hide (by rw [cellsTb_len, hcl])
    have OLD : Hid (∀ X, Hid (Below WD.heap.size WD X) → ∀ b, some (⟨gC, 0, none⟩ : Addr) = some b → ∀ j u, (cellsTb cs)[j]? = some u → X.cell? (b.add j) = some u) := hide (fun X hX b hb j u hu => by
      cases hb
      have h1 := World.ownsRow.cells hownp (g := gC) rfl j u hu
      rw [← h1, hX.out.cell (p := (⟨gC, 0, none⟩ : Addr).add j) (by rw [Addr.add_lit]; show gC < _; have := HWDs.out; omega), BWD.out.cell (p := (⟨gC, 0, none⟩ : Addr).add j) (by rw [Addr.add_lit]; exact hgC)])
    have ONE : Hid (∀ u ∈ [Value.string tn, .int .i64 tp, .slice ea em ec], u.oneCell' = true) := hide (by
      intro u hu
      simp only [List.mem_cons, List.not_mem_nil, or_false] at hu
      rcases hu with rfl | rfl | rfl <;> rfl)
    have HLN : Hid (L + 1 = (cs ++ [((⟨tn, tp, te⟩ : Tab), Value.slice ea em ec)]).length) := hide (by rw [List.length_append, hcl]; rfl)
    have HMP : Hid ((cs ++ [((⟨tn, tp, te⟩ : Tab), Value.slice ea em ec)]).map Prod.fst = ts ++ [⟨tn, tp, te⟩]) := hide (by rw [List.map_append, hcs]; rfl)
    have ESS : Hid (∀ c ∈ (cs ++ [((⟨tn, tp, te⟩ : Tab), Value.slice ea em ec)]), ESl WD c.2 c.1.ents) := hide (fun c hc => by
      rcases List.mem_append.1 hc with q | q
      · exact (hmke c q).esl.below BWD.out
      · simp only [List.mem_cons, List.not_mem_nil, or_false] at q
        subst q
        exact HEA.out.below (BA.out.trans (BD.out.mono BA.out.size)))
    have KEEP : Hid (∀ X w', Hid (Below WD.heap.size WD X) → X.grownBy w' none → Below WD.heap.size WD w' ∧ w'.cell? ⟨w2.heap.size, 0, none⟩ = some (.slice (some ⟨gC, 0, none⟩) L cC) ∧ w'.cell? ⟨w.heap.size, 0, none⟩ = some (.slice (some ⟨b, o, none⟩) L cap) ∧ w'.cell? ⟨w.heap.size + 1, 0, none⟩ = some (.string tn) ∧ w'.cell? ⟨w.heap.size + 1, 1, none⟩ = some (.int .i64 tp) ∧ w'.cell? ⟨w.heap.size + 1, 2, none⟩ = some (.slice ea em ec)) := hide (fun X w' hX hg => by
      have hB := hX.out.grown hg hX.out.size (fun j hj => by cases hj)
      exact ⟨hB, (OD.out.below hB OD.out.lt).cell 0, (PD.out.below hB PD.out.lt).cell 0, (MD.out.below hB MD.out.lt).cell 0, (MD.out.below hB MD.out.lt).cell 1, (MD.out.below hB MD.out.lt).cell 2⟩)
    have FRB : Hid (∀ X w' H (cs : Array Value), Blk X H cs 24 → X.grownBy w' none → Blk w' H cs 24) := hide (fun X w' H cs hq hg => by
      have hlt := hq.lt
      unfold Blk at *
      rw [hg.block H hlt (by simp)]
      exact hq)
    have QNA : Hid (Blk ((WD.drew.alloc (.cells #[.slice none 0 0] 24)).alloc (.cells #[Value.string tn, .int .i64 tp, .slice ea em ec] 27)) WD.heap.size #[.slice none 0 0] 24) := hide ((Blk.newAt WD.drew WD.heap.size rfl _ _).alloc _)
    have QNB : Hid (Blk ((WD.drew.alloc (.cells #[Value.string tn, .int .i64 tp, .slice ea em ec] 27)).alloc (.cells #[.slice none 0 0] 24)) (WD.heap.size + 1) #[.slice none 0 0] 24) := hide (Blk.newAt (WD.drew.alloc (.cells #[Value.string tn, .int .i64 tp, .slice ea em ec] 27)) (WD.heap.size + 1) (by show (WD.heap.push _).size = _; rw [Array.size_push]) _ _)
    have NEWC : Hid (∀ j u, [Value.string tn, .int .i64 tp, .slice ea em ec][j]? = some u → (WD.drew.alloc (.cells #[Value.string tn, .int .i64 tp, .slice ea em ec] 27)).cell? ((⟨WD.heap.size, 0, none⟩ : Addr).add j) = some u) := hide (cell_three_new WD.drew _ _ _ _)
    have NEWB : Hid (∀ j u, [Value.string tn, .int .i64 tp, .slice ea em ec][j]? = some u → ((WD.drew.alloc (.cells #[Value.string tn, .int .i64 tp, .slice ea em ec] 27)).alloc (.cells #[.slice none 0 0] 24)).cell? ((⟨WD.heap.size, 0, none⟩ : Addr).add j) = some u) := hide (fun j u hu => by
      rw [← NEWC.out j u hu]
      exact ((Below.refl (WD.drew.alloc (.cells #[Value.string tn, .int .i64 tp, .slice ea em ec] 27)).heap.size _).alloc (Nat.le_refl _) _).cell (p := (⟨WD.heap.size, 0, none⟩ : Addr).add j) (by rw [Addr.add_lit]; show WD.heap.size < (WD.heap.push _).size; rw [Array.size_push]; omega))
    have NEWA : Hid (∀ j u, [Value.string tn, .int .i64 tp, .slice ea em ec][j]? = some u → ((WD.drew.alloc (.cells #[.slice none 0 0] 24)).alloc (.cells #[Value.string tn, .int .i64 tp, .slice ea em ec] 27)).cell? ((⟨WD.heap.size + 1, 0, none⟩ : Addr).add j) = some u) := hide (fun j u hu => by
      have := cell_three_new (WD.drew.alloc (.cells #[.slice none 0 0] 24)) (.string tn) (.int .i64 tp) (.slice ea em ec) 27 j u hu
      have e : (WD.drew.alloc (.cells #[.slice none 0 0] 24)).heap.size = WD.heap.size + 1 := by show (WD.heap.push _).size = _; rw [Array.size_push]
      rw [e] at this
      exact this)
    have k0 := OD.out.cell 0
    have k1 := PD.out.cell 0
    have k2 := MD.out.cell 0
    have k3 := MD.out.cell 1
    have k4 := MD.out.cell 2
    have HWD := hide hWD.symm
    clear hown hownp hmke hcl hcs hWD hgC hb2 hcC q1 CP1
    go_wp2_with (simp only [HWD.out])
    go_cut [8] (fun vp wx => CutC WD (L + 1) (ts ++ [⟨tn, tp, te⟩]) vp wx)
    case first =>
      have n0 : ¬ w2.heap.size = WD.heap.size := (by have := HWDs.out; omega)
      have n1 : ¬ WD.heap.size = w2.heap.size := (by have := HWDs.out; omega)
      have n2 : ¬ w.heap.size = WD.heap.size := (by have := HWDs.out; have := HW2s.out; omega)
      have n3 : ¬ WD.heap.size = w.heap.size := (by have := HWDs.out; have := HW2s.out; omega)
      have n4 : ¬ w.heap.size + 1 = WD.heap.size := (by have := HWDs.out; have := HW2s.out; omega)
      have n5 : ¬ WD.heap.size = w.heap.size + 1 := (by have := HWDs.out; have := HW2s.out; omega)
      have n6 : ¬ w2.heap.size = WD.heap.size + 1 := (by have := HWDs.out; omega)
      have n7 : ¬ WD.heap.size + 1 = w2.heap.size := (by have := HWDs.out; omega)
      have n8 : ¬ w.heap.size = WD.heap.size + 1 := (by have := HWDs.out; have := HW2s.out; omega)
      have n9 : ¬ WD.heap.size + 1 = w.heap.size := (by have := HWDs.out; have := HW2s.out; omega)
      have hL1 : L < L + 1 := Nat.lt_succ_self L
      have hL2 : (L : Int) ≤ (cC : Int) := by have := HcC.out; omega
      have mk0 : True := trivial
      go_region_held3 (fun w' => w'.cell? ⟨w2.heap.size, 0, none⟩ = some (.slice (some ⟨gC, 0, none⟩) L cC) ∧ w'.cell? ⟨w.heap.size, 0, none⟩ = some (.slice (some ⟨b, o, none⟩) L cap) ∧ w'.cell? ⟨w.heap.size + 1, 0, none⟩ = some (.string tn) ∧ w'.cell? ⟨w.heap.size + 1, 1, none⟩ = some (.int .i64 tp) ∧ w'.cell? ⟨w.heap.size + 1, 2, none⟩ = some (.slice ea em ec)) (go_keep) (first
          | (clear mk0; refine step_append_grows (by rfl) _ _ _ (by rfl) 27 i0 (.agg #[.string ⟨#[]⟩, .int .i64 0, .slice none 0 0]) 3 48 Tryd.underlying22 hi hz0 hz1 hz2 rfl (by decide) (some ⟨gC, 0, none⟩) L L (cellsTb cs) (by rfl) (fun h => by cases h) OLL.out (OLD.out _ (balH (balH (bdrH WD) (.cells #[.slice none 0 0] 24)) (.cells #[Value.string tn, .int .i64 tp, .slice ea em ec] 27))) ⟨WD.heap.size + 1, 0, none⟩ 1 1 [Value.string tn, .int .i64 tp, .slice ea em ec] (by rfl) rfl NEWA.out ONE.out hL1 (by unfold maxLen; omega) (by omega) ?_; intro v4 w4 hown4 hgr4; obtain ⟨g4, c4, rfl, hg4, hlt4, hc4⟩ := own_formS hown4; have K4 := hide (KEEP.out _ w4 (balH (balH (bdrH WD) (.cells #[.slice none 0 0] 24)) (.cells #[Value.string tn, .int .i64 tp, .slice ea em ec] 27)) hgr4); have s0 := K4.out.2.1; have s1 := K4.out.2.2.1; have s2 := K4.out.2.2.2.1; have s3 := K4.out.2.2.2.2.1; have s4 := K4.out.2.2.2.2.2; have QA := hide (FRB.out _ w4 WD.heap.size #[.slice none 0 0] (QNA.out) hgr4); have h0 : w4.cell? ⟨WD.heap.size, 0, none⟩ = some (.slice none 0 0) := QA.out.cell 0; have h1 := QA.out.free 0; have mkA : True := trivial)
          | (clear mk0; refine step_append_grows (by rfl) _ _ _ (by rfl) 27 i0 (.agg #[.string ⟨#[]⟩, .int .i64 0, .slice none 0 0]) 3 48 Tryd.underlying22 hi hz0 hz1 hz2 rfl (by decide) (some ⟨gC, 0, none⟩) L L (cellsTb cs) (by rfl) (fun h => by cases h) OLL.out (OLD.out _ (balH (balH (bdrH WD) (.cells #[Value.string tn, .int .i64 tp, .slice ea em ec] 27)) (.cells #[.slice none 0 0] 24))) ⟨WD.heap.size, 0, none⟩ 1 1 [Value.string tn, .int .i64 tp, .slice ea em ec] (by rfl) rfl NEWB.out ONE.out hL1 (by unfold maxLen; omega) (by omega) ?_; intro v4 w4 hown4 hgr4; obtain ⟨g4, c4, rfl, hg4, hlt4, hc4⟩ := own_formS hown4; have K4 := hide (KEEP.out _ w4 (balH (balH (bdrH WD) (.cells #[Value.string tn, .int .i64 tp, .slice ea em ec] 27)) (.cells #[.slice none 0 0] 24)) hgr4); have s0 := K4.out.2.1; have s1 := K4.out.2.2.1; have s2 := K4.out.2.2.2.1; have s3 := K4.out.2.2.2.2.1; have s4 := K4.out.2.2.2.2.2; have QB := hide (FRB.out _ w4 (WD.heap.size + 1) #[.slice none 0 0] (QNB.out) hgr4); have h0 : w4.cell? ⟨WD.heap.size + 1, 0, none⟩ = some (.slice none 0 0) := QB.out.cell 0; have h1 := QB.out.free 0; have mkB : True := trivial)
          | (clear mk0; refine step_append_grows (by rfl) _ _ _ (by rfl) 27 i0 (.agg #[.string ⟨#[]⟩, .int .i64 0, .slice none 0 0]) 3 48 Tryd.underlying22 hi hz0 hz1 hz2 rfl (by decide) (some ⟨gC, 0, none⟩) L L (cellsTb cs) (by rfl) (fun h => by cases h) OLL.out (OLD.out _ (balH (bdrH WD) (.cells #[Value.string tn, .int .i64 tp, .slice ea em ec] 27))) ⟨WD.heap.size, 0, none⟩ 1 1 [Value.string tn, .int .i64 tp, .slice ea em ec] (by rfl) rfl NEWC.out ONE.out hL1 (by unfold maxLen; omega) (by omega) ?_; intro v4 w4 hown4 hgr4; obtain ⟨g4, c4, rfl, hg4, hlt4, hc4⟩ := own_formS hown4; have K4 := hide (KEEP.out _ w4 (balH (bdrH WD) (.cells #[Value.string tn, .int .i64 tp, .slice ea em ec] 27)) hgr4); have s0 := K4.out.2.1; have s1 := K4.out.2.2.1; have s2 := K4.out.2.2.2.1; have s3 := K4.out.2.2.2.2.1; have s4 := K4.out.2.2.2.2.2; have c1 : ¬ w2.heap.size = w4.heap.size := (by have := K4.out.1.size; have := HWDs.out; omega); have c2 : ¬ w4.heap.size = w2.heap.size := (by have := K4.out.1.size; have := HWDs.out; omega); have c3 : ¬ w.heap.size = w4.heap.size := (by have := K4.out.1.size; have := HWDs.out; have := HW2s.out; omega); have c4x : ¬ w4.heap.size = w.heap.size := (by have := K4.out.1.size; have := HWDs.out; have := HW2s.out; omega); have c5 : ¬ w.heap.size + 1 = w4.heap.size := (by have := K4.out.1.size; have := HWDs.out; have := HW2s.out; omega); have c6 : ¬ w4.heap.size = w.heap.size + 1 := (by have := K4.out.1.size; have := HWDs.out; have := HW2s.out; omega); have mkC : True := trivial))
      all_goals (go_wp2_with fail; go_meet)
      all_goals (first | (clear mkA; exact cutc_old K4.out.1 QA.out (Nat.le_refl _) (own_snoc (es := te) hown4) HLN.out ESS.out HMP.out) | (clear mkB; exact cutc_old K4.out.1 QB.out (Nat.le_succ _) (own_snoc (es := te) hown4) HLN.out ESS.out HMP.out) | (clear mkC; exact cutc_new K4.out.1 (own_snoc (es := te) hown4) HLN.out ESS.out HMP.out))
    case rest =>
      obtain ⟨⟨H8, g4, c4, rfl, hq8, hts8, hbe⟩⟩ := hcut
      have hH8 : H8 < wc.heap.size := hq8.lt
      have WEF : Hid (Below WA.heap.size WA wc) := hide (BD.out.trans (hbe.mono BD.out.size))
      have CK2 := hide (Check_any hts8 (by rw [List.length_append]; simp; have := HLt.out; omega) HZ2.out (HT.out.below (BA.out.trans (WEF.out.mono BA.out.size))))
      have e0 := hq8.cell 0
      have QE0 := hide hq8
      have TSC0 := hide hts8
      clear hq8 hts8 hbe k0 k1 k2 k3 k4 QNA QNB NEWA NEWB NEWC KEEP FRB ESS OLD OLL ONE OD MD PD BWD HWD
      have hH8' := hide hH8
      clear hH8
      by_cases hC2 : checkT (ts ++ [⟨tn, tp, te⟩]) = 0
      · rw [hC2] at CK2
        rw [show ((0 : Nat) : Int) = 0 from rfl] at CK2
        go_wp2_with fail
        refine CK2.out.mono ?_
        rintro x WE ⟨rfl, hbE⟩
        have BE := hide (WEF.out.trans (hbE.mono WEF.out.size))
        have QE := hide (QE0.out.below hbE QE0.out.lt)
        have TSC := hide (TSC0.out.below hbE)
        have PE := hide (P1.out.below BE.out P1.out.lt)
        have TSE := hide (SA.out.below BE.out)
        have HGE1 : Hid (w.heap.size < WE.heap.size) := hide PE.out.lt
        have HGE2 : Hid (b < WE.heap.size) := hide (by have := HLT.out; have := BE.out.size; omega)
        have HGE3 : Hid (H8 < WE.heap.size) := hide QE.out.lt
        clear hbE CK2 QE0 TSC0 e0
        have HC1 := hide hC2
        clear hC2
        have KP : Hid (∀ X, Below WE.heap.size WE X → Blk X w.heap.size #[.slice (some ⟨b, o, none⟩) L cap] 24) := hide (fun X hX => (PE.out.below hX PE.out.lt))
        have KC : Hid (∀ X, Below WE.heap.size WE X → Blk X H8 #[.slice (some ⟨g4, 0, none⟩) (L + 1) c4] 24) := hide (fun X hX => (QE.out.below hX QE.out.lt))
        have NMS : Hid (∀ X, Below WE.heap.size WE X → ∀ i, i < ts.length → X.cell? ⟨b, o + i * 3, none⟩ = some (.string (tabN ts i).name)) := hide (fun X hX i hi => ((HCLA.out WE BE.out i hi).below HGE2.out hX).1)
        have FNF : Hid (∀ n k X, Below WE.heap.size WE X → Calls Tryd.prog 7 #[.agg #[.slice (some ⟨b, o, none⟩) L cap], .string n, .string k] X fun e w' => e = .returned (ansF (findT ts n k)) ∧ Below X.heap.size X w') := hide (fun n k X hX => Find_any n k (TSE.out.below hX) (by have := HLt.out; omega) HZ.out (HT.out.below ((BA.out.trans (BE.out.mono BA.out.size)).trans (hX.mono (BA.out.trans (BE.out.mono BA.out.size)).size))))
        have KSF : Hid (∀ n k X, Below WE.heap.size WE X → Calls Tryd.prog 8 #[.agg #[.slice (some ⟨b, o, none⟩) L cap], .string n, .string k] X fun e w' => AnsK (chE ts n) (poolL (keysL k (chL ts n))) X e w') := hide (fun n k X hX => Keys_any n k (TSE.out.below hX) (by have := HLt.out; omega) HZ.out (HT.out.below ((BA.out.trans (BE.out.mono BA.out.size)).trans (hX.mono (BA.out.trans (BE.out.mono BA.out.size)).size))))
        have FCF : Hid (∀ n k X, Below WE.heap.size WE X → Calls Tryd.prog 7 #[.agg #[.slice (some ⟨g4, 0, none⟩) (L + 1) c4], .string n, .string k] X fun e w' => e = .returned (ansF (findT (ts ++ [⟨tn, tp, te⟩]) n k)) ∧ Below X.heap.size X w') := hide (fun n k X hX => Find_any n k (TSC.out.below hX) (by have := HLt.out; rw [List.length_append]; simp; omega) HZ2.out (HT.out.below ((BA.out.trans (BE.out.mono BA.out.size)).trans (hX.mono (BA.out.trans (BE.out.mono BA.out.size)).size))))
        have KCF : Hid (∀ n k X, Below WE.heap.size WE X → Calls Tryd.prog 8 #[.agg #[.slice (some ⟨g4, 0, none⟩) (L + 1) c4], .string n, .string k] X fun e w' => AnsK (chE (ts ++ [⟨tn, tp, te⟩]) n) (poolL (keysL k (chL (ts ++ [⟨tn, tp, te⟩]) n))) X e w') := hide (fun n k X hX => Keys_any n k (TSC.out.below hX) (by have := HLt.out; rw [List.length_append]; simp; omega) HZ2.out (HT.out.below ((BA.out.trans (BE.out.mono BA.out.size)).trans (hX.mono (BA.out.trans (BE.out.mono BA.out.size)).size))))
        have p1 := PE.out.cell 0
        go_wp2
        go_loopw [9] (fun y wr => ∃ k : Nat, k ≤ L ∧ y = .int .i64 (k : Int) ∧ Hid (Below WE.heap.size WE wr)) (fun y _ => L - (intOf y).toNat)
        case atStart => exact ⟨0, Nat.zero_le _, rfl, hide (Below.refl _ _)⟩
        case round =>
          obtain ⟨k, hk, rfl, HB⟩ := hrel
          clear p1
          by_cases hkl : k < L
          · have hkl' : (k : Int) < (L : Int) := by omega
            have hkt : k < ts.length := by rw [← HL.out]; exact hkl
            have c0 := (NMS.out wr HB.out) k hkt
            have HNM : Hid (∀ X, Below WE.heap.size WE X → X.cell? ⟨b, o + k * 3, none⟩ = some (.string (tabN ts k).name)) := hide (fun X hX => NMS.out X hX k hkt)
            have AP := hide (apart_self HC0.out HC1.out hkt)
            have CHS := hide (ch_self HC0.out hkt)
            obtain ⟨nm, hnm⟩ : ∃ nm, nm = (tabN ts k).name := ⟨_, rfl⟩
            rw [← hnm] at c0 HNM AP CHS
            clear hnm
            have q1 := (KP.out wr HB.out).cell 0
            obtain ⟨ps, hps⟩ : ∃ ps, ps = poolL (keysL key (chL ts nm)) := ⟨_, rfl⟩
            have HPS := hide hps
            obtain ⟨M, hM⟩ : ∃ M, M = ps.length := ⟨_, rfl⟩
            have HM := hide hM
            have HMB : Hid (M ≤ 1000000) := hide (by rw [hM, hps, pool_len, CHS.out.2]; exact keys_bound HC0.out hkt key)
            have KS : Hid (∀ X, Below WE.heap.size WE X → Calls Tryd.prog 8 #[.agg #[.slice (some ⟨b, o, none⟩) L cap], .string nm, .string key] X fun e w' => AnsK 0 (poolL (keysL key (chL ts nm))) X e w') := hide (fun X hX => by
              have := KSF.out nm key X hX
              rw [CHS.out.1] at this
              exact this)
            have KK : Hid (∀ X, Below WE.heap.size WE X → Calls Tryd.prog 8 #[.agg #[.slice (some ⟨g4, 0, none⟩) (L + 1) c4], .string nm, .string key] X fun e w' => AnsK 0 (poolL (keysL key (chL ts nm))) X e w') := hide (fun X hX => by
              have := KCF.out nm key X hX
              rw [AP.out.1.1, AP.out.1.2] at this
              exact this)
            have FN : Hid (∀ X, Below WE.heap.size WE X → Calls Tryd.prog 7 #[.agg #[.slice (some ⟨b, o, none⟩) L cap], .string nm, .string key] X fun e w' => e = .returned (ansF (findT ts nm key)) ∧ Below X.heap.size X w') := hide (fun X hX => FNF.out nm key X hX)
            have FC : Hid (∀ X, Below WE.heap.size WE X → Calls Tryd.prog 7 #[.agg #[.slice (some ⟨g4, 0, none⟩) (L + 1) c4], .string nm, .string key] X fun e w' => e = .returned (ansF (findT ts nm key)) ∧ Below X.heap.size X w') := hide (fun X hX => by
              have := FCF.out nm key X hX
              rw [AP.out.2 key] at this
              exact this)
            clear hps hM AP CHS
            have C6 : Hid (∀ X, Hid (Below wr.heap.size wr X) → Calls Tryd.prog 7 #[.agg #[.slice (some ⟨b, o, none⟩) L cap], .string nm, .string key] X fun x w' => x = .returned (.tuple #[.agg #[.string (findT ts nm key).1.key, .int .i64 (findT ts nm key).1.kind, .string (findT ts nm key).1.text, .int .i64 (findT ts nm key).1.num], .int .i64 ((findT ts nm key).2 : Int)]) ∧ Hid (Below X.heap.size X w') ∧ Hid (Below wr.heap.size wr w') ∧ w'.cell? ⟨w.heap.size, 0, none⟩ = some (.slice (some ⟨b, o, none⟩) L cap) ∧ w'.cell? ⟨b, o + k * 3, none⟩ = some (.string nm)) := hide (by
              intro X bX
              refine (FN.out X (HB.out.trans (bX.out.mono HB.out.size))).mono ?_
              rintro x w' ⟨rfl, hb⟩
              have bb := bX.out.trans (hb.mono bX.out.size)
              have bw := HB.out.trans (bb.mono HB.out.size)
              exact ⟨rfl, hb, bb, (KP.out w' bw).cell 0, HNM.out w' bw⟩)
            obtain ⟨F, hF⟩ : ∃ F, F = findT ts nm key := ⟨_, rfl⟩
            rw [← hF] at C6
            obtain ⟨⟨xk, xn, xt, xm⟩, xe⟩ := F
            have HF : Hid (((⟨xk, xn, xt, xm⟩ : Ent), xe) = findT ts nm key) := hide hF
            clear hF
            have HG1 : Hid (w.heap.size < wr.heap.size) := hide (by have := HGE1.out; have := HB.out.size; omega)
            have HG2 : Hid (b < wr.heap.size) := hide (by have := HGE2.out; have := HB.out.size; omega)
            go_wp2_with fail
            go_cut [10, 11] (fun vp ve wx => CutE wr (⟨xk, xn, xt, xm⟩) ((xe : Int)) vp ve wx)
            case first =>
              have b0 : Hid (Below wr.heap.size wr wr.drew) := bdrH wr
              have n0W : ¬ w.heap.size = wr.heap.size := (by have := HG1.out; omega)
              have m0W : ¬ wr.heap.size = w.heap.size := (by have := HG1.out; omega)
              have n1W : ¬ b = wr.heap.size := (by have := HG2.out; omega)
              have m1W : ¬ wr.heap.size = b := (by have := HG2.out; omega)
              have mk0 : True := trivial
              go_region_held3 (fun w' => w'.cell? ⟨w.heap.size, 0, none⟩ = some (.slice (some ⟨b, o, none⟩) L cap) ∧ w'.cell? ⟨b, o + k * 3, none⟩ = some (.string nm)) (go_keep) (first
                  | (clear mk0; go_at_call 7; refine (C6.out _ (balH b0 (Obj.cells #[.string ⟨#[]⟩, .int .i64 0, .string ⟨#[]⟩, .int .i64 0] 33))).mono ?_; rintro x u1 ⟨rfl, R1, b1, q0_0, q0_1⟩; have QN := (Blk.newAt wr.drew wr.heap.size rfl #[.string ⟨#[]⟩, .int .i64 0, .string ⟨#[]⟩, .int .i64 0] 33).below R1.out (Blk.newAt wr.drew wr.heap.size rfl #[.string ⟨#[]⟩, .int .i64 0, .string ⟨#[]⟩, .int .i64 0] 33).lt; have h0 : u1.cell? ⟨wr.heap.size, 0, none⟩ = some (.string ⟨#[]⟩) := QN.cell 0; have h1 : u1.cell? ⟨wr.heap.size, 1, none⟩ = some (.int .i64 0) := QN.cell 1; have h2 : u1.cell? ⟨wr.heap.size, 2, none⟩ = some (.string ⟨#[]⟩) := QN.cell 2; have h3 : u1.cell? ⟨wr.heap.size, 3, none⟩ = some (.int .i64 0) := QN.cell 3; have h4 := QN.free 0; have h5 := QN.free 1; have h6 := QN.free 2; have h7 := QN.free 3; have QH := hide QN; clear QN; have mk1L0 : True := trivial)
                  | (clear mk0; go_at_call 7; refine (C6.out _ b0).mono ?_; rintro x u1 ⟨rfl, R1, b1, q0_0, q0_1⟩; have n0u1 : ¬ w.heap.size = u1.heap.size := (by have := HG1.out; have := b1.out.size; omega); have m0u1 : ¬ u1.heap.size = w.heap.size := (by have := HG1.out; have := b1.out.size; omega); have n1u1 : ¬ b = u1.heap.size := (by have := HG2.out; have := b1.out.size; omega); have m1u1 : ¬ u1.heap.size = b := (by have := HG2.out; have := b1.out.size; omega); have mk1 : True := trivial))
              all_goals (go_wp2_with fail; go_meet)
              all_goals (first | (clear mk1L0; exact cute_old b1.out QH.out (Nat.le_refl _)) | (clear mk1; exact cute_new b1.out))
            case rest =>
              obtain ⟨⟨Hx, rfl, rfl, hq, hH, hbc⟩⟩ := hcut
              have HB1 := hide (HB.out.trans (hbc.mono HB.out.size))
              have Bx := hide hq
              clear hq hH hbc C6 c0 q1
              have q1 := (KP.out wc HB1.out).cell 0
              have r1 := (KC.out wc HB1.out).cell 0
              have c0 := HNM.out wc HB1.out
              have HG3 : Hid (w.heap.size < wc.heap.size) := hide (by have := HG1.out; have := HB1.out.size; have := HB.out.size; have := HGE1.out; omega)
              have HG4 : Hid (b < wc.heap.size) := hide (by have := HGE2.out; have := HB1.out.size; omega)
              have HG5 : Hid (H8 < wc.heap.size) := hide (by have := HGE3.out; have := HB1.out.size; omega)
              have C7 : Hid (∀ X, Hid (Below wc.heap.size wc X) → Calls Tryd.prog 7 #[.agg #[.slice (some ⟨g4, 0, none⟩) (L + 1) c4], .string nm, .string key] X fun x w' => x = .returned (.tuple #[.agg #[.string (findT ts nm key).1.key, .int .i64 (findT ts nm key).1.kind, .string (findT ts nm key).1.text, .int .i64 (findT ts nm key).1.num], .int .i64 ((findT ts nm key).2 : Int)]) ∧ Hid (Below X.heap.size X w') ∧ Hid (Below wc.heap.size wc w') ∧ w'.cell? ⟨w.heap.size, 0, none⟩ = some (.slice (some ⟨b, o, none⟩) L cap) ∧ w'.cell? ⟨b, o + k * 3, none⟩ = some (.string nm) ∧ w'.cell? ⟨H8, 0, none⟩ = some (.slice (some ⟨g4, 0, none⟩) (L + 1) c4)) := hide (by
                intro X bX
                refine (FC.out X (HB1.out.trans (bX.out.mono HB1.out.size))).mono ?_
                rintro x w' ⟨rfl, hb⟩
                have bb := bX.out.trans (hb.mono bX.out.size)
                have bw := HB1.out.trans (bb.mono HB1.out.size)
                exact ⟨rfl, hb, bb, (KP.out w' bw).cell 0, HNM.out w' bw, (KC.out w' bw).cell 0⟩)
              obtain ⟨F, hF⟩ : ∃ F, F = findT ts nm key := ⟨_, rfl⟩
              rw [← hF] at C7
              rw [← HF.out] at hF
              subst hF
              go_wp2_with fail
              go_cut [12, 13] (fun vp ve wx => CutE wc (⟨xk, xn, xt, xm⟩) ((xe : Int)) vp ve wx)
              case first =>
                have b0 : Hid (Below wc.heap.size wc wc.drew) := bdrH wc
                have n0W : ¬ w.heap.size = wc.heap.size := (by have := HG3.out; omega)
                have m0W : ¬ wc.heap.size = w.heap.size := (by have := HG3.out; omega)
                have n1W : ¬ b = wc.heap.size := (by have := HG4.out; omega)
                have m1W : ¬ wc.heap.size = b := (by have := HG4.out; omega)
                have n2W : ¬ H8 = wc.heap.size := (by have := HG5.out; omega)
                have m2W : ¬ wc.heap.size = H8 := (by have := HG5.out; omega)
                have mk0 : True := trivial
                go_region_held3 (fun w' => w'.cell? ⟨w.heap.size, 0, none⟩ = some (.slice (some ⟨b, o, none⟩) L cap) ∧ w'.cell? ⟨b, o + k * 3, none⟩ = some (.string nm) ∧ w'.cell? ⟨H8, 0, none⟩ = some (.slice (some ⟨g4, 0, none⟩) (L + 1) c4)) (go_keep) (first
                    | (clear mk0; go_at_call 7; refine (C7.out _ (balH b0 (Obj.cells #[.string ⟨#[]⟩, .int .i64 0, .string ⟨#[]⟩, .int .i64 0] 33))).mono ?_; rintro x u1 ⟨rfl, R1, b1, q0_0, q0_1, q0_2⟩; have QN := (Blk.newAt wc.drew wc.heap.size rfl #[.string ⟨#[]⟩, .int .i64 0, .string ⟨#[]⟩, .int .i64 0] 33).below R1.out (Blk.newAt wc.drew wc.heap.size rfl #[.string ⟨#[]⟩, .int .i64 0, .string ⟨#[]⟩, .int .i64 0] 33).lt; have h0 : u1.cell? ⟨wc.heap.size, 0, none⟩ = some (.string ⟨#[]⟩) := QN.cell 0; have h1 : u1.cell? ⟨wc.heap.size, 1, none⟩ = some (.int .i64 0) := QN.cell 1; have h2 : u1.cell? ⟨wc.heap.size, 2, none⟩ = some (.string ⟨#[]⟩) := QN.cell 2; have h3 : u1.cell? ⟨wc.heap.size, 3, none⟩ = some (.int .i64 0) := QN.cell 3; have h4 := QN.free 0; have h5 := QN.free 1; have h6 := QN.free 2; have h7 := QN.free 3; have QH := hide QN; clear QN; have mk1L0 : True := trivial)
                    | (clear mk0; go_at_call 7; refine (C7.out _ b0).mono ?_; rintro x u1 ⟨rfl, R1, b1, q0_0, q0_1, q0_2⟩; have n0u1 : ¬ w.heap.size = u1.heap.size := (by have := HG3.out; have := b1.out.size; omega); have m0u1 : ¬ u1.heap.size = w.heap.size := (by have := HG3.out; have := b1.out.size; omega); have n1u1 : ¬ b = u1.heap.size := (by have := HG4.out; have := b1.out.size; omega); have m1u1 : ¬ u1.heap.size = b := (by have := HG4.out; have := b1.out.size; omega); have n2u1 : ¬ H8 = u1.heap.size := (by have := HG5.out; have := b1.out.size; omega); have m2u1 : ¬ u1.heap.size = H8 := (by have := HG5.out; have := b1.out.size; omega); have mk1 : True := trivial))
                all_goals (go_wp2_with fail; go_meet)
                all_goals (first | (clear mk1L0; exact cute_old b1.out QH.out (Nat.le_refl _)) | (clear mk1; exact cute_new b1.out))
              case rest =>
                obtain ⟨⟨Hy, rfl, rfl, hqy, hHy, hbcy⟩⟩ := hcut
                have HB2 := hide (HB1.out.trans (hbcy.mono HB1.out.size))
                have BX2 := hide (Bx.out.below hbcy Bx.out.lt)
                have By := hide hqy
                clear hqy hHy hbcy C7 Bx c0 q1 r1
                have q1 := (KP.out wc HB2.out).cell 0
                have r1 := (KC.out wc HB2.out).cell 0
                have c0 := HNM.out wc HB2.out
                go_wp2_with fail
                have C12 : Hid (∀ X, Hid (Below wc.heap.size wc X) → Calls Tryd.prog 8 #[.agg #[.slice (some ⟨b, o, none⟩) L cap], .string nm, .string key] X fun x w' => (∃ q cp, x = .returned (.tuple #[.slice (some ⟨q, 0, none⟩) M cp, .int .i64 0]) ∧ Hid (q < w'.heap.size ∧ ∀ i, i < M → w'.cell? ⟨q, i, none⟩ = some (.string ⟨(ps[i]?.getD []).toArray⟩))) ∧ Hid (Below wc.heap.size wc w') ∧ w'.cell? ⟨w.heap.size, 0, none⟩ = some (.slice (some ⟨b, o, none⟩) L cap) ∧ w'.cell? ⟨b, o + k * 3, none⟩ = some (.string nm) ∧ w'.cell? ⟨H8, 0, none⟩ = some (.slice (some ⟨g4, 0, none⟩) (L + 1) c4)) := hide (by
                  intro X bX
                  have b1 := HB2.out.trans (bX.out.mono HB2.out.size)
                  refine (KS.out X b1).mono ?_
                  rintro x w' ⟨h1, _, hb⟩
                  obtain ⟨q, cp, rfl, hr⟩ := h1 rfl
                  have bb := bX.out.trans (hb.mono bX.out.size)
                  have bw := HB2.out.trans (bb.mono HB2.out.size)
                  rw [← HPS.out] at hr
                  rw [← HPS.out, ← HM.out]
                  exact ⟨⟨q, cp, rfl, hide ⟨(World.ownsRow.lt hr q rfl).2, fun i hi => RowS.cell hr i (by rw [← HM.out]; exact hi)⟩⟩, bb, (KP.out w' bw).cell 0, HNM.out w' bw, (KC.out w' bw).cell 0⟩)
                have b0 := bdrH wc
                go_region_held3 (fun w' => w'.cell? ⟨w.heap.size, 0, none⟩ = some (.slice (some ⟨b, o, none⟩) L cap) ∧ w'.cell? ⟨b, o + k * 3, none⟩ = some (.string nm) ∧ w'.cell? ⟨H8, 0, none⟩ = some (.slice (some ⟨g4, 0, none⟩) (L + 1) c4)) (go_keep) (first
                    | (go_at_call 8; refine (C12.out _ b0).mono ?_; rintro x z1 ⟨⟨tq, tp, rfl, HLc⟩, HLcB, t0, t1, t2⟩))
                clear C12 b0
                have HB3 := hide (HB2.out.trans (HLcB.out.mono HB2.out.size))
                clear q1 r1 c0
                go_wp2_with fail
                have C13 : Hid (∀ X, Hid (Below z1.heap.size z1 X) → Calls Tryd.prog 8 #[.agg #[.slice (some ⟨g4, 0, none⟩) (L + 1) c4], .string nm, .string key] X fun x w' => (∃ q cp, x = .returned (.tuple #[.slice (some ⟨q, 0, none⟩) M cp, .int .i64 0]) ∧ Hid (q < w'.heap.size ∧ ∀ i, i < M → w'.cell? ⟨q, i, none⟩ = some (.string ⟨(ps[i]?.getD []).toArray⟩))) ∧ Hid (Below z1.heap.size z1 w') ∧ w'.cell? ⟨w.heap.size, 0, none⟩ = some (.slice (some ⟨b, o, none⟩) L cap) ∧ w'.cell? ⟨b, o + k * 3, none⟩ = some (.string nm) ∧ w'.cell? ⟨H8, 0, none⟩ = some (.slice (some ⟨g4, 0, none⟩) (L + 1) c4)) := hide (by
                  intro X bX
                  have b1 := HB3.out.trans (bX.out.mono HB3.out.size)
                  refine (KK.out X b1).mono ?_
                  rintro x w' ⟨h1, _, hb⟩
                  obtain ⟨q, cp, rfl, hr⟩ := h1 rfl
                  have bb := bX.out.trans (hb.mono bX.out.size)
                  have bw := HB3.out.trans (bb.mono HB3.out.size)
                  rw [← HPS.out] at hr
                  rw [← HPS.out, ← HM.out]
                  exact ⟨⟨q, cp, rfl, hide ⟨(World.ownsRow.lt hr q rfl).2, fun i hi => RowS.cell hr i (by rw [← HM.out]; exact hi)⟩⟩, bb, (KP.out w' bw).cell 0, HNM.out w' bw, (KC.out w' bw).cell 0⟩)
                have b0 := bdrH z1
                go_region_held3 (fun w' => w'.cell? ⟨w.heap.size, 0, none⟩ = some (.slice (some ⟨b, o, none⟩) L cap) ∧ w'.cell? ⟨b, o + k * 3, none⟩ = some (.string nm) ∧ w'.cell? ⟨H8, 0, none⟩ = some (.slice (some ⟨g4, 0, none⟩) (L + 1) c4)) (go_keep) (first
                    | (go_at_call 8; refine (C13.out _ b0).mono ?_; rintro x z2 ⟨⟨sq, sp, rfl, HLd⟩, HLdB, s0, s1, s2⟩))
                clear C13 b0
                clear t0 t1 t2 s0 s1 s2
                have HB4 := hide (HB3.out.trans (HLdB.out.mono HB3.out.size))
                have BX4 := hide ((BX2.out.below HLcB.out BX2.out.lt).below HLdB.out (Nat.lt_of_lt_of_le BX2.out.lt HLcB.out.size))
                have BY4 := hide ((By.out.below HLcB.out By.out.lt).below HLdB.out (Nat.lt_of_lt_of_le By.out.lt HLcB.out.size))
                have x0 := BX4.out.cell 0
                have x1 := BX4.out.cell 1
                have x2 := BX4.out.cell 2
                have x3 := BX4.out.cell 3
                have y0 := BY4.out.cell 0
                have y1 := BY4.out.cell 1
                have y2 := BY4.out.cell 2
                have y3 := BY4.out.cell 3
                have ST := hide (sameTexts_eq (c1 := tp) (c2 := sp) HMB.out (fun i => ⟨(ps[i]?.getD []).toArray⟩) (fun i hi => (HLdB.out.cell (p := ⟨tq, i, none⟩) HLc.out.1).trans (HLc.out.2 i hi)) HLd.out.2)
                go_wp2_with fail
                refine ST.out.mono ?_
                rintro x z3 ⟨rfl, hz3⟩
                have HB5 := hide (HB4.out.trans (hz3.mono HB4.out.size))
                clear hz3 ST x0 x1 x2 x3 y0 y1 y2 y3
                go_wp2
                exact ⟨⟨k + 1, by omega, by go_num, HB5⟩, by simp [intOf]; omega⟩
          · obtain rfl : k = L := by omega
            have hkl' : ¬ (k : Int) < (k : Int) := by omega
            have q1 := (KP.out wr HB.out).cell 0
            clear hkl
            have F1 := hide (fixed_any wr (HT.out.below ((BA.out.trans (BE.out.mono BA.out.size)).trans (HB.out.mono (BA.out.trans (BE.out.mono BA.out.size)).size))))
            go_wp2_with fail
            refine F1.out.mono ?_
            rintro x y2 ⟨rfl, hz2⟩
            have T2 := hide ((((BA.out.trans (BE.out.mono BA.out.size)).trans (HB.out.mono (BA.out.trans (BE.out.mono BA.out.size)).size))).trans (hz2.mono (((BA.out.trans (BE.out.mono BA.out.size)).trans (HB.out.mono (BA.out.trans (BE.out.mono BA.out.size)).size))).size))
            clear hz2 F1
            go_wp2
            go_ret
            exact ⟨rfl, T2.out⟩
      · have hC2' : ¬ (checkT (ts ++ [⟨tn, tp, te⟩]) : Int) = 0 := by omega
        generalize checkT (ts ++ [⟨tn, tp, te⟩]) = C2 at *
        go_wp2_with fail
        refine CK2.out.mono ?_
        rintro x WE ⟨rfl, hbE⟩
        have BE := hide (BA.out.trans ((WEF.out.trans (hbE.mono WEF.out.size)).mono BA.out.size))
        clear hbE CK2
        have F1 := hide (fixed_any WE (HT.out.below BE.out))
        go_wp2_with fail
        refine F1.out.mono ?_
        rintro x y2 ⟨rfl, hz2⟩
        have T2 := hide ((BE.out).trans (hz2.mono (BE.out).size))
        clear hz2 F1
        go_wp2
        go_ret
        exact ⟨rfl, T2.out⟩
  · have hC' : ¬ (checkT ts : Int) = 0 := by omega
    obtain ⟨ao, cap, rfl, hcap, hat⟩ := h
    obtain ⟨ea, ec, rfl, hem, hea⟩ := hE
    clear hat hea
    generalize checkT ts = C at *
    go_enter Tryd.func3, Tryd.ntmps3
    go_wp2_with (simp only [HWA.out])
    refine CK.out.mono ?_
    rintro x w1 ⟨rfl, hz1⟩
    have B1 := hide (BA.out.trans (hz1.mono BA.out.size))
    clear hz1 CK
    have F1 := hide (fixed_any w1 (HT.out.below B1.out))
    go_wp2_with fail
    refine F1.out.mono ?_
    rintro x y2 ⟨rfl, hz2⟩
    have T2 := hide ((B1.out).trans (hz2.mono (B1.out).size))
    clear hz2 F1
    go_wp2
    go_ret
    exact ⟨rfl, T2.out⟩

theorem bundleApart_row (w : World) (hT : U8 w) (v : Value) (ts : List Tab) (h : TSl w v ts) (hl : ts.length ≤ 4398046511104) (hz : SzT ts) (ve : Value) (tn : ByteArray) (tp : Int) (te : List Ent) (hE : ESl w ve te) (hz2 : tn.size ≤ 140737488355328 ∧ SzE te ∧ te.length ≤ 4398046511104) (s : ByteArray) (_hs : s.size ≤ 140737488355328) :
    Calls Tryd.prog 3 #[.agg #[v], .agg #[.string tn, .int .i64 tp, ve], .string s] w fun e w' => e = .returned (.bool true) ∧ Below w.heap.size w w' := by
  refine apart_row tn tp s h hl hz hE (fun i => ?_) hT
  by_cases hi : i < ts.length
  · rw [tabN_app _ hi]; exact hz i
  · by_cases hi2 : i = ts.length
    · subst hi2
      have e : tabN (ts ++ [⟨tn, tp, te⟩]) ts.length = ⟨tn, tp, te⟩ := by unfold tabN; simp
      rw [e]
      exact ⟨hz2.1, hz2.2.2, hz2.2.1⟩
    · have e : tabN (ts ++ [⟨tn, tp, te⟩]) i = Tab.zero := by
        unfold tabN
        rw [List.getElem?_eq_none (by rw [List.length_append]; simp; omega)]
        rfl
      rw [e]
      refine ⟨Nat.zero_le _, Nat.zero_le _, fun j => ?_⟩
      exact ⟨Nat.zero_le _, Nat.zero_le _⟩

end Go.Proofs.YtobmdifledegbaaDoor

namespace Go.Proofs.YtobmdifledegbaaDoor
open Go.RowKit

theorem laid_first : (Rows.laid_unicode_utf8_first : DataW Unit) = Lib.firstData := by kernel_rfl
theorem laid_accept : (Rows.laid_unicode_utf8_acceptRanges : DataW Unit) = Lib.acceptData := by kernel_rfl
theorem cellsAR : Tryd.prog.cellsOf 131 = 2 := by kernel_rfl
theorem cellsU8 : Tryd.prog.cellsOf 5 = 1 := by kernel_rfl
theorem cellsFT : Tryd.prog.cellsOf 129 = 256 := by kernel_rfl

theorem first_of {W : World} (h : Lib.VarReads Tryd.prog W "unicode/utf8.first" Lib.firstData) : ∀ c, c < 256 → W.cell? ⟨0, c, none⟩ = some (.int .u8 (Lib.firstT c : Int)) := by
  intro c hc
  obtain ⟨g, t, cs, fuel, p, hg, hty, hvar, hd⟩ := h
  have eg : g = 0 := Option.some.inj (hg.symm.trans (by kernel_rfl))
  subst eg
  have et : t = 129 := Option.some.inj (hty.symm.trans (by kernel_rfl))
  subst et
  have hcs := Lib.cells_of_tab Tryd.underlying129 Tryd.underlying5 cellsU8 cellsFT hd
  rw [World.var?_cell hg hvar c, ← Array.getElem?_toList, hcs]
  simp [Lib.firstTab, hc]

theorem accept_of {W : World} (h : Lib.VarReads Tryd.prog W "unicode/utf8.acceptRanges" Lib.acceptData) : ∀ i, i < 16 → W.cell? ⟨1, 2 * i, none⟩ = some (.int .u8 (Lib.accLo i : Int)) ∧ W.cell? ⟨1, 2 * i + 1, none⟩ = some (.int .u8 (Lib.accHi i : Int)) := by
  intro i hi
  obtain ⟨g, t, cs, fuel, p, hg, hty, hvar, hd⟩ := h
  have eg : g = 1 := Option.some.inj (hg.symm.trans (by kernel_rfl))
  subst eg
  have et : t = 132 := Option.some.inj (hty.symm.trans (by kernel_rfl))
  subst et
  obtain ⟨fu, d, q, hdi, he⟩ := Lib.array_elem Tryd.underlying132 hd i hi
  rw [cellsAR] at he
  have hdv : d = .agg ([(Lib.accLo i : Int), (Lib.accHi i : Int)].map fun z => .lit (.int .u8 z)) := by
    rw [List.getElem?_map, List.getElem?_range hi] at hdi
    exact (Option.some.inj hdi).symm
  subst hdv
  have fields : ∀ (j : Nat) (f : Field), (Tryd.prog.fieldsOf 131)[j]? = some f → Tryd.prog.underlying f.type = some (.int .u8) ∧ f.offset = j ∧ Tryd.prog.cellsOf f.type = 1 := by
    intro j f hj
    have e2 : Tryd.prog.fieldsOf 131 = #[(Tryd.prog.fieldsOf 131)[0]!, (Tryd.prog.fieldsOf 131)[1]!] := by kernel_rfl
    rw [e2] at hj
    match j, hj with
    | 0, hj => simp at hj; subst hj; exact ⟨by kernel_rfl, by kernel_rfl, by kernel_rfl⟩
    | 1, hj => simp at hj; subst hj; exact ⟨by kernel_rfl, by kernel_rfl, by kernel_rfl⟩
    | j + 2, hj => simp at hj
  have hcs := Lib.ints_of_struct (fs := Tryd.prog.fieldsOf 131) (by kernel_rfl) fields (by kernel_rfl) he
  have q0 := congrArg (fun l => l[0]?) hcs
  have q1 := congrArg (fun l => l[1]?) hcs
  simp only [List.getElem?_take, List.getElem?_drop] at q0 q1
  refine ⟨?_, ?_⟩
  · rw [World.var?_cell hg hvar (2 * i), ← Array.getElem?_toList, Nat.mul_comm]
    simpa using q0
  · rw [World.var?_cell hg hvar (2 * i + 1), ← Array.getElem?_toList, Nat.mul_comm]
    simpa using q1

theorem table {W : World} (h : laidMetH Tryd.prog [("unicode/utf8.acceptRanges", Rows.laid_unicode_utf8_acceptRanges), ("unicode/utf8.first", Rows.laid_unicode_utf8_first)] W) : U8 W := by
  have h' : laidMet Tryd.prog [("unicode/utf8.acceptRanges", Rows.laid_unicode_utf8_acceptRanges), ("unicode/utf8.first", Rows.laid_unicode_utf8_first)] W := h
  have h3 := Lib.laidMet.reads h' (n := "unicode/utf8.first") (d := Rows.laid_unicode_utf8_first) (by simp)
  have h4 := Lib.laidMet.reads h' (n := "unicode/utf8.acceptRanges") (d := Rows.laid_unicode_utf8_acceptRanges) (by simp)
  rw [laid_first] at h3
  rw [laid_accept] at h4
  exact ⟨first_of h3, accept_of h4⟩

def tabVals : DataW Unit → Array Value
  | .agg l => (l.flatMap fun
      | .lit (.int k z) => [Value.int k z]
      | .agg l2 => l2.map fun
        | .lit (.int k z) => Value.int k z
        | _ => .int .u8 0
      | _ => []).toArray
  | _ => #[]

def putVals (d : DataW Unit) : Obj → Obj
  | .cells _ t frozen => .cells (tabVals d) t frozen
  | o => o

noncomputable def laidWorld (os : Os) : World :=
  { World.holding Tryd.prog os ⟨#[], #[], []⟩ with
    heap := ((World.holding Tryd.prog os ⟨#[], #[], []⟩).heap.modify 1 (putVals Rows.laid_unicode_utf8_acceptRanges)).modify 0 (putVals Rows.laid_unicode_utf8_first) }

end Go.Proofs.YtobmdifledegbaaDoor
