/-
  BundleHides.
  What the rows' list of package variables gives, and a world that holds them (a dump without DecodeRuneInString).
-/
import Derived.Test.YtpeoigipjcdpjaaDoorBB6
import Derived.Test.YtpeoigipjcdpjaaDoorRows
import Derived.Test.YtpeoigipjcdpjaaDoorBB2
import Derived.Lib.LaidU8
import Derived.Deep.DeepHandedRow
namespace Go.Proofs.YtpeoigipjcdpjaaDoor
open Go.RowKit

theorem bdrH (w : World) : Hid (Below w.heap.size w w.drew) := (Below.refl _ _).drew
theorem balH {W w : World} (h : Hid (Below W.heap.size W w)) (o : Obj) : Hid (Below W.heap.size W (w.alloc o)) := h.out.alloc h.out.size o

structure CutE (W : World) (x : Ent) (er : Int) (v u : Value) (W' : World) : Prop where
  ex : ∃ H : Nat, v = .pointer (some ⟨H, 0, none⟩) ∧ u = .int .i64 er ∧ Blk W' H #[.string x.key, .int .i64 x.kind, .string x.text, .int .i64 x.num] 35 ∧ W.heap.size ≤ H ∧ Below W.heap.size W W'

theorem cute_old {W w3 : World} {H : Nat} {x0 x1 x2 x3 : Value} {x : Ent} {er : Int} (hb : Below W.heap.size W w3) (q : Blk w3 H #[x0, x1, x2, x3] 35) (hH : W.heap.size ≤ H) :
    CutE W x er (.pointer (some ⟨H, 0, none⟩)) (.int .i64 er) ((((w3.setCell ⟨H, 0, none⟩ (.string x.key)).setCell ⟨H, 1, none⟩ (.int .i64 x.kind)).setCell ⟨H, 2, none⟩ (.string x.text)).setCell ⟨H, 3, none⟩ (.int .i64 x.num)) :=
  ⟨H, rfl, rfl, q.put4 _ _ _ _, hH, below_putE hb hH _ _ _ _⟩

theorem cute_new {W w3 : World} {x : Ent} {er : Int} (hb : Below W.heap.size W w3) :
    CutE W x er (.pointer (some ⟨w3.heap.size, 0, none⟩)) (.int .i64 er) (w3.alloc (.cells #[.string x.key, .int .i64 x.kind, .string x.text, .int .i64 x.num] 35)) :=
  ⟨w3.heap.size, rfl, rfl, Blk.new _ _ _, hb.size, hb.alloc hb.size _⟩

theorem keys_bound {ts : List Tab} (h : checkT ts = 0) {i : Nat} (hi : i < ts.length) (key : ByteArray) : poolS (keysL key (chainP ts (i : Int))) ≤ 1000000 := by
  obtain ⟨c1, c2⟩ := ch_self h hi
  rw [← c2]
  obtain ⟨hg, hl16, _, _⟩ := ch_good c1
  have h1 := poolS_le (keysL key (chL ts (tabN ts i).name))
  have h2 := keysL_len key (chL ts (tabN ts i).name) (fun t ht => by obtain ⟨k, _, rfl⟩ := mem_tabN ht; exact (hg k).1)
  omega

theorem rise_at {l : List ByteArray} {ps : List (List UInt8)} (h : ps = poolL l) (i : Nat) (hi : i + 1 < ps.length) : bys (⟨(ps[i]?.getD []).toArray⟩ : ByteArray) < bys (⟨(ps[i + 1]?.getD []).toArray⟩ : ByteArray) := by
  subst h
  have := List.pairwise_iff_getElem.1 (pool_rise l) i (i + 1) (by omega) hi (by omega)
  rw [List.getElem?_eq_getElem hi, List.getElem?_eq_getElem (show i < (poolL l).length by omega)]
  exact this

set_option maxRecDepth 100000 in
set_option maxHeartbeats 4000000 in
theorem hides_row {w : World} {v : Value} {ts : List Tab} (key : ByteArray) (h : TSl w v ts) (hl : ts.length ≤ 4398046511104) (hz : SzT ts) (hT : U8 w) :
    Calls Tryd.prog 4 #[.agg #[v], .string key] w fun e w' => e = .returned (.bool true) ∧ Below w.heap.size w w' := by
  obtain ⟨WA, hWA⟩ : ∃ WA, WA = w.alloc (.cells #[v] 24) := ⟨_, rfl⟩
  have BA : Hid (Below w.heap.size w WA) := hide (by rw [hWA]; exact (Below.refl _ _).alloc (Nat.le_refl _) _)
  have Q : Hid (Blk WA w.heap.size #[v] 24) := hide (by rw [hWA]; exact Blk.newAt w w.heap.size rfl _ _)
  have HWA := hide hWA.symm
  have HT := hide hT
  have HZ := hide hz
  have SA := hide (h.below BA.out)
  have CK := hide (Check_any SA.out (by omega) hz (hT.below BA.out))
  have FN : Hid (∀ n k X, Below WA.heap.size WA X → Calls Tryd.prog 11 #[.agg #[v], .string n, .string k] X fun e w' => e = .returned (ansF (findT ts n k)) ∧ Below X.heap.size X w') := hide (fun n k X hX => Find_any n k (SA.out.below hX) (by omega) HZ.out (HT.out.below (BA.out.trans (hX.mono BA.out.size))))
  have KS : Hid (∀ n k X, Below WA.heap.size WA X → Calls Tryd.prog 13 #[.agg #[v], .string n, .string k] X fun e w' => AnsK (chE ts n) (poolL (keysL k (chL ts n))) X e w') := hide (fun n k X hX => Keys_any n k (SA.out.below hX) (by omega) HZ.out (HT.out.below (BA.out.trans (hX.mono BA.out.size))))
  have KP : Hid (∀ X, Below WA.heap.size WA X → Blk X w.heap.size #[v] 24) := hide (fun X hX => Q.out.below hX Q.out.lt)
  have TS : Hid (∀ X, Below WA.heap.size WA X → TSl X v ts) := hide (fun X hX => SA.out.below hX)
  have q0 := Q.out.cell 0
  by_cases hC : checkT ts = 0
  · have HC0 := hide hC
    rw [hC] at CK
    rw [show ((0 : Nat) : Int) = 0 from rfl] at CK
    obtain ⟨ao, cap, rfl, hcap, hat⟩ := h
    have HSA := hide SA.out
    obtain ⟨L, hL⟩ : ∃ L, L = ts.length := ⟨_, rfl⟩
    have HL := hide hL
    rw [← hL] at hl hcap CK FN KS KP q0 Q HWA TS SA ⊢
    clear hWA hT hz hat hL hC
    go_enter Tryd.func4, Tryd.ntmps4
    go_wp2_with (simp only [HWA.out])
    refine CK.out.mono ?_
    rintro x w1 ⟨rfl, hz1⟩
    have B1 := hide hz1
    have q1 := (KP.out w1 hz1).cell 0
    clear hz1 CK
    go_wp2
    go_loopw [5] (fun y wr => ∃ k : Nat, k ≤ L ∧ y = .int .i64 (k : Int) ∧ Hid (Below WA.heap.size WA wr)) (fun y _ => L - (intOf y).toNat)
    case atStart => exact ⟨0, Nat.zero_le _, rfl, B1⟩
    case round =>
      clear q1 q0
      obtain ⟨k, hk, rfl, HB⟩ := hrel
      have q1 := (KP.out wr HB.out).cell 0
      by_cases hkl : k < L
      · have hkl' : (k : Int) < (L : Int) := by omega
        have hkt : k < ts.length := by rw [← HL.out]; exact hkl
        obtain ⟨b, o, rfl, HLT, HCL⟩ : ∃ b o, ao = some ⟨b, o, none⟩ ∧ Hid (b < WA.heap.size) ∧ Hid (∀ X, Below WA.heap.size WA X → ∀ i, i < ts.length → TabAt X b o i (tabN ts i)) := by
          obtain ⟨ao', cap', hv, _, hat⟩ := SA.out
          obtain ⟨rfl, _, _⟩ := Value.slice.inj hv
          rcases hat with q | ⟨b, o, rfl, q, hcl⟩
          · rw [q] at hkt; simp at hkt
          · exact ⟨b, o, rfl, hide q, hide (fun X hX i hi => (hcl i hi).below q hX)⟩
        obtain ⟨c0, c1, ve, c2, hes⟩ := (HCL.out wr HB.out) k hkt
        clear c1 c2 hes
        have HNM : Hid (∀ X, Below WA.heap.size WA X → X.cell? ⟨b, o + k * 3, none⟩ = some (.string (tabN ts k).name)) := hide (fun X hX => ((HCL.out X hX) k hkt).1)
        have CHS := hide (ch_self HC0.out hkt)
        have FS := hide (find_self HC0.out hkt key)
        obtain ⟨nm, hnm⟩ : ∃ nm, nm = (tabN ts k).name := ⟨_, rfl⟩
        have HN := hide hnm
        rw [← hnm] at c0 HNM FS CHS
        clear hnm
        have q1 := (KP.out wr HB.out).cell 0
        have C6 : Hid (∀ X, Hid (Below wr.heap.size wr X) → Calls Tryd.prog 11 #[.agg #[.slice (some ⟨b, o, none⟩) L cap], .string nm, .string key] X fun x w' => x = .returned (.tuple #[.agg #[.string (findT ts nm key).1.key, .int .i64 (findT ts nm key).1.kind, .string (findT ts nm key).1.text, .int .i64 (findT ts nm key).1.num], .int .i64 ((findT ts nm key).2 : Int)]) ∧ Hid (Below X.heap.size X w') ∧ Hid (Below wr.heap.size wr w') ∧ w'.cell? ⟨w.heap.size, 0, none⟩ = some (.slice (some ⟨b, o, none⟩) L cap) ∧ w'.cell? ⟨b, o + k * 3, none⟩ = some (.string nm)) := hide (by
          intro X bX
          refine (FN.out nm key X (HB.out.trans (bX.out.mono HB.out.size))).mono ?_
          rintro x w' ⟨rfl, hb⟩
          have bb := bX.out.trans (hb.mono bX.out.size)
          exact ⟨rfl, hb, bb, (KP.out w' (HB.out.trans (bb.mono HB.out.size))).cell 0, HNM.out w' (HB.out.trans (bb.mono HB.out.size))⟩)
        obtain ⟨F, hF⟩ : ∃ F, F = findT ts nm key := ⟨_, rfl⟩
        rw [← hF] at C6 FS
        have HF := hide hF
        clear hF
        obtain ⟨⟨xk, xn, xt, xm⟩, xe⟩ := F
        have HG1 : Hid (w.heap.size < wr.heap.size) := hide (by have := Q.out.lt; have := HB.out.size; omega)
        have HG2 : Hid (b < wr.heap.size) := hide (by have := HLT.out; have := HB.out.size; omega)
        go_wp2_with fail
        go_cut [6, 7] (fun vp ve wx => CutE wr (⟨xk, xn, xt, xm⟩) ((xe : Int)) vp ve wx)
        case first =>
          have b0 : Hid (Below wr.heap.size wr wr.drew) := bdrH wr
          have n0W : ¬ w.heap.size = wr.heap.size := (by have := HG1.out; omega)
          have m0W : ¬ wr.heap.size = w.heap.size := (by have := HG1.out; omega)
          have n1W : ¬ b = wr.heap.size := (by have := HG2.out; omega)
          have m1W : ¬ wr.heap.size = b := (by have := HG2.out; omega)
          have mk0 : True := trivial
          go_region_held3 (fun w' => w'.cell? ⟨w.heap.size, 0, none⟩ = some (.slice (some ⟨b, o, none⟩) L cap) ∧ w'.cell? ⟨b, o + k * 3, none⟩ = some (.string nm)) (go_keep) (first
              | (clear mk0; go_at_call 11; refine (C6.out _ (balH b0 (Obj.cells #[.string ⟨#[]⟩, .int .i64 0, .string ⟨#[]⟩, .int .i64 0] 35))).mono ?_; rintro x u1 ⟨rfl, R1, b1, q0_0, q0_1⟩; have QN := (Blk.newAt wr.drew wr.heap.size rfl #[.string ⟨#[]⟩, .int .i64 0, .string ⟨#[]⟩, .int .i64 0] 35).below R1.out (Blk.newAt wr.drew wr.heap.size rfl #[.string ⟨#[]⟩, .int .i64 0, .string ⟨#[]⟩, .int .i64 0] 35).lt; have h0 : u1.cell? ⟨wr.heap.size, 0, none⟩ = some (.string ⟨#[]⟩) := QN.cell 0; have h1 : u1.cell? ⟨wr.heap.size, 1, none⟩ = some (.int .i64 0) := QN.cell 1; have h2 : u1.cell? ⟨wr.heap.size, 2, none⟩ = some (.string ⟨#[]⟩) := QN.cell 2; have h3 : u1.cell? ⟨wr.heap.size, 3, none⟩ = some (.int .i64 0) := QN.cell 3; have h4 := QN.free 0; have h5 := QN.free 1; have h6 := QN.free 2; have h7 := QN.free 3; have QH := hide QN; clear QN; have mk1L0 : True := trivial)
              | (clear mk0; go_at_call 11; refine (C6.out _ b0).mono ?_; rintro x u1 ⟨rfl, R1, b1, q0_0, q0_1⟩; have n0u1 : ¬ w.heap.size = u1.heap.size := (by have := HG1.out; have := b1.out.size; omega); have m0u1 : ¬ u1.heap.size = w.heap.size := (by have := HG1.out; have := b1.out.size; omega); have n1u1 : ¬ b = u1.heap.size := (by have := HG2.out; have := b1.out.size; omega); have m1u1 : ¬ u1.heap.size = b := (by have := HG2.out; have := b1.out.size; omega); have mk1 : True := trivial))
          all_goals (go_wp2_with fail; go_meet)
          all_goals (first | (clear mk1L0; exact cute_old b1.out QH.out (Nat.le_refl _)) | (clear mk1; exact cute_new b1.out))
        case rest =>
          obtain ⟨⟨Hx, rfl, rfl, hq, hH, hbc⟩⟩ := hcut
          have HB1 := hide (HB.out.trans (hbc.mono HB.out.size))
          have Bx := hide hq
          have HHx : Hid (WA.heap.size ≤ Hx) := hide (by have := HB.out.size; omega)
          clear hq hH hbc C6 c0 q1 HG1 HG2
          have q1 := (KP.out wc HB1.out).cell 0
          obtain ⟨R, hR⟩ : ∃ R, R = firstT (chainP ts (k : Int)) key := ⟨_, rfl⟩
          have HR := hide hR
          clear hR
          obtain ⟨ps, hps⟩ : ∃ ps, ps = poolL (keysL key (chainP ts (k : Int))) := ⟨_, rfl⟩
          have HPS := hide hps
          obtain ⟨M, hM⟩ : ∃ M, M = ps.length := ⟨_, rfl⟩
          have HM := hide hM
          have HMB : Hid (M ≤ 1000000) := hide (by rw [hM, hps, pool_len]; exact keys_bound HC0.out hkt key)
          clear hps hM
          cases R with
          | none =>
            have HD : Hid (Calls Tryd.prog 12 #[.agg #[.slice (some ⟨b, o, none⟩) L cap], .int .i64 (k : Int), .string key] wc fun e w' => e = .returned (.tuple #[.agg #[.string ⟨#[]⟩, .int .i64 0, .string ⟨#[]⟩, .int .i64 0], .bool false]) ∧ Below wc.heap.size wc w') := hide (by
              have := hides_any k key (TS.out wc HB1.out) (check_down HC0.out) hkt (counts_len (check_zero HC0.out).1).2.2
              rw [← HR.out] at this
              exact this)
            go_wp2_with fail
            refine HD.out.mono ?_
            rintro x w2 ⟨rfl, hz2⟩
            have HB2 := hide (HB1.out.trans (hz2.mono HB1.out.size))
            have BX2 := hide (Bx.out.below hz2 Bx.out.lt)
            clear hz2 HD
            obtain ⟨w3, hw3⟩ : ∃ w3, w3 = w2.alloc (.cells #[.string ⟨#[]⟩, .int .i64 0, .string ⟨#[]⟩, .int .i64 0] 35) := ⟨_, rfl⟩
            have B3 : Below w2.heap.size w2 w3 := by rw [hw3]; exact (Below.refl _ _).alloc (Nat.le_refl _) _
            have BY := hide (show Blk w3 w2.heap.size #[.string ⟨#[]⟩, .int .i64 0, .string ⟨#[]⟩, .int .i64 0] 35 by rw [hw3]; exact Blk.newAt w2 w2.heap.size rfl _ _)
            have HB3 := hide (HB2.out.trans (B3.mono HB2.out.size))
            have BX3 := hide (BX2.out.below B3 BX2.out.lt)
            have W3 := hide hw3.symm
            clear hw3 B3 BX2 q1
            have q1 := (KP.out w3 HB3.out).cell 0
            have n1 := HNM.out w3 HB3.out
            have hF : ((⟨xk, xn, xt, xm⟩ : Ent), xe) = (Ent.zero, 125) := by
              rw [FS.out]
              unfold findN
              rw [← HR.out]
            obtain ⟨hx, rfl⟩ := Prod.mk.inj hF
            clear hx hF
            go_wp2_with fail
            simp only [W3.out]
            have C17 : Hid (∀ X, Hid (Below w3.heap.size w3 X) → Calls Tryd.prog 13 #[.agg #[.slice (some ⟨b, o, none⟩) L cap], .string nm, .string key] X fun x w' => (∃ q cp, x = .returned (.tuple #[.slice (some ⟨q, 0, none⟩) M cp, .int .i64 0]) ∧ Hid (∀ i, i < M → w'.cell? ⟨q, i, none⟩ = some (.string ⟨(ps[i]?.getD []).toArray⟩))) ∧ Hid (Below WA.heap.size WA w') ∧ w'.cell? ⟨w.heap.size, 0, none⟩ = some (.slice (some ⟨b, o, none⟩) L cap) ∧ w'.cell? ⟨b, o + k * 3, none⟩ = some (.string nm)) := hide (by
              intro X bX
              have b1 := HB3.out.trans (bX.out.mono HB3.out.size)
              refine (KS.out nm key X b1).mono ?_
              rintro x w' hA
              rw [CHS.out.1, CHS.out.2, ← HPS.out] at hA
              obtain ⟨h1, _, hb⟩ := hA
              obtain ⟨q, cp, rfl, hr⟩ := h1 rfl
              have bb := b1.trans (hb.mono b1.size)
              rw [← HM.out]
              exact ⟨⟨q, cp, rfl, hide (fun i hi => RowS.cell hr i (by rw [← HM.out]; exact hi))⟩, bb, (KP.out w' bb).cell 0, HNM.out w' bb⟩)
            have b0 := bdrH w3
            go_region_held3 (fun w' => w'.cell? ⟨w.heap.size, 0, none⟩ = some (.slice (some ⟨b, o, none⟩) L cap) ∧ w'.cell? ⟨b, o + k * 3, none⟩ = some (.string nm)) (go_keep) (first
                | (go_at_call 13; refine (C17.out _ b0).mono ?_; rintro x z1 ⟨⟨q, cp, rfl, HLc⟩, HBZ, t0, t1⟩))
            clear C17 b0 t0 t1
            have KH := keys_head key (chainP ts (k : Int))
            rw [← HR.out, ← HPS.out, ← HM.out] at KH
            by_cases hM1 : 0 < M
            · have hM2 : (0 : Int) < (M : Int) := by omega
              have l0 := HLc.out 0 hM1
              obtain ⟨s0, hs0⟩ : ∃ s : ByteArray, s = ⟨(ps[0]?.getD []).toArray⟩ := ⟨_, rfl⟩
              rw [← hs0] at l0
              have hne : ¬ s0 = key := by
                intro e
                rw [decide_eq_true hM1, Bool.true_and] at KH
                refine of_decide_eq_false KH ?_
                rw [← e, hs0]
                rfl
              have hne' : (s0.toList == key.toList) = false := by rw [eqT, decide_eq_false hne]
              clear hs0 KH hne
              go_wp2
              go_loopw [14] (fun y wz => ∃ i : Nat, y = .int .i64 ((i : Int) + 1) ∧ i ≤ M ∧ Hid (Below WA.heap.size WA wz ∧ ∀ i, i < M → wz.cell? ⟨q, i, none⟩ = some (.string ⟨(ps[i]?.getD []).toArray⟩))) (fun y _ => M + 1 - (intOf y).toNat)
              case atStart => exact ⟨0, rfl, Nat.zero_le _, hide ⟨HBZ.out, HLc.out⟩⟩
              case round =>
                obtain ⟨i, rfl, hi, HZC⟩ := hrel
                by_cases hil : i + 1 < M
                · have hil' : (i : Int) + 1 < (M : Int) := by omega
                  have hib : (i : Int) < 1000000 := by have := HMB.out; omega
                  have hib1 : (i : Int) < (M : Int) := by omega
                  have l1 := HZC.out.2 (i + 1) hil
                  have l2 := HZC.out.2 i (by omega)
                  have PR := hide (rise_at HPS.out i (by rw [← HM.out]; exact hil))
                  obtain ⟨s1, hs1⟩ : ∃ s : ByteArray, s = ⟨(ps[i + 1]?.getD []).toArray⟩ := ⟨_, rfl⟩
                  obtain ⟨s2, hs2⟩ : ∃ s : ByteArray, s = ⟨(ps[i]?.getD []).toArray⟩ := ⟨_, rfl⟩
                  rw [← hs1] at l1 PR
                  rw [← hs2] at l2 PR
                  have hle' : (Op.bytesLess s1.toList s2.toList || s1.toList == s2.toList) = false := by
                    have h1 : leT s1 s2 = false := by
                      rw [leT_iff]
                      exact decide_eq_false (List.not_le.2 PR.out)
                    exact h1
                  clear hs1 hs2
                  go_wp2_with fail
                  go_region
                  go_wp2
                  exact ⟨⟨i + 1, by go_num, by omega, hide ⟨HZC.out.1.drew, fun i hi => HZC.out.2 i hi⟩⟩, by simp [intOf]; omega⟩
                · have hil' : ¬ (i : Int) + 1 < (M : Int) := by omega
                  clear hil
                  go_wp2
                  exact ⟨⟨k + 1, by omega, by go_num, hide HZC.out.1⟩, by simp [intOf]; omega⟩
            · have hM2 : ¬ (0 : Int) < (M : Int) := by omega
              clear KH
              go_wp2
              go_loopw [14] (fun y wz => ∃ i : Nat, y = .int .i64 ((i : Int) + 1) ∧ i ≤ M ∧ Hid (Below WA.heap.size WA wz ∧ ∀ i, i < M → wz.cell? ⟨q, i, none⟩ = some (.string ⟨(ps[i]?.getD []).toArray⟩))) (fun y _ => M + 1 - (intOf y).toNat)
              case atStart => exact ⟨0, rfl, Nat.zero_le _, hide ⟨HBZ.out, HLc.out⟩⟩
              case round =>
                obtain ⟨i, rfl, hi, HZC⟩ := hrel
                by_cases hil : i + 1 < M
                · exact absurd hil (by omega)
                · have hil' : ¬ (i : Int) + 1 < (M : Int) := by omega
                  clear hil
                  go_wp2
                  exact ⟨⟨k + 1, by omega, by go_num, hide HZC.out.1⟩, by simp [intOf]; omega⟩
          | some y =>
            obtain ⟨yk, yn, yt, ym⟩ := y
            have HD : Hid (Calls Tryd.prog 12 #[.agg #[.slice (some ⟨b, o, none⟩) L cap], .int .i64 (k : Int), .string key] wc fun e w' => e = .returned (.tuple #[.agg #[.string yk, .int .i64 yn, .string yt, .int .i64 ym], .bool true]) ∧ Below wc.heap.size wc w') := hide (by
              have := hides_any k key (TS.out wc HB1.out) (check_down HC0.out) hkt (counts_len (check_zero HC0.out).1).2.2
              rw [← HR.out] at this
              exact this)
            go_wp2_with fail
            refine HD.out.mono ?_
            rintro x w2 ⟨rfl, hz2⟩
            have HB2 := hide (HB1.out.trans (hz2.mono HB1.out.size))
            have BX2 := hide (Bx.out.below hz2 Bx.out.lt)
            clear hz2 HD
            obtain ⟨w3, hw3⟩ : ∃ w3, w3 = w2.alloc (.cells #[.string yk, .int .i64 yn, .string yt, .int .i64 ym] 35) := ⟨_, rfl⟩
            have B3 : Below w2.heap.size w2 w3 := by rw [hw3]; exact (Below.refl _ _).alloc (Nat.le_refl _) _
            have BY := hide (show Blk w3 w2.heap.size #[.string yk, .int .i64 yn, .string yt, .int .i64 ym] 35 by rw [hw3]; exact Blk.newAt w2 w2.heap.size rfl _ _)
            have HB3 := hide (HB2.out.trans (B3.mono HB2.out.size))
            have BX3 := hide (BX2.out.below B3 BX2.out.lt)
            have W3 := hide hw3.symm
            clear hw3 B3 BX2 q1
            have q1 := (KP.out w3 HB3.out).cell 0
            have n1 := HNM.out w3 HB3.out
            by_cases hyn : yn = 2
            · subst hyn
              have FY : Hid (((⟨xk, xn, xt, xm⟩ : Ent), xe) = findN (chainP ts (k : Int)) 8 yt) := hide (by
                rw [FS.out]
                conv => lhs; unfold findN
                rw [← HR.out]
                rfl)
              clear FS
              have y0 := BY.out.cell 0
              have y1 := BY.out.cell 1
              have y2 := BY.out.cell 2
              have y3 := BY.out.cell 3
              have HG1 : Hid (w.heap.size < w3.heap.size) := hide (by have := Q.out.lt; have := HB3.out.size; omega)
              have HG2 : Hid (b < w3.heap.size) := hide (by have := HLT.out; have := HB3.out.size; omega)
              have HG3 : Hid (w2.heap.size < w3.heap.size) := hide BY.out.lt
              have C8 : Hid (∀ X, Hid (Below w3.heap.size w3 X) → Calls Tryd.prog 11 #[.agg #[.slice (some ⟨b, o, none⟩) L cap], .string nm, .string yt] X fun x w' => x = .returned (.tuple #[.agg #[.string (findT ts nm yt).1.key, .int .i64 (findT ts nm yt).1.kind, .string (findT ts nm yt).1.text, .int .i64 (findT ts nm yt).1.num], .int .i64 ((findT ts nm yt).2 : Int)]) ∧ Hid (Below X.heap.size X w') ∧ Hid (Below w3.heap.size w3 w') ∧ w'.cell? ⟨w.heap.size, 0, none⟩ = some (.slice (some ⟨b, o, none⟩) L cap) ∧ w'.cell? ⟨b, o + k * 3, none⟩ = some (.string nm) ∧ w'.cell? ⟨w2.heap.size, 2, none⟩ = some (.string yt)) := hide (by
                intro X bX
                refine (FN.out nm yt X (HB3.out.trans (bX.out.mono HB3.out.size))).mono ?_
                rintro x w' ⟨rfl, hb⟩
                have bb := bX.out.trans (hb.mono bX.out.size)
                exact ⟨rfl, hb, bb, (KP.out w' (HB3.out.trans (bb.mono HB3.out.size))).cell 0, HNM.out w' (HB3.out.trans (bb.mono HB3.out.size)), (BY.out.below bb BY.out.lt).cell 2⟩)
              have ZS : Hid (findT ts nm yt = findN (chainP ts (k : Int)) 9 yt) := hide (by rw [HN.out]; exact find_self HC0.out hkt yt)
              obtain ⟨F, hF⟩ : ∃ F, F = findT ts nm yt := ⟨_, rfl⟩
              rw [← hF] at C8 ZS
              clear hF
              obtain ⟨⟨zk, zn, zt, zm⟩, ze⟩ := F
              go_wp2_with (simp only [W3.out])
              go_cut [10, 11] (fun vp ve wx => CutE w3 (⟨zk, zn, zt, zm⟩) ((ze : Int)) vp ve wx)
              case first =>
                have b0 : Hid (Below w3.heap.size w3 w3.drew) := bdrH w3
                have n0W : ¬ w.heap.size = w3.heap.size := (by have := HG1.out; omega)
                have m0W : ¬ w3.heap.size = w.heap.size := (by have := HG1.out; omega)
                have n1W : ¬ b = w3.heap.size := (by have := HG2.out; omega)
                have m1W : ¬ w3.heap.size = b := (by have := HG2.out; omega)
                have n2W : ¬ w2.heap.size = w3.heap.size := (by have := HG3.out; omega)
                have m2W : ¬ w3.heap.size = w2.heap.size := (by have := HG3.out; omega)
                have mk0 : True := trivial
                go_region_held3 (fun w' => w'.cell? ⟨w.heap.size, 0, none⟩ = some (.slice (some ⟨b, o, none⟩) L cap) ∧ w'.cell? ⟨b, o + k * 3, none⟩ = some (.string nm) ∧ w'.cell? ⟨w2.heap.size, 2, none⟩ = some (.string yt)) (go_keep) (first
                    | (clear mk0; go_at_call 11; refine (C8.out _ (balH b0 (Obj.cells #[.string ⟨#[]⟩, .int .i64 0, .string ⟨#[]⟩, .int .i64 0] 35))).mono ?_; rintro x u1 ⟨rfl, R1, b1, q0_0, q0_1, q0_2⟩; have QN := (Blk.newAt w3.drew w3.heap.size rfl #[.string ⟨#[]⟩, .int .i64 0, .string ⟨#[]⟩, .int .i64 0] 35).below R1.out (Blk.newAt w3.drew w3.heap.size rfl #[.string ⟨#[]⟩, .int .i64 0, .string ⟨#[]⟩, .int .i64 0] 35).lt; have h0 : u1.cell? ⟨w3.heap.size, 0, none⟩ = some (.string ⟨#[]⟩) := QN.cell 0; have h1 : u1.cell? ⟨w3.heap.size, 1, none⟩ = some (.int .i64 0) := QN.cell 1; have h2 : u1.cell? ⟨w3.heap.size, 2, none⟩ = some (.string ⟨#[]⟩) := QN.cell 2; have h3 : u1.cell? ⟨w3.heap.size, 3, none⟩ = some (.int .i64 0) := QN.cell 3; have h4 := QN.free 0; have h5 := QN.free 1; have h6 := QN.free 2; have h7 := QN.free 3; have QH := hide QN; clear QN; have mk1L0 : True := trivial)
                    | (clear mk0; go_at_call 11; refine (C8.out _ b0).mono ?_; rintro x u1 ⟨rfl, R1, b1, q0_0, q0_1, q0_2⟩; have n0u1 : ¬ w.heap.size = u1.heap.size := (by have := HG1.out; have := b1.out.size; omega); have m0u1 : ¬ u1.heap.size = w.heap.size := (by have := HG1.out; have := b1.out.size; omega); have n1u1 : ¬ b = u1.heap.size := (by have := HG2.out; have := b1.out.size; omega); have m1u1 : ¬ u1.heap.size = b := (by have := HG2.out; have := b1.out.size; omega); have n2u1 : ¬ w2.heap.size = u1.heap.size := (by have := HG3.out; have := b1.out.size; omega); have m2u1 : ¬ u1.heap.size = w2.heap.size := (by have := HG3.out; have := b1.out.size; omega); have mk1 : True := trivial))
                all_goals (go_wp2_with fail; go_meet)
                all_goals (first | (clear mk1L0; exact cute_old b1.out QH.out (Nat.le_refl _)) | (clear mk1; exact cute_new b1.out))
              case rest =>
                obtain ⟨⟨Hz, rfl, rfl, hq, hH, hbc⟩⟩ := hcut
                have HB4 := hide (HB3.out.trans (hbc.mono HB3.out.size))
                have BX4 := hide (BX3.out.below hbc BX3.out.lt)
                have BZ := hide hq
                clear hq hH hbc C8 q1 n1 y0 y1 y2 y3 HG1 HG2 HG3
                have q1 := (KP.out wc HB4.out).cell 0
                have n1 := HNM.out wc HB4.out
                have x0 := BX4.out.cell 0
                have x1 := BX4.out.cell 1
                have x2 := BX4.out.cell 2
                have x3 := BX4.out.cell 3
                have z0 := BZ.out.cell 0
                have z1 := BZ.out.cell 1
                have z2 := BZ.out.cell 2
                have z3 := BZ.out.cell 3
                by_cases hxe : xe = 124
                · subst hxe
                  by_cases hze : ze = 124
                  · subst hze
                    go_wp2_with fail
                    have C17 : Hid (∀ X, Hid (Below wc.heap.size wc X) → Calls Tryd.prog 13 #[.agg #[.slice (some ⟨b, o, none⟩) L cap], .string nm, .string key] X fun x w' => (∃ q cp, x = .returned (.tuple #[.slice (some ⟨q, 0, none⟩) M cp, .int .i64 0]) ∧ Hid (∀ i, i < M → w'.cell? ⟨q, i, none⟩ = some (.string ⟨(ps[i]?.getD []).toArray⟩))) ∧ Hid (Below WA.heap.size WA w') ∧ w'.cell? ⟨w.heap.size, 0, none⟩ = some (.slice (some ⟨b, o, none⟩) L cap) ∧ w'.cell? ⟨b, o + k * 3, none⟩ = some (.string nm)) := hide (by
                      intro X bX
                      have b1 := HB4.out.trans (bX.out.mono HB4.out.size)
                      refine (KS.out nm key X b1).mono ?_
                      rintro x w' hA
                      rw [CHS.out.1, CHS.out.2, ← HPS.out] at hA
                      obtain ⟨h1, _, hb⟩ := hA
                      obtain ⟨q, cp, rfl, hr⟩ := h1 rfl
                      have bb := b1.trans (hb.mono b1.size)
                      rw [← HM.out]
                      exact ⟨⟨q, cp, rfl, hide (fun i hi => RowS.cell hr i (by rw [← HM.out]; exact hi))⟩, bb, (KP.out w' bb).cell 0, HNM.out w' bb⟩)
                    have b0 := bdrH wc
                    go_region_held3 (fun w' => w'.cell? ⟨w.heap.size, 0, none⟩ = some (.slice (some ⟨b, o, none⟩) L cap) ∧ w'.cell? ⟨b, o + k * 3, none⟩ = some (.string nm)) (go_keep) (first
                        | (go_at_call 13; refine (C17.out _ b0).mono ?_; rintro x z1 ⟨⟨q, cp, rfl, HLc⟩, HBZ, t0, t1⟩))
                    clear C17 b0 t0 t1
                    have KH := keys_head key (chainP ts (k : Int))
                    rw [← HR.out, ← HPS.out, ← HM.out] at KH
                    have KH2 := (Bool.and_eq_true _ _).mp KH
                    have hM1 : 0 < M := of_decide_eq_true KH2.1
                    have hM2 : (0 : Int) < (M : Int) := by omega
                    have l0 := HLc.out 0 hM1
                    rw [of_decide_eq_true KH2.2, mkByB] at l0
                    clear KH KH2
                    go_wp2
                    go_loopw [14] (fun y wz => ∃ i : Nat, y = .int .i64 ((i : Int) + 1) ∧ i ≤ M ∧ Hid (Below WA.heap.size WA wz ∧ ∀ i, i < M → wz.cell? ⟨q, i, none⟩ = some (.string ⟨(ps[i]?.getD []).toArray⟩))) (fun y _ => M + 1 - (intOf y).toNat)
                    case atStart => exact ⟨0, rfl, Nat.zero_le _, hide ⟨HBZ.out, HLc.out⟩⟩
                    case round =>
                      obtain ⟨i, rfl, hi, HZC⟩ := hrel
                      by_cases hil : i + 1 < M
                      · have hil' : (i : Int) + 1 < (M : Int) := by omega
                        have hib : (i : Int) < 1000000 := by have := HMB.out; omega
                        have hib1 : (i : Int) < (M : Int) := by omega
                        have l1 := HZC.out.2 (i + 1) hil
                        have l2 := HZC.out.2 i (by omega)
                        have PR := hide (rise_at HPS.out i (by rw [← HM.out]; exact hil))
                        obtain ⟨s1, hs1⟩ : ∃ s : ByteArray, s = ⟨(ps[i + 1]?.getD []).toArray⟩ := ⟨_, rfl⟩
                        obtain ⟨s2, hs2⟩ : ∃ s : ByteArray, s = ⟨(ps[i]?.getD []).toArray⟩ := ⟨_, rfl⟩
                        rw [← hs1] at l1 PR
                        rw [← hs2] at l2 PR
                        have hle' : (Op.bytesLess s1.toList s2.toList || s1.toList == s2.toList) = false := by
                          have h1 : leT s1 s2 = false := by
                            rw [leT_iff]
                            exact decide_eq_false (List.not_le.2 PR.out)
                          exact h1
                        clear hs1 hs2
                        go_wp2_with fail
                        go_region
                        go_wp2
                        exact ⟨⟨i + 1, by go_num, by omega, hide ⟨HZC.out.1.drew, fun i hi => HZC.out.2 i hi⟩⟩, by simp [intOf]; omega⟩
                      · have hil' : ¬ (i : Int) + 1 < (M : Int) := by omega
                        clear hil
                        go_wp2
                        exact ⟨⟨k + 1, by omega, by go_num, hide HZC.out.1⟩, by simp [intOf]; omega⟩
                  · have hze1 : ¬ (ze : Int) = 124 := by omega
                    have hze2 : ¬ (ze : Int) = ((124 : Nat) : Int) := by omega
                    go_wp2_with fail
                    have C17 : Hid (∀ X, Hid (Below wc.heap.size wc X) → Calls Tryd.prog 13 #[.agg #[.slice (some ⟨b, o, none⟩) L cap], .string nm, .string key] X fun x w' => (∃ q cp, x = .returned (.tuple #[.slice (some ⟨q, 0, none⟩) M cp, .int .i64 0]) ∧ Hid (∀ i, i < M → w'.cell? ⟨q, i, none⟩ = some (.string ⟨(ps[i]?.getD []).toArray⟩))) ∧ Hid (Below WA.heap.size WA w') ∧ w'.cell? ⟨w.heap.size, 0, none⟩ = some (.slice (some ⟨b, o, none⟩) L cap) ∧ w'.cell? ⟨b, o + k * 3, none⟩ = some (.string nm)) := hide (by
                      intro X bX
                      have b1 := HB4.out.trans (bX.out.mono HB4.out.size)
                      refine (KS.out nm key X b1).mono ?_
                      rintro x w' hA
                      rw [CHS.out.1, CHS.out.2, ← HPS.out] at hA
                      obtain ⟨h1, _, hb⟩ := hA
                      obtain ⟨q, cp, rfl, hr⟩ := h1 rfl
                      have bb := b1.trans (hb.mono b1.size)
                      rw [← HM.out]
                      exact ⟨⟨q, cp, rfl, hide (fun i hi => RowS.cell hr i (by rw [← HM.out]; exact hi))⟩, bb, (KP.out w' bb).cell 0, HNM.out w' bb⟩)
                    have b0 := bdrH wc
                    go_region_held3 (fun w' => w'.cell? ⟨w.heap.size, 0, none⟩ = some (.slice (some ⟨b, o, none⟩) L cap) ∧ w'.cell? ⟨b, o + k * 3, none⟩ = some (.string nm)) (go_keep) (first
                        | (go_at_call 13; refine (C17.out _ b0).mono ?_; rintro x z1 ⟨⟨q, cp, rfl, HLc⟩, HBZ, t0, t1⟩))
                    clear C17 b0 t0 t1
                    have KH := keys_head key (chainP ts (k : Int))
                    rw [← HR.out, ← HPS.out, ← HM.out] at KH
                    have KH2 := (Bool.and_eq_true _ _).mp KH
                    have hM1 : 0 < M := of_decide_eq_true KH2.1
                    have hM2 : (0 : Int) < (M : Int) := by omega
                    have l0 := HLc.out 0 hM1
                    rw [of_decide_eq_true KH2.2, mkByB] at l0
                    clear KH KH2
                    go_wp2
                    go_loopw [14] (fun y wz => ∃ i : Nat, y = .int .i64 ((i : Int) + 1) ∧ i ≤ M ∧ Hid (Below WA.heap.size WA wz ∧ ∀ i, i < M → wz.cell? ⟨q, i, none⟩ = some (.string ⟨(ps[i]?.getD []).toArray⟩))) (fun y _ => M + 1 - (intOf y).toNat)
                    case atStart => exact ⟨0, rfl, Nat.zero_le _, hide ⟨HBZ.out, HLc.out⟩⟩
                    case round =>
                      obtain ⟨i, rfl, hi, HZC⟩ := hrel
                      by_cases hil : i + 1 < M
                      · have hil' : (i : Int) + 1 < (M : Int) := by omega
                        have hib : (i : Int) < 1000000 := by have := HMB.out; omega
                        have hib1 : (i : Int) < (M : Int) := by omega
                        have l1 := HZC.out.2 (i + 1) hil
                        have l2 := HZC.out.2 i (by omega)
                        have PR := hide (rise_at HPS.out i (by rw [← HM.out]; exact hil))
                        obtain ⟨s1, hs1⟩ : ∃ s : ByteArray, s = ⟨(ps[i + 1]?.getD []).toArray⟩ := ⟨_, rfl⟩
                        obtain ⟨s2, hs2⟩ : ∃ s : ByteArray, s = ⟨(ps[i]?.getD []).toArray⟩ := ⟨_, rfl⟩
                        rw [← hs1] at l1 PR
                        rw [← hs2] at l2 PR
                        have hle' : (Op.bytesLess s1.toList s2.toList || s1.toList == s2.toList) = false := by
                          have h1 : leT s1 s2 = false := by
                            rw [leT_iff]
                            exact decide_eq_false (List.not_le.2 PR.out)
                          exact h1
                        clear hs1 hs2
                        go_wp2_with fail
                        go_region
                        go_wp2
                        exact ⟨⟨i + 1, by go_num, by omega, hide ⟨HZC.out.1.drew, fun i hi => HZC.out.2 i hi⟩⟩, by simp [intOf]; omega⟩
                      · have hil' : ¬ (i : Int) + 1 < (M : Int) := by omega
                        clear hil
                        go_wp2
                        exact ⟨⟨k + 1, by omega, by go_num, hide HZC.out.1⟩, by simp [intOf]; omega⟩
                · have hE := find_more (chainP ts (k : Int)) 8 yt (by rw [← FY.out]; exact hxe)
                  rw [← FY.out, ← ZS.out] at hE
                  obtain ⟨hx, rfl⟩ := Prod.mk.inj hE
                  obtain ⟨rfl, rfl, rfl, rfl⟩ := Ent.mk.inj hx
                  clear hE hx
                  have hxe1 : ¬ (ze : Int) = 124 := by omega
                  by_cases hx0 : ze = 0
                  · subst hx0
                    rw [show ((0 : Nat) : Int) = 0 from rfl]
                    go_wp2_with fail
                    have C17 : Hid (∀ X, Hid (Below wc.heap.size wc X) → Calls Tryd.prog 13 #[.agg #[.slice (some ⟨b, o, none⟩) L cap], .string nm, .string key] X fun x w' => (∃ q cp, x = .returned (.tuple #[.slice (some ⟨q, 0, none⟩) M cp, .int .i64 0]) ∧ Hid (∀ i, i < M → w'.cell? ⟨q, i, none⟩ = some (.string ⟨(ps[i]?.getD []).toArray⟩))) ∧ Hid (Below WA.heap.size WA w') ∧ w'.cell? ⟨w.heap.size, 0, none⟩ = some (.slice (some ⟨b, o, none⟩) L cap) ∧ w'.cell? ⟨b, o + k * 3, none⟩ = some (.string nm)) := hide (by
                      intro X bX
                      have b1 := HB4.out.trans (bX.out.mono HB4.out.size)
                      refine (KS.out nm key X b1).mono ?_
                      rintro x w' hA
                      rw [CHS.out.1, CHS.out.2, ← HPS.out] at hA
                      obtain ⟨h1, _, hb⟩ := hA
                      obtain ⟨q, cp, rfl, hr⟩ := h1 rfl
                      have bb := b1.trans (hb.mono b1.size)
                      rw [← HM.out]
                      exact ⟨⟨q, cp, rfl, hide (fun i hi => RowS.cell hr i (by rw [← HM.out]; exact hi))⟩, bb, (KP.out w' bb).cell 0, HNM.out w' bb⟩)
                    have b0 := bdrH wc
                    go_region_held3 (fun w' => w'.cell? ⟨w.heap.size, 0, none⟩ = some (.slice (some ⟨b, o, none⟩) L cap) ∧ w'.cell? ⟨b, o + k * 3, none⟩ = some (.string nm)) (go_keep) (first
                        | (go_at_call 13; refine (C17.out _ b0).mono ?_; rintro x z1 ⟨⟨q, cp, rfl, HLc⟩, HBZ, t0, t1⟩))
                    clear C17 b0 t0 t1
                    have KH := keys_head key (chainP ts (k : Int))
                    rw [← HR.out, ← HPS.out, ← HM.out] at KH
                    have KH2 := (Bool.and_eq_true _ _).mp KH
                    have hM1 : 0 < M := of_decide_eq_true KH2.1
                    have hM2 : (0 : Int) < (M : Int) := by omega
                    have l0 := HLc.out 0 hM1
                    rw [of_decide_eq_true KH2.2, mkByB] at l0
                    clear KH KH2
                    go_wp2
                    go_loopw [14] (fun y wz => ∃ i : Nat, y = .int .i64 ((i : Int) + 1) ∧ i ≤ M ∧ Hid (Below WA.heap.size WA wz ∧ ∀ i, i < M → wz.cell? ⟨q, i, none⟩ = some (.string ⟨(ps[i]?.getD []).toArray⟩))) (fun y _ => M + 1 - (intOf y).toNat)
                    case atStart => exact ⟨0, rfl, Nat.zero_le _, hide ⟨HBZ.out, HLc.out⟩⟩
                    case round =>
                      obtain ⟨i, rfl, hi, HZC⟩ := hrel
                      by_cases hil : i + 1 < M
                      · have hil' : (i : Int) + 1 < (M : Int) := by omega
                        have hib : (i : Int) < 1000000 := by have := HMB.out; omega
                        have hib1 : (i : Int) < (M : Int) := by omega
                        have l1 := HZC.out.2 (i + 1) hil
                        have l2 := HZC.out.2 i (by omega)
                        have PR := hide (rise_at HPS.out i (by rw [← HM.out]; exact hil))
                        obtain ⟨s1, hs1⟩ : ∃ s : ByteArray, s = ⟨(ps[i + 1]?.getD []).toArray⟩ := ⟨_, rfl⟩
                        obtain ⟨s2, hs2⟩ : ∃ s : ByteArray, s = ⟨(ps[i]?.getD []).toArray⟩ := ⟨_, rfl⟩
                        rw [← hs1] at l1 PR
                        rw [← hs2] at l2 PR
                        have hle' : (Op.bytesLess s1.toList s2.toList || s1.toList == s2.toList) = false := by
                          have h1 : leT s1 s2 = false := by
                            rw [leT_iff]
                            exact decide_eq_false (List.not_le.2 PR.out)
                          exact h1
                        clear hs1 hs2
                        go_wp2_with fail
                        go_region
                        go_wp2
                        exact ⟨⟨i + 1, by go_num, by omega, hide ⟨HZC.out.1.drew, fun i hi => HZC.out.2 i hi⟩⟩, by simp [intOf]; omega⟩
                      · have hil' : ¬ (i : Int) + 1 < (M : Int) := by omega
                        clear hil
                        go_wp2
                        exact ⟨⟨k + 1, by omega, by go_num, hide HZC.out.1⟩, by simp [intOf]; omega⟩
                  · have hx1 : ¬ (ze : Int) = 0 := by omega
                    go_wp2_with fail
                    have C17 : Hid (∀ X, Hid (Below wc.heap.size wc X) → Calls Tryd.prog 13 #[.agg #[.slice (some ⟨b, o, none⟩) L cap], .string nm, .string key] X fun x w' => (∃ q cp, x = .returned (.tuple #[.slice (some ⟨q, 0, none⟩) M cp, .int .i64 0]) ∧ Hid (∀ i, i < M → w'.cell? ⟨q, i, none⟩ = some (.string ⟨(ps[i]?.getD []).toArray⟩))) ∧ Hid (Below WA.heap.size WA w') ∧ w'.cell? ⟨w.heap.size, 0, none⟩ = some (.slice (some ⟨b, o, none⟩) L cap) ∧ w'.cell? ⟨b, o + k * 3, none⟩ = some (.string nm)) := hide (by
                      intro X bX
                      have b1 := HB4.out.trans (bX.out.mono HB4.out.size)
                      refine (KS.out nm key X b1).mono ?_
                      rintro x w' hA
                      rw [CHS.out.1, CHS.out.2, ← HPS.out] at hA
                      obtain ⟨h1, _, hb⟩ := hA
                      obtain ⟨q, cp, rfl, hr⟩ := h1 rfl
                      have bb := b1.trans (hb.mono b1.size)
                      rw [← HM.out]
                      exact ⟨⟨q, cp, rfl, hide (fun i hi => RowS.cell hr i (by rw [← HM.out]; exact hi))⟩, bb, (KP.out w' bb).cell 0, HNM.out w' bb⟩)
                    have b0 := bdrH wc
                    go_region_held3 (fun w' => w'.cell? ⟨w.heap.size, 0, none⟩ = some (.slice (some ⟨b, o, none⟩) L cap) ∧ w'.cell? ⟨b, o + k * 3, none⟩ = some (.string nm)) (go_keep) (first
                        | (go_at_call 13; refine (C17.out _ b0).mono ?_; rintro x z1 ⟨⟨q, cp, rfl, HLc⟩, HBZ, t0, t1⟩))
                    clear C17 b0 t0 t1
                    have KH := keys_head key (chainP ts (k : Int))
                    rw [← HR.out, ← HPS.out, ← HM.out] at KH
                    have KH2 := (Bool.and_eq_true _ _).mp KH
                    have hM1 : 0 < M := of_decide_eq_true KH2.1
                    have hM2 : (0 : Int) < (M : Int) := by omega
                    have l0 := HLc.out 0 hM1
                    rw [of_decide_eq_true KH2.2, mkByB] at l0
                    clear KH KH2
                    go_wp2
                    go_loopw [14] (fun y wz => ∃ i : Nat, y = .int .i64 ((i : Int) + 1) ∧ i ≤ M ∧ Hid (Below WA.heap.size WA wz ∧ ∀ i, i < M → wz.cell? ⟨q, i, none⟩ = some (.string ⟨(ps[i]?.getD []).toArray⟩))) (fun y _ => M + 1 - (intOf y).toNat)
                    case atStart => exact ⟨0, rfl, Nat.zero_le _, hide ⟨HBZ.out, HLc.out⟩⟩
                    case round =>
                      obtain ⟨i, rfl, hi, HZC⟩ := hrel
                      by_cases hil : i + 1 < M
                      · have hil' : (i : Int) + 1 < (M : Int) := by omega
                        have hib : (i : Int) < 1000000 := by have := HMB.out; omega
                        have hib1 : (i : Int) < (M : Int) := by omega
                        have l1 := HZC.out.2 (i + 1) hil
                        have l2 := HZC.out.2 i (by omega)
                        have PR := hide (rise_at HPS.out i (by rw [← HM.out]; exact hil))
                        obtain ⟨s1, hs1⟩ : ∃ s : ByteArray, s = ⟨(ps[i + 1]?.getD []).toArray⟩ := ⟨_, rfl⟩
                        obtain ⟨s2, hs2⟩ : ∃ s : ByteArray, s = ⟨(ps[i]?.getD []).toArray⟩ := ⟨_, rfl⟩
                        rw [← hs1] at l1 PR
                        rw [← hs2] at l2 PR
                        have hle' : (Op.bytesLess s1.toList s2.toList || s1.toList == s2.toList) = false := by
                          have h1 : leT s1 s2 = false := by
                            rw [leT_iff]
                            exact decide_eq_false (List.not_le.2 PR.out)
                          exact h1
                        clear hs1 hs2
                        go_wp2_with fail
                        go_region
                        go_wp2
                        exact ⟨⟨i + 1, by go_num, by omega, hide ⟨HZC.out.1.drew, fun i hi => HZC.out.2 i hi⟩⟩, by simp [intOf]; omega⟩
                      · have hil' : ¬ (i : Int) + 1 < (M : Int) := by omega
                        clear hil
                        go_wp2
                        exact ⟨⟨k + 1, by omega, by go_num, hide HZC.out.1⟩, by simp [intOf]; omega⟩
            · have hF : ((⟨xk, xn, xt, xm⟩ : Ent), xe) = (⟨yk, yn, yt, ym⟩, 0) := by
                rw [FS.out]
                unfold findN
                rw [← HR.out]
                exact if_neg hyn
              obtain ⟨hx, rfl⟩ := Prod.mk.inj hF
              obtain ⟨rfl, rfl, rfl, rfl⟩ := Ent.mk.inj hx
              clear hx hF
              have x0 := BX3.out.cell 0
              have x1 := BX3.out.cell 1
              have x2 := BX3.out.cell 2
              have x3 := BX3.out.cell 3
              have y0 := BY.out.cell 0
              have y1 := BY.out.cell 1
              have y2 := BY.out.cell 2
              have y3 := BY.out.cell 3
              go_wp2_with (simp only [W3.out])
              have C17 : Hid (∀ X, Hid (Below w3.heap.size w3 X) → Calls Tryd.prog 13 #[.agg #[.slice (some ⟨b, o, none⟩) L cap], .string nm, .string key] X fun x w' => (∃ q cp, x = .returned (.tuple #[.slice (some ⟨q, 0, none⟩) M cp, .int .i64 0]) ∧ Hid (∀ i, i < M → w'.cell? ⟨q, i, none⟩ = some (.string ⟨(ps[i]?.getD []).toArray⟩))) ∧ Hid (Below WA.heap.size WA w') ∧ w'.cell? ⟨w.heap.size, 0, none⟩ = some (.slice (some ⟨b, o, none⟩) L cap) ∧ w'.cell? ⟨b, o + k * 3, none⟩ = some (.string nm)) := hide (by
                intro X bX
                have b1 := HB3.out.trans (bX.out.mono HB3.out.size)
                refine (KS.out nm key X b1).mono ?_
                rintro x w' hA
                rw [CHS.out.1, CHS.out.2, ← HPS.out] at hA
                obtain ⟨h1, _, hb⟩ := hA
                obtain ⟨q, cp, rfl, hr⟩ := h1 rfl
                have bb := b1.trans (hb.mono b1.size)
                rw [← HM.out]
                exact ⟨⟨q, cp, rfl, hide (fun i hi => RowS.cell hr i (by rw [← HM.out]; exact hi))⟩, bb, (KP.out w' bb).cell 0, HNM.out w' bb⟩)
              have b0 := bdrH w3
              go_region_held3 (fun w' => w'.cell? ⟨w.heap.size, 0, none⟩ = some (.slice (some ⟨b, o, none⟩) L cap) ∧ w'.cell? ⟨b, o + k * 3, none⟩ = some (.string nm)) (go_keep) (first
                  | (go_at_call 13; refine (C17.out _ b0).mono ?_; rintro x z1 ⟨⟨q, cp, rfl, HLc⟩, HBZ, t0, t1⟩))
              clear C17 b0 t0 t1
              have KH := keys_head key (chainP ts (k : Int))
              rw [← HR.out, ← HPS.out, ← HM.out] at KH
              have KH2 := (Bool.and_eq_true _ _).mp KH
              have hM1 : 0 < M := of_decide_eq_true KH2.1
              have hM2 : (0 : Int) < (M : Int) := by omega
              have l0 := HLc.out 0 hM1
              rw [of_decide_eq_true KH2.2, mkByB] at l0
              clear KH KH2
              go_wp2
              go_loopw [14] (fun y wz => ∃ i : Nat, y = .int .i64 ((i : Int) + 1) ∧ i ≤ M ∧ Hid (Below WA.heap.size WA wz ∧ ∀ i, i < M → wz.cell? ⟨q, i, none⟩ = some (.string ⟨(ps[i]?.getD []).toArray⟩))) (fun y _ => M + 1 - (intOf y).toNat)
              case atStart => exact ⟨0, rfl, Nat.zero_le _, hide ⟨HBZ.out, HLc.out⟩⟩
              case round =>
                obtain ⟨i, rfl, hi, HZC⟩ := hrel
                by_cases hil : i + 1 < M
                · have hil' : (i : Int) + 1 < (M : Int) := by omega
                  have hib : (i : Int) < 1000000 := by have := HMB.out; omega
                  have hib1 : (i : Int) < (M : Int) := by omega
                  have l1 := HZC.out.2 (i + 1) hil
                  have l2 := HZC.out.2 i (by omega)
                  have PR := hide (rise_at HPS.out i (by rw [← HM.out]; exact hil))
                  obtain ⟨s1, hs1⟩ : ∃ s : ByteArray, s = ⟨(ps[i + 1]?.getD []).toArray⟩ := ⟨_, rfl⟩
                  obtain ⟨s2, hs2⟩ : ∃ s : ByteArray, s = ⟨(ps[i]?.getD []).toArray⟩ := ⟨_, rfl⟩
                  rw [← hs1] at l1 PR
                  rw [← hs2] at l2 PR
                  have hle' : (Op.bytesLess s1.toList s2.toList || s1.toList == s2.toList) = false := by
                    have h1 : leT s1 s2 = false := by
                      rw [leT_iff]
                      exact decide_eq_false (List.not_le.2 PR.out)
                    exact h1
                  clear hs1 hs2
                  go_wp2_with fail
                  go_region
                  go_wp2
                  exact ⟨⟨i + 1, by go_num, by omega, hide ⟨HZC.out.1.drew, fun i hi => HZC.out.2 i hi⟩⟩, by simp [intOf]; omega⟩
                · have hil' : ¬ (i : Int) + 1 < (M : Int) := by omega
                  clear hil
                  go_wp2
                  exact ⟨⟨k + 1, by omega, by go_num, hide HZC.out.1⟩, by simp [intOf]; omega⟩
      · obtain rfl : k = L := by omega
        have hkl' : ¬ (k : Int) < (k : Int) := by omega
        have TT := hide (BA.out.trans (HB.out.mono BA.out.size))
        have F1 := hide (fixed_any wr (HT.out.below TT.out))
        clear hkl
        go_wp2_with fail
        refine F1.out.mono ?_
        rintro x y2 ⟨rfl, hz2⟩
        have T2 := hide (TT.out.trans (hz2.mono TT.out.size))
        clear hz2 F1
        go_wp2
        go_ret
        exact ⟨rfl, T2.out⟩
  · have hC' : ¬ (checkT ts : Int) = 0 := by omega
    obtain ⟨ao, cap, rfl, hcap, hat⟩ := h
    clear hat
    generalize checkT ts = C at *
    go_enter Tryd.func4, Tryd.ntmps4
    go_wp2_with (simp only [HWA.out])
    refine CK.out.mono ?_
    rintro x w1 ⟨rfl, hz1⟩
    have B1 := hide (BA.out.trans (hz1.mono BA.out.size))
    have F1 := hide (fixed_any w1 (HT.out.below B1.out))
    clear hz1 CK
    go_wp2_with fail
    refine F1.out.mono ?_
    rintro x y2 ⟨rfl, hz2⟩
    have T2 := hide (B1.out.trans (hz2.mono B1.out.size))
    clear hz2 F1
    go_wp2
    go_ret
    exact ⟨rfl, T2.out⟩

theorem bundleHides_row (w : World) (hT : U8 w) (v : Value) (ts : List Tab) (h : TSl w v ts) (hl : ts.length ≤ 4398046511104) (hz : SzT ts) (s : ByteArray) (_hs : s.size ≤ 140737488355328) :
    Calls Tryd.prog 4 #[.agg #[v], .string s] w fun e w' => e = .returned (.bool true) ∧ Below w.heap.size w w' := hides_row s h hl hz hT

end Go.Proofs.YtpeoigipjcdpjaaDoor

namespace Go.Proofs.YtpeoigipjcdpjaaDoor
open Go.RowKit

theorem laid_first : (Rows.laid_unicode_utf8_first : DataW Unit) = Lib.firstData := by kernel_rfl
theorem laid_accept : (Rows.laid_unicode_utf8_acceptRanges : DataW Unit) = Lib.acceptData := by kernel_rfl
theorem cellsAR : Tryd.prog.cellsOf 130 = 2 := by kernel_rfl
theorem cellsU8 : Tryd.prog.cellsOf 5 = 1 := by kernel_rfl
theorem cellsFT : Tryd.prog.cellsOf 128 = 256 := by kernel_rfl

theorem first_of {W : World} (h : Lib.VarReads Tryd.prog W "unicode/utf8.first" Lib.firstData) : ∀ c, c < 256 → W.cell? ⟨0, c, none⟩ = some (.int .u8 (Lib.firstT c : Int)) := by
  intro c hc
  obtain ⟨g, t, cs, fuel, p, hg, hty, hvar, hd⟩ := h
  have eg : g = 0 := Option.some.inj (hg.symm.trans (by kernel_rfl))
  subst eg
  have et : t = 128 := Option.some.inj (hty.symm.trans (by kernel_rfl))
  subst et
  have hcs := Lib.cells_of_tab Tryd.underlying128 Tryd.underlying5 cellsU8 cellsFT hd
  rw [World.var?_cell hg hvar c, ← Array.getElem?_toList, hcs]
  simp [Lib.firstTab, hc]

theorem accept_of {W : World} (h : Lib.VarReads Tryd.prog W "unicode/utf8.acceptRanges" Lib.acceptData) : ∀ i, i < 16 → W.cell? ⟨1, 2 * i, none⟩ = some (.int .u8 (Lib.accLo i : Int)) ∧ W.cell? ⟨1, 2 * i + 1, none⟩ = some (.int .u8 (Lib.accHi i : Int)) := by
  intro i hi
  obtain ⟨g, t, cs, fuel, p, hg, hty, hvar, hd⟩ := h
  have eg : g = 1 := Option.some.inj (hg.symm.trans (by kernel_rfl))
  subst eg
  have et : t = 131 := Option.some.inj (hty.symm.trans (by kernel_rfl))
  subst et
  obtain ⟨fu, d, q, hdi, he⟩ := Lib.array_elem Tryd.underlying131 hd i hi
  rw [cellsAR] at he
  have hdv : d = .agg ([(Lib.accLo i : Int), (Lib.accHi i : Int)].map fun z => .lit (.int .u8 z)) := by
    rw [List.getElem?_map, List.getElem?_range hi] at hdi
    exact (Option.some.inj hdi).symm
  subst hdv
  have fields : ∀ (j : Nat) (f : Field), (Tryd.prog.fieldsOf 130)[j]? = some f → Tryd.prog.underlying f.type = some (.int .u8) ∧ f.offset = j ∧ Tryd.prog.cellsOf f.type = 1 := by
    intro j f hj
    have e2 : Tryd.prog.fieldsOf 130 = #[(Tryd.prog.fieldsOf 130)[0]!, (Tryd.prog.fieldsOf 130)[1]!] := by kernel_rfl
    rw [e2] at hj
    match j, hj with
    | 0, hj => simp at hj; subst hj; exact ⟨by kernel_rfl, by kernel_rfl, by kernel_rfl⟩
    | 1, hj => simp at hj; subst hj; exact ⟨by kernel_rfl, by kernel_rfl, by kernel_rfl⟩
    | j + 2, hj => simp at hj
  have hcs := Lib.ints_of_struct (fs := Tryd.prog.fieldsOf 130) (by kernel_rfl) fields (by kernel_rfl) he
  have q0 := congrArg (fun l => l[0]?) hcs
  have q1 := congrArg (fun l => l[1]?) hcs
  simp only [List.getElem?_take, List.getElem?_drop] at q0 q1
  refine ⟨?_, ?_⟩
  · rw [World.var?_cell hg hvar (2 * i), ← Array.getElem?_toList, Nat.mul_comm]
    simpa using q0
  · rw [World.var?_cell hg hvar (2 * i + 1), ← Array.getElem?_toList, Nat.mul_comm]
    simpa using q1

theorem table {W : World} (h : laidMetH Tryd.prog [("unicode/utf8.acceptRanges", Rows.laid_unicode_utf8_acceptRanges), ("unicode/utf8.first", Rows.laid_unicode_utf8_first)] W) : U8 W := by
  have h' : laidMet Tryd.prog [("unicode/utf8.acceptRanges", Rows.laid_unicode_utf8_acceptRanges), ("unicode/utf8.first", Rows.laid_unicode_utf8_first)] W := h
  have h3 := Lib.laidMet.reads h' (n := "unicode/utf8.first") (d := Rows.laid_unicode_utf8_first) (by simp)
  have h4 := Lib.laidMet.reads h' (n := "unicode/utf8.acceptRanges") (d := Rows.laid_unicode_utf8_acceptRanges) (by simp)
  rw [laid_first] at h3
  rw [laid_accept] at h4
  exact ⟨first_of h3, accept_of h4⟩

def tabVals : DataW Unit → Array Value
  | .agg l => (l.flatMap fun
      | .lit (.int k z) => [Value.int k z]
      | .agg l2 => l2.map fun
        | .lit (.int k z) => Value.int k z
        | _ => .int .u8 0
      | _ => []).toArray
  | _ => #[]

def putVals (d : DataW Unit) : Obj → Obj
  | .cells _ t frozen => .cells (tabVals d) t frozen
  | o => o

noncomputable def laidWorld (os : Os) : World :=
  { World.holding Tryd.prog os ⟨#[], #[], []⟩ with
    heap := ((World.holding Tryd.prog os ⟨#[], #[], []⟩).heap.modify 1 (putVals Rows.laid_unicode_utf8_acceptRanges)).modify 0 (putVals Rows.laid_unicode_utf8_first) }

end Go.Proofs.YtpeoigipjcdpjaaDoor
