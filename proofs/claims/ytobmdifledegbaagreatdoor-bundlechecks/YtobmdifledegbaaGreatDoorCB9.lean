/-
  What quipuref12's Encode answers.
  quipuref12.Copy: a bundle in memory of its own, a mark behind each list.
  What quipuref12's Marked answers of what Copy made.
  BundleChecks.
  What the rows' list of package variables gives, and a world that holds them (a dump without DecodeRuneInString).
-/
import Derived.Test.YtobmdifledegbaaGreatDoorCB8
import Derived.Test.YtobmdifledegbaaGreatDoorCB6
import Derived.Test.YtobmdifledegbaaGreatDoorRows
import Derived.Test.YtobmdifledegbaaGreatDoorCB2
import Derived.Lib.LaidU8
import Derived.Deep.DeepHandedRow
namespace Go.Proofs.YtobmdifledegbaaGreatDoor
open Go.RowKit

theorem ob_apart {w : World} {H B : Nat} {cs : Array Value} {T : TypeId} {v : Value} {ys : List Nat} (q : Blk w H cs T) (h : Ob B w v ys) (he : T ≠ 5) : some H ≠ v.ownBlock := by
  obtain ⟨g, cap, cur, fz, rfl, _, hh, _⟩ := h
  intro e'
  simp only [Value.ownBlock, Option.some.injEq] at e'
  subst e'
  unfold Blk at q
  rw [hh] at q
  simp at q
  exact he q.2.1.symm

theorem ob_stay {w w' : World} {H B : Nat} {cs : Array Value} {T : TypeId} {v : Value} {ys : List Nat} (q : Blk w H cs T) (h : Ob B w v ys) (hg : w.grownBy w' v.ownBlock) (he : T ≠ 5) : Blk w' H cs T := by
  have hap := ob_apart q h he
  have hlt := q.lt
  unfold Blk at *
  rw [hg.block _ hlt hap]
  exact q

theorem bytes_bel (w : World) (T : TypeId) (t : ByteArray) : Below w.heap.size w (Lib.bytesWorld w T t) := ⟨rfl, rfl, rfl, by rw [Lib.bytesWorld_size]; omega, fun k hk => Lib.bytesWorld_at_old w T t k hk⟩

theorem name_in {ts : List Tab} {k : Nat} (hk : k < ts.length) : bys (tabN ts k).name ∈ poolL (textsL ts) := by
  rw [pool_mem]
  refine ⟨_, ?_, rfl⟩
  unfold textsL
  rw [List.mem_flatMap]
  exact ⟨tabN ts k, List.mem_of_getElem? (tabN_some hk), by unfold tabL; exact List.mem_cons_self ..⟩
theorem ent_in {ts : List Tab} {k j : Nat} (hk : k < ts.length) (hj : j < (tabN ts k).ents.length) (t : ByteArray) (ht : t ∈ entL (entN (tabN ts k).ents j)) : bys t ∈ poolL (textsL ts) := by
  rw [pool_mem]
  refine ⟨t, ?_, rfl⟩
  unfold textsL
  rw [List.mem_flatMap]
  refine ⟨tabN ts k, List.mem_of_getElem? (tabN_some hk), ?_⟩
  unfold tabL
  refine List.mem_cons_of_mem _ ?_
  rw [List.mem_flatMap]
  exact ⟨entN (tabN ts k).ents j, List.mem_of_getElem? (entN_some hj), ht⟩

theorem kind_ok {ts : List Tab} {k j : Nat} (h : tabE ts k = 0) (hj : j < (tabN ts k).ents.length) : 0 ≤ (entN (tabN ts k).ents j).kind ∧ (entN (tabN ts k).ents j).kind ≤ 2 := by
  have hm := (ents_may _ _ (tabE_zero h).2.2.2.2 _ (List.mem_of_getElem? (entN_some hj))).2
  unfold mayVal at hm
  split at hm
  · omega
  · split at hm
    · omega
    · split at hm
      · omega
      · cases hm

theorem byte_of (n : Int) (h0 : 0 ≤ n) (h1 : n < 256) : (p1 n).map UInt8.toNat = [n.toNat] := by
  unfold p1 bN
  simp
  omega
theorem byte_par (p : Int) (h0 : -1 ≤ p) (h1 : p < 256) : (p1 (parB p)).map UInt8.toNat = [(p % 256).toNat] := by
  unfold parB
  by_cases h : p = -1
  · subst h; rw [if_pos rfl, byte_of 255 (by decide) (by decide)]; rfl
  · rw [if_neg h, byte_of p (by omega) h1]
    congr 1
    omega

set_option maxRecDepth 100000 in
set_option maxHeartbeats 4000000 in
theorem rEncode_any {w : World} {v : Value} {ts : List Tab} (h : TSl w v ts) (hl : ts.length ≤ 4398046511104) (hz : SzT ts) :
    Calls Tryz.prog 9 #[.agg #[v]] w fun e w' => e = .returned (encA ts) ∧ Below w.heap.size w w' := by
  obtain ⟨i0, hi, hz0, hz1, hz2⟩ := info_parts Tryz.infoBz
  obtain ⟨WA, hWA⟩ : ∃ WA, WA = w.alloc (.cells #[v] 24) := ⟨_, rfl⟩
  have BA : Hid (Below w.heap.size w WA) := hide (by rw [hWA]; exact (Below.refl _ _).alloc (Nat.le_refl _) _)
  have Q1 : Hid (Blk WA w.heap.size #[v] 24) := hide (by rw [hWA]; exact Blk.newAt _ _ rfl _ _)
  have SA := hide (h.below BA.out)
  have CK := hide (rCheck_any SA.out hl hz)
  have HWA := hide hWA.symm
  have HZ := hide hz
  obtain ⟨ao, cap, rfl, hcap, hat⟩ := h
  have q0 := Q1.out.cell 0
  have HAT := hide hat
  clear hWA hz hat
  by_cases hC : checkT ts = 0
  · obtain ⟨cz1, cz2, cz3⟩ := check_zero hC
    obtain ⟨cl1, cl2, cl3⟩ := counts_len cz1
    have HD := hide (check_down hC)
    have KD := hide (fun k j (hk : k < ts.length) (hj : j < (tabN ts k).ents.length) => kind_ok (cz2 k hk) hj)
    have EA : Hid (encA ts = .tuple #[.string ⟨(encT ts).toArray⟩, .int .i64 0]) := hide (by unfold encA; rw [if_pos hC, hC]; rfl)
    have PO := hide (fun X (hX : Below WA.heap.size WA X) => pool_any (SA.out.below hX) cl2 cl3)
    have HE3 := hide cl3
    rw [hC] at CK
    rw [show ((0 : Nat) : Int) = 0 from rfl] at CK
    obtain ⟨L, hL⟩ : ∃ L, L = ts.length := ⟨_, rfl⟩
    have HL := hide hL
    rw [← hL] at hl hcap CK Q1 HWA SA PO cl1 cl2 q0 ⊢
    obtain ⟨b, o, rfl, HBb, HCL⟩ : ∃ b o, ao = some ⟨b, o, none⟩ ∧ Hid (b < w.heap.size) ∧ Hid (∀ i, i < ts.length → TabAt w b o i (tabN ts i)) := by
      rcases HAT.out with q | ⟨b, o, rfl, q, hcl⟩
      · rw [q] at hL; simp at hL; omega
      · exact ⟨b, o, rfl, hide q, hide hcl⟩
    have hN0 := hide cz3
    clear cz1 cz2 cz3 cl3 hC hL
    go_enter Tryz.func9, Tryz.ntmps9
    go_wp2_with (simp only [HWA.out])
    refine CK.out.mono ?_
    rintro x w1 ⟨rfl, hb1⟩
    have B1 := hide hb1
    have PO1 := hide (PO.out w1 hb1)
    have q1 := (Q1.out.below hb1 Q1.out.lt).cell 0
    clear hb1 CK PO q0
    go_wp2_with fail
    refine PO1.out.mono ?_
    rintro x W2 ⟨u, rfl, hru, hnn, hb2⟩
    have B2 : Hid (Below WA.heap.size WA W2) := hide (B1.out.trans (hb2.mono B1.out.size))
    obtain ⟨ps, hps⟩ : ∃ ps, ps = poolL (textsL ts) := ⟨_, rfl⟩
    have HPS := hide hps
    rw [← hps] at hru
    have TX := hide (TxS.of_row hru)
    have HRI : Hid (Rise ps) := hide (by rw [hps]; exact pool_rise _)
    have HPL : Hid (ps.length ≤ 4096) := hide (by rw [hps, pool_len]; exact hN0.out)
    have HSH : Hid (∀ s ∈ ps, s.length ≤ 140737488355328) := hide (by rw [hps]; exact pool_short HZ.out)
    obtain ⟨gu, cu, rfl⟩ : ∃ gu cu, u = .slice (some ⟨gu, 0, none⟩) ps.length cu := by
      rcases hru.2 with ⟨h1, _⟩ | ⟨g, cu, cur, h1, _⟩
      · exact absurd h1 hnn
      · exact ⟨g, cu, h1⟩
    have HUC := hide (fun i (hi : i < ps.length) => RowS.cell hru i hi)
    have hgu := hide (World.ownsRow.lt hru gu rfl).2
    obtain ⟨N, hN⟩ : ∃ N, N = ps.length := ⟨_, rfl⟩
    have HN := hide hN
    have hN4 : N ≤ 4096 := by rw [hN]; exact HPL.out
    rw [← hN] at TX HUC ⊢
    obtain ⟨B, hB⟩ : ∃ B, B = W2.heap.size := ⟨_, rfl⟩
    have HBB := hide hB
    have P1 := hide (rPut2 (N : Int) W2)
    clear hb2 PO1 hru hnn hps hN hB q1
    go_wp2_with fail
    refine P1.out.mono ?_
    rintro x w3 ⟨rfl, hb3⟩
    obtain ⟨T2, hT2⟩ : ∃ T2, T2 = (⟨#[bN (N : Int) 1, bN (N : Int) 0]⟩ : ByteArray) := ⟨_, rfl⟩
    have HT2 : Hid (bys T2 = p2 (N : Int)) := hide (by rw [hT2]; rfl)
    rw [← hT2]
    have cvt := convB_by T2
    have B3 := hide hb3
    clear hb3 P1 hT2
    go_wp2
    obtain ⟨W4, hW4⟩ : ∃ W4, W4 = Lib.bytesWorld w3 5 T2 := ⟨_, rfl⟩
    have OB0 : Hid (Ob B W4 (.slice (some ⟨w3.heap.size, 0, none⟩) T2.size (grownCap w3 T2.size 0 5)) ((p2 (N : Int)).map UInt8.toNat)) := hide (by rw [hW4, ← HT2.out]; exact Ob.bytes w3 T2 (by rw [HBB.out]; exact B3.out.size))
    have BW0 : Hid (Below B W2 W4) := hide (by rw [HBB.out]; rw [hW4]; exact B3.out.trans ((bytes_bel w3 5 T2).mono B3.out.size))
    simp only [← hW4]
    generalize (Value.slice (some ⟨w3.heap.size, 0, none⟩) T2.size (grownCap w3 T2.size 0 5)) = o0 at *
    clear hW4 cvt B3 HT2
    go_loopw [6, 7] (fun y x wr => ∃ k : Nat, k ≤ N ∧ x = .int .i64 (k : Int) ∧ Hid (Ob B wr y ((p2 (N : Int) ++ txtB (ps.take k)).map UInt8.toNat)) ∧ Hid (Below B W2 wr)) (fun _ x _ => N - (intOf x).toNat)
    case atStart => exact ⟨0, Nat.zero_le _, rfl, hide (by have := OB0.out; simpa [txtB] using this), BW0⟩
    case round =>
      obtain ⟨k, hk, rfl, HO, HW⟩ := hrel
      clear OB0 BW0
      have HWW : Hid (Below W2.heap.size W2 wr) := hide (by rw [← HBB.out]; exact HW.out)
      by_cases hkl : k < N
      · have hkl' : (k : Int) < (N : Int) := by omega
        have hkp : k < ps.length := by rw [← HN.out]; exact hkl
        have c0 := (HWW.out.cell (p := ⟨gu, k, none⟩) hgu.out).trans (HUC.out k hkl)
        have NX := hide (txtB_next ps k hkp)
        have hlen : Hid ((txtB (ps.take k)).length ≤ 1026 * k) := hide (by have := txtB_len (ps.take k); rw [List.length_take] at this; have h2 : min k ps.length ≤ k := Nat.min_le_left _ _; have h3 := Nat.mul_le_mul_left 1026 h2; omega)
        obtain ⟨tk, htk⟩ : ∃ tk : ByteArray, tk = ⟨(ps[k]?.getD []).toArray⟩ := ⟨_, rfl⟩
        rw [← htk] at c0 NX
        have hts : tk.size ≤ 140737488355328 := by
          rw [htk, List.getElem?_eq_getElem hkp]
          exact HSH.out _ (List.getElem_mem hkp)
        have HP := hide (rPutText_any tk wr hts)
        have hpl := ptxV_le tk
        rw [bys_len] at hpl
        clear htk hkp hts
        go_wp2_with fail
        refine HP.out.mono ?_
        rintro x w5 ⟨rfl, hb5⟩
        have O5 := hide (HO.out.below hb5)
        have BW5 : Hid (Below B W2 w5) := hide (HW.out.trans (hb5.mono (by rw [HBB.out]; exact HWW.out.size)))
        have hl0 : Hid (((p2 (N : Int) ++ txtB (ps.take k)).map UInt8.toNat).length ≤ 5000000) := hide (by rw [List.length_map, List.length_append]; have := hlen.out; have h2 : (p2 (N : Int)).length = 2 := rfl; omega)
        clear hb5 HP c0
        have hb6 : Hid (B ≤ w5.heap.size) := hide (by rw [HBB.out]; have := BW5.out.size; omega)
        go_wp2_with (at_builtin; refine appendS_ob _ rfl _ _ 52 9 rfl i0 Tryz.underlying52 Tryz.underlying9 hi hz0 hz1 hz2 _ _ rfl O5.out (ptxV tk) rfl (by have := hl0.out; omega) hb6.out ?_; intro v6 w6 hob6 hgr6)
        have BW6 : Hid (Below B W2 w6) := hide (BW5.out.grown hgr6 hb6.out (fun j hj => (Ob.lt O5.out j hj).1))
        have OB6 : Hid (Ob B w6 v6 (((p2 (N : Int) ++ txtB (ps.take k)) ++ bys (ptxV tk)).map UInt8.toNat)) := hide (by rw [List.map_append]; exact hob6)
        clear hob6
        go_wp2
        exact ⟨⟨k + 1, by omega, by go_num, hide (by rw [NX.out, ← List.append_assoc]; exact OB6.out), BW6⟩, by simp [intOf]; omega⟩
      · obtain rfl : k = N := by omega
        have hkl' : ¬ (k : Int) < (k : Int) := by omega
        clear hkl
        have HPE : Hid (txtB (ps.take k) = txtB ps) := hide (by rw [HN.out, List.take_length])
        have hlT0 : Hid ((txtB ps).length ≤ 1026 * 4096) := hide (by have := txtB_len ps; have h3 := HPL.out; have h4 := Nat.mul_le_mul_left 1026 h3; omega)
        have OBT : Hid (Ob B wr u6 ((p2 (k : Int) ++ txtB ps).map UInt8.toNat)) := hide (by rw [← HPE.out]; exact HO.out)
        have hlA : Hid (((p2 (k : Int) ++ txtB ps).map UInt8.toNat).length ≤ 4300000) := hide (by rw [List.length_map, List.length_append]; have := hlT0.out; have h2 : (p2 (k : Int)).length = 2 := rfl; omega)
        have PW : Hid (∀ X, Below B W2 X → Blk X w.heap.size #[.slice (some ⟨b, o, none⟩) L cap] 24) := hide (fun X hX => Q1.out.below (B2.out.trans ((show Below W2.heap.size W2 X by rw [← HBB.out]; exact hX).mono B2.out.size)) Q1.out.lt)
        have WW : Hid (∀ X, Below B W2 X → Below w.heap.size w X) := hide (fun X hX => BA.out.trans ((B2.out.trans ((show Below W2.heap.size W2 X by rw [← HBB.out]; exact hX).mono B2.out.size)).mono BA.out.size))
        have TXF : Hid (∀ X, Below B W2 X → TxS X (.slice (some ⟨gu, 0, none⟩) k cu) ps) := hide (fun X hX => TX.out.below (by rw [← HBB.out]; exact hX))
        have q2 := (PW.out wr HW.out).cell 0
        have wr8 : ((L : Int) % 256) = (L : Int) := by omega
        clear HO hlT0
        have AL8 : Hid (Below wr.heap.size wr (wr.alloc (.cells #[.int .u8 (L : Int)] 5))) := hide ((Below.refl _ _).alloc (Nat.le_refl _) _)
        have OA8 := hide (OBT.out.below AL8.out)
        have BA8 : Hid (Below B W2 (wr.alloc (.cells #[.int .u8 (L : Int)] 5))) := hide (HW.out.trans (AL8.out.mono (by rw [HBB.out]; have := HW.out.size; omega)))
        have NC8 : Hid ((wr.alloc (.cells #[.int .u8 (L : Int)] 5)).cell? ⟨wr.heap.size, 0, none⟩ = some (.int .u8 ((L : Nat) : Int))) := hide (by rw [show (((L : Nat) : Int)) = (L : Int) from rfl]; exact (Blk.newAt wr wr.heap.size rfl #[.int .u8 (L : Int)] 5).cell 0)
        go_wp2_with (at_builtin; refine append_ob _ rfl _ _ 52 rfl i0 Tryz.underlying52 hi hz0 hz1 hz2 _ _ rfl OA8.out ⟨wr.heap.size, 0, none⟩ 1 L rfl NC8.out (by have := hlA.out; omega) ?_; intro v8 w8 hob8 hgr8 hown8; have q3 := (PW.out w8 (BA8.out.grown hgr8 (by rw [HBB.out]; have := BA8.out.size; omega) (fun j hj => (Ob.lt OA8.out j hj).1))).cell 0)
        have BW8 : Hid (Below B W2 w8) := hide (BA8.out.grown hgr8 (by rw [HBB.out]; have := BA8.out.size; omega) (fun j hj => (Ob.lt OA8.out j hj).1))
        have OB8 : Hid (Ob B w8 v8 (((p2 (k : Int) ++ txtB ps) ++ p1 (L : Int)).map UInt8.toNat)) := hide (by rw [List.map_append]; rw [byte_of (L : Int) (by omega) (by omega), Int.toNat_natCast]; exact hob8)
        clear hob8 hown8 NC8
        obtain ⟨A1, hA1⟩ : ∃ A1, A1 = (p2 (k : Int) ++ txtB ps) ++ p1 (L : Int) := ⟨_, rfl⟩
        rw [← hA1] at OB8
        have HA1 := hide hA1
        have hlA1 : Hid (A1.length ≤ 4300010) := hide (by rw [hA1, List.length_append]; have := hlA.out; rw [List.length_map] at this; have h3 : (p1 (L : Int)).length = 1 := rfl; omega)
        clear hA1 wr8 q2 q3 HW OBT
        go_loopw [6, 10] (fun y x wr => ∃ i : Nat, i ≤ L ∧ x = .int .i64 (i : Int) ∧ Hid (Ob B wr y ((A1 ++ (ts.take i).flatMap (tabB ps)).map UInt8.toNat)) ∧ Hid (Below B W2 wr)) (fun _ x _ => L - (intOf x).toNat)
        case atStart => exact ⟨0, Nat.zero_le _, rfl, hide (by have := OB8.out; simpa using this), BW8⟩
        case round =>
          obtain ⟨i, hk2, rfl, HO2, HW⟩ := hrel
          clear OB8 BW8
          have q3 := (PW.out wr HW.out).cell 0
          by_cases hil : i < L
          · have hil' : (i : Int) < (L : Int) := by omega
            have hit : i < ts.length := by rw [← HL.out]; exact hil
            obtain ⟨wo, hwo⟩ : ∃ x, x = wr := ⟨_, rfl⟩
            subst hwo
            have WWo := hide (WW.out wo HW.out)
            obtain ⟨g0, g1, ve, g2, hes⟩ := (HCL.out i hit).below HBb.out WWo.out
            have NX := hide (tabsB_next ps ts i hit)
            have NIN : Hid (bys (tabN ts i).name ∈ ps) := hide (by rw [HPS.out]; exact name_in hit)
            have EIN0 := hide (fun j (hj : j < (tabN ts i).ents.length) (t : ByteArray) (ht : t ∈ entL (entN (tabN ts i).ents j)) => (by rw [HPS.out]; exact ent_in hit hj t ht : bys t ∈ ps))
            have KDk0 := hide (fun j (hj : j < (tabN ts i).ents.length) => KD.out i j hit hj)
            have HEE0 := HE3.out i
            have PR0 := HD.out i hit
            obtain ⟨dg0, dg1, dve, dg2, dhes⟩ := HCL.out i hit
            have HTL : Hid (((ts.take i).flatMap (tabB ps)).length ≤ 8000 * i) := hide (by
              have := tabsB_len ps (ts.take i) (fun t ht => by obtain ⟨q, _, rfl⟩ := mem_tabN (List.mem_of_mem_take ht); exact HE3.out q)
              rw [List.length_take] at this
              have h2 : min i ts.length ≤ i := Nat.min_le_left _ _
              have h3 := Nat.mul_le_mul_left 8000 h2
              omega)
            obtain ⟨g, hg⟩ : ∃ g, g = tabN ts i := ⟨_, rfl⟩
            rw [← hg] at g0 g1 hes NX NIN EIN0 KDk0 HEE0 PR0 dg0 dg1 dhes
            clear hg hit
            obtain ⟨nm, pr, es⟩ := g
            simp only [] at g0 g1 g2 hes HEE0 PR0 dg0 dg1 dg2 dhes
            have EIN : Hid (∀ j, j < es.length → ∀ t, t ∈ entL (entN es j) → bys t ∈ ps) := EIN0
            have KDk : Hid (∀ j, j < es.length → 0 ≤ (entN es j).kind ∧ (entN es j).kind ≤ 2) := KDk0
            clear EIN0 KDk0
            obtain ⟨ae, ce, rfl, hce, hea⟩ := dhes
            have hve : ve = .slice ae es.length ce := by
              have := (WWo.out.cell (p := ⟨b, o + i * 3 + 2, none⟩) HBb.out).symm.trans g2
              rw [dg2] at this
              exact (Option.some.inj this).symm
            subst hve
            obtain ⟨M, hM⟩ : ∃ M, M = es.length := ⟨_, rfl⟩
            rw [← hM] at g2 hce HEE0
            have HM := hide hM
            have HEA := hide hea
            clear hea hM dg0 dg1 dg2 hes
            obtain ⟨WT, hWT⟩ : ∃ WT, WT = wo.alloc (.cells #[.string nm, .int .i64 pr, .slice ae M ce] 37) := ⟨_, rfl⟩
            obtain ⟨DT, hDT⟩ : ∃ DT, DT = wo.heap.size := ⟨_, rfl⟩
            have BT : Hid (Below wo.heap.size wo WT) := hide (by rw [hWT]; exact (Below.refl _ _).alloc (Nat.le_refl _) _)
            have QT : Hid (Blk WT wo.heap.size #[.string nm, .int .i64 pr, .slice ae M ce] 37) := hide (by rw [hWT]; exact Blk.newAt _ _ rfl _ _)
            have hBwo : Hid (B ≤ wo.heap.size) := hide (by rw [HBB.out]; have := HW.out.size; omega)
            have BWT : Hid (Below B W2 WT) := hide (HW.out.trans (BT.out.mono hBwo.out))
            have OBT2 := hide (HO2.out.below BT.out)
            have NN := hide (rnumber2 nm (TXF.out WT BWT.out) HRI.out (by have := HPL.out; omega) NIN.out)
            obtain ⟨NV, hNV⟩ : ∃ NV, NV = put2 (placeS ps (bys nm) : Int) := ⟨_, rfl⟩
            rw [← hNV] at NN
            have HNV : Hid (bys NV = p2 (placeS ps (bys nm) : Int)) := hide (by rw [hNV]; rfl)
            have hNVs : Hid (NV.size = 2) := hide (by rw [hNV]; rfl)
            have t0 := QT.out.cell 0
            have HWT := hide hWT.symm
            have HDT := hide hDT
            have hlT : Hid ((A1 ++ (ts.take i).flatMap (tabB ps)).length ≤ 5000000) := hide (by rw [List.length_append]; have := hlA1.out; have := HTL.out; omega)
            clear hWT hNV hDT
            go_wp2_with (simp only [HWT.out])
            refine NN.out.mono ?_
            rintro x w30 ⟨rfl, hb30⟩
            have O30 := hide (OBT2.out.below hb30)
            have BW30 : Hid (Below B W2 w30) := hide (BWT.out.trans (hb30.mono (Nat.le_trans hBwo.out BT.out.size)))
            have QT30 := hide (QT.out.below hb30 QT.out.lt)
            have hb31 : Hid (B ≤ w30.heap.size) := hide (by rw [HBB.out]; have := BW30.out.size; omega)
            have DT30 : Hid (∀ X v, w30.grownBy X (Value.ownBlock v) → ∀ ys, Ob B w30 v ys → ∀ cs, Blk w30 wo.heap.size cs 37 → Blk X wo.heap.size cs 37) := hide (fun X v hg ys ho cs q => by
              have hap := ob_apart q ho (by decide)
              have hlt := q.lt
              unfold Blk at *
              rw [hg.block _ hlt hap]
              exact q)
            have EP0 : Hid ((((pr % 256).toNat : Nat) : Int) = pr % 256) := hide (Int.toNat_of_nonneg (by omega))
            have PRB := hide PR0
            clear hb30 NN t0 g0 g1 g2
            go_wp2_with (first
              | (at_builtin; refine appendS_ob _ rfl _ _ 52 9 rfl i0 Tryz.underlying52 Tryz.underlying9 hi hz0 hz1 hz2 _ _ rfl O30.out NV rfl (by rw [List.length_map]; have := hlT.out; have := hNVs.out; omega) hb31.out ?_; intro v31 w31 hob31 hgr31; have BW31 : Hid (Below B W2 w31) := hide (BW30.out.grown hgr31 hb31.out (fun j hj => (Ob.lt O30.out j hj).1)); have OB31 : Hid (Ob B w31 v31 (((A1 ++ (ts.take i).flatMap (tabB ps)) ++ bys NV).map UInt8.toNat)) := hide (by rw [List.map_append]; exact hob31); have QT31 := hide (DT30.out _ _ hgr31 _ O30.out _ QT30.out); have t1 := QT31.out.cell 1; have AL32 : Hid (Below w31.heap.size w31 (w31.alloc (.cells #[.int .u8 (pr % 256)] 5))) := hide ((Below.refl _ _).alloc (Nat.le_refl _) _); have OA32 := hide (OB31.out.below AL32.out); have BA32 : Hid (Below B W2 (w31.alloc (.cells #[.int .u8 (pr % 256)] 5))) := hide (BW31.out.trans (AL32.out.mono (by rw [HBB.out]; have := BW31.out.size; omega))); have NC32 : Hid ((w31.alloc (.cells #[.int .u8 (pr % 256)] 5)).cell? ⟨w31.heap.size, 0, none⟩ = some (.int .u8 (((pr % 256).toNat : Nat) : Int))) := hide (by rw [show ((((pr % 256).toNat : Nat) : Int)) = (pr % 256) from EP0.out]; exact (Blk.newAt w31 w31.heap.size rfl #[.int .u8 (pr % 256)] 5).cell 0); have QT32 := hide (QT31.out.below AL32.out QT31.out.lt))
              | (at_builtin; refine append_ob _ rfl _ _ 52 rfl i0 Tryz.underlying52 hi hz0 hz1 hz2 _ _ rfl OA32.out ⟨w31.heap.size, 0, none⟩ 1 (pr % 256).toNat rfl NC32.out (by rw [List.length_map, List.length_append, bys_len]; have := hlT.out; have := hNVs.out; omega) ?_; intro v32 w32 hob32 hgr32 hown32; have BW32 : Hid (Below B W2 w32) := hide (BA32.out.grown hgr32 (by rw [HBB.out]; have := BA32.out.size; omega) (fun j hj => (Ob.lt OA32.out j hj).1)); have OB32 : Hid (Ob B w32 v32 ((((A1 ++ (ts.take i).flatMap (tabB ps)) ++ bys NV) ++ p1 (parB pr)).map UInt8.toNat)) := hide (by rw [List.map_append, byte_par pr PRB.out.1 (by have := PRB.out.2; omega)]; exact hob32); have QT33 := hide (ob_stay QT32.out OA32.out hgr32 (by decide)); have t2 := QT33.out.cell 2))
            have PM := hide (rPut2 (M : Int) w32)
            go_wp2_with fail
            refine PM.out.mono ?_
            rintro x w33 ⟨rfl, hb33⟩
            obtain ⟨MV, hMV⟩ : ∃ MV, MV = (⟨#[bN (M : Int) 1, bN (M : Int) 0]⟩ : ByteArray) := ⟨_, rfl⟩
            have HMV : Hid (bys MV = p2 (M : Int)) := hide (by rw [hMV]; rfl)
            have hMVs : Hid (MV.size = 2) := hide (by rw [hMV]; rfl)
            rw [← hMV]
            have O33 := hide (OB32.out.below hb33)
            have BW33 : Hid (Below B W2 w33) := hide (BW32.out.trans (hb33.mono (by rw [HBB.out]; exact BW32.out.size)))
            have QT34 := hide (QT33.out.below hb33 QT33.out.lt)
            have hb34 : Hid (B ≤ w33.heap.size) := hide (by rw [HBB.out]; have := BW33.out.size; omega)
            have DT33 : Hid (∀ X v, w33.grownBy X (Value.ownBlock v) → ∀ ys, Ob B w33 v ys → ∀ cs, Blk w33 wo.heap.size cs 37 → Blk X wo.heap.size cs 37) := hide (fun X v hg ys ho cs q => by
              have hap := ob_apart q ho (by decide)
              have hlt := q.lt
              unfold Blk at *
              rw [hg.block _ hlt hap]
              exact q)
            clear hb33 PM hMV t1 t2
            go_wp2_with (at_builtin; refine appendS_ob _ rfl _ _ 52 9 rfl i0 Tryz.underlying52 Tryz.underlying9 hi hz0 hz1 hz2 _ _ rfl O33.out MV rfl (by rw [List.length_map, List.length_append, List.length_append, bys_len]; have := hlT.out; have := hNVs.out; have := hMVs.out; have h3 : (p1 (parB pr)).length = 1 := rfl; omega) hb34.out ?_; intro v34 w34 hob34 hgr34; have BW34 : Hid (Below B W2 w34) := hide (BW33.out.grown hgr34 hb34.out (fun j hj => (Ob.lt O33.out j hj).1)); have OB34 : Hid (Ob B w34 v34 (((((A1 ++ (ts.take i).flatMap (tabB ps)) ++ bys NV) ++ p1 (parB pr)) ++ bys MV).map UInt8.toNat)) := hide (by rw [List.map_append]; exact hob34); have QT35 := hide (DT33.out _ _ hgr34 _ O33.out _ QT34.out); have t2 := QT35.out.cell 2)
            obtain ⟨AE, hAE⟩ : ∃ AE, AE = (((A1 ++ (ts.take i).flatMap (tabB ps)) ++ bys NV) ++ p1 (parB pr)) ++ bys MV := ⟨_, rfl⟩
            have OB35 := hide OB34.out
            rw [← hAE] at OB35
            have HAE := hide hAE
            have hlAE : Hid (AE.length ≤ 5000100) := hide (by rw [hAE, List.length_append, List.length_append, List.length_append, bys_len, bys_len]; have := hlT.out; have := hNVs.out; have := hMVs.out; have h3 : (p1 (parB pr)).length = 1 := rfl; omega)
            have QT36 : Hid (Blk w34 DT #[.string nm, .int .i64 pr, .slice ae M ce] 37) := hide (by rw [HDT.out]; exact QT35.out)
            simp only [← HDT.out]
            clear hAE t2
            go_loopw [6, 12] (fun y x wr => ∃ j : Nat, j ≤ M ∧ x = .int .i64 (j : Int) ∧ Hid (Ob B wr y ((AE ++ (es.take j).flatMap (entB ps)).map UInt8.toNat)) ∧ Hid (Below B W2 wr) ∧ Hid (Blk wr DT #[.string nm, .int .i64 pr, .slice ae M ce] 37)) (fun _ x _ => M - (intOf x).toNat)
            case atStart => exact ⟨0, Nat.zero_le _, rfl, hide (by have := OB35.out; simpa using this), BW34, QT36⟩
            case round =>
              obtain ⟨j, hj, rfl, HO3, HW3, QT3⟩ := hrel
              have s2 := QT3.out.cell 2
              by_cases hjl : j < M
              · have hjl' : (j : Int) < (M : Int) := by omega
                have hjt : j < es.length := by rw [← HM.out]; exact hjl
                obtain ⟨b2, o2, rfl, HECL⟩ : ∃ b2 o2, ae = some ⟨b2, o2, none⟩ ∧ Hid (∀ X, Below B W2 X → ∀ i, i < es.length → X.cell? ⟨b2, o2 + i * 4, none⟩ = some (.string (entN es i).key) ∧ X.cell? ⟨b2, o2 + i * 4 + 1, none⟩ = some (.int .i64 (entN es i).kind) ∧ X.cell? ⟨b2, o2 + i * 4 + 2, none⟩ = some (.string (entN es i).text) ∧ X.cell? ⟨b2, o2 + i * 4 + 3, none⟩ = some (.int .i64 (entN es i).num)) := by
                  rcases HEA.out with q | ⟨b2, o2, rfl, q, hcl⟩
                  · rw [q] at hjt; simp at hjt
                  · exact ⟨b2, o2, rfl, hide (fun X hX i hi => by
                      have hb := WW.out X hX
                      obtain ⟨z0, z1, z2, z3⟩ := hcl i hi
                      exact ⟨(hb.cell q).trans z0, (hb.cell q).trans z1, (hb.cell q).trans z2, (hb.cell q).trans z3⟩)⟩
                obtain ⟨x0, x1, x2, x3⟩ := HECL.out wr HW3.out j hjt
                have EX := hide (entsB_next ps es j hjt)
                have EK := hide (EIN.out j hjt)
                have KD1 := KDk.out j hjt
                obtain ⟨e, he0⟩ : ∃ e, e = entN es j := ⟨_, rfl⟩
                rw [← he0] at x0 x1 x2 x3 EX EK KD1
                clear he0
                obtain ⟨ek, en, et, em⟩ := e
                simp only [] at x0 x1 x2 x3 EK KD1
                obtain ⟨DX, hDX⟩ : ∃ DX, DX = wr.heap.size := ⟨_, rfl⟩
                obtain ⟨WB, hWB⟩ : ∃ WB, WB = wr.alloc (.cells #[.string ek, .int .i64 en, .string et, .int .i64 em] 39) := ⟨_, rfl⟩
                have BB : Hid (Below wr.heap.size wr WB) := hide (by rw [hWB]; exact (Below.refl _ _).alloc (Nat.le_refl _) _)
                have DB : Hid (Blk WB wr.heap.size #[.string ek, .int .i64 en, .string et, .int .i64 em] 39) := hide (by rw [hWB]; exact Blk.newAt _ _ rfl _ _)
                have hBwr : Hid (B ≤ wr.heap.size) := hide (by rw [HBB.out]; have := HW3.out.size; omega)
                have BWB : Hid (Below B W2 WB) := hide (HW3.out.trans (BB.out.mono hBwr.out))
                have OBB := hide (HO3.out.below BB.out)
                have QTB := hide (QT3.out.below BB.out QT3.out.lt)
                have hlE : Hid ((AE ++ (es.take j).flatMap (entB ps)).length ≤ 6000000) := hide (by
                  rw [List.length_append, entsB_len, List.length_take]
                  have h1 := hlAE.out
                  have h2 : min j es.length ≤ j := Nat.min_le_left _ _
                  omega)
                have NK := hide (rnumber2 ek (TXF.out WB BWB.out) HRI.out (by have := HPL.out; omega) (EK.out ek (by unfold entL; split <;> simp)))
                have d0 := DB.out.cell 0
                have HWB := hide hWB.symm
                obtain ⟨KV, hKV⟩ : ∃ KV, KV = put2 (placeS ps (bys ek) : Int) := ⟨_, rfl⟩
                rw [← hKV] at NK
                have HKV : Hid (bys KV = p2 (placeS ps (bys ek) : Int)) := hide (by rw [hKV]; rfl)
                have hKVs : Hid (KV.size = 2) := hide (by rw [hKV]; rfl)
                clear hWB hKV hDX
                go_wp2_with (simp only [HWB.out])
                refine NK.out.mono ?_
                rintro x w20 ⟨rfl, hb20⟩
                have O20 := hide (OBB.out.below hb20)
                have BW20 : Hid (Below B W2 w20) := hide (BWB.out.trans (hb20.mono (Nat.le_trans hBwr.out BB.out.size)))
                have D20 := hide (DB.out.below hb20 DB.out.lt)
                have QT20 := hide (QTB.out.below hb20 QTB.out.lt)
                have hb21 : Hid (B ≤ w20.heap.size) := hide (by rw [HBB.out]; have := BW20.out.size; omega)
                have DF20 : Hid (∀ X v, w20.grownBy X (Value.ownBlock v) → ∀ ys, Ob B w20 v ys → ∀ cs, Blk w20 wr.heap.size cs 39 → Blk X wr.heap.size cs 39) := hide (fun X v hg ys ho cs q => by
                  have hap := ob_apart q ho (by decide)
                  have hlt := q.lt
                  unfold Blk at *
                  rw [hg.block _ hlt hap]
                  exact q)
                have DT20 : Hid (∀ X v, w20.grownBy X (Value.ownBlock v) → ∀ ys, Ob B w20 v ys → ∀ cs, Blk w20 DT cs 37 → Blk X DT cs 37) := hide (fun X v hg ys ho cs q => by
                  have hap := ob_apart q ho (by decide)
                  have hlt := q.lt
                  unfold Blk at *
                  rw [hg.block _ hlt hap]
                  exact q)
                have e1 : en % 256 = en := by omega
                have en0 : ((en.toNat : Nat) : Int) = en := Int.toNat_of_nonneg KD1.1
                have EN0 := hide en0
                clear en0 hb20 NK d0 x0 x1 x2 x3
                by_cases hen : en = 1
                · subst hen
                  go_wp2_with (first
                    | (at_builtin; refine appendS_ob _ rfl _ _ 52 9 rfl i0 Tryz.underlying52 Tryz.underlying9 hi hz0 hz1 hz2 _ _ rfl O20.out KV rfl (by rw [List.length_map]; have := hlE.out; have := hKVs.out; omega) hb21.out ?_; intro v21 w21 hob21 hgr21; have BW21 : Hid (Below B W2 w21) := hide (BW20.out.grown hgr21 hb21.out (fun j hj => (Ob.lt O20.out j hj).1)); have OB21 : Hid (Ob B w21 v21 (((AE ++ (es.take j).flatMap (entB ps)) ++ bys KV).map UInt8.toNat)) := hide (by rw [List.map_append]; exact hob21); have D21 := hide (DF20.out _ _ hgr21 _ O20.out _ D20.out); have QT21 := hide (DT20.out _ _ hgr21 _ O20.out _ QT20.out); have d1 := D21.out.cell 1; have AL22 : Hid (Below w21.heap.size w21 (w21.alloc (.cells #[.int .u8 (1 : Int)] 5))) := hide ((Below.refl _ _).alloc (Nat.le_refl _) _); have OA22 := hide (OB21.out.below AL22.out); have BA22 : Hid (Below B W2 (w21.alloc (.cells #[.int .u8 (1 : Int)] 5))) := hide (BW21.out.trans (AL22.out.mono (by rw [HBB.out]; have := BW21.out.size; omega))); have NC22 : Hid ((w21.alloc (.cells #[.int .u8 (1 : Int)] 5)).cell? ⟨w21.heap.size, 0, none⟩ = some (.int .u8 ((1 : Nat) : Int))) := hide (by rw [show (((1 : Nat) : Int)) = (1 : Int) from rfl]; exact (Blk.newAt w21 w21.heap.size rfl #[.int .u8 (1 : Int)] 5).cell 0); have D22 := hide (D21.out.below AL22.out D21.out.lt); have QT22 := hide (QT21.out.below AL22.out QT21.out.lt))
                    | (at_builtin; refine append_ob _ rfl _ _ 52 rfl i0 Tryz.underlying52 hi hz0 hz1 hz2 _ _ rfl OA22.out ⟨w21.heap.size, 0, none⟩ 1 1 rfl NC22.out (by rw [List.length_map, List.length_append, bys_len]; have := hlE.out; have := hKVs.out; omega) ?_; intro v22 w22 hob22 hgr22 hown22; have BW22 : Hid (Below B W2 w22) := hide (BA22.out.grown hgr22 (by rw [HBB.out]; have := BA22.out.size; omega) (fun j hj => (Ob.lt OA22.out j hj).1)); have OB22 : Hid (Ob B w22 v22 ((((AE ++ (es.take j).flatMap (entB ps)) ++ bys KV) ++ p1 1).map UInt8.toNat)) := hide (by rw [List.map_append, byte_of 1 (by decide) (by decide)]; exact hob22); have D23 := hide (ob_stay D22.out OA22.out hgr22 (by decide)); have QT23 := hide (ob_stay QT22.out OA22.out hgr22 (by decide)); have f1 := D23.out.cell 1; have f3 := D23.out.cell 3))
                  have PN := hide (rPut4 em w22)
                  go_wp2_with fail
                  refine PN.out.mono ?_
                  rintro x wz ⟨rfl, hbz0⟩
                  obtain ⟨TV, hTV⟩ : ∃ TV, TV = (⟨#[bN em 3, bN em 2, bN em 1, bN em 0]⟩ : ByteArray) := ⟨_, rfl⟩
                  have HTV : Hid (bys TV = p4 em) := hide (by rw [hTV]; rfl)
                  have hTVs : Hid (TV.size = 4) := hide (by rw [hTV]; rfl)
                  rw [← hTV]
                  have Oz := hide (OB22.out.below hbz0)
                  have BWz : Hid (Below B W2 wz) := hide (BW22.out.trans (hbz0.mono (by rw [HBB.out]; exact BW22.out.size)))
                  have QTz := hide (QT23.out.below hbz0 QT23.out.lt)
                  have hlZ0 : ((((AE ++ (es.take j).flatMap (entB ps)) ++ bys KV) ++ p1 1).map UInt8.toNat).length ≤ 7000000 := by rw [List.length_map, List.length_append, List.length_append, bys_len]; have := hlE.out; have := hKVs.out; have h3 : (p1 1).length = 1 := rfl; omega
                  obtain ⟨LZ, hLZ⟩ : ∃ LZ, LZ = ((AE ++ (es.take j).flatMap (entB ps)) ++ bys KV) ++ p1 1 := ⟨_, rfl⟩
                  rw [← hLZ] at Oz hlZ0
                  have HLZ := hide hLZ
                  have hlZ := hide hlZ0
                  clear hbz0 PN hTV f1 f3 hLZ hlZ0 d1 e1
                  have hbz : Hid (B ≤ wz.heap.size) := hide (by rw [HBB.out]; have := BWz.out.size; omega)
                  have DFz : Hid (∀ X v, wz.grownBy X (Value.ownBlock v) → ∀ ys, Ob B wz v ys → Blk X DT #[.string nm, .int .i64 pr, .slice (some ⟨b2, o2, none⟩) M ce] 37) := hide (fun X v hg ys ho => by
                    have hap := ob_apart QTz.out ho (by decide)
                    have q := QTz.out
                    have hlt := q.lt
                    unfold Blk at *
                    rw [hg.block _ hlt hap]
                    exact q)
                  go_wp2_with (at_builtin; refine appendS_ob _ rfl _ _ 52 9 rfl i0 Tryz.underlying52 Tryz.underlying9 hi hz0 hz1 hz2 _ _ rfl Oz.out TV rfl (by have := hlZ.out; have := hTVs.out; omega) hbz.out ?_; intro v25 w25 hob25 hgr25; have BW25 : Hid (Below B W2 w25) := hide (BWz.out.grown hgr25 hbz.out (fun j hj => (Ob.lt Oz.out j hj).1)); have OB25 : Hid (Ob B w25 v25 ((LZ ++ bys TV).map UInt8.toNat)) := hide (by rw [List.map_append]; exact hob25))
                  have QT25 := hide (DFz.out _ _ hgr25 _ Oz.out)
                  refine ⟨⟨j + 1, by omega, by go_num, hide ?_, BW25, QT25⟩, by simp [intOf]; omega⟩
                  have hE := OB25.out
                  rw [HLZ.out] at hE
                  rw [EX.out, show entB ps ⟨ek, 1, et, em⟩ = p2 (placeS ps (bys ek)) ++ p1 1 ++ (if 1 = 1 then p4 em else p4 (placeS ps (bys et))) from rfl]
                  rw [if_pos rfl, ← HKV.out, ← HTV.out]
                  simpa using hE
                · have hen' : (en == 1) = false := beq_eq_false_iff_ne.2 hen
                  go_wp2_with (first
                    | (at_builtin; refine appendS_ob _ rfl _ _ 52 9 rfl i0 Tryz.underlying52 Tryz.underlying9 hi hz0 hz1 hz2 _ _ rfl O20.out KV rfl (by rw [List.length_map]; have := hlE.out; have := hKVs.out; omega) hb21.out ?_; intro v21 w21 hob21 hgr21; have BW21 : Hid (Below B W2 w21) := hide (BW20.out.grown hgr21 hb21.out (fun j hj => (Ob.lt O20.out j hj).1)); have OB21 : Hid (Ob B w21 v21 (((AE ++ (es.take j).flatMap (entB ps)) ++ bys KV).map UInt8.toNat)) := hide (by rw [List.map_append]; exact hob21); have D21 := hide (DF20.out _ _ hgr21 _ O20.out _ D20.out); have QT21 := hide (DT20.out _ _ hgr21 _ O20.out _ QT20.out); have d1 := D21.out.cell 1; have AL22 : Hid (Below w21.heap.size w21 (w21.alloc (.cells #[.int .u8 (en : Int)] 5))) := hide ((Below.refl _ _).alloc (Nat.le_refl _) _); have OA22 := hide (OB21.out.below AL22.out); have BA22 : Hid (Below B W2 (w21.alloc (.cells #[.int .u8 (en : Int)] 5))) := hide (BW21.out.trans (AL22.out.mono (by rw [HBB.out]; have := BW21.out.size; omega))); have NC22 : Hid ((w21.alloc (.cells #[.int .u8 (en : Int)] 5)).cell? ⟨w21.heap.size, 0, none⟩ = some (.int .u8 ((en.toNat : Nat) : Int))) := hide (by rw [show (((en.toNat : Nat) : Int)) = (en : Int) from EN0.out]; exact (Blk.newAt w21 w21.heap.size rfl #[.int .u8 (en : Int)] 5).cell 0); have D22 := hide (D21.out.below AL22.out D21.out.lt); have QT22 := hide (QT21.out.below AL22.out QT21.out.lt))
                    | (at_builtin; refine append_ob _ rfl _ _ 52 rfl i0 Tryz.underlying52 hi hz0 hz1 hz2 _ _ rfl OA22.out ⟨w21.heap.size, 0, none⟩ 1 en.toNat rfl NC22.out (by rw [List.length_map, List.length_append, bys_len]; have := hlE.out; have := hKVs.out; omega) ?_; intro v22 w22 hob22 hgr22 hown22; have BW22 : Hid (Below B W2 w22) := hide (BA22.out.grown hgr22 (by rw [HBB.out]; have := BA22.out.size; omega) (fun j hj => (Ob.lt OA22.out j hj).1)); have OB22 : Hid (Ob B w22 v22 ((((AE ++ (es.take j).flatMap (entB ps)) ++ bys KV) ++ p1 en).map UInt8.toNat)) := hide (by rw [List.map_append, byte_of en KD1.1 (by omega)]; exact hob22); have D23 := hide (ob_stay D22.out OA22.out hgr22 (by decide)); have QT23 := hide (ob_stay QT22.out OA22.out hgr22 (by decide)); have f1 := D23.out.cell 1; have f2 := D23.out.cell 2))
                  have PN := hide (rnumber4 et (TXF.out w22 BW22.out) HRI.out (by have := HPL.out; omega) (EK.out et (by unfold entL; rw [if_neg hen]; simp)))
                  obtain ⟨TV, hTV⟩ : ∃ TV, TV = put4 (placeS ps (bys et) : Int) := ⟨_, rfl⟩
                  rw [← hTV] at PN
                  have HTV : Hid (bys TV = p4 (placeS ps (bys et) : Int)) := hide (by rw [hTV]; rfl)
                  have hTVs : Hid (TV.size = 4) := hide (by rw [hTV]; rfl)
                  go_wp2_with fail
                  refine PN.out.mono ?_
                  rintro x wz ⟨rfl, hbz0⟩
                  have Oz := hide (OB22.out.below hbz0)
                  have BWz : Hid (Below B W2 wz) := hide (BW22.out.trans (hbz0.mono (by rw [HBB.out]; exact BW22.out.size)))
                  have QTz := hide (QT23.out.below hbz0 QT23.out.lt)
                  have hlZ0 : ((((AE ++ (es.take j).flatMap (entB ps)) ++ bys KV) ++ p1 en).map UInt8.toNat).length ≤ 7000000 := by rw [List.length_map, List.length_append, List.length_append, bys_len]; have := hlE.out; have := hKVs.out; have h3 : (p1 en).length = 1 := rfl; omega
                  obtain ⟨LZ, hLZ⟩ : ∃ LZ, LZ = ((AE ++ (es.take j).flatMap (entB ps)) ++ bys KV) ++ p1 en := ⟨_, rfl⟩
                  rw [← hLZ] at Oz hlZ0
                  have HLZ := hide hLZ
                  have hlZ := hide hlZ0
                  have HEN := hide hen
                  clear hbz0 PN hTV f1 f2 hLZ hlZ0 d1 e1 hen hen'
                  have hbz : Hid (B ≤ wz.heap.size) := hide (by rw [HBB.out]; have := BWz.out.size; omega)
                  have DFz : Hid (∀ X v, wz.grownBy X (Value.ownBlock v) → ∀ ys, Ob B wz v ys → Blk X DT #[.string nm, .int .i64 pr, .slice (some ⟨b2, o2, none⟩) M ce] 37) := hide (fun X v hg ys ho => by
                    have hap := ob_apart QTz.out ho (by decide)
                    have q := QTz.out
                    have hlt := q.lt
                    unfold Blk at *
                    rw [hg.block _ hlt hap]
                    exact q)
                  go_wp2_with (at_builtin; refine appendS_ob _ rfl _ _ 52 9 rfl i0 Tryz.underlying52 Tryz.underlying9 hi hz0 hz1 hz2 _ _ rfl Oz.out TV rfl (by have := hlZ.out; have := hTVs.out; omega) hbz.out ?_; intro v25 w25 hob25 hgr25; have BW25 : Hid (Below B W2 w25) := hide (BWz.out.grown hgr25 hbz.out (fun j hj => (Ob.lt Oz.out j hj).1)); have OB25 : Hid (Ob B w25 v25 ((LZ ++ bys TV).map UInt8.toNat)) := hide (by rw [List.map_append]; exact hob25))
                  have QT25 := hide (DFz.out _ _ hgr25 _ Oz.out)
                  refine ⟨⟨j + 1, by omega, by go_num, hide ?_, BW25, QT25⟩, by simp [intOf]; omega⟩
                  have hE := OB25.out
                  rw [HLZ.out] at hE
                  rw [EX.out, show entB ps ⟨ek, en, et, em⟩ = p2 (placeS ps (bys ek)) ++ p1 en ++ (if en = 1 then p4 em else p4 (placeS ps (bys et))) from rfl]
                  rw [if_neg HEN.out, ← HKV.out, ← HTV.out]
                  simpa using hE
              · obtain rfl : j = M := by omega
                have hjl' : ¬ (j : Int) < (j : Int) := by omega
                have r2 := (PW.out wr HW3.out).cell 0
                clear hjl
                go_wp2
                refine ⟨⟨i + 1, by omega, by go_num, hide ?_, HW3⟩, by simp [intOf]; omega⟩
                have hE := HO3.out
                rw [HM.out, List.take_length, HAE.out] at hE
                have TE : tabB ps ⟨nm, pr, es⟩ = p2 (placeS ps (bys nm)) ++ p1 (parB pr) ++ p2 (es.length : Int) ++ es.flatMap (entB ps) := rfl
                rw [NX.out, TE, ← HNV.out, ← HM.out, ← HMV.out]
                simpa using hE
          · obtain rfl : i = L := by omega
            have hil' : ¬ (i : Int) < (i : Int) := by omega
            have HF : Hid ((A1 ++ (ts.take i).flatMap (tabB ps)) = encT ts) := hide (by
              rw [HL.out, List.take_length, HA1.out, HN.out, HL.out]
              unfold encT
              rw [← HPS.out])
            have OF := HO2.out
            rw [HF.out] at OF
            obtain ⟨gf, cf, hv6⟩ : ∃ gf cf, u6 = .slice (some ⟨gf, 0, none⟩) ((encT ts).map UInt8.toNat).length cf := by
              obtain ⟨g, cap, cur, fz, h1, _⟩ := OF
              exact ⟨g, cap, h1⟩
            subst hv6
            have CV := convB_ob OF
            generalize ((encT ts).map UInt8.toNat).length = lf at *
            have BE := hide (WW.out wr HW.out)
            clear hil HF OF HO2
            go_wp2
            go_ret2
            exact ⟨by rw [EA.out]; rfl, BE.out⟩
  · have hC' : ((checkT ts : Int) == 0) = false := beq_eq_false_iff_ne.2 (by omega)
    have hC2 : ((checkT ts : Int) != 0) = true := by rw [bne, hC']; rfl
    have EA : Hid (encA ts = .tuple #[.string ⟨#[]⟩, .int .i64 (checkT ts : Int)]) := hide (by unfold encA; rw [if_neg hC])
    rw [EA.out]
    generalize checkT ts = C at *
    go_enter Tryz.func9, Tryz.ntmps9
    go_wp2_with (simp only [HWA.out])
    refine CK.out.mono ?_
    rintro x w1 ⟨rfl, hb1⟩
    have B1 := hide (BA.out.trans (hb1.mono BA.out.size))
    clear hb1 CK q0
    go_wp2
    go_ret2
    exact ⟨rfl, B1.out⟩

end Go.Proofs.YtobmdifledegbaaGreatDoor

namespace Go.Proofs.YtobmdifledegbaaGreatDoor
open Go.RowKit

set_option maxRecDepth 100000 in
set_option maxHeartbeats 4000000 in
theorem copy_any {w : World} {v : Value} {ts : List Tab} (h : TSl w v ts) (hl : (ts.length + 1) * 48 ≤ 281474976710656) (he : ∀ k, k < ts.length → ((tabN ts k).ents.length + 1) * 48 ≤ 281474976710656) :
    Calls Tryz.prog 6 #[.agg #[v]] w fun x w' => ∃ v' cs, x = .returned (.agg #[v']) ∧ cs.map Prod.fst = ts ∧ MkdT w.heap.size w' v' cs ∧ Below w.heap.size w w' := by
  obtain ⟨i0, hi, hz0, hz1, hz2⟩ := info_parts infoT
  obtain ⟨i1, hi1, hy0, hy1, hy2⟩ := info_parts infoE
  obtain ⟨ao, cap, rfl, hcap, hat⟩ := h
  obtain ⟨L, hL⟩ : ∃ L, L = ts.length := ⟨_, rfl⟩
  have HL := hide hL
  have HE := hide he
  have HAT := hide hat
  rw [← hL] at hcap hl ⊢
  clear hat he hL
  obtain ⟨WA, hWA⟩ : ∃ WA, WA = (w.alloc (.cells #[.slice ao L cap] 24)).alloc (.cells #[.slice none 0 0] 24) := ⟨_, rfl⟩
  have BA : Hid (Below w.heap.size w WA) := hide (by rw [hWA]; exact ((Below.refl _ _).alloc (Nat.le_refl _) _).alloc ((Below.refl _ _).alloc (Nat.le_refl _) _).size _)
  have Q1 : Hid (Blk WA w.heap.size #[.slice ao L cap] 24) := hide (by rw [hWA]; exact (Blk.new _ _ _).alloc _)
  have Q2 : Hid (Blk WA (w.heap.size + 1) #[.slice none 0 0] 24) := hide (by rw [hWA]; exact Blk.newAt _ _ (by simp) _ _)
  have hWAs : Hid (WA.heap.size = w.heap.size + 2) := hide (by rw [hWA]; simp)
  have HWA := hide hWA.symm
  have q0 := Q1.out.cell 0
  clear hWA
  go_enter Tryz.func6, Tryz.ntmps6
  go_wp2_with (first
    | simp only [HWA.out]
    | (at_make; refine wpList_make_own _ rfl _ _ 22 rfl w.heap.size 37 i0 (.agg #[.string ⟨#[]⟩, .int .i64 0, .slice none 0 0]) 3 Tryz.underlying22 hi hz0 hz1 _ _ _ (L + 1) rfl rfl (by first | rfl | omega) (by rw [hz2]; omega) (by unfold maxLen; omega) (by have := hWAs.out; omega) ?_; intro w1 hrow hgr))
  have hWAs := hWAs.out
  have BA1 := hide (BA.out.grown hgr (by omega) (fun j hj => by cases hj))
  have hG1 : WA.heap.size < w1.heap.size := (World.ownsRow.lt hrow _ rfl).2
  obtain ⟨G, hG⟩ : ∃ G, G = WA.heap.size := ⟨_, rfl⟩
  obtain ⟨O, hO⟩ : ∃ O, O = w1.heap.size := ⟨_, rfl⟩
  obtain ⟨WC, hWC⟩ : ∃ WC, WC = w1.alloc (.cells #[.slice (some ⟨G, 0, none⟩) 0 (L + 1)] 24) := ⟨_, rfl⟩
  have P1 : Hid (Blk WC w.heap.size #[.slice ao L cap] 24) := hide (by
    rw [hWC]
    have q := Q1.out
    unfold Blk at *
    rw [Below.heap_alloc _ _ _ (by omega), hgr.block _ (by omega) (by simp)]
    exact q)
  have P2 : Hid (Blk WC (w.heap.size + 1) #[.slice none 0 0] 24) := hide (by
    rw [hWC]
    have q := Q2.out
    unfold Blk at *
    rw [Below.heap_alloc _ _ _ (by omega), hgr.block _ (by omega) (by simp)]
    exact q)
  have BO : Hid (Blk WC O #[.slice (some ⟨G, 0, none⟩) 0 (L + 1)] 24) := hide (by rw [hWC]; exact Blk.newAt _ _ hO.symm _ _)
  have OG : Hid (WC.ownsRow G 37 3 (.slice (some ⟨G, 0, none⟩) 0 (L + 1)) 0 []) := hide (by
    rw [hWC, hG]
    rcases hrow with ⟨r1, ⟨q, _⟩ | ⟨g', cap', cur, q, _, hh, r⟩⟩
    · cases q
    · simp only [Value.slice.injEq, Option.some.injEq, Addr.mk.injEq] at q
      obtain ⟨⟨rfl, _, _⟩, _, rfl⟩ := q
      exact ⟨r1, .inr ⟨WA.heap.size, L + 1, cur, rfl, Nat.le_refl _, by rw [Below.heap_alloc _ _ _ hG1]; exact hh, r⟩⟩)
  have BC : Hid (Below w.heap.size w WC) := hide (by rw [hWC]; exact BA1.out.alloc BA1.out.size _)
  have hWCs : Hid (WC.heap.size = O + 1) := hide (by rw [hWC, hO]; simp)
  have HWC := hide hWC.symm
  have hNG : Hid (w.heap.size + 2 = G) := hide (by omega)
  have hGO : Hid (G < O) := hide (by omega)
  rw [← hG] at *
  clear hWC hrow hgr Q1 Q2 q0 BA BA1 HWA hG1 hWAs hG
  go_wp2_with (simp only [HWC.out])
  simp only [← hO]
  clear hO HWC
  go_loopw [4] (fun y wr => ∃ (k : Nat) (cs : List (Tab × Value)), k ≤ L ∧ y = .int .i64 (k : Int) ∧ Hid (cs.map Prod.fst = ts.take k) ∧ Hid (Below w.heap.size w wr) ∧ Hid (O < wr.heap.size) ∧ Hid (Blk wr w.heap.size #[.slice ao L cap] 24) ∧ Hid (Blk wr (w.heap.size + 1) #[.slice none 0 0] 24) ∧ Hid (Blk wr O #[.slice (some ⟨G, 0, none⟩) k (L + 1)] 24) ∧ Hid (wr.ownsRow G 37 3 (.slice (some ⟨G, 0, none⟩) k (L + 1)) k (cellsTb cs)) ∧ Hid (∀ c ∈ cs, MkdE (O + 1) wr c)) (fun y _ => L - (intOf y).toNat)
  case atStart => exact ⟨0, [], Nat.zero_le _, rfl, hide rfl, BC, hide (by have := hWCs.out; omega), P1, P2, BO, OG, hide (fun c hc => by simp at hc)⟩
  case round =>
    obtain ⟨k, cs, hk, rfl, HC, HB, HO, R1, R2, RO, RG, RM⟩ := hrel
    clear P1 P2 BO OG BC hWCs
    have q0 := R1.out.cell 0
    by_cases hkl : k < L
    · have hkl' : (k : Int) < (L : Int) := by omega
      have hkt : k < ts.length := by rw [← HL.out]; exact hkl
      obtain ⟨b, o, rfl, hbw, HCL⟩ : ∃ b o, ao = some ⟨b, o, none⟩ ∧ Hid (b < w.heap.size) ∧ Hid (∀ i, i < ts.length → TabAt w b o i (tabN ts i)) := by
        rcases HAT.out with q | ⟨b, o, rfl, q, hcl⟩
        · rw [q] at hkt; simp at hkt
        · exact ⟨b, o, rfl, hide q, hide hcl⟩
      obtain ⟨c0, c1, ve, c2, hes⟩ := (HCL.out k hkt).below hbw.out HB.out
      have heb := HE.out k hkt
      have TK : Hid (ts.take (k + 1) = ts.take k ++ [tabN ts k]) := hide (by rw [List.take_add_one, tabN_some hkt]; rfl)
      obtain ⟨g, hg⟩ : ∃ g, g = tabN ts k := ⟨_, rfl⟩
      rw [← hg] at c0 c1 hes heb TK
      clear hg hkt HCL
      obtain ⟨nm, pr, es⟩ := g
      obtain ⟨a2, cap2, rfl, hc2, hE2⟩ := hes
      simp only [] at c0 c1 c2 heb hc2 hE2
      obtain ⟨M, hM⟩ : ∃ M, M = es.length := ⟨_, rfl⟩
      rw [← hM] at c2 heb hc2
      have HM := hide hM
      obtain ⟨WB, hWB⟩ : ∃ WB, WB = wr.alloc (.cells #[.string nm, .int .i64 pr, .slice a2 M cap2] 37) := ⟨_, rfl⟩
      have BB : Hid (Below wr.heap.size wr WB) := hide (by rw [hWB]; exact (Below.refl _ _).alloc (Nat.le_refl _) _)
      have T1 : Hid (Blk WB wr.heap.size #[.string nm, .int .i64 pr, .slice a2 M cap2] 37) := hide (by rw [hWB]; exact Blk.newAt _ _ rfl _ _)
      have hBs : Hid (WB.heap.size = wr.heap.size + 1) := hide (by rw [hWB]; simp)
      have HE2 := hide hE2
      have HWB := hide hWB.symm
      have T2F : Hid (∀ w2, WB.grownBy w2 none → Blk w2 wr.heap.size #[.string nm, .int .i64 pr, .slice a2 M cap2] 37) := hide (fun w2 hg => by
        have q := T1.out
        have hlt := T1.out.lt
        unfold Blk at *
        rw [hg.block _ hlt (by simp)]
        exact q)
      have hOB : O + 1 ≤ WB.heap.size := by have := HO.out; have := hBs.out; omega
      have HOB := hide hOB
      clear hWB hM hE2 hOB
      have SRCF : Hid (∀ w2, WB.grownBy w2 none → ∀ ad, a2 = some ad → ∀ j u, (cellsEn es)[j]? = some u → w2.cell? (ad.add j) = some u) := hide (by
        rintro w2 hg ad rfl j u hu
        rcases HE2.out with q | ⟨b2, o2, q, q2, hcl⟩
        · rw [q] at hu; simp [cellsEn] at hu
        · obtain rfl := Option.some.inj q
          have h5 := EAt.cells hcl j u hu
          rw [← h5]
          exact (BB.out.grown hg BB.out.size (fun j hj => by cases hj)).cell (p := (⟨b2, o2, none⟩ : Addr).add j) (by rw [Addr.add_lit]; exact q2))
      have NON : Hid (a2 = none → M = 0) := hide (by
        rintro rfl
        rcases HE2.out with q | ⟨b2, o2, q, _⟩
        · rw [HM.out, q]; rfl
        · cases q)
      have HEL : Hid ((cellsEn es).length = M * 4) := hide (by rw [cellsEn_len, HM.out])
      have t2 := T1.out.cell 2
      go_wp2_with (first
        | simp only [HWB.out]
        | (at_make; refine wpList_make_own _ rfl _ _ 35 rfl (O + 1) 39 i1 (.agg #[.string ⟨#[]⟩, .int .i64 0, .string ⟨#[]⟩, .int .i64 0]) 4 Tryz.underlying35 hi1 hy0 hy1 _ _ _ (M + 1) rfl rfl (by first | rfl | omega) (by rw [hy2]; omega) (by unfold maxLen; omega) HOB.out ?_; intro w2 hrow2 hgr2; have t2b := (T2F.out w2 hgr2).cell 2)
        | (at_builtin; refine wpB_append _ rfl _ _ 35 rfl (O + 1) 39 i1 4 Tryz.underlying35 hi1 hy1 WB.heap.size 0 (M + 1) [] rfl hrow2 a2 M cap2 (cellsEn es) rfl HEL.out NON.out (SRCF.out w2 hgr2) (cellsEn_one es) (by omega) ?_; intro w3 hrow3 hgr3))
      have B2 : Hid (Below wr.heap.size wr w2) := hide (BB.out.grown hgr2 BB.out.size (fun j hj => by cases hj))
      have T2 := hide (T2F.out w2 hgr2)
      rw [Nat.zero_add, List.nil_append] at hrow3
      obtain ⟨gE, hgE⟩ : ∃ gE, gE = WB.heap.size := ⟨_, rfl⟩
      have HgE : Hid (gE = wr.heap.size + 1) := hide (by rw [hgE]; exact hBs.out)
      have HgO : Hid (O + 1 ≤ gE) := hide (by rw [hgE]; exact HOB.out)
      rw [← hgE] at hrow3 hgr3
      simp only [← hgE]
      have E3 := hide hrow3
      have B3 : Hid (Below wr.heap.size wr w3) := hide (B2.out.grown hgr3 B2.out.size (fun j hj => by cases hj; have := HgE.out; omega))
      have T3 : Hid (Blk w3 wr.heap.size #[.string nm, .int .i64 pr, .slice a2 M cap2] 37) := hide (by
        have q := T2.out
        have hlt := T2.out.lt
        unfold Blk at *
        rw [hgr3.block _ hlt (by have := HgE.out; simp; omega)]
        exact q)
      clear hrow3 hgr3 t2b hrow2 hgr2 t2 hgE HOB T1 T2F B2 T2 SRCF NON
      have t2 := T3.out.cell 2
      have t3 := T3.out.free 2
      have t2a := (T3.out.alloc (.cells #[.string ⟨#[98, 101, 104, 105, 110, 100]⟩, .int .i64 0, .string ⟨#[]⟩, .int .i64 0] 39)).cell 2
      have n1 : ¬ w3.heap.size = wr.heap.size := (by have := T3.out.lt; omega)
      have n2 : ¬ wr.heap.size = w3.heap.size := (by have := T3.out.lt; omega)
      have n5 : ¬ gE = wr.heap.size := (by have := HgE.out; omega)
      have n6 : (M : Int) ≤ (M : Int) + 1 := by omega
      have OW : Hid ((w3.alloc (.cells #[.string ⟨#[98, 101, 104, 105, 110, 100]⟩, .int .i64 0, .string ⟨#[]⟩, .int .i64 0] 39)).drew.ownsRow (O + 1) 39 4 (.slice (some ⟨gE, 0, none⟩) M (M + 1)) M (cellsEn es)) := hide (own_belowB E3.out ((Below.refl _ _).alloc (Nat.le_refl _) _).drew)
      have NEWS : Hid (∀ j u, [Value.string ⟨#[98, 101, 104, 105, 110, 100]⟩, .int .i64 0, .string ⟨#[]⟩, .int .i64 0][j]? = some u → (w3.alloc (.cells #[.string ⟨#[98, 101, 104, 105, 110, 100]⟩, .int .i64 0, .string ⟨#[]⟩, .int .i64 0] 39)).drew.cell? ((⟨w3.heap.size, 0, none⟩ : Addr).add j) = some u) := hide (cell_four_new _ _ _ _ _ _)
      have ONE : Hid (∀ u ∈ [Value.string ⟨#[98, 101, 104, 105, 110, 100]⟩, .int .i64 0, .string ⟨#[]⟩, .int .i64 0], u.oneCell' = true) := hide (by
        intro u hu
        simp only [List.mem_cons, List.not_mem_nil, or_false] at hu
        rcases hu with rfl | rfl | rfl | rfl <;> rfl)
      have KX : Hid (∀ w4, (w3.alloc (.cells #[.string ⟨#[98, 101, 104, 105, 110, 100]⟩, .int .i64 0, .string ⟨#[]⟩, .int .i64 0] 39)).drew.grownBy w4 (some gE) → Blk w4 wr.heap.size #[.string nm, .int .i64 pr, .slice a2 M cap2] 37) := hide (fun w4 hg => by
        have q := T3.out.alloc (.cells #[.string ⟨#[98, 101, 104, 105, 110, 100]⟩, .int .i64 0, .string ⟨#[]⟩, .int .i64 0] 39)
        have := T3.out.lt
        unfold Blk at *
        rw [hg.block wr.heap.size (by show wr.heap.size < (w3.heap.push _).size; rw [Array.size_push]; omega) (by have := HgE.out; simp; omega)]
        exact q)
      have KB : Hid (∀ w4, (w3.alloc (.cells #[.string ⟨#[98, 101, 104, 105, 110, 100]⟩, .int .i64 0, .string ⟨#[]⟩, .int .i64 0] 39)).drew.grownBy w4 (some gE) → Below wr.heap.size wr w4) := hide (fun w4 hg => (B3.out.alloc B3.out.size _).drew.grown hg (by show _ ≤ (w3.heap.push _).size; rw [Array.size_push]; have := B3.out.size; omega) (fun j hj => by cases hj; have := HgE.out; omega))
      go_wp2_with fail
      go_region_law ((refine step_append_fits (by rfl) _ _ _ (by rfl) (O + 1) 39 i1 4 Tryz.underlying35 hi1 hy1 gE M (M + 1) (cellsEn es) rfl OW.out ⟨w3.heap.size, 0, none⟩ 1 1 [.string ⟨#[98, 101, 104, 105, 110, 100]⟩, .int .i64 0, .string ⟨#[]⟩, .int .i64 0] rfl rfl NEWS.out ONE.out (Nat.le_refl _) ?_; intro w4 hown hgr; have z0 := (KX.out w4 hgr).cell 2; have z1 := (KX.out w4 hgr).free 2))
      all_goals
        have KX4 := hide (KX.out w4 hgr)
        have KB4 := hide (KB.out w4 hgr)
        obtain ⟨W5, hW5⟩ : ∃ W5, W5 = w4.setCell ⟨wr.heap.size, 2, none⟩ (.slice (some ⟨gE, 0, none⟩) M (M + 1)) := ⟨_, rfl⟩
        have B5 : Hid (Below wr.heap.size wr W5) := hide (by rw [hW5]; exact KB4.out.setCell (p := ⟨wr.heap.size, 2, none⟩) (Nat.le_refl _) _)
        have T5 : Hid (Blk W5 wr.heap.size #[.string nm, .int .i64 pr, .slice (some ⟨gE, 0, none⟩) M (M + 1)] 37) := hide (by rw [hW5]; exact KX4.out.set2of3b _)
        have E5 := hide (((Kept.refl wr.heap.size wr.heap.size w4).set wr.heap.size 2 (.slice (some ⟨gE, 0, none⟩) M (M + 1)) (.inl rfl)).own hown (by have := HgE.out; simp [Value.ownBlock]; omega) (by have := HgE.out; simp [Value.ownBlock]; omega))
        rw [← hW5] at E5
        have HW5 := hide hW5.symm
        have RO5 := hide (RO.out.below B5.out RO.out.lt)
        have OG5 := hide (own_belowB RG.out B5.out)
        have OG6 := hide (own_belowB OG5.out ((Below.refl W5.heap.size W5).alloc (Nat.le_refl _) (.cells #[Value.string nm, .int .i64 pr, .slice (some ⟨gE, 0, none⟩) M (M + 1)] 37)))
        have NEW6 : Hid (∀ ad, some (⟨W5.heap.size, 0, none⟩ : Addr) = some ad → ∀ j u, [Value.string nm, .int .i64 pr, .slice (some ⟨gE, 0, none⟩) M (M + 1)][j]? = some u → (W5.alloc (.cells #[Value.string nm, .int .i64 pr, .slice (some ⟨gE, 0, none⟩) M (M + 1)] 37)).cell? (ad.add j) = some u) := hide (fun ad h => by cases h; exact cell_three_new _ _ _ _ _)
        have ONE6 : Hid (∀ u ∈ [Value.string nm, .int .i64 pr, .slice (some ⟨gE, 0, none⟩) M (M + 1)], u.oneCell' = true) := hide (by
          intro u hu
          simp only [List.mem_cons, List.not_mem_nil, or_false] at hu
          rcases hu with rfl | rfl | rfl <;> rfl)
        have RO7F : Hid (∀ w7, (W5.alloc (.cells #[Value.string nm, .int .i64 pr, .slice (some ⟨gE, 0, none⟩) M (M + 1)] 37)).grownBy w7 (some G) → Blk w7 O #[.slice (some ⟨G, 0, none⟩) k (L + 1)] 24) := hide (fun w7 hg => by
          have q := RO5.out.alloc (.cells #[Value.string nm, .int .i64 pr, .slice (some ⟨gE, 0, none⟩) M (M + 1)] 37)
          have hlt := q.lt
          unfold Blk at *
          rw [hg.block O hlt (by have := hGO.out; simp; omega)]
          exact q)
        have K7F : Hid (∀ w7, (W5.alloc (.cells #[Value.string nm, .int .i64 pr, .slice (some ⟨gE, 0, none⟩) M (M + 1)] 37)).grownBy w7 (some G) → Kept O G W5 w7) := hide (fun w7 hg => ((Kept.refl O G W5).alloc _).grown hg (fun g hg => .inr (.inr (by cases hg; rfl))))
        have r0 := RO5.out.cell 0
        have d0 := T5.out.cell 0
        have d1 := T5.out.cell 1
        have d2 := T5.out.cell 2
        have hkL : k + 1 ≤ L + 1 := by omega
        clear hown hgr z0 z1 t2 t3 t2a n1 n2 n5 n6 OW NEWS ONE KX KB KX4 KB4 hW5 c0 c1 c2 E3 T3 B3
        go_wp2_with (first
          | simp only [HW5.out]
          | (at_builtin; refine wpB_append _ rfl _ _ 22 rfl G 37 i0 3 Tryz.underlying22 hi hz1 G k (L + 1) (cellsTb cs) rfl OG6.out (some ⟨W5.heap.size, 0, none⟩) 1 1 [Value.string nm, .int .i64 pr, .slice (some ⟨gE, 0, none⟩) M (M + 1)] rfl rfl (fun h => by cases h) NEW6.out ONE6.out hkL ?_; intro w7 hrow7 hgr7; have z0 := (RO7F.out w7 hgr7).cell 0; have z1 := (RO7F.out w7 hgr7).free 0))
        have K8 : Hid (Kept O G W5 (w7.setCell ⟨O, 0, none⟩ (.slice (some ⟨G, 0, none⟩) (k + 1) (L + 1)))) := hide ((K7F.out w7 hgr7).set O 0 _ (.inl rfl))
        have BW5 := hide (HB.out.trans (B5.out.mono HB.out.size))
        have lO := HO.out
        have lG := hGO.out
        have lN := hNG.out
        have lE := HgE.out
        have lB := B5.out.size
        refine ⟨⟨k + 1, cs ++ [(⟨nm, pr, es⟩, .slice (some ⟨gE, 0, none⟩) M (M + 1))], by omega, by go_num, ?_, ?_, ?_, ?_, ?_, ?_, ?_, ?_⟩, by simp [intOf]; omega⟩
        · exact hide (by rw [List.map_append, HC.out, TK.out]; rfl)
        · exact hide (K8.out.out BW5.out BW5.out.size (by omega) (by omega))
        · exact hide (by have := K8.out.size; omega)
        · exact hide (K8.out.blk (R1.out.below B5.out R1.out.lt) (by omega) (by omega))
        · exact hide (K8.out.blk (R2.out.below B5.out R2.out.lt) (by omega) (by omega))
        · exact hide ((RO7F.out w7 hgr7).set0of1 _)
        · exact hide (by
            have q := ((Kept.refl O O w7).set O 0 (.slice (some ⟨G, 0, none⟩) (k + 1) (L + 1)) (.inl rfl)).own hrow7 (by simp [Value.ownBlock]; omega) (by simp [Value.ownBlock]; omega)
            rw [cellsTb_app]
            exact q)
        · refine hide (fun c hc => ?_)
          rcases List.mem_append.1 hc with q | q
          · exact ((RM.out c q).below B5.out).kept K8.out (by omega) (by omega)
          · simp only [List.mem_cons, List.not_mem_nil, or_false] at q
            subst q
            refine ⟨gE, M + 1, by simp only [HM.out], ?_⟩
            simp only [← HM.out]
            exact K8.out.own E5.out (by simp [Value.ownBlock]; omega) (by simp [Value.ownBlock]; omega)
    · obtain rfl : k = L := by omega
      have hkl' : ¬ (k : Int) < (k : Int) := by omega
      have q1 := RO.out.cell 0
      have q2 := RO.out.free 0
      have OW : Hid ((wr.alloc (.cells #[.string ⟨#[98, 101, 104, 105, 110, 100]⟩, .int .i64 0, .slice none 0 0] 37)).drew.ownsRow G 37 3 (.slice (some ⟨G, 0, none⟩) k (k + 1)) k (cellsTb cs)) := hide (own_belowB RG.out ((Below.refl _ _).alloc (Nat.le_refl _) _).drew)
      have NEWS : Hid (∀ j u, [Value.string ⟨#[98, 101, 104, 105, 110, 100]⟩, .int .i64 0, .slice none 0 0][j]? = some u → (wr.alloc (.cells #[.string ⟨#[98, 101, 104, 105, 110, 100]⟩, .int .i64 0, .slice none 0 0] 37)).drew.cell? ((⟨wr.heap.size, 0, none⟩ : Addr).add j) = some u) := hide (cell_three_new _ _ _ _ _)
      have ONE : Hid (∀ u ∈ [Value.string ⟨#[98, 101, 104, 105, 110, 100]⟩, .int .i64 0, .slice none 0 0], u.oneCell' = true) := hide (by
        intro u hu
        simp only [List.mem_cons, List.not_mem_nil, or_false] at hu
        rcases hu with rfl | rfl | rfl <;> rfl)
      have GK : Hid (∀ w4, (wr.alloc (.cells #[.string ⟨#[98, 101, 104, 105, 110, 100]⟩, .int .i64 0, .slice none 0 0] 37)).drew.grownBy w4 (some G) → Kept O G wr w4) := hide (fun w4 hg => ((Kept.refl O G wr).alloc _).drew.grown hg (fun g hg => .inr (.inr (by cases hg; rfl))))
      have KO : Hid (∀ w4, (wr.alloc (.cells #[.string ⟨#[98, 101, 104, 105, 110, 100]⟩, .int .i64 0, .slice none 0 0] 37)).drew.grownBy w4 (some G) → Blk w4 O #[.slice (some ⟨G, 0, none⟩) k (k + 1)] 24) := hide (fun w4 hg => by
        have q := RO.out.alloc (.cells #[.string ⟨#[98, 101, 104, 105, 110, 100]⟩, .int .i64 0, .slice none 0 0] 37)
        have := RO.out.lt
        unfold Blk at *
        rw [hg.block O (by show O < (wr.heap.push _).size; rw [Array.size_push]; omega) (by have := hGO.out; simp; omega)]
        exact q)
      have n1 : ¬ wr.heap.size = O := (by have := HO.out; omega)
      have n2 : ¬ O = wr.heap.size := (by have := HO.out; omega)
      have n3 : ¬ wr.heap.size = w.heap.size := (by have := HO.out; have := hGO.out; have := hNG.out; omega)
      have n4 : ¬ w.heap.size = wr.heap.size := (by have := HO.out; have := hGO.out; have := hNG.out; omega)
      have n5 : ¬ G = O := (by have := hGO.out; omega)
      have n6 : (k : Int) ≤ (k : Int) + 1 := by omega
      have m0 := (R1.out.alloc (.cells #[.string ⟨#[98, 101, 104, 105, 110, 100]⟩, .int .i64 0, .slice none 0 0] 37)).cell 0
      have m1 := (RO.out.alloc (.cells #[.string ⟨#[98, 101, 104, 105, 110, 100]⟩, .int .i64 0, .slice none 0 0] 37)).cell 0
      have HKL : Hid (cs.length = k) := hide (by have := congrArg List.length HC.out; rw [List.length_map, List.length_take, ← HL.out, Nat.min_self] at this; exact this)
      clear hkl
      go_wp2_with fail
      go_region_law ((refine step_append_fits (by rfl) _ _ _ (by rfl) G 37 i0 3 Tryz.underlying22 hi hz1 G k (k + 1) (cellsTb cs) rfl OW.out ⟨wr.heap.size, 0, none⟩ 1 1 [.string ⟨#[98, 101, 104, 105, 110, 100]⟩, .int .i64 0, .slice none 0 0] rfl rfl NEWS.out ONE.out (Nat.le_refl _) ?_; intro w4 hown hgr; have z0 := (KO.out w4 hgr).cell 0; have z1 := (KO.out w4 hgr).free 0; have z2 := ((GK.out w4 hgr).blk R1.out (by have := hGO.out; have := hNG.out; omega) (by have := hNG.out; omega)).cell 0))
      all_goals
        have K4 := hide (GK.out w4 hgr)
        have KK : Hid (Kept O (w.heap.size + 1) w4 ((w4.setCell ⟨O, 0, none⟩ (.slice (some ⟨G, 0, none⟩) k (k + 1))).setCell ⟨w.heap.size + 1, 0, none⟩ (.slice (some ⟨G, 0, none⟩) k (k + 1)))) := hide (((Kept.refl O (w.heap.size + 1) w4).set O 0 _ (.inl rfl)).set (w.heap.size + 1) 0 _ (.inr (.inr rfl)))
        have HOW := hide hown
        have R24 := K4.out.blk R2.out (by have := hGO.out; have := hNG.out; omega) (by have := hNG.out; omega)
        have R25 := hide (R24.other (a := ⟨O, 0, none⟩) (by show O ≠ w.heap.size + 1; have := hGO.out; have := hNG.out; omega) (.slice (some ⟨G, 0, none⟩) k (k + 1)))
        have R26 := hide (R25.out.set0of1 (.slice (some ⟨G, 0, none⟩) k (k + 1)))
        have b1 := R24.free 0
        have b4 := R24.cell 0
        have b2 : ¬ O = w.heap.size + 1 := (by have := hGO.out; have := hNG.out; omega)
        have b3 : ¬ w.heap.size + 1 = O := (by have := hGO.out; have := hNG.out; omega)
        clear hown hgr z1 z2 q0 q1 q2 m0 m1 n1 n2 n3 n4 n5 n6 OW NEWS ONE GK KO R24 R25
        go_wp2
        refine bodyPost_ret (results_bun1 rfl _ _ _ _ rfl R26.out) rfl ?_
        refine ⟨_, cs, rfl, by rw [HC.out, HL.out, List.take_length], ⟨G, k + 1, ?_, ?_, fun c hc => ?_⟩, ?_⟩
        · rw [HKL.out]
        · rw [HKL.out]
          exact own_baseB (KK.out.own HOW.out (by have := hGO.out; simp [Value.ownBlock]; omega) (by have := hNG.out; simp [Value.ownBlock]; omega)) (by have := hNG.out; omega)
        · exact (((RM.out c hc).kept K4.out (by omega) (by have := hGO.out; omega)).kept KK.out (by omega) (by have := hGO.out; have := hNG.out; omega)).base (by have := hGO.out; have := hNG.out; omega)
        · exact KK.out.out (K4.out.out HB.out HB.out.size (by have := hGO.out; have := hNG.out; omega) (by have := hNG.out; omega)) (by have := HB.out.size; have := K4.out.size; omega) (by have := hGO.out; have := hNG.out; omega) (by omega)

end Go.Proofs.YtobmdifledegbaaGreatDoor

namespace Go.Proofs.YtobmdifledegbaaGreatDoor
open Go.RowKit

theorem cell_mark {w : World} {B g n cap : Nat} {xs : List Value} {m : Value} {ms : List Value} {e : TypeId} {sz : Nat} (h : w.ownsRow B e sz (.slice (some ⟨g, 0, none⟩) (n + 1) cap) (n + 1) (xs ++ m :: ms)) (hx : xs.length = n * sz) : w.cell? ⟨g, n * sz, none⟩ = some m := by
  have := World.ownsRow.cells h (g := g) rfl (n * sz) m (by rw [List.getElem?_append_right (by omega), hx, Nat.sub_self]; rfl)
  rw [Addr.add_lit, Nat.zero_add] at this
  exact this

set_option maxRecDepth 100000 in
set_option maxHeartbeats 4000000 in
theorem marked_any {w : World} {B : Nat} {v : Value} {cs : List (Tab × Value)} (h : MkdT B w v cs) (hl : cs.length ≤ 4398046511104) (he : ∀ c ∈ cs, c.1.ents.length ≤ 4398046511104) :
    Calls Tryz.prog 11 #[.agg #[v]] w fun e w' => e = .returned (.bool true) ∧ Below w.heap.size w w' := by
  obtain ⟨gC, cC, rfl, hown, hmk⟩ := h
  obtain ⟨hownp, hcC⟩ := own_pre hown (cellsTb_len _)
  have hm0 := cell_mark (ms := [.int .i64 0, .slice none 0 0]) hown (cellsTb_len _)
  obtain ⟨L, hL⟩ : ∃ L, L = cs.length := ⟨_, rfl⟩
  have HL := hide hL
  have hgl := (World.ownsRow.lt hown _ rfl).2
  have HCL := hide (fun i c (hi : cs[i]? = some c) => (World.ownsRow.cells hownp (g := gC) rfl (i * 3 + 2) c.2 (cellsTb_get cs i c hi).2.2))
  have HMK := hide hmk
  have HE := hide he
  rw [← hL] at hl hcC hm0 ⊢
  obtain ⟨WA, hWA⟩ : ∃ WA, WA = w.alloc (.cells #[.slice (some ⟨gC, 0, none⟩) L cC] 24) := ⟨_, rfl⟩
  have BA : Hid (Below w.heap.size w WA) := hide (by rw [hWA]; exact (Below.refl _ _).alloc (Nat.le_refl _) _)
  have Q1 : Hid (Blk WA w.heap.size #[.slice (some ⟨gC, 0, none⟩) L cC] 24) := hide (by rw [hWA]; exact Blk.newAt _ _ rfl _ _)
  have q0 := Q1.out.cell 0
  have m0 := (BA.out.cell (p := ⟨gC, L * 3, none⟩) hgl).trans hm0
  have hgl' := hide hgl
  have hb1 : (L : Int) + 1 ≤ (cC : Int) := by omega
  have hb2 : (0 : Int) ≤ (L : Int) + 1 := by omega
  have hb3 : (L : Int) < (L : Int) + 1 := by omega
  have HWA := hide hWA.symm
  unfold behB at m0
  clear hWA hown hownp hL hmk he hm0 hgl
  go_enter Tryz.func11, Tryz.ntmps11
  go_wp2_with (simp only [HWA.out])
  go_region
  have KP : Hid (∀ X, Below WA.heap.size WA X → Blk X w.heap.size #[.slice (some ⟨gC, 0, none⟩) L cC] 24) := hide (fun X hX => Q1.out.below hX Q1.out.lt)
  clear q0 m0 hb1 hb2 hb3
  go_wp2
  go_loopw [3] (fun y wr => ∃ k : Nat, k ≤ L ∧ y = .int .i64 (k : Int) ∧ Hid (Below WA.heap.size WA wr)) (fun y _ => L - (intOf y).toNat)
  case atStart => exact ⟨0, Nat.zero_le _, rfl, hide (Below.refl _ _).drew⟩
  case round =>
    obtain ⟨k, hk, rfl, HW⟩ := hrel
    have q0 := (KP.out wr HW.out).cell 0
    by_cases hkl : k < L
    · have hkl' : (k : Int) < (L : Int) := by omega
      have hci : cs[k]? = some (cs[k]'(by rw [← HL.out]; exact hkl)) := List.getElem?_eq_getElem _
      obtain ⟨c, hc⟩ : ∃ c, c = cs[k]'(by rw [← HL.out]; exact hkl) := ⟨_, rfl⟩
      rw [← hc] at hci
      have hmem : c ∈ cs := List.mem_of_getElem? hci
      have hT := hide (BA.out.trans (HW.out.mono BA.out.size))
      have c2' : w.cell? ⟨gC, k * 3 + 2, none⟩ = some c.2 := by
        have := HCL.out k c hci
        rw [Addr.add_lit, Nat.zero_add] at this
        exact this
      have c2 := (hT.out.cell (p := ⟨gC, k * 3 + 2, none⟩) hgl'.out).trans c2'
      obtain ⟨gE, cE, hv, hownE⟩ := HMK.out c hmem
      have hlE := HE.out c hmem
      have hgE := (World.ownsRow.lt hownE _ rfl).2
      have hmE := cell_mark (ms := [.int .i64 0, .string ⟨#[]⟩, .int .i64 0]) hownE (cellsEn_len _)
      obtain ⟨_, hcE⟩ := own_pre hownE (cellsEn_len _)
      obtain ⟨M, hM⟩ : ∃ M, M = c.1.ents.length := ⟨_, rfl⟩
      rw [← hM] at hv hlE hmE hcE
      rw [hv] at c2
      have m0 := (hT.out.cell (p := ⟨gE, M * 4, none⟩) hgE).trans hmE
      have hb1 : (M : Int) + 1 ≤ (cE : Int) := by omega
      have hb2 : (0 : Int) ≤ (M : Int) + 1 := by omega
      have hb3 : (M : Int) < (M : Int) + 1 := by omega
      unfold behB at m0
      clear hci hc hmem c2' hv hownE hgE hmE hM
      go_wp2
      exact ⟨⟨k + 1, by omega, by go_num, HW⟩, by simp [intOf]; omega⟩
    · obtain rfl : k = L := by omega
      have hkl' : ¬ (k : Int) < (k : Int) := by omega
      clear hkl
      go_wp2
      go_ret
      exact ⟨rfl, BA.out.trans (HW.out.mono BA.out.size)⟩

end Go.Proofs.YtobmdifledegbaaGreatDoor

namespace Go.Proofs.YtobmdifledegbaaGreatDoor
open Go.RowKit

set_option maxRecDepth 100000 in
set_option maxHeartbeats 4000000 in
theorem checks_row {w : World} {v : Value} {ts : List Tab} (h : TSl w v ts) (hl : ts.length ≤ 4398046511104) (hz : SzT ts) (hT : U8 w) :
    Calls Tryz.prog 3 #[.agg #[v]] w fun e w' => e = .returned (.bool true) ∧ Below w.heap.size w w' := by
  obtain ⟨WA, hWA⟩ : ∃ WA, WA = w.alloc (.cells #[v] 24) := ⟨_, rfl⟩
  have BA : Hid (Below w.heap.size w WA) := hide (by rw [hWA]; exact (Below.refl _ _).alloc (Nat.le_refl _) _)
  have Q1 : Hid (Blk WA w.heap.size #[v] 24) := hide (by rw [hWA]; exact Blk.newAt _ _ rfl _ _)
  have SA := hide (h.below BA.out)
  have HT := hide (hT.below BA.out)
  have HZ := hide hz
  have HLT := hide hl
  have CP := hide (copy_any SA.out (by omega) (fun k _ => by have := (hz k).2.1; omega))
  have RE : Hid (∀ X, Below WA.heap.size WA X → Calls Tryz.prog 9 #[.agg #[v]] X fun e w' => e = .returned (encA ts) ∧ Below X.heap.size X w') := hide (fun X hX => rEncode_any (SA.out.below hX) hl HZ.out)
  have HWA := hide hWA.symm
  have q0 := Q1.out.cell 0
  have PF : Hid (∀ X, Below WA.heap.size WA X → Blk X w.heap.size #[v] 24) := hide (fun X hX => Q1.out.below hX Q1.out.lt)
  obtain ⟨aov, capv, rfl, _, _⟩ := h
  clear hWA hT hz hl
  go_enter Tryz.func3, Tryz.ntmps3
  go_wp2_with (simp only [HWA.out])
  refine CP.out.mono ?_
  rintro x w1 ⟨v', cs, rfl, hcs, hmk, hb1⟩
  obtain ⟨gC, cC, rfl, _⟩ := id hmk
  have B1 := hide hb1
  obtain ⟨WD, hWD⟩ : ∃ WD, WD = w1.alloc (.cells #[.slice (some ⟨gC, 0, none⟩) cs.length cC] 24) := ⟨_, rfl⟩
  have BWD : Hid (Below w1.heap.size w1 WD) := hide (by rw [hWD]; exact (Below.refl _ _).alloc (Nat.le_refl _) _)
  have BD : Hid (Below WA.heap.size WA WD) := hide (B1.out.trans (BWD.out.mono B1.out.size))
  have QD : Hid (Blk WD w1.heap.size #[.slice (some ⟨gC, 0, none⟩) cs.length cC] 24) := hide (by rw [hWD]; exact Blk.newAt _ _ rfl _ _)
  have MK := hide (hmk.below BWD.out)
  have HCS := hide hcs
  have TD : Hid (TSl WD (.slice (some ⟨gC, 0, none⟩) cs.length cC) ts) := hide (by rw [← HCS.out]; exact MK.out.tsl)
  have QF : Hid (∀ X, Below WD.heap.size WD X → Blk X w1.heap.size #[.slice (some ⟨gC, 0, none⟩) cs.length cC] 24) := hide (fun X hX => QD.out.below hX QD.out.lt)
  have CKN := hide (Check_any TD.out (by have := HLT.out; omega) HZ.out (HT.out.below BD.out))
  have ENC : Hid (∀ X, Below WD.heap.size WD X → Calls Tryz.prog 8 #[.agg #[.slice (some ⟨gC, 0, none⟩) cs.length cC]] X fun e w' => e = .returned (encA ts) ∧ Below X.heap.size X w') := hide (fun X hX => Encode_any (TD.out.below hX) (by have := HLT.out; omega) HZ.out (HT.out.below (BD.out.trans (hX.mono BD.out.size))))
  have EA : Hid (encA ts = .tuple #[.string (if checkT ts = 0 then ⟨(encT ts).toArray⟩ else ⟨#[]⟩), .int .i64 (checkT ts : Int)]) := hide rfl
  obtain ⟨tx, htx⟩ : ∃ tx, tx = (if checkT ts = 0 then (⟨(encT ts).toArray⟩ : ByteArray) else ⟨#[]⟩) := ⟨_, rfl⟩
  rw [← htx] at EA
  rw [EA.out] at ENC RE
  generalize checkT ts = C at *
  have d0 := QD.out.cell 0
  have HWD := hide hWD.symm
  clear hb1 hWD hmk hcs CP q0 htx EA
  go_wp2_with (simp only [HWD.out])
  refine CKN.out.mono ?_
  rintro x w2 ⟨rfl, hb2⟩
  have B2 := hide hb2
  have EN2 := hide (ENC.out w2 hb2)
  have d1 := (QF.out w2 hb2).cell 0
  clear hb2 CKN ENC d0
  go_wp2_with fail
  refine EN2.out.mono ?_
  rintro x w3 ⟨rfl, hb3⟩
  have B3 := hide (B2.out.trans (hb3.mono B2.out.size))
  have BA3 := hide (BD.out.trans (B3.out.mono BD.out.size))
  have RE3 := hide (RE.out w3 BA3.out)
  have p1 := (PF.out w3 BA3.out).cell 0
  clear hb3 EN2 RE d1
  go_wp2_with fail
  refine RE3.out.mono ?_
  rintro x w4 ⟨rfl, hb4⟩
  have B4 := hide (B3.out.trans (hb4.mono B3.out.size))
  have BA4 := hide (BD.out.trans (B4.out.mono BD.out.size))
  have BT4 := hide (BA.out.trans (BA4.out.mono BA.out.size))
  have SM := hide (same_eq (TD.out.below B4.out) (SA.out.below BA4.out) HLT.out HZ.out)
  have MKD : Hid (∀ X, Below w4.heap.size w4 X → Calls Tryz.prog 11 #[.agg #[.slice (some ⟨gC, 0, none⟩) cs.length cC]] X fun e w' => e = .returned (.bool true) ∧ Below X.heap.size X w') := hide (fun X hX => marked_any ((MK.out.below B4.out).below hX) (by have := HLT.out; have h2 := congrArg List.length HCS.out; rw [List.length_map] at h2; omega) (fun c hc => by
    obtain ⟨i, hi, rfl⟩ := List.getElem_of_mem hc
    have h2 := (HZ.out i).2.1
    have e : tabN ts i = cs[i].1 := tabN_get (by rw [← HCS.out, List.getElem?_map, List.getElem?_eq_getElem hi]; rfl)
    rw [e] at h2
    exact h2))
  have HT4 := hide (HT.out.below BA4.out)
  have u0 := (QF.out w4 B4.out).cell 0
  have u1 := (PF.out w4 BA4.out).cell 0
  have Q4 := hide (QF.out w4 B4.out)
  clear hb4 RE3 p1
  go_wp2_with fail
  refine SM.out.mono ?_
  rintro x z1 ⟨rfl, hz1⟩
  have V1 := hide hz1
  have u2 := (Q4.out.below hz1 Q4.out.lt).cell 0
  have MK1 := hide (MKD.out z1 hz1)
  clear SM hz1 u0 u1
  go_wp2_with fail
  refine MK1.out.mono ?_
  rintro x z2 ⟨rfl, hz2⟩
  have V2 := hide (V1.out.trans (hz2.mono V1.out.size))
  have FX := hide (fixed_any z2 (HT4.out.below V2.out))
  clear MK1 hz2 u2
  go_wp2_with fail
  refine FX.out.mono ?_
  rintro x z3 ⟨rfl, hz3⟩
  have V3 := hide (BT4.out.trans ((V2.out.trans (hz3.mono V2.out.size)).mono BT4.out.size))
  clear FX hz3
  go_wp2
  go_ret
  exact ⟨rfl, V3.out⟩

theorem bundleChecks_row (w : World) (hT : U8 w) (v : Value) (ts : List Tab) (h : TSl w v ts) (hl : ts.length ≤ 4398046511104) (hz : SzT ts) :
    Calls Tryz.prog 3 #[.agg #[v]] w fun e w' => e = .returned (.bool true) ∧ Below w.heap.size w w' := checks_row h hl hz hT

end Go.Proofs.YtobmdifledegbaaGreatDoor

namespace Go.Proofs.YtobmdifledegbaaGreatDoor
open Go.RowKit

theorem laid_first : (Rows.laid_unicode_utf8_first : DataW Unit) = Lib.firstData := by kernel_rfl
theorem laid_accept : (Rows.laid_unicode_utf8_acceptRanges : DataW Unit) = Lib.acceptData := by kernel_rfl
theorem cellsAR : Tryz.prog.cellsOf 144 = 2 := by kernel_rfl
theorem cellsU8 : Tryz.prog.cellsOf 5 = 1 := by kernel_rfl
theorem cellsFT : Tryz.prog.cellsOf 142 = 256 := by kernel_rfl

theorem first_of {W : World} (h : Lib.VarReads Tryz.prog W "unicode/utf8.first" Lib.firstData) : ∀ c, c < 256 → W.cell? ⟨0, c, none⟩ = some (.int .u8 (Lib.firstT c : Int)) := by
  intro c hc
  obtain ⟨g, t, cs, fuel, p, hg, hty, hvar, hd⟩ := h
  have eg : g = 0 := Option.some.inj (hg.symm.trans (by kernel_rfl))
  subst eg
  have et : t = 142 := Option.some.inj (hty.symm.trans (by kernel_rfl))
  subst et
  have hcs := Lib.cells_of_tab Tryz.underlying142 Tryz.underlying5 cellsU8 cellsFT hd
  rw [World.var?_cell hg hvar c, ← Array.getElem?_toList, hcs]
  simp [Lib.firstTab, hc]

theorem accept_of {W : World} (h : Lib.VarReads Tryz.prog W "unicode/utf8.acceptRanges" Lib.acceptData) : ∀ i, i < 16 → W.cell? ⟨1, 2 * i, none⟩ = some (.int .u8 (Lib.accLo i : Int)) ∧ W.cell? ⟨1, 2 * i + 1, none⟩ = some (.int .u8 (Lib.accHi i : Int)) := by
  intro i hi
  obtain ⟨g, t, cs, fuel, p, hg, hty, hvar, hd⟩ := h
  have eg : g = 1 := Option.some.inj (hg.symm.trans (by kernel_rfl))
  subst eg
  have et : t = 145 := Option.some.inj (hty.symm.trans (by kernel_rfl))
  subst et
  obtain ⟨fu, d, q, hdi, he⟩ := Lib.array_elem Tryz.underlying145 hd i hi
  rw [cellsAR] at he
  have hdv : d = .agg ([(Lib.accLo i : Int), (Lib.accHi i : Int)].map fun z => .lit (.int .u8 z)) := by
    rw [List.getElem?_map, List.getElem?_range hi] at hdi
    exact (Option.some.inj hdi).symm
  subst hdv
  have fields : ∀ (j : Nat) (f : Field), (Tryz.prog.fieldsOf 144)[j]? = some f → Tryz.prog.underlying f.type = some (.int .u8) ∧ f.offset = j ∧ Tryz.prog.cellsOf f.type = 1 := by
    intro j f hj
    have e2 : Tryz.prog.fieldsOf 144 = #[(Tryz.prog.fieldsOf 144)[0]!, (Tryz.prog.fieldsOf 144)[1]!] := by kernel_rfl
    rw [e2] at hj
    match j, hj with
    | 0, hj => simp at hj; subst hj; exact ⟨by kernel_rfl, by kernel_rfl, by kernel_rfl⟩
    | 1, hj => simp at hj; subst hj; exact ⟨by kernel_rfl, by kernel_rfl, by kernel_rfl⟩
    | j + 2, hj => simp at hj
  have hcs := Lib.ints_of_struct (fs := Tryz.prog.fieldsOf 144) (by kernel_rfl) fields (by kernel_rfl) he
  have q0 := congrArg (fun l => l[0]?) hcs
  have q1 := congrArg (fun l => l[1]?) hcs
  simp only [List.getElem?_take, List.getElem?_drop] at q0 q1
  refine ⟨?_, ?_⟩
  · rw [World.var?_cell hg hvar (2 * i), ← Array.getElem?_toList, Nat.mul_comm]
    simpa using q0
  · rw [World.var?_cell hg hvar (2 * i + 1), ← Array.getElem?_toList, Nat.mul_comm]
    simpa using q1

theorem table {W : World} (h : laidMetH Tryz.prog [("unicode/utf8.acceptRanges", Rows.laid_unicode_utf8_acceptRanges), ("unicode/utf8.first", Rows.laid_unicode_utf8_first)] W) : U8 W := by
  have h' : laidMet Tryz.prog [("unicode/utf8.acceptRanges", Rows.laid_unicode_utf8_acceptRanges), ("unicode/utf8.first", Rows.laid_unicode_utf8_first)] W := h
  have h3 := Lib.laidMet.reads h' (n := "unicode/utf8.first") (d := Rows.laid_unicode_utf8_first) (by simp)
  have h4 := Lib.laidMet.reads h' (n := "unicode/utf8.acceptRanges") (d := Rows.laid_unicode_utf8_acceptRanges) (by simp)
  rw [laid_first] at h3
  rw [laid_accept] at h4
  exact ⟨first_of h3, accept_of h4⟩

def tabVals : DataW Unit → Array Value
  | .agg l => (l.flatMap fun
      | .lit (.int k z) => [Value.int k z]
      | .agg l2 => l2.map fun
        | .lit (.int k z) => Value.int k z
        | _ => .int .u8 0
      | _ => []).toArray
  | _ => #[]

def putVals (d : DataW Unit) : Obj → Obj
  | .cells _ t frozen => .cells (tabVals d) t frozen
  | o => o

noncomputable def laidWorld (os : Os) : World :=
  { World.holding Tryz.prog os ⟨#[], #[], []⟩ with
    heap := ((World.holding Tryz.prog os ⟨#[], #[], []⟩).heap.modify 1 (putVals Rows.laid_unicode_utf8_acceptRanges)).modify 0 (putVals Rows.laid_unicode_utf8_first) }

end Go.Proofs.YtobmdifledegbaaGreatDoor
