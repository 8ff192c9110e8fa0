/-
  What quipuref12's Encode answers.
-/
import Derived.Test.YtihnakblcfealaaGreatDoorEB14
import Derived.Test.YtihnakblcfealaaGreatDoorEB15
import Derived.Test.YtihnakblcfealaaGreatDoorEB11
namespace Go.Proofs.YtihnakblcfealaaGreatDoor
open Go.RowKit

theorem ob_apart {w : World} {H B : Nat} {cs : Array Value} {T : TypeId} {v : Value} {ys : List Nat} (q : Blk w H cs T) (h : Ob B w v ys) (he : T ≠ 5) : some H ≠ v.ownBlock := by
  obtain ⟨g, cap, cur, fz, rfl, _, hh, _⟩ := h
  intro e'
  simp only [Value.ownBlock, Option.some.injEq] at e'
  subst e'
  unfold Blk at q
  rw [hh] at q
  simp at q
  exact he q.2.1.symm

theorem ob_stay {w w' : World} {H B : Nat} {cs : Array Value} {T : TypeId} {v : Value} {ys : List Nat} (q : Blk w H cs T) (h : Ob B w v ys) (hg : w.grownBy w' v.ownBlock) (he : T ≠ 5) : Blk w' H cs T := by
  have hap := ob_apart q h he
  have hlt := q.lt
  unfold Blk at *
  rw [hg.block _ hlt hap]
  exact q

theorem bytes_bel (w : World) (T : TypeId) (t : ByteArray) : Below w.heap.size w (Lib.bytesWorld w T t) := ⟨rfl, rfl, rfl, by rw [Lib.bytesWorld_size]; omega, fun k hk => Lib.bytesWorld_at_old w T t k hk⟩

theorem name_in {ts : List Tab} {k : Nat} (hk : k < ts.length) : bys (tabN ts k).name ∈ poolL (textsL ts) := by
  rw [pool_mem]
  refine ⟨_, ?_, rfl⟩
  unfold textsL
  rw [List.mem_flatMap]
  exact ⟨tabN ts k, List.mem_of_getElem? (tabN_some hk), by unfold tabL; exact List.mem_cons_self ..⟩
theorem ent_in {ts : List Tab} {k j : Nat} (hk : k < ts.length) (hj : j < (tabN ts k).ents.length) (t : ByteArray) (ht : t ∈ entL (entN (tabN ts k).ents j)) : bys t ∈ poolL (textsL ts) := by
  rw [pool_mem]
  refine ⟨t, ?_, rfl⟩
  unfold textsL
  rw [List.mem_flatMap]
  refine ⟨tabN ts k, List.mem_of_getElem? (tabN_some hk), ?_⟩
  unfold tabL
  refine List.mem_cons_of_mem _ ?_
  rw [List.mem_flatMap]
  exact ⟨entN (tabN ts k).ents j, List.mem_of_getElem? (entN_some hj), ht⟩

theorem kind_ok {ts : List Tab} {k j : Nat} (h : tabE ts k = 0) (hj : j < (tabN ts k).ents.length) : 0 ≤ (entN (tabN ts k).ents j).kind ∧ (entN (tabN ts k).ents j).kind ≤ 2 := by
  have hm := (ents_may _ _ (tabE_zero h).2.2.2.2 _ (List.mem_of_getElem? (entN_some hj))).2
  unfold mayVal at hm
  split at hm
  · omega
  · split at hm
    · omega
    · split at hm
      · omega
      · cases hm

theorem byte_of (n : Int) (h0 : 0 ≤ n) (h1 : n < 256) : (p1 n).map UInt8.toNat = [n.toNat] := by
  unfold p1 bN
  simp
  omega
theorem byte_par (p : Int) (h0 : -1 ≤ p) (h1 : p < 256) : (p1 (parB p)).map UInt8.toNat = [(p % 256).toNat] := by
  unfold parB
  by_cases h : p = -1
  · subst h; rw [if_pos rfl, byte_of 255 (by decide) (by decide)]; rfl
  · rw [if_neg h, byte_of p (by omega) h1]
    congr 1
    omega

set_option maxRecDepth 100000 in
set_option maxHeartbeats 4000000 in
theorem rEncode_any {w : World} {v : Value} {ts : List Tab} (h : TSl w v ts) (hl : ts.length ≤ 4398046511104) (hz : SzT ts) :
    Calls Tryz.prog 14 #[.agg #[v]] w fun e w' => e = .returned (encA ts) ∧ Below w.heap.size w w' := by
  obtain ⟨i0, hi, hz0, hz1, hz2⟩ := info_parts Tryz.infoBz
  obtain ⟨WA, hWA⟩ : ∃ WA, WA = w.alloc (.cells #[v] 24) := ⟨_, rfl⟩
  have BA : Hid (Below w.heap.size w WA) := hide (by rw [hWA]; exact (Below.refl _ _).alloc (Nat.le_refl _) _)
  have Q1 : Hid (Blk WA w.heap.size #[v] 24) := hide (by rw [hWA]; exact Blk.newAt _ _ rfl _ _)
  have SA := hide (h.below BA.out)
  have CK := hide (rCheck_any SA.out hl hz)
  have HWA := hide hWA.symm
  have HZ := hide hz
  obtain ⟨ao, cap, rfl, hcap, hat⟩ := h
  have q0 := Q1.out.cell 0
  have HAT := hide hat
  clear hWA hz hat
  by_cases hC : checkT ts = 0
  · obtain ⟨cz1, cz2, cz3⟩ := check_zero hC
    obtain ⟨cl1, cl2, cl3⟩ := counts_len cz1
    have HD := hide (check_down hC)
    have KD := hide (fun k j (hk : k < ts.length) (hj : j < (tabN ts k).ents.length) => kind_ok (cz2 k hk) hj)
    have EA : Hid (encA ts = .tuple #[.string ⟨(encT ts).toArray⟩, .int .i64 0]) := hide (by unfold encA; rw [if_pos hC, hC]; rfl)
    have PO := hide (fun X (hX : Below WA.heap.size WA X) => pool_any (SA.out.below hX) cl2 cl3)
    have HE3 := hide cl3
    rw [hC] at CK
    rw [show ((0 : Nat) : Int) = 0 from rfl] at CK
    obtain ⟨L, hL⟩ : ∃ L, L = ts.length := ⟨_, rfl⟩
    have HL := hide hL
    rw [← hL] at hl hcap CK Q1 HWA SA PO cl1 cl2 q0 ⊢
    obtain ⟨b, o, rfl, HBb, HCL⟩ : ∃ b o, ao = some ⟨b, o, none⟩ ∧ Hid (b < w.heap.size) ∧ Hid (∀ i, i < ts.length → TabAt w b o i (tabN ts i)) := by
      rcases HAT.out with q | ⟨b, o, rfl, q, hcl⟩
      · rw [q] at hL; simp at hL; omega
      · exact ⟨b, o, rfl, hide q, hide hcl⟩
    have hN0 := hide cz3
    clear cz1 cz2 cz3 cl3 hC hL
    go_enter Tryz.func14, Tryz.ntmps14
    go_wp2_with (simp only [HWA.out])
    refine CK.out.mono ?_
    rintro x w1 ⟨rfl, hb1⟩
    have B1 := hide hb1
    have PO1 := hide (PO.out w1 hb1)
    have q1 := (Q1.out.below hb1 Q1.out.lt).cell 0
    clear hb1 CK PO q0
    go_wp2_with fail
    refine PO1.out.mono ?_
    rintro x W2 ⟨u, rfl, hru, hnn, hb2⟩
    have B2 : Hid (Below WA.heap.size WA W2) := hide (B1.out.trans (hb2.mono B1.out.size))
    obtain ⟨ps, hps⟩ : ∃ ps, ps = poolL (textsL ts) := ⟨_, rfl⟩
    have HPS := hide hps
    rw [← hps] at hru
    have TX := hide (TxS.of_row hru)
    have HRI : Hid (Rise ps) := hide (by rw [hps]; exact pool_rise _)
    have HPL : Hid (ps.length ≤ 4096) := hide (by rw [hps, pool_len]; exact hN0.out)
    have HSH : Hid (∀ s ∈ ps, s.length ≤ 140737488355328) := hide (by rw [hps]; exact pool_short HZ.out)
    obtain ⟨gu, cu, rfl⟩ : ∃ gu cu, u = .slice (some ⟨gu, 0, none⟩) ps.length cu := by
      rcases hru.2 with ⟨h1, _⟩ | ⟨g, cu, cur, h1, _⟩
      · exact absurd h1 hnn
      · exact ⟨g, cu, h1⟩
    have HUC := hide (fun i (hi : i < ps.length) => RowS.cell hru i hi)
    have hgu := hide (World.ownsRow.lt hru gu rfl).2
    obtain ⟨N, hN⟩ : ∃ N, N = ps.length := ⟨_, rfl⟩
    have HN := hide hN
    have hN4 : N ≤ 4096 := by rw [hN]; exact HPL.out
    rw [← hN] at TX HUC ⊢
    obtain ⟨B, hB⟩ : ∃ B, B = W2.heap.size := ⟨_, rfl⟩
    have HBB := hide hB
    have P1 := hide (rPut2 (N : Int) W2)
    clear hb2 PO1 hru hnn hps hN hB q1
    go_wp2_with fail
    refine P1.out.mono ?_
    rintro x w3 ⟨rfl, hb3⟩
    obtain ⟨T2, hT2⟩ : ∃ T2, T2 = (⟨#[bN (N : Int) 1, bN (N : Int) 0]⟩ : ByteArray) := ⟨_, rfl⟩
    have HT2 : Hid (bys T2 = p2 (N : Int)) := hide (by rw [hT2]; rfl)
    rw [← hT2]
    have cvt := convB_by T2
    have B3 := hide hb3
    clear hb3 P1 hT2
    go_wp2
    obtain ⟨W4, hW4⟩ : ∃ W4, W4 = Lib.bytesWorld w3 5 T2 := ⟨_, rfl⟩
    have OB0 : Hid (Ob B W4 (.slice (some ⟨w3.heap.size, 0, none⟩) T2.size (grownCap w3 T2.size 0 5)) ((p2 (N : Int)).map UInt8.toNat)) := hide (by rw [hW4, ← HT2.out]; exact Ob.bytes w3 T2 (by rw [HBB.out]; exact B3.out.size))
    have BW0 : Hid (Below B W2 W4) := hide (by rw [HBB.out]; rw [hW4]; exact B3.out.trans ((bytes_bel w3 5 T2).mono B3.out.size))
    simp only [← hW4]
    generalize (Value.slice (some ⟨w3.heap.size, 0, none⟩) T2.size (grownCap w3 T2.size 0 5)) = o0 at *
    clear hW4 cvt B3 HT2
    go_loopw [6, 7] (fun y x wr => ∃ k : Nat, k ≤ N ∧ x = .int .i64 (k : Int) ∧ Hid (Ob B wr y ((p2 (N : Int) ++ txtB (ps.take k)).map UInt8.toNat)) ∧ Hid (Below B W2 wr)) (fun _ x _ => N - (intOf x).toNat)
    case atStart => exact ⟨0, Nat.zero_le _, rfl, hide (by have := OB0.out; simpa [txtB] using this), BW0⟩
    case round =>
      obtain ⟨k, hk, rfl, HO, HW⟩ := hrel
      clear OB0 BW0
      have HWW : Hid (Below W2.heap.size W2 wr) := hide (by rw [← HBB.out]; exact HW.out)
      by_cases hkl : k < N
      · have hkl' : (k : Int) < (N : Int) := by omega
        have hkp : k < ps.length := by rw [← HN.out]; exact hkl
        have c0 := (HWW.out.cell (p := ⟨gu, k, none⟩) hgu.out).trans (HUC.out k hkl)
        have NX := hide (txtB_next ps k hkp)
        have hlen : Hid ((txtB (ps.take k)).length ≤ 1026 * k) := hide (by have := txtB_len (ps.take k); rw [List.length_take] at this; have h2 : min k ps.length ≤ k := Nat.min_le_left _ _; have h3 := Nat.mul_le_mul_left 1026 h2; omega)
        obtain ⟨tk, htk⟩ : ∃ tk : ByteArray, tk = ⟨(ps[k]?.getD []).toArray⟩ := ⟨_, rfl⟩
        rw [← htk] at c0 NX
        have hts : tk.size ≤ 140737488355328 := by
          rw [htk, List.getElem?_eq_getElem hkp]
          exact HSH.out _ (List.getElem_mem hkp)
        have HP := hide (rPutText_any tk wr hts)
        have hpl := ptxV_le tk
        rw [bys_len] at hpl
        clear htk hkp hts
        go_wp2_with fail
        refine HP.out.mono ?_
        rintro x w5 ⟨rfl, hb5⟩
        have O5 := hide (HO.out.below hb5)
        have BW5 : Hid (Below B W2 w5) := hide (HW.out.trans (hb5.mono (by rw [HBB.out]; exact HWW.out.size)))
        have hl0 : Hid (((p2 (N : Int) ++ txtB (ps.take k)).map UInt8.toNat).length ≤ 5000000) := hide (by rw [List.length_map, List.length_append]; have := hlen.out; have h2 : (p2 (N : Int)).length = 2 := rfl; omega)
        clear hb5 HP c0
        have hb6 : Hid (B ≤ w5.heap.size) := hide (by rw [HBB.out]; have := BW5.out.size; omega)
        go_wp2_with (at_builtin; refine appendS_ob _ rfl _ _ 67 9 rfl i0 Tryz.underlying67 Tryz.underlying9 hi hz0 hz1 hz2 _ _ rfl O5.out (ptxV tk) rfl (by have := hl0.out; omega) hb6.out ?_; intro v6 w6 hob6 hgr6)
        have BW6 : Hid (Below B W2 w6) := hide (BW5.out.grown hgr6 hb6.out (fun j hj => (Ob.lt O5.out j hj).1))
        have OB6 : Hid (Ob B w6 v6 (((p2 (N : Int) ++ txtB (ps.take k)) ++ bys (ptxV tk)).map UInt8.toNat)) := hide (by rw [List.map_append]; exact hob6)
        clear hob6
        go_wp2
        exact ⟨⟨k + 1, by omega, by go_num, hide (by rw [NX.out, ← List.append_assoc]; exact OB6.out), BW6⟩, by simp [intOf]; omega⟩
      · obtain rfl : k = N := by omega
        have hkl' : ¬ (k : Int) < (k : Int) := by omega
        clear hkl
        have HPE : Hid (txtB (ps.take k) = txtB ps) := hide (by rw [HN.out, List.take_length])
        have hlT0 : Hid ((txtB ps).length ≤ 1026 * 4096) := hide (by have := txtB_len ps; have h3 := HPL.out; have h4 := Nat.mul_le_mul_left 1026 h3; omega)
        have OBT : Hid (Ob B wr u6 ((p2 (k : Int) ++ txtB ps).map UInt8.toNat)) := hide (by rw [← HPE.out]; exact HO.out)
        have hlA : Hid (((p2 (k : Int) ++ txtB ps).map UInt8.toNat).length ≤ 4300000) := hide (by rw [List.length_map, List.length_append]; have := hlT0.out; have h2 : (p2 (k : Int)).length = 2 := rfl; omega)
        have PW : Hid (∀ X, Below B W2 X → Blk X w.heap.size #[.slice (some ⟨b, o, none⟩) L cap] 24) := hide (fun X hX => Q1.out.below (B2.out.trans ((show Below W2.heap.size W2 X by rw [← HBB.out]; exact hX).mono B2.out.size)) Q1.out.lt)
        have WW : Hid (∀ X, Below B W2 X → Below w.heap.size w X) := hide (fun X hX => BA.out.trans ((B2.out.trans ((show Below W2.heap.size W2 X by rw [← HBB.out]; exact hX).mono B2.out.size)).mono BA.out.size))
        have TXF : Hid (∀ X, Below B W2 X → TxS X (.slice (some ⟨gu, 0, none⟩) k cu) ps) := hide (fun X hX => TX.out.below (by rw [← HBB.out]; exact hX))
        have q2 := (PW.out wr HW.out).cell 0
        have wr8 : ((L : Int) % 256) = (L : Int) := by omega
        clear HO hlT0
        have AL8 : Hid (Below wr.heap.size wr (wr.alloc (.cells #[.int .u8 (L : Int)] 5))) := hide ((Below.refl _ _).alloc (Nat.le_refl _) _)
        have OA8 := hide (OBT.out.below AL8.out)
        have BA8 : Hid (Below B W2 (wr.alloc (.cells #[.int .u8 (L : Int)] 5))) := hide (HW.out.trans (AL8.out.mono (by rw [HBB.out]; have := HW.out.size; omega)))
        have NC8 : Hid ((wr.alloc (.cells #[.int .u8 (L : Int)] 5)).cell? ⟨wr.heap.size, 0, none⟩ = some (.int .u8 ((L : Nat) : Int))) := hide (by rw [show (((L : Nat) : Int)) = (L : Int) from rfl]; exact (Blk.newAt wr wr.heap.size rfl #[.int .u8 (L : Int)] 5).cell 0)
        go_wp2_with (at_builtin; refine append_ob _ rfl _ _ 67 rfl i0 Tryz.underlying67 hi hz0 hz1 hz2 _ _ rfl OA8.out ⟨wr.heap.size, 0, none⟩ 1 L rfl NC8.out (by have := hlA.out; omega) ?_; intro v8 w8 hob8 hgr8 hown8; have q3 := (PW.out w8 (BA8.out.grown hgr8 (by rw [HBB.out]; have := BA8.out.size; omega) (fun j hj => (Ob.lt OA8.out j hj).1))).cell 0)
        have BW8 : Hid (Below B W2 w8) := hide (BA8.out.grown hgr8 (by rw [HBB.out]; have := BA8.out.size; omega) (fun j hj => (Ob.lt OA8.out j hj).1))
        have OB8 : Hid (Ob B w8 v8 (((p2 (k : Int) ++ txtB ps) ++ p1 (L : Int)).map UInt8.toNat)) := hide (by rw [List.map_append]; rw [byte_of (L : Int) (by omega) (by omega), Int.toNat_natCast]; exact hob8)
        clear hob8 hown8 NC8
        obtain ⟨A1, hA1⟩ : ∃ A1, A1 = (p2 (k : Int) ++ txtB ps) ++ p1 (L : Int) := ⟨_, rfl⟩
        rw [← hA1] at OB8
        have HA1 := hide hA1
        have hlA1 : Hid (A1.length ≤ 4300010) := hide (by rw [hA1, List.length_append]; have := hlA.out; rw [List.length_map] at this; have h3 : (p1 (L : Int)).length = 1 := rfl; omega)
        clear hA1 wr8 q2 q3 HW OBT
        go_loopw [6, 10] (fun y x wr => ∃ i : Nat, i ≤ L ∧ x = .int .i64 (i : Int) ∧ Hid (Ob B wr y ((A1 ++ (ts.take i).flatMap (tabB ps)).map UInt8.toNat)) ∧ Hid (Below B W2 wr)) (fun _ x _ => L - (intOf x).toNat)
        case atStart => exact ⟨0, Nat.zero_le _, rfl, hide (by have := OB8.out; simpa using this), BW8⟩
        case round =>
          obtain ⟨i, hk2, rfl, HO2, HW⟩ := hrel
          clear OB8 BW8
          have q3 := (PW.out wr HW.out).cell 0
          by_cases hil : i < L
          · have hil' : (i : Int) < (L : Int) := by omega
            have hit : i < ts.length := by rw [← HL.out]; exact hil
            obtain ⟨wo, hwo⟩ : ∃ x, x = wr := ⟨_, rfl⟩
            subst hwo
            have WWo := hide (WW.out wo HW.out)
            obtain ⟨g0, g1, ve, g2, hes⟩ := (HCL.out i hit).below HBb.out WWo.out
            have NX := hide (tabsB_next ps ts i hit)
            have NIN : Hid (bys (tabN ts i).name ∈ ps) := hide (by rw [HPS.out]; exact name_in hit)
            have EIN0 := hide (fun j (hj : j < (tabN ts i).ents.length) (t : ByteArray) (ht : t ∈ entL (entN (tabN ts i).ents j)) => (by rw [HPS.out]; exact ent_in hit hj t ht : bys t ∈ ps))
            have KDk0 := hide (fun j (hj : j < (tabN ts i).ents.length) => KD.out i j hit hj)
            have HEE0 := HE3.out i
            have PR0 := HD.out i hit
            obtain ⟨dg0, dg1, dve, dg2, dhes⟩ := HCL.out i hit
            have HTL : Hid (((ts.take i).flatMap (tabB ps)).length ≤ 8000 * i) := hide (by
              have := tabsB_len ps (ts.take i) (fun t ht => by obtain ⟨q, _, rfl⟩ := mem_tabN (List.mem_of_mem_take ht); exact HE3.out q)
              rw [List.length_take] at this
              have h2 : min i ts.length ≤ i := Nat.min_le_left _ _
              have h3 := Nat.mul_le_mul_left 8000 h2
              omega)
            obtain ⟨g, hg⟩ : ∃ g, g = tabN ts i := ⟨_, rfl⟩
            rw [← hg] at g0 g1 hes NX NIN EIN0 KDk0 HEE0 PR0 dg0 dg1 dhes
            clear hg hit
            obtain ⟨nm, pr, es⟩ := g
            simp only [] at g0 g1 g2 hes HEE0 PR0 dg0 dg1 dg2 dhes
            have EIN : Hid (∀ j, j < es.length → ∀ t, t ∈ entL (entN es j) → bys t ∈ ps) := EIN0
            have KDk : Hid (∀ j, j < es.length → 0 ≤ (entN es j).kind ∧ (entN es j).kind ≤ 2) := KDk0
            clear EIN0 KDk0
            obtain ⟨ae, ce, rfl, hce, hea⟩ := dhes
            have hve : ve = .slice ae es.length ce := by
              have := (WWo.out.cell (p := ⟨b, o + i * 3 + 2, none⟩) HBb.out).symm.trans g2
              rw [dg2] at this
              exact (Option.some.inj this).symm
            subst hve
            obtain ⟨M, hM⟩ : ∃ M, M = es.length := ⟨_, rfl⟩
            rw [← hM] at g2 hce HEE0
            have HM := hide hM
            have HEA := hide hea
            clear hea hM dg0 dg1 dg2 hes
            obtain ⟨WT, hWT⟩ : ∃ WT, WT = wo.alloc (.cells #[.string nm, .int .i64 pr, .slice ae M ce] 31) := ⟨_, rfl⟩
            obtain ⟨DT, hDT⟩ : ∃ DT, DT = wo.heap.size := ⟨_, rfl⟩
            have BT : Hid (Below wo.heap.size wo WT) := hide (by rw [hWT]; exact (Below.refl _ _).alloc (Nat.le_refl _) _)
            have QT : Hid (Blk WT wo.heap.size #[.string nm, .int .i64 pr, .slice ae M ce] 31) := hide (by rw [hWT]; exact Blk.newAt _ _ rfl _ _)
            have hBwo : Hid (B ≤ wo.heap.size) := hide (by rw [HBB.out]; have := HW.out.size; omega)
            have BWT : Hid (Below B W2 WT) := hide (HW.out.trans (BT.out.mono hBwo.out))
            have OBT2 := hide (HO2.out.below BT.out)
            have NN := hide (rnumber2 nm (TXF.out WT BWT.out) HRI.out (by have := HPL.out; omega) NIN.out)
            obtain ⟨NV, hNV⟩ : ∃ NV, NV = put2 (placeS ps (bys nm) : Int) := ⟨_, rfl⟩
            rw [← hNV] at NN
            have HNV : Hid (bys NV = p2 (placeS ps (bys nm) : Int)) := hide (by rw [hNV]; rfl)
            have hNVs : Hid (NV.size = 2) := hide (by rw [hNV]; rfl)
            have t0 := QT.out.cell 0
            have HWT := hide hWT.symm
            have HDT := hide hDT
            have hlT : Hid ((A1 ++ (ts.take i).flatMap (tabB ps)).length ≤ 5000000) := hide (by rw [List.length_append]; have := hlA1.out; have := HTL.out; omega)
            clear hWT hNV hDT
            go_wp2_with (simp only [HWT.out])
            refine NN.out.mono ?_
            rintro x w30 ⟨rfl, hb30⟩
            have O30 := hide (OBT2.out.below hb30)
            have BW30 : Hid (Below B W2 w30) := hide (BWT.out.trans (hb30.mono (Nat.le_trans hBwo.out BT.out.size)))
            have QT30 := hide (QT.out.below hb30 QT.out.lt)
            have hb31 : Hid (B ≤ w30.heap.size) := hide (by rw [HBB.out]; have := BW30.out.size; omega)
            have DT30 : Hid (∀ X v, w30.grownBy X (Value.ownBlock v) → ∀ ys, Ob B w30 v ys → ∀ cs, Blk w30 wo.heap.size cs 31 → Blk X wo.heap.size cs 31) := hide (fun X v hg ys ho cs q => by
              have hap := ob_apart q ho (by decide)
              have hlt := q.lt
              unfold Blk at *
              rw [hg.block _ hlt hap]
              exact q)
            have EP0 : Hid ((((pr % 256).toNat : Nat) : Int) = pr % 256) := hide (Int.toNat_of_nonneg (by omega))
            have PRB := hide PR0
            clear hb30 NN t0 g0 g1 g2
            go_wp2_with (first
              | (at_builtin; refine appendS_ob _ rfl _ _ 67 9 rfl i0 Tryz.underlying67 Tryz.underlying9 hi hz0 hz1 hz2 _ _ rfl O30.out NV rfl (by rw [List.length_map]; have := hlT.out; have := hNVs.out; omega) hb31.out ?_; intro v31 w31 hob31 hgr31; have BW31 : Hid (Below B W2 w31) := hide (BW30.out.grown hgr31 hb31.out (fun j hj => (Ob.lt O30.out j hj).1)); have OB31 : Hid (Ob B w31 v31 (((A1 ++ (ts.take i).flatMap (tabB ps)) ++ bys NV).map UInt8.toNat)) := hide (by rw [List.map_append]; exact hob31); have QT31 := hide (DT30.out _ _ hgr31 _ O30.out _ QT30.out); have t1 := QT31.out.cell 1; have AL32 : Hid (Below w31.heap.size w31 (w31.alloc (.cells #[.int .u8 (pr % 256)] 5))) := hide ((Below.refl _ _).alloc (Nat.le_refl _) _); have OA32 := hide (OB31.out.below AL32.out); have BA32 : Hid (Below B W2 (w31.alloc (.cells #[.int .u8 (pr % 256)] 5))) := hide (BW31.out.trans (AL32.out.mono (by rw [HBB.out]; have := BW31.out.size; omega))); have NC32 : Hid ((w31.alloc (.cells #[.int .u8 (pr % 256)] 5)).cell? ⟨w31.heap.size, 0, none⟩ = some (.int .u8 (((pr % 256).toNat : Nat) : Int))) := hide (by rw [show ((((pr % 256).toNat : Nat) : Int)) = (pr % 256) from EP0.out]; exact (Blk.newAt w31 w31.heap.size rfl #[.int .u8 (pr % 256)] 5).cell 0); have QT32 := hide (QT31.out.below AL32.out QT31.out.lt))
              | (at_builtin; refine append_ob _ rfl _ _ 67 rfl i0 Tryz.underlying67 hi hz0 hz1 hz2 _ _ rfl OA32.out ⟨w31.heap.size, 0, none⟩ 1 (pr % 256).toNat rfl NC32.out (by rw [List.length_map, List.length_append, bys_len]; have := hlT.out; have := hNVs.out; omega) ?_; intro v32 w32 hob32 hgr32 hown32; have BW32 : Hid (Below B W2 w32) := hide (BA32.out.grown hgr32 (by rw [HBB.out]; have := BA32.out.size; omega) (fun j hj => (Ob.lt OA32.out j hj).1)); have OB32 : Hid (Ob B w32 v32 ((((A1 ++ (ts.take i).flatMap (tabB ps)) ++ bys NV) ++ p1 (parB pr)).map UInt8.toNat)) := hide (by rw [List.map_append, byte_par pr PRB.out.1 (by have := PRB.out.2; omega)]; exact hob32); have QT33 := hide (ob_stay QT32.out OA32.out hgr32 (by decide)); have t2 := QT33.out.cell 2))
            have PM := hide (rPut2 (M : Int) w32)
            go_wp2_with fail
            refine PM.out.mono ?_
            rintro x w33 ⟨rfl, hb33⟩
            obtain ⟨MV, hMV⟩ : ∃ MV, MV = (⟨#[bN (M : Int) 1, bN (M : Int) 0]⟩ : ByteArray) := ⟨_, rfl⟩
            have HMV : Hid (bys MV = p2 (M : Int)) := hide (by rw [hMV]; rfl)
            have hMVs : Hid (MV.size = 2) := hide (by rw [hMV]; rfl)
            rw [← hMV]
            have O33 := hide (OB32.out.below hb33)
            have BW33 : Hid (Below B W2 w33) := hide (BW32.out.trans (hb33.mono (by rw [HBB.out]; exact BW32.out.size)))
            have QT34 := hide (QT33.out.below hb33 QT33.out.lt)
            have hb34 : Hid (B ≤ w33.heap.size) := hide (by rw [HBB.out]; have := BW33.out.size; omega)
            have DT33 : Hid (∀ X v, w33.grownBy X (Value.ownBlock v) → ∀ ys, Ob B w33 v ys → ∀ cs, Blk w33 wo.heap.size cs 31 → Blk X wo.heap.size cs 31) := hide (fun X v hg ys ho cs q => by
              have hap := ob_apart q ho (by decide)
              have hlt := q.lt
              unfold Blk at *
              rw [hg.block _ hlt hap]
              exact q)
            clear hb33 PM hMV t1 t2
            go_wp2_with (at_builtin; refine appendS_ob _ rfl _ _ 67 9 rfl i0 Tryz.underlying67 Tryz.underlying9 hi hz0 hz1 hz2 _ _ rfl O33.out MV rfl (by rw [List.length_map, List.length_append, List.length_append, bys_len]; have := hlT.out; have := hNVs.out; have := hMVs.out; have h3 : (p1 (parB pr)).length = 1 := rfl; omega) hb34.out ?_; intro v34 w34 hob34 hgr34; have BW34 : Hid (Below B W2 w34) := hide (BW33.out.grown hgr34 hb34.out (fun j hj => (Ob.lt O33.out j hj).1)); have OB34 : Hid (Ob B w34 v34 (((((A1 ++ (ts.take i).flatMap (tabB ps)) ++ bys NV) ++ p1 (parB pr)) ++ bys MV).map UInt8.toNat)) := hide (by rw [List.map_append]; exact hob34); have QT35 := hide (DT33.out _ _ hgr34 _ O33.out _ QT34.out); have t2 := QT35.out.cell 2)
            obtain ⟨AE, hAE⟩ : ∃ AE, AE = (((A1 ++ (ts.take i).flatMap (tabB ps)) ++ bys NV) ++ p1 (parB pr)) ++ bys MV := ⟨_, rfl⟩
            have OB35 := hide OB34.out
            rw [← hAE] at OB35
            have HAE := hide hAE
            have hlAE : Hid (AE.length ≤ 5000100) := hide (by rw [hAE, List.length_append, List.length_append, List.length_append, bys_len, bys_len]; have := hlT.out; have := hNVs.out; have := hMVs.out; have h3 : (p1 (parB pr)).length = 1 := rfl; omega)
            have QT36 : Hid (Blk w34 DT #[.string nm, .int .i64 pr, .slice ae M ce] 31) := hide (by rw [HDT.out]; exact QT35.out)
            simp only [← HDT.out]
            clear hAE t2
            go_loopw [6, 12] (fun y x wr => ∃ j : Nat, j ≤ M ∧ x = .int .i64 (j : Int) ∧ Hid (Ob B wr y ((AE ++ (es.take j).flatMap (entB ps)).map UInt8.toNat)) ∧ Hid (Below B W2 wr) ∧ Hid (Blk wr DT #[.string nm, .int .i64 pr, .slice ae M ce] 31)) (fun _ x _ => M - (intOf x).toNat)
            case atStart => exact ⟨0, Nat.zero_le _, rfl, hide (by have := OB35.out; simpa using this), BW34, QT36⟩
            case round =>
              obtain ⟨j, hj, rfl, HO3, HW3, QT3⟩ := hrel
              have s2 := QT3.out.cell 2
              by_cases hjl : j < M
              · have hjl' : (j : Int) < (M : Int) := by omega
                have hjt : j < es.length := by rw [← HM.out]; exact hjl
                obtain ⟨b2, o2, rfl, HECL⟩ : ∃ b2 o2, ae = some ⟨b2, o2, none⟩ ∧ Hid (∀ X, Below B W2 X → ∀ i, i < es.length → X.cell? ⟨b2, o2 + i * 4, none⟩ = some (.string (entN es i).key) ∧ X.cell? ⟨b2, o2 + i * 4 + 1, none⟩ = some (.int .i64 (entN es i).kind) ∧ X.cell? ⟨b2, o2 + i * 4 + 2, none⟩ = some (.string (entN es i).text) ∧ X.cell? ⟨b2, o2 + i * 4 + 3, none⟩ = some (.int .i64 (entN es i).num)) := by
                  rcases HEA.out with q | ⟨b2, o2, rfl, q, hcl⟩
                  · rw [q] at hjt; simp at hjt
                  · exact ⟨b2, o2, rfl, hide (fun X hX i hi => by
                      have hb := WW.out X hX
                      obtain ⟨z0, z1, z2, z3⟩ := hcl i hi
                      exact ⟨(hb.cell q).trans z0, (hb.cell q).trans z1, (hb.cell q).trans z2, (hb.cell q).trans z3⟩)⟩
                obtain ⟨x0, x1, x2, x3⟩ := HECL.out wr HW3.out j hjt
                have EX := hide (entsB_next ps es j hjt)
                have EK := hide (EIN.out j hjt)
                have KD1 := KDk.out j hjt
                obtain ⟨e, he0⟩ : ∃ e, e = entN es j := ⟨_, rfl⟩
                rw [← he0] at x0 x1 x2 x3 EX EK KD1
                clear he0
                obtain ⟨ek, en, et, em⟩ := e
                simp only [] at x0 x1 x2 x3 EK KD1
                obtain ⟨DX, hDX⟩ : ∃ DX, DX = wr.heap.size := ⟨_, rfl⟩
                obtain ⟨WB, hWB⟩ : ∃ WB, WB = wr.alloc (.cells #[.string ek, .int .i64 en, .string et, .int .i64 em] 33) := ⟨_, rfl⟩
                have BB : Hid (Below wr.heap.size wr WB) := hide (by rw [hWB]; exact (Below.refl _ _).alloc (Nat.le_refl _) _)
                have DB : Hid (Blk WB wr.heap.size #[.string ek, .int .i64 en, .string et, .int .i64 em] 33) := hide (by rw [hWB]; exact Blk.newAt _ _ rfl _ _)
                have hBwr : Hid (B ≤ wr.heap.size) := hide (by rw [HBB.out]; have := HW3.out.size; omega)
                have BWB : Hid (Below B W2 WB) := hide (HW3.out.trans (BB.out.mono hBwr.out))
                have OBB := hide (HO3.out.below BB.out)
                have QTB := hide (QT3.out.below BB.out QT3.out.lt)
                have hlE : Hid ((AE ++ (es.take j).flatMap (entB ps)).length ≤ 6000000) := hide (by
                  rw [List.length_append, entsB_len, List.length_take]
                  have h1 := hlAE.out
                  have h2 : min j es.length ≤ j := Nat.min_le_left _ _
                  omega)
                have NK := hide (rnumber2 ek (TXF.out WB BWB.out) HRI.out (by have := HPL.out; omega) (EK.out ek (by unfold entL; split <;> simp)))
                have d0 := DB.out.cell 0
                have HWB := hide hWB.symm
                obtain ⟨KV, hKV⟩ : ∃ KV, KV = put2 (placeS ps (bys ek) : Int) := ⟨_, rfl⟩
                rw [← hKV] at NK
                have HKV : Hid (bys KV = p2 (placeS ps (bys ek) : Int)) := hide (by rw [hKV]; rfl)
                have hKVs : Hid (KV.size = 2) := hide (by rw [hKV]; rfl)
                clear hWB hKV hDX
                go_wp2_with (simp only [HWB.out])
                refine NK.out.mono ?_
                rintro x w20 ⟨rfl, hb20⟩
                have O20 := hide (OBB.out.below hb20)
                have BW20 : Hid (Below B W2 w20) := hide (BWB.out.trans (hb20.mono (Nat.le_trans hBwr.out BB.out.size)))
                have D20 := hide (DB.out.below hb20 DB.out.lt)
                have QT20 := hide (QTB.out.below hb20 QTB.out.lt)
                have hb21 : Hid (B ≤ w20.heap.size) := hide (by rw [HBB.out]; have := BW20.out.size; omega)
                have DF20 : Hid (∀ X v, w20.grownBy X (Value.ownBlock v) → ∀ ys, Ob B w20 v ys → ∀ cs, Blk w20 wr.heap.size cs 33 → Blk X wr.heap.size cs 33) := hide (fun X v hg ys ho cs q => by
                  have hap := ob_apart q ho (by decide)
                  have hlt := q.lt
                  unfold Blk at *
                  rw [hg.block _ hlt hap]
                  exact q)
                have DT20 : Hid (∀ X v, w20.grownBy X (Value.ownBlock v) → ∀ ys, Ob B w20 v ys → ∀ cs, Blk w20 DT cs 31 → Blk X DT cs 31) := hide (fun X v hg ys ho cs q => by
                  have hap := ob_apart q ho (by decide)
                  have hlt := q.lt
                  unfold Blk at *
                  rw [hg.block _ hlt hap]
                  exact q)
                have e1 : en % 256 = en := by omega
                have en0 : ((en.toNat : Nat) : Int) = en := Int.toNat_of_nonneg KD1.1
                have EN0 := hide en0
                clear en0 hb20 NK d0 x0 x1 x2 x3
                by_cases hen : en = 1
                · subst hen
                  go_wp2_with (first
                    | (at_builtin; refine appendS_ob _ rfl _ _ 67 9 rfl i0 Tryz.underlying67 Tryz.underlying9 hi hz0 hz1 hz2 _ _ rfl O20.out KV rfl (by rw [List.length_map]; have := hlE.out; have := hKVs.out; omega) hb21.out ?_; intro v21 w21 hob21 hgr21; have BW21 : Hid (Below B W2 w21) := hide (BW20.out.grown hgr21 hb21.out (fun j hj => (Ob.lt O20.out j hj).1)); have OB21 : Hid (Ob B w21 v21 (((AE ++ (es.take j).flatMap (entB ps)) ++ bys KV).map UInt8.toNat)) := hide (by rw [List.map_append]; exact hob21); have D21 := hide (DF20.out _ _ hgr21 _ O20.out _ D20.out); have QT21 := hide (DT20.out _ _ hgr21 _ O20.out _ QT20.out); have d1 := D21.out.cell 1; have AL22 : Hid (Below w21.heap.size w21 (w21.alloc (.cells #[.int .u8 (1 : Int)] 5))) := hide ((Below.refl _ _).alloc (Nat.le_refl _) _); have OA22 := hide (OB21.out.below AL22.out); have BA22 : Hid (Below B W2 (w21.alloc (.cells #[.int .u8 (1 : Int)] 5))) := hide (BW21.out.trans (AL22.out.mono (by rw [HBB.out]; have := BW21.out.size; omega))); have NC22 : Hid ((w21.alloc (.cells #[.int .u8 (1 : Int)] 5)).cell? ⟨w21.heap.size, 0, none⟩ = some (.int .u8 ((1 : Nat) : Int))) := hide (by rw [show (((1 : Nat) : Int)) = (1 : Int) from rfl]; exact (Blk.newAt w21 w21.heap.size rfl #[.int .u8 (1 : Int)] 5).cell 0); have D22 := hide (D21.out.below AL22.out D21.out.lt); have QT22 := hide (QT21.out.below AL22.out QT21.out.lt))
                    | (at_builtin; refine append_ob _ rfl _ _ 67 rfl i0 Tryz.underlying67 hi hz0 hz1 hz2 _ _ rfl OA22.out ⟨w21.heap.size, 0, none⟩ 1 1 rfl NC22.out (by rw [List.length_map, List.length_append, bys_len]; have := hlE.out; have := hKVs.out; omega) ?_; intro v22 w22 hob22 hgr22 hown22; have BW22 : Hid (Below B W2 w22) := hide (BA22.out.grown hgr22 (by rw [HBB.out]; have := BA22.out.size; omega) (fun j hj => (Ob.lt OA22.out j hj).1)); have OB22 : Hid (Ob B w22 v22 ((((AE ++ (es.take j).flatMap (entB ps)) ++ bys KV) ++ p1 1).map UInt8.toNat)) := hide (by rw [List.map_append, byte_of 1 (by decide) (by decide)]; exact hob22); have D23 := hide (ob_stay D22.out OA22.out hgr22 (by decide)); have QT23 := hide (ob_stay QT22.out OA22.out hgr22 (by decide)); have f1 := D23.out.cell 1; have f3 := D23.out.cell 3))
                  have PN := hide (rPut4 em w22)
                  go_wp2_with fail
                  refine PN.out.mono ?_
                  rintro x wz ⟨rfl, hbz0⟩
                  obtain ⟨TV, hTV⟩ : ∃ TV, TV = (⟨#[bN em 3, bN em 2, bN em 1, bN em 0]⟩ : ByteArray) := ⟨_, rfl⟩
                  have HTV : Hid (bys TV = p4 em) := hide (by rw [hTV]; rfl)
                  have hTVs : Hid (TV.size = 4) := hide (by rw [hTV]; rfl)
                  rw [← hTV]
                  have Oz := hide (OB22.out.below hbz0)
                  have BWz : Hid (Below B W2 wz) := hide (BW22.out.trans (hbz0.mono (by rw [HBB.out]; exact BW22.out.size)))
                  have QTz := hide (QT23.out.below hbz0 QT23.out.lt)
                  have hlZ0 : ((((AE ++ (es.take j).flatMap (entB ps)) ++ bys KV) ++ p1 1).map UInt8.toNat).length ≤ 7000000 := by rw [List.length_map, List.length_append, List.length_append, bys_len]; have := hlE.out; have := hKVs.out; have h3 : (p1 1).length = 1 := rfl; omega
                  obtain ⟨LZ, hLZ⟩ : ∃ LZ, LZ = ((AE ++ (es.take j).flatMap (entB ps)) ++ bys KV) ++ p1 1 := ⟨_, rfl⟩
                  rw [← hLZ] at Oz hlZ0
                  have HLZ := hide hLZ
                  have hlZ := hide hlZ0
                  clear hbz0 PN hTV f1 f3 hLZ hlZ0 d1 e1
                  have hbz : Hid (B ≤ wz.heap.size) := hide (by rw [HBB.out]; have := BWz.out.size; omega)
                  have DFz : Hid (∀ X v, wz.grownBy X (Value.ownBlock v) → ∀ ys, Ob B wz v ys → Blk X DT #[.string nm, .int .i64 pr, .slice (some ⟨b2, o2, none⟩) M ce] 31) := hide (fun X v hg ys ho => by
                    have hap := ob_apart QTz.out ho (by decide)
                    have q := QTz.out
                    have hlt := q.lt
                    unfold Blk at *
                    rw [hg.block _ hlt hap]
                    exact q)
                  go_wp2_with (at_builtin; refine appendS_ob _ rfl _ _ 67 9 rfl i0 Tryz.underlying67 Tryz.underlying9 hi hz0 hz1 hz2 _ _ rfl Oz.out TV rfl (by have := hlZ.out; have := hTVs.out; omega) hbz.out ?_; intro v25 w25 hob25 hgr25; have BW25 : Hid (Below B W2 w25) := hide (BWz.out.grown hgr25 hbz.out (fun j hj => (Ob.lt Oz.out j hj).1)); have OB25 : Hid (Ob B w25 v25 ((LZ ++ bys TV).map UInt8.toNat)) := hide (by rw [List.map_append]; exact hob25))
                  have QT25 := hide (DFz.out _ _ hgr25 _ Oz.out)
                  refine ⟨⟨j + 1, by omega, by go_num, hide ?_, BW25, QT25⟩, by simp [intOf]; omega⟩
                  have hE := OB25.out
                  rw [HLZ.out] at hE
                  rw [EX.out, show entB ps ⟨ek, 1, et, em⟩ = p2 (placeS ps (bys ek)) ++ p1 1 ++ (if 1 = 1 then p4 em else p4 (placeS ps (bys et))) from rfl]
                  rw [if_pos rfl, ← HKV.out, ← HTV.out]
                  simpa using hE
                · have hen' : (en == 1) = false := beq_eq_false_iff_ne.2 hen
                  go_wp2_with (first
                    | (at_builtin; refine appendS_ob _ rfl _ _ 67 9 rfl i0 Tryz.underlying67 Tryz.underlying9 hi hz0 hz1 hz2 _ _ rfl O20.out KV rfl (by rw [List.length_map]; have := hlE.out; have := hKVs.out; omega) hb21.out ?_; intro v21 w21 hob21 hgr21; have BW21 : Hid (Below B W2 w21) := hide (BW20.out.grown hgr21 hb21.out (fun j hj => (Ob.lt O20.out j hj).1)); have OB21 : Hid (Ob B w21 v21 (((AE ++ (es.take j).flatMap (entB ps)) ++ bys KV).map UInt8.toNat)) := hide (by rw [List.map_append]; exact hob21); have D21 := hide (DF20.out _ _ hgr21 _ O20.out _ D20.out); have QT21 := hide (DT20.out _ _ hgr21 _ O20.out _ QT20.out); have d1 := D21.out.cell 1; have AL22 : Hid (Below w21.heap.size w21 (w21.alloc (.cells #[.int .u8 (en : Int)] 5))) := hide ((Below.refl _ _).alloc (Nat.le_refl _) _); have OA22 := hide (OB21.out.below AL22.out); have BA22 : Hid (Below B W2 (w21.alloc (.cells #[.int .u8 (en : Int)] 5))) := hide (BW21.out.trans (AL22.out.mono (by rw [HBB.out]; have := BW21.out.size; omega))); have NC22 : Hid ((w21.alloc (.cells #[.int .u8 (en : Int)] 5)).cell? ⟨w21.heap.size, 0, none⟩ = some (.int .u8 ((en.toNat : Nat) : Int))) := hide (by rw [show (((en.toNat : Nat) : Int)) = (en : Int) from EN0.out]; exact (Blk.newAt w21 w21.heap.size rfl #[.int .u8 (en : Int)] 5).cell 0); have D22 := hide (D21.out.below AL22.out D21.out.lt); have QT22 := hide (QT21.out.below AL22.out QT21.out.lt))
                    | (at_builtin; refine append_ob _ rfl _ _ 67 rfl i0 Tryz.underlying67 hi hz0 hz1 hz2 _ _ rfl OA22.out ⟨w21.heap.size, 0, none⟩ 1 en.toNat rfl NC22.out (by rw [List.length_map, List.length_append, bys_len]; have := hlE.out; have := hKVs.out; omega) ?_; intro v22 w22 hob22 hgr22 hown22; have BW22 : Hid (Below B W2 w22) := hide (BA22.out.grown hgr22 (by rw [HBB.out]; have := BA22.out.size; omega) (fun j hj => (Ob.lt OA22.out j hj).1)); have OB22 : Hid (Ob B w22 v22 ((((AE ++ (es.take j).flatMap (entB ps)) ++ bys KV) ++ p1 en).map UInt8.toNat)) := hide (by rw [List.map_append, byte_of en KD1.1 (by omega)]; exact hob22); have D23 := hide (ob_stay D22.out OA22.out hgr22 (by decide)); have QT23 := hide (ob_stay QT22.out OA22.out hgr22 (by decide)); have f1 := D23.out.cell 1; have f2 := D23.out.cell 2))
                  have PN := hide (rnumber4 et (TXF.out w22 BW22.out) HRI.out (by have := HPL.out; omega) (EK.out et (by unfold entL; rw [if_neg hen]; simp)))
                  obtain ⟨TV, hTV⟩ : ∃ TV, TV = put4 (placeS ps (bys et) : Int) := ⟨_, rfl⟩
                  rw [← hTV] at PN
                  have HTV : Hid (bys TV = p4 (placeS ps (bys et) : Int)) := hide (by rw [hTV]; rfl)
                  have hTVs : Hid (TV.size = 4) := hide (by rw [hTV]; rfl)
                  go_wp2_with fail
                  refine PN.out.mono ?_
                  rintro x wz ⟨rfl, hbz0⟩
                  have Oz := hide (OB22.out.below hbz0)
                  have BWz : Hid (Below B W2 wz) := hide (BW22.out.trans (hbz0.mono (by rw [HBB.out]; exact BW22.out.size)))
                  have QTz := hide (QT23.out.below hbz0 QT23.out.lt)
                  have hlZ0 : ((((AE ++ (es.take j).flatMap (entB ps)) ++ bys KV) ++ p1 en).map UInt8.toNat).length ≤ 7000000 := by rw [List.length_map, List.length_append, List.length_append, bys_len]; have := hlE.out; have := hKVs.out; have h3 : (p1 en).length = 1 := rfl; omega
                  obtain ⟨LZ, hLZ⟩ : ∃ LZ, LZ = ((AE ++ (es.take j).flatMap (entB ps)) ++ bys KV) ++ p1 en := ⟨_, rfl⟩
                  rw [← hLZ] at Oz hlZ0
                  have HLZ := hide hLZ
                  have hlZ := hide hlZ0
                  have HEN := hide hen
                  clear hbz0 PN hTV f1 f2 hLZ hlZ0 d1 e1 hen hen'
                  have hbz : Hid (B ≤ wz.heap.size) := hide (by rw [HBB.out]; have := BWz.out.size; omega)
                  have DFz : Hid (∀ X v, wz.grownBy X (Value.ownBlock v) → ∀ ys, Ob B wz v ys → Blk X DT #[.string nm, .int .i64 pr, .slice (some ⟨b2, o2, none⟩) M ce] 31) := hide (fun X v hg ys ho => by
                    have hap := ob_apart QTz.out ho (by decide)
                    have q := QTz.out
                    have hlt := q.lt
                    unfold Blk at *
                    rw [hg.block _ hlt hap]
                    exact q)
                  go_wp2_with (at_builtin; refine appendS_ob _ rfl _ _ 67 9 rfl i0 Tryz.underlying67 Tryz.underlying9 hi hz0 hz1 hz2 _ _ rfl Oz.out TV rfl (by have := hlZ.out; have := hTVs.out; omega) hbz.out ?_; intro v25 w25 hob25 hgr25; have BW25 : Hid (Below B W2 w25) := hide (BWz.out.grown hgr25 hbz.out (fun j hj => (Ob.lt Oz.out j hj).1)); have OB25 : Hid (Ob B w25 v25 ((LZ ++ bys TV).map UInt8.toNat)) := hide (by rw [List.map_append]; exact hob25))
                  have QT25 := hide (DFz.out _ _ hgr25 _ Oz.out)
                  refine ⟨⟨j + 1, by omega, by go_num, hide ?_, BW25, QT25⟩, by simp [intOf]; omega⟩
                  have hE := OB25.out
                  rw [HLZ.out] at hE
                  rw [EX.out, show entB ps ⟨ek, en, et, em⟩ = p2 (placeS ps (bys ek)) ++ p1 en ++ (if en = 1 then p4 em else p4 (placeS ps (bys et))) from rfl]
                  rw [if_neg HEN.out, ← HKV.out, ← HTV.out]
                  simpa using hE
              · obtain rfl : j = M := by omega
                have hjl' : ¬ (j : Int) < (j : Int) := by omega
                have r2 := (PW.out wr HW3.out).cell 0
                clear hjl
                go_wp2
                refine ⟨⟨i + 1, by omega, by go_num, hide ?_, HW3⟩, by simp [intOf]; omega⟩
                have hE := HO3.out
                rw [HM.out, List.take_length, HAE.out] at hE
                have TE : tabB ps ⟨nm, pr, es⟩ = p2 (placeS ps (bys nm)) ++ p1 (parB pr) ++ p2 (es.length : Int) ++ es.flatMap (entB ps) := rfl
                rw [NX.out, TE, ← HNV.out, ← HM.out, ← HMV.out]
                simpa using hE
          · obtain rfl : i = L := by omega
            have hil' : ¬ (i : Int) < (i : Int) := by omega
            have HF : Hid ((A1 ++ (ts.take i).flatMap (tabB ps)) = encT ts) := hide (by
              rw [HL.out, List.take_length, HA1.out, HN.out, HL.out]
              unfold encT
              rw [← HPS.out])
            have OF := HO2.out
            rw [HF.out] at OF
            obtain ⟨gf, cf, hv6⟩ : ∃ gf cf, u6 = .slice (some ⟨gf, 0, none⟩) ((encT ts).map UInt8.toNat).length cf := by
              obtain ⟨g, cap, cur, fz, h1, _⟩ := OF
              exact ⟨g, cap, h1⟩
            subst hv6
            have CV := convB_ob OF
            generalize ((encT ts).map UInt8.toNat).length = lf at *
            have BE := hide (WW.out wr HW.out)
            clear hil HF OF HO2
            go_wp2
            go_ret2
            exact ⟨by rw [EA.out]; rfl, BE.out⟩
  · have hC' : ((checkT ts : Int) == 0) = false := beq_eq_false_iff_ne.2 (by omega)
    have hC2 : ((checkT ts : Int) != 0) = true := by rw [bne, hC']; rfl
    have EA : Hid (encA ts = .tuple #[.string ⟨#[]⟩, .int .i64 (checkT ts : Int)]) := hide (by unfold encA; rw [if_neg hC])
    rw [EA.out]
    generalize checkT ts = C at *
    go_enter Tryz.func14, Tryz.ntmps14
    go_wp2_with (simp only [HWA.out])
    refine CK.out.mono ?_
    rintro x w1 ⟨rfl, hb1⟩
    have B1 := hide (BA.out.trans (hb1.mono BA.out.size))
    clear hb1 CK q0
    go_wp2
    go_ret2
    exact ⟨rfl, B1.out⟩

end Go.Proofs.YtihnakblcfealaaGreatDoor
