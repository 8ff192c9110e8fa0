/-
  What quipuref16's Pieces answers.
  What quipuref16's Pieces and digits' Pieces answer, of whatever is shown.
-/
import Derived.Test.YtionbkmbhhlmjaaGreatDoorPB17
import Derived.Test.YtionbkmbhhlmjaaGreatDoorPB21
namespace Go.Proofs.YtionbkmbhhlmjaaGreatDoor
open Go.RowKit

structure PcF (b : Nat) (tf : ByteArray) (SC : Array Value) (w : World) : Prop where
  rng : w.rangeAt (b + 1) 0 SC.toList
  frac : w.cell? ⟨b, 3, none⟩ = some (.string tf)

def RefR (s : Sy) (ds : List UInt8) (P1 : List Pc) (N : Nat) (first further least : Int) (a i : Nat) (acc : List Pc) (L : List Nat) : Prop :=
  Rem N first further least a L ∧ acc ++ intP s L (ds.drop a) = P1 ∧ (a = N → i = N + 1) ∧ ∀ z L', L = z :: L' → i ≤ a + z

theorem bys_cutD (t : ByteArray) (i n : Nat) : bys (t.extract i (i + n)) = ((bys t).drop i).take n := by
  unfold bys
  simp [ByteArray.data_extract, Array.toList_extract, List.extract_eq_take_drop]
theorem digB_part {l : List UInt8} (h : DigB l) (a k : Nat) : DigB ((l.drop a).take k) := fun j hj => by
  rw [List.length_take, List.length_drop] at hj
  have := h (a + j) (by omega)
  have e : byt ((l.drop a).take k) j = byt l (a + j) := by
    unfold byt
    rw [List.getElem?_take_of_lt (by omega), List.getElem?_drop]
  rw [e]
  exact this

set_option maxRecDepth 100000 in
set_option maxHeartbeats 16000000 in
theorem rpieces_fin (n : Bool) (ti tf : ByteArray) (x : Int) (cm : Bool) (s : Sy) (first further least : Int) (al : Bool) (w : World) (h : MayS ⟨0, n, bys ti, bys tf, x, cm⟩) (hf : first ≤ 9223372036854775807) (hu : further ≤ 9223372036854775807) (hwi : (wrL s (bys ti)).length ≤ 100000000000) (hwf : (wrL s (bys tf)).length ≤ 100000000000) :
    Calls Tryz.prog 10 #[shV 0 n ti tf x cm, symV s, .int .i64 first, .int .i64 further, .int .i64 least, .bool al] w fun e w' => (∃ v, e = .returned v ∧ w'.ownsRow w.heap.size 34 2 v (intP s (szG (bys ti).length first further least) (bys ti) ++ fraP s ⟨0, n, bys ti, bys tf, x, cm⟩ al).length (cellsP (intP s (szG (bys ti).length first further least) (bys ti) ++ fraP s ⟨0, n, bys ti, bys tf, x, cm⟩ al))) ∧ Below w.heap.size w w' := by
  obtain ⟨hdi, hdf, hli, hlf⟩ : DigB (bys ti) ∧ DigB (bys tf) ∧ ti.size ≤ 4096 ∧ tf.size ≤ 4096 := by
    obtain ⟨_, ⟨_, _, ⟨h1, h2⟩, ⟨h3, h4⟩⟩ | ⟨h1, _⟩ | ⟨h1, _⟩⟩ := h
    · simp only [bys_len] at h1 h2 h3 h4
      exact ⟨h2, h4, h1, h3⟩
    · exact absurd (show (0 : Int) = 1 from h1) (by decide)
    · exact absurd (show (0 : Int) = 2 from h1) (by decide)
  obtain ⟨SC, hSC⟩ : ∃ SC, SC = symC s := ⟨_, rfl⟩
  obtain ⟨W, hW⟩ : ∃ W, W = (w.alloc (.cells #[.int .i64 0, .bool n, .string ti, .string tf, .int .i64 x, .bool cm] 23)).alloc (.cells SC 26) := ⟨_, rfl⟩
  have BX0 := hide (show Blk W w.heap.size #[.int .i64 0, .bool n, .string ti, .string tf, .int .i64 x, .bool cm] 23 by rw [hW]; exact (Blk.newAt w w.heap.size rfl _ _).alloc _)
  have BY0 := hide (show Blk W (w.heap.size + 1) SC 26 by rw [hW]; exact Blk.newAt _ _ (by simp) _ _)
  have HB0 : Hid (Below w.heap.size w W) := hide (by rw [hW]; exact ((Below.refl _ _).alloc (Nat.le_refl _) _).alloc (by simp) _)
  have NW : W.heap.size = w.heap.size + 2 := by rw [hW]; simp
  obtain ⟨W2, hW2⟩ : ∃ W2, W2 = W.alloc (.cells #[] 34) := ⟨_, rfl⟩
  have B12 : Below W.heap.size W W2 := by rw [hW2]; exact (Below.refl _ _).alloc (Nat.le_refl _) _
  have BX2 := Blk.on BX0 B12
  have BY2 := Blk.on BY0 B12
  have O2 : Hid (W2.ownsRow (w.heap.size + 2) 34 2 (.slice (some ⟨W.heap.size, 0, none⟩) 0 0) 0 (cellsP [])) := hide (by rw [hW2]; exact World.ownsRow_made W #[] 0 (by omega) (by decide) rfl)
  have HB2 := hide (HB0.out.trans (B12.mono HB0.out.size))
  have HM := hide (rmayS_T 0 n ti tf x cm W2 h)
  have HW := hide hW.symm
  have HW2 := hide hW2.symm
  have SL : SC.toList.length = 21 := by rw [hSC]; rfl
  have C10 : Hid (SC[10]? = some (.string s.dec) ∧ SC[11]? = some (.string s.grp)) := hide (by rw [hSC]; exact ⟨rfl, rfl⟩)
  have SI : (Tryz.prog.info? 26).map (·.size) = some SC.toList.length := by rw [SL]; exact symInfo
  have WR : Hid (∀ (t : ByteArray) X, DigB (bys t) → t.size ≤ 4096 → (wrL s (bys t)).length ≤ 100000000000 → Calls Tryz.prog 17 #[.string t, .agg SC] X fun e w' => e = .returned (.string (mkP (wrL s (bys t)))) ∧ Below X.heap.size X w') := hide (fun t X h1 h2 h3 => by
    rw [hSC]
    exact rWrite_any t s X h1 (by omega) h3)
  obtain ⟨N, hN⟩ : ∃ N, N = ti.size := ⟨_, rfl⟩
  have hNl : (bys ti).length = N := by rw [bys_len, hN]
  have R0 := hide (Rem.start N first further least)
  obtain ⟨L0, hL0⟩ : ∃ L0, L0 = szG N first further least := ⟨_, rfl⟩
  obtain ⟨P1, hP1⟩ : ∃ P1, P1 = intP s L0 (bys ti) := ⟨_, rfl⟩
  have hP1l : P1.length ≤ 8192 := by
    have h1 := intP_len s L0 (bys ti)
    have h2 := szG_le N first further least
    rw [← hP1, hL0] at h1
    omega
  rw [hNl, ← hL0, ← hP1]
  rw [← hL0] at R0
  have TB : Hid (intP s L0 ((bys ti).drop 0) = P1) := hide (by rw [hP1, List.drop_zero])
  have ST : Hid (∀ a L, Rem N first further least a L → a < N → ∃ z L', L = z :: L' ∧ 0 < z ∧ a + z ≤ N ∧ Rem N first further least (a + z) L' ∧ (∀ i, a < i → i ≤ a + z → (decide (i = N) || befB N first further least ((N : Int) - i)) = decide (i = a + z)) ∧ (L' = [] ↔ a + z = N) ∧ intP s L ((bys ti).drop a) = oneP (mkP (wrL s (((bys ti).drop a).take z))) 2 ++ (if a + z = N then [] else oneP s.grp 3 ++ intP s L' ((bys ti).drop (a + z)))) := hide (fun a L h h' => by
    obtain ⟨z, L', h1, h2, h3, _, h5, h6, h7⟩ := h.step h'
    refine ⟨z, L', h1, h2, h3, h5, h6, h7, ?_⟩
    rw [h1, intP, intT_eq, List.drop_drop]
    by_cases hz : L' = []
    · rw [if_pos hz, if_pos (h7.1 hz)]
    · rw [if_neg hz, if_neg (fun e => hz (h7.2 e))])
  have WG0 : Hid (∀ a i X, a ≤ i → i ≤ N → Calls Tryz.prog 17 #[.string (ti.extract a i), .agg SC] X fun e w' => e = .returned (.string (mkP (wrL s (((bys ti).drop a).take (i - a))))) ∧ Below X.heap.size X w') := hide (fun a i X h1 h2 => by
    have eb : bys (ti.extract a i) = ((bys ti).drop a).take (i - a) := by
      have := bys_cutD ti a (i - a)
      rwa [show a + (i - a) = i by omega] at this
    have q := WR.out (ti.extract a i) X (by rw [eb]; exact digB_part hdi a (i - a)) (by rw [ByteArray.size_extract]; omega) (by rw [eb]; exact Nat.le_trans (wrL_part s (bys ti) a (i - a)) hwi)
    rw [eb] at q
    exact q)
  have BF : Hid (∀ i X, i ≤ N → Calls Tryz.prog 20 #[.int .i64 ((N : Int) - (i : Int)), .int .i64 (N : Int), .int .i64 first, .int .i64 further, .int .i64 least] X fun e w' => e = .returned (.bool (befB N first further least ((N : Int) - i))) ∧ w' = X) := hide (fun i X h1 => by
    have q := rBefore_any (N - i) N first further least X (by omega) (by omega) hf hu
    rwa [show ((N - i : Nat) : Int) = (N : Int) - (i : Int) by omega] at q)
  have EV : symV s = .agg SC := by rw [hSC]; rfl
  rw [EV]
  clear h hW hW2 B12 EV SL hSC BX0 BY0 HB0 hNl hL0 hP1 hf hu hwi hdi
  obtain ⟨x_0, x_1, x_2, x_3, x_4, x_5⟩ := shown6 BX2.out
  go_enter Tryz.func10, Tryz.ntmps10
  go_wp2_with (first | simp only [HW.out] | simp only [HW2.out])
  refine HM.out.mono ?_
  rintro e w1 ⟨rfl, hb1⟩
  have BX1 := Blk.on BX2 hb1
  have BY1 := Blk.on BY2 hb1
  have O1 := hide (ownD_below O2.out hb1)
  rw [NW] at O1
  have HB1 := hide (HB2.out.trans (hb1.mono HB2.out.size))
  have hS1 : w.heap.size + 2 ≤ w1.heap.size := by have := hb1.size; have := BY2.out.lt; omega
  clear x_0 x_1 x_2 x_3 x_4 x_5 hb1 BX2 BY2 O2 HB2 HM HW HW2
  obtain ⟨x_0, x_1, x_2, x_3, x_4, x_5⟩ := shown6 BX1.out
  have L1 : Hid (∀ z L', L0 = z :: L' → 1 ≤ 0 + z) := hide (fun z L' h => by
    rcases Nat.eq_zero_or_pos N with h0 | h0
    · subst h0; have := R0.out.done; rw [h] at this; cases this
    · obtain ⟨z', L'', h1, h2, _⟩ := ST.out 0 L0 R0.out h0
      rw [h] at h1
      injection h1 with h1 _
      omega)
  subst hN
  go_wp2
  clear x_0 x_1 x_2 x_3 x_4 x_5
  go_loopw [13, 15, 16] (fun l fr q wr => ∃ (a i k : Nat) (uo : Option Addr) (uc : Nat) (acc : List Pc) (L : List Nat), l = .slice uo k uc ∧ fr = .int .i64 (a : Int) ∧ q = .int .i64 (i : Int) ∧ a < i ∧ i ≤ ti.size + 1 ∧ acc.length ≤ 2 * a ∧ Hid (k = acc.length) ∧ Hid (RefR s (bys ti) P1 ti.size first further least a i acc L) ∧ Hid (Blk wr w.heap.size #[.int .i64 0, .bool n, .string ti, .string tf, .int .i64 x, .bool cm] 23) ∧ Hid (Blk wr (w.heap.size + 1) SC 26) ∧ Hid (wr.ownsRow (w.heap.size + 2) 34 2 (.slice uo k uc) k (cellsP acc)) ∧ Hid (Below w.heap.size w wr) ∧ w.heap.size + 2 ≤ wr.heap.size) (fun _ _ q _ => ti.size + 1 - (intOf q).toNat)
  case atStart => exact ⟨0, 1, 0, _, _, [], L0, rfl, rfl, rfl, by omega, by omega, by simp, hide rfl, hide ⟨R0.out, by rw [List.nil_append]; exact TB.out, fun h => by omega, L1.out⟩, BX1, BY1, O1, HB1, hS1⟩
  case round =>
    clear BX1 BY1 O1 HB1 hS1 R0 TB L1
    obtain ⟨a, i, k, uo, uc, acc, L, rfl, rfl, rfl, hai, hiN, hacc, ACL, RM, BX, BY, OW, HB, hS1⟩ := hrel
    by_cases hlt : i ≤ ti.size
    · have haN : a < ti.size := by omega
      obtain ⟨z, L', rfl, hz, hazN, hrm, hcut, hend, hint⟩ := ST.out a L RM.out.1 haN
      have hiz : i ≤ a + z := RM.out.2.2.2 z L' rfl
      have hlt' : (i : Int) ≤ (ti.size : Int) := by omega
      have CT := hcut i hai hiz
      obtain ⟨g, hg⟩ : ∃ g, g = mkP (wrL s (((bys ti).drop a).take z)) := ⟨_, rfl⟩
      rw [← hg] at hint
      have hg1 := oneP_len g 2
      have hg2 := oneP_len s.grp 3
      obtain ⟨x_0, x_1, x_2, x_3, x_4, x_5⟩ := shown6 BX.out
      by_cases hin : i = ti.size
      · obtain rfl := hin
        have haz : a + z = ti.size := by omega
        have WG := hide (fun X => WG0.out a ti.size X (by omega) (Nat.le_refl _))
        rw [show ti.size - a = z by omega, ← hg] at WG
        have RM2 : Hid (RefR s (bys ti) P1 ti.size first further least ti.size (ti.size + 1) (acc ++ oneP g 2) L') := hide (by
          have e := hend.2 haz
          subst e
          refine ⟨by have q := hrm; rw [haz] at q; exact q, ?_, fun _ => rfl, fun z L'' h => by cases h⟩
          rw [← RM.out.2.1, hint, if_pos haz, List.append_nil]
          simp [intP])
        have hai' : (a : Int) ≤ (ti.size : Int) := by omega
        clear CT hcut hend hint hrm RM ST WG0 BF hg
        obtain ⟨xt, hxt⟩ : ∃ xt, xt = ti.extract a ti.size := ⟨_, rfl⟩
        have hxs := hxt.symm
        obtain ⟨A2, hA2⟩ : ∃ A2, A2 = acc ++ oneP g 2 := ⟨_, rfl⟩
        obtain ⟨k2, hk2⟩ : ∃ k2, k2 = A2.length := ⟨_, rfl⟩
        have ACL2 := hide hk2
        have HA2 := hide hA2
        have WG1 : Hid (∀ X, Calls Tryz.prog 17 #[.string xt, .agg SC] X fun e w' => e = .returned (.string g) ∧ Below X.heap.size X w') := hide (fun X => by rw [hxt]; exact WG.out X)
        have hS0 : PcS w.heap.size ti s.grp SC wr.drew := ⟨(BY.out.below (Below.refl _ _).drew BY.out.lt).range, (BX.out.below (Below.refl _ _).drew BX.out.lt).cell 2, ((BY.out.below (Below.refl _ _).drew BY.out.lt).cell 11).trans C10.out.2⟩
        have CW : Hid (∀ X, Below wr.heap.size wr X → Calls Tryz.prog 17 #[.string xt, .agg SC] X fun e w' => e = .returned (.string g) ∧ Hid (Below wr.heap.size wr w') ∧ PcS w.heap.size ti s.grp SC w') := hide (fun X hX => by
          refine (WG1.out X).mono ?_
          rintro e w' ⟨h1, hb⟩
          have bb := hX.trans (hb.mono hX.size)
          exact ⟨h1, hide bb, (BY.out.below bb BY.out.lt).range, (BX.out.below bb BX.out.lt).cell 2, ((BY.out.below bb BY.out.lt).cell 11).trans C10.out.2⟩)
        have CA : Hid (∀ X, Hid (Below wr.heap.size wr X) → Calls Tryz.prog 19 #[.slice uo k uc, .string g, .int .i64 2] X fun e w' => (∃ uo2 uc2, e = .returned (.slice uo2 k2 uc2) ∧ Hid (w'.ownsRow (w.heap.size + 2) 34 2 (.slice uo2 k2 uc2) k2 (cellsP A2))) ∧ Hid (Below (w.heap.size + 2) wr w') ∧ PcS w.heap.size ti s.grp SC w') := hide (fun X hX => by
          refine (raddP_any (v := .slice uo k uc) acc g 2 (by rw [← ACL.out]; exact ownD_below OW.out hX.out) (by have := hX.out.size; omega) (by have := ACL.out; omega)).mono ?_
          rintro e w' ⟨⟨v', h1, ho⟩, hb⟩
          rw [← HA2.out, ← ACL2.out] at ho
          obtain ⟨uo2, uc2, rfl⟩ := ownD_slice ho
          have bb := (hX.out.mono hS1).trans hb
          exact ⟨⟨uo2, uc2, h1, hide ho⟩, hide bb, (BY.out.below bb (by omega)).range, (BX.out.below bb (by omega)).cell 2, ((BY.out.below bb (by omega)).cell 11).trans C10.out.2⟩)
        clear hxt hA2 hk2 WG WG1
        go_wp2_with fail
        refine wp_region_held_drew (S := PcS w.heap.size ti s.grp SC) (by kernel_rfl) ?_ (fun hHeld => ?_)
        · assumption
        refine wpAnyH_take (i := 0) (oi := Oper.mk (some 60) _ _ _ _ _) (v := .slice uo k uc) rfl (by kernel_rfl) (by kernel_rfl) (by kernel_rfl) (fun _ _ _ h => h) (Or.inl ⟨by rfl, ?_⟩) (by assumption) ?_
        · intro wX hSw
          (try dsimp only at hSw)
          go_simp
        simp only [Act.put, List.setIfInBounds_toArray, List.set_cons_succ, List.set_cons_zero]
        refine wpAnyH_take (i := 1) (oi := Oper.mk (some 61) _ _ _ _ _) (v := .pointer (some ⟨w.heap.size, 2, none⟩)) rfl (by kernel_rfl) (by kernel_rfl) (by kernel_rfl) (fun _ _ _ h => h) (Or.inl ⟨by rfl, ?_⟩) (by assumption) ?_
        · intro wX hSw
          (try dsimp only at hSw)
          go_simp
        simp only [Act.put, List.setIfInBounds_toArray, List.set_cons_succ, List.set_cons_zero]
        refine wpAnyH_take (i := 2) (oi := Oper.mk (some 62) _ _ _ _ _) (v := .string ti) rfl (by kernel_rfl) (by kernel_rfl) (by kernel_rfl) (fun _ _ _ h => h) (Or.inl ⟨by rfl, ?_⟩) (by assumption) ?_
        · intro wX hSw
          (try dsimp only at hSw)
          have hq := hSw.int
          go_simp
        simp only [Act.put, List.setIfInBounds_toArray, List.set_cons_succ, List.set_cons_zero]
        refine wpAnyH_take (i := 3) (oi := Oper.mk (some 63) _ _ _ _ _) (v := .int .i64 (a : Int)) rfl (by kernel_rfl) (by kernel_rfl) (by kernel_rfl) (fun _ _ _ h => h) (Or.inl ⟨by rfl, ?_⟩) (by assumption) ?_
        · intro wX hSw
          (try dsimp only at hSw)
          go_simp
        simp only [Act.put, List.setIfInBounds_toArray, List.set_cons_succ, List.set_cons_zero]
        refine wpAnyH_take (i := 4) (oi := Oper.mk (some 64) _ _ _ _ _) (v := .int .i64 (ti.size : Int)) rfl (by kernel_rfl) (by kernel_rfl) (by kernel_rfl) (fun _ _ _ h => h) (Or.inl ⟨by rfl, ?_⟩) (by assumption) ?_
        · intro wX hSw
          (try dsimp only at hSw)
          go_simp
        simp only [Act.put, List.setIfInBounds_toArray, List.set_cons_succ, List.set_cons_zero]
        refine wpAnyH_take (i := 5) (oi := Oper.mk (some 65) _ _ _ _ _) (v := .string xt) rfl (by kernel_rfl) (by kernel_rfl) (by kernel_rfl) (fun _ _ _ h => h) (Or.inl ⟨by rfl, ?_⟩) (by assumption) ?_
        · intro wX hSw
          (try dsimp only at hSw)
          go_simp
        simp only [Act.put, List.setIfInBounds_toArray, List.set_cons_succ, List.set_cons_zero]
        refine wpAnyH_take (i := 6) (oi := Oper.mk (some 66) _ _ _ _ _) (v := .agg SC.toList.toArray) rfl (by kernel_rfl) (by kernel_rfl) (by kernel_rfl) (fun _ _ _ h => h) (yieldsIf_load_mid (by rfl) _ _ rfl _ _ rfl SC.toList _ (fun _ hw => hw.rng) Tryz.underlying26 rfl SI) (by assumption) ?_
        rw [Array.toArray_toList]
        simp only [Act.put, List.setIfInBounds_toArray, List.set_cons_succ, List.set_cons_zero]
        refine wpAnyH_ready (rs := [7]) (by kernel_rfl) (by simp) ?_
        refine AllReadyH.cons (o := Oper.mk (some 67) _ _ _ _ _) rfl (fun K hK => ?_) AllReadyH.nil
        go_simp
        refine (CW.out _ (Below.refl _ _).drew).mono ?_
        rintro e wa ⟨rfl, b1, s1⟩
        refine hK.out _ _ ?_ (fun hHeld => ?_)
        · assumption
        clear hK K
        refine wpAnyH_ready (rs := [8]) (by kernel_rfl) (by simp) ?_
        refine AllReadyH.cons (o := Oper.mk (some 68) _ _ _ _ _) rfl (fun K hK => ?_) AllReadyH.nil
        go_simp
        refine (CA.out _ b1).mono ?_
        rintro e wb ⟨⟨uo2, uc2, rfl, o2⟩, b2, s2⟩
        refine hK.out _ _ ?_ (fun hHeld => ?_)
        · assumption
        clear hK K
        refine wpAnyH_take (i := 9) (oi := Oper.mk (some 13) _ _ _ _ _) (v := .slice uo2 k2 uc2) rfl (by kernel_rfl) (by kernel_rfl) (by kernel_rfl) (fun _ _ _ h => h) (Or.inl ⟨by rfl, ?_⟩) (by assumption) ?_
        · intro wX hSw
          (try dsimp only at hSw)
          go_simp
        simp only [Act.put, List.setIfInBounds_toArray, List.set_cons_succ, List.set_cons_zero]
        refine wpAnyH_done (by kernel_rfl) ?_ _
        have BXb := hide (BX.out.below b2.out (by omega))
        have BYb := hide (BY.out.below b2.out (by omega))
        have HBb := hide (HB.out.trans (b2.out.mono (by omega)))
        have hSb : w.heap.size + 2 ≤ wb.heap.size := Nat.le_trans hS1 b2.out.size
        clear CW CA hS0 hHeld hxs b1 s1 s2 b2 BX BY HB OW
        go_wp2
        exact ⟨⟨ti.size, ti.size + 1, _, uo2, uc2, _, L', rfl, rfl, by go_num, by omega, by omega, by rw [HA2.out, List.length_append]; omega, ACL2, by rw [HA2.out]; exact RM2, BXb, BYb, o2, HBb, hSb⟩, by first | (simp [intOf]; done) | (simp [intOf]; omega)⟩
      · have hlti : i < ti.size := by omega
        have hin' : ((i : Int) == (ti.size : Int)) = false := beq_eq_false_iff_ne.2 (by omega)
        have hin2 : ¬ (i : Int) = (ti.size : Int) := by omega
        have hlt2 : (i : Int) < (ti.size : Int) := by omega
        have BF1 := hide (BF.out i wr hlt)
        rw [decide_eq_false hin, Bool.false_or] at CT
        rw [CT] at BF1
        have hwn : IntKind.i64.wrap ((ti.size : Int) - (i : Int)) = (ti.size : Int) - (i : Int) := by rw [IntKind.wrap_i64]; omega
        by_cases hcz : i = a + z
        · rw [decide_eq_true hcz] at BF1
          have WG := hide (fun X => WG0.out a i X (by omega) hlt)
          rw [show i - a = z by omega, ← hg] at WG
          have RM2 : Hid (RefR s (bys ti) P1 ti.size first further least i (i + 1) ((acc ++ oneP g 2) ++ oneP s.grp 3) L') := hide (by
            rw [← hcz] at hrm hint
            refine ⟨hrm, ?_, fun h => absurd h hin, fun z L'' h => ?_⟩
            · rw [← RM.out.2.1, hint, if_neg hin]
              simp only [List.append_assoc]
            · obtain ⟨z', _, h1, h2, _⟩ := ST.out i L' hrm hlti
              rw [h] at h1
              injection h1 with h1 _
              omega)
          have hai' : (a : Int) ≤ (i : Int) := by omega
          clear CT hcut hend hint hrm RM ST WG0 BF hg hcz hazN hiz
          go_wp2_with fail
          refine BF1.out.mono ?_
          rintro e wq ⟨rfl, hwq⟩
          have hwq' := hwq.symm
          subst hwq'
          clear BF1 hwq
          obtain ⟨xt, hxt⟩ : ∃ xt, xt = ti.extract a i := ⟨_, rfl⟩
          have hxs := hxt.symm
          obtain ⟨A2, hA2⟩ : ∃ A2, A2 = acc ++ oneP g 2 := ⟨_, rfl⟩
          obtain ⟨k2, hk2⟩ : ∃ k2, k2 = A2.length := ⟨_, rfl⟩
          have ACL2 := hide hk2
          have HA2 := hide hA2
          have WG1 : Hid (∀ X, Calls Tryz.prog 17 #[.string xt, .agg SC] X fun e w' => e = .returned (.string g) ∧ Below X.heap.size X w') := hide (fun X => by rw [hxt]; exact WG.out X)
          have hS0 : PcS w.heap.size ti s.grp SC wr.drew := ⟨(BY.out.below (Below.refl _ _).drew BY.out.lt).range, (BX.out.below (Below.refl _ _).drew BX.out.lt).cell 2, ((BY.out.below (Below.refl _ _).drew BY.out.lt).cell 11).trans C10.out.2⟩
          have CW : Hid (∀ X, Below wr.heap.size wr X → Calls Tryz.prog 17 #[.string xt, .agg SC] X fun e w' => e = .returned (.string g) ∧ Hid (Below wr.heap.size wr w') ∧ PcS w.heap.size ti s.grp SC w') := hide (fun X hX => by
            refine (WG1.out X).mono ?_
            rintro e w' ⟨h1, hb⟩
            have bb := hX.trans (hb.mono hX.size)
            exact ⟨h1, hide bb, (BY.out.below bb BY.out.lt).range, (BX.out.below bb BX.out.lt).cell 2, ((BY.out.below bb BY.out.lt).cell 11).trans C10.out.2⟩)
          have CA : Hid (∀ X, Hid (Below wr.heap.size wr X) → Calls Tryz.prog 19 #[.slice uo k uc, .string g, .int .i64 2] X fun e w' => (∃ uo2 uc2, e = .returned (.slice uo2 k2 uc2) ∧ Hid (w'.ownsRow (w.heap.size + 2) 34 2 (.slice uo2 k2 uc2) k2 (cellsP A2))) ∧ Hid (Below (w.heap.size + 2) wr w') ∧ PcS w.heap.size ti s.grp SC w') := hide (fun X hX => by
            refine (raddP_any (v := .slice uo k uc) acc g 2 (by rw [← ACL.out]; exact ownD_below OW.out hX.out) (by have := hX.out.size; omega) (by have := ACL.out; omega)).mono ?_
            rintro e w' ⟨⟨v', h1, ho⟩, hb⟩
            rw [← HA2.out, ← ACL2.out] at ho
            obtain ⟨uo2, uc2, rfl⟩ := ownD_slice ho
            have bb := (hX.out.mono hS1).trans hb
            exact ⟨⟨uo2, uc2, h1, hide ho⟩, hide bb, (BY.out.below bb (by omega)).range, (BX.out.below bb (by omega)).cell 2, ((BY.out.below bb (by omega)).cell 11).trans C10.out.2⟩)
          clear hxt hA2 hk2 WG WG1
          go_wp2_with fail
          refine wp_region_held_drew (S := PcS w.heap.size ti s.grp SC) (by kernel_rfl) ?_ (fun hHeld => ?_)
          · assumption
          refine wpAnyH_take (i := 0) (oi := Oper.mk (some 60) _ _ _ _ _) (v := .slice uo k uc) rfl (by kernel_rfl) (by kernel_rfl) (by kernel_rfl) (fun _ _ _ h => h) (Or.inl ⟨by rfl, ?_⟩) (by assumption) ?_
          · intro wX hSw
            (try dsimp only at hSw)
            go_simp
          simp only [Act.put, List.setIfInBounds_toArray, List.set_cons_succ, List.set_cons_zero]
          refine wpAnyH_take (i := 1) (oi := Oper.mk (some 61) _ _ _ _ _) (v := .pointer (some ⟨w.heap.size, 2, none⟩)) rfl (by kernel_rfl) (by kernel_rfl) (by kernel_rfl) (fun _ _ _ h => h) (Or.inl ⟨by rfl, ?_⟩) (by assumption) ?_
          · intro wX hSw
            (try dsimp only at hSw)
            go_simp
          simp only [Act.put, List.setIfInBounds_toArray, List.set_cons_succ, List.set_cons_zero]
          refine wpAnyH_take (i := 2) (oi := Oper.mk (some 62) _ _ _ _ _) (v := .string ti) rfl (by kernel_rfl) (by kernel_rfl) (by kernel_rfl) (fun _ _ _ h => h) (Or.inl ⟨by rfl, ?_⟩) (by assumption) ?_
          · intro wX hSw
            (try dsimp only at hSw)
            have hq := hSw.int
            go_simp
          simp only [Act.put, List.setIfInBounds_toArray, List.set_cons_succ, List.set_cons_zero]
          refine wpAnyH_take (i := 3) (oi := Oper.mk (some 63) _ _ _ _ _) (v := .int .i64 (a : Int)) rfl (by kernel_rfl) (by kernel_rfl) (by kernel_rfl) (fun _ _ _ h => h) (Or.inl ⟨by rfl, ?_⟩) (by assumption) ?_
          · intro wX hSw
            (try dsimp only at hSw)
            go_simp
          simp only [Act.put, List.setIfInBounds_toArray, List.set_cons_succ, List.set_cons_zero]
          refine wpAnyH_take (i := 4) (oi := Oper.mk (some 64) _ _ _ _ _) (v := .int .i64 (i : Int)) rfl (by kernel_rfl) (by kernel_rfl) (by kernel_rfl) (fun _ _ _ h => h) (Or.inl ⟨by rfl, ?_⟩) (by assumption) ?_
          · intro wX hSw
            (try dsimp only at hSw)
            go_simp
          simp only [Act.put, List.setIfInBounds_toArray, List.set_cons_succ, List.set_cons_zero]
          refine wpAnyH_take (i := 5) (oi := Oper.mk (some 65) _ _ _ _ _) (v := .string xt) rfl (by kernel_rfl) (by kernel_rfl) (by kernel_rfl) (fun _ _ _ h => h) (Or.inl ⟨by rfl, ?_⟩) (by assumption) ?_
          · intro wX hSw
            (try dsimp only at hSw)
            go_simp
          simp only [Act.put, List.setIfInBounds_toArray, List.set_cons_succ, List.set_cons_zero]
          refine wpAnyH_take (i := 6) (oi := Oper.mk (some 66) _ _ _ _ _) (v := .agg SC.toList.toArray) rfl (by kernel_rfl) (by kernel_rfl) (by kernel_rfl) (fun _ _ _ h => h) (yieldsIf_load_mid (by rfl) _ _ rfl _ _ rfl SC.toList _ (fun _ hw => hw.rng) Tryz.underlying26 rfl SI) (by assumption) ?_
          rw [Array.toArray_toList]
          simp only [Act.put, List.setIfInBounds_toArray, List.set_cons_succ, List.set_cons_zero]
          refine wpAnyH_ready (rs := [7]) (by kernel_rfl) (by simp) ?_
          refine AllReadyH.cons (o := Oper.mk (some 67) _ _ _ _ _) rfl (fun K hK => ?_) AllReadyH.nil
          go_simp
          refine (CW.out _ (Below.refl _ _).drew).mono ?_
          rintro e wa ⟨rfl, b1, s1⟩
          refine hK.out _ _ ?_ (fun hHeld => ?_)
          · assumption
          clear hK K
          refine wpAnyH_ready (rs := [8]) (by kernel_rfl) (by simp) ?_
          refine AllReadyH.cons (o := Oper.mk (some 68) _ _ _ _ _) rfl (fun K hK => ?_) AllReadyH.nil
          go_simp
          refine (CA.out _ b1).mono ?_
          rintro e wb ⟨⟨uo2, uc2, rfl, o2⟩, b2, s2⟩
          refine hK.out _ _ ?_ (fun hHeld => ?_)
          · assumption
          clear hK K
          refine wpAnyH_take (i := 9) (oi := Oper.mk (some 13) _ _ _ _ _) (v := .slice uo2 k2 uc2) rfl (by kernel_rfl) (by kernel_rfl) (by kernel_rfl) (fun _ _ _ h => h) (Or.inl ⟨by rfl, ?_⟩) (by assumption) ?_
          · intro wX hSw
            (try dsimp only at hSw)
            go_simp
          simp only [Act.put, List.setIfInBounds_toArray, List.set_cons_succ, List.set_cons_zero]
          refine wpAnyH_done (by kernel_rfl) ?_ _
          have BXb := hide (BX.out.below b2.out (by omega))
          have BYb := hide (BY.out.below b2.out (by omega))
          have HBb := hide (HB.out.trans (b2.out.mono (by omega)))
          have hSb : w.heap.size + 2 ≤ wb.heap.size := Nat.le_trans hS1 b2.out.size
          clear CW CA hS0 hHeld hxs b1 s1 s2 b2 BX BY HB OW
          have y_11 := (BYb.out.cell 11).trans C10.out.2
          have AG := hide (raddP_any (v := .slice uo2 k2 uc2) A2 s.grp 3 (by rw [← ACL2.out]; exact o2.out) hSb (by rw [HA2.out, List.length_append]; omega))
          clear o2
          go_wp2_with fail
          refine AG.out.mono ?_
          rintro e wc ⟨⟨vc, rfl, hoc⟩, hbc⟩
          obtain ⟨A3, hA3⟩ : ∃ A3, A3 = A2 ++ oneP s.grp 3 := ⟨_, rfl⟩
          obtain ⟨k3, hk3⟩ : ∃ k3, k3 = A3.length := ⟨_, rfl⟩
          rw [← hA3, ← hk3] at hoc
          have HA3 := hide hA3
          have ACL3 := hide hk3
          obtain ⟨uo3, uc3, rfl⟩ := ownD_slice hoc
          have o3 := hide hoc
          have BXc := hide (BXb.out.below hbc (by omega))
          have BYc := hide (BYb.out.below hbc (by omega))
          have HBc := hide (HBb.out.trans (hbc.mono (by omega)))
          have hSc : w.heap.size + 2 ≤ wc.heap.size := Nat.le_trans hSb hbc.size
          clear hoc hbc AG BXb BYb HBb y_11 hA3 hk3
          go_wp2
          exact ⟨⟨i, i + 1, k3, uo3, uc3, A3, L', rfl, rfl, by go_num, by omega, by omega, by rw [HA3.out, HA2.out]; simp only [List.length_append]; omega, ACL3, by rw [HA3.out, HA2.out]; exact RM2, BXc, BYc, o3, HBc, hSc⟩, by simp [intOf]; omega⟩
        · rw [decide_eq_false hcz] at BF1
          have RM2 : Hid (RefR s (bys ti) P1 ti.size first further least a (i + 1) acc (z :: L')) := hide ⟨RM.out.1, RM.out.2.1, fun h => by omega, fun z' L'' h => by injection h with h _; omega⟩
          clear CT hcut hend hint hrm RM ST WG0 BF hg
          go_wp2_with fail
          refine BF1.out.mono ?_
          rintro e wq ⟨rfl, rfl⟩
          clear BF1
          go_wp2
          exact ⟨⟨a, i + 1, k, uo, uc, acc, z :: L', rfl, rfl, by go_num, by omega, by omega, hacc, ACL, RM2, BX, BY, OW, HB, hS1⟩, by simp [intOf]; omega⟩
    · obtain rfl : i = ti.size + 1 := by omega
      have hlt' : ¬ (((ti.size + 1 : Nat)) : Int) ≤ (ti.size : Int) := by omega
      have EA : Hid (acc = P1 ∧ k = P1.length) := hide (by
        have ha : a = ti.size := by
          rcases Nat.lt_or_ge a ti.size with h | h
          · obtain ⟨z, L', h1, h2, h3, _⟩ := ST.out a L RM.out.1 h
            have := RM.out.2.2.2 z L' h1
            omega
          · omega
        obtain ⟨h1, h2, _⟩ := RM.out
        subst ha
        have h3 := h1.done
        subst h3
        have h4 : acc = P1 := by rw [← h2]; simp [intP]
        exact ⟨h4, by rw [ACL.out, h4]⟩)
      have OP : Hid (wr.ownsRow (w.heap.size + 2) 34 2 (.slice uo P1.length uc) P1.length (cellsP P1)) := hide (by rw [← EA.out.2, ← EA.out.1]; exact OW.out)
      obtain rfl := EA.out.2
      obtain ⟨k2, hk2⟩ : ∃ k2, k2 = P1.length := ⟨_, rfl⟩
      rw [← hk2] at OP
      have K2 := hide hk2
      clear ST WG0 BF RM OW EA ACL hacc hai hiN hlt
      obtain ⟨x_0, x_1, x_2, x_3, x_4, x_5⟩ := shown6 BX.out
      have y_10 := (BY.out.cell 10).trans C10.out.1
      rw [← hk2]
      clear hk2
      cases al
      · by_cases hz : tf.size = 0
        · have PS : Hid (P1 ++ oneP (mkP (wrL s (bys tf))) 5 = P1 ++ fraP s ⟨0, n, bys ti, bys tf, x, cm⟩ false) := hide (by
            have e : bys tf = [] := List.eq_nil_of_length_eq_zero (by rw [bys_len]; exact hz)
            unfold fraP
            simp only [e]
            rfl)
          obtain rfl := emptyD hz
          clear hz y_10
          obtain ⟨g, hg⟩ : ∃ g, g = mkP (wrL s (bys (⟨#[]⟩ : ByteArray))) := ⟨_, rfl⟩
          obtain ⟨A9, hA9⟩ : ∃ A9, A9 = P1 ++ oneP g 5 := ⟨_, rfl⟩
          obtain ⟨k9, hk9⟩ : ∃ k9, k9 = A9.length := ⟨_, rfl⟩
          have CW : Hid (∀ X, Below wr.heap.size wr X → Calls Tryz.prog 17 #[.string (⟨#[]⟩ : ByteArray), .agg SC] X fun e w' => e = .returned (.string g) ∧ Hid (Below wr.heap.size wr w') ∧ PcF w.heap.size (⟨#[]⟩ : ByteArray) SC w') := hide (fun X hX => by
            rw [hg]
            refine (WR.out (⟨#[]⟩ : ByteArray) X hdf hlf hwf).mono ?_
            rintro e w' ⟨h1, hb⟩
            have bb := hX.trans (hb.mono hX.size)
            exact ⟨h1, hide bb, (BY.out.below bb BY.out.lt).range, (BX.out.below bb BX.out.lt).cell 3⟩)
          have CA : Hid (∀ X, Hid (Below wr.heap.size wr X) → Calls Tryz.prog 19 #[.slice uo k2 uc, .string g, .int .i64 5] X fun e w' => (∃ v9, e = .returned v9 ∧ Hid (w'.ownsRow (w.heap.size + 2) 34 2 v9 k9 (cellsP A9))) ∧ Hid (Below (w.heap.size + 2) wr w') ∧ PcF w.heap.size (⟨#[]⟩ : ByteArray) SC w') := hide (fun X hX => by
            refine (raddP_any (v := .slice uo k2 uc) P1 g 5 (by rw [← K2.out]; exact ownD_below OP.out hX.out) (by have := hX.out.size; omega) (by have := K2.out; omega)).mono ?_
            rintro e w' ⟨⟨v', h1, ho⟩, hb⟩
            rw [← hA9, ← hk9] at ho
            have bb := (hX.out.mono hS1).trans hb
            exact ⟨⟨v', h1, hide ho⟩, hide bb, (BY.out.below bb (by omega)).range, (BX.out.below bb (by omega)).cell 3⟩)
          have E9 : Hid (A9 = P1 ++ fraP s ⟨0, n, bys ti, bys (⟨#[]⟩ : ByteArray), x, cm⟩ false) := hide (by rw [hA9, hg]; exact PS.out)
          have K9 := hide hk9
          have BW9 : Hid (∀ X, Below (w.heap.size + 2) wr X → Below w.heap.size w X) := hide (fun X hX => HB.out.trans (hX.mono (by omega)))
          clear hg hA9 hk9 HB OP WR hdf hlf hwf PS
          go_wp2_with (refine wpList_load_mid rfl 26 _ rfl _ _ rfl SC.toList _ BY.out.range Tryz.underlying26 rfl SI ?_; rw [Array.toArray_toList])
          refine (CW.out _ (Below.refl _ _)).mono ?_
          rintro e wa ⟨rfl, b1, s1⟩
          clear x_0 x_1 x_2 x_3 x_4 x_5
          go_wp2_with fail
          refine (CA.out _ b1).mono ?_
          rintro e wb ⟨⟨v9, rfl, o9⟩, b2, s2⟩
          clear CW CA b1 s1 s2
          go_wp2
          go_ret
          refine ⟨⟨_, rfl, ?_⟩, BW9.out _ b2.out⟩
          rw [← E9.out, ← K9.out]
          exact ownD_mono o9.out (by omega)
        · have PS : Hid ((P1 ++ oneP s.dec 4) ++ oneP (mkP (wrL s (bys tf))) 5 = P1 ++ fraP s ⟨0, n, bys ti, bys tf, x, cm⟩ false) := hide (by
            have e : bys tf ≠ [] := fun e => hz (by rw [← bys_len, e]; rfl)
            unfold fraP
            simp only [ne_eq, e, not_false_eq_true, true_or, if_true, List.append_assoc])
          have i1 := tlD_ne hz
          have i2 := tlD_ie hz
          have i3 := tlD_nb hz
          clear hz
          have AG := hide (raddP_any (v := .slice uo k2 uc) P1 s.dec 4 (by rw [← K2.out]; exact OP.out) hS1 (by omega))
          have hPd := oneP_len s.dec 4
          clear OP
          go_wp2_with fail
          refine AG.out.mono ?_
          rintro e wz ⟨⟨vz, rfl, hoz⟩, hbz⟩
          obtain ⟨A3, hA3⟩ : ∃ A3, A3 = P1 ++ oneP s.dec 4 := ⟨_, rfl⟩
          obtain ⟨k3, hk3⟩ : ∃ k3, k3 = A3.length := ⟨_, rfl⟩
          rw [← hA3, ← hk3] at hoz
          obtain ⟨uz, cz, rfl⟩ := ownD_slice hoz
          have oz := hide hoz
          have K3 := hide hk3
          have hA3l : A3.length ≤ 8193 := by rw [hA3, List.length_append]; omega
          have BXz := hide (BX.out.below hbz (by omega))
          have BYz := hide (BY.out.below hbz (by omega))
          have HBz := hide (HB.out.trans (hbz.mono (by omega)))
          have hSz : w.heap.size + 2 ≤ wz.heap.size := Nat.le_trans hS1 hbz.size
          rw [← hA3] at PS
          clear hoz hbz AG BX BY HB hA3 hk3 y_10 x_0 x_1 x_2 x_3 x_4 x_5
          obtain ⟨x_0, x_1, x_2, x_3, x_4, x_5⟩ := shown6 BXz.out
          obtain ⟨g, hg⟩ : ∃ g, g = mkP (wrL s (bys tf)) := ⟨_, rfl⟩
          obtain ⟨A9, hA9⟩ : ∃ A9, A9 = A3 ++ oneP g 5 := ⟨_, rfl⟩
          obtain ⟨k9, hk9⟩ : ∃ k9, k9 = A9.length := ⟨_, rfl⟩
          have CW : Hid (∀ X, Below wz.heap.size wz X → Calls Tryz.prog 17 #[.string tf, .agg SC] X fun e w' => e = .returned (.string g) ∧ Hid (Below wz.heap.size wz w') ∧ PcF w.heap.size tf SC w') := hide (fun X hX => by
            rw [hg]
            refine (WR.out tf X hdf hlf hwf).mono ?_
            rintro e w' ⟨h1, hb⟩
            have bb := hX.trans (hb.mono hX.size)
            exact ⟨h1, hide bb, (BYz.out.below bb BYz.out.lt).range, (BXz.out.below bb BXz.out.lt).cell 3⟩)
          have CA : Hid (∀ X, Hid (Below wz.heap.size wz X) → Calls Tryz.prog 19 #[.slice uz k3 cz, .string g, .int .i64 5] X fun e w' => (∃ v9, e = .returned v9 ∧ Hid (w'.ownsRow (w.heap.size + 2) 34 2 v9 k9 (cellsP A9))) ∧ Hid (Below (w.heap.size + 2) wz w') ∧ PcF w.heap.size tf SC w') := hide (fun X hX => by
            refine (raddP_any (v := .slice uz k3 cz) A3 g 5 (by rw [← K3.out]; exact ownD_below oz.out hX.out) (by have := hX.out.size; omega) (by have := K3.out; omega)).mono ?_
            rintro e w' ⟨⟨v', h1, ho⟩, hb⟩
            rw [← hA9, ← hk9] at ho
            have bb := (hX.out.mono hSz).trans hb
            exact ⟨⟨v', h1, hide ho⟩, hide bb, (BYz.out.below bb (by omega)).range, (BXz.out.below bb (by omega)).cell 3⟩)
          have E9 : Hid (A9 = P1 ++ fraP s ⟨0, n, bys ti, bys tf, x, cm⟩ false) := hide (by rw [hA9, hg]; exact PS.out)
          have K9 := hide hk9
          have BW9 : Hid (∀ X, Below (w.heap.size + 2) wz X → Below w.heap.size w X) := hide (fun X hX => HBz.out.trans (hX.mono (by omega)))
          clear hg hA9 hk9 HBz oz WR hdf hlf hwf PS
          go_wp2_with (refine wpList_load_mid rfl 26 _ rfl _ _ rfl SC.toList _ BYz.out.range Tryz.underlying26 rfl SI ?_; rw [Array.toArray_toList])
          refine (CW.out _ (Below.refl _ _)).mono ?_
          rintro e wa ⟨rfl, b1, s1⟩
          clear x_0 x_1 x_2 x_3 x_4 x_5
          go_wp2_with fail
          refine (CA.out _ b1).mono ?_
          rintro e wb ⟨⟨v9, rfl, o9⟩, b2, s2⟩
          clear CW CA b1 s1 s2
          go_wp2
          go_ret
          refine ⟨⟨_, rfl, ?_⟩, BW9.out _ b2.out⟩
          rw [← E9.out, ← K9.out]
          exact ownD_mono o9.out (by omega)
      · have PS : Hid ((P1 ++ oneP s.dec 4) ++ oneP (mkP (wrL s (bys tf))) 5 = P1 ++ fraP s ⟨0, n, bys ti, bys tf, x, cm⟩ true) := hide (by
          unfold fraP
          simp only [or_true, if_true, List.append_assoc])
        by_cases hz : tf.size = 0
        · obtain rfl := emptyD hz
          clear hz
          have AG := hide (raddP_any (v := .slice uo k2 uc) P1 s.dec 4 (by rw [← K2.out]; exact OP.out) hS1 (by omega))
          have hPd := oneP_len s.dec 4
          clear OP
          go_wp2_with fail
          refine AG.out.mono ?_
          rintro e wz ⟨⟨vz, rfl, hoz⟩, hbz⟩
          obtain ⟨A3, hA3⟩ : ∃ A3, A3 = P1 ++ oneP s.dec 4 := ⟨_, rfl⟩
          obtain ⟨k3, hk3⟩ : ∃ k3, k3 = A3.length := ⟨_, rfl⟩
          rw [← hA3, ← hk3] at hoz
          obtain ⟨uz, cz, rfl⟩ := ownD_slice hoz
          have oz := hide hoz
          have K3 := hide hk3
          have hA3l : A3.length ≤ 8193 := by rw [hA3, List.length_append]; omega
          have BXz := hide (BX.out.below hbz (by omega))
          have BYz := hide (BY.out.below hbz (by omega))
          have HBz := hide (HB.out.trans (hbz.mono (by omega)))
          have hSz : w.heap.size + 2 ≤ wz.heap.size := Nat.le_trans hS1 hbz.size
          rw [← hA3] at PS
          clear hoz hbz AG BX BY HB hA3 hk3 y_10 x_0 x_1 x_2 x_3 x_4 x_5
          obtain ⟨x_0, x_1, x_2, x_3, x_4, x_5⟩ := shown6 BXz.out
          obtain ⟨g, hg⟩ : ∃ g, g = mkP (wrL s (bys (⟨#[]⟩ : ByteArray))) := ⟨_, rfl⟩
          obtain ⟨A9, hA9⟩ : ∃ A9, A9 = A3 ++ oneP g 5 := ⟨_, rfl⟩
          obtain ⟨k9, hk9⟩ : ∃ k9, k9 = A9.length := ⟨_, rfl⟩
          have CW : Hid (∀ X, Below wz.heap.size wz X → Calls Tryz.prog 17 #[.string (⟨#[]⟩ : ByteArray), .agg SC] X fun e w' => e = .returned (.string g) ∧ Hid (Below wz.heap.size wz w') ∧ PcF w.heap.size (⟨#[]⟩ : ByteArray) SC w') := hide (fun X hX => by
            rw [hg]
            refine (WR.out (⟨#[]⟩ : ByteArray) X hdf hlf hwf).mono ?_
            rintro e w' ⟨h1, hb⟩
            have bb := hX.trans (hb.mono hX.size)
            exact ⟨h1, hide bb, (BYz.out.below bb BYz.out.lt).range, (BXz.out.below bb BXz.out.lt).cell 3⟩)
          have CA : Hid (∀ X, Hid (Below wz.heap.size wz X) → Calls Tryz.prog 19 #[.slice uz k3 cz, .string g, .int .i64 5] X fun e w' => (∃ v9, e = .returned v9 ∧ Hid (w'.ownsRow (w.heap.size + 2) 34 2 v9 k9 (cellsP A9))) ∧ Hid (Below (w.heap.size + 2) wz w') ∧ PcF w.heap.size (⟨#[]⟩ : ByteArray) SC w') := hide (fun X hX => by
            refine (raddP_any (v := .slice uz k3 cz) A3 g 5 (by rw [← K3.out]; exact ownD_below oz.out hX.out) (by have := hX.out.size; omega) (by have := K3.out; omega)).mono ?_
            rintro e w' ⟨⟨v', h1, ho⟩, hb⟩
            rw [← hA9, ← hk9] at ho
            have bb := (hX.out.mono hSz).trans hb
            exact ⟨⟨v', h1, hide ho⟩, hide bb, (BYz.out.below bb (by omega)).range, (BXz.out.below bb (by omega)).cell 3⟩)
          have E9 : Hid (A9 = P1 ++ fraP s ⟨0, n, bys ti, bys (⟨#[]⟩ : ByteArray), x, cm⟩ true) := hide (by rw [hA9, hg]; exact PS.out)
          have K9 := hide hk9
          have BW9 : Hid (∀ X, Below (w.heap.size + 2) wz X → Below w.heap.size w X) := hide (fun X hX => HBz.out.trans (hX.mono (by omega)))
          clear hg hA9 hk9 HBz oz WR hdf hlf hwf PS
          go_wp2_with (refine wpList_load_mid rfl 26 _ rfl _ _ rfl SC.toList _ BYz.out.range Tryz.underlying26 rfl SI ?_; rw [Array.toArray_toList])
          refine (CW.out _ (Below.refl _ _)).mono ?_
          rintro e wa ⟨rfl, b1, s1⟩
          clear x_0 x_1 x_2 x_3 x_4 x_5
          go_wp2_with fail
          refine (CA.out _ b1).mono ?_
          rintro e wb ⟨⟨v9, rfl, o9⟩, b2, s2⟩
          clear CW CA b1 s1 s2
          go_wp2
          go_ret
          refine ⟨⟨_, rfl, ?_⟩, BW9.out _ b2.out⟩
          rw [← E9.out, ← K9.out]
          exact ownD_mono o9.out (by omega)
        · have i1 := tlD_ne hz
          have i2 := tlD_ie hz
          have i3 := tlD_nb hz
          clear hz
          have AG := hide (raddP_any (v := .slice uo k2 uc) P1 s.dec 4 (by rw [← K2.out]; exact OP.out) hS1 (by omega))
          have hPd := oneP_len s.dec 4
          clear OP
          go_wp2_with fail
          refine AG.out.mono ?_
          rintro e wz ⟨⟨vz, rfl, hoz⟩, hbz⟩
          obtain ⟨A3, hA3⟩ : ∃ A3, A3 = P1 ++ oneP s.dec 4 := ⟨_, rfl⟩
          obtain ⟨k3, hk3⟩ : ∃ k3, k3 = A3.length := ⟨_, rfl⟩
          rw [← hA3, ← hk3] at hoz
          obtain ⟨uz, cz, rfl⟩ := ownD_slice hoz
          have oz := hide hoz
          have K3 := hide hk3
          have hA3l : A3.length ≤ 8193 := by rw [hA3, List.length_append]; omega
          have BXz := hide (BX.out.below hbz (by omega))
          have BYz := hide (BY.out.below hbz (by omega))
          have HBz := hide (HB.out.trans (hbz.mono (by omega)))
          have hSz : w.heap.size + 2 ≤ wz.heap.size := Nat.le_trans hS1 hbz.size
          rw [← hA3] at PS
          clear hoz hbz AG BX BY HB hA3 hk3 y_10 x_0 x_1 x_2 x_3 x_4 x_5
          obtain ⟨x_0, x_1, x_2, x_3, x_4, x_5⟩ := shown6 BXz.out
          obtain ⟨g, hg⟩ : ∃ g, g = mkP (wrL s (bys tf)) := ⟨_, rfl⟩
          obtain ⟨A9, hA9⟩ : ∃ A9, A9 = A3 ++ oneP g 5 := ⟨_, rfl⟩
          obtain ⟨k9, hk9⟩ : ∃ k9, k9 = A9.length := ⟨_, rfl⟩
          have CW : Hid (∀ X, Below wz.heap.size wz X → Calls Tryz.prog 17 #[.string tf, .agg SC] X fun e w' => e = .returned (.string g) ∧ Hid (Below wz.heap.size wz w') ∧ PcF w.heap.size tf SC w') := hide (fun X hX => by
            rw [hg]
            refine (WR.out tf X hdf hlf hwf).mono ?_
            rintro e w' ⟨h1, hb⟩
            have bb := hX.trans (hb.mono hX.size)
            exact ⟨h1, hide bb, (BYz.out.below bb BYz.out.lt).range, (BXz.out.below bb BXz.out.lt).cell 3⟩)
          have CA : Hid (∀ X, Hid (Below wz.heap.size wz X) → Calls Tryz.prog 19 #[.slice uz k3 cz, .string g, .int .i64 5] X fun e w' => (∃ v9, e = .returned v9 ∧ Hid (w'.ownsRow (w.heap.size + 2) 34 2 v9 k9 (cellsP A9))) ∧ Hid (Below (w.heap.size + 2) wz w') ∧ PcF w.heap.size tf SC w') := hide (fun X hX => by
            refine (raddP_any (v := .slice uz k3 cz) A3 g 5 (by rw [← K3.out]; exact ownD_below oz.out hX.out) (by have := hX.out.size; omega) (by have := K3.out; omega)).mono ?_
            rintro e w' ⟨⟨v', h1, ho⟩, hb⟩
            rw [← hA9, ← hk9] at ho
            have bb := (hX.out.mono hSz).trans hb
            exact ⟨⟨v', h1, hide ho⟩, hide bb, (BYz.out.below bb (by omega)).range, (BXz.out.below bb (by omega)).cell 3⟩)
          have E9 : Hid (A9 = P1 ++ fraP s ⟨0, n, bys ti, bys tf, x, cm⟩ true) := hide (by rw [hA9, hg]; exact PS.out)
          have K9 := hide hk9
          have BW9 : Hid (∀ X, Below (w.heap.size + 2) wz X → Below w.heap.size w X) := hide (fun X hX => HBz.out.trans (hX.mono (by omega)))
          clear hg hA9 hk9 HBz oz WR hdf hlf hwf PS
          go_wp2_with (refine wpList_load_mid rfl 26 _ rfl _ _ rfl SC.toList _ BYz.out.range Tryz.underlying26 rfl SI ?_; rw [Array.toArray_toList])
          refine (CW.out _ (Below.refl _ _)).mono ?_
          rintro e wa ⟨rfl, b1, s1⟩
          clear x_0 x_1 x_2 x_3 x_4 x_5
          go_wp2_with fail
          refine (CA.out _ b1).mono ?_
          rintro e wb ⟨⟨v9, rfl, o9⟩, b2, s2⟩
          clear CW CA b1 s1 s2
          go_wp2
          go_ret
          refine ⟨⟨_, rfl, ?_⟩, BW9.out _ b2.out⟩
          rw [← E9.out, ← K9.out]
          exact ownD_mono o9.out (by omega)

end Go.Proofs.YtionbkmbhhlmjaaGreatDoor

namespace Go.Proofs.YtionbkmbhhlmjaaGreatDoor
open Go.RowKit

set_option maxRecDepth 100000 in
set_option maxHeartbeats 4000000 in
theorem rpieces_no (c : Int) (n : Bool) (ti tf : ByteArray) (x : Int) (cm : Bool) (s : Sy) (first further least : Int) (al : Bool) (w : World) (hz1 : ti.size ≤ 281474976710656) (hz2 : tf.size ≤ 281474976710656) (h : ¬ MayS ⟨c, n, bys ti, bys tf, x, cm⟩) :
    Calls Tryz.prog 10 #[shV c n ti tf x cm, symV s, .int .i64 first, .int .i64 further, .int .i64 least, .bool al] w fun e w' => (∃ v, e = .returned v ∧ w'.ownsRow w.heap.size 34 2 v 0 (cellsP [])) ∧ Below w.heap.size w w' := by
  obtain ⟨SC, hSC⟩ : ∃ SC, SC = symC s := ⟨_, rfl⟩
  obtain ⟨W, hW⟩ : ∃ W, W = (w.alloc (.cells #[.int .i64 c, .bool n, .string ti, .string tf, .int .i64 x, .bool cm] 23)).alloc (.cells SC 26) := ⟨_, rfl⟩
  have BX0 := hide (show Blk W w.heap.size #[.int .i64 c, .bool n, .string ti, .string tf, .int .i64 x, .bool cm] 23 by rw [hW]; exact (Blk.newAt w w.heap.size rfl _ _).alloc _)
  have BY0 := hide (show Blk W (w.heap.size + 1) SC 26 by rw [hW]; exact Blk.newAt _ _ (by simp) _ _)
  have HB0 : Hid (Below w.heap.size w W) := hide (by rw [hW]; exact ((Below.refl _ _).alloc (Nat.le_refl _) _).alloc (by simp) _)
  have NW : W.heap.size = w.heap.size + 2 := by rw [hW]; simp
  obtain ⟨W2, hW2⟩ : ∃ W2, W2 = W.alloc (.cells #[] 34) := ⟨_, rfl⟩
  have B12 : Below W.heap.size W W2 := by rw [hW2]; exact (Below.refl _ _).alloc (Nat.le_refl _) _
  have BX2 := Blk.on BX0 B12
  have BY2 := Blk.on BY0 B12
  have O2 : Hid (W2.ownsRow (w.heap.size + 2) 34 2 (.slice (some ⟨w.heap.size + 2, 0, none⟩) 0 0) 0 (cellsP [])) := hide (by rw [hW2, ← NW]; exact World.ownsRow_made W #[] 0 (Nat.le_refl _) (by decide) rfl)
  have HB2 := hide (HB0.out.trans (B12.mono HB0.out.size))
  have HM := hide (rmayS_F c n ti tf x cm W2 hz1 hz2 h)
  have HW := hide hW.symm
  have HW2 := hide hW2.symm
  have C10 : Hid (SC[17]? = some (.string s.inf) ∧ SC[18]? = some (.string s.nan)) := hide (by rw [hSC]; exact ⟨rfl, rfl⟩)
  have EV : symV s = .agg SC := by rw [hSC]; rfl
  rw [EV]
  clear h hW hW2 B12 EV hSC BX0 BY0 HB0
  obtain ⟨x_0, x_1, x_2, x_3, x_4, x_5⟩ := shown6 BX2.out
  go_enter Tryz.func10, Tryz.ntmps10
  go_wp2_with (first | simp only [HW.out] | simp only [HW2.out])
  refine HM.out.mono ?_
  rintro e w1 ⟨rfl, hb1⟩
  have BX1 := Blk.on BX2 hb1
  have BY1 := Blk.on BY2 hb1
  have O1 := hide (ownD_below O2.out hb1)
  have HB1 := hide (HB2.out.trans (hb1.mono HB2.out.size))
  have hS1 : w.heap.size + 2 ≤ w1.heap.size := by have := hb1.size; have := BY2.out.lt; omega
  clear x_0 x_1 x_2 x_3 x_4 x_5 hb1 BX2 BY2 O2 HB2 HM HW HW2
  obtain ⟨x_0, x_1, x_2, x_3, x_4, x_5⟩ := shown6 BX1.out
  go_wp2
  go_ret
  exact ⟨⟨_, rfl, ownD_mono O1.out (by omega)⟩, HB1.out⟩

set_option maxRecDepth 100000 in
set_option maxHeartbeats 4000000 in
theorem rpieces_inf (n : Bool) (ti tf : ByteArray) (x : Int) (cm : Bool) (s : Sy) (first further least : Int) (al : Bool) (w : World) (h : MayS ⟨1, n, bys ti, bys tf, x, cm⟩) :
    Calls Tryz.prog 10 #[shV 1 n ti tf x cm, symV s, .int .i64 first, .int .i64 further, .int .i64 least, .bool al] w fun e w' => (∃ v, e = .returned v ∧ w'.ownsRow w.heap.size 34 2 v (oneP s.inf 2).length (cellsP (oneP s.inf 2))) ∧ Below w.heap.size w w' := by
  obtain ⟨SC, hSC⟩ : ∃ SC, SC = symC s := ⟨_, rfl⟩
  obtain ⟨W, hW⟩ : ∃ W, W = (w.alloc (.cells #[.int .i64 1, .bool n, .string ti, .string tf, .int .i64 x, .bool cm] 23)).alloc (.cells SC 26) := ⟨_, rfl⟩
  have BX0 := hide (show Blk W w.heap.size #[.int .i64 1, .bool n, .string ti, .string tf, .int .i64 x, .bool cm] 23 by rw [hW]; exact (Blk.newAt w w.heap.size rfl _ _).alloc _)
  have BY0 := hide (show Blk W (w.heap.size + 1) SC 26 by rw [hW]; exact Blk.newAt _ _ (by simp) _ _)
  have HB0 : Hid (Below w.heap.size w W) := hide (by rw [hW]; exact ((Below.refl _ _).alloc (Nat.le_refl _) _).alloc (by simp) _)
  have NW : W.heap.size = w.heap.size + 2 := by rw [hW]; simp
  obtain ⟨W2, hW2⟩ : ∃ W2, W2 = W.alloc (.cells #[] 34) := ⟨_, rfl⟩
  have B12 : Below W.heap.size W W2 := by rw [hW2]; exact (Below.refl _ _).alloc (Nat.le_refl _) _
  have BX2 := Blk.on BX0 B12
  have BY2 := Blk.on BY0 B12
  have O2 : Hid (W2.ownsRow (w.heap.size + 2) 34 2 (.slice (some ⟨w.heap.size + 2, 0, none⟩) 0 0) 0 (cellsP [])) := hide (by rw [hW2, ← NW]; exact World.ownsRow_made W #[] 0 (Nat.le_refl _) (by decide) rfl)
  have HB2 := hide (HB0.out.trans (B12.mono HB0.out.size))
  have HM := hide (rmayS_T 1 n ti tf x cm W2 h)
  have HW := hide hW.symm
  have HW2 := hide hW2.symm
  have C10 : Hid (SC[17]? = some (.string s.inf) ∧ SC[18]? = some (.string s.nan)) := hide (by rw [hSC]; exact ⟨rfl, rfl⟩)
  have EV : symV s = .agg SC := by rw [hSC]; rfl
  rw [EV]
  clear h hW hW2 B12 EV hSC BX0 BY0 HB0
  obtain ⟨x_0, x_1, x_2, x_3, x_4, x_5⟩ := shown6 BX2.out
  go_enter Tryz.func10, Tryz.ntmps10
  go_wp2_with (first | simp only [HW.out] | simp only [HW2.out])
  refine HM.out.mono ?_
  rintro e w1 ⟨rfl, hb1⟩
  have BX1 := Blk.on BX2 hb1
  have BY1 := Blk.on BY2 hb1
  have O1 := hide (ownD_below O2.out hb1)
  have HB1 := hide (HB2.out.trans (hb1.mono HB2.out.size))
  have hS1 : w.heap.size + 2 ≤ w1.heap.size := by have := hb1.size; have := BY2.out.lt; omega
  clear x_0 x_1 x_2 x_3 x_4 x_5 hb1 BX2 BY2 O2 HB2 HM HW HW2
  obtain ⟨x_0, x_1, x_2, x_3, x_4, x_5⟩ := shown6 BX1.out
  have y_17 := (BY1.out.cell 17).trans C10.out.1
  have AG := hide (raddP_any [] s.inf 2 O1.out hS1 (by simp))
  obtain ⟨A3, hA3⟩ : ∃ A3, A3 = oneP s.inf 2 := ⟨_, rfl⟩
  obtain ⟨k3, hk3⟩ : ∃ k3, k3 = A3.length := ⟨_, rfl⟩
  rw [List.nil_append, ← hA3, ← hk3] at AG
  have HA3 := hide hA3
  have HK3 := hide hk3
  clear hA3 hk3
  go_wp2_with fail
  refine AG.out.mono ?_
  rintro e w2 ⟨⟨v, rfl, ho⟩, hb2⟩
  have O3 := hide ho
  have HB3 := hide (HB1.out.trans (hb2.mono (by omega)))
  clear ho hb2 AG O1 HB1
  go_wp2
  go_ret
  refine ⟨⟨_, rfl, ?_⟩, HB3.out⟩
  rw [← HA3.out, ← HK3.out]
  exact ownD_mono O3.out (by omega)

set_option maxRecDepth 100000 in
set_option maxHeartbeats 4000000 in
theorem rpieces_nan (n : Bool) (ti tf : ByteArray) (x : Int) (cm : Bool) (s : Sy) (first further least : Int) (al : Bool) (w : World) (h : MayS ⟨2, n, bys ti, bys tf, x, cm⟩) :
    Calls Tryz.prog 10 #[shV 2 n ti tf x cm, symV s, .int .i64 first, .int .i64 further, .int .i64 least, .bool al] w fun e w' => (∃ v, e = .returned v ∧ w'.ownsRow w.heap.size 34 2 v (oneP s.nan 2).length (cellsP (oneP s.nan 2))) ∧ Below w.heap.size w w' := by
  obtain ⟨SC, hSC⟩ : ∃ SC, SC = symC s := ⟨_, rfl⟩
  obtain ⟨W, hW⟩ : ∃ W, W = (w.alloc (.cells #[.int .i64 2, .bool n, .string ti, .string tf, .int .i64 x, .bool cm] 23)).alloc (.cells SC 26) := ⟨_, rfl⟩
  have BX0 := hide (show Blk W w.heap.size #[.int .i64 2, .bool n, .string ti, .string tf, .int .i64 x, .bool cm] 23 by rw [hW]; exact (Blk.newAt w w.heap.size rfl _ _).alloc _)
  have BY0 := hide (show Blk W (w.heap.size + 1) SC 26 by rw [hW]; exact Blk.newAt _ _ (by simp) _ _)
  have HB0 : Hid (Below w.heap.size w W) := hide (by rw [hW]; exact ((Below.refl _ _).alloc (Nat.le_refl _) _).alloc (by simp) _)
  have NW : W.heap.size = w.heap.size + 2 := by rw [hW]; simp
  obtain ⟨W2, hW2⟩ : ∃ W2, W2 = W.alloc (.cells #[] 34) := ⟨_, rfl⟩
  have B12 : Below W.heap.size W W2 := by rw [hW2]; exact (Below.refl _ _).alloc (Nat.le_refl _) _
  have BX2 := Blk.on BX0 B12
  have BY2 := Blk.on BY0 B12
  have O2 : Hid (W2.ownsRow (w.heap.size + 2) 34 2 (.slice (some ⟨w.heap.size + 2, 0, none⟩) 0 0) 0 (cellsP [])) := hide (by rw [hW2, ← NW]; exact World.ownsRow_made W #[] 0 (Nat.le_refl _) (by decide) rfl)
  have HB2 := hide (HB0.out.trans (B12.mono HB0.out.size))
  have HM := hide (rmayS_T 2 n ti tf x cm W2 h)
  have HW := hide hW.symm
  have HW2 := hide hW2.symm
  have C10 : Hid (SC[17]? = some (.string s.inf) ∧ SC[18]? = some (.string s.nan)) := hide (by rw [hSC]; exact ⟨rfl, rfl⟩)
  have EV : symV s = .agg SC := by rw [hSC]; rfl
  rw [EV]
  clear h hW hW2 B12 EV hSC BX0 BY0 HB0
  obtain ⟨x_0, x_1, x_2, x_3, x_4, x_5⟩ := shown6 BX2.out
  go_enter Tryz.func10, Tryz.ntmps10
  go_wp2_with (first | simp only [HW.out] | simp only [HW2.out])
  refine HM.out.mono ?_
  rintro e w1 ⟨rfl, hb1⟩
  have BX1 := Blk.on BX2 hb1
  have BY1 := Blk.on BY2 hb1
  have O1 := hide (ownD_below O2.out hb1)
  have HB1 := hide (HB2.out.trans (hb1.mono HB2.out.size))
  have hS1 : w.heap.size + 2 ≤ w1.heap.size := by have := hb1.size; have := BY2.out.lt; omega
  clear x_0 x_1 x_2 x_3 x_4 x_5 hb1 BX2 BY2 O2 HB2 HM HW HW2
  obtain ⟨x_0, x_1, x_2, x_3, x_4, x_5⟩ := shown6 BX1.out
  have y_18 := (BY1.out.cell 18).trans C10.out.2
  have AG := hide (raddP_any [] s.nan 2 O1.out hS1 (by simp))
  obtain ⟨A3, hA3⟩ : ∃ A3, A3 = oneP s.nan 2 := ⟨_, rfl⟩
  obtain ⟨k3, hk3⟩ : ∃ k3, k3 = A3.length := ⟨_, rfl⟩
  rw [List.nil_append, ← hA3, ← hk3] at AG
  have HA3 := hide hA3
  have HK3 := hide hk3
  clear hA3 hk3
  go_wp2_with fail
  refine AG.out.mono ?_
  rintro e w2 ⟨⟨v, rfl, ho⟩, hb2⟩
  have O3 := hide ho
  have HB3 := hide (HB1.out.trans (hb2.mono (by omega)))
  clear ho hb2 AG O1 HB1
  go_wp2
  go_ret
  refine ⟨⟨_, rfl, ?_⟩, HB3.out⟩
  rw [← HA3.out, ← HK3.out]
  exact ownD_mono O3.out (by omega)


theorem mayS_cls {y : ShownT} (h : MayS y) : y.cls = 0 ∨ y.cls = 1 ∨ y.cls = 2 := by
  obtain ⟨_, ⟨h, _⟩ | ⟨h, _⟩ | ⟨h, _⟩⟩ := h
  · exact .inl h
  · exact .inr (.inl h)
  · exact .inr (.inr h)
theorem pcsP_no {y : ShownT} (s : Sy) (first further least : Int) (al : Bool) (h : ¬ MayS y) : pcsP y s first further least al = [] := by unfold pcsP; rw [if_pos h]
theorem pcsP_inf {y : ShownT} (s : Sy) (first further least : Int) (al : Bool) (h : MayS y) (hc : y.cls = 1) : pcsP y s first further least al = oneP s.inf 2 := by unfold pcsP; rw [if_neg (fun g => g h), if_pos hc]
theorem pcsP_nan {y : ShownT} (s : Sy) (first further least : Int) (al : Bool) (h : MayS y) (hc : y.cls = 2) : pcsP y s first further least al = oneP s.nan 2 := by unfold pcsP; rw [if_neg (fun g => g h), if_neg (by omega), if_pos hc]
theorem pcsP_fin {y : ShownT} (s : Sy) (first further least : Int) (al : Bool) (h : MayS y) (hc : y.cls = 0) : pcsP y s first further least al = intP s (szG y.int.length first further least) y.int ++ fraP s y al := by unfold pcsP; rw [if_neg (fun g => g h), if_neg (by omega), if_neg (by omega)]

theorem dPieces_any (c : Int) (n : Bool) (ti tf : ByteArray) (x : Int) (cm : Bool) (s : Sy) (first further least : Int) (al : Bool) (w : World) (htab : Tab w) (hf : first ≤ 9223372036854775807) (hu : further ≤ 9223372036854775807) (hwi : (wrL s (bys ti)).length ≤ 100000000000) (hwf : (wrL s (bys tf)).length ≤ 100000000000) :
    Calls Tryz.prog 18 #[shV c n ti tf x cm, symV s, .int .i64 first, .int .i64 further, .int .i64 least, .bool al] w fun e w' => (∃ v, e = .returned v ∧ w'.ownsRow w.heap.size 34 2 v (pcsP ⟨c, n, bys ti, bys tf, x, cm⟩ s first further least al).length (cellsP (pcsP ⟨c, n, bys ti, bys tf, x, cm⟩ s first further least al))) ∧ Below w.heap.size w w' := by
  by_cases h : MayS ⟨c, n, bys ti, bys tf, x, cm⟩
  · rcases mayS_cls h with hc | hc | hc
    · rw [pcsP_fin s first further least al h hc]
      obtain rfl : c = 0 := hc
      exact pieces_fin n ti tf x cm s first further least al w htab h hf hu (by omega) (by omega)
    · rw [pcsP_inf s first further least al h hc]
      obtain rfl : c = 1 := hc
      exact pieces_inf n ti tf x cm s first further least al w htab h
    · rw [pcsP_nan s first further least al h hc]
      obtain rfl : c = 2 := hc
      exact pieces_nan n ti tf x cm s first further least al w htab h
  · rw [pcsP_no s first further least al h]
    refine (pieces_no c n ti tf x cm s first further least al w htab h).mono ?_
    rintro e w' ⟨h1, h2⟩
    exact ⟨⟨_, h1, World.ownsRow_nil _ _ _ _⟩, h2⟩

theorem rPieces16_any (c : Int) (n : Bool) (ti tf : ByteArray) (x : Int) (cm : Bool) (s : Sy) (first further least : Int) (al : Bool) (w : World) (hz1 : ti.size ≤ 281474976710656) (hz2 : tf.size ≤ 281474976710656) (hf : first ≤ 9223372036854775807) (hu : further ≤ 9223372036854775807) (hwi : (wrL s (bys ti)).length ≤ 100000000000) (hwf : (wrL s (bys tf)).length ≤ 100000000000) :
    Calls Tryz.prog 10 #[shV c n ti tf x cm, symV s, .int .i64 first, .int .i64 further, .int .i64 least, .bool al] w fun e w' => (∃ v, e = .returned v ∧ w'.ownsRow w.heap.size 34 2 v (pcsP ⟨c, n, bys ti, bys tf, x, cm⟩ s first further least al).length (cellsP (pcsP ⟨c, n, bys ti, bys tf, x, cm⟩ s first further least al))) ∧ Below w.heap.size w w' := by
  by_cases h : MayS ⟨c, n, bys ti, bys tf, x, cm⟩
  · rcases mayS_cls h with hc | hc | hc
    · rw [pcsP_fin s first further least al h hc]
      obtain rfl : c = 0 := hc
      exact rpieces_fin n ti tf x cm s first further least al w h hf hu hwi hwf
    · rw [pcsP_inf s first further least al h hc]
      obtain rfl : c = 1 := hc
      exact rpieces_inf n ti tf x cm s first further least al w h
    · rw [pcsP_nan s first further least al h hc]
      obtain rfl : c = 2 := hc
      exact rpieces_nan n ti tf x cm s first further least al w h
  · rw [pcsP_no s first further least al h]
    exact rpieces_no c n ti tf x cm s first further least al w hz1 hz2 h

end Go.Proofs.YtionbkmbhhlmjaaGreatDoor
