/-
  What quipuref16's Pieces answers.
  What quipuref16's Pieces and digits' Pieces answer, of whatever is shown.
  What digits' amount, filled and Exponent answer.
-/
import Derived.Test.YtionbkmbhhlmjaaGreatDoorXB13
import Derived.Test.YtionbkmbhhlmjaaGreatDoorXB15
import Derived.Test.YtionbkmbhhlmjaaGreatDoorXB6
import Derived.Test.YtionbkmbhhlmjaaGreatDoorXB9
namespace Go.Proofs.YtionbkmbhhlmjaaGreatDoor
open Go.RowKit

end Go.Proofs.YtionbkmbhhlmjaaGreatDoor

namespace Go.Proofs.YtionbkmbhhlmjaaGreatDoor
open Go.RowKit

theorem mayS_cls {y : ShownT} (h : MayS y) : y.cls = 0 ∨ y.cls = 1 ∨ y.cls = 2 := by
  obtain ⟨_, ⟨h, _⟩ | ⟨h, _⟩ | ⟨h, _⟩⟩ := h
  · exact .inl h
  · exact .inr (.inl h)
  · exact .inr (.inr h)
theorem pcsP_no {y : ShownT} (s : Sy) (first further least : Int) (al : Bool) (h : ¬ MayS y) : pcsP y s first further least al = [] := by unfold pcsP; rw [if_pos h]
theorem pcsP_inf {y : ShownT} (s : Sy) (first further least : Int) (al : Bool) (h : MayS y) (hc : y.cls = 1) : pcsP y s first further least al = oneP s.inf 2 := by unfold pcsP; rw [if_neg (fun g => g h), if_pos hc]
theorem pcsP_nan {y : ShownT} (s : Sy) (first further least : Int) (al : Bool) (h : MayS y) (hc : y.cls = 2) : pcsP y s first further least al = oneP s.nan 2 := by unfold pcsP; rw [if_neg (fun g => g h), if_neg (by omega), if_pos hc]
theorem pcsP_fin {y : ShownT} (s : Sy) (first further least : Int) (al : Bool) (h : MayS y) (hc : y.cls = 0) : pcsP y s first further least al = intP s (szG y.int.length first further least) y.int ++ fraP s y al := by unfold pcsP; rw [if_neg (fun g => g h), if_neg (by omega), if_neg (by omega)]

theorem dPieces_any (c : Int) (n : Bool) (ti tf : ByteArray) (x : Int) (cm : Bool) (s : Sy) (first further least : Int) (al : Bool) (w : World) (htab : Tab w) (hf : first ≤ 9223372036854775807) (hu : further ≤ 9223372036854775807) (hwi : (wrL s (bys ti)).length ≤ 100000000000) (hwf : (wrL s (bys tf)).length ≤ 100000000000) :
    Calls Tryz.prog 18 #[shV c n ti tf x cm, symV s, .int .i64 first, .int .i64 further, .int .i64 least, .bool al] w fun e w' => (∃ v, e = .returned v ∧ w'.ownsRow w.heap.size 34 2 v (pcsP ⟨c, n, bys ti, bys tf, x, cm⟩ s first further least al).length (cellsP (pcsP ⟨c, n, bys ti, bys tf, x, cm⟩ s first further least al))) ∧ Below w.heap.size w w' := by
  by_cases h : MayS ⟨c, n, bys ti, bys tf, x, cm⟩
  · rcases mayS_cls h with hc | hc | hc
    · rw [pcsP_fin s first further least al h hc]
      obtain rfl : c = 0 := hc
      exact pieces_fin n ti tf x cm s first further least al w htab h hf hu (by omega) (by omega)
    · rw [pcsP_inf s first further least al h hc]
      obtain rfl : c = 1 := hc
      exact pieces_inf n ti tf x cm s first further least al w htab h
    · rw [pcsP_nan s first further least al h hc]
      obtain rfl : c = 2 := hc
      exact pieces_nan n ti tf x cm s first further least al w htab h
  · rw [pcsP_no s first further least al h]
    refine (pieces_no c n ti tf x cm s first further least al w htab h).mono ?_
    rintro e w' ⟨h1, h2⟩
    exact ⟨⟨_, h1, World.ownsRow_nil _ _ _ _⟩, h2⟩

end Go.Proofs.YtionbkmbhhlmjaaGreatDoor

namespace Go.Proofs.YtionbkmbhhlmjaaGreatDoor
open Go.RowKit

set_option maxHeartbeats 1000000 in
theorem amountD_any (e : Int) (w : World) (h1 : -9223372036854775808 ≤ e) (h2 : e ≤ 9223372036854775807) : Calls Tryz.prog 25 #[.int .i64 e] w fun r w' => r = .returned (.int .u64 ((e.natAbs : Nat) : Int)) ∧ w' = w := by
  by_cases h : e < 0
  · have hw1 : IntKind.u64.wrap e = e + 18446744073709551616 := by rw [IntKind.wrap_u64]; omega
    have hw2 : IntKind.u64.wrap (-(e + 18446744073709551616)) = ((e.natAbs : Nat) : Int) := by rw [IntKind.wrap_u64]; omega
    go_enter Tryz.func25, Tryz.ntmps25
    go_wp2
    go_ret
    exact ⟨by first | rfl | (rw [hw2]), rfl⟩
  · have hw1 : IntKind.u64.wrap e = ((e.natAbs : Nat) : Int) := by rw [IntKind.wrap_u64]; omega
    go_enter Tryz.func25, Tryz.ntmps25
    go_wp2
    go_ret
    exact ⟨by first | rfl | (rw [hw1]), rfl⟩

set_option maxHeartbeats 1000000 in
theorem filledD_any (n : Nat) (least : Int) (w : World) (hn : n < 18446744073709551616) (hl : least ≤ 9223372036854775807) (htab : Tab w) : Calls Tryz.prog 24 #[.int .u64 (n : Int), .int .i64 least] w fun r w' => r = .returned (.string (mkP (fillL n least))) ∧ Below w.heap.size w w' := by
  have FU := hide (fmtUint_any n hn w htab)
  have DL : (Lib.decDigits n).length ≤ 20 := sizeN_le (Nat.lt_of_lt_of_le hn (by decide)) (by omega)
  obtain ⟨d, hd⟩ : ∃ d : ByteArray, d = ⟨(Lib.decDigits n).toArray⟩ := ⟨_, rfl⟩
  have hds : d.size = (Lib.decDigits n).length := by rw [hd, size_mk0]
  rw [← hd] at FU
  by_cases h : least ≤ (d.size : Int)
  · have E : Hid (d = mkP (fillL n least)) := hide (by
      unfold fillL
      rw [show (min 99 (least - ((Lib.decDigits n).length : Int))).toNat = 0 by omega, hd]
      rfl)
    clear htab hd hds
    go_enter Tryz.func24, Tryz.ntmps24
    go_wp2_with fail
    refine FU.out.mono ?_
    rintro e w1 ⟨rfl, hb⟩
    have HB := hide hb
    clear hb
    go_wp2
    go_ret
    exact ⟨by rw [E.out]; rfl, HB.out⟩
  · obtain ⟨k, hk⟩ : ∃ k : Nat, (k : Int) = min 99 (least - (d.size : Int)) := ⟨(min 99 (least - (d.size : Int))).toNat, by omega⟩
    have RP := hide (fun W => repeat_any k W (by omega))
    obtain ⟨z, hz⟩ : ∃ z : ByteArray, z = ⟨(List.replicate k (48 : UInt8)).toArray⟩ := ⟨_, rfl⟩
    rw [← hz] at RP
    have E : Hid (z ++ d = mkP (fillL n least)) := hide (by
      unfold fillL
      rw [show (min 99 (least - ((Lib.decDigits n).length : Int))).toNat = k by omega, mkP_app, hz, hd]
      rfl)
    have hzs : z.size = k := by rw [hz, size_mk0, List.length_replicate]
    have hcat : ¬ 9223372036854775807 < z.size + d.size := by omega
    have hw : IntKind.i64.wrap (least - (d.size : Int)) = least - (d.size : Int) := by rw [IntKind.wrap_i64]; omega
    have MN : ∀ (w : World) (ts : Array TypeId) (t : TypeId), (Builtin.min_ ts t #[.int .i64 (least - (d.size : Int)), .int .i64 99]).run Tryz.prog w = .ok (.int .i64 (k : Int)) w := by
      intro w ts t
      rw [run_min_int2, hk]
      congr 2
      omega
    clear htab hd hds hz hk
    go_enter Tryz.func24, Tryz.ntmps24
    go_wp2_with fail
    refine FU.out.mono ?_
    rintro e w1 ⟨rfl, hb⟩
    have HB := hide hb
    clear hb
    go_wp2_with fail
    refine (RP.out _).mono ?_
    rintro e w2 ⟨rfl, hb2⟩
    have HB2 := hide (HB.out.trans (hb2.mono HB.out.size))
    clear hb2
    go_wp2
    go_ret
    exact ⟨by rw [E.out]; rfl, HB2.out⟩

def SyS (b : Nat) (SC : Array Value) (w : World) : Prop := w.rangeAt b 0 SC.toList
theorem fillL_dig (n : Nat) (least : Int) : DigB (fillL n least) := by
  unfold fillL
  intro k hk
  by_cases h : k < (List.replicate (min 99 (least - ((Lib.decDigits n).length : Int))).toNat (48 : UInt8)).length
  · have e : byt (List.replicate (min 99 (least - ((Lib.decDigits n).length : Int))).toNat 48 ++ Lib.decDigits n) k = 48 := by
      unfold byt
      rw [List.getElem?_append_left h, List.getElem?_replicate, if_pos (by simpa using h)]
      rfl
    rw [e]; decide
  · have h' : (List.replicate (min 99 (least - ((Lib.decDigits n).length : Int))).toNat (48 : UInt8)).length ≤ k := by omega
    have e : byt (List.replicate (min 99 (least - ((Lib.decDigits n).length : Int))).toNat 48 ++ Lib.decDigits n) k = byt (Lib.decDigits n) (k - (List.replicate (min 99 (least - ((Lib.decDigits n).length : Int))).toNat (48 : UInt8)).length) := by
      unfold byt
      rw [List.getElem?_append_right h']
    rw [e]
    exact (dd_okT n).2.2 _ (by rw [List.length_append] at hk; omega)
theorem fillL_len (n : Nat) (least : Int) (hn : n < 18446744073709551616) : (fillL n least).length ≤ 200 := by
  have DL : (Lib.decDigits n).length ≤ 20 := sizeN_le (Nat.lt_of_lt_of_le hn (by decide)) (by omega)
  unfold fillL
  rw [List.length_append, List.length_replicate]
  omega

set_option maxRecDepth 100000 in
set_option maxHeartbeats 16000000 in
theorem exponent_any (e least : Int) (plus : Bool) (s : Sy) (w : World) (htab : Tab w) (h1 : -9223372036854775808 ≤ e) (h2 : e ≤ 9223372036854775807) (hl : least ≤ 9223372036854775807) (hw : (wrL s (fillL e.natAbs least)).length ≤ 140737488355328) :
    Calls Tryz.prog 12 #[.int .i64 e, .int .i64 least, .bool plus, symV s] w fun r w' => (∃ v, r = .returned v ∧ w'.ownsRow w.heap.size 34 2 v (expP e least plus s).length (cellsP (expP e least plus s))) ∧ Below w.heap.size w w' := by
  obtain ⟨SC, hSC⟩ : ∃ SC, SC = symC s := ⟨_, rfl⟩
  obtain ⟨W, hW⟩ : ∃ W, W = w.alloc (.cells SC 26) := ⟨_, rfl⟩
  have BY0 := hide (show Blk W w.heap.size SC 26 by rw [hW]; exact Blk.newAt _ _ rfl _ _)
  have HB0 : Hid (Below w.heap.size w W) := hide (by rw [hW]; exact (Below.refl _ _).alloc (Nat.le_refl _) _)
  obtain ⟨W2, hW2⟩ : ∃ W2, W2 = W.alloc (.cells #[.slice none 0 0] 50) := ⟨_, rfl⟩
  have hDw : w.heap.size < W.heap.size := BY0.out.lt
  have BB2 : Hid (Below W.heap.size W W2) := hide (by rw [hW2]; exact (Below.refl _ _).alloc (Nat.le_refl _) _)
  have BY2 := Blk.on BY0 BB2.out
  have HB2 := hide (HB0.out.trans (BB2.out.mono HB0.out.size))
  have R2 : Hid (RowV W2 W.heap.size (.slice none 0 0) []) := hide ⟨by rw [hW2]; exact Blk.newAt W W.heap.size rfl _ _, World.ownsRow_nil _ _ _ _⟩
  have HW := hide hW.symm
  have HW2 := hide hW2.symm
  have SL : SC.toList.length = 21 := by rw [hSC]; rfl
  have C10 : Hid (SC[16]? = some (.string s.exp) ∧ SC[12]? = some (.string s.min) ∧ SC[13]? = some (.string s.plu)) := hide (by rw [hSC]; exact ⟨rfl, rfl, rfl⟩)
  have SI : (Tryz.prog.info? 26).map (·.size) = some SC.toList.length := by rw [SL]; exact symInfo
  have HT := hide htab
  have WR : Hid (∀ (t : ByteArray) X, DigB (bys t) → t.size ≤ 4096 → Calls Tryz.prog 23 #[.string t, .agg SC] X fun e w' => (∃ v, e = .returned v ∧ ∃ B, w'.ownsRow B 9 1 v t.size (cellsD s (bys t))) ∧ Below X.heap.size X w') := hide (fun t X h1 h2 => by
    rw [hSC]
    exact (written_any t s X h1 (by omega)).mono fun e w' ⟨⟨v, q1, q2⟩, q3⟩ => ⟨⟨v, q1, _, q2⟩, q3⟩)
  have HP := hide (put_any [] s.exp 6 R2.out (by simp))
  have EV : symV s = .agg SC := by rw [hSC]; rfl
  rw [EV]
  have y_16 := (BY2.out.cell 16).trans C10.out.1
  clear hW hW2 EV SL BB2 BY0 HB0 htab hSC
  obtain ⟨NA, hNA0⟩ : ∃ NA, NA = e.natAbs := ⟨_, rfl⟩
  obtain ⟨TX, hTX0⟩ : ∃ TX, TX = mkP (fillL e.natAbs least) := ⟨_, rfl⟩
  obtain ⟨JX, hJX0⟩ : ∃ JX, JX = mkP (wrL s (fillL e.natAbs least)) := ⟨_, rfl⟩
  have hNA : Hid (((e.natAbs : Nat) : Int) = (NA : Int)) := hide (by rw [hNA0])
  have hNAl : NA < 18446744073709551616 := by omega
  have hTX : Hid (mkP (fillL NA least) = TX) := hide (by rw [hTX0, hNA0])
  have hTd : DigB (bys TX) := by rw [hTX0]; exact fillL_dig _ _
  have hTl : TX.size ≤ 4096 := by
    have := fillL_len NA least hNAl
    rw [hTX0, mkP_size, ← hNA0]
    omega
  have hw' : (wrL s (bys TX)).length ≤ 140737488355328 := by rw [hTX0]; exact hw
  have hJX : Hid (mkP (wrL s (bys TX)) = JX) := hide (by rw [hTX0, hJX0]; rfl)
  have PE : Hid (expP e least plus s = oneP s.exp 6 ++ sgnP e plus s ++ oneP JX 8) := hide (by unfold expP; rw [hJX0])
  clear hw hNA0 hTX0 hJX0
  go_enter Tryz.func12, Tryz.ntmps12
  go_wp2_with (first | simp only [HW.out] | simp only [HW2.out])
  refine HP.out.mono ?_
  rintro r wz1 ⟨rfl, ⟨vz1, hvz1⟩, hbz1, hoz1⟩
  rw [List.nil_append] at hvz1
  have RZ1 := hide hvz1
  have KK := KD.of R2.out hoz1
  have BYZ1 := hide (KK.blk BY2.out (by decide) (by decide))
  have HBZ1 := hide (HB2.out.trans (hbz1.mono (by omega)))
  have hD1 : W.heap.size < wz1.heap.size := RZ1.out.1.lt
  clear hvz1 hbz1 hoz1 KK HP R2 BY2 HB2 y_16 HW HW2
  by_cases hneg : e < 0
  · have PS : Hid (oneP s.exp 6 ++ oneP s.min 7 = oneP s.exp 6 ++ sgnP e plus s) := hide (by unfold sgnP; rw [if_pos hneg])
    have y_12 := (BYZ1.out.cell 12).trans C10.out.2.1
    have HS := hide (put_any (oneP s.exp 6) s.min 7 RZ1.out (by have := oneP_len s.exp 6; omega))
    go_wp2_with fail
    refine HS.out.mono ?_
    rintro r wz2 ⟨rfl, ⟨vz2, hvz2⟩, hbz2, hoz2⟩
    have RZ2 := hide hvz2
    have KK := KD.of RZ1.out hoz2
    have BYZ2 := hide (KK.blk BYZ1.out (by decide) (by decide))
    have HBZ2 := hide (HBZ1.out.trans (hbz2.mono (by omega)))
    have hD2 : W.heap.size < wz2.heap.size := RZ2.out.1.lt
    clear hvz2 hbz2 hoz2 KK HS BYZ1 RZ1 HBZ1 hD1 y_12
    have KS : Hid (∀ X, Below wz2.heap.size wz2 X → SyS w.heap.size SC X) := hide (fun X hb => (BYZ2.out.below hb BYZ2.out.lt).range)
    have C1 : Hid (∀ X, Hid (Below wz2.heap.size wz2 X) → Calls Tryz.prog 25 #[.int .i64 e] X fun r w' => r = .returned (.int .u64 (NA : Int)) ∧ Hid (Below wz2.heap.size wz2 w') ∧ SyS w.heap.size SC w') := hide (fun X bX => by
      refine (amountD_any e X h1 h2).mono ?_
      rintro r w' ⟨h3, rfl⟩
      rw [hNA.out] at h3
      exact ⟨h3, bX, KS.out _ bX.out⟩)
    have C3 : Hid (∀ X, Hid (Below wz2.heap.size wz2 X) → Calls Tryz.prog 24 #[.int .u64 (NA : Int), .int .i64 least] X fun r w' => r = .returned (.string TX) ∧ Hid (Below wz2.heap.size wz2 w') ∧ SyS w.heap.size SC w') := hide (fun X bX => by
      refine (filledD_any NA least X hNAl hl (HT.out.below (HBZ2.out.trans (bX.out.mono HBZ2.out.size)))).mono ?_
      rintro r w' ⟨h3, hb⟩
      rw [hTX.out] at h3
      have bb := bX.out.trans (hb.mono bX.out.size)
      exact ⟨h3, hide bb, KS.out _ bb⟩)
    have C5 : Hid (∀ X, Hid (Below wz2.heap.size wz2 X) → Calls Tryz.prog 23 #[.string TX, .agg SC] X fun r w' => (∃ v, r = .returned v ∧ Hid (∃ B, w'.ownsRow B 9 1 v TX.size (cellsD s (bys TX)))) ∧ Hid (Below wz2.heap.size wz2 w') ∧ SyS w.heap.size SC w') := hide (fun X bX => by
      refine (WR.out TX X hTd hTl).mono ?_
      rintro r w' ⟨⟨v, rfl, ho⟩, hb⟩
      have bb := bX.out.trans (hb.mono bX.out.size)
      exact ⟨⟨v, rfl, hide ho⟩, hide bb, KS.out _ bb⟩)
    have C6 : Hid (∀ X tv, Hid (∃ B, X.ownsRow B 9 1 tv TX.size (cellsD s (bys TX))) → Hid (Below wz2.heap.size wz2 X) → Calls Tryz.prog 22 #[tv] X fun r w' => r = .returned (.string JX) ∧ Hid (Below wz2.heap.size wz2 w') ∧ SyS w.heap.size SC w') := hide (fun X tv ho bX => by
      obtain ⟨B, ho⟩ := ho.out
      refine (joined_own s (bys TX) ho (bys_len TX) (by omega) hw').mono ?_
      rintro r w' ⟨h3, hb⟩
      rw [hJX.out] at h3
      have bb := bX.out.trans (hb.mono bX.out.size)
      exact ⟨h3, hide bb, KS.out _ bb⟩)
    have C7 : Hid (∀ X, Hid (Below wz2.heap.size wz2 X) → Calls Tryz.prog 21 #[.pointer (some ⟨W.heap.size, 0, none⟩), .string JX, .int .i64 8] X fun r w' => r = .returned (.tuple #[]) ∧ Hid (∃ v', RowV w' W.heap.size v' ((oneP s.exp 6 ++ oneP s.min 7) ++ oneP JX 8)) ∧ Hid (Below w.heap.size w w') ∧ SyS w.heap.size SC w') := hide (fun X bX => by
      refine (put_any (oneP s.exp 6 ++ oneP s.min 7) JX 8 (RZ2.out.below bX.out) (by have := oneP_len s.exp 6; have := oneP_len s.min 7; have := oneP_len s.plu 7; (try simp only [List.length_append]); omega)).mono ?_
      rintro r w' ⟨h3, hv, hb, ho⟩
      have BYq := (KD.of (RZ2.out.below bX.out) ho).blk (BYZ2.out.below bX.out BYZ2.out.lt) (by decide) (by decide)
      exact ⟨h3, hide hv, hide ((HBZ2.out.trans (bX.out.mono HBZ2.out.size)).trans (hb.mono (by omega))), BYq.range⟩)
    have b0 : Hid (Below wz2.heap.size wz2 wz2.drew) := bdrewD wz2
    have hS0 := KS.out wz2.drew b0.out
    clear KS WR HT RZ2 BYZ2 HBZ2 hTd hTl hw' h1 h2 hl hNAl hD2
    go_wp2_with fail
    refine wp_region_held_drew (S := SyS w.heap.size SC) (by kernel_rfl) ?_ (fun hHeld => ?_)
    · assumption
    refine wpAnyH_take (i := 0) (oi := Oper.mk (some 24) _ _ _ _ _) (v := .int .i64 e) rfl (by kernel_rfl) (by kernel_rfl) (by kernel_rfl) (fun _ _ _ h => h) (Or.inl ⟨by rfl, ?_⟩) (by assumption) ?_
    · intro wX hSw
      (try dsimp only at hSw)
      go_simp
    simp only [Act.put, List.setIfInBounds_toArray, List.set_cons_succ, List.set_cons_zero]
    refine wpAnyH_take (i := 2) (oi := Oper.mk (some 26) _ _ _ _ _) (v := .int .i64 least) rfl (by kernel_rfl) (by kernel_rfl) (by kernel_rfl) (fun _ _ _ h => h) (Or.inl ⟨by rfl, ?_⟩) (by assumption) ?_
    · intro wX hSw
      (try dsimp only at hSw)
      go_simp
    simp only [Act.put, List.setIfInBounds_toArray, List.set_cons_succ, List.set_cons_zero]
    refine wpAnyH_take (i := 4) (oi := Oper.mk (some 28) _ _ _ _ _) (v := .agg SC.toList.toArray) rfl (by kernel_rfl) (by kernel_rfl) (by kernel_rfl) (fun _ _ _ h => h) (yieldsIf_load_mid (by rfl) _ _ rfl _ _ rfl SC.toList _ (fun _ hw => hw) Tryz.underlying26 rfl SI) (by assumption) ?_
    rw [Array.toArray_toList]
    simp only [Act.put, List.setIfInBounds_toArray, List.set_cons_succ, List.set_cons_zero]
    refine wpAnyH_ready (rs := [1]) (by kernel_rfl) (by simp) ?_
    refine AllReadyH.cons (o := Oper.mk (some 25) _ _ _ _ _) rfl (fun K hK => ?_) AllReadyH.nil
    go_simp
    refine (C1.out _ b0).mono ?_
    rintro r w3 ⟨rfl, b1, s1⟩
    refine hK.out _ _ ?_ (fun hHeld => ?_)
    · assumption
    clear hK K
    refine wpAnyH_ready (rs := [3]) (by kernel_rfl) (by simp) ?_
    refine AllReadyH.cons (o := Oper.mk (some 27) _ _ _ _ _) rfl (fun K hK => ?_) AllReadyH.nil
    go_simp
    refine (C3.out _ b1).mono ?_
    rintro r w4 ⟨rfl, b2, s2⟩
    refine hK.out _ _ ?_ (fun hHeld => ?_)
    · assumption
    clear hK K
    refine wpAnyH_ready (rs := [5]) (by kernel_rfl) (by simp) ?_
    refine AllReadyH.cons (o := Oper.mk (some 29) _ _ _ _ _) rfl (fun K hK => ?_) AllReadyH.nil
    go_simp
    refine (C5.out _ b2).mono ?_
    rintro r w5 ⟨⟨tv, rfl, o1⟩, b3, s3⟩
    refine hK.out _ _ ?_ (fun hHeld => ?_)
    · assumption
    clear hK K
    refine wpAnyH_ready (rs := [6]) (by kernel_rfl) (by simp) ?_
    refine AllReadyH.cons (o := Oper.mk (some 30) _ _ _ _ _) rfl (fun K hK => ?_) AllReadyH.nil
    go_simp
    refine (C6.out _ _ o1 b3).mono ?_
    rintro r w6 ⟨rfl, b4, s4⟩
    refine hK.out _ _ ?_ (fun hHeld => ?_)
    · assumption
    clear hK K
    refine wpAnyH_ready (rs := [7]) (by kernel_rfl) (by simp) ?_
    refine AllReadyH.cons (o := Oper.mk (some 31) _ _ _ _ _) rfl (fun K hK => ?_) AllReadyH.nil
    go_simp
    refine (C7.out _ b4).mono ?_
    rintro r w7 ⟨rfl, RZ0, b5, s5⟩
    refine hK.out _ _ ?_ (fun hHeld => ?_)
    · assumption
    clear hK K
    refine wpAnyH_done (by kernel_rfl) ?_ _
    obtain ⟨v7, RZ7⟩ := RZ0.out
    have R7 := hide RZ7
    clear RZ7 RZ0 C1 C3 C5 C6 C7 b0 b1 b2 b3 b4 s1 s2 s3 s4 s5 hS0 o1 hHeld
    have d7 := R7.out.1.cell 0
    go_wp2
    go_ret
    refine ⟨⟨_, rfl, ?_⟩, b5.out⟩
    have q := ownD_mono R7.out.2 (Nat.le_of_lt (Nat.lt_succ_of_lt hDw))
    rw [PS.out, ← PE.out] at q
    exact q
  · cases plus
    · have PS : Hid (oneP s.exp 6 = oneP s.exp 6 ++ sgnP e false s) := hide (by unfold sgnP; rw [if_neg hneg]; simp)
      have KS : Hid (∀ X, Below wz1.heap.size wz1 X → SyS w.heap.size SC X) := hide (fun X hb => (BYZ1.out.below hb BYZ1.out.lt).range)
      have C1 : Hid (∀ X, Hid (Below wz1.heap.size wz1 X) → Calls Tryz.prog 25 #[.int .i64 e] X fun r w' => r = .returned (.int .u64 (NA : Int)) ∧ Hid (Below wz1.heap.size wz1 w') ∧ SyS w.heap.size SC w') := hide (fun X bX => by
        refine (amountD_any e X h1 h2).mono ?_
        rintro r w' ⟨h3, rfl⟩
        rw [hNA.out] at h3
        exact ⟨h3, bX, KS.out _ bX.out⟩)
      have C3 : Hid (∀ X, Hid (Below wz1.heap.size wz1 X) → Calls Tryz.prog 24 #[.int .u64 (NA : Int), .int .i64 least] X fun r w' => r = .returned (.string TX) ∧ Hid (Below wz1.heap.size wz1 w') ∧ SyS w.heap.size SC w') := hide (fun X bX => by
        refine (filledD_any NA least X hNAl hl (HT.out.below (HBZ1.out.trans (bX.out.mono HBZ1.out.size)))).mono ?_
        rintro r w' ⟨h3, hb⟩
        rw [hTX.out] at h3
        have bb := bX.out.trans (hb.mono bX.out.size)
        exact ⟨h3, hide bb, KS.out _ bb⟩)
      have C5 : Hid (∀ X, Hid (Below wz1.heap.size wz1 X) → Calls Tryz.prog 23 #[.string TX, .agg SC] X fun r w' => (∃ v, r = .returned v ∧ Hid (∃ B, w'.ownsRow B 9 1 v TX.size (cellsD s (bys TX)))) ∧ Hid (Below wz1.heap.size wz1 w') ∧ SyS w.heap.size SC w') := hide (fun X bX => by
        refine (WR.out TX X hTd hTl).mono ?_
        rintro r w' ⟨⟨v, rfl, ho⟩, hb⟩
        have bb := bX.out.trans (hb.mono bX.out.size)
        exact ⟨⟨v, rfl, hide ho⟩, hide bb, KS.out _ bb⟩)
      have C6 : Hid (∀ X tv, Hid (∃ B, X.ownsRow B 9 1 tv TX.size (cellsD s (bys TX))) → Hid (Below wz1.heap.size wz1 X) → Calls Tryz.prog 22 #[tv] X fun r w' => r = .returned (.string JX) ∧ Hid (Below wz1.heap.size wz1 w') ∧ SyS w.heap.size SC w') := hide (fun X tv ho bX => by
        obtain ⟨B, ho⟩ := ho.out
        refine (joined_own s (bys TX) ho (bys_len TX) (by omega) hw').mono ?_
        rintro r w' ⟨h3, hb⟩
        rw [hJX.out] at h3
        have bb := bX.out.trans (hb.mono bX.out.size)
        exact ⟨h3, hide bb, KS.out _ bb⟩)
      have C7 : Hid (∀ X, Hid (Below wz1.heap.size wz1 X) → Calls Tryz.prog 21 #[.pointer (some ⟨W.heap.size, 0, none⟩), .string JX, .int .i64 8] X fun r w' => r = .returned (.tuple #[]) ∧ Hid (∃ v', RowV w' W.heap.size v' ((oneP s.exp 6) ++ oneP JX 8)) ∧ Hid (Below w.heap.size w w') ∧ SyS w.heap.size SC w') := hide (fun X bX => by
        refine (put_any (oneP s.exp 6) JX 8 (RZ1.out.below bX.out) (by have := oneP_len s.exp 6; have := oneP_len s.min 7; have := oneP_len s.plu 7; (try simp only [List.length_append]); omega)).mono ?_
        rintro r w' ⟨h3, hv, hb, ho⟩
        have BYq := (KD.of (RZ1.out.below bX.out) ho).blk (BYZ1.out.below bX.out BYZ1.out.lt) (by decide) (by decide)
        exact ⟨h3, hide hv, hide ((HBZ1.out.trans (bX.out.mono HBZ1.out.size)).trans (hb.mono (by omega))), BYq.range⟩)
      have b0 : Hid (Below wz1.heap.size wz1 wz1.drew) := bdrewD wz1
      have hS0 := KS.out wz1.drew b0.out
      clear KS WR HT RZ1 BYZ1 HBZ1 hTd hTl hw' h1 h2 hl hNAl hD1
      go_wp2_with fail
      refine wp_region_held_drew (S := SyS w.heap.size SC) (by kernel_rfl) ?_ (fun hHeld => ?_)
      · assumption
      refine wpAnyH_take (i := 0) (oi := Oper.mk (some 24) _ _ _ _ _) (v := .int .i64 e) rfl (by kernel_rfl) (by kernel_rfl) (by kernel_rfl) (fun _ _ _ h => h) (Or.inl ⟨by rfl, ?_⟩) (by assumption) ?_
      · intro wX hSw
        (try dsimp only at hSw)
        go_simp
      simp only [Act.put, List.setIfInBounds_toArray, List.set_cons_succ, List.set_cons_zero]
      refine wpAnyH_take (i := 2) (oi := Oper.mk (some 26) _ _ _ _ _) (v := .int .i64 least) rfl (by kernel_rfl) (by kernel_rfl) (by kernel_rfl) (fun _ _ _ h => h) (Or.inl ⟨by rfl, ?_⟩) (by assumption) ?_
      · intro wX hSw
        (try dsimp only at hSw)
        go_simp
      simp only [Act.put, List.setIfInBounds_toArray, List.set_cons_succ, List.set_cons_zero]
      refine wpAnyH_take (i := 4) (oi := Oper.mk (some 28) _ _ _ _ _) (v := .agg SC.toList.toArray) rfl (by kernel_rfl) (by kernel_rfl) (by kernel_rfl) (fun _ _ _ h => h) (yieldsIf_load_mid (by rfl) _ _ rfl _ _ rfl SC.toList _ (fun _ hw => hw) Tryz.underlying26 rfl SI) (by assumption) ?_
      rw [Array.toArray_toList]
      simp only [Act.put, List.setIfInBounds_toArray, List.set_cons_succ, List.set_cons_zero]
      refine wpAnyH_ready (rs := [1]) (by kernel_rfl) (by simp) ?_
      refine AllReadyH.cons (o := Oper.mk (some 25) _ _ _ _ _) rfl (fun K hK => ?_) AllReadyH.nil
      go_simp
      refine (C1.out _ b0).mono ?_
      rintro r w3 ⟨rfl, b1, s1⟩
      refine hK.out _ _ ?_ (fun hHeld => ?_)
      · assumption
      clear hK K
      refine wpAnyH_ready (rs := [3]) (by kernel_rfl) (by simp) ?_
      refine AllReadyH.cons (o := Oper.mk (some 27) _ _ _ _ _) rfl (fun K hK => ?_) AllReadyH.nil
      go_simp
      refine (C3.out _ b1).mono ?_
      rintro r w4 ⟨rfl, b2, s2⟩
      refine hK.out _ _ ?_ (fun hHeld => ?_)
      · assumption
      clear hK K
      refine wpAnyH_ready (rs := [5]) (by kernel_rfl) (by simp) ?_
      refine AllReadyH.cons (o := Oper.mk (some 29) _ _ _ _ _) rfl (fun K hK => ?_) AllReadyH.nil
      go_simp
      refine (C5.out _ b2).mono ?_
      rintro r w5 ⟨⟨tv, rfl, o1⟩, b3, s3⟩
      refine hK.out _ _ ?_ (fun hHeld => ?_)
      · assumption
      clear hK K
      refine wpAnyH_ready (rs := [6]) (by kernel_rfl) (by simp) ?_
      refine AllReadyH.cons (o := Oper.mk (some 30) _ _ _ _ _) rfl (fun K hK => ?_) AllReadyH.nil
      go_simp
      refine (C6.out _ _ o1 b3).mono ?_
      rintro r w6 ⟨rfl, b4, s4⟩
      refine hK.out _ _ ?_ (fun hHeld => ?_)
      · assumption
      clear hK K
      refine wpAnyH_ready (rs := [7]) (by kernel_rfl) (by simp) ?_
      refine AllReadyH.cons (o := Oper.mk (some 31) _ _ _ _ _) rfl (fun K hK => ?_) AllReadyH.nil
      go_simp
      refine (C7.out _ b4).mono ?_
      rintro r w7 ⟨rfl, RZ0, b5, s5⟩
      refine hK.out _ _ ?_ (fun hHeld => ?_)
      · assumption
      clear hK K
      refine wpAnyH_done (by kernel_rfl) ?_ _
      obtain ⟨v7, RZ7⟩ := RZ0.out
      have R7 := hide RZ7
      clear RZ7 RZ0 C1 C3 C5 C6 C7 b0 b1 b2 b3 b4 s1 s2 s3 s4 s5 hS0 o1 hHeld
      have d7 := R7.out.1.cell 0
      go_wp2
      go_ret
      refine ⟨⟨_, rfl, ?_⟩, b5.out⟩
      have q := ownD_mono R7.out.2 (Nat.le_of_lt (Nat.lt_succ_of_lt hDw))
      rw [PS.out, ← PE.out] at q
      exact q
    · have PS : Hid (oneP s.exp 6 ++ oneP s.plu 7 = oneP s.exp 6 ++ sgnP e true s) := hide (by unfold sgnP; rw [if_neg hneg, if_pos rfl])
      have y_13 := (BYZ1.out.cell 13).trans C10.out.2.2
      have HS := hide (put_any (oneP s.exp 6) s.plu 7 RZ1.out (by have := oneP_len s.exp 6; omega))
      go_wp2_with fail
      refine HS.out.mono ?_
      rintro r wz2 ⟨rfl, ⟨vz2, hvz2⟩, hbz2, hoz2⟩
      have RZ2 := hide hvz2
      have KK := KD.of RZ1.out hoz2
      have BYZ2 := hide (KK.blk BYZ1.out (by decide) (by decide))
      have HBZ2 := hide (HBZ1.out.trans (hbz2.mono (by omega)))
      have hD2 : W.heap.size < wz2.heap.size := RZ2.out.1.lt
      clear hvz2 hbz2 hoz2 KK HS BYZ1 RZ1 HBZ1 hD1 y_13
      have KS : Hid (∀ X, Below wz2.heap.size wz2 X → SyS w.heap.size SC X) := hide (fun X hb => (BYZ2.out.below hb BYZ2.out.lt).range)
      have C1 : Hid (∀ X, Hid (Below wz2.heap.size wz2 X) → Calls Tryz.prog 25 #[.int .i64 e] X fun r w' => r = .returned (.int .u64 (NA : Int)) ∧ Hid (Below wz2.heap.size wz2 w') ∧ SyS w.heap.size SC w') := hide (fun X bX => by
        refine (amountD_any e X h1 h2).mono ?_
        rintro r w' ⟨h3, rfl⟩
        rw [hNA.out] at h3
        exact ⟨h3, bX, KS.out _ bX.out⟩)
      have C3 : Hid (∀ X, Hid (Below wz2.heap.size wz2 X) → Calls Tryz.prog 24 #[.int .u64 (NA : Int), .int .i64 least] X fun r w' => r = .returned (.string TX) ∧ Hid (Below wz2.heap.size wz2 w') ∧ SyS w.heap.size SC w') := hide (fun X bX => by
        refine (filledD_any NA least X hNAl hl (HT.out.below (HBZ2.out.trans (bX.out.mono HBZ2.out.size)))).mono ?_
        rintro r w' ⟨h3, hb⟩
        rw [hTX.out] at h3
        have bb := bX.out.trans (hb.mono bX.out.size)
        exact ⟨h3, hide bb, KS.out _ bb⟩)
      have C5 : Hid (∀ X, Hid (Below wz2.heap.size wz2 X) → Calls Tryz.prog 23 #[.string TX, .agg SC] X fun r w' => (∃ v, r = .returned v ∧ Hid (∃ B, w'.ownsRow B 9 1 v TX.size (cellsD s (bys TX)))) ∧ Hid (Below wz2.heap.size wz2 w') ∧ SyS w.heap.size SC w') := hide (fun X bX => by
        refine (WR.out TX X hTd hTl).mono ?_
        rintro r w' ⟨⟨v, rfl, ho⟩, hb⟩
        have bb := bX.out.trans (hb.mono bX.out.size)
        exact ⟨⟨v, rfl, hide ho⟩, hide bb, KS.out _ bb⟩)
      have C6 : Hid (∀ X tv, Hid (∃ B, X.ownsRow B 9 1 tv TX.size (cellsD s (bys TX))) → Hid (Below wz2.heap.size wz2 X) → Calls Tryz.prog 22 #[tv] X fun r w' => r = .returned (.string JX) ∧ Hid (Below wz2.heap.size wz2 w') ∧ SyS w.heap.size SC w') := hide (fun X tv ho bX => by
        obtain ⟨B, ho⟩ := ho.out
        refine (joined_own s (bys TX) ho (bys_len TX) (by omega) hw').mono ?_
        rintro r w' ⟨h3, hb⟩
        rw [hJX.out] at h3
        have bb := bX.out.trans (hb.mono bX.out.size)
        exact ⟨h3, hide bb, KS.out _ bb⟩)
      have C7 : Hid (∀ X, Hid (Below wz2.heap.size wz2 X) → Calls Tryz.prog 21 #[.pointer (some ⟨W.heap.size, 0, none⟩), .string JX, .int .i64 8] X fun r w' => r = .returned (.tuple #[]) ∧ Hid (∃ v', RowV w' W.heap.size v' ((oneP s.exp 6 ++ oneP s.plu 7) ++ oneP JX 8)) ∧ Hid (Below w.heap.size w w') ∧ SyS w.heap.size SC w') := hide (fun X bX => by
        refine (put_any (oneP s.exp 6 ++ oneP s.plu 7) JX 8 (RZ2.out.below bX.out) (by have := oneP_len s.exp 6; have := oneP_len s.min 7; have := oneP_len s.plu 7; (try simp only [List.length_append]); omega)).mono ?_
        rintro r w' ⟨h3, hv, hb, ho⟩
        have BYq := (KD.of (RZ2.out.below bX.out) ho).blk (BYZ2.out.below bX.out BYZ2.out.lt) (by decide) (by decide)
        exact ⟨h3, hide hv, hide ((HBZ2.out.trans (bX.out.mono HBZ2.out.size)).trans (hb.mono (by omega))), BYq.range⟩)
      have b0 : Hid (Below wz2.heap.size wz2 wz2.drew) := bdrewD wz2
      have hS0 := KS.out wz2.drew b0.out
      clear KS WR HT RZ2 BYZ2 HBZ2 hTd hTl hw' h1 h2 hl hNAl hD2
      go_wp2_with fail
      refine wp_region_held_drew (S := SyS w.heap.size SC) (by kernel_rfl) ?_ (fun hHeld => ?_)
      · assumption
      refine wpAnyH_take (i := 0) (oi := Oper.mk (some 24) _ _ _ _ _) (v := .int .i64 e) rfl (by kernel_rfl) (by kernel_rfl) (by kernel_rfl) (fun _ _ _ h => h) (Or.inl ⟨by rfl, ?_⟩) (by assumption) ?_
      · intro wX hSw
        (try dsimp only at hSw)
        go_simp
      simp only [Act.put, List.setIfInBounds_toArray, List.set_cons_succ, List.set_cons_zero]
      refine wpAnyH_take (i := 2) (oi := Oper.mk (some 26) _ _ _ _ _) (v := .int .i64 least) rfl (by kernel_rfl) (by kernel_rfl) (by kernel_rfl) (fun _ _ _ h => h) (Or.inl ⟨by rfl, ?_⟩) (by assumption) ?_
      · intro wX hSw
        (try dsimp only at hSw)
        go_simp
      simp only [Act.put, List.setIfInBounds_toArray, List.set_cons_succ, List.set_cons_zero]
      refine wpAnyH_take (i := 4) (oi := Oper.mk (some 28) _ _ _ _ _) (v := .agg SC.toList.toArray) rfl (by kernel_rfl) (by kernel_rfl) (by kernel_rfl) (fun _ _ _ h => h) (yieldsIf_load_mid (by rfl) _ _ rfl _ _ rfl SC.toList _ (fun _ hw => hw) Tryz.underlying26 rfl SI) (by assumption) ?_
      rw [Array.toArray_toList]
      simp only [Act.put, List.setIfInBounds_toArray, List.set_cons_succ, List.set_cons_zero]
      refine wpAnyH_ready (rs := [1]) (by kernel_rfl) (by simp) ?_
      refine AllReadyH.cons (o := Oper.mk (some 25) _ _ _ _ _) rfl (fun K hK => ?_) AllReadyH.nil
      go_simp
      refine (C1.out _ b0).mono ?_
      rintro r w3 ⟨rfl, b1, s1⟩
      refine hK.out _ _ ?_ (fun hHeld => ?_)
      · assumption
      clear hK K
      refine wpAnyH_ready (rs := [3]) (by kernel_rfl) (by simp) ?_
      refine AllReadyH.cons (o := Oper.mk (some 27) _ _ _ _ _) rfl (fun K hK => ?_) AllReadyH.nil
      go_simp
      refine (C3.out _ b1).mono ?_
      rintro r w4 ⟨rfl, b2, s2⟩
      refine hK.out _ _ ?_ (fun hHeld => ?_)
      · assumption
      clear hK K
      refine wpAnyH_ready (rs := [5]) (by kernel_rfl) (by simp) ?_
      refine AllReadyH.cons (o := Oper.mk (some 29) _ _ _ _ _) rfl (fun K hK => ?_) AllReadyH.nil
      go_simp
      refine (C5.out _ b2).mono ?_
      rintro r w5 ⟨⟨tv, rfl, o1⟩, b3, s3⟩
      refine hK.out _ _ ?_ (fun hHeld => ?_)
      · assumption
      clear hK K
      refine wpAnyH_ready (rs := [6]) (by kernel_rfl) (by simp) ?_
      refine AllReadyH.cons (o := Oper.mk (some 30) _ _ _ _ _) rfl (fun K hK => ?_) AllReadyH.nil
      go_simp
      refine (C6.out _ _ o1 b3).mono ?_
      rintro r w6 ⟨rfl, b4, s4⟩
      refine hK.out _ _ ?_ (fun hHeld => ?_)
      · assumption
      clear hK K
      refine wpAnyH_ready (rs := [7]) (by kernel_rfl) (by simp) ?_
      refine AllReadyH.cons (o := Oper.mk (some 31) _ _ _ _ _) rfl (fun K hK => ?_) AllReadyH.nil
      go_simp
      refine (C7.out _ b4).mono ?_
      rintro r w7 ⟨rfl, RZ0, b5, s5⟩
      refine hK.out _ _ ?_ (fun hHeld => ?_)
      · assumption
      clear hK K
      refine wpAnyH_done (by kernel_rfl) ?_ _
      obtain ⟨v7, RZ7⟩ := RZ0.out
      have R7 := hide RZ7
      clear RZ7 RZ0 C1 C3 C5 C6 C7 b0 b1 b2 b3 b4 s1 s2 s3 s4 s5 hS0 o1 hHeld
      have d7 := R7.out.1.cell 0
      go_wp2
      go_ret
      refine ⟨⟨_, rfl, ?_⟩, b5.out⟩
      have q := ownD_mono R7.out.2 (Nat.le_of_lt (Nat.lt_succ_of_lt hDw))
      rw [PS.out, ← PE.out] at q
      exact q

end Go.Proofs.YtionbkmbhhlmjaaGreatDoor
