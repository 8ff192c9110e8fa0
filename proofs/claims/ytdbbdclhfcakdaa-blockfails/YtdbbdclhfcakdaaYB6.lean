/-
  BlockFails answers true.
-/
import Derived.Test.YtdbbdclhfcakdaaYB4
import Derived.Test.YtdbbdclhfcakdaaYB5
namespace Go.Proofs.Ytdbbdclhfcakdaa
open Go.RowKit

theorem find_one (f : Flt) (n : Int) : findF [f] n = if f.at_ = n then f else Flt.zero := by
  simp only [findF]

theorem read_bad {img : ByteArray} {f : Flt} {q : Nat} (hm : mayF f = true) (hk : f.kind = 1 ∨ f.kind = 2) (hq : f.at_ = (q : Int)) (hs : 64 * q < img.size) :
    ∃ t er, readT img [f] q ((64 * q : Nat) : Int) ((min 64 (img.size - 64 * q) : Nat) : Int) = (t, er, q + 1) ∧ (er ≠ 0 ∨ t.size < min 64 (img.size - 64 * q)) ∧ (if er ≠ 0 then er else 101) = if f.kind = 1 then 100 else 101 := by
  have hmm := of_decide_eq_true hm
  have e : findF [f] (q : Int) = f := by rw [find_one, if_pos hq]
  rw [read_plain img [f] q hs, e]
  rcases hk with hk | hk
  · have ec : chg f ⟨(((bys img).drop (64 * q)).take 64).toArray⟩ = (⟨#[]⟩, 100) := by unfold chg; rw [if_pos hk]
    rw [ec]
    refine ⟨_, _, rfl, .inl (by decide), ?_⟩
    rw [if_pos (by decide), if_pos hk]
  · have hsz : (((bys img).drop (64 * q)).take 64).length = min 64 (img.size - 64 * q) := by rw [List.length_take, List.length_drop, bys_len]
    have ec : chg f ⟨(((bys img).drop (64 * q)).take 64).toArray⟩ = ((⟨(((bys img).drop (64 * q)).take 64).toArray⟩ : ByteArray).extract 0 (f.byte.tmod ((min 64 (img.size - 64 * q) : Nat) : Int)).toNat, 0) := by
      unfold chg; rw [if_neg (by omega), if_pos hk, size_mkL, hsz]
    rw [ec]
    obtain ⟨_, pl⟩ := tmod_place (n := min 64 (img.size - 64 * q)) hmm.2.2.2.1 (by omega)
    refine ⟨_, _, rfl, .inr ?_, ?_⟩
    · rw [ByteArray.size_extract, size_mkL (((bys img).drop (64 * q)).take 64), hsz]; omega
    · rw [if_neg (show ¬ (0 : Int) ≠ 0 by decide), if_neg (by omega)]

theorem load_fails {img : ByteArray} {f : Flt} {b : List UInt8} {q : Nat} (hb : b.length ≤ 65536) (hi : bys img = sealL b) (hm : mayF f = true) (hk : f.kind = 1 ∨ f.kind = 2) (hq : f.at_ = (q : Int)) (hqs : q < (79 + b.length) / 64) :
    loadT img [f] 0 = (⟨#[]⟩, (if f.kind = 1 then 100 else 101), q + 1) := by
  have hlen : img.size = 16 + b.length := by rw [← bys_len, hi, seal_len]
  obtain ⟨t, er, hr, hs, he⟩ := read_bad (img := img) hm hk hq (by omega)
  have hsh : (bys img).take 16 = headL b := by rw [hi]; have := seal_head b []; rwa [List.append_nil] at this
  by_cases h0 : q = 0
  · subst h0
    rw [load_stop0 (L := bys img) (bys_len img) (by omega) hr hs, he]
  · have hv : Vir img [f] (bys img) q := vir_free (fun j hj => by rw [find_one, if_neg (by omega)])
    rw [load_stop (n := b.length) (bys_len img) hv (by omega) (by omega) (by rw [hsh]; exact head_ok b) (by rw [hsh]; exact head_length (by omega)) hb (by omega) (by omega) hr hs, he]

theorem load_far {img : ByteArray} {f : Flt} {b : List UInt8} (hb : b.length ≤ 65536) (hi : bys img = sealL b) (hq : (((79 + b.length) / 64 : Nat) : Int) ≤ f.at_) :
    loadT img [f] 0 = (⟨b.toArray⟩, 0, (79 + b.length) / 64) := by
  refine load_seal (x := []) (m := (79 + b.length) / 64) hb (by rw [hi, List.append_nil]) (vir_free (fun j hj => ?_)) (Nat.le_refl _)
  rw [find_one, if_neg (by omega)]

set_option maxRecDepth 100000 in
set_option maxHeartbeats 2000000 in
theorem fails_long (w : World) (s : ByteArray) (a kd b t : Int) (hs : 65536 < s.size) : Calls Try.prog 8 #[.string s, .agg #[.int .i64 a, .int .i64 kd, .int .i64 b, .int .i64 t]] w fun e w' => e = .returned (.bool true) ∧ Below w.heap.size w w' := by
  have K5 := hide (fun X => fixed_any X)
  have K1 := hide (fun X => Seal_long s X hs)
  have h' : (65536 : Int) < (s.size : Int) := by omega
  have HB0 : Hid (Below w.heap.size w (w.alloc (Obj.cells #[Value.int .i64 a, Value.int .i64 kd, Value.int .i64 b, Value.int .i64 t] 40))) := (Below.refl _ _).alloc (Nat.le_refl _) _
  go_enter Try.func8, Try.ntmps8
  go_wp2_with fail
  refine (K1.out _).mono ?_
  rintro e w1 ⟨rfl, hb⟩
  have HBX := hide (HB0.out.trans (hb.mono HB0.out.size))
  clear hb
  go_wp2_with fail
  refine (K5.out _).mono ?_
  rintro e w7 ⟨rfl, hb⟩
  have HB7 := hide (HBX.out.trans (hb.mono HBX.out.size))
  clear hb
  go_wp2
  go_ret
  exact ⟨rfl, HB7.out⟩

set_option maxRecDepth 100000 in
set_option maxHeartbeats 2000000 in
theorem fails_ok (w : World) (s : ByteArray) (a kd b t : Int) (h65 : s.size ≤ 65536) : Calls Try.prog 8 #[.string s, .agg #[.int .i64 a, .int .i64 kd, .int .i64 b, .int .i64 t]] w fun e w' => e = .returned (.bool true) ∧ Below w.heap.size w w' := by
  have K5 := hide (fun X => fixed_any X)
  have K1 := hide (fun X => Seal_ok s X h65)
  obtain ⟨S, hS⟩ : ∃ S : ByteArray, S = ⟨(sealL (bys s)).toArray⟩ := ⟨_, rfl⟩
  have hSz : S.size = s.size + 16 := by rw [hS, size_mkL, seal_len, bys_len]; omega
  have hbs : bys S = sealL (bys s) := by rw [hS, bys_mkL (sealL (bys s))]
  have hSb : S.size ≤ 65552 := by omega
  rw [← hS] at K1
  have HB0 : Hid (Below w.heap.size w (w.alloc (Obj.cells #[Value.int .i64 a, Value.int .i64 kd, Value.int .i64 b, Value.int .i64 t] 40))) := (Below.refl _ _).alloc (Nat.le_refl _) _
  have BF0 := hide (Blk.newAt w w.heap.size rfl #[.int .i64 a, .int .i64 kd, .int .i64 b, .int .i64 t] 40)
  obtain ⟨N, hN⟩ : ∃ N, N = (79 + s.size) / 64 := ⟨_, rfl⟩
  have hNi : ((S.size : Int) + 63) / 64 = (N : Int) := by omega
  have LFar := hide (fun (h : ((N : Nat) : Int) ≤ a) => load_far (img := S) (f := ⟨a, kd, b, t⟩) (b := bys s) (by rw [bys_len]; exact h65) hbs (by rw [bys_len, ← hN]; exact h))
  have LBad := hide (fun (q : Nat) (hm : mayF ⟨a, kd, b, t⟩ = true) (hk : kd = 1 ∨ kd = 2) (hq : a = (q : Int)) (h : q < N) => load_fails (img := S) (f := ⟨a, kd, b, t⟩) (b := bys s) (by rw [bys_len]; exact h65) hbs hm hk hq (by rw [bys_len, ← hN]; exact h))
  have HSb := hide hSb
  have HNB : Hid (N ≤ 1000000) := hide (by omega)
  clear hS hSz hbs hN h65
  rw [mk_bysB] at LFar
  go_enter Try.func8, Try.ntmps8
  go_wp2_with fail
  refine (K1.out _).mono ?_
  rintro e w1 ⟨rfl, hb⟩
  have HB1 := hide (HB0.out.trans (hb.mono HB0.out.size))
  have BF1 := hide (BF0.out.below hb BF0.out.lt)
  obtain ⟨y0, y1, y2, y3⟩ := BF1.out.four
  have FA := hide (fault_one w1 ⟨a, kd, b, t⟩)
  have hb1 : Below w1.heap.size w1 (w1.alloc (Obj.cells #[Value.int .i64 a, Value.int .i64 kd, Value.int .i64 b, Value.int .i64 t] 40)) := (Below.refl _ _).alloc (Nat.le_refl _) _
  have BF1a := hide (BF1.out.below hb1 BF1.out.lt)
  have HB1a := hide (HB1.out.trans (hb1.mono HB1.out.size))
  clear hb hb1 HB0 BF0 K1
  by_cases hm : mayF ⟨a, kd, b, t⟩ = true
  · have K2 := hide (New_load S HSb.out FA.out (by rw [may_one]; exact hm))
    go_wp2_with fail
    refine K2.out.mono ?_
    rintro e w2 ⟨D, rfl, hdd, hb⟩
    obtain ⟨hD1, hD2, u, hds, hlo, _⟩ := hdd
    have HB2 := hide (HB1a.out.trans (hb.mono HB1a.out.size))
    have BF2 := hide (BF1a.out.below hb BF1a.out.lt)
    have HDS := hide hds
    have HLO := hide hlo
    have hDw : w.heap.size < D := by have := BF1a.out.lt; omega
    clear hb hds hlo K2 FA HB1 BF1 HB1a BF1a y0 y1 y2 y3 hD1 hD2
    obtain ⟨y0, y1, y2, y3⟩ := BF2.out.four
    have hmm := of_decide_eq_true hm
    dsimp only at hmm
    by_cases hk3 : kd = 3
    · subst hk3
      have HBX := HB2
      clear hmm LFar LBad hm
      go_wp2_with fail
      refine (K5.out _).mono ?_
      rintro e w7 ⟨rfl, hb⟩
      have HB7 := hide (HBX.out.trans (hb.mono HBX.out.size))
      clear hb
      go_wp2
      go_ret
      exact ⟨rfl, HB7.out⟩
    · have hk12 : kd = 1 ∨ kd = 2 := by omega
      have hk3' : (kd == 3) = false := beq_eq_false_iff_ne.2 hk3
      obtain ⟨q, hq⟩ := Int.eq_ofNat_of_zero_le hmm.2.2.1
      have HMM := hide hmm
      have K3 := hide (Load_any S [⟨a, kd, b, t⟩] 0 D u w2 HDS.out HSb.out (by omega) HLO.out)
      by_cases hfar : (N : Int) ≤ a
      · rw [LFar.out hfar] at K3
        dsimp only at K3
        clear hmm LFar LBad hm hk3 hk12 hq
        go_wp2_with fail
        refine K3.out.mono ?_
        rintro e w3 ⟨rfl, hbu, _⟩
        have HBX := hide (HB2.out.trans (hbu.to_below HB2.out.size (by omega)))
        have BF3 := hide (hbu.blk BF2.out (by omega))
        clear hbu K3 y0 y1 y2 y3
        obtain ⟨y0, y1, y2, y3⟩ := BF3.out.four
        go_wp2_with fail
        refine (K5.out _).mono ?_
        rintro e w7 ⟨rfl, hb⟩
        have HB7 := hide (HBX.out.trans (hb.mono HBX.out.size))
        clear hb
        go_wp2
        go_ret
        exact ⟨rfl, HB7.out⟩
      · have hL := LBad.out q hm hk12 hq (by omega)
        rw [hL] at K3
        have hfar' : ¬ (N : Int) ≤ a := hfar
        have hfd : decide ((N : Int) ≤ a) = false := decide_eq_false hfar
        have HQ := hide hq
        clear hmm LFar LBad hm hk3 hL hfar
        rcases hk12 with rfl | rfl
        · dsimp only at K3
          rw [if_pos rfl] at K3
          obtain rfl := HQ.out
          go_wp2_with fail
          refine K3.out.mono ?_
          rintro e w3 ⟨rfl, hbu, hds⟩
          have HB3 := hide (HB2.out.trans (hbu.to_below HB2.out.size (by omega)))
          have BF3 := hide (hbu.blk BF2.out (by omega))
          have HDS3 := hide hds
          clear hbu hds K3 y0 y1 y2 y3 HDS HLO HB2 BF2
          obtain ⟨y0, y1, y2, y3⟩ := BF3.out.four
          have HC : Hid (∀ w', Below w3.heap.size w3 w' → w'.cell? ⟨w.heap.size, 0, none⟩ = some (.int .i64 (q : Int)) ∧ w'.cell? ⟨w.heap.size, 1, none⟩ = some (.int .i64 1)) := by
            intro w' hb
            have x := BF3.out.below hb BF3.out.lt
            exact ⟨x.cell 0, x.cell 1⟩
          have C0 : Hid (∀ X, Hid (Below w3.heap.size w3 X) → Calls Try.prog 20 #[.pointer (some ⟨D, 0, none⟩)] X fun e w' => e = .returned (.int .i64 ((q : Int) + 1)) ∧ Hid (Below w3.heap.size w3 w') ∧ w'.cell? ⟨w.heap.size, 0, none⟩ = some (.int .i64 (q : Int)) ∧ w'.cell? ⟨w.heap.size, 1, none⟩ = some (.int .i64 1)) := by
            intro X bX
            refine (Reads_any (HDS3.out.below bX.out)).mono ?_
            rintro e w' ⟨rfl, rfl⟩
            exact ⟨rfl, bX.out, HC.out _ bX.out⟩
          have C1 : Hid (∀ X, Hid (Below w3.heap.size w3 X) → Calls Try.prog 13 #[] X fun e w' => e = .returned (.bool true) ∧ Hid (Below w3.heap.size w3 w') ∧ w'.cell? ⟨w.heap.size, 0, none⟩ = some (.int .i64 (q : Int)) ∧ w'.cell? ⟨w.heap.size, 1, none⟩ = some (.int .i64 1)) := by
            intro X bX
            refine (fixed_any X).mono ?_
            rintro e w' ⟨rfl, hb⟩
            have bb := bX.out.trans (hb.mono bX.out.size)
            exact ⟨rfl, bb, HC.out _ bb⟩
          have b0 := bdrB w3
          have hql : q ≤ 1000000 := by have := HNB.out; omega
          have hwq : IntKind.i64.wrap ((q : Int) + 1) = (q : Int) + 1 := by rw [IntKind.wrap_i64]; omega
          clear HC hDw HMM
          go_wp2_with fail
          refine wp_region_held_drew (S := (fun w' => w'.cell? ⟨w.heap.size, 0, none⟩ = some (.int .i64 (q : Int)) ∧ w'.cell? ⟨w.heap.size, 1, none⟩ = some (.int .i64 1))) (by kernel_rfl) ?_ (fun hHeld => ?_)
          · (try dsimp only)
            go_keep
          refine wpAnyH_take (i := 0) (oi := Oper.mk (some 68) _ _ _ _ _) (v := .string ⟨#[]⟩) rfl (by kernel_rfl) (by kernel_rfl) (by kernel_rfl) (fun _ _ _ h => h) (Or.inl ⟨by rfl, ?_⟩) (by assumption) ?_
          · intro wX hSw
            (try dsimp only at hSw)
            go_simp
          simp only [Act.put, List.setIfInBounds_toArray, List.set_cons_succ, List.set_cons_zero]
          refine wpAnyH_take (i := 1) (oi := Oper.mk (some 69) _ _ _ _ _) (v := .bool true) rfl (by kernel_rfl) (by kernel_rfl) (by kernel_rfl) (fun _ _ _ h => h) (Or.inl ⟨by rfl, ?_⟩) (by assumption) ?_
          · intro wX hSw
            (try dsimp only at hSw)
            go_simp
          simp only [Act.put, List.setIfInBounds_toArray, List.set_cons_succ, List.set_cons_zero]
          refine wpAnyH_take (i := 2) (oi := Oper.mk (some 70) _ _ _ _ _) (v := .bool true) rfl (by kernel_rfl) (by kernel_rfl) (by kernel_rfl) (fun _ _ _ h => h) (Or.inl ⟨by rfl, ?_⟩) (by assumption) ?_
          · intro wX hSw
            (try dsimp only at hSw)
            go_simp
          simp only [Act.put, List.setIfInBounds_toArray, List.set_cons_succ, List.set_cons_zero]
          refine wpAnyH_take (i := 3) (oi := Oper.mk (some 71) _ _ _ _ _) (v := .int .i64 100) rfl (by kernel_rfl) (by kernel_rfl) (by kernel_rfl) (fun _ _ _ h => h) (Or.inl ⟨by rfl, ?_⟩) (by assumption) ?_
          · intro wX hSw
            (try dsimp only at hSw)
            go_simp
          simp only [Act.put, List.setIfInBounds_toArray, List.set_cons_succ, List.set_cons_zero]
          refine wpAnyH_take (i := 4) (oi := Oper.mk (some 72) _ _ _ _ _) (v := .bool true) rfl (by kernel_rfl) (by kernel_rfl) (by kernel_rfl) (fun _ _ _ h => h) (Or.inl ⟨by rfl, ?_⟩) (by assumption) ?_
          · intro wX hSw
            (try dsimp only at hSw)
            go_simp
          simp only [Act.put, List.setIfInBounds_toArray, List.set_cons_succ, List.set_cons_zero]
          refine wpAnyH_take (i := 5) (oi := Oper.mk (some 73) _ _ _ _ _) (v := .bool true) rfl (by kernel_rfl) (by kernel_rfl) (by kernel_rfl) (fun _ _ _ h => h) (Or.inl ⟨by rfl, ?_⟩) (by assumption) ?_
          · intro wX hSw
            (try dsimp only at hSw)
            go_simp
          simp only [Act.put, List.setIfInBounds_toArray, List.set_cons_succ, List.set_cons_zero]
          refine wpAnyH_take (i := 6) (oi := Oper.mk (some 74) _ _ _ _ _) (v := .pointer (some ⟨w.heap.size, 1, none⟩)) rfl (by kernel_rfl) (by kernel_rfl) (by kernel_rfl) (fun _ _ _ h => h) (Or.inl ⟨by rfl, ?_⟩) (by assumption) ?_
          · intro wX hSw
            (try dsimp only at hSw)
            go_simp
          simp only [Act.put, List.setIfInBounds_toArray, List.set_cons_succ, List.set_cons_zero]
          refine wpAnyH_take (i := 7) (oi := Oper.mk (some 75) _ _ _ _ _) (v := .int .i64 1) rfl (by kernel_rfl) (by kernel_rfl) (by kernel_rfl) (fun _ _ _ h => h) (Or.inl ⟨by rfl, ?_⟩) (by assumption) ?_
          · intro wX hSw
            (try dsimp only at hSw)
            go_simp
          simp only [Act.put, List.setIfInBounds_toArray, List.set_cons_succ, List.set_cons_zero]
          refine wpAnyH_take (i := 8) (oi := Oper.mk (some 76) _ _ _ _ _) (v := .bool true) rfl (by kernel_rfl) (by kernel_rfl) (by kernel_rfl) (fun _ _ _ h => h) (Or.inl ⟨by rfl, ?_⟩) (by assumption) ?_
          · intro wX hSw
            (try dsimp only at hSw)
            go_simp
          simp only [Act.put, List.setIfInBounds_toArray, List.set_cons_succ, List.set_cons_zero]
          refine wpAnyH_take (i := 9) (oi := Oper.mk (some 77) _ _ _ _ _) (v := .bool true) rfl (by kernel_rfl) (by kernel_rfl) (by kernel_rfl) (fun _ _ _ h => h) (Or.inl ⟨by rfl, ?_⟩) (by assumption) ?_
          · intro wX hSw
            (try dsimp only at hSw)
            go_simp
          simp only [Act.put, List.setIfInBounds_toArray, List.set_cons_succ, List.set_cons_zero]
          refine wpAnyH_take (i := 10) (oi := Oper.mk (some 78) _ _ _ _ _) (v := .bool true) rfl (by kernel_rfl) (by kernel_rfl) (by kernel_rfl) (fun _ _ _ h => h) (Or.inl ⟨by rfl, ?_⟩) (by assumption) ?_
          · intro wX hSw
            (try dsimp only at hSw)
            go_simp
          simp only [Act.put, List.setIfInBounds_toArray, List.set_cons_succ, List.set_cons_zero]
          refine wpAnyH_take (i := 11) (oi := Oper.mk (some 79) _ _ _ _ _) (v := undef) rfl (by kernel_rfl) (by kernel_rfl) (by kernel_rfl) (fun _ _ _ h => h) (Or.inr ⟨by rfl, rfl⟩) (by assumption) ?_
          simp only [Act.put, List.setIfInBounds_toArray, List.set_cons_succ, List.set_cons_zero]
          refine wpAnyH_take (i := 12) (oi := Oper.mk (some 80) _ _ _ _ _) (v := undef) rfl (by kernel_rfl) (by kernel_rfl) (by kernel_rfl) (fun _ _ _ h => h) (Or.inr ⟨by rfl, rfl⟩) (by assumption) ?_
          simp only [Act.put, List.setIfInBounds_toArray, List.set_cons_succ, List.set_cons_zero]
          refine wpAnyH_take (i := 13) (oi := Oper.mk (some 81) _ _ _ _ _) (v := undef) rfl (by kernel_rfl) (by kernel_rfl) (by kernel_rfl) (fun _ _ _ h => h) (Or.inr ⟨by rfl, rfl⟩) (by assumption) ?_
          simp only [Act.put, List.setIfInBounds_toArray, List.set_cons_succ, List.set_cons_zero]
          refine wpAnyH_take (i := 14) (oi := Oper.mk (some 82) _ _ _ _ _) (v := undef) rfl (by kernel_rfl) (by kernel_rfl) (by kernel_rfl) (fun _ _ _ h => h) (Or.inr ⟨by rfl, rfl⟩) (by assumption) ?_
          simp only [Act.put, List.setIfInBounds_toArray, List.set_cons_succ, List.set_cons_zero]
          refine wpAnyH_take (i := 15) (oi := Oper.mk (some 83) _ _ _ _ _) (v := undef) rfl (by kernel_rfl) (by kernel_rfl) (by kernel_rfl) (fun _ _ _ h => h) (Or.inr ⟨by rfl, rfl⟩) (by assumption) ?_
          simp only [Act.put, List.setIfInBounds_toArray, List.set_cons_succ, List.set_cons_zero]
          refine wpAnyH_take (i := 16) (oi := Oper.mk (some 84) _ _ _ _ _) (v := undef) rfl (by kernel_rfl) (by kernel_rfl) (by kernel_rfl) (fun _ _ _ h => h) (Or.inr ⟨by rfl, rfl⟩) (by assumption) ?_
          simp only [Act.put, List.setIfInBounds_toArray, List.set_cons_succ, List.set_cons_zero]
          refine wpAnyH_take (i := 17) (oi := Oper.mk (some 85) _ _ _ _ _) (v := undef) rfl (by kernel_rfl) (by kernel_rfl) (by kernel_rfl) (fun _ _ _ h => h) (Or.inr ⟨by rfl, rfl⟩) (by assumption) ?_
          simp only [Act.put, List.setIfInBounds_toArray, List.set_cons_succ, List.set_cons_zero]
          refine wpAnyH_take (i := 18) (oi := Oper.mk (some 86) _ _ _ _ _) (v := .bool true) rfl (by kernel_rfl) (by kernel_rfl) (by kernel_rfl) (fun _ _ _ h => h) (Or.inl ⟨by rfl, ?_⟩) (by assumption) ?_
          · intro wX hSw
            (try dsimp only at hSw)
            go_simp
          simp only [Act.put, List.setIfInBounds_toArray, List.set_cons_succ, List.set_cons_zero]
          refine wpAnyH_take (i := 19) (oi := Oper.mk (some 87) _ _ _ _ _) (v := .bool true) rfl (by kernel_rfl) (by kernel_rfl) (by kernel_rfl) (fun _ _ _ h => h) (Or.inl ⟨by rfl, ?_⟩) (by assumption) ?_
          · intro wX hSw
            (try dsimp only at hSw)
            go_simp
          simp only [Act.put, List.setIfInBounds_toArray, List.set_cons_succ, List.set_cons_zero]
          refine wpAnyH_take (i := 20) (oi := Oper.mk (some 88) _ _ _ _ _) (v := .bool true) rfl (by kernel_rfl) (by kernel_rfl) (by kernel_rfl) (fun _ _ _ h => h) (Or.inl ⟨by rfl, ?_⟩) (by assumption) ?_
          · intro wX hSw
            (try dsimp only at hSw)
            go_simp
          simp only [Act.put, List.setIfInBounds_toArray, List.set_cons_succ, List.set_cons_zero]
          refine wpAnyH_take (i := 21) (oi := Oper.mk (some 89) _ _ _ _ _) (v := .pointer (some ⟨D, 0, none⟩)) rfl (by kernel_rfl) (by kernel_rfl) (by kernel_rfl) (fun _ _ _ h => h) (Or.inl ⟨by rfl, ?_⟩) (by assumption) ?_
          · intro wX hSw
            (try dsimp only at hSw)
            go_simp
          simp only [Act.put, List.setIfInBounds_toArray, List.set_cons_succ, List.set_cons_zero]
          refine wpAnyH_take (i := 23) (oi := Oper.mk (some 91) _ _ _ _ _) (v := .pointer (some ⟨w.heap.size, 0, none⟩)) rfl (by kernel_rfl) (by kernel_rfl) (by kernel_rfl) (fun _ _ _ h => h) (Or.inl ⟨by rfl, ?_⟩) (by assumption) ?_
          · intro wX hSw
            (try dsimp only at hSw)
            go_simp
          simp only [Act.put, List.setIfInBounds_toArray, List.set_cons_succ, List.set_cons_zero]
          refine wpAnyH_take (i := 24) (oi := Oper.mk (some 92) _ _ _ _ _) (v := .int .i64 (q : Int)) rfl (by kernel_rfl) (by kernel_rfl) (by kernel_rfl) (fun _ _ _ h => h) (Or.inl ⟨by rfl, ?_⟩) (by assumption) ?_
          · intro wX hSw
            (try dsimp only at hSw)
            go_simp
          simp only [Act.put, List.setIfInBounds_toArray, List.set_cons_succ, List.set_cons_zero]
          refine wpAnyH_take (i := 25) (oi := Oper.mk (some 93) _ _ _ _ _) (v := .int .i64 ((q : Int) + 1)) rfl (by kernel_rfl) (by kernel_rfl) (by kernel_rfl) (fun _ _ _ h => h) (Or.inl ⟨by rfl, ?_⟩) (by assumption) ?_
          · intro wX hSw
            (try dsimp only at hSw)
            go_simp
          simp only [Act.put, List.setIfInBounds_toArray, List.set_cons_succ, List.set_cons_zero]
          refine wpAnyH_ready (rs := [22]) (by kernel_rfl) (by simp) ?_
          refine AllReadyH.cons (o := Oper.mk (some 90) _ _ _ _ _) rfl (fun K hK => ?_) AllReadyH.nil
          go_simp
          go_at_call 20
          refine (C0.out _ b0).mono ?_
          rintro e v1 ⟨rfl, b1, z0, z1⟩
          refine hK.out _ _ ?_ (fun hHeld => ?_)
          · (try dsimp only)
            go_keep
          clear hK K
          refine wpAnyH_take (i := 26) (oi := Oper.mk (some 94) _ _ _ _ _) (v := .bool true) rfl (by kernel_rfl) (by kernel_rfl) (by kernel_rfl) (fun _ _ _ h => h) (Or.inl ⟨by rfl, ?_⟩) (by assumption) ?_
          · intro wX hSw
            (try dsimp only at hSw)
            go_simp
          simp only [Act.put, List.setIfInBounds_toArray, List.set_cons_succ, List.set_cons_zero]
          refine wpAnyH_take (i := 27) (oi := Oper.mk (some 95) _ _ _ _ _) (v := .bool true) rfl (by kernel_rfl) (by kernel_rfl) (by kernel_rfl) (fun _ _ _ h => h) (Or.inl ⟨by rfl, ?_⟩) (by assumption) ?_
          · intro wX hSw
            (try dsimp only at hSw)
            go_simp
          simp only [Act.put, List.setIfInBounds_toArray, List.set_cons_succ, List.set_cons_zero]
          refine wpAnyH_take (i := 28) (oi := Oper.mk (some 96) _ _ _ _ _) (v := .bool true) rfl (by kernel_rfl) (by kernel_rfl) (by kernel_rfl) (fun _ _ _ h => h) (Or.inl ⟨by rfl, ?_⟩) (by assumption) ?_
          · intro wX hSw
            (try dsimp only at hSw)
            go_simp
          simp only [Act.put, List.setIfInBounds_toArray, List.set_cons_succ, List.set_cons_zero]
          refine wpAnyH_ready (rs := [29]) (by kernel_rfl) (by simp) ?_
          refine AllReadyH.cons (o := Oper.mk (some 97) _ _ _ _ _) rfl (fun K hK => ?_) AllReadyH.nil
          go_simp
          go_at_call 13
          refine (C1.out _ b1).mono ?_
          rintro e v2 ⟨rfl, b2, z2, z3⟩
          refine hK.out _ _ ?_ (fun hHeld => ?_)
          · (try dsimp only)
            go_keep
          clear hK K
          refine wpAnyH_take (i := 30) (oi := Oper.mk (some 98) _ _ _ _ _) (v := .bool true) rfl (by kernel_rfl) (by kernel_rfl) (by kernel_rfl) (fun _ _ _ h => h) (Or.inl ⟨by rfl, ?_⟩) (by assumption) ?_
          · intro wX hSw
            (try dsimp only at hSw)
            go_simp
          simp only [Act.put, List.setIfInBounds_toArray, List.set_cons_succ, List.set_cons_zero]
          refine wpAnyH_take (i := 31) (oi := Oper.mk (some 4) _ _ _ _ _) (v := .bool true) rfl (by kernel_rfl) (by kernel_rfl) (by kernel_rfl) (fun _ _ _ h => h) (Or.inl ⟨by rfl, ?_⟩) (by assumption) ?_
          · intro wX hSw
            (try dsimp only at hSw)
            go_simp
          simp only [Act.put, List.setIfInBounds_toArray, List.set_cons_succ, List.set_cons_zero]
          refine wpAnyH_done (by kernel_rfl) ?_ _
          have HB4 := hide (HB3.out.trans (b2.out.mono HB3.out.size))
          clear b0 b1 b2 C0 C1
          go_wp2
          go_ret
          exact ⟨rfl, HB4.out⟩
        · dsimp only at K3
          rw [if_neg (by decide)] at K3
          obtain rfl := HQ.out
          go_wp2_with fail
          refine K3.out.mono ?_
          rintro e w3 ⟨rfl, hbu, hds⟩
          have HB3 := hide (HB2.out.trans (hbu.to_below HB2.out.size (by omega)))
          have BF3 := hide (hbu.blk BF2.out (by omega))
          have HDS3 := hide hds
          clear hbu hds K3 y0 y1 y2 y3 HDS HLO HB2 BF2
          obtain ⟨y0, y1, y2, y3⟩ := BF3.out.four
          have HC : Hid (∀ w', Below w3.heap.size w3 w' → w'.cell? ⟨w.heap.size, 0, none⟩ = some (.int .i64 (q : Int)) ∧ w'.cell? ⟨w.heap.size, 1, none⟩ = some (.int .i64 2)) := by
            intro w' hb
            have x := BF3.out.below hb BF3.out.lt
            exact ⟨x.cell 0, x.cell 1⟩
          have C0 : Hid (∀ X, Hid (Below w3.heap.size w3 X) → Calls Try.prog 20 #[.pointer (some ⟨D, 0, none⟩)] X fun e w' => e = .returned (.int .i64 ((q : Int) + 1)) ∧ Hid (Below w3.heap.size w3 w') ∧ w'.cell? ⟨w.heap.size, 0, none⟩ = some (.int .i64 (q : Int)) ∧ w'.cell? ⟨w.heap.size, 1, none⟩ = some (.int .i64 2)) := by
            intro X bX
            refine (Reads_any (HDS3.out.below bX.out)).mono ?_
            rintro e w' ⟨rfl, rfl⟩
            exact ⟨rfl, bX.out, HC.out _ bX.out⟩
          have C1 : Hid (∀ X, Hid (Below w3.heap.size w3 X) → Calls Try.prog 13 #[] X fun e w' => e = .returned (.bool true) ∧ Hid (Below w3.heap.size w3 w') ∧ w'.cell? ⟨w.heap.size, 0, none⟩ = some (.int .i64 (q : Int)) ∧ w'.cell? ⟨w.heap.size, 1, none⟩ = some (.int .i64 2)) := by
            intro X bX
            refine (fixed_any X).mono ?_
            rintro e w' ⟨rfl, hb⟩
            have bb := bX.out.trans (hb.mono bX.out.size)
            exact ⟨rfl, bb, HC.out _ bb⟩
          have b0 := bdrB w3
          have hql : q ≤ 1000000 := by have := HNB.out; omega
          have hwq : IntKind.i64.wrap ((q : Int) + 1) = (q : Int) + 1 := by rw [IntKind.wrap_i64]; omega
          clear HC hDw HMM
          go_wp2_with fail
          refine wp_region_held_drew (S := (fun w' => w'.cell? ⟨w.heap.size, 0, none⟩ = some (.int .i64 (q : Int)) ∧ w'.cell? ⟨w.heap.size, 1, none⟩ = some (.int .i64 2))) (by kernel_rfl) ?_ (fun hHeld => ?_)
          · (try dsimp only)
            go_keep
          refine wpAnyH_take (i := 0) (oi := Oper.mk (some 68) _ _ _ _ _) (v := .string ⟨#[]⟩) rfl (by kernel_rfl) (by kernel_rfl) (by kernel_rfl) (fun _ _ _ h => h) (Or.inl ⟨by rfl, ?_⟩) (by assumption) ?_
          · intro wX hSw
            (try dsimp only at hSw)
            go_simp
          simp only [Act.put, List.setIfInBounds_toArray, List.set_cons_succ, List.set_cons_zero]
          refine wpAnyH_take (i := 1) (oi := Oper.mk (some 69) _ _ _ _ _) (v := .bool true) rfl (by kernel_rfl) (by kernel_rfl) (by kernel_rfl) (fun _ _ _ h => h) (Or.inl ⟨by rfl, ?_⟩) (by assumption) ?_
          · intro wX hSw
            (try dsimp only at hSw)
            go_simp
          simp only [Act.put, List.setIfInBounds_toArray, List.set_cons_succ, List.set_cons_zero]
          refine wpAnyH_take (i := 2) (oi := Oper.mk (some 70) _ _ _ _ _) (v := .bool true) rfl (by kernel_rfl) (by kernel_rfl) (by kernel_rfl) (fun _ _ _ h => h) (Or.inl ⟨by rfl, ?_⟩) (by assumption) ?_
          · intro wX hSw
            (try dsimp only at hSw)
            go_simp
          simp only [Act.put, List.setIfInBounds_toArray, List.set_cons_succ, List.set_cons_zero]
          refine wpAnyH_take (i := 3) (oi := Oper.mk (some 71) _ _ _ _ _) (v := .int .i64 101) rfl (by kernel_rfl) (by kernel_rfl) (by kernel_rfl) (fun _ _ _ h => h) (Or.inl ⟨by rfl, ?_⟩) (by assumption) ?_
          · intro wX hSw
            (try dsimp only at hSw)
            go_simp
          simp only [Act.put, List.setIfInBounds_toArray, List.set_cons_succ, List.set_cons_zero]
          refine wpAnyH_take (i := 4) (oi := Oper.mk (some 72) _ _ _ _ _) (v := .bool false) rfl (by kernel_rfl) (by kernel_rfl) (by kernel_rfl) (fun _ _ _ h => h) (Or.inl ⟨by rfl, ?_⟩) (by assumption) ?_
          · intro wX hSw
            (try dsimp only at hSw)
            go_simp
          simp only [Act.put, List.setIfInBounds_toArray, List.set_cons_succ, List.set_cons_zero]
          refine wpAnyH_take (i := 5) (oi := Oper.mk (some 73) _ _ _ _ _) (v := .bool false) rfl (by kernel_rfl) (by kernel_rfl) (by kernel_rfl) (fun _ _ _ h => h) (Or.inl ⟨by rfl, ?_⟩) (by assumption) ?_
          · intro wX hSw
            (try dsimp only at hSw)
            go_simp
          simp only [Act.put, List.setIfInBounds_toArray, List.set_cons_succ, List.set_cons_zero]
          refine wpAnyH_take (i := 6) (oi := Oper.mk (some 74) _ _ _ _ _) (v := undef) rfl (by kernel_rfl) (by kernel_rfl) (by kernel_rfl) (fun _ _ _ h => h) (Or.inr ⟨by rfl, rfl⟩) (by assumption) ?_
          simp only [Act.put, List.setIfInBounds_toArray, List.set_cons_succ, List.set_cons_zero]
          refine wpAnyH_take (i := 7) (oi := Oper.mk (some 75) _ _ _ _ _) (v := undef) rfl (by kernel_rfl) (by kernel_rfl) (by kernel_rfl) (fun _ _ _ h => h) (Or.inr ⟨by rfl, rfl⟩) (by assumption) ?_
          simp only [Act.put, List.setIfInBounds_toArray, List.set_cons_succ, List.set_cons_zero]
          refine wpAnyH_take (i := 8) (oi := Oper.mk (some 76) _ _ _ _ _) (v := undef) rfl (by kernel_rfl) (by kernel_rfl) (by kernel_rfl) (fun _ _ _ h => h) (Or.inr ⟨by rfl, rfl⟩) (by assumption) ?_
          simp only [Act.put, List.setIfInBounds_toArray, List.set_cons_succ, List.set_cons_zero]
          refine wpAnyH_take (i := 9) (oi := Oper.mk (some 77) _ _ _ _ _) (v := .bool false) rfl (by kernel_rfl) (by kernel_rfl) (by kernel_rfl) (fun _ _ _ h => h) (Or.inl ⟨by rfl, ?_⟩) (by assumption) ?_
          · intro wX hSw
            (try dsimp only at hSw)
            go_simp
          simp only [Act.put, List.setIfInBounds_toArray, List.set_cons_succ, List.set_cons_zero]
          refine wpAnyH_take (i := 10) (oi := Oper.mk (some 78) _ _ _ _ _) (v := .bool false) rfl (by kernel_rfl) (by kernel_rfl) (by kernel_rfl) (fun _ _ _ h => h) (Or.inl ⟨by rfl, ?_⟩) (by assumption) ?_
          · intro wX hSw
            (try dsimp only at hSw)
            go_simp
          simp only [Act.put, List.setIfInBounds_toArray, List.set_cons_succ, List.set_cons_zero]
          refine wpAnyH_take (i := 11) (oi := Oper.mk (some 79) _ _ _ _ _) (v := .int .i64 101) rfl (by kernel_rfl) (by kernel_rfl) (by kernel_rfl) (fun _ _ _ h => h) (Or.inl ⟨by rfl, ?_⟩) (by assumption) ?_
          · intro wX hSw
            (try dsimp only at hSw)
            go_simp
          simp only [Act.put, List.setIfInBounds_toArray, List.set_cons_succ, List.set_cons_zero]
          refine wpAnyH_take (i := 12) (oi := Oper.mk (some 80) _ _ _ _ _) (v := .bool true) rfl (by kernel_rfl) (by kernel_rfl) (by kernel_rfl) (fun _ _ _ h => h) (Or.inl ⟨by rfl, ?_⟩) (by assumption) ?_
          · intro wX hSw
            (try dsimp only at hSw)
            go_simp
          simp only [Act.put, List.setIfInBounds_toArray, List.set_cons_succ, List.set_cons_zero]
          refine wpAnyH_take (i := 13) (oi := Oper.mk (some 81) _ _ _ _ _) (v := .bool true) rfl (by kernel_rfl) (by kernel_rfl) (by kernel_rfl) (fun _ _ _ h => h) (Or.inl ⟨by rfl, ?_⟩) (by assumption) ?_
          · intro wX hSw
            (try dsimp only at hSw)
            go_simp
          simp only [Act.put, List.setIfInBounds_toArray, List.set_cons_succ, List.set_cons_zero]
          refine wpAnyH_take (i := 14) (oi := Oper.mk (some 82) _ _ _ _ _) (v := .pointer (some ⟨w.heap.size, 1, none⟩)) rfl (by kernel_rfl) (by kernel_rfl) (by kernel_rfl) (fun _ _ _ h => h) (Or.inl ⟨by rfl, ?_⟩) (by assumption) ?_
          · intro wX hSw
            (try dsimp only at hSw)
            go_simp
          simp only [Act.put, List.setIfInBounds_toArray, List.set_cons_succ, List.set_cons_zero]
          refine wpAnyH_take (i := 15) (oi := Oper.mk (some 83) _ _ _ _ _) (v := .int .i64 2) rfl (by kernel_rfl) (by kernel_rfl) (by kernel_rfl) (fun _ _ _ h => h) (Or.inl ⟨by rfl, ?_⟩) (by assumption) ?_
          · intro wX hSw
            (try dsimp only at hSw)
            go_simp
          simp only [Act.put, List.setIfInBounds_toArray, List.set_cons_succ, List.set_cons_zero]
          refine wpAnyH_take (i := 16) (oi := Oper.mk (some 84) _ _ _ _ _) (v := .bool true) rfl (by kernel_rfl) (by kernel_rfl) (by kernel_rfl) (fun _ _ _ h => h) (Or.inl ⟨by rfl, ?_⟩) (by assumption) ?_
          · intro wX hSw
            (try dsimp only at hSw)
            go_simp
          simp only [Act.put, List.setIfInBounds_toArray, List.set_cons_succ, List.set_cons_zero]
          refine wpAnyH_take (i := 17) (oi := Oper.mk (some 85) _ _ _ _ _) (v := .bool true) rfl (by kernel_rfl) (by kernel_rfl) (by kernel_rfl) (fun _ _ _ h => h) (Or.inl ⟨by rfl, ?_⟩) (by assumption) ?_
          · intro wX hSw
            (try dsimp only at hSw)
            go_simp
          simp only [Act.put, List.setIfInBounds_toArray, List.set_cons_succ, List.set_cons_zero]
          refine wpAnyH_take (i := 18) (oi := Oper.mk (some 86) _ _ _ _ _) (v := .bool true) rfl (by kernel_rfl) (by kernel_rfl) (by kernel_rfl) (fun _ _ _ h => h) (Or.inl ⟨by rfl, ?_⟩) (by assumption) ?_
          · intro wX hSw
            (try dsimp only at hSw)
            go_simp
          simp only [Act.put, List.setIfInBounds_toArray, List.set_cons_succ, List.set_cons_zero]
          refine wpAnyH_take (i := 19) (oi := Oper.mk (some 87) _ _ _ _ _) (v := .bool true) rfl (by kernel_rfl) (by kernel_rfl) (by kernel_rfl) (fun _ _ _ h => h) (Or.inl ⟨by rfl, ?_⟩) (by assumption) ?_
          · intro wX hSw
            (try dsimp only at hSw)
            go_simp
          simp only [Act.put, List.setIfInBounds_toArray, List.set_cons_succ, List.set_cons_zero]
          refine wpAnyH_take (i := 20) (oi := Oper.mk (some 88) _ _ _ _ _) (v := .bool true) rfl (by kernel_rfl) (by kernel_rfl) (by kernel_rfl) (fun _ _ _ h => h) (Or.inl ⟨by rfl, ?_⟩) (by assumption) ?_
          · intro wX hSw
            (try dsimp only at hSw)
            go_simp
          simp only [Act.put, List.setIfInBounds_toArray, List.set_cons_succ, List.set_cons_zero]
          refine wpAnyH_take (i := 21) (oi := Oper.mk (some 89) _ _ _ _ _) (v := .pointer (some ⟨D, 0, none⟩)) rfl (by kernel_rfl) (by kernel_rfl) (by kernel_rfl) (fun _ _ _ h => h) (Or.inl ⟨by rfl, ?_⟩) (by assumption) ?_
          · intro wX hSw
            (try dsimp only at hSw)
            go_simp
          simp only [Act.put, List.setIfInBounds_toArray, List.set_cons_succ, List.set_cons_zero]
          refine wpAnyH_take (i := 23) (oi := Oper.mk (some 91) _ _ _ _ _) (v := .pointer (some ⟨w.heap.size, 0, none⟩)) rfl (by kernel_rfl) (by kernel_rfl) (by kernel_rfl) (fun _ _ _ h => h) (Or.inl ⟨by rfl, ?_⟩) (by assumption) ?_
          · intro wX hSw
            (try dsimp only at hSw)
            go_simp
          simp only [Act.put, List.setIfInBounds_toArray, List.set_cons_succ, List.set_cons_zero]
          refine wpAnyH_take (i := 24) (oi := Oper.mk (some 92) _ _ _ _ _) (v := .int .i64 (q : Int)) rfl (by kernel_rfl) (by kernel_rfl) (by kernel_rfl) (fun _ _ _ h => h) (Or.inl ⟨by rfl, ?_⟩) (by assumption) ?_
          · intro wX hSw
            (try dsimp only at hSw)
            go_simp
          simp only [Act.put, List.setIfInBounds_toArray, List.set_cons_succ, List.set_cons_zero]
          refine wpAnyH_take (i := 25) (oi := Oper.mk (some 93) _ _ _ _ _) (v := .int .i64 ((q : Int) + 1)) rfl (by kernel_rfl) (by kernel_rfl) (by kernel_rfl) (fun _ _ _ h => h) (Or.inl ⟨by rfl, ?_⟩) (by assumption) ?_
          · intro wX hSw
            (try dsimp only at hSw)
            go_simp
          simp only [Act.put, List.setIfInBounds_toArray, List.set_cons_succ, List.set_cons_zero]
          refine wpAnyH_ready (rs := [22]) (by kernel_rfl) (by simp) ?_
          refine AllReadyH.cons (o := Oper.mk (some 90) _ _ _ _ _) rfl (fun K hK => ?_) AllReadyH.nil
          go_simp
          go_at_call 20
          refine (C0.out _ b0).mono ?_
          rintro e v1 ⟨rfl, b1, z0, z1⟩
          refine hK.out _ _ ?_ (fun hHeld => ?_)
          · (try dsimp only)
            go_keep
          clear hK K
          refine wpAnyH_take (i := 26) (oi := Oper.mk (some 94) _ _ _ _ _) (v := .bool true) rfl (by kernel_rfl) (by kernel_rfl) (by kernel_rfl) (fun _ _ _ h => h) (Or.inl ⟨by rfl, ?_⟩) (by assumption) ?_
          · intro wX hSw
            (try dsimp only at hSw)
            go_simp
          simp only [Act.put, List.setIfInBounds_toArray, List.set_cons_succ, List.set_cons_zero]
          refine wpAnyH_take (i := 27) (oi := Oper.mk (some 95) _ _ _ _ _) (v := .bool true) rfl (by kernel_rfl) (by kernel_rfl) (by kernel_rfl) (fun _ _ _ h => h) (Or.inl ⟨by rfl, ?_⟩) (by assumption) ?_
          · intro wX hSw
            (try dsimp only at hSw)
            go_simp
          simp only [Act.put, List.setIfInBounds_toArray, List.set_cons_succ, List.set_cons_zero]
          refine wpAnyH_take (i := 28) (oi := Oper.mk (some 96) _ _ _ _ _) (v := .bool true) rfl (by kernel_rfl) (by kernel_rfl) (by kernel_rfl) (fun _ _ _ h => h) (Or.inl ⟨by rfl, ?_⟩) (by assumption) ?_
          · intro wX hSw
            (try dsimp only at hSw)
            go_simp
          simp only [Act.put, List.setIfInBounds_toArray, List.set_cons_succ, List.set_cons_zero]
          refine wpAnyH_ready (rs := [29]) (by kernel_rfl) (by simp) ?_
          refine AllReadyH.cons (o := Oper.mk (some 97) _ _ _ _ _) rfl (fun K hK => ?_) AllReadyH.nil
          go_simp
          go_at_call 13
          refine (C1.out _ b1).mono ?_
          rintro e v2 ⟨rfl, b2, z2, z3⟩
          refine hK.out _ _ ?_ (fun hHeld => ?_)
          · (try dsimp only)
            go_keep
          clear hK K
          refine wpAnyH_take (i := 30) (oi := Oper.mk (some 98) _ _ _ _ _) (v := .bool true) rfl (by kernel_rfl) (by kernel_rfl) (by kernel_rfl) (fun _ _ _ h => h) (Or.inl ⟨by rfl, ?_⟩) (by assumption) ?_
          · intro wX hSw
            (try dsimp only at hSw)
            go_simp
          simp only [Act.put, List.setIfInBounds_toArray, List.set_cons_succ, List.set_cons_zero]
          refine wpAnyH_take (i := 31) (oi := Oper.mk (some 4) _ _ _ _ _) (v := .bool true) rfl (by kernel_rfl) (by kernel_rfl) (by kernel_rfl) (fun _ _ _ h => h) (Or.inl ⟨by rfl, ?_⟩) (by assumption) ?_
          · intro wX hSw
            (try dsimp only at hSw)
            go_simp
          simp only [Act.put, List.setIfInBounds_toArray, List.set_cons_succ, List.set_cons_zero]
          refine wpAnyH_done (by kernel_rfl) ?_ _
          have HB4 := hide (HB3.out.trans (b2.out.mono HB3.out.size))
          clear b0 b1 b2 C0 C1
          go_wp2
          go_ret
          exact ⟨rfl, HB4.out⟩
  · have hmf : mayF ⟨a, kd, b, t⟩ = false := by simpa using hm
    have K2 := hide (New_fault S HSb.out FA.out (by simp) (by rw [may_one]; exact hmf))
    clear hm hmf LFar LBad
    go_wp2_with fail
    refine K2.out.mono ?_
    rintro e w2 ⟨rfl, hb⟩
    have HBX := hide (HB1a.out.trans (hb.mono HB1a.out.size))
    clear hb K2 FA
    go_wp2_with fail
    refine (K5.out _).mono ?_
    rintro e w7 ⟨rfl, hb⟩
    have HB7 := hide (HBX.out.trans (hb.mono HBX.out.size))
    clear hb
    go_wp2
    go_ret
    exact ⟨rfl, HB7.out⟩

theorem fails_row (w : World) (s : ByteArray) (_ : s.size ≤ 140737488355328) (f : Flt) (_ : True) : Calls Try.prog 8 #[.string s, fltV f] w fun e w' => e = .returned (.bool true) ∧ Below w.heap.size w w' := by
  obtain ⟨a, kd, b, t⟩ := f
  by_cases h : s.size ≤ 65536
  · exact fails_ok w s a kd b t h
  · exact fails_long w s a kd b t (by omega)

end Go.Proofs.Ytdbbdclhfcakdaa
