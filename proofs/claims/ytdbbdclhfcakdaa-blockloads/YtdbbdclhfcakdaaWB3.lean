/-
  What the reference's Load does.
  Lists of reads in memory; two disks side by side.
  BlockLoads answers true.
  From what a row of the given statements hands over to the words of the walks: numbers, a fault, lists of faults and of reads.
  An argument that is a list of reads, as a row of the given statements hands it over.
-/
import Derived.Test.YtdbbdclhfcakdaaWB2
import Derived.Test.YtdbbdclhfcakdaaRows
import Derived.ProofKit
import Derived.OpenShut
import Derived.SizedLaws
import Derived.JoinedCond
import Derived.ChangeSame
import Derived.Lib.SmallJoins
import Derived.Deep.SlicePairs
namespace Go.Proofs.Ytdbbdclhfcakdaa
open Go.RowKit

section
variable {img : ByteArray} {fs : List Flt} {e f r : Nat} {acc : List UInt8}
theorem onT_step (hlt : acc.length < e) : onT img fs e (f + 1) acc r = if (readT img fs r (acc.length : Int) ((min 64 (img.size - acc.length) : Nat) : Int)).2.1 ≠ 0 then ([], (readT img fs r (acc.length : Int) ((min 64 (img.size - acc.length) : Nat) : Int)).2.1, r + 1)
      else if (readT img fs r (acc.length : Int) ((min 64 (img.size - acc.length) : Nat) : Int)).1.size < min 64 (img.size - acc.length) then ([], 101, r + 1)
      else onT img fs e f (acc ++ bys (readT img fs r (acc.length : Int) ((min 64 (img.size - acc.length) : Nat) : Int)).1) (r + 1) := by
  rw [onT, if_pos hlt]
theorem onT_done (hlt : ¬ acc.length < e) : onT img fs e f acc r = (acc, 0, r) := by
  cases f with
  | zero => rfl
  | succ f => rw [onT, if_neg hlt]
end

theorem on_first {img : ByteArray} {fs : List Flt} {r : Nat} (h : 16 ≤ img.size) (a : ByteArray) (er : Int) (r2 : Nat) (hT : readT img fs r 0 ((min 64 img.size : Nat) : Int) = (a, er, r2)) :
    onT img fs 16 16 [] r = if er ≠ 0 then ([], er, r + 1) else if a.size < min 64 img.size then ([], 101, r + 1) else (bys a, 0, r + 1) := by
  have e := onT_step (img := img) (fs := fs) (e := 16) (f := 15) (r := r) (acc := []) (by simp)
  rw [List.length_nil, Nat.sub_zero, show ((0 : Nat) : Int) = 0 from rfl, hT, List.nil_append] at e
  rw [show onT img fs 16 16 [] r = onT img fs 16 (15 + 1) [] r from rfl, e]
  dsimp only
  by_cases h1 : er ≠ 0
  · rw [if_pos h1, if_pos h1]
  · rw [if_neg h1, if_neg h1]
    by_cases h2 : a.size < min 64 img.size
    · rw [if_pos h2, if_pos h2]
    · rw [if_neg h2, if_neg h2, onT_done (by rw [bys_len]; omega)]

set_option maxHeartbeats 1000000 in
theorem rLoad_short (img : ByteArray) (fs : List Flt) (r D : Nat) (v : Value) (w : World) (h : Dsk 46 w D v img fs r) (hs : img.size < 16) :
    Calls Try.prog 23 #[.pointer (some ⟨D, 0, none⟩)] w fun x w' => x = .returned (.tuple #[.string ⟨#[]⟩, .int .i64 105]) ∧ w = w' := by
  have c0 := h.blk.cell 0
  have hs' : (img.size : Int) < 16 := by omega
  clear h
  go_enter Try.func23, Try.ntmps23
  go_wp2
  go_ret2
  exact ⟨rfl, rfl⟩

def RL (img : ByteArray) (fs : List Flt) (D : Nat) (v : Value) (w : World) (n sm : Nat) (B : List UInt8 × Int × Nat) (G : Prop) (h s f t : Value) (wr : World) : Prop :=
  (h = .string ⟨#[]⟩ ∧ s = .int .i64 16 ∧ f = .int .i64 0 ∧ t = .bool true ∧ wr = w) ∨
  (∃ (acc : ByteArray) (fuel rr : Nat), h = .string acc ∧ s = .int .i64 (16 + (n : Int)) ∧ f = .int .i64 (sm : Int) ∧ t = .bool false ∧ G ∧ onT img fs (16 + n) fuel (bys acc) rr = B ∧ 16 + n ≤ fuel + acc.size ∧ rr + (16 + n) ≤ 100000000000000000 + acc.size ∧ acc.size ≤ img.size ∧ Dsk 46 wr D v img fs rr ∧ But D w wr)

def measL (h s t : Value) : Nat := match t, h with | .bool true, _ => 1000000 | _, .string a => (intOf s).toNat - a.size | _, _ => 0

set_option maxRecDepth 100000 in
set_option maxHeartbeats 4000000 in
theorem rLoad_go (img : ByteArray) (fs : List Flt) (r D n : Nat) (v : Value) (w : World) (A B : List UInt8 × Int × Nat) (h : Dsk 46 w D v img fs r) (hs : 16 ≤ img.size) (hi : img.size ≤ 65552) (hr : r ≤ 10000000000000000)
    (hA : A = onT img fs 16 16 [] r) (hn : n = lenT A) (hB : B = onT img fs (16 + n) (16 + n) A.1 A.2.2) :
    Calls Try.prog 23 #[.pointer (some ⟨D, 0, none⟩)] w fun x w' => x = .returned (.tuple #[.string (loadB img A n B).1, .int .i64 (loadB img A n B).2.1]) ∧ But D w w' ∧ Dsk 46 w' D v img fs (loadB img A n B).2.2 := by
  obtain ⟨sm, hsm⟩ : ∃ sm, sm = valL ((A.1.take 16).drop 8) := ⟨_, rfl⟩
  have HD0 := hide h
  have c0 := h.blk.cell 0
  have hs' : ¬ (img.size : Int) < 16 := by omega
  have HA := hide hA
  have HN := hide hn
  have HB := hide hB
  have HSM := hide hsm
  clear hA hn hB hsm h
  go_enter Try.func23, Try.ntmps23
  go_wp2
  go_loopw [4, 5, 6, 7] (fun a b c d wr => RL img fs D v w n sm B (A.2.1 = 0 ∧ headOk (A.1.take 16) = true ∧ ¬ min 65536 (img.size - 16) < n) a b c d wr) (fun a b _ d _ => measL a b d)
  case atStart => exact .inl ⟨rfl, rfl, rfl, rfl, rfl⟩
  case round =>
    rcases hrel with ⟨rfl, rfl, rfl, rfl, hw⟩ | ⟨acc, fuel, rr, rfl, rfl, rfl, rfl, hG, hf, hfu, hrr, hsz, hds, hbu⟩
    · replace hw := hw.symm
      subst hw
      have HRd := hide (rRead_any 0 ((min 64 img.size : Nat) : Int) img fs r D v w HD0.out hi (by omega))
      have hnx := readT_next (img := img) (fs := fs) (r := r) (k := 0) (by omega)
      rw [Nat.sub_zero, show ((0 : Nat) : Int) = 0 from rfl] at hnx
      rw [hnx] at HRd
      have HON := hide (on_first (img := img) (fs := fs) (r := r) hs)
      have hTs := readT_size (img := img) (fs := fs) (r := r) (k := 0) (min 64 img.size)
      rw [show ((0 : Nat) : Int) = 0 from rfl] at hTs
      generalize readT img fs r 0 ((min 64 img.size : Nat) : Int) = T at *
      obtain ⟨a, er, r2⟩ := T
      dsimp only at HRd hTs
      have HA2 := hide (HON.out a er r2 rfl)
      rw [← HA.out] at HA2
      obtain ⟨M, hM⟩ : ∃ M, M = min 64 img.size := ⟨_, rfl⟩
      rw [← hM] at HRd hTs HA2
      have hmn : min (64 : Int) (img.size : Int) = (M : Int) := by omega
      have hM1 : 16 ≤ M ∧ M ≤ 64 := by omega
      have HMs : Hid (M ≤ img.size) := hide (by omega)
      clear hnx HON hM
      go_wp2_with fail
      refine HRd.out.mono ?_
      rintro x w1 ⟨rfl, hbu, hds⟩
      have HBU := hide hbu
      have HDS := hide hds
      have c1 := hds.blk.cell 0
      clear hbu hds HRd hmn
      by_cases her : er = 0
      · subst her
        by_cases hsz : a.size < M
        · have hsz' : (a.size : Int) < (M : Int) := by omega
          have hA2 := HA2.out
          rw [if_neg (by omega), if_pos hsz] at hA2
          have HQ : Hid (loadB img A n B = (⟨#[]⟩, 101, r + 1)) := hide (by rw [hA2]; unfold loadB; rw [if_pos (show ¬ (101 : Int) = 0 by decide)])
          clear hA2 HA2
          go_wp2
          go_ret2
          rw [HQ.out]
          exact ⟨rfl, HBU.out, HDS.out⟩
        · have hsz' : ¬ (a.size : Int) < (M : Int) := by omega
          have hA2 := HA2.out
          rw [if_neg (by omega), if_neg hsz] at hA2
          have haM : a.size = M := by omega
          have hA0 : Hid (A = (bys a, 0, r + 1)) := hide hA2
          have hcat : (⟨#[]⟩ ++ a : ByteArray) = a := by rw [← mk_bysB (⟨#[]⟩ ++ a), bys_append]; show (⟨([] ++ bys a).toArray⟩ : ByteArray) = a; rw [List.nil_append, mk_bysB]
          have hcs : ¬ 9223372036854775807 < (⟨#[]⟩ : ByteArray).size + a.size := by rw [show (⟨#[]⟩ : ByteArray).size = 0 from rfl]; omega
          have hcs2 : ¬ 9223372036854775807 < a.size := by omega
          clear hA2 HA2
          go_wp2_with fail
          have h4 : (4 : Int) ≤ (a.size : Int) := by omega
          have h12 : (12 : Int) ≤ (a.size : Int) := by omega
          have h16 : (16 : Int) ≤ (a.size : Int) := by omega
          have hA1 : A.1 = bys a := by rw [hA0.out]
          have b0 := bdrB w1
          by_cases hm : (bys a).take 4 = markL
          · have heq : ((a.extract 0 4).toList == [81, 80, 85, 49]) = true := by
              rw [toList_bysB, bys_toB]
              exact beq_iff_eq.2 hm
            obtain ⟨x, hx⟩ : ∃ x, x = valL (((bys a).take 16).drop 12) := ⟨_, rfl⟩
            obtain ⟨y, hy⟩ : ∃ y, y = crc ((bys a).take 12) := ⟨_, rfl⟩
            have hxl : x < 4294967296 := by rw [hx]; exact valL_lt _
            have hyl : y < 4294967296 := by rw [hy]; exact crc_lt _
            have HOK : Hid (headOk (A.1.take 16) = decide (x = y)) := hide (by
              unfold headOk
              rw [hA1, List.take_take, List.take_take, show min 4 16 = 4 from rfl, show min 12 16 = 12 from rfl, hm, ← hx, ← hy]
              rw [show (markL == markL) = true from rfl, Bool.true_and]
              rfl)
            have N12 := value_any (a.extract 12 16)
            rw [bys_extB, ← hx] at N12
            have M12 := rSum_any (a.extract 0 12)
            rw [bys_toB, ← hy] at M12
            have C0 : Hid (∀ X, Hid (Below w1.heap.size w1 X) → Calls Try.prog 35 #[.string (a.extract 12 16)] X fun e w' => e = .returned (.int .i64 (x : Int)) ∧ Hid (Below w1.heap.size w1 w') ∧ w'.cell? ⟨D, 0, none⟩ = some (.string img)) := by
              intro X bX
              refine (N12 X (by rw [ByteArray.size_extract]; omega)).mono ?_
              rintro e w' ⟨rfl, hb⟩
              have bb := bX.out.trans (hb.mono bX.out.size)
              exact ⟨rfl, bb, (HDS.out.below bb).blk.cell 0⟩
            have C1 : Hid (∀ X, Hid (Below w1.heap.size w1 X) → Calls Try.prog 12 #[.string (a.extract 0 12)] X fun e w' => e = .returned (.int .u32 (y : Int)) ∧ Hid (Below w1.heap.size w1 w') ∧ w'.cell? ⟨D, 0, none⟩ = some (.string img)) := by
              intro X bX
              refine (M12 X (by rw [ByteArray.size_extract]; omega)).mono ?_
              rintro e w' ⟨rfl, rfl⟩
              exact ⟨rfl, bX.out, (HDS.out.below bX.out).blk.cell 0⟩
            have hwy : IntKind.i64.wrap (y : Int) = (y : Int) := by rw [IntKind.wrap_i64]; omega
            have N4 := value_any (a.extract 4 8)
            have N8 := value_any (a.extract 8 12)
            have hv4 : valL (bys (a.extract 4 8)) = n := by
              rw [bys_extB, HN.out]
              unfold lenT
              rw [hA1]
              exact valL_eq (fun i hi => by rw [byt_drop, byt_drop, byt_take _ (by omega), byt_take _ (by omega)])
            have hv8 : valL (bys (a.extract 8 12)) = sm := by
              rw [bys_extB, HSM.out, hA1]
              exact valL_eq (fun i hi => by rw [byt_drop, byt_drop, byt_take _ (by omega), byt_take _ (by omega)])
            rw [hv4] at N4
            rw [hv8] at N8
            have KN4 := hide (fun X => N4 X (by rw [ByteArray.size_extract]; omega))
            have KN8 := hide (fun X => N8 X (by rw [ByteArray.size_extract]; omega))
            have hnl : n < 4294967296 := by rw [← hv4]; exact valL_lt _
            have hsl : sm < 4294967296 := by rw [← hv8]; exact valL_lt _
            have HHA1 := hide hA1
            have haM2 : 16 ≤ a.size ∧ a.size ≤ 64 := by omega
            have HAM := hide haM
            clear N12 M12 N4 N8 hv4 hv8 hm hx hy hA1 haM hsz hsz' hcat hcs hcs2
            go_cut [64] (fun v wx => CutH w1 ((x : Int) != (y : Int)) v wx)
            case first =>
              have mk0 : True := trivial
              go_region_held3 (fun w' => w'.cell? ⟨D, 0, none⟩ = some (.string img)) (go_keep) (first
                | (clear mk0; go_at_call 35; refine (C0.out _ b0).mono ?_; rintro e v1 ⟨rfl, b1, q0⟩; have mkA : True := trivial)
                | (clear mk0; go_at_call 12; refine (C1.out _ b0).mono ?_; rintro e v1 ⟨rfl, b1, q0⟩; have mkB : True := trivial)
                | (clear mkA; go_at_call 12; refine (C1.out _ b1).mono ?_; rintro e v2 ⟨rfl, b2, r0⟩; have mk2 : True := trivial)
                | (clear mkB; go_at_call 35; refine (C0.out _ b1).mono ?_; rintro e v2 ⟨rfl, b2, r0⟩; have mk2 : True := trivial))
              all_goals (go_wp2_with fail; go_meet)
              all_goals exact ⟨rfl, b2.out⟩
            obtain ⟨⟨rfl, hbc⟩⟩ := hcut
            have HBc := hide hbc
            obtain ⟨W2, hW2⟩ : ∃ x, x = wc := ⟨_, rfl⟩
            subst hW2
            have HDS2 := hide (HDS.out.below hbc)
            have HBU2 := hide (HBU.out.trans (But.of_below hbc))
            clear hbc C0 C1 hwy c1 b0
            by_cases hxy : x = y
            · have hq : ((x : Int) != (y : Int)) = false := by rw [hxy]; simp
              have HOK2 : Hid (headOk (A.1.take 16) = true) := hide (by rw [HOK.out]; exact decide_eq_true hxy)
              clear hxy HOK
              go_wp2_with fail
              refine (KN4.out _).mono ?_
              rintro e W3 ⟨rfl, hb⟩
              have HDS3 := hide (HDS2.out.below hb)
              have HBU3 := hide (HBU2.out.trans (But.of_below hb))
              clear hb
              go_wp2_with fail
              refine (KN8.out _).mono ?_
              rintro e W4 ⟨rfl, hb⟩
              have HDS4 := hide (HDS3.out.below hb)
              have HBU4 := hide (HBU3.out.trans (But.of_below hb))
              have c4 := HDS4.out.blk.cell 0
              clear hb KN4 KN8 HDS2 HDS3 HBU2 HBU3
              by_cases hlg : min 65536 (img.size - 16) < n
              · have HQ : Hid (loadB img A n B = (⟨#[]⟩, 106, r + 1)) := hide (by
                  unfold loadB
                  rw [if_neg (by rw [hA0.out]; simp), if_neg (by rw [HOK2.out]; simp), if_pos hlg, hA0.out])
                by_cases hbig : 65552 < 16 + n
                · have hbig' : (65552 : Int) < 16 + (n : Int) := by omega
                  clear hbig hlg
                  go_wp2
                  go_ret2
                  rw [HQ.out]
                  exact ⟨rfl, HBU4.out, HDS4.out⟩
                · have hbig' : ¬ (65552 : Int) < 16 + (n : Int) := by omega
                  have hbd := decide_eq_false hbig'
                  have hsm2 : (img.size : Int) < 16 + (n : Int) := by omega
                  clear hbig hlg
                  go_wp2
                  go_ret2
                  rw [HQ.out]
                  exact ⟨rfl, HBU4.out, HDS4.out⟩
              · have hbig' : ¬ (65552 : Int) < 16 + (n : Int) := by omega
                have hbd := decide_eq_false hbig'
                have hsm2 : ¬ (img.size : Int) < 16 + (n : Int) := by omega
                have hsd := decide_eq_false hsm2
                have HLG := hide hlg
                have HB2 : Hid (onT img fs (16 + n) (16 + n) (bys a) (r + 1) = B) := hide (by rw [HB.out, hA0.out])
                clear hlg
                go_wp2
                refine ⟨.inr ⟨a, 16 + n, r + 1, rfl, rfl, rfl, rfl, ⟨by rw [hA0.out], HOK2.out, HLG.out⟩, HB2.out, by omega, by omega, by have := HAM.out; have := HMs.out; omega, HDS4.out, HBU4.out⟩, ?_⟩
                simp only [measL, intOf]
                omega
            · have hq : ((x : Int) != (y : Int)) = true := by rw [bne_iff_ne]; omega
              have HQ : Hid (loadB img A n B = (⟨#[]⟩, 105, r + 1)) := hide (by
                unfold loadB
                rw [if_neg (by rw [hA0.out]; simp), if_pos (by rw [HOK.out]; exact decide_eq_false hxy), hA0.out])
              clear hxy HOK KN4 KN8
              go_wp2
              go_ret2
              rw [HQ.out]
              exact ⟨rfl, HBU2.out, HDS2.out⟩
          · have hne : ((a.extract 0 4).toList == [81, 80, 85, 49]) = false := by
              rw [toList_bysB, bys_toB]
              exact beq_eq_false_iff_ne.2 hm
            have HQ : Hid (loadB img A n B = (⟨#[]⟩, 105, r + 1)) := hide (by
              unfold loadB
              rw [if_neg (by rw [hA0.out]; simp), if_pos (by
                unfold headOk
                rw [hA1, List.take_take, show min 4 16 = 4 from rfl, beq_eq_false_iff_ne.2 hm]; rfl), hA0.out])
            clear hm hA1 haM
            refine wp_region_held_drew (S := (fun w' => w'.cell? ⟨D, 0, none⟩ = some (.string img))) (by kernel_rfl) ?_ (fun hHeld => ?_)
            · (try dsimp only)
              go_keep
            refine wpAnyH_take (i := 0) (oi := Oper.mk (some 52) _ _ _ _ _) (v := .string a) rfl (by kernel_rfl) (by kernel_rfl) (by kernel_rfl) (fun _ _ _ h => h) (Or.inl ⟨by rfl, ?_⟩) (by assumption) ?_
            · intro wX hSw
              (try dsimp only at hSw)
              go_simp
            simp only [Act.put, List.setIfInBounds_toArray, List.set_cons_succ, List.set_cons_zero]
            refine wpAnyH_take (i := 1) (oi := Oper.mk (some 53) _ _ _ _ _) (v := .string (a.extract 0 4)) rfl (by kernel_rfl) (by kernel_rfl) (by kernel_rfl) (fun _ _ _ h => h) (Or.inl ⟨by rfl, ?_⟩) (by assumption) ?_
            · intro wX hSw
              (try dsimp only at hSw)
              go_simp
            simp only [Act.put, List.setIfInBounds_toArray, List.set_cons_succ, List.set_cons_zero]
            refine wpAnyH_take (i := 2) (oi := Oper.mk (some 54) _ _ _ _ _) (v := .bool true) rfl (by kernel_rfl) (by kernel_rfl) (by kernel_rfl) (fun _ _ _ h => h) (Or.inl ⟨by rfl, ?_⟩) (by assumption) ?_
            · intro wX hSw
              (try dsimp only at hSw)
              go_simp
            simp only [Act.put, List.setIfInBounds_toArray, List.set_cons_succ, List.set_cons_zero]
            refine wpAnyH_take (i := 3) (oi := Oper.mk (some 55) _ _ _ _ _) (v := .bool true) rfl (by kernel_rfl) (by kernel_rfl) (by kernel_rfl) (fun _ _ _ h => h) (Or.inl ⟨by rfl, ?_⟩) (by assumption) ?_
            · intro wX hSw
              (try dsimp only at hSw)
              go_simp
            simp only [Act.put, List.setIfInBounds_toArray, List.set_cons_succ, List.set_cons_zero]
            refine wpAnyH_take (i := 4) (oi := Oper.mk (some 56) _ _ _ _ _) (v := undef) rfl (by kernel_rfl) (by kernel_rfl) (by kernel_rfl) (fun _ _ _ h => h) (Or.inr ⟨by rfl, rfl⟩) (by assumption) ?_
            simp only [Act.put, List.setIfInBounds_toArray, List.set_cons_succ, List.set_cons_zero]
            refine wpAnyH_take (i := 5) (oi := Oper.mk (some 57) _ _ _ _ _) (v := undef) rfl (by kernel_rfl) (by kernel_rfl) (by kernel_rfl) (fun _ _ _ h => h) (Or.inr ⟨by rfl, rfl⟩) (by assumption) ?_
            simp only [Act.put, List.setIfInBounds_toArray, List.set_cons_succ, List.set_cons_zero]
            refine wpAnyH_take (i := 6) (oi := Oper.mk (some 58) _ _ _ _ _) (v := undef) rfl (by kernel_rfl) (by kernel_rfl) (by kernel_rfl) (fun _ _ _ h => h) (Or.inr ⟨by rfl, rfl⟩) (by assumption) ?_
            simp only [Act.put, List.setIfInBounds_toArray, List.set_cons_succ, List.set_cons_zero]
            refine wpAnyH_take (i := 7) (oi := Oper.mk (some 59) _ _ _ _ _) (v := undef) rfl (by kernel_rfl) (by kernel_rfl) (by kernel_rfl) (fun _ _ _ h => h) (Or.inr ⟨by rfl, rfl⟩) (by assumption) ?_
            simp only [Act.put, List.setIfInBounds_toArray, List.set_cons_succ, List.set_cons_zero]
            refine wpAnyH_take (i := 8) (oi := Oper.mk (some 60) _ _ _ _ _) (v := undef) rfl (by kernel_rfl) (by kernel_rfl) (by kernel_rfl) (fun _ _ _ h => h) (Or.inr ⟨by rfl, rfl⟩) (by assumption) ?_
            simp only [Act.put, List.setIfInBounds_toArray, List.set_cons_succ, List.set_cons_zero]
            refine wpAnyH_take (i := 9) (oi := Oper.mk (some 61) _ _ _ _ _) (v := undef) rfl (by kernel_rfl) (by kernel_rfl) (by kernel_rfl) (fun _ _ _ h => h) (Or.inr ⟨by rfl, rfl⟩) (by assumption) ?_
            simp only [Act.put, List.setIfInBounds_toArray, List.set_cons_succ, List.set_cons_zero]
            refine wpAnyH_take (i := 10) (oi := Oper.mk (some 62) _ _ _ _ _) (v := undef) rfl (by kernel_rfl) (by kernel_rfl) (by kernel_rfl) (fun _ _ _ h => h) (Or.inr ⟨by rfl, rfl⟩) (by assumption) ?_
            simp only [Act.put, List.setIfInBounds_toArray, List.set_cons_succ, List.set_cons_zero]
            refine wpAnyH_take (i := 11) (oi := Oper.mk (some 63) _ _ _ _ _) (v := undef) rfl (by kernel_rfl) (by kernel_rfl) (by kernel_rfl) (fun _ _ _ h => h) (Or.inr ⟨by rfl, rfl⟩) (by assumption) ?_
            simp only [Act.put, List.setIfInBounds_toArray, List.set_cons_succ, List.set_cons_zero]
            refine wpAnyH_take (i := 12) (oi := Oper.mk (some 64) _ _ _ _ _) (v := .bool true) rfl (by kernel_rfl) (by kernel_rfl) (by kernel_rfl) (fun _ _ _ h => h) (Or.inl ⟨by rfl, ?_⟩) (by assumption) ?_
            · intro wX hSw
              (try dsimp only at hSw)
              go_simp
            simp only [Act.put, List.setIfInBounds_toArray, List.set_cons_succ, List.set_cons_zero]
            refine wpAnyH_done (by kernel_rfl) ?_ _
            have HBU2 := hide (HBU.out.trans (But.of_below b0.out))
            have HDS2 := hide (HDS.out.below b0.out)
            go_wp2
            go_ret2
            rw [HQ.out]
            exact ⟨rfl, HBU2.out, HDS2.out⟩
      · have hq : (er != 0) = true := bne_iff_ne.2 her
        have hA2 := HA2.out
        rw [if_pos her] at hA2
        have HQ : Hid (loadB img A n B = (⟨#[]⟩, er, r + 1)) := hide (by rw [hA2]; unfold loadB; rw [if_pos her])
        clear hA2 HA2 her
        go_wp2
        go_ret2
        rw [HQ.out]
        exact ⟨rfl, HBU.out, HDS.out⟩
    · have hds0 := hds.blk.cell 0
      have HF := hide hf
      have HG := hide hG
      have HFU := hide hfu
      have HRR := hide hrr
      have HSZ := hide hsz
      have HDS := hide hds
      have HBU := hide hbu
      have hnM : n ≤ 65536 ∧ 16 + n ≤ img.size := by have := hG.2.2; omega
      clear hf hG hfu hrr hds hbu
      by_cases hlt : acc.size < 16 + n
      · have hlt' : (acc.size : Int) < 16 + (n : Int) := by omega
        have hk : acc.size < img.size := by omega
        obtain ⟨fuel, rfl⟩ : ∃ f', fuel = f' + 1 := ⟨fuel - 1, by have := HFU.out; omega⟩
        have hst := HF.out
        rw [onT_step (by rw [bys_len]; exact hlt), bys_len] at hst
        have HRd := hide (rRead_any (acc.size : Int) ((min 64 (img.size - acc.size) : Nat) : Int) img fs rr D v wr HDS.out hi (by have := HRR.out; omega))
        rw [readT_next hk] at HRd
        have hTs := readT_size (img := img) (fs := fs) (r := rr) (k := acc.size) (min 64 (img.size - acc.size))
        generalize readT img fs rr (acc.size : Int) ((min 64 (img.size - acc.size) : Nat) : Int) = T at *
        obtain ⟨a, er, r2⟩ := T
        dsimp only at HRd hTs hst
        obtain ⟨M, hM⟩ : ∃ M, M = min 64 (img.size - acc.size) := ⟨_, rfl⟩
        rw [← hM] at HRd hTs hst
        have hmn : min (64 : Int) ((img.size : Int) - (acc.size : Int)) = (M : Int) := by omega
        have HM1 : Hid (1 ≤ M ∧ M ≤ 64 ∧ acc.size + M ≤ img.size) := hide (by omega)
        have hM1 := HM1.out.1
        have HST := hide hst
        clear hst hM
        go_wp2_with fail
        refine HRd.out.mono ?_
        rintro x w1 ⟨rfl, hbu, hds⟩
        have HBU1 := hide (HBU.out.trans hbu)
        have HDS1 := hide hds
        clear hbu hds HRd hmn
        by_cases her : er = 0
        · subst her
          by_cases hsz2 : a.size < M
          · have hsz' : (a.size : Int) < (M : Int) := by omega
            have hst := HST.out
            rw [if_neg (by omega), if_pos hsz2] at hst
            have HQ : Hid (loadB img A n B = (⟨#[]⟩, 101, rr + 1)) := hide (by
              unfold loadB
              rw [if_neg (by rw [HG.out.1]; simp), if_neg (by rw [HG.out.2.1]; simp), if_neg HG.out.2.2, ← hst, if_pos (show ¬ (101 : Int) = 0 by decide)])
            clear hst HST
            go_wp2
            go_ret2
            rw [HQ.out]
            exact ⟨rfl, HBU1.out, HDS1.out⟩
          · have hsz' : ¬ (a.size : Int) < (M : Int) := by omega
            have hst := HST.out
            rw [if_neg (by omega), if_neg hsz2, ← bys_append] at hst
            have HST2 := hide hst
            have hcs : ¬ 9223372036854775807 < acc.size + a.size := by have := HM1.out; omega
            have HCS : Hid ((acc ++ a).size = acc.size + a.size) := hide ByteArray.size_append
            clear hst HST
            go_wp2
            refine ⟨.inr ⟨acc ++ a, fuel, rr + 1, rfl, rfl, rfl, rfl, HG.out, HST2.out, ?_, ?_, ?_, HDS1.out, HBU1.out⟩, ?_⟩
            · have := HFU.out; have := HCS.out; omega
            · have := HRR.out; have := HCS.out; omega
            · have := HM1.out; have := HCS.out; omega
            · simp only [measL, intOf]
              have := HCS.out
              omega
        · have hq : (er != 0) = true := bne_iff_ne.2 her
          have hst := HST.out
          rw [if_pos her] at hst
          have HQ : Hid (loadB img A n B = (⟨#[]⟩, er, rr + 1)) := hide (by
            unfold loadB
            rw [if_neg (by rw [HG.out.1]; simp), if_neg (by rw [HG.out.2.1]; simp), if_neg HG.out.2.2, ← hst, if_pos her])
          clear hst HST her
          go_wp2
          go_ret2
          rw [HQ.out]
          exact ⟨rfl, HBU1.out, HDS1.out⟩
      · have hlt' : ¬ (acc.size : Int) < 16 + (n : Int) := by omega
        have hlt2 : (16 : Int) + (n : Int) ≤ (acc.size : Int) := by omega
        have hst := HF.out
        rw [onT_done (by rw [bys_len]; exact hlt)] at hst
        obtain ⟨bd, hbd⟩ : ∃ x : ByteArray, x = acc.extract 16 (16 + n) := ⟨_, rfl⟩
        have hbb : bys bd = ((bys acc).take (16 + n)).drop 16 := by rw [hbd, bys_extB]
        have K6 := hide (fun X => rSum_any bd X (by rw [hbd, ByteArray.size_extract]; omega))
        obtain ⟨cr, hcr⟩ : ∃ x, x = crc (bys bd) := ⟨_, rfl⟩
        rw [← hcr] at K6
        have hcl : cr < 4294967296 := by rw [hcr]; exact crc_lt _
        have hsl : sm < 4294967296 := by rw [HSM.out]; exact valL_lt _
        have HQ : Hid (loadB img A n B = if cr = sm then (bd, 0, rr) else (⟨#[]⟩, 104, rr)) := hide (by
          unfold loadB
          rw [if_neg (by rw [HG.out.1]; simp), if_neg (by rw [HG.out.2.1]; simp), if_neg HG.out.2.2, ← hst, if_neg (by simp)]
          dsimp only
          rw [← hbb, ← hcr, ← HSM.out, mk_bysB]
          by_cases hq : cr = sm
          · rw [if_neg (by simp [hq]), if_pos hq]
          · rw [if_pos hq, if_neg hq])
        have hto : ((16 : Int) + (n : Int)).toNat = 16 + n := by omega
        have h16n : (16 : Int) ≤ 16 + (n : Int) := by omega
        have hbd' := hbd.symm
        clear hst hbd hbb hcr hlt HF
        by_cases hq : cr = sm
        · have hq' : ((cr : Int) != (sm : Int)) = false := by rw [hq]; simp
          rw [if_pos hq] at HQ
          clear hq
          go_wp2_with fail
          refine (K6.out _).mono ?_
          rintro e w6 ⟨rfl, rfl⟩
          go_wp2
          go_ret2
          rw [HQ.out]
          exact ⟨rfl, HBU.out, HDS.out⟩
        · have hq' : ((cr : Int) != (sm : Int)) = true := by rw [bne_iff_ne]; omega
          rw [if_neg hq] at HQ
          clear hq
          go_wp2_with fail
          refine (K6.out _).mono ?_
          rintro e w6 ⟨rfl, rfl⟩
          go_wp2
          go_ret2
          rw [HQ.out]
          exact ⟨rfl, HBU.out, HDS.out⟩

theorem rLoad_any (img : ByteArray) (fs : List Flt) (r D : Nat) (v : Value) (w : World) (h : Dsk 46 w D v img fs r) (hi : img.size ≤ 65552) (hr : r ≤ 10000000000000000) :
    Calls Try.prog 23 #[.pointer (some ⟨D, 0, none⟩)] w fun x w' => x = .returned (.tuple #[.string (loadT img fs r).1, .int .i64 (loadT img fs r).2.1]) ∧ But D w w' ∧ Dsk 46 w' D v img fs (loadT img fs r).2.2 := by
  by_cases hs : img.size < 16
  · have e : loadT img fs r = (⟨#[]⟩, 105, r) := by unfold loadT; rw [if_pos hs]
    rw [e]
    refine (rLoad_short img fs r D v w h hs).mono ?_
    rintro x w' ⟨rfl, rfl⟩
    exact ⟨rfl, But.refl _ _, h⟩
  · unfold loadT
    rw [if_neg hs]
    exact rLoad_go img fs r D _ v w _ _ h (by omega) hi hr rfl rfl rfl

end Go.Proofs.Ytdbbdclhfcakdaa

namespace Go.Proofs.Ytdbbdclhfcakdaa
open Go.RowKit

def nthO (os : List (Int × Int)) (i : Nat) : Int × Int := os[i]?.getD (0, 0)

def OSl (w : World) (v : Value) (os : List (Int × Int)) : Prop := ∃ ao cap, v = .slice ao os.length cap ∧ os.length ≤ cap ∧ (os = [] ∨ ∃ b o, ao = some ⟨b, o, none⟩ ∧ b < w.heap.size ∧ ∀ i, i < os.length → w.cell? ⟨b, o + i * 2, none⟩ = some (.int .i64 (nthO os i).1) ∧ w.cell? ⟨b, o + i * 2 + 1, none⟩ = some (.int .i64 (nthO os i).2))

def rdsN (img : ByteArray) (fs : List Flt) (os : List (Int × Int)) : Nat → Nat
  | 0 => 0
  | k + 1 => (readT img fs (rdsN img fs os k) (nthO os k).1 (nthO os k).2).2.2

theorem readT_le (img : ByteArray) (fs : List Flt) (r : Nat) (a n : Int) : (readT img fs r a n).2.2 ≤ r + 1 := by
  unfold readT
  split
  · exact Nat.le_refl _
  · exact Nat.le_succ _
theorem rdsN_le (img : ByteArray) (fs : List Flt) (os : List (Int × Int)) : ∀ k, rdsN img fs os k ≤ k
  | 0 => Nat.le_refl _
  | k + 1 => Nat.le_trans (readT_le _ _ _ _ _) (Nat.succ_le_succ (rdsN_le img fs os k))

structure Pair2 (w0 w : World) (D E : Nat) (u x : Value) (img : ByteArray) (fs : List Flt) (r : Nat) : Prop where
  d : Dsk 60 w D u img fs r
  e : Dsk 46 w E x img fs r
  ne : D ≠ E
  ou : Off u E
  ox : Off x D
  lu : Low u w.heap.size
  b : Below w0.heap.size w0 w
  hD : w0.heap.size ≤ D
  hE : w0.heap.size ≤ E

theorem Pair2.step {w0 w w1 w2 : World} {D E : Nat} {u x : Value} {img : ByteArray} {fs : List Flt} {r r' : Nat} (h : Pair2 w0 w D E u x img fs r) (h1 : But D w w1) (d1 : Dsk 60 w1 D u img fs r') (h2 : But E w1 w2) (d2 : Dsk 46 w2 E x img fs r') : Pair2 w0 w2 D E u x img fs r' :=
  ⟨d1.but h2 h.ne h.ou, d2, h.ne, h.ou, h.ox, fun b o l c e => Nat.lt_of_lt_of_le (h.lu b o l c e) (Nat.le_trans h1.size h2.size), h.b.trans ((h1.to_below h.b.size h.hD).trans (h2.to_below (Nat.le_trans h.b.size h1.size) h.hE)), h.hD, h.hE⟩

theorem Pair2.other {w0 w w1 : World} {D E : Nat} {u x : Value} {img : ByteArray} {fs : List Flt} {r : Nat} (h : Pair2 w0 w D E u x img fs r) (h1 : But D w w1) : Dsk 46 w1 E x img fs r := h.e.but h1 (fun e => h.ne e.symm) h.ox

theorem pair_new {w0 w1 w2 : World} {D E : Nat} {u x : Value} {img : ByteArray} {fs : List Flt} (hd : Dsk 60 w1 D u img fs 0) (hu : ∀ b o l c, u = .slice (some ⟨b, o, none⟩) l c → b < w1.heap.size) (b1 : Below w0.heap.size w0 w1) (hD : w0.heap.size ≤ D)
    (he : Dsk 46 w2 E x img fs 0) (hx : ∀ b o l c, x = .slice (some ⟨b, o, none⟩) l c → w1.heap.size ≤ b ∧ b < w2.heap.size) (b2 : Below w1.heap.size w1 w2) (hE : w1.heap.size ≤ E) : Pair2 w0 w2 D E u x img fs 0 := by
  have hDl := hd.blk.lt
  refine ⟨hd.below b2, he, by omega, fun b o l c e => ?_, fun b o l c e => ?_, fun b o l c e => ?_, b1.trans (b2.mono b1.size), hD, Nat.le_trans b1.size hE⟩
  · have := hu b o l c e; omega
  · have := (hx b o l c e).1; omega
  · have := hu b o l c e; have := b2.size; omega

end Go.Proofs.Ytdbbdclhfcakdaa

namespace Go.Proofs.Ytdbbdclhfcakdaa
open Go.RowKit

set_option maxRecDepth 100000 in
set_option maxHeartbeats 4000000 in
theorem loads_bad (w : World) (img : ByteArray) (v q : Value) (E : Int) (h1 : ∀ X, Below w.heap.size w X → Calls Try.prog 15 #[.string img, v] X fun e w' => e = .returned (.tuple #[.pointer none, .int .i64 E]) ∧ Below X.heap.size X w') (h2 : ∀ X, Below w.heap.size w X → Calls Try.prog 16 #[.string img, v] X fun e w' => e = .returned (.tuple #[.pointer none, .int .i64 E]) ∧ Below X.heap.size X w') : Calls Try.prog 5 #[.string img, v, q] w fun e w' => e = .returned (.bool true) ∧ Below w.heap.size w w' := by
  have K5 := hide (fun X => fixed_any X)
  have K1 := hide (h1 w (Below.refl _ _))
  have K2 := hide h2
  have hq : (E != E) = false := by simp
  clear h1 h2
  go_enter Try.func5, Try.ntmps5
  go_wp2_with fail
  refine K1.out.mono ?_
  rintro e w1 ⟨rfl, hb⟩
  have HB1 := hide hb
  clear hb
  go_wp2_with fail
  refine (K2.out _ HB1.out).mono ?_
  rintro e w2 ⟨rfl, hb⟩
  have HBX := hide (HB1.out.trans (hb.mono HB1.out.size))
  clear hb
  go_wp2_with fail
  refine (K5.out _).mono ?_
  rintro e w7 ⟨rfl, hb⟩
  have HB7 := hide (HBX.out.trans (hb.mono HBX.out.size))
  clear hb
  go_wp2
  go_ret
  exact ⟨rfl, HB7.out⟩

set_option maxRecDepth 100000 in
set_option maxHeartbeats 4000000 in
theorem loads_ok (w : World) (img : ByteArray) (v q : Value) (fs : List Flt) (os : List (Int × Int)) (hi : img.size ≤ 65552) (hf : FArg w v fs) (hm : mayAllF fs = true) (hq : OSl w q os) (hl : os.length ≤ 10000000000000) : Calls Try.prog 5 #[.string img, v, q] w fun e w' => e = .returned (.bool true) ∧ Below w.heap.size w w' := by
  have K5 := hide (fun X => fixed_any X)
  have K1 := hide (New_ok img hi hf hm)
  have K2 := hide (fun X (hX : Below w.heap.size w X) => rNew_ok img hi (hf.below hX) hm)
  obtain ⟨ao, cap, rfl, hoc, hoa⟩ := hq
  have HOA := hide hoa
  obtain ⟨L, hL⟩ : ∃ L, L = os.length := ⟨_, rfl⟩
  rw [← hL] at hoc hl ⊢
  have HL := hide hL
  clear hf hm hoa hL
  go_enter Try.func5, Try.ntmps5
  go_wp2_with fail
  refine K1.out.mono ?_
  rintro e w1 ⟨D, u, rfl, hD, hds, hu, hb⟩
  have HB1 := hide hb
  have HDS := hide hds
  have HU := hide hu
  have HDw := hide hD
  clear hb hds hu hD K1
  go_wp2_with fail
  refine (K2.out _ HB1.out).mono ?_
  rintro e w2 ⟨E, rfl, hE, x, hes, hx, hb⟩
  have HP := hide (pair_new HDS.out (fun b o l c e => (HU.out b o l c e).2) HB1.out HDw.out hes hx hb hE)
  clear hb hes hx hE K2 HDS HU HDw HB1
  go_wp2
  go_loopw [11] (fun p wr => ∃ k : Nat, k ≤ L ∧ p = .int .i64 (k : Int) ∧ Hid (Pair2 w wr D E u x img fs (rdsN img fs os k))) (fun p _ => L - (intOf p).toNat)
  case atStart => exact ⟨0, Nat.zero_le _, rfl, HP.out⟩
  case round =>
    obtain ⟨k, hk, rfl, HPk⟩ := hrel
    have hrk := rdsN_le img fs os k
    by_cases hlt : k < L
    · have hlt' : (k : Int) < (L : Int) := by omega
      obtain ⟨b, o, hao, hbl, hcl⟩ : ∃ b o, ao = some ⟨b, o, none⟩ ∧ b < w.heap.size ∧ ∀ i, i < os.length → w.cell? ⟨b, o + i * 2, none⟩ = some (.int .i64 (nthO os i).1) ∧ w.cell? ⟨b, o + i * 2 + 1, none⟩ = some (.int .i64 (nthO os i).2) := by
        rcases HOA.out with rfl | h
        · have := HL.out; simp at this; omega
        · exact h
      subst hao
      have hc := hcl k (by rw [← HL.out]; exact hlt)
      have hrn : rdsN img fs os (k + 1) = (readT img fs (rdsN img fs os k) (nthO os k).1 (nthO os k).2).2.2 := rfl
      generalize rdsN img fs os k = r at *
      generalize nthO os k = pr at *
      obtain ⟨A1, A2⟩ := pr
      dsimp only at hc hrn
      have hbD : b ≠ D ∧ b ≠ E := by have := HPk.out.hD; have := HPk.out.hE; omega
      have cw : ∀ j, wr.cell? ⟨b, j, none⟩ = w.cell? ⟨b, j, none⟩ := fun j => HPk.out.b.cell hbl
      have hbw : b < wr.heap.size := Nat.lt_of_lt_of_le hbl HPk.out.b.size
      rw [← cw, ← cw] at hc
      obtain ⟨a1, a2⟩ := hc
      have R1 := fun X hX => Read_any A1 A2 img fs r D u X hX hi (by omega)
      have R2 := fun X hX => rRead_any A1 A2 img fs r E x X hX hi (by omega)
      have HRN := hide hrn
      clear hrn
      generalize readT img fs r A1 A2 = T at *
      obtain ⟨ra, re, r2⟩ := T
      dsimp only at R1 R2 HRN
      have C0 : Hid (∀ X, Hid (Below wr.heap.size wr X) → Calls Try.prog 18 #[.pointer (some ⟨D, 0, none⟩), .int .i64 A1, .int .i64 A2] X fun e w' => e = .returned (.tuple #[.string ra, .int .i64 re]) ∧ Hid (But D wr w' ∧ Dsk 60 w' D u img fs r2) ∧ w'.cell? ⟨b, o + k * 2, none⟩ = some (.int .i64 A1) ∧ w'.cell? ⟨b, o + k * 2 + 1, none⟩ = some (.int .i64 A2)) := by
        intro X bX
        refine (R1 X (HPk.out.d.below bX.out)).mono ?_
        rintro e w' ⟨rfl, hbu, hds⟩
        have bb := (But.of_below bX.out).trans hbu
        exact ⟨rfl, ⟨bb, hds⟩, (bb.cell hbw hbD.1).trans a1, (bb.cell hbw hbD.1).trans a2⟩
      have C1 : Hid (∀ V, Hid (But D wr V) → ∀ X, Hid (Below V.heap.size V X) → Calls Try.prog 19 #[.pointer (some ⟨E, 0, none⟩), .int .i64 A1, .int .i64 A2] X fun e w' => e = .returned (.tuple #[.string ra, .int .i64 re]) ∧ Hid (But E V w' ∧ Dsk 46 w' E x img fs r2) ∧ w'.cell? ⟨b, o + k * 2, none⟩ = some (.int .i64 A1) ∧ w'.cell? ⟨b, o + k * 2 + 1, none⟩ = some (.int .i64 A2)) := by
        intro V hV X bX
        refine (R2 X ((HPk.out.other hV.out).below bX.out)).mono ?_
        rintro e w' ⟨rfl, hbu, hds⟩
        have bb := (But.of_below bX.out).trans hbu
        have hbv := Nat.lt_of_lt_of_le hbw hV.out.size
        exact ⟨rfl, ⟨bb, hds⟩, (bb.cell hbv hbD.2).trans ((hV.out.cell hbw hbD.1).trans a1), (bb.cell hbv hbD.2).trans ((hV.out.cell hbw hbD.1).trans a2)⟩
      have b0 := bdrB wr
      have HPs := hide (fun w1 w2 (h1 : But D wr w1) d1 (h2 : But E w1 w2) d2 => HPk.out.step (r' := r2) h1 d1 h2 d2)
      clear R1 R2 cw hcl hbD hbw hbl hrk
      go_wp2_with fail
      have mk0 : True := trivial
      go_region_held3 (fun w' => w'.cell? ⟨b, o + k * 2, none⟩ = some (.int .i64 A1) ∧ w'.cell? ⟨b, o + k * 2 + 1, none⟩ = some (.int .i64 A2)) (go_keep) (first
        | (clear mk0; go_at_call 18; refine (C0.out _ b0).mono ?_; rintro e v1 ⟨rfl, P1, q1, q2⟩; have mk1 : True := trivial))
      have C2 := hide (C1.out v1 P1.out.1)
      have b1 := bdrB v1
      clear C0 C1 b0 mk1 a1 a2
      go_wp2_with fail
      have mk0 : True := trivial
      go_region_held3 (fun w' => w'.cell? ⟨b, o + k * 2, none⟩ = some (.int .i64 A1) ∧ w'.cell? ⟨b, o + k * 2 + 1, none⟩ = some (.int .i64 A2)) (go_keep) (first
        | (clear mk0; go_at_call 19; refine (C2.out _ b1).mono ?_; rintro e v2 ⟨rfl, P2, s1, s2⟩; have mk1 : True := trivial))
      have HPn := hide (HPs.out v1 v2 P1.out.1 P1.out.2 P2.out.1 P2.out.2)
      rw [← HRN.out] at HPn
      clear C2 b1 mk1 P1 P2 HPs q1 q2 s1 s2
      go_wp2
      exact ⟨⟨k + 1, by omega, by go_num, HPn⟩, by simp [intOf]; omega⟩
    · obtain rfl : k = L := by omega
      have hlt' : ¬ (k : Int) < (k : Int) := by omega
      generalize rdsN img fs os k = r at *
      have L1 := hide (Load_any img fs r D u wr HPk.out.d hi (by omega) HPk.out.lu)
      have L2 := hide (fun V (hV : But D wr V) => rLoad_any img fs r E x V (HPk.out.other hV) hi (by omega))
      generalize loadT img fs r = T at *
      obtain ⟨la, le, r3⟩ := T
      dsimp only at L1 L2
      have HPs := hide (fun w1 w2 (h1 : But D wr w1) d1 (h2 : But E w1 w2) d2 => HPk.out.step (r' := r3) h1 d1 h2 d2)
      clear hlt hrk
      go_wp2_with fail
      refine L1.out.mono ?_
      rintro e w3 ⟨rfl, hb1, hd1⟩
      have P1 := hide (And.intro hb1 hd1)
      clear hb1 hd1
      go_wp2_with fail
      refine (L2.out w3 P1.out.1).mono ?_
      rintro e w4 ⟨rfl, hb2, hd2⟩
      have HPn := hide (HPs.out w3 w4 P1.out.1 P1.out.2 hb2 hd2)
      have c0 : w4.cell? ⟨E, 2, none⟩ = some (.int .i64 (r3 : Int)) := hd2.blk.cell 2
      clear hb2 hd2 P1 L1 L2 HPs HPk
      have C0 : Hid (∀ X, Hid (Below w4.heap.size w4 X) → Calls Try.prog 20 #[.pointer (some ⟨D, 0, none⟩)] X fun e w' => e = .returned (.int .i64 (r3 : Int)) ∧ Hid (Below w4.heap.size w4 w') ∧ w'.cell? ⟨E, 2, none⟩ = some (.int .i64 (r3 : Int))) := by
        intro X bX
        refine (Reads_any (HPn.out.d.below bX.out)).mono ?_
        rintro e w' ⟨rfl, rfl⟩
        exact ⟨rfl, bX.out, (HPn.out.e.below bX.out).blk.cell 2⟩
      have C1 : Hid (∀ X, Hid (Below w4.heap.size w4 X) → Calls Try.prog 13 #[] X fun e w' => e = .returned (.bool true) ∧ Hid (Below w4.heap.size w4 w') ∧ w'.cell? ⟨E, 2, none⟩ = some (.int .i64 (r3 : Int))) := by
        intro X bX
        refine (fixed_any X).mono ?_
        rintro e w' ⟨rfl, hb⟩
        have bb := bX.out.trans (hb.mono bX.out.size)
        exact ⟨rfl, bb, (HPn.out.e.below bb).blk.cell 2⟩
      have b0 := bdrB w4
      have q1 : (la.toList == la.toList) = true := by simp
      have q2 : (le == le) = true := by simp
      have q3 : ((r3 : Int) == (r3 : Int)) = true := by simp
      go_wp2_with fail
      have mk0 : True := trivial
      go_region_held3 (fun w' => w'.cell? ⟨E, 2, none⟩ = some (.int .i64 (r3 : Int))) (go_keep) (first
        | (clear mk0; go_at_call 20; refine (C0.out _ b0).mono ?_; rintro e v1 ⟨rfl, b1, z1⟩; have mk1 : True := trivial)
        | (clear mk1; go_at_call 13; refine (C1.out _ b1).mono ?_; rintro e v2 ⟨rfl, b2, z2⟩; have mk2 : True := trivial))
      have HB9 := hide (HPn.out.b.trans (b2.out.mono HPn.out.b.size))
      clear C0 C1 b0 b1 b2 mk2
      go_wp2
      go_ret
      exact ⟨rfl, HB9.out⟩

theorem loads_row (w : World) (img : ByteArray) (_ : img.size ≤ 140737488355328) (v : Value) (fs : List Flt) (hf : FArg w v fs) (hfl : fs.length * 32 ≤ 140737488351232) (q : Value) (os : List (Int × Int)) (hq : OSl w q os) (hol : os.length * 16 ≤ 140737488351232) : Calls Try.prog 5 #[.string img, v, q] w fun e w' => e = .returned (.bool true) ∧ Below w.heap.size w w' := by
  by_cases hi : img.size ≤ 65552
  · by_cases hm : mayAllF fs = true
    · exact loads_ok w img v q fs os hi hf hm hq (by omega)
    · have hmf : mayAllF fs = false := by simpa using hm
      exact loads_bad w img v q 103 (fun X hX => New_fault img hi (hf.below hX) (by omega) hmf) (fun X hX => rNew_fault img hi (hf.below hX) (by omega) hmf)
  · exact loads_bad w img v q 106 (fun X _ => New_long img v X (by omega)) (fun X _ => rNew_long img v X (by omega))

end Go.Proofs.Ytdbbdclhfcakdaa

namespace Go.Proofs.Ytdbbdclhfcakdaa
open Go.ChangeShapes Go.WideShapes Go.ChangeAt Go.RowKit

theorem Try.own : ownKnob Try.prog.godebug = none := by kernel_rfl
theorem Try.laidOut : laidOutB Try.prog = true := by kernel_rfl
theorem Try.cellsFl : Try.prog.cellsOf 40 = 4 := by kernel_rfl
theorem Try.cellsI : Try.prog.cellsOf 3 = 1 := by kernel_rfl
theorem Try.bytesFl : Try.prog.bytesOf 40 = 32 := by kernel_rfl

theorem choose_flt {n : Nat} {p : Nat → Flt → Prop} (h : ∀ i, i < n → ∃ f, p i f) : ∃ fs : List Flt, fs.length = n ∧ ∀ i, i < n → p i (nth fs i) := by
  haveI : Inhabited Flt := ⟨Flt.zero⟩
  obtain ⟨q, hq⟩ := Deep.choose_lt (α := Flt) h
  refine ⟨(List.range n).map q, by simp, fun i hi => ?_⟩
  have e : nth ((List.range n).map q) i = q i := by unfold nth; simp [hi]
  rw [e]
  exact hq i hi

set_option maxRecDepth 100000 in
theorem viewF {H : Type} {enc : TypeId × Value → H} {W : World} {base : Nat} {v : Value} {d : DataW H} {p : List MemPlace} (hval : Value.okWide Try.prog W .any base 29 v) (h : DataW.Trod enc Try.prog W 0 (fun _ => true) true 29 v d p) :
    ∃ fs : List Flt, FArg W v fs ∧ ∀ {ts : List TypeId} {ds : List (DataW H)}, (DataW.weightsEach Try.prog ts ds).all (· ≤ reachBytes) = true → ∀ {j : Nat}, ts[j]? = some 29 → ds[j]? = some d → fs.length * 32 ≤ 140737488351232 := by
  obtain ⟨o, l, c, rfl⟩ := okWide_slice Try.underlying29 hval
  obtain ⟨fuel, hf⟩ := h
  rcases Deep.open_slice Try.underlying29 hf with ⟨hc, hx⟩ | ⟨a, len, cap, m, n, D, Pl, hc, _, hl, hm, hmm, hx, hel⟩
  · simp [Value.cells] at hc
    obtain ⟨rfl, rfl, rfl⟩ := hc
    exact ⟨[], ⟨⟨none, 0, rfl, Nat.le_refl _, .inl rfl⟩, fun l c e => by simp at e; omega⟩, fun _ _ _ _ => Nat.zero_le _⟩
  · simp [Value.cells] at hc
    obtain ⟨rfl, rfl, rfl⟩ := hc
    simp only [if_true] at hmm
    subst hmm
    rw [Try.cellsFl] at hel
    have each : ∀ i, i < l → ∃ f : Flt, W.cell? (a.add (i * 4)) = some (.int .i64 f.at_) ∧ W.cell? (a.add (i * 4 + 1)) = some (.int .i64 f.kind) ∧ W.cell? (a.add (i * 4 + 2)) = some (.int .i64 f.byte) ∧ W.cell? (a.add (i * 4 + 3)) = some (.int .i64 f.bit) := by
      intro i hi
      obtain ⟨cs', h1, h2⟩ := hel i (by omega)
      obtain ⟨_, hlen, hcell⟩ := World.cells?_some h1
      obtain ⟨xs, k, _, _, _, hxl, hfd⟩ := DataW.trod_struct Try.underlying40 h2
      match cs', hlen with
      | [c0, c1, c2, c3], _ =>
        match xs, (show xs.length = 4 by simpa using hxl) with
        | [y0, y1, y2, y3], _ =>
          have k0 : DataW.trod enc Try.prog W 0 (fun _ => true) true k 3 [c0] = some y0 := by simpa [Try.cellsI] using hfd 0 _ rfl
          have k1 : DataW.trod enc Try.prog W 0 (fun _ => true) true k 3 [c1] = some y1 := by simpa [Try.cellsI] using hfd 1 _ rfl
          have k2 : DataW.trod enc Try.prog W 0 (fun _ => true) true k 3 [c2] = some y2 := by simpa [Try.cellsI] using hfd 2 _ rfl
          have k3 : DataW.trod enc Try.prog W 0 (fun _ => true) true k 3 [c3] = some y3 := by simpa [Try.cellsI] using hfd 3 _ rfl
          obtain ⟨z0, e0, _⟩ := DataW.trod_int Try.underlying3 k0
          obtain ⟨z1, e1, _⟩ := DataW.trod_int Try.underlying3 k1
          obtain ⟨z2, e2, _⟩ := DataW.trod_int Try.underlying3 k2
          obtain ⟨z3, e3, _⟩ := DataW.trod_int Try.underlying3 k3
          simp at e0 e1 e2 e3
          subst e0 e1 e2 e3
          have g0 := hcell 0 (by omega)
          have g1 := hcell 1 (by omega)
          have g2 := hcell 2 (by omega)
          have g3 := hcell 3 (by omega)
          rw [Deep.add_add] at g0 g1 g2 g3
          exact ⟨⟨z0, z1, z2, z3⟩, by simpa using g0, by simpa using g1, by simpa using g2, by simpa using g3⟩
    obtain ⟨fs, hfl, hfs⟩ := choose_flt each
    subst hfl
    refine ⟨fs, ⟨⟨some a, _, rfl, hl, ?_⟩, fun l c e => by simp at e⟩, fun hz j ht hd => ?_⟩
    · by_cases h0 : fs = []
      · exact .inl h0
      · obtain ⟨b, off, sp⟩ := a
        have hp : 0 < fs.length := List.length_pos_iff.2 h0
        have hs : sp = none := by simpa [Addr.add] using World.cell?_spot (hfs 0 hp).1
        subst hs
        refine .inr ⟨b, off, rfl, by simpa [Addr.add] using World.block_lt_of_cell? W _ (hfs 0 hp).1, fun i hi => ?_⟩
        obtain ⟨q0, q1, q2, q3⟩ := hfs i hi
        rw [Addr.add_lit] at q0 q1 q2 q3
        exact ⟨q0, by rw [Nat.add_assoc]; exact q1, by rw [Nat.add_assoc]; exact q2, by rw [Nat.add_assoc]; exact q3⟩
    · have hd' : d = .slice ((List.range fs.length).map D) ((List.range (_ - fs.length)).map fun j => D (fs.length + j)) := congrArg Prod.fst hx
      rw [hd'] at hd
      have hzz := sized_slice hz ht hd Try.underlying29
      rw [Try.bytesFl] at hzz
      simp only [List.length_map, List.length_range] at hzz
      have h3 : reachBytes = 140737488351232 := by decide
      omega

end Go.Proofs.Ytdbbdclhfcakdaa

namespace Go.Proofs.Ytdbbdclhfcakdaa
open Go.ChangeShapes Go.WideShapes Go.ChangeAt Go.RowKit

theorem Try.cellsOp2 : Try.prog.cellsOf 43 = 2 := by kernel_rfl
theorem Try.bytesOp2 : Try.prog.bytesOf 43 = 16 := by kernel_rfl

theorem choose_op {n : Nat} {p : Nat → Int × Int → Prop} (h : ∀ i, i < n → ∃ f, p i f) : ∃ os : List (Int × Int), os.length = n ∧ ∀ i, i < n → p i (nthO os i) := by
  obtain ⟨q, hq⟩ := Deep.choose_lt (α := Int × Int) h
  refine ⟨(List.range n).map q, by simp, fun i hi => ?_⟩
  have e : nthO ((List.range n).map q) i = q i := by unfold nthO; simp [hi]
  rw [e]
  exact hq i hi

set_option maxRecDepth 100000 in
theorem viewOps {H : Type} {enc : TypeId × Value → H} {W : World} {base : Nat} {v : Value} {d : DataW H} {p : List MemPlace} (hval : Value.okWide Try.prog W .any base 30 v) (h : DataW.Trod enc Try.prog W 0 (fun _ => true) true 30 v d p) :
    ∃ os : List (Int × Int), OSl W v os ∧ ∀ {ts : List TypeId} {ds : List (DataW H)}, (DataW.weightsEach Try.prog ts ds).all (· ≤ reachBytes) = true → ∀ {j : Nat}, ts[j]? = some 30 → ds[j]? = some d → os.length * 16 ≤ 140737488351232 := by
  obtain ⟨o, l, c, rfl⟩ := okWide_slice Try.underlying30 hval
  obtain ⟨fuel, hf⟩ := h
  rcases Deep.open_slice Try.underlying30 hf with ⟨hc, hx⟩ | ⟨a, len, cap, m, n, D, Pl, hc, _, hl, hm, hmm, hx, hel⟩
  · simp [Value.cells] at hc
    obtain ⟨rfl, rfl, rfl⟩ := hc
    exact ⟨[], ⟨none, 0, rfl, Nat.le_refl _, .inl rfl⟩, fun _ _ _ _ => Nat.zero_le _⟩
  · simp [Value.cells] at hc
    obtain ⟨rfl, rfl, rfl⟩ := hc
    simp only [if_true] at hmm
    subst hmm
    rw [Try.cellsOp2] at hel
    have each : ∀ i, i < l → ∃ f : Int × Int, W.cell? (a.add (i * 2)) = some (.int .i64 f.1) ∧ W.cell? (a.add (i * 2 + 1)) = some (.int .i64 f.2) := by
      intro i hi
      obtain ⟨cs', h1, h2⟩ := hel i (by omega)
      obtain ⟨_, hlen, hcell⟩ := World.cells?_some h1
      obtain ⟨xs, k, _, _, _, hxl, hfd⟩ := DataW.trod_struct Try.underlying43 h2
      match cs', hlen with
      | [c0, c1], _ =>
        match xs, (show xs.length = 2 by simpa using hxl) with
        | [y0, y1], _ =>
          have k0 : DataW.trod enc Try.prog W 0 (fun _ => true) true k 3 [c0] = some y0 := by simpa [Try.cellsI] using hfd 0 _ rfl
          have k1 : DataW.trod enc Try.prog W 0 (fun _ => true) true k 3 [c1] = some y1 := by simpa [Try.cellsI] using hfd 1 _ rfl
          obtain ⟨z0, e0, _⟩ := DataW.trod_int Try.underlying3 k0
          obtain ⟨z1, e1, _⟩ := DataW.trod_int Try.underlying3 k1
          simp at e0 e1
          subst e0 e1
          have g0 := hcell 0 (by omega)
          have g1 := hcell 1 (by omega)
          rw [Deep.add_add] at g0 g1
          exact ⟨(z0, z1), by simpa using g0, by simpa using g1⟩
    obtain ⟨os, hfl, hfs⟩ := choose_op each
    subst hfl
    refine ⟨os, ⟨some a, _, rfl, hl, ?_⟩, fun hz j ht hd => ?_⟩
    · by_cases h0 : os = []
      · exact .inl h0
      · obtain ⟨b, off, sp⟩ := a
        have hp : 0 < os.length := List.length_pos_iff.2 h0
        have hs : sp = none := by simpa [Addr.add] using World.cell?_spot (hfs 0 hp).1
        subst hs
        refine .inr ⟨b, off, rfl, by simpa [Addr.add] using World.block_lt_of_cell? W _ (hfs 0 hp).1, fun i hi => ?_⟩
        obtain ⟨q0, q1⟩ := hfs i hi
        rw [Addr.add_lit] at q0 q1
        exact ⟨q0, by rw [Nat.add_assoc]; exact q1⟩
    · have hd' : d = .slice ((List.range os.length).map D) ((List.range (_ - os.length)).map fun j => D (os.length + j)) := congrArg Prod.fst hx
      rw [hd'] at hd
      have hzz := sized_slice hz ht hd Try.underlying30
      rw [Try.bytesOp2] at hzz
      simp only [List.length_map, List.length_range] at hzz
      have h3 : reachBytes = 140737488351232 := by decide
      omega

end Go.Proofs.Ytdbbdclhfcakdaa
