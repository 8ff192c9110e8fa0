/-
  What quipuref09.parts does.
  What quipuref09.split does.
  Entries of a ranges' text, one behind the other: plain mathematics.
  What rule's readNumber, readDivisor, readOperand and readCategory do.
  Numbers that calls answer in a region that draws its order: where they lie, and what stays.
-/
import Derived.Test.YtkbciljfjijclaaGreatDoorAB12
import Derived.Test.YtkbciljfjijclaaGreatDoorAB15
import Derived.OwnWalk
import Derived.Deep.DeepCutAuto
import Derived.Test.YtkbciljfjijclaaGreatDoorAB11
import Derived.Lib.AtoiTie
import Derived.Test.YtkbciljfjijclaaGreatDoorAB8
import Derived.Deep.RegionHeld3
namespace Go.Proofs.YtkbciljfjijclaaGreatDoor
open Go.RowKit

def PartsR (w : World) (s : ByteArray) (x : Ending) (w' : World) : Prop := ∃ v ok, x = .returned (.tuple #[v, .bool ok]) ∧ Below w.heap.size w w' ∧ ((ok = false ∧ (toks (bys s)).2 = true) ∨ (ok = true ∧ (toks (bys s)).2 = false ∧ ∃ g cap, v = .slice (some ⟨g, 0, none⟩) (toks (bys s)).1.length cap ∧ w'.ownsRow w.heap.size 9 1 v (toks (bys s)).1.length (strC (toks (bys s)).1)))

set_option maxRecDepth 100000 in
set_option maxHeartbeats 8000000 in
theorem rparts_any (s : ByteArray) (w : World) (hs : s.size ≤ 1024) : Calls Tryz.prog 104 #[.string s] w fun x w' => PartsR w s x w' := by
  obtain ⟨i0, hi0, hz0, hz1, hz2⟩ := info_parts info_str
  have HL := hide (bys_len s)
  have HG : Hid (∀ k (h : k < s.size), s[k].toNat = byt (bys s) k) := fun k h => byt_get s k h
  have HB0 : Hid (Below w.heap.size w (w.alloc (.cells #[] 9))) := (Below.refl _ _).alloc (Nat.le_refl _) _
  have HO0 : Hid ((w.alloc (.cells #[] 9)).ownsRow w.heap.size 9 1 (.slice (some ⟨w.heap.size, 0, none⟩) 0 0) 0 (strC [])) := World.ownsRow_made w #[] 0 (Nat.le_refl _) (by decide) rfl
  have HT0 : Hid (toks (bys s) = ([] ++ (toksA (bys s) 0).1, (toksA (bys s) 0).2)) := hide (by unfold toksA; rw [List.drop_zero, List.nil_append])
  go_enter Tryz.func104, Tryz.ntmps104
  go_wp2
  go_loopw [4, 5] (fun x y wr => ∃ (i g cap : Nat) (ts : List Tok), i ≤ s.size ∧ ts.length ≤ i ∧ x = .slice (some ⟨g, 0, none⟩) ts.length cap ∧ y = .int .i64 (i : Int) ∧ Hid (wr.ownsRow w.heap.size 9 1 (.slice (some ⟨g, 0, none⟩) ts.length cap) ts.length (strC ts)) ∧ Hid (Below w.heap.size w wr) ∧ Hid (toks (bys s) = (ts ++ (toksA (bys s) i).1, (toksA (bys s) i).2))) (fun _ y _ => s.size - (intOf y).toNat)
  case atStart => exact ⟨0, _, _, [], Nat.zero_le _, Nat.zero_le _, rfl, rfl, HO0, HB0, HT0⟩
  case round =>
    obtain ⟨i, g, cap, ts, hi, htl, rfl, rfl, HO, HB, HT⟩ := hrel
    clear HO0 HB0 HT0
    by_cases hlt : i < s.size
    · have hlt' : (i : Int) < (s.size : Int) := by omega
      have hil : i < (bys s).length := by rw [HL.out]; exact hlt
      obtain ⟨B, hB⟩ : ∃ B, byt (bys s) i = B := ⟨_, rfl⟩
      have hg : ∀ h : i < s.size, s[i].toNat = B := fun h => (HG.out i h).trans hB
      have hb2 : B < 256 := by rw [← hB]; exact byt_lt _ _
      have HBB := hide hB
      have HIL := hide hil
      obtain ⟨N, hN⟩ : ∃ N, N = ts.length := ⟨_, rfl⟩
      have HNN := hide hN
      rw [← hN] at htl HO ⊢
      clear hB hil hN
      go_upto_region 5 with (fail)
      iterate 17 (first | go_step | go_values | go_upon | go_simp)
      go_cut [5] (fun v wx => ∃ k : Nat, v = .int .i64 ((i + k : Nat) : Int) ∧ wx = wr ∧ 1 ≤ k ∧ i + k ≤ s.size ∧ Hid (B ≠ 32 ∧ partN ((bys s).drop i) = some k))
      case first =>
        by_cases c32 : B = 32
        · subst c32
          have HT2 := hide (toksA_skip (bys s) ts i HIL.out HBB.out HT.out)
          go_wp2
          exact ⟨⟨i + 1, g, cap, ts, by omega, by have := HNN.out; omega, by rw [← HNN.out], by go_num, by rw [← HNN.out]; exact HO, HB, HT2⟩, by simp [intOf]; omega⟩
        have c32' : ¬ (B : Int) = 32 := by omega
        by_cases cLt : 97 ≤ B ∧ B ≤ 122
        · have a1 : (97 : Int) ≤ (B : Int) := by omega
          have a2 : (B : Int) ≤ 122 := by omega
          clear HO HB HT
          skip
          go_wp2
          go_loopw [5] (fun y wq => ∃ j : Nat, y = .int .i64 (j : Int) ∧ i ≤ j ∧ j ≤ s.size ∧ wq = wr ∧ Hid (∀ k, i ≤ k → k < j → 97 ≤ byt (bys s) k ∧ byt (bys s) k ≤ 122)) (fun y _ => s.size - (intOf y).toNat)
          case atStart => exact ⟨i, rfl, Nat.le_refl _, hi, rfl, hide (fun k h1 h2 => by omega)⟩
          case round =>
            obtain ⟨j, rfl, hij, hj, hw, HA⟩ := hrel
            subst hw
            by_cases hjl : j < s.size
            · have hjl' : (j : Int) < (s.size : Int) := by omega
              obtain ⟨C, hC⟩ : ∃ C, byt (bys s) j = C := ⟨_, rfl⟩
              have hgj : ∀ h : j < s.size, s[j].toNat = C := fun h => (HG.out j h).trans hC
              have hc2 : C < 256 := by rw [← hC]; exact byt_lt _ _
              have HCC := hide hC
              clear hC
              by_cases d1 : 97 ≤ C
              · have d1' : (97 : Int) ≤ (C : Int) := by omega
                by_cases d2 : C ≤ 122
                · have d2' : (C : Int) ≤ 122 := by omega
                  have HA2 : Hid (∀ k, i ≤ k → k < j + 1 → 97 ≤ byt (bys s) k ∧ byt (bys s) k ≤ 122) := hide (fun k h1 h2 => by
                    by_cases e : k = j
                    · subst e; rw [HCC.out]; exact ⟨d1, d2⟩
                    · exact HA.out k h1 (by omega))
                  clear HA
                  go_wp2
                  exact ⟨⟨j + 1, by go_num, by omega, by omega, trivial, HA2⟩, by simp [intOf]; omega⟩
                · have d2' : ¬ (C : Int) ≤ 122 := by omega
                  have hp := part_lt (bys s) i HIL.out (by rw [HBB.out]; exact cLt) j hij (by rw [HL.out]; exact hj) HA.out (fun _ => by rw [HCC.out]; omega)
                  have hji : i ≠ j := fun e => by subst e; have := HBB.out.symm.trans HCC.out; omega
                  have HP := hide (And.intro c32 hp)
                  clear HA hp
                  go_wp2
                  go_meet
                  case rel => exact ⟨j - i, by congr 1; omega, (by first | rfl | trivial), by omega, by omega, HP⟩
              · have d1' : ¬ (97 : Int) ≤ (C : Int) := by omega
                have hp := part_lt (bys s) i HIL.out (by rw [HBB.out]; exact cLt) j hij (by rw [HL.out]; exact hj) HA.out (fun _ => by rw [HCC.out]; omega)
                have hji : i ≠ j := fun e => by subst e; have := HBB.out.symm.trans HCC.out; omega
                have HP := hide (And.intro c32 hp)
                clear HA hp
                go_wp2
                go_meet
                case rel => exact ⟨j - i, by congr 1; omega, (by first | rfl | trivial), by omega, by omega, HP⟩
            · have hjl' : ¬ (j : Int) < (s.size : Int) := by omega
              have hp := part_lt (bys s) i HIL.out (by rw [HBB.out]; exact cLt) j hij (by rw [HL.out]; exact hj) HA.out (fun h => by rw [HL.out] at h; omega)
              have HP := hide (And.intro c32 hp)
              clear HA hp
              go_wp2
              go_meet
              case rel => exact ⟨j - i, by congr 1; omega, (by first | rfl | trivial), by omega, by omega, HP⟩
        by_cases cNm : 48 ≤ B ∧ B ≤ 57
        · have a1 : (48 : Int) ≤ (B : Int) := by omega
          have a2 : (B : Int) ≤ 57 := by omega
          have a3 : ¬ (97 : Int) ≤ (B : Int) := by omega
          clear HO HB HT
          go_wp2
          go_loopw [5] (fun y wq => ∃ j : Nat, y = .int .i64 (j : Int) ∧ i ≤ j ∧ j ≤ s.size ∧ wq = wr ∧ Hid (∀ k, i ≤ k → k < j → 48 ≤ byt (bys s) k ∧ byt (bys s) k ≤ 57)) (fun y _ => s.size - (intOf y).toNat)
          case atStart => exact ⟨i, rfl, Nat.le_refl _, hi, rfl, hide (fun k h1 h2 => by omega)⟩
          case round =>
            obtain ⟨j, rfl, hij, hj, hw, HA⟩ := hrel
            subst hw
            by_cases hjl : j < s.size
            · have hjl' : (j : Int) < (s.size : Int) := by omega
              obtain ⟨C, hC⟩ : ∃ C, byt (bys s) j = C := ⟨_, rfl⟩
              have hgj : ∀ h : j < s.size, s[j].toNat = C := fun h => (HG.out j h).trans hC
              have hc2 : C < 256 := by rw [← hC]; exact byt_lt _ _
              have HCC := hide hC
              clear hC
              by_cases d1 : 48 ≤ C
              · have d1' : (48 : Int) ≤ (C : Int) := by omega
                by_cases d2 : C ≤ 57
                · have d2' : (C : Int) ≤ 57 := by omega
                  have HA2 : Hid (∀ k, i ≤ k → k < j + 1 → 48 ≤ byt (bys s) k ∧ byt (bys s) k ≤ 57) := hide (fun k h1 h2 => by
                    by_cases e : k = j
                    · subst e; rw [HCC.out]; exact ⟨d1, d2⟩
                    · exact HA.out k h1 (by omega))
                  clear HA
                  go_wp2
                  exact ⟨⟨j + 1, by go_num, by omega, by omega, trivial, HA2⟩, by simp [intOf]; omega⟩
                · have d2' : ¬ (C : Int) ≤ 57 := by omega
                  have hp := part_nm (bys s) i HIL.out (by rw [HBB.out]; exact cNm) j hij (by rw [HL.out]; exact hj) HA.out (fun _ => by rw [HCC.out]; omega)
                  have hji : i ≠ j := fun e => by subst e; have := HBB.out.symm.trans HCC.out; omega
                  have HP := hide (And.intro c32 hp)
                  clear HA hp
                  go_wp2
                  go_meet
                  case rel => exact ⟨j - i, by congr 1; omega, (by first | rfl | trivial), by omega, by omega, HP⟩
              · have d1' : ¬ (48 : Int) ≤ (C : Int) := by omega
                have hp := part_nm (bys s) i HIL.out (by rw [HBB.out]; exact cNm) j hij (by rw [HL.out]; exact hj) HA.out (fun _ => by rw [HCC.out]; omega)
                have hji : i ≠ j := fun e => by subst e; have := HBB.out.symm.trans HCC.out; omega
                have HP := hide (And.intro c32 hp)
                clear HA hp
                go_wp2
                go_meet
                case rel => exact ⟨j - i, by congr 1; omega, (by first | rfl | trivial), by omega, by omega, HP⟩
            · have hjl' : ¬ (j : Int) < (s.size : Int) := by omega
              have hp := part_nm (bys s) i HIL.out (by rw [HBB.out]; exact cNm) j hij (by rw [HL.out]; exact hj) HA.out (fun h => by rw [HL.out] at h; omega)
              have HP := hide (And.intro c32 hp)
              clear HA hp
              go_wp2
              go_meet
              case rel => exact ⟨j - i, by congr 1; omega, (by first | rfl | trivial), by omega, by omega, HP⟩
        by_cases cSg : isSgN B
        · have hp := part_sg (bys s) i HIL.out (by rw [HBB.out]; exact cSg)
          have HP := hide (And.intro c32 hp)
          clear hp HO HB HT
          unfold isSgN at cSg
          rcases cSg with rfl | rfl | rfl | rfl | rfl | rfl
          all_goals
            go_wp2
            go_meet
            case rel => exact ⟨1, rfl, (by first | rfl | trivial), by omega, by omega, HP⟩
        have s1 : ¬ (B : Int) = 58 := fun e => cSg (by unfold isSgN; omega)
        have s2 : ¬ (B : Int) = 59 := fun e => cSg (by unfold isSgN; omega)
        have s3 : ¬ (B : Int) = 37 := fun e => cSg (by unfold isSgN; omega)
        have s4 : ¬ (B : Int) = 61 := fun e => cSg (by unfold isSgN; omega)
        have s5 : ¬ (B : Int) = 44 := fun e => cSg (by unfold isSgN; omega)
        have s6 : ¬ (B : Int) = 43 := fun e => cSg (by unfold isSgN; omega)
        have u1 : ((B : Int) == 58) = false := beq_eq_false_iff_ne.2 s1
        have u2 : ((B : Int) == 59) = false := beq_eq_false_iff_ne.2 s2
        have u3 : ((B : Int) == 37) = false := beq_eq_false_iff_ne.2 s3
        have u4 : ((B : Int) == 61) = false := beq_eq_false_iff_ne.2 s4
        have u5 : ((B : Int) == 44) = false := beq_eq_false_iff_ne.2 s5
        have u6 : ((B : Int) == 43) = false := beq_eq_false_iff_ne.2 s6
        have hno : ∀ (h4 : i + 1 < (bys s).length → ¬ ((byt (bys s) i = 33 ∧ byt (bys s) (i + 1) = 61) ∨ (byt (bys s) i = 46 ∧ byt (bys s) (i + 1) = 46))), (toks (bys s)).2 = true := by
          intro h4
          have hp := part_no (bys s) i HIL.out (by rw [HBB.out]; exact cLt) (by rw [HBB.out]; exact cNm) (by rw [HBB.out]; exact cSg) h4
          have ht := toksA_none (bys s) i HIL.out (by rw [HBB.out]; exact c32) hp
          rw [HT.out, ht]
        have HNO := hide hno
        clear hno HT HO s1 s2 s3 s4 s5 s6
        by_cases hl2 : i + 1 < s.size
        · have hl2' : (i : Int) + 1 < (s.size : Int) := by omega
          have z1 : (i : Int) ≤ (i : Int) + 2 := by omega
          have z2 : (i : Int) + 2 ≤ (s.size : Int) := by omega
          have q1 := two_is s i hl2 33 61
          have q2 := two_is s i hl2 46 46
          obtain ⟨C, hC⟩ : ∃ C, byt (bys s) (i + 1) = C := ⟨_, rfl⟩
          rw [HBB.out, hC] at q1 q2
          have HCC := hide hC
          clear hC
          by_cases e1 : B = 33 ∧ C = 61
          · rw [decide_eq_true (show B = (33 : UInt8).toNat ∧ C = (61 : UInt8).toNat from e1)] at q1
            have HP := hide (And.intro c32 (part_two (bys s) i (by rw [HL.out]; exact hl2) (by rw [HBB.out, HCC.out]; exact .inl e1)))
            obtain ⟨rfl, rfl⟩ := e1
            clear HNO q2
            go_wp2
            go_meet
            case rel => exact ⟨2, rfl, (by first | rfl | trivial), by omega, by omega, HP⟩
          rw [decide_eq_false (show ¬ (B = (33 : UInt8).toNat ∧ C = (61 : UInt8).toNat) from e1)] at q1
          by_cases e2 : B = 46 ∧ C = 46
          · rw [decide_eq_true (show B = (46 : UInt8).toNat ∧ C = (46 : UInt8).toNat from e2)] at q2
            have HP := hide (And.intro c32 (part_two (bys s) i (by rw [HL.out]; exact hl2) (by rw [HBB.out, HCC.out]; exact .inr e2)))
            obtain ⟨rfl, rfl⟩ := e2
            clear HNO
            go_wp2
            go_meet
            case rel => exact ⟨2, rfl, (by first | rfl | trivial), by omega, by omega, HP⟩
          rw [decide_eq_false (show ¬ (B = (46 : UInt8).toNat ∧ C = (46 : UInt8).toNat) from e2)] at q2
          have HX := hide (HNO.out (fun _ => by rw [HBB.out, HCC.out]; omega))
          clear HNO
          have hcl : 122 < B ∨ (57 < B ∧ B < 97) ∨ B < 48 := by omega
          rcases hcl with h | h | h
          · have t1 : (97 : Int) ≤ (B : Int) := by omega
            have t2 : ¬ (B : Int) ≤ 122 := by omega
            have t3 : (48 : Int) ≤ (B : Int) := by omega
            have t4 : ¬ (B : Int) ≤ 57 := by omega
            go_wp2
            go_ret2
            exact ⟨_, _, rfl, HB.out, .inl ⟨rfl, HX.out⟩⟩
          · have t1 : ¬ (97 : Int) ≤ (B : Int) := by omega
            have t3 : (48 : Int) ≤ (B : Int) := by omega
            have t4 : ¬ (B : Int) ≤ 57 := by omega
            go_wp2
            go_ret2
            exact ⟨_, _, rfl, HB.out, .inl ⟨rfl, HX.out⟩⟩
          · have t1 : ¬ (97 : Int) ≤ (B : Int) := by omega
            have t3 : ¬ (48 : Int) ≤ (B : Int) := by omega
            go_wp2
            go_ret2
            exact ⟨_, _, rfl, HB.out, .inl ⟨rfl, HX.out⟩⟩
        · have hl2' : ¬ (i : Int) + 1 < (s.size : Int) := by omega
          have HX := hide (HNO.out (fun h => by rw [HL.out] at h; omega))
          clear HNO
          have hcl : 122 < B ∨ (57 < B ∧ B < 97) ∨ B < 48 := by omega
          rcases hcl with h | h | h
          · have t1 : (97 : Int) ≤ (B : Int) := by omega
            have t2 : ¬ (B : Int) ≤ 122 := by omega
            have t3 : (48 : Int) ≤ (B : Int) := by omega
            have t4 : ¬ (B : Int) ≤ 57 := by omega
            go_wp2
            go_ret2
            exact ⟨_, _, rfl, HB.out, .inl ⟨rfl, HX.out⟩⟩
          · have t1 : ¬ (97 : Int) ≤ (B : Int) := by omega
            have t3 : (48 : Int) ≤ (B : Int) := by omega
            have t4 : ¬ (B : Int) ≤ 57 := by omega
            go_wp2
            go_ret2
            exact ⟨_, _, rfl, HB.out, .inl ⟨rfl, HX.out⟩⟩
          · have t1 : ¬ (97 : Int) ≤ (B : Int) := by omega
            have t3 : ¬ (48 : Int) ≤ (B : Int) := by omega
            go_wp2
            go_ret2
            exact ⟨_, _, rfl, HB.out, .inl ⟨rfl, HX.out⟩⟩
      case rest =>
        obtain ⟨k, rfl, hwc, hk1, hk2, HP⟩ := hcut
        subst hwc
        have HT2 := hide (toks_next (bys s) ts i k HIL.out (by rw [HBB.out]; exact HP.out.1) HP.out.2 HT.out)
        obtain ⟨X, hX⟩ : ∃ X, X = s.extract i (i + k) := ⟨_, rfl⟩
        have hXb : mkB (((bys s).drop i).take k) = X := by rw [hX, ← bys_cutR]; unfold mkB bys; cases (s.extract i (i + k)); simp
        have HXB := hide hXb
        have HXX := hide hX.symm
        clear HT HP hXb hX
        have halw : Below wc.heap.size wc (wc.alloc (.cells #[.string X] 9)) := (Below.refl _ _).alloc (Nat.le_refl _) _
        have HO2 := hide (rown_below HO.out halw)
        have HB2 := hide (HB.out.trans (halw.mono HB.out.size))
        have BQ := hide (Blk.newAt wc wc.heap.size rfl #[.string X] 9)
        have y1 : (i : Int) ≤ ((i + k : Nat) : Int) := by omega
        have y2 : ((i + k : Nat) : Int) ≤ (s.size : Int) := by omega
        clear halw HO HB
        go_wp2_with (first | rw [HXX.out] | (at_builtin; refine wpList_append_own _ rfl _ _ 112 rfl w.heap.size 9 i0 (.string ⟨#[]⟩) 1 16 Tryz.underlying112 hi0 hz0 hz1 hz2 rfl (by decide) _ N (strC ts) rfl HO2.out ⟨wc.heap.size, 0, none⟩ 1 1 [.string X] rfl rfl ?_ ?_ ?_ ?_ ?_ ?_))
        all_goals try (intro j u hj; rw [Addr.add_lit, Nat.zero_add, BQ.out.cell j, ← hj]; simp; done)
        all_goals try (intro u hu; simp at hu; subst hu; rfl)
        all_goals try (unfold maxLen; omega)
        all_goals try (exact HB2.out.size)
        all_goals try omega
        · intro v' w4 hown hgr hnil
          obtain ⟨g4, c4, rfl, hg4, hg4l, hc4⟩ := rown_form hown (fun e => hnil e)
          have hlo : ∀ q, (Value.slice (some ⟨g, 0, none⟩) N cap).ownBlock = some q → w.heap.size ≤ q := fun q hq => (World.ownsRow.lt HO2.out q hq).1
          have HB4 := hide (HB2.out.grown hgr HB2.out.size hlo)
          have el : (ts ++ [((bys s).drop i).take k]).length = N + 1 := by rw [List.length_append, ← HNN.out]; rfl
          have HO4 : Hid (w4.ownsRow w.heap.size 9 1 (.slice (some ⟨g4, 0, none⟩) (ts ++ [((bys s).drop i).take k]).length c4) (ts ++ [((bys s).drop i).take k]).length (strC (ts ++ [((bys s).drop i).take k]))) := hide (by
            rw [el, strC_app, show strC [((bys s).drop i).take k] = [.string X] by unfold strC; rw [List.map_cons, HXB.out]; rfl]
            exact hown)
          have EL := hide el
          clear hown hgr hnil hlo HO2 HB2 BQ el
          go_wp2
          exact ⟨⟨i + k, g4, c4, ts ++ [((bys s).drop i).take k], by omega, by rw [EL.out]; omega, by rw [EL.out], rfl, HO4, HB4, HT2⟩, by simp [intOf]; omega⟩
    · have hlt' : ¬ (i : Int) < (s.size : Int) := by omega
      have ht := HT.out
      rw [toksA_end (bys s) i (by rw [HL.out]; omega)] at ht
      simp only [List.append_nil] at ht
      have HTT := hide ht
      clear ht HT
      go_wp2
      go_ret2
      refine ⟨_, _, rfl, HB.out, .inr ⟨rfl, by rw [HTT.out], g, cap, ?_, ?_⟩⟩
      · rw [HTT.out]; rfl
      · rw [HTT.out]; exact HO.out

end Go.Proofs.YtkbciljfjijclaaGreatDoor

namespace Go.Proofs.YtkbciljfjijclaaGreatDoor
open Go.RowKit

theorem info_sl : (Tryz.prog.info? 112).map (fun i => (i.zero, i.size, i.bytes)) = some (some (.slice none 0 0), 1, 24) := by kernel_rfl

def cutV (g off cap : Nat) (x : Nat × Nat) : Value := .slice (some ⟨g, cutA off cap x.1, none⟩) (x.2 - x.1) (cap - x.1)
def cutC (g off cap : Nat) (l : List (Nat × Nat)) : List Value := l.map (cutV g off cap)
theorem cutC_app (g off cap : Nat) (a b : List (Nat × Nat)) : cutC g off cap (a ++ b) = cutC g off cap a ++ cutC g off cap b := by unfold cutC; rw [List.map_append]

def restC (sep : Tok) (ts : List Tok) (f i : Nat) : List (Nat × Nat) := if i ≤ ts.length then cutsAt sep f i (ts.drop i) else []

set_option maxRecDepth 100000 in
set_option maxHeartbeats 8000000 in
theorem rsplit_any (g off cap : Nat) (sep : ByteArray) (ts : List Tok) (v : Value) (w : World) (hv : TokV w g off cap ts v) (hl : ts.length ≤ 1024) : Calls Tryz.prog 105 #[v, .string sep] w fun x w' => ∃ g2 c2, x = .returned (.slice (some ⟨g2, 0, none⟩) (cutsAt (bys sep) 0 0 ts).length c2) ∧ w'.ownsRow w.heap.size 112 1 (.slice (some ⟨g2, 0, none⟩) (cutsAt (bys sep) 0 0 ts).length c2) (cutsAt (bys sep) 0 0 ts).length (cutC g off cap (cutsAt (bys sep) 0 0 ts)) ∧ Below w.heap.size w w' := by
  obtain ⟨i0, hi0, hz0, hz1, hz2⟩ := info_parts info_sl
  obtain ⟨rfl, hcap, hcm, hg, hcs⟩ := hv
  have HC := hide hcs
  have hg' := hg
  obtain ⟨L, hL⟩ : ∃ L, L = ts.length := ⟨_, rfl⟩
  rw [← hL] at hcap hl ⊢
  have HLL := hide hL
  have HB0 : Hid (Below w.heap.size w (w.alloc (.cells #[] 112))) := (Below.refl _ _).alloc (Nat.le_refl _) _
  have HO0 : Hid ((w.alloc (.cells #[] 112)).ownsRow w.heap.size 112 1 (.slice (some ⟨w.heap.size, 0, none⟩) 0 0) 0 (cutC g off cap [])) := World.ownsRow_made w #[] 0 (Nat.le_refl _) (by decide) rfl
  obtain ⟨CU, hCU⟩ : ∃ CU, CU = cutsAt (bys sep) 0 0 ts := ⟨_, rfl⟩
  rw [← hCU]
  have HR0 : Hid ([] ++ restC (bys sep) ts 0 0 = CU) := hide (by unfold restC; rw [if_pos (Nat.zero_le _), List.drop_zero, hCU]; rfl)
  clear hcs hL hCU
  go_enter Tryz.func105, Tryz.ntmps105
  go_wp2
  go_loopw [5, 6, 7] (fun x y z wr => ∃ (i f g2 c2 : Nat) (dn : List (Nat × Nat)), i ≤ L + 1 ∧ f ≤ i ∧ dn.length ≤ i ∧ x = .slice (some ⟨g2, 0, none⟩) dn.length c2 ∧ y = .int .i64 (f : Int) ∧ z = .int .i64 (i : Int) ∧ Hid (wr.ownsRow w.heap.size 112 1 (.slice (some ⟨g2, 0, none⟩) dn.length c2) dn.length (cutC g off cap dn)) ∧ Hid (Below w.heap.size w wr) ∧ Hid (dn ++ restC (bys sep) ts f i = CU)) (fun _ _ z _ => L + 1 - (intOf z).toNat)
  case atStart => exact ⟨0, 0, _, _, [], by omega, Nat.le_refl _, Nat.le_refl _, rfl, rfl, rfl, HO0, HB0, HR0⟩
  case round =>
    obtain ⟨i, f, g2, c2, dn, hi, hfi, hdl, rfl, rfl, rfl, HO, HB, HR⟩ := hrel
    clear HO0 HB0 HR0
    obtain ⟨N, hN⟩ : ∃ N, N = dn.length := ⟨_, rfl⟩
    have HNN := hide hN
    rw [← hN] at hdl HO ⊢
    clear hN
    by_cases hle : i ≤ L
    · have hle' : (i : Int) ≤ (L : Int) := by omega
      have q1 : (f : Int) ≤ (i : Int) := by omega
      have q2 : (i : Int) ≤ (cap : Int) := by omega
      by_cases heq : i = L
      · have heq' : (i : Int) = (L : Int) := by omega
        have HR2 : Hid ((dn ++ [(f, i)]) ++ restC (bys sep) ts (i + 1) (i + 1) = CU) := hide (by
          rw [← HR.out]
          unfold restC
          rw [← HLL.out, if_neg (by omega), if_pos hle, List.append_nil, heq, HLL.out, List.drop_length]
          rfl)
        clear HR
        subst heq
        by_cases hfc : f = cap
        · have hzz : i - f = 0 := by omega
          have hfi2 : f = i := by omega
          have halw : Below wr.heap.size wr (wr.alloc (.cells #[.slice (some ⟨g, off, none⟩) 0 0] 112)) := (Below.refl _ _).alloc (Nat.le_refl _) _
          have HO2 := hide (rown_below HO.out halw)
          have HB2 := hide (HB.out.trans (halw.mono HB.out.size))
          have BQ := hide (Blk.newAt wr wr.heap.size rfl #[.slice (some ⟨g, off, none⟩) 0 0] 112)
          have HCV : Hid (cutC g off cap [(f, i)] = [.slice (some ⟨g, off, none⟩) 0 0]) := hide (by unfold cutC cutV cutA; rw [List.map_cons, if_pos hfc]; dsimp only; rw [show i - f = 0 by omega, show cap - f = 0 by omega]; try rfl)
          have hwz : w.heap.size ≤ wr.heap.size := HB.out.size
          clear halw HO HB
          go_wp2_with (at_builtin; refine wpList_append_own _ rfl _ _ 124 rfl w.heap.size 112 i0 (.slice none 0 0) 1 24 Tryz.underlying124 hi0 hz0 hz1 hz2 rfl (by decide) _ N (cutC g off cap dn) rfl HO2.out ⟨wr.heap.size, 0, none⟩ 1 1 [.slice (some ⟨g, off, none⟩) 0 0] rfl rfl ?_ ?_ ?_ ?_ ?_ ?_)
          all_goals try (intro j u hj; rw [Addr.add_lit, Nat.zero_add, BQ.out.cell j, ← hj]; simp; done)
          all_goals try (intro u hu; simp at hu; subst hu; first | rfl | decide | simp [Value.oneCell'])
          all_goals try rfl
          all_goals try (unfold maxLen; omega)
          all_goals try (exact HB2.out.size)
          all_goals try omega
          · intro v' w4 hown hgr hnil
            obtain ⟨g4, c4, rfl, hg4, hg4l, hc4⟩ := rown_form hown (fun e => hnil e)
            have hlo : ∀ q, (Value.slice (some ⟨g2, 0, none⟩) N c2).ownBlock = some q → w.heap.size ≤ q := fun q hq => (World.ownsRow.lt HO2.out q hq).1
            have HB4 := hide (HB2.out.grown hgr HB2.out.size hlo)
            have el : (dn ++ [(f, i)]).length = N + 1 := by rw [List.length_append, ← HNN.out]; rfl
            have HO4 : Hid (w4.ownsRow w.heap.size 112 1 (.slice (some ⟨g4, 0, none⟩) (dn ++ [(f, i)]).length c4) (dn ++ [(f, i)]).length (cutC g off cap (dn ++ [(f, i)]))) := hide (by
              rw [el, cutC_app, HCV.out]
              exact hown)
            have EL := hide el
            clear hown hgr hnil hlo HO2 HB2 BQ el
            go_wp2
            exact ⟨⟨i + 1, i + 1, g4, c4, dn ++ [(f, i)], by omega, Nat.le_refl _, by rw [EL.out]; omega, by rw [EL.out], by go_num, by go_num, HO4, HB4, HR2⟩, by (simp [intOf] <;> omega)⟩
        · have hfl : (f : Int) < (cap : Int) := by omega
          have halw : Below wr.heap.size wr (wr.alloc (.cells #[.slice (some ⟨g, (off + f), none⟩) (i - f) (cap - f)] 112)) := (Below.refl _ _).alloc (Nat.le_refl _) _
          have HO2 := hide (rown_below HO.out halw)
          have HB2 := hide (HB.out.trans (halw.mono HB.out.size))
          have BQ := hide (Blk.newAt wr wr.heap.size rfl #[.slice (some ⟨g, (off + f), none⟩) (i - f) (cap - f)] 112)
          have HCV : Hid (cutC g off cap [(f, i)] = [.slice (some ⟨g, (off + f), none⟩) (i - f) (cap - f)]) := hide (by unfold cutC cutV cutA; rw [List.map_cons, if_neg hfc]; try rfl)
          have hwz : w.heap.size ≤ wr.heap.size := HB.out.size
          clear halw HO HB
          go_wp2_with (at_builtin; refine wpList_append_own _ rfl _ _ 124 rfl w.heap.size 112 i0 (.slice none 0 0) 1 24 Tryz.underlying124 hi0 hz0 hz1 hz2 rfl (by decide) _ N (cutC g off cap dn) rfl HO2.out ⟨wr.heap.size, 0, none⟩ 1 1 [.slice (some ⟨g, (off + f), none⟩) (i - f) (cap - f)] rfl rfl ?_ ?_ ?_ ?_ ?_ ?_)
          all_goals try (intro j u hj; rw [Addr.add_lit, Nat.zero_add, BQ.out.cell j, ← hj]; simp; done)
          all_goals try (intro u hu; simp at hu; subst hu; first | rfl | decide | simp [Value.oneCell'])
          all_goals try rfl
          all_goals try (unfold maxLen; omega)
          all_goals try (exact HB2.out.size)
          all_goals try omega
          · intro v' w4 hown hgr hnil
            obtain ⟨g4, c4, rfl, hg4, hg4l, hc4⟩ := rown_form hown (fun e => hnil e)
            have hlo : ∀ q, (Value.slice (some ⟨g2, 0, none⟩) N c2).ownBlock = some q → w.heap.size ≤ q := fun q hq => (World.ownsRow.lt HO2.out q hq).1
            have HB4 := hide (HB2.out.grown hgr HB2.out.size hlo)
            have el : (dn ++ [(f, i)]).length = N + 1 := by rw [List.length_append, ← HNN.out]; rfl
            have HO4 : Hid (w4.ownsRow w.heap.size 112 1 (.slice (some ⟨g4, 0, none⟩) (dn ++ [(f, i)]).length c4) (dn ++ [(f, i)]).length (cutC g off cap (dn ++ [(f, i)]))) := hide (by
              rw [el, cutC_app, HCV.out]
              exact hown)
            have EL := hide el
            clear hown hgr hnil hlo HO2 HB2 BQ el
            go_wp2
            exact ⟨⟨i + 1, i + 1, g4, c4, dn ++ [(f, i)], by omega, Nat.le_refl _, by rw [EL.out]; omega, by rw [EL.out], by go_num, by go_num, HO4, HB4, HR2⟩, by (simp [intOf] <;> omega)⟩
      · have hlt : i < L := by omega
        have heq' : ¬ (i : Int) = (L : Int) := by omega
        have hlt' : (i : Int) < (L : Int) := by omega
        obtain ⟨t, ht⟩ : ∃ t, ts[i]? = some t := ⟨_, List.getElem?_eq_getElem (by rw [← HLL.out]; exact hlt)⟩
        have c3 : wr.cell? ⟨g, off + i, none⟩ = some (.string (mkB t)) := (HB.out.cell (p := ⟨g, off + i, none⟩) hg').trans (HC.out i t ht)
        have hst := cutsAt_step (sep := bys sep) (f := f) ht
        have hrest : restC (bys sep) ts f i = cutsAt (bys sep) f i (ts.drop i) := by unfold restC; rw [if_pos (by rw [← HLL.out]; exact hle)]
        have hrest2 : ∀ k, restC (bys sep) ts k (i + 1) = cutsAt (bys sep) k (i + 1) (ts.drop (i + 1)) := fun k => by unfold restC; rw [if_pos (by rw [← HLL.out]; omega)]
        by_cases hs : t = bys sep
        · have hfc : ¬ f = cap := by omega
          have hfl : (f : Int) < (cap : Int) := by omega
          have HR2 : Hid ((dn ++ [(f, i)]) ++ restC (bys sep) ts (i + 1) (i + 1) = CU) := hide (by
            rw [← HR.out, hrest, hst, if_pos hs, hrest2]
            simp)
          subst hs
          rw [show mkB (bys sep) = sep from rfl] at c3
          clear HR hst hrest hrest2 ht
          have halw : Below wr.heap.size wr (wr.alloc (.cells #[.slice (some ⟨g, (off + f), none⟩) (i - f) (cap - f)] 112)) := (Below.refl _ _).alloc (Nat.le_refl _) _
          have HO2 := hide (rown_below HO.out halw)
          have HB2 := hide (HB.out.trans (halw.mono HB.out.size))
          have BQ := hide (Blk.newAt wr wr.heap.size rfl #[.slice (some ⟨g, (off + f), none⟩) (i - f) (cap - f)] 112)
          have HCV : Hid (cutC g off cap [(f, i)] = [.slice (some ⟨g, (off + f), none⟩) (i - f) (cap - f)]) := hide (by unfold cutC cutV cutA; rw [List.map_cons, if_neg hfc]; try rfl)
          have hwz : w.heap.size ≤ wr.heap.size := HB.out.size
          clear halw HO HB
          go_wp2_with (at_builtin; refine wpList_append_own _ rfl _ _ 124 rfl w.heap.size 112 i0 (.slice none 0 0) 1 24 Tryz.underlying124 hi0 hz0 hz1 hz2 rfl (by decide) _ N (cutC g off cap dn) rfl HO2.out ⟨wr.heap.size, 0, none⟩ 1 1 [.slice (some ⟨g, (off + f), none⟩) (i - f) (cap - f)] rfl rfl ?_ ?_ ?_ ?_ ?_ ?_)
          all_goals try (intro j u hj; rw [Addr.add_lit, Nat.zero_add, BQ.out.cell j, ← hj]; simp; done)
          all_goals try (intro u hu; simp at hu; subst hu; first | rfl | decide | simp [Value.oneCell'])
          all_goals try rfl
          all_goals try (unfold maxLen; omega)
          all_goals try (exact HB2.out.size)
          all_goals try omega
          · intro v' w4 hown hgr hnil
            obtain ⟨g4, c4, rfl, hg4, hg4l, hc4⟩ := rown_form hown (fun e => hnil e)
            have hlo : ∀ q, (Value.slice (some ⟨g2, 0, none⟩) N c2).ownBlock = some q → w.heap.size ≤ q := fun q hq => (World.ownsRow.lt HO2.out q hq).1
            have HB4 := hide (HB2.out.grown hgr HB2.out.size hlo)
            have el : (dn ++ [(f, i)]).length = N + 1 := by rw [List.length_append, ← HNN.out]; rfl
            have HO4 : Hid (w4.ownsRow w.heap.size 112 1 (.slice (some ⟨g4, 0, none⟩) (dn ++ [(f, i)]).length c4) (dn ++ [(f, i)]).length (cutC g off cap (dn ++ [(f, i)]))) := hide (by
              rw [el, cutC_app, HCV.out]
              exact hown)
            have EL := hide el
            clear hown hgr hnil hlo HO2 HB2 BQ el
            go_wp2
            exact ⟨⟨i + 1, i + 1, g4, c4, dn ++ [(f, i)], by omega, Nat.le_refl _, by rw [EL.out]; omega, by rw [EL.out], by go_num, by go_num, HO4, HB4, HR2⟩, by (simp [intOf] <;> omega)⟩
        · have hq := ne_text (f := mkB t) (g := sep) hs
          have HR2 : Hid (dn ++ restC (bys sep) ts f (i + 1) = CU) := hide (by
            rw [← HR.out, hrest, hst, if_neg hs, hrest2])
          clear HR hst hrest hrest2 ht
          go_wp2
          exact ⟨⟨i + 1, f, g2, c2, dn, by omega, by omega, by have := HNN.out; omega, by rw [← HNN.out], rfl, by go_num, by rw [← HNN.out]; exact HO, HB, HR2⟩, by simp [intOf]; omega⟩
    · have hle' : ¬ (i : Int) ≤ (L : Int) := by omega
      have hr := HR.out
      unfold restC at hr
      rw [if_neg (by rw [← HLL.out]; omega), List.append_nil] at hr
      have HRR := hide hr
      clear hr HR
      go_wp2
      go_ret
      refine ⟨g2, c2, ?_, ?_, HB.out⟩
      · rw [← HRR.out, ← HNN.out]; rfl
      · rw [← HRR.out, ← HNN.out]; exact HO.out

end Go.Proofs.YtkbciljfjijclaaGreatDoor

namespace Go.Proofs.YtkbciljfjijclaaGreatDoor
open Go.RowKit

theorem mapM_next {α β : Type} (f : α → Option β) (l : List α) (i : Nat) (x : α) (E : List β) (hx : l[i]? = some x) (h : (l.take i).mapM f = some E) (y : β) (hy : f x = some y) : (l.take (i + 1)).mapM f = some (E ++ [y]) := by
  have hi : i < l.length := by
    rcases Nat.lt_or_ge i l.length with q | q
    · exact q
    · rw [List.getElem?_eq_none q] at hx; cases hx
  rw [List.take_add_one, hx, List.mapM_append, h]
  simp [hy]

theorem mapM_stop {α β : Type} (f : α → Option β) (l : List α) (i : Nat) (x : α) (hx : l[i]? = some x) (hy : f x = none) : l.mapM f = none := by
  have hi : i < l.length := by
    rcases Nat.lt_or_ge i l.length with q | q
    · exact q
    · rw [List.getElem?_eq_none q] at hx; cases hx
  have e : l = l.take i ++ (x :: l.drop (i + 1)) := by
    rw [List.getElem?_eq_getElem hi, Option.some.injEq] at hx
    rw [← hx, ← List.drop_eq_getElem_cons hi, List.take_append_drop]
  rw [e, List.mapM_append]
  cases (l.take i).mapM f with
  | none => rfl
  | some a => simp [hy]

theorem unlike_app {α β : Type} [DecidableEq α] : ∀ (E : List (α × β)) (R : List (α × β)), unlike (E ++ R) = true → unlike E = true ∧ ∀ e ∈ E, ∀ r ∈ R, r.1 ≠ e.1
  | [], R, _ => ⟨rfl, fun e he => by cases he⟩
  | x :: E, R, h => by
    rw [List.cons_append] at h
    unfold unlike at h
    simp only [Bool.and_eq_true, Bool.not_eq_true', List.any_eq_false, beq_iff_eq] at h
    obtain ⟨h1, h2⟩ := h
    obtain ⟨h3, h4⟩ := unlike_app E R h2
    refine ⟨?_, fun e he r hr => ?_⟩
    · unfold unlike
      simp only [Bool.and_eq_true, Bool.not_eq_true', List.any_eq_false, beq_iff_eq]
      exact ⟨fun y hy => h1 y (List.mem_append_left _ hy), h3⟩
    · rcases List.mem_cons.1 he with rfl | he
      · exact h1 r (List.mem_append_right _ hr)
      · exact h4 e he r hr

theorem unlike_add {α β : Type} [DecidableEq α] (x : α × β) : ∀ (E : List (α × β)), unlike E = true → (∀ e ∈ E, e.1 ≠ x.1) → unlike (E ++ [x]) = true
  | [], _, _ => by simp [unlike]
  | y :: E, h, hn => by
    unfold unlike at h
    simp only [Bool.and_eq_true, Bool.not_eq_true', List.any_eq_false, beq_iff_eq] at h
    rw [List.cons_append]
    unfold unlike
    simp only [Bool.and_eq_true, Bool.not_eq_true', List.any_eq_false, beq_iff_eq]
    refine ⟨fun z hz => ?_, unlike_add x E h.2 (fun e he => hn e (List.mem_cons_of_mem _ he))⟩
    rcases List.mem_append.1 hz with hz | hz
    · exact h.1 z hz
    · rw [List.mem_singleton] at hz
      subst hz
      exact fun q => hn y (List.mem_cons_self ..) q.symm

theorem only_twice {α β γ : Type} [DecidableEq α] (f : γ → Option (α × β)) (l : List γ) (i : Nat) (x : γ) (E : List (α × β)) (y : α × β) (hx : l[i]? = some x) (h : (l.take i).mapM f = some E) (hy : f x = some y) (e : α × β) (he : e ∈ E) (hq : e.1 = y.1) : onlyU (l.mapM f) = none := by
  have h1 := mapM_next f l i x E hx h y hy
  have hs : l = l.take (i + 1) ++ l.drop (i + 1) := (List.take_append_drop _ _).symm
  unfold onlyU
  cases hm : l.mapM f with
  | none => rfl
  | some m =>
    rw [hs, List.mapM_append, h1] at hm
    cases hr : (l.drop (i + 1)).mapM f with
    | none => rw [hr] at hm; simp at hm
    | some r =>
      rw [hr] at hm
      simp at hm
      have hu : unlike m = false := by
        cases hu : unlike m with
        | false => rfl
        | true =>
          rw [← hm, List.append_cons] at hu
          have h2 := (unlike_app E (y :: r) (by rw [List.append_cons]; exact hu)).2 e he y (List.mem_cons_self ..)
          exact absurd hq.symm h2
      simp only [hu]
      rfl

theorem only_all {α β γ : Type} [DecidableEq α] (f : γ → Option (α × β)) (l : List γ) (E : List (α × β)) (h : (l.take l.length).mapM f = some E) (hu : unlike E = true) : onlyU (l.mapM f) = some E := by
  rw [List.take_length] at h
  unfold onlyU
  rw [h]
  simp only [hu, if_true]

end Go.Proofs.YtkbciljfjijclaaGreatDoor

namespace Go.Proofs.YtkbciljfjijclaaGreatDoor
open Go.RowKit

def Evs (w : World) : Prop := (∃ tp p, w.var? Tryz.prog "strconv.ErrSyntax" = some #[.iface tp p]) ∧ (∃ tp p, w.var? Tryz.prog "strconv.ErrRange" = some #[.iface tp p])

theorem var_below {w w' : World} {nm : String} {v : Array Value} (h : w.var? Tryz.prog nm = some v) (hb : Below w.heap.size w w') : w'.var? Tryz.prog nm = some v := by
  unfold World.var? at *
  cases hg : Tryz.prog.globalNamed nm with
  | none => rw [hg] at h; cases h
  | some g =>
    rw [hg] at h
    simp only [Option.bind_some] at h ⊢
    have hlt : g < w.heap.size := by
      rcases Nat.lt_or_ge g w.heap.size with h' | h'
      · exact h'
      · rw [Array.getElem?_eq_none h'] at h; cases h
    rw [hb.block g hlt]
    exact h

theorem Evs.below {w w' : World} (h : Evs w) (hb : Below w.heap.size w w') : Evs w' := by
  obtain ⟨⟨a, b, h1⟩, c, d, h2⟩ := h
  exact ⟨⟨a, b, var_below h1 hb⟩, c, d, var_below h2 hb⟩

theorem atoi_tok {t : Tok} (h : Tk t) (hl : t.length ≤ 9) : Lib.atoiAll t = Lib.NumEnd.ofOption ((Lib.decNat t).map fun (m : Nat) => (m : Int)) := by
  rw [Lib.atoiAll_short t (by omega)]
  congr 1
  cases t with
  | nil => rfl
  | cons c r =>
    obtain ⟨h1, h2⟩ := h
    simp only [Lib.atoi]
    have e1 : (c == 45) = false := beq_eq_false_iff_ne.2 h1
    rw [e1, if_neg (by simp)]
    by_cases h3 : c = 43
    · obtain rfl := h2 h3
      subst h3
      rfl
    · have e2 : (c == 43) = false := beq_eq_false_iff_ne.2 h3
      rw [e2, if_neg (by simp)]

def IsNum (n : Nat) (v : Value) (_ : World) : Prop := v = .int .i64 (n : Int)

theorem decFrom_lt : ∀ (l : List UInt8) (a n : Nat), Lib.decFrom a l = some n → n < (a + 1) * 10 ^ l.length
  | [], a, n, h => by simp [Lib.decFrom] at h; subst h; simp
  | b :: r, a, n, h => by
    rw [Lib.decFrom] at h
    cases hd : Lib.digitVal b with
    | none => rw [hd] at h; cases h
    | some d =>
      rw [hd] at h
      have hd9 : d ≤ 9 := by
        unfold Lib.digitVal at hd
        split at hd
        · simp only [Option.some.injEq] at hd; omega
        · cases hd
      have := decFrom_lt r _ n h
      rw [List.length_cons, Nat.pow_succ]
      have h3 : (a * 10 + d + 1) * 10 ^ r.length ≤ ((a + 1) * 10) * 10 ^ r.length := Nat.mul_le_mul_right _ (by omega)
      have h4 : ((a + 1) * 10) * 10 ^ r.length = (a + 1) * (10 ^ r.length * 10) := by rw [Nat.mul_assoc, Nat.mul_comm 10]
      omega

theorem numT_lt {t : Tok} {n : Nat} (h : numT t = some n) : n < 1000000000 := by
  unfold numT at h
  split at h
  · rename_i hl
    unfold Lib.decNat at h
    split at h
    · cases h
    · have := decFrom_lt t 0 n h
      have h2 : 10 ^ t.length ≤ 10 ^ 9 := Nat.pow_le_pow_right (by decide) hl
      simp at this
      omega
  · cases h

theorem below_bytesW {w w' : World} {e : TypeId} (h : w' = w ∨ ∃ t, w' = Lib.bytesWorld w e t) : Below w.heap.size w w' := by
  rcases h with rfl | ⟨t, rfl⟩
  · exact Below.refl _ _
  · exact bytes_below _ _ _

set_option maxHeartbeats 1000000 in
theorem readNumber_any (t : Tok) (w : World) (ht : Tk t) (hl : t.length ≤ 1024) (hv : Evs w) : Calls Tryz.prog 307 #[.string (mkB t)] w (Ans (numT t) IsNum w) := by
  have hsz : (mkB t).size = t.length := by rw [← bys_len, bys_mkB]
  cases hn : numT t with
  | some n =>
    have hl9 : t.length ≤ 9 := by
      unfold numT at hn
      split at hn
      · assumption
      · cases hn
    have ha : Lib.atoiAll (mkB t).data.toList = .ok (n : Int) := by
      show Lib.atoiAll t = _
      rw [atoi_tok ht hl9]
      unfold numT at hn
      rw [if_pos hl9] at hn
      rw [hn]; rfl
    have AT := hide (fun W => Tryz.strconv_Atoi_ok (mkB t) (by omega) _ ha W)
    have hz : ¬ 9 < ((mkB t).size : Int) := by omega
    clear ha hn ht hv
    generalize mkB t = s at *
    go_enter Tryz.func307, Tryz.ntmps307
    go_wp2_with fail
    refine (AT.out _).mono ?_
    rintro e w1 ⟨rfl, hw⟩
    have HB := hide (below_bytesW hw)
    clear hw
    go_wp2
    go_ret
    exact Ans.ret rfl HB.out rfl
  | none =>
    cases ha : Lib.atoiAll t with
    | ok v =>
      have AT := hide (fun W => Tryz.strconv_Atoi_ok (mkB t) (by omega) v ha W)
      have hl9 : 9 < t.length := by
        rcases Nat.lt_or_ge 9 t.length with q | q
        · exact q
        · rw [atoi_tok ht q] at ha
          unfold numT at hn
          rw [if_pos q] at hn
          rw [hn] at ha
          cases ha
      have hz : 9 < ((mkB t).size : Int) := by omega
      clear ha hn ht hv
      generalize mkB t = s at *
      go_enter Tryz.func307, Tryz.ntmps307
      go_wp2_with fail
      refine (AT.out _).mono ?_
      rintro e w1 ⟨rfl, hw⟩
      have HB := hide (below_bytesW hw)
      clear hw
      go_wp2
      exact ⟨rfl, Ans.panic rfl HB.out⟩
    | «syntax» =>
      obtain ⟨⟨tp, p, h1⟩, _⟩ := hv
      have AT := hide (Tryz.strconv_Atoi_syntax_var (mkB t) (by omega) ha tp p w h1)
      clear ha hn ht h1
      generalize mkB t = s at *
      go_enter Tryz.func307, Tryz.ntmps307
      go_wp2_with fail
      refine AT.out.mono ?_
      rintro e w1 ⟨N, rfl, _, _, hb⟩
      have HB := hide hb
      clear hb AT
      go_wp2
      exact ⟨rfl, Ans.panic rfl HB.out⟩
    | range =>
      obtain ⟨_, tp, p, h1⟩ := hv
      have AT := hide (Tryz.strconv_Atoi_range_var (mkB t) (by omega) ha tp p w h1)
      clear ha hn ht h1
      generalize mkB t = s at *
      go_enter Tryz.func307, Tryz.ntmps307
      go_wp2_with fail
      refine AT.out.mono ?_
      rintro e w1 ⟨N, rfl, _, _, hb⟩
      have HB := hide hb
      clear hb AT
      go_wp2
      exact ⟨rfl, Ans.panic rfl HB.out⟩

theorem readNumber_is (t : Tok) (w : World) {o : Option Nat} (h : numT t = o) (ht : Tk t) (hl : t.length ≤ 1024) (hv : Evs w) : Calls Tryz.prog 307 #[.string (mkB t)] w (Ans o IsNum w) := h ▸ readNumber_any t w ht hl hv

theorem readDivisor_any (t : Tok) (w : World) (ht : Tk t) (hl : t.length ≤ 1024) (hv : Evs w) : Calls Tryz.prog 299 #[.string (mkB t)] w (Ans (match numT t with | some n => if n = 0 then none else some n | none => none) IsNum w) := by
  have RN := hide (readNumber_any t w ht hl hv)
  cases hn : numT t with
  | none =>
    rw [hn] at RN
    clear hn ht hv hl
    generalize mkB t = s at *
    go_enter Tryz.func299, Tryz.ntmps299
    go_wp2_with fail
    refine RN.out.mono ?_
    rintro e w1 ⟨hb, rfl⟩
    have HB := hide hb
    clear hb RN
    go_wp2
    exact ⟨rfl, Ans.panic rfl HB.out⟩
  | some n =>
    rw [hn] at RN
    clear hn ht hv hl
    generalize mkB t = s at *
    by_cases h0 : n = 0
    · subst h0
      go_enter Tryz.func299, Tryz.ntmps299
      go_wp2_with fail
      refine RN.out.mono ?_
      rintro e w1 ⟨hb, v, rfl, rfl⟩
      have HB := hide hb
      clear hb RN
      go_wp2
      exact ⟨rfl, Ans.panic rfl HB.out⟩
    · have h0' : ((n : Int) == 0) = false := beq_eq_false_iff_ne.2 (by omega)
      have H0 := hide h0
      clear h0
      go_enter Tryz.func299, Tryz.ntmps299
      go_wp2_with fail
      refine RN.out.mono ?_
      rintro e w1 ⟨hb, v, rfl, rfl⟩
      have HB := hide hb
      clear hb RN
      go_wp2
      go_ret
      exact Ans.ret (x := n) rfl HB.out rfl

def IsByte (c : UInt8) (v : Value) (_ : World) : Prop := v = .int .u8 (c.toNat : Int)

theorem readOperand_any (t : Tok) (w : World) (hl : t.length ≤ 1024) : Calls Tryz.prog 298 #[.string (mkB t)] w (Ans (operT t) IsByte w) := by
  have hsz : (mkB t).size = t.length := by rw [← bys_len, bys_mkB]
  by_cases h1 : t.length = 1
  · obtain ⟨c, rfl⟩ : ∃ c, t = [c] := List.length_eq_one_iff.1 h1
    have CO := hide (fun W => Tryz.strings_Contains_one ⟨#[110, 105, 118, 119, 102, 116, 99, 101]⟩ c W)
    have hm : decide (0 ≤ Lib.indexByte (⟨#[110, 105, 118, 119, 102, 116, 99, 101]⟩ : ByteArray).data.toList c) = decide (c ∈ opsT) := by
      rw [decide_eq_decide]; exact index_mem _ _
    rw [hm] at CO
    have hg : ∀ h : 0 < (mkB [c]).size, (mkB [c])[0].toNat = c.toNat := fun _ => rfl
    clear hm
    by_cases hc : c ∈ opsT
    · have hd : decide (c ∈ opsT) = true := decide_eq_true hc
      rw [hd] at CO
      have e1 : operT [c] = some c := if_pos hc
      rw [e1]
      clear hd hc e1 h1 hl
      go_enter Tryz.func298, Tryz.ntmps298
      go_wp2_with fail
      refine (CO.out _).mono ?_
      rintro e w1 ⟨rfl, rfl⟩
      go_wp2
      go_ret
      exact Ans.ret rfl (Below.refl _ _) rfl
    · have hd : decide (c ∈ opsT) = false := decide_eq_false hc
      rw [hd] at CO
      have e1 : operT [c] = none := if_neg hc
      rw [e1]
      clear hd hc e1 h1 hl
      go_enter Tryz.func298, Tryz.ntmps298
      go_wp2_with fail
      refine (CO.out _).mono ?_
      rintro e w1 ⟨rfl, rfl⟩
      go_wp2
      exact ⟨rfl, Ans.panic rfl (Below.refl _ _)⟩
  · have e1 : operT t = none := by
      match t, h1 with
      | [], _ => rfl
      | [_], h => exact absurd rfl h
      | _ :: _ :: _, _ => rfl
    rw [e1]
    have hq : (((mkB t).size : Int) != 1) = true := by rw [hsz, bne_iff_ne]; omega
    clear e1 h1 hsz
    generalize mkB t = s at *
    go_enter Tryz.func298, Tryz.ntmps298
    go_wp2
    exact ⟨rfl, Ans.panic rfl (Below.refl _ _)⟩

theorem readCat_0 (w : World) : Calls Tryz.prog 150 #[.string ⟨#[122, 101, 114, 111]⟩] w (Ans (some 0) IsNum w) := by
  go_enter Tryz.func150, Tryz.ntmps150
  go_wp2
  go_ret
  exact Ans.ret rfl (Below.refl _ _) rfl

theorem readCat_1 (w : World) : Calls Tryz.prog 150 #[.string ⟨#[111, 110, 101]⟩] w (Ans (some 1) IsNum w) := by
  go_enter Tryz.func150, Tryz.ntmps150
  go_wp2
  go_ret
  exact Ans.ret rfl (Below.refl _ _) rfl

theorem readCat_2 (w : World) : Calls Tryz.prog 150 #[.string ⟨#[116, 119, 111]⟩] w (Ans (some 2) IsNum w) := by
  go_enter Tryz.func150, Tryz.ntmps150
  go_wp2
  go_ret
  exact Ans.ret rfl (Below.refl _ _) rfl

theorem readCat_3 (w : World) : Calls Tryz.prog 150 #[.string ⟨#[102, 101, 119]⟩] w (Ans (some 3) IsNum w) := by
  go_enter Tryz.func150, Tryz.ntmps150
  go_wp2
  go_ret
  exact Ans.ret rfl (Below.refl _ _) rfl

theorem readCat_4 (w : World) : Calls Tryz.prog 150 #[.string ⟨#[109, 97, 110, 121]⟩] w (Ans (some 4) IsNum w) := by
  go_enter Tryz.func150, Tryz.ntmps150
  go_wp2
  go_ret
  exact Ans.ret rfl (Below.refl _ _) rfl

theorem readCat_5 (w : World) : Calls Tryz.prog 150 #[.string ⟨#[111, 116, 104, 101, 114]⟩] w (Ans (some 5) IsNum w) := by
  go_enter Tryz.func150, Tryz.ntmps150
  go_wp2
  go_ret
  exact Ans.ret rfl (Below.refl _ _) rfl

theorem ne_lit {t l : Tok} (h : t ≠ l) : ((mkB t).toList == l) = false := by
  rw [ByteArray.toList_eq]
  exact beq_eq_false_iff_ne.2 h

theorem readCat_no (t : Tok) (w : World) (h0 : t ≠ [122, 101, 114, 111]) (h1 : t ≠ [111, 110, 101]) (h2 : t ≠ [116, 119, 111]) (h3 : t ≠ [102, 101, 119]) (h4 : t ≠ [109, 97, 110, 121]) (h5 : t ≠ [111, 116, 104, 101, 114]) : Calls Tryz.prog 150 #[.string (mkB t)] w (Ans (none : Option Nat) IsNum w) := by
  have q0 := ne_lit h0
  have q1 := ne_lit h1
  have q2 := ne_lit h2
  have q3 := ne_lit h3
  have q4 := ne_lit h4
  have q5 := ne_lit h5
  clear h0 h1 h2 h3 h4 h5
  generalize mkB t = s at *
  go_enter Tryz.func150, Tryz.ntmps150
  go_wp2
  exact ⟨rfl, Ans.panic rfl (Below.refl _ _)⟩

theorem readCategory_any (t : Tok) (w : World) : Calls Tryz.prog 150 #[.string (mkB t)] w (Ans (catT t) IsNum w) := by
  unfold catT
  by_cases h0 : t = [122, 101, 114, 111]
  · rw [if_pos h0]; subst h0; exact readCat_0 w
  · rw [if_neg h0]
    by_cases h1 : t = [111, 110, 101]
    · rw [if_pos h1]; subst h1; exact readCat_1 w
    · rw [if_neg h1]
      by_cases h2 : t = [116, 119, 111]
      · rw [if_pos h2]; subst h2; exact readCat_2 w
      · rw [if_neg h2]
        by_cases h3 : t = [102, 101, 119]
        · rw [if_pos h3]; subst h3; exact readCat_3 w
        · rw [if_neg h3]
          by_cases h4 : t = [109, 97, 110, 121]
          · rw [if_pos h4]; subst h4; exact readCat_4 w
          · rw [if_neg h4]
            by_cases h5 : t = [111, 116, 104, 101, 114]
            · rw [if_pos h5]; subst h5; exact readCat_5 w
            · rw [if_neg h5]
              exact readCat_no t w h0 h1 h2 h3 h4 h5

end Go.Proofs.YtkbciljfjijclaaGreatDoor

namespace Go.Proofs.YtkbciljfjijclaaGreatDoor
open Go.RowKit

section
variable {w W : World} {T : TypeId} {H : Nat} {a b x1 y1 x2 y2 : Value} {o1 o2 : Option Addr} {r1 r2 : List Nat} {k : IntKind} {l1 h1 l2 h2 : Nat}
end

end Go.Proofs.YtkbciljfjijclaaGreatDoor
