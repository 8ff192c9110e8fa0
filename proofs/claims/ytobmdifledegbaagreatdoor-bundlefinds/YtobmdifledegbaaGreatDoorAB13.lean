/-
  What quipuref12's May and entry answer.
  What quipuref12's table answers: the first error of a table behind others.
  What quipuref12's Pool answers: all texts of a bundle, rising, each once.
  What quipuref12's Check answers.
  What quipuref12's chain answers.
  What quipulaw12's hides answers: a chain's entry of a key.
  What quipuref12's first answers.
  What quipuref12's Find answers.
  What quipuref12's Keys answers.
-/
import Derived.Test.YtobmdifledegbaaGreatDoorAB2
import Derived.Test.YtobmdifledegbaaGreatDoorAB12
import Derived.Test.YtobmdifledegbaaGreatDoorAB3
import Derived.Test.YtobmdifledegbaaGreatDoorAB6
import Derived.Lib.Strings
namespace Go.Proofs.YtobmdifledegbaaGreatDoor
open Go.RowKit

theorem runesI_iff (l : List UInt8) : (0 ≤ runesI l) ↔ (runesL l).isSome = true := by
  unfold runesI
  cases runesL l with
  | none => simp
  | some n => simp

set_option maxRecDepth 100000 in
set_option maxHeartbeats 2000000 in
theorem rMay_yes (s : ByteArray) (w : World) (hs : s.size ≤ 140737488355328) : Calls Tryz.prog 80 #[.string s, .bool true] w fun e w' => e = .returned (.bool (mayText s)) ∧ w = w' := by
  have HV := hide (rRunes_any s w hs)
  by_cases h : s.size ≤ 1024
  · have h' : (s.size : Int) ≤ 1024 := by omega
    have e1 : Hid (mayText s = (runesL (bys s)).isSome) := hide (by unfold mayText; rw [decide_eq_true h]; rfl)
    have hi := runesI_iff (bys s)
    generalize runesI (bys s) = N at *
    generalize (runesL (bys s)).isSome = b at *
    by_cases hn : 0 ≤ N
    · have hb : b = true := hi.1 hn
      subst hb
      clear hi
      go_enter Tryz.func80, Tryz.ntmps80
      go_wp2_with fail
      refine HV.out.mono ?_
      rintro e w1 ⟨rfl, rfl⟩
      clear HV
      go_wp2
      go_ret
      exact ⟨by rw [e1.out]; rfl, rfl⟩
    · have hb : b = false := by cases b with | false => rfl | true => exact absurd (hi.2 rfl) hn
      subst hb
      clear hi
      go_enter Tryz.func80, Tryz.ntmps80
      go_wp2_with fail
      refine HV.out.mono ?_
      rintro e w1 ⟨rfl, rfl⟩
      clear HV
      go_wp2
      go_ret
      exact ⟨by rw [e1.out]; exact congrArg (fun b => Ending.returned (Value.bool b)) (decide_eq_false (by omega)), rfl⟩
  · have h' : ¬ (s.size : Int) ≤ 1024 := by omega
    have e1 : mayText s = false := by unfold mayText; rw [decide_eq_false h]; rfl
    rw [e1]
    clear HV e1
    go_enter Tryz.func80, Tryz.ntmps80
    go_wp2
    go_ret
    exact ⟨rfl, rfl⟩

set_option maxRecDepth 100000 in
set_option maxHeartbeats 2000000 in
theorem rMay_no (s : ByteArray) (w : World) (hs : s.size ≤ 140737488355328) : Calls Tryz.prog 80 #[.string s, .bool false] w fun e w' => e = .returned (.bool (mayName s)) ∧ w = w' := by
  by_cases h0 : s.size = 0
  · obtain rfl := mk_empty h0
    have e1 : mayName ⟨#[]⟩ = false := rfl
    rw [e1]
    clear e1 h0 hs
    go_enter Tryz.func80, Tryz.ntmps80
    go_wp2
    go_ret
    exact ⟨rfl, rfl⟩
  have e0 : mayName s = mayText s := by unfold mayName; rw [decide_eq_true h0]; rfl
  rw [e0]
  have h2 := tl_ne h0
  have h3 := tl_ie h0
  have h4 := tl_nb h0
  have HV := hide (rRunes_any s w hs)
  by_cases h : s.size ≤ 1024
  · have h' : (s.size : Int) ≤ 1024 := by omega
    have e1 : Hid (mayText s = (runesL (bys s)).isSome) := hide (by unfold mayText; rw [decide_eq_true h]; rfl)
    have hi := runesI_iff (bys s)
    generalize runesI (bys s) = N at *
    generalize (runesL (bys s)).isSome = b at *
    by_cases hn : 0 ≤ N
    · have hb : b = true := hi.1 hn
      subst hb
      clear hi e0 h0 h
      go_enter Tryz.func80, Tryz.ntmps80
      go_wp2_with fail
      refine HV.out.mono ?_
      rintro e w1 ⟨rfl, rfl⟩
      clear HV
      go_wp2
      go_ret
      exact ⟨by rw [e1.out]; rfl, rfl⟩
    · have hb : b = false := by cases b with | false => rfl | true => exact absurd (hi.2 rfl) hn
      subst hb
      clear hi e0 h0 h
      go_enter Tryz.func80, Tryz.ntmps80
      go_wp2_with fail
      refine HV.out.mono ?_
      rintro e w1 ⟨rfl, rfl⟩
      clear HV
      go_wp2
      go_ret
      exact ⟨by rw [e1.out]; exact congrArg (fun b => Ending.returned (Value.bool b)) (decide_eq_false (by omega)), rfl⟩
  · have h' : ¬ (s.size : Int) ≤ 1024 := by omega
    have e1 : mayText s = false := by unfold mayText; rw [decide_eq_false h]; rfl
    rw [e1]
    clear HV e1 e0 h0 h
    go_enter Tryz.func80, Tryz.ntmps80
    go_wp2
    go_ret
    exact ⟨rfl, rfl⟩

set_option maxRecDepth 100000 in
set_option maxHeartbeats 4000000 in
theorem rentry_any (e : Ent) (w : World) (hs : e.text.size ≤ 140737488355328) : Calls Tryz.prog 81 #[entV e] w fun x w' => x = .returned (.bool (mayVal e)) ∧ Below w.heap.size w w' := by
  obtain ⟨k, d, t, n⟩ := e
  have HB0 : Hid (Below w.heap.size w (w.alloc (.cells #[.string k, .int .i64 d, .string t, .int .i64 n] 39))) := (Below.refl _ _).alloc (Nat.le_refl _) _
  have BR0 := hide (Blk.newAt w w.heap.size rfl #[.string k, .int .i64 d, .string t, .int .i64 n] 39)
  obtain ⟨W, hW⟩ : ∃ W, W = w.alloc (.cells #[.string k, .int .i64 d, .string t, .int .i64 n] 39) := ⟨_, rfl⟩
  rw [← hW] at HB0 BR0
  have HW := hide hW.symm
  clear hW
  have c1 := BR0.out.cell 1
  have c2 := BR0.out.cell 2
  have c3 := BR0.out.cell 3
  have hs' : t.size ≤ 140737488355328 := hs
  unfold entV
  by_cases h0 : d = 0
  · subst h0
    have e1 : Hid (mayVal ⟨k, 0, t, n⟩ = (mayText t && decide (n = 0))) := hide rfl
    have HV := hide (rMay_yes t W hs')
    generalize mayText t = b at *
    clear hs hs'
    by_cases hn : n = 0
    · subst hn
      go_enter Tryz.func81, Tryz.ntmps81
      go_wp2_with (simp only [HW.out])
      refine HV.out.mono ?_
      rintro e w1 ⟨rfl, rfl⟩
      clear HV
      go_wp2
      go_ret
      exact ⟨by rw [e1.out]; cases b <;> rfl, HB0.out⟩
    · have hn' : (n == 0) = false := beq_eq_false_iff_ne.2 hn
      have e2 : Hid (mayVal ⟨k, 0, t, n⟩ = false) := hide (by rw [e1.out, decide_eq_false hn, Bool.and_false])
      clear e1 HV hn
      go_enter Tryz.func81, Tryz.ntmps81
      go_wp2_with (simp only [HW.out])
      go_ret
      exact ⟨by rw [e2.out]; rfl, HB0.out⟩
  by_cases h1 : d = 1
  · subst h1
    by_cases ht : t.size = 0
    · obtain rfl := mk_empty ht
      have e1 : Hid (mayVal ⟨k, 1, ⟨#[]⟩, n⟩ = decide (0 ≤ n ∧ n ≤ 4294967295)) := hide (by
        unfold mayVal; rw [if_neg (show ¬ (1 : Int) = 0 by decide), if_pos rfl]; exact decide_eq_decide.2 ⟨fun h => h.2, fun h => ⟨rfl, h⟩⟩)
      clear hs hs' ht h0
      go_enter Tryz.func81, Tryz.ntmps81
      go_wp2_with (simp only [HW.out])
      all_goals go_ret
      all_goals refine ⟨?_, HB0.out⟩
      all_goals rw [e1.out]
      all_goals (refine congrArg (fun b => Ending.returned (Value.bool b)) ?_)
      all_goals (first | exact decide_eq_decide.2 (by omega) | (rw [eq_comm]; exact decide_eq_false (by omega)))
    · have e1 : Hid (mayVal ⟨k, 1, t, n⟩ = false) := hide (by
        unfold mayVal; rw [if_neg (show ¬ (1 : Int) = 0 by decide), if_pos rfl]; exact decide_eq_false (fun h => ht h.1))
      have h2 := tl_ne ht
      have h4 := tl_nb ht
      clear hs hs' ht h0
      go_enter Tryz.func81, Tryz.ntmps81
      go_wp2_with (simp only [HW.out])
      go_ret
      exact ⟨by rw [e1.out]; rfl, HB0.out⟩
  by_cases h2 : d = 2
  · subst h2
    have e1 : Hid (mayVal ⟨k, 2, t, n⟩ = (mayName t && decide (n = 0))) := hide rfl
    have HV := hide (rMay_no t W hs')
    generalize mayName t = b at *
    clear hs hs' h0 h1
    by_cases hn : n = 0
    · subst hn
      go_enter Tryz.func81, Tryz.ntmps81
      go_wp2_with (simp only [HW.out])
      refine HV.out.mono ?_
      rintro e w1 ⟨rfl, rfl⟩
      clear HV
      go_wp2
      go_ret
      exact ⟨by rw [e1.out]; cases b <;> rfl, HB0.out⟩
    · have hn' : (n == 0) = false := beq_eq_false_iff_ne.2 hn
      have e2 : Hid (mayVal ⟨k, 2, t, n⟩ = false) := hide (by rw [e1.out, decide_eq_false hn, Bool.and_false])
      clear e1 HV hn
      go_enter Tryz.func81, Tryz.ntmps81
      go_wp2_with (simp only [HW.out])
      go_ret
      exact ⟨by rw [e2.out]; rfl, HB0.out⟩
  have e1 : Hid (mayVal ⟨k, d, t, n⟩ = false) := hide (by unfold mayVal; rw [if_neg h0, if_neg h1, if_neg h2])
  have g0 : (d == 0) = false := beq_eq_false_iff_ne.2 h0
  have g1 : (d == 1) = false := beq_eq_false_iff_ne.2 h1
  have g2 : (d == 2) = false := beq_eq_false_iff_ne.2 h2
  clear hs hs' h0 h1 h2
  go_enter Tryz.func81, Tryz.ntmps81
  go_wp2_with (simp only [HW.out])
  go_ret
  exact ⟨by rw [e1.out]; rfl, HB0.out⟩

end Go.Proofs.YtobmdifledegbaaGreatDoor

namespace Go.Proofs.YtobmdifledegbaaGreatDoor
open Go.RowKit

theorem leT_nil {s : ByteArray} (h : mayName s = true) : leT s ⟨#[]⟩ = false := by
  have hs : s.size ≠ 0 := by
    intro e
    unfold mayName at h
    rw [decide_eq_false (by simpa using e)] at h
    cases h
  rw [leT_iff]
  refine decide_eq_false ?_
  have h1 : (bys s).length ≠ 0 := by rw [bys_len]; exact hs
  intro h2
  cases hb : bys s with
  | nil => rw [hb] at h1; exact h1 rfl
  | cons a l =>
    rw [hb] at h2
    exact List.not_lt.2 h2 (List.nil_lt_cons a l)

def lastE (es : List Ent) (j : Nat) : ByteArray := match j with | 0 => ⟨#[]⟩ | i + 1 => (entN es i).key

set_option maxRecDepth 100000 in
set_option maxHeartbeats 4000000 in
theorem rtable_any {w : World} {v : Value} {ts : List Tab} (k : Nat) (h : TSl w v ts) (hk : k < ts.length) (hl : ts.length ≤ 16) (hz : SzT ts) (he : (tabN ts k).ents.length ≤ 1024) : Calls Tryz.prog 58 #[v, .int .i64 (k : Int)] w fun e w' => e = .returned (.int .i64 (tabE ts k : Int)) ∧ Below w.heap.size w w' := by
  obtain ⟨ao, cap, rfl, hcap, h3⟩ := h
  rcases h3 with rfl | ⟨b, o, rfl, hb, h3⟩
  · simp at hk
  obtain ⟨c0, c1, v2, c2, hes⟩ := h3 k hk
  obtain ⟨zn, _, zE⟩ := hz k
  obtain ⟨WA, hWA⟩ : ∃ WA, WA = w.alloc (.cells #[.string (tabN ts k).name, .int .i64 (tabN ts k).parent, v2] 37) := ⟨_, rfl⟩
  have BA : Hid (Below w.heap.size w WA) := hide (by rw [hWA]; exact (Below.refl _ _).alloc (Nat.le_refl _) _)
  have Q : Hid (Blk WA w.heap.size #[.string (tabN ts k).name, .int .i64 (tabN ts k).parent, v2] 37) := hide (by rw [hWA]; exact Blk.newAt w w.heap.size rfl _ _)
  have HN := hide (rMay_no (tabN ts k).name WA (by omega))
  have NMS : Hid (∀ X, Below w.heap.size w X → ∀ j, j < ts.length → X.cell? ⟨b, o + j * 3, none⟩ = some (.string (tabN ts j).name)) := hide (fun X hX j hj => ((h3 j hj).below hb hX).1)
  have HES := hide (hes.below BA.out)
  have KP : Hid (∀ X, Below WA.heap.size WA X → Blk X w.heap.size #[.string (tabN ts k).name, .int .i64 (tabN ts k).parent, v2] 37) := hide (fun X hX => Q.out.below hX Q.out.lt)
  have RE : Hid (tabE ts k = if mayName (tabN ts k).name = false then 120 else if placeT (ts.take k) (tabN ts k).name ≠ -1 ∨ (tabN ts k).parent < -1 ∨ (k : Int) ≤ (tabN ts k).parent then 122 else entsE ⟨#[]⟩ (tabN ts k).ents) := hide rfl
  obtain ⟨R, hR⟩ : ∃ R, R = tabE ts k := ⟨_, rfl⟩
  rw [← hR] at RE ⊢
  obtain ⟨es, hes'⟩ : ∃ es, es = (tabN ts k).ents := ⟨_, rfl⟩
  rw [← hes'] at RE HES zE he hes
  obtain ⟨aE, capE, rfl, hce, hEat⟩ := hes
  have HEA := hide (hEat.below BA.out)
  clear HES hEat
  have PLD : Hid (∀ j, j < k → placeF (tabN ts k).name j ((ts.take k).drop j) = if (tabN ts j).name = (tabN ts k).name then (j : Int) else placeF (tabN ts k).name (j + 1) ((ts.take k).drop (j + 1))) := hide (fun j hj => by
    have := placeF_drop (ts.take k) (tabN ts k).name j (by rw [List.length_take]; omega)
    rw [tabN_take ts hj] at this
    exact this)
  have PL0 : Hid (placeT (ts.take k) (tabN ts k).name = placeF (tabN ts k).name 0 ((ts.take k).drop 0)) := hide rfl
  have PLE : Hid (placeF (tabN ts k).name k ((ts.take k).drop k) = -1) := hide (by rw [List.drop_eq_nil_of_le (by rw [List.length_take]; omega)]; rfl)
  obtain ⟨P, hP⟩ : ∃ P, P = placeT (ts.take k) (tabN ts k).name := ⟨_, rfl⟩
  rw [← hP] at RE PL0
  generalize (tabN ts k).name = N at *
  generalize (tabN ts k).parent = D at *
  obtain ⟨L, hL⟩ : ∃ L, L = ts.length := ⟨_, rfl⟩
  rw [← hL] at hk hcap hl NMS ⊢
  obtain ⟨M, hM⟩ : ∃ M, M = es.length := ⟨_, rfl⟩
  rw [← hM] at he hce Q KP hWA c2
  have HM := hide hM
  have hk' : (k : Int) < (L : Int) := by omega
  have q0 := Q.out.cell 0
  have HWA := hide hWA.symm
  have HZ := hide zE
  clear hR h3 hWA hz zn zE hP hL hM hes'
  cases hm : mayName N with
  | false =>
    have EE : Hid (R = 120) := hide (by rw [RE.out, if_pos hm])
    rw [hm] at HN
    clear RE hm PLD PL0 PLE
    go_enter Tryz.func58, Tryz.ntmps58
    go_wp2_with (simp only [HWA.out])
    refine HN.out.mono ?_
    rintro e w1 ⟨rfl, rfl⟩
    clear HN
    go_wp2
    go_ret
    exact ⟨by rw [EE.out]; rfl, BA.out⟩
  | true =>
    rw [if_neg (by rw [hm]; decide)] at RE
    rw [hm] at HN
    clear hm
    go_enter Tryz.func58, Tryz.ntmps58
    go_wp2_with (simp only [HWA.out])
    refine HN.out.mono ?_
    rintro e w1 ⟨rfl, rfl⟩
    clear HN
    go_wp2
    go_loopw [6] (fun p wr => ∃ j : Nat, j ≤ k ∧ p = .int .i64 (j : Int) ∧ Hid (P = placeF N j ((ts.take k).drop j)) ∧ Hid (Below WA.heap.size WA wr)) (fun p _ => k - (intOf p).toNat)
    case atStart => exact ⟨0, Nat.zero_le _, rfl, PL0, hide (Below.refl _ _)⟩
    case round =>
      obtain ⟨j, hj, rfl, HF, HW⟩ := hrel
      clear q0 PL0
      have q0 := (KP.out wr HW.out).cell 0
      by_cases hlt : j < k
      · have hlt' : (j : Int) < (k : Int) := by omega
        have hjL : (j : Int) < (L : Int) := by omega
        have n0 := NMS.out wr (BA.out.trans (HW.out.mono BA.out.size)) j (by omega)
        have F1 := hide (PLD.out j hlt)
        obtain ⟨nj, hnj⟩ : ∃ nj, nj = (tabN ts j).name := ⟨_, rfl⟩
        rw [← hnj] at n0 F1
        clear hnj
        by_cases hn : nj = N
        · have EE : Hid (R = 122) := hide (by
            rw [RE.out, if_pos]
            left
            rw [HF.out, F1.out, if_pos hn]
            omega)
          have hn' : (nj.toList == N.toList) = true := by rw [eqT, decide_eq_true hn]
          clear RE F1 HF hn PLD PLE
          go_wp2_with fail
          go_region
          go_wp2
          go_ret
          exact ⟨by rw [EE.out]; rfl, (BA.out.trans (HW.out.mono BA.out.size)).drew⟩
        · have EN : Hid (P = placeF N (j + 1) ((ts.take k).drop (j + 1))) := hide (by rw [HF.out, F1.out, if_neg hn])
          have hn' : (nj.toList == N.toList) = false := by rw [eqT, decide_eq_false hn]
          clear F1 HF hn
          go_wp2_with fail
          go_region
          go_wp2
          exact ⟨⟨j + 1, by omega, by go_num, EN, hide HW.out.drew⟩, by simp [intOf]; omega⟩
      · obtain rfl : j = k := by omega
        have hlt' : ¬ (j : Int) < (j : Int) := by omega
        have P1 : P = -1 := by rw [HF.out, PLE.out]
        subst P1
        have q1 := (KP.out wr HW.out).cell 1
        have q2 := (KP.out wr HW.out).cell 2
        have BW := hide (BA.out.trans (HW.out.mono BA.out.size))
        clear HF PLD PLE hlt
        by_cases hD : D < -1
        · have EE : Hid (R = 122) := hide (by rw [RE.out, if_pos (.inr (.inl hD))])
          clear RE
          go_wp2
          go_ret
          exact ⟨by rw [EE.out]; rfl, BW.out⟩
        by_cases hD2 : (j : Int) ≤ D
        · have EE : Hid (R = 122) := hide (by rw [RE.out, if_pos (.inr (.inr hD2))])
          clear RE
          go_wp2
          go_ret
          exact ⟨by rw [EE.out]; rfl, BW.out⟩
        have RE2 : Hid (R = entsE ⟨#[]⟩ es) := hide (by
          rw [RE.out, if_neg]
          rintro (q | q | q)
          · exact q rfl
          · exact hD q
          · exact hD2 q)
        clear RE q1 q2 q0
        have q1 := (KP.out wr HW.out).cell 1
        go_wp2
        go_loopw [7] (fun p wr => ∃ i : Nat, i ≤ M ∧ p = .int .i64 (i : Int) ∧ Hid (R = entsE (lastE es i) (es.drop i)) ∧ Hid (Below WA.heap.size WA wr)) (fun p _ => M - (intOf p).toNat)
        case atStart => exact ⟨0, Nat.zero_le _, rfl, hide (by rw [RE2.out]; rfl), HW⟩
        case round =>
          obtain ⟨i, hi, rfl, HG, HX⟩ := hrel
          clear q1
          have q2 := (KP.out wr HX.out).cell 2
          by_cases hil : i < M
          · have hil' : (i : Int) < (M : Int) := by omega
            have hit : i < es.length := by rw [← HM.out]; exact hil
            obtain ⟨b2, o2, rfl, HCL⟩ : ∃ b2 o2, aE = some ⟨b2, o2, none⟩ ∧ Hid (∀ X, Below WA.heap.size WA X → ∀ j, j < es.length → X.cell? ⟨b2, o2 + j * 4, none⟩ = some (.string (entN es j).key) ∧ X.cell? ⟨b2, o2 + j * 4 + 1, none⟩ = some (.int .i64 (entN es j).kind) ∧ X.cell? ⟨b2, o2 + j * 4 + 2, none⟩ = some (.string (entN es j).text) ∧ X.cell? ⟨b2, o2 + j * 4 + 3, none⟩ = some (.int .i64 (entN es j).num)) := by
              rcases HEA.out with q | ⟨b2, o2, rfl, q, hcl⟩
              · rw [q] at hit; simp at hit
              · exact ⟨b2, o2, rfl, hide (fun X hX j hj => by
                  obtain ⟨z0, z1, z2, z3⟩ := hcl j hj
                  exact ⟨(hX.cell q).trans z0, (hX.cell q).trans z1, (hX.cell q).trans z2, (hX.cell q).trans z3⟩)⟩
            obtain ⟨x0, x1, x2, x3⟩ := HCL.out wr HX.out i hit
            have E1 := hide (entsE_drop es (lastE es i) i hit)
            rw [← HG.out] at E1
            have hzi := HZ.out i
            have LST : Hid (lastE es (i + 1) = (entN es i).key) := hide rfl
            obtain ⟨e, he0⟩ : ∃ e, e = entN es i := ⟨_, rfl⟩
            rw [← he0] at x0 x1 x2 x3 E1 hzi LST
            clear he0
            obtain ⟨ek, en, et, em⟩ := e
            simp only [] at x0 x1 x2 x3 LST hzi
            obtain ⟨WB, hWB⟩ : ∃ WB, WB = wr.alloc (.cells #[.string ek, .int .i64 en, .string et, .int .i64 em] 39) := ⟨_, rfl⟩
            have BB : Hid (Below wr.heap.size wr WB) := hide (by rw [hWB]; exact (Below.refl _ _).alloc (Nat.le_refl _) _)
            have Q3 : Hid (Blk WB wr.heap.size #[.string ek, .int .i64 en, .string et, .int .i64 em] 39) := hide (by rw [hWB]; exact Blk.newAt wr wr.heap.size rfl _ _)
            have W0 : Hid (Below WA.heap.size WA WB) := hide (HX.out.trans (BB.out.mono HX.out.size))
            have HWB := hide hWB.symm
            have HMN := hide (rMay_no ek WB (by omega))
            have HV0 : Hid (∀ X, Below WB.heap.size WB X → Calls Tryz.prog 81 #[.agg #[.string ek, .int .i64 en, .string et, .int .i64 em]] X fun x w' => x = .returned (.bool (mayVal ⟨ek, en, et, em⟩)) ∧ Below X.heap.size X w') := hide (fun X _ => rentry_any ⟨ek, en, et, em⟩ X (by show et.size ≤ _; omega))
            have d0 := Q3.out.cell 0
            have d2 := (KP.out WB W0.out).cell 2
            clear hWB HG hzi
            cases hm : mayName ek with
            | false =>
              have EE : Hid (R = 120) := hide (by rw [E1.out, if_pos hm])
              rw [hm] at HMN
              clear E1 hm HV0
              go_wp2_with (simp only [HWB.out])
              refine HMN.out.mono ?_
              rintro z w1 ⟨rfl, rfl⟩
              clear HMN
              go_wp2
              go_ret
              exact ⟨by rw [EE.out]; rfl, BA.out.trans (W0.out.mono BA.out.size)⟩
            | true =>
              rw [if_neg (by rw [hm]; decide)] at E1
              rw [hm] at HMN
              cases i with
              | zero =>
                rw [if_neg (by rw [show lastE es 0 = ⟨#[]⟩ from rfl, leT_nil hm]; decide)] at E1
                clear hm
                rw [Nat.zero_mul, Nat.add_zero] at x0 x1 x2 x3
                rw [show ((0 : Nat) : Int) = 0 from rfl] at hil'
                go_wp2_with (simp only [HWB.out])
                refine HMN.out.mono ?_
                rintro z w1 ⟨rfl, rfl⟩
                clear HMN
                go_wp2_with fail
                go_region
                have p0 := Q3.out.cell 0
                have p1 := Q3.out.cell 1
                have p2 := Q3.out.cell 2
                have p3 := Q3.out.cell 3
                cases hv : mayVal ⟨ek, en, et, em⟩ with
                | false =>
                  have EE : Hid (R = 120) := hide (by rw [E1.out, if_pos hv])
                  rw [hv] at HV0
                  have HV1 := hide (HV0.out _ (Below.refl _ _).drew)
                  clear E1 hv HV0
                  go_wp2_with fail
                  refine HV1.out.mono ?_
                  rintro z w2 ⟨rfl, hb2⟩
                  have HB2 := hide (BA.out.trans ((W0.out.drew.trans (hb2.mono W0.out.size)).mono BA.out.size))
                  clear hb2 HV1
                  go_wp2
                  go_ret
                  exact ⟨by rw [EE.out]; rfl, HB2.out⟩
                | true =>
                  rw [if_neg (by rw [hv]; decide)] at E1
                  rw [hv] at HV0
                  have HV1 := hide (HV0.out _ (Below.refl _ _).drew)
                  clear hv HV0
                  go_wp2_with fail
                  refine HV1.out.mono ?_
                  rintro z w2 ⟨rfl, hb2⟩
                  have HB2 := hide (W0.out.drew.trans (hb2.mono W0.out.size))
                  clear hb2 HV1
                  go_wp2
                  exact ⟨⟨0 + 1, by omega, by go_num, hide (by rw [LST.out]; exact E1.out), HB2⟩, by simp [intOf]; omega⟩
              | succ i' =>
                clear hm
                obtain ⟨y0, _, _, _⟩ := HCL.out WB W0.out i' (by omega)
                have LS2 : Hid (lastE es (i' + 1) = (entN es i').key) := hide rfl
                obtain ⟨lk, hlk⟩ : ∃ lk, lk = (entN es i').key := ⟨_, rfl⟩
                rw [← hlk] at y0 LS2
                clear hlk
                rw [LS2.out] at E1
                cases hle : leT ek lk with
                | true =>
                  have EE : Hid (R = 122) := hide (by rw [E1.out, if_pos hle])
                  have hle' : (Op.bytesLess ek.toList lk.toList || ek.toList == lk.toList) = true := hle
                  clear E1 hle HV0
                  go_wp2_with (simp only [HWB.out])
                  refine HMN.out.mono ?_
                  rintro z w1 ⟨rfl, rfl⟩
                  clear HMN
                  go_wp2_with fail
                  go_region
                  go_wp2
                  go_ret
                  exact ⟨by rw [EE.out]; rfl, BA.out.trans (W0.out.drew.mono BA.out.size)⟩
                | false =>
                  rw [if_neg (by rw [hle]; decide)] at E1
                  have hle' : (Op.bytesLess ek.toList lk.toList || ek.toList == lk.toList) = false := hle
                  clear hle
                  go_wp2_with (simp only [HWB.out])
                  refine HMN.out.mono ?_
                  rintro z w1 ⟨rfl, rfl⟩
                  clear HMN
                  go_wp2_with fail
                  go_region
                  have p0 := Q3.out.cell 0
                  have p1 := Q3.out.cell 1
                  have p2 := Q3.out.cell 2
                  have p3 := Q3.out.cell 3
                  cases hv : mayVal ⟨ek, en, et, em⟩ with
                  | false =>
                    have EE : Hid (R = 120) := hide (by rw [E1.out, if_pos hv])
                    rw [hv] at HV0
                    have HV1 := hide (HV0.out _ (Below.refl _ _).drew)
                    clear E1 hv HV0
                    go_wp2_with fail
                    refine HV1.out.mono ?_
                    rintro z w2 ⟨rfl, hb2⟩
                    have HB2 := hide (BA.out.trans ((W0.out.drew.trans (hb2.mono W0.out.size)).mono BA.out.size))
                    clear hb2 HV1
                    go_wp2
                    go_ret
                    exact ⟨by rw [EE.out]; rfl, HB2.out⟩
                  | true =>
                    rw [if_neg (by rw [hv]; decide)] at E1
                    rw [hv] at HV0
                    have HV1 := hide (HV0.out _ (Below.refl _ _).drew)
                    clear hv HV0
                    go_wp2_with fail
                    refine HV1.out.mono ?_
                    rintro z w2 ⟨rfl, hb2⟩
                    have HB2 := hide (W0.out.drew.trans (hb2.mono W0.out.size))
                    clear hb2 HV1
                    go_wp2
                    exact ⟨⟨(i' + 1) + 1, by omega, by go_num, hide (by rw [LST.out]; exact E1.out), HB2⟩, by simp [intOf]; omega⟩
          · obtain rfl : i = M := by omega
            have hil' : ¬ (i : Int) < (i : Int) := by omega
            have EE : Hid (R = 0) := hide (by rw [HG.out, List.drop_eq_nil_of_le (by rw [← HM.out]; exact Nat.le_refl _)]; rfl)
            clear HG hil
            go_wp2
            go_ret
            exact ⟨by rw [EE.out]; rfl, BA.out.trans (HX.out.mono BA.out.size)⟩

end Go.Proofs.YtobmdifledegbaaGreatDoor

namespace Go.Proofs.YtobmdifledegbaaGreatDoor
open Go.RowKit

def PM (qs : List (List UInt8)) (l : List ByteArray) : Prop := ∀ x, x ∈ qs ↔ ∃ t ∈ l, bys t = x
theorem PM.add {qs qs' : List (List UInt8)} {l : List ByteArray} {s : ByteArray} (h : PM qs l) (h' : ∀ x, x ∈ qs' ↔ x ∈ qs ∨ x = bys s) : PM qs' (l ++ [s]) := by
  intro x
  rw [h' x, h x]
  constructor
  · rintro (⟨t, ht, e⟩ | e)
    · exact ⟨t, List.mem_append_left _ ht, e⟩
    · exact ⟨s, by simp, e.symm⟩
  · rintro ⟨t, ht, e⟩
    rcases List.mem_append.1 ht with q | q
    · exact .inl ⟨t, q, e⟩
    · simp at q; subst q; exact .inr e.symm
theorem PM.pool {qs : List (List UInt8)} {l : List ByteArray} (h : PM qs l) (hr : Rise qs) : qs = poolL l :=
  rise_eq hr (pool_rise l) (fun x => by rw [h x, pool_mem])

theorem pl_next (ts : List Tab) (k : Nat) (hk : k < ts.length) : textsL (ts.take (k + 1)) = textsL (ts.take k) ++ ([(tabN ts k).name] ++ (tabN ts k).ents.flatMap entL) := by
  unfold textsL
  rw [List.take_add_one, tabN_some hk, List.flatMap_append]
  simp [tabL]
theorem pl_ent (es : List Ent) (j : Nat) (hj : j < es.length) : (es.take (j + 1)).flatMap entL = (es.take j).flatMap entL ++ entL (entN es j) := by
  rw [List.take_add_one, entN_some hj, List.flatMap_append]
  simp

theorem blk_apart {w : World} {H B sz n : Nat} {cs : Array Value} {T e : TypeId} {v : Value} {xs : List Value} (q : Blk w H cs T) (h : w.ownsRow B e sz v n xs) (he : T ≠ e) : some H ≠ v.ownBlock := by
  rcases h.2 with ⟨rfl, _⟩ | ⟨g, cap, cur, rfl, _, hh, _⟩
  · simp [Value.ownBlock]
  · intro e'
    simp only [Value.ownBlock, Option.some.injEq] at e'
    subst e'
    unfold Blk at q
    rw [hh] at q
    simp at q
    exact he q.2.symm

theorem RowS.belowB {w w' : World} {B : Nat} {v : Value} {ps : List (List UInt8)} (h : RowS w B v ps) (hb : Below w.heap.size w w') : RowS w' B v ps := own_belowB h hb

theorem WithA.below {B : Nat} {ps : List (List UInt8)} {v : Value} {w w0 w' : World} (hg : w.grownBy w' v.ownBlock) (h : RowS w B v ps) (hb : Below B w0 w) (hB : B ≤ w.heap.size) : Below B w0 w' :=
  hb.grown hg hB (fun j hj => (World.ownsRow.lt h j hj).1)

set_option maxRecDepth 100000 in
set_option maxHeartbeats 4000000 in
theorem pool_any {w : World} {v : Value} {ts : List Tab} (h : TSl w v ts) (hl : ts.length ≤ 16) (he : ∀ k, (tabN ts k).ents.length ≤ 1024) :
    Calls Tryz.prog 31 #[.agg #[v]] w fun e w' => ∃ u, e = .returned u ∧ RowS w' w.heap.size u (poolL (textsL ts)) ∧ u ≠ .slice none 0 0 ∧ Below w.heap.size w w' := by
  obtain ⟨ao, cap, rfl, hcap, hat⟩ := h
  obtain ⟨L, hL⟩ : ∃ L, L = ts.length := ⟨_, rfl⟩
  have HL := hide hL
  have HAT := hide hat
  have HE := hide he
  rw [← hL] at hl hcap ⊢
  clear hL hat he
  obtain ⟨WA, hWA⟩ : ∃ WA, WA = w.alloc (.cells #[.slice ao L cap] 24) := ⟨_, rfl⟩
  have BA : Hid (Below w.heap.size w WA) := hide (by rw [hWA]; exact (Below.refl _ _).alloc (Nat.le_refl _) _)
  have Q1 : Hid (Blk WA w.heap.size #[.slice ao L cap] 24) := hide (by rw [hWA]; exact Blk.newAt _ _ rfl _ _)
  have KP : Hid (∀ X, Below WA.heap.size WA X → Blk X w.heap.size #[.slice ao L cap] 24) := hide (fun X hX => Q1.out.below hX Q1.out.lt)
  have HWA := hide hWA.symm
  have q0 := Q1.out.cell 0
  obtain ⟨B, hB⟩ : ∃ B, B = WA.heap.size := ⟨_, rfl⟩
  have HB := hide hB
  have HBw : Hid (w.heap.size ≤ B) := hide (by rw [hB]; exact BA.out.size)
  clear hWA hB
  go_enter Tryz.func31, Tryz.ntmps31
  go_wp2_with (simp only [HWA.out])
  go_loopw [3, 4] (fun u y wr => ∃ (k : Nat) (qs : List (List UInt8)), y = .int .i64 (k : Int) ∧ k ≤ L ∧ Hid (RowS wr B u qs) ∧ Hid (u ≠ .slice none 0 0) ∧ Hid (Rise qs ∧ PM qs (textsL (ts.take k))) ∧ Hid (qs.length ≤ k * 3000) ∧ Hid (Below WA.heap.size WA wr)) (fun _ y _ => L - (intOf y).toNat)
  case atStart =>
    refine ⟨0, [], rfl, Nat.zero_le _, hide ?_, hide (fun e => by cases e), hide ⟨List.Pairwise.nil, fun x => by simp [textsL]⟩, hide (Nat.zero_le _), hide ((Below.refl _ _).alloc (Nat.le_refl _) _)⟩
    exact World.ownsRow_lit WA #[] 0 (by rw [HB.out]; exact Nat.le_refl _) (by unfold maxLen; omega) rfl
  case round =>
    obtain ⟨k, qs, rfl, hk, HR, HN, HM, HC, HW⟩ := hrel
    clear q0
    have q0 := (KP.out wr HW.out).cell 0
    by_cases hkl : k < L
    · have hkl' : (k : Int) < (L : Int) := by omega
      have hkt : k < ts.length := by rw [← HL.out]; exact hkl
      have hek := HE.out k
      have TX := hide (pl_next ts k hkt)
      obtain ⟨b, o, rfl, HBB, HCL⟩ : ∃ b o, ao = some ⟨b, o, none⟩ ∧ Hid (b < w.heap.size) ∧ Hid (∀ i, i < ts.length → TabAt w b o i (tabN ts i)) := by
        rcases HAT.out with q | ⟨b, o, rfl, q, hcl⟩
        · rw [q] at hkt; simp at hkt
        · exact ⟨b, o, rfl, hide q, hide hcl⟩
      obtain ⟨d0, d1, ve, d2, hes⟩ := HCL.out k hkt
      obtain ⟨g, hg⟩ : ∃ g, g = tabN ts k := ⟨_, rfl⟩
      rw [← hg] at d0 d1 hes TX hek
      clear hg
      obtain ⟨nm, pr, es⟩ := g
      simp only [] at d0 d1 d2 hes hek
      obtain ⟨ae, ce, rfl, hce, hea⟩ := hes
      obtain ⟨M, hM⟩ : ∃ M, M = es.length := ⟨_, rfl⟩
      rw [← hM] at d2 hce hek
      have HM0 := hide hM
      have HEA := hide hea
      have CX : Hid (∀ X, Below WA.heap.size WA X → X.cell? ⟨b, o + k * 3, none⟩ = some (.string nm) ∧ X.cell? ⟨b, o + k * 3 + 2, none⟩ = some (.slice ae M ce)) := hide (fun X hX => ⟨((BA.out.trans (hX.mono BA.out.size)).cell HBB.out).trans d0, ((BA.out.trans (hX.mono BA.out.size)).cell HBB.out).trans d2⟩)
      have c0 := (CX.out wr HW.out).1
      have hB0 : Hid (B ≤ wr.heap.size) := hide (by rw [HB.out]; exact HW.out.size)
      have W0 := hide (with_any nm HR.out HN.out HM.out.1 (by have := HC.out; omega) hB0.out)
      clear d0 d1 d2 hM hea hkt HCL
      go_wp2_with fail
      refine W0.out.mono ?_
      rintro x w1 ⟨u1, qs1, rfl, hr1, hrise1, hmem1, hlen1, hnn1, hg1⟩
      have HW1 : Hid (Below WA.heap.size WA w1) := hide (by
        have := WithA.below hg1 HR.out (show Below B WA wr by rw [HB.out]; exact HW.out) hB0.out
        rw [HB.out] at this
        exact this)
      have M1 := hide (HM.out.2.add hmem1)
      have L1 : Hid (qs1.length ≤ k * 3000 + 1) := hide (by have := HC.out; omega)
      have R1 := hide hr1
      have N1 := hide hnn1
      have RI1 := hide hrise1
      clear hr1 hnn1 hg1 hmem1 hlen1 hrise1 W0 q0 c0 HR HN HM HC HW hB0
      go_wp2
      go_loopw [3, 5] (fun u2 y wr => ∃ (j : Nat) (qs : List (List UInt8)), y = .int .i64 (j : Int) ∧ j ≤ M ∧ Hid (RowS wr B u2 qs) ∧ Hid (u2 ≠ .slice none 0 0) ∧ Hid (Rise qs ∧ PM qs (textsL (ts.take k) ++ ([nm] ++ (es.take j).flatMap entL))) ∧ Hid (qs.length ≤ k * 3000 + 1 + 2 * j) ∧ Hid (Below WA.heap.size WA wr)) (fun _ y _ => M - (intOf y).toNat)
      case atStart => exact ⟨0, qs1, rfl, Nat.zero_le _, R1, N1, hide ⟨RI1.out, by simpa using M1.out⟩, hide (by have := L1.out; omega), HW1⟩
      case round =>
        clear R1 N1 RI1 M1 L1 HW1
        obtain ⟨j, qs2, rfl, hj, HR2, HN2, HM2, HC2, HW2⟩ := hrel
        have q0 := (KP.out wr HW2.out).cell 0
        have c2 := (CX.out wr HW2.out).2
        by_cases hjl : j < M
        · have hjl' : (j : Int) < (M : Int) := by omega
          have hje : j < es.length := by rw [← HM0.out]; exact hjl
          obtain ⟨b2, o2, rfl, HECL⟩ : ∃ b2 o2, ae = some ⟨b2, o2, none⟩ ∧ Hid (∀ X, Below WA.heap.size WA X → ∀ i, i < es.length → X.cell? ⟨b2, o2 + i * 4, none⟩ = some (.string (entN es i).key) ∧ X.cell? ⟨b2, o2 + i * 4 + 1, none⟩ = some (.int .i64 (entN es i).kind) ∧ X.cell? ⟨b2, o2 + i * 4 + 2, none⟩ = some (.string (entN es i).text) ∧ X.cell? ⟨b2, o2 + i * 4 + 3, none⟩ = some (.int .i64 (entN es i).num)) := by
            rcases HEA.out with q | ⟨b2, o2, rfl, q, hcl⟩
            · rw [q] at hje; simp at hje
            · exact ⟨b2, o2, rfl, hide (fun X hX i hi => by
                have hb := BA.out.trans (hX.mono BA.out.size)
                obtain ⟨z0, z1, z2, z3⟩ := hcl i hi
                exact ⟨(hb.cell q).trans z0, (hb.cell q).trans z1, (hb.cell q).trans z2, (hb.cell q).trans z3⟩)⟩
          obtain ⟨x0, x1, x2, x3⟩ := HECL.out wr HW2.out j hje
          have PE := hide (pl_ent es j hje)
          obtain ⟨e, he0⟩ : ∃ e, e = entN es j := ⟨_, rfl⟩
          rw [← he0] at x0 x1 x2 x3 PE
          clear he0
          obtain ⟨ek, en, et, em⟩ := e
          simp only [] at x0 x1 x2 x3
          obtain ⟨WB, hWB⟩ : ∃ WB, WB = wr.alloc (.cells #[.string ek, .int .i64 en, .string et, .int .i64 em] 39) := ⟨_, rfl⟩
          have BB : Hid (Below wr.heap.size wr WB) := hide (by rw [hWB]; exact (Below.refl _ _).alloc (Nat.le_refl _) _)
          have DB : Hid (Blk WB wr.heap.size #[.string ek, .int .i64 en, .string et, .int .i64 em] 39) := hide (by rw [hWB]; exact Blk.newAt _ _ rfl _ _)
          have RB := hide (HR2.out.belowB BB.out)
          have HWBA := hide (HW2.out.trans (BB.out.mono HW2.out.size))
          have hBB : Hid (B ≤ WB.heap.size) := hide (by rw [HB.out]; exact HWBA.out.size)
          have W1 := hide (with_any ek RB.out HN2.out HM2.out.1 (by have := HC2.out; omega) hBB.out)
          have DF : Hid (∀ w2, WB.grownBy w2 u3.ownBlock → Blk w2 wr.heap.size #[.string ek, .int .i64 en, .string et, .int .i64 em] 39) := hide (fun w2 hg => by
            have hlt := DB.out.lt
            have hap := blk_apart DB.out RB.out (by decide)
            have q := DB.out
            unfold Blk at *
            rw [hg.block _ hlt hap]
            exact q)
          have HWB := hide hWB.symm
          have d0 := DB.out.cell 0
          clear hWB
          go_wp2_with (simp only [HWB.out])
          refine W1.out.mono ?_
          rintro x w2 ⟨v3, qs3, rfl, hr3, hrise3, hmem3, hlen3, hnn3, hg3⟩
          have R3 := hide hr3
          have N3 := hide hnn3
          have HG3 := hide hg3
          have D3 := DF.out w2 hg3
          have HW3 := hide (WithA.below hg3 RB.out (show Below B WA WB by rw [HB.out]; exact HWBA.out) hBB.out)
          have M3 := hide (HM2.out.2.add hmem3)
          have L3 : Hid (qs3.length ≤ k * 3000 + 2 + 2 * j) := hide (by have := HC2.out; omega)
          have RI3 := hide hrise3
          have d1 := D3.cell 1
          have d2 := D3.cell 2
          clear hr3 hnn3 hg3 D3 hmem3 hlen3 hrise3 W1 DF d0 x0 x1 x2 x3
          by_cases hen : en = 1
          · subst hen
            have EL : Hid (entL ⟨ek, 1, et, em⟩ = [ek]) := hide (by unfold entL; rw [if_pos rfl])
            go_wp2_with fail
            refine ⟨⟨j + 1, qs3, by go_num, by omega, R3, N3, hide ⟨RI3.out, ?_⟩, hide (by have := L3.out; omega), hide (by have := HW3.out; rw [HB.out] at this; exact this)⟩, by simp [intOf]; omega⟩
            rw [PE.out, EL.out, ← List.append_assoc, ← List.append_assoc, List.append_assoc (textsL _)]
            exact M3.out
          · have EL : Hid (entL ⟨ek, en, et, em⟩ = [ek] ++ [et]) := hide (by unfold entL; rw [if_neg hen]; rfl)
            have hen' : (en == 1) = false := beq_eq_false_iff_ne.2 hen
            have hB2 : Hid (B ≤ w2.heap.size) := hide (Nat.le_trans hBB.out HG3.out.size)
            have W2 := hide (with_any et R3.out N3.out RI3.out (by have := L3.out; omega) hB2.out)
            clear hen
            go_wp2_with fail
            refine W2.out.mono ?_
            rintro x w3 ⟨v4, qs4, rfl, hr4, hrise4, hmem4, hlen4, hnn4, hg4⟩
            have HW4 := hide (WithA.below hg4 R3.out HW3.out hB2.out)
            have M4 := hide (M3.out.add hmem4)
            have L4 : Hid (qs4.length ≤ k * 3000 + 3 + 2 * j) := hide (by have := L3.out; omega)
            have R4 := hide hr4
            have N4 := hide hnn4
            have RI4 := hide hrise4
            clear hr4 hnn4 hg4 hmem4 hlen4 hrise4 W2 d1 d2
            go_wp2
            refine ⟨⟨j + 1, qs4, by go_num, by omega, R4, N4, hide ⟨RI4.out, ?_⟩, hide (by have := L4.out; omega), hide (by have := HW4.out; rw [HB.out] at this; exact this)⟩, by simp [intOf]; omega⟩
            rw [PE.out, EL.out, ← List.append_assoc, ← List.append_assoc, ← List.append_assoc, List.append_assoc (textsL _)]
            exact M4.out
        · obtain rfl : j = M := by omega
          have hjl' : ¬ (j : Int) < (j : Int) := by omega
          clear hjl
          go_wp2
          refine ⟨⟨k + 1, qs2, by go_num, by omega, HR2, HN2, hide ⟨HM2.out.1, ?_⟩, hide (by have := HC2.out; omega), HW2⟩, by simp [intOf]; omega⟩
          rw [TX.out]
          have := HM2.out.2
          rw [HM0.out, List.take_length] at this
          exact this
    · obtain rfl : k = L := by omega
      have hkl' : ¬ (k : Int) < (k : Int) := by omega
      have HP : Hid (qs = poolL (textsL ts)) := hide (by
        have := HM.out.2.pool HM.out.1
        rw [HL.out, List.take_length] at this
        exact this)
      clear hkl HM HC
      go_wp2
      go_ret
      exact ⟨_, rfl, by rw [← HP.out]; exact RowS.base HR.out HBw.out, HN.out, BA.out.trans (HW.out.mono BA.out.size)⟩

end Go.Proofs.YtobmdifledegbaaGreatDoor

namespace Go.Proofs.YtobmdifledegbaaGreatDoor
open Go.RowKit

theorem countsN (ts : List Tab) (h : ¬ (1 ≤ ts.length ∧ ts.length ≤ 16)) : checkT ts = 121 := by
  unfold checkT countsOk
  rw [decide_eq_false h, Bool.and_false, if_pos rfl]
theorem countsX (ts : List Tab) (k : Nat) (hk : k < ts.length) (h : 1024 < (tabN ts k).ents.length) : checkT ts = 121 := by
  have : countsOk ts = false := by
    unfold countsOk
    rw [all_stopT _ ts k (tabN ts k) (tabN_some hk) (decide_eq_false (by omega)), Bool.false_and]
  unfold checkT
  rw [if_pos this]
theorem countsY (ts : List Tab) (h1 : 1 ≤ ts.length) (h2 : ts.length ≤ 16) (h : ∀ k, k < ts.length → (tabN ts k).ents.length ≤ 1024) : countsOk ts = true ∧ ∀ k, (tabN ts k).ents.length ≤ 1024 := by
  have ha : ∀ k, (tabN ts k).ents.length ≤ 1024 := fun k => by
    by_cases hk : k < ts.length
    · exact h k hk
    · have : tabN ts k = Tab.zero := by unfold tabN; rw [List.getElem?_eq_none (by omega)]; rfl
      rw [this]
      exact Nat.zero_le _
  refine ⟨?_, ha⟩
  unfold countsOk
  rw [decide_eq_true (show 1 ≤ ts.length ∧ ts.length ≤ 16 from ⟨h1, h2⟩), Bool.and_true, List.all_eq_true]
  intro t ht
  obtain ⟨k, _, rfl⟩ := mem_tabN ht
  exact decide_eq_true (ha k)

set_option maxRecDepth 100000 in
set_option maxHeartbeats 4000000 in
theorem rCheck_any {w : World} {v : Value} {ts : List Tab} (h : TSl w v ts) (hl : ts.length ≤ 4398046511104) (hz : SzT ts) :
    Calls Tryz.prog 30 #[.agg #[v]] w fun e w' => e = .returned (.int .i64 (checkT ts : Int)) ∧ Below w.heap.size w w' := by
  obtain ⟨WA, hWA⟩ : ∃ WA, WA = w.alloc (.cells #[v] 24) := ⟨_, rfl⟩
  have BA : Hid (Below w.heap.size w WA) := hide (by rw [hWA]; exact (Below.refl _ _).alloc (Nat.le_refl _) _)
  have Q1 : Hid (Blk WA w.heap.size #[v] 24) := hide (by rw [hWA]; exact Blk.newAt _ _ rfl _ _)
  have HWA := hide hWA.symm
  have SA := hide (h.below BA.out)
  have HZ := hide hz
  have TF : Hid (∀ (_ : ts.length ≤ 16) (_ : ∀ k, (tabN ts k).ents.length ≤ 1024) X (_ : Below WA.heap.size WA X) k (_ : k < ts.length), Calls Tryz.prog 58 #[v, .int .i64 (k : Int)] X fun e w' => e = .returned (.int .i64 (tabE ts k : Int)) ∧ Below X.heap.size X w') := hide (fun h1 h2 X hX k hk => rtable_any k (SA.out.below hX) hk h1 HZ.out (h2 k))
  have PF : Hid (∀ (_ : ts.length ≤ 16) (_ : ∀ k, (tabN ts k).ents.length ≤ 1024) X (_ : Below WA.heap.size WA X), Calls Tryz.prog 31 #[.agg #[v]] X fun e w' => ∃ u, e = .returned u ∧ RowS w' X.heap.size u (poolL (textsL ts)) ∧ u ≠ .slice none 0 0 ∧ Below X.heap.size X w') := hide (fun h1 h2 X hX => pool_any (SA.out.below hX) h1 h2)
  obtain ⟨ao, cap, rfl, hcap, hat⟩ := h
  obtain ⟨L, hL⟩ : ∃ L, L = ts.length := ⟨_, rfl⟩
  have HL := hide hL
  have HAT := hide hat
  rw [← hL] at hcap hl TF PF Q1 HWA SA ⊢
  have KP : Hid (∀ X, Below WA.heap.size WA X → Blk X w.heap.size #[.slice ao L cap] 24) := hide (fun X hX => Q1.out.below hX Q1.out.lt)
  have q0 := Q1.out.cell 0
  clear hWA hz hat hL
  by_cases hL1 : L < 1
  · have EE := hide (countsN ts (by have := HL.out; omega))
    obtain rfl : L = 0 := by omega
    go_enter Tryz.func30, Tryz.ntmps30
    go_wp2_with (simp only [HWA.out])
    go_ret
    exact ⟨by rw [EE.out]; rfl, BA.out⟩
  by_cases hL2 : 16 < L
  · have EE := hide (countsN ts (by have := HL.out; omega))
    have hL1' : ¬ (L : Int) < 1 := by omega
    have hL2' : (16 : Int) < (L : Int) := by omega
    clear hL1 hL2
    go_enter Tryz.func30, Tryz.ntmps30
    go_wp2_with (simp only [HWA.out])
    go_ret
    exact ⟨by rw [EE.out]; rfl, BA.out⟩
  have hL1' : ¬ (L : Int) < 1 := by omega
  have hL2' : ¬ (16 : Int) < (L : Int) := by omega
  have hl16 : L ≤ 16 := by omega
  have HL1 : Hid (1 ≤ ts.length) := hide (by have := HL.out; omega)
  obtain ⟨b, o, rfl, HBB, HCL⟩ : ∃ b o, ao = some ⟨b, o, none⟩ ∧ Hid (b < w.heap.size) ∧ Hid (∀ i, i < ts.length → TabAt w b o i (tabN ts i)) := by
    rcases HAT.out with q | ⟨b, o, rfl, q, hcl⟩
    · have := HL1.out; rw [q] at this; simp at this
    · exact ⟨b, o, rfl, hide q, hide hcl⟩
  clear hL1 hL2
  go_enter Tryz.func30, Tryz.ntmps30
  go_wp2_with (simp only [HWA.out])
  go_loopw [3] (fun y wr => ∃ k : Nat, k ≤ L ∧ y = .int .i64 (k : Int) ∧ Hid (∀ i, i < k → (tabN ts i).ents.length ≤ 1024) ∧ WA = wr) (fun y _ => L - (intOf y).toNat)
  case atStart => exact ⟨0, Nat.zero_le _, rfl, hide (fun i hi => by omega), rfl⟩
  case round =>
    obtain ⟨k, hk, rfl, HK, rfl⟩ := hrel
    by_cases hkl : k < L
    · have hkl' : (k : Int) < (L : Int) := by omega
      have hkt : k < ts.length := by rw [← HL.out]; exact hkl
      obtain ⟨d0, d1, ve, d2, hes⟩ := (HCL.out k hkt).below HBB.out BA.out
      obtain ⟨ae, ce, rfl, hce, hea⟩ := hes
      have CX := hide (countsX ts k hkt)
      have HLE : Hid ((tabN ts k).ents.length = (tabN ts k).ents.length) := hide rfl
      obtain ⟨M, hM⟩ : ∃ M, M = (tabN ts k).ents.length := ⟨_, rfl⟩
      rw [← hM] at d2 CX hce
      have HM := hide hM
      clear hM hea d0 d1 hkt HLE
      by_cases hm : 1024 < M
      · have EE := hide (CX.out hm)
        have hm' : (1024 : Int) < (M : Int) := by omega
        clear hm CX
        go_wp2
        go_ret
        exact ⟨by rw [EE.out]; rfl, BA.out⟩
      · have hm' : ¬ (1024 : Int) < (M : Int) := by omega
        have HN : Hid (∀ i, i < k + 1 → (tabN ts i).ents.length ≤ 1024) := hide (fun i hi => by
          rcases Nat.lt_or_ge i k with q | q
          · exact HK.out i q
          · obtain rfl : i = k := by omega
            rw [← HM.out]
            omega)
        clear hm CX HK
        go_wp2
        exact ⟨⟨k + 1, by omega, by go_num, HN, trivial⟩, by simp [intOf]; omega⟩
    · obtain rfl : k = L := by omega
      have hkl' : ¬ (k : Int) < (k : Int) := by omega
      obtain ⟨hc1, hc2⟩ := countsY ts HL1.out (by rw [← HL.out]; exact hl16) (fun i hi => HK.out i (by rw [HL.out]; exact hi))
      have CT : Hid (checkT ts = if tabsE ts k 0 ≠ 0 then tabsE ts k 0 else if 4096 < poolS (textsL ts) then 121 else 0) := hide (by
        unfold checkT
        rw [if_neg (by rw [hc1]; decide), ← HL.out])
      have TG := hide (TF.out hl16 hc2)
      have PG := hide (PF.out hl16 hc2)
      clear TF PF hkl HK hc1 hc2
      obtain ⟨R, hR⟩ : ∃ R, R = tabsE ts k 0 := ⟨_, rfl⟩
      rw [← hR] at CT
      have HR := hide hR
      clear hR
      go_wp2
      go_loopw [4] (fun y wr => ∃ j : Nat, j ≤ k ∧ y = .int .i64 (j : Int) ∧ Hid (R = tabsE ts (k - j) j) ∧ Hid (Below WA.heap.size WA wr)) (fun y _ => k - (intOf y).toNat)
      case atStart => exact ⟨0, Nat.zero_le _, rfl, hide (by rw [HR.out, Nat.sub_zero]), hide (Below.refl _ _)⟩
      case round =>
        obtain ⟨j, hj, rfl, HJ, HW⟩ := hrel
        clear q0
        have q0 := (KP.out wr HW.out).cell 0
        by_cases hjl : j < k
        · have hjl' : (j : Int) < (k : Int) := by omega
          have TJ := hide (TG.out wr HW.out j hjl)
          have ST : Hid (R = if tabE ts j ≠ 0 then tabE ts j else tabsE ts (k - (j + 1)) (j + 1)) := hide (by
            rw [HJ.out, show k - j = (k - (j + 1)) + 1 by omega]
            rfl)
          generalize tabE ts j = E at *
          by_cases hE : E = 0
          · subst hE
            have HN : Hid (R = tabsE ts (k - (j + 1)) (j + 1)) := hide (by rw [ST.out, if_neg (by omega)])
            rw [show ((0 : Nat) : Int) = 0 from rfl] at TJ
            clear ST HJ
            go_wp2_with fail
            refine TJ.out.mono ?_
            rintro x w1 ⟨rfl, hb1⟩
            have HW1 := hide (HW.out.trans (hb1.mono HW.out.size))
            clear hb1 TJ
            go_wp2
            exact ⟨⟨j + 1, by omega, by go_num, HN, HW1⟩, by simp [intOf]; omega⟩
          · have EE : Hid (checkT ts = E) := hide (by
              have h1 : R = E := by rw [ST.out, if_pos hE]
              rw [CT.out, if_pos (by rw [h1]; exact hE), h1])
            have hE' : ((E : Int) == 0) = false := beq_eq_false_iff_ne.2 (by omega)
            have hE2 : ((E : Int) != 0) = true := by rw [bne, hE']; rfl
            clear ST HJ hE
            go_wp2_with fail
            refine TJ.out.mono ?_
            rintro x w1 ⟨rfl, hb1⟩
            have HW1 := hide (BA.out.trans ((HW.out.trans (hb1.mono HW.out.size)).mono BA.out.size))
            clear hb1 TJ
            go_wp2
            go_ret
            exact ⟨by rw [EE.out]; rfl, HW1.out⟩
        · obtain rfl : j = k := by omega
          have hjl' : ¬ (j : Int) < (j : Int) := by omega
          have hR0 : R = 0 := by rw [HJ.out, Nat.sub_self]; rfl
          subst hR0
          have P1 := hide (PG.out wr HW.out)
          have CT2 : Hid (checkT ts = if 4096 < (poolL (textsL ts)).length then 121 else 0) := hide (by rw [CT.out, if_neg (by decide), pool_len])
          obtain ⟨N, hN⟩ : ∃ N, N = (poolL (textsL ts)).length := ⟨_, rfl⟩
          rw [← hN] at CT2
          have HN := hide hN
          clear HJ hjl CT hN HR
          go_wp2_with fail
          refine P1.out.mono ?_
          rintro x w1 ⟨u, rfl, hr, hnn, hb1⟩
          have HW1 := hide (BA.out.trans ((HW.out.trans (hb1.mono HW.out.size)).mono BA.out.size))
          obtain ⟨g, cu, rfl⟩ : ∃ g cu, u = .slice (some ⟨g, 0, none⟩) N cu := by
            rcases hr.2 with ⟨q, _⟩ | ⟨g, cu, cur, q, _⟩
            · exact absurd q hnn
            · exact ⟨g, cu, by rw [q, HN.out]⟩
          clear hb1 P1 hr hnn
          by_cases h4 : 4096 < N
          · have EE : Hid (checkT ts = 121) := hide (by rw [CT2.out, if_pos h4])
            have h4' : (4096 : Int) < (N : Int) := by omega
            clear CT2 h4
            go_wp2
            go_ret
            exact ⟨by rw [EE.out]; rfl, HW1.out⟩
          · have EE : Hid (checkT ts = 0) := hide (by rw [CT2.out, if_neg h4])
            have h4' : ¬ (4096 : Int) < (N : Int) := by omega
            clear CT2 h4
            go_wp2
            go_ret
            exact ⟨by rw [EE.out]; rfl, HW1.out⟩

end Go.Proofs.YtobmdifledegbaaGreatDoor

namespace Go.Proofs.YtobmdifledegbaaGreatDoor
open Go.RowKit

set_option maxRecDepth 100000 in
set_option maxHeartbeats 4000000 in
theorem rchain_any {w : World} {v : Value} {ts : List Tab} (n : ByteArray) (h : TSl w v ts) (hl : ts.length ≤ 4398046511104) (hz : SzT ts) : Calls Tryz.prog 44 #[.agg #[v], .string n] w fun e w' => ∃ v', e = .returned (.tuple #[v', .int .i64 (chE ts n : Int)]) ∧ (chE ts n = 0 → TSl w' v' (chL ts n)) ∧ (chE ts n ≠ 0 → v' = .slice none 0 0) ∧ Below w.heap.size w w' := by
  obtain ⟨i0, hi, hz0, hz1, hz2⟩ := info_parts infoT
  obtain ⟨WA, hWA⟩ : ∃ WA, WA = w.alloc (.cells #[v] 24) := ⟨_, rfl⟩
  have BA : Hid (Below w.heap.size w WA) := hide (by rw [hWA]; exact (Below.refl _ _).alloc (Nat.le_refl _) _)
  have Q : Hid (Blk WA w.heap.size #[v] 24) := hide (by rw [hWA]; exact Blk.newAt w w.heap.size rfl _ _)
  have HWA := hide hWA.symm
  have CK := hide (rCheck_any (h.below BA.out) hl hz)
  have KP : Hid (∀ X, Below WA.heap.size WA X → Blk X w.heap.size #[v] 24) := hide (fun X hX => Q.out.below hX Q.out.lt)
  have q0 := Q.out.cell 0
  have CD : Hid (checkT ts = 0 → Down ts) := hide check_down
  have L16 : Hid (checkT ts = 0 → ts.length ≤ 16) := hide (fun q => (counts_len (check_zero q).1).2.1)
  have RE : Hid (chE ts n = if checkT ts ≠ 0 then checkT ts else if placeT ts n = -1 then 123 else 0) := hide rfl
  have RL : Hid (chL ts n = chainP ts (placeT ts n)) := hide rfl
  have PLD : Hid (∀ j, j < ts.length → placeF n j (ts.drop j) = if (tabN ts j).name = n then (j : Int) else placeF n (j + 1) (ts.drop (j + 1))) := hide (fun j hj => placeF_drop ts n j hj)
  have PL0 : Hid (placeT ts n = placeF n 0 (ts.drop 0)) := hide rfl
  have PLE : Hid (placeF n ts.length (ts.drop ts.length) = -1) := hide (by rw [List.drop_length]; rfl)
  generalize chE ts n = R at *
  generalize chL ts n = RS at *
  generalize checkT ts = C at *
  obtain ⟨P, hP⟩ : ∃ P, P = placeT ts n := ⟨_, rfl⟩
  rw [← hP] at RE RL PL0
  obtain ⟨ao, cap, rfl, hcap, hat⟩ := h
  have HAT := hide hat
  clear hat hWA hz Q hP
  by_cases hC : C = 0
  · subst hC
    have HD := hide (CD.out rfl)
    rw [if_neg (fun q => q rfl)] at RE
    have hl16 := L16.out rfl
    obtain ⟨L, hL⟩ : ∃ L, L = ts.length := ⟨_, rfl⟩
    rw [← hL] at hl hl16 hcap KP HWA q0 CK PLE
    rw [← hL]
    have HL := hide hL
    rw [show ((0 : Nat) : Int) = 0 from rfl] at CK
    have hWs : w.heap.size < WA.heap.size := by rw [← HWA.out]; simp
    have HWs := hide hWs
    clear CD L16 hL hWs
    go_enter Tryz.func44, Tryz.ntmps44
    go_wp2_with (simp only [HWA.out])
    refine CK.out.mono ?_
    rintro e w1 ⟨rfl, hb1⟩
    have B1 := hide hb1
    have p0 := (KP.out w1 hb1).cell 0
    clear hb1 CK q0
    go_wp2
    go_loopw [7] (fun y wr => ∃ k : Nat, k ≤ L ∧ y = .int .i64 (k : Int) ∧ Hid (P = placeF n k (ts.drop k)) ∧ w1 = wr) (fun y _ => L - (intOf y).toNat)
    case atStart => exact ⟨0, Nat.zero_le _, rfl, PL0, rfl⟩
    case round =>
      obtain ⟨k, hk, rfl, HF, rfl⟩ := hrel
      by_cases hkl : k < L
      · have hkl' : (k : Int) < (L : Int) := by omega
        have hkt : k < ts.length := by rw [← HL.out]; exact hkl
        obtain ⟨b, o, rfl, HBB, HCL⟩ : ∃ b o, ao = some ⟨b, o, none⟩ ∧ Hid (b < w.heap.size) ∧ Hid (∀ i, i < ts.length → TabAt w b o i (tabN ts i)) := by
          rcases HAT.out with q | ⟨b, o, rfl, q, hcl⟩
          · rw [q] at hkt; simp at hkt
          · exact ⟨b, o, rfl, hide q, hide hcl⟩
        have BW := hide (BA.out.trans (B1.out.mono BA.out.size))
        have c0 := ((HCL.out k hkt).below HBB.out BW.out).1
        have F1 := hide (PLD.out k hkt)
        obtain ⟨nk, hnk⟩ : ∃ nk, nk = (tabN ts k).name := ⟨_, rfl⟩
        rw [← hnk] at c0 F1
        clear hnk hkt
        by_cases hn : nk = n
        · have hn' : (nk.toList == n.toList) = true := by rw [eqT, decide_eq_true hn]
          have HP : P = (k : Int) := by rw [HF.out, F1.out, if_pos hn]
          subst HP
          have R3 : R = 0 := by rw [RE.out, if_neg (by omega)]
          subst R3
          clear RE F1 HF hn PLD PL0 PLE
          go_wp2
          go_loopw [8, 9] (fun y x wr => ∃ (q : Int) (cs : List (Tab × Value)), x = .int .i64 q ∧ -1 ≤ q ∧ q < (L : Int) ∧ cs.length + (q + 1).toNat ≤ 17 ∧ Hid (wr.ownsRow WA.heap.size 37 3 y cs.length (cellsTb cs)) ∧ Hid (∀ c ∈ cs, ESl w c.2 c.1.ents) ∧ Hid (cs.map Prod.fst ++ chainP ts q = RS) ∧ Hid (Below WA.heap.size WA wr)) (fun _ x _ => (intOf x + 1).toNat)
          case atStart => exact ⟨(k : Int), [], rfl, by omega, by omega, by simp; omega, hide (World.ownsRow_lit w1 #[] 0 B1.out.size (by unfold maxLen; omega) rfl), hide (fun c hc => by simp at hc), hide (by rw [RL.out]; rfl), hide (B1.out.alloc B1.out.size _)⟩
          case round =>
            clear p0 c0
            obtain ⟨q, cs, rfl, hq1, hq2, hcs, HO, HE, HR, HW⟩ := hrel
            have r0 := (KP.out wr HW.out).cell 0
            have HWW := hide (BA.out.trans (HW.out.mono BA.out.size))
            by_cases hq : q = -1
            · subst hq
              have TR : Hid (TSl wr u8 RS) := hide (by rw [← HR.out, chainP_none, List.append_nil]; exact TSl.of_own HO.out HE.out HWW.out)
              clear HO HE HR hcs
              go_wp2
              go_ret2
              exact ⟨u8, rfl, TR.out, HWW.out⟩
            · obtain ⟨j, rfl⟩ : ∃ j : Nat, q = (j : Int) := ⟨q.toNat, by omega⟩
              have hq0 : (0 : Int) ≤ (j : Int) := by omega
              have hj : j < L := by omega
              have hj' : (j : Int) < (L : Int) := by omega
              have hjt : j < ts.length := by rw [← HL.out]; exact hj
              obtain ⟨d0, d1, ve, d2, hes⟩ := HCL.out j hjt
              obtain ⟨pd1, pd2⟩ := HD.out j hjt
              have CS := hide (chainP_step HD.out j hjt)
              obtain ⟨g, hg⟩ : ∃ g, g = tabN ts j := ⟨_, rfl⟩
              rw [← hg] at d0 d1 hes pd1 pd2 CS
              have c0 := (HWW.out.cell HBB.out).trans d0
              have c1 := (HWW.out.cell HBB.out).trans d1
              have c2 := (HWW.out.cell HBB.out).trans d2
              have HES := hide hes
              have ONE : Hid (∀ u ∈ [Value.string g.name, Value.int .i64 g.parent, ve], u.oneCell' = true) := hide (by
                obtain ⟨a2, cp2, rfl, _, _⟩ := hes
                intro u hu
                simp only [List.mem_cons, List.not_mem_nil, or_false] at hu
                rcases hu with rfl | rfl | rfl <;> rfl)
              have HO2 := hide (HO.out.alloc (.cells #[.string g.name, .int .i64 g.parent, ve] 37))
              have hsz := HW.out.size
              have D0 := hide d0
              have D1 := hide d1
              have D2 := hide d2
              clear hg hjt HO d0 d1 d2 hes hq
              go_wp2_with (at_builtin; refine wpList_append_own _ rfl _ _ 22 rfl WA.heap.size 37 i0 (.agg #[.string ⟨#[]⟩, .int .i64 0, .slice none 0 0]) 3 48 Tryz.underlying22 hi hz0 hz1 hz2 rfl (by decide) _ cs.length (cellsTb cs) rfl HO2.out ⟨wr.heap.size, 0, none⟩ 1 1 [.string g.name, .int .i64 g.parent, ve] rfl rfl (cell_three_new _ _ _ _ _) ONE.out (by unfold maxLen; omega) (by omega) (by simp; omega) ?_
                           intro v' w3 hown' hg3 hnil3
                           have B3 := hide ((HW.out.alloc hsz (.cells #[.string g.name, .int .i64 g.parent, ve] 37)).grown hg3 (by simp; omega) (fun j hj => (HO2.out.lt j hj).1))
                           have O3 := hide hown'
                           have z0 := (KP.out w3 B3.out).cell 0
                           have z1 := ((BA.out.trans (B3.out.mono BA.out.size)).cell HBB.out).trans D1.out
                           clear hg3 hnil3 hown')
              refine ⟨⟨g.parent, cs ++ [(g, ve)], rfl, by omega, by omega, by simp; omega, hide (by rw [List.length_append, cellsTb_app]; exact O3.out), hide (fun c hc => ?_), hide (by rw [← HR.out, CS.out]; simp), B3⟩, by simp [intOf]; omega⟩
              rcases List.mem_append.1 hc with q | q
              · exact HE.out c q
              · simp at q; subst q; exact HES.out
        · have hn' : (nk.toList == n.toList) = false := by rw [eqT, decide_eq_false hn]
          have hn2 : (nk.toList != n.toList) = true := by rw [bne, hn']; rfl
          have EN : Hid (P = placeF n (k + 1) (ts.drop (k + 1))) := hide (by rw [HF.out, F1.out, if_neg hn])
          clear F1 HF hn
          go_wp2
          exact ⟨⟨k + 1, by omega, by go_num, EN, trivial⟩, by simp [intOf]; omega⟩
      · obtain rfl : k = L := by omega
        have hkl' : ¬ (k : Int) < (k : Int) := by omega
        have HP : P = -1 := by rw [HF.out, PLE.out]
        subst HP
        have R3 : R = 123 := by rw [RE.out, if_pos rfl]
        subst R3
        clear hkl HF RE PLD PL0 PLE
        go_wp2
        go_ret2
        exact ⟨.slice none 0 0, rfl, rfl, BA.out.trans (B1.out.mono BA.out.size)⟩
  · have R3 : R = C := by rw [RE.out, if_pos hC]
    subst R3
    have hC' : ((R : Int) == 0) = false := beq_eq_false_iff_ne.2 (by omega)
    have hC2 : ((R : Int) != 0) = true := by rw [bne, hC']; rfl
    clear RE CD RL KP PLD PL0 PLE
    go_enter Tryz.func44, Tryz.ntmps44
    go_wp2_with (simp only [HWA.out])
    refine CK.out.mono ?_
    rintro e w1 ⟨rfl, hb1⟩
    have B1 := hide (BA.out.trans (hb1.mono BA.out.size))
    clear hb1 CK
    go_wp2
    go_ret2
    exact ⟨.slice none 0 0, rfl, fun q => absurd q hC, fun _ => rfl, B1.out⟩

end Go.Proofs.YtobmdifledegbaaGreatDoor

namespace Go.Proofs.YtobmdifledegbaaGreatDoor
open Go.RowKit

theorem findE_drop (es : List Ent) (key : ByteArray) (j : Nat) (hj : j < es.length) : findE (es.drop j) key = if (entN es j).key = key then some (entN es j) else findE (es.drop (j + 1)) key := by
  rw [List.drop_eq_getElem_cons hj]
  have e : entN es j = es[j] := entN_get (List.getElem?_eq_getElem hj)
  rw [e]
  unfold findE
  rw [List.find?_cons]
  by_cases h : es[j].key = key
  · rw [if_pos h, decide_eq_true h]
  · rw [if_neg h, decide_eq_false h]

theorem firstT_cons (t : Tab) (cs : List Tab) (key : ByteArray) : firstT (t :: cs) key = match findE t.ents key with | some e => some e | none => firstT cs key := by
  unfold firstT
  rw [List.findSome?_cons]
  cases findE t.ents key <;> rfl

end Go.Proofs.YtobmdifledegbaaGreatDoor

namespace Go.Proofs.YtobmdifledegbaaGreatDoor
open Go.RowKit

theorem firstT_drop (cs : List Tab) (key : ByteArray) (k : Nat) (hk : k < cs.length) : firstT (cs.drop k) key = match findE (tabN cs k).ents key with | some e => some e | none => firstT (cs.drop (k + 1)) key := by
  rw [List.drop_eq_getElem_cons hk, firstT_cons]
  have e : tabN cs k = cs[k] := tabN_get (List.getElem?_eq_getElem hk)
  rw [e]
  all_goals (cases findE cs[k].ents key <;> rfl)

set_option maxRecDepth 100000 in
set_option maxHeartbeats 4000000 in
theorem rfirst_any {w : World} {v : Value} {cs : List Tab} (key : ByteArray) (h : TSl w v cs) (hl : cs.length ≤ 4398046511104) (he : ∀ k, (tabN cs k).ents.length ≤ 4398046511104) :
    Calls Tryz.prog 45 #[v, .string key] w fun e w' => e = .returned (.tuple #[entV ((firstT cs key).getD Ent.zero), .bool (firstT cs key).isSome]) ∧ Below w.heap.size w w' := by
  obtain ⟨ao, cap, rfl, hcap, hat⟩ := h
  obtain ⟨L, hL⟩ : ∃ L, L = cs.length := ⟨_, rfl⟩
  have HL := hide hL
  have HAT := hide hat
  have HE := hide he
  rw [← hL] at hl hcap ⊢
  obtain ⟨WA, hWA⟩ : ∃ WA, WA = w.alloc (.cells #[.string ⟨#[]⟩, .int .i64 0, .string ⟨#[]⟩, .int .i64 0] 39) := ⟨_, rfl⟩
  have BA : Hid (Below w.heap.size w WA) := hide (by rw [hWA]; exact (Below.refl _ _).alloc (Nat.le_refl _) _)
  have Q2 : Hid (Blk WA w.heap.size #[.string ⟨#[]⟩, .int .i64 0, .string ⟨#[]⟩, .int .i64 0] 39) := hide (by rw [hWA]; exact Blk.newAt _ _ rfl _ _)
  have HWA := hide hWA.symm
  have f0 := Q2.out.free 0
  have f1 := Q2.out.free 1
  have f2 := Q2.out.free 2
  have f3 := Q2.out.free 3
  have y0 := Q2.out.cell 0
  have y1 := Q2.out.cell 1
  have y2 := Q2.out.cell 2
  have y3 := Q2.out.cell 3
  obtain ⟨R, hR⟩ : ∃ R, R = firstT cs key := ⟨_, rfl⟩
  rw [← hR]
  have HR := hide hR
  clear hR hat he hL hWA
  go_enter Tryz.func45, Tryz.ntmps45
  go_wp2_with (simp only [HWA.out])
  go_loopw [6] (fun x wr => ∃ k : Nat, k ≤ L ∧ x = .int .i64 (k : Int) ∧ Hid (firstT (cs.drop k) key = R) ∧ WA = wr) (fun x _ => L - (intOf x).toNat)
  case atStart => exact ⟨0, Nat.zero_le _, rfl, hide (by rw [HR.out, List.drop_zero]), rfl⟩
  case round =>
    obtain ⟨k, hk, rfl, HF, rfl⟩ := hrel
    by_cases hkl : k < L
    · have hkl' : (k : Int) < (L : Int) := by omega
      have hkt : k < cs.length := by rw [← HL.out]; exact hkl
      obtain ⟨b, o, rfl, HBB, HCL⟩ : ∃ b o, ao = some ⟨b, o, none⟩ ∧ Hid (b < w.heap.size) ∧ Hid (∀ i, i < cs.length → TabAt w b o i (tabN cs i)) := by
        rcases HAT.out with q | ⟨b, o, rfl, q, hcl⟩
        · rw [q] at hkt; simp at hkt
        · exact ⟨b, o, rfl, hide q, hide hcl⟩
      obtain ⟨c0, c1, ve, c2, hes⟩ := (HCL.out k hkt).below HBB.out BA.out
      have hem := HE.out k
      have CS : Hid (R = match findE (tabN cs k).ents key with | some e => some e | none => firstT (cs.drop (k + 1)) key) := hide (by rw [← HF.out, firstT_drop cs key k hkt])
      obtain ⟨g, hg⟩ : ∃ g, g = tabN cs k := ⟨_, rfl⟩
      rw [← hg] at c0 c1 hes CS hem
      obtain ⟨a2, cap2, rfl, hc2, hE2⟩ := hes
      obtain ⟨M, hM⟩ : ∃ M, M = g.ents.length := ⟨_, rfl⟩
      rw [← hM] at c2 hc2 hem
      have HM := hide hM
      have HE2 := hide hE2
      clear hg hM hkt hE2 HF c0 c1
      go_wp2
      go_loopw [7] (fun y wq => ∃ j : Nat, j ≤ M ∧ y = .int .i64 (j : Int) ∧ Hid (findE (g.ents.drop j) key = findE g.ents key) ∧ WA = wq) (fun y _ => M - (intOf y).toNat)
      case atStart => exact ⟨0, Nat.zero_le _, rfl, hide (by rw [List.drop_zero]), rfl⟩
      case round =>
        obtain ⟨j, hj, rfl, HG, rfl⟩ := hrel
        by_cases hjl : j < M
        · have hjl' : (j : Int) < (M : Int) := by omega
          have hjt : j < g.ents.length := by rw [← HM.out]; exact hjl
          obtain ⟨b2, o2, ha2, _, hcl⟩ : ∃ b o, a2 = some ⟨b, o, none⟩ ∧ b < WA.heap.size ∧ ∀ i, i < g.ents.length → WA.cell? ⟨b, o + i * 4, none⟩ = some (.string (entN g.ents i).key) ∧ WA.cell? ⟨b, o + i * 4 + 1, none⟩ = some (.int .i64 (entN g.ents i).kind) ∧ WA.cell? ⟨b, o + i * 4 + 2, none⟩ = some (.string (entN g.ents i).text) ∧ WA.cell? ⟨b, o + i * 4 + 3, none⟩ = some (.int .i64 (entN g.ents i).num) := by
            rcases HE2.out with h | h
            · rw [h] at hjt; simp at hjt
            · exact h
          subst ha2
          obtain ⟨x0, x1, x2, x3⟩ := hcl j hjt
          have FD := hide (findE_drop g.ents key j hjt)
          obtain ⟨e, he⟩ : ∃ e, e = entN g.ents j := ⟨_, rfl⟩
          rw [← he] at x0 x1 x2 x3 FD
          clear he hcl hjt
          by_cases hke : e.key = key
          · have EE : Hid (R = some e) := hide (by rw [CS.out, ← HG.out, FD.out, if_pos hke])
            have hke' : (e.key.toList == key.toList) = true := by rw [eqT, decide_eq_true hke]
            clear FD HG CS hke
            go_wp2
            refine bodyPost_ret (results_ent2 rfl _ _ _ _ _ _ _ rfl (Q2.out.put4 _ _ _ _)) rfl ?_
            exact ⟨by rw [EE.out]; rfl, below_putE BA.out (Nat.le_refl _) _ _ _ _⟩
          · have EN : Hid (findE (g.ents.drop (j + 1)) key = findE g.ents key) := hide (by rw [← HG.out, FD.out, if_neg hke])
            have hke' : (e.key.toList == key.toList) = false := by rw [eqT, decide_eq_false hke]
            clear FD HG hke
            go_wp2
            exact ⟨⟨j + 1, by omega, by go_num, EN, trivial⟩, by simp [intOf]; omega⟩
        · obtain rfl : j = M := by omega
          have hjl' : ¬ (j : Int) < (j : Int) := by omega
          have EN : Hid (firstT (cs.drop (k + 1)) key = R) := hide (by
            have hd : g.ents.drop j = [] := List.drop_eq_nil_of_le (by rw [← HM.out]; exact Nat.le_refl _)
            rw [CS.out, ← HG.out, hd]
            rfl)
          clear HG hjl CS
          go_wp2
          exact ⟨⟨k + 1, by omega, by go_num, EN, trivial⟩, by simp [intOf]; omega⟩
    · obtain rfl : k = L := by omega
      have hkl' : ¬ (k : Int) < (k : Int) := by omega
      have EE : Hid (R = none) := hide (by rw [← HF.out, List.drop_eq_nil_of_le (by rw [← HL.out]; exact Nat.le_refl _)]; rfl)
      clear hkl HF
      go_wp2
      refine bodyPost_ret (results_ent2 rfl _ _ _ _ _ _ _ rfl (Q2.out.put4 _ _ _ _)) rfl ?_
      exact ⟨by rw [EE.out]; rfl, below_putE BA.out (Nat.le_refl _) _ _ _ _⟩

end Go.Proofs.YtobmdifledegbaaGreatDoor

namespace Go.Proofs.YtobmdifledegbaaGreatDoor
open Go.RowKit

theorem good_ents {cs : List Tab} (h : Good cs) (j : Nat) : (tabN cs j).ents.length ≤ 1024 := by
  by_cases hj : j < cs.length
  · exact (h j).1
  · exact (h j).1

set_option maxHeartbeats 4000000 in
theorem rFind_any {w : World} {v : Value} {ts : List Tab} (n key : ByteArray) (h : TSl w v ts) (hl : ts.length ≤ 4398046511104) (hz : SzT ts) : Calls Tryz.prog 16 #[.agg #[v], .string n, .string key] w fun e w' => e = .returned (ansF (findT ts n key)) ∧ Below w.heap.size w w' := by
  obtain ⟨WA, hWA⟩ : ∃ WA, WA = (w.alloc (.cells #[v] 24)).alloc (.cells #[.string ⟨#[]⟩, .int .i64 0, .string ⟨#[]⟩, .int .i64 0] 39) := ⟨_, rfl⟩
  have BA : Hid (Below w.heap.size w WA) := hide (by rw [hWA]; exact ((Below.refl _ _).alloc (Nat.le_refl _) _).alloc ((Below.refl _ _).alloc (Nat.le_refl _) _).size _)
  have Q1 : Hid (Blk WA w.heap.size #[v] 24) := hide (by rw [hWA]; exact (Blk.new _ _ _).alloc _)
  have Q2 : Hid (Blk WA (w.heap.size + 1) #[.string ⟨#[]⟩, .int .i64 0, .string ⟨#[]⟩, .int .i64 0] 39) := hide (by rw [hWA]; exact Blk.newAt _ _ (by simp) _ _)
  have HWA := hide hWA.symm
  have CH := hide (rchain_any n (h.below BA.out) hl hz)
  have CG : Hid (chE ts n = 0 → Good (chL ts n) ∧ (chL ts n).length ≤ 16 ∧ chL ts n ≠ [] ∧ checkT ts = 0) := hide ch_good
  have RE : Hid (findT ts n key = if chE ts n ≠ 0 then (Ent.zero, chE ts n) else findN (chL ts n) 9 key) := hide rfl
  generalize findT ts n key = R at *
  generalize chE ts n = C at *
  generalize chL ts n = cs at *
  obtain ⟨ao, cap, rfl, hcap, hat⟩ := h
  have q0 := Q1.out.cell 0
  clear hWA hz hat
  by_cases hC : C = 0
  · subst hC
    rw [if_neg (fun q => q rfl)] at RE
    obtain ⟨hg, hl16, hne, _⟩ := CG.out rfl
    have GE : Hid (∀ j, (tabN cs j).ents.length ≤ 1024) := hide (good_ents hg)
    have FO : Hid (∀ X v', TSl X v' cs → ∀ k, Calls Tryz.prog 45 #[v', .string k] X fun e w' => e = .returned (.tuple #[entV ((firstT cs k).getD Ent.zero), .bool (firstT cs k).isSome]) ∧ Below X.heap.size X w') := hide (fun X v' hX k => rfirst_any k hX (by omega) (fun j => by have := GE.out j; omega))
    clear CG hg hl16 hne
    go_enter Tryz.func16, Tryz.ntmps16
    go_wp2_with (simp only [HWA.out])
    refine CH.out.mono ?_
    rintro e w1 ⟨v', rfl, hts, _, hb1⟩
    have TS := hide (hts trivial)
    have B1 := hide hb1
    clear hb1 hts CH
    go_wp2
    go_loopw [2, 10] (fun x y wr => ∃ (i : Nat) (k : ByteArray), i ≤ 9 ∧ x = .string k ∧ y = .int .i64 (i : Int) ∧ Hid (findN cs (9 - i) k = R) ∧ Hid (Below w1.heap.size w1 wr)) (fun _ y _ => 9 - (intOf y).toNat)
    case atStart => exact ⟨0, key, Nat.zero_le _, rfl, rfl, hide RE.out.symm, Below.refl _ _⟩
    case round =>
      obtain ⟨i, k, hi, rfl, rfl, HF, HW⟩ := hrel
      have BW := hide (B1.out.trans (HW.out.mono B1.out.size))
      have BT := hide (BA.out.trans (BW.out.mono BA.out.size))
      have QW := hide (Q2.out.below BW.out Q2.out.lt)
      by_cases hlt : i < 9
      · have hlt' : (i : Int) ≤ 8 := by omega
        have FK := hide (FO.out wr v' (TS.out.below HW.out) k)
        have E1 : Hid (R = match firstT cs k with | none => (Ent.zero, 125) | some e => if e.kind = 2 then findN cs (9 - (i + 1)) e.text else (e, 0)) := hide (by
          rw [← HF.out, show 9 - i = (9 - (i + 1)) + 1 by omega]; rfl)
        clear HF
        cases hf : firstT cs k with
        | none =>
          rw [hf] at FK E1
          have EE : Hid (R = (Ent.zero, 125)) := hide E1.out
          clear E1 hf
          go_wp2_with fail
          refine FK.out.mono ?_
          rintro e w2 ⟨rfl, hb2⟩
          have QV := hide ((QW.out.below hb2 QW.out.lt).alloc (.cells #[.string ⟨#[]⟩, .int .i64 0, .string ⟨#[]⟩, .int .i64 0] 39))
          have BV := hide ((BT.out.trans (hb2.mono BT.out.size)).alloc (BT.out.trans (hb2.mono BT.out.size)).size (.cells #[.string ⟨#[]⟩, .int .i64 0, .string ⟨#[]⟩, .int .i64 0] 39))
          have f0 := QV.out.free 0
          have f1 := QV.out.free 1
          have f2 := QV.out.free 2
          have f3 := QV.out.free 3
          have y0 := QV.out.cell 0
          have y1 := QV.out.cell 1
          have y2 := QV.out.cell 2
          have y3 := QV.out.cell 3
          clear hb2 FK
          unfold entV Ent.zero
          simp only [Option.getD_none, Option.isSome_none]
          go_wp2
          refine bodyPost_ret (results_ent2 rfl _ _ _ _ _ _ _ rfl (QV.out.put4 _ _ _ _)) rfl ?_
          exact ⟨by rw [EE.out]; rfl, below_putE BV.out (Nat.le_succ _) _ _ _ _⟩
        | some g =>
          rw [hf] at FK E1
          have E1' : Hid (R = if g.kind = 2 then findN cs (9 - (i + 1)) g.text else (g, 0)) := hide E1.out
          obtain ⟨gk, gd, gt, gn⟩ := g
          clear E1 hf
          go_wp2_with fail
          refine FK.out.mono ?_
          rintro e w2 ⟨rfl, hb2⟩
          have QV := hide ((QW.out.below hb2 QW.out.lt).alloc (.cells #[.string gk, .int .i64 gd, .string gt, .int .i64 gn] 39))
          have BV := hide ((BT.out.trans (hb2.mono BT.out.size)).alloc (BT.out.trans (hb2.mono BT.out.size)).size (.cells #[.string gk, .int .i64 gd, .string gt, .int .i64 gn] 39))
          have BN := hide ((HW.out.trans (hb2.mono HW.out.size)).alloc (HW.out.trans (hb2.mono HW.out.size)).size (.cells #[.string gk, .int .i64 gd, .string gt, .int .i64 gn] 39))
          have f0 := QV.out.free 0
          have f1 := QV.out.free 1
          have f2 := QV.out.free 2
          have f3 := QV.out.free 3
          have y0 := QV.out.cell 0
          have y1 := QV.out.cell 1
          have y2 := QV.out.cell 2
          have y3 := QV.out.cell 3
          clear hb2 FK
          unfold entV
          simp only [Option.getD_some, Option.isSome_some]
          by_cases h2 : gd = 2
          · have EE : Hid (findN cs (9 - (i + 1)) gt = R) := hide (by rw [E1'.out, if_pos h2])
            have h2' : (gd == 2) = true := beq_iff_eq.2 h2
            have h2b : (gd != 2) = false := by rw [bne, h2']; rfl
            clear E1' h2
            go_wp2
            exact ⟨⟨i + 1, gt, by omega, rfl, by go_num, EE, BN⟩, by simp [intOf]; omega⟩
          · have EE : Hid (R = (⟨gk, gd, gt, gn⟩, 0)) := hide (by rw [E1'.out, if_neg h2])
            have h2' : (gd == 2) = false := beq_eq_false_iff_ne.2 h2
            have h2b : (gd != 2) = true := by rw [bne, h2']; rfl
            clear E1' h2
            go_wp2
            refine bodyPost_ret (results_ent2 rfl _ _ _ _ _ _ _ rfl (QV.out.put4 _ _ _ _)) rfl ?_
            exact ⟨by rw [EE.out]; rfl, below_putE BV.out (Nat.le_succ _) _ _ _ _⟩
      · obtain rfl : i = 9 := by omega
        rw [show ((9 : Nat) : Int) = 9 from rfl]
        have EE : Hid (R = (Ent.zero, 124)) := hide (by rw [← HF.out]; rfl)
        have f0 := QW.out.free 0
        have f1 := QW.out.free 1
        have f2 := QW.out.free 2
        have f3 := QW.out.free 3
        have y0 := QW.out.cell 0
        have y1 := QW.out.cell 1
        have y2 := QW.out.cell 2
        have y3 := QW.out.cell 3
        clear HF hlt
        go_wp2
        refine bodyPost_ret (results_ent2 rfl _ _ _ _ _ _ _ rfl (QW.out.put4 _ _ _ _)) rfl ?_
        exact ⟨by rw [EE.out]; rfl, below_putE BT.out (Nat.le_succ _) _ _ _ _⟩
  · have EE : Hid (R = (Ent.zero, C)) := hide (by rw [RE.out, if_pos hC])
    have hC' : ((C : Int) == 0) = false := beq_eq_false_iff_ne.2 (by omega)
    have hC2 : ((C : Int) != 0) = true := by rw [bne, hC']; rfl
    clear RE CG
    go_enter Tryz.func16, Tryz.ntmps16
    go_wp2_with (simp only [HWA.out])
    refine CH.out.mono ?_
    rintro e w1 ⟨v', rfl, _, _, hb1⟩
    have QV := hide (Q2.out.below hb1 Q2.out.lt)
    have BV := hide (BA.out.trans (hb1.mono BA.out.size))
    have f0 := QV.out.free 0
    have f1 := QV.out.free 1
    have f2 := QV.out.free 2
    have f3 := QV.out.free 3
    have y0 := QV.out.cell 0
    have y1 := QV.out.cell 1
    have y2 := QV.out.cell 2
    have y3 := QV.out.cell 3
    clear hb1 CH
    go_wp2
    refine bodyPost_ret (results_ent2 rfl _ _ _ _ _ _ _ rfl (QV.out.put4 _ _ _ _)) rfl ?_
    exact ⟨by rw [EE.out]; rfl, below_putE BV.out (Nat.le_succ _) _ _ _ _⟩

end Go.Proofs.YtobmdifledegbaaGreatDoor

namespace Go.Proofs.YtobmdifledegbaaGreatDoor
open Go.RowKit

theorem PM.mono {qs : List (List UInt8)} {l l' : List ByteArray} (h : PM qs l) (e : l = l') : PM qs l' := by rw [← e]; exact h

set_option maxRecDepth 100000 in
set_option maxHeartbeats 4000000 in
theorem rKeys_any {w : World} {v : Value} {ts : List Tab} (n bg : ByteArray) (h : TSl w v ts) (hl : ts.length ≤ 4398046511104) (hz : SzT ts) : Calls Tryz.prog 18 #[.agg #[v], .string n, .string bg] w fun e w' => AnsK (chE ts n) (poolL (keysL bg (chL ts n))) w e w' := by
  obtain ⟨WA, hWA⟩ : ∃ WA, WA = w.alloc (.cells #[v] 24) := ⟨_, rfl⟩
  have BA : Hid (Below w.heap.size w WA) := hide (by rw [hWA]; exact (Below.refl _ _).alloc (Nat.le_refl _) _)
  have Q1 : Hid (Blk WA w.heap.size #[v] 24) := hide (by rw [hWA]; exact Blk.newAt _ _ rfl _ _)
  have HWA := hide hWA.symm
  have CH := hide (rchain_any n (h.below BA.out) hl hz)
  have CG : Hid (chE ts n = 0 → Good (chL ts n) ∧ (chL ts n).length ≤ 16 ∧ chL ts n ≠ [] ∧ checkT ts = 0) := hide ch_good
  generalize chE ts n = C at *
  generalize chL ts n = cs at *
  obtain ⟨ao, cap, rfl, hcap, hat⟩ := h
  have q0 := Q1.out.cell 0
  clear hWA hz hat
  by_cases hC : C = 0
  · subst hC
    obtain ⟨hg, hl16, _, _⟩ := CG.out rfl
    have GE : Hid (∀ j, (tabN cs j).ents.length ≤ 1024) := hide (good_ents hg)
    clear CG hg
    rw [show ((0 : Nat) : Int) = 0 from rfl] at CH
    go_enter Tryz.func18, Tryz.ntmps18
    go_wp2_with (simp only [HWA.out])
    refine CH.out.mono ?_
    rintro e w1 ⟨v', rfl, hts, _, hb1⟩
    obtain ⟨a1, cp1, rfl, hc1, hat1⟩ := hts trivial
    obtain ⟨L, hL⟩ : ∃ L, L = cs.length := ⟨_, rfl⟩
    have HL := hide hL
    rw [← hL] at hl16 hc1 ⊢
    have B1 := hide hb1
    have HAT := hide hat1
    clear hb1 hts CH hL hat1 q0
    go_wp2
    go_loopw [10, 11] (fun u y wr => ∃ (k : Nat) (qs : List (List UInt8)), y = .int .i64 (k : Int) ∧ k ≤ L ∧ Hid (RowS wr w1.heap.size u qs) ∧ Hid (u ≠ .slice none 0 0) ∧ Hid (Rise qs ∧ PM qs (keysL bg (cs.take k))) ∧ Hid (qs.length ≤ k * 3000) ∧ Hid (Below w1.heap.size w1 wr)) (fun _ y _ => L - (intOf y).toNat)
    case atStart =>
      refine ⟨0, [], rfl, Nat.zero_le _, hide ?_, hide (fun e => by cases e), hide ⟨List.Pairwise.nil, fun x => by simp [keysL]⟩, hide (Nat.zero_le _), hide ((Below.refl _ _).alloc (Nat.le_refl _) _)⟩
      exact World.ownsRow_lit w1 #[] 0 (Nat.le_refl _) (by unfold maxLen; omega) rfl
    case round =>
      obtain ⟨k, qs, rfl, hk, HR, HN, HM, HC, HW⟩ := hrel
      by_cases hkl : k < L
      · have hkl' : (k : Int) < (L : Int) := by omega
        have hkt : k < cs.length := by rw [← HL.out]; exact hkl
        have hek := GE.out k
        have TX := hide (keysL_next bg cs k hkt)
        obtain ⟨b, o, rfl, HBB, HCL⟩ : ∃ b o, a1 = some ⟨b, o, none⟩ ∧ Hid (b < w1.heap.size) ∧ Hid (∀ i, i < cs.length → TabAt w1 b o i (tabN cs i)) := by
          rcases HAT.out with q | ⟨b, o, rfl, q, hcl⟩
          · rw [q] at hkt; simp at hkt
          · exact ⟨b, o, rfl, hide q, hide hcl⟩
        obtain ⟨d0, d1, ve, d2, hes⟩ := HCL.out k hkt
        obtain ⟨es, hes'⟩ : ∃ es, es = (tabN cs k).ents := ⟨_, rfl⟩
        rw [← hes'] at hes TX hek
        obtain ⟨ae, ce, rfl, hce, hea⟩ := hes
        obtain ⟨M, hM⟩ : ∃ M, M = es.length := ⟨_, rfl⟩
        rw [← hM] at d2 hce hek
        have HM0 := hide hM
        have HEA := hide hea
        have CX : Hid (∀ X, Below w1.heap.size w1 X → X.cell? ⟨b, o + k * 3 + 2, none⟩ = some (.slice ae M ce)) := hide (fun X hX => (hX.cell HBB.out).trans d2)
        clear d0 d1 d2 hM hea hkt HCL hes'
        go_wp2
        go_loopw [10, 12] (fun u2 y wr => ∃ (j : Nat) (qs : List (List UInt8)), y = .int .i64 (j : Int) ∧ j ≤ M ∧ Hid (RowS wr w1.heap.size u2 qs) ∧ Hid (u2 ≠ .slice none 0 0) ∧ Hid (Rise qs ∧ PM qs (keysL bg (cs.take k) ++ keysE bg (es.take j))) ∧ Hid (qs.length ≤ k * 3000 + j) ∧ Hid (Below w1.heap.size w1 wr)) (fun _ y _ => M - (intOf y).toNat)
        case atStart => exact ⟨0, qs, rfl, Nat.zero_le _, HR, HN, hide ⟨HM.out.1, by have := HM.out.2; simpa [keysE] using this⟩, HC, HW⟩
        case round =>
          clear HR HN HM HC HW
          obtain ⟨j, qs2, rfl, hj, HR2, HN2, HM2, HC2, HW2⟩ := hrel
          have c2 := CX.out wr HW2.out
          by_cases hjl : j < M
          · have hjl' : (j : Int) < (M : Int) := by omega
            have hje : j < es.length := by rw [← HM0.out]; exact hjl
            obtain ⟨b2, o2, rfl, HECL⟩ : ∃ b2 o2, ae = some ⟨b2, o2, none⟩ ∧ Hid (∀ X, Below w1.heap.size w1 X → ∀ i, i < es.length → X.cell? ⟨b2, o2 + i * 4, none⟩ = some (.string (entN es i).key)) := by
              rcases HEA.out with q | ⟨b2, o2, rfl, q, hcl⟩
              · rw [q] at hje; simp at hje
              · exact ⟨b2, o2, rfl, hide (fun X hX i hi => (hX.cell q).trans (hcl i hi).1)⟩
            have x0 := HECL.out wr HW2.out j hje
            have PE := hide (keysE_next bg es j hje)
            obtain ⟨ek, hek0⟩ : ∃ ek, ek = (entN es j).key := ⟨_, rfl⟩
            rw [← hek0] at x0 PE
            have HP := hide (Lib.hasPrefix_raw ek bg)
            clear hek0 hje
            have hB2 : Hid (w1.heap.size ≤ wr.heap.size) := hide HW2.out.size
            have W1 := hide (with_any ek HR2.out HN2.out HM2.out.1 (by have := HC2.out; omega) hB2.out)
            by_cases hsz : bg.size ≤ ek.size
            · have hsz' : (bg.size : Int) ≤ (ek.size : Int) := by omega
              have HP2 : Hid (((ek.extract 0 bg.size).toList == bg.toList) = begins bg ek) := hide (by
                have := HP.out
                rw [decide_eq_true hsz, Bool.true_and] at this
                exact this)
              obtain ⟨V, hV⟩ : ∃ V, V = begins bg ek := ⟨_, rfl⟩
              rw [← hV] at HP2 PE
              have hq := HP2.out
              clear hV hsz HP
              cases V with
              | true =>
                go_wp2_with fail
                refine W1.out.mono ?_
                rintro x w2 ⟨v3, qs3, rfl, hr3, hrise3, hmem3, hlen3, hnn3, hg3⟩
                have HW3 := hide (WithA.below hg3 HR2.out HW2.out hB2.out)
                have M3 := hide (HM2.out.2.add hmem3)
                have L3 : Hid (qs3.length ≤ k * 3000 + (j + 1)) := hide (by have := HC2.out; omega)
                have R3 := hide hr3
                have N3 := hide hnn3
                have RI3 := hide hrise3
                clear hr3 hnn3 hg3 hmem3 hlen3 hrise3 W1
                go_wp2
                exact ⟨⟨j + 1, qs3, by go_num, by omega, R3, N3, hide ⟨RI3.out, M3.out.mono (by rw [PE.out]; simp)⟩, L3, HW3⟩, by simp [intOf]; omega⟩
              | false =>
                clear W1
                go_wp2
                exact ⟨⟨j + 1, qs2, by go_num, by omega, HR2, HN2, hide ⟨HM2.out.1, HM2.out.2.mono (by rw [PE.out, if_neg (by decide), List.append_nil])⟩, hide (by have := HC2.out; omega), HW2⟩, by simp [intOf]; omega⟩
            · have hsz' : ¬ (bg.size : Int) ≤ (ek.size : Int) := by omega
              have HP2 : Hid (begins bg ek = false) := hide (by
                have := HP.out
                rw [decide_eq_false hsz, Bool.false_and] at this
                exact this.symm)
              rw [HP2.out, if_neg (by decide), List.append_nil] at PE
              clear W1 hsz HP HP2
              go_wp2
              exact ⟨⟨j + 1, qs2, by go_num, by omega, HR2, HN2, hide ⟨HM2.out.1, HM2.out.2.mono (by rw [PE.out])⟩, hide (by have := HC2.out; omega), HW2⟩, by simp [intOf]; omega⟩
          · obtain rfl : j = M := by omega
            have hjl' : ¬ (j : Int) < (j : Int) := by omega
            clear hjl
            go_wp2
            exact ⟨⟨k + 1, qs2, by go_num, by omega, HR2, HN2, hide ⟨HM2.out.1, HM2.out.2.mono (by rw [TX.out, HM0.out, List.take_length])⟩, hide (by have := HC2.out; omega), HW2⟩, by simp [intOf]; omega⟩
      · obtain rfl : k = L := by omega
        have hkl' : ¬ (k : Int) < (k : Int) := by omega
        have HP : Hid (qs = poolL (keysL bg cs)) := hide (by
          have := HM.out.2.pool HM.out.1
          rw [HL.out, List.take_length] at this
          exact this)
        have hrow := HR.out
        have hnn := HN.out
        rw [HP.out] at hrow
        obtain ⟨q, cp, rfl⟩ : ∃ q cp, u10 = .slice (some ⟨q, 0, none⟩) (poolL (keysL bg cs)).length cp := by
          rcases hrow.2 with ⟨h1, _⟩ | ⟨g, cu, cur, h1, _⟩
          · exact absurd h1 hnn
          · exact ⟨g, cu, h1⟩
        have HRW := hide hrow
        clear hkl HM HC HR hrow hnn HN
        go_wp2
        go_ret2
        exact AnsK.ok q cp rfl (RowS.base HRW.out (by have := B1.out.size; have := BA.out.size; omega)) (BA.out.trans ((B1.out.trans (HW.out.mono B1.out.size)).mono BA.out.size))
  · have hC' : ((C : Int) == 0) = false := beq_eq_false_iff_ne.2 (by omega)
    have hC2 : ((C : Int) != 0) = true := by rw [bne, hC']; rfl
    clear CG
    go_enter Tryz.func18, Tryz.ntmps18
    go_wp2_with (simp only [HWA.out])
    refine CH.out.mono ?_
    rintro e w1 ⟨v', rfl, _, hv, hb1⟩
    have B1 := hide (BA.out.trans (hb1.mono BA.out.size))
    clear hb1 CH hv q0
    go_wp2
    go_ret2
    exact AnsK.no hC rfl B1.out

end Go.Proofs.YtobmdifledegbaaGreatDoor
