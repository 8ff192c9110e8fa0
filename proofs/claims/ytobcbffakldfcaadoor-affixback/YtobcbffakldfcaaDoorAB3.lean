/-
  What affix's kindOf, isLetter, after and plain answer.
  What follows for tokens and texts: texts joined by a sign; what is printed is read as it was.
  What is printed is read as it was: the mathematics.
  How a text is put into quotes, row by row: what the library's cuts answer, told by runes.
  Quotes: what the library's Replace and Trim answer of a row of runes; the text of tokens in rows, and its length.
  (*strings.Builder).WriteString at this dump: what it leaves in a builder.
  What affix's isBound, isFree, cut, quoted and textOf answer.
-/
import Derived.Test.YtobcbffakldfcaaDoorAB2
import Derived.Test.YtobcbffakldfcaaDoorAB1
import Derived.Lib.MapLaws
import Derived.Lib.Replace
import Derived.Lib.TrimByte
import Derived.Shelf.Strings.FuncGrows
import Derived.Lib.CountLaws
import Derived.Test.YtobcbffakldfcaaDoorAOwn
import Derived.Lib.Builder
import Derived.Lib.AppendStr
import Derived.Lib.UnsafeStr
import Derived.Laws.Externs
import Derived.Test.YtobcbffakldfcaaDoorAShelf
import Derived.Laws.Runes
namespace Go.Proofs.YtobcbffakldfcaaDoor
open Go.RowKit

theorem aft_lt (st : Nat) (r : List UInt8) : aft st r ≤ 3 := by
  unfold aft
  repeat' split
  all_goals omega

theorem eqTL (a : ByteArray) (l : List UInt8) : (a.toList == l) = decide (bys a = l) := by
  rw [sl]
  by_cases h : bys a = l
  · rw [decide_eq_true h]
    show (bys a == l) = true
    rw [h]; simp
  · rw [decide_eq_false h]
    show (bys a == l) = false
    exact beq_eq_false_iff_ne.2 h
theorem eqTR (a : ByteArray) (l : List UInt8) : (l == a.toList) = decide (bys a = l) := by
  rw [← eqTL]
  by_cases h : a.toList = l
  · rw [h]
  · rw [beq_eq_false_iff_ne.2 h, beq_eq_false_iff_ne.2 (Ne.symm h)]

set_option maxRecDepth 100000 in
set_option maxHeartbeats 2000000 in
theorem after_any (st : Nat) (r : ByteArray) (w : World) (hst : st ≤ 3) (hT : Wd w) : Calls Tryd.prog 32 #[.int .i64 (st : Int), .string r] w fun e w' => e = .returned (.int .i64 (aft st (bys r) : Int)) ∧ w = w' := by
  obtain ⟨_, _, _, _, _, _, _, m0, m1, m2, m3, m4, m5, m6, m7, _⟩ := hT
  have ee := eqTL r [39]
  by_cases h : bys r = [39]
  · rw [decide_eq_true h] at ee
    have hs : st = 0 ∨ st = 1 ∨ st = 2 ∨ st = 3 := by omega
    rcases hs with rfl | rfl | rfl | rfl
    all_goals
      have E1 := hide (show ∀ z, aft z (bys r) = if z = 0 then 1 else if z = 1 then 0 else if z = 2 then 3 else 2 from fun z => by unfold aft; rw [if_pos h])
      rw [E1.out]
      clear h hst
      go_enter Tryd.func32, Tryd.ntmps32
      go_wp2
      go_ret
      exact ⟨rfl, rfl⟩
  · rw [decide_eq_false h] at ee
    have hs : st = 0 ∨ st = 1 ∨ st = 2 ∨ st = 3 := by omega
    rcases hs with rfl | rfl | rfl | rfl
    all_goals
      have E1 := hide (show ∀ z, aft z (bys r) = if z = 0 then 0 else if z = 1 then 2 else if z = 2 then 2 else 0 from fun z => by unfold aft; rw [if_neg h])
      rw [E1.out]
      clear h hst
      go_enter Tryd.func32, Tryd.ntmps32
      go_wp2
      go_ret
      exact ⟨rfl, rfl⟩

theorem occ_mem {L t : List UInt8} {a : UInt8} {i : Nat} (h : Lib.occAt L (a :: t) i = true) : a ∈ L := by
  unfold Lib.occAt at h
  cases hd : L.drop i with
  | nil => rw [hd] at h; simp at h
  | cons b l =>
    rw [hd] at h
    simp only [List.isPrefixOf, Bool.and_eq_true, beq_iff_eq] at h
    rw [h.1]
    exact List.mem_of_mem_drop (i := i) (by rw [hd]; exact List.mem_cons_self)
theorem cont_iff (L t : List UInt8) : Lib.contains L t = true ↔ ∃ i, i ≤ L.length ∧ Lib.occAt L t i = true := by
  unfold Lib.contains
  rw [decide_eq_true_iff]
  rcases Lib.index_spec L t with ⟨h1, h2⟩ | ⟨i, h1, h2, h3, _⟩
  · rw [h1]
    refine ⟨fun h => absurd h (by omega), fun ⟨i, hi, h⟩ => ?_⟩
    rw [h2 i hi] at h; cases h
  · rw [h1]
    exact ⟨fun _ => ⟨i, h2, h3⟩, fun _ => by omega⟩
theorem letters_low : ∀ a ∈ lettersL, a.toNat < 128 := by decide
theorem rune_low {r : List UInt8} (h : IsR r) (hl : byB r 0 < 128) : r.length = 1 := by
  rw [← h.1]
  unfold runeL runeN
  rw [if_neg h.len, if_pos hl]
theorem contains_rune (r : List UInt8) (h : IsR r) : Lib.contains lettersL r = letB r := by
  rw [Bool.eq_iff_iff, cont_iff]
  match r, h with
  | [], h => exact absurd rfl h.2
  | [c], _ =>
    show _ ↔ lettersL.contains c = true
    rw [List.contains_iff_mem]
    refine ⟨fun ⟨i, _, h⟩ => occ_mem h, fun hm => ?_⟩
    obtain ⟨i, hi, he⟩ := List.getElem_of_mem hm
    refine ⟨i, by omega, ?_⟩
    unfold Lib.occAt
    rw [List.drop_eq_getElem_cons hi, he]
    simp [List.isPrefixOf]
  | a :: b :: t, h =>
    refine ⟨fun ⟨i, _, ho⟩ => ?_, fun h => by cases h⟩
    have := rune_low h (letters_low a (occ_mem ho))
    simp at this

set_option maxHeartbeats 1000000 in
theorem isLetter_any (r : ByteArray) (w : World) (hr : IsR (bys r)) (hT : Wd w) : Calls Tryd.prog 34 #[.string r] w fun e w' => e = .returned (.bool (letB (bys r))) ∧ w = w' := by
  obtain ⟨m, hm⟩ := hT.ml
  have HV := hide (Tryd.strings_Contains ⟨#[48, 49, 50, 51, 52, 53, 54, 55, 56, 57, 35, 64, 44, 46, 59, 42]⟩ r m w (by decide) hm)
  have HE := hide (contains_rune (bys r) hr)
  clear hT hm
  go_enter Tryd.func34, Tryd.ntmps34
  go_wp2_with fail
  refine HV.out.mono ?_
  rintro e w1 ⟨rfl, rfl⟩
  go_wp2
  go_ret
  exact ⟨congrArg (fun b => Ending.returned (Value.bool b)) HE.out, rfl⟩

theorem kindB_of (r : List UInt8) (k : Nat) (hk : k ≤ 5) (h : r = sgnL (k : Int)) : kindB r = k := by
  subst h
  have : k = 0 ∨ k = 1 ∨ k = 2 ∨ k = 3 ∨ k = 4 ∨ k = 5 := by omega
  rcases this with rfl | rfl | rfl | rfl | rfl | rfl <;> decide
theorem kindB_none (r : List UInt8) (h : ∀ j : Nat, j < 6 → r ≠ sgnL (j : Int)) : kindB r = 0 := by
  unfold kindB
  rw [if_neg (show ¬ r = [45] from h 1 (by omega)), if_neg (show ¬ r = [43] from h 2 (by omega)), if_neg (show ¬ r = [37] from h 3 (by omega)), if_neg (show ¬ r = [226, 128, 176] from h 4 (by omega)), if_neg (show ¬ r = [194, 164] from h 5 (by omega))]

set_option maxRecDepth 100000 in
set_option maxHeartbeats 4000000 in
theorem kindOf_any (r : ByteArray) (w : World) (hT : Wd w) : Calls Tryd.prog 56 #[.string r] w fun e w' => e = .returned (.int .i64 (kindB (bys r) : Int)) ∧ w = w' := by
  obtain ⟨_, s0, s1, s2, s3, s4, s5, _, _, _, _, _, _, _, _, _⟩ := hT
  have KF := hide (kindB_of (bys r))
  have KN := hide (kindB_none (bys r))
  have e0 := hide (eqTR r [])
  have e1 := hide (eqTR r [45])
  have e2 := hide (eqTR r [43])
  have e3 := hide (eqTR r [37])
  have e4 := hide (eqTR r [226, 128, 176])
  have e5 := hide (eqTR r [194, 164])
  go_enter Tryd.func56, Tryd.ntmps56
  go_wp2
  go_loopw [6] (fun x wr => ∃ k : Nat, k ≤ 6 ∧ x = .int .i64 (k : Int) ∧ Hid (∀ j : Nat, j < k → bys r ≠ sgnL (j : Int)) ∧ w = wr) (fun x _ => 6 - (intOf x).toNat)
  case atStart => exact ⟨0, by omega, rfl, hide (fun j hj => absurd hj (by omega)), rfl⟩
  case round =>
    obtain ⟨k, hk, rfl, HF, rfl⟩ := hrel
    have hc : k = 0 ∨ k = 1 ∨ k = 2 ∨ k = 3 ∨ k = 4 ∨ k = 5 ∨ k = 6 := by omega
    clear hk
    rcases hc with rfl | rfl | rfl | rfl | rfl | rfl | rfl
    · rw [show ((0 : Nat) : Int) = 0 from rfl]
      have hix : (Instr.index 50 (.agg #[.string ⟨#[]⟩, .string ⟨#[45]⟩, .string ⟨#[43]⟩, .string ⟨#[37]⟩, .string ⟨#[226, 128, 176]⟩, .string ⟨#[194, 164]⟩]) (.int .i64 0)).run Tryd.prog w = .ok (.string ⟨#[]⟩) w := by kernel_rfl
      by_cases h : bys r = []
      · have ee := e0.out
        rw [decide_eq_true h] at ee
        have EK := hide (KF.out 0 (by omega) h)
        clear e0 e1 e2 e3 e4 e5 h HF KN KF
        go_wp2
        go_ret
        exact ⟨by rw [EK.out]; rfl, rfl⟩
      · have ee := e0.out
        rw [decide_eq_false h] at ee
        have HF' : Hid (∀ j : Nat, j < 1 → bys r ≠ sgnL (j : Int)) := hide (fun j hj => by
          rcases Nat.lt_or_ge j 0 with h1 | h1
          · exact HF.out j h1
          · have : j = 0 := by omega
            subst this
            exact h)
        clear e0 e1 e2 e3 e4 e5 h HF KN KF
        go_wp2
        exact ⟨⟨1, by omega, by go_num, HF', trivial⟩, by simp [intOf]⟩
    · rw [show ((1 : Nat) : Int) = 1 from rfl]
      have hix : (Instr.index 50 (.agg #[.string ⟨#[]⟩, .string ⟨#[45]⟩, .string ⟨#[43]⟩, .string ⟨#[37]⟩, .string ⟨#[226, 128, 176]⟩, .string ⟨#[194, 164]⟩]) (.int .i64 1)).run Tryd.prog w = .ok (.string ⟨#[45]⟩) w := by kernel_rfl
      by_cases h : bys r = [45]
      · have ee := e1.out
        rw [decide_eq_true h] at ee
        have EK := hide (KF.out 1 (by omega) h)
        clear e0 e1 e2 e3 e4 e5 h HF KN KF
        go_wp2
        go_ret
        exact ⟨by rw [EK.out]; rfl, rfl⟩
      · have ee := e1.out
        rw [decide_eq_false h] at ee
        have HF' : Hid (∀ j : Nat, j < 2 → bys r ≠ sgnL (j : Int)) := hide (fun j hj => by
          rcases Nat.lt_or_ge j 1 with h1 | h1
          · exact HF.out j h1
          · have : j = 1 := by omega
            subst this
            exact h)
        clear e0 e1 e2 e3 e4 e5 h HF KN KF
        go_wp2
        exact ⟨⟨2, by omega, by go_num, HF', trivial⟩, by simp [intOf]⟩
    · rw [show ((2 : Nat) : Int) = 2 from rfl]
      have hix : (Instr.index 50 (.agg #[.string ⟨#[]⟩, .string ⟨#[45]⟩, .string ⟨#[43]⟩, .string ⟨#[37]⟩, .string ⟨#[226, 128, 176]⟩, .string ⟨#[194, 164]⟩]) (.int .i64 2)).run Tryd.prog w = .ok (.string ⟨#[43]⟩) w := by kernel_rfl
      by_cases h : bys r = [43]
      · have ee := e2.out
        rw [decide_eq_true h] at ee
        have EK := hide (KF.out 2 (by omega) h)
        clear e0 e1 e2 e3 e4 e5 h HF KN KF
        go_wp2
        go_ret
        exact ⟨by rw [EK.out]; rfl, rfl⟩
      · have ee := e2.out
        rw [decide_eq_false h] at ee
        have HF' : Hid (∀ j : Nat, j < 3 → bys r ≠ sgnL (j : Int)) := hide (fun j hj => by
          rcases Nat.lt_or_ge j 2 with h1 | h1
          · exact HF.out j h1
          · have : j = 2 := by omega
            subst this
            exact h)
        clear e0 e1 e2 e3 e4 e5 h HF KN KF
        go_wp2
        exact ⟨⟨3, by omega, by go_num, HF', trivial⟩, by simp [intOf]⟩
    · rw [show ((3 : Nat) : Int) = 3 from rfl]
      have hix : (Instr.index 50 (.agg #[.string ⟨#[]⟩, .string ⟨#[45]⟩, .string ⟨#[43]⟩, .string ⟨#[37]⟩, .string ⟨#[226, 128, 176]⟩, .string ⟨#[194, 164]⟩]) (.int .i64 3)).run Tryd.prog w = .ok (.string ⟨#[37]⟩) w := by kernel_rfl
      by_cases h : bys r = [37]
      · have ee := e3.out
        rw [decide_eq_true h] at ee
        have EK := hide (KF.out 3 (by omega) h)
        clear e0 e1 e2 e3 e4 e5 h HF KN KF
        go_wp2
        go_ret
        exact ⟨by rw [EK.out]; rfl, rfl⟩
      · have ee := e3.out
        rw [decide_eq_false h] at ee
        have HF' : Hid (∀ j : Nat, j < 4 → bys r ≠ sgnL (j : Int)) := hide (fun j hj => by
          rcases Nat.lt_or_ge j 3 with h1 | h1
          · exact HF.out j h1
          · have : j = 3 := by omega
            subst this
            exact h)
        clear e0 e1 e2 e3 e4 e5 h HF KN KF
        go_wp2
        exact ⟨⟨4, by omega, by go_num, HF', trivial⟩, by simp [intOf]⟩
    · rw [show ((4 : Nat) : Int) = 4 from rfl]
      have hix : (Instr.index 50 (.agg #[.string ⟨#[]⟩, .string ⟨#[45]⟩, .string ⟨#[43]⟩, .string ⟨#[37]⟩, .string ⟨#[226, 128, 176]⟩, .string ⟨#[194, 164]⟩]) (.int .i64 4)).run Tryd.prog w = .ok (.string ⟨#[226, 128, 176]⟩) w := by kernel_rfl
      by_cases h : bys r = [226, 128, 176]
      · have ee := e4.out
        rw [decide_eq_true h] at ee
        have EK := hide (KF.out 4 (by omega) h)
        clear e0 e1 e2 e3 e4 e5 h HF KN KF
        go_wp2
        go_ret
        exact ⟨by rw [EK.out]; rfl, rfl⟩
      · have ee := e4.out
        rw [decide_eq_false h] at ee
        have HF' : Hid (∀ j : Nat, j < 5 → bys r ≠ sgnL (j : Int)) := hide (fun j hj => by
          rcases Nat.lt_or_ge j 4 with h1 | h1
          · exact HF.out j h1
          · have : j = 4 := by omega
            subst this
            exact h)
        clear e0 e1 e2 e3 e4 e5 h HF KN KF
        go_wp2
        exact ⟨⟨5, by omega, by go_num, HF', trivial⟩, by simp [intOf]⟩
    · rw [show ((5 : Nat) : Int) = 5 from rfl]
      have hix : (Instr.index 50 (.agg #[.string ⟨#[]⟩, .string ⟨#[45]⟩, .string ⟨#[43]⟩, .string ⟨#[37]⟩, .string ⟨#[226, 128, 176]⟩, .string ⟨#[194, 164]⟩]) (.int .i64 5)).run Tryd.prog w = .ok (.string ⟨#[194, 164]⟩) w := by kernel_rfl
      by_cases h : bys r = [194, 164]
      · have ee := e5.out
        rw [decide_eq_true h] at ee
        have EK := hide (KF.out 5 (by omega) h)
        clear e0 e1 e2 e3 e4 e5 h HF KN KF
        go_wp2
        go_ret
        exact ⟨by rw [EK.out]; rfl, rfl⟩
      · have ee := e5.out
        rw [decide_eq_false h] at ee
        have HF' : Hid (∀ j : Nat, j < 6 → bys r ≠ sgnL (j : Int)) := hide (fun j hj => by
          rcases Nat.lt_or_ge j 5 with h1 | h1
          · exact HF.out j h1
          · have : j = 5 := by omega
            subst this
            exact h)
        clear e0 e1 e2 e3 e4 e5 h HF KN KF
        go_wp2
        exact ⟨⟨6, by omega, by go_num, HF', trivial⟩, by simp [intOf]⟩
    · rw [show ((6 : Nat) : Int) = 6 from rfl]
      have EK := hide (KN.out HF.out)
      clear e0 e1 e2 e3 e4 e5 HF KN KF
      go_wp2
      go_ret
      exact ⟨by rw [EK.out]; rfl, rfl⟩

theorem Blk.put3T {w : World} {b : Nat} {t : TypeId} {x0 x1 x2 : Value} (h : Blk w b #[x0, x1, x2] t) (y0 y1 y2 : Value) : Blk (((w.setCell ⟨b, 0, none⟩ y0).setCell ⟨b, 1, none⟩ y1).setCell ⟨b, 2, none⟩ y2) b #[y0, y1, y2] t := by
  unfold Blk at *
  simp only [World.setCell, Array.getElem?_modify, if_true, h, Option.map_some]
  rfl
theorem results_tok {fn : Func} {a : Tmp} (h : fn.results = #[.cell a 32]) (tmps : Array Value) (H : Nat) (x0 x1 x2 : Value) (w : World) (ht : tmps.getD a undef = .pointer (some ⟨H, 0, none⟩)) (hp : Blk w H #[x0, x1, x2] 32) :
    (results fn tmps).run Tryd.prog w = .ok (.agg #[x0, x1, x2]) w := by
  have c0 := hp.cell 0
  have c1 := hp.cell 1
  have c2 := hp.cell 2
  simp at c0 c1 c2
  rw [Array.getD_eq_getD_getElem?] at ht
  simp [results, h, ht, go_sem, c0, c1, c2]
theorem below_putT {w W : World} {H : Nat} (h : Below w.heap.size w W) (hH : w.heap.size ≤ H) (y0 y1 y2 : Value) : Below w.heap.size w (((W.setCell ⟨H, 0, none⟩ y0).setCell ⟨H, 1, none⟩ y1).setCell ⟨H, 2, none⟩ y2) :=
  ((h.setCell hH _).setCell hH _).setCell hH _

set_option maxRecDepth 100000 in
set_option maxHeartbeats 4000000 in
theorem plain_any (r : ByteArray) (w : World) (hT : Wd w) : Calls Tryd.prog 35 #[.string r] w fun e w' => e = .returned (tokV (plnT (bys r))) ∧ Below w.heap.size w w' := by
  have HB0 : Hid (Below w.heap.size w (w.alloc (.cells #[.int .i64 0, .int .i64 0, .string ⟨#[]⟩] 32))) := (Below.refl _ _).alloc (Nat.le_refl _) _
  have BR := hide (Blk.newAt w w.heap.size rfl #[.int .i64 0, .int .i64 0, .string ⟨#[]⟩] 32)
  obtain ⟨W, hW⟩ : ∃ W, W = w.alloc (.cells #[.int .i64 0, .int .i64 0, .string ⟨#[]⟩] 32) := ⟨_, rfl⟩
  rw [← hW] at HB0 BR
  have HW := hide hW.symm
  have HK := hide (kindOf_any r W (hT.below HB0.out))
  have hk5 : kindB (bys r) ≤ 5 := by
    unfold kindB
    repeat' split
    all_goals omega
  have EP : Hid (plnT (bys r) = if kindB (bys r) = 0 then txtT (bys r) else sgnT (kindB (bys r))) := hide rfl
  have ET : Hid (tokV (txtT (bys r)) = .agg #[.int .i64 0, .int .i64 0, .string r]) := hide rfl
  have c0 := BR.out.cell 0
  have c1 := BR.out.cell 1
  have c2 := BR.out.cell 2
  have f0 := BR.out.free 0
  have f1 := BR.out.free 1
  have f2 := BR.out.free 2
  generalize plnT (bys r) = PL at *
  generalize txtT (bys r) = TX at *
  generalize kindB (bys r) = k at *
  clear hT hW
  have hc : k = 0 ∨ k = 1 ∨ k = 2 ∨ k = 3 ∨ k = 4 ∨ k = 5 := by omega
  rcases hc with rfl | rfl | rfl | rfl | rfl | rfl
  all_goals
    go_enter Tryd.func35, Tryd.ntmps35
    go_wp2_with (simp only [HW.out])
    refine HK.out.mono ?_
    rintro e w1 ⟨rfl, rfl⟩
    clear HK hk5
    go_wp2
    refine bodyPost_ret (results_tok rfl _ _ _ _ _ _ rfl (BR.out.put3T _ _ _)) rfl ?_
    refine ⟨?_, below_putT HB0.out (Nat.le_refl _) _ _ _⟩
    rw [EP.out]
    first
    | (rw [if_pos trivial, ET.out])
    | rfl

end Go.Proofs.YtobcbffakldfcaaDoor

namespace Go.Proofs.YtobcbffakldfcaaDoor

theorem nil_or_snoc {α : Type} (l : List α) : l = [] ∨ ∃ p a, l = p ++ [a] := by
  rcases List.eq_nil_or_concat l with h | ⟨p, a, h⟩
  · exact .inl h
  · exact .inr ⟨p, a, by rw [h, List.concat_eq_append]⟩
theorem runsP_cons (st : Nat) (l : List Tok) (r : List UInt8) (rs : List (List UInt8)) : runsP st l (r :: rs) = match stepP st l r with | none => none | some q => runsP q.1 q.2 rs := rfl
theorem addT_nil (t : Tok) : addT [] t = [t] := rfl
theorem addT_snoc (p : List Tok) (a t : Tok) : addT (p ++ [a]) t = if joinT a t then p ++ [merT a t] else p ++ [a] ++ [t] := by
  unfold addT
  rw [List.getLast?_concat]
  simp only [List.dropLast_concat]
theorem coinsT_snoc (p : List Tok) (a : Tok) : coinsT (p ++ [a]) = if a.kind = 5 then a.many else 0 := by
  unfold coinsT
  rw [List.getLast?_concat]
theorem runsP_app : ∀ (a b : List (List UInt8)) (st : Nat) (l : List Tok), runsP st l (a ++ b) = (runsP st l a).bind fun q => runsP q.1 q.2 b
  | [], _, _, _ => rfl
  | r :: a, b, st, l => by
    rw [List.cons_append, runsP_cons, runsP_cons]
    cases stepP st l r with
    | none => rfl
    | some q => exact runsP_app a b q.1 q.2

theorem stepP_st {st : Nat} {l : List Tok} {r : List UInt8} {q : Nat × List Tok} (h : stepP st l r = some q) : q.1 ≤ 3 := by
  unfold stepP aft at h
  revert h
  repeat' split
  all_goals (intro h; first | (cases h; simp only; try split) | cases h)
  all_goals (try split)
  all_goals (try omega)
  all_goals (try split)
  all_goals (try omega)
  all_goals (try split)
  all_goals (try omega)
theorem runsP_st : ∀ (rs : List (List UInt8)) (st : Nat) (l : List Tok) (q : Nat × List Tok), st ≤ 3 → runsP st l rs = some q → q.1 ≤ 3
  | [], st, l, q, h, e => by
    simp only [runsP, Option.some.injEq] at e
    rw [← e]; exact h
  | r :: rs, st, l, q, _, e => by
    rw [runsP_cons] at e
    cases hs : stepP st l r with
    | none => rw [hs] at e; cases e
    | some p => rw [hs] at e; exact runsP_st rs p.1 p.2 q (stepP_st hs) e

theorem badT_app : ∀ (l : List Tok) (p : Option Tok) (s : Tok) (m : List Tok), badT p (l ++ s :: m) = (badT p l || ((!mayTok s || joinO (l.getLast?.or p) s) || badT (some s) m))
  | [], p, s, m => by simp [badT]
  | a :: l, p, s, m => by
    rw [List.cons_append, badT, badT, badT_app l (some a) s m]
    have : (l.getLast?.or (some a)) = ((a :: l).getLast?.or p) := by
      cases l with
      | nil => rfl
      | cons b l =>
        obtain ⟨q, x, h⟩ : ∃ q x, b :: l = q ++ [x] := by
          rcases nil_or_snoc (b :: l) with h | h
          · cases h
          · exact h
        rw [h, ← List.cons_append, List.getLast?_concat, List.getLast?_concat]
        rfl
    rw [this]
    cases (!mayTok a || joinO p a) <;> simp
theorem chkT_bad {l : List Tok} (h : chkT l = 0) : badT none l = false ∧ longT l = false := by
  unfold chkT at h
  cases hb : badT none l with
  | true => rw [hb] at h; simp at h
  | false =>
    rw [hb] at h
    cases hl : longT l with
    | true => rw [hl] at h; simp at h
    | false => exact ⟨rfl, rfl⟩

theorem parseR_ok {l : List UInt8} {m : List Tok} (h : parseR l = (0, m)) : ∃ st, runsP 0 [] (rns l) = some (st, m) ∧ (st = 0 ∨ st = 3) ∧ (runesL l).isSome = true ∧ chkT m = 0 := by
  unfold parseR at h
  cases hr : runsP 0 [] (rns l) with
  | none => rw [hr] at h; cases h
  | some q =>
    rw [hr] at h
    simp only at h
    cases hv : (runesL l).isNone with
    | true => rw [hv] at h; simp at h
    | false =>
      rw [hv] at h
      simp only [Bool.false_eq_true, if_false] at h
      by_cases hq : q.1 = 1 ∨ q.1 = 2
      · rw [if_pos hq] at h; cases h
      · rw [if_neg hq] at h
        have h3 := runsP_st (rns l) 0 [] q (by omega) hr
        by_cases hc : chkT q.2 = 0
        · rw [if_pos hc] at h
          cases h
          refine ⟨q.1, rfl, by omega, ?_, hc⟩
          cases hx : runesL l with
          | none => rw [hx] at hv; cases hv
          | some n => rfl
        · rw [if_neg hc] at h
          exact absurd (congrArg Prod.fst h) hc

theorem parseR_runs {l : List UInt8} {m : List Tok} {st : Nat} (h : runsP 0 [] (rns l) = some (st, m)) (hs : st = 0 ∨ st = 3) (hv : (runesL l).isSome = true) : parseR l = if chkT m = 0 then (0, m) else (chkT m, []) := by
  unfold parseR
  rw [h]
  have : (runesL l).isNone = false := by cases hx : runesL l with | none => rw [hx] at hv; cases hv | some n => rfl
  simp only [this, Bool.false_eq_true, if_false]
  rw [if_neg (by omega)]

end Go.Proofs.YtobcbffakldfcaaDoor

namespace Go.Proofs.YtobcbffakldfcaaDoor

def dblR (r : List UInt8) : List (List UInt8) := if r = [39] then [[39], [39]] else [r]
def quoRs (row : List (List UInt8)) : List (List UInt8) := if row.all (fun r => decide (r = [39])) then row.flatMap dblR else [39] :: (row.flatMap dblR ++ [[39]])
def textRF : Nat → List (List UInt8) → List (List UInt8)
  | 0, _ => []
  | _ + 1, [] => []
  | f + 1, r :: rs => if bndB r then quoRs ((r :: rs).takeWhile bndB) ++ textRF f ((r :: rs).dropWhile bndB) else r :: textRF f rs
def prtRs (t : Tok) : List (List UInt8) := if t.kind = 0 then textRF (rns (bys t.text)).length (rns (bys t.text)) else List.replicate (max 1 t.many).toNat (sgnL t.kind)

theorem dblR_flat : ∀ row : List (List UInt8), (row.flatMap dblR).flatten = row.flatMap dbl
  | [] => rfl
  | r :: row => by
    rw [List.flatMap_cons, List.flatMap_cons, List.flatten_append, dblR_flat row]
    congr 1
    unfold dblR dbl
    split <;> simp
theorem quoRs_flat (row : List (List UInt8)) : (quoRs row).flatten = quoR row := by
  unfold quoRs quoR
  split
  · exact dblR_flat row
  · rw [List.flatten_cons, List.flatten_append, dblR_flat]; rfl
theorem textRF_flat : ∀ (f : Nat) (rs : List (List UInt8)), (textRF f rs).flatten = textF f rs
  | 0, _ => rfl
  | _ + 1, [] => rfl
  | f + 1, r :: rs => by
    unfold textRF textF
    split
    · rw [List.flatten_append, quoRs_flat, textRF_flat f]
    · rw [List.flatten_cons, textRF_flat f]
theorem prtRs_flat (t : Tok) : (prtRs t).flatten = prtT t := by
  unfold prtRs prtT
  split
  · exact textRF_flat _ _
  · rfl

theorem isR_apo : IsR [39] := ⟨by rfl, by decide⟩
theorem dblR_isR {row : List (List UInt8)} (h : ∀ r ∈ row, IsR r) : ∀ r ∈ row.flatMap dblR, IsR r := by
  intro r hr
  obtain ⟨x, hx, hm⟩ := List.mem_flatMap.1 hr
  unfold dblR at hm
  split at hm
  · simp only [List.mem_cons, List.not_mem_nil, or_false, or_self] at hm
    rw [hm]; exact isR_apo
  · simp only [List.mem_cons, List.not_mem_nil, or_false] at hm
    rw [hm]; exact h x hx
theorem quoRs_isR {row : List (List UInt8)} (h : ∀ r ∈ row, IsR r) : ∀ r ∈ quoRs row, IsR r := by
  intro r hr
  unfold quoRs at hr
  split at hr
  · exact dblR_isR h r hr
  · rcases List.mem_cons.1 hr with rfl | hr
    · exact isR_apo
    · rcases List.mem_append.1 hr with hr | hr
      · exact dblR_isR h r hr
      · simp only [List.mem_cons, List.not_mem_nil, or_false] at hr
        rw [hr]; exact isR_apo
theorem mem_take {p : List UInt8 → Bool} {rs : List (List UInt8)} {r : List UInt8} (h : r ∈ rs.takeWhile p) : r ∈ rs := (List.takeWhile_sublist p).subset h
theorem mem_dropW {p : List UInt8 → Bool} {rs : List (List UInt8)} {r : List UInt8} (h : r ∈ rs.dropWhile p) : r ∈ rs := (List.dropWhile_sublist p).subset h
theorem textRF_isR : ∀ (f : Nat) (rs : List (List UInt8)), (∀ r ∈ rs, IsR r) → ∀ r ∈ textRF f rs, IsR r
  | 0, _, _ => by simp [textRF]
  | _ + 1, [], _ => by simp [textRF]
  | f + 1, x :: rs, h => by
    intro r hr
    unfold textRF at hr
    split at hr
    · rcases List.mem_append.1 hr with hr | hr
      · exact quoRs_isR (fun y hy => h y (mem_take hy)) r hr
      · exact textRF_isR f _ (fun y hy => h y (mem_dropW hy)) r hr
    · rcases List.mem_cons.1 hr with rfl | hr
      · exact h _ List.mem_cons_self
      · exact textRF_isR f _ (fun y hy => h y (List.mem_cons_of_mem _ hy)) r hr
theorem prtRs_isR (t : Tok) (h : mayTok t = true) : ∀ r ∈ prtRs t, IsR r := by
  unfold prtRs
  split
  · exact textRF_isR _ _ (rns_isR _ _ (Nat.le_refl _))
  · intro r hr
    obtain ⟨_, rfl⟩ := List.mem_replicate.1 hr
    unfold sgnL
    repeat' split
    · exact ⟨by rfl, by decide⟩
    · exact ⟨by rfl, by decide⟩
    · exact ⟨by rfl, by decide⟩
    · exact ⟨by rfl, by decide⟩
    · exact ⟨by rfl, by decide⟩
    · exfalso
      unfold mayTok at h
      rw [if_neg (by assumption), if_neg (by omega), if_neg (by assumption)] at h
      cases h

def addAll (l : List Tok) (rs : List (List UInt8)) : List Tok := rs.foldl (fun l r => addT l (txtT r)) l
theorem addAll_cons (l : List Tok) (r : List UInt8) (rs : List (List UInt8)) : addAll l (r :: rs) = addAll (addT l (txtT r)) rs := rfl
theorem addAll_app (l : List Tok) (a b : List (List UInt8)) : addAll l (a ++ b) = addAll (addAll l a) b := List.foldl_append

theorem coins_txt (l : List Tok) (r : List UInt8) : coinsT (addT l (txtT r)) = 0 := by
  rcases nil_or_snoc l with rfl | ⟨p, a, rfl⟩
  · rfl
  · rw [addT_snoc]
    split
    · rename_i h
      rw [coinsT_snoc]
      have : a.kind = 0 := by
        unfold joinT at h
        simp only [Bool.and_eq_true, decide_eq_true_eq] at h
        exact h.1
      show (if a.kind = 5 then _ else _) = (0 : Int)
      rw [if_neg (by omega)]
    · rw [coinsT_snoc]; rfl

theorem step_free (st : Nat) (hs : st = 0 ∨ st = 3) (l : List Tok) (r : List UInt8) (hb : bndB r = false) : stepP st l r = some (0, addT l (txtT r)) := by
  unfold bndB at hb
  simp only [Bool.or_eq_false_iff, decide_eq_false_iff_not, Decidable.not_not] at hb
  obtain ⟨⟨h1, h2⟩, h3⟩ := hb
  have ha : aft st r = 0 := by
    unfold aft
    rw [if_neg h1]
    rcases hs with rfl | rfl <;> rfl
  have hp : plnT r = txtT r := by unfold plnT; rw [if_pos h3]
  unfold stepP
  rw [ha, if_neg (by omega), if_neg (by omega), h2, hp, coins_txt]
  simp
theorem step_open (l : List Tok) : stepP 0 l [39] = some (1, l) := rfl
theorem step_two (l : List Tok) : stepP 1 l [39] = some (0, addT l (txtT [39])) := by
  unfold stepP
  rw [show aft 1 [39] = 0 from rfl, show plnT [39] = txtT [39] from rfl, coins_txt]
  rfl
theorem step_in (l : List Tok) (st : Nat) (hs : st = 1 ∨ st = 2) (r : List UInt8) (h : r ≠ [39]) : stepP st l r = some (2, addT l (txtT r)) := by
  have ha : aft st r = 2 := by
    unfold aft
    rw [if_neg h]
    rcases hs with rfl | rfl <;> rfl
  unfold stepP
  rw [ha]
  rfl
theorem step_close (l : List Tok) : stepP 2 l [39] = some (3, l) := rfl
theorem step_again (l : List Tok) : stepP 3 l [39] = some (2, addT l (txtT [39])) := rfl

theorem runs_apos : ∀ (row : List (List UInt8)) (l : List Tok), row.all (fun r => decide (r = [39])) = true → runsP 0 l (row.flatMap dblR) = some (0, addAll l row)
  | [], l, _ => rfl
  | r :: row, l, h => by
    simp only [List.all_cons, Bool.and_eq_true, decide_eq_true_eq] at h
    obtain ⟨rfl, h⟩ := h
    rw [List.flatMap_cons, show dblR [39] = [[39], [39]] from rfl, List.cons_append, List.cons_append, runsP_cons, step_open]
    simp only
    rw [runsP_cons, step_two]
    simp only
    rw [List.nil_append, runs_apos row _ h]
    rfl
theorem runs_in2 : ∀ (row : List (List UInt8)) (l : List Tok), runsP 2 l (row.flatMap dblR) = some (2, addAll l row)
  | [], l => rfl
  | r :: row, l => by
    rw [List.flatMap_cons]
    by_cases h : r = [39]
    · subst h
      rw [show dblR [39] = [[39], [39]] from rfl, List.cons_append, List.cons_append, runsP_cons, step_close]
      simp only
      rw [runsP_cons, step_again]
      simp only
      rw [List.nil_append, runs_in2 row]
      rfl
    · rw [show dblR r = [r] from by unfold dblR; rw [if_neg h], List.cons_append, runsP_cons, step_in l 2 (.inr rfl) r h]
      simp only
      rw [List.nil_append, runs_in2 row]
      rfl
theorem runs_in1 : ∀ (row : List (List UInt8)) (l : List Tok), row.all (fun r => decide (r = [39])) = false → runsP 1 l (row.flatMap dblR) = some (2, addAll l row)
  | [], l, h => by simp at h
  | r :: row, l, h => by
    rw [List.flatMap_cons]
    by_cases hr : r = [39]
    · subst hr
      simp only [List.all_cons, decide_true, Bool.true_and] at h
      rw [show dblR [39] = [[39], [39]] from rfl, List.cons_append, List.cons_append, runsP_cons, step_two]
      simp only
      rw [runsP_cons, step_open]
      simp only
      rw [List.nil_append, runs_in1 row _ h]
      rfl
    · rw [show dblR r = [r] from by unfold dblR; rw [if_neg hr], List.cons_append, runsP_cons, step_in l 1 (.inl rfl) r hr]
      simp only
      rw [List.nil_append, runs_in2 row]
      rfl
theorem runs_quo (row : List (List UInt8)) (l : List Tok) : ∃ st, (st = 0 ∨ st = 3) ∧ runsP 0 l (quoRs row) = some (st, addAll l row) := by
  unfold quoRs
  cases h : row.all (fun r => decide (r = [39])) with
  | true => exact ⟨0, .inl rfl, by rw [if_pos rfl]; exact runs_apos row l h⟩
  | false =>
    refine ⟨3, .inr rfl, ?_⟩
    rw [if_neg (by decide), runsP_cons, step_open]
    simp only
    rw [runsP_app, runs_in1 row l h, Option.bind_some, runsP_cons, step_close]
    rfl

theorem runs_text : ∀ (f : Nat) (rs : List (List UInt8)) (st : Nat) (l : List Tok), rs.length ≤ f → (st = 0 ∨ st = 3 ∧ ∀ r, rs.head? = some r → bndB r = false) → ∃ s', (s' = 0 ∨ s' = 3) ∧ runsP st l (textRF f rs) = some (s', addAll l rs)
  | 0, rs, st, l, h, hs => by
    have : rs = [] := List.eq_nil_of_length_eq_zero (by omega)
    subst this
    exact ⟨st, by omega, rfl⟩
  | f + 1, [], st, l, h, hs => ⟨st, by omega, rfl⟩
  | f + 1, r :: rs, st, l, h, hs => by
    rw [List.length_cons] at h
    unfold textRF
    cases hb : bndB r with
    | false =>
      rw [if_neg (by decide), runsP_cons, step_free st (by omega) l r hb]
      simp only
      obtain ⟨s', h1, h2⟩ := runs_text f rs 0 (addT l (txtT r)) (by omega) (.inl rfl)
      exact ⟨s', h1, h2⟩
    | true =>
      have h0 : st = 0 := by
        rcases hs with h | ⟨_, h⟩
        · exact h
        · have := h r rfl
          rw [hb] at this; cases this
      subst h0
      rw [if_pos rfl, runsP_app]
      obtain ⟨s1, q1, q2⟩ := runs_quo ((r :: rs).takeWhile bndB) l
      rw [q2, Option.bind_some]
      have e : addAll l (r :: rs) = addAll (addAll l ((r :: rs).takeWhile bndB)) ((r :: rs).dropWhile bndB) := by rw [← addAll_app, List.takeWhile_append_dropWhile]
      rw [e]
      refine runs_text f _ s1 _ ?_ ?_
      · rw [List.dropWhile_cons, if_pos hb]
        exact Nat.le_trans (List.dropWhile_sublist _).length_le (by omega)
      · rcases q1 with rfl | rfl
        · exact .inl rfl
        · refine .inr ⟨rfl, fun x hx => ?_⟩
          have := List.head?_dropWhile_not bndB (r :: rs)
          rw [hx] at this
          simpa using this

theorem addAll_txt : ∀ (rs : List (List UInt8)) (p : List Tok) (x : List UInt8), addAll (p ++ [txtT x]) rs = p ++ [txtT (x ++ rs.flatten)]
  | [], p, x => by rw [List.flatten_nil, List.append_nil]; rfl
  | r :: rs, p, x => by
    rw [addAll_cons, addT_snoc, if_pos (by rfl), List.flatten_cons, ← List.append_assoc, ← addAll_txt rs p (x ++ r)]
    have : merT (txtT x) (txtT r) = txtT (x ++ r) := by
      unfold merT txtT
      rw [mkB_app]; rfl
    rw [this]
theorem addT_none {l : List Tok} {t : Tok} (h : joinO l.getLast? t = false) : addT l t = l ++ [t] := by
  unfold addT
  cases hl : l.getLast? with
  | none =>
    have : l = [] := List.getLast?_eq_none_iff.1 hl
    rw [this]; rfl
  | some a =>
    rw [hl] at h
    have : joinT a t = false := h
    simp only [this, Bool.false_eq_true, if_false]
theorem joinO_kind {p : Option Tok} {t u : Tok} (h : t.kind = u.kind) : joinO p t = joinO p u := by
  cases p with
  | none => rfl
  | some a => show joinT a t = joinT a u; unfold joinT; rw [h]
theorem mk_nil {x : ByteArray} (h : x.size = 0) : x = ⟨#[]⟩ := by
  have e : bys x = [] := List.eq_nil_of_length_eq_zero (by rw [bys_len]; exact h)
  rw [← mkB_bys x, e]; rfl
theorem addAll_all {l : List Tok} {rs : List (List UInt8)} (hn : rs ≠ []) (h : joinO l.getLast? (txtT []) = false) : addAll l rs = l ++ [txtT rs.flatten] := by
  cases rs with
  | nil => exact absurd rfl hn
  | cons r rs =>
    have h' : joinO l.getLast? (txtT r) = false := by rw [← h]; exact joinO_kind rfl
    rw [addAll_cons, addT_none h', addAll_txt rs l r, List.flatten_cons]

theorem step_sign (st : Nat) (hs : st = 0 ∨ st = 3) (l : List Tok) (r : List UInt8) (k : Nat) (hk : kindB r = k) (h0 : k ≠ 0) (hl : letB r = false) (h39 : r ≠ [39]) (hc : coinsT (addT l (sgnT k)) ≤ 3) : stepP st l r = some (0, addT l (sgnT k)) := by
  have ha : aft st r = 0 := by
    unfold aft
    rw [if_neg h39]
    rcases hs with rfl | rfl <;> rfl
  have hp : plnT r = sgnT k := by unfold plnT; rw [if_neg (by omega), hk]
  unfold stepP
  rw [ha, if_neg (by omega), if_neg (by omega), hl, hp, if_pos hc]
  simp

theorem runs_sgn (st : Nat) (hs : st = 0 ∨ st = 3) (l : List Tok) (k : Nat) (h1 : 1 ≤ k) (h4 : k ≤ 4) (hj : joinO l.getLast? (sgnT k) = false) : runsP st l [sgnL k] = some (0, l ++ [sgnT k]) := by
  have ha := addT_none hj
  have hc : coinsT (addT l (sgnT k)) ≤ 3 := by
    rw [ha, coinsT_snoc]
    rw [if_neg (by show ¬ (k : Int) = 5; omega)]
    omega
  have h : k = 1 ∨ k = 2 ∨ k = 3 ∨ k = 4 := by omega
  rcases h with rfl | rfl | rfl | rfl
  all_goals
    rw [runsP_cons]
    rw [step_sign st hs l _ _ (by rfl) (by decide) (by rfl) (by decide) hc, ha]
    rfl

theorem runs_coin (st : Nat) (hs : st = 0 ∨ st = 3) (l : List Tok) (n : Nat) (h1 : 1 ≤ n) (h3 : n ≤ 3) (hj : joinO l.getLast? (sgnT 5) = false) : runsP st l (List.replicate n (sgnL 5)) = some (0, l ++ [⟨5, n, ⟨#[]⟩⟩]) := by
  have ha := addT_none hj
  have e : ∀ (m : Int), merT ⟨5, m, ⟨#[]⟩⟩ (sgnT 5) = ⟨5, m + 1, ⟨#[]⟩⟩ := fun m => rfl
  have s1 : stepP st l [194, 164] = some (0, l ++ [⟨5, 1, ⟨#[]⟩⟩]) := by
    rw [step_sign st hs l _ 5 (by rfl) (by decide) (by rfl) (by decide) (by rw [ha, coinsT_snoc]; decide), ha]
    rfl
  have s2 : ∀ m : Int, m ≤ 2 → stepP 0 (l ++ [⟨5, m, ⟨#[]⟩⟩]) [194, 164] = some (0, l ++ [⟨5, m + 1, ⟨#[]⟩⟩]) := by
    intro m hm
    have ea : addT (l ++ [⟨5, m, ⟨#[]⟩⟩]) (sgnT 5) = l ++ [⟨5, m + 1, ⟨#[]⟩⟩] := by
      rw [addT_snoc, if_pos (by rfl), e]
    rw [step_sign 0 (.inl rfl) _ _ 5 (by rfl) (by decide) (by rfl) (by decide) (by rw [ea, coinsT_snoc, if_pos rfl]; show m + 1 ≤ 3; omega), ea]
  have h : n = 1 ∨ n = 2 ∨ n = 3 := by omega
  rcases h with rfl | rfl | rfl
  · show runsP st l [[194, 164]] = _
    rw [runsP_cons, s1]
    rfl
  · show runsP st l [[194, 164], [194, 164]] = _
    rw [runsP_cons, s1]
    simp only
    rw [runsP_cons, s2 1 (by decide)]
    rfl
  · show runsP st l [[194, 164], [194, 164], [194, 164]] = _
    rw [runsP_cons, s1]
    simp only
    rw [runsP_cons, s2 1 (by decide)]
    simp only
    rw [runsP_cons, s2 (1 + 1) (by decide)]
    rfl

theorem runs_tok (st : Nat) (l : List Tok) (t : Tok) (hm : mayTok t = true) (hj : joinO l.getLast? t = false) (hs : st = 0 ∨ st = 3 ∧ t.kind ≠ 0) : ∃ s', (s' = 0 ∨ s' = 3 ∧ t.kind = 0) ∧ runsP st l (prtRs t) = some (s', l ++ [t]) := by
  obtain ⟨k, n, x⟩ := t
  unfold mayTok at hm
  unfold prtRs
  simp only at hm hs ⊢
  by_cases k0 : k = 0
  · subst k0
    rw [if_pos rfl] at hm ⊢
    simp only [Bool.and_eq_true, decide_eq_true_eq] at hm
    obtain ⟨hx, hv, rfl⟩ := hm
    have h0 : st = 0 := by
      rcases hs with h | ⟨_, h⟩
      · exact h
      · exact absurd rfl h
    obtain ⟨s', h1, h2⟩ := runs_text _ (rns (bys x)) st l (Nat.le_refl _) (.inl h0)
    have hf := flat_rns _ (bys x) (Nat.le_refl _) hv
    have hn : rns (bys x) ≠ [] := by
      intro q
      rw [q] at hf
      exact hx (by rw [← bys_len, ← hf]; rfl)
    rw [addAll_all hn (by rw [← hj]; exact joinO_kind rfl), hf] at h2
    refine ⟨s', ?_, h2⟩
    rcases h1 with h | h
    · exact .inl h
    · exact .inr ⟨h, rfl⟩
  · rw [if_neg k0] at hm ⊢
    have hs' : st = 0 ∨ st = 3 := by omega
    by_cases k1 : k = 1 ∨ k = 2 ∨ k = 3 ∨ k = 4
    · rw [if_pos k1] at hm
      simp only [Bool.and_eq_true, decide_eq_true_eq] at hm
      obtain ⟨hx, rfl⟩ := hm
      have ex : x = ⟨#[]⟩ := mk_nil hx
      subst ex
      obtain ⟨j, rfl⟩ : ∃ j : Nat, k = j := ⟨k.toNat, by omega⟩
      have et : (⟨(j : Int), 0, ⟨#[]⟩⟩ : Tok) = sgnT j := by unfold sgnT; rw [if_neg (by omega)]
      rw [et] at hj ⊢
      refine ⟨0, .inl rfl, ?_⟩
      exact runs_sgn st hs' l j (by omega) (by omega) hj
    · rw [if_neg k1] at hm
      by_cases k5 : k = 5
      · subst k5
        rw [if_pos rfl] at hm
        simp only [Bool.and_eq_true, decide_eq_true_eq] at hm
        obtain ⟨hx, h1, h3⟩ := hm
        have ex : x = ⟨#[]⟩ := mk_nil hx
        subst ex
        obtain ⟨j, rfl⟩ : ∃ j : Nat, n = j := ⟨n.toNat, by omega⟩
        refine ⟨0, .inl rfl, ?_⟩
        have : (max 1 (j : Int)).toNat = j := by omega
        rw [this]
        exact runs_coin st hs' l j (by omega) (by omega) (by rw [← hj]; exact joinO_kind rfl)
      · rw [if_neg k5] at hm
        cases hm

theorem runs_toks : ∀ (ts : List Tok) (l : List Tok) (st : Nat), badT l.getLast? ts = false → (st = 0 ∨ st = 3 ∧ ∃ a, l.getLast? = some a ∧ a.kind = 0) → ∃ s', (s' = 0 ∨ s' = 3) ∧ runsP st l (ts.flatMap prtRs) = some (s', l ++ ts)
  | [], l, st, _, hs => ⟨st, by omega, by rw [List.append_nil]; rfl⟩
  | t :: ts, l, st, hb, hs => by
    unfold badT at hb
    simp only [Bool.or_eq_false_iff, Bool.not_eq_false'] at hb
    obtain ⟨⟨hm, hj⟩, hb⟩ := hb
    obtain ⟨s1, q1, q2⟩ := runs_tok st l t hm hj (by
      rcases hs with h | ⟨h, a, ha, hk⟩
      · exact .inl h
      · refine .inr ⟨h, fun q => ?_⟩
        rw [ha] at hj
        have : joinT a t = false := hj
        unfold joinT at this
        rw [hk, q] at this
        simp at this)
    rw [List.flatMap_cons, runsP_app, q2, Option.bind_some]
    obtain ⟨s', p1, p2⟩ := runs_toks ts (l ++ [t]) s1 (by rw [List.getLast?_concat]; exact hb) (by
      rcases q1 with h | ⟨h, hk⟩
      · exact .inl h
      · exact .inr ⟨h, t, List.getLast?_concat, hk⟩)
    refine ⟨s', p1, ?_⟩
    simp only
    rw [p2, List.append_assoc]
    rfl

theorem badT_may : ∀ (ts : List Tok) (p : Option Tok), badT p ts = false → ∀ t ∈ ts, mayTok t = true
  | [], _, _, t, h => by simp at h
  | a :: ts, p, hb, t, h => by
    unfold badT at hb
    simp only [Bool.or_eq_false_iff, Bool.not_eq_false'] at hb
    rcases List.mem_cons.1 h with rfl | h
    · exact hb.1.1
    · exact badT_may ts _ hb.2 t h

theorem prtL_flat : ∀ ts : List Tok, (ts.flatMap prtRs).flatten = prtL ts
  | [] => rfl
  | t :: ts => by
    rw [List.flatMap_cons, List.flatten_append, prtRs_flat, prtL_flat ts]
    rfl

theorem parse_print {ts : List Tok} (h : chkT ts = 0) : parseR (prtL ts) = (0, ts) := by
  obtain ⟨hb, hl⟩ := chkT_bad h
  have hi : ∀ r ∈ ts.flatMap prtRs, IsR r := by
    intro r hr
    obtain ⟨t, ht, hm⟩ := List.mem_flatMap.1 hr
    exact prtRs_isR t (badT_may ts none hb t ht) r hm
  have e1 : rns (prtL ts) = ts.flatMap prtRs := by
    have := rns_flat [] _ hi
    rw [List.append_nil, prtL_flat, rns_nil, List.append_nil] at this
    exact this
  have e2 : (runesL (prtL ts)).isSome = true := by
    have := runesL_flat [] _ hi
    rw [List.append_nil, prtL_flat] at this
    rw [this]; rfl
  obtain ⟨s', p1, p2⟩ := runs_toks ts [] 0 hb (.inl rfl)
  rw [← e1] at p2
  rw [parseR_runs p2 p1 e2, List.nil_append, if_pos h]

end Go.Proofs.YtobcbffakldfcaaDoor

namespace Go.Proofs.YtobcbffakldfcaaDoor
open Go.Lib

theorem enc_rune (n : Nat) (h : n ≤ 1114111) : bys (Utf8.encode (n : Int)) = Lib.encodeRune (n : Int) := by
  unfold Lib.encodeRune
  by_cases h1 : n ≤ 127
  · have hv : Utf8.valid (n : Int) = true := by unfold Utf8.valid; simp; omega
    rw [Lib.encodeRuneZ_one (by omega) (by omega)]
    unfold Utf8.encode
    rw [if_pos hv]
    simp only [Int.toNat_natCast]
    rw [if_pos (by omega)]
    rfl
  · by_cases h2 : n ≤ 2047
    · have hv : Utf8.valid (n : Int) = true := by unfold Utf8.valid; simp; omega
      rw [Lib.encodeRuneZ_two (by omega) (by omega)]
      unfold Utf8.encode
      rw [if_pos hv]
      simp only [Int.toNat_natCast]
      rw [if_neg (by omega), if_pos (by omega)]
      show [UInt8.ofNat (192 + n / 64), UInt8.ofNat (128 + n % 64)] = [UInt8.ofNat (192 + (n : Int) / 64).toNat, UInt8.ofNat (128 + (n : Int) % 64).toNat]
      rw [show (192 + (n : Int) / 64).toNat = 192 + n / 64 by omega, show (128 + (n : Int) % 64).toNat = 128 + n % 64 by omega]
    · by_cases h3 : 55296 ≤ n ∧ n ≤ 57343
      · have hv : Utf8.valid (n : Int) = false := by unfold Utf8.valid; simp; omega
        rw [Lib.encodeRuneZ_bad (by omega)]
        unfold Utf8.encode
        simp only [hv, Bool.false_eq_true, if_false, Utf8.runeError]
        decide
      · have hv : Utf8.valid (n : Int) = true := by unfold Utf8.valid; simp; omega
        by_cases h4 : n ≤ 65535
        · rw [Lib.encodeRuneZ_three (by omega)]
          unfold Utf8.encode
          rw [if_pos hv]
          simp only [Int.toNat_natCast]
          rw [if_neg (by omega), if_neg (by omega), if_pos (by omega)]
          show [UInt8.ofNat (224 + n / 4096), UInt8.ofNat (128 + n / 64 % 64), UInt8.ofNat (128 + n % 64)] = [UInt8.ofNat (224 + (n : Int) / 4096).toNat, UInt8.ofNat (128 + (n : Int) / 64 % 64).toNat, UInt8.ofNat (128 + (n : Int) % 64).toNat]
          rw [show (224 + (n : Int) / 4096).toNat = 224 + n / 4096 by omega, show (128 + (n : Int) / 64 % 64).toNat = 128 + n / 64 % 64 by omega, show (128 + (n : Int) % 64).toNat = 128 + n % 64 by omega]
        · rw [Lib.encodeRuneZ_four (by omega) (by omega)]
          unfold Utf8.encode
          rw [if_pos hv]
          simp only [Int.toNat_natCast]
          rw [if_neg (by omega), if_neg (by omega), if_neg (by omega)]
          show [UInt8.ofNat (240 + n / 262144), UInt8.ofNat (128 + n / 4096 % 64), UInt8.ofNat (128 + n / 64 % 64), UInt8.ofNat (128 + n % 64)] = [UInt8.ofNat (240 + (n : Int) / 262144).toNat, UInt8.ofNat (128 + (n : Int) / 4096 % 64).toNat, UInt8.ofNat (128 + (n : Int) / 64 % 64).toNat, UInt8.ofNat (128 + (n : Int) % 64).toNat]
          rw [show (240 + (n : Int) / 262144).toNat = 240 + n / 262144 by omega, show (128 + (n : Int) / 4096 % 64).toNat = 128 + n / 4096 % 64 by omega, show (128 + (n : Int) / 64 % 64).toNat = 128 + n / 64 % 64 by omega, show (128 + (n : Int) % 64).toNat = 128 + n % 64 by omega]

def bndE (e : List UInt8) : Bool := decide (e = [39]) || Lib.contains lettersL e || decide (kindB e ≠ 0)
def bndP (x : Nat) : Bool := bndE (bys (Utf8.encode (x : Int)))

theorem occ_memP {L t : List UInt8} {a : UInt8} {i : Nat} (h : Lib.occAt L (a :: t) i = true) : a ∈ L := by
  unfold Lib.occAt at h
  cases hd : L.drop i with
  | nil => rw [hd] at h; simp at h
  | cons b l =>
    rw [hd] at h
    simp only [List.isPrefixOf, Bool.and_eq_true, beq_iff_eq] at h
    rw [h.1]
    exact List.mem_of_mem_drop (i := i) (by rw [hd]; exact List.mem_cons_self)
theorem cont_iffP (L t : List UInt8) : Lib.contains L t = true ↔ ∃ i, i ≤ L.length ∧ Lib.occAt L t i = true := by
  unfold Lib.contains
  rw [decide_eq_true_iff]
  rcases Lib.index_spec L t with ⟨h1, h2⟩ | ⟨i, h1, h2, h3, _⟩
  · rw [h1]
    refine ⟨fun h => absurd h (by omega), fun ⟨i, hi, h⟩ => ?_⟩
    rw [h2 i hi] at h; cases h
  · rw [h1]
    exact ⟨fun _ => ⟨i, h2, h3⟩, fun _ => by omega⟩
theorem letters_lowP : ∀ a ∈ lettersL, a.toNat < 128 := by decide
theorem rune_lowP {r : List UInt8} (h : IsR r) (hl : byB r 0 < 128) : r.length = 1 := by
  rw [← h.1]
  unfold runeL runeN
  rw [if_neg h.len, if_pos hl]
theorem contains_runeP (r : List UInt8) (h : IsR r) : Lib.contains lettersL r = letB r := by
  rw [Bool.eq_iff_iff, cont_iffP]
  match r, h with
  | [], h => exact absurd rfl h.2
  | [c], _ =>
    show _ ↔ lettersL.contains c = true
    rw [List.contains_iff_mem]
    refine ⟨fun ⟨i, _, h⟩ => occ_memP h, fun hm => ?_⟩
    obtain ⟨i, hi, he⟩ := List.getElem_of_mem hm
    refine ⟨i, by omega, ?_⟩
    unfold Lib.occAt
    rw [List.drop_eq_getElem_cons hi, he]
    simp [List.isPrefixOf]
  | a :: b :: t, h =>
    refine ⟨fun ⟨i, _, ho⟩ => ?_, fun h => by cases h⟩
    have := rune_lowP h (letters_lowP a (occ_memP ho))
    simp at this
theorem bndE_rune {r : List UInt8} (h : IsR r) : bndE r = bndB r := by unfold bndE bndB; rw [contains_runeP r h]

theorem dec_rune {r : List UInt8} (h : IsR r) (b : List UInt8) : (decodeL (r ++ b)).2 = r.length ∧ (decodeL (r ++ b)).1 ≤ 1114111 ∧ bys (Utf8.encode ((decodeL (r ++ b)).1 : Int)) = r := by
  have hne : r ++ b ≠ [] := fun e => h.2 (List.append_eq_nil_iff.1 e).1
  have ha := h.app b
  rcases runeL_decode _ hne with ⟨_, h2⟩ | ⟨h1, h2, h3⟩
  · rw [ha] at h2; exact absurd h2 h.len
  · have hle : (decodeL (r ++ b)).1 ≤ 1114111 := by
      have := Lib.rune_le ⟨(r ++ b).toArray⟩ 0
      exact this
    refine ⟨by rw [h2, ha], hle, ?_⟩
    rw [enc_rune _ hle, encode_decode _ hne h3, h2, ha, List.take_left' rfl]

theorem idx_runes (p : Nat → Bool) (q : List UInt8 → Bool) (hpq : ∀ r, IsR r → ∀ b, p (decodeL (r ++ b)).1 = q r) (s : ByteArray) : ∀ (rs : List (List UInt8)) (f pos : Nat), (∀ r ∈ rs, IsR r) → (bys s).drop pos = rs.flatten → rs.flatten.length ≤ f →
    idxFuncFrom p false s f pos = if (rs.dropWhile q).isEmpty then -1 else ((pos + (rs.takeWhile q).flatten.length : Nat) : Int)
  | [], f, pos, _, hd, _ => by
    have hp : ¬ pos < s.size := by
      intro h
      have := congrArg List.length hd
      rw [List.length_drop, bys_len] at this
      simp at this; omega
    rw [idxFuncFrom_end p false s f pos hp]
    rfl
  | r :: rs, f, pos, hr, hd, hf => by
    have h := hr r List.mem_cons_self
    have hl := h.len
    rw [List.flatten_cons] at hd hf
    have hp : pos < s.size := by
      have := congrArg List.length hd
      rw [List.length_drop, bys_len, List.length_append] at this
      omega
    obtain ⟨g, rfl⟩ : ∃ g, f = g + 1 := ⟨f - 1, by rw [List.length_append] at hf; omega⟩
    have hdc : decodeL ((bys s).drop pos) = Utf8.decode s pos := decodeL_drop s pos
    have hk := hpq r h rs.flatten
    have hw := (dec_rune h rs.flatten).1
    rw [← hd, hdc] at hk hw
    rw [idxFuncFrom, if_pos hp, hk, hw]
    cases hq : q r with
    | false =>
      rw [if_pos rfl, List.dropWhile_cons, List.takeWhile_cons, hq]
      simp
    | true =>
      rw [if_neg (by decide), List.dropWhile_cons, List.takeWhile_cons, hq]
      rw [idx_runes p q hpq s rs g (pos + r.length) (fun x hx => hr x (List.mem_cons_of_mem _ hx)) (by rw [← List.drop_drop, hd, List.drop_left' rfl]) (by rw [List.length_append] at hf; omega)]
      simp only [if_true, List.flatten_cons, List.length_append]
      split
      · rfl
      · congr 1; omega
theorem flat_len_drop (q : List UInt8 → Bool) (rs : List (List UInt8)) : rs.flatten = (rs.takeWhile q).flatten ++ (rs.dropWhile q).flatten := by
  rw [← List.flatten_append, List.takeWhile_append_dropWhile]
theorem trim_runes (p : Nat → Bool) (q : List UInt8 → Bool) (hpq : ∀ r, IsR r → ∀ b, p (decodeL (r ++ b)).1 = q r) (s : ByteArray) (rs : List (List UInt8)) (hr : ∀ r ∈ rs, IsR r) (hs : bys s = rs.flatten) : bys (trimLeftF p s) = (rs.dropWhile q).flatten := by
  have hi := idx_runes p q hpq s rs s.size 0 hr (by rw [List.drop_zero]; exact hs) (by rw [← hs, bys_len]; exact Nat.le_refl _)
  unfold trimLeftF idxFunc
  rw [hi]
  cases he : rs.dropWhile q with
  | nil => simp; rfl
  | cons a l =>
    simp only [List.isEmpty_cons, Bool.false_eq_true, if_false]
    rw [if_neg (show ¬ ((0 + (List.takeWhile q rs).flatten.length : Nat) : Int) = -1 by omega)]
    have hx : bys (s.extract ((0 + (List.takeWhile q rs).flatten.length : Nat) : Int).toNat s.size) = (bys s).drop (rs.takeWhile q).flatten.length := by
      rw [Int.toNat_natCast, Nat.zero_add]
      show (s.extract _ _).data.toList = _
      rw [ByteArray.data_extract, Array.toList_extract]
      show (s.data.toList.drop _).take _ = _
      rw [List.take_of_length_le]
      · rfl
      · rw [List.length_drop]; exact Nat.le_refl _
    rw [hx, hs, ← he]
    conv => lhs; rw [flat_len_drop q rs]
    rw [List.drop_left' rfl]

theorem bnd_dec (r : List UInt8) (h : IsR r) (b : List UInt8) : bndP (decodeL (r ++ b)).1 = bndB r := by
  unfold bndP
  rw [(dec_rune h b).2.2, bndE_rune h]

end Go.Proofs.YtobcbffakldfcaaDoor

namespace Go.Proofs.YtobcbffakldfcaaDoor
open Go.Lib

theorem u8_ge (n : Nat) (h : 128 ≤ n) (h2 : n < 256) : 128 ≤ (n.toUInt8).toNat := by
  have : (n.toUInt8).toNat = n % 256 := rfl
  omega
theorem rune_hi {r : List UInt8} (h : IsR r) : r.length = 1 ∨ ∀ b ∈ r, 128 ≤ b.toNat := by
  obtain ⟨_, h2, h3⟩ := dec_rune h []
  obtain ⟨x, hx⟩ : ∃ x, x = (decodeL (r ++ [])).1 := ⟨_, rfl⟩
  rw [← hx] at h2 h3
  rw [enc_rune x h2] at h3
  unfold Lib.encodeRune at h3
  by_cases h1 : x ≤ 127
  · left
    rw [Lib.encodeRuneZ_one (by omega) (by omega)] at h3
    rw [← h3]; rfl
  · right
    have hb : ∀ y ∈ Lib.encodeRuneZ (x : Int), 128 ≤ y ∧ y < 256 := by
      by_cases c2 : x ≤ 2047
      · rw [Lib.encodeRuneZ_two (by omega) (by omega)]
        intro y hy
        simp only [List.mem_cons, List.not_mem_nil, or_false] at hy
        rcases hy with rfl | rfl <;> omega
      · by_cases c3 : 55296 ≤ x ∧ x ≤ 57343
        · rw [Lib.encodeRuneZ_bad (by omega)]
          intro y hy
          simp only [List.mem_cons, List.not_mem_nil, or_false] at hy
          rcases hy with rfl | rfl | rfl <;> omega
        · by_cases c4 : x ≤ 65535
          · rw [Lib.encodeRuneZ_three (by omega)]
            intro y hy
            simp only [List.mem_cons, List.not_mem_nil, or_false] at hy
            rcases hy with rfl | rfl | rfl <;> omega
          · rw [Lib.encodeRuneZ_four (by omega) (by omega)]
            intro y hy
            simp only [List.mem_cons, List.not_mem_nil, or_false] at hy
            rcases hy with rfl | rfl | rfl | rfl <;> omega
    intro b hm
    rw [← h3] at hm
    obtain ⟨y, hy, rfl⟩ := List.mem_map.1 hm
    have := hb y hy
    exact u8_ge _ (by omega) (by omega)
theorem rune_apo {r : List UInt8} (h : IsR r) (hm : (39 : UInt8) ∈ r) : r = [39] := by
  rcases rune_hi h with h1 | h1
  · match r, h1, hm with
    | [a], _, hm => rw [List.mem_singleton.1 hm]
  · have := h1 39 hm
    exact absurd this (by decide)

def dblB (b : UInt8) : List UInt8 := if b = 39 then [39, 39] else [b]
theorem dblB_no {l : List UInt8} (h : (39 : UInt8) ∉ l) : l.flatMap dblB = l := by
  induction l with
  | nil => rfl
  | cons a l ih =>
    rw [List.flatMap_cons, ih (fun e => h (List.mem_cons_of_mem _ e))]
    unfold dblB
    rw [if_neg (fun e => h (by rw [e]; exact List.mem_cons_self))]
    rfl
theorem occ_iff39 (s : List UInt8) (j : Nat) : Lib.occAt s [39] j = true ↔ s[j]? = some 39 := by
  unfold Lib.occAt
  cases hd : s.drop j with
  | nil =>
    have : s.length ≤ j := List.drop_eq_nil_iff.1 hd
    rw [List.getElem?_eq_none this]
    simp
  | cons a l =>
    have : s[j]? = some a := by
      have e := congrArg List.head? hd
      rw [List.head?_drop] at e
      exact e
    rw [this]
    show ((39 : UInt8) == a && ([] : List UInt8).isPrefixOf l) = true ↔ some a = some 39
    have e : ([] : List UInt8).isPrefixOf l = true := by cases l <;> rfl
    rw [e, Bool.and_true, beq_iff_eq, Option.some.injEq]
    exact ⟨Eq.symm, Eq.symm⟩
theorem no_39 {s : List UInt8} (h : Lib.index s [39] = -1) : (39 : UInt8) ∉ s := by
  intro hm
  obtain ⟨j, hj, he⟩ := List.getElem_of_mem hm
  rcases Lib.index_spec s [39] with ⟨_, h2⟩ | ⟨i, h1, _⟩
  · have := h2 j (by omega)
    rw [(occ_iff39 s j).2 (by rw [List.getElem?_eq_getElem hj, he])] at this
    cases this
  · rw [h] at h1; omega
theorem rep_39 : ∀ (k : Nat) (s : List UInt8), Lib.count s [39] ≤ k → Lib.replaceK [39] [39, 39] k s = s.flatMap dblB
  | 0, s, h => by
    have hi : Lib.index s [39] = -1 := by
      rcases Lib.index_spec s [39] with ⟨h1, _⟩ | ⟨i, h1, _⟩
      · exact h1
      · exfalso
        have : Lib.count s [39] ≠ 0 := by
          unfold Lib.count Lib.countFrom
          rw [if_neg (by rw [h1]; intro e; have := beq_iff_eq.1 e; omega)]
          omega
        omega
    rw [Lib.replaceK, dblB_no (no_39 hi)]
  | k + 1, s, h => by
    rcases Lib.index_spec s [39] with ⟨h1, _⟩ | ⟨i, h1, h2, h3, h4⟩
    · rw [Lib.replaceK, if_pos (by rw [h1]; rfl), dblB_no (no_39 h1)]
    · rw [Lib.replaceK_hit _ _ _ _ i h1]
      have hg := (occ_iff39 s i).1 h3
      obtain ⟨hi, he⟩ := List.getElem?_eq_some_iff.1 hg
      have hc := Lib.count_hit (s := s) (sub := [39]) (i := i) (by simp) h1
      rw [rep_39 k _ (by simp only [List.length_cons, List.length_nil, Nat.zero_add] at hc ⊢; omega)]
      have e : s = s.take i ++ 39 :: s.drop (i + 1) := by
        conv => lhs; rw [← List.take_append_drop i s]
        rw [List.drop_eq_getElem_cons hi, he]
      have hn : (39 : UInt8) ∉ s.take i := by
        intro hm
        obtain ⟨j, hj, hh⟩ := List.getElem_of_mem hm
        rw [List.length_take] at hj
        have := h4 j (by omega)
        rw [List.getElem_take] at hh
        rw [(occ_iff39 s j).2 (by rw [List.getElem?_eq_getElem (by omega), hh])] at this
        cases this
      conv => rhs; rw [e, List.flatMap_append, dblB_no hn, List.flatMap_cons]
      rw [show dblB 39 = [39, 39] from rfl, List.append_assoc]
      rfl
theorem repAll_39 (s : List UInt8) : Lib.replaceAll s [39] [39, 39] = s.flatMap dblB := by
  unfold Lib.replaceAll Lib.replace
  rw [if_neg (by decide)]
  apply rep_39
  unfold Lib.replaceNum
  rw [if_pos (.inl (by decide))]
  exact Nat.le_refl _
theorem dbl_runes : ∀ row : List (List UInt8), (∀ r ∈ row, IsR r) → row.flatten.flatMap dblB = row.flatMap dbl
  | [], _ => rfl
  | r :: row, h => by
    rw [List.flatten_cons, List.flatMap_append, List.flatMap_cons, dbl_runes row fun x hx => h x (List.mem_cons_of_mem _ hx)]
    congr 1
    unfold dbl
    by_cases hr : r = [39]
    · rw [if_pos hr, hr]; rfl
    · rw [if_neg hr, dblB_no (fun hm => hr (rune_apo (h r List.mem_cons_self) hm))]
theorem mem_dropW39 {l : List UInt8} {c b : UInt8} (hm : b ∈ l) (hb : b ≠ c) : b ∈ l.dropWhile (· == c) := by
  induction l with
  | nil => cases hm
  | cons a l ih =>
    rw [List.dropWhile_cons]
    by_cases ha : a = c
    · rw [if_pos (by rw [ha]; simp)]
      rcases List.mem_cons.1 hm with e | e
      · exact absurd (e.trans ha) hb
      · exact ih e
    · rw [if_neg (by simpa using ha)]
      exact hm
theorem trim_39 (l : List UInt8) (c : UInt8) : Lib.trimB l c = [] ↔ ∀ b ∈ l, b = c := by
  unfold Lib.trimB Lib.trimLeftB Lib.trimRightB
  refine ⟨fun h b hm => ?_, fun h => ?_⟩
  · by_cases hb : b = c
    · exact hb
    · have h1 : b ∈ (l.reverse.dropWhile (· == c)).reverse := List.mem_reverse.2 (mem_dropW39 (List.mem_reverse.2 hm) hb)
      have h2 := mem_dropW39 h1 hb
      rw [h] at h2
      cases h2
  · have h1 : l.reverse.dropWhile (· == c) = [] := by
      have h' : ∀ x ∈ l.reverse, x = c := fun x hx => h x (List.mem_reverse.1 hx)
      generalize l.reverse = k at h'
      induction k with
      | nil => rfl
      | cons a k ih =>
        rw [List.dropWhile_cons, if_pos (by rw [h' a List.mem_cons_self]; simp), ih (fun x hx => h' x (List.mem_cons_of_mem _ hx))]
    rw [h1]
    rfl
theorem all_apo (row : List (List UInt8)) (h : ∀ r ∈ row, IsR r) : (∀ b ∈ row.flatten, b = (39 : UInt8)) ↔ row.all (fun r => decide (r = [39])) = true := by
  rw [List.all_eq_true]
  refine ⟨fun hb r hr => decide_eq_true ?_, fun ha b hm => ?_⟩
  · have hi := h r hr
    match r, hi, hr with
    | a :: t, hi, hr =>
      have : a = 39 := hb a (List.mem_flatten.2 ⟨_, hr, List.mem_cons_self⟩)
      exact rune_apo hi (by rw [this]; exact List.mem_cons_self)
    | [], hi, _ => exact absurd rfl hi.2
  · obtain ⟨r, hr, hbr⟩ := List.mem_flatten.1 hm
    have := of_decide_eq_true (ha r hr)
    rw [this] at hbr
    exact List.mem_singleton.1 hbr

theorem textF_fuel : ∀ (f g : Nat) (rs : List (List UInt8)), rs.length ≤ f → rs.length ≤ g → textF f rs = textF g rs
  | 0, 0, _, _, _ => rfl
  | 0, g + 1, [], _, _ => rfl
  | f + 1, 0, [], _, _ => rfl
  | f + 1, g + 1, [], _, _ => rfl
  | 0, g + 1, r :: rs, h, _ => by simp at h
  | f + 1, 0, r :: rs, _, h => by simp at h
  | f + 1, g + 1, r :: rs, h, k => by
    simp only [List.length_cons] at h k
    unfold textF
    split
    · next hb =>
      have hl : ((r :: rs).dropWhile bndB).length ≤ rs.length := by
        rw [List.dropWhile_cons, if_pos hb]
        exact (List.dropWhile_sublist bndB).length_le
      rw [textF_fuel f g _ (by omega) (by omega)]
    · rw [textF_fuel f g _ (by omega) (by omega)]
theorem textR_free {r : List UInt8} (h : bndB r = false) (rs : List (List UInt8)) : textR (r :: rs) = r ++ textR rs := by
  unfold textR
  rw [List.length_cons, textF, if_neg (by rw [h]; decide)]
theorem textR_bnd {r : List UInt8} (h : bndB r = true) (rs : List (List UInt8)) : textR (r :: rs) = quoR ((r :: rs).takeWhile bndB) ++ textR ((r :: rs).dropWhile bndB) := by
  unfold textR
  have hl : ((r :: rs).dropWhile bndB).length ≤ rs.length := by
    rw [List.dropWhile_cons, if_pos h]
    exact (List.dropWhile_sublist bndB).length_le
  rw [List.length_cons, textF, if_pos h, textF_fuel rs.length _ _ hl (Nat.le_refl _)]
def freeB (r : List UInt8) : Bool := !bndB r
theorem textR_rows : ∀ rs : List (List UInt8), textR rs = (rs.takeWhile freeB).flatten ++ (quoR ((rs.dropWhile freeB).takeWhile bndB) ++ textR ((rs.dropWhile freeB).dropWhile bndB))
  | [] => rfl
  | r :: rs => by
    cases hb : bndB r with
    | false =>
      rw [textR_free hb, List.takeWhile_cons, List.dropWhile_cons, show freeB r = true by unfold freeB; rw [hb]; rfl]
      simp only [if_true, List.flatten_cons]
      rw [textR_rows rs, List.append_assoc]
    | true =>
      have hf : freeB r = false := by unfold freeB; rw [hb]; rfl
      have e1 : (r :: rs).takeWhile freeB = [] := by rw [List.takeWhile_cons, hf]; rfl
      have e2 : (r :: rs).dropWhile freeB = r :: rs := by rw [List.dropWhile_cons, hf]; rfl
      rw [textR_bnd hb, e1, e2]
      rfl
theorem rows_less (r : List UInt8) (rs : List (List UInt8)) (h : IsR r) : ((((r :: rs).dropWhile freeB).dropWhile bndB)).flatten.length < (r :: rs).flatten.length := by
  have hl := h.len
  have hs : ∀ (q : List UInt8 → Bool) (l : List (List UInt8)), (l.dropWhile q).flatten.length ≤ l.flatten.length := fun q l => by
    conv => rhs; rw [flat_len_drop q l]
    rw [List.length_append]; omega
  rw [List.flatten_cons, List.length_append]
  cases hb : bndB r with
  | false =>
    rw [List.dropWhile_cons, show freeB r = true by unfold freeB; rw [hb]; rfl]
    simp only [if_true]
    have h1 := hs bndB (rs.dropWhile freeB)
    have h2 := hs freeB rs
    omega
  | true =>
    rw [List.dropWhile_cons, show freeB r = false by unfold freeB; rw [hb]; rfl]
    simp only [Bool.false_eq_true, if_false]
    rw [List.dropWhile_cons, if_pos hb]
    have h1 := hs bndB rs
    omega
theorem dbl_len : ∀ row : List (List UInt8), (row.flatMap dbl).length ≤ 2 * row.flatten.length
  | [] => Nat.le_refl _
  | r :: row => by
    have := dbl_len row
    rw [List.flatMap_cons, List.flatten_cons, List.length_append, List.length_append]
    have : (dbl r).length ≤ 2 * r.length := by
      unfold dbl
      split
      · next e => rw [e]; decide
      · omega
    omega
theorem textF_len : ∀ (f : Nat) (rs : List (List UInt8)), (∀ r ∈ rs, IsR r) → (textF f rs).length ≤ 4 * rs.flatten.length
  | 0, _, _ => Nat.zero_le _
  | f + 1, [], _ => Nat.le_refl _
  | f + 1, r :: rs, h => by
    have hr := (h r List.mem_cons_self).len
    unfold textF
    split
    · next hb =>
      have h1 := textF_len f ((r :: rs).dropWhile bndB) (fun x hx => h x (mem_dropW hx))
      have h2 : (quoR ((r :: rs).takeWhile bndB)).length ≤ 2 * ((r :: rs).takeWhile bndB).flatten.length + 2 := by
        have := dbl_len ((r :: rs).takeWhile bndB)
        unfold quoR
        split
        · omega
        · rw [List.length_cons, List.length_append]; simp only [List.length_cons, List.length_nil]; omega
      have h3 : 1 ≤ ((r :: rs).takeWhile bndB).flatten.length := by
        rw [List.takeWhile_cons, if_pos hb, List.flatten_cons, List.length_append]; omega
      have h4 := congrArg List.length (flat_len_drop bndB (r :: rs))
      rw [List.length_append] at h4
      rw [List.length_append]
      omega
    · have h1 := textF_len f rs (fun x hx => h x (List.mem_cons_of_mem _ hx))
      rw [List.length_append, List.flatten_cons, List.length_append]
      omega
theorem textR_len (rs : List (List UInt8)) (h : ∀ r ∈ rs, IsR r) : (textR rs).length ≤ 4 * rs.flatten.length := textF_len _ _ h

end Go.Proofs.YtobcbffakldfcaaDoor

namespace Go.Proofs.YtobcbffakldfcaaDoor
open Go.RowKit

theorem bld_size : (Tryd.prog.info? 43).map (·.size) = some 2 := by kernel_rfl
theorem bld_lies : liesAt Tryd.prog Tryd.prog.depth 43 (2 / Tryd.prog.cellsOf 43) 0 43 1 = true := by kernel_rfl
theorem byte_info : (Tryd.prog.info? 5).map (fun i => (i.zero, i.size, i.bytes)) = some (some (.int .u8 0), 1, 1) := by kernel_rfl

set_option maxRecDepth 100000 in
set_option maxHeartbeats 1000000 in
theorem ccheck_used (b : Nat) (w : World) (h0 : w.cell? ⟨b, 0, none⟩ = some (.pointer (some ⟨b, 0, none⟩))) :
    Calls Tryd.prog 41 #[.pointer (some ⟨b, 0, none⟩)] w fun e w' => e = .returned (.tuple #[]) ∧ w' = w := by
  obtain ⟨j, hj, _⟩ := Option.map_eq_some_iff.1 bld_size
  have key := Lib.run_neq_ptr_same (P := Tryd.prog) w ⟨b, 0, none⟩ Tryd.underlying40 hj
  go_enter Tryd.func41, Tryd.ntmps41
  go_wp2
  go_end0
  exact ⟨rfl, rfl⟩

set_option maxRecDepth 100000 in
set_option maxHeartbeats 1000000 in
theorem ccheck_fresh (b : Nat) (w : World) (h0 : w.cell? ⟨b, 0, none⟩ = some (.pointer none)) (hsh : w.shape? b = some (43, 2)) (hfz : w.frozen? ⟨b, 0, none⟩ = false) :
    Calls Tryd.prog 41 #[.pointer (some ⟨b, 0, none⟩)] w fun e w' => e = .returned (.tuple #[]) ∧ w' = w.setCell ⟨b, 0, none⟩ (.pointer (some ⟨b, 0, none⟩)) := by
  obtain ⟨j, hj, hjs⟩ := Option.map_eq_some_iff.1 bld_size
  have k1 := Lib.run_to_unsafe (P := Tryd.prog) w ⟨b, 0, none⟩ Tryd.underlying40 Tryd.underlying84 hj (by rw [hjs]; decide) hsh (Nat.zero_lt_succ 1)
  have k2 := Lib.run_from_unsafe (P := Tryd.prog) w ⟨b, 0, none⟩ Tryd.underlying84 Tryd.underlying40 hj hsh bld_lies
  go_enter Tryd.func41, Tryd.ntmps41
  go_wp2
  rw [run_callFunc_extern Tryd.func58 (by kernel_rfl) (by kernel_rfl) (by kernel_rfl) (e := Extern.AbiNoEscape.same) (by kernel_rfl), Lib.run_noEscape]
  simp only [Result.andThen]
  rw [Oper.upon_value]
  go_wp2
  go_end0
  exact ⟨rfl, rfl⟩

theorem ccheck_any (B b : Nat) (bs : List Value) (w : World) (h : Lib.IsBuilder 43 5 B b bs w) :
    Calls Tryd.prog 41 #[.pointer (some ⟨b, 0, none⟩)] w fun e w' => e = .returned (.tuple #[]) ∧ Lib.BuilderAt 43 5 B b (.pointer (some ⟨b, 0, none⟩)) bs w' ∧ Below B w w' := by
  rcases h with h | h
  · refine (ccheck_fresh b w h.cell0 h.shape h.frozen0).mono ?_
    rintro e w' ⟨rfl, rfl⟩
    exact ⟨rfl, h.used _, (Below.refl B w).setCell (p := ⟨b, 0, none⟩) h.1 _⟩
  · refine (ccheck_used b w h.cell0).mono ?_
    rintro e w' ⟨rfl, rfl⟩
    exact ⟨rfl, h, Below.refl B _⟩

set_option maxRecDepth 100000 in
set_option maxHeartbeats 2000000 in
theorem writeString_any (B b : Nat) (bs : List Value) (s : ByteArray) (w : World) (h : Lib.IsBuilder 43 5 B b bs w) (hlen : bs.length + s.size ≤ 140737488355328) (hBw : B ≤ w.heap.size) :
    Calls Tryd.prog 21 #[.pointer (some ⟨b, 0, none⟩), .string s] w fun e w' => e = .returned (.tuple #[.int .i64 s.size, .nilIface]) ∧ Lib.BuilderAt 43 5 B b (.pointer (some ⟨b, 0, none⟩)) (bs ++ Lib.strCells s) w' ∧ Below B w w' := by
  obtain ⟨i0, hi, hz0, hz1, hz2⟩ := info_parts byte_info
  go_enter Tryd.func21, Tryd.ntmps21
  go_wp2_with fail
  refine (ccheck_any B b bs _ h).mono ?_
  rintro e w1 ⟨rfl, h1, hb1⟩
  have c0 := h1.cell0
  obtain ⟨hB, v, hbk, hown, hne⟩ := h1
  have c1 : w1.cell? ⟨b, 1, none⟩ = some v := by rw [Lib.cell_of_heap hbk]; rfl
  have hlt := lt_of_block hbk
  have hsz := hb1.size
  go_wp2_with (at_builtin; refine Lib.wpList_append_own_string _ rfl _ _ 41 9 rfl B 5 i0 Tryd.underlying41 Tryd.underlying9 hi hz0 hz1 hz2 _ _ _ rfl hown s rfl ?c3 ?c4 ?c5 ?_)
  case c3 => unfold maxLen; omega
  case c4 => omega
  case c5 => omega
  intro v' w2 hown' hgrow _
  have hb2 : w2.heap[b]? = some (.cells #[.pointer (some ⟨b, 0, none⟩), v] 43 (0, 0)) := by
    rw [hgrow.block b hlt (fun e => hne e.symm)]; exact hbk
  have d0 : w2.cell? ⟨b, 0, none⟩ = some (.pointer (some ⟨b, 0, none⟩)) := by rw [Lib.cell_of_heap hb2]; rfl
  have d1 : w2.cell? ⟨b, 1, none⟩ = some v := by rw [Lib.cell_of_heap hb2]; rfl
  have f1 : w2.frozen? ⟨b, 1, none⟩ = false := Lib.frozen_of_heap hb2 1
  obtain ⟨ao, n', cap, rfl⟩ : ∃ ao n' cap, v' = .slice ao n' cap := by
    rcases hown'.2 with ⟨hv, _⟩ | ⟨g, cap, cur, hv, _⟩
    · exact ⟨_, _, _, hv⟩
    · exact ⟨_, _, _, hv⟩
  go_wp2
  go_ret2
  refine ⟨rfl, Lib.BuilderAt.put hB hb2 (bs' := bs ++ Lib.strCells s) (by simpa [Lib.strCells_length] using hown') (by decide), ?_⟩
  exact (hb1.grown hgrow (by omega) (fun k hk => (hown.lt k hk).1)).setCell (p := ⟨b, 1, none⟩) hB _

end Go.Proofs.YtobcbffakldfcaaDoor

namespace Go.Proofs.YtobcbffakldfcaaDoor
open Go.RowKit

set_option maxHeartbeats 1000000 in
theorem isLetter_gen (r : ByteArray) (w : World) (hT : Wd w) : Calls Tryd.prog 34 #[.string r] w fun e w' => e = .returned (.bool (Lib.contains lettersL (bys r))) ∧ w = w' := by
  obtain ⟨m, hm⟩ := hT.ml
  have HV := hide (Tryd.strings_Contains ⟨#[48, 49, 50, 51, 52, 53, 54, 55, 56, 57, 35, 64, 44, 46, 59, 42]⟩ r m w (by decide) hm)
  clear hT hm
  go_enter Tryd.func34, Tryd.ntmps34
  go_wp2_with fail
  refine HV.out.mono ?_
  rintro e w1 ⟨rfl, rfl⟩
  go_wp2
  go_ret
  exact ⟨rfl, rfl⟩

set_option maxRecDepth 100000 in
set_option maxHeartbeats 1000000 in
theorem isBound_any (x : Nat) (w : World) (hT : Wd w) : Calls Tryd.prog 44 #[.int .i32 (x : Int)] w fun e w' => e = .returned (.bool (bndP x)) ∧ w = w' := by
  obtain ⟨E, hE⟩ : ∃ E, E = Utf8.encode (x : Int) := ⟨_, rfl⟩
  have hcv : ∀ W, (convert 21 9 (.int .i32 (x : Int))).run Tryd.prog W = .ok (.string E) W := fun W => by rw [hE]; kernel_rfl
  have HL := hide (isLetter_gen E w hT)
  have HK := hide (kindOf_any E w hT)
  have EB : Hid (bndP x = (decide (bys E = [39]) || Lib.contains lettersL (bys E) || decide (kindB (bys E) ≠ 0))) := hide (by unfold bndP bndE; rw [hE])
  rw [EB.out]
  have ee := eqTL E [39]
  generalize kindB (bys E) = k at *
  generalize Lib.contains lettersL (bys E) = c at *
  clear hT EB hE
  by_cases h : bys E = [39]
  · rw [decide_eq_true h] at ee ⊢
    clear h
    go_enter Tryd.func44, Tryd.ntmps44
    go_wp2
    go_ret
    exact ⟨rfl, rfl⟩
  · rw [decide_eq_false h] at ee ⊢
    clear h
    cases c
    · by_cases hk : k = 0
      · subst hk
        go_enter Tryd.func44, Tryd.ntmps44
        go_wp2_with fail
        refine HL.out.mono ?_
        rintro e w1 ⟨rfl, rfl⟩
        go_wp2_with fail
        refine HK.out.mono ?_
        rintro e w1 ⟨rfl, rfl⟩
        go_wp2
        go_ret
        exact ⟨rfl, rfl⟩
      · have hk' : ((k : Int) == 0) = false := beq_eq_false_iff_ne.2 (by omega)
        have hk2 : ((k : Int) != 0) = true := by rw [bne, hk']; rfl
        rw [decide_eq_true hk]
        go_enter Tryd.func44, Tryd.ntmps44
        go_wp2_with fail
        refine HL.out.mono ?_
        rintro e w1 ⟨rfl, rfl⟩
        go_wp2_with fail
        refine HK.out.mono ?_
        rintro e w1 ⟨rfl, rfl⟩
        go_wp2
        go_ret
        exact ⟨rfl, rfl⟩
    · go_enter Tryd.func44, Tryd.ntmps44
      go_wp2_with fail
      refine HL.out.mono ?_
      rintro e w1 ⟨rfl, rfl⟩
      go_wp2
      go_ret
      exact ⟨rfl, rfl⟩

set_option maxHeartbeats 1000000 in
theorem isFree_any (x : Nat) (w : World) (hT : Wd w) : Calls Tryd.prog 43 #[.int .i32 (x : Int)] w fun e w' => e = .returned (.bool (!bndP x)) ∧ w = w' := by
  have HB := hide (isBound_any x w hT)
  clear hT
  go_enter Tryd.func43, Tryd.ntmps43
  go_wp2_with fail
  refine HB.out.mono ?_
  rintro e w1 ⟨rfl, rfl⟩
  go_wp2
  go_ret
  exact ⟨rfl, rfl⟩

theorem flat_le (q : List UInt8 → Bool) (rs : List (List UInt8)) : (rs.dropWhile q).flatten.length ≤ rs.flatten.length ∧ rs.flatten.length - (rs.dropWhile q).flatten.length = (rs.takeWhile q).flatten.length := by
  have := congrArg List.length (flat_len_drop q rs)
  rw [List.length_append] at this
  omega
theorem size_mkB (l : List UInt8) : (mkB l).size = l.length := by rw [← bys_len]; rfl

theorem mk_cut0 (s : ByteArray) (n : Nat) : s.extract 0 n = mkB ((bys s).take n) := by
  rw [← mkB_bys (s.extract 0 n)]
  congr 1
  show (s.extract 0 n).data.toList = _
  rw [ByteArray.data_extract, Array.toList_extract]
  rfl

set_option maxRecDepth 100000 in
set_option maxHeartbeats 1000000 in
theorem cut_any (g : Nat) (eg : ∀ args w, (callFunc g args).run Tryd.prog w = .ok (.enter g args) w) (p : Nat → Bool) (q : List UInt8 → Bool) (hpq : ∀ r, IsR r → ∀ b, p (Lib.decodeL (r ++ b)).1 = q r) (rs : List (List UInt8)) (w : World) (hr : ∀ r ∈ rs, IsR r) (hs : rs.flatten.length ≤ 1000000) (hp : PredGrows Tryd.prog g #[] p w) :
    Calls Tryd.prog 42 #[.string (mkB rs.flatten), .func (.func g) #[] #[]] w fun e w' => e = .returned (.tuple #[.string (mkB (rs.takeWhile q).flatten), .string (mkB (rs.dropWhile q).flatten)]) ∧ Below w.heap.size w w' := by
  have HC := hide (Tryd.strings_TrimLeftFunc_grows g #[] eg p (mkB rs.flatten) w hp)
  have ht := trim_runes p q hpq (mkB rs.flatten) rs hr rfl
  have he : Lib.trimLeftF p (mkB rs.flatten) = mkB (rs.dropWhile q).flatten := by rw [← mkB_bys (Lib.trimLeftF p (mkB rs.flatten)), ht]
  rw [he] at HC
  obtain ⟨hl1, hl2⟩ := flat_le q rs
  have h1 := size_mkB rs.flatten
  have h2 := size_mkB (rs.dropWhile q).flatten
  obtain ⟨S, hS⟩ : ∃ S, S = mkB rs.flatten := ⟨_, rfl⟩
  obtain ⟨T, hT⟩ : ∃ T, T = mkB (rs.dropWhile q).flatten := ⟨_, rfl⟩
  have EX : Hid (S.extract 0 (S.size - T.size) = mkB (rs.takeWhile q).flatten) := hide (by
    have := mk_cut0 S (S.size - T.size)
    rw [this, hS, hT, h1, h2, hl2, bys_mkB]
    conv => lhs; rw [flat_len_drop q rs]
    rw [List.take_left' rfl])
  rw [← hS] at HC h1 ⊢
  rw [← hT] at HC h2 ⊢
  have hts : T.size ≤ S.size := by omega
  have hsz : S.size ≤ 1000000 := by omega
  clear hS hT ht he hl1 hl2 h1 h2 hs hp hpq hr eg
  go_enter Tryd.func42, Tryd.ntmps42
  go_wp2_with fail
  refine HC.out.mono ?_
  rintro e w1 ⟨rfl, hb⟩
  go_wp2
  refine bodyPost_ret (results_tmp2 rfl _ _ _) rfl ?_
  exact ⟨by rw [← EX.out]; rfl, hb⟩

theorem quo_rep (row : List (List UInt8)) (hr : ∀ r ∈ row, IsR r) : (⟨(Lib.replaceAll (mkB row.flatten).data.toList [39] [39, 39]).toArray⟩ : ByteArray) = mkB (row.flatMap dbl) := by
  show mkB (Lib.replaceAll row.flatten [39] [39, 39]) = _
  rw [repAll_39, dbl_runes row hr]

set_option maxRecDepth 100000 in
set_option maxHeartbeats 1000000 in
theorem quoted_any (row : List (List UInt8)) (w : World) (hr : ∀ r ∈ row, IsR r) (hs : row.flatten.length ≤ 1000000) (hT : Wd w) :
    Calls Tryd.prog 45 #[.string (mkB row.flatten)] w fun e w' => e = .returned (.string (mkB (quoR row))) ∧ Below w.heap.size w w' := by
  obtain ⟨m, hm⟩ := hT.ml
  have h1 := size_mkB row.flatten
  have hc : Lib.countB (mkB row.flatten) ⟨#[39]⟩ ≤ row.flatten.length + 1 := Lib.count_le row.flatten [39]
  have HV := hide (Tryd.strings_ReplaceAll (mkB row.flatten) ⟨#[39]⟩ ⟨#[39, 39]⟩ m w (by omega) hm (by decide) (by
    rw [h1]
    have : (⟨#[39, 39]⟩ : ByteArray).size = 2 := rfl
    rw [this]; omega))
  have e1 : (⟨(Lib.replaceAll (mkB row.flatten).data.toList (⟨#[39]⟩ : ByteArray).data.toList (⟨#[39, 39]⟩ : ByteArray).data.toList).toArray⟩ : ByteArray) = mkB (row.flatMap dbl) := quo_rep row hr
  rw [e1] at HV
  have h2 := dbl_len row
  have h3 := size_mkB (row.flatMap dbl)
  have HT : Hid (∀ W, Calls Tryd.prog 61 #[.string (mkB row.flatten), .string ⟨#[39]⟩] W fun e w' => e = .returned (.string (mkB (Lib.trimB row.flatten 39))) ∧ (w' = W ∨ w' = W.drew)) := hide (fun W => Tryd.strings_Trim_one (mkB row.flatten) 39 (by decide) W (by omega))
  have hq : Hid (mkB (quoR row) = if Lib.trimB row.flatten 39 = [] then mkB (row.flatMap dbl) else mkB [39] ++ mkB (row.flatMap dbl) ++ mkB [39]) := hide (by
    unfold quoR
    by_cases ha : row.all (fun r => decide (r = [39])) = true
    · rw [if_pos ha, if_pos ((trim_39 _ _).2 ((all_apo row hr).2 ha))]
    · rw [if_neg ha, if_neg (fun e => ha ((all_apo row hr).1 ((trim_39 _ _).1 e)))]
      rw [← mkB_app, ← mkB_app]; rfl)
  generalize mkB row.flatten = S at *
  obtain ⟨T, hTr⟩ : ∃ T, T = Lib.trimB row.flatten 39 := ⟨_, rfl⟩
  rw [← hTr] at HT hq
  obtain ⟨Q, hQ⟩ : ∃ Q, Q = mkB (row.flatMap dbl) := ⟨_, rfl⟩
  rw [← hQ] at HV hq h3
  rw [hq.out]
  have hQs : Q.size ≤ 3000000 := by omega
  clear hT hm hc e1 h1 h2 h3 hQ hTr hs hr hq
  by_cases hz : T = []
  · subst hz
    rw [if_pos rfl]
    rw [show mkB [] = ⟨#[]⟩ from rfl] at HT
    go_enter Tryd.func45, Tryd.ntmps45
    go_wp2_with fail
    refine HV.out.mono ?_
    rintro e w1 ⟨rfl, hb⟩
    have HB := hide hb
    clear HV hb
    go_wp2_with fail
    refine (HT.out _).mono ?_
    rintro e w2 ⟨rfl, hw⟩
    have HB2 : Hid (Below w.heap.size w w2) := hide (by
      rcases hw with rfl | rfl
      · exact HB.out
      · exact HB.out.drew)
    clear hw HT
    go_wp2
    go_ret
    exact ⟨rfl, HB2.out⟩
  · rw [if_neg hz]
    have hzs : (mkB T).size ≠ 0 := by rw [size_mkB]; exact fun e => hz (List.length_eq_zero_iff.1 e)
    have i1 := tl_ne3 hzs
    have i2 := tl_ie3 hzs
    have i3 := tl_nb3 hzs
    generalize mkB T = TB at *
    rw [show mkB [39] = ⟨#[39]⟩ from rfl]
    have k1 : ¬ 9223372036854775807 < (⟨#[39]⟩ : ByteArray).size + Q.size := by
      have : (⟨#[39]⟩ : ByteArray).size = 1 := rfl
      omega
    have k2 : ¬ 9223372036854775807 < (⟨#[39]⟩ ++ Q : ByteArray).size + (⟨#[39]⟩ : ByteArray).size := by
      have : (⟨#[39]⟩ : ByteArray).size = 1 := rfl
      rw [ByteArray.size_append]
      omega
    clear hz hzs
    go_enter Tryd.func45, Tryd.ntmps45
    go_wp2_with fail
    refine HV.out.mono ?_
    rintro e w1 ⟨rfl, hb⟩
    have HB := hide hb
    clear HV hb
    go_wp2_with fail
    refine (HT.out _).mono ?_
    rintro e w2 ⟨rfl, hw⟩
    have HB2 : Hid (Below w.heap.size w w2) := hide (by
      rcases hw with rfl | rfl
      · exact HB.out
      · exact HB.out.drew)
    clear hw HT
    go_wp2
    go_ret
    exact ⟨rfl, HB2.out⟩

def Bd (w : World) (b : Nat) (acc : List UInt8) : Prop := Lib.IsBuilder 43 5 b b (Lib.byteCells acc) w
theorem bdAt_below {T e : TypeId} {B b : Nat} {p : Value} {bs : List Value} {w w' : World} (h : Lib.BuilderAt T e B b p bs w) (hb : Below w.heap.size w w') : Lib.BuilderAt T e B b p bs w' := by
  obtain ⟨h1, v, h2, h3, h4⟩ := h
  refine ⟨h1, v, (hb.block b (lt_of_block h2)).trans h2, World.ownsRow.kept h3 (row := none) ⟨hb.os, hb.tape, hb.output, hb.size, fun k hk _ => hb.block k hk⟩ (by cases v.ownBlock <;> simp), h4⟩
theorem Bd.below {w w' : World} {b : Nat} {acc : List UInt8} (h : Bd w b acc) (hb : Below w.heap.size w w') : Bd w' b acc := by
  rcases h with h | h
  · exact .inl (bdAt_below h hb)
  · exact .inr (bdAt_below h hb)
theorem Bd.lt {w : World} {b : Nat} {acc : List UInt8} (h : Bd w b acc) : b < w.heap.size := by
  rcases h with ⟨_, v, h2, _⟩ | ⟨_, v, h2, _⟩
  · exact lt_of_block h2
  · exact lt_of_block h2
theorem Bd.new (w : World) : Bd (w.alloc (.cells #[.pointer none, .slice none 0 0] 43)) w.heap.size [] :=
  .inl ⟨Nat.le_refl _, _, heap_alloc_new w _, World.ownsRow_nil _ _ _ _, by simp [Value.ownBlock]⟩
def KT (w w' : World) : Prop := ∀ j cs, Blk w j cs 32 → Blk w' j cs 32
theorem KT.set {w : World} {b i : Nat} {v : Value} {cs : Array Value} {T : TypeId} (h : Blk w b cs T) (hT : T ≠ 32) : KT w (w.setCell ⟨b, i, none⟩ v) := fun j cs' hj => by
  refine hj.other (a := ⟨b, i, none⟩) (fun e => ?_) v
  have e' : b = j := e
  subst e'
  unfold Blk at h hj
  rw [h] at hj
  simp only [Option.some.injEq, Obj.cells.injEq] at hj
  exact hT hj.2.1
theorem KT.grown {w w' : World} {B n : Nat} {v : Value} {xs : List Value} {e : TypeId} (ho : w.ownsRow B e 1 v n xs) (he : e ≠ 32) (hg : w.grownBy w' v.ownBlock) : KT w w' := fun j cs hj => by
  have hne : some j ≠ v.ownBlock := by
    intro q
    rcases ho.2 with ⟨hv, _⟩ | ⟨g, cap, cur, hv, _, hh, _⟩
    · rw [hv] at q; simp [Value.ownBlock] at q
    · rw [hv] at q
      have q' : j = g := by simpa [Value.ownBlock] using q
      subst q'
      unfold Blk at hj
      rw [hh] at hj
      simp only [Option.some.injEq, Obj.cells.injEq] at hj
      exact he hj.2.1
  unfold Blk at *
  rw [hg.block j (lt_of_block hj) hne]
  exact hj
theorem KT.trans {a b c : World} (h : KT a b) (k : KT b c) : KT a c := fun j cs hj => k j cs (h j cs hj)

theorem ccheck_kt (B b : Nat) (bs : List Value) (w : World) (h : Lib.IsBuilder 43 5 B b bs w) :
    Calls Tryd.prog 41 #[.pointer (some ⟨b, 0, none⟩)] w fun e w' => e = .returned (.tuple #[]) ∧ Lib.BuilderAt 43 5 B b (.pointer (some ⟨b, 0, none⟩)) bs w' ∧ Below B w w' ∧ KT w w' := by
  rcases h with h | h
  · refine (ccheck_fresh b w h.cell0 h.shape h.frozen0).mono ?_
    rintro e w' ⟨rfl, rfl⟩
    obtain ⟨_, v, hbk, _⟩ := id h
    exact ⟨rfl, h.used _, (Below.refl B w).setCell (p := ⟨b, 0, none⟩) h.1 _, KT.set hbk (by decide)⟩
  · refine (ccheck_used b w h.cell0).mono ?_
    rintro e w' ⟨rfl, rfl⟩
    exact ⟨rfl, h, Below.refl B _, fun _ _ hj => hj⟩

set_option maxRecDepth 100000 in
set_option maxHeartbeats 2000000 in
theorem writeString_kt (B b : Nat) (bs : List Value) (s : ByteArray) (w : World) (h : Lib.IsBuilder 43 5 B b bs w) (hlen : bs.length + s.size ≤ 140737488355328) (hBw : B ≤ w.heap.size) :
    Calls Tryd.prog 21 #[.pointer (some ⟨b, 0, none⟩), .string s] w fun e w' => e = .returned (.tuple #[.int .i64 s.size, .nilIface]) ∧ Lib.BuilderAt 43 5 B b (.pointer (some ⟨b, 0, none⟩)) (bs ++ Lib.strCells s) w' ∧ Below B w w' ∧ KT w w' := by
  obtain ⟨i0, hi, hz0, hz1, hz2⟩ := info_parts byte_info
  go_enter Tryd.func21, Tryd.ntmps21
  go_wp2_with fail
  refine (ccheck_kt B b bs _ h).mono ?_
  rintro e w1 ⟨rfl, h1, hb1, hk1⟩
  have c0 := h1.cell0
  obtain ⟨hB, v, hbk, hown, hne⟩ := h1
  have c1 : w1.cell? ⟨b, 1, none⟩ = some v := by rw [Lib.cell_of_heap hbk]; rfl
  have hlt := lt_of_block hbk
  have hsz := hb1.size
  go_wp2_with (at_builtin; refine Lib.wpList_append_own_string _ rfl _ _ 41 9 rfl B 5 i0 Tryd.underlying41 Tryd.underlying9 hi hz0 hz1 hz2 _ _ _ rfl hown s rfl ?c3 ?c4 ?c5 ?_)
  case c3 => unfold maxLen; omega
  case c4 => omega
  case c5 => omega
  intro v' w2 hown' hgrow _
  have hb2 : w2.heap[b]? = some (.cells #[.pointer (some ⟨b, 0, none⟩), v] 43 (0, 0)) := by
    rw [hgrow.block b hlt (fun e => hne e.symm)]; exact hbk
  have hk2 := hk1.trans (KT.grown hown (by decide) hgrow)
  have hk3 : ∀ u, KT w (w2.setCell ⟨b, 1, none⟩ u) := fun u => hk2.trans (KT.set hb2 (by decide))
  have d0 : w2.cell? ⟨b, 0, none⟩ = some (.pointer (some ⟨b, 0, none⟩)) := by rw [Lib.cell_of_heap hb2]; rfl
  have d1 : w2.cell? ⟨b, 1, none⟩ = some v := by rw [Lib.cell_of_heap hb2]; rfl
  have f1 : w2.frozen? ⟨b, 1, none⟩ = false := Lib.frozen_of_heap hb2 1
  obtain ⟨ao, n', cap, rfl⟩ : ∃ ao n' cap, v' = .slice ao n' cap := by
    rcases hown'.2 with ⟨hv, _⟩ | ⟨g, cap, cur, hv, _⟩
    · exact ⟨_, _, _, hv⟩
    · exact ⟨_, _, _, hv⟩
  have HK3 := hide hk3
  clear hk1 hk2 hk3
  go_wp2
  go_ret2
  refine ⟨rfl, Lib.BuilderAt.put hB hb2 (bs' := bs ++ Lib.strCells s) (by simpa [Lib.strCells_length] using hown') (by decide), ?_, HK3.out _⟩
  exact (hb1.grown hgrow (by omega) (fun k hk => (hown.lt k hk).1)).setCell (p := ⟨b, 1, none⟩) hB _

theorem Bd.putK {w : World} {b : Nat} {acc : List UInt8} (s : ByteArray) (h : Bd w b acc) (hl : acc.length + s.size ≤ 140737488355328) :
    Calls Tryd.prog 21 #[.pointer (some ⟨b, 0, none⟩), .string s] w fun e w' => e = .returned (.tuple #[.int .i64 s.size, .nilIface]) ∧ Bd w' b (acc ++ bys s) ∧ Below b w w' ∧ KT w w' := by
  refine (writeString_kt b b _ s w h (by rw [Lib.byteCells_length]; exact hl) (Nat.le_of_lt h.lt)).mono ?_
  rintro e w' ⟨h1, h2, h3, h4⟩
  refine ⟨h1, .inr ?_, h3, h4⟩
  have e : Lib.byteCells (acc ++ bys s) = Lib.byteCells acc ++ Lib.strCells s := by unfold Lib.byteCells Lib.strCells bys; rw [List.map_append]
  rw [e]
  exact h2
theorem Bd.put {w : World} {b : Nat} {acc : List UInt8} (s : ByteArray) (h : Bd w b acc) (hl : acc.length + s.size ≤ 140737488355328) :
    Calls Tryd.prog 21 #[.pointer (some ⟨b, 0, none⟩), .string s] w fun e w' => e = .returned (.tuple #[.int .i64 s.size, .nilIface]) ∧ Bd w' b (acc ++ bys s) ∧ Below b w w' := by
  refine (writeString_any b b _ s w h (by rw [Lib.byteCells_length]; exact hl) (Nat.le_of_lt h.lt)).mono ?_
  rintro e w' ⟨h1, h2, h3⟩
  refine ⟨h1, .inr ?_, h3⟩
  have e : Lib.byteCells (acc ++ bys s) = Lib.byteCells acc ++ Lib.strCells s := by unfold Lib.byteCells Lib.strCells bys; rw [List.map_append]
  rw [e]
  exact h2
theorem Bd.str {w : World} {b : Nat} {acc : List UInt8} (h : Bd w b acc) :
    Calls Tryd.prog 24 #[.pointer (some ⟨b, 0, none⟩)] w fun e w' => e = .returned (.string (mkB acc)) ∧ Below b w w' :=
  Tryd.Builder_String_any b b acc w h (Nat.le_of_lt h.lt)

def strSz : Value → Nat
  | .string s => s.size
  | _ => 0
theorem pred_bound {w : World} (hT : Wd w) : PredGrows Tryd.prog 44 #[] bndP w := fun W x _ hb => (isBound_any x W (hT.below hb)).mono fun e w' ⟨h1, h2⟩ => ⟨h1, by rw [← h2]; exact Below.refl _ _⟩
theorem pred_free {w : World} (hT : Wd w) : PredGrows Tryd.prog 43 #[] (fun x => !bndP x) w := fun W x _ hb => (isFree_any x W (hT.below hb)).mono fun e w' ⟨h1, h2⟩ => ⟨h1, by rw [← h2]; exact Below.refl _ _⟩

set_option maxRecDepth 100000 in
set_option maxHeartbeats 2000000 in
theorem textOf_any (rs : List (List UInt8)) (w : World) (hr : ∀ r ∈ rs, IsR r) (hs : rs.flatten.length ≤ 1000) (hT : Wd w) :
    Calls Tryd.prog 22 #[.string (mkB rs.flatten)] w fun e w' => e = .returned (.string (mkB (textR rs))) ∧ Below w.heap.size w w' := by
  have eb : ∀ args w, (callFunc 44 args).run Tryd.prog w = .ok (.enter 44 args) w := enters_of Tryd.func44 (by kernel_rfl) rfl
  have ef : ∀ args w, (callFunc 43 args).run Tryd.prog w = .ok (.enter 43 args) w := enters_of Tryd.func43 (by kernel_rfl) rfl
  have CF : Hid (∀ (W : World) (l : List (List UInt8)), Wd W → (∀ r ∈ l, IsR r) → l.flatten.length ≤ 1000 → Calls Tryd.prog 42 #[.string (mkB l.flatten), .func (.func 43) #[] #[]] W fun e w' => e = .returned (.tuple #[.string (mkB (l.takeWhile freeB).flatten), .string (mkB (l.dropWhile freeB).flatten)]) ∧ Below W.heap.size W w') := hide (fun W l hW hl hn => cut_any _ ef _ freeB (fun r h b => by unfold freeB; rw [bnd_dec r h b]) l W hl (by omega) (pred_free hW))
  have CB : Hid (∀ (W : World) (l : List (List UInt8)), Wd W → (∀ r ∈ l, IsR r) → l.flatten.length ≤ 1000 → Calls Tryd.prog 42 #[.string (mkB l.flatten), .func (.func 44) #[] #[]] W fun e w' => e = .returned (.tuple #[.string (mkB (l.takeWhile bndB).flatten), .string (mkB (l.dropWhile bndB).flatten)]) ∧ Below W.heap.size W w') := hide (fun W l hW hl hn => cut_any _ eb _ bndB bnd_dec l W hl (by omega) (pred_bound hW))
  clear eb ef
  have hlen := textR_len rs hr
  obtain ⟨TT, hTT⟩ : ∃ TT, TT = textR rs := ⟨_, rfl⟩
  rw [← hTT] at hlen ⊢
  have HTT := hide hTT
  have HR0 := hide hr
  have HT := hide hT
  clear hr hT hTT
  have B1 : Hid (Below w.heap.size w (w.alloc (.cells #[.pointer none, .slice none 0 0] 43))) := hide ((Below.refl _ _).alloc (Nat.le_refl _) _)
  have N1 := hide (Bd.new w)
  obtain ⟨S0, hS0⟩ : ∃ S0, S0 = mkB rs.flatten := ⟨_, rfl⟩
  rw [← hS0]
  have HS0 := hide hS0
  clear hS0
  go_enter Tryd.func22, Tryd.ntmps22
  go_wp2
  go_loopw [0] (fun x wr => ∃ (l : List (List UInt8)) (acc : List UInt8) (S : ByteArray), x = .string S ∧ Hid (S = mkB l.flatten) ∧ Hid ((∀ r ∈ l, IsR r) ∧ l.flatten.length ≤ 1000 ∧ acc ++ textR l = TT) ∧ Hid (Bd wr w.heap.size acc) ∧ Hid (Below w.heap.size w wr)) (fun x _ => strSz x)
  case atStart => exact ⟨rs, [], S0, rfl, HS0, hide ⟨HR0.out, hs, by rw [HTT.out]; rfl⟩, N1, B1⟩
  case round =>
    obtain ⟨l, acc, S, rfl, HS, HF, HBd, HB⟩ := hrel
    cases l with
    | nil =>
      have hz : S = ⟨#[]⟩ := HS.out
      subst hz
      have EE : Hid (acc = TT) := hide (by have := HF.out.2.2; rw [show textR [] = [] from rfl, List.append_nil] at this; exact this)
      have HSt := hide (Bd.str HBd.out)
      rw [EE.out] at HSt
      clear HF HS EE
      go_wp2_with fail
      refine HSt.out.mono ?_
      rintro e w1 ⟨rfl, hb⟩
      go_wp2
      go_ret
      exact ⟨rfl, HB.out.trans hb⟩
    | cons r l' =>
      have hR := HF.out.1 r List.mem_cons_self
      have hz : S.size ≠ 0 := by
        rw [HS.out, size_mkB, List.flatten_cons, List.length_append]
        have := hR.len
        omega
      have i1 := tl_ne3 hz
      have i2 := tl_ie3 hz
      have i3 := tl_nb3 hz
      have LS := hide (rows_less r l' hR)
      have TR := hide (textR_rows (r :: l'))
      obtain ⟨L, hL⟩ : ∃ L, L = r :: l' := ⟨_, rfl⟩
      rw [← hL] at HS HF LS TR
      clear hL hR
      have TW := hide (HT.out.below HB.out)
      have H1 := hide (CF.out wr L TW.out HF.out.1 HF.out.2.1)
      have fl := flat_le freeB L
      have fb := flat_le bndB (L.dropWhile freeB)
      have hlL := HF.out.2.1
      have MF : Hid (∀ x ∈ L.dropWhile freeB, IsR x) := hide (fun x hx => HF.out.1 x (mem_dropW hx))
      rw [← HS.out] at H1
      go_wp2_with fail
      refine H1.out.mono ?_
      rintro e w1 ⟨rfl, hb1⟩
      have TW1 := hide (TW.out.below hb1)
      have BD1 := hide (HBd.out.below hb1)
      have HB1 := hide (HB.out.trans (hb1.mono HB.out.size))
      have H2 := hide (CB.out w1 (L.dropWhile freeB) TW1.out MF.out (by omega))
      clear hb1 H1 TW HBd HB
      go_wp2_with fail
      refine H2.out.mono ?_
      rintro e w2 ⟨rfl, hb2⟩
      have TW2 := hide (TW1.out.below hb2)
      have BD2 := hide (BD1.out.below hb2)
      have HB2 := hide (HB1.out.trans (hb2.mono HB1.out.size))
      have H3 := hide (quoted_any ((L.dropWhile freeB).takeWhile bndB) w2 (fun x hx => MF.out x (mem_take hx)) (by omega) TW2.out)
      clear hb2 H2 TW1 BD1 HB1
      go_wp2_with fail
      refine H3.out.mono ?_
      rintro e w3 ⟨rfl, hb3⟩
      have BD3 := hide (BD2.out.below hb3)
      have HB3 := hide (HB2.out.trans (hb3.mono HB2.out.size))
      clear hb3 H3 TW2 BD2 HB2
      have EN : Hid (acc ++ bys (mkB (L.takeWhile freeB).flatten ++ mkB (quoR ((L.dropWhile freeB).takeWhile bndB))) ++ textR ((L.dropWhile freeB).dropWhile bndB) = TT) := hide (by
        rw [← HF.out.2.2, TR.out, bys_append, bys_mkB, bys_mkB]
        simp only [List.append_assoc])
      have ESz : Hid (∀ x : List (List UInt8), strSz (.string (mkB x.flatten)) = x.flatten.length) := hide (fun x => size_mkB _)
      have hSz : S.size = L.flatten.length := by rw [HS.out, size_mkB]
      have MD : Hid (∀ x ∈ (L.dropWhile freeB).dropWhile bndB, IsR x) := hide (fun x hx => MF.out x (mem_dropW hx))
      have hl2 : ((L.dropWhile freeB).dropWhile bndB).flatten.length ≤ 1000 := by omega
      have hq : acc.length + (mkB (L.takeWhile freeB).flatten ++ mkB (quoR ((L.dropWhile freeB).takeWhile bndB))).size ≤ 4000 := by
        have := congrArg List.length EN.out
        rw [List.length_append, List.length_append, bys_len] at this
        omega
      have ksz : ¬ 9223372036854775807 < (mkB (L.takeWhile freeB).flatten).size + (mkB (quoR ((L.dropWhile freeB).takeWhile bndB))).size := by rw [ByteArray.size_append] at hq; omega
      obtain ⟨A, hA⟩ : ∃ A, A = mkB (L.takeWhile freeB).flatten := ⟨_, rfl⟩
      obtain ⟨Q, hQ⟩ : ∃ Q, Q = mkB (quoR ((L.dropWhile freeB).takeWhile bndB)) := ⟨_, rfl⟩
      rw [← hA, ← hQ] at EN hq ksz
      simp only [← hA, ← hQ]
      have H4 := hide (BD3.out.put (A ++ Q) (by omega))
      obtain ⟨L3, hL3⟩ : ∃ L3, L3 = (L.dropWhile freeB).dropWhile bndB := ⟨_, rfl⟩
      rw [← hL3] at EN MD hl2 LS
      simp only [← hL3]
      have HLT : Hid (L3.flatten.length < S.size) := hide (by rw [hSz]; exact LS.out)
      clear hA hQ hL3 HF MF fl fb hlL TR LS hSz hq HS
      go_wp2_with fail
      refine H4.out.mono ?_
      rintro e w4 ⟨rfl, hbd, hb4⟩
      have BD4 := hide hbd
      have HB4 := hide (HB3.out.trans hb4)
      clear H4 hbd hb4 BD3 HB3
      go_wp2
      exact ⟨⟨L3, _, _, rfl, hide rfl, hide ⟨MD.out, hl2, EN.out⟩, BD4, HB4⟩, by rw [ESz.out]; exact HLT.out⟩

end Go.Proofs.YtobcbffakldfcaaDoor
