/-
  The reference's Leaves.
  FieldsLeaves: what its calls answer, told once for what may be and what may not.
  A range over a function in a loop: its marks, its blocks.
-/
import Derived.Test.YtkgapklhgkngnaaDoorEB12
import Derived.Test.YtkgapklhgkngnaaDoorEB13
import Derived.Test.YtkgapklhgkngnaaDoorEB9
import Derived.RangeFuncBox
import Derived.RangeFuncLeaves
namespace Go.Proofs.YtkgapklhgkngnaaDoor
open Go.RowKit

def EndJ (t : ByteArray) (l : List Sp) (p j : Nat) : Prop := p = t.size ∨ ∃ i, i < j ∧ ((gN spZ l i).a = (p : Int) ∨ (gN spZ l i).b = (p : Int))
theorem endJ_all (t : ByteArray) (l : List Sp) (p : Nat) : EndJ t l p l.length ↔ EndP t l p := by
  constructor
  · rintro (h | ⟨i, hi, h⟩)
    · exact .inl h
    · exact .inr ⟨_, gN_mem hi, h⟩
  · rintro (h | ⟨s, hs, h⟩)
    · exact .inl h
    · obtain ⟨i, hi, e⟩ := gN_at hs
      exact .inr ⟨i, hi, by rw [e]; exact h⟩
theorem endJ_succ (t : ByteArray) (l : List Sp) (p j : Nat) : EndJ t l p (j + 1) ↔ EndJ t l p j ∨ (gN spZ l j).a = (p : Int) ∨ (gN spZ l j).b = (p : Int) := by
  constructor
  · rintro (h | ⟨i, hi, h⟩)
    · exact .inl (.inl h)
    · rcases Nat.lt_or_ge i j with q | q
      · exact .inl (.inr ⟨i, q, h⟩)
      · obtain rfl : i = j := by omega
        exact .inr h
  · rintro ((h | ⟨i, hi, h⟩) | h)
    · exact .inl h
    · exact .inr ⟨i, by omega, h⟩
    · exact .inr ⟨j, by omega, h⟩
theorem takeS_succ {l : List Sp} {i : Nat} (h : i < l.length) : l.take (i + 1) = l.take i ++ [gN spZ l i] := by
  rw [List.take_add_one]
  unfold gN
  rw [List.getElem?_eq_getElem h]
  rfl

set_option maxRecDepth 100000 in
set_option maxHeartbeats 16000000 in
theorem rLeaves_no (t : ByteArray) (v : Value) (l : List Sp) (w : World) (hT : U8 w) (ht : t.size ≤ 1048576) (hv : SpV w v l) (hl : l.length ≤ 1048576) (hm : mayB t l = false) :
    Calls Tryd.prog 19 #[.agg #[.string t, v]] w fun e w' => e = .returned (.tuple #[.slice none 0 0, .int .i64 170]) ∧ Below w.heap.size w w' := by
  obtain ⟨W1, hW1⟩ : ∃ W1, W1 = w.alloc (.cells #[.string t, v] 25) := ⟨_, rfl⟩
  have B1 := hide (show Below w.heap.size w W1 by rw [hW1]; exact (Below.refl _ _).alloc (Nat.le_refl _) _)
  have CM := hide (rMay_any t v l W1 (hT.below B1.out) (by omega) (hv.below B1.out) (by omega))
  rw [hm] at CM
  have X1 : Hid (Blk W1 w.heap.size #[.string t, v] 25) := hide (by rw [hW1]; exact Blk.newAt w _ rfl _ _)
  obtain ⟨ao, cap, rfl⟩ := hv.len
  obtain ⟨n, hn⟩ : ∃ n, n = l.length := ⟨_, rfl⟩
  rw [← hn] at CM X1 hW1 ⊢
  have HW := hide hW1.symm
  have x0 := X1.out.cell 0
  have x1 := X1.out.cell 1
  clear hT hv hl hm hn hW1
  go_enter Tryd.func19, Tryd.ntmps19
  go_wp2_with (simp only [HW.out])
  refine CM.out.mono ?_
  rintro e w2 ⟨rfl, hb2⟩
  have B2 := hide (B1.out.trans (hb2.mono B1.out.size))
  clear hb2 CM
  go_wp2
  go_ret2
  exact ⟨rfl, B2.out⟩

set_option maxRecDepth 100000 in
set_option maxHeartbeats 16000000 in
theorem rLeaves_yes (t : ByteArray) (v : Value) (l : List Sp) (w : World) (hT : U8 w) (ht : t.size ≤ 1048576) (hv : SpV w v l) (hl : l.length ≤ 1048576) (hm : mayB t l = true) :
    Calls Tryd.prog 19 #[.agg #[.string t, v]] w fun e w' => Hid (∃ uo uc, e = .returned (.tuple #[.slice uo (leavesP t l).length uc, .int .i64 0]) ∧ OwnP w.heap.size w' (.slice uo (leavesP t l).length uc) (leavesP t l)) ∧ Below w.heap.size w w' := by
  obtain ⟨W1, hW1⟩ : ∃ W1, W1 = w.alloc (.cells #[.string t, v] 25) := ⟨_, rfl⟩
  have B1 := hide (show Below w.heap.size w W1 by rw [hW1]; exact (Below.refl _ _).alloc (Nat.le_refl _) _)
  have CM := hide (rMay_any t v l W1 (hT.below B1.out) (by omega) (hv.below B1.out) (by omega))
  rw [hm] at CM
  have HMY := hide hm
  have X1 : Hid (Blk W1 w.heap.size #[.string t, v] 25) := hide (by rw [hW1]; exact Blk.newAt w _ rfl _ _)
  have HV := hide hv
  obtain ⟨ao, cap, rfl⟩ := hv.len
  obtain ⟨n, hn⟩ : ∃ n, n = l.length := ⟨_, rfl⟩
  obtain ⟨R, hR⟩ : ∃ R, R = leavesP t l := ⟨_, rfl⟩
  rw [← hR]
  have HR := hide hR
  have hnb : n ≤ 1048576 := by omega
  rw [← hn] at CM X1 HV hW1 ⊢
  have HN := hide hn
  have HW := hide hW1.symm
  have x0 := X1.out.cell 0
  have x1 := X1.out.cell 1
  clear hT hv hl hm hn hW1 hR
  go_enter Tryd.func19, Tryd.ntmps19
  go_wp2_with (simp only [HW.out])
  refine CM.out.mono ?_
  rintro e w2 ⟨rfl, hb2⟩
  have B2 := hide (B1.out.trans (hb2.mono B1.out.size))
  have X2 := hide (X1.out.below hb2 X1.out.lt)
  clear hb2 CM HW B1 X1 x0 x1
  obtain ⟨W3, hW3⟩ : ∃ W3, W3 = w2.alloc (.cells #[] 50) := ⟨_, rfl⟩
  have b3 : Below w2.heap.size w2 W3 := by rw [hW3]; exact (Below.refl _ _).alloc (Nat.le_refl _) _
  have O3 : Hid (OwnP (w.heap.size + 1) W3 (.slice (some ⟨w2.heap.size, 0, none⟩) 0 0) []) := hide (by rw [hW3]; exact World.ownsRow_made w2 #[] 0 X2.out.lt (by decide) (e := 50) (size := 2) rfl)
  have B3 := hide (B2.out.trans (b3.mono B2.out.size))
  have X3 := hide (X2.out.below b3 X2.out.lt)
  have HW3 := hide hW3.symm
  clear hW3 b3 B2 X2
  go_wp2_with (simp only [HW3.out])
  go_loopw [4, 5, 6] (fun x4 x5 x6 wr => ∃ (a p k uc : Nat) (uo : Option Addr) (lv : List Pe), p ≤ t.size + 1 ∧ x4 = .slice uo k uc ∧ x5 = .int .i64 (a : Int) ∧ x6 = .int .i64 (p : Int) ∧ Hid (RlI t l a p lv) ∧ Hid (lv.length = k) ∧ Hid (OwnP (w.heap.size + 1) wr (.slice uo k uc) lv) ∧ Hid (Below w.heap.size w wr) ∧ Hid (Blk wr w.heap.size #[.string t, .slice ao n cap] 25)) (fun _ _ x6 _ => t.size + 1 - (intOf x6).toNat)
  case atStart => exact ⟨0, 1, 0, 0, _, [], by omega, rfl, rfl, rfl, hide (RlI.nil t l), hide rfl, O3, B3, X3⟩
  case round =>
    clear O3 B3 X3 HW3
    obtain ⟨a, p, k, uc, uo, lv, hp, rfl, rfl, rfl, RI, LK, OO, BB, XX⟩ := hrel
    have x0 := XX.out.cell 0
    have x1 := XX.out.cell 1
    have hap := RI.out.lt
    have hka : k ≤ a := by have q := til_len _ _ _ RI.out.til; rw [LK.out] at q; omega
    by_cases hlt : p ≤ t.size
    · have hlt' : (p : Int) ≤ (t.size : Int) := by omega
      obtain ⟨wo, hwo⟩ : ∃ wo, wo = wr := ⟨_, rfl⟩
      subst hwo
      go_wp2
      go_loopw [7, 8] (fun x7 x8 wr => ∃ (j : Nat) (b : Bool), j ≤ n ∧ x7 = .bool b ∧ x8 = .int .i64 (j : Int) ∧ Hid (b = true ↔ EndJ t l p j) ∧ Hid (Below wo.heap.size wo wr)) (fun _ x8 _ => n - (intOf x8).toNat)
      case atStart => exact ⟨0, ((p : Int) == (t.size : Int)), Nat.zero_le _, rfl, rfl, hide (by
          rw [beq_iff_eq]
          unfold EndJ
          constructor
          · intro q; exact .inl (by omega)
          · rintro (q | ⟨i, hi, _⟩)
            · omega
            · omega), hide (Below.refl _ _)⟩
      case round =>
        clear x0 x1
        obtain ⟨j, b, hj, rfl, rfl, HE, BQ⟩ := hrel
        have XQ := hide (XX.out.below BQ.out XX.out.lt)
        have x0 := XQ.out.cell 0
        have x1 := XQ.out.cell 1
        by_cases hjn : j < n
        · have hjn' : (j : Int) < (n : Int) := by omega
          have hjl : j < l.length := by rw [← HN.out]; exact hjn
          have ES := hide (endJ_succ t l p j)
          have HP := HV.out
          rw [HN.out] at HP
          cases HP with
          | none _ _ _ h => subst h; simp at hjl
          | some bb o cp hv hc hb ha =>
            simp only [Value.slice.injEq] at hv
            obtain ⟨rfl, hx, rfl⟩ := hv
            clear hx hc
            obtain ⟨a0, a1, a2⟩ := ha j hjl
            have bw := BB.out.trans (BQ.out.mono BB.out.size)
            obtain ⟨y, hy⟩ : ∃ y, y = gN spZ l j := ⟨_, rfl⟩
            have c1 := (bw.cell (p := ⟨bb, o + j * 3 + 1, none⟩) hb).trans a1
            have c2 := (bw.cell (p := ⟨bb, o + j * 3 + 2, none⟩) hb).trans a2
            rw [← hy] at c1 c2 ES
            clear hy ha a0 a1 a2 bw hb
            obtain ⟨yf, ya, yb⟩ := y
            simp only [] at c1 c2 ES
            cases b with
            | true =>
              have HE2 : Hid (true = true ↔ EndJ t l p (j + 1)) := hide ⟨fun _ => ES.out.2 (.inl (HE.out.1 rfl)), fun _ => rfl⟩
              clear HE ES
              go_wp2
              exact ⟨⟨j + 1, true, by omega, rfl, by go_num, HE2, BQ⟩, by simp [intOf]; omega⟩
            | false =>
              by_cases h1 : ya = (p : Int)
              · have q1 : (ya == (p : Int)) = true := by simpa using h1
                have HE2 : Hid (true = true ↔ EndJ t l p (j + 1)) := hide ⟨fun _ => ES.out.2 (.inr (.inl h1)), fun _ => rfl⟩
                clear HE ES
                subst h1
                go_wp2
                exact ⟨⟨j + 1, true, by omega, rfl, by go_num, HE2, BQ⟩, by simp [intOf]; omega⟩
              · have q1 : (ya == (p : Int)) = false := beq_eq_false_iff_ne.2 h1
                by_cases h2 : yb = (p : Int)
                · have HE2 : Hid (true = true ↔ EndJ t l p (j + 1)) := hide ⟨fun _ => ES.out.2 (.inr (.inr h2)), fun _ => rfl⟩
                  have q2 : (yb == (p : Int)) = true := by simpa using h2
                  clear HE ES h1
                  subst h2
                  go_wp2
                  exact ⟨⟨j + 1, true, by omega, rfl, by go_num, HE2, BQ⟩, by simp [intOf]; omega⟩
                · have q2 : (yb == (p : Int)) = false := beq_eq_false_iff_ne.2 h2
                  have HE2 : Hid (false = true ↔ EndJ t l p (j + 1)) := hide ⟨fun q => (by cases q), fun q => by
                    rcases ES.out.1 q with k | k | k
                    · exact HE.out.2 k
                    · exact absurd k h1
                    · exact absurd k h2⟩
                  clear HE ES h1 h2
                  go_wp2
                  exact ⟨⟨j + 1, false, by omega, rfl, by go_num, HE2, BQ⟩, by simp [intOf]; omega⟩
        · obtain rfl : n = j := by omega
          have hjn' : ¬ (n : Int) < (n : Int) := by omega
          have HE2 : Hid (b = true ↔ EndP t l p) := hide (by rw [← endJ_all, ← HN.out]; exact HE.out)
          have B5 := hide (BB.out.trans (BQ.out.mono BB.out.size))
          have O5 := hide (ownF_below OO.out BQ.out)
          obtain ⟨w5, hw5⟩ : ∃ w5, w5 = wr := ⟨_, rfl⟩
          subst hw5
          clear HE BQ BB OO XX hjn hjn' hj
          cases b with
          | false =>
            have RN := hide (RI.out.skip (fun q => by have := HE2.out.2 q; cases this))
            clear RI HE2
            go_wp2
            exact ⟨⟨a, p + 1, k, uc, uo, lv, by omega, rfl, rfl, by go_num, RN, LK, O5, B5, XQ⟩, by simp [intOf]; omega⟩
          | true =>
            have RN := hide (RI.out.cut HMY.out hlt (HE2.out.1 rfl))
            clear RI HE2
            go_wp2
            go_loopw [9, 10] (fun x9 x10 wr => ∃ (j : Nat) (fd : Int), j ≤ n ∧ x9 = .int .i64 fd ∧ x10 = .int .i64 (j : Int) ∧ Hid (fd = lastP (matF a p) 0 (l.take j)) ∧ Hid (Below w5.heap.size w5 wr)) (fun _ x10 _ => n - (intOf x10).toNat)
            case atStart => exact ⟨0, 0, Nat.zero_le _, rfl, rfl, hide rfl, hide (Below.refl _ _)⟩
            case round =>
              clear x0 x1
              obtain ⟨j, fd, hj, rfl, rfl, HF, BQ⟩ := hrel
              have XZ := hide (XQ.out.below BQ.out XQ.out.lt)
              have x0 := XZ.out.cell 0
              have x1 := XZ.out.cell 1
              by_cases hjn : j < n
              · have hjn' : (j : Int) < (n : Int) := by omega
                have hjl : j < l.length := by rw [← HN.out]; exact hjn
                have HP := HV.out
                rw [HN.out] at HP
                cases HP with
                | none _ _ _ h => subst h; simp at hjl
                | some bb o cp hv hc hb ha =>
                  simp only [Value.slice.injEq] at hv
                  obtain ⟨rfl, hx, rfl⟩ := hv
                  clear hx hc
                  obtain ⟨a0, a1, a2⟩ := ha j hjl
                  have bw := B5.out.trans (BQ.out.mono B5.out.size)
                  have TS := hide (takeS_succ hjl)
                  obtain ⟨y, hy⟩ : ∃ y, y = gN spZ l j := ⟨_, rfl⟩
                  have c0 := (bw.cell (p := ⟨bb, o + j * 3, none⟩) hb).trans a0
                  have c1 := (bw.cell (p := ⟨bb, o + j * 3 + 1, none⟩) hb).trans a1
                  have c2 := (bw.cell (p := ⟨bb, o + j * 3 + 2, none⟩) hb).trans a2
                  rw [← hy] at c0 c1 c2 TS
                  clear hy ha a0 a1 a2 bw hb
                  obtain ⟨yf, ya, yb⟩ := y
                  simp only [] at c0 c1 c2
                  by_cases h1 : ya ≤ (a : Int)
                  · by_cases h2 : (p : Int) ≤ yb
                    · have HF2 : Hid (yf = lastP (matF a p) 0 (l.take (j + 1))) := hide (by rw [TS.out, lastP_snoc, if_pos (show matF a p ⟨yf, ya, yb⟩ = true by unfold matF; simp only []; rw [decide_eq_true h1, decide_eq_true h2]; rfl)])
                      clear HF TS
                      go_wp2
                      exact ⟨⟨j + 1, yf, by omega, rfl, by go_num, HF2, BQ⟩, by simp [intOf]; omega⟩
                    · have e2 : matF a p ⟨yf, ya, yb⟩ = false := by unfold matF; simp only []; rw [decide_eq_false h2]; simp
                      have HF2 : Hid (fd = lastP (matF a p) 0 (l.take (j + 1))) := hide (by rw [TS.out, lastP_snoc, if_neg (by rw [e2]; decide)]; exact HF.out)
                      clear HF TS e2
                      go_wp2
                      exact ⟨⟨j + 1, fd, by omega, rfl, by go_num, HF2, BQ⟩, by simp [intOf]; omega⟩
                  · have e2 : matF a p ⟨yf, ya, yb⟩ = false := by unfold matF; simp only []; rw [decide_eq_false h1]; simp
                    have HF2 : Hid (fd = lastP (matF a p) 0 (l.take (j + 1))) := hide (by rw [TS.out, lastP_snoc, if_neg (by rw [e2]; decide)]; exact HF.out)
                    clear HF TS e2
                    go_wp2
                    exact ⟨⟨j + 1, fd, by omega, rfl, by go_num, HF2, BQ⟩, by simp [intOf]; omega⟩
              · obtain rfl : n = j := by omega
                have hjn' : ¬ (n : Int) < (n : Int) := by omega
                have HF2 : Hid (fd = lastP (matF a p) 0 l) := hide (by have q := HF.out; rw [HN.out, List.take_length] at q; exact q)
                have B6 := hide (B5.out.trans (BQ.out.mono B5.out.size))
                have O6 := hide (ownF_below O5.out BQ.out)
                obtain ⟨tx, htx⟩ : ∃ tx, tx = t.extract a p := ⟨_, rfl⟩
                have RN2 : Hid (RlI t l p (p + 1) (lv ++ [(⟨tx, fd⟩ : Pe)])) := hide (by rw [htx, HF2.out]; exact RN.out)
                have hsl : ∀ W, (Instr.slice 9 (.string t) (some (.int .i64 (a : Int))) (some (.int .i64 (p : Int))) none).run Tryd.prog W = .ok (.string tx) W := fun W => by
                  rw [run_slice_string_if W 9 t .i64 .i64 (a : Int) (p : Int) Tryd.underlying9, if_pos (by omega), if_pos (by omega), show ((a : Int)).toNat = a by omega, show ((p : Int)).toNat = p by omega, ← htx]
                obtain ⟨V, hV⟩ : ∃ V, V = wr.alloc (.cells #[.string tx, .int .i64 fd] 50) := ⟨_, rfl⟩
                have AV := hide (show Below wr.heap.size wr V by rw [hV]; exact (Below.refl _ _).alloc (Nat.le_refl _) _)
                have SV : Hid (Blk V wr.heap.size #[.string tx, .int .i64 fd] 50) := hide (by rw [hV]; exact Blk.newAt _ _ rfl _ _)
                have BV := hide (B6.out.trans (AV.out.mono B6.out.size))
                have XV := hide (XZ.out.below AV.out XZ.out.lt)
                have OV := hide (ownF_below O6.out AV.out)
                have BS := hide (show w.heap.size + 1 ≤ V.heap.size from XV.out.lt)
                have KB : Hid ((k + 1) * 24 ≤ 140737488355328) := hide (by omega)
                have HVf := hide hV.symm
                clear htx hV HF HF2 RN B5 O5 XQ B6 O6 AV
                go_wp2_with (first | simp only [HVf.out] | (at_builtin; refine wpPe_append rfl _ _ rfl (w.heap.size + 1) (.slice uo k uc) lv k LK.out rfl OV.out wr.heap.size ⟨tx, fd⟩ rfl SV.out KB.out BS.out ?_; intro u9 c9 y9 hown hgr))
                have B9 := hide (BV.out.grown hgr BV.out.size (fun q hq => by have := (World.ownsRow.lt OV.out q hq).1; omega))
                have X9 : Hid (Blk y9 w.heap.size #[.string t, .slice ao n cap] 25) := hide (by have q := XV.out; unfold Blk at *; rw [hgr.block _ (lt_of_block q) (fun e => by have := (World.ownsRow.lt OV.out _ e.symm).1; omega)]; exact q)
                have O9 := hide hown
                have L9 : Hid ((lv ++ [(⟨tx, fd⟩ : Pe)]).length = k + 1) := hide (by rw [List.length_append, LK.out]; rfl)
                exact ⟨⟨p, p + 1, k + 1, c9, u9, _, by omega, rfl, rfl, by go_num, RN2, L9, O9, B9, X9⟩, by simp [intOf]; omega⟩
    · obtain rfl : p = t.size + 1 := by omega
      have hlt' : ¬ ((t.size + 1 : Nat) : Int) ≤ (t.size : Int) := by omega
      have EL : lv = R := by rw [HR.out]; exact RI.out.last HMY.out
      have O5 : Hid (OwnP (w.heap.size + 1) wr (.slice uo k uc) R) := hide (by rw [← EL]; exact OO.out)
      have LL : Hid (k = R.length) := hide (by rw [← EL]; exact LK.out.symm)
      clear RI OO LK EL
      go_wp2
      go_ret2
      refine ⟨hide ⟨uo, uc, ?_, ?_⟩, BB.out⟩
      · rw [← LL.out]; rfl
      · rw [← LL.out]; exact ownF_mono O5.out (Nat.le_succ _)

end Go.Proofs.YtkgapklhgkngnaaDoor

namespace Go.Proofs.YtkgapklhgkngnaaDoor
open Go.RowKit

theorem ownF_max {w : World} {B n k : Nat} {e : TypeId} {v : Value} {xs : List Value} (h : w.ownsRow B e k v n xs) : n ≤ maxLen := by
  rcases h.2 with ⟨_, h2⟩ | ⟨g, cap, cur, _, _, _, h5, h6, _⟩
  · omega
  · exact Nat.le_trans h5 h6
theorem lev_c (t : ByteArray) (v : Value) (l : List Sp) (w : World) (hT : U8 w) (ht : t.size ≤ 1048576) (hv : SpV w v l) (hl : l.length ≤ 1048576) :
    ∃ (LV : List Pe) (er : Int),
      (∀ X, Below w.heap.size w X → Calls Tryd.prog 18 #[.agg #[.string t, v]] X fun e w' => Hid (∃ uo uc, e = .returned (.tuple #[.slice uo LV.length uc, .int .i64 er]) ∧ PeV w' (.slice uo LV.length uc) LV ∧ LV.length ≤ maxLen) ∧ Below X.heap.size X w') ∧
      (∀ X, Below w.heap.size w X → Calls Tryd.prog 19 #[.agg #[.string t, v]] X fun e w' => Hid (∃ uo uc, e = .returned (.tuple #[.slice uo LV.length uc, .int .i64 er]) ∧ PeV w' (.slice uo LV.length uc) LV ∧ LV.length ≤ maxLen) ∧ Below X.heap.size X w') := by
  cases hm : mayB t l with
  | true =>
    refine ⟨leavesP t l, 0, fun X hX => ?_, fun X hX => ?_⟩
    · refine (Leaves_yes t v l X (hT.below hX) (by omega) (hv.below hX) (by omega) hm).mono ?_
      rintro e w' ⟨H, hb⟩
      obtain ⟨uo, uc, rfl, ho⟩ := H.out
      exact ⟨hide ⟨uo, uc, rfl, OwnP.pev ho, ownF_max ho⟩, hb⟩
    · refine (rLeaves_yes t v l X (hT.below hX) ht (hv.below hX) hl hm).mono ?_
      rintro e w' ⟨H, hb⟩
      obtain ⟨uo, uc, rfl, ho⟩ := H.out
      exact ⟨hide ⟨uo, uc, rfl, OwnP.pev ho, ownF_max ho⟩, hb⟩
  | false =>
    refine ⟨[], 170, fun X hX => ?_, fun X hX => ?_⟩
    · refine (Leaves_no t v l X (hT.below hX) (by omega) (hv.below hX) (by omega) hm).mono ?_
      rintro e w' ⟨rfl, hb⟩
      exact ⟨hide ⟨none, 0, rfl, (.none none 0 rfl rfl), Nat.zero_le _⟩, hb⟩
    · refine (rLeaves_no t v l X (hT.below hX) ht (hv.below hX) hl hm).mono ?_
      rintro e w' ⟨rfl, hb⟩
      exact ⟨hide ⟨none, 0, rfl, (.none none 0 rfl rfl), Nat.zero_le _⟩, hb⟩
theorem all_c (t : ByteArray) (v : Value) (l : List Sp) (w : World) (hT : U8 w) (ht : t.size ≤ 1048576) (hv : SpV w v l) (hno : NilOr v) (hl : l.length ≤ 1048576) :
    ∃ (T : ByteArray) (L : List Sp), (mayB t l = true → T = t ∧ L = l) ∧ (mayB t l = false → L = []) ∧
      ∀ X, Below w.heap.size w X → Calls Tryd.prog 21 #[.agg #[.string t, v]] X fun e w' => Hid (∃ bt bs va, e = .returned (.func (.func 42) #[] #[.pointer (some ⟨bs, 0, none⟩), .pointer (some ⟨bt, 0, none⟩)]) ∧ ItH X.heap.size w' bt bs T L va) ∧ Below X.heap.size X w' := by
  cases hm : mayB t l with
  | true => exact ⟨t, l, fun _ => ⟨rfl, rfl⟩, fun q => (by cases q), fun X hX => All_yes t v l X (hT.below hX) (by omega) (hv.below hX) hno (by omega) hm⟩
  | false => exact ⟨⟨#[]⟩, [], fun q => (by cases q), fun _ => rfl, fun X hX => All_no t v l X (hT.below hX) (by omega) (hv.below hX) (by omega) hm _ rfl _ rfl⟩
end Go.Proofs.YtkgapklhgkngnaaDoor

namespace Go.Proofs.YtkgapklhgkngnaaDoor
open Go.RowKit Go.Shelf

theorem blk_own {β : Type} (g : Nat) (t : TypeId) (cs : β → Array Value) : Go.Own (fun s W => Blk W g (cs s) t) := fun s X Y row hs hg hrow => by
  have hs : Blk X g (cs s) t := hs
  show Blk Y g (cs s) t
  unfold Blk at *
  rw [hg.block g (lt_of_block hs) (fun e' => ?_)]
  · exact hs
  · obtain ⟨o, ho, hc⟩ := hrow g e'.symm
    rw [hs] at ho
    cases ho
    cases hc
theorem keepsOthers_of_below {W X : World} (h : Below W.heap.size W X) : KeepsOthers W X := ⟨h.size, fun k _ hk _ => (h.block k (Array.getElem?_eq_some_iff.1 hk).1).trans hk⟩

def markD (D : Nat) : Deferred := { target := .collected D, args := #[] }
def Marks (W : World) (Ds : List Nat) : Prop := Ds.Nodup ∧ ∀ D ∈ Ds, D < W.heap.size ∧ W.heap[D]? = some (.deferred (some []))
theorem Marks.below {W X : World} {Ds : List Nat} (h : Marks W Ds) (hb : Below W.heap.size W X) : Marks X Ds := ⟨h.1, fun D hD => ⟨Nat.lt_of_lt_of_le (h.2 D hD).1 hb.size, (hb.block D (h.2 D hD).1).trans (h.2 D hD).2⟩⟩
theorem Marks.nil (W : World) : Marks W [] := ⟨List.nodup_nil, fun D hD => by cases hD⟩
theorem Marks.cons {W X : World} {Ds : List Nat} {D n₀ : Nat} (h : Marks W Ds) (hn : W.heap.size ≤ n₀) (hb : Below n₀ W X) (hD : n₀ ≤ D) (hX : X.heap[D]? = some (.deferred (some []))) : Marks X (D :: Ds) := by
  refine ⟨List.nodup_cons.2 ⟨fun q => ?_, h.1⟩, fun E hE => ?_⟩
  · have := (h.2 D q).1
    omega
  · rcases List.mem_cons.1 hE with rfl | hE
    · exact ⟨(Array.getElem?_eq_some_iff.1 hX).1, hX⟩
    · exact (h.below (hb.mono hn)).2 E hE
theorem Marks.set {W : World} {Ds : List Nat} (h : Marks W Ds) (a : Addr) (u : Value) (hc : ∃ cs t, Blk W a.block cs t) : Marks (W.setCell a u) Ds := by
  refine ⟨h.1, fun D hD => ⟨by have := (h.2 D hD).1; simp only [World.setCell, Array.size_modify]; exact this, ?_⟩⟩
  rw [Below.heap_setCell W a u D (fun e => ?_)]
  · exact (h.2 D hD).2
  · obtain ⟨cs, t, hb⟩ := hc
    have q := (h.2 D hD).2
    unfold Blk at hb
    rw [e, hb] at q
    cases q

theorem leaves_marks {F : Fence} {n : Nat} {fn : Func} {tmps : Array Value} {H : Nat} {w0 : World} (hr : fn.results = #[.cell 4 4]) (ht : tmps.getD 4 undef = .pointer (some ⟨H, 0, none⟩)) :
    ∀ (Ds : List Nat) (W : World), Blk W H #[.bool true] 4 → Marks W Ds → (∀ D ∈ Ds, w0.heap.size ≤ D) → Below w0.heap.size w0 W →
      LeavesInM F n Tryd.prog fn tmps (fun e w' => e = .returned (.bool true) ∧ Below w0.heap.size w0 w') (Ds.map markD) .returning W
  | [], W, hb, _, _, hB => by
    have c0 := hb.cell 0
    simp at c0
    refine ⟨.bool true, ?_, rfl, hB⟩
    rw [Array.getD_eq_getD_getElem?] at ht
    simp [results, hr, ht, go_sem, c0]
  | D :: Ds, W, hb, hM, hlo, hB => by
    have hD := (hM.2 D List.mem_cons_self)
    refine ⟨by simp, .inl ⟨D, _, rfl, run_takeDeferred hD.2, ?_⟩⟩
    have hDH : ¬ D = H := fun e => by
      have q := hD.2
      unfold Blk at hb
      rw [e, hb] at q
      cases q
    refine leaves_marks hr ht Ds _ ?_ ⟨(List.nodup_cons.1 hM.1).2, fun E hE => ?_⟩ (fun E hE => hlo E (List.mem_cons_of_mem _ hE)) (hB.trans (belowK_b (w := w0) (Nat.le_refl _) W D _ _ (hlo D List.mem_cons_self) hD.2 rfl rfl))
    · unfold Blk at *
      rw [World.putObj_heap_other (by omega)]
      exact hb
    · have hE2 := hM.2 E (List.mem_cons_of_mem _ hE)
      have hne : ¬ D = E := fun e => (List.nodup_cons.1 hM.1).1 (e ▸ hE)
      exact ⟨by have := hE2.1; simp [World.putObj]; exact this, (World.putObj_heap_other (by omega)).trans hE2.2⟩

theorem may_in {t : ByteArray} {l : List Sp} (h : mayB t l = true) : ∀ s ∈ l, 0 ≤ s.a ∧ s.a ≤ s.b ∧ s.b ≤ (t.size : Int) := fun s hs => by
  obtain ⟨i, hi, rfl⟩ := gN_at hs
  obtain ⟨_, _, h1, h2, h3⟩ := (((may_ref t l).1 h).2 i hi).1
  unfold plcR at h1 h2
  simp only [Bool.and_eq_true, decide_eq_true_eq] at h1 h2
  omega
theorem sp_neqI (x y : Sp) (W : World) : (binOp .neq 31 (.agg #[.int .i64 x.f, .int .i64 x.a, .int .i64 x.b]) (.agg #[.int .i64 y.f, .int .i64 y.a, .int .i64 y.b])).run Tryd.prog W = .ok (.bool (!decide (x = y))) W := by
  obtain ⟨a, b, c⟩ := x
  obtain ⟨d, e, f⟩ := y
  by_cases h1 : a = d <;> by_cases h2 : b = e <;> by_cases h3 : c = f <;> simp [go_sem, Tryd.underlying31, Tryd.underlying3, Program.fieldsOf, h1, h2, h3]

theorem ItH.below {B : Nat} {W X : World} {bt bs : Nat} {T : ByteArray} {L : List Sp} {va : Value} (h : ItH B W bt bs T L va) (hb : Below W.heap.size W X) : ItH B X bt bs T L va :=
  ⟨h.tx.below hb h.tx.lt, h.sp.below hb h.sp.lt, h.ls.below hb, h.lo⟩
structure LoR (w : World) (o : Array Value) (st : Int) (B bt bs : Nat) (T : ByteArray) (L : List Sp) (va : Value) (tn K : Nat) (Ds : List Nat) (W : World) : Prop where
  bel : Below w.heap.size w W
  ko : Blk W w.heap.size o 25
  ks : Blk W (w.heap.size + 1) #[.int .i64 st] 3
  kr : Blk W (w.heap.size + 2) #[.bool false] 4
  kk : Blk W K #[.int .i64 (tn : Int)] 3
  it : ItH B W bt bs T L va
  mks : Marks W Ds
  lo : ∀ D ∈ Ds, w.heap.size ≤ D
theorem LoR.below {w : World} {o : Array Value} {st : Int} {B bt bs : Nat} {T : ByteArray} {L : List Sp} {va : Value} {tn K : Nat} {Ds : List Nat} {W X : World} (h : LoR w o st B bt bs T L va tn K Ds W) (hb : Below W.heap.size W X) : LoR w o st B bt bs T L va tn K Ds X :=
  ⟨h.bel.trans (hb.mono h.bel.size), h.ko.below hb h.ko.lt, h.ks.below hb h.ks.lt, h.kr.below hb h.kr.lt, h.kk.below hb h.kk.lt, h.it.below hb, h.mks.below hb, h.lo⟩
def turnM (a : Act) (W : World) : Nat := match a.tmps.getD 10 undef with
  | .pointer (some q) => 2 - (intOf ((W.cell? q).getD undef)).toNat
  | _ => 0
theorem turnM_eq {a : Act} {W : World} {K tn : Nat} (h : a.tmps.getD 10 undef = .pointer (some ⟨K, 0, none⟩)) (hk : W.cell? ⟨K, 0, none⟩ = some (.int .i64 (tn : Int))) : turnM a W = 2 - tn := by
  unfold turnM
  rw [h]
  simp [hk, intOf]
theorem LoR.next {w : World} {o : Array Value} {st : Int} {B bt bs : Nat} {T : ByteArray} {L : List Sp} {va : Value} {tn K D : Nat} {Ds : List Nat} {V : World} (h : LoR w o st B bt bs T L va tn K Ds V) (hM : Marks V (D :: Ds)) (hD : w.heap.size ≤ D) (tn' : Nat) :
    LoR w o st B bt bs T L va tn' V.heap.size (D :: Ds) (V.alloc (.cells #[.int .i64 (tn' : Int)] 3)) := by
  have b : Below V.heap.size V (V.alloc (.cells #[.int .i64 (tn' : Int)] 3)) := (Below.refl _ _).alloc (Nat.le_refl _) _
  have q := h.below b
  exact ⟨q.bel, q.ko, q.ks, q.kr, Blk.newAt _ _ rfl _ _, q.it, hM.below b, fun E hE => by rcases List.mem_cons.1 hE with rfl | hE; exact hD; exact h.lo E hE⟩
theorem cell_on {W X : World} {q : Addr} {u : Value} (hb : Below W.heap.size W X) (h : W.cell? q = some u) : X.cell? q = some u := (hb.cell (World.block_lt_of_cell? W q h)).trans h
end Go.Proofs.YtkgapklhgkngnaaDoor
