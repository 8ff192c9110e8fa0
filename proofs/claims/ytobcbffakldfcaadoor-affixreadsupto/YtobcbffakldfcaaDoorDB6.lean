/-
  Tokens and their texts go there and back: the law's walk.
  Texts joined by a sign have their tokens joined: the law's walk.
  The reference's Turn.
  The reference's runes of a text, its signs and letters.
  The reference's Letter.
  The reference's text: a text with its quotes.
  The reference's Print.
-/
import Derived.Test.YtobcbffakldfcaaDoorDB5
import Derived.Test.YtobcbffakldfcaaDoorDB4
import Derived.Test.YtobcbffakldfcaaDoorDB2
namespace Go.Proofs.YtobcbffakldfcaaDoor
open Go.RowKit

theorem parse_is (l : List UInt8) : (parseR l).1 = 0 ∨ ((parseR l).1 = 130 ∨ (parseR l).1 = 131 ∨ (parseR l).1 = 132) ∧ (parseR l).2 = [] := by
  unfold parseR
  split
  · exact .inr ⟨.inr (.inl rfl), rfl⟩
  · split
    · exact .inr ⟨.inr (.inl rfl), rfl⟩
    · split
      · exact .inr ⟨.inl rfl, rfl⟩
      · split
        · exact .inl rfl
        · next h =>
          rcases chkT_is _ with q | q
          · exact absurd q h
          · exact .inr ⟨.inr q, rfl⟩

end Go.Proofs.YtobcbffakldfcaaDoor

namespace Go.Proofs.YtobcbffakldfcaaDoor
open Go.RowKit

theorem SrcT.blk1 {w : World} {g : Nat} {k n : Int} {x : ByteArray} (h : Blk w g #[.int .i64 k, .int .i64 n, .string x] 32) : SrcT w (.slice (some ⟨g, 0, none⟩) 1 1) [⟨k, n, x⟩] :=
  .inr ⟨⟨g, 0, none⟩, 1, rfl, fun j u hj => by
    rw [Addr.add_lit, Nat.zero_add, h.cell j]
    have e : cellsT [(⟨k, n, x⟩ : Tok)] = [.int .i64 k, .int .i64 n, .string x] := rfl
    rw [e] at hj
    simpa using hj⟩

end Go.Proofs.YtobcbffakldfcaaDoor

namespace Go.Proofs.YtobcbffakldfcaaDoor
open Go.RowKit

end Go.Proofs.YtobcbffakldfcaaDoor

namespace Go.Proofs.YtobcbffakldfcaaDoor
open Go.RowKit

theorem infoS : (Tryd.prog.info? 9).map (fun i => (i.zero, i.size, i.bytes)) = some (some (.string ⟨#[]⟩), 1, 16) := by kernel_rfl
def cellsR (rs : List (List UInt8)) : List Value := rs.map fun r => .string (mkB r)
theorem cellsR_at (rs : List (List UInt8)) (i : Nat) (r : List UInt8) (h : rs[i]? = some r) : (cellsR rs)[i]? = some (.string (mkB r)) := by unfold cellsR; rw [List.getElem?_map, h]; rfl
theorem ownS_below {w w' : World} {B n : Nat} {v : Value} {xs : List Value} (h : w.ownsRow B 9 1 v n xs) (hb : Below w.heap.size w w') : w'.ownsRow B 9 1 v n xs :=
  World.ownsRow.kept h (row := none) ⟨hb.os, hb.tape, hb.output, hb.size, fun k hk _ => hb.block k hk⟩ (by cases v.ownBlock <;> simp)
theorem ownS_slice {w : World} {B n : Nat} {v : Value} {xs : List Value} (h : w.ownsRow B 9 1 v n xs) : ∃ ao cap, v = .slice ao n cap := by
  rcases h.2 with ⟨hv, hn⟩ | ⟨g, cap, cur, hv, _⟩
  · exact ⟨none, 0, by rw [hv, hn]⟩
  · exact ⟨_, cap, hv⟩
theorem ownS_some {w : World} {B n : Nat} {v : Value} {xs : List Value} (h : w.ownsRow B 9 1 v n xs) (hn : n ≠ 0) : ∃ g cap, v = .slice (some ⟨g, 0, none⟩) n cap ∧ n ≤ cap := by
  rcases h.2 with ⟨_, q⟩ | ⟨g, cap, cur, hv, _, _, hc, _⟩
  · exact absurd q hn
  · exact ⟨g, cap, hv, hc⟩

theorem wpS_append {w : World} {ops : Array Oper} {rest : List Oper} {o : Oper} {a : Act} {Q : Exit → Act → World → Prop} (hgd : o.guard = none) (s x : Operand)
    (ho : o.op = .call { callee := .builtin .append, args := #[s, x], argTypes := #[60, 60] })
    (base : Nat) (v : Value) (n : Nat) (xs : List Value) (hs : a.eval s = v) (hown : w.ownsRow base 9 1 v n xs)
    (g : Nat) (r : ByteArray) (hx : a.eval x = .slice (some ⟨g, 0, none⟩) 1 1) (hsrc : Blk w g #[.string r] 9) (XS : List Value) (hX : xs ++ [.string r] = XS) (hb : (n + 1) * 16 ≤ 140737488355328) (hbase : base ≤ w.heap.size)
    (h : ∀ uo uc w', w'.ownsRow base 9 1 (.slice uo (n + 1) uc) (n + 1) XS → w.grownBy w' v.ownBlock → wpList Tryd.prog ops Q rest (a.put o.dst (.slice uo (n + 1) uc)) w') : wpList Tryd.prog ops Q (o :: rest) a w := by
  obtain ⟨i0, hi, hz0, hz1, hz2⟩ := info_parts infoS
  subst hX
  refine wpList_append_own w hgd s x _ ho base _ i0 (.string ⟨#[]⟩) 1 16 Tryd.underlying60 hi hz0 hz1 hz2 rfl (by decide) v n xs hs hown ⟨g, 0, none⟩ 1 1 [.string r] hx rfl (fun j u hj => ?_) (fun u hu => ?_) (by unfold maxLen; omega) hb hbase (fun v' w' h3 h4 _ => ?_)
  · rw [Addr.add_lit, Nat.zero_add, hsrc.cell j]
    simpa using hj
  · rw [List.mem_singleton.1 hu]; rfl
  · obtain ⟨uo, uc, rfl⟩ := ownS_slice h3
    exact h uo uc w' h3 h4

set_option maxRecDepth 100000 in
set_option maxHeartbeats 4000000 in
theorem rRns_any (s : ByteArray) (w : World) (hs : s.size ≤ 4398046511104) :
    Calls Tryd.prog 36 #[.string s] w fun e w' => (∃ v, e = .returned (.tuple #[v, .bool (runesL (bys s)).isSome]) ∧ w'.ownsRow w.heap.size 9 1 v (rns (bys s)).length (cellsR (rns (bys s)))) ∧ Below w.heap.size w w' := by
  have HB0 : Hid (Below w.heap.size w (w.alloc (.cells #[] 9))) := hide ((Below.refl _ _).alloc (Nat.le_refl _) _)
  have OW0 : Hid ((w.alloc (.cells #[] 9)).ownsRow w.heap.size 9 1 (.slice (some ⟨w.heap.size, 0, none⟩) 0 0) 0 []) := hide (World.ownsRow_made w #[] 0 (Nat.le_refl _) (by decide) rfl)
  obtain ⟨V, hV⟩ : ∃ V, V = (runesL (bys s)).isSome := ⟨_, rfl⟩
  obtain ⟨RS, hRS⟩ : ∃ RS, RS = rns (bys s) := ⟨_, rfl⟩
  rw [← hV, ← hRS]
  have HV := hide hV
  have HR := hide hRS
  clear hV hRS
  go_enter Tryd.func36, Tryd.ntmps36
  go_wp2
  go_loopw [4, 5] (fun x q wr => ∃ (pos n : Nat) (uo : Option Addr) (uc : Nat) (acc : List (List UInt8)), pos ≤ s.size ∧ n ≤ pos ∧ x = .slice uo n uc ∧ q = .int .i64 (pos : Int) ∧ Hid (acc.length = n ∧ acc ++ rns ((bys s).drop pos) = RS ∧ (runesL ((bys s).drop pos)).isSome = V) ∧ Hid (wr.ownsRow w.heap.size 9 1 (.slice uo n uc) n (cellsR acc)) ∧ Hid (Below w.heap.size w wr)) (fun _ q _ => s.size - (intOf q).toNat)
  case atStart => exact ⟨0, 0, _, 0, [], Nat.zero_le _, Nat.le_refl _, rfl, rfl, hide ⟨rfl, by rw [HR.out, List.drop_zero]; rfl, by rw [HV.out, List.drop_zero]⟩, OW0, HB0⟩
  case round =>
    obtain ⟨pos, n, uo, uc, acc, hpos, hn, rfl, rfl, HF, HO, HB⟩ := hrel
    by_cases hlt : pos < s.size
    · have hlt' : (pos : Int) < (s.size : Int) := by omega
      have hra : runeAt s (pos : Int) = runeL ((bys s).drop pos) := by
        unfold runeAt
        rw [if_neg (by omega), Int.toNat_natCast]
      have hle := runeL_le ((bys s).drop pos)
      rw [List.length_drop, bys_len] at hle
      have H1 := hide (rRune_any s (pos : Int) wr (by omega))
      rw [hra] at H1
      obtain ⟨m, hm⟩ : ∃ m, m = runeL ((bys s).drop pos) := ⟨_, rfl⟩
      rw [← hm] at H1 hle
      obtain ⟨hle1, hle2⟩ := hle
      have HM := hide hm
      have hne : (bys s).drop pos ≠ [] := by
        intro e
        have := congrArg List.length e
        rw [List.length_drop, bys_len] at this
        simp at this; omega
      have HNE := hide hne
      clear hm hra hne
      go_wp2_with fail
      refine H1.out.mono ?_
      rintro e w1 ⟨rfl, rfl⟩
      clear H1
      rcases Nat.eq_zero_or_pos m with hm0 | hmp
      · have hz : runeL ((bys s).drop pos) = 0 := by rw [← HM.out]; exact hm0
        have EV : Hid (V = false) := hide (by rw [← HF.out.2.2, runesL_step _ HNE.out, if_pos hz]; rfl)
        have ER : Hid (acc = RS ∧ n = RS.length) := hide (by
          have q := HF.out.2.1
          rw [rns_bad _ hz, List.append_nil] at q
          exact ⟨q, by rw [← q, HF.out.1]⟩)
        have hm' : ((m : Int) == 0) = true := by rw [hm0]; rfl
        clear hz HF hm0 hle1 hle2
        go_wp2
        refine bodyPost_ret (results_tmp2 rfl _ _ _) rfl ?_
        refine ⟨⟨_, by rw [EV.out]; rfl, ?_⟩, HB.out⟩
        rw [← ER.out.2, ← ER.out.1]
        exact HO.out
      · have hm' : ((m : Int) == 0) = false := beq_eq_false_iff_ne.2 (by omega)
        have hne0 : runeL ((bys s).drop pos) ≠ 0 := by rw [← HM.out]; omega
        obtain ⟨r, hr⟩ : ∃ r, r = s.extract pos (pos + m) := ⟨_, rfl⟩
        have Hr := hide hr.symm
        have E1 : Hid (bys r = ((bys s).drop pos).take m) := hide (by rw [hr, bys_cut])
        have ER : Hid ((acc ++ [bys r]).length = n + 1 ∧ (acc ++ [bys r]) ++ rns ((bys s).drop (pos + m)) = RS ∧ (runesL ((bys s).drop (pos + m))).isSome = V) := hide (by
          refine ⟨by simp [HF.out.1], ?_, ?_⟩
          · rw [← HF.out.2.1, rns_step _ hne0, E1.out, ← HM.out, List.drop_drop]
            simp
          · have e2 := HF.out.2.2
            rw [runesL_step _ HNE.out, if_neg hne0, ← HM.out, Option.isSome_map, List.drop_drop] at e2
            exact e2)
        have BA : Hid (Below wr.heap.size wr (wr.alloc (.cells #[.string r] 9))) := hide ((Below.refl _ _).alloc (Nat.le_refl _) _)
        have SR := hide (Blk.newAt wr wr.heap.size rfl #[.string r] 9)
        have OA := hide (ownS_below HO.out BA.out)
        have HBA := hide (HB.out.trans (BA.out.mono HB.out.size))
        have EX : Hid (cellsR acc ++ [.string r] = cellsR (acc ++ [bys r])) := hide (by unfold cellsR; rw [List.map_append]; rfl)
        have hx1 : (pos : Int) + (m : Int) ≤ (s.size : Int) := by omega
        clear HF HO HB hne0 hr E1
        go_wp2_with (first | (at_builtin; refine wpS_append rfl _ _ rfl w.heap.size (.slice uo n uc) n (cellsR acc) rfl OA.out wr.heap.size r rfl SR.out _ EX.out (by omega) HBA.out.size ?_; intro uo2 uc2 w2 hown2 hgr2) | simp only [Hr.out])
        have HB2 := hide (HBA.out.grown hgr2 HBA.out.size (fun q hq => (World.ownsRow.lt OA.out q hq).1))
        have O2 := hide hown2
        clear hown2 hgr2 SR OA BA HBA EX
        exact ⟨⟨pos + m, n + 1, uo2, uc2, _, by omega, by omega, rfl, by go_num, ER, O2, HB2⟩, by simp [intOf]; omega⟩
    · obtain rfl : pos = s.size := by omega
      have hlt' : ¬ (s.size : Int) < (s.size : Int) := by omega
      have e1 := HF.out.2.1
      have e2 := HF.out.2.2
      rw [List.drop_eq_nil_of_le (by rw [bys_len]; exact Nat.le_refl _)] at e1 e2
      have EV : Hid (V = true) := hide (by rw [← e2]; rfl)
      have ER : Hid (acc = RS ∧ n = RS.length) := hide (by
        rw [rns_nil, List.append_nil] at e1
        exact ⟨e1, by rw [← e1, HF.out.1]⟩)
      clear e1 e2 HF hlt
      go_wp2
      refine bodyPost_ret (results_tmp2 rfl _ _ _) rfl ?_
      refine ⟨⟨_, by rw [EV.out]; rfl, ?_⟩, HB.out⟩
      rw [← ER.out.2, ← ER.out.1]
      exact HO.out

set_option maxRecDepth 100000 in
set_option maxHeartbeats 2000000 in
theorem rSign_any (r : ByteArray) (w : World) : Calls Tryd.prog 38 #[.string r] w fun e w' => e = .returned (.int .i64 (kindB (bys r) : Int)) ∧ w = w' := by
  have e1 := eqTL r [45]
  have e2 := eqTL r [43]
  have e3 := eqTL r [37]
  have e4 := eqTL r [226, 128, 176]
  have e5 := eqTL r [194, 164]
  unfold kindB
  by_cases h1 : bys r = [45]
  · rw [if_pos h1]
    rw [decide_eq_true h1] at e1
    clear e2 e3 e4 e5 h1
    go_enter Tryd.func38, Tryd.ntmps38
    go_wp2
    go_ret
    exact ⟨rfl, rfl⟩
  · rw [if_neg h1]
    rw [decide_eq_false h1] at e1
    clear h1
    by_cases h2 : bys r = [43]
    · rw [if_pos h2]
      rw [decide_eq_true h2] at e2
      clear e3 e4 e5 h2
      go_enter Tryd.func38, Tryd.ntmps38
      go_wp2
      go_ret
      exact ⟨rfl, rfl⟩
    · rw [if_neg h2]
      rw [decide_eq_false h2] at e2
      clear h2
      by_cases h3 : bys r = [37]
      · rw [if_pos h3]
        rw [decide_eq_true h3] at e3
        clear e4 e5 h3
        go_enter Tryd.func38, Tryd.ntmps38
        go_wp2
        go_ret
        exact ⟨rfl, rfl⟩
      · rw [if_neg h3]
        rw [decide_eq_false h3] at e3
        clear h3
        by_cases h4 : bys r = [226, 128, 176]
        · rw [if_pos h4]
          rw [decide_eq_true h4] at e4
          clear e5 h4
          go_enter Tryd.func38, Tryd.ntmps38
          go_wp2
          go_ret
          exact ⟨rfl, rfl⟩
        · rw [if_neg h4]
          rw [decide_eq_false h4] at e4
          clear h4
          by_cases h5 : bys r = [194, 164]
          · rw [if_pos h5]
            rw [decide_eq_true h5] at e5
            clear h5
            go_enter Tryd.func38, Tryd.ntmps38
            go_wp2
            go_ret
            exact ⟨rfl, rfl⟩
          · rw [if_neg h5]
            rw [decide_eq_false h5] at e5
            clear h5
            go_enter Tryd.func38, Tryd.ntmps38
            go_wp2
            go_ret
            exact ⟨rfl, rfl⟩

end Go.Proofs.YtobcbffakldfcaaDoor

namespace Go.Proofs.YtobcbffakldfcaaDoor
open Go.RowKit

set_option maxRecDepth 100000 in
set_option maxHeartbeats 2000000 in
theorem rLetter_any (r : ByteArray) (w : World) : Calls Tryd.prog 39 #[.string r] w fun e w' => e = .returned (.bool (letB (bys r))) ∧ w = w' := by
  by_cases hs : r.size = 1
  · have hlt : 0 < r.size := by omega
    have h1 : (bys r).length = 1 := by rw [bys_len]; exact hs
    have hb : bys r = [r[0]'hlt] := by
      match hbb : bys r, h1 with
      | [c], _ =>
        have e : r = ⟨#[c]⟩ := by rw [← mkB_bys r, hbb]; rfl
        subst e
        rfl
    have HC : Hid (∀ d, (r.toList == [d]) = decide (r[0]'hlt = d)) := hide (fun d => by
      rw [eqTL, hb]
      by_cases h : r[0]'hlt = d
      · rw [decide_eq_true h, decide_eq_true (by rw [h])]
      · rw [decide_eq_false h, decide_eq_false (fun e => h (by simpa using e))])
    rw [show letB (bys r) = lettersL.contains (r[0]'hlt) by rw [hb]; rfl]
    have hs' : ((r.size : Int) == 1) = true := by rw [hs]; rfl
    have HI : Hid (∃ c, c = r[0]'hlt) := hide ⟨_, rfl⟩
    obtain ⟨c, hc⟩ := HI.out
    rw [← hc]
    have HC' : Hid (∀ d, (r.toList == [d]) = decide (c = d)) := hide (fun d => by rw [hc]; exact HC.out d)
    clear HC hb h1 HI
    have HC := HC'
    clear HC' hs
    by_cases hd : 48 ≤ c.toNat ∧ c.toNat ≤ 57
    · have e : lettersL.contains c = true := by
        rw [List.contains_iff_mem]
        have : c.toNat = 48 ∨ c.toNat = 49 ∨ c.toNat = 50 ∨ c.toNat = 51 ∨ c.toNat = 52 ∨ c.toNat = 53 ∨ c.toNat = 54 ∨ c.toNat = 55 ∨ c.toNat = 56 ∨ c.toNat = 57 := by omega
        have q : ∀ n : Nat, n < 256 → c.toNat = n → c = UInt8.ofNat n := fun n _ h => by rw [← h]; simp
        rcases this with h | h | h | h | h | h | h | h | h | h
        all_goals
          rw [q _ (by decide) h]
          decide
      rw [e]
      obtain ⟨h1, h2⟩ := hd
      have h1' : (48 : Int) ≤ ((r[0]'hlt).toNat : Int) := by rw [← hc]; omega
      have h2' : ((r[0]'hlt).toNat : Int) ≤ 57 := by rw [← hc]; omega
      clear e h1 h2 HC hc
      go_enter Tryd.func39, Tryd.ntmps39
      go_wp2
      go_ret
      exact ⟨rfl, rfl⟩
    · have HN : Hid (¬ c = 35 → ¬ c = 64 → ¬ c = 44 → ¬ c = 46 → ¬ c = 59 → ¬ c = 42 → lettersL.contains c = false) := hide (fun a1 a2 a3 a4 a5 a6 => by
        cases hc : lettersL.contains c with
        | false => rfl
        | true =>
          exfalso
          rw [List.contains_iff_mem] at hc
          unfold lettersL at hc
          simp only [List.mem_cons, List.not_mem_nil, or_false] at hc
          rcases hc with rfl | rfl | rfl | rfl | rfl | rfl | rfl | rfl | rfl | rfl | h | h | h | h | h | h
          · exact hd (by decide)
          · exact hd (by decide)
          · exact hd (by decide)
          · exact hd (by decide)
          · exact hd (by decide)
          · exact hd (by decide)
          · exact hd (by decide)
          · exact hd (by decide)
          · exact hd (by decide)
          · exact hd (by decide)
          · exact a1 h
          · exact a2 h
          · exact a3 h
          · exact a4 h
          · exact a5 h
          · exact a6 h)
      by_cases hlo : 48 ≤ c.toNat
      · have h1' : (48 : Int) ≤ ((r[0]'hlt).toNat : Int) := by rw [← hc]; omega
        have h2' : ¬ ((r[0]'hlt).toNat : Int) ≤ 57 := by rw [← hc]; omega
        have h3' : decide (((r[0]'hlt).toNat : Int) ≤ 57) = false := decide_eq_false h2'
        clear hd hlo hc
        by_cases a1 : c = 35
        · have k1 := (HC.out 35).trans (decide_eq_true a1)
          rw [show lettersL.contains c = true from by rw [a1]; decide]
          clear HN HC a1
          go_enter Tryd.func39, Tryd.ntmps39
          go_wp2
          go_ret
          exact ⟨rfl, rfl⟩
        · have k1 := (HC.out 35).trans (decide_eq_false a1)
          by_cases a2 : c = 64
          · have k2 := (HC.out 64).trans (decide_eq_true a2)
            rw [show lettersL.contains c = true from by rw [a2]; decide]
            clear HN HC a2
            go_enter Tryd.func39, Tryd.ntmps39
            go_wp2
            go_ret
            exact ⟨rfl, rfl⟩
          · have k2 := (HC.out 64).trans (decide_eq_false a2)
            by_cases a3 : c = 44
            · have k3 := (HC.out 44).trans (decide_eq_true a3)
              rw [show lettersL.contains c = true from by rw [a3]; decide]
              clear HN HC a3
              go_enter Tryd.func39, Tryd.ntmps39
              go_wp2
              go_ret
              exact ⟨rfl, rfl⟩
            · have k3 := (HC.out 44).trans (decide_eq_false a3)
              by_cases a4 : c = 46
              · have k4 := (HC.out 46).trans (decide_eq_true a4)
                rw [show lettersL.contains c = true from by rw [a4]; decide]
                clear HN HC a4
                go_enter Tryd.func39, Tryd.ntmps39
                go_wp2
                go_ret
                exact ⟨rfl, rfl⟩
              · have k4 := (HC.out 46).trans (decide_eq_false a4)
                by_cases a5 : c = 59
                · have k5 := (HC.out 59).trans (decide_eq_true a5)
                  rw [show lettersL.contains c = true from by rw [a5]; decide]
                  clear HN HC a5
                  go_enter Tryd.func39, Tryd.ntmps39
                  go_wp2
                  go_ret
                  exact ⟨rfl, rfl⟩
                · have k5 := (HC.out 59).trans (decide_eq_false a5)
                  by_cases a6 : c = 42
                  · have k6 := (HC.out 42).trans (decide_eq_true a6)
                    rw [show lettersL.contains c = true from by rw [a6]; decide]
                    clear HN HC a6
                    go_enter Tryd.func39, Tryd.ntmps39
                    go_wp2
                    go_ret
                    exact ⟨rfl, rfl⟩
                  · have k6 := (HC.out 42).trans (decide_eq_false a6)
                    rw [HN.out a1 a2 a3 a4 a5 a6]
                    clear HN a1 a2 a3 a4 a5 a6 HC
                    go_enter Tryd.func39, Tryd.ntmps39
                    go_wp2
                    go_ret
                    exact ⟨rfl, rfl⟩
      · have h1' : ¬ (48 : Int) ≤ ((r[0]'hlt).toNat : Int) := by rw [← hc]; omega
        have h3' : decide ((48 : Int) ≤ ((r[0]'hlt).toNat : Int)) = false := decide_eq_false h1'
        clear hd hlo hc
        by_cases a1 : c = 35
        · have k1 := (HC.out 35).trans (decide_eq_true a1)
          rw [show lettersL.contains c = true from by rw [a1]; decide]
          clear HN HC a1
          go_enter Tryd.func39, Tryd.ntmps39
          go_wp2
          go_ret
          exact ⟨rfl, rfl⟩
        · have k1 := (HC.out 35).trans (decide_eq_false a1)
          by_cases a2 : c = 64
          · have k2 := (HC.out 64).trans (decide_eq_true a2)
            rw [show lettersL.contains c = true from by rw [a2]; decide]
            clear HN HC a2
            go_enter Tryd.func39, Tryd.ntmps39
            go_wp2
            go_ret
            exact ⟨rfl, rfl⟩
          · have k2 := (HC.out 64).trans (decide_eq_false a2)
            by_cases a3 : c = 44
            · have k3 := (HC.out 44).trans (decide_eq_true a3)
              rw [show lettersL.contains c = true from by rw [a3]; decide]
              clear HN HC a3
              go_enter Tryd.func39, Tryd.ntmps39
              go_wp2
              go_ret
              exact ⟨rfl, rfl⟩
            · have k3 := (HC.out 44).trans (decide_eq_false a3)
              by_cases a4 : c = 46
              · have k4 := (HC.out 46).trans (decide_eq_true a4)
                rw [show lettersL.contains c = true from by rw [a4]; decide]
                clear HN HC a4
                go_enter Tryd.func39, Tryd.ntmps39
                go_wp2
                go_ret
                exact ⟨rfl, rfl⟩
              · have k4 := (HC.out 46).trans (decide_eq_false a4)
                by_cases a5 : c = 59
                · have k5 := (HC.out 59).trans (decide_eq_true a5)
                  rw [show lettersL.contains c = true from by rw [a5]; decide]
                  clear HN HC a5
                  go_enter Tryd.func39, Tryd.ntmps39
                  go_wp2
                  go_ret
                  exact ⟨rfl, rfl⟩
                · have k5 := (HC.out 59).trans (decide_eq_false a5)
                  by_cases a6 : c = 42
                  · have k6 := (HC.out 42).trans (decide_eq_true a6)
                    rw [show lettersL.contains c = true from by rw [a6]; decide]
                    clear HN HC a6
                    go_enter Tryd.func39, Tryd.ntmps39
                    go_wp2
                    go_ret
                    exact ⟨rfl, rfl⟩
                  · have k6 := (HC.out 42).trans (decide_eq_false a6)
                    rw [HN.out a1 a2 a3 a4 a5 a6]
                    clear HN a1 a2 a3 a4 a5 a6 HC
                    go_enter Tryd.func39, Tryd.ntmps39
                    go_wp2
                    go_ret
                    exact ⟨rfl, rfl⟩
  · have e : letB (bys r) = false := by
      have h1 : (bys r).length ≠ 1 := by rw [bys_len]; exact hs
      unfold letB
      split
      · next hb => rw [hb] at h1; exact absurd rfl h1
      · rfl
    rw [e]
    have hs' : ((r.size : Int) == 1) = false := beq_eq_false_iff_ne.2 (by omega)
    clear e hs
    go_enter Tryd.func39, Tryd.ntmps39
    go_wp2
    go_ret
    exact ⟨rfl, rfl⟩

end Go.Proofs.YtobcbffakldfcaaDoor

namespace Go.Proofs.YtobcbffakldfcaaDoor
open Go.RowKit

def rN (rs : List (List UInt8)) (i : Nat) : List UInt8 := rs[i]?.getD []
theorem rN_get {rs : List (List UInt8)} {i : Nat} (h : i < rs.length) : rs[i]? = some (rN rs i) := by unfold rN; rw [List.getElem?_eq_getElem h]; rfl
theorem rN_drop {rs : List (List UInt8)} {i : Nat} (h : i < rs.length) : rs.drop i = rN rs i :: rs.drop (i + 1) := by
  rw [List.drop_eq_getElem_cons h]
  have e := rN_get h
  rw [List.getElem?_eq_getElem h] at e
  rw [← Option.some.inj e]
theorem rns_len : ∀ (k : Nat) (l : List UInt8), l.length ≤ k → (rns l).flatten.length ≤ l.length
  | 0, l, h => by
    have : l = [] := List.eq_nil_of_length_eq_zero (by omega)
    subst this
    exact Nat.le_refl _
  | k + 1, l, h => by
    by_cases hr : runeL l = 0
    · rw [rns_bad l hr]; exact Nat.zero_le _
    · have := (runeL_le l).1
      have ih := rns_len k (l.drop (runeL l)) (by rw [List.length_drop]; omega)
      rw [rns_step l hr, List.flatten_cons, List.length_append, List.length_take]
      rw [List.length_drop] at ih
      omega
theorem flat_ge : ∀ {rs : List (List UInt8)}, (∀ r ∈ rs, IsR r) → rs.length ≤ rs.flatten.length
  | [], _ => Nat.le_refl _
  | r :: rs, h => by
    have h1 := flat_ge (rs := rs) (fun x hx => h x (List.mem_cons_of_mem _ hx))
    have h2 := (h r List.mem_cons_self).len
    rw [List.flatten_cons, List.length_append, List.length_cons]
    omega
end Go.Proofs.YtobcbffakldfcaaDoor

namespace Go.Proofs.YtobcbffakldfcaaDoor
open Go.RowKit

end Go.Proofs.YtobcbffakldfcaaDoor
