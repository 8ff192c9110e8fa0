/-
  Tokens and their texts go there and back: the law's walk.
  Texts joined by a sign have their tokens joined: the law's walk.
  The reference's Turn.
  The reference's runes of a text, its signs and letters.
  The reference's Letter.
  The reference's text: a text with its quotes.
  The reference's Print.
-/
import Derived.Test.YtobcbffakldfcaaDoorCB5
import Derived.Test.YtobcbffakldfcaaDoorCB4
import Derived.Test.YtobcbffakldfcaaDoorCB2
namespace Go.Proofs.YtobcbffakldfcaaDoor
open Go.RowKit

end Go.Proofs.YtobcbffakldfcaaDoor

namespace Go.Proofs.YtobcbffakldfcaaDoor
open Go.RowKit

theorem SrcT.blk1 {w : World} {g : Nat} {k n : Int} {x : ByteArray} (h : Blk w g #[.int .i64 k, .int .i64 n, .string x] 32) : SrcT w (.slice (some ⟨g, 0, none⟩) 1 1) [⟨k, n, x⟩] :=
  .inr ⟨⟨g, 0, none⟩, 1, rfl, fun j u hj => by
    rw [Addr.add_lit, Nat.zero_add, h.cell j]
    have e : cellsT [(⟨k, n, x⟩ : Tok)] = [.int .i64 k, .int .i64 n, .string x] := rfl
    rw [e] at hj
    simpa using hj⟩

end Go.Proofs.YtobcbffakldfcaaDoor

namespace Go.Proofs.YtobcbffakldfcaaDoor
open Go.RowKit

set_option maxRecDepth 100000 in
set_option maxHeartbeats 4000000 in
theorem rTurn_at (ao : Option Addr) (cap : Nat) (f t : Int) (ts : List Tok) (w : World) (hl : ts.length * 32 ≤ 140737488355328) (hc : ts.length ≤ cap) (h3 : ts = [] ∨ ∃ b o, ao = some ⟨b, o, none⟩ ∧ TkAt w b o ts) :
    Calls Tryd.prog 12 #[.slice ao ts.length cap, .int .i64 f, .int .i64 t] w fun e w' => (∃ v, e = .returned v ∧ w'.ownsRow w.heap.size 32 3 v ts.length (cellsT (turnT f t ts))) ∧ Below w.heap.size w w' := by
  have H3 := hide h3
  clear h3
  obtain ⟨L, hL⟩ : ∃ L, L = ts.length := ⟨_, rfl⟩
  rw [← hL] at hl hc ⊢
  have HL := hide hL
  clear hL
  have HB0 : Hid (Below w.heap.size w (w.alloc (.cells #[] 32))) := hide ((Below.refl _ _).alloc (Nat.le_refl _) _)
  have OW0 : Hid ((w.alloc (.cells #[] 32)).ownsRow w.heap.size 32 3 (.slice (some ⟨w.heap.size, 0, none⟩) 0 0) 0 []) := hide (World.ownsRow_made w #[] 0 (Nat.le_refl _) (by decide) rfl)
  go_enter Tryd.func12, Tryd.ntmps12
  go_wp2
  go_loopw [7, 8] (fun x q wr => ∃ (k : Nat) (uo : Option Addr) (uc : Nat), k ≤ L ∧ x = .slice uo k uc ∧ q = .int .i64 (k : Int) ∧ Hid (wr.ownsRow w.heap.size 32 3 (.slice uo k uc) k (cellsT (turnT f t (ts.take k)))) ∧ Hid (Below w.heap.size w wr)) (fun _ q _ => L - (intOf q).toNat)
  case atStart => exact ⟨0, _, 0, Nat.zero_le _, rfl, rfl, OW0, HB0⟩
  case round =>
    obtain ⟨k, uo, uc, hk, rfl, rfl, HO, HW⟩ := hrel
    by_cases hlt : k < L
    · have hlt' : (k : Int) < (L : Int) := by omega
      have hkt : k < ts.length := by rw [← HL.out]; exact hlt
      have hne : ts ≠ [] := fun e => by rw [e] at hkt; simp at hkt
      obtain ⟨b, o, rfl, hA⟩ := H3.out.resolve_left hne
      obtain ⟨c0, c1, c2⟩ := (hA.below HW.out) k hkt
      have ET := hide (turnT_take f t ts k hkt)
      obtain ⟨x, hx⟩ : ∃ x, x = tokN ts k := ⟨_, rfl⟩
      rw [← hx] at c0 c1 c2 ET
      clear hx hkt hne hA
      by_cases hm : x.kind = f
      · have hm' : (x.kind == f) = true := beq_iff_eq.2 hm
        rw [show turn1 f t x = ⟨t, 0, ⟨#[]⟩⟩ by unfold turn1; rw [if_pos hm]] at ET
        have BA : Hid (Below wr.heap.size wr (wr.alloc (.cells #[.int .i64 t, .int .i64 0, .string ⟨#[]⟩] 32))) := hide ((Below.refl _ _).alloc (Nat.le_refl _) _)
        have SR : Hid (SrcT (wr.alloc (.cells #[.int .i64 t, .int .i64 0, .string ⟨#[]⟩] 32)) (.slice (some ⟨wr.heap.size, 0, none⟩) 1 1) [⟨t, 0, ⟨#[]⟩⟩]) := hide (SrcT.blk1 (Blk.newAt wr wr.heap.size rfl _ _))
        have OA := hide (own_below HO.out BA.out)
        have HBA := hide (HW.out.trans (BA.out.mono HW.out.size))
        have EX : Hid (cellsT (turnT f t (ts.take k)) ++ cellsT [⟨t, 0, ⟨#[]⟩⟩] = cellsT (turnT f t (ts.take (k + 1)))) := hide (by rw [ET.out, cellsT_app])
        clear hm HO HW ET
        go_wp2_with (at_builtin; refine wpT_append rfl _ _ rfl w.heap.size (.slice uo k uc) k (cellsT (turnT f t (ts.take k))) rfl OA.out _ [⟨t, 0, ⟨#[]⟩⟩] rfl SR.out (k + 1) rfl _ EX.out (by omega) HBA.out.size ?_; intro uo2 uc2 w2 hown2 hgr2)
        have HB2 := hide (HBA.out.grown hgr2 HBA.out.size (fun q hq => (World.ownsRow.lt OA.out q hq).1))
        have O2 := hide hown2
        clear hown2 hgr2 SR OA BA HBA EX c0 c1 c2
        exact ⟨⟨k + 1, uo2, uc2, by omega, rfl, by go_num, O2, HB2⟩, by simp [intOf]; omega⟩
      · have hm' : (x.kind == f) = false := beq_eq_false_iff_ne.2 hm
        rw [show turn1 f t x = x by unfold turn1; rw [if_neg hm]] at ET
        have BA : Hid (Below wr.heap.size wr (wr.alloc (.cells #[.int .i64 x.kind, .int .i64 x.many, .string x.text] 32))) := hide ((Below.refl _ _).alloc (Nat.le_refl _) _)
        have SR : Hid (SrcT (wr.alloc (.cells #[.int .i64 x.kind, .int .i64 x.many, .string x.text] 32)) (.slice (some ⟨wr.heap.size, 0, none⟩) 1 1) [x]) := hide (SrcT.blk1 (Blk.newAt wr wr.heap.size rfl _ _))
        have OA := hide (own_below HO.out BA.out)
        have HBA := hide (HW.out.trans (BA.out.mono HW.out.size))
        have EX : Hid (cellsT (turnT f t (ts.take k)) ++ cellsT [x] = cellsT (turnT f t (ts.take (k + 1)))) := hide (by rw [ET.out, cellsT_app])
        clear hm HO HW ET
        go_wp2_with (at_builtin; refine wpT_append rfl _ _ rfl w.heap.size (.slice uo k uc) k (cellsT (turnT f t (ts.take k))) rfl OA.out _ [x] rfl SR.out (k + 1) rfl _ EX.out (by omega) HBA.out.size ?_; intro uo2 uc2 w2 hown2 hgr2)
        have HB2 := hide (HBA.out.grown hgr2 HBA.out.size (fun q hq => (World.ownsRow.lt OA.out q hq).1))
        have O2 := hide hown2
        clear hown2 hgr2 SR OA BA HBA EX c0 c1 c2
        exact ⟨⟨k + 1, uo2, uc2, by omega, rfl, by go_num, O2, HB2⟩, by simp [intOf]; omega⟩
    · obtain rfl : k = L := by omega
      have hlt' : ¬ (k : Int) < (k : Int) := by omega
      have O2 : Hid (wr.ownsRow w.heap.size 32 3 (.slice uo k uc) k (cellsT (turnT f t ts))) := hide (by
        have q := HO.out
        rw [List.take_of_length_le (by rw [← HL.out]; exact Nat.le_refl _)] at q
        exact q)
      clear HO hlt
      go_wp2
      go_ret
      exact ⟨⟨_, rfl, O2.out⟩, HW.out⟩

theorem rTurn_any {w : World} {v : Value} {ts : List Tok} (f t : Int) (h : TSl w v ts) (hl : ts.length * 32 ≤ 140737488355328) :
    Calls Tryd.prog 12 #[v, .int .i64 f, .int .i64 t] w fun e w' => (∃ v, e = .returned v ∧ w'.ownsRow w.heap.size 32 3 v ts.length (cellsT (turnT f t ts))) ∧ Below w.heap.size w w' := by
  obtain ⟨ao, cap, rfl, h2, h3⟩ := h
  exact rTurn_at ao cap f t ts w hl h2 h3

set_option maxRecDepth 100000 in
set_option maxHeartbeats 4000000 in
theorem copied_any {w : World} {v : Value} {ts : List Tok} (hsrc : SrcT w v ts) (hl : ts.length * 32 ≤ 140737488351232) :
    Calls Tryd.prog 8 #[v] w fun e w' => (∃ g c, e = .returned (.slice (some ⟨g, 0, none⟩) ts.length c) ∧ w'.ownsRow w.heap.size 32 3 (.slice (some ⟨g, 0, none⟩) (ts.length + 1) c) (ts.length + 1) (cellsT (ts ++ [⟨-7, 0, ⟨#[]⟩⟩]))) ∧ Below w.heap.size w w' := by
  have HB0 : Hid (Below w.heap.size w (w.alloc (.cells #[] 32))) := hide ((Below.refl _ _).alloc (Nat.le_refl _) _)
  have OW0 : Hid ((w.alloc (.cells #[] 32)).ownsRow w.heap.size 32 3 (.slice (some ⟨w.heap.size, 0, none⟩) 0 0) 0 []) := hide (World.ownsRow_made w #[] 0 (Nat.le_refl _) (by decide) rfl)
  have SR1 := hide (hsrc.below HB0.out)
  have hvl : ∃ ao c, v = .slice ao ts.length c := by
    rcases hsrc with ⟨h1, h2⟩ | ⟨ad, c, h1, _⟩
    · exact ⟨none, 0, by rw [h1, h2]; rfl⟩
    · exact ⟨_, c, h1⟩
  obtain ⟨ao, c0, rfl⟩ := hvl
  obtain ⟨L, hL⟩ : ∃ L, L = ts.length := ⟨_, rfl⟩
  rw [← hL] at hl SR1 ⊢
  have HL := hide hL.symm
  clear hL hsrc
  go_enter Tryd.func8, Tryd.ntmps8
  go_wp2_with (first
    | (at_builtin
       refine wpT_append rfl _ _ rfl w.heap.size (.slice (some ⟨w.heap.size, 0, none⟩) 0 0) 0 [] rfl OW0.out _ ts rfl SR1.out L (by rw [HL.out, Nat.zero_add]) (cellsT ts) rfl (by omega) HB0.out.size ?_
       intro uo4 uc4 w4 hown4 hgr4
       have HB4 := hide (HB0.out.grown hgr4 HB0.out.size (fun q hq => (World.ownsRow.lt OW0.out q hq).1))
       have OW4 := hide hown4
       clear hown4 hgr4 SR1 OW0 HB0
       have HBm : Hid (Below w4.heap.size w4 (w4.alloc (.cells #[.int .i64 (-7), .int .i64 0, .string ⟨#[]⟩] 32))) := hide ((Below.refl _ _).alloc (Nat.le_refl _) _)
       have SRm : Hid (SrcT (w4.alloc (.cells #[.int .i64 (-7), .int .i64 0, .string ⟨#[]⟩] 32)) (.slice (some ⟨w4.heap.size, 0, none⟩) 1 1) [⟨-7, 0, ⟨#[]⟩⟩]) := hide (SrcT.blk1 (Blk.newAt w4 w4.heap.size rfl _ _))
       have OWm := hide (own_below OW4.out HBm.out)
       have HB5 := hide (HB4.out.trans (HBm.out.mono HB4.out.size))
       have EX5 : Hid (cellsT ts ++ cellsT [⟨-7, 0, ⟨#[]⟩⟩] = cellsT (ts ++ [⟨-7, 0, ⟨#[]⟩⟩])) := hide (cellsT_app _ _).symm)
    | (at_builtin
       refine wpT_append rfl _ _ rfl w.heap.size (.slice uo4 L uc4) L (cellsT ts) rfl OWm.out _ [⟨-7, 0, ⟨#[]⟩⟩] rfl SRm.out (L + 1) rfl _ EX5.out (by omega) HB5.out.size ?_
       intro uo6 uc6 w6 hown6 hgr6
       have HB6 := hide (HB5.out.grown hgr6 HB5.out.size (fun q hq => (World.ownsRow.lt OWm.out q hq).1))
       have hcap : L + 1 ≤ uc6 := by
         rcases hown6.2 with ⟨_, q⟩ | ⟨g', c', cur', hv, _, _, hc', _⟩
         · omega
         · simp only [Value.slice.injEq] at hv
           obtain ⟨_, _, e⟩ := hv
           rw [e]; exact hc'
       obtain ⟨g6, cp6, hv6, hg60, hg61⟩ := own_some hown6 (Nat.succ_ne_zero _)
       obtain rfl : uo6 = some ⟨g6, 0, none⟩ := by simpa using congrArg (fun v => match v with | Value.slice a _ _ => a | _ => none) hv6
       have OW6 := hide hown6
       clear hown6 hgr6 SRm OWm HBm HB4 HB5 OW4 EX5 hv6))
  go_ret
  exact ⟨⟨g6, uc6, rfl, OW6.out⟩, HB6.out⟩

end Go.Proofs.YtobcbffakldfcaaDoor

namespace Go.Proofs.YtobcbffakldfcaaDoor
open Go.RowKit

theorem infoS : (Tryd.prog.info? 9).map (fun i => (i.zero, i.size, i.bytes)) = some (some (.string ⟨#[]⟩), 1, 16) := by kernel_rfl
def cellsR (rs : List (List UInt8)) : List Value := rs.map fun r => .string (mkB r)
theorem cellsR_at (rs : List (List UInt8)) (i : Nat) (r : List UInt8) (h : rs[i]? = some r) : (cellsR rs)[i]? = some (.string (mkB r)) := by unfold cellsR; rw [List.getElem?_map, h]; rfl
theorem ownS_below {w w' : World} {B n : Nat} {v : Value} {xs : List Value} (h : w.ownsRow B 9 1 v n xs) (hb : Below w.heap.size w w') : w'.ownsRow B 9 1 v n xs :=
  World.ownsRow.kept h (row := none) ⟨hb.os, hb.tape, hb.output, hb.size, fun k hk _ => hb.block k hk⟩ (by cases v.ownBlock <;> simp)
theorem ownS_slice {w : World} {B n : Nat} {v : Value} {xs : List Value} (h : w.ownsRow B 9 1 v n xs) : ∃ ao cap, v = .slice ao n cap := by
  rcases h.2 with ⟨hv, hn⟩ | ⟨g, cap, cur, hv, _⟩
  · exact ⟨none, 0, by rw [hv, hn]⟩
  · exact ⟨_, cap, hv⟩
theorem ownS_some {w : World} {B n : Nat} {v : Value} {xs : List Value} (h : w.ownsRow B 9 1 v n xs) (hn : n ≠ 0) : ∃ g cap, v = .slice (some ⟨g, 0, none⟩) n cap ∧ n ≤ cap := by
  rcases h.2 with ⟨_, q⟩ | ⟨g, cap, cur, hv, _, _, hc, _⟩
  · exact absurd q hn
  · exact ⟨g, cap, hv, hc⟩

theorem wpS_append {w : World} {ops : Array Oper} {rest : List Oper} {o : Oper} {a : Act} {Q : Exit → Act → World → Prop} (hgd : o.guard = none) (s x : Operand)
    (ho : o.op = .call { callee := .builtin .append, args := #[s, x], argTypes := #[60, 60] })
    (base : Nat) (v : Value) (n : Nat) (xs : List Value) (hs : a.eval s = v) (hown : w.ownsRow base 9 1 v n xs)
    (g : Nat) (r : ByteArray) (hx : a.eval x = .slice (some ⟨g, 0, none⟩) 1 1) (hsrc : Blk w g #[.string r] 9) (XS : List Value) (hX : xs ++ [.string r] = XS) (hb : (n + 1) * 16 ≤ 140737488355328) (hbase : base ≤ w.heap.size)
    (h : ∀ uo uc w', w'.ownsRow base 9 1 (.slice uo (n + 1) uc) (n + 1) XS → w.grownBy w' v.ownBlock → wpList Tryd.prog ops Q rest (a.put o.dst (.slice uo (n + 1) uc)) w') : wpList Tryd.prog ops Q (o :: rest) a w := by
  obtain ⟨i0, hi, hz0, hz1, hz2⟩ := info_parts infoS
  subst hX
  refine wpList_append_own w hgd s x _ ho base _ i0 (.string ⟨#[]⟩) 1 16 Tryd.underlying60 hi hz0 hz1 hz2 rfl (by decide) v n xs hs hown ⟨g, 0, none⟩ 1 1 [.string r] hx rfl (fun j u hj => ?_) (fun u hu => ?_) (by unfold maxLen; omega) hb hbase (fun v' w' h3 h4 _ => ?_)
  · rw [Addr.add_lit, Nat.zero_add, hsrc.cell j]
    simpa using hj
  · rw [List.mem_singleton.1 hu]; rfl
  · obtain ⟨uo, uc, rfl⟩ := ownS_slice h3
    exact h uo uc w' h3 h4

set_option maxRecDepth 100000 in
set_option maxHeartbeats 4000000 in
theorem rRns_any (s : ByteArray) (w : World) (hs : s.size ≤ 4398046511104) :
    Calls Tryd.prog 36 #[.string s] w fun e w' => (∃ v, e = .returned (.tuple #[v, .bool (runesL (bys s)).isSome]) ∧ w'.ownsRow w.heap.size 9 1 v (rns (bys s)).length (cellsR (rns (bys s)))) ∧ Below w.heap.size w w' := by
  have HB0 : Hid (Below w.heap.size w (w.alloc (.cells #[] 9))) := hide ((Below.refl _ _).alloc (Nat.le_refl _) _)
  have OW0 : Hid ((w.alloc (.cells #[] 9)).ownsRow w.heap.size 9 1 (.slice (some ⟨w.heap.size, 0, none⟩) 0 0) 0 []) := hide (World.ownsRow_made w #[] 0 (Nat.le_refl _) (by decide) rfl)
  obtain ⟨V, hV⟩ : ∃ V, V = (runesL (bys s)).isSome := ⟨_, rfl⟩
  obtain ⟨RS, hRS⟩ : ∃ RS, RS = rns (bys s) := ⟨_, rfl⟩
  rw [← hV, ← hRS]
  have HV := hide hV
  have HR := hide hRS
  clear hV hRS
  go_enter Tryd.func36, Tryd.ntmps36
  go_wp2
  go_loopw [4, 5] (fun x q wr => ∃ (pos n : Nat) (uo : Option Addr) (uc : Nat) (acc : List (List UInt8)), pos ≤ s.size ∧ n ≤ pos ∧ x = .slice uo n uc ∧ q = .int .i64 (pos : Int) ∧ Hid (acc.length = n ∧ acc ++ rns ((bys s).drop pos) = RS ∧ (runesL ((bys s).drop pos)).isSome = V) ∧ Hid (wr.ownsRow w.heap.size 9 1 (.slice uo n uc) n (cellsR acc)) ∧ Hid (Below w.heap.size w wr)) (fun _ q _ => s.size - (intOf q).toNat)
  case atStart => exact ⟨0, 0, _, 0, [], Nat.zero_le _, Nat.le_refl _, rfl, rfl, hide ⟨rfl, by rw [HR.out, List.drop_zero]; rfl, by rw [HV.out, List.drop_zero]⟩, OW0, HB0⟩
  case round =>
    obtain ⟨pos, n, uo, uc, acc, hpos, hn, rfl, rfl, HF, HO, HB⟩ := hrel
    by_cases hlt : pos < s.size
    · have hlt' : (pos : Int) < (s.size : Int) := by omega
      have hra : runeAt s (pos : Int) = runeL ((bys s).drop pos) := by
        unfold runeAt
        rw [if_neg (by omega), Int.toNat_natCast]
      have hle := runeL_le ((bys s).drop pos)
      rw [List.length_drop, bys_len] at hle
      have H1 := hide (rRune_any s (pos : Int) wr (by omega))
      rw [hra] at H1
      obtain ⟨m, hm⟩ : ∃ m, m = runeL ((bys s).drop pos) := ⟨_, rfl⟩
      rw [← hm] at H1 hle
      obtain ⟨hle1, hle2⟩ := hle
      have HM := hide hm
      have hne : (bys s).drop pos ≠ [] := by
        intro e
        have := congrArg List.length e
        rw [List.length_drop, bys_len] at this
        simp at this; omega
      have HNE := hide hne
      clear hm hra hne
      go_wp2_with fail
      refine H1.out.mono ?_
      rintro e w1 ⟨rfl, rfl⟩
      clear H1
      rcases Nat.eq_zero_or_pos m with hm0 | hmp
      · have hz : runeL ((bys s).drop pos) = 0 := by rw [← HM.out]; exact hm0
        have EV : Hid (V = false) := hide (by rw [← HF.out.2.2, runesL_step _ HNE.out, if_pos hz]; rfl)
        have ER : Hid (acc = RS ∧ n = RS.length) := hide (by
          have q := HF.out.2.1
          rw [rns_bad _ hz, List.append_nil] at q
          exact ⟨q, by rw [← q, HF.out.1]⟩)
        have hm' : ((m : Int) == 0) = true := by rw [hm0]; rfl
        clear hz HF hm0 hle1 hle2
        go_wp2
        refine bodyPost_ret (results_tmp2 rfl _ _ _) rfl ?_
        refine ⟨⟨_, by rw [EV.out]; rfl, ?_⟩, HB.out⟩
        rw [← ER.out.2, ← ER.out.1]
        exact HO.out
      · have hm' : ((m : Int) == 0) = false := beq_eq_false_iff_ne.2 (by omega)
        have hne0 : runeL ((bys s).drop pos) ≠ 0 := by rw [← HM.out]; omega
        obtain ⟨r, hr⟩ : ∃ r, r = s.extract pos (pos + m) := ⟨_, rfl⟩
        have Hr := hide hr.symm
        have E1 : Hid (bys r = ((bys s).drop pos).take m) := hide (by rw [hr, bys_cut])
        have ER : Hid ((acc ++ [bys r]).length = n + 1 ∧ (acc ++ [bys r]) ++ rns ((bys s).drop (pos + m)) = RS ∧ (runesL ((bys s).drop (pos + m))).isSome = V) := hide (by
          refine ⟨by simp [HF.out.1], ?_, ?_⟩
          · rw [← HF.out.2.1, rns_step _ hne0, E1.out, ← HM.out, List.drop_drop]
            simp
          · have e2 := HF.out.2.2
            rw [runesL_step _ HNE.out, if_neg hne0, ← HM.out, Option.isSome_map, List.drop_drop] at e2
            exact e2)
        have BA : Hid (Below wr.heap.size wr (wr.alloc (.cells #[.string r] 9))) := hide ((Below.refl _ _).alloc (Nat.le_refl _) _)
        have SR := hide (Blk.newAt wr wr.heap.size rfl #[.string r] 9)
        have OA := hide (ownS_below HO.out BA.out)
        have HBA := hide (HB.out.trans (BA.out.mono HB.out.size))
        have EX : Hid (cellsR acc ++ [.string r] = cellsR (acc ++ [bys r])) := hide (by unfold cellsR; rw [List.map_append]; rfl)
        have hx1 : (pos : Int) + (m : Int) ≤ (s.size : Int) := by omega
        clear HF HO HB hne0 hr E1
        go_wp2_with (first | (at_builtin; refine wpS_append rfl _ _ rfl w.heap.size (.slice uo n uc) n (cellsR acc) rfl OA.out wr.heap.size r rfl SR.out _ EX.out (by omega) HBA.out.size ?_; intro uo2 uc2 w2 hown2 hgr2) | simp only [Hr.out])
        have HB2 := hide (HBA.out.grown hgr2 HBA.out.size (fun q hq => (World.ownsRow.lt OA.out q hq).1))
        have O2 := hide hown2
        clear hown2 hgr2 SR OA BA HBA EX
        exact ⟨⟨pos + m, n + 1, uo2, uc2, _, by omega, by omega, rfl, by go_num, ER, O2, HB2⟩, by simp [intOf]; omega⟩
    · obtain rfl : pos = s.size := by omega
      have hlt' : ¬ (s.size : Int) < (s.size : Int) := by omega
      have e1 := HF.out.2.1
      have e2 := HF.out.2.2
      rw [List.drop_eq_nil_of_le (by rw [bys_len]; exact Nat.le_refl _)] at e1 e2
      have EV : Hid (V = true) := hide (by rw [← e2]; rfl)
      have ER : Hid (acc = RS ∧ n = RS.length) := hide (by
        rw [rns_nil, List.append_nil] at e1
        exact ⟨e1, by rw [← e1, HF.out.1]⟩)
      clear e1 e2 HF hlt
      go_wp2
      refine bodyPost_ret (results_tmp2 rfl _ _ _) rfl ?_
      refine ⟨⟨_, by rw [EV.out]; rfl, ?_⟩, HB.out⟩
      rw [← ER.out.2, ← ER.out.1]
      exact HO.out

set_option maxRecDepth 100000 in
set_option maxHeartbeats 2000000 in
theorem rSign_any (r : ByteArray) (w : World) : Calls Tryd.prog 38 #[.string r] w fun e w' => e = .returned (.int .i64 (kindB (bys r) : Int)) ∧ w = w' := by
  have e1 := eqTL r [45]
  have e2 := eqTL r [43]
  have e3 := eqTL r [37]
  have e4 := eqTL r [226, 128, 176]
  have e5 := eqTL r [194, 164]
  unfold kindB
  by_cases h1 : bys r = [45]
  · rw [if_pos h1]
    rw [decide_eq_true h1] at e1
    clear e2 e3 e4 e5 h1
    go_enter Tryd.func38, Tryd.ntmps38
    go_wp2
    go_ret
    exact ⟨rfl, rfl⟩
  · rw [if_neg h1]
    rw [decide_eq_false h1] at e1
    clear h1
    by_cases h2 : bys r = [43]
    · rw [if_pos h2]
      rw [decide_eq_true h2] at e2
      clear e3 e4 e5 h2
      go_enter Tryd.func38, Tryd.ntmps38
      go_wp2
      go_ret
      exact ⟨rfl, rfl⟩
    · rw [if_neg h2]
      rw [decide_eq_false h2] at e2
      clear h2
      by_cases h3 : bys r = [37]
      · rw [if_pos h3]
        rw [decide_eq_true h3] at e3
        clear e4 e5 h3
        go_enter Tryd.func38, Tryd.ntmps38
        go_wp2
        go_ret
        exact ⟨rfl, rfl⟩
      · rw [if_neg h3]
        rw [decide_eq_false h3] at e3
        clear h3
        by_cases h4 : bys r = [226, 128, 176]
        · rw [if_pos h4]
          rw [decide_eq_true h4] at e4
          clear e5 h4
          go_enter Tryd.func38, Tryd.ntmps38
          go_wp2
          go_ret
          exact ⟨rfl, rfl⟩
        · rw [if_neg h4]
          rw [decide_eq_false h4] at e4
          clear h4
          by_cases h5 : bys r = [194, 164]
          · rw [if_pos h5]
            rw [decide_eq_true h5] at e5
            clear h5
            go_enter Tryd.func38, Tryd.ntmps38
            go_wp2
            go_ret
            exact ⟨rfl, rfl⟩
          · rw [if_neg h5]
            rw [decide_eq_false h5] at e5
            clear h5
            go_enter Tryd.func38, Tryd.ntmps38
            go_wp2
            go_ret
            exact ⟨rfl, rfl⟩

end Go.Proofs.YtobcbffakldfcaaDoor

namespace Go.Proofs.YtobcbffakldfcaaDoor
open Go.RowKit

set_option maxRecDepth 100000 in
set_option maxHeartbeats 2000000 in
theorem rLetter_any (r : ByteArray) (w : World) : Calls Tryd.prog 39 #[.string r] w fun e w' => e = .returned (.bool (letB (bys r))) ∧ w = w' := by
  by_cases hs : r.size = 1
  · have hlt : 0 < r.size := by omega
    have h1 : (bys r).length = 1 := by rw [bys_len]; exact hs
    have hb : bys r = [r[0]'hlt] := by
      match hbb : bys r, h1 with
      | [c], _ =>
        have e : r = ⟨#[c]⟩ := by rw [← mkB_bys r, hbb]; rfl
        subst e
        rfl
    have HC : Hid (∀ d, (r.toList == [d]) = decide (r[0]'hlt = d)) := hide (fun d => by
      rw [eqTL, hb]
      by_cases h : r[0]'hlt = d
      · rw [decide_eq_true h, decide_eq_true (by rw [h])]
      · rw [decide_eq_false h, decide_eq_false (fun e => h (by simpa using e))])
    rw [show letB (bys r) = lettersL.contains (r[0]'hlt) by rw [hb]; rfl]
    have hs' : ((r.size : Int) == 1) = true := by rw [hs]; rfl
    have HI : Hid (∃ c, c = r[0]'hlt) := hide ⟨_, rfl⟩
    obtain ⟨c, hc⟩ := HI.out
    rw [← hc]
    have HC' : Hid (∀ d, (r.toList == [d]) = decide (c = d)) := hide (fun d => by rw [hc]; exact HC.out d)
    clear HC hb h1 HI
    have HC := HC'
    clear HC' hs
    by_cases hd : 48 ≤ c.toNat ∧ c.toNat ≤ 57
    · have e : lettersL.contains c = true := by
        rw [List.contains_iff_mem]
        have : c.toNat = 48 ∨ c.toNat = 49 ∨ c.toNat = 50 ∨ c.toNat = 51 ∨ c.toNat = 52 ∨ c.toNat = 53 ∨ c.toNat = 54 ∨ c.toNat = 55 ∨ c.toNat = 56 ∨ c.toNat = 57 := by omega
        have q : ∀ n : Nat, n < 256 → c.toNat = n → c = UInt8.ofNat n := fun n _ h => by rw [← h]; simp
        rcases this with h | h | h | h | h | h | h | h | h | h
        all_goals
          rw [q _ (by decide) h]
          decide
      rw [e]
      obtain ⟨h1, h2⟩ := hd
      have h1' : (48 : Int) ≤ ((r[0]'hlt).toNat : Int) := by rw [← hc]; omega
      have h2' : ((r[0]'hlt).toNat : Int) ≤ 57 := by rw [← hc]; omega
      clear e h1 h2 HC hc
      go_enter Tryd.func39, Tryd.ntmps39
      go_wp2
      go_ret
      exact ⟨rfl, rfl⟩
    · have HN : Hid (¬ c = 35 → ¬ c = 64 → ¬ c = 44 → ¬ c = 46 → ¬ c = 59 → ¬ c = 42 → lettersL.contains c = false) := hide (fun a1 a2 a3 a4 a5 a6 => by
        cases hc : lettersL.contains c with
        | false => rfl
        | true =>
          exfalso
          rw [List.contains_iff_mem] at hc
          unfold lettersL at hc
          simp only [List.mem_cons, List.not_mem_nil, or_false] at hc
          rcases hc with rfl | rfl | rfl | rfl | rfl | rfl | rfl | rfl | rfl | rfl | h | h | h | h | h | h
          · exact hd (by decide)
          · exact hd (by decide)
          · exact hd (by decide)
          · exact hd (by decide)
          · exact hd (by decide)
          · exact hd (by decide)
          · exact hd (by decide)
          · exact hd (by decide)
          · exact hd (by decide)
          · exact hd (by decide)
          · exact a1 h
          · exact a2 h
          · exact a3 h
          · exact a4 h
          · exact a5 h
          · exact a6 h)
      by_cases hlo : 48 ≤ c.toNat
      · have h1' : (48 : Int) ≤ ((r[0]'hlt).toNat : Int) := by rw [← hc]; omega
        have h2' : ¬ ((r[0]'hlt).toNat : Int) ≤ 57 := by rw [← hc]; omega
        have h3' : decide (((r[0]'hlt).toNat : Int) ≤ 57) = false := decide_eq_false h2'
        clear hd hlo hc
        by_cases a1 : c = 35
        · have k1 := (HC.out 35).trans (decide_eq_true a1)
          rw [show lettersL.contains c = true from by rw [a1]; decide]
          clear HN HC a1
          go_enter Tryd.func39, Tryd.ntmps39
          go_wp2
          go_ret
          exact ⟨rfl, rfl⟩
        · have k1 := (HC.out 35).trans (decide_eq_false a1)
          by_cases a2 : c = 64
          · have k2 := (HC.out 64).trans (decide_eq_true a2)
            rw [show lettersL.contains c = true from by rw [a2]; decide]
            clear HN HC a2
            go_enter Tryd.func39, Tryd.ntmps39
            go_wp2
            go_ret
            exact ⟨rfl, rfl⟩
          · have k2 := (HC.out 64).trans (decide_eq_false a2)
            by_cases a3 : c = 44
            · have k3 := (HC.out 44).trans (decide_eq_true a3)
              rw [show lettersL.contains c = true from by rw [a3]; decide]
              clear HN HC a3
              go_enter Tryd.func39, Tryd.ntmps39
              go_wp2
              go_ret
              exact ⟨rfl, rfl⟩
            · have k3 := (HC.out 44).trans (decide_eq_false a3)
              by_cases a4 : c = 46
              · have k4 := (HC.out 46).trans (decide_eq_true a4)
                rw [show lettersL.contains c = true from by rw [a4]; decide]
                clear HN HC a4
                go_enter Tryd.func39, Tryd.ntmps39
                go_wp2
                go_ret
                exact ⟨rfl, rfl⟩
              · have k4 := (HC.out 46).trans (decide_eq_false a4)
                by_cases a5 : c = 59
                · have k5 := (HC.out 59).trans (decide_eq_true a5)
                  rw [show lettersL.contains c = true from by rw [a5]; decide]
                  clear HN HC a5
                  go_enter Tryd.func39, Tryd.ntmps39
                  go_wp2
                  go_ret
                  exact ⟨rfl, rfl⟩
                · have k5 := (HC.out 59).trans (decide_eq_false a5)
                  by_cases a6 : c = 42
                  · have k6 := (HC.out 42).trans (decide_eq_true a6)
                    rw [show lettersL.contains c = true from by rw [a6]; decide]
                    clear HN HC a6
                    go_enter Tryd.func39, Tryd.ntmps39
                    go_wp2
                    go_ret
                    exact ⟨rfl, rfl⟩
                  · have k6 := (HC.out 42).trans (decide_eq_false a6)
                    rw [HN.out a1 a2 a3 a4 a5 a6]
                    clear HN a1 a2 a3 a4 a5 a6 HC
                    go_enter Tryd.func39, Tryd.ntmps39
                    go_wp2
                    go_ret
                    exact ⟨rfl, rfl⟩
      · have h1' : ¬ (48 : Int) ≤ ((r[0]'hlt).toNat : Int) := by rw [← hc]; omega
        have h3' : decide ((48 : Int) ≤ ((r[0]'hlt).toNat : Int)) = false := decide_eq_false h1'
        clear hd hlo hc
        by_cases a1 : c = 35
        · have k1 := (HC.out 35).trans (decide_eq_true a1)
          rw [show lettersL.contains c = true from by rw [a1]; decide]
          clear HN HC a1
          go_enter Tryd.func39, Tryd.ntmps39
          go_wp2
          go_ret
          exact ⟨rfl, rfl⟩
        · have k1 := (HC.out 35).trans (decide_eq_false a1)
          by_cases a2 : c = 64
          · have k2 := (HC.out 64).trans (decide_eq_true a2)
            rw [show lettersL.contains c = true from by rw [a2]; decide]
            clear HN HC a2
            go_enter Tryd.func39, Tryd.ntmps39
            go_wp2
            go_ret
            exact ⟨rfl, rfl⟩
          · have k2 := (HC.out 64).trans (decide_eq_false a2)
            by_cases a3 : c = 44
            · have k3 := (HC.out 44).trans (decide_eq_true a3)
              rw [show lettersL.contains c = true from by rw [a3]; decide]
              clear HN HC a3
              go_enter Tryd.func39, Tryd.ntmps39
              go_wp2
              go_ret
              exact ⟨rfl, rfl⟩
            · have k3 := (HC.out 44).trans (decide_eq_false a3)
              by_cases a4 : c = 46
              · have k4 := (HC.out 46).trans (decide_eq_true a4)
                rw [show lettersL.contains c = true from by rw [a4]; decide]
                clear HN HC a4
                go_enter Tryd.func39, Tryd.ntmps39
                go_wp2
                go_ret
                exact ⟨rfl, rfl⟩
              · have k4 := (HC.out 46).trans (decide_eq_false a4)
                by_cases a5 : c = 59
                · have k5 := (HC.out 59).trans (decide_eq_true a5)
                  rw [show lettersL.contains c = true from by rw [a5]; decide]
                  clear HN HC a5
                  go_enter Tryd.func39, Tryd.ntmps39
                  go_wp2
                  go_ret
                  exact ⟨rfl, rfl⟩
                · have k5 := (HC.out 59).trans (decide_eq_false a5)
                  by_cases a6 : c = 42
                  · have k6 := (HC.out 42).trans (decide_eq_true a6)
                    rw [show lettersL.contains c = true from by rw [a6]; decide]
                    clear HN HC a6
                    go_enter Tryd.func39, Tryd.ntmps39
                    go_wp2
                    go_ret
                    exact ⟨rfl, rfl⟩
                  · have k6 := (HC.out 42).trans (decide_eq_false a6)
                    rw [HN.out a1 a2 a3 a4 a5 a6]
                    clear HN a1 a2 a3 a4 a5 a6 HC
                    go_enter Tryd.func39, Tryd.ntmps39
                    go_wp2
                    go_ret
                    exact ⟨rfl, rfl⟩
  · have e : letB (bys r) = false := by
      have h1 : (bys r).length ≠ 1 := by rw [bys_len]; exact hs
      unfold letB
      split
      · next hb => rw [hb] at h1; exact absurd rfl h1
      · rfl
    rw [e]
    have hs' : ((r.size : Int) == 1) = false := beq_eq_false_iff_ne.2 (by omega)
    clear e hs
    go_enter Tryd.func39, Tryd.ntmps39
    go_wp2
    go_ret
    exact ⟨rfl, rfl⟩

end Go.Proofs.YtobcbffakldfcaaDoor

namespace Go.Proofs.YtobcbffakldfcaaDoor
open Go.RowKit

def rN (rs : List (List UInt8)) (i : Nat) : List UInt8 := rs[i]?.getD []
theorem rN_get {rs : List (List UInt8)} {i : Nat} (h : i < rs.length) : rs[i]? = some (rN rs i) := by unfold rN; rw [List.getElem?_eq_getElem h]; rfl
theorem rN_drop {rs : List (List UInt8)} {i : Nat} (h : i < rs.length) : rs.drop i = rN rs i :: rs.drop (i + 1) := by
  rw [List.drop_eq_getElem_cons h]
  have e := rN_get h
  rw [List.getElem?_eq_getElem h] at e
  rw [← Option.some.inj e]
def rowT (rs : List (List UInt8)) (i k : Nat) : List (List UInt8) := (rs.drop i).take (k - i)
theorem rowT_snoc (rs : List (List UInt8)) (i k : Nat) (hik : i ≤ k) (hk : k < rs.length) : rowT rs i (k + 1) = rowT rs i k ++ [rN rs k] := by
  unfold rowT
  rw [show k + 1 - i = (k - i) + 1 by omega, List.take_add_one, List.getElem?_drop, show i + (k - i) = k by omega, rN_get hk]
  rfl
theorem tw_cut {p : List UInt8 → Bool} : ∀ (a b : List (List UInt8)), (∀ r ∈ a, p r = true) → (b = [] ∨ ∃ r t, b = r :: t ∧ p r = false) → (a ++ b).takeWhile p = a ∧ (a ++ b).dropWhile p = b
  | [], b, _, hb => by
    rcases hb with rfl | ⟨r, t, rfl, h⟩
    · exact ⟨rfl, rfl⟩
    · rw [List.nil_append, List.takeWhile_cons, List.dropWhile_cons, h]
      exact ⟨rfl, rfl⟩
  | r :: a, b, ha, hb => by
    obtain ⟨h1, h2⟩ := tw_cut a b (fun x hx => ha x (List.mem_cons_of_mem _ hx)) hb
    rw [List.cons_append, List.takeWhile_cons, List.dropWhile_cons, ha r List.mem_cons_self]
    simp only [if_true]
    rw [h1, h2]
    exact ⟨rfl, rfl⟩
theorem row_cut (rs : List (List UInt8)) (i k : Nat) (hik : i ≤ k) (hk : k ≤ rs.length) (ha : ∀ r ∈ rowT rs i k, bndB r = true) (he : k = rs.length ∨ bndB (rN rs k) = false) : (rs.drop i).takeWhile bndB = rowT rs i k ∧ (rs.drop i).dropWhile bndB = rs.drop k := by
  have e : rs.drop i = rowT rs i k ++ rs.drop k := by
    unfold rowT
    conv => lhs; rw [← List.take_append_drop (k - i) (rs.drop i)]
    rw [List.drop_drop, show i + (k - i) = k by omega]
  rw [e]
  refine tw_cut _ _ ha ?_
  by_cases hl : k < rs.length
  · rcases he with h | h
    · omega
    · exact .inr ⟨_, _, rN_drop hl, h⟩
  · exact .inl (List.drop_eq_nil_of_le (by omega))

theorem rN_len (rs : List (List UInt8)) (k : Nat) : (rN rs k).length ≤ rs.flatten.length := by
  by_cases h : k < rs.length
  · have e : rs = rs.take k ++ (rN rs k :: rs.drop (k + 1)) := by rw [← rN_drop h, List.take_append_drop]
    conv => rhs; rw [e]
    rw [List.flatten_append, List.flatten_cons, List.length_append, List.length_append]
    omega
  · unfold rN
    rw [List.getElem?_eq_none (by omega)]
    exact Nat.zero_le _
theorem rns_len : ∀ (k : Nat) (l : List UInt8), l.length ≤ k → (rns l).flatten.length ≤ l.length
  | 0, l, h => by
    have : l = [] := List.eq_nil_of_length_eq_zero (by omega)
    subst this
    exact Nat.le_refl _
  | k + 1, l, h => by
    by_cases hr : runeL l = 0
    · rw [rns_bad l hr]; exact Nat.zero_le _
    · have := (runeL_le l).1
      have ih := rns_len k (l.drop (runeL l)) (by rw [List.length_drop]; omega)
      rw [rns_step l hr, List.flatten_cons, List.length_append, List.length_take]
      rw [List.length_drop] at ih
      omega
theorem flat_ge : ∀ {rs : List (List UInt8)}, (∀ r ∈ rs, IsR r) → rs.length ≤ rs.flatten.length
  | [], _ => Nat.le_refl _
  | r :: rs, h => by
    have h1 := flat_ge (rs := rs) (fun x hx => h x (List.mem_cons_of_mem _ hx))
    have h2 := (h r List.mem_cons_self).len
    rw [List.flatten_cons, List.length_append, List.length_cons]
    omega
theorem row_len (rs : List (List UInt8)) (i k : Nat) (h : rs.flatten.length ≤ 1000) : ((rowT rs i k).flatMap dbl).length ≤ 2000 := by
  have h1 := dbl_len (rowT rs i k)
  have h2 : (rowT rs i k).flatten.length ≤ rs.flatten.length := by
    have e : rs = rs.take i ++ (rowT rs i k ++ (rs.drop i).drop (k - i)) := by
      unfold rowT
      rw [List.take_append_drop, List.take_append_drop]
    conv => rhs; rw [e]
    rw [List.flatten_append, List.flatten_append, List.length_append, List.length_append]
    omega
  omega

set_option maxRecDepth 100000 in
set_option maxHeartbeats 8000000 in
theorem rText_any (s : ByteArray) (w : World) (hs : s.size ≤ 1000) :
    Calls Tryd.prog 25 #[.string s] w fun e w' => e = .returned (.string (mkB (textR (rns (bys s))))) ∧ Below w.heap.size w w' := by
  have H1 := hide (rRns_any s w (by omega))
  have hrl : (rns (bys s)).flatten.length ≤ s.size := by rw [← bys_len]; exact rns_len _ _ (Nat.le_refl _)
  have hlen := textR_len (rns (bys s)) (rns_isR _ _ (Nat.le_refl _))
  have hnl : (rns (bys s)).length ≤ 1000 := Nat.le_trans (flat_ge (rns_isR _ _ (Nat.le_refl _))) (by omega)
  obtain ⟨RS, hRS⟩ : ∃ RS, RS = rns (bys s) := ⟨_, rfl⟩
  rw [← hRS] at H1 hlen hrl hnl ⊢
  obtain ⟨TT, hTT⟩ : ∃ TT, TT = textR RS := ⟨_, rfl⟩
  rw [← hTT] at hlen ⊢
  have HTT := hide hTT
  have HTL : Hid (TT.length ≤ 4000) := hide (by omega)
  obtain ⟨VV, hVV⟩ : ∃ VV, VV = (runesL (bys s)).isSome := ⟨_, rfl⟩
  rw [← hVV] at H1
  have HTB : Hid (RS.flatten.length ≤ 1000) := hide (by omega)
  clear hRS hTT hVV hlen hrl
  go_enter Tryd.func25, Tryd.ntmps25
  go_wp2_with fail
  refine H1.out.mono ?_
  rintro e w1 ⟨⟨v, rfl, hown⟩, hb1⟩
  have B1 := hide hb1
  obtain ⟨ao, cap, rfl⟩ := ownS_slice hown
  have MEM0 : Hid (RS.length ≠ 0 → ∃ g, ao = some ⟨g, 0, none⟩ ∧ RS.length ≤ cap ∧ ∀ k, k < RS.length → w1.cell? ⟨g, k, none⟩ = some (.string (mkB (rN RS k)))) := hide (fun hn => by
    obtain ⟨g, c2, he, hc⟩ := ownS_some hown hn
    simp only [Value.slice.injEq] at he
    obtain ⟨rfl, _, rfl⟩ := he
    exact ⟨g, rfl, hc, fun k hk => (hown.cellAt k (by omega)).trans (cellsR_at RS k _ (rN_get hk))⟩)
  obtain ⟨n, hn⟩ : ∃ n, n = RS.length := ⟨_, rfl⟩
  have HN := hide hn
  rw [← hn] at hnl MEM0 ⊢
  clear H1 hb1 hown hn
  go_wp2
  go_loopw [5, 6] (fun x q wr => ∃ (i : Nat) (acc : List UInt8), i ≤ n ∧ x = .string (mkB acc) ∧ q = .int .i64 (i : Int) ∧ Hid (acc ++ textR (RS.drop i) = TT ∧ TT.length ≤ 4000) ∧ w1 = wr) (fun _ q _ => n - (intOf q).toNat)
  case atStart => exact ⟨0, [], Nat.zero_le _, rfl, rfl, hide ⟨by rw [HTT.out]; rfl, HTL.out⟩, rfl⟩
  case round =>
    obtain ⟨i, acc, hi, rfl, rfl, HO, rfl⟩ := hrel
    by_cases hlt : i < n
    · have hlt' : (i : Int) < (n : Int) := by omega
      have hin : i < RS.length := by rw [← HN.out]; exact hlt
      obtain ⟨g, rfl, hcap, hmem⟩ := MEM0.out (by omega)
      have MEM : Hid (∀ k, k < RS.length → w1.cell? ⟨g, k, none⟩ = some (.string (mkB (rN RS k)))) := hide (fun k hk => hmem k (by rw [HN.out]; exact hk))
      clear hmem MEM0
      go_wp2
      go_loopw [7, 8, 9] (fun x b r wz => ∃ (k : Nat), i ≤ k ∧ k ≤ n ∧ x = .int .i64 (k : Int) ∧ b = .bool ((rowT RS i k).all (fun r => decide (r = [39]))) ∧ r = .string (mkB ((rowT RS i k).flatMap dbl)) ∧ Hid (∀ r ∈ rowT RS i k, bndB r = true) ∧ w1 = wz) (fun x _ _ _ => n - (intOf x).toNat)
      case atStart => exact ⟨i, Nat.le_refl _, hi, rfl, by unfold rowT; rw [Nat.sub_self, List.take_zero]; rfl, by unfold rowT; rw [Nat.sub_self, List.take_zero]; rfl, hide (fun r hr => by unfold rowT at hr; rw [Nat.sub_self, List.take_zero] at hr; cases hr), rfl⟩
      case round =>
        obtain ⟨k, hik, hkn', rfl, rfl, rfl, HR, rfl⟩ := hrel
        by_cases hkn : k < n
        · have hkI : (k : Int) < (n : Int) := by omega
          have hkR : k < RS.length := by rw [← HN.out]; exact hkn
          have cK := MEM.out k hkR
          have ST : Hid (rowT RS i (k + 1) = rowT RS i k ++ [rN RS k]) := hide (rowT_snoc RS i k hik hkR)
          have HEX : Hid (bndB (rN RS k) = false → (RS.drop i).takeWhile bndB = rowT RS i k ∧ (RS.drop i).dropWhile bndB = RS.drop k) := hide (fun h => row_cut RS i k hik (Nat.le_of_lt hkR) HR.out (.inr h))
          have HSg := hide (rSign_any (mkB (rN RS k)) w1)
          have HLt := hide (rLetter_any (mkB (rN RS k)) w1)
          rw [bys_mkB] at HSg HLt
          have ee := eqTL (mkB (rN RS k)) [39]
          rw [bys_mkB] at ee
          have hrow : ((rowT RS i k).flatMap dbl).length ≤ 2000 := row_len RS i k HTB.out
          by_cases a1 : rN RS k = [39]
          · rw [decide_eq_true a1] at ee
            have HBN : Hid (bndB (rN RS k) = true) := hide (by unfold bndB; rw [decide_eq_true a1]; rfl)
            have HR2 : Hid (∀ r ∈ rowT RS i (k + 1), bndB r = true) := hide (by
              rw [ST.out]
              intro r hr
              rcases List.mem_append.1 hr with h | h
              · exact HR.out r h
              · rw [List.mem_singleton.1 h]; exact HBN.out)
            have EW : Hid (mkB ((rowT RS i k).flatMap dbl) ++ ⟨#[39, 39]⟩ = mkB ((rowT RS i (k + 1)).flatMap dbl)) := hide (by
              rw [ST.out, List.flatMap_append, mkB_app, a1]; rfl)
            have EB : Hid ((rowT RS i k).all (fun r => decide (r = [39])) = (rowT RS i (k + 1)).all (fun r => decide (r = [39]))) := hide (by
              rw [ST.out, List.all_append, a1]; simp)
            have hcat : ¬ 9223372036854775807 < (mkB ((rowT RS i k).flatMap dbl)).size + (⟨#[39, 39]⟩ : ByteArray).size := by
              have : (⟨#[39, 39]⟩ : ByteArray).size = 2 := rfl
              rw [size_mkB]; omega
            obtain ⟨RW, hRW⟩ : ∃ RW, RW = mkB ((rowT RS i k).flatMap dbl) := ⟨_, rfl⟩
            rw [← hRW] at EW hcat ⊢
            obtain ⟨AB, hAB⟩ : ∃ AB, AB = (rowT RS i k).all (fun r => decide (r = [39])) := ⟨_, rfl⟩
            rw [← hAB] at EB ⊢
            clear a1 ST HEX HSg HLt hrow HR HBN hRW hAB
            go_wp2
            exact ⟨⟨k + 1, by omega, by omega, by go_num, by rw [← EB.out], by rw [← EW.out], HR2, by first | rfl | trivial⟩, by simp [intOf]; omega⟩
          · rw [decide_eq_false a1] at ee
            have EW : Hid (mkB ((rowT RS i k).flatMap dbl) ++ mkB (rN RS k) = mkB ((rowT RS i (k + 1)).flatMap dbl)) := hide (by
              rw [ST.out, List.flatMap_append, mkB_app]
              show _ = mkB _ ++ mkB (dbl (rN RS k) ++ [])
              rw [List.append_nil]
              unfold dbl
              rw [if_neg a1])
            have EB : Hid (false = (rowT RS i (k + 1)).all (fun r => decide (r = [39]))) := hide (by
              rw [ST.out, List.all_append]
              simp [a1])
            have hrz : (rN RS k).length ≤ 1000 := Nat.le_trans (rN_len RS k) HTB.out
            have hcat : ¬ 9223372036854775807 < (mkB ((rowT RS i k).flatMap dbl)).size + (mkB (rN RS k)).size := by
              rw [size_mkB, size_mkB]; omega
            have HST : Hid (bndB (rN RS k) = true → ∀ r ∈ rowT RS i (k + 1), bndB r = true) := hide (fun hb => by
              rw [ST.out]
              intro r hr
              rcases List.mem_append.1 hr with h | h
              · exact HR.out r h
              · rw [List.mem_singleton.1 h]; exact hb)
            have HBD : Hid (bndB (rN RS k) = (letB (rN RS k) || decide (kindB (rN RS k) ≠ 0))) := hide (by unfold bndB; rw [decide_eq_false a1, Bool.false_or])
            obtain ⟨q, hq⟩ : ∃ q, q = kindB (rN RS k) := ⟨_, rfl⟩
            rw [← hq] at HSg HBD
            obtain ⟨lb, hlb⟩ : ∃ lb, lb = letB (rN RS k) := ⟨_, rfl⟩
            rw [← hlb] at HLt HBD
            clear hq hlb a1 hrz hrow
            by_cases hq0 : q = 0
            · subst hq0
              rw [show ((0 : Nat) : Int) = 0 from rfl] at HSg
              cases lb
              · have EXI := hide (HEX.out (by rw [HBD.out]; rfl))
                clear HBD HST EW EB hcat ST HEX
                go_wp2_with fail
                refine HSg.out.mono ?_
                rintro e w2 ⟨rfl, rfl⟩
                go_wp2_with fail
                refine HLt.out.mono ?_
                rintro e w2 ⟨rfl, rfl⟩
                clear HSg HLt cK ee
                have hkR' : k ≤ RS.length := Nat.le_of_lt hkR
                have hTL := HTL.out
                by_cases hki : k = i
                · subst hki
                  have hrn : rowT RS k k = [] := by unfold rowT; rw [Nat.sub_self, List.take_zero]
                  have hfr : bndB (rN RS k) = false := by
                    have e := EXI.out.1
                    rw [hrn, rN_drop hin, List.takeWhile_cons] at e
                    cases hb : bndB (rN RS k) with
                    | false => rfl
                    | true => rw [hb] at e; cases e
                  have ET : Hid ((acc ++ rN RS k) ++ textR (RS.drop (k + 1)) = TT) := hide (by
                    rw [← HO.out.1, rN_drop hin, textR_free hfr, List.append_assoc])
                  have hsz : (mkB acc).size + (mkB (rN RS k)).size ≤ 4000 := by
                    have := congrArg List.length ET.out
                    rw [List.length_append, List.length_append] at this
                    rw [size_mkB, size_mkB]
                    omega
                  have hcat : ¬ 9223372036854775807 < (mkB acc).size + (mkB (rN RS k)).size := by omega
                  have EA : Hid (mkB acc ++ mkB (rN RS k) = mkB (acc ++ rN RS k)) := hide (mkB_app _ _).symm
                  have cI := MEM.out k hin
                  clear EXI HR HO hrn hfr hsz
                  go_wp2
                  exact ⟨⟨k + 1, acc ++ rN RS k, by omega, by rw [← EA.out], by go_num, hide ⟨ET.out, HTL.out⟩, by first | rfl | trivial⟩, by simp [intOf]; omega⟩
                · have hki' : ((k : Int) == (i : Int)) = false := beq_eq_false_iff_ne.2 (by omega)
                  have hki2 : ¬ (k : Int) = (i : Int) := by omega
                  have ET0 : Hid (acc ++ (quoR (rowT RS i k) ++ textR (RS.drop k)) = TT) := hide (by
                    rw [← HO.out.1]
                    have hb : bndB (rN RS i) = true := by
                      cases hb : bndB (rN RS i) with
                      | true => rfl
                      | false =>
                        exfalso
                        have e := EXI.out.1
                        rw [rN_drop hin, List.takeWhile_cons, hb] at e
                        have e2 := congrArg List.length e
                        have hl : (rowT RS i k).length = k - i := by unfold rowT; rw [List.length_take, List.length_drop]; omega
                        simp [hl] at e2
                        omega
                    have hx := textR_bnd hb (RS.drop (i + 1))
                    rw [← rN_drop hin, EXI.out.1, EXI.out.2] at hx
                    rw [hx])
                  obtain ⟨BR, hBR⟩ : ∃ BR, BR = (rowT RS i k).all (fun r => decide (r = [39])) := ⟨_, rfl⟩
                  rw [← hBR]
                  obtain ⟨RW, hRW⟩ : ∃ RW, RW = (rowT RS i k).flatMap dbl := ⟨_, rfl⟩
                  rw [← hRW]
                  have EQ : Hid (quoR (rowT RS i k) = if BR = true then RW else 39 :: (RW ++ [39])) := hide (by unfold quoR; rw [hBR, hRW])
                  clear EXI HR HO hBR hRW
                  cases BR
                  · have EA : Hid (mkB acc ++ (⟨#[39]⟩ ++ mkB RW ++ ⟨#[39]⟩) = mkB (acc ++ (39 :: (RW ++ [39])))) := hide (by
                      rw [mkB_app, show (39 :: (RW ++ [39])) = [39] ++ RW ++ [39] from rfl, mkB_app, mkB_app]
                      rfl)
                    have ET : Hid ((acc ++ (39 :: (RW ++ [39]))) ++ textR (RS.drop k) = TT) := hide (by
                      rw [← ET0.out, EQ.out, if_neg (by decide), List.append_assoc])
                    have hln := congrArg List.length ET.out
                    rw [List.length_append, List.length_append, List.length_cons, List.length_append] at hln
                    have h39 : (⟨#[39]⟩ : ByteArray).size = 1 := rfl
                    have hc1 : ¬ 9223372036854775807 < (⟨#[39]⟩ : ByteArray).size + (mkB RW).size := by rw [size_mkB]; omega
                    have hc2 : ¬ 9223372036854775807 < (⟨#[39]⟩ ++ mkB RW : ByteArray).size + (⟨#[39]⟩ : ByteArray).size := by rw [ByteArray.size_append, size_mkB]; omega
                    have hc3 : ¬ 9223372036854775807 < (mkB acc).size + (⟨#[39]⟩ ++ mkB RW ++ ⟨#[39]⟩ : ByteArray).size := by rw [ByteArray.size_append, ByteArray.size_append, size_mkB, size_mkB]; omega
                    clear hln h39 ET0 EQ hki
                    go_wp2
                    exact ⟨⟨k, _, by omega, by rw [← EA.out], rfl, hide ⟨ET.out, HTL.out⟩, by first | rfl | trivial⟩, by simp [intOf]; omega⟩
                  · have EA : Hid (mkB acc ++ mkB RW = mkB (acc ++ RW)) := hide (mkB_app _ _).symm
                    have ET : Hid ((acc ++ RW) ++ textR (RS.drop k) = TT) := hide (by
                      rw [← ET0.out, EQ.out, if_pos rfl, List.append_assoc])
                    have hln := congrArg List.length ET.out
                    rw [List.length_append, List.length_append] at hln
                    have hc1 : ¬ 9223372036854775807 < (mkB acc).size + (mkB RW).size := by rw [size_mkB, size_mkB]; omega
                    clear hln ET0 EQ hki
                    go_wp2
                    exact ⟨⟨k, _, by omega, by rw [← EA.out], rfl, hide ⟨ET.out, HTL.out⟩, by first | rfl | trivial⟩, by simp [intOf]; omega⟩
              · have HR2 := hide (HST.out (by rw [HBD.out]; rfl))
                obtain ⟨RW, hRW⟩ : ∃ RW, RW = mkB ((rowT RS i k).flatMap dbl) := ⟨_, rfl⟩
                rw [← hRW] at EW hcat ⊢
                clear HBD HST HR ST HEX hRW
                go_wp2_with fail
                refine HSg.out.mono ?_
                rintro e w2 ⟨rfl, rfl⟩
                go_wp2_with fail
                refine HLt.out.mono ?_
                rintro e w2 ⟨rfl, rfl⟩
                clear HSg HLt
                go_wp2
                exact ⟨⟨k + 1, by omega, by omega, by go_num, by rw [← EB.out], by rw [← EW.out], HR2, by first | rfl | trivial⟩, by simp [intOf]; omega⟩
            · have hq1 : (0 : Int) < (q : Int) := by omega
              have HR2 := hide (HST.out (by rw [HBD.out, decide_eq_true hq0, Bool.or_true]))
              obtain ⟨RW, hRW⟩ : ∃ RW, RW = mkB ((rowT RS i k).flatMap dbl) := ⟨_, rfl⟩
              rw [← hRW] at EW hcat ⊢
              clear HBD HST HR ST HEX hRW HLt hq0
              go_wp2_with fail
              refine HSg.out.mono ?_
              rintro e w2 ⟨rfl, rfl⟩
              clear HSg
              go_wp2
              exact ⟨⟨k + 1, by omega, by omega, by go_num, by rw [← EB.out], by rw [← EW.out], HR2, by first | rfl | trivial⟩, by simp [intOf]; omega⟩
        · obtain rfl : k = n := by omega
          have hkI : ¬ (k : Int) < (k : Int) := by omega
          have EXI : Hid ((RS.drop i).takeWhile bndB = rowT RS i k ∧ (RS.drop i).dropWhile bndB = RS.drop k) := hide (row_cut RS i k hik (by rw [← HN.out]; exact Nat.le_refl _) HR.out (.inl HN.out))
          have hTL := HTL.out
          have hkR' : k ≤ RS.length := by rw [← HN.out]; exact Nat.le_refl _
          have hki : ¬ k = i := by omega
          have hki' : ((k : Int) == (i : Int)) = false := beq_eq_false_iff_ne.2 (by omega)
          have hki2 : ¬ (k : Int) = (i : Int) := by omega
          have ET0 : Hid (acc ++ (quoR (rowT RS i k) ++ textR (RS.drop k)) = TT) := hide (by
            rw [← HO.out.1]
            have hb : bndB (rN RS i) = true := by
              cases hb : bndB (rN RS i) with
              | true => rfl
              | false =>
                exfalso
                have e := EXI.out.1
                rw [rN_drop hin, List.takeWhile_cons, hb] at e
                have e2 := congrArg List.length e
                have hl : (rowT RS i k).length = k - i := by unfold rowT; rw [List.length_take, List.length_drop]; omega
                simp [hl] at e2
                omega
            have hx := textR_bnd hb (RS.drop (i + 1))
            rw [← rN_drop hin, EXI.out.1, EXI.out.2] at hx
            rw [hx])
          obtain ⟨BR, hBR⟩ : ∃ BR, BR = (rowT RS i k).all (fun r => decide (r = [39])) := ⟨_, rfl⟩
          rw [← hBR]
          obtain ⟨RW, hRW⟩ : ∃ RW, RW = (rowT RS i k).flatMap dbl := ⟨_, rfl⟩
          rw [← hRW]
          have EQ : Hid (quoR (rowT RS i k) = if BR = true then RW else 39 :: (RW ++ [39])) := hide (by unfold quoR; rw [hBR, hRW])
          clear EXI HR HO hBR hRW
          cases BR
          · have EA : Hid (mkB acc ++ (⟨#[39]⟩ ++ mkB RW ++ ⟨#[39]⟩) = mkB (acc ++ (39 :: (RW ++ [39])))) := hide (by
              rw [mkB_app, show (39 :: (RW ++ [39])) = [39] ++ RW ++ [39] from rfl, mkB_app, mkB_app]
              rfl)
            have ET : Hid ((acc ++ (39 :: (RW ++ [39]))) ++ textR (RS.drop k) = TT) := hide (by
              rw [← ET0.out, EQ.out, if_neg (by decide), List.append_assoc])
            have hln := congrArg List.length ET.out
            rw [List.length_append, List.length_append, List.length_cons, List.length_append] at hln
            have h39 : (⟨#[39]⟩ : ByteArray).size = 1 := rfl
            have hc1 : ¬ 9223372036854775807 < (⟨#[39]⟩ : ByteArray).size + (mkB RW).size := by rw [size_mkB]; omega
            have hc2 : ¬ 9223372036854775807 < (⟨#[39]⟩ ++ mkB RW : ByteArray).size + (⟨#[39]⟩ : ByteArray).size := by rw [ByteArray.size_append, size_mkB]; omega
            have hc3 : ¬ 9223372036854775807 < (mkB acc).size + (⟨#[39]⟩ ++ mkB RW ++ ⟨#[39]⟩ : ByteArray).size := by rw [ByteArray.size_append, ByteArray.size_append, size_mkB, size_mkB]; omega
            clear hln h39 ET0 EQ hki
            go_wp2
            exact ⟨⟨k, _, by omega, by rw [← EA.out], rfl, hide ⟨ET.out, HTL.out⟩, by first | rfl | trivial⟩, by simp [intOf]; omega⟩
          · have EA : Hid (mkB acc ++ mkB RW = mkB (acc ++ RW)) := hide (mkB_app _ _).symm
            have ET : Hid ((acc ++ RW) ++ textR (RS.drop k) = TT) := hide (by
              rw [← ET0.out, EQ.out, if_pos rfl, List.append_assoc])
            have hln := congrArg List.length ET.out
            rw [List.length_append, List.length_append] at hln
            have hc1 : ¬ 9223372036854775807 < (mkB acc).size + (mkB RW).size := by rw [size_mkB, size_mkB]; omega
            clear hln ET0 EQ hki
            go_wp2
            exact ⟨⟨k, _, by omega, by rw [← EA.out], rfl, hide ⟨ET.out, HTL.out⟩, by first | rfl | trivial⟩, by simp [intOf]; omega⟩
    · obtain rfl : i = n := by omega
      have hlt' : ¬ (i : Int) < (i : Int) := by omega
      have ET : Hid (acc = TT) := hide (by
        have q := HO.out.1
        rw [List.drop_eq_nil_of_le (by rw [← HN.out]; exact Nat.le_refl _), show textR [] = [] from rfl, List.append_nil] at q
        exact q)
      clear HO hlt
      go_wp2
      go_ret
      exact ⟨by rw [← ET.out]; rfl, B1.out⟩

end Go.Proofs.YtobcbffakldfcaaDoor

namespace Go.Proofs.YtobcbffakldfcaaDoor
open Go.RowKit

theorem prt_sign {t : Tok} {k : Int} (h : mayTok t = true) (hk : t.kind = k) (h1 : 1 ≤ k) (h4 : k ≤ 4) : prtT t = sgnL k := by
  unfold prtT
  rw [if_neg (by omega), hk]
  have hm : t.many = 0 := by
    unfold mayTok at h
    rw [if_neg (by omega), if_pos (by omega)] at h
    simp at h
    exact h.2
  rw [hm, show (max (1 : Int) 0).toNat = 1 from rfl, List.replicate_one, List.flatten_singleton]
theorem prt_coin {t : Tok} (h : mayTok t = true) (hk : t.kind = 5) : prtT t = (List.replicate t.many.toNat [194, 164]).flatten := by
  have hm := (may_five h hk).2
  unfold prtT
  rw [if_neg (by omega), hk, show max 1 t.many = t.many by omega]
  rfl
theorem kind_ne {x : Int} (k : Int) (h : x = k) : ∀ j, j ≠ k → (x == j) = false := fun j hj => beq_eq_false_iff_ne.2 (by omega)

set_option maxRecDepth 100000 in
set_option maxHeartbeats 8000000 in
theorem rPrint_ok (b o cap : Nat) (ts : List Tok) (w : World) (hc0 : chkT ts = 0) (hcap : ts.length ≤ cap) (hA : TkAt w b o ts) :
    Calls Tryd.prog 10 #[.slice (some ⟨b, o, none⟩) ts.length cap] w fun e w' => e = .returned (.tuple #[.string (mkB (prtL ts)), .int .i64 0]) ∧ Below w.heap.size w w' := by
  obtain ⟨hM, hl64, hs64⟩ := chk_ok hc0
  have SZ : SzT ts := fun i => Nat.le_trans (size_tok ts i) (by omega)
  have CK := hide (rCheck_any (v := .slice (some ⟨b, o, none⟩) ts.length cap) ⟨_, cap, rfl, hcap, .inr ⟨b, o, rfl, hA⟩⟩ (by omega) SZ)
  rw [hc0] at CK
  have hpl := prtL_len ts hM
  obtain ⟨P, hP⟩ : ∃ P, P = prtL ts := ⟨_, rfl⟩
  rw [← hP] at hpl ⊢
  have HP := hide hP
  have HM := hide hM
  have HA := hide hA
  obtain ⟨L, hL⟩ : ∃ L, L = ts.length := ⟨_, rfl⟩
  rw [← hL] at CK hcap hl64 hpl ⊢
  have HL := hide hL
  clear hM hA hL hP hc0 SZ
  go_enter Tryd.func10, Tryd.ntmps10
  go_wp2_with fail
  refine CK.out.mono ?_
  rintro e w1 ⟨rfl, hb1⟩
  have BW := hide hb1
  clear hb1 CK
  go_wp2
  go_loopw [5, 6] (fun x q wr => ∃ (i : Nat), i ≤ L ∧ x = .string (mkB (prtL (ts.take i))) ∧ q = .int .i64 (i : Int) ∧ Hid (Below w.heap.size w wr)) (fun _ q _ => L - (intOf q).toNat)
  case atStart => exact ⟨0, Nat.zero_le _, rfl, rfl, BW⟩
  case round =>
    obtain ⟨i, hi, rfl, rfl, HW⟩ := hrel
    by_cases hlt : i < L
    · have hlt' : (i : Int) < (L : Int) := by omega
      have hkt : i < ts.length := by rw [← HL.out]; exact hlt
      obtain ⟨c0, c1, c2⟩ := (HA.out.below HW.out) i hkt
      have hmk := HM.out _ (tokN_mem hkt)
      have ES := hide (prtL_snoc ts i hkt)
      have hpk : (prtL (ts.take i)).length + (prtT (tokN ts i)).length ≤ P.length := by
        rw [← List.length_append, ← prtL_snoc ts i hkt, HP.out]
        conv => rhs; rw [← List.take_append_drop (i + 1) ts]
        unfold prtL
        rw [List.flatMap_append, List.length_append]
        omega
      have htz : (tokN ts i).text.size ≤ 64 := Nat.le_trans (size_tok ts i) hs64
      obtain ⟨t, ht⟩ : ∃ t, t = tokN ts i := ⟨_, rfl⟩
      rw [← ht] at c0 c1 c2 hmk ES hpk htz
      clear ht hkt
      by_cases h0 : t.kind = 0
      · have h0' : (t.kind == 0) = true := beq_iff_eq.2 h0
        have H1 := hide (rText_any t.text wr (by omega))
        have EP : Hid (prtT t = textR (rns (bys t.text))) := hide (by unfold prtT; rw [if_pos h0])
        rw [EP.out] at hpk ES
        obtain ⟨X, hX⟩ : ∃ X, X = textR (rns (bys t.text)) := ⟨_, rfl⟩
        rw [← hX] at H1 hpk ES
        have EA : Hid (mkB (prtL (ts.take i)) ++ mkB X = mkB (prtL (ts.take (i + 1)))) := hide (by rw [ES.out, mkB_app])
        have hcat : ¬ 9223372036854775807 < (mkB (prtL (ts.take i))).size + (mkB X).size := by
          rw [size_mkB, size_mkB]; omega
        obtain ⟨O, hO⟩ : ∃ O, O = mkB (prtL (ts.take i)) := ⟨_, rfl⟩
        rw [← hO] at EA hcat ⊢
        rw [h0] at c0
        clear hX EP hmk h0 h0' ES hpk hO htz
        go_wp2_with fail
        refine H1.out.mono ?_
        rintro e w3 ⟨rfl, hb3⟩
        have HB3 := hide (HW.out.trans (hb3.mono HW.out.size))
        clear hb3 H1
        go_wp2
        exact ⟨⟨i + 1, by omega, by rw [← EA.out], by go_num, HB3⟩, by simp [intOf]; omega⟩
      · rcases may_sign hmk h0 with hk | hk | hk | hk | hk
        · have EP : Hid (prtT t = [45]) := hide (prt_sign hmk hk (by decide) (by decide))
          have hk' : (t.kind == 1) = true := beq_iff_eq.2 hk
          have ks := kind_ne 1 hk
          rw [EP.out] at hpk ES
          have EA : Hid (mkB (prtL (ts.take i)) ++ ⟨#[45]⟩ = mkB (prtL (ts.take (i + 1)))) := hide (by rw [ES.out, mkB_app]; rfl)
          have hcat : ¬ 9223372036854775807 < (mkB (prtL (ts.take i))).size + (⟨#[45]⟩ : ByteArray).size := by
            have : (⟨#[45]⟩ : ByteArray).size ≤ 3 := by decide
            rw [size_mkB]; omega
          obtain ⟨O, hO⟩ : ∃ O, O = mkB (prtL (ts.take i)) := ⟨_, rfl⟩
          rw [← hO] at EA hcat ⊢
          rw [hk] at c0
          clear hk hk' ks hmk EP ES hpk hO htz
          go_wp2
          exact ⟨⟨i + 1, by omega, by rw [← EA.out], by go_num, HW⟩, by simp [intOf]; omega⟩
        · have EP : Hid (prtT t = [43]) := hide (prt_sign hmk hk (by decide) (by decide))
          have hk' : (t.kind == 2) = true := beq_iff_eq.2 hk
          have ks := kind_ne 2 hk
          rw [EP.out] at hpk ES
          have EA : Hid (mkB (prtL (ts.take i)) ++ ⟨#[43]⟩ = mkB (prtL (ts.take (i + 1)))) := hide (by rw [ES.out, mkB_app]; rfl)
          have hcat : ¬ 9223372036854775807 < (mkB (prtL (ts.take i))).size + (⟨#[43]⟩ : ByteArray).size := by
            have : (⟨#[43]⟩ : ByteArray).size ≤ 3 := by decide
            rw [size_mkB]; omega
          obtain ⟨O, hO⟩ : ∃ O, O = mkB (prtL (ts.take i)) := ⟨_, rfl⟩
          rw [← hO] at EA hcat ⊢
          rw [hk] at c0
          clear hk hk' ks hmk EP ES hpk hO htz
          go_wp2
          exact ⟨⟨i + 1, by omega, by rw [← EA.out], by go_num, HW⟩, by simp [intOf]; omega⟩
        · have EP : Hid (prtT t = [37]) := hide (prt_sign hmk hk (by decide) (by decide))
          have hk' : (t.kind == 3) = true := beq_iff_eq.2 hk
          have ks := kind_ne 3 hk
          rw [EP.out] at hpk ES
          have EA : Hid (mkB (prtL (ts.take i)) ++ ⟨#[37]⟩ = mkB (prtL (ts.take (i + 1)))) := hide (by rw [ES.out, mkB_app]; rfl)
          have hcat : ¬ 9223372036854775807 < (mkB (prtL (ts.take i))).size + (⟨#[37]⟩ : ByteArray).size := by
            have : (⟨#[37]⟩ : ByteArray).size ≤ 3 := by decide
            rw [size_mkB]; omega
          obtain ⟨O, hO⟩ : ∃ O, O = mkB (prtL (ts.take i)) := ⟨_, rfl⟩
          rw [← hO] at EA hcat ⊢
          rw [hk] at c0
          clear hk hk' ks hmk EP ES hpk hO htz
          go_wp2
          exact ⟨⟨i + 1, by omega, by rw [← EA.out], by go_num, HW⟩, by simp [intOf]; omega⟩
        · have EP : Hid (prtT t = [226, 128, 176]) := hide (prt_sign hmk hk (by decide) (by decide))
          have hk' : (t.kind == 4) = true := beq_iff_eq.2 hk
          have ks := kind_ne 4 hk
          rw [EP.out] at hpk ES
          have EA : Hid (mkB (prtL (ts.take i)) ++ ⟨#[226, 128, 176]⟩ = mkB (prtL (ts.take (i + 1)))) := hide (by rw [ES.out, mkB_app]; rfl)
          have hcat : ¬ 9223372036854775807 < (mkB (prtL (ts.take i))).size + (⟨#[226, 128, 176]⟩ : ByteArray).size := by
            have : (⟨#[226, 128, 176]⟩ : ByteArray).size ≤ 3 := by decide
            rw [size_mkB]; omega
          obtain ⟨O, hO⟩ : ∃ O, O = mkB (prtL (ts.take i)) := ⟨_, rfl⟩
          rw [← hO] at EA hcat ⊢
          rw [hk] at c0
          clear hk hk' ks hmk EP ES hpk hO htz
          go_wp2
          exact ⟨⟨i + 1, by omega, by rw [← EA.out], by go_num, HW⟩, by simp [intOf]; omega⟩
        · obtain ⟨_, hm1, hm3⟩ := may_five hmk hk
          obtain ⟨N, hN⟩ : ∃ N : Nat, t.many = (N : Int) := ⟨t.many.toNat, by omega⟩
          have EP : Hid (prtT t = (List.replicate N [194, 164]).flatten) := hide (by rw [prt_coin hmk hk, hN, Int.toNat_natCast])
          rw [EP.out] at hpk ES
          rw [hk] at c0
          rw [hN] at c1
          obtain ⟨AC, hAC⟩ : ∃ AC, AC = prtL (ts.take i) := ⟨_, rfl⟩
          rw [← hAC] at hpk ES ⊢
          have hN3 : N ≤ 3 := by omega
          have hac : AC.length ≤ 1000 := by omega
          clear hk hmk EP hpk htz hm1 hm3 hN h0 hAC
          obtain ⟨wq, hq⟩ : ∃ x, x = wr := ⟨_, rfl⟩
          subst hq
          go_wp2
          go_loopw [5, 7] (fun x q wz => ∃ (k : Nat), k ≤ N ∧ x = .string (mkB (AC ++ (List.replicate k [194, 164]).flatten)) ∧ q = .int .i64 (k : Int) ∧ wq = wz) (fun _ q _ => N - (intOf q).toNat)
          case atStart => exact ⟨0, Nat.zero_le _, by simp, rfl, rfl⟩
          case round =>
            obtain ⟨k, hk, rfl, rfl, rfl⟩ := hrel
            by_cases hkN : k < N
            · have hkN' : (k : Int) < (N : Int) := by omega
              have EA : Hid (mkB (AC ++ (List.replicate k [194, 164]).flatten) ++ ⟨#[194, 164]⟩ = mkB (AC ++ (List.replicate (k + 1) [194, 164]).flatten)) := hide (by
                rw [List.replicate_succ', List.flatten_append, ← List.append_assoc, mkB_app (AC ++ (List.replicate k [194, 164]).flatten)]
                rfl)
              have hcat : ¬ 9223372036854775807 < (mkB (AC ++ (List.replicate k [194, 164]).flatten)).size + (⟨#[194, 164]⟩ : ByteArray).size := by
                have : (⟨#[194, 164]⟩ : ByteArray).size = 2 := rfl
                rw [size_mkB, List.length_append, List.length_flatten, List.map_replicate, List.sum_replicate_nat]
                simp only [List.length_cons, List.length_nil]
                omega
              obtain ⟨O, hO⟩ : ∃ O, O = mkB (AC ++ (List.replicate k [194, 164]).flatten) := ⟨_, rfl⟩
              rw [← hO] at EA hcat ⊢
              clear hO
              go_wp2
              exact ⟨⟨k + 1, by omega, by rw [← EA.out], by go_num, by first | rfl | trivial⟩, by simp [intOf]; omega⟩
            · obtain rfl : k = N := by omega
              have hkN' : ¬ (k : Int) < (k : Int) := by omega
              have EE : Hid (AC ++ (List.replicate k [194, 164]).flatten = prtL (ts.take (i + 1))) := hide ES.out.symm
              rw [EE.out]
              clear hkN ES EE
              go_wp2
              exact ⟨⟨i + 1, by omega, rfl, by go_num, HW⟩, by simp [intOf]; omega⟩
    · obtain rfl : i = L := by omega
      have hlt' : ¬ (i : Int) < (i : Int) := by omega
      have e1 : ts.take i = ts := List.take_of_length_le (by rw [← HL.out]; exact Nat.le_refl _)
      rw [e1, ← HP.out]
      clear e1 hlt
      go_wp2
      refine bodyPost_ret (results_tmp2 rfl _ _ _) rfl ?_
      exact ⟨rfl, HW.out⟩

set_option maxRecDepth 100000 in
set_option maxHeartbeats 1000000 in
theorem rPrint_bad (v : Value) (w : World) (C : Nat) (hC : C = 131 ∨ C = 132) (CK : Calls Tryd.prog 14 #[v] w fun e w' => e = .returned (.int .i64 (C : Int)) ∧ Below w.heap.size w w') :
    Calls Tryd.prog 10 #[v] w fun e w' => e = .returned (.tuple #[.string ⟨#[]⟩, .int .i64 (C : Int)]) ∧ Below w.heap.size w w' := by
  have HC := hide CK
  clear CK
  rcases hC with rfl | rfl
  all_goals
    go_enter Tryd.func10, Tryd.ntmps10
    go_wp2_with fail
    refine HC.out.mono ?_
    rintro e w1 ⟨rfl, hb⟩
    go_wp2
    refine bodyPost_ret (results_tmp2 rfl _ _ _) rfl ?_
    exact ⟨rfl, hb⟩

set_option maxRecDepth 100000 in
set_option maxHeartbeats 1000000 in
theorem rPrint_nil (ao : Option Addr) (cap : Nat) (w : World) :
    Calls Tryd.prog 10 #[.slice ao 0 cap] w fun e w' => e = .returned (.tuple #[.string ⟨#[]⟩, .int .i64 0]) ∧ Below w.heap.size w w' := by
  have HC := hide (rCheck_nil ao cap w)
  go_enter Tryd.func10, Tryd.ntmps10
  go_wp2_with fail
  refine HC.out.mono ?_
  rintro e w1 ⟨rfl, hb⟩
  have BW := hide hb
  clear hb HC
  go_wp2
  go_loopw [5, 6] (fun x q wr => x = .string ⟨#[]⟩ ∧ q = .int .i64 0 ∧ w1 = wr) (fun _ q _ => 0)
  case atStart => exact ⟨rfl, rfl, rfl⟩
  case round =>
    obtain ⟨rfl, rfl, rfl⟩ := hrel
    go_wp2
    refine bodyPost_ret (results_tmp2 rfl _ _ _) rfl ?_
    exact ⟨rfl, BW.out⟩

theorem rPrint_any {w : World} {v : Value} {ts : List Tok} (h : TSl w v ts) (hl : ts.length ≤ 140737488355328) (hz : SzT ts) :
    Calls Tryd.prog 10 #[v] w fun e w' => e = .returned (.tuple #[.string (mkB (printR ts).2), .int .i64 ((printR ts).1 : Int)]) ∧ Below w.heap.size w w' := by
  unfold printR
  by_cases hc : chkT ts = 0
  · rw [if_pos hc]
    obtain ⟨ao, cap, rfl, h2, h3⟩ := h
    rcases h3 with rfl | ⟨b, o, rfl, h3⟩
    · exact rPrint_nil ao cap w
    · exact rPrint_ok b o cap ts w hc h2 h3
  · rw [if_neg hc]
    have hci := chkT_is ts
    exact rPrint_bad v w (chkT ts) (by omega) (rCheck_any h hl hz)

end Go.Proofs.YtobcbffakldfcaaDoor
