/-
  Tokens are checked, written and turned as the reference says: the law's walk.
  A text read with a look ahead, as the document says it, and by states: one answer.
  The reference's with and signed: a token more.
  The reference's signed: a sign more.
  The reference's Parse.
  Any text is read as the reference says: the law's walk.
  What the rows' list of package variables gives, and a world that holds them (affix's two tables beside the library's).
-/
import Derived.Test.YtobcbffakldfcaaDoorDB6
import Derived.Test.YtobcbffakldfcaaDoorDB4
import Derived.Test.YtobcbffakldfcaaDoorRows
import Derived.Test.YtobcbffakldfcaaDoorDB2
import Derived.Shelf.Vars
import Derived.Lib.LaidU8
import Derived.Deep.DeepHandedRow
namespace Go.Proofs.YtobcbffakldfcaaDoor
open Go.RowKit

end Go.Proofs.YtobcbffakldfcaaDoor

namespace Go.Proofs.YtobcbffakldfcaaDoor

def refS (l : List Tok) (r : List UInt8) : Option (List Tok) := if kindB r = 0 ∧ letB r = false then some (addT l (txtT r)) else if letB r then none else if coinsT (addT l (sgnT (kindB r))) ≤ 3 then some (addT l (sgnT (kindB r))) else none
def refF : Nat → Bool → List Tok → List (List UInt8) → Option (Bool × List Tok)
  | 0, b, l, _ => some (b, l)
  | _ + 1, b, l, [] => some (b, l)
  | f + 1, b, l, r :: rs => if r = [39] then (if rs.head? = some [39] then refF f b (addT l (txtT [39])) rs.tail else refF f (!b) l rs) else if b then refF f b (addT l (txtT r)) rs else (refS l r).bind fun m => refF f b m rs
def refP (b : Bool) (l : List Tok) (rs : List (List UInt8)) : Option (Bool × List Tok) := refF rs.length b l rs
theorem refF_fuel : ∀ (f g : Nat) (b : Bool) (l : List Tok) (rs : List (List UInt8)), rs.length ≤ f → rs.length ≤ g → refF f b l rs = refF g b l rs
  | 0, 0, _, _, _, _, _ => rfl
  | 0, g + 1, b, l, [], _, _ => rfl
  | f + 1, 0, b, l, [], _, _ => rfl
  | f + 1, g + 1, b, l, [], _, _ => rfl
  | 0, g + 1, _, _, r :: rs, h, _ => by simp at h
  | f + 1, 0, _, _, r :: rs, _, h => by simp at h
  | f + 1, g + 1, b, l, r :: rs, h, k => by
    simp only [List.length_cons] at h k
    have ht : rs.tail.length ≤ rs.length := by rw [List.length_tail]; omega
    unfold refF
    rw [refF_fuel f g b (addT l (txtT [39])) rs.tail (by omega) (by omega), refF_fuel f g (!b) l rs (by omega) (by omega), refF_fuel f g b (addT l (txtT r)) rs (by omega) (by omega)]
    have : ∀ m, refF f b m rs = refF g b m rs := fun m => refF_fuel f g b m rs (by omega) (by omega)
    simp only [this]
theorem refP_nil (b : Bool) (l : List Tok) : refP b l [] = some (b, l) := rfl
theorem refP_two (b : Bool) (l : List Tok) (rs : List (List UInt8)) : refP b l ([39] :: [39] :: rs) = refP b (addT l (txtT [39])) rs := by
  unfold refP
  rw [List.length_cons, refF, if_pos rfl, if_pos (show ([39] :: rs).head? = some [39] from rfl)]
  exact refF_fuel _ _ _ _ _ (by simp) (Nat.le_refl _)
theorem refP_one (b : Bool) (l : List Tok) (rs : List (List UInt8)) (h : rs.head? ≠ some [39]) : refP b l ([39] :: rs) = refP (!b) l rs := by
  unfold refP
  rw [List.length_cons, refF, if_pos rfl, if_neg h]
theorem refP_in (l : List Tok) (r : List UInt8) (rs : List (List UInt8)) (h : r ≠ [39]) : refP true l (r :: rs) = refP true (addT l (txtT r)) rs := by
  unfold refP
  rw [List.length_cons, refF, if_neg h, if_pos rfl]
theorem refP_out (l : List Tok) (r : List UInt8) (rs : List (List UInt8)) (h : r ≠ [39]) : refP false l (r :: rs) = (refS l r).bind fun m => refP false m rs := by
  unfold refP
  rw [List.length_cons, refF, if_neg h, if_neg (by decide)]

def simR : Option (Nat × List Tok) → Option (Bool × List Tok) → Prop
  | none, none => True
  | some q, some p => q.2 = p.2 ∧ (p.1 = true ↔ q.1 = 1 ∨ q.1 = 2)
  | _, _ => False
theorem step_out (st : Nat) (hs : st = 0 ∨ st = 3) (l : List Tok) (r : List UInt8) (h : r ≠ [39]) : stepP st l r = (refS l r).map fun m => (0, m) := by
  have ha : aft st r = 0 := by unfold aft; rw [if_neg h]; rcases hs with rfl | rfl <;> rfl
  unfold stepP refS plnT
  rw [ha, if_neg (by decide), if_neg (by decide)]
  cases hl : letB r with
  | true => simp
  | false =>
    by_cases hk : kindB r = 0
    · have hc : coinsT (addT l (txtT r)) ≤ 3 := by rw [coins_txt]; decide
      simp [hk, hc]
    · by_cases hc : coinsT (addT l (sgnT (kindB r))) ≤ 3
      · simp [hk, hc]
      · simp [hk, hc]
theorem bind_map (o : Option (List Tok)) (f : Nat × List Tok → Option (Nat × List Tok)) : (o.map fun m => ((0 : Nat), m)).bind f = o.bind fun m => f (0, m) := by cases o <;> rfl
theorem runs_bind (st : Nat) (l : List Tok) (r : List UInt8) (rs : List (List UInt8)) : runsP st l (r :: rs) = (stepP st l r).bind fun q => runsP q.1 q.2 rs := by
  rw [runsP_cons]
  cases stepP st l r <;> rfl
theorem simR_bind {o : Option (List Tok)} {f : List Tok → Option (Nat × List Tok)} {g : List Tok → Option (Bool × List Tok)} (h : ∀ m, simR (f m) (g m)) : simR (o.bind f) (o.bind g) := by
  cases o with
  | none => trivial
  | some m => exact h m
theorem sim_end (b : Bool) (n : Nat) (l : List Tok) (h : b = true ↔ n = 1 ∨ n = 2) : simR (some (n, l)) (some (b, l)) := ⟨rfl, h⟩
theorem sim_runs : ∀ (n : Nat) (rs : List (List UInt8)), rs.length ≤ n → ∀ l, simR (runsP 0 l rs) (refP false l rs) ∧ simR (runsP 2 l rs) (refP true l rs) ∧ (rs.head? ≠ some [39] → simR (runsP 3 l rs) (refP false l rs))
  | _, [], _, l => ⟨sim_end _ _ _ (by decide), sim_end _ _ _ (by decide), fun _ => sim_end _ _ _ (by decide)⟩
  | 0, r :: rs, h, _ => by simp at h
  | n + 1, r :: rs, h, l => by
    simp only [List.length_cons] at h
    by_cases hr : r = [39]
    · subst hr
      match rs, h with
      | [], _ =>
        refine ⟨?_, ?_, fun h => absurd rfl h⟩
        · rw [refP_one false l [] (by simp), runs_bind, step_open]
          exact sim_end _ _ _ (by simp)
        · rw [refP_one true l [] (by simp), runs_bind, step_close]
          exact sim_end _ _ _ (by simp)
      | s :: t, h =>
        simp only [List.length_cons] at h
        by_cases hs : s = [39]
        · subst hs
          have ih := sim_runs n t (by omega) (addT l (txtT [39]))
          refine ⟨?_, ?_, fun h => absurd rfl h⟩
          · rw [refP_two, runs_bind, step_open]
            show simR (runsP 1 l ([39] :: t)) _
            rw [runs_bind, step_two]
            exact ih.1
          · rw [refP_two, runs_bind, step_close]
            show simR (runsP 3 l ([39] :: t)) _
            rw [runs_bind, step_again]
            exact ih.2.1
        · refine ⟨?_, ?_, fun h => absurd rfl h⟩
          · rw [refP_one false l (s :: t) (by simpa using hs), show (!false) = true from rfl, refP_in l s t hs, runs_bind, step_open]
            show simR (runsP 1 l (s :: t)) _
            rw [runs_bind, step_in l 1 (.inl rfl) s hs]
            exact (sim_runs n t (by omega) (addT l (txtT s))).2.1
          · rw [refP_one true l (s :: t) (by simpa using hs), show (!true) = false from rfl, runs_bind, step_close]
            exact (sim_runs n (s :: t) (by simp only [List.length_cons]; omega) l).2.2 (by simpa using hs)
    · have out : ∀ st, st = 0 ∨ st = 3 → simR (runsP st l (r :: rs)) (refP false l (r :: rs)) := fun st hst => by
        rw [refP_out l r rs hr, runs_bind, step_out st hst l r hr, bind_map]
        exact simR_bind fun m => (sim_runs n rs (by omega) m).1
      refine ⟨out 0 (.inl rfl), ?_, fun _ => out 3 (.inr rfl)⟩
      rw [refP_in l r rs hr, runs_bind, step_in l 2 (.inr rfl) r hr]
      exact (sim_runs n rs (by omega) (addT l (txtT r))).2.1
def refR (R : Option (Bool × List Tok)) (V : Bool) : Nat × List Tok := match R with
  | none => (131, [])
  | some q => if V = false then (131, []) else if q.1 = true then (130, []) else if chkT q.2 = 0 then (0, q.2) else (chkT q.2, [])
theorem parseR_ref (l : List UInt8) : parseR l = refR (refP false [] (rns l)) (runesL l).isSome := by
  have h := (sim_runs (rns l).length (rns l) (Nat.le_refl _) []).1
  unfold parseR refR
  cases h1 : runsP 0 [] (rns l) with
  | none =>
    rw [h1] at h
    cases h2 : refP false [] (rns l) with
    | none => rfl
    | some p => rw [h2] at h; exact h.elim
  | some q =>
    rw [h1] at h
    cases h2 : refP false [] (rns l) with
    | none => rw [h2] at h; exact h.elim
    | some p =>
      rw [h2] at h
      obtain ⟨e1, e2⟩ := h
      simp only
      rw [e1]
      have : (runesL l).isNone = true ↔ (runesL l).isSome = false := by cases runesL l <;> simp
      by_cases hv : (runesL l).isSome = false
      · rw [if_pos hv, if_pos (this.2 hv)]
      · rw [if_neg hv, if_neg (fun e => hv (this.1 e))]
        by_cases hp : p.1 = true
        · rw [if_pos hp, if_pos (e2.1 hp)]
        · rw [if_neg hp, if_neg (fun e => hp (e2.2 e))]

end Go.Proofs.YtobcbffakldfcaaDoor

namespace Go.Proofs.YtobcbffakldfcaaDoor
open Go.RowKit

def OwT (w : World) (B : Nat) (v : Value) (F : List Tok) : Prop := w.ownsRow B 32 3 v F.length (cellsT F)

theorem addT_many (F : List Tok) (t : Tok) (h : t.kind = 0) (hm : t.many = 0) (p : List Tok) (a : Tok) (he : F = p ++ [a]) : addT F t = if a.kind = 0 then p ++ [⟨a.kind, a.many, a.text ++ t.text⟩] else p ++ [a] ++ [t] := by
  rw [he, addT_snoc]
  by_cases ha : a.kind = 0
  · rw [if_pos ha, if_pos (by unfold joinT; simp [ha, h])]
    unfold merT
    rw [hm, Int.add_zero]
  · rw [if_neg ha, if_neg (by unfold joinT; simp [ha]; omega)]

set_option maxRecDepth 100000 in
set_option maxHeartbeats 4000000 in
theorem rwith_any {w : World} {B : Nat} {v : Value} {F : List Tok} (c : ByteArray) (h : OwT w B v F) (hB : B ≤ w.heap.size) (hl : F.length ≤ 10000000) (hs : sizeT F + c.size ≤ 10000000) :
    Calls Tryd.prog 37 #[v, .string c] w fun e w' => (∃ v', e = .returned v' ∧ OwT w' B v' (addT F (txtT (bys c)))) ∧ Below B w w' := by
  rcases nil_or_snoc F with rfl | ⟨p, a, rfl⟩
  · rw [addT_nil]
    have OW0 := hide (show w.ownsRow B 32 3 v 0 [] from h)
    obtain ⟨ao, cap, rfl⟩ := own_slice OW0.out
    have BA : Hid (Below w.heap.size w (w.alloc (.cells #[.int .i64 0, .int .i64 0, .string c] 32))) := hide ((Below.refl _ _).alloc (Nat.le_refl _) _)
    have SR : Hid (SrcT (w.alloc (.cells #[.int .i64 0, .int .i64 0, .string c] 32)) (.slice (some ⟨w.heap.size, 0, none⟩) 1 1) [txtT (bys c)]) := hide (SrcT.blk1 (Blk.newAt w w.heap.size rfl _ _))
    have OA := hide (own_below OW0.out BA.out)
    have HBA : Hid (Below B w (w.alloc (.cells #[.int .i64 0, .int .i64 0, .string c] 32))) := hide (BA.out.mono hB)
    have HS2 : Hid (B ≤ (w.alloc (.cells #[.int .i64 0, .int .i64 0, .string c] 32)).heap.size) := hide (Nat.le_trans hB BA.out.size)
    clear h OW0
    go_enter Tryd.func37, Tryd.ntmps37
    go_wp2_with (at_builtin; refine wpT_append rfl _ _ rfl B (.slice ao 0 cap) 0 [] rfl OA.out _ [txtT (bys c)] rfl SR.out 1 rfl _ rfl (by omega) HS2.out ?_; intro uo2 uc2 w2 hown2 hgr2)
    have HB2 := hide (HBA.out.grown hgr2 HS2.out (fun q hq => (World.ownsRow.lt OA.out q hq).1))
    go_ret
    exact ⟨⟨_, rfl, hown2⟩, HB2.out⟩
  · have OW := hide (show w.ownsRow B 32 3 v (p ++ [a]).length (cellsT (p ++ [a])) from h)
    obtain ⟨g, cap, rfl, hg0, hg1⟩ := own_some OW.out (by simp)
    have hnm : (p ++ [a]).length = p.length + 1 := by simp
    have EQ := hide (addT_many (p ++ [a]) (txtT (bys c)) rfl rfl p a rfl)
    have hsz : a.text.size ≤ sizeT (p ++ [a]) := by rw [sizeT_app, sizeT_one]; omega
    rw [hnm] at hl OW
    obtain ⟨m, hm⟩ : ∃ m, m = p.length := ⟨_, rfl⟩
    have HLP := hide hm.symm
    rw [← hm] at hl OW
    rw [hnm, ← hm]
    have XL := cellsT_last p a m HLP.out
    have c0 : w.cell? ⟨g, m * 3, none⟩ = some (.int .i64 a.kind) := (OW.out.cellAt (m * 3) (by omega)).trans XL.1
    have c2 : w.cell? ⟨g, m * 3 + 2, none⟩ = some (.string a.text) := (OW.out.cellAt (m * 3 + 2) (by omega)).trans XL.2.2
    have f2 := OW.out.frozenAt (m * 3 + 2)
    have hcat : ¬ 9223372036854775807 < a.text.size + c.size := by omega
    have hwr : ((m + 1 : Nat) : Int) - 1 = (m : Int) := by omega
    have hm0 : (0 : Int) ≤ (m : Int) := by omega
    have hmn : (m : Int) < ((m + 1 : Nat) : Int) := by omega
    have hpos : (0 : Int) < ((m + 1 : Nat) : Int) := by omega
    clear h hm XL hnm
    by_cases ha : a.kind = 0
    · have ha' : (a.kind == 0) = true := beq_iff_eq.2 ha
      have OS : Hid (OwT (w.setCell ⟨g, m * 3 + 2, none⟩ (.string (a.text ++ c))) B (.slice (some ⟨g, 0, none⟩) (m + 1) cap) (addT (p ++ [a]) (txtT (bys c)))) := hide (by
        have q := (OW.out.stored (m * 3 + 2) (.string (a.text ++ c))).1
        rw [EQ.out, if_pos ha]
        unfold OwT
        have e1 : (p ++ [(⟨a.kind, a.many, a.text ++ (txtT (bys c)).text⟩ : Tok)]).length = m + 1 := by simp [HLP.out]
        rw [e1]
        have e2 : (cellsT (p ++ [a])).set (m * 3 + 2) (.string (a.text ++ c)) = cellsT (p ++ [(⟨a.kind, a.many, a.text ++ (txtT (bys c)).text⟩ : Tok)]) := by
          rw [cellsT_snoc, cellsT_snoc]
          have hl := cellsT_len p
          rw [HLP.out] at hl
          rw [← hl]
          simp
          rfl
        rw [← e2]
        exact q)
      have BS : Hid (Below B w (w.setCell ⟨g, m * 3 + 2, none⟩ (.string (a.text ++ c)))) := hide ((Below.refl B w).setCell (p := ⟨g, m * 3 + 2, none⟩) hg0 _)
      clear ha EQ OW
      go_enter Tryd.func37, Tryd.ntmps37
      go_wp2
      go_ret
      exact ⟨⟨_, rfl, OS.out⟩, BS.out⟩
    · have ha' : (a.kind == 0) = false := beq_eq_false_iff_ne.2 ha
      rw [EQ.out, if_neg ha]
      have BA : Hid (Below w.heap.size w (w.alloc (.cells #[.int .i64 0, .int .i64 0, .string c] 32))) := hide ((Below.refl _ _).alloc (Nat.le_refl _) _)
      have SR : Hid (SrcT (w.alloc (.cells #[.int .i64 0, .int .i64 0, .string c] 32)) (.slice (some ⟨w.heap.size, 0, none⟩) 1 1) [txtT (bys c)]) := hide (SrcT.blk1 (Blk.newAt w w.heap.size rfl _ _))
      have OA := hide (own_below OW.out BA.out)
      have HBA : Hid (Below B w (w.alloc (.cells #[.int .i64 0, .int .i64 0, .string c] 32))) := hide (BA.out.mono hB)
      have HS2 : Hid (B ≤ (w.alloc (.cells #[.int .i64 0, .int .i64 0, .string c] 32)).heap.size) := hide (Nat.le_trans hB BA.out.size)
      have EX : Hid (cellsT (p ++ [a]) ++ cellsT [txtT (bys c)] = cellsT (p ++ [a] ++ [txtT (bys c)])) := hide (cellsT_app _ _).symm
      have EL : Hid ((p ++ [a] ++ [txtT (bys c)]).length = m + 1 + 1) := hide (by simp [HLP.out])
      clear ha EQ OW
      go_enter Tryd.func37, Tryd.ntmps37
      go_wp2_with (at_builtin; refine wpT_append rfl _ _ rfl B (.slice (some ⟨g, 0, none⟩) (m + 1) cap) (m + 1) _ rfl OA.out _ [txtT (bys c)] rfl SR.out (m + 1 + 1) rfl _ EX.out (by omega) HS2.out ?_; intro uo2 uc2 w2 hown2 hgr2)
      have HB2 := hide (HBA.out.grown hgr2 HS2.out (fun q hq => (World.ownsRow.lt OA.out q hq).1))
      go_ret
      exact ⟨⟨_, rfl, by unfold OwT; rw [EL.out]; exact hown2⟩, HB2.out⟩

end Go.Proofs.YtobcbffakldfcaaDoor

namespace Go.Proofs.YtobcbffakldfcaaDoor
open Go.RowKit

set_option maxRecDepth 100000 in
set_option maxHeartbeats 4000000 in
theorem rsigned_app {w : World} {B : Nat} {v : Value} {F : List Tok} (kd : Nat) (hk : kd = 1 ∨ kd = 2 ∨ kd = 3 ∨ kd = 4 ∨ kd = 5) (h : OwT w B v F) (hB : B ≤ w.heap.size) (hl : F.length ≤ 10000000) (hj : kd = 5 → F = [] ∨ ∃ p a, F = p ++ [a] ∧ ¬ a.kind = 5) :
    Calls Tryd.prog 40 #[v, .int .i64 (kd : Int)] w fun e w' => (∃ v', e = .returned (.tuple #[v', .bool true]) ∧ OwT w' B v' (F ++ [sgnT kd])) ∧ Below B w w' := by
  have OW := hide (show w.ownsRow B 32 3 v F.length (cellsT F) from h)
  obtain ⟨ao, cap, rfl⟩ := own_slice OW.out
  have hlast : Hid (kd = 5 → F.length = 0 ∨ ∃ m g z, F.length = m + 1 ∧ ao = some ⟨g, 0, none⟩ ∧ w.cell? ⟨g, m * 3, none⟩ = some (.int .i64 z) ∧ ¬ z = 5) := hide (fun h5 => by
    rcases hj h5 with rfl | ⟨p, a, rfl, ha⟩
    · exact .inl rfl
    · obtain ⟨g, c2, he, _, _⟩ := own_some OW.out (by simp)
      simp only [Value.slice.injEq] at he
      obtain ⟨rfl, _, rfl⟩ := he
      exact .inr ⟨p.length, g, a.kind, by simp, rfl, (OW.out.cellAt (p.length * 3) (by simp)).trans (cellsT_last p a p.length rfl).1, ha⟩)
  have EX : Hid (cellsT F ++ cellsT [sgnT kd] = cellsT (F ++ [sgnT kd])) := hide (cellsT_app _ _).symm
  have EL : Hid ((F ++ [sgnT kd]).length = F.length + 1) := hide (by simp)
  unfold OwT
  rw [EL.out]
  obtain ⟨n, hn⟩ : ∃ n, n = F.length := ⟨_, rfl⟩
  rw [← hn] at OW hlast hl ⊢
  have BA : Hid (∀ o o', Below w.heap.size w ((w.alloc o).alloc o')) := hide (fun o o' => ((Below.refl _ _).alloc (Nat.le_refl _) _).alloc ((Below.refl _ _).alloc (Nat.le_refl _) _).size _)
  clear h hj EL hn
  by_cases h5 : kd = 5
  · subst h5
    have SR : Hid (SrcT ((w.alloc (.cells #[.int .i64 5, .int .i64 1, .string ⟨#[]⟩] 32)).alloc (.cells #[.int .i64 5, .int .i64 1, .string ⟨#[]⟩] 32)) (.slice (some ⟨w.heap.size + 1, 0, none⟩) 1 1) [sgnT 5]) := hide (SrcT.blk1 (Blk.newAt _ _ (by simp) _ _))
    have OA := hide (own_below OW.out (BA.out (.cells #[.int .i64 5, .int .i64 1, .string ⟨#[]⟩] 32) (.cells #[.int .i64 5, .int .i64 1, .string ⟨#[]⟩] 32)))
    have HBA := hide (BA.out (.cells #[.int .i64 5, .int .i64 1, .string ⟨#[]⟩] 32) (.cells #[.int .i64 5, .int .i64 1, .string ⟨#[]⟩] 32))
    have HS2 : Hid (B ≤ ((w.alloc (.cells #[.int .i64 5, .int .i64 1, .string ⟨#[]⟩] 32)).alloc (.cells #[.int .i64 5, .int .i64 1, .string ⟨#[]⟩] 32)).heap.size) := hide (Nat.le_trans hB HBA.out.size)
    rcases hlast.out rfl with hn0 | ⟨m, g, z, rfl, rfl, cz, hz⟩
    · subst hn0
      clear hlast BA
      go_enter Tryd.func40, Tryd.ntmps40
      rw [show ((5 : Nat) : Int) = 5 from rfl]
      go_wp2_with (at_builtin; refine wpT_append rfl _ _ rfl B (.slice ao 0 cap) 0 (cellsT F) rfl OA.out _ [sgnT 5] rfl SR.out 1 rfl _ EX.out (by omega) HS2.out ?_; intro uo2 uc2 w2 hown2 hgr2)
      have HB2 := hide ((HBA.out.mono hB).grown hgr2 HS2.out (fun q hq => (World.ownsRow.lt OA.out q hq).1))
      refine bodyPost_ret (results_tmp2 rfl _ _ _) rfl ?_
      exact ⟨⟨_, rfl, hown2⟩, HB2.out⟩
    · have hz' : (z == 5) = false := beq_eq_false_iff_ne.2 hz
      have hwr : ((m + 1 : Nat) : Int) - 1 = (m : Int) := by omega
      have hm0 : (0 : Int) ≤ (m : Int) := by omega
      have hmn : (m : Int) < ((m + 1 : Nat) : Int) := by omega
      have hpos : (0 : Int) < ((m + 1 : Nat) : Int) := by omega
      clear hlast BA hz
      go_enter Tryd.func40, Tryd.ntmps40
      rw [show ((5 : Nat) : Int) = 5 from rfl]
      go_wp2_with (at_builtin; refine wpT_append rfl _ _ rfl B (.slice (some ⟨g, 0, none⟩) (m + 1) cap) (m + 1) (cellsT F) rfl OA.out _ [sgnT 5] rfl SR.out (m + 1 + 1) rfl _ EX.out (by omega) HS2.out ?_; intro uo2 uc2 w2 hown2 hgr2)
      have HB2 := hide ((HBA.out.mono hB).grown hgr2 HS2.out (fun q hq => (World.ownsRow.lt OA.out q hq).1))
      refine bodyPost_ret (results_tmp2 rfl _ _ _) rfl ?_
      exact ⟨⟨_, rfl, hown2⟩, HB2.out⟩
  · have hk4 : kd = 1 ∨ kd = 2 ∨ kd = 3 ∨ kd = 4 := by omega
    have ET : Hid (sgnT kd = ⟨(kd : Int), 0, ⟨#[]⟩⟩) := hide (by unfold sgnT; rw [if_neg h5])
    have SR : Hid (SrcT ((w.alloc (.cells #[.int .i64 (kd : Int), .int .i64 0, .string ⟨#[]⟩] 32)).alloc (.cells #[.int .i64 (kd : Int), .int .i64 0, .string ⟨#[]⟩] 32)) (.slice (some ⟨w.heap.size + 1, 0, none⟩) 1 1) [sgnT kd]) := hide (by rw [ET.out]; exact SrcT.blk1 (Blk.newAt _ _ (by simp) _ _))
    have OA := hide (own_below OW.out (BA.out (.cells #[.int .i64 (kd : Int), .int .i64 0, .string ⟨#[]⟩] 32) (.cells #[.int .i64 (kd : Int), .int .i64 0, .string ⟨#[]⟩] 32)))
    have HBA := hide (BA.out (.cells #[.int .i64 (kd : Int), .int .i64 0, .string ⟨#[]⟩] 32) (.cells #[.int .i64 (kd : Int), .int .i64 0, .string ⟨#[]⟩] 32))
    have HS2 : Hid (B ≤ ((w.alloc (.cells #[.int .i64 (kd : Int), .int .i64 0, .string ⟨#[]⟩] 32)).alloc (.cells #[.int .i64 (kd : Int), .int .i64 0, .string ⟨#[]⟩] 32)).heap.size) := hide (Nat.le_trans hB HBA.out.size)
    have hk' : ((kd : Int) == 5) = false := beq_eq_false_iff_ne.2 (by omega)
    clear hlast BA hk hk4 h5 ET
    go_enter Tryd.func40, Tryd.ntmps40
    go_wp2_with (at_builtin; refine wpT_append rfl _ _ rfl B (.slice ao n cap) n (cellsT F) rfl OA.out _ [sgnT kd] rfl SR.out (n + 1) rfl _ EX.out (by omega) HS2.out ?_; intro uo2 uc2 w2 hown2 hgr2)
    have HB2 := hide ((HBA.out.mono hB).grown hgr2 HS2.out (fun q hq => (World.ownsRow.lt OA.out q hq).1))
    refine bodyPost_ret (results_tmp2 rfl _ _ _) rfl ?_
    exact ⟨⟨_, rfl, hown2⟩, HB2.out⟩

set_option maxRecDepth 100000 in
set_option maxHeartbeats 4000000 in
theorem rsigned_mer {w : World} {B : Nat} {v : Value} (p : List Tok) (a : Tok) (h : OwT w B v (p ++ [a])) (hl : p.length ≤ 10000000) (ha : a.kind = 5) (hm0 : 0 ≤ a.many) (hm3 : a.many ≤ 100) :
    Calls Tryd.prog 40 #[v, .int .i64 5] w fun e w' => (∃ v', e = .returned (.tuple #[v', .bool (decide (a.many + 1 ≤ 3))]) ∧ OwT w' B v' (p ++ [⟨a.kind, a.many + 1, a.text⟩])) ∧ Below B w w' := by
  have OW := hide (show w.ownsRow B 32 3 v (p ++ [a]).length (cellsT (p ++ [a])) from h)
  obtain ⟨g, cap, rfl, hg0, hg1⟩ := own_some OW.out (by simp)
  have hnm : (p ++ [a]).length = p.length + 1 := by simp
  rw [hnm] at OW
  obtain ⟨m, hm⟩ : ∃ m, m = p.length := ⟨_, rfl⟩
  have HLP := hide hm.symm
  rw [← hm] at hl OW
  rw [hnm, ← hm]
  have XL := cellsT_last p a m HLP.out
  have c0 : w.cell? ⟨g, m * 3, none⟩ = some (.int .i64 a.kind) := (OW.out.cellAt (m * 3) (by omega)).trans XL.1
  have c1 : w.cell? ⟨g, m * 3 + 1, none⟩ = some (.int .i64 a.many) := (OW.out.cellAt (m * 3 + 1) (by omega)).trans XL.2.1
  have f1 := OW.out.frozenAt (m * 3 + 1)
  have hwr : ((m + 1 : Nat) : Int) - 1 = (m : Int) := by omega
  have hm0' : (0 : Int) ≤ (m : Int) := by omega
  have hmn : (m : Int) < ((m + 1 : Nat) : Int) := by omega
  have hpos : (0 : Int) < ((m + 1 : Nat) : Int) := by omega
  have OS : Hid (OwT (w.setCell ⟨g, m * 3 + 1, none⟩ (.int .i64 (a.many + 1))) B (.slice (some ⟨g, 0, none⟩) (m + 1) cap) (p ++ [⟨a.kind, a.many + 1, a.text⟩])) := hide (by
    have q := (OW.out.stored (m * 3 + 1) (.int .i64 (a.many + 1))).1
    unfold OwT
    have e1 : (p ++ [(⟨a.kind, a.many + 1, a.text⟩ : Tok)]).length = m + 1 := by simp [HLP.out]
    rw [e1]
    have e2 : (cellsT (p ++ [a])).set (m * 3 + 1) (.int .i64 (a.many + 1)) = cellsT (p ++ [(⟨a.kind, a.many + 1, a.text⟩ : Tok)]) := by
      rw [cellsT_snoc, cellsT_snoc]
      have hl := cellsT_len p
      rw [HLP.out] at hl
      rw [← hl]
      simp
    rw [← e2]
    exact q)
  have d1 : (w.setCell ⟨g, m * 3 + 1, none⟩ (.int .i64 (a.many + 1))).cell? ⟨g, m * 3 + 1, none⟩ = some (.int .i64 (a.many + 1)) := World.cell?_setCell_same _ _ _ c1
  have BS : Hid (Below B w (w.setCell ⟨g, m * 3 + 1, none⟩ (.int .i64 (a.many + 1)))) := hide ((Below.refl B w).setCell (p := ⟨g, m * 3 + 1, none⟩) hg0 _)
  rw [ha] at c0
  clear h hm XL hnm ha OW
  obtain ⟨W, hW⟩ : ∃ W, W = w.setCell ⟨g, m * 3 + 1, none⟩ (.int .i64 (a.many + 1)) := ⟨_, rfl⟩
  rw [← hW] at OS d1 BS
  have HW := hide hW.symm
  clear hW
  go_enter Tryd.func40, Tryd.ntmps40
  go_wp2_with (simp only [HW.out])
  go_region
  go_wp2
  refine bodyPost_ret (results_tmp2 rfl _ _ _) rfl ?_
  exact ⟨⟨_, rfl, own_below OS.out (Below.refl _ _).drew⟩, BS.out.drew⟩

end Go.Proofs.YtobcbffakldfcaaDoor

namespace Go.Proofs.YtobcbffakldfcaaDoor
open Go.RowKit

theorem app_nil (x : ByteArray) : x ++ ⟨#[]⟩ = x := by
  have : bys (x ++ ⟨#[]⟩) = bys x := by rw [bys_append]; exact List.append_nil _
  rw [← mkB_bys (x ++ ⟨#[]⟩), this, mkB_bys]
theorem rsigned_any {w : World} {B : Nat} {v : Value} {F : List Tok} (kd : Nat) (hk : kd = 1 ∨ kd = 2 ∨ kd = 3 ∨ kd = 4 ∨ kd = 5) (h : OwT w B v F) (hB : B ≤ w.heap.size) (hl : F.length ≤ 10000000) (hg : badT none F = false) :
    Calls Tryd.prog 40 #[v, .int .i64 (kd : Int)] w fun e w' => (∃ v', e = .returned (.tuple #[v', .bool (decide (coinsT (addT F (sgnT kd)) ≤ 3))]) ∧ OwT w' B v' (addT F (sgnT kd))) ∧ Below B w w' := by
  have hsk : (sgnT kd).kind = (kd : Int) := rfl
  by_cases hj : ∃ p a, F = p ++ [a] ∧ joinT a (sgnT kd) = true
  · obtain ⟨p, a, rfl, hj⟩ := hj
    have hj' := hj
    unfold joinT at hj'
    simp only [Bool.and_eq_true, Bool.or_eq_true, decide_eq_true_eq] at hj'
    rw [hsk] at hj'
    have h5 : kd = 5 := by omega
    subst h5
    have ha : a.kind = 5 := by omega
    rw [badT_snoc] at hg
    simp only [Bool.or_eq_false_iff, Bool.not_eq_false'] at hg
    have hm := may_many hg.2.1
    rw [addT_snoc, if_pos hj, coinsT_snoc, if_pos (show (merT a (sgnT 5)).kind = 5 from ha)]
    have e : merT a (sgnT 5) = ⟨a.kind, a.many + 1, a.text⟩ := by
      unfold merT
      rw [show (sgnT 5).text = ⟨#[]⟩ from rfl, app_nil]
      rfl
    rw [e]
    exact rsigned_mer p a h (by have : (p ++ [a]).length = p.length + 1 := by simp
                                omega) ha hm.1 (by omega)
  · have happ : addT F (sgnT kd) = F ++ [sgnT kd] := by
      rcases nil_or_snoc F with rfl | ⟨p, a, rfl⟩
      · rfl
      · rw [addT_snoc, if_neg (fun e => hj ⟨p, a, rfl, e⟩)]
    have hc : coinsT (addT F (sgnT kd)) ≤ 3 := by
      rw [happ, coinsT_snoc]
      split
      · show (if kd = 5 then (1 : Int) else 0) ≤ 3
        split <;> omega
      · omega
    rw [decide_eq_true hc, happ]
    refine rsigned_app kd hk h hB hl (fun h5 => ?_)
    rcases nil_or_snoc F with rfl | ⟨p, a, rfl⟩
    · exact .inl rfl
    · refine .inr ⟨p, a, rfl, fun ha => hj ⟨p, a, rfl, ?_⟩⟩
      unfold joinT
      rw [hsk, ha, h5]
      rfl

structure RdI (s : ByteArray) (RS : List (List UInt8)) (w1 wr : World) (i : Nat) (v : Value) (F : List Tok) : Prop where
  own : OwT wr w1.heap.size v F
  base : w1.heap.size ≤ wr.heap.size
  low : Below w1.heap.size w1 wr
  good : badT none F = false
  len : F.length ≤ i
  size : sizeT F + (RS.drop i).flatten.length ≤ s.size
theorem RdI.next {s : ByteArray} {RS : List (List UInt8)} {w1 wr : World} {i j : Nat} {v : Value} {F : List Tok} (h : RdI s RS w1 wr i v F) (t : Tok) (hi : i < j) (ht : mayTok t = true) (hc : coinsT (addT F t) ≤ 3) (hs : t.text.size + (RS.drop j).flatten.length ≤ (RS.drop i).flatten.length) {w5 : World} {v5 : Value} (ho : OwT w5 w1.heap.size v5 (addT F t)) (hb : Below w1.heap.size wr w5) : RdI s RS w1 w5 j v5 (addT F t) := by
  refine ⟨ho, Nat.le_trans h.base hb.size, h.low.trans hb, addT_good F t h.good ht hc, ?_, ?_⟩
  · have := addT_len F t
    have := h.len
    omega
  · have := addT_size F t
    have := h.size
    omega
theorem RdI.skip {s : ByteArray} {RS : List (List UInt8)} {w1 wr : World} {i : Nat} {v : Value} {F : List Tok} (h : RdI s RS w1 wr i v F) (hi : i < RS.length) : RdI s RS w1 wr (i + 1) v F := by
  refine ⟨h.own, h.base, h.low, h.good, Nat.le_succ_of_le h.len, ?_⟩
  have := h.size
  rw [rN_drop hi, List.flatten_cons, List.length_append] at this
  omega
theorem may_sgn {k : Nat} (h1 : 1 ≤ k) (h5 : k ≤ 5) : mayTok (sgnT k) = true := by
  have : k = 1 ∨ k = 2 ∨ k = 3 ∨ k = 4 ∨ k = 5 := by omega
  rcases this with rfl | rfl | rfl | rfl | rfl <;> decide
theorem kindB_le (r : List UInt8) : kindB r ≤ 5 := by
  unfold kindB
  repeat' split
  all_goals omega

set_option maxRecDepth 100000 in
set_option maxHeartbeats 8000000 in
theorem rParse_any (s : ByteArray) (w : World) (hs : s.size ≤ 2000000) :
    Calls Tryd.prog 20 #[.string s] w fun e w' => ∃ v, e = .returned (.tuple #[v, .int .i64 ((parseR (bys s)).1 : Int)]) ∧ ParA w w' v (parseR (bys s)).2 ∧ Below w.heap.size w w' := by
  have H1 := hide (rRns_any s w (by omega))
  have hrl : (rns (bys s)).flatten.length ≤ s.size := by rw [← bys_len]; exact rns_len _ _ (Nat.le_refl _)
  have hnl : (rns (bys s)).length ≤ 2000000 := Nat.le_trans (flat_ge (rns_isR _ _ (Nat.le_refl _))) (by omega)
  have IR : Hid (∀ r ∈ rns (bys s), IsR r) := hide (rns_isR _ _ (Nat.le_refl _))
  obtain ⟨A, hA⟩ : ∃ A, A = parseR (bys s) := ⟨_, rfl⟩
  rw [← hA]
  rw [parseR_ref] at hA
  obtain ⟨RS, hRS⟩ : ∃ RS, RS = rns (bys s) := ⟨_, rfl⟩
  rw [← hRS] at H1 hrl hnl IR hA
  obtain ⟨VV, hVV⟩ : ∃ VV, VV = (runesL (bys s)).isSome := ⟨_, rfl⟩
  rw [← hVV] at H1 hA
  obtain ⟨RR, hRR⟩ : ∃ RR, RR = refP false [] RS := ⟨_, rfl⟩
  rw [← hRR] at hA
  have EA := hide hA
  have HRR := hide hRR
  clear hRS hVV hRR hA
  go_enter Tryd.func20, Tryd.ntmps20
  go_wp2_with fail
  refine H1.out.mono ?_
  rintro e w1 ⟨⟨v, rfl, hown⟩, hb1⟩
  have B1 := hide hb1
  obtain ⟨ao, cap, rfl⟩ := ownS_slice hown
  have MEM0 : Hid (RS.length ≠ 0 → ∃ g, ao = some ⟨g, 0, none⟩ ∧ RS.length ≤ cap ∧ ∀ k, k < RS.length → w1.cell? ⟨g, k, none⟩ = some (.string (mkB (rN RS k)))) := hide (fun hn => by
    obtain ⟨g, c2, he, hc⟩ := ownS_some hown hn
    simp only [Value.slice.injEq] at he
    obtain ⟨rfl, _, rfl⟩ := he
    exact ⟨g, rfl, hc, fun k hk => (hown.cellAt k (by omega)).trans (cellsR_at RS k _ (rN_get hk))⟩)
  have BT : Hid (∀ X, Below w1.heap.size w1 X → Below w.heap.size w X) := hide (fun X hX => B1.out.trans (hX.mono B1.out.size))
  obtain ⟨n, hn⟩ : ∃ n, n = RS.length := ⟨_, rfl⟩
  have HN := hide hn
  rw [← hn] at hnl MEM0 ⊢
  have IN0 : Hid (RdI s RS w1 (w1.alloc (.cells #[] 32)) 0 (.slice (some ⟨w1.heap.size, 0, none⟩) 0 0) []) := hide ⟨World.ownsRow_made w1 #[] 0 (Nat.le_refl _) (by decide) rfl, by simp, (Below.refl _ _).alloc (Nat.le_refl _) _, rfl, Nat.le_refl _, by rw [List.drop_zero]; simpa [sizeT] using hrl⟩
  clear H1 hb1 hown hn hrl
  go_wp2
  go_loopw [6, 7, 8] (fun x q z wr => ∃ (i : Nat) (b : Bool) (v : Value) (F : List Tok), i ≤ n ∧ v = x ∧ q = .bool b ∧ z = .int .i64 (i : Int) ∧ Hid (refP b F (RS.drop i) = RR) ∧ Hid (RdI s RS w1 wr i v F)) (fun _ _ z _ => n - (intOf z).toNat)
  case atStart => exact ⟨0, false, _, [], Nat.zero_le _, rfl, rfl, rfl, hide (by rw [HRR.out, List.drop_zero]), IN0⟩
  case round =>
    obtain ⟨i, b, v, F, hi, rfl, rfl, rfl, HR, HI⟩ := hrel
    clear IN0
    by_cases hlt : i < n
    · have hlt' : (i : Int) < (n : Int) := by omega
      have hin : i < RS.length := by rw [← HN.out]; exact hlt
      obtain ⟨g, rfl, hcap, hmem⟩ := MEM0.out (by omega)
      have MEM : Hid (∀ X, Below w1.heap.size w1 X → ∀ k, k < n → X.cell? ⟨g, k, none⟩ = some (.string (mkB (rN RS k)))) := hide (fun X hX k hk => cell_on hX (hmem k hk))
      have cI := MEM.out wr HI.out.low i hlt
      have RI := hide (IR.out _ (List.mem_of_getElem? (rN_get hin)))
      have hsz := HI.out.size
      have hln := HI.out.len
      have DR := hide (rN_drop hin)
      have hfl : (RS.drop i).flatten.length = (rN RS i).length + (RS.drop (i + 1)).flatten.length := by rw [rN_drop hin, List.flatten_cons, List.length_append]
      rw [hfl] at hsz
      clear hmem MEM0
      obtain ⟨r, hr⟩ : ∃ r, r = rN RS i := ⟨_, rfl⟩
      rw [← hr] at cI RI DR hsz hfl
      have ee := eqTL (mkB r) [39]
      rw [bys_mkB] at ee
      have hrs := size_mkB r
      clear hr
      by_cases h39 : r = [39]
      · rw [decide_eq_true h39] at ee
        by_cases hi1 : i + 1 < n
        · have hi1' : (i : Int) + 1 < (n : Int) := by omega
          have hin1 : i + 1 < RS.length := by rw [← HN.out]; exact hi1
          have cJ := MEM.out wr HI.out.low (i + 1) hi1
          have DR1 := hide (rN_drop hin1)
          have hfl1 : (RS.drop (i + 1)).flatten.length = (rN RS (i + 1)).length + (RS.drop (i + 1 + 1)).flatten.length := by rw [rN_drop hin1, List.flatten_cons, List.length_append]
          obtain ⟨r1, hr1⟩ : ∃ r1, r1 = rN RS (i + 1) := ⟨_, rfl⟩
          rw [← hr1] at cJ DR1 hfl1
          have ee1 := eqTL (mkB r1) [39]
          rw [bys_mkB] at ee1
          clear hr1
          by_cases h391 : r1 = [39]
          · rw [decide_eq_true h391] at ee1
            have NR : Hid (refP b (addT F (txtT [39])) (RS.drop (i + 1 + 1)) = RR) := hide (by rw [← HR.out, DR.out, DR1.out, h39, h391, refP_two])
            have NXT : Hid (∀ w5 v5, OwT w5 w1.heap.size v5 (addT F (txtT [39])) → Below w1.heap.size wr w5 → RdI s RS w1 w5 (i + 1 + 1) v5 (addT F (txtT [39]))) := hide (fun w5 v5 h1 h2 => HI.out.next (txtT [39]) (by omega) (may_txt isR_apo) (by rw [coins_txt]; decide) (by
              show (mkB [39]).size + _ ≤ _
              rw [size_mkB, hfl, hfl1, h39, h391]
              simp only [List.length_cons, List.length_nil]
              omega) h1 h2)
            have h1s : r.length = 1 := by rw [h39]; rfl
            have HC := hide (rwith_any ⟨#[39]⟩ HI.out.own HI.out.base (by omega) (by show _ + 1 ≤ _; omega))
            rw [show bys ⟨#[39]⟩ = [39] from rfl] at HC
            clear HI HR DR DR1 hfl hfl1 h39 h391 hsz RI h1s hrs
            go_wp2_with fail
            refine HC.out.mono ?_
            rintro e w5 ⟨⟨v5, rfl, ho5⟩, hb5⟩
            have NI := hide (NXT.out w5 v5 ho5 hb5)
            clear ho5 hb5 HC NXT
            go_wp2
            exact ⟨⟨i + 1 + 1, b, v5, _, by omega, rfl, rfl, by go_num, NR, NI⟩, by simp [intOf]; omega⟩
          · rw [decide_eq_false h391] at ee1
            have NR : Hid (refP (!b) F (RS.drop (i + 1)) = RR) := hide (by rw [← HR.out, DR.out, h39, refP_one b F _ (by rw [DR1.out]; simpa using h391)])
            have NI := hide (HI.out.skip hin)
            clear HI HR DR DR1 hfl hfl1 h39 h391 hsz RI hrs hln
            go_wp2
            exact ⟨⟨i + 1, !b, v, F, by omega, rfl, rfl, by go_num, NR, NI⟩, by simp [intOf]; omega⟩
        · have hi1' : decide ((i : Int) + 1 < (n : Int)) = false := decide_eq_false (by omega)
          have hi2' : ¬ (i : Int) + 1 < (n : Int) := by omega
          have NR : Hid (refP (!b) F (RS.drop (i + 1)) = RR) := hide (by rw [← HR.out, DR.out, h39, refP_one b F _ (by rw [List.drop_eq_nil_of_le (by rw [← HN.out]; omega)]; simp)])
          have NI := hide (HI.out.skip hin)
          clear HI HR DR hfl h39 hsz RI hrs hln
          go_wp2
          exact ⟨⟨i + 1, !b, v, F, by omega, rfl, rfl, by go_num, NR, NI⟩, by simp [intOf]; omega⟩
      · rw [decide_eq_false h39] at ee
        have NXT : Hid (∀ w5 v5, OwT w5 w1.heap.size v5 (addT F (txtT r)) → Below w1.heap.size wr w5 → RdI s RS w1 w5 (i + 1) v5 (addT F (txtT r))) := hide (fun w5 v5 h1 h2 => HI.out.next (txtT r) (by omega) (may_txt RI.out) (by rw [coins_txt]; decide) (by
          show (mkB r).size + _ ≤ _
          rw [size_mkB, hfl]
          exact Nat.le_refl _) h1 h2)
        have HC := hide (rwith_any (mkB r) HI.out.own HI.out.base (by omega) (by rw [size_mkB]; omega))
        rw [bys_mkB] at HC
        cases b
        · have HSg := hide (rSign_any (mkB r) wr)
          have HLt := hide (rLetter_any (mkB r) wr)
          rw [bys_mkB] at HSg HLt
          have NR0 : Hid ((refS F r).bind (fun m => refP false m (RS.drop (i + 1))) = RR) := hide (by rw [← HR.out, DR.out, refP_out F r _ h39])
          have hk5 := kindB_le r
          have hwx := HI.out.low
          have HWX := hide hwx
          by_cases hk : kindB r = 0
          · rw [hk, show ((0 : Nat) : Int) = 0 from rfl] at HSg
            cases hlb : letB r with
            | false =>
              rw [hlb] at HLt
              have NR : Hid (refP false (addT F (txtT r)) (RS.drop (i + 1)) = RR) := hide (by
                rw [← NR0.out]
                unfold refS
                rw [if_pos ⟨hk, hlb⟩]
                rfl)
              clear HI HR DR hfl h39 hsz RI hrs NR0 hlb hk hk5 hwx HWX hln
              go_wp2_with fail
              refine HSg.out.mono ?_
              rintro e w3 ⟨rfl, rfl⟩
              go_wp2_with fail
              refine HLt.out.mono ?_
              rintro e w3 ⟨rfl, rfl⟩
              clear HSg HLt
              go_wp2_with fail
              refine HC.out.mono ?_
              rintro e w5 ⟨⟨v5, rfl, ho5⟩, hb5⟩
              have NI := hide (NXT.out w5 v5 ho5 hb5)
              clear ho5 hb5 HC NXT
              go_wp2
              exact ⟨⟨i + 1, false, v5, _, by omega, rfl, rfl, by go_num, NR, NI⟩, by simp [intOf]; omega⟩
            | true =>
              rw [hlb] at HLt
              have EE : Hid (A = (131, [])) := hide (by
                rw [EA.out, ← NR0.out]
                unfold refS
                rw [if_neg (by rw [hlb]; simp), if_pos hlb]
                rfl)
              clear HI HR DR hfl h39 hsz RI hrs NR0 hlb hk hk5 hwx NXT HC hln EA
              go_wp2_with fail
              refine HSg.out.mono ?_
              rintro e w3 ⟨rfl, rfl⟩
              go_wp2_with fail
              refine HLt.out.mono ?_
              rintro e w3 ⟨rfl, rfl⟩
              clear HSg
              go_wp2_with fail
              refine HLt.out.mono ?_
              rintro e w3 ⟨rfl, rfl⟩
              clear HLt
              go_wp2
              refine bodyPost_ret (results_tmp2 rfl _ _ _) rfl ?_
              exact ⟨_, by rw [EE.out]; rfl, by rw [EE.out]; exact World.ownsRow_nil _ _ _ _, BT.out _ HWX.out⟩
          · have hkI : ((kindB r : Int) == 0) = false := beq_eq_false_iff_ne.2 (by omega)
            cases hlb : letB r with
            | true =>
              rw [hlb] at HLt
              have EE : Hid (A = (131, [])) := hide (by
                rw [EA.out, ← NR0.out]
                unfold refS
                rw [if_neg (fun e => hk e.1), if_pos hlb]
                rfl)
              obtain ⟨kd, hkd⟩ : ∃ kd, kd = kindB r := ⟨_, rfl⟩
              rw [← hkd] at HSg hkI
              clear HI HR DR hfl h39 hsz RI hrs NR0 hlb hk hk5 hwx NXT HC hln EA hkd
              go_wp2_with fail
              refine HSg.out.mono ?_
              rintro e w3 ⟨rfl, rfl⟩
              clear HSg
              go_wp2_with fail
              refine HLt.out.mono ?_
              rintro e w3 ⟨rfl, rfl⟩
              clear HLt
              go_wp2
              refine bodyPost_ret (results_tmp2 rfl _ _ _) rfl ?_
              exact ⟨_, by rw [EE.out]; rfl, by rw [EE.out]; exact World.ownsRow_nil _ _ _ _, BT.out _ HWX.out⟩
            | false =>
              rw [hlb] at HLt
              have HG := hide (rsigned_any (kindB r) (by omega) HI.out.own HI.out.base (by omega) HI.out.good)
              have NR1 : Hid ((if coinsT (addT F (sgnT (kindB r))) ≤ 3 then refP false (addT F (sgnT (kindB r))) (RS.drop (i + 1)) else none) = RR) := hide (by
                have hS : refS F r = if coinsT (addT F (sgnT (kindB r))) ≤ 3 then some (addT F (sgnT (kindB r))) else none := by
                  unfold refS
                  rw [if_neg (fun e => hk e.1), if_neg (by rw [hlb]; decide)]
                rw [← NR0.out, hS]
                split <;> rfl)
              have NX2 : Hid (coinsT (addT F (sgnT (kindB r))) ≤ 3 → ∀ w5 v5, OwT w5 w1.heap.size v5 (addT F (sgnT (kindB r))) → Below w1.heap.size wr w5 → RdI s RS w1 w5 (i + 1) v5 (addT F (sgnT (kindB r)))) := hide (fun hc w5 v5 h1 h2 => HI.out.next (sgnT (kindB r)) (by omega) (may_sgn (by omega) hk5) hc (by
                show 0 + _ ≤ _
                rw [hfl]
                omega) h1 h2)
              obtain ⟨kd, hkd⟩ : ∃ kd, kd = kindB r := ⟨_, rfl⟩
              rw [← hkd] at HSg hkI HG NR1 NX2
              clear HI HR DR hfl h39 hsz RI hrs NR0 hlb hk hk5 NXT HC hln hkd
              go_wp2_with fail
              refine HSg.out.mono ?_
              rintro e w3 ⟨rfl, rfl⟩
              go_wp2_with fail
              refine HLt.out.mono ?_
              rintro e w3 ⟨rfl, rfl⟩
              clear HLt
              go_wp2_with fail
              refine HSg.out.mono ?_
              rintro e w3 ⟨rfl, rfl⟩
              clear HSg
              by_cases hco : coinsT (addT F (sgnT kd)) ≤ 3
              · rw [decide_eq_true hco] at HG
                have NR : Hid (refP false (addT F (sgnT kd)) (RS.drop (i + 1)) = RR) := hide (by rw [← NR1.out, if_pos hco])
                have NX3 := hide (NX2.out hco)
                clear NR1 NX2 hco hwx HWX
                go_wp2_with fail
                refine HG.out.mono ?_
                rintro e w5 ⟨⟨v5, rfl, ho5⟩, hb5⟩
                have NI := hide (NX3.out w5 v5 ho5 hb5)
                clear ho5 hb5 HG NX3
                go_wp2
                exact ⟨⟨i + 1, false, v5, _, by omega, rfl, rfl, by go_num, NR, NI⟩, by simp [intOf]; omega⟩
              · rw [decide_eq_false hco] at HG
                have EE : Hid (A = (131, [])) := hide (by rw [EA.out, ← NR1.out, if_neg hco]; rfl)
                clear NR1 NX2 hco EA
                go_wp2_with fail
                refine HG.out.mono ?_
                rintro e w5 ⟨⟨v5, rfl, ho5⟩, hb5⟩
                have HWX := hide (hwx.trans hb5)
                clear ho5 hb5 HG
                go_wp2
                refine bodyPost_ret (results_tmp2 rfl _ _ _) rfl ?_
                exact ⟨_, by rw [EE.out]; rfl, by rw [EE.out]; exact World.ownsRow_nil _ _ _ _, BT.out _ HWX.out⟩
        · have NR : Hid (refP true (addT F (txtT r)) (RS.drop (i + 1)) = RR) := hide (by rw [← HR.out, DR.out, refP_in F r _ h39])
          clear HI HR DR hfl h39 hsz RI hrs hln
          go_wp2_with fail
          refine HC.out.mono ?_
          rintro e w5 ⟨⟨v5, rfl, ho5⟩, hb5⟩
          have NI := hide (NXT.out w5 v5 ho5 hb5)
          clear ho5 hb5 HC NXT
          go_wp2
          exact ⟨⟨i + 1, true, v5, _, by omega, rfl, rfl, by go_num, NR, NI⟩, by simp [intOf]; omega⟩
    · obtain rfl : i = n := by omega
      have hlt' : ¬ (i : Int) < (i : Int) := by omega
      have e1 := HR.out
      rw [List.drop_eq_nil_of_le (by rw [← HN.out]; exact Nat.le_refl _), refP_nil] at e1
      have EQ : Hid (A = if VV = false then (131, []) else if b = true then (130, []) else if chkT F = 0 then (0, F) else (chkT F, [])) := hide (by rw [EA.out, ← e1]; rfl)
      have HWX := hide HI.out.low
      clear e1 HR EA hlt MEM0
      cases VV
      · have EE : Hid (A = (131, [])) := hide (by rw [EQ.out, if_pos rfl])
        clear EQ HI
        go_wp2
        refine bodyPost_ret (results_tmp2 rfl _ _ _) rfl ?_
        exact ⟨_, by rw [EE.out]; rfl, by rw [EE.out]; exact World.ownsRow_nil _ _ _ _, BT.out _ HWX.out⟩
      · cases b
        · have EE : Hid (A = if chkT F = 0 then (0, F) else (chkT F, [])) := hide (by rw [EQ.out, if_neg (by decide), if_neg (by decide)])
          have hl := HI.out.len
          have CK := hide (rCheck_any (TSl.of_own HI.out.own) (by omega) (fun j => Nat.le_trans (size_tok F j) (by have := HI.out.size; omega)))
          have OW := hide HI.out.own
          have hci := chkT_is F
          obtain ⟨C, hC⟩ : ∃ C, C = chkT F := ⟨_, rfl⟩
          rw [← hC] at EE CK hci
          clear EQ hC HI
          rcases hci with rfl | hci
          · have E2 : Hid (A = (0, F)) := hide (by rw [EE.out, if_pos rfl])
            clear EE
            go_wp2_with fail
            refine CK.out.mono ?_
            rintro e w2 ⟨rfl, hb⟩
            have FIN : Hid (ParA w w2 v F ∧ Below w.heap.size w w2) := hide ⟨own_base (own_below OW.out hb) B1.out.size, BT.out w2 (HWX.out.trans (hb.mono HWX.out.size))⟩
            clear hb CK
            go_wp2
            refine bodyPost_ret (results_tmp2 rfl _ _ _) rfl ?_
            exact ⟨_, by rw [E2.out]; rfl, by rw [E2.out]; exact FIN.out.1, FIN.out.2⟩
          · have E2 : Hid (A = (C, [])) := hide (by rw [EE.out, if_neg (by omega)])
            clear EE
            rcases hci with rfl | rfl
            all_goals
              go_wp2_with fail
              refine CK.out.mono ?_
              rintro e w2 ⟨rfl, hb⟩
              have FIN := hide (BT.out w2 (HWX.out.trans (hb.mono HWX.out.size)))
              clear hb CK
              go_wp2
              refine bodyPost_ret (results_tmp2 rfl _ _ _) rfl ?_
              exact ⟨_, by rw [E2.out]; rfl, by rw [E2.out]; exact World.ownsRow_nil _ _ _ _, FIN.out⟩
        · have EE : Hid (A = (130, [])) := hide (by rw [EQ.out, if_neg (by decide), if_pos rfl])
          clear EQ HI
          go_wp2
          refine bodyPost_ret (results_tmp2 rfl _ _ _) rfl ?_
          exact ⟨_, by rw [EE.out]; rfl, by rw [EE.out]; exact World.ownsRow_nil _ _ _ _, BT.out _ HWX.out⟩

end Go.Proofs.YtobcbffakldfcaaDoor

namespace Go.Proofs.YtobcbffakldfcaaDoor
open Go.RowKit

theorem own_put3 {w : World} {B g n cap k : Nat} {xs : List Value} (h : w.ownsRow B 32 3 (.slice (some ⟨g, 0, none⟩) n cap) n xs) (u0 u1 u2 : Value) : ∃ ys, (((w.setCell ⟨g, k * 3, none⟩ u0).setCell ⟨g, k * 3 + 1, none⟩ u1).setCell ⟨g, k * 3 + 2, none⟩ u2).ownsRow B 32 3 (.slice (some ⟨g, 0, none⟩) n cap) n ys :=
  ⟨_, ((((h.stored (k * 3) u0).1.stored (k * 3 + 1) u1).1).stored (k * 3 + 2) u2).1⟩
theorem own_other {w : World} {B g j n : Nat} {v u : Value} {xs : List Value} (h : w.ownsRow B 32 3 v n xs) (hg : g < B) : (w.setCell ⟨g, j, none⟩ u).ownsRow B 32 3 v n xs := own_set (i := j) (u := u) h hg

set_option maxRecDepth 100000 in
set_option maxHeartbeats 8000000 in
theorem reads_row (w : World) (hT : Wd w) (s : ByteArray) (hs : s.size ≤ 1048576) :
    Calls Tryd.prog 4 #[.string s] w fun e w' => e = .returned (.bool true) ∧ Below w.heap.size w w' := by
  have HT := hide hT
  have PA : Hid (∀ X, Wd X → Calls Tryd.prog 19 #[.string s] X fun e w' => ∃ v, e = .returned (.tuple #[v, .int .i64 ((parseR (bys s)).1 : Int)]) ∧ ParA X w' v (parseR (bys s)).2 ∧ Below X.heap.size X w') := hide (fun X hX => Parse_any s X (by omega) hX)
  have PB : Hid (∀ X, Calls Tryd.prog 20 #[.string s] X fun e w' => ∃ v, e = .returned (.tuple #[v, .int .i64 ((parseR (bys s)).1 : Int)]) ∧ ParA X w' v (parseR (bys s)).2 ∧ Below X.heap.size X w') := hide (fun X => rParse_any s X (by omega))
  have hlen : (parseR (bys s)).2.length ≤ 64 := by
    rcases parse_is (bys s) with h | ⟨_, h⟩
    · have q : parseR (bys s) = (0, (parseR (bys s)).2) := by rw [← h]
      exact (chk_ok (parseR_ok q).choose_spec.2.2.2).2.1
    · rw [h]; exact Nat.zero_le _
  obtain ⟨E, hE⟩ : ∃ E, E = (parseR (bys s)).1 := ⟨_, rfl⟩
  obtain ⟨P, hP⟩ : ∃ P, P = (parseR (bys s)).2 := ⟨_, rfl⟩
  rw [← hE, ← hP] at PA PB
  rw [← hP] at hlen
  clear hE hP hT
  have H1 := hide (PA.out w HT.out)
  go_enter Tryd.func4, Tryd.ntmps4
  go_wp2_with fail
  refine H1.out.mono ?_
  rintro e w1 ⟨va, rfl, hpa, hb1⟩
  have OA := hide (show w1.ownsRow w.heap.size 32 3 va P.length (cellsT P) from hpa)
  have B1 := hide hb1
  have H2 := hide (PB.out w1)
  clear H1 hpa hb1 PB
  go_wp2_with fail
  refine H2.out.mono ?_
  rintro e w2 ⟨vb, rfl, hpb, hb2⟩
  have OB := hide (show w2.ownsRow w1.heap.size 32 3 vb P.length (cellsT P) from hpb)
  have OA2 := hide (own_below OA.out hb2)
  have B2 := hide (B1.out.trans (hb2.mono B1.out.size))
  have H3 := hide (Same_any (TSl.of_own OA2.out) (TSl.of_own OB.out) (by omega))
  rw [decide_eq_true rfl] at H3
  have hGA : Hid (∀ g, va.ownBlock = some g → g < w1.heap.size) := hide (fun g hg => (World.ownsRow.lt OA.out g hg).2)
  clear H2 hpb hb2 OA B1
  go_wp2_with fail
  refine H3.out.mono ?_
  rintro e w3 ⟨rfl, hb3⟩
  have OA3 := hide (own_below OA2.out hb3)
  have OB3 := hide (own_below OB.out hb3)
  have B3 := hide (B2.out.trans (hb3.mono B2.out.size))
  clear H3 hb3 OA2 OB B2
  obtain ⟨aa, ca, rfl⟩ := own_slice OA3.out
  obtain ⟨ab, cb, rfl⟩ := own_slice OB3.out
  obtain ⟨N, hN⟩ : ∃ N, N = P.length := ⟨_, rfl⟩
  have HN := hide hN
  rw [← hN] at hlen OA3 hGA ⊢
  have START : Hid (∃ xs, w3.ownsRow w.heap.size 32 3 (.slice aa N ca) N xs) := hide ⟨_, OA3.out⟩
  clear hN OA3
  go_wp2
  go_loopw [7] (fun q wr => ∃ k : Nat, k ≤ N ∧ q = .int .i64 (k : Int) ∧ Hid (∃ xs, wr.ownsRow w.heap.size 32 3 (.slice aa N ca) N xs) ∧ Hid (wr.ownsRow w1.heap.size 32 3 (.slice ab P.length cb) P.length (cellsT P)) ∧ Hid (Below w.heap.size w wr)) (fun q _ => N - (intOf q).toNat)
  case atStart => exact ⟨0, Nat.zero_le _, rfl, START, OB3, B3⟩
  case round =>
    obtain ⟨k, hk, rfl, HA, HB, HW⟩ := hrel
    clear START OB3 B3
    by_cases hlt : k < N
    · have hlt' : (k : Int) < (N : Int) := by omega
      obtain ⟨xs, hown⟩ := HA.out
      obtain ⟨g, c2, he, hg0, hg1⟩ := own_some hown (by omega)
      simp only [Value.slice.injEq] at he
      obtain ⟨rfl, _, rfl⟩ := he
      have hgw := hGA.out g rfl
      have hxl := hown.1
      have b0 : ∃ u, wr.cell? ⟨g, k * 3, none⟩ = some u := ⟨xs[k * 3]'(by omega), (hown.cellAt (k * 3) (by omega)).trans (List.getElem?_eq_getElem _)⟩
      have b1 : ∃ u, wr.cell? ⟨g, k * 3 + 1, none⟩ = some u := ⟨xs[k * 3 + 1]'(by omega), (hown.cellAt (k * 3 + 1) (by omega)).trans (List.getElem?_eq_getElem _)⟩
      have b2 : ∃ u, wr.cell? ⟨g, k * 3 + 2, none⟩ = some u := ⟨xs[k * 3 + 2]'(by omega), (hown.cellAt (k * 3 + 2) (by omega)).trans (List.getElem?_eq_getElem _)⟩
      obtain ⟨u0, b0⟩ := b0
      obtain ⟨u1, b1⟩ := b1
      obtain ⟨u2, b2⟩ := b2
      have f0 := hown.frozenAt (k * 3)
      have f1 := hown.frozenAt (k * 3 + 1)
      have f2 := hown.frozenAt (k * 3 + 2)
      have NA := hide (own_put3 (k := k) hown (.int .i64 (-8)) (.int .i64 0) (.string ⟨#[]⟩))
      have NB := hide (own_other (j := k * 3 + 2) (u := .string ⟨#[]⟩) (own_other (j := k * 3 + 1) (u := .int .i64 0) (own_other (j := k * 3) (u := .int .i64 (-8)) HB.out hgw) hgw) hgw)
      have UN := hide (((HW.out.setCell (p := ⟨g, k * 3, none⟩) hg0 (.int .i64 (-8))).setCell (p := ⟨g, k * 3 + 1, none⟩) hg0 (.int .i64 0)).setCell (p := ⟨g, k * 3 + 2, none⟩) hg0 (.string ⟨#[]⟩))
      clear HA HB HW hown hxl
      go_wp2
      exact ⟨⟨k + 1, by omega, by go_num, NA, NB, UN⟩, by simp [intOf]; omega⟩
    · obtain rfl : k = N := by omega
      have hlt' : ¬ (k : Int) < (k : Int) := by omega
      obtain ⟨xs, hown⟩ := HA.out
      have BA : Hid (Below wr.heap.size wr (wr.alloc (.cells #[.int .i64 (-9), .int .i64 0, .string ⟨#[]⟩] 32))) := hide ((Below.refl _ _).alloc (Nat.le_refl _) _)
      have SR : Hid (SrcT (wr.alloc (.cells #[.int .i64 (-9), .int .i64 0, .string ⟨#[]⟩] 32)) (.slice (some ⟨wr.heap.size, 0, none⟩) 1 1) [⟨-9, 0, ⟨#[]⟩⟩]) := hide (SrcT.blk1 (Blk.newAt wr wr.heap.size rfl _ _))
      have OX := hide (own_below hown BA.out)
      have OY := hide (own_below HB.out BA.out)
      have HBA := hide (HW.out.trans (BA.out.mono HW.out.size))
      have hNE : Hid ((Value.slice ab P.length cb).ownBlock = none ∨ (Value.slice ab P.length cb).ownBlock ≠ (Value.slice aa k ca).ownBlock) := hide (by
        cases hb : (Value.slice ab P.length cb).ownBlock with
        | none => exact .inl rfl
        | some g2 =>
          refine .inr (fun e => ?_)
          have h1 := hGA.out g2 e.symm
          have h2 := (World.ownsRow.lt HB.out g2 hb).1
          omega)
      have hn1 : (((k + 1 : Nat) : Int) == (k : Int) + 1) = true := beq_iff_eq.2 (by omega)
      clear hown HA HB hlt
      go_wp2_with (at_builtin; refine wpT_append rfl _ _ rfl w.heap.size (.slice aa k ca) k xs rfl OX.out _ [⟨-9, 0, ⟨#[]⟩⟩] rfl SR.out (k + 1) rfl _ rfl (by omega) HBA.out.size ?_; intro uo2 uc2 w4 hown4 hgr4)
      have OB4 := hide (World.ownsRow.kept OY.out hgr4 hNE.out)
      have HB4 := hide (HBA.out.grown hgr4 HBA.out.size (fun q hq => (World.ownsRow.lt OX.out q hq).1))
      clear hown4 hgr4 OX OY SR BA HBA hNE
      have H5 := hide (PA.out w4 (HT.out.below HB4.out))
      go_wp2_with fail
      refine H5.out.mono ?_
      rintro e w5 ⟨vc, rfl, hpc, hb5⟩
      have OC := hide (show w5.ownsRow w4.heap.size 32 3 vc P.length (cellsT P) from hpc)
      have OB5 := hide (own_below OB4.out hb5)
      have HB5 := hide (HB4.out.trans (hb5.mono HB4.out.size))
      have H6 := hide (Same_any (TSl.of_own OC.out) (TSl.of_own OB5.out) (by rw [← HN.out]; omega))
      rw [decide_eq_true rfl] at H6
      rw [← HN.out] at H6
      clear H5 hpc hb5 OB4 HB4 OC OB5
      go_wp2_with fail
      refine H6.out.mono ?_
      rintro e w6 ⟨rfl, hb6⟩
      have HB6 := hide (HB5.out.trans (hb6.mono HB5.out.size))
      have H7 := hide (fixed13_any w6 (HT.out.below HB6.out))
      clear H6 hb6 HB5
      go_wp2_with fail
      refine H7.out.mono ?_
      rintro e w7 ⟨rfl, hb7⟩
      have FIN := hide (HB6.out.trans (hb7.mono HB6.out.size))
      clear H7 hb7
      go_wp2
      go_ret
      exact ⟨rfl, FIN.out⟩

end Go.Proofs.YtobcbffakldfcaaDoor

namespace Go.Proofs.YtobcbffakldfcaaDoor
open Go.RowKit

theorem laid_first : (Rows.laid_unicode_utf8_first : DataW Unit) = Lib.firstData := by kernel_rfl
theorem laid_accept : (Rows.laid_unicode_utf8_acceptRanges : DataW Unit) = Lib.acceptData := by kernel_rfl
theorem cellsAR : Tryd.prog.cellsOf 110 = 2 := by kernel_rfl
theorem cellsU8 : Tryd.prog.cellsOf 5 = 1 := by kernel_rfl
theorem cellsFT : Tryd.prog.cellsOf 108 = 256 := by kernel_rfl

theorem first_of {W : World} (h : Lib.VarReads Tryd.prog W "unicode/utf8.first" Lib.firstData) : ∀ c, c < 256 → W.cell? ⟨2, c, none⟩ = some (.int .u8 (Lib.firstT c : Int)) := by
  intro c hc
  obtain ⟨g, t, cs, fuel, p, hg, hty, hvar, hd⟩ := h
  have eg : g = 2 := Option.some.inj (hg.symm.trans (by kernel_rfl))
  subst eg
  have et : t = 108 := Option.some.inj (hty.symm.trans (by kernel_rfl))
  subst et
  have hcs := Lib.cells_of_tab Tryd.underlying108 Tryd.underlying5 cellsU8 cellsFT hd
  rw [World.var?_cell hg hvar c, ← Array.getElem?_toList, hcs]
  simp [Lib.firstTab, hc]

theorem accept_of {W : World} (h : Lib.VarReads Tryd.prog W "unicode/utf8.acceptRanges" Lib.acceptData) : ∀ i, i < 16 → W.cell? ⟨3, 2 * i, none⟩ = some (.int .u8 (Lib.accLo i : Int)) ∧ W.cell? ⟨3, 2 * i + 1, none⟩ = some (.int .u8 (Lib.accHi i : Int)) := by
  intro i hi
  obtain ⟨g, t, cs, fuel, p, hg, hty, hvar, hd⟩ := h
  have eg : g = 3 := Option.some.inj (hg.symm.trans (by kernel_rfl))
  subst eg
  have et : t = 111 := Option.some.inj (hty.symm.trans (by kernel_rfl))
  subst et
  obtain ⟨fu, d, q, hdi, he⟩ := Lib.array_elem Tryd.underlying111 hd i hi
  rw [cellsAR] at he
  have hdv : d = .agg ([(Lib.accLo i : Int), (Lib.accHi i : Int)].map fun z => .lit (.int .u8 z)) := by
    rw [List.getElem?_map, List.getElem?_range hi] at hdi
    exact (Option.some.inj hdi).symm
  subst hdv
  have fields : ∀ (j : Nat) (f : Field), (Tryd.prog.fieldsOf 110)[j]? = some f → Tryd.prog.underlying f.type = some (.int .u8) ∧ f.offset = j ∧ Tryd.prog.cellsOf f.type = 1 := by
    intro j f hj
    have e2 : Tryd.prog.fieldsOf 110 = #[(Tryd.prog.fieldsOf 110)[0]!, (Tryd.prog.fieldsOf 110)[1]!] := by kernel_rfl
    rw [e2] at hj
    match j, hj with
    | 0, hj => simp at hj; subst hj; exact ⟨by kernel_rfl, by kernel_rfl, by kernel_rfl⟩
    | 1, hj => simp at hj; subst hj; exact ⟨by kernel_rfl, by kernel_rfl, by kernel_rfl⟩
    | j + 2, hj => simp at hj
  have hcs := Lib.ints_of_struct (fs := Tryd.prog.fieldsOf 110) (by kernel_rfl) fields (by kernel_rfl) he
  have q0 := congrArg (fun l => l[0]?) hcs
  have q1 := congrArg (fun l => l[1]?) hcs
  simp only [List.getElem?_take, List.getElem?_drop] at q0 q1
  refine ⟨?_, ?_⟩
  · rw [World.var?_cell hg hvar (2 * i), ← Array.getElem?_toList, Nat.mul_comm]
    simpa using q0
  · rw [World.var?_cell hg hvar (2 * i + 1), ← Array.getElem?_toList, Nat.mul_comm]
    simpa using q1

theorem cellsMv : Tryd.prog.cellsOf 80 = 2 := by kernel_rfl
theorem cellsStr : Tryd.prog.cellsOf 9 = 1 := by kernel_rfl

theorem signs_of {W : World} (h : Lib.VarReads Tryd.prog W "quipu/affix.signs" Rows.laid_quipu_affix_signs) (i : Nat) (hi : i < 6) (l : List UInt8) (hl : (Rows.laid_quipu_affix_signs : DataW Unit) = .agg (([[], [45], [43], [37], [226, 128, 176], [194, 164]] : List (List UInt8)).map fun x => .lit (.string x))) (he : ([[], [45], [43], [37], [226, 128, 176], [194, 164]] : List (List UInt8))[i]? = some l) : W.cell? ⟨0, i, none⟩ = some (.string ⟨l.toArray⟩) := by
  obtain ⟨g, t, cs, fuel, p, hg, hty, hvar, hd⟩ := h
  have eg : g = 0 := Option.some.inj (hg.symm.trans (by kernel_rfl))
  subst eg
  have et : t = 50 := Option.some.inj (hty.symm.trans (by kernel_rfl))
  subst et
  rw [hl] at hd
  obtain ⟨fu, d, q, hdi, hel⟩ := Lib.array_elem Tryd.underlying50 hd i hi
  rw [cellsStr] at hel
  obtain ⟨z, e0, f0, _⟩ := DataW.trod_string Tryd.underlying9 hel
  rw [List.getElem?_map, he] at hdi
  have e1 : (DataW.lit (.string l) : DataW Unit) = d := Option.some.inj hdi
  have e2 : z.data.toList = l := by
    have e3 := e1.trans (congrArg Prod.fst f0)
    simp only [DataW.lit.injEq, Lit.string.injEq] at e3
    exact e3.symm
  have q0 := congrArg (fun l => l[0]?) e0
  simp only [List.getElem?_take, List.getElem?_drop] at q0
  rw [World.var?_cell hg hvar i, ← Array.getElem?_toList]
  have ez : z = ⟨l.toArray⟩ := by rw [← e2]
  rw [← ez]
  simpa using q0

theorem moves_of {W : World} (h : Lib.VarReads Tryd.prog W "quipu/affix.moves" Rows.laid_quipu_affix_moves) (i : Nat) (hi : i < 4) (a b : Int) (hl : (Rows.laid_quipu_affix_moves : DataW Unit) = .agg (([(1, 0), (0, 2), (3, 2), (2, 0)] : List (Int × Int)).map fun x => .agg ([x.1, x.2].map fun z => .lit (.int .i64 z)))) (he : ([(1, 0), (0, 2), (3, 2), (2, 0)] : List (Int × Int))[i]? = some (a, b)) : W.cell? ⟨1, 2 * i, none⟩ = some (.int .i64 a) ∧ W.cell? ⟨1, 2 * i + 1, none⟩ = some (.int .i64 b) := by
  obtain ⟨g, t, cs, fuel, p, hg, hty, hvar, hd⟩ := h
  have eg : g = 1 := Option.some.inj (hg.symm.trans (by kernel_rfl))
  subst eg
  have et : t = 81 := Option.some.inj (hty.symm.trans (by kernel_rfl))
  subst et
  rw [hl] at hd
  obtain ⟨fu, d, q, hdi, hel⟩ := Lib.array_elem Tryd.underlying81 hd i hi
  rw [cellsMv] at hel
  rw [List.getElem?_map, he] at hdi
  have hdv : d = .agg ([a, b].map fun z => .lit (.int .i64 z)) := (Option.some.inj hdi).symm
  subst hdv
  have fields : ∀ (j : Nat) (f : Field), (Tryd.prog.fieldsOf 80)[j]? = some f → Tryd.prog.underlying f.type = some (.int .i64) ∧ f.offset = j ∧ Tryd.prog.cellsOf f.type = 1 := by
    intro j f hj
    have e2 : Tryd.prog.fieldsOf 80 = #[(Tryd.prog.fieldsOf 80)[0]!, (Tryd.prog.fieldsOf 80)[1]!] := by kernel_rfl
    rw [e2] at hj
    match j, hj with
    | 0, hj => simp at hj; subst hj; exact ⟨by kernel_rfl, by kernel_rfl, by kernel_rfl⟩
    | 1, hj => simp at hj; subst hj; exact ⟨by kernel_rfl, by kernel_rfl, by kernel_rfl⟩
    | j + 2, hj => simp at hj
  have hcs := Lib.ints_of_struct (fs := Tryd.prog.fieldsOf 80) (by kernel_rfl) fields (by kernel_rfl) hel
  have q0 := congrArg (fun l => l[0]?) hcs
  have q1 := congrArg (fun l => l[1]?) hcs
  simp only [List.getElem?_take, List.getElem?_drop] at q0 q1
  refine ⟨?_, ?_⟩
  · rw [World.var?_cell hg hvar (2 * i), ← Array.getElem?_toList, Nat.mul_comm]
    simpa using q0
  · rw [World.var?_cell hg hvar (2 * i + 1), ← Array.getElem?_toList, Nat.mul_comm]
    simpa using q1

theorem table {W : World} (h : laidMetH Tryd.prog [("unicode/utf8.acceptRanges", Rows.laid_unicode_utf8_acceptRanges), ("quipu/affix.signs", Rows.laid_quipu_affix_signs), ("quipu/affix.moves", Rows.laid_quipu_affix_moves), ("unicode/utf8.first", Rows.laid_unicode_utf8_first)] W) (hs : W.ShapedOpen Tryd.prog) : Wd W := by
  have h' : laidMet Tryd.prog [("unicode/utf8.acceptRanges", Rows.laid_unicode_utf8_acceptRanges), ("quipu/affix.signs", Rows.laid_quipu_affix_signs), ("quipu/affix.moves", Rows.laid_quipu_affix_moves), ("unicode/utf8.first", Rows.laid_unicode_utf8_first)] W := h
  have h3 := Lib.laidMet.reads h' (n := "unicode/utf8.first") (d := Rows.laid_unicode_utf8_first) (by simp)
  have h4 := Lib.laidMet.reads h' (n := "unicode/utf8.acceptRanges") (d := Rows.laid_unicode_utf8_acceptRanges) (by simp)
  have h5 := Lib.laidMet.reads h' (n := "quipu/affix.signs") (d := Rows.laid_quipu_affix_signs) (by simp)
  have h6 := Lib.laidMet.reads h' (n := "quipu/affix.moves") (d := Rows.laid_quipu_affix_moves) (by simp)
  rw [laid_first] at h3
  rw [laid_accept] at h4
  have m0 := moves_of h6 0 (by decide) 1 0 rfl rfl
  have m1 := moves_of h6 1 (by decide) 0 2 rfl rfl
  have m2 := moves_of h6 2 (by decide) 3 2 rfl rfl
  have m3 := moves_of h6 3 (by decide) 2 0 rfl rfl
  exact ⟨⟨first_of h3, accept_of h4⟩, signs_of h5 0 (by decide) _ rfl rfl, signs_of h5 1 (by decide) _ rfl rfl, signs_of h5 2 (by decide) _ rfl rfl, signs_of h5 3 (by decide) _ rfl rfl, signs_of h5 4 (by decide) _ rfl rfl, signs_of h5 5 (by decide) _ rfl rfl, m0.1, m0.2, m1.1, m1.2, m2.1, m2.2, m3.1, m3.2,
    Go.Proofs.cell_of_shapedOpen_int (t := 3) (zero := #[.int .i64 0]) (k := .i64) hs (of_decide_eq_true (by kernel_rfl)) (by kernel_rfl) rfl (by kernel_rfl) (by kernel_rfl) Tryd.underlying3⟩

def tabVals : DataW Unit → Array Value
  | .agg l => (l.flatMap fun
      | .lit (.int k z) => [Value.int k z]
      | .lit (.string l) => [Value.string ⟨l.toArray⟩]
      | .agg l2 => l2.map fun
        | .lit (.int k z) => Value.int k z
        | _ => .int .u8 0
      | _ => []).toArray
  | _ => #[]

def putVals (d : DataW Unit) : Obj → Obj
  | .cells _ t frozen => .cells (tabVals d) t frozen
  | o => o

noncomputable def laidWorld (os : Os) : World :=
  { World.holding Tryd.prog os ⟨#[], #[], []⟩ with
    heap := ((((World.holding Tryd.prog os ⟨#[], #[], []⟩).heap.modify 3 (putVals Rows.laid_unicode_utf8_acceptRanges)).modify 2 (putVals Rows.laid_unicode_utf8_first)).modify 0 (putVals Rows.laid_quipu_affix_signs)).modify 1 (putVals Rows.laid_quipu_affix_moves) }

end Go.Proofs.YtobcbffakldfcaaDoor
