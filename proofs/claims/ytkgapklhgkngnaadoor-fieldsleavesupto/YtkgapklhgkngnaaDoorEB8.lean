/-
  What Wrap answers.
  The reference's Same, where two Outs are alike.
  Leaves, whole.
-/
import Derived.Test.YtkgapklhgkngnaaDoorEB6
import Derived.Test.YtkgapklhgkngnaaDoorEB4
import Derived.Laws.AppendOwnNone
import Derived.Laws.StructEq
import Derived.Test.YtkgapklhgkngnaaDoorEB7
namespace Go.Proofs.YtkgapklhgkngnaaDoor
open Go.RowKit

attribute [local go_sem ↓] Go.wp_at_zero Go.wp_at_succ

def NilOr (v : Value) : Prop := v = .slice none 0 0 ∨ ∃ ad n c, v = .slice (some ad) n c

theorem cellsS_one : ∀ (l : List Sp) (u : Value), u ∈ cellsS l → u.oneCell' = true
  | [], u, h => by cases h
  | s :: l, u, h => by
    rw [cellsS] at h
    simp only [List.mem_cons] at h
    rcases h with rfl | rfl | rfl | h
    · rfl
    · rfl
    · rfl
    · exact cellsS_one l u h
theorem SpA.src {w : World} {b o : Nat} {l : List Sp} (h : SpA w b o l) (j : Nat) (u : Value) (hj : (cellsS l)[j]? = some u) : w.cell? ((⟨b, o, none⟩ : Addr).add j) = some u := by
  rw [Addr.add_lit]
  have hlt : j < l.length * 3 := by rw [← cellsS_len]; exact (List.getElem?_eq_some_iff.1 hj).1
  obtain ⟨i, hi⟩ : ∃ i, i = j / 3 := ⟨_, rfl⟩
  have hil : i < l.length := by omega
  obtain ⟨a0, a1, a2⟩ := cellsS_at l i hil
  obtain ⟨c0, c1, c2⟩ := h i hil
  have hr : j = i * 3 ∨ j = i * 3 + 1 ∨ j = i * 3 + 2 := by omega
  rcases hr with rfl | rfl | rfl
  · rw [c0, ← a0, hj]
  · rw [show o + (i * 3 + 1) = o + i * 3 + 1 by omega, c1, ← a1, hj]
  · rw [show o + (i * 3 + 2) = o + i * 3 + 2 by omega, c2, ← a2, hj]
theorem wpSp_appendL {w : World} {ops : Array Oper} {rest : List Oper} {o : Oper} {a : Act} {Q : Exit → Act → World → Prop} (hgd : o.guard = none) (s x : Operand)
    (ho : o.op = .call { callee := .builtin .append, args := #[s, x], argTypes := #[23, 23] })
    (base : Nat) (v : Value) (lo : List Sp) (hs : a.eval s = v) (hown : OwnS base w v lo)
    (v2 : Value) (l : List Sp) (hx : a.eval x = v2) (hsp : SpV w v2 l) (hno : NilOr v2) (N : Nat) (hN : lo.length + l.length = N) (hb : N * 24 ≤ 140737488355328) (hbase : base ≤ w.heap.size)
    (h : ∀ uo uc w', OwnS base w' (.slice uo N uc) (lo ++ l) → w.grownBy w' v.ownBlock → wpList Tryd.prog ops Q rest (a.put o.dst (.slice uo N uc)) w') : wpList Tryd.prog ops Q (o :: rest) a w := by
  obtain ⟨i0, hi, hz0, hz1, hz2⟩ := info_parts infoSp
  subst hN
  have h' : ∀ v' w', w'.ownsRow base 31 3 v' (lo.length + l.length) (cellsS lo ++ cellsS l) → w.grownBy w' v.ownBlock → wpList Tryd.prog ops Q rest (a.put o.dst v') w' := fun v' w' h1 h2 => by
    obtain ⟨uo, uc, rfl⟩ := ownF_slice h1
    refine h uo uc w' ?_ h2
    unfold OwnS
    rw [cellsS_app, List.length_append]
    exact h1
  have big : ∀ (ad : Addr) (c : Nat), a.eval x = .slice (some ad) l.length c → (∀ j u, (cellsS l)[j]? = some u → w.cell? (ad.add j) = some u) → wpList Tryd.prog ops Q (o :: rest) a w := fun ad c q1 q2 =>
    wpList_append_own w hgd s x _ ho base _ i0 (.agg #[.int .i64 0, .int .i64 0, .int .i64 0]) 3 24 Tryd.underlying23 hi hz0 hz1 hz2 rfl (by decide) v lo.length (cellsS lo) hs hown ad l.length c (cellsS l) q1 (cellsS_len l) q2 (cellsS_one l) (by unfold maxLen; omega) hb hbase (fun v' w' h3 h4 _ => h' v' w' h3 h4)
  cases hsp with
  | none ao cap hv hl =>
    subst hl
    rcases hno with e | ⟨ad, n, c, e⟩
    · refine wpList_append_own_none hgd s x _ ho base _ i0 3 Tryd.underlying23 hi v lo.length (cellsS lo) hs hown (hx.trans e) (h' v w ?_ ?_)
      · show w.ownsRow base 31 3 v (lo.length + 0) (cellsS lo ++ [])
        rw [Nat.add_zero, List.append_nil]
        exact hown
      · exact ⟨rfl, rfl, rfl, Nat.le_refl _, fun _ _ _ => rfl⟩
    · subst e
      simp only [Value.slice.injEq] at hv
      obtain ⟨rfl, rfl, rfl⟩ := hv
      exact big ad c hx (fun j u hj => by simp [cellsS] at hj)
  | some b o cap hv hc hb ha => exact big _ _ (hx.trans hv) ha.src

def wrapL (l : List Sp) (s : Sp) : List Sp := ordS (s :: l)

theorem Blk.setne {w : World} {g : Nat} {cs : Array Value} {t : TypeId} {a : Addr} (h : Blk w g cs t) (hn : ¬ a.block = g) (v : Value) : Blk (w.setCell a v) g cs t := by
  unfold Blk at *
  simp [World.setCell, Array.getElem?_modify, hn, h]
theorem ownF_setne {w : World} {B n k : Nat} {e : TypeId} {v : Value} {xs : List Value} {a : Addr} (h : w.ownsRow B e k v n xs) (hn : v.ownBlock ≠ some a.block) (u : Value) : (w.setCell a u).ownsRow B e k v n xs := by
  refine ⟨h.1, ?_⟩
  rcases h.2 with h2 | ⟨g, cap, cur, hv, h3, h4, h5⟩
  · exact .inl h2
  · refine .inr ⟨g, cap, cur, hv, h3, ?_, h5⟩
    have hne : ¬ a.block = g := fun q => hn (by rw [hv, q]; rfl)
    simp [World.setCell, Array.getElem?_modify, hne, h4]
theorem allocW_size (w : World) (o : Obj) : (w.alloc o).heap.size = w.heap.size + 1 := Array.size_push ..
theorem bndW {x n C : Nat} (hx : x ≤ n + 1) (h : (n + 2) * 32 ≤ C) : (x + 1) * 24 ≤ C := Nat.le_trans (Nat.mul_le_mul (by omega) (by decide)) h

set_option maxRecDepth 100000 in
set_option maxHeartbeats 4000000 in
theorem Wrap_yes (t : ByteArray) (v : Value) (l : List Sp) (s : Sp) (w : World) (hT : U8 w) (ht : t.size ≤ 9223372036854775807) (hv : SpV w v l) (hno : NilOr v) (hl : (l.length + 2) * 32 ≤ 140737488355328) (hm : mayB t l = true) (hm2 : mayB t (wrapL l s) = true) :
    Calls Tryd.prog 13 #[.agg #[.string t, v], .int .i64 s.f, .int .i64 s.a, .int .i64 s.b] w fun e w' => Hid (∃ uo uc, e = .returned (.tuple #[.agg #[.string t, .slice uo (l.length + 1) uc], .int .i64 0]) ∧ OwnS w.heap.size w' (.slice uo (l.length + 1) uc) (wrapL l s)) ∧ Below w.heap.size w w' := by
  have HV := hide hv
  have HNO := hide hno
  have HT := hide hT
  obtain ⟨ao, cap, rfl⟩ := hv.len
  obtain ⟨n, hn⟩ : ∃ n, n = l.length := ⟨_, rfl⟩
  obtain ⟨W1, hW1⟩ : ∃ W1, W1 = (w.alloc (.cells #[.string t, .slice ao n cap] 25)).alloc (.cells #[.string ⟨#[]⟩, .slice none 0 0] 25) := ⟨_, rfl⟩
  have B1 := hide (show Below w.heap.size w W1 by rw [hW1]; exact ((Below.refl _ _).alloc (Nat.le_refl _) _).alloc (Nat.le_of_lt (by rw [allocW_size]; exact Nat.lt_succ_self _)) _)
  have BX1 : Hid (Blk W1 w.heap.size #[.string t, .slice ao n cap] 25) := hide (by rw [hW1]; exact (Blk.newAt w _ rfl _ _).below ((Below.refl _ _).alloc (Nat.le_refl _) _) (by rw [allocW_size]; exact Nat.lt_succ_self _))
  have BR1 : Hid (Blk W1 (w.heap.size + 1) #[.string ⟨#[]⟩, .slice none 0 0] 25) := hide (by rw [hW1]; exact Blk.newAt _ _ (allocW_size _ _) _ _)
  have HW := hide hW1.symm
  have C1 := hide (Check_any t _ l W1 (hT.below B1.out) ht (hv.below B1.out) (bndW (Nat.le_of_lt (Nat.lt_succ_self _)) hl))
  rw [hm] at C1
  rw [← hn] at C1 HV HNO hl ⊢
  have HN := hide hn
  have HL := hide hl
  clear hW1 hv hT hn hno hl hm
  go_enter Tryd.func13, Tryd.ntmps13
  have c0 := BX1.out.cell 0
  have c1 := BX1.out.cell 1
  go_wp2_with (simp only [HW.out])
  refine C1.out.mono ?_
  rintro e w3 ⟨rfl, hb3⟩
  have B3 := hide (B1.out.trans (hb3.mono B1.out.size))
  have BX3 := hide (BX1.out.below hb3 BX1.out.lt)
  have BR3 := hide (BR1.out.below hb3 BR1.out.lt)
  clear hb3 C1 c0 c1 HW B1 BX1 BR1
  have e1 : errM true = 0 := rfl
  rw [e1]
  obtain ⟨W4, hW4⟩ : ∃ W4, W4 = w3.alloc (.cells #[.int .i64 s.f, .int .i64 s.a, .int .i64 s.b] 31) := ⟨_, rfl⟩
  have S4 := hide (show Below w3.heap.size w3 W4 by rw [hW4]; exact (Below.refl _ _).alloc (Nat.le_refl _) _)
  have B4 := hide (B3.out.trans (S4.out.mono B3.out.size))
  have TB : Hid (Blk W4 w3.heap.size #[.int .i64 s.f, .int .i64 s.a, .int .i64 s.b] 31) := hide (by rw [hW4]; exact Blk.newAt _ _ rfl _ _)
  have O4 : Hid (OwnS (w.heap.size + 2) W4 (.slice (some ⟨w3.heap.size, 0, none⟩) 1 1) [s]) := hide (by
    exact ⟨rfl, .inr ⟨w3.heap.size, 1, _, rfl, BR3.out.lt, TB.out, Nat.le_refl _, by decide, rfl, rfl⟩⟩)
  have BX4 := hide (BX3.out.below S4.out BX3.out.lt)
  have BR4 := hide (BR3.out.below S4.out BR3.out.lt)
  have c1 : W4.cell? ⟨w.heap.size, 1, none⟩ = some (.slice ao n cap) := BX4.out.cell 1
  have HV4 := hide (HV.out.below B4.out)
  have BASE := hide (show w.heap.size + 2 ≤ W4.heap.size by have := BR4.out.lt; omega)
  have HW4 := hide hW4.symm
  have LN : Hid ([s].length + l.length = n + 1) := hide (by rw [HN.out, List.length_singleton]; exact Nat.add_comm _ _)
  have LM : Hid ((n + 1) * 24 ≤ 140737488355328) := hide (bndW (Nat.le_succ n) HL.out)
  have N3 := BR3.out.lt
  clear hW4 BX3 BR3 S4 B3 TB
  go_wp2_with (first | simp only [HW4.out] | (at_builtin; refine wpSp_appendL rfl _ _ rfl (w.heap.size + 2) (.slice (some ⟨w3.heap.size, 0, none⟩) 1 1) [s] rfl O4.out (.slice ao n cap) l (by rfl) HV4.out HNO.out (n + 1) LN.out LM.out BASE.out ?_; intro uo uc w5 hown hgr))
  have B5 := hide (B4.out.grown hgr (by have := BASE.out; omega) (fun k hk => by have := (World.ownsRow.lt O4.out k hk).1; omega))
  have BR5 : Hid (Blk w5 (w.heap.size + 1) #[.string ⟨#[]⟩, .slice none 0 0] 25) := hide (by
    have q := BR4.out
    unfold Blk at *
    rw [hgr.block _ (lt_of_block q) (by simp only [Value.ownBlock]; intro e; injection e with e; omega)]; exact q)
  have BX5 : Hid (Blk w5 w.heap.size #[.string t, .slice ao n cap] 25) := hide (by
    have q := BX4.out
    unfold Blk at *
    rw [hgr.block _ (lt_of_block q) (by simp only [Value.ownBlock]; intro e; injection e with e; omega)]; exact q)
  have OC : Hid (∀ X, Below w5.heap.size w5 X → Calls Tryd.prog 27 #[.slice uo (n + 1) uc] X fun e w' => Hid (∃ uo uc, e = .returned (.slice uo (n + 1) uc) ∧ OwnS X.heap.size w' (.slice uo (n + 1) uc) (wrapL l s)) ∧ Below X.heap.size X w') := hide (fun X hX => by
    have hlen : ([s] ++ l).length = n + 1 := by rw [List.length_append]; exact LN.out
    have q := ordered_any ([s] ++ l) (ownF_below hown hX) (by rw [hlen]; exact HL.out)
    rw [hlen] at q
    exact q)
  have WL : Hid ((wrapL l s).length = n + 1) := hide (by unfold wrapL; rw [ordS_len, List.length_cons, HN.out])
  have s5 : w5.cell? ⟨w.heap.size, 0, none⟩ = some (.string t) := BX5.out.cell 0
  clear hown hgr BX4 BR4 c1 HV4 BASE HW4 O4 LN LM B4 N3 HV HNO
  go_wp2_with fail
  refine wp_region_held_drew (S := fun X => X.cell? ⟨w.heap.size, 0, none⟩ = some (.string t)) (by kernel_rfl) ?_ (fun hHeld => ?_)
  · exact s5
  refine wpAnyH_take (i := 0) (oi := Oper.mk (some 24) _ _ _ _ _) (v := .pointer (some ⟨w.heap.size, 0, none⟩)) rfl (by kernel_rfl) (by kernel_rfl) (by kernel_rfl) (fun _ _ _ h => h) (Or.inl ⟨by rfl, ?_⟩) (by assumption) ?_
  · intro wX hSw
    (try dsimp only at hSw)
    go_simp
  simp only [Act.put, List.setIfInBounds_toArray, List.set_cons_succ, List.set_cons_zero]
  refine wpAnyH_take (i := 1) (oi := Oper.mk (some 25) _ _ _ _ _) (v := .string t) rfl (by kernel_rfl) (by kernel_rfl) (by kernel_rfl) (fun _ _ _ h => h) (Or.inl ⟨by rfl, ?_⟩) (by assumption) ?_
  · intro wX hSw
    (try dsimp only at hSw)
    go_simp
  simp only [Act.put, List.setIfInBounds_toArray, List.set_cons_succ, List.set_cons_zero]
  refine wpAnyH_take (i := 2) (oi := Oper.mk (some 26) _ _ _ _ _) (v := .slice uo (n + 1) uc) rfl (by kernel_rfl) (by kernel_rfl) (by kernel_rfl) (fun _ _ _ h => h) (Or.inl ⟨by rfl, ?_⟩) (by assumption) ?_
  · intro wX hSw
    (try dsimp only at hSw)
    go_simp
  simp only [Act.put, List.setIfInBounds_toArray, List.set_cons_succ, List.set_cons_zero]
  refine wpAnyH_ready (rs := [3, 5]) (by kernel_rfl) (by simp) ?_
  refine AllReadyH.cons (o := Oper.mk (some 27) _ _ _ _ _) rfl (fun K hK => ?_) (AllReadyH.cons (o := Oper.mk (some 11) _ _ _ _ _) rfl (fun K hK => ?_) AllReadyH.nil)
  · go_simp
    refine (OC.out _ ((Below.refl _ _).drew)).mono ?_
    rintro e w6 ⟨HE, hb6⟩
    obtain ⟨uo2, uc2, rfl, ho6⟩ := HE.out
    have B6 := hide (B5.out.drew.trans (hb6.mono B5.out.drew.size))
    have BR6 := hide (Blk.below (show Blk w5.drew _ _ _ from BR5.out) hb6 (show Blk w5.drew _ _ _ from BR5.out).lt)
    have BX6 := hide (Blk.below (show Blk w5.drew _ _ _ from BX5.out) hb6 (show Blk w5.drew _ _ _ from BX5.out).lt)
    have s6 : w6.cell? ⟨w.heap.size, 0, none⟩ = some (.string t) := BX6.out.cell 0
    refine hK.out _ _ ?_ (fun hHeld => ?_)
    · exact s6
    clear hK K
    have A7 := hide (show Below w6.heap.size w6 (w6.alloc (.cells #[.string ⟨#[]⟩, .slice none 0 0] 25)) from (Below.refl _ _).alloc (Nat.le_refl _) _)
    obtain ⟨W7, hW7⟩ : ∃ W7, W7 = w6.alloc (.cells #[.string ⟨#[]⟩, .slice none 0 0] 25) := ⟨_, rfl⟩
    rw [← hW7] at A7
    have WB : Hid (Blk W7 w6.heap.size #[.string ⟨#[]⟩, .slice none 0 0] 25) := hide (by rw [hW7]; exact Blk.newAt _ _ rfl _ _)
    have B7 := hide (B6.out.trans (A7.out.mono B6.out.size))
    have BR7 := hide (BR6.out.below A7.out BR6.out.lt)
    have BX7 := hide (BX6.out.below A7.out BX6.out.lt)
    have s7 : W7.cell? ⟨w.heap.size, 0, none⟩ = some (.string t) := BX7.out.cell 0
    have HO7 : Hid (OwnS (w.heap.size + 2) W7 (.slice uo2 (n + 1) uc2) (wrapL l s) ∧ (.slice uo2 (n + 1) uc2 : Value).ownBlock ≠ some w6.heap.size) := hide ⟨ownF_mono (ownF_below ho6 A7.out) (BR5.out.lt), fun e => Nat.lt_irrefl _ (World.ownsRow.lt ho6 _ e).2⟩
    have nK : w.heap.size + 1 < w6.heap.size := BR6.out.lt
    have HW7 := hide hW7.symm
    clear hW7 A7 B6 BR6 BX6 HE ho6 hb6 OC B5 BR5 BX5
    refine wpAnyH_take (i := 4) (oi := Oper.mk (some 28) _ _ _ _ _) (v := .agg #[.string t, .slice uo2 (n + 1) uc2]) rfl (by kernel_rfl) (by kernel_rfl) (by kernel_rfl) (fun _ _ _ h => h) (Or.inl ⟨by rfl, ?_⟩) (by assumption) ?_
    · intro wX hSw
      (try dsimp only at hSw)
      go_simp
    simp only [Act.put, List.setIfInBounds_toArray, List.set_cons_succ, List.set_cons_zero]
    refine wpAnyH_ready (rs := [5]) (by kernel_rfl) (by simp) ?_
    refine AllReadyH.cons (o := Oper.mk (some 11) _ _ _ _ _) rfl (fun K hK => ?_) AllReadyH.nil
    go_simp
    simp only [HW7.out]
    refine hK.out _ _ ?_ (fun hHeld => ?_)
    · exact s7
    clear hK K
    have k0 : W7.cell? ⟨w6.heap.size, 0, none⟩ = some (.string ⟨#[]⟩) := WB.out.cell 0
    have k1 : W7.cell? ⟨w6.heap.size, 1, none⟩ = some (.slice none 0 0) := WB.out.cell 1
    have f0 := WB.out.free 0
    have f1 := WB.out.free 1
    have ne1 : ¬ w6.heap.size = w.heap.size := by omega
    have ne2 : ¬ w.heap.size = w6.heap.size := by omega
    clear hHeld
    refine wpAnyH_ready (rs := [6]) (by kernel_rfl) (by simp) ?_
    refine AllReadyH.cons (o := Oper.mk none _ _ _ _ _) rfl (fun K hK => ?_) AllReadyH.nil
    go_simp
    refine hK.out _ _ ?_ (fun hHeld => ?_)
    · go_simp
    clear hK K
    refine wpAnyH_done (by kernel_rfl) ?_ _
    clear hHeld
    have B8 := hide ((B7.out.setCell (p := ⟨w6.heap.size, 0, none⟩) (by show w.heap.size ≤ w6.heap.size; omega) (.string t)).setCell (p := ⟨w6.heap.size, 1, none⟩) (by show w.heap.size ≤ w6.heap.size; omega) (.slice uo2 (n + 1) uc2))
    have WB8 := hide ((WB.out.setN 0 (.string t)).setN 1 (.slice uo2 (n + 1) uc2))
    have BR8 := hide ((BR7.out.setne (a := ⟨w6.heap.size, 0, none⟩) (by show ¬ w6.heap.size = w.heap.size + 1; omega) (.string t)).setne (a := ⟨w6.heap.size, 1, none⟩) (by show ¬ w6.heap.size = w.heap.size + 1; omega) (.slice uo2 (n + 1) uc2))
    have HO8 := hide (ownF_setne (a := ⟨w6.heap.size, 1, none⟩) (ownF_setne (a := ⟨w6.heap.size, 0, none⟩) HO7.out.1 HO7.out.2 (.string t)) HO7.out.2 (.slice uo2 (n + 1) uc2))
    obtain ⟨W8, hW8⟩ : ∃ W8, W8 = ((W7.setCell ⟨w6.heap.size, 0, none⟩ (.string t)).setCell ⟨w6.heap.size, 1, none⟩ (.slice uo2 (n + 1) uc2)) := ⟨_, rfl⟩
    have HW8 := hide hW8.symm
    rw [HW8.out] at B8 WB8 BR8 HO8
    obtain ⟨K, hK⟩ : ∃ K, K = w6.heap.size := ⟨_, rfl⟩
    have HK := hide hK.symm
    rw [HK.out] at WB8
    have C2 := hide (Check_any t (.slice uo2 (n + 1) uc2) (wrapL l s) W8 (HT.out.below B8.out) ht (OwnS.spv HO8.out) (bndW (Nat.le_of_eq WL.out) HL.out))
    rw [hm2] at C2
    clear hK hW8 WB BR7 BX7 HO7 B7 k0 k1 f0 f1 s7
    have d0 : W8.cell? ⟨w6.heap.size, 0, none⟩ = some (.string t) := by rw [HK.out]; exact WB8.out.cell 0
    have d1 : W8.cell? ⟨w6.heap.size, 1, none⟩ = some (.slice uo2 (n + 1) uc2) := by rw [HK.out]; exact WB8.out.cell 1
    go_wp2_with (simp only [HW8.out])
    refine C2.out.mono ?_
    rintro e w9 ⟨rfl, hb9⟩
    simp only [HK.out]
    have B9 := hide (B8.out.trans (hb9.mono B8.out.size))
    have WB9 := hide (WB8.out.below hb9 WB8.out.lt)
    have BR9 := hide (BR8.out.below hb9 BR8.out.lt)
    have HO9 := hide (ownF_below HO8.out hb9)
    clear hb9 B8 WB8 BR8 HO8 C2 d0 d1
    have e1 : errM true = 0 := rfl
    rw [e1]
    have c0 : w9.cell? ⟨K, 0, none⟩ = some (.string t) := WB9.out.cell 0
    have c1 : w9.cell? ⟨K, 1, none⟩ = some (.slice uo2 (n + 1) uc2) := WB9.out.cell 1
    have r0 : w9.cell? ⟨w.heap.size + 1, 0, none⟩ = some (.string ⟨#[]⟩) := BR9.out.cell 0
    have r1 : w9.cell? ⟨w.heap.size + 1, 1, none⟩ = some (.slice none 0 0) := BR9.out.cell 1
    have f0 := BR9.out.free 0
    have f1 := BR9.out.free 1
    go_wp2
    have BK := (BR9.out.setN 0 (.string t)).setN 1 (.slice uo2 (n + 1) uc2)
    exact bodyPost_ret (results_out rfl _ _ _ _ _ rfl BK) rfl ⟨hide ⟨uo2, uc2, rfl, ownF_mono (ownF_set (ownF_set HO9.out (by omega)) (by omega)) (by omega)⟩, (B9.out.setCell (p := ⟨w.heap.size + 1, 0, none⟩) (Nat.le_succ _) _).setCell (p := ⟨w.heap.size + 1, 1, none⟩) (Nat.le_succ _) _⟩
  · go_simp
    obtain ⟨W6, hW6⟩ : ∃ W6, W6 = (w5.alloc (.cells #[.string ⟨#[]⟩, .slice none 0 0] 25)).drew := ⟨_, rfl⟩
    have A6 := hide (show Below w5.heap.size w5 W6 by rw [hW6]; exact ((Below.refl _ _).alloc (Nat.le_refl _) _).drew)
    have WB6 : Hid (Blk W6 w5.heap.size #[.string ⟨#[]⟩, .slice none 0 0] 25) := hide (by rw [hW6]; exact Blk.newAt w5 _ rfl _ _)
    have Z6 := hide (B5.out.trans (A6.out.mono B5.out.size))
    have ZR6 := hide (BR5.out.below A6.out BR5.out.lt)
    have ZX6 := hide (BX5.out.below A6.out BX5.out.lt)
    have s6 : W6.cell? ⟨w.heap.size, 0, none⟩ = some (.string t) := ZX6.out.cell 0
    have HW6 := hide hW6.symm
    clear hW6
    simp only [HW6.out]
    refine hK.out _ _ ?_ (fun hHeld => ?_)
    · exact s6
    clear hK K
    refine wpAnyH_ready (rs := [3]) (by kernel_rfl) (by simp) ?_
    refine AllReadyH.cons (o := Oper.mk (some 27) _ _ _ _ _) rfl (fun K hK => ?_) AllReadyH.nil
    go_simp
    refine (OC.out W6 A6.out).mono ?_
    rintro e w7 ⟨HE, hb7⟩
    obtain ⟨uo2, uc2, rfl, ho7⟩ := HE.out
    have B7 := hide (Z6.out.trans (hb7.mono Z6.out.size))
    have BR7 := hide (ZR6.out.below hb7 ZR6.out.lt)
    have BX7 := hide (ZX6.out.below hb7 ZX6.out.lt)
    have WB := hide (WB6.out.below hb7 WB6.out.lt)
    have s7 : w7.cell? ⟨w.heap.size, 0, none⟩ = some (.string t) := BX7.out.cell 0
    have nK : w.heap.size + 1 < w5.heap.size := BR5.out.lt
    have HO7 : Hid (OwnS (w.heap.size + 2) w7 (.slice uo2 (n + 1) uc2) (wrapL l s) ∧ (.slice uo2 (n + 1) uc2 : Value).ownBlock ≠ some w5.heap.size) := hide ⟨ownF_mono ho7 ZR6.out.lt, fun e => by have q := (World.ownsRow.lt ho7 _ e).1; have := WB6.out.lt; omega⟩
    clear HE ho7 hb7 OC A6 WB6 Z6 ZR6 ZX6 s6 B5 BR5 BX5 HW6
    refine hK.out _ _ ?_ (fun hHeld => ?_)
    · exact s7
    clear hK K
    refine wpAnyH_take (i := 4) (oi := Oper.mk (some 28) _ _ _ _ _) (v := .agg #[.string t, .slice uo2 (n + 1) uc2]) rfl (by kernel_rfl) (by kernel_rfl) (by kernel_rfl) (fun _ _ _ h => h) (Or.inl ⟨by rfl, ?_⟩) (by assumption) ?_
    · intro wX hSw
      (try dsimp only at hSw)
      go_simp
    simp only [Act.put, List.setIfInBounds_toArray, List.set_cons_succ, List.set_cons_zero]
    have k0 : w7.cell? ⟨w5.heap.size, 0, none⟩ = some (.string ⟨#[]⟩) := WB.out.cell 0
    have k1 : w7.cell? ⟨w5.heap.size, 1, none⟩ = some (.slice none 0 0) := WB.out.cell 1
    have f0 := WB.out.free 0
    have f1 := WB.out.free 1
    have ne1 : ¬ w5.heap.size = w.heap.size := by omega
    have ne2 : ¬ w.heap.size = w5.heap.size := by omega
    clear hHeld
    refine wpAnyH_ready (rs := [6]) (by kernel_rfl) (by simp) ?_
    refine AllReadyH.cons (o := Oper.mk none _ _ _ _ _) rfl (fun K hK => ?_) AllReadyH.nil
    go_simp
    refine hK.out _ _ ?_ (fun hHeld => ?_)
    · go_simp
    clear hK K
    refine wpAnyH_done (by kernel_rfl) ?_ _
    clear hHeld
    have B8 := hide ((B7.out.setCell (p := ⟨w5.heap.size, 0, none⟩) (by show w.heap.size ≤ w5.heap.size; omega) (.string t)).setCell (p := ⟨w5.heap.size, 1, none⟩) (by show w.heap.size ≤ w5.heap.size; omega) (.slice uo2 (n + 1) uc2))
    have WB8 := hide ((WB.out.setN 0 (.string t)).setN 1 (.slice uo2 (n + 1) uc2))
    have BR8 := hide ((BR7.out.setne (a := ⟨w5.heap.size, 0, none⟩) (by show ¬ w5.heap.size = w.heap.size + 1; omega) (.string t)).setne (a := ⟨w5.heap.size, 1, none⟩) (by show ¬ w5.heap.size = w.heap.size + 1; omega) (.slice uo2 (n + 1) uc2))
    have HO8 := hide (ownF_setne (a := ⟨w5.heap.size, 1, none⟩) (ownF_setne (a := ⟨w5.heap.size, 0, none⟩) HO7.out.1 HO7.out.2 (.string t)) HO7.out.2 (.slice uo2 (n + 1) uc2))
    obtain ⟨W8, hW8⟩ : ∃ W8, W8 = ((w7.setCell ⟨w5.heap.size, 0, none⟩ (.string t)).setCell ⟨w5.heap.size, 1, none⟩ (.slice uo2 (n + 1) uc2)) := ⟨_, rfl⟩
    have HW8 := hide hW8.symm
    rw [HW8.out] at B8 WB8 BR8 HO8
    obtain ⟨K, hK⟩ : ∃ K, K = w5.heap.size := ⟨_, rfl⟩
    have HK := hide hK.symm
    rw [HK.out] at WB8
    have C2 := hide (Check_any t (.slice uo2 (n + 1) uc2) (wrapL l s) W8 (HT.out.below B8.out) ht (OwnS.spv HO8.out) (bndW (Nat.le_of_eq WL.out) HL.out))
    rw [hm2] at C2
    clear hK hW8 WB BR7 BX7 HO7 B7 k0 k1 f0 f1 s7
    have d0 : W8.cell? ⟨w5.heap.size, 0, none⟩ = some (.string t) := by rw [HK.out]; exact WB8.out.cell 0
    have d1 : W8.cell? ⟨w5.heap.size, 1, none⟩ = some (.slice uo2 (n + 1) uc2) := by rw [HK.out]; exact WB8.out.cell 1
    go_wp2_with (simp only [HW8.out])
    refine C2.out.mono ?_
    rintro e w9 ⟨rfl, hb9⟩
    simp only [HK.out]
    have B9 := hide (B8.out.trans (hb9.mono B8.out.size))
    have WB9 := hide (WB8.out.below hb9 WB8.out.lt)
    have BR9 := hide (BR8.out.below hb9 BR8.out.lt)
    have HO9 := hide (ownF_below HO8.out hb9)
    clear hb9 B8 WB8 BR8 HO8 C2 d0 d1
    have e1 : errM true = 0 := rfl
    rw [e1]
    have c0 : w9.cell? ⟨K, 0, none⟩ = some (.string t) := WB9.out.cell 0
    have c1 : w9.cell? ⟨K, 1, none⟩ = some (.slice uo2 (n + 1) uc2) := WB9.out.cell 1
    have r0 : w9.cell? ⟨w.heap.size + 1, 0, none⟩ = some (.string ⟨#[]⟩) := BR9.out.cell 0
    have r1 : w9.cell? ⟨w.heap.size + 1, 1, none⟩ = some (.slice none 0 0) := BR9.out.cell 1
    have f0 := BR9.out.free 0
    have f1 := BR9.out.free 1
    go_wp2
    have BK := (BR9.out.setN 0 (.string t)).setN 1 (.slice uo2 (n + 1) uc2)
    exact bodyPost_ret (results_out rfl _ _ _ _ _ rfl BK) rfl ⟨hide ⟨uo2, uc2, rfl, ownF_mono (ownF_set (ownF_set HO9.out (by omega)) (by omega)) (by omega)⟩, (B9.out.setCell (p := ⟨w.heap.size + 1, 0, none⟩) (Nat.le_succ _) _).setCell (p := ⟨w.heap.size + 1, 1, none⟩) (Nat.le_succ _) _⟩

end Go.Proofs.YtkgapklhgkngnaaDoor

namespace Go.Proofs.YtkgapklhgkngnaaDoor
open Go.RowKit

attribute [local go_sem ↓] Go.wp_at_zero Go.wp_at_succ

theorem sp_eqlF (s : Sp) (W : World) : (binOp .eql 31 (.agg #[.int .i64 s.f, .int .i64 s.a, .int .i64 s.b]) (.agg #[.int .i64 s.f, .int .i64 s.a, .int .i64 s.b])).run Tryd.prog W = .ok (.bool true) W := by
  simp [go_sem, Tryd.underlying31, Tryd.underlying3, Program.fieldsOf]
theorem sp_neqF (s : Sp) (W : World) : (binOp .neq 31 (.agg #[.int .i64 s.f, .int .i64 s.a, .int .i64 s.b]) (.agg #[.int .i64 s.f, .int .i64 s.a, .int .i64 s.b])).run Tryd.prog W = .ok (.bool false) W := by
  simp [go_sem, Tryd.underlying31, Tryd.underlying3, Program.fieldsOf]

set_option maxRecDepth 100000 in
set_option maxHeartbeats 4000000 in
theorem Same_true (t : ByteArray) (v v' : Value) (l : List Sp) (w : World) (hv : SpV w v l) (hv' : SpV w v' l) (hl : l.length ≤ 140737488355328) :
    Calls Tryd.prog 10 #[.agg #[.string t, v], .agg #[.string t, v']] w fun e w' => e = .returned (.bool true) ∧ Below w.heap.size w w' := by
  have HV := hide hv
  have HV' := hide hv'
  obtain ⟨ao, cap, rfl⟩ := hv.len
  obtain ⟨ao', cap', rfl⟩ := hv'.len
  obtain ⟨n, hn⟩ : ∃ n, n = l.length := ⟨_, rfl⟩
  rw [← hn] at HV HV' hl ⊢
  obtain ⟨W1, hW1⟩ : ∃ W1, W1 = (w.alloc (.cells #[.string t, .slice ao n cap] 25)).alloc (.cells #[.string t, .slice ao' n cap'] 25) := ⟨_, rfl⟩
  have B1 := hide (show Below w.heap.size w W1 by rw [hW1]; exact ((Below.refl _ _).alloc (Nat.le_refl _) _).alloc (Nat.le_of_lt (by rw [allocW_size]; exact Nat.lt_succ_self _)) _)
  have BX1 : Hid (Blk W1 w.heap.size #[.string t, .slice ao n cap] 25) := hide (by rw [hW1]; exact (Blk.newAt w _ rfl _ _).below ((Below.refl _ _).alloc (Nat.le_refl _) _) (by rw [allocW_size]; exact Nat.lt_succ_self _))
  have BY1 : Hid (Blk W1 (w.heap.size + 1) #[.string t, .slice ao' n cap'] 25) := hide (by rw [hW1]; exact Blk.newAt _ _ (allocW_size _ _) _ _)
  have HW := hide hW1.symm
  have HN := hide hn
  clear hW1 hv hv' hn
  go_enter Tryd.func10, Tryd.ntmps10
  have x0 := BX1.out.cell 0
  have x1 := BX1.out.cell 1
  have y0 := BY1.out.cell 0
  have y1 := BY1.out.cell 1
  go_wp2_with (simp only [HW.out])
  clear HW
  go_loopw [5] (fun x wr => ∃ i : Nat, i ≤ n ∧ x = .int .i64 (i : Int) ∧ Hid (Below W1.heap.size W1 wr)) (fun x _ => n - (intOf x).toNat)
  case atStart => exact ⟨0, Nat.zero_le _, rfl, hide (Below.refl _ _)⟩
  case round =>
    obtain ⟨i, hi, rfl, BR⟩ := hrel
    have x1 : wr.cell? ⟨w.heap.size, 1, none⟩ = some (.slice ao n cap) := (BX1.out.below BR.out BX1.out.lt).cell 1
    have y1 : wr.cell? ⟨w.heap.size + 1, 1, none⟩ = some (.slice ao' n cap') := (BY1.out.below BR.out BY1.out.lt).cell 1
    have BB := hide (B1.out.trans (BR.out.mono B1.out.size))
    by_cases hlt : i < n
    · have hlt' : (i : Int) < (n : Int) := by omega
      have hil : i < l.length := by rw [← HN.out]; exact hlt
      have HV2 := HV.out
      have HV3 := HV'.out
      rw [HN.out] at HV2 HV3
      cases HV2 with
      | none _ _ _ h => subst h; simp at hil
      | some b o cp hv hc hb ha =>
        cases HV3 with
        | none _ _ _ h => subst h; simp at hil
        | some b' o' cp' hv' hc' hb' ha' =>
          simp only [Value.slice.injEq] at hv hv'
          obtain ⟨rfl, _, rfl⟩ := hv
          obtain ⟨rfl, _, rfl⟩ := hv'
          obtain ⟨c0, c1, c2⟩ := (ha.below hb BB.out) i hil
          obtain ⟨d0, d1, d2⟩ := (ha'.below hb' BB.out) i hil
          have NE := sp_neqF (gN spZ l i)
          generalize gN spZ l i = s at *
          clear ha ha' hb hb' hc hc' hil BX1 BY1
          go_wp2_with fail
          refine wp_region_held_drew (S := fun X => X = wr.drew) (by kernel_rfl) ?_ (fun hHeld => ?_)
          · rfl
          refine wpAnyH_take (i := 0) (oi := Oper.mk (some 27) _ _ _ _ _) (v := .pointer (some ⟨w.heap.size, 1, none⟩)) rfl (by kernel_rfl) (by kernel_rfl) (by kernel_rfl) (fun _ _ _ h => h) (Or.inl ⟨by rfl, ?_⟩) (by assumption) ?_
          · intro wX hSw
            (try dsimp only at hSw)
            subst hSw
            go_simp
          simp only [Act.put, List.setIfInBounds_toArray, List.set_cons_succ, List.set_cons_zero]
          refine wpAnyH_take (i := 1) (oi := Oper.mk (some 28) _ _ _ _ _) (v := .slice (some ⟨b, o, none⟩) n cap) rfl (by kernel_rfl) (by kernel_rfl) (by kernel_rfl) (fun _ _ _ h => h) (Or.inl ⟨by rfl, ?_⟩) (by assumption) ?_
          · intro wX hSw
            (try dsimp only at hSw)
            subst hSw
            go_simp
          simp only [Act.put, List.setIfInBounds_toArray, List.set_cons_succ, List.set_cons_zero]
          refine wpAnyH_take (i := 2) (oi := Oper.mk (some 29) _ _ _ _ _) (v := .int .i64 (i : Int)) rfl (by kernel_rfl) (by kernel_rfl) (by kernel_rfl) (fun _ _ _ h => h) (Or.inl ⟨by rfl, ?_⟩) (by assumption) ?_
          · intro wX hSw
            (try dsimp only at hSw)
            subst hSw
            go_simp
          simp only [Act.put, List.setIfInBounds_toArray, List.set_cons_succ, List.set_cons_zero]
          refine wpAnyH_take (i := 3) (oi := Oper.mk (some 30) _ _ _ _ _) (v := .pointer (some ⟨b, o + i * 3, none⟩)) rfl (by kernel_rfl) (by kernel_rfl) (by kernel_rfl) (fun _ _ _ h => h) (Or.inl ⟨by rfl, ?_⟩) (by assumption) ?_
          · intro wX hSw
            (try dsimp only at hSw)
            subst hSw
            go_simp
          simp only [Act.put, List.setIfInBounds_toArray, List.set_cons_succ, List.set_cons_zero]
          refine wpAnyH_take (i := 4) (oi := Oper.mk (some 31) _ _ _ _ _) (v := .agg #[.int .i64 s.f, .int .i64 s.a, .int .i64 s.b]) rfl (by kernel_rfl) (by kernel_rfl) (by kernel_rfl) (fun _ _ _ h => h) (Or.inl ⟨by rfl, ?_⟩) (by assumption) ?_
          · intro wX hSw
            (try dsimp only at hSw)
            subst hSw
            go_simp
          simp only [Act.put, List.setIfInBounds_toArray, List.set_cons_succ, List.set_cons_zero]
          refine wpAnyH_take (i := 5) (oi := Oper.mk (some 32) _ _ _ _ _) (v := .pointer (some ⟨w.heap.size + 1, 1, none⟩)) rfl (by kernel_rfl) (by kernel_rfl) (by kernel_rfl) (fun _ _ _ h => h) (Or.inl ⟨by rfl, ?_⟩) (by assumption) ?_
          · intro wX hSw
            (try dsimp only at hSw)
            subst hSw
            go_simp
          simp only [Act.put, List.setIfInBounds_toArray, List.set_cons_succ, List.set_cons_zero]
          refine wpAnyH_take (i := 6) (oi := Oper.mk (some 33) _ _ _ _ _) (v := .slice (some ⟨b', o', none⟩) n cap') rfl (by kernel_rfl) (by kernel_rfl) (by kernel_rfl) (fun _ _ _ h => h) (Or.inl ⟨by rfl, ?_⟩) (by assumption) ?_
          · intro wX hSw
            (try dsimp only at hSw)
            subst hSw
            go_simp
          simp only [Act.put, List.setIfInBounds_toArray, List.set_cons_succ, List.set_cons_zero]
          refine wpAnyH_take (i := 7) (oi := Oper.mk (some 34) _ _ _ _ _) (v := .int .i64 (i : Int)) rfl (by kernel_rfl) (by kernel_rfl) (by kernel_rfl) (fun _ _ _ h => h) (Or.inl ⟨by rfl, ?_⟩) (by assumption) ?_
          · intro wX hSw
            (try dsimp only at hSw)
            subst hSw
            go_simp
          simp only [Act.put, List.setIfInBounds_toArray, List.set_cons_succ, List.set_cons_zero]
          refine wpAnyH_take (i := 8) (oi := Oper.mk (some 35) _ _ _ _ _) (v := .pointer (some ⟨b', o' + i * 3, none⟩)) rfl (by kernel_rfl) (by kernel_rfl) (by kernel_rfl) (fun _ _ _ h => h) (Or.inl ⟨by rfl, ?_⟩) (by assumption) ?_
          · intro wX hSw
            (try dsimp only at hSw)
            subst hSw
            go_simp
          simp only [Act.put, List.setIfInBounds_toArray, List.set_cons_succ, List.set_cons_zero]
          refine wpAnyH_take (i := 9) (oi := Oper.mk (some 36) _ _ _ _ _) (v := .agg #[.int .i64 s.f, .int .i64 s.a, .int .i64 s.b]) rfl (by kernel_rfl) (by kernel_rfl) (by kernel_rfl) (fun _ _ _ h => h) (Or.inl ⟨by rfl, ?_⟩) (by assumption) ?_
          · intro wX hSw
            (try dsimp only at hSw)
            subst hSw
            go_simp
          simp only [Act.put, List.setIfInBounds_toArray, List.set_cons_succ, List.set_cons_zero]
          refine wpAnyH_take (i := 10) (oi := Oper.mk (some 37) _ _ _ _ _) (v := .bool false) rfl (by kernel_rfl) (by kernel_rfl) (by kernel_rfl) (fun _ _ _ h => h) (Or.inl ⟨by rfl, ?_⟩) (by assumption) ?_
          · intro wX hSw
            (try dsimp only at hSw)
            subst hSw
            go_simp
          simp only [Act.put, List.setIfInBounds_toArray, List.set_cons_succ, List.set_cons_zero]
          refine wpAnyH_done (by kernel_rfl) ?_ _
          have BQ := hide (BR.out.drew)
          go_wp2
          exact ⟨⟨i + 1, by omega, by go_num, BQ⟩, by simp [intOf]; omega⟩
    · obtain rfl : i = n := by omega
      have hlt' : ¬ (i : Int) < (i : Int) := by omega
      go_wp2
      go_ret
      exact ⟨rfl, BB.out⟩

end Go.Proofs.YtkgapklhgkngnaaDoor

namespace Go.Proofs.YtkgapklhgkngnaaDoor
open Go.RowKit

theorem goS_le (p : Nat) : ∀ st : List Sp, (goS p st).length ≤ st.length
  | [] => Nat.le_refl _
  | s :: st => by
    unfold goS
    rw [List.dropWhile_cons]
    split
    · exact Nat.le_trans (goS_le p st) (Nat.le_succ _)
    · exact Nat.le_refl _
structure LvR (D : Nat) (t : ByteArray) (n : Nat) (l : List Sp) (R : List Pe) (W wr : World) (i : Nat) : Prop where
  ex : ∃ (st : List Sp) (a : Nat) (vo vl : Value) (lv : List Pe), CtV wr D t (a : Int) vo st.reverse vl lv ∧ a ≤ t.size ∧ RunOk t a st (l.drop i) ∧ lvs t (l.drop i) st a lv = R ∧ lv.length + st.length ≤ 2 * i ∧ Below D W wr

theorem bnd5 {x n i C : Nat} (h : (2 * n + 4) * 24 ≤ C) (hx : x ≤ 2 * i) (hi : i ≤ n) : (x + 2) * 24 ≤ C ∧ x ≤ C ∧ (x + 4) * 24 ≤ C := ⟨bndL h (by omega), Nat.le_trans (by omega) (bnd0 h), bndL h (by omega)⟩

set_option maxRecDepth 100000 in
set_option maxHeartbeats 8000000 in
theorem Leaves_no (t : ByteArray) (v : Value) (l : List Sp) (w : World) (hT : U8 w) (ht : t.size ≤ 9223372036854775807) (hv : SpV w v l) (hl : (l.length + 1) * 24 ≤ 140737488355328) (hm : mayB t l = false) :
    Calls Tryd.prog 18 #[.agg #[.string t, v]] w fun e w' => e = .returned (.tuple #[.slice none 0 0, .int .i64 170]) ∧ Below w.heap.size w w' := by
  obtain ⟨ao, cap, hv2⟩ := hv.len
  subst hv2
  obtain ⟨n, hn⟩ : ∃ n, n = l.length := ⟨_, rfl⟩
  obtain ⟨W1, hW1⟩ : ∃ W1, W1 = w.alloc (.cells #[.string t, .slice ao n cap] 25) := ⟨_, rfl⟩
  have B1 := hide (show Below w.heap.size w W1 by rw [hW1]; exact (Below.refl _ _).alloc (Nat.le_refl _) _)
  have BX1 : Hid (Blk W1 w.heap.size #[.string t, .slice ao n cap] 25) := hide (by rw [hW1]; exact Blk.newAt w _ rfl _ _)
  have HW := hide hW1.symm
  have C1 := hide (Check_any t _ l W1 (hT.below B1.out) ht (hv.below B1.out) hl)
  rw [hm] at C1
  rw [← hn] at C1 ⊢
  clear hW1 hv hT ht hl hm hn
  go_enter Tryd.func18, Tryd.ntmps18
  have c0 := BX1.out.cell 0
  have c1 := BX1.out.cell 1
  go_wp2_with (simp only [HW.out])
  refine C1.out.mono ?_
  rintro e w2 ⟨rfl, hb2⟩
  have B2 := hide (B1.out.trans (hb2.mono B1.out.size))
  have e1 : errM false = 170 := rfl
  rw [e1]
  clear hb2 C1 c0 c1
  go_wp2
  go_ret2
  exact ⟨rfl, B2.out⟩

set_option maxRecDepth 100000 in
set_option maxHeartbeats 16000000 in
theorem Leaves_yes (t : ByteArray) (v : Value) (l : List Sp) (w : World) (hT : U8 w) (ht : t.size ≤ 9223372036854775807) (hv : SpV w v l) (hl : (2 * l.length + 4) * 24 ≤ 140737488355328) (hm : mayB t l = true) :
    Calls Tryd.prog 18 #[.agg #[.string t, v]] w fun e w' => Hid (∃ uo uc, e = .returned (.tuple #[.slice uo (leavesP t l).length uc, .int .i64 0]) ∧ OwnP w.heap.size w' (.slice uo (leavesP t l).length uc) (leavesP t l)) ∧ Below w.heap.size w w' := by
  have HV := hide hv
  obtain ⟨ao, cap, hv2⟩ := hv.len
  subst hv2
  obtain ⟨n, hn⟩ : ∃ n, n = l.length := ⟨_, rfl⟩
  obtain ⟨R, hR⟩ : ∃ R, R = leavesP t l := ⟨_, rfl⟩
  obtain ⟨W1, hW1⟩ : ∃ W1, W1 = w.alloc (.cells #[.string t, .slice ao n cap] 25) := ⟨_, rfl⟩
  have B1 := hide (show Below w.heap.size w W1 by rw [hW1]; exact (Below.refl _ _).alloc (Nat.le_refl _) _)
  have BX1 : Hid (Blk W1 w.heap.size #[.string t, .slice ao n cap] 25) := hide (by rw [hW1]; exact Blk.newAt w _ rfl _ _)
  have HW := hide hW1.symm
  have C1 := hide (Check_any t _ l W1 (hT.below B1.out) ht (hv.below B1.out) (bndL hl (by omega)))
  have RO := hide (mayB_run hm)
  rw [hm] at C1
  rw [← hR]
  rw [← hn] at C1 HV hl ⊢
  have HN := hide hn
  have HR := hide hR
  have HL := hide hl
  have hnb : n ≤ 140737488355328 := Nat.le_trans (by omega) (bnd0 hl)
  clear hW1 hv hT ht hl hm hn hR
  go_enter Tryd.func18, Tryd.ntmps18
  have c0 := BX1.out.cell 0
  have c1 := BX1.out.cell 1
  go_wp2_with (simp only [HW.out])
  refine C1.out.mono ?_
  rintro e w2 ⟨rfl, hb2⟩
  have e1 : errM true = 0 := rfl
  rw [e1]
  have B2 := hide (B1.out.trans (hb2.mono B1.out.size))
  have BX2 := hide (BX1.out.below hb2 BX1.out.lt)
  have d0 := BX2.out.cell 0
  have d1 := BX2.out.cell 1
  obtain ⟨W3, hW3⟩ : ∃ W3, W3 = w2.alloc (.cells #[.string t, .int .i64 0, .slice none 0 0, .slice none 0 0] 75) := ⟨_, rfl⟩
  have B3 := hide (show Below w2.heap.size w2 W3 by rw [hW3]; exact (Below.refl _ _).alloc (Nat.le_refl _) _)
  obtain ⟨D, hD⟩ : ∃ D, D = w2.heap.size := ⟨_, rfl⟩
  have L0 : Hid (LvR D t n l R W3 W3 0) := hide ⟨[], 0, .slice none 0 0, .slice none 0 0, [], ⟨by rw [hW3]; exact Blk.newAt w2 D hD.symm _ _, ⟨rfl, .inl ⟨rfl, rfl⟩⟩, ⟨rfl, .inl ⟨rfl, rfl⟩⟩⟩, Nat.zero_le _, by rw [List.drop_zero]; exact RO.out, by rw [List.drop_zero, HR.out]; rfl, Nat.le_refl _, Below.refl _ _⟩
  have BX3 := hide (BX2.out.below B3.out BX2.out.lt)
  have BB3 := hide (B2.out.trans (B3.out.mono B2.out.size))
  have HW3 := hide hW3.symm
  have HDs := hide hD.symm
  have hwD : w.heap.size < D := by rw [hD]; exact BX2.out.lt
  have h3D : D < W3.heap.size := by obtain ⟨st, a, vo, vl, lv, q, _⟩ := L0.out.ex; exact q.blk.lt
  have f0 := BX3.out.cell 0
  have f1 := BX3.out.cell 1
  clear hb2 C1 c0 c1 hW3 HW B1 BX1 hD e1
  go_wp2_with (simp only [HW3.out])
  simp only [HDs.out]
  clear HW3 HDs d0 d1 f0 f1 BX2 B2
  go_loopw [16] (fun x wr => ∃ i : Nat, i ≤ n ∧ x = .int .i64 (i : Int) ∧ Hid (LvR D t n l R W3 wr i)) (fun x _ => n - (intOf x).toNat)
  case atStart => exact ⟨0, Nat.zero_le _, rfl, L0⟩
  case round =>
    obtain ⟨i, hi, rfl, HR2⟩ := hrel
    clear L0
    obtain ⟨st, a, vo, vl, lv, hct, hat, hrun, hlv, hlen, hbel⟩ := HR2.out.ex
    have BB : Hid (Below w.heap.size w wr) := hide (BB3.out.trans (hbel.mono (Nat.le_of_lt hwD)))
    have hDr : D < wr.heap.size := hct.blk.lt
    have BX : Hid (Blk wr w.heap.size #[.string t, .slice ao n cap] 25) := hide (BX3.out.below hbel hwD)
    have hb5 := bnd5 HL.out hlen hi
    by_cases hlt : i < n
    · have hlt' : (i : Int) < (n : Int) := by omega
      have hil : i < l.length := by rw [← HN.out]; exact hlt
      have HV2 := HV.out
      rw [HN.out] at HV2
      cases HV2 with
      | none _ _ _ h => subst h; simp at hil
      | some b o cp hv hc hb ha =>
        simp only [Value.slice.injEq] at hv
        obtain ⟨rfl, _, rfl⟩ := hv
        obtain ⟨c0, c1, c2⟩ := (ha.below hb BB.out) i hil
        have ED : l.drop i = gN spZ l i :: l.drop (i + 1) := by rw [List.drop_eq_getElem_cons hil]; congr 1; unfold gN; rw [List.getElem?_eq_getElem hil]; rfl
        rw [ED] at hrun hlv
        rw [lvs] at hlv
        generalize gN spZ l i = s at *
        obtain ⟨sf, sa, sb⟩ := s
        obtain ⟨r1, r2, r3, r4⟩ := hrun.step
        simp only [] at c0 c1 c2 r1 r2 r3 r4 hlv
        obtain ⟨p, rfl⟩ : ∃ p : Nat, sa = (p : Int) := ⟨sa.toNat, by omega⟩
        have hnn := hrun.ends
        rw [Int.toNat_natCast] at r4 hlv
        have hbw : b < wr.heap.size := Nat.lt_of_lt_of_le hb BB.out.size
        have n1 : ¬ wr.heap.size = b := by omega
        have n2 : ¬ b = wr.heap.size := by omega
        have n3 : ¬ wr.heap.size = D := by omega
        have n4 : ¬ D = wr.heap.size := by omega
        obtain ⟨W4, hW4⟩ : ∃ W4, W4 = wr.alloc (.cells #[.int .i64 sf, .int .i64 (p : Int), .int .i64 sb] 31) := ⟨_, rfl⟩
        have B4 := hide (show Below wr.heap.size wr W4 by rw [hW4]; exact (Below.refl _ _).alloc (Nat.le_refl _) _)
        have SB : Hid (Blk W4 wr.heap.size #[.int .i64 sf, .int .i64 (p : Int), .int .i64 sb] 31) := hide (by rw [hW4]; exact Blk.newAt wr _ rfl _ _)
        have CG := hide (goTo_any a p (hct.below B4.out) (by omega) (by omega) hnn (bndL hb5.1 (Nat.le_refl _)) (Nat.le_trans (by omega) hb5.2.1))
        have k1 := SB.out.cell 1
        have HW4 := hide hW4.symm
        have R4 := hide r4
        have LV := hide hlv
        have GL := hide (goL_len t p st a lv)
        have HLEN := hide hlen
        have HBEL := hide hbel
        have HB5 := hide hb5
        have hps : p ≤ t.size := by omega
        obtain ⟨G, hG⟩ : ∃ G, G = wr.heap.size := ⟨_, rfl⟩
        have HGs := hide hG.symm
        have hGD : G ≠ D := by omega
        rw [← hG] at SB
        clear hW4 r1 r2 r3 r4 hlv hct hrun hnn hlen hbel hb5 ha hb hc ED hil HR2 hG
        go_wp2_with (simp only [HW4.out])
        simp only [HGs.out]
        refine CG.out.mono ?_
        rintro e w5 ⟨rfl, q1, q2, q3⟩
        obtain ⟨vo5, vl5, h5⟩ := q1.out
        have SB5 := hide (q3.blk SB.out hGD (by decide))
        have e0 : Hid (Below D W3 w5) := hide ((HBEL.out.trans (B4.out.mono (Nat.le_of_lt hDr))).trans q2)
        obtain ⟨oo, oc, rfl⟩ := ownF_slice h5.op
        obtain ⟨m, hm⟩ : ∃ m, m = (goS p st).reverse.length := ⟨_, rfl⟩
        have hml : m ≤ st.length := by rw [hm, List.length_reverse]; exact goS_le p st
        rw [← hm] at h5
        have H5 := hide h5
        have HM := hide hm
        have A6 := hide (show Below w5.heap.size w5 (w5.alloc (.cells #[.int .i64 sf, .int .i64 (p : Int), .int .i64 sb] 31)) from (Below.refl _ _).alloc (Nat.le_refl _) _)
        have H6 := hide (H5.out.below A6.out)
        have TB : Hid (Blk (w5.alloc (.cells #[.int .i64 sf, .int .i64 (p : Int), .int .i64 sb] 31)) w5.heap.size #[.int .i64 sf, .int .i64 (p : Int), .int .i64 sb] 31) := hide (Blk.newAt w5 _ rfl _ _)
        have B6 : Hid (Below D W3 (w5.alloc (.cells #[.int .i64 sf, .int .i64 (p : Int), .int .i64 sb] 31))) := hide (e0.out.trans (A6.out.mono (Nat.le_of_lt h5.blk.lt)))
        have LM : Hid ((m + 1) * 24 ≤ 140737488355328) := hide (bndL HB5.out.1 (by omega))
        have BASE : Hid (D + 1 ≤ (w5.alloc (.cells #[.int .i64 sf, .int .i64 (p : Int), .int .i64 sb] 31)).heap.size) := hide H6.out.blk.lt
        have k2 := h5.blk.cell 2
        have k3 := SB5.out.cell 0
        have k4 := SB5.out.cell 1
        have k5 := SB5.out.cell 2
        have GK : Hid (∀ w7, (w5.alloc (.cells #[.int .i64 sf, .int .i64 (p : Int), .int .i64 sb] 31)).grownBy w7 (Value.slice oo m oc).ownBlock → Blk w7 D #[.string t, .int .i64 (p : Int), .slice oo m oc, vl5] 75 ∧ OwnP (D + 1) w7 vl5 (goL t p st a lv) ∧ Below D W3 w7) := hide (fun w7 hg => by
          have hov := H6.out.op
          have hlo : ∀ q, (Value.slice oo m oc).ownBlock = some q → D + 1 ≤ q := fun q hq => (World.ownsRow.lt hov q hq).1
          have bk := H6.out.blk
          have ol := H6.out.lv
          refine ⟨?_, ⟨ol.1, ?_⟩, B6.out.grown hg (Nat.le_of_succ_le BASE.out) (fun q hq => Nat.le_of_succ_le (hlo q hq))⟩
          · have hb := bk.lt
            unfold Blk at *
            rw [hg.block D hb (fun e => by have := hlo D e.symm; omega)]
            exact bk
          · rcases ol.2 with h2 | ⟨g, cap, cur, hv, h3, h4, h5⟩
            · exact .inl h2
            · refine .inr ⟨g, cap, cur, hv, h3, ?_, h5⟩
              rw [hg.block g (lt_of_block h4) (fun e => own_apartF ol hov (by decide) g (by rw [hv]; rfl) e.symm)]
              exact h4)
        clear q1 q2 q3 CG k1 h5 hm SB B4
        go_wp2_with (at_builtin; refine wpSp_appendN rfl _ _ rfl (D + 1) (.slice oo m oc) (goS p st).reverse m HM.out.symm rfl H6.out.op w5.heap.size ⟨sf, (p : Int), sb⟩ rfl TB.out LM.out BASE.out ?_; intro uo uc w7 hown hgr; have z0 := (GK.out w7 hgr).1.cell 2; have z1 := (GK.out w7 hgr).1.free 2)
        obtain ⟨GX, GP, GB⟩ := GK.out w7 hgr
        have E7 : Hid (LvR D t n l R W3 (w7.setCell ⟨D, 2, none⟩ (.slice uo (m + 1) uc)) (i + 1)) := hide ⟨⟨sf, (p : Int), sb⟩ :: goS p st, p, .slice uo (m + 1) uc, vl5, goL t p st a lv, ⟨GX.setN 2 _, by rw [List.reverse_cons]; exact ownF_set hown (Nat.lt_succ_self D), ownF_set GP (Nat.lt_succ_self D)⟩, hps, R4.out, LV.out, by have := GL.out; have := HLEN.out; rw [List.length_cons]; omega, GB.setCell (p := ⟨D, 2, none⟩) (Nat.le_refl _) _⟩
        exact ⟨⟨i + 1, by omega, by go_num, E7⟩, by simp [intOf]; omega⟩
    · obtain rfl : i = n := by omega
      have hlt' : ¬ (i : Int) < (i : Int) := by omega
      have ED : l.drop i = [] := List.drop_eq_nil_of_le (by rw [← HN.out]; exact Nat.le_refl _)
      rw [ED] at hrun hlv
      rw [lvs] at hlv
      have CG := hide (goTo_any a t.size hct hat (Nat.le_refl _) hrun.ends (bndL hb5.1 (Nat.le_refl _)) (Nat.le_trans (by omega) hb5.2.1))
      rw [hlv] at CG
      have c0 := BX.out.cell 0
      have HB := hide hbel
      clear hct hat hrun hlv hlen hbel hb5 ED HR2 hlt RO HR HL BX3 B3
      go_wp2_with fail
      refine CG.out.mono ?_
      rintro e w5 ⟨rfl, q1, q2, q3⟩
      obtain ⟨vo5, vl5, h5⟩ := q1.out
      obtain ⟨lo, lc, rfl⟩ := ownF_slice h5.lv
      have c3 := h5.blk.cell 3
      have E5 : Hid (∃ uo uc, Ending.returned (.tuple #[.slice lo R.length lc, .int .i64 0]) = .returned (.tuple #[.slice uo R.length uc, .int .i64 0]) ∧ OwnP w.heap.size w5 (.slice uo R.length uc) R) := hide ⟨lo, lc, rfl, World.ownsRow.mono h5.lv (by omega)⟩
      have B5 := hide (BB3.out.trans ((HB.out.trans q2).mono (Nat.le_of_lt hwD)))
      clear q1 q2 q3 CG h5 HB c0 BB BX
      go_wp2
      go_ret2
      exact ⟨E5, B5.out⟩
end Go.Proofs.YtkgapklhgkngnaaDoor
