/-
  Of a list of spans: does one cross another?
  Do the spans stand in order; may an Out be?
  What Check answers.
  A variable's cells, all at once; a variable behind what was laid and called.
  Pieces in memory; the cutter: innermost, cut.
  The cutter's cut.
-/
import Derived.Test.YtkgapklhgkngnaaDoorEB3
import Derived.Test.YtkgapklhgkngnaaDoorEB2
namespace Go.Proofs.YtkgapklhgkngnaaDoor
open Go.RowKit

attribute [local go_sem ↓] Go.wp_at_zero Go.wp_at_succ

theorem infoI : (Tryd.prog.info? 3).map (fun i => (i.zero, i.size, i.bytes)) = some (some (.int .i64 0), 1, 8) := by kernel_rfl
def cellsI (E : List Int) : List Value := E.map (Value.int .i64)
def OwnI (B : Nat) (w : World) (v : Value) (E : List Int) : Prop := w.ownsRow B 3 1 v E.length (cellsI E)
theorem wpI_append {w : World} {ops : Array Oper} {rest : List Oper} {o : Oper} {a : Act} {Q : Exit → Act → World → Prop} (hgd : o.guard = none) (s x : Operand)
    (ho : o.op = .call { callee := .builtin .append, args := #[s, x], argTypes := #[53, 53] })
    (base : Nat) (v : Value) (E : List Int) (n : Nat) (hn : E.length = n) (hs : a.eval s = v) (hown : OwnI base w v E)
    (g : Nat) (t : Int) (hx : a.eval x = .slice (some ⟨g, 0, none⟩) 1 1) (hsrc : Blk w g #[.int .i64 t] 3) (hb : (n + 1) * 8 ≤ 140737488355328) (hbase : base ≤ w.heap.size)
    (h : ∀ uo uc w', OwnI base w' (.slice uo (n + 1) uc) (E ++ [t]) → w.grownBy w' v.ownBlock → wpList Tryd.prog ops Q rest (a.put o.dst (.slice uo (n + 1) uc)) w') : wpList Tryd.prog ops Q (o :: rest) a w := by
  obtain ⟨i0, hi, hz0, hz1, hz2⟩ := info_parts infoI
  subst hn
  refine wpList_append_own w hgd s x _ ho base _ i0 (.int .i64 0) 1 8 Tryd.underlying53 hi hz0 hz1 hz2 rfl (by decide) v E.length (cellsI E) hs hown ⟨g, 0, none⟩ 1 1 [.int .i64 t] hx rfl (fun j u hj => ?_) (fun u hu => ?_) (by unfold maxLen; omega) hb hbase (fun v' w' h3 h4 _ => ?_)
  · rw [Addr.add_lit, Nat.zero_add, hsrc.cell j]
    simpa using hj
  · obtain rfl := List.mem_singleton.1 hu
    rfl
  · obtain ⟨uo, uc, rfl⟩ := ownF_slice h3
    refine h uo uc w' ?_ h4
    unfold OwnI cellsI
    rw [List.map_append, List.length_append, List.length_singleton]
    exact h3
theorem OwnI.top {B : Nat} {w : World} {g n cap : Nat} {E : List Int} {t : Int} (h : OwnI B w (.slice (some ⟨g, 0, none⟩) (n + 1) cap) (E ++ [t])) (hn : E.length = n) : w.cell? ⟨g, n, none⟩ = some (.int .i64 t) := by
  subst hn
  unfold OwnI cellsI at h
  rw [List.length_append, List.length_singleton] at h
  rw [(own_get h E.length (by omega)).1]
  simp
theorem OwnI.cut {B : Nat} {w : World} {g n cap : Nat} {E : List Int} {t : Int} (h : OwnI B w (.slice (some ⟨g, 0, none⟩) (n + 1) cap) (E ++ [t])) (hn : E.length = n) : OwnI B w (.slice (some ⟨g, 0, none⟩) n cap) E := by
  subst hn
  unfold OwnI cellsI at *
  rw [List.length_append, List.length_singleton] at h
  have q := own_less h E.length (Nat.le_succ _)
  rw [Nat.mul_one, List.map_append, List.take_left' (by rw [List.length_map])] at q
  exact q

def crsP : List Int → List Sp → Bool
  | _, [] => false
  | st, s :: l => (match st.dropWhile (fun t => decide (t ≤ s.a)) with | t :: _ => decide (t < s.b) | [] => false) || crsP (s.b :: st.dropWhile (fun t => decide (t ≤ s.a))) l
def topLt (st : List Int) (b : Int) : Bool := match st with | t :: _ => decide (t < b) | [] => false
theorem snocF {α : Type} (l : List α) : l = [] ∨ ∃ L b, l = L ++ [b] := by
  rcases List.eq_nil_or_concat l with h | ⟨L, b, h⟩
  · exact .inl h
  · exact .inr ⟨L, b, by rw [h, List.concat_eq_append]⟩
theorem crsP_cons (st : List Int) (s : Sp) (l : List Sp) : crsP st (s :: l) = (topLt (st.dropWhile (fun t => decide (t ≤ s.a))) s.b || crsP (s.b :: st.dropWhile (fun t => decide (t ≤ s.a))) l) := rfl

set_option maxRecDepth 100000 in
set_option maxHeartbeats 8000000 in
theorem crossed_any (v : Value) (l : List Sp) (w : World) (hv : SpV w v l) (hl : (l.length + 1) * 24 ≤ 140737488355328) :
    Calls Tryd.prog 38 #[v] w fun e w' => e = .returned (.bool (crsP [] l)) ∧ Below w.heap.size w w' := by
  have HV := hide hv
  obtain ⟨ao, cap, rfl⟩ := hv.len
  obtain ⟨n, hn⟩ : ∃ n, n = l.length := ⟨_, rfl⟩
  obtain ⟨R, hR⟩ : ∃ R, R = crsP [] l := ⟨_, rfl⟩
  rw [← hn] at hl ⊢
  rw [← hR]
  have HN := hide hn
  have HR := hide hR
  have O0 : Hid (OwnI w.heap.size w (.slice none 0 0) []) := hide ⟨rfl, .inl ⟨rfl, rfl⟩⟩
  clear hn hR hv
  go_enter Tryd.func38, Tryd.ntmps38
  go_wp2
  go_loopw [3, 8] (fun x y wr => ∃ (i : Nat) (E : List Int), i ≤ n ∧ E.length ≤ i ∧ y = .int .i64 (i : Int) ∧ Hid (OwnI w.heap.size wr x E) ∧ Hid (crsP E.reverse (l.drop i) = R) ∧ Hid (Below w.heap.size w wr)) (fun _ y _ => n - (intOf y).toNat)
  case atStart => exact ⟨0, [], Nat.zero_le _, Nat.le_refl _, rfl, O0, hide HR.out.symm, Below.refl _ _⟩
  case round =>
    obtain ⟨i, E, hi, hE, rfl, OW, HF, BB⟩ := hrel
    clear O0
    by_cases hlt : i < n
    · have hlt' : (i : Int) < (n : Int) := by omega
      have hil : i < l.length := by rw [← HN.out]; exact hlt
      have HV2 := HV.out
      rw [← HN.out] at HV2
      cases HV2 with
      | none _ _ _ h => subst h; simp at hil
      | some b o cp hv hc hb ha =>
        rw [← HN.out] at hv
        simp only [Value.slice.injEq] at hv
        obtain ⟨rfl, _, rfl⟩ := hv
        obtain ⟨c0, c1, c2⟩ := (ha.below hb BB.out) i hil
        have ED : l.drop i = gN spZ l i :: l.drop (i + 1) := by rw [List.drop_eq_getElem_cons hil]; congr 1; unfold gN; rw [List.getElem?_eq_getElem hil]; rfl
        have HF2 := HF.out
        rw [ED, crsP_cons] at HF2
        generalize gN spZ l i = s at *
        obtain ⟨sf, sa, sb⟩ := s
        simp only [] at c0 c1 c2 HF2
        have HF3 := hide HF2
        have hbw : b < wr.heap.size := Nat.lt_of_lt_of_le hb BB.out.size
        have n1 : ¬ wr.heap.size = b := by omega
        have n2 : ¬ b = wr.heap.size := by omega
        obtain ⟨W2, hW2⟩ : ∃ W2, W2 = wr.alloc (.cells #[.int .i64 sf, .int .i64 sa, .int .i64 sb] 31) := ⟨_, rfl⟩
        have AB := hide (show Below wr.heap.size wr W2 by rw [hW2]; exact (Below.refl _ _).alloc (Nat.le_refl _) _)
        have SB : Hid (Blk W2 wr.heap.size #[.int .i64 sf, .int .i64 sa, .int .i64 sb] 31) := hide (by rw [hW2]; exact Blk.newAt wr _ rfl _ _)
        have O2 := hide (show OwnI w.heap.size W2 _ E from ownF_below OW.out AB.out)
        have B2 := hide (BB.out.trans (AB.out.mono BB.out.size))
        have HW2 := hide hW2.symm
        have BS := hide BB.out.size
        clear HF2 ED HF hil ha hb hc hW2 OW BB
        obtain ⟨w1, hw1⟩ : ∃ w1, w1 = wr := ⟨_, rfl⟩
        subst hw1
        obtain ⟨S, hS⟩ : ∃ S, S = w1.heap.size := ⟨_, rfl⟩
        have hSw : w.heap.size ≤ S := by rw [hS]; exact BS.out
        rw [← hS] at SB
        have HS := hide hS.symm
        obtain ⟨D, hD⟩ : ∃ D, D = E.reverse.dropWhile (fun t => decide (t ≤ sa)) := ⟨_, rfl⟩
        rw [← hD] at HF3
        have HD := hide hD.symm
        clear hS hD
        go_wp2_with (simp only [HW2.out])
        simp only [HS.out]
        clear HW2 c0 c1 c2
        go_loopw [3] (fun x wr => ∃ E' : List Int, E'.length ≤ i ∧ Hid (OwnI w.heap.size wr x E') ∧ Hid (E'.reverse.dropWhile (fun t => decide (t ≤ sa)) = D) ∧ Hid (Blk wr S #[.int .i64 sf, .int .i64 sa, .int .i64 sb] 31) ∧ Hid (Below w.heap.size w wr)) (fun x _ => slLen x)
        case atStart => exact ⟨E, hE, O2, HD, SB, B2⟩
        case round =>
          obtain ⟨E', hE', OW, HT, SB', BB⟩ := hrel
          clear O2 HD SB B2 AB hE
          have c1 := SB'.out.cell 1
          have c2 := SB'.out.cell 2
          rcases snocF E' with rfl | ⟨E2, t, rfl⟩
          · obtain ⟨xo, xc, rfl⟩ : ∃ xo xc, _ = Value.slice xo 0 xc := ownF_slice OW.out
            have ET : D = [] := HT.out.symm
            subst ET
            have HF4 : Hid (crsP [sb] (l.drop (i + 1)) = R) := hide (by rw [← HF3.out]; rfl)
            clear HF3 HT
            go_wp2_with fail
            go_region
            go_wp2_with fail
            go_region
            have OW3 := hide (own_drew (own_drew OW.out))
            have B3 := hide (BB.out.drew.drew)
            have d2 : wr.drew.drew.cell? ⟨S, 2, none⟩ = some (.int .i64 sb) := c2
            generalize wr.drew.drew = w3 at *
            clear c1 c2 OW BB SB'
            have LN : Hid ((0 + 1) * 8 ≤ 140737488355328) := hide (by omega)
            have AB := hide (show Below w3.heap.size w3 (w3.alloc (.cells #[.int .i64 sb] 3)) from (Below.refl _ _).alloc (Nat.le_refl _) _)
            have O4 : Hid (OwnI w.heap.size (w3.alloc (.cells #[.int .i64 sb] 3)) (.slice xo 0 xc) []) := hide (ownF_below OW3.out AB.out)
            have TB : Hid (Blk (w3.alloc (.cells #[.int .i64 sb] 3)) w3.heap.size #[.int .i64 sb] 3) := hide (Blk.newAt w3 _ rfl _ _)
            have BS3 := hide (show w.heap.size ≤ (w3.alloc (.cells #[.int .i64 sb] 3)).heap.size by have := B3.out.size; have := AB.out.size; omega)
            have B4 := hide (B3.out.trans (AB.out.mono B3.out.size))
            clear B3 AB OW3
            go_wp2_with (at_builtin; refine wpI_append rfl _ _ rfl w.heap.size (.slice xo 0 xc) [] 0 rfl rfl O4.out w3.heap.size sb rfl TB.out LN.out BS3.out ?_; intro uo uc w5 hown hgr)
            have O5 := hide hown
            have B5 := hide (B4.out.grown hgr BS3.out (fun b hb => (World.ownsRow.lt O4.out b hb).1))
            clear hown hgr O4 TB BS3 B4 LN
            exact ⟨⟨i + 1, [] ++ [sb], by omega, by simp, by go_num, O5, hide (by exact HF4.out), B5⟩, by simp [intOf]; omega⟩
          · have hl2 : (E2 ++ [t]).length = E2.length + 1 := by simp
            obtain ⟨m, hm⟩ : ∃ m, m = E2.length := ⟨_, rfl⟩
            obtain ⟨N, hN0⟩ : ∃ N, N = (E2 ++ [t]).length := ⟨_, rfl⟩
            have hN : N = m + 1 := by rw [hN0, hl2, hm]
            rw [← hN0] at hE'
            obtain ⟨g, xc, hv, hg1, hg2, hg3⟩ := ownF_some OW.out (by rw [hl2]; omega)
            rw [← hN0] at hv hg3
            subst hv
            have ct := OwnI.top (n := m) (by rw [← hN]; exact OW.out) hm.symm
            have OC := hide (OwnI.cut (n := m) (by rw [← hN]; exact OW.out) hm.symm)
            have HM := hide hm
            have k1 : IntKind.i64.wrap ((N : Int) - 1) = (m : Int) := by rw [show (N : Int) - 1 = (m : Int) by omega]; exact IntWalk.i64_in _ (by omega)
            have k2 : (m : Int) < (N : Int) := by omega
            have k3 : 0 < N := by omega
            have k4 : (m : Int) ≤ (xc : Int) := by omega
            have HNN := hide hN
            have RV : (E2 ++ [t]).reverse = t :: E2.reverse := by simp
            rw [RV] at HT
            clear hm hN hN0 hl2
            by_cases hta : t ≤ sa
            · have HT2 : Hid (E2.reverse.dropWhile (fun t => decide (t ≤ sa)) = D) := hide (by rw [← HT.out, List.dropWhile_cons, if_pos (by simpa using hta)])
              have SBD := hide (show Blk wr.drew S #[.int .i64 sf, .int .i64 sa, .int .i64 sb] 31 from SB'.out)
              have OCD := hide (own_drew OC.out)
              have BBD := hide BB.out.drew
              clear HT
              go_wp2_with fail
              go_region
              go_wp2
              exact ⟨⟨E2, by have := HM.out; have := HNN.out; omega, OCD, HT2, SBD, BBD⟩, by show m < N; have := HNN.out; omega⟩
            · have ED2 : D = t :: E2.reverse := by rw [← HT.out, List.dropWhile_cons, if_neg (by simpa using hta)]
              rw [ED2] at HF3
              clear HT ED2
              by_cases htb : t < sb
              · have E1 : R = true := by rw [← HF3.out]; simp [topLt, htb]
                clear HF3 HR
                subst E1
                go_wp2_with fail
                go_region
                go_wp2_with fail
                go_region
                go_wp2
                go_ret
                exact ⟨rfl, BB.out.drew.drew⟩
              · have HF4 : Hid (crsP (sb :: t :: E2.reverse) (l.drop (i + 1)) = R) := hide (by rw [← HF3.out]; simp [topLt, htb])
                clear HF3
                go_wp2_with fail
                go_region
                go_wp2_with fail
                go_region
                have OW3 := hide (own_drew (own_drew OW.out))
                have B3 := hide (BB.out.drew.drew)
                have d2 : wr.drew.drew.cell? ⟨S, 2, none⟩ = some (.int .i64 sb) := c2
                generalize wr.drew.drew = w3 at *
                clear c1 c2 OW BB SB'
                clear ct OC k1 k2 k3 k4
                have LEN2 : (E2 ++ [t]).length = N := by rw [HNN.out, HM.out]; simp
                have LN : Hid ((N + 1) * 8 ≤ 140737488355328) := hide (by omega)
                have AB := hide (show Below w3.heap.size w3 (w3.alloc (.cells #[.int .i64 sb] 3)) from (Below.refl _ _).alloc (Nat.le_refl _) _)
                have O4 : Hid (OwnI w.heap.size (w3.alloc (.cells #[.int .i64 sb] 3)) (.slice (some ⟨g, 0, none⟩) N xc) (E2 ++ [t])) := hide (ownF_below OW3.out AB.out)
                have TB : Hid (Blk (w3.alloc (.cells #[.int .i64 sb] 3)) w3.heap.size #[.int .i64 sb] 3) := hide (Blk.newAt w3 _ rfl _ _)
                have BS3 := hide (show w.heap.size ≤ (w3.alloc (.cells #[.int .i64 sb] 3)).heap.size by have := B3.out.size; have := AB.out.size; omega)
                have B4 := hide (B3.out.trans (AB.out.mono B3.out.size))
                clear B3 AB OW3
                go_wp2_with (at_builtin; refine wpI_append rfl _ _ rfl w.heap.size (.slice (some ⟨g, 0, none⟩) N xc) (E2 ++ [t]) N LEN2 rfl O4.out w3.heap.size sb rfl TB.out LN.out BS3.out ?_; intro uo uc w5 hown hgr)
                have O5 := hide hown
                have B5 := hide (B4.out.grown hgr BS3.out (fun b hb => (World.ownsRow.lt O4.out b hb).1))
                clear hown hgr O4 TB BS3 B4 LN
                exact ⟨⟨i + 1, (E2 ++ [t]) ++ [sb], by omega, by rw [List.length_append, LEN2, List.length_singleton]; omega, by go_num, O5, hide (by rw [List.reverse_append, List.reverse_append]; exact HF4.out), B5⟩, by simp [intOf]; omega⟩
    · obtain rfl : i = n := by omega
      have hlt' : ¬ (i : Int) < (i : Int) := by omega
      have E1 : R = false := by rw [← HF.out, List.drop_eq_nil_of_le (by rw [← HN.out]; exact Nat.le_refl _)]; rfl
      clear HF HR hlt
      subst E1
      go_wp2
      go_ret
      exact ⟨rfl, BB.out⟩
end Go.Proofs.YtkgapklhgkngnaaDoor

namespace Go.Proofs.YtkgapklhgkngnaaDoor
open Go.RowKit

attribute [local go_sem ↓] Go.wp_at_zero Go.wp_at_succ

instance (l : List Sp) : Decidable (SrtS l) := by unfold SrtS; exact inferInstance
def srtB (l : List Sp) : Bool := decide (SrtS l)
theorem leS_trans {a b c : Sp} (h1 : ¬ LtS b a) (h2 : ¬ LtS c b) : ¬ LtS c a := by unfold LtS at *; omega
theorem srt_adj (l : List Sp) : SrtS l ↔ ∀ j, 0 < j → j < l.length → ¬ LtS (gN spZ l j) (gN spZ l (j - 1)) := by
  have eg : ∀ i (h : i < l.length), gN spZ l i = l[i] := fun i h => by unfold gN; rw [List.getElem?_eq_getElem h]; rfl
  unfold SrtS
  rw [List.pairwise_iff_getElem]
  constructor
  · intro h j h0 h1
    rw [eg j h1, eg (j - 1) (by omega)]
    exact h (j - 1) j (by omega) h1 (by omega)
  · intro h i j hi hj hij
    have q : ∀ d, i + (d + 1) < l.length → ¬ LtS (gN spZ l (i + (d + 1))) (gN spZ l i) := by
      intro d
      induction d with
      | zero => intro hd; exact h (i + 1) (by omega) hd
      | succ d ih =>
        intro hd
        exact leS_trans (ih (by omega)) (h (i + (d + 1 + 1)) (by omega) hd)
    have := q (j - i - 1) (by omega)
    rw [show i + (j - i - 1 + 1) = j by omega, eg i hi, eg j hj] at this
    exact this

set_option maxRecDepth 100000 in
set_option maxHeartbeats 4000000 in
theorem sorted_any (v : Value) (l : List Sp) (w : World) (hv : SpV w v l) (hl : l.length ≤ 140737488355328) :
    Calls Tryd.prog 36 #[v, .func (.func 37) #[] #[]] w fun e w' => e = .returned (.bool (srtB l)) ∧ Below w.heap.size w w' := by
  have HV := hide hv
  obtain ⟨ao, cap, rfl⟩ := hv.len
  obtain ⟨n, hn⟩ : ∃ n, n = l.length := ⟨_, rfl⟩
  obtain ⟨R, hR⟩ : ∃ R, R = srtB l := ⟨_, rfl⟩
  rw [← hn] at hl ⊢
  rw [← hR]
  have HN := hide hn
  have HR := hide hR
  have k0 : IntKind.i64.wrap ((n : Int) - 1) = (n : Int) - 1 := IntWalk.i64_in _ (by omega)
  clear hn hR hv
  go_enter Tryd.func36, Tryd.ntmps36
  go_wp2
  go_loopw [5] (fun x wr => ∃ z : Int, -1 ≤ z ∧ z < n ∧ x = .int .i64 z ∧ Hid (∀ j : Nat, z < j → j < n → 0 < j → ¬ LtS (gN spZ l j) (gN spZ l (j - 1))) ∧ Hid (Below w.heap.size w wr)) (fun x _ => (intOf x + 1).toNat)
  case atStart => exact ⟨(n : Int) - 1, by omega, by omega, rfl, hide (fun j h1 h2 => by omega), Below.refl _ _⟩
  case round =>
    obtain ⟨z, hz1, hz2, rfl, HF, BB⟩ := hrel
    clear k0
    by_cases hlt : 0 < z
    · obtain ⟨m, rfl⟩ : ∃ m : Nat, z = (m : Int) := ⟨z.toNat, by omega⟩
      obtain ⟨p, hp⟩ : ∃ p, m = p + 1 := ⟨m - 1, by omega⟩
      have k1 : IntKind.i64.wrap ((m : Int) - 1) = (p : Int) := by rw [show (m : Int) - 1 = (p : Int) by omega]; exact IntWalk.i64_in _ (by omega)
      have k2 : (p : Int) < (n : Int) := by omega
      have hml : m < l.length := by rw [← HN.out]; omega
      have hpl : p < l.length := by omega
      have HV2 := HV.out
      rw [← HN.out] at HV2
      cases HV2 with
      | none _ _ _ h => subst h; simp at hml
      | some b o cp hv hc hb ha =>
        rw [← HN.out] at hv
        simp only [Value.slice.injEq] at hv
        obtain ⟨rfl, _, rfl⟩ := hv
        have hbr : b < wr.heap.size := Nat.lt_of_lt_of_le hb BB.out.size
        have A1 := hide ((ha.below hb BB.out) m hml)
        have A2 := hide ((ha.below hb BB.out) p hpl)
        have ST : Hid (¬ LtS (gN spZ l m) (gN spZ l p) → ∀ j : Nat, (p : Int) < j → j < n → 0 < j → ¬ LtS (gN spZ l j) (gN spZ l (j - 1))) := hide (fun h j h1 h2 h3 => by
          by_cases e : j = m
          · subst e; rw [show j - 1 = p by omega]; exact h
          · exact HF.out j (by omega) h2 h3)
        have SF : Hid (LtS (gN spZ l m) (gN spZ l p) → R = false) := hide (fun h => by
          rw [HR.out]
          unfold srtB
          rw [decide_eq_false_iff_not, srt_adj]
          intro q
          have := q m (by omega) hml
          rw [show m - 1 = p by omega] at this
          exact this h)
        generalize gN spZ l m = s at *
        generalize gN spZ l p = u at *
        obtain ⟨sf, sa, sb⟩ := s
        obtain ⟨uf, ua, ub⟩ := u
        simp only [] at A1 A2
        obtain ⟨r, hr⟩ : ∃ r, r = cmpS ⟨sf, sa, sb⟩ ⟨uf, ua, ub⟩ := ⟨_, rfl⟩
        have CC : Hid (∀ X, Hid (Below wr.heap.size wr X) → Calls Tryd.prog 37 #[.agg #[.int .i64 sf, .int .i64 sa, .int .i64 sb], .agg #[.int .i64 uf, .int .i64 ua, .int .i64 ub]] X fun e w' => e = .returned (.int .i64 r) ∧ Hid (Below wr.heap.size wr w')) := hide (fun X hX => by
          rw [hr]
          refine (compare_any ⟨sf, sa, sb⟩ ⟨uf, ua, ub⟩ X).mono ?_
          rintro e w' ⟨q1, q2⟩
          exact ⟨q1, hide (hX.out.trans (q2.mono hX.out.size))⟩)
        have KX : Hid (∀ X, Hid (Below wr.heap.size wr X) → (X.cell? ⟨b, o + m * 3, none⟩ = some (.int .i64 sf) ∧ X.cell? ⟨b, o + m * 3 + 1, none⟩ = some (.int .i64 sa) ∧ X.cell? ⟨b, o + m * 3 + 2, none⟩ = some (.int .i64 sb)) ∧ (X.cell? ⟨b, o + p * 3, none⟩ = some (.int .i64 uf) ∧ X.cell? ⟨b, o + p * 3 + 1, none⟩ = some (.int .i64 ua) ∧ X.cell? ⟨b, o + p * 3 + 2, none⟩ = some (.int .i64 ub))) := hide (fun X hX => by
          have K : ∀ o v, wr.cell? ⟨b, o, none⟩ = some v → X.cell? ⟨b, o, none⟩ = some v := fun o v h => (hX.out.cell (p := ⟨b, o, none⟩) hbr).trans h
          exact ⟨⟨K _ _ A1.out.1, K _ _ A1.out.2.1, K _ _ A1.out.2.2⟩, K _ _ A2.out.1, K _ _ A2.out.2.1, K _ _ A2.out.2.2⟩)
        have hB0 : Hid (Below wr.heap.size wr wr.drew) := hide (Below.refl _ _).drew
        have RL : Hid (r < 0 ↔ LtS ⟨sf, sa, sb⟩ ⟨uf, ua, ub⟩) := hide (by rw [hr]; exact cmpS_lt)
        have HP := hide hp
        clear hr A1 A2 hb hc ha hml hpl HF hp
        go_wp2_with fail
        refine wp_region_held_drew (S := (fun X => Hid (Below wr.heap.size wr X))) (by kernel_rfl) ?_ (fun hHeld => ?_)
        · assumption
        refine wpAnyH_take (i := 0) (oi := Oper.mk (some 13) _ _ _ _ _) (v := .func (.func 37) #[] #[]) rfl (by kernel_rfl) (by kernel_rfl) (by kernel_rfl) (fun _ _ _ h => h) (Or.inl ⟨by rfl, ?_⟩) (by assumption) ?_
        · intro wX hSw
          (try dsimp only at hSw)
          go_simp
        simp only [Act.put, List.setIfInBounds_toArray, List.set_cons_succ, List.set_cons_zero]
        refine wpAnyH_take (i := 1) (oi := Oper.mk (some 14) _ _ _ _ _) (v := .slice (some ⟨b, o, none⟩) n cap) rfl (by kernel_rfl) (by kernel_rfl) (by kernel_rfl) (fun _ _ _ h => h) (Or.inl ⟨by rfl, ?_⟩) (by assumption) ?_
        · intro wX hSw
          (try dsimp only at hSw)
          go_simp
        simp only [Act.put, List.setIfInBounds_toArray, List.set_cons_succ, List.set_cons_zero]
        refine wpAnyH_take (i := 2) (oi := Oper.mk (some 15) _ _ _ _ _) (v := .int .i64 (m : Int)) rfl (by kernel_rfl) (by kernel_rfl) (by kernel_rfl) (fun _ _ _ h => h) (Or.inl ⟨by rfl, ?_⟩) (by assumption) ?_
        · intro wX hSw
          (try dsimp only at hSw)
          go_simp
        simp only [Act.put, List.setIfInBounds_toArray, List.set_cons_succ, List.set_cons_zero]
        refine wpAnyH_take (i := 3) (oi := Oper.mk (some 16) _ _ _ _ _) (v := .pointer (some ⟨b, o + m * 3, none⟩)) rfl (by kernel_rfl) (by kernel_rfl) (by kernel_rfl) (fun _ _ _ h => h) (Or.inl ⟨by rfl, ?_⟩) (by assumption) ?_
        · intro wX hSw
          (try dsimp only at hSw)
          go_simp
        simp only [Act.put, List.setIfInBounds_toArray, List.set_cons_succ, List.set_cons_zero]
        refine wpAnyH_take (i := 4) (oi := Oper.mk (some 17) _ _ _ _ _) (v := .agg #[.int .i64 sf, .int .i64 sa, .int .i64 sb]) rfl (by kernel_rfl) (by kernel_rfl) (by kernel_rfl) (fun _ _ _ h => h) (Or.inl ⟨by rfl, ?_⟩) (by assumption) ?_
        · intro wX hSw
          (try dsimp only at hSw)
          obtain ⟨⟨q0, q1, q2⟩, q3, q4, q5⟩ := KX.out wX hSw
          go_simp
        simp only [Act.put, List.setIfInBounds_toArray, List.set_cons_succ, List.set_cons_zero]
        refine wpAnyH_take (i := 5) (oi := Oper.mk (some 18) _ _ _ _ _) (v := .slice (some ⟨b, o, none⟩) n cap) rfl (by kernel_rfl) (by kernel_rfl) (by kernel_rfl) (fun _ _ _ h => h) (Or.inl ⟨by rfl, ?_⟩) (by assumption) ?_
        · intro wX hSw
          (try dsimp only at hSw)
          go_simp
        simp only [Act.put, List.setIfInBounds_toArray, List.set_cons_succ, List.set_cons_zero]
        refine wpAnyH_take (i := 6) (oi := Oper.mk (some 19) _ _ _ _ _) (v := .int .i64 (m : Int)) rfl (by kernel_rfl) (by kernel_rfl) (by kernel_rfl) (fun _ _ _ h => h) (Or.inl ⟨by rfl, ?_⟩) (by assumption) ?_
        · intro wX hSw
          (try dsimp only at hSw)
          go_simp
        simp only [Act.put, List.setIfInBounds_toArray, List.set_cons_succ, List.set_cons_zero]
        refine wpAnyH_take (i := 7) (oi := Oper.mk (some 20) _ _ _ _ _) (v := .int .i64 (p : Int)) rfl (by kernel_rfl) (by kernel_rfl) (by kernel_rfl) (fun _ _ _ h => h) (Or.inl ⟨by rfl, ?_⟩) (by assumption) ?_
        · intro wX hSw
          (try dsimp only at hSw)
          go_simp
        simp only [Act.put, List.setIfInBounds_toArray, List.set_cons_succ, List.set_cons_zero]
        refine wpAnyH_take (i := 8) (oi := Oper.mk (some 21) _ _ _ _ _) (v := .pointer (some ⟨b, o + p * 3, none⟩)) rfl (by kernel_rfl) (by kernel_rfl) (by kernel_rfl) (fun _ _ _ h => h) (Or.inl ⟨by rfl, ?_⟩) (by assumption) ?_
        · intro wX hSw
          (try dsimp only at hSw)
          go_simp
        simp only [Act.put, List.setIfInBounds_toArray, List.set_cons_succ, List.set_cons_zero]
        refine wpAnyH_take (i := 9) (oi := Oper.mk (some 22) _ _ _ _ _) (v := .agg #[.int .i64 uf, .int .i64 ua, .int .i64 ub]) rfl (by kernel_rfl) (by kernel_rfl) (by kernel_rfl) (fun _ _ _ h => h) (Or.inl ⟨by rfl, ?_⟩) (by assumption) ?_
        · intro wX hSw
          (try dsimp only at hSw)
          obtain ⟨⟨q0, q1, q2⟩, q3, q4, q5⟩ := KX.out wX hSw
          go_simp
        simp only [Act.put, List.setIfInBounds_toArray, List.set_cons_succ, List.set_cons_zero]
        refine wpAnyH_ready (rs := [10]) (by kernel_rfl) (by simp) ?_
        refine AllReadyH.cons (o := Oper.mk (some 23) _ _ _ _ _) rfl (fun K hK => ?_) AllReadyH.nil
        go_simp
        refine (CC.out _ (by assumption)).mono ?_
        rintro e w1 ⟨rfl, b1⟩
        refine hK.out _ _ ?_ (fun hHeld => ?_)
        · assumption
        clear hK K
        refine wpAnyH_take (i := 11) (oi := Oper.mk (some 24) _ _ _ _ _) (v := .bool (decide (r < 0))) rfl (by kernel_rfl) (by kernel_rfl) (by kernel_rfl) (fun _ _ _ h => h) (Or.inl ⟨by rfl, ?_⟩) (by assumption) ?_
        · intro wX hSw
          (try dsimp only at hSw)
          go_simp
        simp only [Act.put, List.setIfInBounds_toArray, List.set_cons_succ, List.set_cons_zero]
        refine wpAnyH_done (by kernel_rfl) ?_ _
        have B2 := hide (BB.out.trans (b1.out.mono BB.out.size))
        clear KX CC hB0 b1 BB hHeld
        by_cases hrl : r < 0
        · have E1 : R = false := SF.out (RL.out.1 hrl)
          clear SF ST RL HR
          subst E1
          go_wp2
          go_ret
          exact ⟨rfl, B2.out⟩
        · have E1 := hide (ST.out (fun q => hrl (RL.out.2 q)))
          clear SF ST RL
          go_wp2
          exact ⟨⟨(p : Int), by omega, by omega, rfl, E1, B2⟩, by simp [intOf]; have := HP.out; omega⟩
    · have E1 : R = true := by
        rw [HR.out]
        unfold srtB
        rw [decide_eq_true_iff, srt_adj]
        intro j h0 h1
        exact HF.out j (by omega) (by rw [HN.out]; exact h1) h0
      clear HR
      subst E1
      go_wp2
      go_ret
      exact ⟨rfl, BB.out⟩
end Go.Proofs.YtkgapklhgkngnaaDoor

namespace Go.Proofs.YtkgapklhgkngnaaDoor
open Go.RowKit

def mayB (t : ByteArray) (l : List Sp) : Bool := Lib.validD (bys t) && !(l.any (misB t)) && srtB l && !(crsP [] l)
def errM (b : Bool) : Int := if b then 0 else 170

set_option maxHeartbeats 2000000 in
theorem contM_any (t : ByteArray) (g : Nat) (v : Value) (l : List Sp) (w : World) (hg : w.cell? ⟨g, 0, none⟩ = some (.string t)) (hv : SpV w v l) (hl : l.length ≤ 140737488355328) :
    Calls Tryd.prog 35 #[v, .func (.func 32) #[] #[.pointer (some ⟨g, 0, none⟩)]] w fun e w' => e = .returned (.bool (l.any (misB t))) ∧ Below w.heap.size w w' := by
  have CI := hide (idxM_any t g v l w hg hv hl)
  obtain ⟨ao, cap, rfl⟩ := hv.len
  obtain ⟨r, hr⟩ : ∃ r, r = firM t l 0 := ⟨_, rfl⟩
  have e1 : l.any (misB t) = decide (0 ≤ r) := by rw [hr, firM_any]
  rw [e1]
  rw [← hr] at CI
  clear hr e1 hg hv
  go_enter Tryd.func35, Tryd.ntmps35
  go_wp2_with fail
  refine CI.out.mono ?_
  rintro e w2 ⟨rfl, hb2⟩
  have B2 := hide hb2
  clear hb2 CI
  go_wp2
  go_ret
  exact ⟨rfl, B2.out⟩

set_option maxRecDepth 100000 in
set_option maxHeartbeats 4000000 in
theorem Check_any (t : ByteArray) (v : Value) (l : List Sp) (w : World) (hT : U8 w) (ht : t.size ≤ 9223372036854775807) (hv : SpV w v l) (hl : (l.length + 1) * 24 ≤ 140737488355328) :
    Calls Tryd.prog 15 #[.agg #[.string t, v]] w fun e w' => e = .returned (.int .i64 (errM (mayB t l))) ∧ Below w.heap.size w w' := by
  have HV := hide hv
  obtain ⟨ao, cap, rfl⟩ := hv.len
  obtain ⟨n, hn⟩ : ∃ n, n = l.length := ⟨_, rfl⟩
  rw [← hn] at HV hl ⊢
  obtain ⟨W1, hW1⟩ : ∃ W1, W1 = w.alloc (.cells #[.string t, .slice ao n cap] 25) := ⟨_, rfl⟩
  have B1 := hide (show Below w.heap.size w W1 by rw [hW1]; exact (Below.refl _ _).alloc (Nat.le_refl _) _)
  have BX1 : Hid (Blk W1 w.heap.size #[.string t, .slice ao n cap] 25) := hide (by rw [hW1]; exact Blk.newAt w _ rfl _ _)
  have HW := hide hW1.symm
  have C1 := hide (Valid_any t W1 ht (hT.below B1.out))
  have C2 := hide (fun X (hX : Below w.heap.size w X) h0 => contM_any t w.heap.size (.slice ao n cap) l X h0 (HV.out.below hX) (by omega))
  have C3 := hide (fun X (hX : Below w.heap.size w X) => sorted_any (.slice ao n cap) l X (HV.out.below hX) (by omega))
  have C4 := hide (fun X (hX : Below w.heap.size w X) => crossed_any (.slice ao n cap) l X (HV.out.below hX) (by omega))
  obtain ⟨r, hr⟩ : ∃ r, r = errM (mayB t l) := ⟨_, rfl⟩
  rw [← hr]
  unfold mayB at hr
  generalize Lib.validD (bys t) = p1 at *
  generalize l.any (misB t) = p2 at *
  generalize srtB l = p3 at *
  generalize crsP [] l = p4 at *
  clear hW1 hv hT hn ht
  go_enter Tryd.func15, Tryd.ntmps15
  have c0 := BX1.out.cell 0
  have c1 := BX1.out.cell 1
  go_wp2_with (simp only [HW.out])
  refine C1.out.mono ?_
  rintro e w2 ⟨rfl, hb2⟩
  have B2 := hide (B1.out.trans (hb2.mono B1.out.size))
  have BX2 := hide (BX1.out.below hb2 BX1.out.lt)
  clear hb2
  have d0 := BX2.out.cell 0
  have d1 := BX2.out.cell 1
  clear c0 c1 C1 HW
  cases p1
  · have e : r = 170 := by rw [hr]; simp [errM]
    clear hr
    subst e
    go_wp2
    go_ret
    exact ⟨rfl, B2.out⟩
  have Q2 := hide (C2.out w2 B2.out d0)
  clear C2
  go_wp2_with fail
  refine Q2.out.mono ?_
  rintro e w3 ⟨rfl, hb3⟩
  clear d0 d1 Q2
  have B3 := hide (B2.out.trans (hb3.mono B2.out.size))
  have BX3 := hide (BX2.out.below hb3 BX2.out.lt)
  clear hb3
  have d0 := BX3.out.cell 0
  have d1 := BX3.out.cell 1
  cases p2
  rotate_left 1
  · have e : r = 170 := by rw [hr]; simp [errM]
    clear hr
    subst e
    go_wp2
    go_ret
    exact ⟨rfl, B3.out⟩
  have Q3 := hide (C3.out w3 B3.out)
  clear C3
  go_wp2_with fail
  refine Q3.out.mono ?_
  rintro e w4 ⟨rfl, hb4⟩
  clear d0 d1 Q3
  have B4 := hide (B3.out.trans (hb4.mono B3.out.size))
  have BX4 := hide (BX3.out.below hb4 BX3.out.lt)
  clear hb4
  have d0 := BX4.out.cell 0
  have d1 := BX4.out.cell 1
  cases p3
  · have e : r = 170 := by rw [hr]; simp [errM]
    clear hr
    subst e
    go_wp2
    go_ret
    exact ⟨rfl, B4.out⟩
  have Q4 := hide (C4.out w4 B4.out)
  clear C4
  go_wp2_with fail
  refine Q4.out.mono ?_
  rintro e w5 ⟨rfl, hb5⟩
  clear d0 d1 Q4
  have B5 := hide (B4.out.trans (hb5.mono B4.out.size))
  have BX5 := hide (BX4.out.below hb5 BX4.out.lt)
  clear hb5
  have d0 := BX5.out.cell 0
  have d1 := BX5.out.cell 1
  cases p4
  rotate_left 1
  · have e : r = 170 := by rw [hr]; simp [errM]
    clear hr
    subst e
    go_wp2
    go_ret
    exact ⟨rfl, B5.out⟩
  have e : r = 0 := by rw [hr]; simp [errM]
  clear hr
  subst e
  go_wp2
  go_ret
  exact ⟨rfl, B5.out⟩
end Go.Proofs.YtkgapklhgkngnaaDoor

namespace Go.Proofs.YtkgapklhgkngnaaDoor
open Go.RowKit

theorem Blk.four {w : World} {b : Nat} {x0 x1 x2 x3 : Value} {t : TypeId} (h : Blk w b #[x0, x1, x2, x3] t) : w.cell? ⟨b, 0, none⟩ = some x0 ∧ w.cell? ⟨b, 1, none⟩ = some x1 ∧ w.cell? ⟨b, 2, none⟩ = some x2 ∧ w.cell? ⟨b, 3, none⟩ = some x3 := ⟨h.cell 0, h.cell 1, h.cell 2, h.cell 3⟩
theorem Blk.two {w : World} {b : Nat} {x0 x1 : Value} {t : TypeId} (h : Blk w b #[x0, x1] t) : w.cell? ⟨b, 0, none⟩ = some x0 ∧ w.cell? ⟨b, 1, none⟩ = some x1 := ⟨h.cell 0, h.cell 1⟩
end Go.Proofs.YtkgapklhgkngnaaDoor

namespace Go.Proofs.YtkgapklhgkngnaaDoor
open Go.RowKit

attribute [local go_sem ↓] Go.wp_at_zero Go.wp_at_succ

structure Pe where
  t : ByteArray
  f : Int
def peZ : Pe := ⟨⟨#[]⟩, 0⟩
theorem infoPe : (Tryd.prog.info? 50).map (fun i => (i.zero, i.size, i.bytes)) = some (some (.agg #[.string ⟨#[]⟩, .int .i64 0]), 2, 24) := by kernel_rfl
def cellsP : List Pe → List Value
  | [] => []
  | p :: l => .string p.t :: .int .i64 p.f :: cellsP l
theorem cellsP_app : ∀ a b : List Pe, cellsP (a ++ b) = cellsP a ++ cellsP b
  | [], b => rfl
  | p :: a, b => by rw [List.cons_append, cellsP, cellsP_app a b, cellsP]; rfl
theorem cellsP_at : ∀ (l : List Pe) (i : Nat), i < l.length → (cellsP l)[i * 2]? = some (.string (gN peZ l i).t) ∧ (cellsP l)[i * 2 + 1]? = some (.int .i64 (gN peZ l i).f)
  | [], i, h => by simp at h
  | p :: l, 0, _ => ⟨rfl, rfl⟩
  | p :: l, i + 1, h => by
    have q := cellsP_at l i (by simpa using h)
    have e : gN peZ (p :: l) (i + 1) = gN peZ l i := by simp [gN]
    rw [cellsP, e, show (i + 1) * 2 = i * 2 + 1 + 1 by omega]
    simpa using q
def OwnP (B : Nat) (w : World) (v : Value) (l : List Pe) : Prop := w.ownsRow B 50 2 v l.length (cellsP l)
theorem wpPe_append {w : World} {ops : Array Oper} {rest : List Oper} {o : Oper} {a : Act} {Q : Exit → Act → World → Prop} (hgd : o.guard = none) (s x : Operand)
    (ho : o.op = .call { callee := .builtin .append, args := #[s, x], argTypes := #[22, 22] })
    (base : Nat) (v : Value) (l : List Pe) (n : Nat) (hn : l.length = n) (hs : a.eval s = v) (hown : OwnP base w v l)
    (g : Nat) (t : Pe) (hx : a.eval x = .slice (some ⟨g, 0, none⟩) 1 1) (hsrc : Blk w g #[.string t.t, .int .i64 t.f] 50) (hb : (n + 1) * 24 ≤ 140737488355328) (hbase : base ≤ w.heap.size)
    (h : ∀ uo uc w', OwnP base w' (.slice uo (n + 1) uc) (l ++ [t]) → w.grownBy w' v.ownBlock → wpList Tryd.prog ops Q rest (a.put o.dst (.slice uo (n + 1) uc)) w') : wpList Tryd.prog ops Q (o :: rest) a w := by
  obtain ⟨i0, hi, hz0, hz1, hz2⟩ := info_parts infoPe
  subst hn
  refine wpList_append_own w hgd s x _ ho base _ i0 (.agg #[.string ⟨#[]⟩, .int .i64 0]) 2 24 Tryd.underlying22 hi hz0 hz1 hz2 rfl (by decide) v l.length (cellsP l) hs hown ⟨g, 0, none⟩ 1 1 [.string t.t, .int .i64 t.f] hx rfl (fun j u hj => ?_) (fun u hu => ?_) (by unfold maxLen; omega) hb hbase (fun v' w' h3 h4 _ => ?_)
  · rw [Addr.add_lit, Nat.zero_add, hsrc.cell j]
    simpa using hj
  · simp only [List.mem_cons, List.not_mem_nil, or_false] at hu
    rcases hu with rfl | rfl <;> rfl
  · obtain ⟨uo, uc, rfl⟩ := ownF_slice h3
    refine h uo uc w' ?_ h4
    unfold OwnP
    rw [cellsP_app, List.length_append, List.length_singleton]
    exact h3

structure KwP (D : Nat) (w w' : World) : Prop where
  size : w.heap.size ≤ w'.heap.size
  block : ∀ b, b < w.heap.size → b ≠ D → (∀ cs fz, w.heap[b]? ≠ some (.cells cs 50 fz)) → w'.heap[b]? = w.heap[b]?
theorem KwP.refl (D : Nat) (w : World) : KwP D w w := ⟨Nat.le_refl _, fun _ _ _ _ => rfl⟩
theorem KwP.trans {D : Nat} {a b c : World} (h : KwP D a b) (k : KwP D b c) : KwP D a c :=
  ⟨Nat.le_trans h.size k.size, fun i h1 h2 h3 => by
    have e := h.block i h1 h2 h3
    exact (k.block i (Nat.lt_of_lt_of_le h1 h.size) h2 (by rw [e]; exact h3)).trans e⟩
theorem KwP.of_below {D : Nat} {a b : World} (h : Below a.heap.size a b) : KwP D a b := ⟨h.size, fun i h1 _ _ => h.block i h1⟩
theorem KwP.set {D i : Nat} {a w : World} (h : KwP D a w) (v : Value) : KwP D a (w.setCell ⟨D, i, none⟩ v) := h.trans (by
  refine ⟨by simp [World.setCell], fun k _ hk _ => ?_⟩
  have : D ≠ k := fun e => hk e.symm
  simp [World.setCell, Array.getElem?_modify, this])
theorem KwP.drew {D : Nat} {a w : World} (h : KwP D a w) : KwP D a w.drew := ⟨h.size, fun b h1 h2 h3 => h.block b h1 h2 h3⟩
theorem KwP.grown {D B n : Nat} {a w w' : World} {v : Value} {xs : List Value} (h : KwP D a w) (hg : w.grownBy w' v.ownBlock) (ho : w.ownsRow B 50 2 v n xs) : KwP D a w' := h.trans (by
  refine ⟨hg.size, fun i h1 _ h3 => hg.block i h1 (fun e => ?_)⟩
  rcases ho.2 with ⟨rfl, _⟩ | ⟨g, cap, cur, rfl, _, hh, _⟩
  · simp [Value.ownBlock] at e
  · simp only [Value.ownBlock, Option.some.injEq] at e
    subst e
    exact h3 _ _ hh)
theorem KwP.blk {D : Nat} {a b : World} (h : KwP D a b) {g : Nat} {cs : Array Value} {t : TypeId} (hg : Blk a g cs t) (hn : g ≠ D) (ht : t ≠ 50) : Blk b g cs t := by
  have hlt := hg.lt
  unfold Blk at *
  rw [h.block g hlt hn (fun cs' fz q => by rw [hg] at q; simp at q; exact ht q.2.1)]
  exact hg

structure CtV (w : World) (D : Nat) (t : ByteArray) (a : Int) (vo : Value) (op : List Sp) (vl : Value) (lv : List Pe) : Prop where
  blk : Blk w D #[.string t, .int .i64 a, vo, vl] 75
  op : OwnS (D + 1) w vo op
  lv : OwnP (D + 1) w vl lv
theorem CtV.below {w w' : World} {D : Nat} {t : ByteArray} {a : Int} {vo vl : Value} {op : List Sp} {lv : List Pe} (h : CtV w D t a vo op vl lv) (hb : Below w.heap.size w w') : CtV w' D t a vo op vl lv := ⟨h.blk.below hb h.blk.lt, ownF_below h.op hb, ownF_below h.lv hb⟩

def innS (op : List Sp) : Sp := op.getLast?.getD ⟨0, 0, 0⟩
theorem innS_snoc (op : List Sp) (s : Sp) : innS (op ++ [s]) = s := by simp [innS]
theorem OwnS.last {B : Nat} {w : World} {g n cap : Nat} {l : List Sp} {s : Sp} (h : OwnS B w (.slice (some ⟨g, 0, none⟩) (n + 1) cap) (l ++ [s])) (hn : l.length = n) : w.cell? ⟨g, n * 3, none⟩ = some (.int .i64 s.f) ∧ w.cell? ⟨g, n * 3 + 1, none⟩ = some (.int .i64 s.a) ∧ w.cell? ⟨g, n * 3 + 2, none⟩ = some (.int .i64 s.b) := by
  have q := h.at n (by rw [List.length_append, hn, List.length_singleton]; omega)
  have e : gN spZ (l ++ [s]) n = s := by unfold gN; rw [← hn, List.getElem?_append_right (Nat.le_refl _), Nat.sub_self]; rfl
  rw [e] at q
  exact q
theorem OwnS.cut {B : Nat} {w : World} {g n cap : Nat} {l : List Sp} {s : Sp} (h : OwnS B w (.slice (some ⟨g, 0, none⟩) (n + 1) cap) (l ++ [s])) (hn : l.length = n) : OwnS B w (.slice (some ⟨g, 0, none⟩) n cap) l := by
  subst hn
  unfold OwnS at *
  rw [List.length_append, List.length_singleton, cellsS_app] at h
  have q := own_less h l.length (Nat.le_succ _)
  rw [List.take_left' (cellsS_len l)] at q
  exact q

theorem results_sp {fn : Func} {a : Tmp} (h : fn.results = #[.cell a 31]) (tmps : Array Value) (H : Nat) (x0 x1 x2 : Value) (w : World) (ht : tmps.getD a undef = .pointer (some ⟨H, 0, none⟩)) (hp : Blk w H #[x0, x1, x2] 31) :
    (results fn tmps).run Tryd.prog w = .ok (.agg #[x0, x1, x2]) w := by
  have c0 := hp.cell 0
  have c1 := hp.cell 1
  have c2 := hp.cell 2
  simp at c0 c1 c2
  rw [Array.getD_eq_getD_getElem?] at ht
  simp [results, h, ht, go_sem, c0, c1, c2]

set_option maxRecDepth 100000 in
set_option maxHeartbeats 4000000 in
theorem inner_any {w : World} {D : Nat} {t : ByteArray} {a : Int} {vo vl : Value} {op : List Sp} {lv : List Pe} (h : CtV w D t a vo op vl lv) (hl : op.length ≤ 140737488355328) :
    Calls Tryd.prog 55 #[.pointer (some ⟨D, 0, none⟩)] w fun e w' => e = .returned (.agg #[.int .i64 (innS op).f, .int .i64 (innS op).a, .int .i64 (innS op).b]) ∧ Below w.heap.size w w' := by
  have hDw := h.blk.lt
  have n1 : ¬ w.heap.size = D := by omega
  have n2 : ¬ D = w.heap.size := by omega
  have c2 := h.blk.cell 2
  rcases snocF op with rfl | ⟨op, s, rfl⟩
  · obtain ⟨xo, xc, rfl⟩ : ∃ xo xc, vo = Value.slice xo 0 xc := ownF_slice h.op
    clear h
    go_enter Tryd.func55, Tryd.ntmps55
    go_wp2
    exact bodyPost_ret (results_sp rfl _ _ _ _ _ _ rfl (Blk.newAt w _ rfl _ _)) rfl ⟨rfl, (Below.refl _ _).alloc (Nat.le_refl _) _⟩
  · rw [innS_snoc]
    have hl2 : (op ++ [s]).length = op.length + 1 := by simp
    obtain ⟨N, hN0⟩ : ∃ N, N = (op ++ [s]).length := ⟨_, rfl⟩
    obtain ⟨m, hm⟩ : ∃ m, m = op.length := ⟨_, rfl⟩
    have hN : N = m + 1 := by rw [hN0, hl2, hm]
    obtain ⟨g, xc, hv, hg1, hg2, hg3⟩ := ownF_some h.op (by rw [hl2]; omega)
    rw [← hN0] at hv hg3 hl
    subst hv
    obtain ⟨q0, q1, q2⟩ := OwnS.last (n := m) (by rw [← hN]; exact h.op) hm.symm
    have k1 : IntKind.i64.wrap ((N : Int) - 1) = (m : Int) := by rw [show (N : Int) - 1 = (m : Int) by omega]; exact IntWalk.i64_in _ (by omega)
    have k2 : (m : Int) < (N : Int) := by omega
    have k3 : ((N : Int) == 0) = false := beq_eq_false_iff_ne.2 (by omega)
    have k4 : ¬ N = 0 := by omega
    have n3 : ¬ w.heap.size = g := by omega
    have n4 : ¬ g = w.heap.size := by omega
    have n5 : ¬ g = D := by omega
    have n6 : ¬ D = g := by omega
    obtain ⟨sf, sa, sb⟩ := s
    clear h hm hN hN0 hl2
    go_enter Tryd.func55, Tryd.ntmps55
    go_wp2_with fail
    go_region
    go_wp2
    exact bodyPost_ret (results_sp rfl _ _ _ _ _ _ rfl (Blk.newAt w _ rfl _ _)) rfl ⟨rfl, ((Below.refl _ _).alloc (Nat.le_refl _) _).drew⟩
end Go.Proofs.YtkgapklhgkngnaaDoor

namespace Go.Proofs.YtkgapklhgkngnaaDoor
open Go.RowKit

attribute [local go_sem ↓] Go.wp_at_zero Go.wp_at_succ

theorem Blk.setN {w : World} {b : Nat} {cs : Array Value} {t : TypeId} (h : Blk w b cs t) (i : Nat) (v : Value) : Blk (w.setCell ⟨b, i, none⟩ v) b (cs.setIfInBounds i v) t := by
  unfold Blk at *
  simp only [World.setCell, Array.getElem?_modify, if_true, h, Option.map_some]
  rfl
structure ScT (D : Nat) (t : ByteArray) (a : Int) (w : World) : Prop where
  c0 : w.cell? ⟨D, 0, none⟩ = some (.string t)
  c1 : w.cell? ⟨D, 1, none⟩ = some (.int .i64 a)
theorem ScT.alloc {D : Nat} {t : ByteArray} {a : Int} {w : World} (h : ScT D t a w) (o : Obj) : ScT D t a (w.alloc o) := by
  have hD : D < w.heap.size := by
    rcases Nat.lt_or_ge D w.heap.size with h' | h'
    · exact h'
    · have := h.c0
      simp [World.cell?, Array.getElem?_eq_none h'] at this
  have b := (Below.refl w.heap.size w).alloc (Nat.le_refl _) o
  exact ⟨(b.cell (p := ⟨D, 0, none⟩) hD).trans h.c0, (b.cell (p := ⟨D, 1, none⟩) hD).trans h.c1⟩
theorem ScT.set3 {D : Nat} {t : ByteArray} {a : Int} {w : World} (h : ScT D t a w) (v : Value) : ScT D t a (w.setCell ⟨D, 3, none⟩ v) :=
  ⟨by simp [go_sem, h.c0], by simp [go_sem, h.c1]⟩
def cutP (t : ByteArray) (a p : Nat) (f : Int) (lv : List Pe) : List Pe := if a = p then lv else lv ++ [⟨t.extract a p, f⟩]
theorem field_sp (f a b : Int) (X : World) : (Instr.field 31 (.agg #[.int .i64 f, .int .i64 a, .int .i64 b]) 0).run Tryd.prog X = .ok (.int .i64 f) X := by kernel_rfl
theorem field_sp2 (f a b : Int) (X : World) : (Instr.field 31 (.agg #[.int .i64 f, .int .i64 a, .int .i64 b]) 2).run Tryd.prog X = .ok (.int .i64 b) X := by kernel_rfl

set_option maxRecDepth 100000 in
set_option maxHeartbeats 8000000 in
theorem cut_any {w : World} {D : Nat} {t : ByteArray} {vo vl : Value} {op : List Sp} {lv : List Pe} (a p : Nat) (h : CtV w D t (a : Int) vo op vl lv) (hap : a ≤ p) (hp : p ≤ t.size) (hl : op.length ≤ 140737488355328) (hv : (lv.length + 1) * 24 ≤ 140737488355328) :
    Calls Tryd.prog 56 #[.pointer (some ⟨D, 0, none⟩), .int .i64 (p : Int)] w fun e w' => e = .returned (.tuple #[]) ∧ Hid (∃ vl', CtV w' D t (p : Int) vo op vl' (cutP t a p (innS op).f lv)) ∧ Below D w w' ∧ KwP D w w' := by
  have hDw := h.blk.lt
  have c0 := h.blk.cell 0
  have c1 := h.blk.cell 1
  have c3 := h.blk.cell 3
  have f1 := h.blk.free 1
  have f3 := h.blk.free 3
  unfold cutP
  by_cases hE : a = p
  · subst hE
    rw [if_pos rfl]
    have H0 := hide h
    clear h
    go_enter Tryd.func56, Tryd.ntmps56
    go_wp2
    exact bodyPost_ret (results_none rfl _ _ _) rfl ⟨rfl, hide ⟨vl, H0.out⟩, Below.refl _ _, KwP.refl _ _⟩
  · rw [if_neg hE]
    have e1 : ((p : Int) == (a : Int)) = false := beq_eq_false_iff_ne.2 (by omega)
    have e2 : ¬ (p : Int) = (a : Int) := by omega
    have a0 : (a : Int) ≤ (p : Int) := by omega
    have a1 : (p : Int) ≤ (t.size : Int) := by omega
    obtain ⟨i0, hi, hz0, hz1, hz2⟩ := info_parts infoPe
    obtain ⟨lo, lc, rfl⟩ := ownF_slice h.lv
    obtain ⟨n, hn⟩ : ∃ n, n = lv.length := ⟨_, rfl⟩
    rw [← hn] at hv c3
    obtain ⟨s, hs⟩ : ∃ s, s = innS op := ⟨_, rfl⟩
    have HI : Hid (∀ X, Hid (Below w.heap.size w X) → Calls Tryd.prog 55 #[.pointer (some ⟨D, 0, none⟩)] X fun e w' => e = .returned (.agg #[.int .i64 s.f, .int .i64 s.a, .int .i64 s.b]) ∧ Hid (Below w.heap.size w w') ∧ w'.cell? ⟨D, 0, none⟩ = some (.string t) ∧ w'.cell? ⟨D, 1, none⟩ = some (.int .i64 (a : Int)) ∧ w'.cell? ⟨D, 3, none⟩ = some (.slice lo n lc)) := hide (fun X hX => by
      rw [hs]
      refine (inner_any (h.below hX.out) hl).mono ?_
      rintro e w' ⟨q1, q2⟩
      have bb := hX.out.trans (q2.mono hX.out.size)
      have bk := h.blk.below bb hDw
      exact ⟨q1, hide bb, bk.cell 0, bk.cell 1, by rw [hn]; exact bk.cell 3⟩)
    obtain ⟨T, hT⟩ : ∃ T, T = t.extract a p := ⟨_, rfl⟩
    rw [← hs]
    rw [← hT]
    have HT := hide hT.symm
    obtain ⟨xs, hxs⟩ : ∃ xs, xs = cellsP lv := ⟨_, rfl⟩
    have OW : Hid (∀ X, Hid (Below w.heap.size w X) → (X.alloc (.cells #[.string T, .int .i64 s.f] 50)).ownsRow (D + 1) 50 2 (.slice lo n lc) n xs) := hide (fun X hX => by
      have q : OwnP (D + 1) (X.alloc (.cells #[.string T, .int .i64 s.f] 50)) (.slice lo lv.length lc) lv := ownF_below (ownF_below h.lv hX.out) ((Below.refl _ _).alloc (Nat.le_refl _) _)
      rw [hn, hxs]; exact q)
    have NEWS : Hid (∀ (X : World) (j : Nat) (u : Value), ([.string T, .int .i64 s.f] : List Value)[j]? = some u → (X.alloc (.cells #[.string T, .int .i64 s.f] 50)).cell? ((⟨X.heap.size, 0, none⟩ : Addr).add j) = some u) := hide (fun X => by
      have q : (X.alloc (.cells #[.string T, .int .i64 s.f] 50)).heap[X.heap.size]? = some (.cells #[.string T, .int .i64 s.f] 50 (0, 0)) := heap_alloc_new X _
      exact World.news_of_block q)
    have ONE : Hid (∀ u ∈ ([.string T, .int .i64 s.f] : List Value), u.oneCell' = true) := hide (fun u hu => by
      simp only [List.mem_cons, List.not_mem_nil, or_false] at hu
      rcases hu with rfl | rfl <;> rfl)
    have BASE : Hid (∀ X, Hid (Below w.heap.size w X) → D + 1 ≤ (X.alloc (.cells #[.string T, .int .i64 s.f] 50)).heap.size) := hide (fun X hX => by have := hX.out.size; simp; omega)
    have GK : Hid (∀ X, Hid (Below w.heap.size w X) → ∀ w4 g cp, w4.ownsRow (D + 1) 50 2 (.slice (some ⟨g, 0, none⟩) (n + 1) cp) (n + 1) (xs ++ [.string T, .int .i64 s.f]) → (X.alloc (.cells #[.string T, .int .i64 s.f] 50)).grownBy w4 (Value.slice lo n lc).ownBlock → CtV w4 D t (a : Int) vo op (.slice lo n lc) lv ∨ True) := hide (fun _ _ _ _ _ _ _ => .inr trivial)
    have GB : Hid (∀ X, Hid (Below w.heap.size w X) → ∀ w4, (X.alloc (.cells #[.string T, .int .i64 s.f] 50)).grownBy w4 (Value.slice lo n lc).ownBlock → Blk w4 D #[.string t, .int .i64 (a : Int), vo, .slice lo n lc] 75 ∧ OwnS (D + 1) w4 vo op ∧ Below D w w4 ∧ KwP D w w4) := hide (fun X hX w4 hg => by
      have hX2 : Below w.heap.size w (X.alloc (.cells #[.string T, .int .i64 s.f] 50)) := hX.out.alloc hX.out.size _
      have hov := OW.out X hX
      have hlo : ∀ q, (Value.slice lo n lc).ownBlock = some q → D + 1 ≤ q := fun q hq => (World.ownsRow.lt hov q hq).1
      have bk := h.blk.below hX2 hDw
      have os : OwnS (D + 1) (X.alloc (.cells #[.string T, .int .i64 s.f] 50)) vo op := ownF_below h.op hX2
      refine ⟨?_, ?_, (hX2.mono (Nat.le_of_lt hDw)).grown hg (by have := bk.lt; omega) (fun q hq => by have := hlo q hq; omega), (KwP.of_below hX2).grown hg hov⟩
      · have hb := bk.lt
        rw [← hn] at bk
        unfold Blk at *
        rw [hg.block D hb (fun e => by have := hlo D e.symm; omega)]
        exact bk
      · refine ⟨os.1, ?_⟩
        rcases os.2 with h2 | ⟨g, cap, cur, hv, h3, h4, h5⟩
        · exact .inl h2
        · refine .inr ⟨g, cap, cur, hv, h3, ?_, h5⟩
          rw [hg.block g (lt_of_block h4) (fun e => own_apartF os hov (by decide) g (by rw [hv]; rfl) e.symm)]
          exact h4)
    have hB0 : Hid (Below w.heap.size w w.drew) := hide (Below.refl _ _).drew
    have TF := field_sp s.f s.a s.b
    have XL : Hid (xs ++ [.string T, .int .i64 s.f] = cellsP (lv ++ [⟨T, s.f⟩]) ∧ n + 1 = (lv ++ [(⟨T, s.f⟩ : Pe)]).length) := hide ⟨by rw [hxs, cellsP_app]; rfl, by rw [hn]; simp⟩
    have s0 : ScT D t (a : Int) w.drew := ⟨c0, c1⟩
    clear h hn hs hT hxs hl hE GK
    go_enter Tryd.func56, Tryd.ntmps56
    go_wp2_with fail
    refine wp_region_held_drew (S := (ScT D t (a : Int))) (by kernel_rfl) ?_ (fun hHeld => ?_)
    · exact s0
    refine wpAnyH_take (i := 0) (oi := Oper.mk (some 10) _ _ _ _ _) (v := .pointer (some ⟨D, 0, none⟩)) rfl (by kernel_rfl) (by kernel_rfl) (by kernel_rfl) (fun _ _ _ h => h) (Or.inl ⟨by rfl, ?_⟩) (by assumption) ?_
    · intro wX hSw
      (try dsimp only at hSw)
      go_simp
    simp only [Act.put, List.setIfInBounds_toArray, List.set_cons_succ, List.set_cons_zero]
    refine wpAnyH_take (i := 1) (oi := Oper.mk (some 11) _ _ _ _ _) (v := .pointer (some ⟨D, 0, none⟩)) rfl (by kernel_rfl) (by kernel_rfl) (by kernel_rfl) (fun _ _ _ h => h) (Or.inl ⟨by rfl, ?_⟩) (by assumption) ?_
    · intro wX hSw
      (try dsimp only at hSw)
      go_simp
    simp only [Act.put, List.setIfInBounds_toArray, List.set_cons_succ, List.set_cons_zero]
    refine wpAnyH_take (i := 2) (oi := Oper.mk (some 12) _ _ _ _ _) (v := .pointer (some ⟨D, 0, none⟩)) rfl (by kernel_rfl) (by kernel_rfl) (by kernel_rfl) (fun _ _ _ h => h) (Or.inl ⟨by rfl, ?_⟩) (by assumption) ?_
    · intro wX hSw
      (try dsimp only at hSw)
      go_simp
    simp only [Act.put, List.setIfInBounds_toArray, List.set_cons_succ, List.set_cons_zero]
    refine wpAnyH_take (i := 3) (oi := Oper.mk (some 13) _ _ _ _ _) (v := .pointer (some ⟨D, 3, none⟩)) rfl (by kernel_rfl) (by kernel_rfl) (by kernel_rfl) (fun _ _ _ h => h) (Or.inl ⟨by rfl, ?_⟩) (by assumption) ?_
    · intro wX hSw
      (try dsimp only at hSw)
      go_simp
    simp only [Act.put, List.setIfInBounds_toArray, List.set_cons_succ, List.set_cons_zero]
    refine wpAnyH_take (i := 5) (oi := Oper.mk (some 15) _ _ _ _ _) (v := .pointer (some ⟨D, 0, none⟩)) rfl (by kernel_rfl) (by kernel_rfl) (by kernel_rfl) (fun _ _ _ h => h) (Or.inl ⟨by rfl, ?_⟩) (by assumption) ?_
    · intro wX hSw
      (try dsimp only at hSw)
      go_simp
    simp only [Act.put, List.setIfInBounds_toArray, List.set_cons_succ, List.set_cons_zero]
    refine wpAnyH_take (i := 6) (oi := Oper.mk (some 16) _ _ _ _ _) (v := .pointer (some ⟨D, 0, none⟩)) rfl (by kernel_rfl) (by kernel_rfl) (by kernel_rfl) (fun _ _ _ h => h) (Or.inl ⟨by rfl, ?_⟩) (by assumption) ?_
    · intro wX hSw
      (try dsimp only at hSw)
      go_simp
    simp only [Act.put, List.setIfInBounds_toArray, List.set_cons_succ, List.set_cons_zero]
    refine wpAnyH_take (i := 7) (oi := Oper.mk (some 17) _ _ _ _ _) (v := .pointer (some ⟨D, 0, none⟩)) rfl (by kernel_rfl) (by kernel_rfl) (by kernel_rfl) (fun _ _ _ h => h) (Or.inl ⟨by rfl, ?_⟩) (by assumption) ?_
    · intro wX hSw
      (try dsimp only at hSw)
      go_simp
    simp only [Act.put, List.setIfInBounds_toArray, List.set_cons_succ, List.set_cons_zero]
    refine wpAnyH_take (i := 8) (oi := Oper.mk (some 18) _ _ _ _ _) (v := .string t) rfl (by kernel_rfl) (by kernel_rfl) (by kernel_rfl) (fun _ _ _ h => h) (Or.inl ⟨by rfl, ?_⟩) (by assumption) ?_
    · intro wX hSw
      (try dsimp only at hSw)
      have q0 := hSw.c0
      go_simp
    simp only [Act.put, List.setIfInBounds_toArray, List.set_cons_succ, List.set_cons_zero]
    refine wpAnyH_take (i := 9) (oi := Oper.mk (some 19) _ _ _ _ _) (v := .pointer (some ⟨D, 0, none⟩)) rfl (by kernel_rfl) (by kernel_rfl) (by kernel_rfl) (fun _ _ _ h => h) (Or.inl ⟨by rfl, ?_⟩) (by assumption) ?_
    · intro wX hSw
      (try dsimp only at hSw)
      go_simp
    simp only [Act.put, List.setIfInBounds_toArray, List.set_cons_succ, List.set_cons_zero]
    refine wpAnyH_take (i := 10) (oi := Oper.mk (some 20) _ _ _ _ _) (v := .pointer (some ⟨D, 0, none⟩)) rfl (by kernel_rfl) (by kernel_rfl) (by kernel_rfl) (fun _ _ _ h => h) (Or.inl ⟨by rfl, ?_⟩) (by assumption) ?_
    · intro wX hSw
      (try dsimp only at hSw)
      go_simp
    simp only [Act.put, List.setIfInBounds_toArray, List.set_cons_succ, List.set_cons_zero]
    refine wpAnyH_take (i := 11) (oi := Oper.mk (some 21) _ _ _ _ _) (v := .pointer (some ⟨D, 1, none⟩)) rfl (by kernel_rfl) (by kernel_rfl) (by kernel_rfl) (fun _ _ _ h => h) (Or.inl ⟨by rfl, ?_⟩) (by assumption) ?_
    · intro wX hSw
      (try dsimp only at hSw)
      go_simp
    simp only [Act.put, List.setIfInBounds_toArray, List.set_cons_succ, List.set_cons_zero]
    refine wpAnyH_take (i := 12) (oi := Oper.mk (some 22) _ _ _ _ _) (v := .int .i64 (a : Int)) rfl (by kernel_rfl) (by kernel_rfl) (by kernel_rfl) (fun _ _ _ h => h) (Or.inl ⟨by rfl, ?_⟩) (by assumption) ?_
    · intro wX hSw
      (try dsimp only at hSw)
      have q0 := hSw.c1
      go_simp
    simp only [Act.put, List.setIfInBounds_toArray, List.set_cons_succ, List.set_cons_zero]
    refine wpAnyH_take (i := 13) (oi := Oper.mk (some 23) _ _ _ _ _) (v := .int .i64 (p : Int)) rfl (by kernel_rfl) (by kernel_rfl) (by kernel_rfl) (fun _ _ _ h => h) (Or.inl ⟨by rfl, ?_⟩) (by assumption) ?_
    · intro wX hSw
      (try dsimp only at hSw)
      go_simp
    simp only [Act.put, List.setIfInBounds_toArray, List.set_cons_succ, List.set_cons_zero]
    refine wpAnyH_take (i := 14) (oi := Oper.mk (some 24) _ _ _ _ _) (v := .string T) rfl (by kernel_rfl) (by kernel_rfl) (by kernel_rfl) (fun _ _ _ h => h) (Or.inl ⟨by rfl, ?_⟩) (by assumption) ?_
    · intro wX hSw
      (try dsimp only at hSw)
      have q0 := HT.out
      go_simp
    simp only [Act.put, List.setIfInBounds_toArray, List.set_cons_succ, List.set_cons_zero]
    refine wpAnyH_take (i := 15) (oi := Oper.mk (some 25) _ _ _ _ _) (v := .pointer (some ⟨D, 0, none⟩)) rfl (by kernel_rfl) (by kernel_rfl) (by kernel_rfl) (fun _ _ _ h => h) (Or.inl ⟨by rfl, ?_⟩) (by assumption) ?_
    · intro wX hSw
      (try dsimp only at hSw)
      go_simp
    simp only [Act.put, List.setIfInBounds_toArray, List.set_cons_succ, List.set_cons_zero]
    refine wpAnyH_ready (rs := [4, 16]) (by kernel_rfl) (by simp) ?_
    refine AllReadyH.cons (o := Oper.mk (some 14) _ _ _ _ _) rfl (fun K hK => ?_) (AllReadyH.cons (o := Oper.mk (some 26) _ _ _ _ _) rfl (fun K hK => ?_) AllReadyH.nil)
    · go_simp
      refine hK.out _ _ ?_ (fun hHeld => ?_)
      · assumption
      clear hK K
      refine wpAnyH_ready (rs := [16]) (by kernel_rfl) (by simp) ?_
      refine AllReadyH.cons (o := Oper.mk (some 26) _ _ _ _ _) rfl (fun K hK => ?_) AllReadyH.nil
      go_simp
      refine (HI.out _ (by assumption)).mono ?_
      rintro e w1 ⟨rfl, b1, z0, z1, z3⟩
      refine hK.out _ _ ?_ (fun hHeld => ?_)
      · exact ⟨z0, z1⟩
      clear hK K
      refine wpAnyH_take (i := 17) (oi := Oper.mk (some 27) _ _ _ _ _) (v := .int .i64 s.f) rfl (by kernel_rfl) (by kernel_rfl) (by kernel_rfl) (fun _ _ _ h => h) (Or.inl ⟨by rfl, ?_⟩) (by assumption) ?_
      · intro wX hSw
        (try dsimp only at hSw)
        go_simp
      simp only [Act.put, List.setIfInBounds_toArray, List.set_cons_succ, List.set_cons_zero]
      refine wpAnyH_take (i := 18) (oi := Oper.mk (some 28) _ _ _ _ _) (v := .agg #[.string T, .int .i64 s.f]) rfl (by kernel_rfl) (by kernel_rfl) (by kernel_rfl) (fun _ _ _ h => h) (Or.inl ⟨by rfl, ?_⟩) (by assumption) ?_
      · intro wX hSw
        (try dsimp only at hSw)
        go_simp
      simp only [Act.put, List.setIfInBounds_toArray, List.set_cons_succ, List.set_cons_zero]
      refine wpAnyH_ready (rs := [19]) (by kernel_rfl) (by simp) ?_
      refine AllReadyH.cons (o := Oper.mk (some 29) _ _ _ _ _) rfl (fun K hK => ?_) AllReadyH.nil
      go_simp
      refine hK.out _ _ ?_ (fun hHeld => ?_)
      · exact (ScT.alloc ⟨z0, z1⟩ _)
      clear hK K
      refine wpAnyH_ready (rs := [20]) (by kernel_rfl) (by simp) ?_
      refine AllReadyH.cons (o := Oper.mk (some 30) _ _ _ _ _) rfl (fun K hK => ?_) AllReadyH.nil
      refine step_append_lies _ (by rfl) _ _ _ (by rfl) (D + 1) 50 i0 (.agg #[.string ⟨#[]⟩, .int .i64 0]) 2 24 Tryd.underlying22 hi hz0 hz1 hz2 rfl (by decide) (.slice lo n lc) n xs (by rfl) (OW.out _ b1) ⟨w1.heap.size, 0, none⟩ 1 1 [.string T, .int .i64 s.f] (by rfl) rfl (NEWS.out _) ONE.out (by decide) (by unfold maxLen; omega) (by omega) (BASE.out _ b1) _ rfl ?_
      intro g cp w4 hown hgr hat hlt
      obtain ⟨GX, GO, GL, GP⟩ := GB.out _ b1 _ hgr
      have GXh := hide GX
      have y0 := GX.cell 0
      have y1 := GX.cell 1
      have y3 := GX.cell 3
      have y4 := GX.free 3
      have y5 := GX.free 1
      have hown2 := hide hown
      have GO2 := hide GO
      have GL2 := hide GL
      have GP2 := hide GP
      clear hgr hat hlt GX GO GL GP hown
      refine hK.out _ _ ?_ (fun hHeld => ?_)
      · exact ⟨y0, y1⟩
      clear hK K
      refine wpAnyH_take (i := 21) (oi := Oper.mk (some 31) _ _ _ _ _) (v := .pointer (some ⟨D, 0, none⟩)) rfl (by kernel_rfl) (by kernel_rfl) (by kernel_rfl) (fun _ _ _ h => h) (Or.inl ⟨by rfl, ?_⟩) (by assumption) ?_
      · intro wX hSw
        (try dsimp only at hSw)
        go_simp
      simp only [Act.put, List.setIfInBounds_toArray, List.set_cons_succ, List.set_cons_zero]
      refine wpAnyH_take (i := 22) (oi := Oper.mk (some 32) _ _ _ _ _) (v := .pointer (some ⟨D, 3, none⟩)) rfl (by kernel_rfl) (by kernel_rfl) (by kernel_rfl) (fun _ _ _ h => h) (Or.inl ⟨by rfl, ?_⟩) (by assumption) ?_
      · intro wX hSw
        (try dsimp only at hSw)
        go_simp
      simp only [Act.put, List.setIfInBounds_toArray, List.set_cons_succ, List.set_cons_zero]
      refine wpAnyH_ready (rs := [23]) (by kernel_rfl) (by simp) ?_
      refine AllReadyH.cons (o := Oper.mk none _ _ _ _ _) rfl (fun K hK => ?_) AllReadyH.nil
      go_simp
      refine hK.out _ _ ?_ (fun hHeld => ?_)
      · exact (ScT.set3 ⟨y0, y1⟩ _)
      clear hK K
      refine wpAnyH_done (by kernel_rfl) ?_ _
      clear hHeld
      go_wp2
      go_end0
      have BK := (GXh.out.setN 3 (.slice (some ⟨g, 0, none⟩) (n + 1) cp)).setN 1 (.int .i64 (p : Int))
      refine ⟨rfl, hide ⟨.slice (some ⟨g, 0, none⟩) (n + 1) cp, BK, ownF_set (ownF_set GO2.out (Nat.lt_succ_self D)) (Nat.lt_succ_self D), ?_⟩, (GL2.out.setCell (p := ⟨D, 3, none⟩) (Nat.le_refl _) _).setCell (p := ⟨D, 1, none⟩) (Nat.le_refl _) _, (GP2.out.set _).set _⟩
      unfold OwnP
      rw [← XL.out.1, ← XL.out.2]
      exact ownF_set (ownF_set hown2.out (Nat.lt_succ_self D)) (Nat.lt_succ_self D)
    · go_simp
      refine (HI.out _ (by assumption)).mono ?_
      rintro e w1 ⟨rfl, b1, z0, z1, z3⟩
      refine hK.out _ _ ?_ (fun hHeld => ?_)
      · exact ⟨z0, z1⟩
      clear hK K
      refine wpAnyH_take (i := 17) (oi := Oper.mk (some 27) _ _ _ _ _) (v := .int .i64 s.f) rfl (by kernel_rfl) (by kernel_rfl) (by kernel_rfl) (fun _ _ _ h => h) (Or.inl ⟨by rfl, ?_⟩) (by assumption) ?_
      · intro wX hSw
        (try dsimp only at hSw)
        go_simp
      simp only [Act.put, List.setIfInBounds_toArray, List.set_cons_succ, List.set_cons_zero]
      refine wpAnyH_take (i := 18) (oi := Oper.mk (some 28) _ _ _ _ _) (v := .agg #[.string T, .int .i64 s.f]) rfl (by kernel_rfl) (by kernel_rfl) (by kernel_rfl) (fun _ _ _ h => h) (Or.inl ⟨by rfl, ?_⟩) (by assumption) ?_
      · intro wX hSw
        (try dsimp only at hSw)
        go_simp
      simp only [Act.put, List.setIfInBounds_toArray, List.set_cons_succ, List.set_cons_zero]
      refine wpAnyH_ready (rs := [4, 19]) (by kernel_rfl) (by simp) ?_
      refine AllReadyH.cons (o := Oper.mk (some 14) _ _ _ _ _) rfl (fun K hK => ?_) (AllReadyH.cons (o := Oper.mk (some 29) _ _ _ _ _) rfl (fun K hK => ?_) AllReadyH.nil)
      · go_simp
        refine hK.out _ _ ?_ (fun hHeld => ?_)
        · assumption
        clear hK K
        refine wpAnyH_ready (rs := [19]) (by kernel_rfl) (by simp) ?_
        refine AllReadyH.cons (o := Oper.mk (some 29) _ _ _ _ _) rfl (fun K hK => ?_) AllReadyH.nil
        go_simp
        refine hK.out _ _ ?_ (fun hHeld => ?_)
        · exact (ScT.alloc ⟨z0, z1⟩ _)
        clear hK K
        refine wpAnyH_ready (rs := [20]) (by kernel_rfl) (by simp) ?_
        refine AllReadyH.cons (o := Oper.mk (some 30) _ _ _ _ _) rfl (fun K hK => ?_) AllReadyH.nil
        refine step_append_lies _ (by rfl) _ _ _ (by rfl) (D + 1) 50 i0 (.agg #[.string ⟨#[]⟩, .int .i64 0]) 2 24 Tryd.underlying22 hi hz0 hz1 hz2 rfl (by decide) (.slice lo n lc) n xs (by rfl) (OW.out _ b1) ⟨w1.heap.size, 0, none⟩ 1 1 [.string T, .int .i64 s.f] (by rfl) rfl (NEWS.out _) ONE.out (by decide) (by unfold maxLen; omega) (by omega) (BASE.out _ b1) _ rfl ?_
        intro g cp w4 hown hgr hat hlt
        obtain ⟨GX, GO, GL, GP⟩ := GB.out _ b1 _ hgr
        have GXh := hide GX
        have y0 := GX.cell 0
        have y1 := GX.cell 1
        have y3 := GX.cell 3
        have y4 := GX.free 3
        have y5 := GX.free 1
        have hown2 := hide hown
        have GO2 := hide GO
        have GL2 := hide GL
        have GP2 := hide GP
        clear hgr hat hlt GX GO GL GP hown
        refine hK.out _ _ ?_ (fun hHeld => ?_)
        · exact ⟨y0, y1⟩
        clear hK K
        refine wpAnyH_take (i := 21) (oi := Oper.mk (some 31) _ _ _ _ _) (v := .pointer (some ⟨D, 0, none⟩)) rfl (by kernel_rfl) (by kernel_rfl) (by kernel_rfl) (fun _ _ _ h => h) (Or.inl ⟨by rfl, ?_⟩) (by assumption) ?_
        · intro wX hSw
          (try dsimp only at hSw)
          go_simp
        simp only [Act.put, List.setIfInBounds_toArray, List.set_cons_succ, List.set_cons_zero]
        refine wpAnyH_take (i := 22) (oi := Oper.mk (some 32) _ _ _ _ _) (v := .pointer (some ⟨D, 3, none⟩)) rfl (by kernel_rfl) (by kernel_rfl) (by kernel_rfl) (fun _ _ _ h => h) (Or.inl ⟨by rfl, ?_⟩) (by assumption) ?_
        · intro wX hSw
          (try dsimp only at hSw)
          go_simp
        simp only [Act.put, List.setIfInBounds_toArray, List.set_cons_succ, List.set_cons_zero]
        refine wpAnyH_ready (rs := [23]) (by kernel_rfl) (by simp) ?_
        refine AllReadyH.cons (o := Oper.mk none _ _ _ _ _) rfl (fun K hK => ?_) AllReadyH.nil
        go_simp
        refine hK.out _ _ ?_ (fun hHeld => ?_)
        · exact (ScT.set3 ⟨y0, y1⟩ _)
        clear hK K
        refine wpAnyH_done (by kernel_rfl) ?_ _
        clear hHeld
        go_wp2
        go_end0
        have BK := (GXh.out.setN 3 (.slice (some ⟨g, 0, none⟩) (n + 1) cp)).setN 1 (.int .i64 (p : Int))
        refine ⟨rfl, hide ⟨.slice (some ⟨g, 0, none⟩) (n + 1) cp, BK, ownF_set (ownF_set GO2.out (Nat.lt_succ_self D)) (Nat.lt_succ_self D), ?_⟩, (GL2.out.setCell (p := ⟨D, 3, none⟩) (Nat.le_refl _) _).setCell (p := ⟨D, 1, none⟩) (Nat.le_refl _) _, (GP2.out.set _).set _⟩
        unfold OwnP
        rw [← XL.out.1, ← XL.out.2]
        exact ownF_set (ownF_set hown2.out (Nat.lt_succ_self D)) (Nat.lt_succ_self D)
      · go_simp
        refine hK.out _ _ ?_ (fun hHeld => ?_)
        · exact (ScT.alloc ⟨z0, z1⟩ _)
        clear hK K
        refine wpAnyH_ready (rs := [4]) (by kernel_rfl) (by simp) ?_
        refine AllReadyH.cons (o := Oper.mk (some 14) _ _ _ _ _) rfl (fun K hK => ?_) AllReadyH.nil
        have z3a := (show (w1.alloc (.cells #[.string T, .int .i64 s.f] 50)).cell? ⟨D, 3, none⟩ = some (.slice lo n lc) from ((Below.refl w1.heap.size w1).alloc (Nat.le_refl _) _ |>.cell (p := ⟨D, 3, none⟩) (by have := b1.out.size; show D < w1.heap.size; omega)).trans z3)
        go_simp
        refine hK.out _ _ ?_ (fun hHeld => ?_)
        · assumption
        clear hK K
        refine wpAnyH_ready (rs := [20]) (by kernel_rfl) (by simp) ?_
        refine AllReadyH.cons (o := Oper.mk (some 30) _ _ _ _ _) rfl (fun K hK => ?_) AllReadyH.nil
        refine step_append_lies _ (by rfl) _ _ _ (by rfl) (D + 1) 50 i0 (.agg #[.string ⟨#[]⟩, .int .i64 0]) 2 24 Tryd.underlying22 hi hz0 hz1 hz2 rfl (by decide) (.slice lo n lc) n xs (by rfl) (OW.out _ b1) ⟨w1.heap.size, 0, none⟩ 1 1 [.string T, .int .i64 s.f] (by rfl) rfl (NEWS.out _) ONE.out (by decide) (by unfold maxLen; omega) (by omega) (BASE.out _ b1) _ rfl ?_
        intro g cp w4 hown hgr hat hlt
        obtain ⟨GX, GO, GL, GP⟩ := GB.out _ b1 _ hgr
        have GXh := hide GX
        have y0 := GX.cell 0
        have y1 := GX.cell 1
        have y3 := GX.cell 3
        have y4 := GX.free 3
        have y5 := GX.free 1
        have hown2 := hide hown
        have GO2 := hide GO
        have GL2 := hide GL
        have GP2 := hide GP
        clear hgr hat hlt GX GO GL GP hown
        refine hK.out _ _ ?_ (fun hHeld => ?_)
        · exact ⟨y0, y1⟩
        clear hK K
        refine wpAnyH_take (i := 21) (oi := Oper.mk (some 31) _ _ _ _ _) (v := .pointer (some ⟨D, 0, none⟩)) rfl (by kernel_rfl) (by kernel_rfl) (by kernel_rfl) (fun _ _ _ h => h) (Or.inl ⟨by rfl, ?_⟩) (by assumption) ?_
        · intro wX hSw
          (try dsimp only at hSw)
          go_simp
        simp only [Act.put, List.setIfInBounds_toArray, List.set_cons_succ, List.set_cons_zero]
        refine wpAnyH_take (i := 22) (oi := Oper.mk (some 32) _ _ _ _ _) (v := .pointer (some ⟨D, 3, none⟩)) rfl (by kernel_rfl) (by kernel_rfl) (by kernel_rfl) (fun _ _ _ h => h) (Or.inl ⟨by rfl, ?_⟩) (by assumption) ?_
        · intro wX hSw
          (try dsimp only at hSw)
          go_simp
        simp only [Act.put, List.setIfInBounds_toArray, List.set_cons_succ, List.set_cons_zero]
        refine wpAnyH_ready (rs := [23]) (by kernel_rfl) (by simp) ?_
        refine AllReadyH.cons (o := Oper.mk none _ _ _ _ _) rfl (fun K hK => ?_) AllReadyH.nil
        go_simp
        refine hK.out _ _ ?_ (fun hHeld => ?_)
        · exact (ScT.set3 ⟨y0, y1⟩ _)
        clear hK K
        refine wpAnyH_done (by kernel_rfl) ?_ _
        clear hHeld
        go_wp2
        go_end0
        have BK := (GXh.out.setN 3 (.slice (some ⟨g, 0, none⟩) (n + 1) cp)).setN 1 (.int .i64 (p : Int))
        refine ⟨rfl, hide ⟨.slice (some ⟨g, 0, none⟩) (n + 1) cp, BK, ownF_set (ownF_set GO2.out (Nat.lt_succ_self D)) (Nat.lt_succ_self D), ?_⟩, (GL2.out.setCell (p := ⟨D, 3, none⟩) (Nat.le_refl _) _).setCell (p := ⟨D, 1, none⟩) (Nat.le_refl _) _, (GP2.out.set _).set _⟩
        unfold OwnP
        rw [← XL.out.1, ← XL.out.2]
        exact ownF_set (ownF_set hown2.out (Nat.lt_succ_self D)) (Nat.lt_succ_self D)
end Go.Proofs.YtkgapklhgkngnaaDoor
