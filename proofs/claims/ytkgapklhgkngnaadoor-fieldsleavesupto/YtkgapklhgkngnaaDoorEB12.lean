/-
  The iterator of fields.All: its contract.
  A region that draws, within a round of a range over a function, walked as one that is in no round.
  The reference's ahead, cross and place.
  What may be, as the reference says it.
  The leaves, as the reference cuts them.
  The reference's place.
-/
import Derived.RangeFuncNested
import Derived.RangeFuncBound
import Derived.RangeFuncCalls
import Derived.RangeFuncLeaves
import Derived.Shelf.Abstract
import Derived.Shelf.RegionOpen
import Derived.OwnWalkIn
import Derived.TacticsInMore
import Derived.LoopNIn
import Derived.LoopIn
import Derived.Test.YtkgapklhgkngnaaDoorEB11
import Derived.Deep.RegionHeld
import Derived.Test.YtkgapklhgkngnaaDoorEB8
import Derived.Test.YtkgapklhgkngnaaDoorEB7
namespace Go.Proofs.YtkgapklhgkngnaaDoor
open Go.RowKit Go.Shelf

attribute [local go_sem] Oper.semAt_some

def InT (T : ByteArray) : Type := { s : Sp // 0 ≤ s.a ∧ s.a ≤ s.b ∧ s.b ≤ (T.size : Int) }
def encI (T : ByteArray) (x : InT T) : Array Value := #[.agg #[.int .i64 x.1.f, .int .i64 x.1.a, .int .i64 x.1.b], .string (T.extract x.1.a.toNat x.1.b.toNat)]

theorem genG {F : Fence} {n : Nat} {P : Program} {md : Region.Mode} {ops : Array Oper} {Q : Exit → Act → World → Prop} {fuel : Nat} {listed : Array Bool} {a : Act} {w : World}
    (h : ∀ G : Nat → Array Bool → Act → World → Prop, G = wpAnyIn F n P md ops Q → G fuel listed a w) : wpAnyIn F n P md ops Q fuel listed a w := h _ rfl

set_option maxRecDepth 100000 in
set_option maxHeartbeats 4000000 in
theorem all1_in (F : Fence) (n : Nat) (hf : F.fn 42) (hro : F.round = none) (hn : 1 ≤ n) (y Bt Bs n₀ : Nat) (T : ByteArray) (l : List Sp) (hin : ∀ s ∈ l, 0 ≤ s.a ∧ s.a ≤ s.b ∧ s.b ≤ (T.size : Int)) (sv : Value) (hl : l.length ≤ 140737488355328) (J Jx : List (InT T) → World → Prop)
    (W : World) (hJ : AbidesFrom W.heap.size J)
    (hY : ∀ pre x W, J pre W → pre.length < l.length → YieldAt F (n - 1) Tryd.prog y (encI T x) W fun e W' =>
      (e = .returned (.bool true) ∧ J (pre ++ [x]) W' ∧ Below n₀ W W') ∨ (e = .returned (.bool false) ∧ Jx (pre ++ [x]) W'))
    (hnW : n₀ ≤ W.heap.size) (hbt : Bt < n₀) (ct : W.cell? ⟨Bt, 0, none⟩ = some (.string T)) (cs : W.cell? ⟨Bs, 0, none⟩ = some sv) (hv : ∀ X, Below n₀ W X → SpV X sv l) (h0 : J [] W) :
    CallsIn F n Tryd.prog 42 #[.func (.yield y) #[] #[], .pointer (some ⟨Bs, 0, none⟩), .pointer (some ⟨Bt, 0, none⟩)] W fun e W' => (∃ v, e = .returned v) ∧
      ((∃ ys : List (InT T), ys.map (·.1) = l ∧ J ys W') ∨ (∃ pre : List (InT T), pre.map (·.1) <+: l ∧ Jx pre W')) := by
  have HV := hide hv
  obtain ⟨ao, cap, rfl⟩ := (hv W (Below.refl _ _)).len
  obtain ⟨m, hm⟩ : ∃ m, m = l.length := ⟨_, rfl⟩
  rw [← hm] at cs HV hl
  have HM := hide hm
  have HIN := hide hin
  clear hv hm hin
  refine callsIn_of_wp Tryd.func42 rfl hf ?_ hro
  simp only [Tryd.ntmps42, List.size_toArray, List.length_cons, List.length_nil, Nat.reduceAdd, Nat.reduceSub, Array.replicate_succ, Array.replicate_zero, List.push_toArray, List.append_toArray, List.nil_append, List.cons_append]
  gi_wp2
  gi_loopw [8] (fun i wr => ∃ (k : Nat) (pre : List (InT T)), k ≤ m ∧ i = .int .i64 k ∧ Hid (pre.map (·.1) = l.take k) ∧ Hid (J pre wr) ∧ Hid (Below n₀ W wr)) (fun i _ => m - (intOf i).toNat)
  case atStart => exact ⟨0, [], Nat.zero_le _, rfl, hide rfl, hide h0, hide (Below.refl _ _)⟩
  case round =>
    obtain ⟨k, pre, hk, rfl, HP, HJ, HB⟩ := hrel
    by_cases hlt : k < m
    · have hlt' : (k : Int) < (m : Int) := by omega
      have hil : k < l.length := by rw [← HM.out]; exact hlt
      have c3 := HV.out wr HB.out
      rw [HM.out] at c3
      cases c3 with
      | none _ _ _ h => subst h; simp at hil
      | some b o cp hv hc hb ha =>
        simp only [Value.slice.injEq] at hv
        obtain ⟨rfl, q1, rfl⟩ := hv
        clear q1
        obtain ⟨c0, c1, c2⟩ := ha k hil
        have hx := HIN.out _ (gN_mem (d := spZ) hil)
        obtain ⟨x, hxe⟩ : ∃ x : InT T, x.1 = gN spZ l k := ⟨⟨_, hx⟩, rfl⟩
        rw [← hxe] at c0 c1 c2 hx
        have HXE := hide hxe
        clear hxe
        obtain ⟨ff, hff⟩ : ∃ ff, ff = x.1.f := ⟨_, rfl⟩
        obtain ⟨aa, haa⟩ : ∃ aa : Nat, x.1.a = (aa : Int) := ⟨x.1.a.toNat, (Int.toNat_of_nonneg hx.1).symm⟩
        obtain ⟨bb, hbb⟩ : ∃ bb : Nat, x.1.b = (bb : Int) := ⟨x.1.b.toNat, (Int.toNat_of_nonneg (Int.le_trans hx.1 hx.2.1)).symm⟩
        have EX : Hid (encI T x = #[.agg #[.int .i64 ff, .int .i64 (aa : Int), .int .i64 (bb : Int)], .string (T.extract aa bb)]) := hide (by unfold encI; rw [haa, hbb, hff, Int.toNat_natCast, Int.toNat_natCast])
        rw [← hff] at c0
        rw [haa] at c1
        rw [hbb] at c2
        have h1 : aa ≤ bb := by have := hx.2.1; omega
        have h2 : bb ≤ T.size := by have := hx.2.2; omega
        obtain ⟨X, hX⟩ : ∃ X, X = wr.alloc (.cells #[.int .i64 ff, .int .i64 (aa : Int), .int .i64 (bb : Int)] 31) := ⟨_, rfl⟩
        have BX := hide (show Below wr.heap.size wr X by rw [hX]; exact (Below.refl _ _).alloc (Nat.le_refl _) _)
        have KX : Hid (Blk X wr.heap.size #[.int .i64 ff, .int .i64 (aa : Int), .int .i64 (bb : Int)] 31) := hide (by rw [hX]; exact Blk.newAt wr _ rfl _ _)
        have ct3 := hide ((BX.out.cell (p := ⟨Bt, 0, none⟩) (Nat.lt_of_lt_of_le hbt (Nat.le_trans hnW HB.out.size))).trans ((HB.out.cell (p := ⟨Bt, 0, none⟩) hbt).trans ct))
        have JX : Hid (J pre X.drew) := hide (by
          refine hJ pre wr X.drew none HJ.out ?_ (fun r q => by cases q)
          rw [hX]
          exact ⟨rfl, rfl, rfl, by show wr.heap.size ≤ (wr.alloc _).heap.size; rw [allocW_size]; exact Nat.le_succ _, fun q hq _ => Below.heap_alloc wr _ q hq⟩)
        have LP : Hid (pre.length < l.length) := hide (by have q := congrArg List.length HP.out; rw [List.length_map, List.length_take] at q; omega)
        obtain ⟨fn, tmps, assign, body, hy, hR⟩ := hY pre x X.drew JX.out LP.out
        rw [EX.out] at hy
        have HX := hide hX.symm
        have hil2 := hide hil
        clear ha hc hil hff haa hbb hX ct
        have hR2 : RoundIn F (n - 1) Tryd.prog y fn tmps assign body X.drew fun e W' => ∃ tt : Bool, e = .returned (.bool tt) ∧ Hid ((tt = true → J (pre ++ [x]) W' ∧ Below n₀ X.drew W') ∧ (tt = false → Jx (pre ++ [x]) W')) := hR.mono (by
          rintro e W' (⟨rfl, h1, h2⟩ | ⟨rfl, h1⟩)
          · exact ⟨true, rfl, hide ⟨fun _ => ⟨h1, h2⟩, fun q => (by cases q)⟩⟩
          · exact ⟨false, rfl, hide ⟨fun q => (by cases q), fun _ => h1⟩⟩)
        clear hR
        gi_wp2_with (simp only [HX.out])
        have t0 := KX.out.cell 0
        have t1 := KX.out.cell 1
        have t2 := KX.out.cell 2
        have t3 := ct3.out
        -- REGION
        refine wpIn_region_any (by kernel_rfl) ?_
        change wpAnyIn _ _ _ _ _ _ _ _ _ (World.drew _)
        refine wpAnyIn_take (i := 0) (oi := Oper.mk (some 12) _ _ _ _ _) (v := .func (.yield y) #[] #[]) hro rfl (by kernel_rfl) (by kernel_rfl) (by kernel_rfl) (fun _ _ _ h => h) ⟨Or.inl ⟨by rfl, ?_⟩, fun _ => rfl⟩ ?_
        · intro w
          go_simp
        simp only [Act.put, List.setIfInBounds_toArray, List.set_cons_succ, List.set_cons_zero]
        refine wpAnyIn_take (i := 3) (oi := Oper.mk (some 15) _ _ _ _ _) (v := .pointer (some ⟨wr.heap.size, 1, none⟩)) hro rfl (by kernel_rfl) (by kernel_rfl) (by kernel_rfl) (fun _ _ _ h => h) ⟨Or.inl ⟨by rfl, ?_⟩, fun _ => rfl⟩ ?_
        · intro w
          go_simp
        simp only [Act.put, List.setIfInBounds_toArray, List.set_cons_succ, List.set_cons_zero]
        refine wpAnyIn_take (i := 5) (oi := Oper.mk (some 17) _ _ _ _ _) (v := .pointer (some ⟨wr.heap.size, 2, none⟩)) hro rfl (by kernel_rfl) (by kernel_rfl) (by kernel_rfl) (fun _ _ _ h => h) ⟨Or.inl ⟨by rfl, ?_⟩, fun _ => rfl⟩ ?_
        · intro w
          go_simp
        simp only [Act.put, List.setIfInBounds_toArray, List.set_cons_succ, List.set_cons_zero]
        refine genG ?_
        intro G hG
        have p12467 : G 2 #[true, true, true, true, true, true, true, true, false, false] { tmps := #[.func (.yield y) #[] #[], .pointer (some ⟨Bs, 0, none⟩), .pointer (some ⟨Bt, 0, none⟩), undef, undef, .pointer (some ⟨wr.heap.size, 0, none⟩), .slice (some ⟨b, o, none⟩) m cap, .int .i64 (m : Int), .int .i64 (k : Int), .bool true, .pointer (some ⟨b, o + k * 3, none⟩), .agg #[.int .i64 ff, .int .i64 (aa : Int), .int .i64 (bb : Int)], .func (.yield y) #[] #[], .agg #[.int .i64 ff, .int .i64 (aa : Int), .int .i64 (bb : Int)], .string T, .pointer (some ⟨wr.heap.size, 1, none⟩), .int .i64 (aa : Int), .pointer (some ⟨wr.heap.size, 2, none⟩), .int .i64 (bb : Int), .string (T.extract aa bb), u20, u21, u22], defers := [] } X.drew := by
          rw [hG]
          refine wpAnyIn_ready (rs := [8]) (by kernel_rfl) (by simp) ?_
          refine AllReadyIn.cons (o := Oper.mk (some 20) _ _ _ _ _) rfl (fun K hK => ?_) AllReadyIn.nil
          go_simp
          refine hR2.mono ?_
          rintro e W3 ⟨tt, rfl, H3⟩
          refine hK _ _ ?_
          clear hK K
          have LX : Hid (pre.length = k) := hide (by have q0 := hil2.out; have q := congrArg List.length HP.out; rw [List.length_map, List.length_take] at q; omega)
          have PX : Hid ((pre ++ [x]).map (·.1) = l.take (k + 1)) := hide (by rw [List.map_append, HP.out, List.take_succ_eq_append_getElem hil2.out]; congr 1; show [x.1] = _; rw [HXE.out]; unfold gN; rw [List.getElem?_eq_getElem hil2.out]; rfl)
          cases tt with
          | true =>
            have H4 := H3.out.1 rfl
            have J4 := hide H4.1
            have B4 := hide (HB.out.trans (((BX.out.mono (Nat.le_trans hnW HB.out.size)).drew).trans H4.2))
            clear H4 H3 hR2 JX BX KX ct3 t0 t1 t2 t3
            refine wpAnyIn_ready (rs := [9]) (by kernel_rfl) (by simp) ?_
            refine AllReadyIn.cons (o := Oper.mk (some 21) _ _ _ _ _) rfl (fun K hK => ?_) AllReadyIn.nil
            go_simp
            refine hK _ _ ?_
            clear hK K
            refine wpAnyIn_done (by kernel_rfl) ?_ _
            clear hG G
            gi_wp2
            go_roundw
            case rel => exact ⟨k + 1, _, by omega, by go_num, PX, J4, B4⟩
            case measure => simp [intOf]; omega
          | false =>
            have J4 := hide (H3.out.2 rfl)
            clear H3 hR2 JX BX KX ct3 t0 t1 t2 t3
            refine wpAnyIn_ready (rs := [9]) (by kernel_rfl) (by simp) ?_
            refine AllReadyIn.cons (o := Oper.mk (some 21) _ _ _ _ _) rfl (fun K hK => ?_) AllReadyIn.nil
            go_simp
            refine hK _ _ ?_
            clear hK K
            refine wpAnyIn_done (by kernel_rfl) ?_ _
            clear hG G
            gi_wp2
            refine bodyPost_ret (results_none rfl _ _ _) rfl ?_
            exact ⟨⟨_, rfl⟩, .inr ⟨_, by rw [PX.out]; exact List.take_prefix _ _, J4.out⟩⟩
        have p1246 : G 3 #[true, true, true, true, true, true, true, false, false, false] { tmps := #[.func (.yield y) #[] #[], .pointer (some ⟨Bs, 0, none⟩), .pointer (some ⟨Bt, 0, none⟩), undef, undef, .pointer (some ⟨wr.heap.size, 0, none⟩), .slice (some ⟨b, o, none⟩) m cap, .int .i64 (m : Int), .int .i64 (k : Int), .bool true, .pointer (some ⟨b, o + k * 3, none⟩), .agg #[.int .i64 ff, .int .i64 (aa : Int), .int .i64 (bb : Int)], .func (.yield y) #[] #[], .agg #[.int .i64 ff, .int .i64 (aa : Int), .int .i64 (bb : Int)], .string T, .pointer (some ⟨wr.heap.size, 1, none⟩), .int .i64 (aa : Int), .pointer (some ⟨wr.heap.size, 2, none⟩), .int .i64 (bb : Int), u19, u20, u21, u22], defers := [] } X.drew := by
          rw [hG]
          refine wpAnyIn_ready (rs := [7]) (by kernel_rfl) (by simp) ?_
          refine AllReadyIn.cons (o := Oper.mk (some 19) _ _ _ _ _) rfl (fun K hK => ?_) AllReadyIn.nil
          · go_simp
            exact hK _ _ (by have q := p12467; rw [hG] at q; exact q)
        have p2467 : G 3 #[true, false, true, true, true, true, true, true, false, false] { tmps := #[.func (.yield y) #[] #[], .pointer (some ⟨Bs, 0, none⟩), .pointer (some ⟨Bt, 0, none⟩), undef, undef, .pointer (some ⟨wr.heap.size, 0, none⟩), .slice (some ⟨b, o, none⟩) m cap, .int .i64 (m : Int), .int .i64 (k : Int), .bool true, .pointer (some ⟨b, o + k * 3, none⟩), .agg #[.int .i64 ff, .int .i64 (aa : Int), .int .i64 (bb : Int)], .func (.yield y) #[] #[], u13, .string T, .pointer (some ⟨wr.heap.size, 1, none⟩), .int .i64 (aa : Int), .pointer (some ⟨wr.heap.size, 2, none⟩), .int .i64 (bb : Int), .string (T.extract aa bb), u20, u21, u22], defers := [] } X.drew := by
          rw [hG]
          refine wpAnyIn_ready (rs := [1]) (by kernel_rfl) (by simp) ?_
          refine AllReadyIn.cons (o := Oper.mk (some 13) _ _ _ _ _) rfl (fun K hK => ?_) AllReadyIn.nil
          · go_simp
            exact hK _ _ (by have q := p12467; rw [hG] at q; exact q)
        have p124 : G 4 #[true, true, true, true, true, true, false, false, false, false] { tmps := #[.func (.yield y) #[] #[], .pointer (some ⟨Bs, 0, none⟩), .pointer (some ⟨Bt, 0, none⟩), undef, undef, .pointer (some ⟨wr.heap.size, 0, none⟩), .slice (some ⟨b, o, none⟩) m cap, .int .i64 (m : Int), .int .i64 (k : Int), .bool true, .pointer (some ⟨b, o + k * 3, none⟩), .agg #[.int .i64 ff, .int .i64 (aa : Int), .int .i64 (bb : Int)], .func (.yield y) #[] #[], .agg #[.int .i64 ff, .int .i64 (aa : Int), .int .i64 (bb : Int)], .string T, .pointer (some ⟨wr.heap.size, 1, none⟩), .int .i64 (aa : Int), .pointer (some ⟨wr.heap.size, 2, none⟩), u18, u19, u20, u21, u22], defers := [] } X.drew := by
          rw [hG]
          refine wpAnyIn_ready (rs := [6]) (by kernel_rfl) (by simp) ?_
          refine AllReadyIn.cons (o := Oper.mk (some 18) _ _ _ _ _) rfl (fun K hK => ?_) AllReadyIn.nil
          · go_simp
            exact hK _ _ (by have q := p1246; rw [hG] at q; exact q)
        have p126 : G 4 #[true, true, true, true, false, true, true, false, false, false] { tmps := #[.func (.yield y) #[] #[], .pointer (some ⟨Bs, 0, none⟩), .pointer (some ⟨Bt, 0, none⟩), undef, undef, .pointer (some ⟨wr.heap.size, 0, none⟩), .slice (some ⟨b, o, none⟩) m cap, .int .i64 (m : Int), .int .i64 (k : Int), .bool true, .pointer (some ⟨b, o + k * 3, none⟩), .agg #[.int .i64 ff, .int .i64 (aa : Int), .int .i64 (bb : Int)], .func (.yield y) #[] #[], .agg #[.int .i64 ff, .int .i64 (aa : Int), .int .i64 (bb : Int)], .string T, .pointer (some ⟨wr.heap.size, 1, none⟩), u16, .pointer (some ⟨wr.heap.size, 2, none⟩), .int .i64 (bb : Int), u19, u20, u21, u22], defers := [] } X.drew := by
          rw [hG]
          refine wpAnyIn_ready (rs := [4]) (by kernel_rfl) (by simp) ?_
          refine AllReadyIn.cons (o := Oper.mk (some 16) _ _ _ _ _) rfl (fun K hK => ?_) AllReadyIn.nil
          · go_simp
            exact hK _ _ (by have q := p1246; rw [hG] at q; exact q)
        have p146 : G 4 #[true, true, false, true, true, true, true, false, false, false] { tmps := #[.func (.yield y) #[] #[], .pointer (some ⟨Bs, 0, none⟩), .pointer (some ⟨Bt, 0, none⟩), undef, undef, .pointer (some ⟨wr.heap.size, 0, none⟩), .slice (some ⟨b, o, none⟩) m cap, .int .i64 (m : Int), .int .i64 (k : Int), .bool true, .pointer (some ⟨b, o + k * 3, none⟩), .agg #[.int .i64 ff, .int .i64 (aa : Int), .int .i64 (bb : Int)], .func (.yield y) #[] #[], .agg #[.int .i64 ff, .int .i64 (aa : Int), .int .i64 (bb : Int)], u14, .pointer (some ⟨wr.heap.size, 1, none⟩), .int .i64 (aa : Int), .pointer (some ⟨wr.heap.size, 2, none⟩), .int .i64 (bb : Int), u19, u20, u21, u22], defers := [] } X.drew := by
          rw [hG]
          refine wpAnyIn_ready (rs := [2]) (by kernel_rfl) (by simp) ?_
          refine AllReadyIn.cons (o := Oper.mk (some 14) _ _ _ _ _) rfl (fun K hK => ?_) AllReadyIn.nil
          · go_simp
            exact hK _ _ (by have q := p1246; rw [hG] at q; exact q)
        have p246 : G 4 #[true, false, true, true, true, true, true, false, false, false] { tmps := #[.func (.yield y) #[] #[], .pointer (some ⟨Bs, 0, none⟩), .pointer (some ⟨Bt, 0, none⟩), undef, undef, .pointer (some ⟨wr.heap.size, 0, none⟩), .slice (some ⟨b, o, none⟩) m cap, .int .i64 (m : Int), .int .i64 (k : Int), .bool true, .pointer (some ⟨b, o + k * 3, none⟩), .agg #[.int .i64 ff, .int .i64 (aa : Int), .int .i64 (bb : Int)], .func (.yield y) #[] #[], u13, .string T, .pointer (some ⟨wr.heap.size, 1, none⟩), .int .i64 (aa : Int), .pointer (some ⟨wr.heap.size, 2, none⟩), .int .i64 (bb : Int), u19, u20, u21, u22], defers := [] } X.drew := by
          rw [hG]
          refine wpAnyIn_ready (rs := [1, 7]) (by kernel_rfl) (by simp) ?_
          refine AllReadyIn.cons (o := Oper.mk (some 13) _ _ _ _ _) rfl (fun K hK => ?_) (AllReadyIn.cons (o := Oper.mk (some 19) _ _ _ _ _) rfl (fun K hK => ?_) AllReadyIn.nil)
          · go_simp
            exact hK _ _ (by have q := p1246; rw [hG] at q; exact q)
          · go_simp
            exact hK _ _ (by have q := p2467; rw [hG] at q; exact q)
        have p12 : G 5 #[true, true, true, true, false, true, false, false, false, false] { tmps := #[.func (.yield y) #[] #[], .pointer (some ⟨Bs, 0, none⟩), .pointer (some ⟨Bt, 0, none⟩), undef, undef, .pointer (some ⟨wr.heap.size, 0, none⟩), .slice (some ⟨b, o, none⟩) m cap, .int .i64 (m : Int), .int .i64 (k : Int), .bool true, .pointer (some ⟨b, o + k * 3, none⟩), .agg #[.int .i64 ff, .int .i64 (aa : Int), .int .i64 (bb : Int)], .func (.yield y) #[] #[], .agg #[.int .i64 ff, .int .i64 (aa : Int), .int .i64 (bb : Int)], .string T, .pointer (some ⟨wr.heap.size, 1, none⟩), u16, .pointer (some ⟨wr.heap.size, 2, none⟩), u18, u19, u20, u21, u22], defers := [] } X.drew := by
          rw [hG]
          refine wpAnyIn_ready (rs := [4, 6]) (by kernel_rfl) (by simp) ?_
          refine AllReadyIn.cons (o := Oper.mk (some 16) _ _ _ _ _) rfl (fun K hK => ?_) (AllReadyIn.cons (o := Oper.mk (some 18) _ _ _ _ _) rfl (fun K hK => ?_) AllReadyIn.nil)
          · go_simp
            exact hK _ _ (by have q := p124; rw [hG] at q; exact q)
          · go_simp
            exact hK _ _ (by have q := p126; rw [hG] at q; exact q)
        have p14 : G 5 #[true, true, false, true, true, true, false, false, false, false] { tmps := #[.func (.yield y) #[] #[], .pointer (some ⟨Bs, 0, none⟩), .pointer (some ⟨Bt, 0, none⟩), undef, undef, .pointer (some ⟨wr.heap.size, 0, none⟩), .slice (some ⟨b, o, none⟩) m cap, .int .i64 (m : Int), .int .i64 (k : Int), .bool true, .pointer (some ⟨b, o + k * 3, none⟩), .agg #[.int .i64 ff, .int .i64 (aa : Int), .int .i64 (bb : Int)], .func (.yield y) #[] #[], .agg #[.int .i64 ff, .int .i64 (aa : Int), .int .i64 (bb : Int)], u14, .pointer (some ⟨wr.heap.size, 1, none⟩), .int .i64 (aa : Int), .pointer (some ⟨wr.heap.size, 2, none⟩), u18, u19, u20, u21, u22], defers := [] } X.drew := by
          rw [hG]
          refine wpAnyIn_ready (rs := [2, 6]) (by kernel_rfl) (by simp) ?_
          refine AllReadyIn.cons (o := Oper.mk (some 14) _ _ _ _ _) rfl (fun K hK => ?_) (AllReadyIn.cons (o := Oper.mk (some 18) _ _ _ _ _) rfl (fun K hK => ?_) AllReadyIn.nil)
          · go_simp
            exact hK _ _ (by have q := p124; rw [hG] at q; exact q)
          · go_simp
            exact hK _ _ (by have q := p146; rw [hG] at q; exact q)
        have p16 : G 5 #[true, true, false, true, false, true, true, false, false, false] { tmps := #[.func (.yield y) #[] #[], .pointer (some ⟨Bs, 0, none⟩), .pointer (some ⟨Bt, 0, none⟩), undef, undef, .pointer (some ⟨wr.heap.size, 0, none⟩), .slice (some ⟨b, o, none⟩) m cap, .int .i64 (m : Int), .int .i64 (k : Int), .bool true, .pointer (some ⟨b, o + k * 3, none⟩), .agg #[.int .i64 ff, .int .i64 (aa : Int), .int .i64 (bb : Int)], .func (.yield y) #[] #[], .agg #[.int .i64 ff, .int .i64 (aa : Int), .int .i64 (bb : Int)], u14, .pointer (some ⟨wr.heap.size, 1, none⟩), u16, .pointer (some ⟨wr.heap.size, 2, none⟩), .int .i64 (bb : Int), u19, u20, u21, u22], defers := [] } X.drew := by
          rw [hG]
          refine wpAnyIn_ready (rs := [2, 4]) (by kernel_rfl) (by simp) ?_
          refine AllReadyIn.cons (o := Oper.mk (some 14) _ _ _ _ _) rfl (fun K hK => ?_) (AllReadyIn.cons (o := Oper.mk (some 16) _ _ _ _ _) rfl (fun K hK => ?_) AllReadyIn.nil)
          · go_simp
            exact hK _ _ (by have q := p126; rw [hG] at q; exact q)
          · go_simp
            exact hK _ _ (by have q := p146; rw [hG] at q; exact q)
        have p24 : G 5 #[true, false, true, true, true, true, false, false, false, false] { tmps := #[.func (.yield y) #[] #[], .pointer (some ⟨Bs, 0, none⟩), .pointer (some ⟨Bt, 0, none⟩), undef, undef, .pointer (some ⟨wr.heap.size, 0, none⟩), .slice (some ⟨b, o, none⟩) m cap, .int .i64 (m : Int), .int .i64 (k : Int), .bool true, .pointer (some ⟨b, o + k * 3, none⟩), .agg #[.int .i64 ff, .int .i64 (aa : Int), .int .i64 (bb : Int)], .func (.yield y) #[] #[], u13, .string T, .pointer (some ⟨wr.heap.size, 1, none⟩), .int .i64 (aa : Int), .pointer (some ⟨wr.heap.size, 2, none⟩), u18, u19, u20, u21, u22], defers := [] } X.drew := by
          rw [hG]
          refine wpAnyIn_ready (rs := [1, 6]) (by kernel_rfl) (by simp) ?_
          refine AllReadyIn.cons (o := Oper.mk (some 13) _ _ _ _ _) rfl (fun K hK => ?_) (AllReadyIn.cons (o := Oper.mk (some 18) _ _ _ _ _) rfl (fun K hK => ?_) AllReadyIn.nil)
          · go_simp
            exact hK _ _ (by have q := p124; rw [hG] at q; exact q)
          · go_simp
            exact hK _ _ (by have q := p246; rw [hG] at q; exact q)
        have p26 : G 5 #[true, false, true, true, false, true, true, false, false, false] { tmps := #[.func (.yield y) #[] #[], .pointer (some ⟨Bs, 0, none⟩), .pointer (some ⟨Bt, 0, none⟩), undef, undef, .pointer (some ⟨wr.heap.size, 0, none⟩), .slice (some ⟨b, o, none⟩) m cap, .int .i64 (m : Int), .int .i64 (k : Int), .bool true, .pointer (some ⟨b, o + k * 3, none⟩), .agg #[.int .i64 ff, .int .i64 (aa : Int), .int .i64 (bb : Int)], .func (.yield y) #[] #[], u13, .string T, .pointer (some ⟨wr.heap.size, 1, none⟩), u16, .pointer (some ⟨wr.heap.size, 2, none⟩), .int .i64 (bb : Int), u19, u20, u21, u22], defers := [] } X.drew := by
          rw [hG]
          refine wpAnyIn_ready (rs := [1, 4]) (by kernel_rfl) (by simp) ?_
          refine AllReadyIn.cons (o := Oper.mk (some 13) _ _ _ _ _) rfl (fun K hK => ?_) (AllReadyIn.cons (o := Oper.mk (some 16) _ _ _ _ _) rfl (fun K hK => ?_) AllReadyIn.nil)
          · go_simp
            exact hK _ _ (by have q := p126; rw [hG] at q; exact q)
          · go_simp
            exact hK _ _ (by have q := p246; rw [hG] at q; exact q)
        have p46 : G 5 #[true, false, false, true, true, true, true, false, false, false] { tmps := #[.func (.yield y) #[] #[], .pointer (some ⟨Bs, 0, none⟩), .pointer (some ⟨Bt, 0, none⟩), undef, undef, .pointer (some ⟨wr.heap.size, 0, none⟩), .slice (some ⟨b, o, none⟩) m cap, .int .i64 (m : Int), .int .i64 (k : Int), .bool true, .pointer (some ⟨b, o + k * 3, none⟩), .agg #[.int .i64 ff, .int .i64 (aa : Int), .int .i64 (bb : Int)], .func (.yield y) #[] #[], u13, u14, .pointer (some ⟨wr.heap.size, 1, none⟩), .int .i64 (aa : Int), .pointer (some ⟨wr.heap.size, 2, none⟩), .int .i64 (bb : Int), u19, u20, u21, u22], defers := [] } X.drew := by
          rw [hG]
          refine wpAnyIn_ready (rs := [1, 2]) (by kernel_rfl) (by simp) ?_
          refine AllReadyIn.cons (o := Oper.mk (some 13) _ _ _ _ _) rfl (fun K hK => ?_) (AllReadyIn.cons (o := Oper.mk (some 14) _ _ _ _ _) rfl (fun K hK => ?_) AllReadyIn.nil)
          · go_simp
            exact hK _ _ (by have q := p146; rw [hG] at q; exact q)
          · go_simp
            exact hK _ _ (by have q := p246; rw [hG] at q; exact q)
        have p1 : G 6 #[true, true, false, true, false, true, false, false, false, false] { tmps := #[.func (.yield y) #[] #[], .pointer (some ⟨Bs, 0, none⟩), .pointer (some ⟨Bt, 0, none⟩), undef, undef, .pointer (some ⟨wr.heap.size, 0, none⟩), .slice (some ⟨b, o, none⟩) m cap, .int .i64 (m : Int), .int .i64 (k : Int), .bool true, .pointer (some ⟨b, o + k * 3, none⟩), .agg #[.int .i64 ff, .int .i64 (aa : Int), .int .i64 (bb : Int)], .func (.yield y) #[] #[], .agg #[.int .i64 ff, .int .i64 (aa : Int), .int .i64 (bb : Int)], u14, .pointer (some ⟨wr.heap.size, 1, none⟩), u16, .pointer (some ⟨wr.heap.size, 2, none⟩), u18, u19, u20, u21, u22], defers := [] } X.drew := by
          rw [hG]
          refine wpAnyIn_ready (rs := [2, 4, 6]) (by kernel_rfl) (by simp) ?_
          refine AllReadyIn.cons (o := Oper.mk (some 14) _ _ _ _ _) rfl (fun K hK => ?_) (AllReadyIn.cons (o := Oper.mk (some 16) _ _ _ _ _) rfl (fun K hK => ?_) (AllReadyIn.cons (o := Oper.mk (some 18) _ _ _ _ _) rfl (fun K hK => ?_) AllReadyIn.nil))
          · go_simp
            exact hK _ _ (by have q := p12; rw [hG] at q; exact q)
          · go_simp
            exact hK _ _ (by have q := p14; rw [hG] at q; exact q)
          · go_simp
            exact hK _ _ (by have q := p16; rw [hG] at q; exact q)
        have p2 : G 6 #[true, false, true, true, false, true, false, false, false, false] { tmps := #[.func (.yield y) #[] #[], .pointer (some ⟨Bs, 0, none⟩), .pointer (some ⟨Bt, 0, none⟩), undef, undef, .pointer (some ⟨wr.heap.size, 0, none⟩), .slice (some ⟨b, o, none⟩) m cap, .int .i64 (m : Int), .int .i64 (k : Int), .bool true, .pointer (some ⟨b, o + k * 3, none⟩), .agg #[.int .i64 ff, .int .i64 (aa : Int), .int .i64 (bb : Int)], .func (.yield y) #[] #[], u13, .string T, .pointer (some ⟨wr.heap.size, 1, none⟩), u16, .pointer (some ⟨wr.heap.size, 2, none⟩), u18, u19, u20, u21, u22], defers := [] } X.drew := by
          rw [hG]
          refine wpAnyIn_ready (rs := [1, 4, 6]) (by kernel_rfl) (by simp) ?_
          refine AllReadyIn.cons (o := Oper.mk (some 13) _ _ _ _ _) rfl (fun K hK => ?_) (AllReadyIn.cons (o := Oper.mk (some 16) _ _ _ _ _) rfl (fun K hK => ?_) (AllReadyIn.cons (o := Oper.mk (some 18) _ _ _ _ _) rfl (fun K hK => ?_) AllReadyIn.nil))
          · go_simp
            exact hK _ _ (by have q := p12; rw [hG] at q; exact q)
          · go_simp
            exact hK _ _ (by have q := p24; rw [hG] at q; exact q)
          · go_simp
            exact hK _ _ (by have q := p26; rw [hG] at q; exact q)
        have p4 : G 6 #[true, false, false, true, true, true, false, false, false, false] { tmps := #[.func (.yield y) #[] #[], .pointer (some ⟨Bs, 0, none⟩), .pointer (some ⟨Bt, 0, none⟩), undef, undef, .pointer (some ⟨wr.heap.size, 0, none⟩), .slice (some ⟨b, o, none⟩) m cap, .int .i64 (m : Int), .int .i64 (k : Int), .bool true, .pointer (some ⟨b, o + k * 3, none⟩), .agg #[.int .i64 ff, .int .i64 (aa : Int), .int .i64 (bb : Int)], .func (.yield y) #[] #[], u13, u14, .pointer (some ⟨wr.heap.size, 1, none⟩), .int .i64 (aa : Int), .pointer (some ⟨wr.heap.size, 2, none⟩), u18, u19, u20, u21, u22], defers := [] } X.drew := by
          rw [hG]
          refine wpAnyIn_ready (rs := [1, 2, 6]) (by kernel_rfl) (by simp) ?_
          refine AllReadyIn.cons (o := Oper.mk (some 13) _ _ _ _ _) rfl (fun K hK => ?_) (AllReadyIn.cons (o := Oper.mk (some 14) _ _ _ _ _) rfl (fun K hK => ?_) (AllReadyIn.cons (o := Oper.mk (some 18) _ _ _ _ _) rfl (fun K hK => ?_) AllReadyIn.nil))
          · go_simp
            exact hK _ _ (by have q := p14; rw [hG] at q; exact q)
          · go_simp
            exact hK _ _ (by have q := p24; rw [hG] at q; exact q)
          · go_simp
            exact hK _ _ (by have q := p46; rw [hG] at q; exact q)
        have p6 : G 6 #[true, false, false, true, false, true, true, false, false, false] { tmps := #[.func (.yield y) #[] #[], .pointer (some ⟨Bs, 0, none⟩), .pointer (some ⟨Bt, 0, none⟩), undef, undef, .pointer (some ⟨wr.heap.size, 0, none⟩), .slice (some ⟨b, o, none⟩) m cap, .int .i64 (m : Int), .int .i64 (k : Int), .bool true, .pointer (some ⟨b, o + k * 3, none⟩), .agg #[.int .i64 ff, .int .i64 (aa : Int), .int .i64 (bb : Int)], .func (.yield y) #[] #[], u13, u14, .pointer (some ⟨wr.heap.size, 1, none⟩), u16, .pointer (some ⟨wr.heap.size, 2, none⟩), .int .i64 (bb : Int), u19, u20, u21, u22], defers := [] } X.drew := by
          rw [hG]
          refine wpAnyIn_ready (rs := [1, 2, 4]) (by kernel_rfl) (by simp) ?_
          refine AllReadyIn.cons (o := Oper.mk (some 13) _ _ _ _ _) rfl (fun K hK => ?_) (AllReadyIn.cons (o := Oper.mk (some 14) _ _ _ _ _) rfl (fun K hK => ?_) (AllReadyIn.cons (o := Oper.mk (some 16) _ _ _ _ _) rfl (fun K hK => ?_) AllReadyIn.nil))
          · go_simp
            exact hK _ _ (by have q := p16; rw [hG] at q; exact q)
          · go_simp
            exact hK _ _ (by have q := p26; rw [hG] at q; exact q)
          · go_simp
            exact hK _ _ (by have q := p46; rw [hG] at q; exact q)
        have p : G 7 #[true, false, false, true, false, true, false, false, false, false] { tmps := #[.func (.yield y) #[] #[], .pointer (some ⟨Bs, 0, none⟩), .pointer (some ⟨Bt, 0, none⟩), undef, undef, .pointer (some ⟨wr.heap.size, 0, none⟩), .slice (some ⟨b, o, none⟩) m cap, .int .i64 (m : Int), .int .i64 (k : Int), .bool true, .pointer (some ⟨b, o + k * 3, none⟩), .agg #[.int .i64 ff, .int .i64 (aa : Int), .int .i64 (bb : Int)], .func (.yield y) #[] #[], u13, u14, .pointer (some ⟨wr.heap.size, 1, none⟩), u16, .pointer (some ⟨wr.heap.size, 2, none⟩), u18, u19, u20, u21, u22], defers := [] } X.drew := by
          rw [hG]
          refine wpAnyIn_ready (rs := [1, 2, 4, 6]) (by kernel_rfl) (by simp) ?_
          refine AllReadyIn.cons (o := Oper.mk (some 13) _ _ _ _ _) rfl (fun K hK => ?_) (AllReadyIn.cons (o := Oper.mk (some 14) _ _ _ _ _) rfl (fun K hK => ?_) (AllReadyIn.cons (o := Oper.mk (some 16) _ _ _ _ _) rfl (fun K hK => ?_) (AllReadyIn.cons (o := Oper.mk (some 18) _ _ _ _ _) rfl (fun K hK => ?_) AllReadyIn.nil)))
          · go_simp
            exact hK _ _ (by have q := p1; rw [hG] at q; exact q)
          · go_simp
            exact hK _ _ (by have q := p2; rw [hG] at q; exact q)
          · go_simp
            exact hK _ _ (by have q := p4; rw [hG] at q; exact q)
          · go_simp
            exact hK _ _ (by have q := p6; rw [hG] at q; exact q)
        exact p
    · obtain rfl : k = m := by omega
      have hlt' : ¬ (k : Int) < (k : Int) := by omega
      gi_wp2
      go_end0
      exact ⟨⟨_, rfl⟩, .inl ⟨pre, by rw [HP.out, HM.out, List.take_length], HJ.out⟩⟩

theorem all_stops (F : Fence) (n : Nat) (hf : F.fn 42) (hro : F.round = none) (hn : 1 ≤ n) (Bt Bs n₀ : Nat) (T : ByteArray) (l : List Sp) (hin : ∀ s ∈ l, 0 ≤ s.a ∧ s.a ≤ s.b ∧ s.b ≤ (T.size : Int)) (sv : Value) (hl : l.length ≤ 140737488355328)
    (w : World) (hnW : n₀ ≤ w.heap.size) (hbt : Bt < n₀) (hbs : Bs < n₀) (ct : w.cell? ⟨Bt, 0, none⟩ = some (.string T)) (cs : w.cell? ⟨Bs, 0, none⟩ = some sv) (hv : ∀ X, Below n₀ w X → SpV X sv l) :
    SeqStopsK F n Tryd.prog 42 #[.pointer (some ⟨Bs, 0, none⟩), .pointer (some ⟨Bt, 0, none⟩)] (encI T) (Below n₀) (fun ys => ys.map (·.1) = l) (fun pre => pre.map (·.1) <+: l) l.length w := fun y J Jx W hW hJ _ hY h0 =>
  all1_in F n hf hro hn y Bt Bs n₀ T l hin sv hl J Jx W hJ hY (Nat.le_trans hnW hW.size) hbt
    ((hW.cell (p := ⟨Bt, 0, none⟩) (Nat.lt_of_lt_of_le hbt hnW)).trans ct) ((hW.cell (p := ⟨Bs, 0, none⟩) (Nat.lt_of_lt_of_le hbs hnW)).trans cs) (fun X hX => hv X ((hW.mono hnW).trans hX)) h0
end Go.Proofs.YtkgapklhgkngnaaDoor

namespace Go.Proofs.YtkgapklhgkngnaaDoor
open Go.RowKit

def onlyN (Q : Exit → Act → World → Prop) : Exit → Act → World → Prop
  | .normal, a, w => Q .normal a w
  | _, _, _ => False

theorem opsIn_round {P : Program} {ops : Array Oper} {Q : Exit → Act → World → Prop} (k n : Nat) (hd : ∀ (i : Nat) (o : Oper), ops[i]? = some o → ∀ c, o.op ≠ .defer c) :
    ∀ (l : List Nat) (a : Act) (w : World), wpOps P ops (onlyN Q) l a w → wpOpsIn (Fence.wide.inRound k) n P ops Q l a w
  | [], _, _, h => h
  | i :: rest, a, w, h => by
    simp only [wpOps] at h
    simp only [wpOpsIn]
    cases ho : ops[i]? with
    | none =>
      simp only [ho] at h
      exact opsIn_round k n hd rest a w h
    | some o =>
      simp only [ho] at h
      simp only []
      by_cases hw : Region.wanted o (yielded ops a.tmps) = true
      · simp only [hw, if_true] at h ⊢
        rcases h with h | ⟨_, a2, w2, h⟩
        · unfold Oper.wpIn
          refine ⟨fun _ _ => trivial, ?_⟩
          rw [Oper.semAt_plain _ _ _ (hd i o ho)]
          unfold Oper.wp at h
          generalize (execOp a.eval o).run P w = r at *
          cases r with
          | ok x w' =>
            cases x <;> simp only [Oper.upon] at h <;> simp only [Oper.uponIn]
            case value => exact opsIn_round k n hd rest _ _ h
            case skip => exact opsIn_round k n hd rest _ _ h
            case defer => exact opsIn_round k n hd rest _ _ h
            case enter f args =>
              refine ⟨fun q => by simp [Fence.wide] at q, CallsIn.inRound k (callsIn_wide.2 (Calls.mono h fun e w'' he => ?_))⟩
              cases e with
              | returned v => exact opsIn_round k n hd rest _ _ he
              | panicked c => exact False.elim he
              | outgrown => obtain ⟨_, _, q⟩ := he; exact False.elim q
            case row row args =>
              refine ⟨fun q => by simp [Fence.wide] at q, fun c cs _ => ?_⟩
              obtain ⟨v, w'', r1, s⟩ := h c cs
              exact ⟨v, w'', opsIn_round k n hd rest _ _ r1, stepsIn_wide.2 s⟩
          | halt x w' => cases x <;> simp only [Oper.upon] at h <;> exact False.elim h
        · exact False.elim h
      · simp only [hw, Bool.false_eq_true, if_false] at h ⊢
        exact ⟨fun _ _ => trivial, opsIn_round k n hd rest _ _ h⟩

theorem wpIn_region_round {P : Program} {ops : Array Oper} {Q : Exit → Act → World → Prop} {S : World → Prop} {id k n : Nat} {a : Act} {w : World} (hm : P.follows .mixedOrders = true)
    (hd : (ops.all fun o => match o.op with | .defer _ => false | _ => true) = true) (hS : S w.drew)
    (h : S w.drew → wpAnyH P .any ops (onlyN Q) S ops.size (Array.replicate ops.size false) a w.drew) : (Code.region id ops true).wpIn (Fence.wide.inRound k) n P Q a w :=
  wpIn_region_draw fun t => by
    refine opsIn_round k n (fun i o ho c hc => ?_) _ _ _ ?_
    · have := Array.all_eq_true.1 hd i (Array.getElem?_eq_some_iff.1 ho).1
      rw [(Array.getElem?_eq_some_iff.1 ho).2, hc] at this
      cases this
    · simp only [Region.schedule, hm, Bool.true_or, if_true]
      exact wpAny_sound ops.size t _ a _ (wpAny_of_held _ _ _ _ (h hS))
end Go.Proofs.YtkgapklhgkngnaaDoor

namespace Go.Proofs.YtkgapklhgkngnaaDoor
open Go.RowKit

attribute [local go_sem ↓] Go.wp_at_zero Go.wp_at_succ

def ahdB (x y : Sp) : Bool := decide (x.a < y.a) || (decide (x.a = y.a) && decide (y.b ≤ x.b))
def crsB (x y : Sp) : Bool := (decide (x.a < y.a) && (decide (y.a < x.b) && decide (x.b < y.b))) || (decide (y.a < x.a) && (decide (x.a < y.b) && decide (y.b < x.b)))
def plcR (t : ByteArray) (n : Int) : Bool := decide (0 ≤ n) && (decide (n ≤ (t.size : Int)) && Lib.validD ((bys t).take n.toNat))

set_option maxRecDepth 100000 in
set_option maxHeartbeats 4000000 in
theorem rAhead_any (x y : Sp) (w : World) : Calls Tryd.prog 39 #[.agg #[.int .i64 x.f, .int .i64 x.a, .int .i64 x.b], .agg #[.int .i64 y.f, .int .i64 y.a, .int .i64 y.b]] w fun e w' => e = .returned (.bool (ahdB x y)) ∧ Below w.heap.size w w' := by
  obtain ⟨xf, xa, xb⟩ := x
  obtain ⟨yf, ya, yb⟩ := y
  obtain ⟨r, hr⟩ : ∃ r, r = ahdB ⟨xf, xa, xb⟩ ⟨yf, ya, yb⟩ := ⟨_, rfl⟩
  rw [← hr]
  unfold ahdB at hr
  simp only [] at hr ⊢
  obtain ⟨W1, hW1⟩ : ∃ W1, W1 = (w.alloc (.cells #[.int .i64 xf, .int .i64 xa, .int .i64 xb] 31)).alloc (.cells #[.int .i64 yf, .int .i64 ya, .int .i64 yb] 31) := ⟨_, rfl⟩
  have B1 := hide (show Below w.heap.size w W1 by rw [hW1]; exact ((Below.refl _ _).alloc (Nat.le_refl _) _).alloc (Nat.le_of_lt (by rw [allocW_size]; exact Nat.lt_succ_self _)) _)
  have BX1 : Hid (Blk W1 w.heap.size #[.int .i64 xf, .int .i64 xa, .int .i64 xb] 31) := hide (by rw [hW1]; exact (Blk.newAt w _ rfl _ _).below ((Below.refl _ _).alloc (Nat.le_refl _) _) (by rw [allocW_size]; exact Nat.lt_succ_self _))
  have BY1 : Hid (Blk W1 (w.heap.size + 1) #[.int .i64 yf, .int .i64 ya, .int .i64 yb] 31) := hide (by rw [hW1]; exact Blk.newAt _ _ (allocW_size _ _) _ _)
  have HW := hide hW1.symm
  have x1 : W1.cell? ⟨w.heap.size, 1, none⟩ = some (.int .i64 xa) := BX1.out.cell 1
  have x2 : W1.cell? ⟨w.heap.size, 2, none⟩ = some (.int .i64 xb) := BX1.out.cell 2
  have y1 : W1.cell? ⟨w.heap.size + 1, 1, none⟩ = some (.int .i64 ya) := BY1.out.cell 1
  have y2 : W1.cell? ⟨w.heap.size + 1, 2, none⟩ = some (.int .i64 yb) := BY1.out.cell 2
  clear hW1
  by_cases h1 : xa < ya
  · have e : r = true := by rw [hr, decide_eq_true h1]; rfl
    subst e
    clear hr
    go_enter Tryd.func39, Tryd.ntmps39
    go_wp2_with (simp only [HW.out])
    go_ret
    exact ⟨rfl, B1.out⟩
  · by_cases h2 : xa = ya
    · subst h2
      have e : r = decide (yb ≤ xb) := by rw [hr, decide_eq_false h1, decide_eq_true rfl]; rfl
      subst e
      clear hr
      go_enter Tryd.func39, Tryd.ntmps39
      go_wp2_with (simp only [HW.out])
      go_ret
      exact ⟨rfl, B1.out⟩
    · have e : r = false := by rw [hr, decide_eq_false h1, decide_eq_false h2]; rfl
      subst e
      clear hr
      go_enter Tryd.func39, Tryd.ntmps39
      go_wp2_with (simp only [HW.out])
      go_ret
      exact ⟨rfl, B1.out⟩

set_option maxRecDepth 100000 in
set_option maxHeartbeats 4000000 in
theorem rCross_any (x y : Sp) (w : World) : Calls Tryd.prog 31 #[.agg #[.int .i64 x.f, .int .i64 x.a, .int .i64 x.b], .agg #[.int .i64 y.f, .int .i64 y.a, .int .i64 y.b]] w fun e w' => e = .returned (.bool (crsB x y)) ∧ Below w.heap.size w w' := by
  obtain ⟨xf, xa, xb⟩ := x
  obtain ⟨yf, ya, yb⟩ := y
  obtain ⟨r, hr⟩ : ∃ r, r = crsB ⟨xf, xa, xb⟩ ⟨yf, ya, yb⟩ := ⟨_, rfl⟩
  rw [← hr]
  unfold crsB at hr
  simp only [] at hr ⊢
  obtain ⟨W1, hW1⟩ : ∃ W1, W1 = (w.alloc (.cells #[.int .i64 xf, .int .i64 xa, .int .i64 xb] 31)).alloc (.cells #[.int .i64 yf, .int .i64 ya, .int .i64 yb] 31) := ⟨_, rfl⟩
  have B1 := hide (show Below w.heap.size w W1 by rw [hW1]; exact ((Below.refl _ _).alloc (Nat.le_refl _) _).alloc (Nat.le_of_lt (by rw [allocW_size]; exact Nat.lt_succ_self _)) _)
  have BX1 : Hid (Blk W1 w.heap.size #[.int .i64 xf, .int .i64 xa, .int .i64 xb] 31) := hide (by rw [hW1]; exact (Blk.newAt w _ rfl _ _).below ((Below.refl _ _).alloc (Nat.le_refl _) _) (by rw [allocW_size]; exact Nat.lt_succ_self _))
  have BY1 : Hid (Blk W1 (w.heap.size + 1) #[.int .i64 yf, .int .i64 ya, .int .i64 yb] 31) := hide (by rw [hW1]; exact Blk.newAt _ _ (allocW_size _ _) _ _)
  have HW := hide hW1.symm
  have x1 : W1.cell? ⟨w.heap.size, 1, none⟩ = some (.int .i64 xa) := BX1.out.cell 1
  have x2 : W1.cell? ⟨w.heap.size, 2, none⟩ = some (.int .i64 xb) := BX1.out.cell 2
  have y1 : W1.cell? ⟨w.heap.size + 1, 1, none⟩ = some (.int .i64 ya) := BY1.out.cell 1
  have y2 : W1.cell? ⟨w.heap.size + 1, 2, none⟩ = some (.int .i64 yb) := BY1.out.cell 2
  clear hW1
  by_cases h1 : xa < ya
  · by_cases h2 : ya < xb
    · by_cases h3 : xb < yb
      · have e : r = true := by rw [hr]; simp [h1, h2, h3]
        subst e
        clear hr
        go_enter Tryd.func31, Tryd.ntmps31
        go_wp2_with (simp only [HW.out])
        go_ret
        exact ⟨rfl, B1.out⟩
      · have k1 : ¬ ya < xa := by omega
        have e : r = false := by rw [hr]; simp [h1, h2, h3, k1]
        subst e
        clear hr
        go_enter Tryd.func31, Tryd.ntmps31
        go_wp2_with (simp only [HW.out])
        go_ret
        exact ⟨rfl, B1.out⟩
    · have k1 : ¬ ya < xa := by omega
      have e : r = false := by rw [hr]; simp [h1, h2, k1]
      subst e
      clear hr
      go_enter Tryd.func31, Tryd.ntmps31
      go_wp2_with (simp only [HW.out])
      go_ret
      exact ⟨rfl, B1.out⟩
  · by_cases k1 : ya < xa
    · by_cases k2 : xa < yb
      · by_cases k3 : yb < xb
        · have e : r = true := by rw [hr]; simp [h1, k1, k2, k3]
          subst e
          clear hr
          go_enter Tryd.func31, Tryd.ntmps31
          go_wp2_with (simp only [HW.out])
          go_ret
          exact ⟨rfl, B1.out⟩
        · have e : r = false := by rw [hr]; simp [h1, k1, k2, k3]
          subst e
          clear hr
          go_enter Tryd.func31, Tryd.ntmps31
          go_wp2_with (simp only [HW.out])
          go_ret
          exact ⟨rfl, B1.out⟩
      · have e : r = false := by rw [hr]; simp [h1, k1, k2]
        subst e
        clear hr
        go_enter Tryd.func31, Tryd.ntmps31
        go_wp2_with (simp only [HW.out])
        go_ret
        exact ⟨rfl, B1.out⟩
    · have e : r = false := by rw [hr]; simp [h1, k1]
      subst e
      clear hr
      go_enter Tryd.func31, Tryd.ntmps31
      go_wp2_with (simp only [HW.out])
      go_ret
      exact ⟨rfl, B1.out⟩

end Go.Proofs.YtkgapklhgkngnaaDoor

namespace Go.Proofs.YtkgapklhgkngnaaDoor

def NoX (L : List Sp) : Prop := ∀ s ∈ L, ∀ u ∈ L, ¬ (s.a < u.a ∧ u.a < s.b ∧ s.b < u.b)
theorem pair_mem {α : Type} {R : α → α → Prop} {s u : α} : ∀ {L : List α}, L.Pairwise R → s ∈ L → u ∈ L → s = u ∨ R s u ∨ R u s
  | [], _, h, _ => by simp at h
  | x :: L, hp, hs, hu => by
    have h := List.pairwise_cons.1 hp
    rcases List.mem_cons.1 hs with e | e
    · rcases List.mem_cons.1 hu with e2 | e2
      · exact .inl (e.trans e2.symm)
      · subst e; exact .inr (.inl (h.1 u e2))
    · rcases List.mem_cons.1 hu with e2 | e2
      · subst e2; exact .inr (.inr (h.1 s e))
      · exact pair_mem h.2 e e2
theorem may_iff (t : ByteArray) (L : List Sp) : mayB t L = true ↔ Lib.validD (bys t) = true ∧ (∀ s ∈ L, misB t s = false) ∧ SrtS L ∧ NoX L := by
  constructor
  · intro h
    have hp := mayB_pair h
    unfold mayB at h
    simp only [Bool.and_eq_true, Bool.not_eq_true'] at h
    obtain ⟨⟨⟨h1, h2⟩, _⟩, _⟩ := h
    refine ⟨h1, fun s hs => by have := List.any_eq_false.1 h2 s hs; simpa using this, hp.1, fun s hs u hu hx => ?_⟩
    have hp2 : L.Pairwise fun y x => ¬ LtS x y ∧ ¬ (x.a < y.b ∧ y.b < x.b) := hp.1.and hp.2
    rcases pair_mem hp2 hs hu with e | ⟨_, e⟩ | ⟨e, _⟩
    · subst e; omega
    · exact e ⟨hx.2.1, hx.2.2⟩
    · unfold LtS at e; omega
  · rintro ⟨h1, h2, h3, h4⟩
    unfold mayB
    rw [Bool.and_eq_true, Bool.and_eq_true, Bool.and_eq_true]
    refine ⟨⟨⟨h1, ?_⟩, decide_eq_true h3⟩, ?_⟩
    · rw [Bool.not_eq_true', List.any_eq_false]
      intro s hs
      rw [h2 s hs]; decide
    · rw [Bool.not_eq_true']
      refine crsP_no L [] List.Pairwise.nil h3 (fun t ht => by simp at ht) (fun s hs => ?_) ?_
      · have q := h2 s hs
        unfold misB at q
        simp only [Bool.or_eq_false_iff, decide_eq_false_iff_not] at q
        omega
      · refine List.Pairwise.imp_of_mem (fun {y x} hy hx hyx => ?_) h3
        have n1 := h4 y hy x hx
        unfold LtS at hyx
        omega
theorem place_eq (t : ByteArray) (n : Int) (h : Lib.validD (bys t) = true) : plcR t n = plB t n := by
  unfold plcR plB
  have hl := bys_len t
  by_cases e : n = t.size
  · rw [decide_eq_true e, decide_eq_true (by omega : 0 ≤ n), decide_eq_true (by omega : n ≤ (t.size : Int)), List.take_of_length_le (by omega), h]; rfl
  · rw [decide_eq_false e, Bool.false_or]
    by_cases h0 : 0 ≤ n
    · rw [decide_eq_true h0, Bool.true_and, Bool.true_and]
      by_cases h1 : n < t.size
      · rw [decide_eq_true h1, decide_eq_true (by omega : n ≤ (t.size : Int)), Bool.true_and, Bool.true_and, vHead (bys t).length (bys t) n.toNat (Nat.le_refl _) h (by omega)]
      · rw [decide_eq_false h1, decide_eq_false (by omega : ¬ n ≤ (t.size : Int)), Bool.false_and, Bool.false_and]
    · rw [decide_eq_false h0, Bool.false_and, Bool.false_and, Bool.false_and]
def OkS (t : ByteArray) (s : Sp) : Prop := 1 ≤ s.f ∧ s.f ≤ 17 ∧ plcR t s.a = true ∧ plcR t s.b = true ∧ s.a < s.b
theorem mis_ok (t : ByteArray) (s : Sp) (h : Lib.validD (bys t) = true) : misB t s = false ↔ OkS t s := by
  unfold misB OkS knB
  rw [place_eq t s.a h, place_eq t s.b h]
  simp only [Bool.or_eq_false_iff, decide_eq_false_iff_not, Bool.not_eq_false', Bool.and_eq_true, decide_eq_true_eq]
  constructor
  · rintro ⟨⟨⟨⟨a, b, c⟩, d⟩, e⟩, f⟩; exact ⟨by omega, by omega, d, e, by omega⟩
  · rintro ⟨a, b, c, d, e⟩; exact ⟨⟨⟨⟨by omega, by omega, by omega⟩, c⟩, d⟩, by omega⟩
theorem ahd_iff (x y : Sp) : ahdB x y = true ↔ ¬ LtS y x := by
  unfold ahdB LtS
  simp only [Bool.or_eq_true, Bool.and_eq_true, decide_eq_true_eq]
  omega
theorem crs_iff (x y : Sp) : crsB x y = true ↔ (x.a < y.a ∧ y.a < x.b ∧ x.b < y.b) ∨ (y.a < x.a ∧ x.a < y.b ∧ y.b < x.b) := by
  unfold crsB
  simp only [Bool.or_eq_true, Bool.and_eq_true, decide_eq_true_eq]
def OkI (t : ByteArray) (l : List Sp) (i : Nat) : Prop := OkS t (gN spZ l i) ∧ (0 < i → ahdB (gN spZ l (i - 1)) (gN spZ l i) = true) ∧ ∀ k, k < i → crsB (gN spZ l k) (gN spZ l i) = false
theorem gN_at {l : List Sp} {s : Sp} (h : s ∈ l) : ∃ i, i < l.length ∧ gN spZ l i = s := by
  obtain ⟨i, hi, e⟩ := List.getElem_of_mem h
  exact ⟨i, hi, by unfold gN; rw [List.getElem?_eq_getElem hi, e]; rfl⟩
theorem may_ref (t : ByteArray) (l : List Sp) : mayB t l = true ↔ Lib.validD (bys t) = true ∧ ∀ i, i < l.length → OkI t l i := by
  rw [may_iff]
  constructor
  · rintro ⟨h1, h2, h3, h4⟩
    refine ⟨h1, fun i hi => ⟨(mis_ok t _ h1).1 (h2 _ (gN_mem hi)), fun h0 => (ahd_iff _ _).2 ((srt_adj l).1 h3 i h0 hi), fun k hk => ?_⟩⟩
    cases hc : crsB (gN spZ l k) (gN spZ l i) with
    | false => rfl
    | true =>
      exfalso
      rcases (crs_iff _ _).1 hc with q | q
      · exact h4 _ (gN_mem (by omega)) _ (gN_mem hi) q
      · exact h4 _ (gN_mem hi) _ (gN_mem (by omega)) q
  · rintro ⟨h1, h2⟩
    refine ⟨h1, fun s hs => ?_, (srt_adj l).2 fun j h0 hj => (ahd_iff _ _).1 ((h2 j hj).2.1 h0), fun s hs u hu hx => ?_⟩
    · obtain ⟨i, hi, rfl⟩ := gN_at hs
      exact (mis_ok t _ h1).2 (h2 i hi).1
    · obtain ⟨i, hi, rfl⟩ := gN_at hs
      obtain ⟨k, hk, rfl⟩ := gN_at hu
      rcases Nat.lt_trichotomy i k with e | e | e
      · have q := (h2 k hk).2.2 i e
        rw [(crs_iff _ _).2 (.inl hx)] at q; cases q
      · subst e; omega
      · have q := (h2 i hi).2.2 k e
        rw [(crs_iff _ _).2 (.inr hx)] at q; cases q
end Go.Proofs.YtkgapklhgkngnaaDoor

namespace Go.Proofs.YtkgapklhgkngnaaDoor

def lastP (P : Sp → Bool) (d : Int) : List Sp → Int
  | [] => d
  | s :: l => lastP P (if P s then s.f else d) l
theorem lastP_snoc (P : Sp → Bool) (s : Sp) : ∀ (l : List Sp) (d : Int), lastP P d (l ++ [s]) = if P s then s.f else lastP P d l
  | [], d => rfl
  | x :: l, d => by rw [List.cons_append, lastP, lastP_snoc P s l, lastP]
theorem lastP_none (P : Sp → Bool) (d : Int) : ∀ l : List Sp, (∀ s ∈ l, P s = false) → lastP P d l = d
  | [], _ => rfl
  | x :: l, h => by rw [lastP, h x (List.mem_cons_self ..)]; exact lastP_none P d l fun s hs => h s (List.mem_cons_of_mem _ hs)
theorem lastP_alike (P Q : Sp → Bool) : ∀ (l : List Sp) (d : Int), (∀ s ∈ l, P s = Q s) → lastP P d l = lastP Q d l
  | [], d, _ => rfl
  | x :: l, d, h => by rw [lastP, lastP, h x (List.mem_cons_self ..)]; exact lastP_alike P Q l _ fun s hs => h s (List.mem_cons_of_mem _ hs)
def hasF (k : Nat) (s : Sp) : Bool := decide (s.a ≤ (k : Int)) && decide ((k : Int) < s.b)
theorem innF_goS (p k : Nat) (hk : p ≤ k) : ∀ st : List Sp, innF (goS p st) k = innF st k
  | [] => rfl
  | s :: st => by
    unfold goS
    rw [List.dropWhile_cons]
    by_cases h : s.b ≤ (p : Int)
    · rw [if_pos (by simpa using h)]
      have q := innF_goS p k hk st
      unfold goS at q
      rw [q]
      conv => rhs; unfold innF
      rw [if_neg (by omega)]
    · rw [if_neg (by simpa using h)]
theorem fldF_last (k : Nat) : ∀ (l st : List Sp), SrtS l → (∀ x ∈ l, 0 ≤ x.a) → fldF l st k = lastP (hasF k) (innF st k) l
  | [], st, _, _ => rfl
  | s :: l, st, h3, h4 => by
    have hp := List.pairwise_cons.1 h3
    have hs0 := h4 s (List.mem_cons_self ..)
    unfold fldF
    by_cases h : (k : Int) < s.a
    · rw [if_pos h]
      refine (lastP_none _ _ _ fun x hx => ?_).symm
      unfold hasF
      have hxa : (k : Int) < x.a := by
        rcases List.mem_cons.1 hx with e | e
        · subst e; exact h
        · have := hp.1 x e; unfold LtS at this; omega
      rw [decide_eq_false (by omega : ¬ x.a ≤ (k : Int))]; rfl
    · rw [if_neg h, fldF_last k l _ hp.2 (fun x hx => h4 x (List.mem_cons_of_mem _ hx)), lastP]
      congr 1
      show (if (k : Int) < s.b then s.f else innF (goS s.a.toNat st) k) = if hasF k s = true then s.f else innF st k
      unfold hasF
      rw [decide_eq_true (by omega : s.a ≤ (k : Int)), Bool.true_and]
      by_cases hb : (k : Int) < s.b
      · rw [if_pos hb, if_pos (by simpa using hb)]
      · rw [if_neg hb, if_neg (by simpa using hb), innF_goS s.a.toNat k (by omega) st]
theorem edg_ge {t : ByteArray} {x b : Nat} : ∀ (l : List Pe) (a : Nat), TilD t a l b → x ∈ edg a l → a ≤ x
  | [], a, _, h => by have : x = a := by simpa [edg] using h
                      omega
  | p :: l, a, hd, h => by
    rcases List.mem_cons.1 h with e | e
    · omega
    · have := edg_ge l _ hd.2.2.2.2 e; omega
theorem til_uniq (t : ByteArray) (b : Nat) : ∀ (l m : List Pe) (a : Nat), TilD t a l b → TilD t a m b → (∀ x, x ∈ edg a l ↔ x ∈ edg a m) → xpd l = xpd m → l = m
  | [], [], _, _, _, _, _ => rfl
  | [], q :: m, a, h1, h2, _, _ => by
    have e : a = b := h1
    have := til_le h2; have := h2.1; have := til_le h2.2.2.2.2; omega
  | p :: l, [], a, h1, h2, _, _ => by
    have e : a = b := h2
    have := h1.1; have := til_le h1.2.2.2.2; omega
  | p :: l, q :: m, a, h1, h2, hx, hf => by
    have hpq : p.t.size = q.t.size := by
      have m1 : a + p.t.size ∈ edg a (p :: l) := List.mem_cons_of_mem _ (edg_fst _ l)
      have m2 : a + q.t.size ∈ edg a (q :: m) := List.mem_cons_of_mem _ (edg_fst _ m)
      have k1 := (hx _).1 m1
      have k2 := (hx _).2 m2
      have := h1.1; have := h2.1
      rcases List.mem_cons.1 k1 with e | e
      · omega
      · rcases List.mem_cons.1 k2 with e2 | e2
        · omega
        · have := edg_ge m _ h2.2.2.2.2 e
          have := edg_ge l _ h1.2.2.2.2 e2
          omega
    have ht : p.t = q.t := by rw [h1.2.2.1, h2.2.2.1, hpq]
    have hff : p.f = q.f ∧ xpd l = xpd m := by
      rw [xpd, xpd, hpq] at hf
      obtain ⟨e1, e2⟩ := List.append_inj hf (by simp)
      have h0 := h2.1
      obtain ⟨n, hn⟩ : ∃ n, q.t.size = n + 1 := ⟨q.t.size - 1, by omega⟩
      rw [hn, List.replicate_succ, List.replicate_succ] at e1
      exact ⟨(List.cons.inj e1).1, e2⟩
    have hr : l = m := by
      refine til_uniq t b l m (a + p.t.size) h1.2.2.2.2 (by rw [hpq]; exact h2.2.2.2.2) (fun x => ?_) hff.2
      have n1 := h1.1
      constructor
      · intro h
        have g := edg_ge l _ h1.2.2.2.2 h
        rcases List.mem_cons.1 ((hx x).1 (List.mem_cons_of_mem _ h)) with e | e
        · omega
        · rw [hpq]; exact e
      · intro h
        rw [hpq] at h
        have g := edg_ge m _ h2.2.2.2.2 h
        rcases List.mem_cons.1 ((hx x).2 (List.mem_cons_of_mem _ h)) with e | e
        · omega
        · exact e
    obtain ⟨pt, pf⟩ := p
    obtain ⟨qt, qf⟩ := q
    simp only [] at ht hff
    rw [ht, hff.1, hr]
where
  til_le {a b : Nat} : ∀ {l : List Pe}, TilD t a l b → a ≤ b
  | [], h => Nat.le_of_eq h
  | p :: l, h => by have := til_le h.2.2.2.2; omega
theorem edg_snoc_inv {t : ByteArray} {q : Pe} {x b : Nat} : ∀ (l : List Pe) (a : Nat), TilD t a l b → x ∈ edg a (l ++ [q]) → x ∈ edg a l ∨ x = b + q.t.size
  | [], a, hd, h => by
    have e : a = b := hd
    subst e
    rw [List.nil_append] at h
    rcases List.mem_cons.1 h with e | e
    · exact .inl (by rw [e]; exact edg_fst _ _)
    · exact .inr (by simpa [edg] using e)
  | p :: l, a, hd, h => by
    rw [List.cons_append] at h
    rcases List.mem_cons.1 h with e | e
    · exact .inl (by rw [e]; exact List.mem_cons_self ..)
    · rcases edg_snoc_inv l _ hd.2.2.2.2 e with k | k
      · exact .inl (List.mem_cons_of_mem _ k)
      · exact .inr k
def EdO (E : Nat → Prop) (lv : List Pe) : Prop := ∀ x, x ∈ edg 0 lv → x = 0 ∨ E x
theorem cut_edo {t : ByteArray} {E : Nat → Prop} {a p : Nat} {lv : List Pe} {f : Int} (ht : TilD t 0 lv a) (h : EdO E lv) (h1 : a ≤ p) (h2 : p ≤ t.size) (hE : E p) : EdO E (cutP t a p f lv) := by
  unfold cutP
  by_cases e : a = p
  · rw [if_pos e]; exact h
  · rw [if_neg e]
    intro x hx
    rcases edg_snoc_inv lv 0 ht hx with k | k
    · exact h x k
    · refine .inr ?_
      have q : a + (t.extract a p).size = p := by rw [ext_size t a p h1 h2]; omega
      have : x = p := k.trans q
      rw [this]; exact hE
theorem goL_edo (t : ByteArray) (E : Nat → Prop) (p : Nat) (hE : E p) : ∀ (st : List Sp) (a : Nat) (lv : List Pe), EndsOk t a st → a ≤ p → p ≤ t.size → (∀ s ∈ st, FOk s ∧ E s.b.toNat) → TilD t 0 lv a → EdO E lv → EdO E (goL t p st a lv)
  | [], a, lv, _, h1, h2, _, ht, h => by unfold goL; exact cut_edo ht h h1 h2 hE
  | s :: st, a, lv, he, h1, h2, hf, ht, h => by
    obtain ⟨q1, q2, q3, q4⟩ := he.tail
    obtain ⟨hfs, hes⟩ := hf s (List.mem_cons_self ..)
    unfold goL
    by_cases hb : s.b ≤ (p : Int)
    · rw [if_pos hb]
      have hc : CtI t (fun _ => False) a lv := ⟨ht, fun _ hx => hx.elim⟩
      exact goL_edo t E p hE st _ _ q1 (by omega) h2 (fun u hu => hf u (List.mem_cons_of_mem _ hu)) (hc.cut q2 q3 hfs).til (cut_edo ht h q2 q3 hes)
    · rw [if_neg hb]; exact cut_edo ht h h1 h2 hE
theorem lvs_edo (t : ByteArray) (E : Nat → Prop) (hE : E t.size) : ∀ (l st : List Sp) (a : Nat) (lv : List Pe), RunOk t a st l → a ≤ t.size → (∀ s ∈ st, FOk s ∧ E s.b.toNat) → (∀ s ∈ l, FOk s ∧ E s.a.toNat ∧ E s.b.toNat) → TilD t 0 lv a → EdO E lv → EdO E (lvs t l st a lv)
  | [], st, a, lv, h, ha, hf, _, ht, hh => by unfold lvs; exact goL_edo t E t.size hE st a lv h.ends ha (Nat.le_refl _) hf ht hh
  | s :: l, st, a, lv, h, ha, hf, hg, ht, hh => by
    obtain ⟨h1, h2, h3, h4⟩ := h.step
    obtain ⟨g1, g2, g3⟩ := hg s (List.mem_cons_self ..)
    have q1 : a ≤ s.a.toNat := by omega
    have q2 : s.a.toNat ≤ t.size := by omega
    have hc : CtI t (fun _ => False) a lv := ⟨ht, fun _ hx => hx.elim⟩
    unfold lvs
    refine lvs_edo t E hE l _ _ _ h4 q2 (fun u hu => ?_) (fun u hu => hg u (List.mem_cons_of_mem _ hu)) (goL_ct t s.a.toNat st a lv _ h.ends q1 q2 (fun u hu => (hf u hu).1) hc).til (goL_edo t E s.a.toNat g2 st a lv h.ends q1 q2 hf ht hh)
    rcases List.mem_cons.1 hu with e | e
    · subst e; exact ⟨g1, g3⟩
    · exact hf u (goS_mem e)
def EndP (t : ByteArray) (l : List Sp) (x : Nat) : Prop := x = t.size ∨ ∃ s ∈ l, s.a = (x : Int) ∨ s.b = (x : Int)
theorem leaves_edges {t : ByteArray} {l : List Sp} (h : mayB t l = true) (x : Nat) : x ∈ edg 0 (leavesP t l) ↔ x = 0 ∨ EndP t l x := by
  have hs := mayB_sp h
  constructor
  · intro hx
    refine lvs_edo t (EndP t l) (.inl rfl) l [] 0 [] (mayB_run h) (Nat.zero_le _) (fun s hs => by simp at hs) (fun s hm => ?_) rfl (fun x hx => .inl (by simpa [edg] using hx)) x hx
    obtain ⟨a, b, c, d⟩ := hs s hm
    exact ⟨a, .inr ⟨s, hm, .inl (by omega)⟩, .inr ⟨s, hm, .inr (by omega)⟩⟩
  · have hc := leaves_ct h
    rintro (e | e | ⟨s, hm, e⟩)
    · rw [e]; exact edg_fst _ _
    · rw [e]; exact edg_last _ 0 _ hc.1
    · obtain ⟨_, b, c, d⟩ := hs s hm
      obtain ⟨k1, k2⟩ := hc.2 s hm
      rcases e with e | e
      · have : s.a.toNat = x := by omega
        rw [← this]; exact k1
      · have : s.b.toNat = x := by omega
        rw [← this]; exact k2
structure RlI (t : ByteArray) (l : List Sp) (a p : Nat) (lv : List Pe) : Prop where
  til : TilD t 0 lv a
  lt : a < p
  edo : ∀ x, x ∈ edg 0 lv → x = 0 ∨ EndP t l x
  edi : ∀ x, 0 < x → x < p → EndP t l x → x ∈ edg 0 lv
  gap : ∀ x, a < x → x < p → ¬ EndP t l x
  fld : xpd lv = (List.range' 0 a).map fun k => lastP (hasF k) 0 l
theorem RlI.nil (t : ByteArray) (l : List Sp) : RlI t l 0 1 [] := ⟨rfl, by omega, fun x hx => .inl (by simpa [edg] using hx), fun x h1 h2 _ => by omega, fun x h1 h2 => by omega, rfl⟩
theorem RlI.skip {t : ByteArray} {l : List Sp} {a p : Nat} {lv : List Pe} (h : RlI t l a p lv) (hp : ¬ EndP t l p) : RlI t l a (p + 1) lv :=
  ⟨h.til, by have := h.lt; omega, h.edo, fun x h1 h2 h3 => by
    rcases Nat.lt_or_ge x p with q | q
    · exact h.edi x h1 q h3
    · obtain rfl : x = p := by omega
      exact absurd h3 hp, fun x h1 h2 => by
    rcases Nat.lt_or_ge x p with q | q
    · exact h.gap x h1 q
    · obtain rfl : x = p := by omega
      exact hp, h.fld⟩
def matF (a p : Nat) (s : Sp) : Bool := decide (s.a ≤ (a : Int)) && decide ((p : Int) ≤ s.b)
theorem RlI.cut {t : ByteArray} {l : List Sp} {a p : Nat} {lv : List Pe} (h : RlI t l a p lv) (hm : mayB t l = true) (h2 : p ≤ t.size) (hp : EndP t l p) : RlI t l p (p + 1) (lv ++ [⟨t.extract a p, lastP (matF a p) 0 l⟩]) := by
  have hs := mayB_sp hm
  have hlt := h.lt
  have same : ∀ k, a ≤ k → k < p → ∀ s ∈ l, hasF k s = matF a p s := fun k k1 k2 s hsm => by
    obtain ⟨_, b, c, d⟩ := hs s hsm
    have g1 : ¬ ((a : Int) < s.a ∧ s.a < (p : Int)) := fun q => h.gap s.a.toNat (by omega) (by omega) (.inr ⟨s, hsm, .inl (by omega)⟩)
    have g2 : ¬ ((a : Int) < s.b ∧ s.b < (p : Int)) := fun q => h.gap s.b.toNat (by omega) (by omega) (.inr ⟨s, hsm, .inr (by omega)⟩)
    unfold hasF matF
    by_cases c1 : s.a ≤ (a : Int)
    · rw [decide_eq_true c1, decide_eq_true (by omega : s.a ≤ (k : Int)), Bool.true_and, Bool.true_and]
      by_cases c2 : (p : Int) ≤ s.b
      · rw [decide_eq_true c2, decide_eq_true (by omega : (k : Int) < s.b)]
      · rw [decide_eq_false c2, decide_eq_false (by omega : ¬ (k : Int) < s.b)]
    · rw [decide_eq_false c1, decide_eq_false (by omega : ¬ s.a ≤ (k : Int)), Bool.false_and, Bool.false_and]
  have hff : 0 ≤ lastP (matF a p) 0 l ∧ lastP (matF a p) 0 l ≤ 17 := by
    have q : ∀ (L : List Sp) (d : Int), (0 ≤ d ∧ d ≤ 17) → (∀ s ∈ L, FOk s) → 0 ≤ lastP (matF a p) d L ∧ lastP (matF a p) d L ≤ 17 := fun L => by
      induction L with
      | nil => intro d hd _; exact hd
      | cons x L ih =>
        intro d hd hL
        rw [lastP]
        refine ih _ ?_ (fun s hs => hL s (List.mem_cons_of_mem _ hs))
        split
        · exact hL x (List.mem_cons_self ..)
        · exact hd
    exact q l 0 (by omega) (fun s hs2 => (hs s hs2).1)
  have ht2 := TilD.snoc (f := lastP (matF a p) 0 l) hlt h2 hff h.til
  refine ⟨ht2, by omega, fun x hx => ?_, fun x h1 h3 h4 => ?_, fun x h1 h3 => by omega, ?_⟩
  · rcases edg_snoc_inv lv 0 h.til hx with k | k
    · exact h.edo x k
    · have q : a + (t.extract a p).size = p := by rw [ext_size t a p (by omega) h2]; omega
      have e : x = p := k.trans q
      rw [e]; exact .inr hp
  · rcases Nat.lt_or_ge x p with q | q
    · exact edg_snoc _ lv 0 (h.edi x h1 q h4)
    · obtain rfl : x = p := by omega
      exact edg_last _ 0 _ ht2
  · rw [xpd_snoc, h.fld, ext_size t a p (by omega) h2]
    have e : List.range' 0 p = List.range' 0 a ++ List.range' a (p - a) := by
      have q := range_cut 0 a p (Nat.zero_le _) (by omega)
      simpa using q
    rw [e, List.map_append]
    congr 1
    exact (map_const a (p - a) _ (fun k k1 k2 => lastP_alike _ _ l 0 (fun s hs2 => same k k1 (by omega) s hs2))).symm
theorem RlI.last {t : ByteArray} {l : List Sp} {a : Nat} {lv : List Pe} (h : RlI t l a (t.size + 1) lv) (hm : mayB t l = true) : lv = leavesP t l := by
  have hc := leaves_ct hm
  have hr := mayB_run hm
  have ha : a = t.size := by
    have h1 := h.lt
    rcases Nat.lt_or_ge a t.size with q | q
    · exact absurd (Or.inl rfl) (h.gap t.size q (by omega))
    · omega
  subst ha
  refine til_uniq t t.size lv (leavesP t l) 0 h.til hc.1 (fun x => ?_) ?_
  · rw [leaves_edges hm]
    constructor
    · exact h.edo x
    · intro hx
      by_cases e : x = 0
      · rw [e]; exact edg_fst _ _
      · rcases hx with q | q
        · exact absurd q e
        · refine h.edi x (by omega) ?_ q
          rcases q with q | ⟨s, hs, q⟩
          · omega
          · obtain ⟨_, b, c, d⟩ := mayB_sp hm s hs
            omega
  · rw [h.fld]
    unfold leavesP
    rw [lvs_xpd t l [] 0 [] hr (Nat.zero_le _)]
    show _ = [] ++ _
    rw [List.nil_append, Nat.sub_zero]
    refine map_alike _ _ _ _ fun k _ _ => ?_
    rw [fldF_last k l [] hr.srt (fun x hx => by have := hr.pl x hx; omega)]
    rfl
end Go.Proofs.YtkgapklhgkngnaaDoor

namespace Go.Proofs.YtkgapklhgkngnaaDoor
open Go.RowKit

attribute [local go_sem ↓] Go.wp_at_zero Go.wp_at_succ

theorem bysF_toB (t : ByteArray) (i : Nat) : bys (t.extract 0 i) = (bys t).take i := by
  unfold bys
  rw [ByteArray.data_extract]
  simp

set_option maxRecDepth 100000 in
set_option maxHeartbeats 4000000 in
theorem rPlace_any (t : ByteArray) (n : Int) (w : World) (hT : U8 w) (ht : t.size ≤ 140737488355328) : Calls Tryd.prog 30 #[.string t, .int .i64 n] w fun e w' => e = .returned (.bool (plcR t n)) ∧ Below w.heap.size w w' := by
  obtain ⟨r, hr⟩ : ∃ r, r = plcR t n := ⟨_, rfl⟩
  rw [← hr]
  unfold plcR at hr
  by_cases h0 : 0 ≤ n
  · by_cases h1 : n ≤ (t.size : Int)
    · obtain ⟨k, rfl⟩ : ∃ k : Nat, n = (k : Int) := ⟨n.toNat, by omega⟩
      have e : r = Lib.validD (bys (t.extract 0 k)) := by rw [hr, decide_eq_true h0, decide_eq_true h1, bysF_toB, Int.toNat_natCast]; rfl
      have hk : k ≤ t.size := by omega
      have CV := hide (fun X (hX : U8 X) => Valid_any (t.extract 0 k) X (by rw [ByteArray.size_extract]; omega) hX)
      rw [← e] at CV
      clear hr e
      go_enter Tryd.func30, Tryd.ntmps30
      go_wp2_with fail
      refine (CV.out _ hT).mono ?_
      rintro e w1 ⟨rfl, b1⟩
      have HB := hide b1
      clear b1 CV
      go_wp2
      go_ret
      exact ⟨rfl, HB.out⟩
    · have e : r = false := by rw [hr, decide_eq_false h1]; simp
      subst e
      clear hr
      go_enter Tryd.func30, Tryd.ntmps30
      go_wp2
      go_ret
      exact ⟨rfl, Below.refl _ _⟩
  · have e : r = false := by rw [hr, decide_eq_false h0]; rfl
    subst e
    clear hr
    go_enter Tryd.func30, Tryd.ntmps30
    go_wp2
    go_ret
    exact ⟨rfl, Below.refl _ _⟩

end Go.Proofs.YtkgapklhgkngnaaDoor
