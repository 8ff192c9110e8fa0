/-
  DigitsSizes answers true, whatever it is handed: the law's walk.
  What the rows' list of package variables gives, and a world that holds them.
-/
import Derived.Test.YtionbkmbhhlmjaaGreatDoorSB23
import Derived.Test.YtionbkmbhhlmjaaGreatDoorRows
import Derived.Test.YtionbkmbhhlmjaaGreatDoorSB6
import Derived.Lib.LaidTab
import Derived.Deep.DeepHandedRow
namespace Go.Proofs.YtionbkmbhhlmjaaGreatDoor
open Go.RowKit

theorem lat_le (q : Nat) : (lat.dig q).size ≤ 1048576 := by
  have hq : q = 0 ∨ q = 1 ∨ q = 2 ∨ q = 3 ∨ q = 4 ∨ q = 5 ∨ q = 6 ∨ q = 7 ∨ q = 8 ∨ 9 ≤ q := by omega
  rcases hq with rfl | rfl | rfl | rfl | rfl | rfl | rfl | rfl | rfl | hq
  case inr.inr.inr.inr.inr.inr.inr.inr.inr =>
    obtain ⟨k, rfl⟩ : ∃ k, q = k + 9 := ⟨q - 9, by omega⟩
    exact (by decide : (⟨#[57]⟩ : ByteArray).size ≤ 1048576)
  all_goals decide

theorem infoIn : (Tryz.prog.info? 3).map (fun i => (i.zero, i.size, i.bytes)) = some (some (.int .i64 0), 1, 8) := by kernel_rfl
def cellsN (L : List Nat) : List Value := L.map fun (z : Nat) => .int .i64 (z : Int)
theorem cellsN_at {L : List Nat} {i z : Nat} (h : L[i]? = some z) : (cellsN L)[i]? = some (.int .i64 (z : Int)) := by unfold cellsN; rw [List.getElem?_map, h]; rfl

theorem wpN_append {w : World} {ops : Array Oper} {rest : List Oper} {o : Oper} {a : Act} {Q : Exit → Act → World → Prop} (hgd : o.guard = none) (s x : Operand)
    (ho : o.op = .call { callee := .builtin .append, args := #[s, x], argTypes := #[46, 46] })
    (base : Nat) (v : Value) (n : Nat) (xs : List Value) (hs : a.eval s = v) (hown : w.ownsRow base 3 1 v n xs)
    (g : Nat) (r : Int) (hx : a.eval x = .slice (some ⟨g, 0, none⟩) 1 1) (hsrc : Blk w g #[.int .i64 r] 3) (XS : List Value) (hX : xs ++ [.int .i64 r] = XS) (hb : (n + 1) * 8 ≤ 140737488355328) (hbase : base ≤ w.heap.size)
    (h : ∀ uo uc w', w'.ownsRow base 3 1 (.slice uo (n + 1) uc) (n + 1) XS → w.grownBy w' v.ownBlock → wpList Tryz.prog ops Q rest (a.put o.dst (.slice uo (n + 1) uc)) w') : wpList Tryz.prog ops Q (o :: rest) a w := by
  obtain ⟨i0, hi, hz0, hz1, hz2⟩ := info_parts infoIn
  subst hX
  refine wpList_append_own w hgd s x _ ho base _ i0 (.int .i64 0) 1 8 Tryz.underlying46 hi hz0 hz1 hz2 rfl (by decide) v n xs hs hown ⟨g, 0, none⟩ 1 1 [.int .i64 r] hx rfl (fun j u hj => ?_) (fun u hu => ?_) (by unfold maxLen; omega) hb hbase (fun v' w' h3 h4 _ => ?_)
  · rw [Addr.add_lit, Nat.zero_add, hsrc.cell j]
    simpa using hj
  · rw [List.mem_singleton.1 hu]; rfl
  · obtain ⟨uo, uc, rfl⟩ := ownD_slice h3
    exact h uo uc w' h3 h4

theorem own_grownD {w w' : World} {B B2 n n2 k k2 : Nat} {e e2 : TypeId} {v v2 : Value} {xs ys : List Value} (h : w.ownsRow B e k v n xs) (h2 : w.ownsRow B2 e2 k2 v2 n2 ys) (he : e ≠ e2) (hg : w.grownBy w' v2.ownBlock) : w'.ownsRow B e k v n xs := by
  refine World.ownsRow.kept h hg ?_
  rcases h.2 with ⟨hv, _⟩ | ⟨g, cap, cur, hv, _, hgg, _⟩
  · left; rw [hv]; rfl
  · right
    intro q
    rw [hv] at q
    rcases h2.2 with ⟨hv2, _⟩ | ⟨g2, cap2, cur2, hv2, _, hgg2, _⟩
    · rw [hv2] at q; simp [Value.ownBlock] at q
    · rw [hv2] at q
      simp only [Value.ownBlock, Option.some.injEq] at q
      subst q
      rw [hgg] at hgg2
      simp only [Option.some.injEq, Obj.cells.injEq] at hgg2
      exact he hgg2.2.1

structure PzS (b : Nat) (c : Int) (n : Bool) (ti tf : ByteArray) (x : Int) (cm : Bool) (ga gb gc : Int) (gl : Bool) (w : World) : Prop where
  sh : w.cell? ⟨b, 0, none⟩ = some (.int .i64 c) ∧ w.cell? ⟨b, 1, none⟩ = some (.bool n) ∧ w.cell? ⟨b, 2, none⟩ = some (.string ti) ∧ w.cell? ⟨b, 3, none⟩ = some (.string tf) ∧ w.cell? ⟨b, 4, none⟩ = some (.int .i64 x) ∧ w.cell? ⟨b, 5, none⟩ = some (.bool cm)
  gr : w.cell? ⟨b + 1, 0, none⟩ = some (.int .i64 ga) ∧ w.cell? ⟨b + 1, 1, none⟩ = some (.int .i64 gb) ∧ w.cell? ⟨b + 1, 2, none⟩ = some (.int .i64 gc) ∧ w.cell? ⟨b + 1, 3, none⟩ = some (.bool gl)

set_option maxRecDepth 100000 in
set_option maxHeartbeats 16000000 in
theorem dgsz_row (w : World) (htab : Tab w) (c : Int) (n : Bool) (ti tf : ByteArray) (x : Int) (cm : Bool) (hz1 : ti.size ≤ 140737488355328) (hz2 : tf.size ≤ 140737488355328) (ga gb gc : Int) (gl : Bool) (hf : ga ≤ 9223372036854775807) (hu : gb ≤ 9223372036854775807) :
    Calls Tryz.prog 6 #[shV c n ti tf x cm, groupsV ga gb gc gl] w fun r w' => r = .returned (.bool true) ∧ Below w.heap.size w w' := by
  obtain ⟨W, hW⟩ : ∃ W, W = (w.alloc (.cells #[.int .i64 c, .bool n, .string ti, .string tf, .int .i64 x, .bool cm] 23)).alloc (.cells #[.int .i64 ga, .int .i64 gb, .int .i64 gc, .bool gl] 28) := ⟨_, rfl⟩
  have BX0 := hide (show Blk W w.heap.size #[.int .i64 c, .bool n, .string ti, .string tf, .int .i64 x, .bool cm] 23 by rw [hW]; exact (Blk.newAt w w.heap.size rfl _ _).alloc _)
  have BG0 := hide (show Blk W (w.heap.size + 1) #[.int .i64 ga, .int .i64 gb, .int .i64 gc, .bool gl] 28 by rw [hW]; exact Blk.newAt _ _ (by simp) _ _)
  have HB0 : Hid (Below w.heap.size w W) := hide (by rw [hW]; exact ((Below.refl _ _).alloc (Nat.le_refl _) _).alloc (by simp) _)
  have HW := hide hW.symm
  have EV : symV lat = .agg latC := rfl
  have C1 := hide (fun X hX => lpieces_any c n ti tf x cm lat ga gb gc gl X hX lat_le hf hu)
  have HL := hide (fun X => latin_any X)
  have HA := hide (fun X hX => awake16_any X hX)
  obtain ⟨PS, hPS⟩ : ∃ PS, PS = pcsP ⟨c, n, bys ti, bys tf, x, cm⟩ lat ga gb gc gl := ⟨_, rfl⟩
  obtain ⟨k, hk⟩ : ∃ k, k = PS.length := ⟨_, rfl⟩
  have hkl : k ≤ 10000 := by rw [hk, hPS]; exact pcsP_len _ _ _ _ _ _
  have HK := hide hk
  rw [← hPS, ← hk, EV] at C1
  rw [EV] at HL
  have HT := hide htab
  have PF : Hid (MayS ⟨c, n, bys ti, bys tf, x, cm⟩ → c = 0 → szsP 2 PS = szG (bys ti).length ga gb gc ∧ ti.size ≤ 4096) := hide (fun h hc => by
    have hd : DigB (bys ti) ∧ (bys ti).length ≤ 4096 := by
      obtain ⟨_, ⟨_, _, ⟨q1, q2⟩, _⟩ | ⟨h1, _⟩ | ⟨h1, _⟩⟩ := h
      · exact ⟨q2, q1⟩
      · subst hc; exact absurd (show (0 : Int) = 1 from h1) (by decide)
      · subst hc; exact absurd (show (0 : Int) = 2 from h1) (by decide)
    refine ⟨?_, by rw [← bys_len]; exact hd.2⟩
    rw [hPS, pcsP_fin lat ga gb gc gl h hc, szsP_app, szs_fra, List.append_nil]
    exact szs_intP _ _ hd.1 (szG_pos _ _ _ _) (szG_sum _ _ _ _))
  clear hW hPS hk EV htab hu
  unfold groupsV at C1 ⊢
  obtain ⟨x_0, x_1, x_2, x_3, x_4, x_5⟩ := shown6 BX0.out
  obtain ⟨g_0, g_1, g_2, g_3⟩ := BG0.out.fourD
  have S0 : Hid (∀ X, Below W.heap.size W X → PzS w.heap.size c n ti tf x cm ga gb gc gl X) := hide (fun X hX => ⟨shown6 (BX0.out.below hX BX0.out.lt), (BG0.out.below hX BG0.out.lt).fourD⟩)
  have CL : Hid (∀ X, Below W.heap.size W X → Calls Tryz.prog 14 #[] X fun e w' => e = .returned (.agg latC) ∧ Hid (Below W.heap.size W w') ∧ PzS w.heap.size c n ti tf x cm ga gb gc gl w') := hide (fun X hX => (HL.out X).mono fun e w' ⟨q1, q2⟩ => by
    have bb := hX.trans (q2.mono hX.size)
    exact ⟨q1, hide bb, S0.out _ bb⟩)
  have CC : Hid (∀ X, Hid (Below W.heap.size W X) → Calls Tryz.prog 8 #[shV c n ti tf x cm, .agg latC, .agg #[.int .i64 ga, .int .i64 gb, .int .i64 gc, .bool gl]] X fun e w' => (∃ uo uc, e = .returned (.slice uo k uc) ∧ Hid (w'.ownsRow W.heap.size 34 2 (.slice uo k uc) k (cellsP PS))) ∧ Hid (Below W.heap.size W w') ∧ PzS w.heap.size c n ti tf x cm ga gb gc gl w') := hide (fun X hX => (C1.out X (HT.out.below (HB0.out.trans (hX.out.mono HB0.out.size)))).mono fun e w' ⟨⟨v, q1, q2⟩, q3⟩ => by
    have bb := hX.out.trans (q3.mono hX.out.size)
    obtain ⟨uo, uc, rfl⟩ := ownD_slice q2
    exact ⟨⟨uo, uc, q1, hide (ownD_mono q2 hX.out.size)⟩, hide bb, S0.out _ bb⟩)
  have hS0 := S0.out W.drew (Below.refl _ _).drew
  go_enter Tryz.func6, Tryz.ntmps6
  go_wp2_with (simp only [HW.out])
  refine wp_region_held_drew (S := PzS w.heap.size c n ti tf x cm ga gb gc gl) (by kernel_rfl) ?_ (fun hHeld => ?_)
  · assumption
  refine wpAnyH_take (i := 0) (oi := Oper.mk (some 11) _ _ _ _ _) (v := .agg #[.int .i64 c, .bool n, .string ti, .string tf, .int .i64 x, .bool cm]) rfl (by kernel_rfl) (by kernel_rfl) (by kernel_rfl) (fun _ _ _ h => h) (Or.inl ⟨by rfl, ?_⟩) (by assumption) ?_
  · intro wX hSw
    (try dsimp only at hSw)
    obtain ⟨q0, q1, q2, q3, q4, q5⟩ := hSw.sh
    go_simp
  simp only [Act.put, List.setIfInBounds_toArray, List.set_cons_succ, List.set_cons_zero]
  refine wpAnyH_take (i := 2) (oi := Oper.mk (some 13) _ _ _ _ _) (v := .agg #[.int .i64 ga, .int .i64 gb, .int .i64 gc, .bool gl]) rfl (by kernel_rfl) (by kernel_rfl) (by kernel_rfl) (fun _ _ _ h => h) (Or.inl ⟨by rfl, ?_⟩) (by assumption) ?_
  · intro wX hSw
    (try dsimp only at hSw)
    obtain ⟨q0, q1, q2, q3⟩ := hSw.gr
    go_simp
  simp only [Act.put, List.setIfInBounds_toArray, List.set_cons_succ, List.set_cons_zero]
  refine wpAnyH_ready (rs := [1]) (by kernel_rfl) (by simp) ?_
  refine AllReadyH.cons (o := Oper.mk (some 12) _ _ _ _ _) rfl (fun K hK => ?_) AllReadyH.nil
  go_simp
  refine (CL.out _ (Below.refl _ _).drew).mono ?_
  rintro e w1 ⟨rfl, b1, s1⟩
  refine hK.out _ _ ?_ (fun hHeld => ?_)
  · assumption
  clear hK K
  refine wpAnyH_ready (rs := [3]) (by kernel_rfl) (by simp) ?_
  refine AllReadyH.cons (o := Oper.mk (some 14) _ _ _ _ _) rfl (fun K hK => ?_) AllReadyH.nil
  go_simp
  refine (CC.out _ b1).mono ?_
  rintro e w2 ⟨⟨uo, uc, rfl, O2⟩, b2, s2⟩
  refine hK.out _ _ ?_ (fun hHeld => ?_)
  · assumption
  clear hK K
  refine wpAnyH_take (i := 4) (oi := Oper.mk (some 5) _ _ _ _ _) (v := .slice uo k uc) rfl (by kernel_rfl) (by kernel_rfl) (by kernel_rfl) (fun _ _ _ h => h) (Or.inl ⟨by rfl, ?_⟩) (by assumption) ?_
  · intro wX hSw
    (try dsimp only at hSw)
    go_simp
  simp only [Act.put, List.setIfInBounds_toArray, List.set_cons_succ, List.set_cons_zero]
  refine wpAnyH_done (by kernel_rfl) ?_ _
  have BX2 := hide (BX0.out.below b2.out BX0.out.lt)
  have BG2 := hide (BG0.out.below b2.out BG0.out.lt)
  have HB2 := hide (HB0.out.trans (b2.out.mono HB0.out.size))
  have hW2 : W.heap.size ≤ w2.heap.size := b2.out.size
  have hWw : w.heap.size + 1 < W.heap.size := BG0.out.lt
  have HA2 := hide (HA.out w2 (HT.out.below HB2.out))
  clear CL CC S0 hS0 b1 b2 s1 s2 hHeld BX0 BG0 HB0 C1 HL HA HW x_0 x_1 x_2 x_3 x_4 x_5 g_0 g_1 g_2 g_3
  go_wp2_with fail
  refine HA2.out.mono ?_
  rintro e w3 ⟨rfl, hb3⟩
  have BX3 := Blk.on BX2 hb3
  have BG3 := Blk.on BG2 hb3
  have O3 := hide (ownD_below O2.out hb3)
  have HB3 := hide (HB2.out.trans (hb3.mono HB2.out.size))
  have hW3 : W.heap.size ≤ w3.heap.size := Nat.le_trans hW2 hb3.size
  clear hb3 HA2 BX2 BG2 O2 HB2 hW2
  obtain ⟨x_0, x_1, x_2, x_3, x_4, x_5⟩ := shown6 BX3.out
  by_cases hmay : MayS ⟨c, n, bys ti, bys tf, x, cm⟩
  · have HM := hide (rmayS_T c n ti tf x cm w3 hmay)
    go_wp2_with fail
    refine HM.out.mono ?_
    rintro e w4 ⟨rfl, hb4⟩
    have BX4 := Blk.on BX3 hb4
    have BG4 := Blk.on BG3 hb4
    have O4 := hide (ownD_below O3.out hb4)
    have HB4 := hide (HB3.out.trans (hb4.mono HB3.out.size))
    have hW4 : W.heap.size ≤ w4.heap.size := Nat.le_trans hW3 hb4.size
    clear hb4 HM BX3 BG3 O3 HB3 hW3 x_0 x_1 x_2 x_3 x_4 x_5
    obtain ⟨x_0, x_1, x_2, x_3, x_4, x_5⟩ := shown6 BX4.out
    obtain ⟨g_0, g_1, g_2, g_3⟩ := BG4.out.fourD
    by_cases hc : c = 0
    · subst hc
      obtain ⟨hsz, htl⟩ := PF.out hmay rfl
      have SO := hide (sizes_ok (bys ti).length ga gb gc)
      rw [← hsz, bys_len] at SO
      clear PF hmay hsz
      obtain ⟨SZ, hSZ⟩ : ∃ SZ, SZ = szsP 2 PS := ⟨_, rfl⟩
      rw [← hSZ] at SO
      have HSZ := hide hSZ
      clear hSZ
      have OZ : Hid ((w4.alloc (.cells #[] 3)).ownsRow W.heap.size 3 1 (.slice (some ⟨w4.heap.size, 0, none⟩) 0 0) 0 (cellsN [])) := hide (World.ownsRow_made w4 #[] 0 hW4 (by decide) rfl)
      have BZ : Below w4.heap.size w4 (w4.alloc (.cells #[] 3)) := (Below.refl _ _).alloc (Nat.le_refl _) _
      have BX5 := Blk.on BX4 BZ
      have BG5 := Blk.on BG4 BZ
      have O5 := hide (ownD_below O4.out BZ)
      have HB5 := hide (HB4.out.trans (BZ.mono HB4.out.size))
      have hW5 := Nat.le_trans hW4 BZ.size
      clear BZ
      go_wp2
      clear BX4 BG4 O4 HB4 hW4 x_0 x_1 x_2 x_3 x_4 x_5 g_0 g_1 g_2 g_3
      go_loopw [6, 7] (fun sz q wr => ∃ (i m : Nat) (u : Option Addr) (cz : Nat) (L : List Nat), i ≤ k ∧ m ≤ i ∧ sz = .slice u m cz ∧ q = .int .i64 (i : Int) ∧ Hid (L.length = m ∧ L ++ szsP 2 (PS.drop i) = SZ) ∧ Hid (wr.ownsRow W.heap.size 3 1 (.slice u m cz) m (cellsN L)) ∧ Hid (wr.ownsRow W.heap.size 34 2 (.slice uo k uc) k (cellsP PS)) ∧ Hid (Blk wr w.heap.size #[.int .i64 0, .bool n, .string ti, .string tf, .int .i64 x, .bool cm] 23) ∧ Hid (Blk wr (w.heap.size + 1) #[.int .i64 ga, .int .i64 gb, .int .i64 gc, .bool gl] 28) ∧ Hid (Below w.heap.size w wr) ∧ W.heap.size ≤ wr.heap.size) (fun _ q _ => k - (intOf q).toNat)
      case atStart => exact ⟨0, 0, _, _, [], Nat.zero_le _, Nat.le_refl _, rfl, rfl, hide ⟨rfl, by rw [List.drop_zero, HSZ.out]; rfl⟩, OZ, O5, BX5, BG5, HB5, hW5⟩
      case round =>
        clear BX5 BG5 O5 HB5 hW5 OZ HSZ
        obtain ⟨i, m, u, cz, L, hi, hm, rfl, rfl, HL1, OZ, O6, BX6, BG6, HB6, hW6⟩ := hrel
        by_cases hik : i < k
        · have hik' : (i : Int) < (k : Int) := by omega
          obtain ⟨g, cap, hv, hg1, hg2, hgc⟩ := ownD_some O6.out (by omega)
          simp only [Value.slice.injEq] at hv
          obtain ⟨rfl, _, rfl⟩ := hv
          have hip : i < PS.length := by rw [← HK.out]; exact hik
          obtain ⟨q0, q1⟩ := cellsP_at PS i hip
          have cA := (O6.out.cellAt (i * 2) (by omega)).trans q0
          have cB := (O6.out.cellAt (i * 2 + 1) (by omega)).trans q1
          have ST : Hid (szsP 2 (PS.drop i) = if (pcN PS i).field = 2 then (pcN PS i).text.size :: szsP 2 (PS.drop (i + 1)) else szsP 2 (PS.drop (i + 1))) := hide (by rw [pcN_drop hip]; rfl)
          obtain ⟨t0, ht0⟩ : ∃ t0, t0 = (pcN PS i).text := ⟨_, rfl⟩
          obtain ⟨f0, hf0⟩ : ∃ f0, f0 = (pcN PS i).field := ⟨_, rfl⟩
          rw [← ht0] at cA ST
          rw [← hf0] at cB ST
          clear ht0 hf0 q0 q1 hip
          by_cases hf2 : f0 = 2
          · subst hf2
            rw [if_pos rfl] at ST
            have HL2 : Hid ((L ++ [t0.size]).length = m + 1 ∧ (L ++ [t0.size]) ++ szsP 2 (PS.drop (i + 1)) = SZ) := hide ⟨by rw [List.length_append, HL1.out.1]; rfl, by rw [← HL1.out.2, ST.out]; simp⟩
            have BA : Hid (Below wr.heap.size wr (wr.alloc (.cells #[.int .i64 (t0.size : Int)] 3))) := hide ((Below.refl _ _).alloc (Nat.le_refl _) _)
            have SR := hide (Blk.newAt wr wr.heap.size rfl #[.int .i64 (t0.size : Int)] 3)
            have OA := hide (ownD_below OZ.out BA.out)
            have OP := hide (ownD_below O6.out BA.out)
            have BASE : Hid (W.heap.size ≤ (wr.alloc (.cells #[.int .i64 (t0.size : Int)] 3)).heap.size) := hide (Nat.le_trans hW6 BA.out.size)
            have EX : Hid (cellsN L ++ [.int .i64 (t0.size : Int)] = cellsN (L ++ [t0.size])) := hide (by unfold cellsN; rw [List.map_append]; rfl)
            clear HL1 ST
            go_wp2_with (at_builtin; refine wpN_append rfl _ _ rfl W.heap.size (.slice u m cz) m (cellsN L) rfl OA.out wr.heap.size (t0.size : Int) rfl SR.out _ EX.out (by omega) BASE.out ?_; intro uo7 uc7 w7 hown hgr)
            have BX7 := hide ((BX6.out.below BA.out BX6.out.lt).grownD OA.out (by omega) hgr)
            have BG7 := hide ((BG6.out.below BA.out BG6.out.lt).grownD OA.out (by omega) hgr)
            have HBA := hide (HB6.out.trans (BA.out.mono HB6.out.size))
            have HB7 := hide (HBA.out.grown hgr HBA.out.size (fun q hq => Nat.le_trans (by omega) (World.ownsRow.lt OA.out q hq).1))
            have O7 := hide (own_grownD OP.out OA.out (by decide) hgr)
            have OZ7 := hide hown
            have hW7 : W.heap.size ≤ w7.heap.size := Nat.le_trans BASE.out hgr.size
            exact ⟨⟨i + 1, m + 1, uo7, uc7, _, by omega, by omega, rfl, by go_num, HL2, OZ7, O7, BX7, BG7, HB7, hW7⟩, by simp [intOf]; omega⟩
          · rw [if_neg hf2] at ST
            have hf2' : (f0 == 2) = false := beq_eq_false_iff_ne.2 hf2
            have HL2 : Hid (L.length = m ∧ L ++ szsP 2 (PS.drop (i + 1)) = SZ) := hide ⟨HL1.out.1, by rw [← HL1.out.2, ST.out]⟩
            clear HL1 ST
            go_wp2
            exact ⟨⟨i + 1, m, u, cz, L, by omega, by omega, rfl, by go_num, HL2, OZ, O6, BX6, BG6, HB6, hW6⟩, by simp [intOf]; omega⟩
        · obtain rfl : i = k := by omega
          have hik' : ¬ (i : Int) < (i : Int) := by omega
          have EL : Hid (L = SZ ∧ m = SZ.length) := hide (by
            obtain ⟨q1, q2⟩ := HL1.out
            rw [HK.out, List.drop_length] at q2
            have q3 : L = SZ := by rw [← q2]; simp [szsP]
            exact ⟨q3, by rw [← q1, q3]⟩)
          have OS : Hid (wr.ownsRow W.heap.size 3 1 (.slice u m cz) m (cellsN SZ)) := hide (by rw [← EL.out.1]; exact OZ.out)
          have hmS : Hid (m = SZ.length) := hide EL.out.2
          obtain ⟨x_0, x_1, x_2, x_3, x_4, x_5⟩ := shown6 BX6.out
          obtain ⟨g_0, g_1, g_2, g_3⟩ := BG6.out.fourD
          clear EL HL1 OZ O6 hi
          by_cases hm2 : m < 2
          · have hm2' : (m : Int) < 2 := by omega
            have D := SO.out.1 (by rw [← hmS.out]; exact hm2)
            clear OS hmS SO BX6 BG6
            rcases (show ga ≤ 0 ∨ (0 < ga ∧ (ti.size : Int) ≤ ga) ∨ (0 < ga ∧ ga < (ti.size : Int) ∧ 1 < gc ∧ (ti.size : Int) - ga < gc) by omega) with d | ⟨d, d2⟩ | ⟨d, d2, d3, d4⟩
            · clear D
              by_cases hgb : gb ≤ 0
              · go_wp2
                go_ret
                exact ⟨rfl, HB6.out⟩
              · have hgb' : ¬ gb ≤ 0 := hgb
                go_wp2
                go_ret
                exact ⟨rfl, HB6.out⟩
            · clear D
              have d0 : ¬ ga ≤ 0 := by omega
              by_cases hgb : gb ≤ 0
              · go_wp2
                go_ret
                exact ⟨rfl, HB6.out⟩
              · have hgb' : ¬ gb ≤ 0 := hgb
                go_wp2
                go_ret
                exact ⟨rfl, HB6.out⟩
            · clear D
              have d0 : ¬ ga ≤ 0 := by omega
              have d1 : ¬ (ti.size : Int) ≤ ga := by omega
              have dw : IntKind.i64.wrap ((ti.size : Int) - ga) = (ti.size : Int) - ga := by rw [IntKind.wrap_i64]; omega
              by_cases hgb : gb ≤ 0
              · go_wp2
                go_ret
                exact ⟨rfl, HB6.out⟩
              · have hgb' : ¬ gb ≤ 0 := hgb
                go_wp2
                go_ret
                exact ⟨rfl, HB6.out⟩
          · have hm2' : ¬ (m : Int) < 2 := by omega
            obtain ⟨ga0, r, q, R, F, hSZ, hF, hR, hr1, hr2, hlst⟩ := SO.out.2 (by rw [← hmS.out]; omega)
            obtain ⟨g2, cap2, hv, hg21, hg22, hg2c⟩ := ownD_some OS.out (by omega)
            simp only [Value.slice.injEq] at hv
            obtain ⟨rfl, _, rfl⟩ := hv
            have hSL : SZ.length = q + 2 := by rw [hSZ]; simp [tailS]
            have hml : m = q + 1 + 1 := by rw [hmS.out, hSL]
            have c0 : wr.cell? ⟨g2, 0, none⟩ = some (.int .i64 (r : Int)) := (OS.out.cellAt 0 (by omega)).trans (cellsN_at (by rw [hSZ]; rfl))
            have cl : wr.cell? ⟨g2, q + 1, none⟩ = some (.int .i64 ga) := by
              rw [← hF]
              refine (OS.out.cellAt (q + 1) (by omega)).trans (cellsN_at ?_)
              rw [hSZ, List.getElem?_cons_succ]
              unfold tailS
              rw [List.getElem?_append_right (by simp)]
              simp
            have CM : Hid (∀ i, 1 ≤ i → i < q + 1 → wr.cell? ⟨g2, i, none⟩ = some (.int .i64 (furR ga gb))) := hide (fun i h1 h2 => by
              rw [← hR]
              refine (OS.out.cellAt i (by omega)).trans (cellsN_at ?_)
              obtain ⟨j, rfl⟩ : ∃ j, i = j + 1 := ⟨i - 1, by omega⟩
              rw [hSZ, List.getElem?_cons_succ]
              unfold tailS
              rw [List.getElem?_append_left (by simp; omega), List.getElem?_replicate, if_pos (by omega)])
            have hrf : (r : Int) ≤ furR ga gb := by omega
            have t1 : ¬ (r : Int) < 1 := by omega
            have t3 : ¬ (ti.size : Int) - ga < gc := by omega
            have dw : IntKind.i64.wrap ((ti.size : Int) - ga) = (ti.size : Int) - ga := by rw [IntKind.wrap_i64]; omega
            have hix : IntKind.i64.wrap ((m : Int) - 1) = ((q + 1 : Nat) : Int) := by rw [IntKind.wrap_i64]; omega
            have hb1 : (1 : Int) ≤ (m : Int) := by omega
            have hml2 : ((q + 1 : Nat) : Int) < (m : Int) := by omega
            have hmx : (m : Int) ≤ 10000 := by omega
            obtain ⟨q1, hq1⟩ : ∃ q1, q1 = q + 1 := ⟨_, rfl⟩
            rw [← hq1] at cl CM hix hml2
            have hq1p : 1 ≤ q1 := by omega
            have hmq : (m : Int) - 1 = (q1 : Int) := by omega
            have hgm : (0 : Int) < (m : Int) := by omega
            clear hSZ hF hR hr2 hlst hSL hml hq1 SO OS hmS BX6 BG6 hr1
            by_cases hgb : gb ≤ 0
            · have e0 : furR ga gb = ga := by unfold furR; rw [if_pos hgb]
              rw [e0] at CM hrf
              clear e0
              have t2 : ¬ ga < (r : Int) := by omega
              have u1 : decide ((r : Int) < 1) = false := decide_eq_false t1
              have u2 : decide (ga < (r : Int)) = false := decide_eq_false t2
              have u3 : decide ((ti.size : Int) - ga < gc) = false := decide_eq_false t3
              have u4 : (ga != ga) = false := by simp
              go_wp2_with fail
              go_region
              go_wp2
              obtain ⟨wo, hwo⟩ : ∃ wo, wo = wr := ⟨_, rfl⟩
              subst hwo
              go_loopw [10] (fun z wr => ∃ i : Nat, 1 ≤ i ∧ i ≤ q1 ∧ z = .int .i64 (i : Int) ∧ Hid (Below wo.heap.size wo wr)) (fun z _ => q1 - (intOf z).toNat)
              case atStart => exact ⟨1, Nat.le_refl _, hq1p, rfl, hide (Below.refl _ _).drew⟩
              case round =>
                obtain ⟨i, hi1, hi2, rfl, BW⟩ := hrel
                clear c0 cl x_0 x_1 x_2 x_3 x_4 x_5 g_0 g_1 g_2 g_3
                by_cases hlt : i < q1
                · have hlt' : (i : Int) < (q1 : Int) := by omega
                  have hlm : (i : Int) < (m : Int) := by omega
                  have ci := cellD_on BW.out (CM.out i hi1 hlt)
                  have u5 : (ga != ga) = false := by simp
                  go_wp2
                  exact ⟨⟨i + 1, by omega, by omega, by go_num, BW⟩, by simp [intOf]; omega⟩
                · obtain rfl : i = q1 := by omega
                  have hlt' : ¬ (i : Int) < (i : Int) := by omega
                  have HBf := hide (HB6.out.trans (BW.out.mono HB6.out.size))
                  go_wp2
                  go_ret
                  exact ⟨rfl, HBf.out⟩
            · have e0 : furR ga gb = gb := by unfold furR; rw [if_neg hgb]
              rw [e0] at CM hrf
              clear e0
              have t2 : ¬ gb < (r : Int) := by omega
              have u1 : decide ((r : Int) < 1) = false := decide_eq_false t1
              have u2 : decide (gb < (r : Int)) = false := decide_eq_false t2
              have u3 : decide ((ti.size : Int) - ga < gc) = false := decide_eq_false t3
              have u4 : (ga != ga) = false := by simp
              go_wp2_with fail
              go_region
              go_wp2
              obtain ⟨wo, hwo⟩ : ∃ wo, wo = wr := ⟨_, rfl⟩
              subst hwo
              go_loopw [10] (fun z wr => ∃ i : Nat, 1 ≤ i ∧ i ≤ q1 ∧ z = .int .i64 (i : Int) ∧ Hid (Below wo.heap.size wo wr)) (fun z _ => q1 - (intOf z).toNat)
              case atStart => exact ⟨1, Nat.le_refl _, hq1p, rfl, hide (Below.refl _ _).drew⟩
              case round =>
                obtain ⟨i, hi1, hi2, rfl, BW⟩ := hrel
                clear c0 cl x_0 x_1 x_2 x_3 x_4 x_5 g_0 g_1 g_2 g_3
                by_cases hlt : i < q1
                · have hlt' : (i : Int) < (q1 : Int) := by omega
                  have hlm : (i : Int) < (m : Int) := by omega
                  have ci := cellD_on BW.out (CM.out i hi1 hlt)
                  have u5 : (gb != gb) = false := by simp
                  go_wp2
                  exact ⟨⟨i + 1, by omega, by omega, by go_num, BW⟩, by simp [intOf]; omega⟩
                · obtain rfl : i = q1 := by omega
                  have hlt' : ¬ (i : Int) < (i : Int) := by omega
                  have HBf := hide (HB6.out.trans (BW.out.mono HB6.out.size))
                  go_wp2
                  go_ret
                  exact ⟨rfl, HBf.out⟩
    · have hc' : (c == 0) = false := beq_eq_false_iff_ne.2 hc
      clear PF hmay
      go_wp2
      go_ret
      exact ⟨rfl, HB4.out⟩
  · have HM := hide (rmayS_F c n ti tf x cm w3 (by omega) (by omega) hmay)
    clear PF
    go_wp2_with fail
    refine HM.out.mono ?_
    rintro e w4 ⟨rfl, hb4⟩
    have HB4 := hide (HB3.out.trans (hb4.mono HB3.out.size))
    clear hb4 HM
    go_wp2
    go_ret
    exact ⟨rfl, HB4.out⟩

end Go.Proofs.YtionbkmbhhlmjaaGreatDoor

namespace Go.Proofs.YtionbkmbhhlmjaaGreatDoor
open Go.RowKit

theorem tg : Tryz.prog.globalNamed "internal/strconv.uint64pow10" = some 0 := by kernel_rfl
theorem tgt : (Tryz.prog.globals[0]?).map (·.type) = some 130 := by kernel_rfl
theorem tc20 : Tryz.prog.cellsOf 130 = 20 := by kernel_rfl
theorem tc1 : Tryz.prog.cellsOf 56 = 1 := by kernel_rfl

theorem table {W : World} (h : laidMetH Tryz.prog [("math/bits.deBruijn32tab", Rows.laid_math_bits_deBruijn32tab), ("math/bits.deBruijn64tab", Rows.laid_math_bits_deBruijn64tab), ("internal/strconv.uint64pow10", Rows.laid_internal_strconv_uint64pow10), ("unicode/utf8.acceptRanges", Rows.laid_unicode_utf8_acceptRanges), ("strconv.ErrRange", Rows.laid_strconv_ErrRange), ("strconv.ErrSyntax", Rows.laid_strconv_ErrSyntax), ("unicode/utf8.first", Rows.laid_unicode_utf8_first)] W) : Tab W := by
  have h' : laidMet Tryz.prog [("math/bits.deBruijn32tab", Rows.laid_math_bits_deBruijn32tab), ("math/bits.deBruijn64tab", Rows.laid_math_bits_deBruijn64tab), ("internal/strconv.uint64pow10", Rows.laid_internal_strconv_uint64pow10), ("unicode/utf8.acceptRanges", Rows.laid_unicode_utf8_acceptRanges), ("strconv.ErrRange", Rows.laid_strconv_ErrRange), ("strconv.ErrSyntax", Rows.laid_strconv_ErrSyntax), ("unicode/utf8.first", Rows.laid_unicode_utf8_first)] W := h
  obtain ⟨ps, ⟨_, _, _, _, _, q1, _, _, _, _, ⟨_, _, _, _, _, q2, _, _, _, _, ⟨g', t', cs, fuel, p3, q3, hg', ht', hvar, hd, _, _⟩, _⟩, _⟩, _⟩ := h'
  obtain rfl := Option.some.inj (tg.symm.trans hg')
  obtain rfl := Option.some.inj (tgt.symm.trans ht')
  unfold Tab Lib.TabIs
  have hd' : DataW.trod (fun _ => ()) Tryz.prog W 0 (fun _ => true) false fuel 130 cs.toList = some (Lib.tabData .u64 Lib.pow10Tab, p3) := hd
  rw [hvar, ← Lib.cells_of_tab Tryz.underlying130 Tryz.underlying56 tc1 tc20 hd']

def tabVals : DataW Unit → Array Value
  | .agg l => (l.flatMap fun
      | .lit (.int k z) => [Value.int k z]
      | .agg l2 => l2.map fun
        | .lit (.int k z) => Value.int k z
        | _ => .int .u8 0
      | _ => []).toArray
  | _ => #[]

def putVals (d : DataW Unit) : Obj → Obj
  | .cells _ t frozen => .cells (tabVals d) t frozen
  | o => o

def errText : DataW Unit → ByteArray
  | .iface _ (.ptr (.agg [.lit (.string l)])) => ⟨l.toArray⟩
  | _ => ⟨#[]⟩

def putErr (b : Nat) : Obj → Obj
  | .cells _ t frozen => .cells #[.iface 170 (.pointer (some ⟨b, 0, none⟩))] t frozen
  | o => o

noncomputable def laidWorld (os : Os) : World :=
  { World.holding Tryz.prog os ⟨#[], #[], []⟩ with
    heap := (((((((((World.holding Tryz.prog os ⟨#[], #[], []⟩).heap.modify 2 (putVals Rows.laid_math_bits_deBruijn32tab)).modify 3 (putVals Rows.laid_math_bits_deBruijn64tab)).modify 0 (putVals Rows.laid_internal_strconv_uint64pow10)).modify 7 (putVals Rows.laid_unicode_utf8_acceptRanges)).modify 6 (putVals Rows.laid_unicode_utf8_first)).modify 5 (putErr (World.holding Tryz.prog os ⟨#[], #[], []⟩).heap.size)).modify 4 (putErr ((World.holding Tryz.prog os ⟨#[], #[], []⟩).heap.size + 1))).push (.cells #[.string (errText Rows.laid_strconv_ErrRange)] 172)).push (.cells #[.string (errText Rows.laid_strconv_ErrSyntax)] 172) }

end Go.Proofs.YtionbkmbhhlmjaaGreatDoor
