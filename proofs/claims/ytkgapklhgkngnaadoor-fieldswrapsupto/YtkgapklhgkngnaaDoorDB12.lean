/-
  The reference's put.
  Lists of bytes in blocks of their own, out of a conversion or an append: an append to one; what a conversion makes.
  Texts and lists of bytes: conversions, there and back.
-/
import Derived.Test.YtkgapklhgkngnaaDoorDB10
import Derived.Test.YtkgapklhgkngnaaDoorDB3
import Derived.Test.YtkgapklhgkngnaaDoorDB4
import Derived.ArgAppend
import Derived.Lib.ConvBytes
import Derived.Laws.BytesArg
namespace Go.Proofs.YtkgapklhgkngnaaDoor
open Go.RowKit

attribute [local go_sem ↓] Go.wp_at_zero Go.wp_at_succ

def rputL (x : Sp) : List Sp → List Sp
  | [] => [x]
  | y :: l => if ahdB x y = true then x :: y :: l else y :: rputL x l
def rpE (d : Bool) (x : Sp) (l : List Sp) : List Sp := if d then l else rputL x l

structure RPutR (H : Nat) (w : World) (x : Sp) (l R : List Sp) (wr : World) (i : Nat) (d : Bool) (v : Value) : Prop where
  ex : ∃ out : List Sp, out.length = i + d.toNat ∧ OwnS (H + 1) wr v out ∧ out ++ rpE d x (l.drop i) = R ∧ Blk wr H #[.int .i64 x.f, .int .i64 x.a, .int .i64 x.b] 31 ∧ Below H w wr

set_option maxRecDepth 100000 in
set_option maxHeartbeats 8000000 in
theorem rPut_any (v : Value) (l : List Sp) (x : Sp) (w : World) (hv : SpV w v l) (hl : (l.length + 2) * 32 ≤ 140737488355328) :
    Calls Tryd.prog 29 #[v, .agg #[.int .i64 x.f, .int .i64 x.a, .int .i64 x.b]] w fun e w' => Hid (∃ uo uc, e = .returned (.slice uo (l.length + 1) uc) ∧ OwnS w.heap.size w' (.slice uo (l.length + 1) uc) (rputL x l)) ∧ Below w.heap.size w w' := by
  have HV := hide hv
  obtain ⟨ao, cap, rfl⟩ := hv.len
  obtain ⟨n, hn⟩ : ∃ n, n = l.length := ⟨_, rfl⟩
  rw [← hn] at HV hl ⊢
  obtain ⟨xf, xa, xb⟩ := x
  obtain ⟨R, hR⟩ : ∃ R, R = rputL ⟨xf, xa, xb⟩ l := ⟨_, rfl⟩
  obtain ⟨W1, hW1⟩ : ∃ W1, W1 = (w.alloc (.cells #[.int .i64 xf, .int .i64 xa, .int .i64 xb] 31)).alloc (.cells #[] 31) := ⟨_, rfl⟩
  have B1 := hide (show Below w.heap.size w W1 by rw [hW1]; exact ((Below.refl _ _).alloc (Nat.le_refl _) _).alloc (Nat.le_of_lt (by rw [allocW_size]; exact Nat.lt_succ_self _)) _)
  have BX1 : Hid (Blk W1 w.heap.size #[.int .i64 xf, .int .i64 xa, .int .i64 xb] 31) := hide (by rw [hW1]; exact (Blk.newAt w _ rfl _ _).below ((Below.refl _ _).alloc (Nat.le_refl _) _) (by rw [allocW_size]; exact Nat.lt_succ_self _))
  have BY1 : Hid (Blk W1 (w.heap.size + 1) #[] 31) := hide (by rw [hW1]; exact Blk.newAt _ _ (allocW_size _ _) _ _)
  have L0 : Hid (RPutR w.heap.size w ⟨xf, xa, xb⟩ l R W1 0 false (.slice (some ⟨w.heap.size + 1, 0, none⟩) 0 0)) := hide ⟨⟨[], rfl, ⟨rfl, .inr ⟨w.heap.size + 1, 0, _, rfl, Nat.le_refl _, BY1.out, Nat.le_refl _, by decide, rfl, rfl⟩⟩, by rw [hR]; rfl, BX1.out, B1.out⟩⟩
  have HW := hide hW1.symm
  have HN := hide hn
  have HL := hide hl
  have hnb : n ≤ 140737488355328 := by omega
  have HR := hide hR
  simp only []
  rw [← hR]
  clear hv hn hl hW1 hR BX1 BY1 B1
  go_enter Tryd.func29, Tryd.ntmps29
  go_wp2_with (simp only [HW.out])
  go_loopw [5, 6, 7] (fun x5 x6 x7 wr => ∃ (i : Nat) (d : Bool) (uo : Option Addr) (k uc : Nat), i ≤ n ∧ x5 = .slice uo k uc ∧ x6 = .bool d ∧ x7 = .int .i64 (i : Int) ∧ Hid (RPutR w.heap.size w ⟨xf, xa, xb⟩ l R wr i d (.slice uo k uc)) ∧ Hid (k = i + d.toNat)) (fun _ _ x7 _ => n - (intOf x7).toNat)
  case atStart => exact ⟨0, false, _, 0, 0, Nat.zero_le _, rfl, rfl, rfl, L0, hide rfl⟩
  case round =>
    obtain ⟨i, d, uo, k, uc, hi, rfl, rfl, rfl, HP, HK⟩ := hrel
    clear L0 HW
    obtain ⟨out, hol, how, hrx, hbx, hb⟩ := HP.out.ex
    have RX := hide hbx
    have BB := hide hb
    have OO := hide how
    have RR := hide hrx
    have hkl : out.length = k := by rw [hol, HK.out]
    have HKL := hide hkl
    have hd1 : d.toNat ≤ 1 := by cases d <;> decide
    have hxr : w.heap.size < wr.heap.size := hbx.lt
    have BASE := hide (show w.heap.size + 1 ≤ wr.heap.size from hxr)
    have LK := hide (show (k + 1) * 24 ≤ 140737488355328 from bndW (by have := HK.out; omega) HL.out)
    have LK5 : Hid (d = false → i < n → (k + 1 + 1) * 24 ≤ 140737488355328) := hide (fun hd hi2 => bndW (by have := HK.out; subst hd; simp only [Bool.toNat_false] at this; omega) HL.out)
    clear hol how hrx hbx hb HP hkl
    by_cases hlt : i < n
    · have hlt' : (i : Int) < (n : Int) := by omega
      have hil : i < l.length := by rw [← HN.out]; exact hlt
      have HV2 := HV.out
      rw [HN.out] at HV2
      cases HV2 with
      | none _ _ _ h => subst h; simp at hil
      | some b o cp hv hc hb ha =>
        simp only [Value.slice.injEq] at hv
        obtain ⟨rfl, hx, rfl⟩ := hv
        clear hx
        obtain ⟨c0, c1, c2⟩ := (ha.below hb BB.out) i hil
        obtain ⟨a0, a1, a2⟩ := ha i hil
        have hb0 := hb
        have ED : l.drop i = gN spZ l i :: l.drop (i + 1) := by rw [List.drop_eq_getElem_cons hil]; congr 1; unfold gN; rw [List.getElem?_eq_getElem hil]; rfl
        have RS := hide RR.out
        rw [ED] at RS
        generalize gN spZ l i = s at *
        obtain ⟨sf, sa, sb⟩ := s
        simp only [] at c0 c1 c2 a0 a1 a2
        have HC : Hid (∀ X, Below w.heap.size w X → X.cell? ⟨b, o + i * 3, none⟩ = some (.int .i64 sf) ∧ X.cell? ⟨b, o + i * 3 + 1, none⟩ = some (.int .i64 sa) ∧ X.cell? ⟨b, o + i * 3 + 2, none⟩ = some (.int .i64 sb)) := hide (fun X hX => ⟨(hX.cell (p := ⟨b, o + i * 3, none⟩) hb0).trans a0, (hX.cell (p := ⟨b, o + i * 3 + 1, none⟩) hb0).trans a1, (hX.cell (p := ⟨b, o + i * 3 + 2, none⟩) hb0).trans a2⟩)
        clear a0 a1 a2
        have hbw : b < wr.heap.size := Nat.lt_of_lt_of_le hb BB.out.size
        clear ha hb hc ED hil RR
        cases d with
        | true =>
          go_wp2_with fail
          refine wp_region_held_drew (S := fun X => X = wr.drew) (by kernel_rfl) ?_ (fun hHeld => ?_)
          · rfl
          refine wpAnyH_take (i := 0) (oi := Oper.mk (some 15) _ _ _ _ _) (v := .bool true) rfl (by kernel_rfl) (by kernel_rfl) (by kernel_rfl) (fun _ _ _ h => h) (Or.inl ⟨by rfl, ?_⟩) (by assumption) ?_
          · intro wX hSw
            (try dsimp only at hSw)
            go_simp
          simp only [Act.put, List.setIfInBounds_toArray, List.set_cons_succ, List.set_cons_zero]
          refine wpAnyH_take (i := 1) (oi := Oper.mk (some 16) _ _ _ _ _) (v := .bool false) rfl (by kernel_rfl) (by kernel_rfl) (by kernel_rfl) (fun _ _ _ h => h) (Or.inl ⟨by rfl, ?_⟩) (by assumption) ?_
          · intro wX hSw
            (try dsimp only at hSw)
            go_simp
          simp only [Act.put, List.setIfInBounds_toArray, List.set_cons_succ, List.set_cons_zero]
          refine wpAnyH_take (i := 2) (oi := Oper.mk (some 17) _ _ _ _ _) (v := .bool false) rfl (by kernel_rfl) (by kernel_rfl) (by kernel_rfl) (fun _ _ _ h => h) (Or.inl ⟨by rfl, ?_⟩) (by assumption) ?_
          · intro wX hSw
            (try dsimp only at hSw)
            go_simp
          simp only [Act.put, List.setIfInBounds_toArray, List.set_cons_succ, List.set_cons_zero]
          refine wpAnyH_take (i := 3) (oi := Oper.mk (some 18) _ _ _ _ _) (v := undef) rfl (by kernel_rfl) (by kernel_rfl) (by kernel_rfl) (fun _ _ _ h => h) (Or.inr ⟨by rfl, rfl⟩) (by assumption) ?_
          simp only [Act.put, List.setIfInBounds_toArray, List.set_cons_succ, List.set_cons_zero]
          refine wpAnyH_take (i := 4) (oi := Oper.mk (some 19) _ _ _ _ _) (v := undef) rfl (by kernel_rfl) (by kernel_rfl) (by kernel_rfl) (fun _ _ _ h => h) (Or.inr ⟨by rfl, rfl⟩) (by assumption) ?_
          simp only [Act.put, List.setIfInBounds_toArray, List.set_cons_succ, List.set_cons_zero]
          refine wpAnyH_take (i := 5) (oi := Oper.mk (some 20) _ _ _ _ _) (v := undef) rfl (by kernel_rfl) (by kernel_rfl) (by kernel_rfl) (fun _ _ _ h => h) (Or.inr ⟨by rfl, rfl⟩) (by assumption) ?_
          simp only [Act.put, List.setIfInBounds_toArray, List.set_cons_succ, List.set_cons_zero]
          refine wpAnyH_take (i := 6) (oi := Oper.mk (some 21) _ _ _ _ _) (v := undef) rfl (by kernel_rfl) (by kernel_rfl) (by kernel_rfl) (fun _ _ _ h => h) (Or.inr ⟨by rfl, rfl⟩) (by assumption) ?_
          simp only [Act.put, List.setIfInBounds_toArray, List.set_cons_succ, List.set_cons_zero]
          refine wpAnyH_take (i := 7) (oi := Oper.mk (some 22) _ _ _ _ _) (v := undef) rfl (by kernel_rfl) (by kernel_rfl) (by kernel_rfl) (fun _ _ _ h => h) (Or.inr ⟨by rfl, rfl⟩) (by assumption) ?_
          simp only [Act.put, List.setIfInBounds_toArray, List.set_cons_succ, List.set_cons_zero]
          refine wpAnyH_take (i := 8) (oi := Oper.mk (some 23) _ _ _ _ _) (v := undef) rfl (by kernel_rfl) (by kernel_rfl) (by kernel_rfl) (fun _ _ _ h => h) (Or.inr ⟨by rfl, rfl⟩) (by assumption) ?_
          simp only [Act.put, List.setIfInBounds_toArray, List.set_cons_succ, List.set_cons_zero]
          refine wpAnyH_take (i := 9) (oi := Oper.mk (some 24) _ _ _ _ _) (v := .bool false) rfl (by kernel_rfl) (by kernel_rfl) (by kernel_rfl) (fun _ _ _ h => h) (Or.inl ⟨by rfl, ?_⟩) (by assumption) ?_
          · intro wX hSw
            (try dsimp only at hSw)
            go_simp
          simp only [Act.put, List.setIfInBounds_toArray, List.set_cons_succ, List.set_cons_zero]
          refine wpAnyH_done (by kernel_rfl) ?_ _
          obtain ⟨wz, hwz⟩ : ∃ wz, wz = wr.drew := ⟨_, rfl⟩
          rw [← hwz]
          have Z := hide (show Below wr.heap.size wr wz by rw [hwz]; exact (Below.refl _ _).drew)
          clear hwz
          have BZ := hide (BB.out.trans (Z.out.mono BB.out.size))
          have RZ := hide (RX.out.below Z.out RX.out.lt)
          have OZ := hide (ownF_below OO.out Z.out)
          have z0 : wz.cell? ⟨b, o + i * 3, none⟩ = some (.int .i64 sf) := (Z.out.cell (p := ⟨b, o + i * 3, none⟩) hbw).trans c0
          have z1 : wz.cell? ⟨b, o + i * 3 + 1, none⟩ = some (.int .i64 sa) := (Z.out.cell (p := ⟨b, o + i * 3 + 1, none⟩) hbw).trans c1
          have z2 : wz.cell? ⟨b, o + i * 3 + 2, none⟩ = some (.int .i64 sb) := (Z.out.cell (p := ⟨b, o + i * 3 + 2, none⟩) hbw).trans c2
          clear c0 c1 c2 BB RX OO
          obtain ⟨V4, hV4⟩ : ∃ V4, V4 = wz.alloc (.cells #[.int .i64 sf, .int .i64 sa, .int .i64 sb] 31) := ⟨_, rfl⟩
          have A4 := hide (show Below wz.heap.size wz V4 by rw [hV4]; exact (Below.refl _ _).alloc (Nat.le_refl _) _)
          have TB4 : Hid (Blk V4 wz.heap.size #[.int .i64 sf, .int .i64 sa, .int .i64 sb] 31) := hide (by rw [hV4]; exact Blk.newAt _ _ rfl _ _)
          have Q4 := hide (ownF_below OZ.out A4.out)
          have BS4 := hide (show w.heap.size + 1 ≤ V4.heap.size by have := A4.out.size; have := RZ.out.lt; omega)
          have HV4 := hide hV4.symm
          clear hV4
          go_wp2_with (first | simp only [HV4.out] | (at_builtin; refine wpSp_appendN rfl _ _ rfl (w.heap.size + 1) (.slice uo k uc) out (k) HKL.out rfl Q4.out wz.heap.size ⟨sf, sa, sb⟩ rfl TB4.out LK.out BS4.out ?_; intro uo4 uc4 y4 hown hgr))
          have BB4 := hide ((BZ.out.trans (A4.out.mono BZ.out.size)).grown hgr (Nat.le_of_succ_le BS4.out) (fun q hq => Nat.le_of_succ_le (World.ownsRow.lt Q4.out q hq).1))
          have RX4 : Hid (Blk y4 w.heap.size #[.int .i64 xf, .int .i64 xa, .int .i64 xb] 31) := hide (by have q := RZ.out.below A4.out RZ.out.lt; unfold Blk at *; rw [hgr.block _ (lt_of_block q) (fun e => by have := (World.ownsRow.lt Q4.out _ e.symm).1; omega)]; exact q)
          have OO4 := hide hown
          clear hown hgr HV4 TB4 BS4
          have e1 : Hid ((out ++ [(⟨sf, sa, sb⟩ : Sp)]).length = (i + 1) + Bool.toNat true) := hide (by rw [List.length_append, HKL.out, HK.out]; rfl)
          have e2 : Hid (out ++ [(⟨sf, sa, sb⟩ : Sp)] ++ rpE true ⟨xf, xa, xb⟩ (l.drop (i + 1)) = R) := hide (by rw [List.append_assoc]; exact RS.out)
          have e3 : Hid (k + 1 = (i + 1) + Bool.toNat true) := hide (by rw [HK.out]; rfl)
          have e4 : i + 1 ≤ n := hlt
          clear HK HKL RS
          go_wp2
          exact ⟨⟨i + 1, true, uo4, k + 1, uc4, e4, rfl, rfl, by go_num, hide ⟨⟨_, e1.out, OO4.out, e2.out, RX4.out, BB4.out⟩⟩, e3⟩, by simp [intOf]; omega⟩
        | false =>
          have AH := hide (fun X => rAhead_any ⟨xf, xa, xb⟩ ⟨sf, sa, sb⟩ X)
          go_wp2_with fail
          cases hc : ahdB ⟨xf, xa, xb⟩ ⟨sf, sa, sb⟩
          rotate_left 1
          · have LK5 := hide (LK5.out (by first | rfl | trivial) hlt)
            rw [hc] at AH
            have hah := hide hc
            clear hc
            refine wp_region_held_drew (S := fun X => Below wr.heap.size wr X) (by kernel_rfl) ?_ (fun hHeld => ?_)
            · exact (Below.refl _ _).drew
            refine wpAnyH_take (i := 0) (oi := Oper.mk (some 15) _ _ _ _ _) (v := .bool false) rfl (by kernel_rfl) (by kernel_rfl) (by kernel_rfl) (fun _ _ _ h => h) (Or.inl ⟨by rfl, ?_⟩) (by assumption) ?_
            · intro wX hSw
              (try dsimp only at hSw)
              go_simp
            simp only [Act.put, List.setIfInBounds_toArray, List.set_cons_succ, List.set_cons_zero]
            refine wpAnyH_take (i := 1) (oi := Oper.mk (some 16) _ _ _ _ _) (v := .bool true) rfl (by kernel_rfl) (by kernel_rfl) (by kernel_rfl) (fun _ _ _ h => h) (Or.inl ⟨by rfl, ?_⟩) (by assumption) ?_
            · intro wX hSw
              (try dsimp only at hSw)
              go_simp
            simp only [Act.put, List.setIfInBounds_toArray, List.set_cons_succ, List.set_cons_zero]
            refine wpAnyH_take (i := 2) (oi := Oper.mk (some 17) _ _ _ _ _) (v := .bool true) rfl (by kernel_rfl) (by kernel_rfl) (by kernel_rfl) (fun _ _ _ h => h) (Or.inl ⟨by rfl, ?_⟩) (by assumption) ?_
            · intro wX hSw
              (try dsimp only at hSw)
              go_simp
            simp only [Act.put, List.setIfInBounds_toArray, List.set_cons_succ, List.set_cons_zero]
            refine wpAnyH_take (i := 3) (oi := Oper.mk (some 18) _ _ _ _ _) (v := .agg #[.int .i64 xf, .int .i64 xa, .int .i64 xb]) rfl (by kernel_rfl) (by kernel_rfl) (by kernel_rfl) (fun _ _ _ h => h) (Or.inl ⟨by rfl, ?_⟩) (by assumption) ?_
            · intro wX hSw
              (try dsimp only at hSw)
              have q0 : wX.cell? ⟨w.heap.size, 0, none⟩ = some (.int .i64 xf) := (RX.out.below hSw RX.out.lt).cell 0; have q1 : wX.cell? ⟨w.heap.size, 1, none⟩ = some (.int .i64 xa) := (RX.out.below hSw RX.out.lt).cell 1; have q2 : wX.cell? ⟨w.heap.size, 2, none⟩ = some (.int .i64 xb) := (RX.out.below hSw RX.out.lt).cell 2
              go_simp
            simp only [Act.put, List.setIfInBounds_toArray, List.set_cons_succ, List.set_cons_zero]
            refine wpAnyH_take (i := 4) (oi := Oper.mk (some 19) _ _ _ _ _) (v := .slice (some ⟨b, o, none⟩) n cap) rfl (by kernel_rfl) (by kernel_rfl) (by kernel_rfl) (fun _ _ _ h => h) (Or.inl ⟨by rfl, ?_⟩) (by assumption) ?_
            · intro wX hSw
              (try dsimp only at hSw)
              go_simp
            simp only [Act.put, List.setIfInBounds_toArray, List.set_cons_succ, List.set_cons_zero]
            refine wpAnyH_take (i := 5) (oi := Oper.mk (some 20) _ _ _ _ _) (v := .int .i64 (i : Int)) rfl (by kernel_rfl) (by kernel_rfl) (by kernel_rfl) (fun _ _ _ h => h) (Or.inl ⟨by rfl, ?_⟩) (by assumption) ?_
            · intro wX hSw
              (try dsimp only at hSw)
              go_simp
            simp only [Act.put, List.setIfInBounds_toArray, List.set_cons_succ, List.set_cons_zero]
            refine wpAnyH_take (i := 6) (oi := Oper.mk (some 21) _ _ _ _ _) (v := .pointer (some ⟨b, o + i * 3, none⟩)) rfl (by kernel_rfl) (by kernel_rfl) (by kernel_rfl) (fun _ _ _ h => h) (Or.inl ⟨by rfl, ?_⟩) (by assumption) ?_
            · intro wX hSw
              (try dsimp only at hSw)
              go_simp
            simp only [Act.put, List.setIfInBounds_toArray, List.set_cons_succ, List.set_cons_zero]
            refine wpAnyH_take (i := 7) (oi := Oper.mk (some 22) _ _ _ _ _) (v := .agg #[.int .i64 sf, .int .i64 sa, .int .i64 sb]) rfl (by kernel_rfl) (by kernel_rfl) (by kernel_rfl) (fun _ _ _ h => h) (Or.inl ⟨by rfl, ?_⟩) (by assumption) ?_
            · intro wX hSw
              (try dsimp only at hSw)
              have q0 := (hSw.cell (p := ⟨b, o + i * 3, none⟩) hbw).trans c0; have q1 := (hSw.cell (p := ⟨b, o + i * 3 + 1, none⟩) hbw).trans c1; have q2 := (hSw.cell (p := ⟨b, o + i * 3 + 2, none⟩) hbw).trans c2
              go_simp
            simp only [Act.put, List.setIfInBounds_toArray, List.set_cons_succ, List.set_cons_zero]
            refine wpAnyH_ready (rs := [8]) (by kernel_rfl) (by simp) ?_
            refine AllReadyH.cons (o := Oper.mk (some 23) _ _ _ _ _) rfl (fun K hK => ?_) AllReadyH.nil
            go_simp
            refine (AH.out _).mono ?_
            rintro e wz ⟨rfl, b1⟩
            refine hK.out _ _ ?_ (fun hHeld => ?_)
            · exact hHeld.trans (b1.mono hHeld.size)
            clear hK K
            refine wpAnyH_take (i := 9) (oi := Oper.mk (some 24) _ _ _ _ _) (v := .bool true) rfl (by kernel_rfl) (by kernel_rfl) (by kernel_rfl) (fun _ _ _ h => h) (Or.inl ⟨by rfl, ?_⟩) (by assumption) ?_
            · intro wX hSw
              (try dsimp only at hSw)
              go_simp
            simp only [Act.put, List.setIfInBounds_toArray, List.set_cons_succ, List.set_cons_zero]
            refine wpAnyH_done (by kernel_rfl) ?_ _
            have Z := hide hHeld
            clear hHeld AH
            have BZ := hide (BB.out.trans (Z.out.mono BB.out.size))
            have RZ := hide (RX.out.below Z.out RX.out.lt)
            have OZ := hide (ownF_below OO.out Z.out)
            have z0 : wz.cell? ⟨b, o + i * 3, none⟩ = some (.int .i64 sf) := (Z.out.cell (p := ⟨b, o + i * 3, none⟩) hbw).trans c0
            have z1 : wz.cell? ⟨b, o + i * 3 + 1, none⟩ = some (.int .i64 sa) := (Z.out.cell (p := ⟨b, o + i * 3 + 1, none⟩) hbw).trans c1
            have z2 : wz.cell? ⟨b, o + i * 3 + 2, none⟩ = some (.int .i64 sb) := (Z.out.cell (p := ⟨b, o + i * 3 + 2, none⟩) hbw).trans c2
            clear c0 c1 c2 BB RX OO
            have v0 : wz.cell? ⟨w.heap.size, 0, none⟩ = some (.int .i64 xf) := RZ.out.cell 0
            have v1 : wz.cell? ⟨w.heap.size, 1, none⟩ = some (.int .i64 xa) := RZ.out.cell 1
            have v2 : wz.cell? ⟨w.heap.size, 2, none⟩ = some (.int .i64 xb) := RZ.out.cell 2
            obtain ⟨V4, hV4⟩ : ∃ V4, V4 = wz.alloc (.cells #[.int .i64 xf, .int .i64 xa, .int .i64 xb] 31) := ⟨_, rfl⟩
            have A4 := hide (show Below wz.heap.size wz V4 by rw [hV4]; exact (Below.refl _ _).alloc (Nat.le_refl _) _)
            have TB4 : Hid (Blk V4 wz.heap.size #[.int .i64 xf, .int .i64 xa, .int .i64 xb] 31) := hide (by rw [hV4]; exact Blk.newAt _ _ rfl _ _)
            have Q4 := hide (ownF_below OZ.out A4.out)
            have BS4 := hide (show w.heap.size + 1 ≤ V4.heap.size by have := A4.out.size; have := RZ.out.lt; omega)
            have HV4 := hide hV4.symm
            clear hV4
            go_wp2_with (first | simp only [HV4.out] | simp only [HV5.out] | (at_builtin; refine wpSp_appendN rfl _ _ rfl (w.heap.size + 1) (.slice uo k uc) out (k) HKL.out rfl Q4.out wz.heap.size ⟨xf, xa, xb⟩ rfl TB4.out LK.out BS4.out ?_; intro uo4 uc4 y4 hown hgr; (have BB4 := hide ((BZ.out.trans (A4.out.mono BZ.out.size)).grown hgr (Nat.le_of_succ_le BS4.out) (fun q hq => Nat.le_of_succ_le (World.ownsRow.lt Q4.out q hq).1))); (have RX4 : Hid (Blk y4 w.heap.size #[.int .i64 xf, .int .i64 xa, .int .i64 xb] 31) := hide (by have q := RZ.out.below A4.out RZ.out.lt; unfold Blk at *; rw [hgr.block _ (lt_of_block q) (fun e => by have := (World.ownsRow.lt Q4.out _ e.symm).1; omega)]; exact q)); (have OO4 := hide hown); (clear hown hgr); (have HKL5 : Hid ((out ++ [(⟨xf, xa, xb⟩ : Sp)]).length = k + 1) := hide (by rw [List.length_append, HKL.out]; rfl)); (have y0 := (HC.out y4 BB4.out).1); (have y1 := (HC.out y4 BB4.out).2.1); (have y2 := (HC.out y4 BB4.out).2.2); (obtain ⟨V5, hV5⟩ : ∃ V5, V5 = y4.alloc (.cells #[.int .i64 sf, .int .i64 sa, .int .i64 sb] 31) := ⟨_, rfl⟩); (have A5 := hide (show Below y4.heap.size y4 V5 by rw [hV5]; exact (Below.refl _ _).alloc (Nat.le_refl _) _)); (have TB5 : Hid (Blk V5 y4.heap.size #[.int .i64 sf, .int .i64 sa, .int .i64 sb] 31) := hide (by rw [hV5]; exact Blk.newAt _ _ rfl _ _)); (have Q5 := hide (ownF_below OO4.out A5.out)); (have BS5 := hide (show w.heap.size + 1 ≤ V5.heap.size by have := A5.out.size; have := RX4.out.lt; omega)); (have HV5 := hide hV5.symm); (clear hV5)) | (at_builtin; refine wpSp_appendN rfl _ _ rfl (w.heap.size + 1) (.slice uo4 (k + 1) uc4) (out ++ [(⟨xf, xa, xb⟩ : Sp)]) ((k + 1)) HKL5.out rfl Q5.out y4.heap.size ⟨sf, sa, sb⟩ rfl TB5.out LK5.out BS5.out ?_; intro uo5 uc5 y5 hown hgr))
            have BB5 := hide ((BB4.out.trans (A5.out.mono BB4.out.size)).grown hgr (Nat.le_of_succ_le BS5.out) (fun q hq => Nat.le_of_succ_le (World.ownsRow.lt Q5.out q hq).1))
            have RX5 : Hid (Blk y5 w.heap.size #[.int .i64 xf, .int .i64 xa, .int .i64 xb] 31) := hide (by have q := RX4.out.below A5.out RX4.out.lt; unfold Blk at *; rw [hgr.block _ (lt_of_block q) (fun e => by have := (World.ownsRow.lt Q5.out _ e.symm).1; omega)]; exact q)
            have OO5 := hide hown
            clear hown hgr HV5 TB5 BS5
            have e1 : Hid ((((out ++ [(⟨xf, xa, xb⟩ : Sp)]) ++ [(⟨sf, sa, sb⟩ : Sp)])).length = (i + 1) + Bool.toNat true) := hide (by rw [List.length_append, HKL5.out, HK.out]; rfl)
            have e2 : Hid (((out ++ [(⟨xf, xa, xb⟩ : Sp)]) ++ [(⟨sf, sa, sb⟩ : Sp)]) ++ rpE true ⟨xf, xa, xb⟩ (l.drop (i + 1)) = R) := hide (by rw [List.append_assoc, List.append_assoc]; have q := RS.out; unfold rpE at q ⊢; simp only [Bool.false_eq_true, if_false, if_true] at q ⊢; unfold rputL at q; rw [if_pos hah.out] at q; exact q)
            have e3 : Hid (k + 1 + 1 = (i + 1) + Bool.toNat true) := hide (by rw [HK.out]; rfl)
            have e4 : i + 1 ≤ n := hlt
            clear HK HKL RS
            go_wp2
            exact ⟨⟨i + 1, true, uo5, k + 1 + 1, uc5, e4, rfl, rfl, by go_num, hide ⟨⟨_, e1.out, OO5.out, e2.out, RX5.out, BB5.out⟩⟩, e3⟩, by simp [intOf]; omega⟩
          · have LK5 := hide (LK5.out (by first | rfl | trivial) hlt)
            rw [hc] at AH
            have hah := hide hc
            clear hc
            refine wp_region_held_drew (S := fun X => Below wr.heap.size wr X) (by kernel_rfl) ?_ (fun hHeld => ?_)
            · exact (Below.refl _ _).drew
            refine wpAnyH_take (i := 0) (oi := Oper.mk (some 15) _ _ _ _ _) (v := .bool false) rfl (by kernel_rfl) (by kernel_rfl) (by kernel_rfl) (fun _ _ _ h => h) (Or.inl ⟨by rfl, ?_⟩) (by assumption) ?_
            · intro wX hSw
              (try dsimp only at hSw)
              go_simp
            simp only [Act.put, List.setIfInBounds_toArray, List.set_cons_succ, List.set_cons_zero]
            refine wpAnyH_take (i := 1) (oi := Oper.mk (some 16) _ _ _ _ _) (v := .bool true) rfl (by kernel_rfl) (by kernel_rfl) (by kernel_rfl) (fun _ _ _ h => h) (Or.inl ⟨by rfl, ?_⟩) (by assumption) ?_
            · intro wX hSw
              (try dsimp only at hSw)
              go_simp
            simp only [Act.put, List.setIfInBounds_toArray, List.set_cons_succ, List.set_cons_zero]
            refine wpAnyH_take (i := 2) (oi := Oper.mk (some 17) _ _ _ _ _) (v := .bool true) rfl (by kernel_rfl) (by kernel_rfl) (by kernel_rfl) (fun _ _ _ h => h) (Or.inl ⟨by rfl, ?_⟩) (by assumption) ?_
            · intro wX hSw
              (try dsimp only at hSw)
              go_simp
            simp only [Act.put, List.setIfInBounds_toArray, List.set_cons_succ, List.set_cons_zero]
            refine wpAnyH_take (i := 3) (oi := Oper.mk (some 18) _ _ _ _ _) (v := .agg #[.int .i64 xf, .int .i64 xa, .int .i64 xb]) rfl (by kernel_rfl) (by kernel_rfl) (by kernel_rfl) (fun _ _ _ h => h) (Or.inl ⟨by rfl, ?_⟩) (by assumption) ?_
            · intro wX hSw
              (try dsimp only at hSw)
              have q0 : wX.cell? ⟨w.heap.size, 0, none⟩ = some (.int .i64 xf) := (RX.out.below hSw RX.out.lt).cell 0; have q1 : wX.cell? ⟨w.heap.size, 1, none⟩ = some (.int .i64 xa) := (RX.out.below hSw RX.out.lt).cell 1; have q2 : wX.cell? ⟨w.heap.size, 2, none⟩ = some (.int .i64 xb) := (RX.out.below hSw RX.out.lt).cell 2
              go_simp
            simp only [Act.put, List.setIfInBounds_toArray, List.set_cons_succ, List.set_cons_zero]
            refine wpAnyH_take (i := 4) (oi := Oper.mk (some 19) _ _ _ _ _) (v := .slice (some ⟨b, o, none⟩) n cap) rfl (by kernel_rfl) (by kernel_rfl) (by kernel_rfl) (fun _ _ _ h => h) (Or.inl ⟨by rfl, ?_⟩) (by assumption) ?_
            · intro wX hSw
              (try dsimp only at hSw)
              go_simp
            simp only [Act.put, List.setIfInBounds_toArray, List.set_cons_succ, List.set_cons_zero]
            refine wpAnyH_take (i := 5) (oi := Oper.mk (some 20) _ _ _ _ _) (v := .int .i64 (i : Int)) rfl (by kernel_rfl) (by kernel_rfl) (by kernel_rfl) (fun _ _ _ h => h) (Or.inl ⟨by rfl, ?_⟩) (by assumption) ?_
            · intro wX hSw
              (try dsimp only at hSw)
              go_simp
            simp only [Act.put, List.setIfInBounds_toArray, List.set_cons_succ, List.set_cons_zero]
            refine wpAnyH_take (i := 6) (oi := Oper.mk (some 21) _ _ _ _ _) (v := .pointer (some ⟨b, o + i * 3, none⟩)) rfl (by kernel_rfl) (by kernel_rfl) (by kernel_rfl) (fun _ _ _ h => h) (Or.inl ⟨by rfl, ?_⟩) (by assumption) ?_
            · intro wX hSw
              (try dsimp only at hSw)
              go_simp
            simp only [Act.put, List.setIfInBounds_toArray, List.set_cons_succ, List.set_cons_zero]
            refine wpAnyH_take (i := 7) (oi := Oper.mk (some 22) _ _ _ _ _) (v := .agg #[.int .i64 sf, .int .i64 sa, .int .i64 sb]) rfl (by kernel_rfl) (by kernel_rfl) (by kernel_rfl) (fun _ _ _ h => h) (Or.inl ⟨by rfl, ?_⟩) (by assumption) ?_
            · intro wX hSw
              (try dsimp only at hSw)
              have q0 := (hSw.cell (p := ⟨b, o + i * 3, none⟩) hbw).trans c0; have q1 := (hSw.cell (p := ⟨b, o + i * 3 + 1, none⟩) hbw).trans c1; have q2 := (hSw.cell (p := ⟨b, o + i * 3 + 2, none⟩) hbw).trans c2
              go_simp
            simp only [Act.put, List.setIfInBounds_toArray, List.set_cons_succ, List.set_cons_zero]
            refine wpAnyH_ready (rs := [8]) (by kernel_rfl) (by simp) ?_
            refine AllReadyH.cons (o := Oper.mk (some 23) _ _ _ _ _) rfl (fun K hK => ?_) AllReadyH.nil
            go_simp
            refine (AH.out _).mono ?_
            rintro e wz ⟨rfl, b1⟩
            refine hK.out _ _ ?_ (fun hHeld => ?_)
            · exact hHeld.trans (b1.mono hHeld.size)
            clear hK K
            refine wpAnyH_take (i := 9) (oi := Oper.mk (some 24) _ _ _ _ _) (v := .bool false) rfl (by kernel_rfl) (by kernel_rfl) (by kernel_rfl) (fun _ _ _ h => h) (Or.inl ⟨by rfl, ?_⟩) (by assumption) ?_
            · intro wX hSw
              (try dsimp only at hSw)
              go_simp
            simp only [Act.put, List.setIfInBounds_toArray, List.set_cons_succ, List.set_cons_zero]
            refine wpAnyH_done (by kernel_rfl) ?_ _
            have Z := hide hHeld
            clear hHeld AH
            have BZ := hide (BB.out.trans (Z.out.mono BB.out.size))
            have RZ := hide (RX.out.below Z.out RX.out.lt)
            have OZ := hide (ownF_below OO.out Z.out)
            have z0 : wz.cell? ⟨b, o + i * 3, none⟩ = some (.int .i64 sf) := (Z.out.cell (p := ⟨b, o + i * 3, none⟩) hbw).trans c0
            have z1 : wz.cell? ⟨b, o + i * 3 + 1, none⟩ = some (.int .i64 sa) := (Z.out.cell (p := ⟨b, o + i * 3 + 1, none⟩) hbw).trans c1
            have z2 : wz.cell? ⟨b, o + i * 3 + 2, none⟩ = some (.int .i64 sb) := (Z.out.cell (p := ⟨b, o + i * 3 + 2, none⟩) hbw).trans c2
            clear c0 c1 c2 BB RX OO
            obtain ⟨V4, hV4⟩ : ∃ V4, V4 = wz.alloc (.cells #[.int .i64 sf, .int .i64 sa, .int .i64 sb] 31) := ⟨_, rfl⟩
            have A4 := hide (show Below wz.heap.size wz V4 by rw [hV4]; exact (Below.refl _ _).alloc (Nat.le_refl _) _)
            have TB4 : Hid (Blk V4 wz.heap.size #[.int .i64 sf, .int .i64 sa, .int .i64 sb] 31) := hide (by rw [hV4]; exact Blk.newAt _ _ rfl _ _)
            have Q4 := hide (ownF_below OZ.out A4.out)
            have BS4 := hide (show w.heap.size + 1 ≤ V4.heap.size by have := A4.out.size; have := RZ.out.lt; omega)
            have HV4 := hide hV4.symm
            clear hV4
            go_wp2_with (first | simp only [HV4.out] | (at_builtin; refine wpSp_appendN rfl _ _ rfl (w.heap.size + 1) (.slice uo k uc) out (k) HKL.out rfl Q4.out wz.heap.size ⟨sf, sa, sb⟩ rfl TB4.out LK.out BS4.out ?_; intro uo4 uc4 y4 hown hgr))
            have BB4 := hide ((BZ.out.trans (A4.out.mono BZ.out.size)).grown hgr (Nat.le_of_succ_le BS4.out) (fun q hq => Nat.le_of_succ_le (World.ownsRow.lt Q4.out q hq).1))
            have RX4 : Hid (Blk y4 w.heap.size #[.int .i64 xf, .int .i64 xa, .int .i64 xb] 31) := hide (by have q := RZ.out.below A4.out RZ.out.lt; unfold Blk at *; rw [hgr.block _ (lt_of_block q) (fun e => by have := (World.ownsRow.lt Q4.out _ e.symm).1; omega)]; exact q)
            have OO4 := hide hown
            clear hown hgr HV4 TB4 BS4
            have e1 : Hid ((out ++ [(⟨sf, sa, sb⟩ : Sp)]).length = (i + 1) + Bool.toNat false) := hide (by rw [List.length_append, HKL.out, HK.out]; rfl)
            have e2 : Hid (out ++ [(⟨sf, sa, sb⟩ : Sp)] ++ rpE false ⟨xf, xa, xb⟩ (l.drop (i + 1)) = R) := hide (by rw [List.append_assoc]; have q := RS.out; unfold rpE at q ⊢; simp only [Bool.false_eq_true, if_false] at q ⊢; unfold rputL at q; rw [if_neg (by rw [hah.out]; decide)] at q; exact q)
            have e3 : Hid (k + 1 = (i + 1) + Bool.toNat false) := hide (by rw [HK.out]; rfl)
            have e4 : i + 1 ≤ n := hlt
            clear HK HKL RS
            go_wp2
            exact ⟨⟨i + 1, false, uo4, k + 1, uc4, e4, rfl, rfl, by go_num, hide ⟨⟨_, e1.out, OO4.out, e2.out, RX4.out, BB4.out⟩⟩, e3⟩, by simp [intOf]; omega⟩
    · obtain rfl : i = n := by omega
      have hlt' : ¬ (i : Int) < (i : Int) := by omega
      have ED : l.drop i = [] := List.drop_eq_nil_of_le (by rw [← HN.out]; exact Nat.le_refl _)
      have RS := hide RR.out
      rw [ED] at RS
      clear RR ED
      cases d with
      | true =>
        obtain rfl : k = i + 1 := HK.out
        have EO : out = R := by have q := RS.out; unfold rpE at q; simp only [if_true, List.append_nil] at q; exact q
        subst EO
        go_wp2
        go_ret
        exact ⟨hide ⟨uo, uc, rfl, ownF_mono OO.out (Nat.le_succ _)⟩, BB.out⟩
      | false =>
        obtain rfl : k = i := HK.out
        have v0 : wr.cell? ⟨w.heap.size, 0, none⟩ = some (.int .i64 xf) := RX.out.cell 0
        have v1 : wr.cell? ⟨w.heap.size, 1, none⟩ = some (.int .i64 xa) := RX.out.cell 1
        have v2 : wr.cell? ⟨w.heap.size, 2, none⟩ = some (.int .i64 xb) := RX.out.cell 2
        obtain ⟨V4, hV4⟩ : ∃ V4, V4 = wr.alloc (.cells #[.int .i64 xf, .int .i64 xa, .int .i64 xb] 31) := ⟨_, rfl⟩
        have A4 := hide (show Below wr.heap.size wr V4 by rw [hV4]; exact (Below.refl _ _).alloc (Nat.le_refl _) _)
        have TB4 : Hid (Blk V4 wr.heap.size #[.int .i64 xf, .int .i64 xa, .int .i64 xb] 31) := hide (by rw [hV4]; exact Blk.newAt _ _ rfl _ _)
        have Q4 := hide (ownF_below OO.out A4.out)
        have BS4 := hide (show w.heap.size + 1 ≤ V4.heap.size by have := A4.out.size; have := RX.out.lt; omega)
        have HV4 := hide hV4.symm
        clear hV4
        go_wp2_with (first | simp only [HV4.out] | (at_builtin; refine wpSp_appendN rfl _ _ rfl (w.heap.size + 1) (.slice uo k uc) out (k) HKL.out rfl Q4.out wr.heap.size ⟨xf, xa, xb⟩ rfl TB4.out LK.out BS4.out ?_; intro uo4 uc4 y4 hown hgr))
        have BB4 := hide ((BB.out.trans (A4.out.mono BB.out.size)).grown hgr (Nat.le_of_succ_le BS4.out) (fun q hq => Nat.le_of_succ_le (World.ownsRow.lt Q4.out q hq).1))
        have RX4 : Hid (Blk y4 w.heap.size #[.int .i64 xf, .int .i64 xa, .int .i64 xb] 31) := hide (by have q := RX.out.below A4.out RX.out.lt; unfold Blk at *; rw [hgr.block _ (lt_of_block q) (fun e => by have := (World.ownsRow.lt Q4.out _ e.symm).1; omega)]; exact q)
        have OO4 := hide hown
        clear hown hgr HV4 TB4 BS4
        have EO : out ++ [⟨xf, xa, xb⟩] = R := by have q := RS.out; unfold rpE at q; simp only [Bool.false_eq_true, if_false] at q; unfold rputL at q; exact q
        subst EO
        go_wp2
        go_ret
        exact ⟨hide ⟨uo4, uc4, rfl, ownF_mono OO4.out (Nat.le_succ _)⟩, BB4.out⟩

end Go.Proofs.YtkgapklhgkngnaaDoor

namespace Go.Proofs.YtkgapklhgkngnaaDoor
open Go.RowKit

end Go.Proofs.YtkgapklhgkngnaaDoor

namespace Go.Proofs.YtkgapklhgkngnaaDoor
open Go.RowKit

end Go.Proofs.YtkgapklhgkngnaaDoor
