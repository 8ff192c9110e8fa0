/-
  The walk of NatKeeps.
-/
import Derived.Test.YtpiloigpncbccaaKCalls
import Derived.Test.YtpiloigpncbccaaKHelp
import Derived.Test.YtpiloigpncbccaaAwake
namespace Go.Proofs.Ytpiloigpncbccaa
open Go.RowKit

theorem Try.infoS : (Try.prog.info? 22).map (fun i => (i.zero, i.size, i.bytes)) = some (some (.slice none 0 0), 1, 24) := by kernel_rfl

theorem wf_i64 {n : Int} (h : (Lit.int .i64 n).wf = true) : -9223372036854775808 ≤ n ∧ n ≤ 9223372036854775807 := by
  simp [Lit.wf, IntKind.min, IntKind.max, IntKind.signed, IntKind.bits] at h
  omega

theorem news_of {w : World} {b o : Nat} {xs : List Nat} (h : At .u64 w (some ⟨b, o, none⟩) xs) (ob : Obj) : ∀ (j : Nat) (u : Value), (vals .u64 xs)[j]? = some u → (w.alloc ob).cell? ((⟨b, o, none⟩ : Addr).add j) = some u := by
  intro j u hj
  have hjl : j < xs.length := by
    rcases Nat.lt_or_ge j xs.length with h | h
    · exact h
    · rw [List.getElem?_eq_none (by simpa [vals] using h)] at hj; cases hj
  have e : (⟨b, o, none⟩ : Addr).add j = ⟨b, o + j, none⟩ := by
    unfold Addr.add; split
    · next h => subst h; rfl
    · rfl
  rcases h with h | ⟨b', o', h1, h2, h3⟩
  · rw [h] at hjl; simp at hjl
  · simp only [Option.some.injEq, Addr.mk.injEq] at h1
    obtain ⟨rfl, rfl, _⟩ := h1
    rw [e, World.cell?_of_block (w := w) (Below.heap_alloc _ _ _ h2), h3 j hjl, ← hj]
    simp [vals, hjl]

theorem mark_at {w : World} {g la : Nat} {xs : List Nat} (h : At .u64 w (some ⟨g, 0, none⟩) (xs ++ [77])) (hx : xs.length = la) : At .u64 w (some ⟨g, 0, none⟩) xs := by
  have h1 := h.take la
  rwa [List.take_left' hx] at h1

set_option maxRecDepth 100000 in
set_option maxHeartbeats 4000000 in
theorem keeps_walk (w : World) (oa : Option Addr) (la ca : Nat) (xa : List Nat) (hla : la ≤ ca) (hca : ca ≤ 1048576) (hxa : xa.length = la) (ata : At .u64 w oa xa) (oka : Ok B64 xa) (ob : Option Addr) (lb cb : Nat) (xb : List Nat) (hlb : lb ≤ cb) (hcb : cb ≤ 1048576) (hxb : xb.length = lb) (atb : At .u64 w ob xb) (okb : Ok B64 xb) (nc : Int) (wfc : (Lit.int .i64 nc).wf = true) :
    Calls Try.prog 3 #[.slice oa la ca, .slice ob lb cb, .int .i64 nc] w fun e w' => e = .returned (.bool true) ∧ Below w.heap.size w w' := by
  have hn := hide (wf_i64 wfc)
  clear wfc
  go_enter Try.func3, Try.ntmps3
  have hbw := hide (Below.refl w.heap.size w)
  have ATA := hide ata
  have ATB := hide atb
  have ATA0 := hide ata
  have ATB0 := hide atb
  clear ata atb
  go_wp2_with fail
  refine (own_any oa la ca xa _ (by omega) hxa ATA.out).mono ?_
  rintro e w1 ⟨gx, kx, rfl, hkx, hkx', hgx, hgx', hat, hb⟩
  have Mx : Hid (At .u64 w1 (some ⟨gx, 0, none⟩) (xa ++ [77])) := hat
  have HB := hide hb
  clear hat hb
  replace ATA : Hid (At .u64 w1 oa xa) := ATA.out.below HB.out
  replace ATB : Hid (At .u64 w1 ob xb) := ATB.out.below HB.out
  replace hbw := hide (hbw.out.trans (HB.out.mono hbw.out.size))
  have szw1 := HB.out.size
  clear HB
  go_wp2_with fail
  refine (own_any ob lb cb xb _ (by omega) hxb ATB.out).mono ?_
  rintro e w2 ⟨gy, ky, rfl, hky, hky', hgy, hgy', hat, hb⟩
  have My : Hid (At .u64 w2 (some ⟨gy, 0, none⟩) (xb ++ [77])) := hat
  have HB := hide hb
  clear hat hb
  replace ATA : Hid (At .u64 w2 oa xa) := ATA.out.below HB.out
  replace ATB : Hid (At .u64 w2 ob xb) := ATB.out.below HB.out
  replace Mx : Hid (At .u64 w2 (some ⟨gx, 0, none⟩) (xa ++ [77])) := Mx.out.below HB.out
  replace hbw := hide (hbw.out.trans (HB.out.mono hbw.out.size))
  have szw2 := HB.out.size
  clear HB
  go_wp2_with fail
  refine (keep_div (some ⟨gx, 0, none⟩) (some ⟨gy, 0, none⟩) la kx lb ky xa xb _ (by omega) (by omega) hxa (mark_at Mx.out hxa) oka (by omega) (by omega) hxb (mark_at My.out hxb) okb).mono ?_
  rintro e w3 ⟨_, _, errw3, rfl, ⟨oq, cq, xq, rfl, Lq, HB⟩, ⟨or, cr, xr, rfl, Lr, _⟩, QR⟩
  replace ATA : Hid (At .u64 w3 oa xa) := ATA.out.below HB.out
  replace ATB : Hid (At .u64 w3 ob xb) := ATB.out.below HB.out
  replace Mx : Hid (At .u64 w3 (some ⟨gx, 0, none⟩) (xa ++ [77])) := Mx.out.below HB.out
  replace My : Hid (At .u64 w3 (some ⟨gy, 0, none⟩) (xb ++ [77])) := My.out.below HB.out
  replace hbw := hide (hbw.out.trans (HB.out.mono hbw.out.size))
  have szw3 := HB.out.size
  clear HB
  go_wp2_with fail
  refine (keep_sub (some ⟨gx, 0, none⟩) (some ⟨gy, 0, none⟩) la kx lb ky xa xb _ (by omega) (by omega) hxa (mark_at Mx.out hxa) oka (by omega) (by omega) hxb (mark_at My.out hxb) okb).mono ?_
  rintro e w4 ⟨_, errw4, rfl, ⟨od, cd, xd, rfl, Ld, HB⟩⟩
  replace ATA : Hid (At .u64 w4 oa xa) := ATA.out.below HB.out
  replace ATB : Hid (At .u64 w4 ob xb) := ATB.out.below HB.out
  replace Mx : Hid (At .u64 w4 (some ⟨gx, 0, none⟩) (xa ++ [77])) := Mx.out.below HB.out
  replace My : Hid (At .u64 w4 (some ⟨gy, 0, none⟩) (xb ++ [77])) := My.out.below HB.out
  replace Lq := hide (Lq.out.below HB.out)
  replace Lr := hide (Lr.out.below HB.out)
  replace hbw := hide (hbw.out.trans (HB.out.mono hbw.out.size))
  have szw4 := HB.out.size
  clear HB
  go_wp2_with fail
  refine (keep_shl (some ⟨gx, 0, none⟩) la kx xa _ (by omega) (by omega) hxa (mark_at Mx.out hxa) oka nc hn.out).mono ?_
  rintro e w5 ⟨_, errw5, rfl, ⟨os, cs, xs, rfl, Ls, HB⟩⟩
  replace ATA : Hid (At .u64 w5 oa xa) := ATA.out.below HB.out
  replace ATB : Hid (At .u64 w5 ob xb) := ATB.out.below HB.out
  replace Mx : Hid (At .u64 w5 (some ⟨gx, 0, none⟩) (xa ++ [77])) := Mx.out.below HB.out
  replace My : Hid (At .u64 w5 (some ⟨gy, 0, none⟩) (xb ++ [77])) := My.out.below HB.out
  replace Lq := hide (Lq.out.below HB.out)
  replace Lr := hide (Lr.out.below HB.out)
  replace Ld := hide (Ld.out.below HB.out)
  replace hbw := hide (hbw.out.trans (HB.out.mono hbw.out.size))
  have szw5 := HB.out.size
  clear HB
  go_wp2_with fail
  refine (keep_shr (some ⟨gx, 0, none⟩) la kx xa _ (by omega) (by omega) hxa (mark_at Mx.out hxa) oka nc hn.out).mono ?_
  rintro e w6 ⟨_, errw6, rfl, ⟨ot, ct, xt, rfl, Lt, HB⟩⟩
  replace ATA : Hid (At .u64 w6 oa xa) := ATA.out.below HB.out
  replace ATB : Hid (At .u64 w6 ob xb) := ATB.out.below HB.out
  replace Mx : Hid (At .u64 w6 (some ⟨gx, 0, none⟩) (xa ++ [77])) := Mx.out.below HB.out
  replace My : Hid (At .u64 w6 (some ⟨gy, 0, none⟩) (xb ++ [77])) := My.out.below HB.out
  replace Lq := hide (Lq.out.below HB.out)
  replace Lr := hide (Lr.out.below HB.out)
  replace Ld := hide (Ld.out.below HB.out)
  replace Ls := hide (Ls.out.below HB.out)
  replace hbw := hide (hbw.out.trans (HB.out.mono hbw.out.size))
  have szw6 := HB.out.size
  clear HB
  go_wp2_with fail
  refine (keep_norm (some ⟨gx, 0, none⟩) la kx xa _ (by omega) (by omega) hxa (mark_at Mx.out hxa) oka).mono ?_
  rintro e w7 ⟨_, rfl, ⟨om, cm, xm, rfl, Lm, HB⟩⟩
  replace ATA : Hid (At .u64 w7 oa xa) := ATA.out.below HB.out
  replace ATB : Hid (At .u64 w7 ob xb) := ATB.out.below HB.out
  replace Mx : Hid (At .u64 w7 (some ⟨gx, 0, none⟩) (xa ++ [77])) := Mx.out.below HB.out
  replace My : Hid (At .u64 w7 (some ⟨gy, 0, none⟩) (xb ++ [77])) := My.out.below HB.out
  replace Lq := hide (Lq.out.below HB.out)
  replace Lr := hide (Lr.out.below HB.out)
  replace Ld := hide (Ld.out.below HB.out)
  replace Ls := hide (Ls.out.below HB.out)
  replace Lt := hide (Lt.out.below HB.out)
  replace hbw := hide (hbw.out.trans (HB.out.mono hbw.out.size))
  have szw7 := HB.out.size
  clear HB
  go_wp2_with fail
  refine (keep_add (some ⟨gx, 0, none⟩) (some ⟨gy, 0, none⟩) la kx lb ky xa xb _ (by omega) (by omega) hxa (mark_at Mx.out hxa) oka (by omega) (by omega) hxb (mark_at My.out hxb) okb).mono ?_
  rintro e w8 ⟨_, rfl, ⟨oe, ce, xe, rfl, Le, HB⟩⟩
  replace ATA : Hid (At .u64 w8 oa xa) := ATA.out.below HB.out
  replace ATB : Hid (At .u64 w8 ob xb) := ATB.out.below HB.out
  replace Mx : Hid (At .u64 w8 (some ⟨gx, 0, none⟩) (xa ++ [77])) := Mx.out.below HB.out
  replace My : Hid (At .u64 w8 (some ⟨gy, 0, none⟩) (xb ++ [77])) := My.out.below HB.out
  replace Lq := hide (Lq.out.below HB.out)
  replace Lr := hide (Lr.out.below HB.out)
  replace Ld := hide (Ld.out.below HB.out)
  replace Ls := hide (Ls.out.below HB.out)
  replace Lt := hide (Lt.out.below HB.out)
  replace Lm := hide (Lm.out.below HB.out)
  replace hbw := hide (hbw.out.trans (HB.out.mono hbw.out.size))
  have szw8 := HB.out.size
  clear HB
  go_wp2_with fail
  refine (keep_mul (some ⟨gx, 0, none⟩) (some ⟨gy, 0, none⟩) la kx lb ky xa xb _ (by omega) (by omega) hxa (mark_at Mx.out hxa) oka (by omega) (by omega) hxb (mark_at My.out hxb) okb).mono ?_
  rintro e w9 ⟨_, rfl, ⟨op, cp, xp, rfl, Lp, HB⟩⟩
  replace ATA : Hid (At .u64 w9 oa xa) := ATA.out.below HB.out
  replace ATB : Hid (At .u64 w9 ob xb) := ATB.out.below HB.out
  replace Mx : Hid (At .u64 w9 (some ⟨gx, 0, none⟩) (xa ++ [77])) := Mx.out.below HB.out
  replace My : Hid (At .u64 w9 (some ⟨gy, 0, none⟩) (xb ++ [77])) := My.out.below HB.out
  replace Lq := hide (Lq.out.below HB.out)
  replace Lr := hide (Lr.out.below HB.out)
  replace Ld := hide (Ld.out.below HB.out)
  replace Ls := hide (Ls.out.below HB.out)
  replace Lt := hide (Lt.out.below HB.out)
  replace Lm := hide (Lm.out.below HB.out)
  replace Le := hide (Le.out.below HB.out)
  replace hbw := hide (hbw.out.trans (HB.out.mono hbw.out.size))
  have szw9 := HB.out.size
  clear HB
  go_wp2
  obtain ⟨fv, hfv⟩ : ∃ fv : Nat → Value, fv = fun k => ([Value.slice om xm.length cm, Value.slice oe xe.length ce, Value.slice od xd.length cd, Value.slice op xp.length cp, Value.slice oq xq.length cq, Value.slice or xr.length cr, Value.slice os xs.length cs, Value.slice ot xt.length ct] : List Value)[k]?.getD undef := ⟨_, rfl⟩
  obtain ⟨fx, hfx⟩ : ∃ fx : Nat → List Nat, fx = fun k => ([xm, xe, xd, xp, xq, xr, xs, xt] : List (List Nat))[k]?.getD [] := ⟨_, rfl⟩
  have hbl : Below w9.heap.size w9 (w9.alloc (Obj.cells #[Value.slice om xm.length cm, Value.slice oe xe.length ce, Value.slice od xd.length cd, Value.slice op xp.length cp, Value.slice oq xq.length cq, Value.slice or xr.length cr, Value.slice os xs.length cs, Value.slice ot xt.length ct] 22)) := (Below.refl _ _).alloc (Nat.le_refl _) _
  have st1 : ∀ k, k < 8 → (w9.alloc (Obj.cells #[Value.slice om xm.length cm, Value.slice oe xe.length ce, Value.slice od xd.length cd, Value.slice op xp.length cp, Value.slice oq xq.length cq, Value.slice or xr.length cr, Value.slice os xs.length cs, Value.slice ot xt.length ct] 22)).cell? ⟨w9.heap.size, k, none⟩ = some (fv k) := by
    intro k hk
    rcases (show k = 0 ∨ k = 1 ∨ k = 2 ∨ k = 3 ∨ k = 4 ∨ k = 5 ∨ k = 6 ∨ k = 7 by omega) with rfl | rfl | rfl | rfl | rfl | rfl | rfl | rfl <;> exact cell_new _ _ _ _ _ (by rw [hfv]; rfl)
  have st2 : ∀ k, k < 8 → Own .u64 33 (w9.alloc (Obj.cells #[Value.slice om xm.length cm, Value.slice oe xe.length ce, Value.slice od xd.length cd, Value.slice op xp.length cp, Value.slice oq xq.length cq, Value.slice or xr.length cr, Value.slice os xs.length cs, Value.slice ot xt.length ct] 22)) w2.heap.size 30000000 (fv k) (fx k) ∧ ∀ g, (fv k).ownBlock = some g → w2.heap.size ≤ g ∧ g < w9.heap.size := by
    intro k hk
    rcases (show k = 0 ∨ k = 1 ∨ k = 2 ∨ k = 3 ∨ k = 4 ∨ k = 5 ∨ k = 6 ∨ k = 7 by omega) with rfl | rfl | rfl | rfl | rfl | rfl | rfl | rfl
    · rw [hfv, hfx]
      exact ⟨((Lm.out.below hbl).own).mono (by omega) (Nat.le_refl _), fun g hg => by have := Lm.out.top g hg; omega⟩
    · rw [hfv, hfx]
      exact ⟨((Le.out.below hbl).own).mono (by omega) (Nat.le_refl _), fun g hg => by have := Le.out.top g hg; omega⟩
    · rw [hfv, hfx]
      exact ⟨((Ld.out.below hbl).own).mono (by omega) (Nat.le_refl _), fun g hg => by have := Ld.out.top g hg; omega⟩
    · rw [hfv, hfx]
      exact ⟨((Lp.out.below hbl).own).mono (by omega) (Nat.le_refl _), fun g hg => by have := Lp.out.top g hg; omega⟩
    · rw [hfv, hfx]
      exact ⟨((Lq.out.below hbl).own).mono (by omega) (Nat.le_refl _), fun g hg => by have := Lq.out.top g hg; omega⟩
    · rw [hfv, hfx]
      exact ⟨((Lr.out.below hbl).own).mono (by omega) (Nat.le_refl _), fun g hg => by have := Lr.out.top g hg; omega⟩
    · rw [hfv, hfx]
      exact ⟨((Ls.out.below hbl).own).mono (by omega) (Nat.le_refl _), fun g hg => by have := Ls.out.top g hg; omega⟩
    · rw [hfv, hfx]
      exact ⟨((Lt.out.below hbl).own).mono (by omega) (Nat.le_refl _), fun g hg => by have := Lt.out.top g hg; omega⟩
  have st3 : ∀ j, j < 8 → ∀ k, k < 8 → j ≠ k → ∀ g, (fv j).ownBlock = some g → (fv k).ownBlock ≠ some g := by
    intro j hj k hk hjk g h1 h2
    rw [hfv] at h1 h2
    rcases (show j = 0 ∨ j = 1 ∨ j = 2 ∨ j = 3 ∨ j = 4 ∨ j = 5 ∨ j = 6 ∨ j = 7 by omega) with rfl | rfl | rfl | rfl | rfl | rfl | rfl | rfl
    · rcases (show k = 0 ∨ k = 1 ∨ k = 2 ∨ k = 3 ∨ k = 4 ∨ k = 5 ∨ k = 6 ∨ k = 7 by omega) with rfl | rfl | rfl | rfl | rfl | rfl | rfl | rfl
      · exact hjk rfl
      · have := Lm.out.top g h1; have := Le.out.top g h2; omega
      · have := Lm.out.top g h1; have := Ld.out.top g h2; omega
      · have := Lm.out.top g h1; have := Lp.out.top g h2; omega
      · have := Lm.out.top g h1; have := Lq.out.top g h2; omega
      · have := Lm.out.top g h1; have := Lr.out.top g h2; omega
      · have := Lm.out.top g h1; have := Ls.out.top g h2; omega
      · have := Lm.out.top g h1; have := Lt.out.top g h2; omega
    · rcases (show k = 0 ∨ k = 1 ∨ k = 2 ∨ k = 3 ∨ k = 4 ∨ k = 5 ∨ k = 6 ∨ k = 7 by omega) with rfl | rfl | rfl | rfl | rfl | rfl | rfl | rfl
      · have := Le.out.top g h1; have := Lm.out.top g h2; omega
      · exact hjk rfl
      · have := Le.out.top g h1; have := Ld.out.top g h2; omega
      · have := Le.out.top g h1; have := Lp.out.top g h2; omega
      · have := Le.out.top g h1; have := Lq.out.top g h2; omega
      · have := Le.out.top g h1; have := Lr.out.top g h2; omega
      · have := Le.out.top g h1; have := Ls.out.top g h2; omega
      · have := Le.out.top g h1; have := Lt.out.top g h2; omega
    · rcases (show k = 0 ∨ k = 1 ∨ k = 2 ∨ k = 3 ∨ k = 4 ∨ k = 5 ∨ k = 6 ∨ k = 7 by omega) with rfl | rfl | rfl | rfl | rfl | rfl | rfl | rfl
      · have := Ld.out.top g h1; have := Lm.out.top g h2; omega
      · have := Ld.out.top g h1; have := Le.out.top g h2; omega
      · exact hjk rfl
      · have := Ld.out.top g h1; have := Lp.out.top g h2; omega
      · have := Ld.out.top g h1; have := Lq.out.top g h2; omega
      · have := Ld.out.top g h1; have := Lr.out.top g h2; omega
      · have := Ld.out.top g h1; have := Ls.out.top g h2; omega
      · have := Ld.out.top g h1; have := Lt.out.top g h2; omega
    · rcases (show k = 0 ∨ k = 1 ∨ k = 2 ∨ k = 3 ∨ k = 4 ∨ k = 5 ∨ k = 6 ∨ k = 7 by omega) with rfl | rfl | rfl | rfl | rfl | rfl | rfl | rfl
      · have := Lp.out.top g h1; have := Lm.out.top g h2; omega
      · have := Lp.out.top g h1; have := Le.out.top g h2; omega
      · have := Lp.out.top g h1; have := Ld.out.top g h2; omega
      · exact hjk rfl
      · have := Lp.out.top g h1; have := Lq.out.top g h2; omega
      · have := Lp.out.top g h1; have := Lr.out.top g h2; omega
      · have := Lp.out.top g h1; have := Ls.out.top g h2; omega
      · have := Lp.out.top g h1; have := Lt.out.top g h2; omega
    · rcases (show k = 0 ∨ k = 1 ∨ k = 2 ∨ k = 3 ∨ k = 4 ∨ k = 5 ∨ k = 6 ∨ k = 7 by omega) with rfl | rfl | rfl | rfl | rfl | rfl | rfl | rfl
      · have := Lq.out.top g h1; have := Lm.out.top g h2; omega
      · have := Lq.out.top g h1; have := Le.out.top g h2; omega
      · have := Lq.out.top g h1; have := Ld.out.top g h2; omega
      · have := Lq.out.top g h1; have := Lp.out.top g h2; omega
      · exact hjk rfl
      · rcases QR.out with h | h
        · rw [show (Value.slice oq xq.length cq).ownBlock = some g from h1] at h; cases h
        · exact h ((show (Value.slice oq xq.length cq).ownBlock = some g from h1).trans (show (Value.slice or xr.length cr).ownBlock = some g from h2).symm)
      · have := Lq.out.top g h1; have := Ls.out.top g h2; omega
      · have := Lq.out.top g h1; have := Lt.out.top g h2; omega
    · rcases (show k = 0 ∨ k = 1 ∨ k = 2 ∨ k = 3 ∨ k = 4 ∨ k = 5 ∨ k = 6 ∨ k = 7 by omega) with rfl | rfl | rfl | rfl | rfl | rfl | rfl | rfl
      · have := Lr.out.top g h1; have := Lm.out.top g h2; omega
      · have := Lr.out.top g h1; have := Le.out.top g h2; omega
      · have := Lr.out.top g h1; have := Ld.out.top g h2; omega
      · have := Lr.out.top g h1; have := Lp.out.top g h2; omega
      · rcases QR.out with h | h
        · rw [show (Value.slice oq xq.length cq).ownBlock = some g from h2] at h; cases h
        · exact h ((show (Value.slice oq xq.length cq).ownBlock = some g from h2).trans (show (Value.slice or xr.length cr).ownBlock = some g from h1).symm)
      · exact hjk rfl
      · have := Lr.out.top g h1; have := Ls.out.top g h2; omega
      · have := Lr.out.top g h1; have := Lt.out.top g h2; omega
    · rcases (show k = 0 ∨ k = 1 ∨ k = 2 ∨ k = 3 ∨ k = 4 ∨ k = 5 ∨ k = 6 ∨ k = 7 by omega) with rfl | rfl | rfl | rfl | rfl | rfl | rfl | rfl
      · have := Ls.out.top g h1; have := Lm.out.top g h2; omega
      · have := Ls.out.top g h1; have := Le.out.top g h2; omega
      · have := Ls.out.top g h1; have := Ld.out.top g h2; omega
      · have := Ls.out.top g h1; have := Lp.out.top g h2; omega
      · have := Ls.out.top g h1; have := Lq.out.top g h2; omega
      · have := Ls.out.top g h1; have := Lr.out.top g h2; omega
      · exact hjk rfl
      · have := Ls.out.top g h1; have := Lt.out.top g h2; omega
    · rcases (show k = 0 ∨ k = 1 ∨ k = 2 ∨ k = 3 ∨ k = 4 ∨ k = 5 ∨ k = 6 ∨ k = 7 by omega) with rfl | rfl | rfl | rfl | rfl | rfl | rfl | rfl
      · have := Lt.out.top g h1; have := Lm.out.top g h2; omega
      · have := Lt.out.top g h1; have := Le.out.top g h2; omega
      · have := Lt.out.top g h1; have := Ld.out.top g h2; omega
      · have := Lt.out.top g h1; have := Lp.out.top g h2; omega
      · have := Lt.out.top g h1; have := Lq.out.top g h2; omega
      · have := Lt.out.top g h1; have := Lr.out.top g h2; omega
      · have := Lt.out.top g h1; have := Ls.out.top g h2; omega
      · exact hjk rfl
  have ST1 := hide st1
  have ST2 := hide st2
  have ST3 := hide st3
  replace ATA := hide (ATA.out.below hbl)
  replace ATB := hide (ATB.out.below hbl)
  replace Mx := hide (Mx.out.below hbl)
  replace My := hide (My.out.below hbl)
  replace hbw := hide (hbw.out.trans (hbl.mono hbw.out.size))
  have hsb : (w9.alloc (Obj.cells #[Value.slice om xm.length cm, Value.slice oe xe.length ce, Value.slice od xd.length cd, Value.slice op xp.length cp, Value.slice oq xq.length cq, Value.slice or xr.length cr, Value.slice os xs.length cs, Value.slice ot xt.length ct] 22)).heap.size = w9.heap.size + 1 := by simp
  generalize (w9.alloc (Obj.cells #[Value.slice om xm.length cm, Value.slice oe xe.length ce, Value.slice od xd.length cd, Value.slice op xp.length cp, Value.slice oq xq.length cq, Value.slice or xr.length cr, Value.slice os xs.length cs, Value.slice ot xt.length ct] 22)) = Wb at *
  obtain ⟨G, eG⟩ : ∃ G, G = w9.heap.size := ⟨_, rfl⟩
  obtain ⟨B2, eB⟩ : ∃ B, B = w2.heap.size := ⟨_, rfl⟩
  rw [← eG] at hsb ST1 ST2
  rw [← eB] at ST2
  have hB : w.heap.size ≤ B2 ∧ gx < B2 ∧ gy < B2 ∧ B2 ≤ G := by omega
  simp only [← eG]
  clear st1 st2 st3 hfv hfx hbl eG eB QR Lm Le Ld Lp Lq Lr Ls Lt szw1 szw2 szw3 szw4 szw5 szw6 szw7 szw8 szw9
  have hst : Was Wb fx 0 (.slice (some ⟨G + 1, 0, none⟩) 0 0) [] (Wb.alloc (Obj.cells #[] 22)) := by
    rw [← hsb]
    exact ⟨(Below.refl _ _).alloc (Nat.le_refl _) _, World.ownsRow_lit _ #[] 0 (Nat.le_refl _) (by unfold maxLen; omega) rfl, fun k hk => by omega⟩
  have HST := hide hst
  clear hst
  obtain ⟨iU, hiU, hu0, hu1, hu2⟩ := info_parts Try.infoU
  obtain ⟨iS, hiS, hs0, hs1, hs2⟩ := info_parts Try.infoS
  go_loopw [19, 20] (fun u iv wr => ∃ (i : Nat) (us : List Value), i ≤ 8 ∧ iv = .int .i64 (i : Int) ∧ Was Wb fx i u us wr) (fun _ iv _ => 8 - (intOf iv).toNat)
  case atStart => exact ⟨0, [], Nat.zero_le _, rfl, HST.out⟩
  case round =>
    clear HST
    obtain ⟨i, us, hi8, rfl, hw⟩ := hrel
    have hG : G < Wb.heap.size := by omega
    by_cases hlt : i < 8
    · have hcell : wr.cell? ⟨G, i, none⟩ = some (fv i) := (hw.bel.cell hG).trans (ST1.out i hlt)
      have hi8' : (i : Int) < 8 := by omega
      have HW := hide hw
      have hszr := hw.bel.size
      have hrow := hw.row
      clear hw
      have ho := (ST2.out i hlt).1
      by_cases hx0 : fx i = []
      · obtain ⟨ao, cp, hv, hsrc⟩ : ∃ ao cp, fv i = .slice ao 0 cp ∧ ∀ W, Src Try.prog iU.size 22 (.slice ao 0 cp) 0 [] W := by
          rcases ho with ⟨h1, _⟩ | ⟨g, full, h1, _⟩
          · exact ⟨none, 0, h1, fun W => Src.ofNil W Try.underlying22 0⟩
          · rw [hx0] at h1; exact ⟨_, _, h1, fun W => Src.ofSlice W Try.underlying22 _ 0 _ [] (by simp) (fun j u hj => by simp at hj) (fun u hu => by simp at hu)⟩
        rw [hv] at hcell
        clear ho hv
        rcases ao with _ | a
        · have ka := run_append_nothing (P := Try.prog) (wr.alloc (Obj.cells #[] 33)) 22 22 22 33 iU Try.underlying22 hiU (some ⟨wr.heap.size, 0, none⟩) 0 0 (Nat.le_refl _) (.slice none 0 cp) (hsrc _)
          have hcl : (wr.alloc (Obj.cells #[] 33)).cell? ⟨G, i, none⟩ = some (.slice none 0 cp) := by rw [World.cell?_of_block (w := wr) (Below.heap_alloc _ _ _ (Nat.lt_of_lt_of_le hG hszr))]; exact hcell
          clear hsrc hcell
          have hrw := hrow.alloc (Obj.cells #[] 33)
          go_wp2_with (at_builtin; refine wpList_append_lies _ rfl _ _ 31 rfl Wb.heap.size 22 iS (.slice none 0 0) 1 24 Try.underlying31 hiS hs0 hs1 hs2 rfl (by decide) _ _ _ rfl (hrw.alloc _) ⟨wr.heap.size + 1, 0, none⟩ 1 1 [Value.slice (some ⟨wr.heap.size, 0, none⟩) 0 0] rfl rfl ?c1 ?c2 (by omega) ?c3 ?c4 ?c5 (wr.heap.size + 1 + 1) (by simp) ?_)
          try case c1 => exact fun j u hj => by have h := new_cell (wr.alloc (Obj.cells #[] 33)) (Value.slice (some ⟨wr.heap.size, 0, none⟩) 0 0) 22 j u hj; simpa using h
          try case c2 => exact fun u hu => by simp at hu; subst hu; rfl
          try case c3 => unfold maxLen; omega
          try case c4 => omega
          try case c5 => first | (simp; omega) | omega
          intro g2 cap2 w2' hown2 hgrow2 hlies2 _
          have hst := HW.out.step (w1 := (wr.alloc (Obj.cells #[] 33))) (w2 := w2') (g := g2) (cap := cap2) (co := 0) (bo := (some ⟨wr.heap.size, 0, none⟩)) ((Below.refl _ _).alloc (Nat.le_refl _) _) (by rw [hx0]; exact Nat.le_refl _) (by rw [hx0]; exact At.nil _ _ _) (fun b f hx _ => absurd hx0 hx) (Obj.cells #[Value.slice (some ⟨wr.heap.size, 0, none⟩) 0 0] 22) hgrow2 (by rw [hx0, hsb]; exact hown2) (by simpa using hlies2)
          have HS2 := hide hst
          clear hst hrw hown2 hgrow2 hlies2
          clear ka hcl hrow
          go_wp2
          go_roundw
          case rel => exact ⟨i + 1, _, by omega, by go_num, HS2.out⟩
          case measure => simp [intOf]; omega
        · have ka := run_append_nothing (P := Try.prog) (wr.alloc (Obj.cells #[] 33)) 22 22 22 33 iU Try.underlying22 hiU (some ⟨wr.heap.size, 0, none⟩) 0 0 (Nat.le_refl _) (.slice (some a) 0 cp) (hsrc _)
          have hcl : (wr.alloc (Obj.cells #[] 33)).cell? ⟨G, i, none⟩ = some (.slice (some a) 0 cp) := by rw [World.cell?_of_block (w := wr) (Below.heap_alloc _ _ _ (Nat.lt_of_lt_of_le hG hszr))]; exact hcell
          clear hsrc hcell
          have hrw := hrow.alloc (Obj.cells #[] 33)
          go_wp2_with (at_builtin; refine wpList_append_lies _ rfl _ _ 31 rfl Wb.heap.size 22 iS (.slice none 0 0) 1 24 Try.underlying31 hiS hs0 hs1 hs2 rfl (by decide) _ _ _ rfl (hrw.alloc _) ⟨wr.heap.size + 1, 0, none⟩ 1 1 [Value.slice (some ⟨wr.heap.size, 0, none⟩) 0 0] rfl rfl ?c1 ?c2 (by omega) ?c3 ?c4 ?c5 (wr.heap.size + 1 + 1) (by simp) ?_)
          try case c1 => exact fun j u hj => by have h := new_cell (wr.alloc (Obj.cells #[] 33)) (Value.slice (some ⟨wr.heap.size, 0, none⟩) 0 0) 22 j u hj; simpa using h
          try case c2 => exact fun u hu => by simp at hu; subst hu; rfl
          try case c3 => unfold maxLen; omega
          try case c4 => omega
          try case c5 => first | (simp; omega) | omega
          intro g2 cap2 w2' hown2 hgrow2 hlies2 _
          have hst := HW.out.step (w1 := (wr.alloc (Obj.cells #[] 33))) (w2 := w2') (g := g2) (cap := cap2) (co := 0) (bo := (some ⟨wr.heap.size, 0, none⟩)) ((Below.refl _ _).alloc (Nat.le_refl _) _) (by rw [hx0]; exact Nat.le_refl _) (by rw [hx0]; exact At.nil _ _ _) (fun b f hx _ => absurd hx0 hx) (Obj.cells #[Value.slice (some ⟨wr.heap.size, 0, none⟩) 0 0] 22) hgrow2 (by rw [hx0, hsb]; exact hown2) (by simpa using hlies2)
          have HS2 := hide hst
          clear hst hrw hown2 hgrow2 hlies2
          clear ka hcl hrow
          go_wp2
          go_roundw
          case rel => exact ⟨i + 1, _, by omega, by go_num, HS2.out⟩
          case measure => simp [intOf]; omega
      · obtain ⟨g, full, hv, hgB, hrf, hft, hfm⟩ : ∃ g full, fv i = .slice (some ⟨g, 0, none⟩) (fx i).length (List.length full) ∧ B2 ≤ g ∧ Row .u64 33 Wb g full ∧ fx i = full.take (fx i).length ∧ full.length ≤ 30000000 := by
          rcases ho with ⟨_, h1⟩ | h1
          · exact absurd h1 hx0
          · exact h1
        have hat0 : At .u64 Wb (some ⟨g, 0, none⟩) (fx i) := by rw [hft]; exact At.of_row hrf _
        have hat1 := hat0.below HW.out.bel
        have hlen : (fx i).length ≤ 30000000 := by have : (fx i).length = (full.take (fx i).length).length := congrArg List.length hft; simp at this; omega
        have hpos : 0 < (fx i).length := List.length_pos_iff.2 hx0
        rw [hv] at hcell
        obtain ⟨n, hn'⟩ : ∃ n, n = (fx i).length := ⟨_, rfl⟩
        have NEWS := hide (news_of hat1 (Obj.cells #[] 33))
        have VL : Hid ((vals .u64 (fx i)).length = n * 1) := by show _ = _; rw [hn']; simp [vals]
        obtain ⟨yv, hyv⟩ : ∃ yv, yv = vals .u64 (fx i) := ⟨_, rfl⟩
        have ON := hide (vals_cells (fx i))
        rw [← hyv] at NEWS VL ON
        rw [← hn'] at hcell hlen hpos
        have HY := hide hyv
        have HN := hide hn'
        have hcl : (wr.alloc (Obj.cells #[] 33)).cell? ⟨G, i, none⟩ = some (.slice (some ⟨g, 0, none⟩) n full.length) := by rw [World.cell?_of_block (w := wr) (Below.heap_alloc _ _ _ (Nat.lt_of_lt_of_le hG hszr))]; exact hcell
        have hl0 : (wr.alloc (Obj.cells #[] 33)).ownsRow wr.heap.size 33 1 (.slice (some ⟨wr.heap.size, 0, none⟩) 0 0) 0 [] := World.ownsRow_lit _ #[] 0 (Nat.le_refl _) (by unfold maxLen; omega) rfl
        clear ho hv hcell hat0 hat1 hrf hft hn' hyv
        go_wp2_with (at_builtin; refine wpList_append_lies _ rfl _ _ 22 rfl wr.heap.size 33 iU (.int .u64 0) 1 8 Try.underlying22 hiU hu0 hu1 hu2 rfl (by decide) _ _ _ rfl hl0 ⟨g, 0, none⟩ n full.length yv rfl VL.out NEWS.out ON.out hpos ?d3 ?d4 ?d5 (wr.heap.size + 1) (by simp) ?_)
        try case d3 => unfold maxLen; omega
        try case d4 => omega
        try case d5 => first | (simp; done) | (simp; omega) | omega
        intro g1 cap1 w1' hown1 hgrow1 hlies1 hlt1
        have hb1 : Below wr.heap.size wr w1' := ((Below.refl _ _).alloc (Nat.le_refl _) (Obj.cells #[] 33)).grown hgrow1 (by simp) (fun k hk => by simp [Value.ownBlock] at hk; omega)
        have hgw : Grw wr w1' (.slice (some ⟨g1, 0, none⟩) (0 + n) cap1) (fx i) := ⟨hb1, by rw [← HN.out, ← HY.out]; simpa using hown1⟩
        have hc1 := hgw.cap
        obtain ⟨ao', cp', e1, _, hatc⟩ := hgw.at
        simp only [Value.slice.injEq] at e1
        rw [← e1.1] at hatc
        have HB1 := hide hb1
        have HAT := hide hatc
        have hrow1 : w1'.ownsRow Wb.heap.size 22 1 u19 i us := row_below hrow hb1
        have hsz1 := hb1.size
        rw [Nat.zero_add] at hc1
        try rw [Nat.zero_add]
        clear hown1 hgrow1 hlies1 hgw hatc hb1 e1 NEWS ON VL hl0 hcl hrow HY
        have hrw := hrow1
        go_wp2_with (at_builtin; refine wpList_append_lies _ rfl _ _ 31 rfl Wb.heap.size 22 iS (.slice none 0 0) 1 24 Try.underlying31 hiS hs0 hs1 hs2 rfl (by decide) _ _ _ rfl (hrw.alloc _) ⟨w1'.heap.size, 0, none⟩ 1 1 [Value.slice (some ⟨g1, 0, none⟩) n cap1] rfl rfl ?c1 ?c2 (by omega) ?c3 ?c4 ?c5 (w1'.heap.size + 1) (by simp) ?_)
        try case c1 => exact fun j u hj => by have h := new_cell w1' (Value.slice (some ⟨g1, 0, none⟩) n cap1) 22 j u hj; simpa using h
        try case c2 => exact fun u hu => by simp at hu; subst hu; rfl
        try case c3 => unfold maxLen; omega
        try case c4 => omega
        try case c5 => first | (simp; omega) | omega
        intro g2 cap2 w2' hown2 hgrow2 hlies2 _
        have hst := HW.out.step (w1 := w1') (w2 := w2') (g := g2) (cap := cap2) (co := cap1) (bo := (some ⟨g1, 0, none⟩)) HB1.out (by rw [← HN.out]; exact hc1.1) HAT.out (fun b f _ e => by simp only [Option.some.injEq, Addr.mk.injEq] at e; have := hc1.2.2.1; omega) (Obj.cells #[Value.slice (some ⟨g1, 0, none⟩) n cap1] 22) hgrow2 (by rw [← HN.out, hsb]; exact hown2) (by simpa using hlies2)
        have HS2 := hide hst
        clear hst hrw hown2 hgrow2 hlies2
        clear hrow1 HAT HB1 hc1
        go_wp2
        go_roundw
        case rel => exact ⟨i + 1, _, by omega, by go_num, HS2.out⟩
        case measure => simp [intOf]; omega
    · obtain rfl : i = 8 := by omega
      have hnl : ¬ ((8 : Nat) : Int) < 8 := by omega
      obtain ⟨wq, hwq⟩ : ∃ x, x = wr := ⟨_, rfl⟩
      subst hwq
      obtain ⟨gw, cw, rfl, hgw1, hgw2, hcw, hwc⟩ := hw.cells (by omega)
      have CL : Hid (∀ k, k < 8 → wq.cell? ⟨G, k, none⟩ = some (fv k)) := fun k hk => (hw.bel.cell hG).trans (ST1.out k hk)
      have CW : Hid (∀ k, k < 8 → ∃ bo co, wq.cell? ⟨gw, k, none⟩ = some (.slice bo (fx k).length co) ∧ At .u64 wq bo (fx k) ∧ ∀ b f, fx k ≠ [] → bo = some ⟨b, f, none⟩ → Wb.heap.size ≤ b) := by
        intro k hk
        obtain ⟨bo, co, h1, _, h2, h3⟩ := hw.each k hk
        exact ⟨bo, co, (hwc k hk).trans h1, h2, fun b f hx e => (h3 b f hx e).1⟩
      have OW : Hid (∀ k, k < 8 → Own .u64 33 wq B2 30000000 (fv k) (fx k)) := fun k hk => (ST2.out k hk).1.below hw.bel
      have TP : Hid (∀ k, k < 8 → ∀ g, (fv k).ownBlock = some g → B2 ≤ g ∧ g < G) := fun k hk => (ST2.out k hk).2
      replace ATA := hide (ATA.out.below hw.bel)
      replace ATB := hide (ATB.out.below hw.bel)
      replace Mx := hide (Mx.out.below hw.bel)
      replace My := hide (My.out.below hw.bel)
      have hbq := hide (hbw.out.trans (hw.bel.mono hbw.out.size))
      have hszq := hw.bel.size
      obtain ⟨bad, hbad⟩ : ∃ bad : Nat → Nat → Prop, bad = fun i b => ∃ j, j < i ∧ (fv j).ownBlock = some b := ⟨_, rfl⟩
      have hlow : ∀ i, i ≤ 8 → ∀ b, bad i b → B2 ≤ b ∧ b < G := by
        intro i hi b hb
        rw [hbad] at hb
        obtain ⟨j, hj, h⟩ := hb
        exact TP.out j (by omega) b h
      have hown' : ∀ i, i < 8 → ∀ k, i ≤ k → k < 8 → ∀ b, (fv k).ownBlock = some b → ¬ bad i b := by
        intro i hi k hik hk b hb h
        rw [hbad] at h
        obtain ⟨j, hj, h1⟩ := h
        exact ST3.out j (by omega) k hk (by omega) b h1 hb
      have hnext : ∀ i b, bad i b → bad (i + 1) b := by
        intro i b h
        rw [hbad] at h ⊢
        obtain ⟨j, hj, h1⟩ := h
        exact ⟨j, by omega, h1⟩
      have hself : ∀ i b, (fv i).ownBlock = some b → bad (i + 1) b := by
        intro i b h
        rw [hbad]
        exact ⟨i, by omega, h⟩
      have LOW := hide hlow
      have OWN' := hide hown'
      have NXT := hide hnext
      have SLF := hide hself
      clear hw hwc hlow hown' hnext hself hbad ST1 ST2 ST3 hbw hi8
      go_wp2
      go_loopw [21, 22, 23, 24] (fun iv _ _ _ wr => ∃ i : Nat, i ≤ 8 ∧ iv = .int .i64 (i : Int) ∧ Bar (bad i) wq wr) (fun iv _ _ _ _ => 8 - (intOf iv).toNat)
      case atStart => exact ⟨0, Nat.zero_le _, rfl, Bar.refl _ _⟩
      case round =>
        obtain ⟨i, hi8, rfl, hbar⟩ := hrel
        by_cases hlt : i < 8
        · have hi' : (i : Int) < 8 := by omega
          have HBAR := hide hbar
          clear hbar
          go_wp2
          go_loopw [22] (fun kv wr' => ∃ k : Nat, k ≤ 8 ∧ kv = .int .i64 (k : Int) ∧ Bar (bad i) wq wr') (fun kv _ => 8 - (intOf kv).toNat)
          case atStart => exact ⟨0, Nat.zero_le _, rfl, HBAR.out⟩
          case round =>
            clear HBAR
            obtain ⟨k, hk8, rfl, hbar⟩ := hrel
            by_cases hkt : k < 8
            · have hk' : (k : Int) < 8 := by omega
              have hk0 : (0 : Int) ≤ (k : Int) := by omega
              by_cases hki : i ≤ k
              · have hki' : (i : Int) ≤ (k : Int) := by omega
                obtain ⟨ak, ck, hvk, hlek, _, hatk⟩ := (OW.out k hkt).shape
                obtain ⟨bo, co, hcw', hatw, hbb⟩ := CW.out k hkt
                have cl : wr.cell? ⟨G, k, none⟩ = some (.slice ak (fx k).length ck) := by rw [← hvk]; exact (hbar.cell (by omega) (fun h => by have := LOW.out i (by omega) G h; omega)).trans (CL.out k hkt)
                have cwk : wr.cell? ⟨gw, k, none⟩ = some (.slice bo (fx k).length co) := (hbar.cell (by omega) (fun h => by have := LOW.out i (by omega) gw h; omega)).trans hcw'
                have sa : Hid (At .u64 wr ak (fx k)) := hatk.bar hbar (fun b f hx e h => OWN'.out i hlt k hki hkt b (own_block (OW.out k hkt) hvk hx e) h)
                have sb : Hid (At .u64 wr bo (fx k)) := hatw.bar hbar (fun b f hx e h => by have := LOW.out i (by omega) b h; have := hbb b f hx e; omega)
                have hszw := hbar.size
                have HBAR := hide hbar
                have hfl : (fx k).length ≤ 30000000 := by have := own_len (OW.out k hkt); exact this
                obtain ⟨m, hm⟩ : ∃ m, m = (fx k).length := ⟨_, rfl⟩
                have HM := hide hm
                rw [← hm] at cl cwk hfl
                clear hvk hatk hcw' hatw hbb hbar hm hlek
                go_wp2_with fail
                go_region_held3 (fun w' => w'.cell? ⟨G, k, none⟩ = some (.slice ak m ck) ∧ w'.cell? ⟨gw, k, none⟩ = some (.slice bo m co)) (go_keep) (first | (go_at_call 12; refine (same_any ak bo m ck m co (fx k) (fx k) _ (by omega) HM.out.symm HM.out.symm (sa.out.below (bdrewK wr)) (sb.out.below (bdrewK wr))).mono ?_; rintro e w5 ⟨rfl, hbel⟩; rw [show decide (fx k = fx k) = true from decide_eq_true rfl]; have HB5 := hide (HBAR.out.below ((bdrewK wr).trans hbel)); have d1 := (bdrewK wr).trans hbel; have c1 : w5.cell? ⟨G, k, none⟩ = some (.slice ak m ck) := (d1.cell (show G < wr.heap.size by omega)).trans cl; have c2 : w5.cell? ⟨gw, k, none⟩ = some (.slice bo m co) := (d1.cell (show gw < wr.heap.size by omega)).trans cwk; clear d1 hbel))
                clear cl cwk c1 c2 sa sb
                go_wp2
                go_roundw
                case rel => exact ⟨k + 1, by omega, by go_num, HB5.out⟩
                case measure => simp [intOf]; omega
              · have hki' : (k : Int) < (i : Int) := by omega
                have hkd : decide ((i : Int) ≤ (k : Int)) = false := decide_eq_false (by omega)
                have HB6 := hide (hbar.below (bdrewK wr))
                clear hbar
                go_wp2_with fail
                go_region
                go_wp2
                go_roundw
                case rel => exact ⟨k + 1, by omega, by go_num, HB6.out⟩
                case measure => simp [intOf]; omega
            · obtain rfl : k = 8 := by omega
              have hnk : ¬ ((8 : Nat) : Int) < 8 := by omega
              obtain ⟨wp, hwp⟩ : ∃ x, x = wr := ⟨_, rfl⟩
              subst hwp
              obtain ⟨ai, ci, hvi, hlei, hcm, _⟩ := (OW.out i hlt).shape
              have hfl : (fx i).length ≤ 30000000 := own_len (OW.out i hlt)
              have hG2 : ∀ W : World, Bar (bad (i + 1)) wq W → W.cell? ⟨G, i, none⟩ = some (.slice ai (fx i).length ci) := by
                intro W hb
                rw [← hvi]
                exact (hb.cell (by omega) (fun h => by have := LOW.out (i + 1) (by omega) G h; omega)).trans (CL.out i hlt)
              have hb0 : Bar (bad (i + 1)) wq wp := hbar.mono (NXT.out i)
              have hrow0 := row_kept (OW.out i hlt) hvi hbar (OWN'.out i hlt i (Nat.le_refl _) hlt)
              have hshape : ai = none ∨ ∃ g, ai = some ⟨g, 0, none⟩ := by
                rcases OW.out i hlt with ⟨h1, _⟩ | ⟨g', full, h1, _⟩
                · rw [hvi] at h1; simp only [Value.slice.injEq] at h1; exact .inl h1.1
                · rw [hvi] at h1; simp only [Value.slice.injEq] at h1; exact .inr ⟨g', h1.1⟩
              have hnone : ai = none → (fx i).length = 0 ∧ ci = 0 := by
                intro h
                rcases OW.out i hlt with ⟨h1, h2⟩ | ⟨g', full, h1, _⟩
                · rw [hvi] at h1; simp only [Value.slice.injEq] at h1; exact ⟨h1.2.1, h1.2.2⟩
                · rw [hvi, h] at h1; cases h1
              have hbadg : ∀ g, ai = some ⟨g, 0, none⟩ → bad (i + 1) g ∧ B2 ≤ g := by
                intro g hg
                have h : (fv i).ownBlock = some g := by rw [hvi, hg]; rfl
                exact ⟨SLF.out i g h, (TP.out i hlt g h).1⟩
              obtain ⟨n, hn'⟩ : ∃ n, n = (fx i).length := ⟨_, rfl⟩
              rw [← hn'] at hG2 hlei hfl hnone
              have CG := hide hG2
              have RW0 := hide hrow0
              have SH := hide hshape
              have NO := hide hnone
              have BG := hide hbadg
              have B0 := hide hb0
              have cg0 := hG2 wp hb0
              clear hbar hb0 hrow0 hvi hn' hG2 hshape hnone hbadg
              go_wp2
              go_loopw [23] (fun kv wr' => ∃ k : Nat, k ≤ n ∧ kv = .int .i64 (k : Int) ∧ Bar (bad (i + 1)) wq wr' ∧ ∀ g, ai = some ⟨g, 0, none⟩ → ∃ full, Row .u64 33 wr' g full ∧ full.length = ci) (fun kv _ => n - (intOf kv).toNat)
              case atStart => exact ⟨0, Nat.zero_le _, rfl, B0.out, RW0.out⟩
              case round =>
                clear B0 RW0 cg0
                obtain ⟨k, hkn, rfl, hbar, hrw⟩ := hrel
                have cg := CG.out wr hbar
                by_cases hkt : k < n
                · have hk' : (k : Int) < (n : Int) := by omega
                  obtain ⟨g, rfl⟩ : ∃ g, ai = some ⟨g, 0, none⟩ := by
                    rcases SH.out with h | h
                    · have := (NO.out h).1; omega
                    · exact h
                  obtain ⟨full, hfr, hfc⟩ := hrw g rfl
                  have c0 := hfr.cell k (by omega)
                  have f0 := hfr.free k
                  obtain ⟨d, hd⟩ : ∃ d : Nat, d = 1000 + i := ⟨_, rfl⟩
                  have hd' : 1000 + (i : Int) = (d : Int) := by omega
                  have HS : Hid (Bar (bad (i + 1)) wq (wr.setCell ⟨g, k, none⟩ (.int .u64 (d : Int)))) := hbar.set (fun _ => (BG.out g rfl).1) _
                  have HR : Hid (∀ g', (some ⟨g, 0, none⟩ : Option Addr) = some ⟨g', 0, none⟩ → ∃ full, Row .u64 33 (wr.setCell ⟨g, k, none⟩ (.int .u64 (d : Int))) g' full ∧ full.length = ci) := by
                    intro g' h
                    simp only [Option.some.injEq, Addr.mk.injEq] at h
                    rw [← h.1]
                    exact ⟨_, hfr.set k d, by simpa using hfc⟩
                  have hng : G ≠ g := fun h => by have := LOW.out (i + 1) (by omega) g (BG.out g rfl).1; omega
                  have hng' : g ≠ G := Ne.symm hng
                  clear hbar hrw hfr hfc hd
                  go_wp2
                  go_roundw
                  case rel => exact ⟨k + 1, by omega, by go_num, HS.out, HR.out⟩
                  case measure => simp [intOf]; omega
                · obtain rfl : k = n := by omega
                  have hnk' : ¬ (k : Int) < (k : Int) := by omega
                  have hidx : (k : Int) < ((k + 2 : Nat) : Int) := by omega
                  have hszb := hbar.size
                  rcases SH.out with h | ⟨g, h⟩
                  · subst h
                    obtain ⟨rfl, rfl⟩ := NO.out rfl
                    have hown : wr.ownsRow B2 33 1 (.slice none 0 0) 0 [] := World.ownsRow_nil _ _ _ _
                    have HBAR := hide hbar
                    clear hbar hrw
                    go_wp2_with (at_builtin; refine wpList_append_lies _ rfl _ _ 22 rfl B2 33 iU (.int .u64 0) 1 8 Try.underlying22 hiU hu0 hu1 hu2 rfl (by decide) _ _ _ rfl (hown.alloc _) ⟨wr.heap.size, 0, none⟩ 2 2 [.int .u64 5, .int .u64 (i : Int)] rfl rfl ?e1 ?e2 (by omega) ?e3 ?e4 ?e5 (wr.heap.size + 1) (by simp) ?_)
                    try case e1 => exact new_two wr _ _ _
                    try case e2 => first | exact ⟨rfl, rfl⟩ | exact fun u hu => by simp at hu; rcases hu with rfl | rfl <;> rfl
                    try case e3 => unfold maxLen; omega
                    try case e4 => omega
                    try case e5 => first | (simp; omega) | omega
                    intro g2 cap2 w5 hown2 hgrow2 hlies2 _
                    have hb5 : Bar (bad (i + 1)) wq w5 := HBAR.out.grown _ hgrow2 (fun b hb _ => by simp [Value.ownBlock] at hb)
                    have hce := owns_cell hown2 0 (by omega)
                    have cg5 := CG.out w5 hb5
                    have hc5 : w5.cell? ⟨g2, 0, none⟩ = some (.int .u64 5) := by rw [hce.1]; rfl
                    have hf5 := hce.2
                    have HS : Hid (Bar (bad (i + 1)) wq (w5.setCell ⟨g2, 0, none⟩ (.int .u64 6))) := hb5.set (fun hq => by rcases hlies2 with h | h; simp [Value.ownBlock] at h; omega) _
                    clear hown hown2 hgrow2 hlies2 hb5 hce cg HBAR
                    go_wp2
                    go_roundw
                    case rel => exact ⟨i + 1, by omega, by go_num, HS.out⟩
                    case measure => simp [intOf]; omega
                  · subst h
                    obtain ⟨full, hfr, rfl⟩ := hrw g rfl
                    have hown : wr.ownsRow B2 33 1 (.slice (some ⟨g, 0, none⟩) k full.length) k (vals .u64 (full.take k)) := row_owns hfr hlei (by unfold maxLen; omega) (BG.out g rfl).2
                    clear hfr
                    have HBAR := hide hbar
                    clear hbar hrw
                    go_wp2_with (at_builtin; refine wpList_append_lies _ rfl _ _ 22 rfl B2 33 iU (.int .u64 0) 1 8 Try.underlying22 hiU hu0 hu1 hu2 rfl (by decide) _ _ _ rfl (hown.alloc _) ⟨wr.heap.size, 0, none⟩ 2 2 [.int .u64 5, .int .u64 (i : Int)] rfl rfl ?h1x ?h2x (by omega) ?h3x ?h4x ?h5x (wr.heap.size + 1) (by simp) ?_)
                    try case h1x => exact new_two wr _ _ _
                    try case h2x => first | exact ⟨rfl, rfl⟩ | exact fun u hu => by simp at hu; rcases hu with rfl | rfl <;> rfl
                    try case h3x => unfold maxLen; omega
                    try case h4x => omega
                    try case h5x => first | (simp; omega) | omega
                    intro g2 cap2 w5 hown2 hgrow2 hlies2 _
                    have hb5 : Bar (bad (i + 1)) wq w5 := HBAR.out.grown _ hgrow2 (fun b hb _ => by have hb' : g = b := (by simpa [Value.ownBlock] using hb); rw [← hb']; exact (BG.out g rfl).1)
                    have hce := owns_cell hown2 k (by omega)
                    have cg5 := CG.out w5 hb5
                    have hc5 : w5.cell? ⟨g2, k, none⟩ = some (.int .u64 5) := by rw [hce.1]; rw [List.getElem?_append_right (by simp [vals]; omega)]; simp [vals, Nat.min_eq_left hlei]
                    have hf5 := hce.2
                    have HS : Hid (Bar (bad (i + 1)) wq (w5.setCell ⟨g2, k, none⟩ (.int .u64 6))) := hb5.set (fun hq => by rcases hlies2 with h | h; exact (by have h' : g = g2 := (by simpa [Value.ownBlock] using h); rw [← h']; exact (BG.out g rfl).1); omega) _
                    clear hown hown2 hgrow2 hlies2 hb5 hce cg HBAR
                    go_wp2
                    go_roundw
                    case rel => exact ⟨i + 1, by omega, by go_num, HS.out⟩
                    case measure => simp [intOf]; omega
        · obtain rfl : i = 8 := by omega
          have hni : ¬ ((8 : Nat) : Int) < 8 := by omega
          have hfin : Below w.heap.size w wr := ⟨hbar.os.trans hbq.out.os, hbar.tape.trans hbq.out.tape, hbar.output.trans hbq.out.output, Nat.le_trans hbq.out.size hbar.size, fun b hb => (hbar.block b (Nat.lt_of_lt_of_le hb hbq.out.size) (fun h => by have := LOW.out 8 (by omega) b h; omega)).trans (hbq.out.block b hb)⟩
          have mgx : At .u64 wr (some ⟨gx, 0, none⟩) (xa ++ [77]) := Mx.out.bar hbar (fun b f _ e h => by simp only [Option.some.injEq, Addr.mk.injEq] at e; have := LOW.out 8 (by omega) b h; omega)
          have mgy : At .u64 wr (some ⟨gy, 0, none⟩) (xb ++ [77]) := My.out.bar hbar (fun b f _ e h => by simp only [Option.some.injEq, Addr.mk.injEq] at e; have := LOW.out 8 (by omega) b h; omega)
          have aa : At .u64 wr oa xa := ATA.out.bar hbar (fun b f hx e h => by
            have := LOW.out 8 (by omega) b h
            rcases ATA0.out with h1 | ⟨b', f', h1, h2, _⟩
            · exact hx h1
            · rw [e] at h1; simp only [Option.some.injEq, Addr.mk.injEq] at h1; omega)
          have ab : At .u64 wr ob xb := ATB.out.bar hbar (fun b f hx e h => by
            have := LOW.out 8 (by omega) b h
            rcases ATB0.out with h1 | ⟨b', f', h1, h2, _⟩
            · exact hx h1
            · rw [e] at h1; simp only [Option.some.injEq, Addr.mk.injEq] at h1; omega)
          clear hbar
          go_wp2_with fail
          refine (awake_true _).mono ?_
          rintro e w6 ⟨rfl, hbel⟩
          replace mgx := mgx.below hbel
          replace mgy := mgy.below hbel
          replace aa := aa.below hbel
          replace ab := ab.below hbel
          replace hfin := hfin.trans (hbel.mono hfin.size)
          clear hbel
          go_wp2_with fail
          refine (kept_any gx la kx ca oa xa _ (by omega) hkx hxa mgx aa).mono ?_
          rintro e w7 ⟨rfl, hbel⟩
          replace mgx := mgx.below hbel
          replace mgy := mgy.below hbel
          replace aa := aa.below hbel
          replace ab := ab.below hbel
          replace hfin := hfin.trans (hbel.mono hfin.size)
          clear hbel
          go_wp2_with fail
          refine (kept_any gy lb ky cb ob xb _ (by omega) hky hxb mgy ab).mono ?_
          rintro e w8 ⟨rfl, hbel⟩
          replace mgx := mgx.below hbel
          replace mgy := mgy.below hbel
          replace aa := aa.below hbel
          replace ab := ab.below hbel
          replace hfin := hfin.trans (hbel.mono hfin.size)
          clear hbel
          clear mgx mgy aa ab
          go_wp2
          go_ret
          exact ⟨rfl, hfin⟩

end Go.Proofs.Ytpiloigpncbccaa
