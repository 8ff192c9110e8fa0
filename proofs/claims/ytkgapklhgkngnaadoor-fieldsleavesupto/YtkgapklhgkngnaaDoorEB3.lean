/-
  What heap.down does to the queue; heap.Push, heap.Pop.
  heap.Push and heap.Pop over the queue.
  Spans put in order: plain mathematics.
  What ordered answers: the spans put in order, in a list of its own.
  Plain mathematics: decimal digits, the numbers that they are, and texts behind texts.
  Runes, in the document's words, as plain data; that the library's decoder tells the same.
  What Check's small functions answer.
  What Check's literal answers of a span; of spans, whether one of them is misplaced, and whether they stand in order.
  Of a list of spans: is one of them misplaced; do they stand in order?
-/
import Derived.Test.YtkgapklhgkngnaaDoorEB2
import Derived.Test.YtkgapklhgkngnaaDoorECarry
import Derived.Lib.ItoaNum
import Derived.Lib.ValidLaws
import Derived.Lib.RuneCount
import Derived.Lib.TrimUEq
import Derived.Test.YtkgapklhgkngnaaDoorEShelf
namespace Go.Proofs.YtkgapklhgkngnaaDoor
open Go.RowKit

attribute [local go_sem ↓] Go.wp_at_zero Go.wp_at_succ

def IsB (e : Ending) : Prop := ∃ b, e = .returned (.bool b)
theorem IsB.mk (b : Bool) : IsB (.returned (.bool b)) := ⟨b, rfl⟩
theorem child_min {p : List Rk} {m k : Nat} (c : Nat) (h : ∀ z, 0 < z → z < m → par z = k → ¬ LtR (gN rkZ p z) (gN rkZ p c)) :
    (¬ LtR (gN rkZ p c) (gN rkZ p k) → ∀ z, 0 < z → z < m → par z = k → ¬ LtR (gN rkZ p z) (gN rkZ p k)) ∧ ∀ z, 0 < z → z < m → par z = k → ¬ LtR (gN rkZ p z) (gN rkZ p c) :=
  ⟨fun h1 z h0 hz hp => ordLt.ct _ _ _ h1 (h z h0 hz hp), h⟩
theorem swL_drop {α : Type} {d : α} {l : List α} {i j m : Nat} (hi : i < m) (hj : j < m) : (swL d l i j).drop m = l.drop m := by
  unfold swL
  rw [List.drop_set_of_lt hj, List.drop_set_of_lt hi]

set_option maxRecDepth 100000 in
set_option maxHeartbeats 16000000 in
theorem down_any {W w : World} {D g cap n m : Nat} (q : List Rk) (h : QG W D g cap n q w) (hm : m ≤ n) (hl : n * 32 ≤ 140737488355328) (hu : DnI LtR rkZ q m 0) :
    Calls Tryd.prog 59 #[.iface 90 (.pointer (some ⟨D, 0, none⟩)), .int .i64 0, .int .i64 (m : Int)] w fun e w' => IsB e ∧ ∃ q', q'.Perm q ∧ HeapN LtR rkZ q' m ∧ q'.drop m = q.drop m ∧ QG W D g cap n q' w' := by
  have H0 := hide h
  have HU := hide hu
  have bD := h.blk
  clear h hu
  go_enter Tryd.func59, Tryd.ntmps59
  go_wp2_with fail
  go_loopw [7] (fun x wr => ∃ (k : Nat) (p : List Rk), x = .int .i64 (k : Int) ∧ k ≤ m ∧ Hid (p.Perm q ∧ DnI LtR rkZ p m k ∧ p.drop m = q.drop m) ∧ Hid (QG W D g cap n p wr)) (fun x _ => m - (intOf x).toNat)
  case atStart => exact ⟨0, q, rfl, Nat.zero_le _, hide ⟨List.Perm.refl _, HU.out, rfl⟩, H0⟩
  case round =>
    obtain ⟨k, p, rfl, hk, HP, HQ⟩ := hrel
    clear H0 HU bD
    by_cases h1 : 2 * k + 1 < m
    · have g1 : 2 * (k : Int) + 1 < (m : Int) := by omega
      have MB := (meth_less D wr).trans (load_q HQ.out.blk)
      by_cases h2 : 2 * k + 1 + 1 < m
      · have g2 : 2 * (k : Int) + 1 + 1 < (m : Int) := by omega
        obtain ⟨b1, hb1⟩ : ∃ b1, b1 = ltB (gN rkZ p (2 * k + 1 + 1)) (gN rkZ p (2 * k + 1)) := ⟨_, rfl⟩
        have CB : Hid (Calls Tryd.prog 79 #[.slice (some ⟨g, 0, none⟩) n cap, .int .i64 (2 * (k : Int) + 1 + 1), .int .i64 (2 * (k : Int) + 1)] wr fun e w' => e = .returned (.bool b1) ∧ QG W D g cap n p w') := hide (by
          have q := HQ.out.less (2 * k + 1 + 1) (2 * k + 1) (by omega) (by omega)
          rw [← hb1] at q
          rw [show 2 * (k : Int) + 1 + 1 = ((2 * k + 1 + 1 : Nat) : Int) by omega, show 2 * (k : Int) + 1 = ((2 * k + 1 : Nat) : Int) by omega]
          exact q)
        have HB1 := hide hb1
        clear hb1
        go_wp2_with fail
        refine CB.out.mono ?_
        rintro e w1 ⟨rfl, hq1⟩
        have HQ1 := hide hq1
        clear CB MB HQ hq1
        cases b1
        · have HMN : Hid ((¬ LtR (gN rkZ p (2 * k + 1)) (gN rkZ p k) → ∀ z, 0 < z → z < m → par z = k → ¬ LtR (gN rkZ p z) (gN rkZ p k)) ∧ ∀ z, 0 < z → z < m → par z = k → ¬ LtR (gN rkZ p z) (gN rkZ p (2 * k + 1))) := hide (child_min (2 * k + 1) (fun z h0 hz hp => by
            have hz2 : z = 2 * k + 1 ∨ z = 2 * k + 1 + 1 := by unfold par at hp; omega
            rcases hz2 with rfl | rfl
            · exact fun q => ordLt.sy _ _ q q
            · unfold LtR; rw [← HB1.out]; simp))
          clear HB1
          obtain ⟨b, hb⟩ : ∃ b, b = ltB (gN rkZ p (2 * k + 1)) (gN rkZ p k) := ⟨_, rfl⟩
          have CL : Hid (Calls Tryd.prog 79 #[.slice (some ⟨g, 0, none⟩) n cap, .int .i64 (2 * (k : Int) + 1), .int .i64 (k : Int)] w1 fun e w' => e = .returned (.bool b) ∧ QG W D g cap n p w') := hide (by
            have q := HQ1.out.less (2 * k + 1) k (by omega) (by omega)
            rw [← hb] at q
            rw [show 2 * (k : Int) + 1 = ((2 * k + 1 : Nat) : Int) by omega]
            exact q)
          have HB := hide hb
          have ML := (meth_less D w1).trans (load_q HQ1.out.blk)
          clear hb
          go_wp2_with fail
          refine CL.out.mono ?_
          rintro e w2 ⟨rfl, hq2⟩
          have HQ2 := hide hq2
          clear CL ML HQ1 hq2
          cases b
          · have E1 : Hid (HeapN LtR rkZ p m) := hide (dn_done HP.out.2.1 (HMN.out.1 (by unfold LtR; rw [← HB.out]; simp)))
            clear HB HMN
            go_wp2
            go_ret
            exact ⟨IsB.mk _, p, HP.out.1, E1.out, HP.out.2.2, HQ2.out⟩
          · have E1 : Hid ((swL rkZ p k (2 * k + 1)).Perm q ∧ DnI LtR rkZ (swL rkZ p k (2 * k + 1)) m (2 * k + 1) ∧ (swL rkZ p k (2 * k + 1)).drop m = q.drop m) := hide (by
              have hlen := HQ2.out.len
              exact ⟨(swL_perm (by omega) (by omega)).trans HP.out.1, dn_step ordLt (by omega) HP.out.2.1 (by omega) (by omega) (by unfold par; omega) HB.out.symm HMN.out.2, (swL_drop (by omega) (by omega)).trans HP.out.2.2⟩)
            have CS : Hid (Calls Tryd.prog 80 #[.slice (some ⟨g, 0, none⟩) n cap, .int .i64 (k : Int), .int .i64 (2 * (k : Int) + 1)] w2 fun e w' => e = .returned (.tuple #[]) ∧ QG W D g cap n (swL rkZ p k (2 * k + 1)) w') := hide (by
              have q := HQ2.out.swap k (2 * k + 1) (by omega) (by omega)
              rw [show 2 * (k : Int) + 1 = ((2 * k + 1 : Nat) : Int) by omega]
              exact q)
            have MS := (meth_swap D w2).trans (load_q HQ2.out.blk)
            clear HB HMN HP HQ2
            go_wp2_with fail
            refine CS.out.mono ?_
            rintro e w3 ⟨rfl, hq3⟩
            have HQ3 := hide hq3
            clear CS MS hq3
            go_wp2
            exact ⟨⟨2 * k + 1, _, by go_num, by omega, E1, HQ3⟩, by simp [intOf]; omega⟩
        · have HMN : Hid ((¬ LtR (gN rkZ p (2 * k + 1 + 1)) (gN rkZ p k) → ∀ z, 0 < z → z < m → par z = k → ¬ LtR (gN rkZ p z) (gN rkZ p k)) ∧ ∀ z, 0 < z → z < m → par z = k → ¬ LtR (gN rkZ p z) (gN rkZ p (2 * k + 1 + 1))) := hide (child_min (2 * k + 1 + 1) (fun z h0 hz hp => by
            have hz2 : z = 2 * k + 1 ∨ z = 2 * k + 1 + 1 := by unfold par at hp; omega
            rcases hz2 with rfl | rfl
            · exact ordLt.sy _ _ HB1.out.symm
            · exact fun q => ordLt.sy _ _ q q))
          clear HB1
          obtain ⟨b, hb⟩ : ∃ b, b = ltB (gN rkZ p (2 * k + 1 + 1)) (gN rkZ p k) := ⟨_, rfl⟩
          have CL : Hid (Calls Tryd.prog 79 #[.slice (some ⟨g, 0, none⟩) n cap, .int .i64 (2 * (k : Int) + 1 + 1), .int .i64 (k : Int)] w1 fun e w' => e = .returned (.bool b) ∧ QG W D g cap n p w') := hide (by
            have q := HQ1.out.less (2 * k + 1 + 1) k (by omega) (by omega)
            rw [← hb] at q
            rw [show 2 * (k : Int) + 1 + 1 = ((2 * k + 1 + 1 : Nat) : Int) by omega]
            exact q)
          have HB := hide hb
          have ML := (meth_less D w1).trans (load_q HQ1.out.blk)
          clear hb
          go_wp2_with fail
          refine CL.out.mono ?_
          rintro e w2 ⟨rfl, hq2⟩
          have HQ2 := hide hq2
          clear CL ML HQ1 hq2
          cases b
          · have E1 : Hid (HeapN LtR rkZ p m) := hide (dn_done HP.out.2.1 (HMN.out.1 (by unfold LtR; rw [← HB.out]; simp)))
            clear HB HMN
            go_wp2
            go_ret
            exact ⟨IsB.mk _, p, HP.out.1, E1.out, HP.out.2.2, HQ2.out⟩
          · have E1 : Hid ((swL rkZ p k (2 * k + 1 + 1)).Perm q ∧ DnI LtR rkZ (swL rkZ p k (2 * k + 1 + 1)) m (2 * k + 1 + 1) ∧ (swL rkZ p k (2 * k + 1 + 1)).drop m = q.drop m) := hide (by
              have hlen := HQ2.out.len
              exact ⟨(swL_perm (by omega) (by omega)).trans HP.out.1, dn_step ordLt (by omega) HP.out.2.1 (by omega) (by omega) (by unfold par; omega) HB.out.symm HMN.out.2, (swL_drop (by omega) (by omega)).trans HP.out.2.2⟩)
            have CS : Hid (Calls Tryd.prog 80 #[.slice (some ⟨g, 0, none⟩) n cap, .int .i64 (k : Int), .int .i64 (2 * (k : Int) + 1 + 1)] w2 fun e w' => e = .returned (.tuple #[]) ∧ QG W D g cap n (swL rkZ p k (2 * k + 1 + 1)) w') := hide (by
              have q := HQ2.out.swap k (2 * k + 1 + 1) (by omega) (by omega)
              rw [show 2 * (k : Int) + 1 + 1 = ((2 * k + 1 + 1 : Nat) : Int) by omega]
              exact q)
            have MS := (meth_swap D w2).trans (load_q HQ2.out.blk)
            clear HB HMN HP HQ2
            go_wp2_with fail
            refine CS.out.mono ?_
            rintro e w3 ⟨rfl, hq3⟩
            have HQ3 := hide hq3
            clear CS MS hq3
            go_wp2
            exact ⟨⟨2 * k + 1 + 1, _, by go_num, by omega, E1, HQ3⟩, by simp [intOf]; omega⟩
      · have g2 : ¬ 2 * (k : Int) + 1 + 1 < (m : Int) := by omega
        have HMN : Hid ((¬ LtR (gN rkZ p (2 * k + 1)) (gN rkZ p k) → ∀ z, 0 < z → z < m → par z = k → ¬ LtR (gN rkZ p z) (gN rkZ p k)) ∧ ∀ z, 0 < z → z < m → par z = k → ¬ LtR (gN rkZ p z) (gN rkZ p (2 * k + 1))) := hide (child_min (2 * k + 1) (fun z h0 hz hp => by
          obtain rfl : z = 2 * k + 1 := by unfold par at hp; omega
          exact fun q => ordLt.sy _ _ q q))
        obtain ⟨w1, hw1⟩ : ∃ w1, w1 = wr := ⟨_, rfl⟩
        subst hw1
        have HQ1 := HQ
        clear HQ MB
        obtain ⟨b, hb⟩ : ∃ b, b = ltB (gN rkZ p (2 * k + 1)) (gN rkZ p k) := ⟨_, rfl⟩
        have CL : Hid (Calls Tryd.prog 79 #[.slice (some ⟨g, 0, none⟩) n cap, .int .i64 (2 * (k : Int) + 1), .int .i64 (k : Int)] w1 fun e w' => e = .returned (.bool b) ∧ QG W D g cap n p w') := hide (by
          have q := HQ1.out.less (2 * k + 1) k (by omega) (by omega)
          rw [← hb] at q
          rw [show 2 * (k : Int) + 1 = ((2 * k + 1 : Nat) : Int) by omega]
          exact q)
        have HB := hide hb
        have ML := (meth_less D w1).trans (load_q HQ1.out.blk)
        clear hb
        go_wp2_with fail
        refine CL.out.mono ?_
        rintro e w2 ⟨rfl, hq2⟩
        have HQ2 := hide hq2
        clear CL ML HQ1 hq2
        cases b
        · have E1 : Hid (HeapN LtR rkZ p m) := hide (dn_done HP.out.2.1 (HMN.out.1 (by unfold LtR; rw [← HB.out]; simp)))
          clear HB HMN
          go_wp2
          go_ret
          exact ⟨IsB.mk _, p, HP.out.1, E1.out, HP.out.2.2, HQ2.out⟩
        · have E1 : Hid ((swL rkZ p k (2 * k + 1)).Perm q ∧ DnI LtR rkZ (swL rkZ p k (2 * k + 1)) m (2 * k + 1) ∧ (swL rkZ p k (2 * k + 1)).drop m = q.drop m) := hide (by
            have hlen := HQ2.out.len
            exact ⟨(swL_perm (by omega) (by omega)).trans HP.out.1, dn_step ordLt (by omega) HP.out.2.1 (by omega) (by omega) (by unfold par; omega) HB.out.symm HMN.out.2, (swL_drop (by omega) (by omega)).trans HP.out.2.2⟩)
          have CS : Hid (Calls Tryd.prog 80 #[.slice (some ⟨g, 0, none⟩) n cap, .int .i64 (k : Int), .int .i64 (2 * (k : Int) + 1)] w2 fun e w' => e = .returned (.tuple #[]) ∧ QG W D g cap n (swL rkZ p k (2 * k + 1)) w') := hide (by
            have q := HQ2.out.swap k (2 * k + 1) (by omega) (by omega)
            rw [show 2 * (k : Int) + 1 = ((2 * k + 1 : Nat) : Int) by omega]
            exact q)
          have MS := (meth_swap D w2).trans (load_q HQ2.out.blk)
          clear HB HMN HP HQ2
          go_wp2_with fail
          refine CS.out.mono ?_
          rintro e w3 ⟨rfl, hq3⟩
          have HQ3 := hide hq3
          clear CS MS hq3
          go_wp2
          exact ⟨⟨2 * k + 1, _, by go_num, by omega, E1, HQ3⟩, by simp [intOf]; omega⟩
    · have E1 : Hid (HeapN LtR rkZ p m) := hide (dn_done HP.out.2.1 (fun c h0 hc hp => by unfold par at hp; omega))
      have g1 : ¬ 2 * (k : Int) + 1 < (m : Int) := by omega
      go_wp2
      go_ret
      exact ⟨IsB.mk _, p, HP.out.1, E1.out, HP.out.2.2, HQ.out⟩
end Go.Proofs.YtkgapklhgkngnaaDoor

namespace Go.Proofs.YtkgapklhgkngnaaDoor
open Go.RowKit

theorem gN_take {l : List Rk} {n i : Nat} (h : i < n) : gN rkZ (l.take n) i = gN rkZ l i := by unfold gN; rw [List.getElem?_take, if_pos h]

set_option maxRecDepth 100000 in
set_option maxHeartbeats 8000000 in
theorem hpush_any {w : World} {D : Nat} {v : Value} (q : List Rk) (x : Rk) (h : QV w D v q) (hh : HeapN LtR rkZ q q.length) (hl : (q.length + 1) * 32 ≤ 140737488355328) :
    Calls Tryd.prog 47 #[.iface 90 (.pointer (some ⟨D, 0, none⟩)), .iface 92 (rkV x)] w fun e w' => e = .returned (.tuple #[]) ∧ Hid (∃ v' q', QV w' D v' q' ∧ q'.Perm (q ++ [x]) ∧ HeapN LtR rkZ q' q'.length) ∧ Below D w w' := by
  have CP := hide (qpush_any q x h hl)
  have MP := meth_push D w
  obtain ⟨X, hX⟩ : ∃ X, X = rkV x := ⟨_, rfl⟩
  rw [← hX] at CP ⊢
  obtain ⟨n, hn⟩ : ∃ n, n = q.length := ⟨_, rfl⟩
  rw [← hn] at hl
  have HN := hide hn
  have HH := hide hh
  have hDw : D < w.heap.size := h.1.lt
  clear h hX hn hh
  go_enter Tryd.func47, Tryd.ntmps47
  go_wp2_with fail
  refine CP.out.mono ?_
  rintro e w1 ⟨rfl, ⟨v1, b1, o1⟩, bl1⟩
  have hlen : (q ++ [x]).length = n + 1 := by rw [List.length_append, List.length_singleton, HN.out]
  obtain ⟨g, cap, rfl, hg1, hg2, hcap⟩ := ownF_some o1 (by rw [hlen]; omega)
  rw [hlen] at b1 o1
  have UI : UpI LtR rkZ (q ++ [x]) (n + 1) n := up_begin x HN.out (by rw [HN.out]; exact HH.out)
  have QX : QG w1 D g cap (n + 1) (q ++ [x]) w1 := ⟨b1, o1, hlen, Below.refl _ _, OthF.refl _ _ _⟩
  have CU := hide (up_any (q ++ [x]) n QX (Nat.lt_succ_self n) (by omega) UI)
  have ML := (meth_len D w1).trans (load_q b1)
  have hlen2 := hide hlen
  have BL := hide bl1
  obtain ⟨N, hN⟩ : ∃ N, N = n + 1 := ⟨_, rfl⟩
  have k1 : IntKind.i64.wrap ((N : Int) - 1) = (n : Int) := by rw [show (N : Int) - 1 = (n : Int) by omega]; exact IntWalk.i64_in _ (by omega)
  rw [← hN] at ML
  rw [← hN] at CU
  have HNN := hide hN
  clear CP MP b1 o1 UI QX hlen bl1 hN HH
  go_wp2_with (go_at_call 48; refine (qlen_any _ _ _ _).mono ?_; rintro e w' ⟨rfl, rfl⟩)
  refine CU.out.mono ?_
  rintro e w2 ⟨rfl, q', p1, p2, p3⟩
  have bq := p3.bel
  have E1 : Hid (∃ v' q', QV w2 D v' q' ∧ q'.Perm (q ++ [x]) ∧ HeapN LtR rkZ q' q'.length) := hide ⟨_, q', ⟨p3.blk, by rw [p3.len]; exact p3.own⟩, p1, by rw [p3.len]; exact p2⟩
  have E2 : Hid (Below D w w2) := hide (BL.out.trans bq)
  clear p1 p2 p3 bq CU ML
  go_wp2
  go_end0
  exact ⟨rfl, E1, E2.out⟩

set_option maxRecDepth 100000 in
set_option maxHeartbeats 8000000 in
theorem hpop_any {w : World} {D g cap n : Nat} (q : List Rk) (h : QG w D g cap (n + 1) q w) (hh : HeapN LtR rkZ q (n + 1)) (hl : (n + 1) * 32 ≤ 140737488355328) :
    Calls Tryd.prog 49 #[.iface 90 (.pointer (some ⟨D, 0, none⟩))] w fun e w' => e = .returned (.iface 92 (rkV (gN rkZ q 0))) ∧ Hid (∃ q', QG w D g cap n q' w' ∧ (gN rkZ q 0 :: q').Perm q ∧ HeapN LtR rkZ q' n) := by
  obtain ⟨N, hN⟩ : ∃ N, N = n + 1 := ⟨_, rfl⟩
  have k1 : IntKind.i64.wrap ((N : Int) - 1) = (n : Int) := by rw [show (N : Int) - 1 = (n : Int) by omega]; exact IntWalk.i64_in _ (by omega)
  have CS := hide (h.swap 0 n (by omega) (by omega))
  have ML := (meth_len D w).trans (load_q h.blk)
  have MS := (meth_swap D w).trans (load_q h.blk)
  have hlen := hide h.len
  have DI := hide (dn_begin (d := rkZ) h.len.symm hh)
  have PM := hide (swL_perm (d := rkZ) (l := q) (i := 0) (j := n) (by have := h.len; omega) (by have := h.len; omega))
  have LA : Hid (gN rkZ (swL rkZ q 0 n) n = gN rkZ q 0) := hide (by rw [swL_at (by have := h.len; omega) (by have := h.len; omega), if_pos rfl])
  rw [← hN] at ML MS CS
  obtain ⟨V, hV⟩ : ∃ V, V = rkV (gN rkZ q 0) := ⟨_, rfl⟩
  rw [← hV]
  have HV := hide hV
  have HN := hide hN
  clear h hh hV hN
  go_enter Tryd.func49, Tryd.ntmps49
  go_wp2_with (go_at_call 48; refine (qlen_any _ _ _ _).mono ?_; rintro e w ⟨rfl, rfl⟩)
  refine CS.out.mono ?_
  rintro e w1 ⟨rfl, q1⟩
  have CD := hide (down_any (W := w) (m := n) (swL rkZ q 0 n) q1 (by have := HN.out; omega) (by have := HN.out; omega) DI.out)
  clear CS ML MS q1 k1
  go_wp2_with fail
  refine CD.out.mono ?_
  rintro e w2 ⟨⟨bb, rfl⟩, q2, p1, p2, p3, p4⟩
  have l2 := p4.len
  have e1 : q2 = q2.take n ++ [gN rkZ q 0] := by
    have e2 : q2.drop n = [gN rkZ q 0] := by
      rw [p3]
      have hl1 : (swL rkZ q 0 n).length = n + 1 := by rw [swL_len, hlen.out]
      have hd : (swL rkZ q 0 n).drop n = [(swL rkZ q 0 n)[n]'(by omega)] := by
        rw [List.drop_eq_getElem_cons (by omega), List.drop_eq_nil_of_le (by omega)]
      rw [hd]
      congr 1
      rw [← LA.out]
      unfold gN
      rw [List.getElem?_eq_getElem (by omega)]
      rfl
    rw [← e2, List.take_append_drop]
  have l3 : n = (q2.take n).length := by rw [List.length_take, l2, HN.out]; omega
  have b4 := p4.blk
  have o4 := p4.own
  rw [HN.out] at b4 o4
  rw [e1] at o4
  have CP := hide (qpop_any (q2.take n) (gN rkZ q 0) l3 b4 o4 (by have := HN.out; omega))
  rw [← HV.out] at CP
  have MP := meth_pop D w2
  have P4 := hide p4
  have P2 := hide p2
  have E1 : Hid ((gN rkZ q 0 :: q2.take n).Perm q) := hide (by
    have h1 : (q2.take n ++ [gN rkZ q 0]).Perm q := by rw [← e1]; exact p1.trans PM.out
    exact (List.perm_append_comm (l₁ := [gN rkZ q 0]) (l₂ := q2.take n)).trans h1)
  have L3 := hide l3
  clear CD p1 p2 p3 p4 l2 e1 l3 b4 o4 PM DI LA
  go_wp2_with fail
  refine CP.out.mono ?_
  rintro e w3 ⟨rfl, ⟨b5, o5⟩, bl5, oh5⟩
  have E2 : Hid (∃ q', QG w D g cap n q' w3 ∧ (gN rkZ q 0 :: q').Perm q ∧ HeapN LtR rkZ q' n) := hide (by
    rw [← L3.out] at o5
    have hh2 : OthF D (some g) w2 w3 := ⟨oh5.1, fun b a1 a2 _ => oh5.2 b a1 a2 (by simp)⟩
    exact ⟨q2.take n, ⟨b5, o5, L3.out.symm, P4.out.bel.trans bl5, P4.out.oth.trans hh2⟩, E1.out, fun i h0 h1 => by
      have := par_lt h0
      rw [gN_take h1, gN_take (by omega)]
      exact P2.out i h0 h1⟩)
  clear P4 P2 E1 b5 o5 bl5 oh5 CP MP
  go_wp2
  go_ret
  exact ⟨rfl, E2⟩
end Go.Proofs.YtkgapklhgkngnaaDoor

namespace Go.Proofs.YtkgapklhgkngnaaDoor

def LtS (s t : Sp) : Prop := s.a < t.a ∨ (s.a = t.a ∧ t.b < s.b)
instance (s t : Sp) : Decidable (LtS s t) := by unfold LtS; exact inferInstance
def putS (x : Sp) : List Sp → List Sp
  | [] => [x]
  | y :: l => if LtS y x then y :: putS x l else x :: y :: l
def ordS : List Sp → List Sp
  | [] => []
  | x :: l => putS x (ordS l)
theorem putS_len (x : Sp) : ∀ l : List Sp, (putS x l).length = l.length + 1
  | [] => rfl
  | y :: l => by
    unfold putS
    split
    · rw [List.length_cons, putS_len x l, List.length_cons]
    · rfl
theorem putS_perm (x : Sp) : ∀ l : List Sp, (putS x l).Perm (x :: l)
  | [] => List.Perm.refl _
  | y :: l => by
    unfold putS
    split
    · exact ((putS_perm x l).cons y).trans (List.Perm.swap x y l)
    · exact List.Perm.refl _
theorem ordS_perm : ∀ l : List Sp, (ordS l).Perm l
  | [] => List.Perm.refl _
  | x :: l => (putS_perm x (ordS l)).trans ((ordS_perm l).cons x)
theorem ordS_len (l : List Sp) : (ordS l).length = l.length := (ordS_perm l).length_eq
def SrtS (l : List Sp) : Prop := l.Pairwise fun s t => ¬ LtS t s
def rkL (n : Nat) : List Sp → List Rk
  | [] => []
  | s :: l => ⟨s, (n : Int)⟩ :: rkL (n + 1) l
theorem rkL_len (l : List Sp) : ∀ n, (rkL n l).length = l.length := by
  induction l with
  | nil => intro n; rfl
  | cons s l ih => intro n; rw [rkL, List.length_cons, ih, List.length_cons]
theorem rkL_snoc (s : Sp) : ∀ (l : List Sp) (n : Nat), rkL n (l ++ [s]) = rkL n l ++ [⟨s, ((n + l.length : Nat) : Int)⟩]
  | [], n => by simp [rkL]
  | t :: l, n => by
    rw [List.cons_append, rkL, rkL_snoc s l (n + 1), rkL, List.cons_append, List.length_cons, show n + 1 + l.length = n + (l.length + 1) by omega]
theorem rkL_mem {x : Rk} : ∀ {l : List Sp} {n : Nat}, x ∈ rkL n l → (n : Int) ≤ x.r
  | [], _, h => by simp [rkL] at h
  | s :: l, n, h => by
    rw [rkL] at h
    rcases List.mem_cons.1 h with e | e
    · subst e; exact Int.le_refl _
    · have := rkL_mem e; omega
theorem rkL_uniq {x y : Rk} : ∀ {l : List Sp} {n : Nat}, x ∈ rkL n l → y ∈ rkL n l → x.r = y.r → x = y
  | [], _, h, _, _ => by simp [rkL] at h
  | s :: l, n, h, g, e => by
    rw [rkL] at h g
    rcases List.mem_cons.1 h with e1 | e1
    · rcases List.mem_cons.1 g with e2 | e2
      · rw [e1, e2]
      · have := rkL_mem e2; subst e1; simp only [] at e; omega
    · rcases List.mem_cons.1 g with e2 | e2
      · have := rkL_mem e1; subst e2; simp only [] at e; omega
      · exact rkL_uniq e1 e2 e

def SrtR (l : List Rk) : Prop := l.Pairwise LtR
theorem put_lift (x : Sp) (n : Nat) : ∀ (k : List Rk), SrtR k → (∀ y ∈ k, (n : Int) < y.r) → ∃ k', k'.map Rk.s = putS x (k.map Rk.s) ∧ k'.Perm (⟨x, (n : Int)⟩ :: k) ∧ SrtR k'
  | [], _, _ => ⟨[⟨x, (n : Int)⟩], rfl, List.Perm.refl _, List.pairwise_singleton _ _⟩
  | y :: k, hs, hn => by
    have hp := List.pairwise_cons.1 hs
    by_cases h : LtS y.s x
    · obtain ⟨k', h1, h2, h3⟩ := put_lift x n k hp.2 (fun z hz => hn z (List.mem_cons_of_mem _ hz))
      refine ⟨y :: k', ?_, (h2.cons y).trans (List.Perm.swap _ _ _), List.pairwise_cons.2 ⟨fun z hz => ?_, h3⟩⟩
      · rw [List.map_cons, h1, List.map_cons, putS, if_pos h]
      · rcases List.mem_cons.1 (h2.mem_iff.1 hz) with e | e
        · subst e; rw [LtR_iff]; unfold LtS at h; exact .inl h
        · exact hp.1 z e
    · refine ⟨⟨x, (n : Int)⟩ :: y :: k, ?_, List.Perm.refl _, List.pairwise_cons.2 ⟨fun z hz => ?_, hs⟩⟩
      · rw [List.map_cons, List.map_cons, putS, if_neg h]
      · have hy : LtR ⟨x, (n : Int)⟩ y := by
          have := hn y (List.mem_cons_self ..)
          rw [LtR_iff]
          unfold LtS at h
          simp only []
          omega
        rcases List.mem_cons.1 hz with e | e
        · subst e; exact hy
        · exact ordLt.tr _ _ _ hy (hp.1 z e)
theorem ord_lift : ∀ (l : List Sp) (n : Nat), ∃ k, k.map Rk.s = ordS l ∧ k.Perm (rkL n l) ∧ SrtR k
  | [], _ => ⟨[], rfl, List.Perm.refl _, List.Pairwise.nil⟩
  | x :: l, n => by
    obtain ⟨k, h1, h2, h3⟩ := ord_lift l (n + 1)
    obtain ⟨k', g1, g2, g3⟩ := put_lift x n k h3 (fun y hy => by have := rkL_mem (h2.mem_iff.1 hy); omega)
    exact ⟨k', by rw [g1, h1]; rfl, g2.trans (h2.cons _), g3⟩
theorem ord_of {l : List Sp} {k : List Rk} (hp : k.Perm (rkL 0 l)) (hs : SrtR k) : k.map Rk.s = ordS l := by
  obtain ⟨k', h1, h2, h3⟩ := ord_lift l 0
  rw [← h1, perm_uniq (hp.trans h2.symm) hs h3 (fun x _ y _ a b => absurd b (ordLt.sy _ _ a))]

theorem pop_srt {out q q' : List Rk} {x : Rk} {l : List Sp} {n : Nat} (hq : n = q.length) (hh : HeapN LtR rkZ q n) (hx : gN rkZ q 0 = x) (hp : (out ++ q).Perm (rkL 0 l)) (hs : SrtR out) (ha : ∀ a ∈ out, ∀ b ∈ q, LtR a b) (h1 : (x :: q').Perm q) :
    (out ++ [x] ++ q').Perm (rkL 0 l) ∧ SrtR (out ++ [x]) ∧ ∀ a ∈ out ++ [x], ∀ b ∈ q', LtR a b := by
  have hp2 : (out ++ [x] ++ q').Perm (rkL 0 l) := by
    rw [List.append_assoc]
    exact (List.Perm.append_left out h1).trans hp
  have hxq : x ∈ q := h1.mem_iff.1 (List.mem_cons_self ..)
  refine ⟨hp2, ?_, fun a ha' b hb => ?_⟩
  · refine List.pairwise_append.2 ⟨hs, List.pairwise_singleton _ _, fun a h b hb => ?_⟩
    obtain rfl := List.mem_singleton.1 hb
    exact ha a h b hxq
  · have hbq : b ∈ q := h1.mem_iff.1 (List.mem_cons_of_mem _ hb)
    rcases List.mem_append.1 ha' with h | h
    · exact ha a h b hbq
    · obtain rfl := List.mem_singleton.1 h
      obtain ⟨i, hi, he⟩ := List.getElem_of_mem hbq
      have hb0 : ¬ LtR b a := by
        have q0 := heap_root ordLt hh i (by omega)
        have e1 : gN rkZ q i = b := by unfold gN; rw [List.getElem?_eq_getElem hi, he]; rfl
        rw [e1, hx] at q0
        exact q0
      have nd : a.r ≠ b.r := fun e => by
        have ma : a ∈ rkL 0 l := hp.mem_iff.1 (List.mem_append_right _ hxq)
        have mb : b ∈ rkL 0 l := hp.mem_iff.1 (List.mem_append_right _ hbq)
        have hab := rkL_uniq ma mb e
        subst hab
        have hnd : (rkL 0 l).Nodup := by
          have : ∀ (l : List Sp) (n : Nat), (rkL n l).Nodup := by
            intro l
            induction l with
            | nil => intro n; exact List.nodup_nil
            | cons s l ih =>
              intro n
              rw [rkL]
              refine List.nodup_cons.2 ⟨fun hm => ?_, ih _⟩
              have := rkL_mem hm
              simp only [] at this
              omega
          exact this l 0
        have hq3 : q.Nodup := (List.nodup_append.1 (hp.symm.nodup hnd)).2.1
        have hq4 := h1.symm.nodup hq3
        exact (List.nodup_cons.1 hq4).1 hb
      rw [LtR_iff] at hb0 ⊢
      omega
end Go.Proofs.YtkgapklhgkngnaaDoor

namespace Go.Proofs.YtkgapklhgkngnaaDoor
open Go.RowKit

attribute [local go_sem ↓] Go.wp_at_zero Go.wp_at_succ

theorem infoSp : (Tryd.prog.info? 31).map (fun i => (i.zero, i.size, i.bytes)) = some (some (.agg #[.int .i64 0, .int .i64 0, .int .i64 0]), 3, 24) := by kernel_rfl
theorem fieldRk (f a b r : Int) (X : World) : (Instr.field 92 (.agg #[.int .i64 f, .int .i64 a, .int .i64 b, .int .i64 r]) 0).run Tryd.prog X = .ok (.agg #[.int .i64 f, .int .i64 a, .int .i64 b]) X := by kernel_rfl
def slLen : Value → Nat
  | .slice _ n _ => n
  | _ => 0
def spZ : Sp := ⟨0, 0, 0⟩
def cellsS : List Sp → List Value
  | [] => []
  | s :: l => .int .i64 s.f :: .int .i64 s.a :: .int .i64 s.b :: cellsS l
theorem cellsS_len : ∀ l : List Sp, (cellsS l).length = l.length * 3
  | [] => rfl
  | p :: l => by simp only [cellsS, List.length_cons, cellsS_len l]; omega
theorem cellsS_app : ∀ a b : List Sp, cellsS (a ++ b) = cellsS a ++ cellsS b
  | [], b => rfl
  | p :: a, b => by rw [List.cons_append, cellsS, cellsS_app a b, cellsS]; rfl
theorem cellsS_at : ∀ (l : List Sp) (i : Nat), i < l.length → (cellsS l)[i * 3]? = some (.int .i64 (gN spZ l i).f) ∧ (cellsS l)[i * 3 + 1]? = some (.int .i64 (gN spZ l i).a) ∧ (cellsS l)[i * 3 + 2]? = some (.int .i64 (gN spZ l i).b)
  | [], i, h => by simp at h
  | p :: l, 0, _ => ⟨rfl, rfl, rfl⟩
  | p :: l, i + 1, h => by
    have q := cellsS_at l i (by simpa using h)
    have e : gN spZ (p :: l) (i + 1) = gN spZ l i := by simp [gN]
    rw [cellsS, e, show (i + 1) * 3 = i * 3 + 1 + 1 + 1 by omega]
    simpa using q
def OwnS (B : Nat) (w : World) (v : Value) (l : List Sp) : Prop := w.ownsRow B 31 3 v l.length (cellsS l)
theorem OwnS.at {B : Nat} {w : World} {g n cap : Nat} {l : List Sp} (h : OwnS B w (.slice (some ⟨g, 0, none⟩) n cap) l) (i : Nat) (hi : i < l.length) : w.cell? ⟨g, i * 3, none⟩ = some (.int .i64 (gN spZ l i).f) ∧ w.cell? ⟨g, i * 3 + 1, none⟩ = some (.int .i64 (gN spZ l i).a) ∧ w.cell? ⟨g, i * 3 + 2, none⟩ = some (.int .i64 (gN spZ l i).b) := by
  have hn : n = l.length := by
    rcases h.2 with ⟨hv, _⟩ | ⟨_, _, _, hv, _⟩
    · simp at hv
    · exact (by simpa using hv : _ ∧ n = l.length ∧ _).2.1
  subst hn
  obtain ⟨a0, a1, a2⟩ := cellsS_at l i hi
  exact ⟨(own_get h (i * 3) (by omega)).1.trans a0, (own_get h (i * 3 + 1) (by omega)).1.trans a1, (own_get h (i * 3 + 2) (by omega)).1.trans a2⟩

theorem wpSp_append {w : World} {ops : Array Oper} {rest : List Oper} {o : Oper} {a : Act} {Q : Exit → Act → World → Prop} (hgd : o.guard = none) (s x : Operand)
    (ho : o.op = .call { callee := .builtin .append, args := #[s, x], argTypes := #[23, 23] })
    (base : Nat) (v : Value) (l : List Sp) (hs : a.eval s = v) (hown : OwnS base w v l)
    (g : Nat) (t : Sp) (hx : a.eval x = .slice (some ⟨g, 0, none⟩) 1 1) (hsrc : Blk w g #[.int .i64 t.f, .int .i64 t.a, .int .i64 t.b] 31) (hb : (l.length + 1) * 24 ≤ 140737488355328) (hbase : base ≤ w.heap.size)
    (h : ∀ uo uc w', OwnS base w' (.slice uo (l.length + 1) uc) (l ++ [t]) → w.grownBy w' v.ownBlock → wpList Tryd.prog ops Q rest (a.put o.dst (.slice uo (l.length + 1) uc)) w') : wpList Tryd.prog ops Q (o :: rest) a w := by
  obtain ⟨i0, hi, hz0, hz1, hz2⟩ := info_parts infoSp
  refine wpList_append_own w hgd s x _ ho base _ i0 (.agg #[.int .i64 0, .int .i64 0, .int .i64 0]) 3 24 Tryd.underlying23 hi hz0 hz1 hz2 rfl (by decide) v l.length (cellsS l) hs hown ⟨g, 0, none⟩ 1 1 [.int .i64 t.f, .int .i64 t.a, .int .i64 t.b] hx rfl (fun j u hj => ?_) (fun u hu => ?_) (by unfold maxLen; omega) hb hbase (fun v' w' h3 h4 _ => ?_)
  · rw [Addr.add_lit, Nat.zero_add, hsrc.cell j]
    simpa using hj
  · simp only [List.mem_cons, List.not_mem_nil, or_false] at hu
    rcases hu with rfl | rfl | rfl <;> rfl
  · obtain ⟨uo, uc, rfl⟩ := ownF_slice h3
    refine h uo uc w' ?_ h4
    unfold OwnS
    rw [cellsS_app, List.length_append, List.length_singleton]
    exact h3

theorem wpSp_appendN {w : World} {ops : Array Oper} {rest : List Oper} {o : Oper} {a : Act} {Q : Exit → Act → World → Prop} (hgd : o.guard = none) (s x : Operand)
    (ho : o.op = .call { callee := .builtin .append, args := #[s, x], argTypes := #[23, 23] })
    (base : Nat) (v : Value) (l : List Sp) (n : Nat) (hn : l.length = n) (hs : a.eval s = v) (hown : OwnS base w v l)
    (g : Nat) (t : Sp) (hx : a.eval x = .slice (some ⟨g, 0, none⟩) 1 1) (hsrc : Blk w g #[.int .i64 t.f, .int .i64 t.a, .int .i64 t.b] 31) (hb : (n + 1) * 24 ≤ 140737488355328) (hbase : base ≤ w.heap.size)
    (h : ∀ uo uc w', OwnS base w' (.slice uo (n + 1) uc) (l ++ [t]) → w.grownBy w' v.ownBlock → wpList Tryd.prog ops Q rest (a.put o.dst (.slice uo (n + 1) uc)) w') : wpList Tryd.prog ops Q (o :: rest) a w := by
  subst hn
  exact wpSp_append hgd s x ho base v l hs hown g t hx hsrc hb hbase h

theorem own_apartF {w : World} {B sz n B' sz' n' : Nat} {e e' : TypeId} {v v' : Value} {xs xs' : List Value} (h : w.ownsRow B e sz v n xs) (h' : w.ownsRow B' e' sz' v' n' xs') (he : e ≠ e') (g : Nat) (hg : v.ownBlock = some g) : v'.ownBlock ≠ some g := by
  intro hg'
  rcases h.2 with ⟨rfl, _⟩ | ⟨q, c, cur, rfl, _, hb, _⟩
  · simp [Value.ownBlock] at hg
  · rcases h'.2 with ⟨rfl, _⟩ | ⟨q', c', cur', rfl, _, hb', _⟩
    · simp [Value.ownBlock] at hg'
    · simp only [Value.ownBlock, Option.some.injEq] at hg hg'
      subst hg hg'
      rw [hb] at hb'
      simp only [Option.some.injEq, Obj.cells.injEq] at hb'
      exact he hb'.2.1
theorem own_othF {w w' : World} {B D k n : Nat} {e : TypeId} {v : Value} {xs : List Value} {r : Option Nat} (h : w.ownsRow B e k v n xs) (ho : OthF D r w w') (hD : D < B) (hr : ∀ g, v.ownBlock = some g → some g ≠ r) : w'.ownsRow B e k v n xs := by
  refine ⟨h.1, ?_⟩
  rcases h.2 with h2 | ⟨g, cap, cur, hv, h3, h4, h5⟩
  · exact .inl h2
  · refine .inr ⟨g, cap, cur, hv, h3, ?_, h5⟩
    rw [ho.2 g (lt_of_block h4) (by omega) (hr g (by rw [hv]; rfl))]
    exact h4
theorem QV.grown {w w' : World} {D : Nat} {v u : Value} {q : List Rk} {B k n : Nat} {e : TypeId} {xs : List Value} (h : QV w D v q) (hu : w.ownsRow B e k u n xs) (hB : D < B) (he : 92 ≠ e) (hg : w.grownBy w' u.ownBlock) : QV w' D v q := by
  have hb : ∀ b, b < w.heap.size → u.ownBlock ≠ some b → w'.heap[b]? = w.heap[b]? := fun b h1 h2 => hg.block b h1 h2.symm
  have hD : u.ownBlock ≠ some D := fun e1 => by have := (World.ownsRow.lt hu D e1).1; omega
  refine ⟨?_, h.2.1, ?_⟩
  · have q1 := h.1
    unfold Blk at *
    rw [hb D h.1.lt hD]; exact q1
  · rcases h.2.2 with h2 | ⟨g, cap, cur, hv, h3, h4, h5⟩
    · exact .inl h2
    · refine .inr ⟨g, cap, cur, hv, h3, ?_, h5⟩
      rw [hb g (lt_of_block h4) (own_apartF h.2 hu he g (by rw [hv]; rfl))]
      exact h4
end Go.Proofs.YtkgapklhgkngnaaDoor

namespace Go.Proofs.YtkgapklhgkngnaaDoor

def bys (s : ByteArray) : List UInt8 := s.data.toList

theorem bys_len (s : ByteArray) : (bys s).length = s.size := by simp [bys]

theorem sl (s : ByteArray) : s.toList = bys s := ByteArray.toList_eq s

end Go.Proofs.YtkgapklhgkngnaaDoor

namespace Go.Proofs.YtkgapklhgkngnaaDoor
open Go.Lib

def runeN (n b0 b1 b2 b3 : Nat) : Nat :=
  if n = 0 then 0 else if b0 < 128 then 1 else (checkN n b1 b2 b3 (firstT b0 % 8) (accLo (firstT b0 / 16)) (accHi (firstT b0 / 16))).getD 0

theorem runeN_le (n b0 b1 b2 b3 : Nat) : runeN n b0 b1 b2 b3 ≤ n ∧ runeN n b0 b1 b2 b3 ≤ 4 := by
  unfold runeN
  generalize firstT b0 % 8 = sz
  generalize accLo (firstT b0 / 16) = lo
  generalize accHi (firstT b0 / 16) = hi
  unfold checkN
  repeat' split
  all_goals (try simp only [Option.getD_none, Option.getD_some])
  all_goals omega

theorem checkN_two (n b1 b2 b3 lo hi : Nat) : (checkN n b1 b2 b3 2 lo hi).getD 0 = if n < 2 ∨ b1 < lo ∨ hi < b1 then 0 else 2 := by
  unfold checkN
  rw [if_pos rfl]
  split <;> rfl
theorem checkN_three (n b1 b2 b3 lo hi : Nat) : (checkN n b1 b2 b3 3 lo hi).getD 0 = if n < 3 ∨ b1 < lo ∨ hi < b1 ∨ b2 < 128 ∨ 191 < b2 then 0 else 3 := by
  unfold checkN
  rw [if_neg (by decide), if_pos rfl]
  split <;> rfl
theorem checkN_four (n b1 b2 b3 lo hi : Nat) : (checkN n b1 b2 b3 4 lo hi).getD 0 = if n < 4 ∨ b1 < lo ∨ hi < b1 ∨ b2 < 128 ∨ 191 < b2 ∨ b3 < 128 ∨ 191 < b3 then 0 else 4 := by
  unfold checkN
  rw [if_neg (by decide), if_neg (by decide), if_pos rfl]
  split <;> rfl
theorem checkN_else (n b1 b2 b3 sz lo hi : Nat) (h2 : ¬ sz = 2) (h3 : ¬ sz = 3) (h4 : ¬ sz = 4) : (checkN n b1 b2 b3 sz lo hi).getD 0 = 0 := by
  unfold checkN
  rw [if_neg h2, if_neg h3, if_neg h4]
  rfl

theorem runeN_decode (n b0 b1 b2 b3 : Nat) (hn : 1 ≤ n) (h0 : b0 < 256) (h1 : b1 < 256) (h2 : b2 < 256) (h3 : b3 < 256) :
    (decodeN n b0 b1 b2 b3 = (65533, 1) ∧ runeN n b0 b1 b2 b3 = 0) ∨ (runeN n b0 b1 b2 b3 ≠ 0 ∧ (decodeN n b0 b1 b2 b3).2 = runeN n b0 b1 b2 b3 ∧ ¬ ((decodeN n b0 b1 b2 b3).1 = 65533 ∧ (decodeN n b0 b1 b2 b3).2 = 1)) := by
  unfold runeN
  rw [if_neg (by omega)]
  by_cases ha : b0 < 128
  · right
    rw [if_pos ha]
    have : decodeN n b0 b1 b2 b3 = (b0, 1) := by unfold decodeN; rw [if_pos ha]
    rw [this]
    exact ⟨by omega, rfl, by simp only; omega⟩
  · rw [if_neg ha]
    rcases check_decode n b0 b1 b2 b3 hn (by omega) h0 h1 h2 h3 with ⟨h, h'⟩ | ⟨k, hk, h, h'⟩
    · left
      rw [h]
      exact ⟨h', rfl⟩
    · right
      rw [h, h']
      simp only [Option.getD_some]
      exact ⟨by omega, trivial, by omega⟩

theorem runeN_more (n m b0 b1 b2 b3 c0 c1 c2 c3 k : Nat) (h : runeN n b0 b1 b2 b3 = k) (hk : k ≠ 0) (hm : k ≤ m) (e0 : c0 = b0) (e1 : 1 < k → c1 = b1) (e2 : 2 < k → c2 = b2) (e3 : 3 < k → c3 = b3) : runeN m c0 c1 c2 c3 = k := by
  subst e0
  unfold runeN at h ⊢
  generalize firstT c0 % 8 = sz at h ⊢
  generalize accLo (firstT c0 / 16) = lo at h ⊢
  generalize accHi (firstT c0 / 16) = hi at h ⊢
  by_cases a0 : c0 < 128
  · rw [if_pos a0] at h ⊢
    split at h
    · omega
    · rw [if_neg (by omega)]; exact h
  rw [if_neg a0] at h ⊢
  by_cases s2 : sz = 2
  · subst s2
    rw [checkN_two] at h ⊢
    split at h
    · omega
    split at h
    · omega
    · subst h
      rw [if_neg (by omega), if_neg (by rw [e1 (by omega)]; omega)]
  by_cases s3 : sz = 3
  · subst s3
    rw [checkN_three] at h ⊢
    split at h
    · omega
    split at h
    · omega
    · subst h
      rw [if_neg (by omega), if_neg (by rw [e1 (by omega), e2 (by omega)]; omega)]
  by_cases s4 : sz = 4
  · subst s4
    rw [checkN_four] at h ⊢
    split at h
    · omega
    split at h
    · omega
    · subst h
      rw [if_neg (by omega), if_neg (by rw [e1 (by omega), e2 (by omega), e3 (by omega)]; omega)]
  rw [checkN_else _ _ _ _ _ _ _ s2 s3 s4] at h
  split at h <;> omega

theorem runeN_less (n m b0 b1 b2 b3 c1 c2 c3 k : Nat) (h : runeN n b0 b1 b2 b3 = k) (hm : m < k) (h1 : 1 < k) : runeN m b0 c1 c2 c3 = 0 := by
  unfold runeN at h ⊢
  generalize firstT b0 % 8 = sz at h ⊢
  generalize accLo (firstT b0 / 16) = lo at h ⊢
  generalize accHi (firstT b0 / 16) = hi at h ⊢
  by_cases a0 : b0 < 128
  · rw [if_pos a0] at h
    split at h <;> omega
  rw [if_neg a0] at h ⊢
  by_cases m0 : m = 0
  · rw [if_pos m0]
  rw [if_neg m0]
  by_cases s2 : sz = 2
  · subst s2
    rw [checkN_two] at h ⊢
    split at h
    · omega
    split at h
    · omega
    · subst h
      rw [if_pos (.inl (by omega))]
  by_cases s3 : sz = 3
  · subst s3
    rw [checkN_three] at h ⊢
    split at h
    · omega
    split at h
    · omega
    · subst h
      rw [if_pos (.inl (by omega))]
  by_cases s4 : sz = 4
  · subst s4
    rw [checkN_four] at h ⊢
    split at h
    · omega
    split at h
    · omega
    · subst h
      rw [if_pos (.inl (by omega))]
  rw [checkN_else _ _ _ _ _ _ _ s2 s3 s4]

def byB (l : List UInt8) (k : Nat) : Nat := (l.getD k 0).toNat
theorem byB_lt (l : List UInt8) (k : Nat) : byB l k < 256 := (l.getD k 0).toNat_lt
theorem byB_take (a : List UInt8) (n k : Nat) (h : k < n) : byB (a.take n) k = byB a k := by unfold byB; simp [List.getD, h]

def runeL (l : List UInt8) : Nat := runeN l.length (byB l 0) (byB l 1) (byB l 2) (byB l 3)

theorem runeL_le (l : List UInt8) : runeL l ≤ l.length ∧ runeL l ≤ 4 := runeN_le _ _ _ _ _
theorem decodeL_B (l : List UInt8) : decodeL l = decodeN l.length (byB l 0) (byB l 1) (byB l 2) (byB l 3) := decodeL_N l

theorem runeL_decode (l : List UInt8) (h : l ≠ []) : (decodeL l = (65533, 1) ∧ runeL l = 0) ∨ (runeL l ≠ 0 ∧ (decodeL l).2 = runeL l ∧ ¬ ((decodeL l).1 = 65533 ∧ (decodeL l).2 = 1)) := by
  rw [decodeL_B]
  exact runeN_decode _ _ _ _ _ (List.length_pos_iff.2 h) (byB_lt _ _) (byB_lt _ _) (byB_lt _ _) (byB_lt _ _)

theorem runeL_take (a : List UInt8) (n : Nat) (h : runeL a ≠ 0) (hn : runeL a ≤ n) : runeL (a.take n) = runeL a := by
  have hl := (runeL_le a).1
  refine runeN_more a.length _ (byB a 0) (byB a 1) (byB a 2) (byB a 3) _ _ _ _ _ rfl h ?_ (byB_take a n 0 ?_) (fun h1 => byB_take a n 1 ?_) (fun h1 => byB_take a n 2 ?_) (fun h1 => byB_take a n 3 ?_)
  · rw [List.length_take]
    exact Nat.le_min.2 ⟨hn, hl⟩
  all_goals omega

theorem runeL_short (a : List UInt8) (n : Nat) (h : 0 < n) (hn : n < runeL a) : runeL (a.take n) = 0 := by
  have hl := (runeL_le a).1
  unfold runeL at hn hl ⊢
  rw [byB_take a n 0 h, List.length_take, Nat.min_eq_left (by omega)]
  exact runeN_less a.length n (byB a 0) (byB a 1) (byB a 2) (byB a 3) _ _ _ _ rfl hn (by omega)

def runesF : Nat → List UInt8 → Option Nat
  | 0, _ => some 0
  | f + 1, l => if l = [] then some 0 else if runeL l = 0 then none else (runesF f (l.drop (runeL l))).map (· + 1)
def runesL (l : List UInt8) : Option Nat := runesF l.length l

theorem runesF_nil : ∀ f, runesF f [] = some 0
  | 0 => rfl
  | _ + 1 => by simp [runesF]

theorem runesF_fuel : ∀ (f g : Nat) (l : List UInt8), l.length ≤ f → l.length ≤ g → runesF f l = runesF g l
  | 0, g, l, h, _ => by
    obtain rfl := List.eq_nil_of_length_eq_zero (Nat.le_zero.1 h)
    rw [runesF_nil, runesF_nil]
  | f + 1, 0, l, _, h => by
    obtain rfl := List.eq_nil_of_length_eq_zero (Nat.le_zero.1 h)
    rw [runesF_nil]; rfl
  | f + 1, g + 1, l, h1, h2 => by
    unfold runesF
    by_cases hl : l = []
    · rw [if_pos hl, if_pos hl]
    · rw [if_neg hl, if_neg hl]
      by_cases hr : runeL l = 0
      · rw [if_pos hr, if_pos hr]
      · rw [if_neg hr, if_neg hr, runesF_fuel f g (l.drop (runeL l)) (by rw [List.length_drop]; omega) (by rw [List.length_drop]; omega)]

theorem runesL_step (l : List UInt8) (h : l ≠ []) : runesL l = if runeL l = 0 then none else (runesL (l.drop (runeL l))).map (· + 1) := by
  have hp := List.length_pos_iff.2 h
  obtain ⟨n, hn⟩ : ∃ n, l.length = n + 1 := ⟨l.length - 1, by omega⟩
  by_cases hr : runeL l = 0
  · rw [if_pos hr]
    unfold runesL
    rw [hn]
    unfold runesF
    rw [if_neg h, if_pos hr]
  · rw [if_neg hr]
    unfold runesL
    rw [hn]
    show (if l = [] then some 0 else if runeL l = 0 then none else (runesF n (l.drop (runeL l))).map (· + 1)) = _
    rw [if_neg h, if_neg hr, runesF_fuel n _ (l.drop (runeL l)) (by rw [List.length_drop]; omega) (Nat.le_refl _)]

theorem valid_runesA : ∀ (k : Nat) (l : List UInt8), l.length ≤ k → validD l = (runesL l).isSome
  | 0, l, h => by
    obtain rfl := List.eq_nil_of_length_eq_zero (Nat.le_zero.1 h)
    rfl
  | k + 1, l, h => by
    by_cases hl : l = []
    · subst hl; rfl
    · rw [validD_step l hl, runesL_step l hl]
      rcases runeL_decode l hl with ⟨h1, h2⟩ | ⟨h1, h2, h3⟩
      · rw [if_pos (by rw [h1]; exact ⟨rfl, rfl⟩), if_pos h2]; rfl
      · rw [if_neg h3, if_neg h1, h2, valid_runesA k _ (by rw [List.length_drop]; omega)]
        cases runesL (l.drop (runeL l)) <;> rfl
theorem valid_runes (l : List UInt8) : validD l = (runesL l).isSome := valid_runesA l.length l (Nat.le_refl _)

end Go.Proofs.YtkgapklhgkngnaaDoor

namespace Go.Proofs.YtkgapklhgkngnaaDoor
open Go.RowKit

def U8 (w : World) : Prop := Lib.Utf8Tabs 0 1 w
theorem U8.below {w w' : World} (h : U8 w) (hb : Below w.heap.size w w') : U8 w' := Utf8Tabs_below h hb
theorem Valid_any (s : ByteArray) (w : World) (hs : s.size ≤ 9223372036854775807) (hT : U8 w) : Calls Tryd.prog 28 #[.string s] w fun e w' => e = .returned (.bool (Lib.validD (bys s))) ∧ Below w.heap.size w w' :=
  Tryd.utf8_ValidString s w hs hT

def knB (f : Int) : Bool := decide (0 ≤ f) && decide (f < 18)
def plB (t : ByteArray) (a : Int) : Bool := decide (a = t.size) || (decide (0 ≤ a) && decide (a < t.size) && Lib.runeStart (byB (bys t) a.toNat : Nat))
def misB (t : ByteArray) (s : Sp) : Bool := decide (s.f = 0) || !knB s.f || !plB t s.a || !plB t s.b || decide (s.b ≤ s.a)

set_option maxHeartbeats 1000000 in
theorem known_any (f : Int) (w : World) : Calls Tryd.prog 33 #[.int .i64 f] w fun e w' => e = .returned (.bool (knB f)) ∧ w' = w := by
  obtain ⟨b, hb⟩ : ∃ b, b = knB f := ⟨_, rfl⟩
  rw [← hb]
  have HB := hide hb
  clear hb
  by_cases h0 : 0 ≤ f
  · by_cases h1 : f < 18
    · have e : b = true := by rw [HB.out]; simp [knB, h0, h1]
      clear HB; subst e
      go_enter Tryd.func33, Tryd.ntmps33
      go_wp2
      go_ret
      exact ⟨rfl, rfl⟩
    · have e : b = false := by rw [HB.out]; simp [knB, h1]
      clear HB; subst e
      go_enter Tryd.func33, Tryd.ntmps33
      go_wp2
      go_ret
      exact ⟨rfl, rfl⟩
  · have e : b = false := by rw [HB.out]; simp [knB, h0]
    clear HB; subst e
    go_enter Tryd.func33, Tryd.ntmps33
    go_wp2
    go_ret
    exact ⟨rfl, rfl⟩

set_option maxHeartbeats 2000000 in
theorem place_any (t : ByteArray) (a : Int) (w : World) : Calls Tryd.prog 34 #[.string t, .int .i64 a] w fun e w' => e = .returned (.bool (plB t a)) ∧ w' = w := by
  obtain ⟨b, hb⟩ : ∃ b, b = plB t a := ⟨_, rfl⟩
  rw [← hb]
  have HB := hide hb
  clear hb
  by_cases h0 : a = t.size
  · have e : b = true := by rw [HB.out]; simp [plB, h0]
    have h1 : (a == (t.size : Int)) = true := by simpa using h0
    clear HB h0; subst e
    go_enter Tryd.func34, Tryd.ntmps34
    go_wp2
    go_ret
    exact ⟨rfl, rfl⟩
  have h1 : (a == (t.size : Int)) = false := by simpa using h0
  by_cases h2 : 0 ≤ a
  · by_cases h3 : a < t.size
    · obtain ⟨k, rfl⟩ : ∃ k : Nat, a = (k : Int) := ⟨a.toNat, by omega⟩
      have hk : k < t.size := by omega
      have e : b = Lib.runeStart ((t[k]'hk).toNat : Nat) := by
        have e1 : byB (bys t) k = (t[k]'hk).toNat := by
          unfold byB bys
          rw [List.getD_eq_getElem?_getD, List.getElem?_eq_getElem (by simpa using hk)]
          simp [ByteArray.getElem_eq_getElem_data]
        rw [HB.out]
        unfold plB
        rw [Int.toNat_natCast, e1]
        simp [h0, h2, h3]
      have RS := hide (Tryd.utf8_RuneStart ((t[k]'hk).toNat : Nat) w (by omega) (by have := (t[k]'hk).toNat_lt; omega))
      clear HB h0; subst e
      go_enter Tryd.func34, Tryd.ntmps34
      go_wp2_with (go_at_call 51; refine RS.out.mono ?_; rintro e w' ⟨rfl, rfl⟩)
      go_ret
      exact ⟨rfl, rfl⟩
    · have e : b = false := by rw [HB.out]; simp [plB, h0, h3]
      clear HB h0; subst e
      go_enter Tryd.func34, Tryd.ntmps34
      go_wp2
      go_ret
      exact ⟨rfl, rfl⟩
  · have e : b = false := by rw [HB.out]; simp [plB, h0, h2]
    clear HB h0; subst e
    go_enter Tryd.func34, Tryd.ntmps34
    go_wp2
    go_ret
    exact ⟨rfl, rfl⟩
end Go.Proofs.YtkgapklhgkngnaaDoor

namespace Go.Proofs.YtkgapklhgkngnaaDoor
open Go.RowKit

attribute [local go_sem ↓] Go.wp_at_zero Go.wp_at_succ

set_option maxRecDepth 100000 in
set_option maxHeartbeats 4000000 in
theorem mis_any (t : ByteArray) (s : Sp) (g : Nat) (w : World) (hg : w.cell? ⟨g, 0, none⟩ = some (.string t)) :
    Calls Tryd.prog 32 #[.agg #[.int .i64 s.f, .int .i64 s.a, .int .i64 s.b], .pointer (some ⟨g, 0, none⟩)] w fun e w' => e = .returned (.bool (misB t s)) ∧ Below w.heap.size w w' := by
  obtain ⟨f, a, b⟩ := s
  obtain ⟨r, hr⟩ : ∃ r, r = misB t ⟨f, a, b⟩ := ⟨_, rfl⟩
  rw [← hr]
  unfold misB at hr
  simp only [] at hr ⊢
  have hgw : g < w.heap.size := by
    rcases Nat.lt_or_ge g w.heap.size with h' | h'
    · exact h'
    · simp [World.cell?, Array.getElem?_eq_none h'] at hg
  have n1 : ¬ w.heap.size = g := by omega
  have n2 : ¬ g = w.heap.size := by omega

  by_cases h0 : f = 0
  · have h0b : (f == 0) = true := by simpa using h0
    have e : r = true := by rw [hr]; simp [h0]
    subst e
    clear hr h0
    go_enter Tryd.func32, Tryd.ntmps32
    go_wp2_with (first | (go_at_call 33; refine (known_any _ _).mono ?_; rintro e w' ⟨rfl, rfl⟩) | (go_at_call 34; refine (place_any _ _ _).mono ?_; rintro e w' ⟨rfl, rfl⟩))
    go_ret
    exact ⟨rfl, (Below.refl _ _).alloc (Nat.le_refl _) _⟩
  have h0b : (f == 0) = false := by simpa using h0
  rcases Bool.eq_false_or_eq_true (knB f) with k1 | k1
  rotate_left 1
  · have e : r = true := by rw [hr]; simp [h0, k1]
    subst e
    clear hr h0
    go_enter Tryd.func32, Tryd.ntmps32
    go_wp2_with (first | (go_at_call 33; refine (known_any _ _).mono ?_; rintro e w' ⟨rfl, rfl⟩) | (go_at_call 34; refine (place_any _ _ _).mono ?_; rintro e w' ⟨rfl, rfl⟩))
    go_ret
    exact ⟨rfl, (Below.refl _ _).alloc (Nat.le_refl _) _⟩
  rcases Bool.eq_false_or_eq_true (plB t a) with k2 | k2
  rotate_left 1
  · have e : r = true := by rw [hr]; simp [h0, k1, k2]
    subst e
    clear hr h0
    go_enter Tryd.func32, Tryd.ntmps32
    go_wp2_with (first | (go_at_call 33; refine (known_any _ _).mono ?_; rintro e w' ⟨rfl, rfl⟩) | (go_at_call 34; refine (place_any _ _ _).mono ?_; rintro e w' ⟨rfl, rfl⟩))
    go_ret
    exact ⟨rfl, (Below.refl _ _).alloc (Nat.le_refl _) _⟩
  rcases Bool.eq_false_or_eq_true (plB t b) with k3 | k3
  rotate_left 1
  · have e : r = true := by rw [hr]; simp [h0, k1, k2, k3]
    subst e
    clear hr h0
    go_enter Tryd.func32, Tryd.ntmps32
    go_wp2_with (first | (go_at_call 33; refine (known_any _ _).mono ?_; rintro e w' ⟨rfl, rfl⟩) | (go_at_call 34; refine (place_any _ _ _).mono ?_; rintro e w' ⟨rfl, rfl⟩))
    go_ret
    exact ⟨rfl, (Below.refl _ _).alloc (Nat.le_refl _) _⟩
  have e : r = decide (b ≤ a) := by rw [hr]; simp [h0, k1, k2, k3]
  subst e
  clear hr h0
  go_enter Tryd.func32, Tryd.ntmps32
  go_wp2_with (first | (go_at_call 33; refine (known_any _ _).mono ?_; rintro e w' ⟨rfl, rfl⟩) | (go_at_call 34; refine (place_any _ _ _).mono ?_; rintro e w' ⟨rfl, rfl⟩))
  go_ret
  exact ⟨rfl, (Below.refl _ _).alloc (Nat.le_refl _) _⟩
end Go.Proofs.YtkgapklhgkngnaaDoor

namespace Go.Proofs.YtkgapklhgkngnaaDoor
open Go.RowKit

attribute [local go_sem ↓] Go.wp_at_zero Go.wp_at_succ

def SpA (w : World) (b o : Nat) (l : List Sp) : Prop := ∀ i, i < l.length → w.cell? ⟨b, o + i * 3, none⟩ = some (.int .i64 (gN spZ l i).f) ∧ w.cell? ⟨b, o + i * 3 + 1, none⟩ = some (.int .i64 (gN spZ l i).a) ∧ w.cell? ⟨b, o + i * 3 + 2, none⟩ = some (.int .i64 (gN spZ l i).b)
inductive SpV (w : World) (v : Value) (l : List Sp) : Prop where
  | none (ao : Option Addr) (cap : Nat) (hv : v = .slice ao 0 cap) (hl : l = []) : SpV w v l
  | some (b o cap : Nat) (hv : v = .slice (some ⟨b, o, none⟩) l.length cap) (hc : l.length ≤ cap) (hb : b < w.heap.size) (ha : SpA w b o l) : SpV w v l
theorem SpA.below {w w' : World} {b o : Nat} {l : List Sp} (h : SpA w b o l) (hb : b < w.heap.size) (hw : Below w.heap.size w w') : SpA w' b o l := fun i hi => by
  obtain ⟨h0, h1, h2⟩ := h i hi
  exact ⟨(hw.cell (p := ⟨b, o + i * 3, none⟩) hb).trans h0, (hw.cell (p := ⟨b, o + i * 3 + 1, none⟩) hb).trans h1, (hw.cell (p := ⟨b, o + i * 3 + 2, none⟩) hb).trans h2⟩
theorem SpV.below {w w' : World} {v : Value} {l : List Sp} (h : SpV w v l) (hw : Below w.heap.size w w') : SpV w' v l := by
  cases h with
  | none ao cap hv hl => exact .none ao cap hv hl
  | some b o cap hv hc hb ha => exact .some b o cap hv hc (Nat.lt_of_lt_of_le hb hw.size) (ha.below hb hw)
theorem SpV.len {w : World} {v : Value} {l : List Sp} (h : SpV w v l) : ∃ ao cap, v = .slice ao l.length cap := by
  cases h with
  | none ao cap hv hl => subst hl; exact ⟨ao, cap, hv⟩
  | some b o cap hv _ _ _ => exact ⟨_, cap, hv⟩
theorem OwnS.spv {B : Nat} {w : World} {v : Value} {l : List Sp} (h : OwnS B w v l) : SpV w v l := by
  by_cases hl : l.length = 0
  · obtain ⟨ao, cap, rfl⟩ := ownF_slice h
    have hl2 := List.eq_nil_of_length_eq_zero hl
    subst hl2
    exact .none ao cap rfl rfl
  · obtain ⟨g, cap, rfl, _, h2, h3⟩ := ownF_some h hl
    exact .some g 0 cap rfl h3 h2 (fun i hi => by
      obtain ⟨a0, a1, a2⟩ := h.at i hi
      rw [Nat.zero_add]
      exact ⟨a0, a1, a2⟩)

def firM (t : ByteArray) : List Sp → Nat → Int
  | [], _ => -1
  | s :: l, k => if misB t s then (k : Int) else firM t l (k + 1)
theorem firM_any (t : ByteArray) : ∀ (l : List Sp) (k : Nat), decide (0 ≤ firM t l k) = l.any (misB t)
  | [], _ => rfl
  | s :: l, k => by
    rw [firM, List.any_cons]
    cases misB t s
    · rw [if_neg (by simp), firM_any t l (k + 1)]; rfl
    · rw [if_pos rfl, Bool.true_or]; exact decide_eq_true (by omega)

set_option maxRecDepth 100000 in
set_option maxHeartbeats 4000000 in
theorem idxM_any (t : ByteArray) (g : Nat) (v : Value) (l : List Sp) (w : World) (hg : w.cell? ⟨g, 0, none⟩ = some (.string t)) (hv : SpV w v l) (hl : l.length ≤ 140737488355328) :
    Calls Tryd.prog 52 #[v, .func (.func 32) #[] #[.pointer (some ⟨g, 0, none⟩)]] w fun e w' => e = .returned (.int .i64 (firM t l 0)) ∧ Below w.heap.size w w' := by
  have hgw : g < w.heap.size := by
    rcases Nat.lt_or_ge g w.heap.size with h' | h'
    · exact h'
    · simp [World.cell?, Array.getElem?_eq_none h'] at hg
  have HV := hide hv
  obtain ⟨ao, cap, rfl⟩ := hv.len
  obtain ⟨n, hn⟩ : ∃ n, n = l.length := ⟨_, rfl⟩
  obtain ⟨R, hR⟩ : ∃ R, R = firM t l 0 := ⟨_, rfl⟩
  rw [← hn] at hl ⊢
  rw [← hR]
  have HN := hide hn
  have HR := hide hR
  have HG := hide hg
  clear hn hR hv hg
  go_enter Tryd.func52, Tryd.ntmps52
  go_wp2
  go_loopw [8] (fun x wr => ∃ i : Nat, i ≤ n ∧ x = .int .i64 (i : Int) ∧ Hid (firM t (l.drop i) i = R) ∧ Hid (Below w.heap.size w wr)) (fun x _ => n - (intOf x).toNat)
  case atStart => exact ⟨0, Nat.zero_le _, rfl, hide HR.out.symm, Below.refl _ _⟩
  case round =>
    obtain ⟨i, hi, rfl, HF, BB⟩ := hrel
    by_cases hlt : i < n
    · have hlt' : (i : Int) < (n : Int) := by omega
      have hil : i < l.length := by rw [← HN.out]; exact hlt
      have HV2 := HV.out
      rw [← HN.out] at HV2
      cases HV2 with
      | none _ _ _ h => subst h; simp at hil
      | some b o cp hv hc hb ha =>
        rw [← HN.out] at hv
        simp only [Value.slice.injEq] at hv
        obtain ⟨rfl, _, rfl⟩ := hv
        obtain ⟨c0, c1, c2⟩ := (ha.below hb BB.out) i hil
        have ED : l.drop i = gN spZ l i :: l.drop (i + 1) := by rw [List.drop_eq_getElem_cons hil]; congr 1; unfold gN; rw [List.getElem?_eq_getElem hil]; rfl
        have HF2 := HF.out
        rw [ED, firM] at HF2
        generalize gN spZ l i = s at *
        have CM := hide (mis_any t s g wr ((BB.out.cell (p := ⟨g, 0, none⟩) hgw).trans HG.out))
        generalize misB t s = mb at *
        have HF3 := hide HF2
        have HC : Hid ((n : Int) ≤ (cap : Int)) := hide (by have := HN.out; omega)
        clear HF2 ED HF hil ha hb hc
        go_wp2_with fail
        refine CM.out.mono ?_
        rintro e w2 ⟨rfl, hb2⟩
        have B2 := hide (BB.out.trans (hb2.mono BB.out.size))
        clear hb2 CM c0 c1 c2 BB
        cases mb
        · have E1 : Hid (firM t (l.drop (i + 1)) (i + 1) = R) := hide (by rw [← HF3.out]; rfl)
          clear HF3
          go_wp2
          exact ⟨⟨i + 1, by omega, by go_num, E1, B2⟩, by simp [intOf]; omega⟩
        · have E1 : (i : Int) = R := by rw [← HF3.out]; rfl
          clear HF3
          subst E1
          go_wp2
          go_ret
          exact ⟨rfl, B2.out⟩
    · obtain rfl : i = n := by omega
      have hlt' : ¬ (i : Int) < (i : Int) := by omega
      have E1 : R = -1 := by rw [← HF.out, List.drop_eq_nil_of_le (by rw [← HN.out]; exact Nat.le_refl _)]; rfl
      clear HF HR hlt
      subst E1
      go_wp2
      go_ret
      exact ⟨rfl, BB.out⟩
end Go.Proofs.YtkgapklhgkngnaaDoor
