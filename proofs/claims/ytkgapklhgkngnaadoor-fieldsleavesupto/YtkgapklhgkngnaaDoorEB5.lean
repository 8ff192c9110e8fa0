/-
  (*strings.Builder).WriteString at this dump: what it leaves in a builder.
  The building: a strings.Builder at the head of a struct, the spans and the digits behind it; what Len, WriteString and String do.
  The cutter's goTo.
  The building's endDigits and putDigits.
  The building's put.
-/
import Derived.Test.YtkgapklhgkngnaaDoorEOwn
import Derived.Lib.Builder
import Derived.Lib.AppendStr
import Derived.Lib.UnsafeStr
import Derived.Laws.Externs
import Derived.Test.YtkgapklhgkngnaaDoorEB4
namespace Go.Proofs.YtkgapklhgkngnaaDoor
open Go.RowKit

theorem bld_size : (Tryd.prog.info? 58).map (·.size) = some 2 := by kernel_rfl
theorem byte_info : (Tryd.prog.info? 5).map (fun i => (i.zero, i.size, i.bytes)) = some (some (.int .u8 0), 1, 1) := by kernel_rfl

end Go.Proofs.YtkgapklhgkngnaaDoor

namespace Go.Proofs.YtkgapklhgkngnaaDoor
open Go.RowKit

structure KwB (D : Nat) (w w' : World) : Prop where
  bel : Below D w w'
  block : ∀ b, b < w.heap.size → b ≠ D → (∀ cs fz, w.heap[b]? ≠ some (.cells cs 5 fz)) → w'.heap[b]? = w.heap[b]?
theorem KwB.refl (D : Nat) (w : World) : KwB D w w := ⟨Below.refl _ _, fun _ _ _ _ => rfl⟩
theorem KwB.trans {D : Nat} {a b c : World} (h : KwB D a b) (k : KwB D b c) : KwB D a c :=
  ⟨h.bel.trans k.bel, fun i h1 h2 h3 => by
    have e := h.block i h1 h2 h3
    exact (k.block i (Nat.lt_of_lt_of_le h1 h.bel.size) h2 (by rw [e]; exact h3)).trans e⟩
theorem KwB.blk {D : Nat} {a b : World} (h : KwB D a b) {g : Nat} {cs : Array Value} {t : TypeId} (hg : Blk a g cs t) (hn : g ≠ D) (ht : t ≠ 5) : Blk b g cs t := by
  have hlt := hg.lt
  unfold Blk at *
  rw [h.block g hlt hn (fun cs' fz q => by rw [hg] at q; simp at q; exact ht q.2.1)]
  exact hg
theorem KwB.own {D B n k : Nat} {a b : World} {e : TypeId} {v : Value} {xs : List Value} (h : KwB D a b) (ho : a.ownsRow B e k v n xs) (hD : D < B) (ht : e ≠ 5) : b.ownsRow B e k v n xs := by
  refine ⟨ho.1, ?_⟩
  rcases ho.2 with h2 | ⟨g, cap, cur, hv, h3, h4, h5⟩
  · exact .inl h2
  · refine .inr ⟨g, cap, cur, hv, h3, ?_, h5⟩
    rw [h.block g (lt_of_block h4) (by omega) (fun cs' fz q => by rw [h4] at q; simp at q; exact ht q.2.1)]
    exact h4
theorem kwB_set {D i : Nat} (w : World) (v : Value) : KwB D w (w.setCell ⟨D, i, none⟩ v) := by
  refine ⟨(Below.refl _ _).setCell (p := ⟨D, i, none⟩) (Nat.le_refl _) _, fun k _ hk _ => ?_⟩
  have : D ≠ k := fun e => hk e.symm
  simp [World.setCell, Array.getElem?_modify, this]
theorem kwB_grown {D B n : Nat} {w w' : World} {v : Value} {xs : List Value} (h : w.grownBy w' v.ownBlock) (ho : w.ownsRow B 5 1 v n xs) (hD : D ≤ B) (hDw : D ≤ w.heap.size) : KwB D w w' := by
  refine ⟨(Below.refl _ _).grown h hDw (fun q hq => Nat.le_trans hD (World.ownsRow.lt ho q hq).1), fun i h1 _ h3 => h.block i h1 (fun e => ?_)⟩
  rcases ho.2 with ⟨rfl, _⟩ | ⟨g, cap, cur, rfl, _, hh, _⟩
  · simp [Value.ownBlock] at e
  · simp only [Value.ownBlock, Option.some.injEq] at e
    subst e
    exact h3 _ _ hh

structure BgV (w : World) (D : Nat) (l : List UInt8) (sp : List Sp) (dg : Sp) (p v sv : Value) : Prop where
  blk : Blk w D #[p, v, sv, .int .i64 dg.f, .int .i64 dg.a, .int .i64 dg.b] 60
  ptr : p = .pointer none ∨ p = .pointer (some ⟨D, 0, none⟩)
  own : w.ownsRow (D + 1) 5 1 v l.length (Lib.byteCells l)
  nil : l = [] → v = .slice none 0 0
  spn : OwnS (D + 1) w sv sp
theorem BgV.below {w w' : World} {D : Nat} {l : List UInt8} {sp : List Sp} {dg : Sp} {p v sv : Value} (h : BgV w D l sp dg p v sv) (hb : Below w.heap.size w w') : BgV w' D l sp dg p v sv :=
  ⟨h.blk.below hb h.blk.lt, h.ptr, ownF_below h.own hb, h.nil, ownF_below h.spn hb⟩

theorem bg_lies : liesAt Tryd.prog Tryd.prog.depth 60 (6 / Tryd.prog.cellsOf 60) 0 58 1 = true := by kernel_rfl

set_option maxRecDepth 100000 in
set_option maxHeartbeats 1000000 in
theorem bcheck_any {w : World} {D : Nat} {l : List UInt8} {sp : List Sp} {dg : Sp} {p v sv : Value} (h : BgV w D l sp dg p v sv) :
    Calls Tryd.prog 57 #[.pointer (some ⟨D, 0, none⟩)] w fun e w' => e = .returned (.tuple #[]) ∧ BgV w' D l sp dg (.pointer (some ⟨D, 0, none⟩)) v sv ∧ KwB D w w' := by
  have hDw := h.blk.lt
  rcases h.ptr with rfl | rfl
  · have h0 : w.cell? ⟨D, 0, none⟩ = some (.pointer none) := h.blk.cell 0
    have hfz : w.frozen? ⟨D, 0, none⟩ = false := h.blk.free 0
    have hsh : w.shape? D = some (60, 6) := by have h1 := h.blk; unfold Blk at h1; simp [World.shape?, h1]
    obtain ⟨j, hj, hjs⟩ := Option.map_eq_some_iff.1 bld_size
    have k1 := Lib.run_to_unsafe (P := Tryd.prog) w ⟨D, 0, none⟩ Tryd.underlying56 Tryd.underlying114 hj (by rw [hjs]; decide) hsh (Nat.zero_lt_succ 5)
    have k2 := Lib.run_from_unsafe (P := Tryd.prog) w ⟨D, 0, none⟩ Tryd.underlying114 Tryd.underlying56 hj hsh bg_lies
    have H := hide h
    clear h
    go_enter Tryd.func57, Tryd.ntmps57
    go_wp2
    rw [run_callFunc_extern Tryd.func61 (by kernel_rfl) (by kernel_rfl) (by kernel_rfl) (e := Extern.AbiNoEscape.same) (by kernel_rfl), Lib.run_noEscape]
    simp only [Result.andThen]
    rw [Oper.upon_value]
    go_wp2
    go_end0
    exact ⟨rfl, ⟨H.out.blk.setN 0 _, .inr rfl, ownF_set H.out.own (Nat.lt_succ_self D), H.out.nil, ownF_set H.out.spn (Nat.lt_succ_self D)⟩, kwB_set _ _⟩
  · have h0 : w.cell? ⟨D, 0, none⟩ = some (.pointer (some ⟨D, 0, none⟩)) := h.blk.cell 0
    obtain ⟨j, hj, _⟩ := Option.map_eq_some_iff.1 bld_size
    have key := Lib.run_neq_ptr_same (P := Tryd.prog) w ⟨D, 0, none⟩ Tryd.underlying56 hj
    have H := hide h
    clear h
    go_enter Tryd.func57, Tryd.ntmps57
    go_wp2
    go_end0
    exact ⟨rfl, H.out, KwB.refl _ _⟩

set_option maxRecDepth 100000 in
set_option maxHeartbeats 2000000 in
theorem bput_any {w : World} {D : Nat} {l : List UInt8} {sp : List Sp} {dg : Sp} {p v sv : Value} (s : ByteArray) (h : BgV w D l sp dg p v sv) (hs : s.size ≠ 0) (hlen : l.length + s.size ≤ 140737488355328) :
    Calls Tryd.prog 45 #[.pointer (some ⟨D, 0, none⟩), .string s] w fun e w' => e = .returned (.tuple #[.int .i64 s.size, .nilIface]) ∧ (∃ p' v', BgV w' D (l ++ bys s) sp dg p' v' sv) ∧ KwB D w w' := by
  obtain ⟨i0, hi, hz0, hz1, hz2⟩ := info_parts byte_info
  have hDw := h.blk.lt
  have HC := hide (bcheck_any h)
  clear h
  go_enter Tryd.func45, Tryd.ntmps45
  go_wp2_with fail
  refine HC.out.mono ?_
  rintro e w1 ⟨rfl, h1, hk1⟩
  have c0 : w1.cell? ⟨D, 0, none⟩ = some (.pointer (some ⟨D, 0, none⟩)) := h1.blk.cell 0
  have c1 : w1.cell? ⟨D, 1, none⟩ = some v := h1.blk.cell 1
  have hown := h1.own
  have H1 := hide h1
  have HK := hide hk1
  clear h1 hk1 HC
  go_wp2_with (at_builtin; refine Lib.wpList_append_own_string _ rfl _ _ 48 9 rfl (D + 1) 5 i0 Tryd.underlying48 Tryd.underlying9 hi hz0 hz1 hz2 _ _ _ rfl hown s rfl ?c3 ?c4 ?c5 ?_)
  case c3 => unfold maxLen; omega
  case c4 => omega
  case c5 => exact H1.out.blk.lt
  intro v' w2 hown' hgrow _
  have hlt := H1.out.blk.lt
  have K2 := hide (HK.out.trans (kwB_grown hgrow hown (Nat.le_succ D) (Nat.le_of_lt hlt)))
  have hne : v.ownBlock ≠ some D := fun e => by have := (World.ownsRow.lt hown D e).1; omega
  have hb2 : Blk w2 D #[.pointer (some ⟨D, 0, none⟩), v, sv, .int .i64 dg.f, .int .i64 dg.a, .int .i64 dg.b] 60 := by
    have q := H1.out.blk
    unfold Blk at *
    rw [hgrow.block D (lt_of_block q) (fun e => hne e.symm)]; exact q
  have hsp : OwnS (D + 1) w2 sv sp := (kwB_grown hgrow hown (Nat.le_succ D) (Nat.le_of_lt hlt)).own H1.out.spn (Nat.lt_succ_self D) (by decide)
  have d0 : w2.cell? ⟨D, 0, none⟩ = some (.pointer (some ⟨D, 0, none⟩)) := hb2.cell 0
  have d1 : w2.cell? ⟨D, 1, none⟩ = some v := hb2.cell 1
  have f1 : w2.frozen? ⟨D, 1, none⟩ = false := hb2.free 1
  have HB2 := hide hb2
  have HS2 := hide hsp
  obtain ⟨ao, n', cap, rfl⟩ : ∃ ao n' cap, v' = .slice ao n' cap := by
    rcases hown'.2 with ⟨hv, _⟩ | ⟨g, cap, cur, hv, _⟩
    · exact ⟨_, _, _, hv⟩
    · exact ⟨_, _, _, hv⟩
  have HO : Hid (w2.ownsRow (D + 1) 5 1 (.slice ao n' cap) (l ++ bys s).length (Lib.byteCells (l ++ bys s))) := hide (by
    rw [Lib.byteCells_append, List.length_append, bys_len]
    exact hown')
  have HNE : Hid (l ++ bys s ≠ []) := hide (fun e => hs (by
    have := congrArg List.length e
    rw [List.length_append, bys_len, List.length_nil] at this
    omega))
  clear hb2 hown' hgrow hown hsp hlt
  go_wp2
  go_ret2
  exact ⟨rfl, ⟨_, .slice ao n' cap, HB2.out.setN 1 _, .inr rfl, ownF_set HO.out (Nat.lt_succ_self D), fun e => absurd e HNE.out, ownF_set HS2.out (Nat.lt_succ_self D)⟩, K2.out.trans (kwB_set _ _)⟩

set_option maxHeartbeats 1000000 in
theorem blen_any {w : World} {D : Nat} {l : List UInt8} {sp : List Sp} {dg : Sp} {p v sv : Value} (h : BgV w D l sp dg p v sv) :
    Calls Tryd.prog 44 #[.pointer (some ⟨D, 0, none⟩)] w fun e w' => e = .returned (.int .i64 (l.length : Int)) ∧ w' = w := by
  obtain ⟨ao, cap, hv⟩ := ownF_slice h.own
  subst hv
  have c1 := h.blk.cell 1
  obtain ⟨n, hn⟩ : ∃ n, n = l.length := ⟨_, rfl⟩
  rw [← hn] at c1 ⊢
  clear h hn
  go_enter Tryd.func44, Tryd.ntmps44
  go_wp2
  go_ret
  exact ⟨rfl, rfl⟩

theorem kwB_freeze {D g n : Nat} {w : World} {cs : Array Value} {fz : Nat × Nat} (hg : w.heap[g]? = some (.cells cs 5 fz)) (hD : D ≤ g) : KwB D w (w.drew.freeze ⟨g, 0, none⟩ n) := by
  refine ⟨Lib.below_freeze (Below.drew (Below.refl D w)) (p := ⟨g, 0, none⟩) hD _, fun b _ _ h3 => ?_⟩
  have hb : b ≠ g := fun e => by subst e; exact h3 _ _ hg
  have hb2 : ¬ g = b := fun e => hb e.symm
  unfold World.freeze
  split
  · rfl
  · simp only [Array.getElem?_modify, if_neg hb2]
    rfl

set_option maxRecDepth 100000 in
set_option maxHeartbeats 2000000 in
theorem bstr_any {w : World} {D : Nat} {l : List UInt8} {sp : List Sp} {dg : Sp} {p v sv : Value} (h : BgV w D l sp dg p v sv) :
    Calls Tryd.prog 26 #[.pointer (some ⟨D, 0, none⟩)] w fun e w' => e = .returned (.string ⟨l.toArray⟩) ∧ KwB D w w' ∧ w'.heap[D]? = w.heap[D]? := by
  have mixed : Tryd.prog.follows Departure.mixedOrders = true := by kernel_rfl
  by_cases h0 : l = []
  · have hv := h.nil h0
    subst h0
    subst hv
    have c1 : w.drew.cell? ⟨D, 1, none⟩ = some (.slice none 0 0) := h.blk.cell 1
    have hSD : ∀ X, (Builtin.unsafeSliceData_ #[48] 86 #[.slice none 0 0]).run Tryd.prog X = .ok (.pointer none) X := fun X => by kernel_rfl
    have hUS : ∀ X, (Builtin.unsafeString_ #[86, 3] 9 #[.pointer none, .int .i64 0]).run Tryd.prog X = .ok (.string ⟨#[]⟩) X := fun X => by kernel_rfl
    clear h
    go_enter Tryd.func26, Tryd.ntmps26
    go_wp2
    go_region_o
    all_goals (go_wp2; go_ret; exact ⟨rfl, ⟨Below.drew (Below.refl D w), fun _ _ _ _ => rfl⟩, rfl⟩)
  · have hl0 : l.length ≠ 0 := by simpa using h0
    have hown := h.own
    obtain ⟨g, cap, cur, rfl, hbg, hg, hnc, hcm, hcs, htake⟩ : ∃ g cap cur, v = .slice (some ⟨g, 0, none⟩) l.length cap ∧ D + 1 ≤ g ∧ w.heap[g]? = some (.cells cur 5 (0, 0)) ∧ l.length ≤ cap ∧ cap ≤ maxLen ∧ cur.size = cap * 1 ∧ cur.toList.take (l.length * 1) = Lib.byteCells l := by
      rcases hown.2 with ⟨_, hz⟩ | ⟨g, cap, cur, hv, r⟩
      · exact absurd hz hl0
      · exact ⟨g, cap, cur, hv, r⟩
    have c1 : w.drew.cell? ⟨D, 1, none⟩ = some (.slice (some ⟨g, 0, none⟩) l.length cap) := h.blk.cell 1
    have hSD : (Builtin.unsafeSliceData_ #[48] 86 #[.slice (some ⟨g, 0, none⟩) l.length cap]).run Tryd.prog w.drew = .ok (.pointer (some ⟨g, 0, none⟩)) w.drew :=
      Lib.run_unsafeSliceData_row _ _ _ _ _ _ (by omega)
    have hUS : (Builtin.unsafeString_ #[86, 3] 9 #[.pointer (some ⟨g, 0, none⟩), .int .i64 l.length]).run Tryd.prog w.drew = .ok (.string ⟨l.toArray⟩) (w.drew.freeze ⟨g, 0, none⟩ l.length) := by
      refine Lib.run_unsafeString_row w.drew 86 3 9 5 Tryd.underlying86 (by kernel_rfl) g cur.size (by have hg' : w.drew.heap[g]? = some (.cells cur 5 (0, 0)) := hg; simp [World.shape?, hg']) l h0 (by omega) (by unfold maxLen at hcm; omega) ?_
      intro j x hx
      have := hown.cells (g := g) rfl j (.int .u8 x.toNat) (by simp [Lib.byteCells, hx])
      exact this
    have KF := hide (kwB_freeze (D := D) (n := l.length) hg (by omega))
    have KD : Hid ((w.drew.freeze ⟨g, 0, none⟩ l.length).heap[D]? = w.heap[D]?) := hide (by
      have hb2 : ¬ g = D := by omega
      unfold World.freeze
      split
      · rfl
      · simp only [Array.getElem?_modify, if_neg hb2]
        rfl)
    clear hown h htake hg
    go_enter Tryd.func26, Tryd.ntmps26
    go_wp2
    go_region_o
    all_goals (go_wp2; go_ret; exact ⟨rfl, KF.out, KD.out⟩)
end Go.Proofs.YtkgapklhgkngnaaDoor

namespace Go.Proofs.YtkgapklhgkngnaaDoor
open Go.RowKit

def goL (t : ByteArray) (p : Nat) : List Sp → Nat → List Pe → List Pe
  | [], a, lv => cutP t a p 0 lv
  | s :: st, a, lv => if s.b ≤ p then goL t p st s.b.toNat (cutP t a s.b.toNat s.f lv) else cutP t a p s.f lv
def goS (p : Nat) (st : List Sp) : List Sp := st.dropWhile fun s => decide (s.b ≤ p)
theorem cutP_len (t : ByteArray) (a p : Nat) (f : Int) (lv : List Pe) : (cutP t a p f lv).length ≤ lv.length + 1 := by
  unfold cutP
  split
  · omega
  · rw [List.length_append, List.length_singleton]; exact Nat.le_refl _
def EndsOk (t : ByteArray) (a : Nat) (st : List Sp) : Prop := (∀ s ∈ st, (a : Int) ≤ s.b ∧ s.b ≤ t.size) ∧ st.Pairwise fun s u => s.b ≤ u.b
def opLen (D : Nat) (w : World) : Nat := match w.cell? ⟨D, 2, none⟩ with | some v => slLen v | none => 0

theorem bndL {x z C : Nat} (h : z * 24 ≤ C) (hz : x ≤ z) : x * 24 ≤ C := Nat.le_trans (Nat.mul_le_mul_right 24 hz) h
theorem bnd0 {z C : Nat} (h : z * 24 ≤ C) : z ≤ C := Nat.le_trans (Nat.le_mul_of_pos_right z (by decide)) h
theorem bnd1 {x y C : Nat} (h : (x + (y + 1) + 2) * 24 ≤ C) : (x + 1) * 24 ≤ C := bndL h (by omega)
theorem bnd2 {x y z C : Nat} (h : (x + (y + 1) + 2) * 24 ≤ C) (hz : z ≤ x + 1) : (z + y + 2) * 24 ≤ C ∧ y ≤ C := ⟨bndL h (by omega), Nat.le_trans (by omega) (bnd0 h)⟩
structure GoR (D : Nat) (t : ByteArray) (p : Nat) (R : List Pe) (Q : List Sp) (W wr : World) : Prop where
  ex : ∃ (st : List Sp) (a : Nat) (vo vl : Value) (lv : List Pe), CtV wr D t (a : Int) vo st.reverse vl lv ∧ a ≤ p ∧ EndsOk t a st ∧ goL t p st a lv = R ∧ goS p st = Q ∧ (lv.length + st.length + 2) * 24 ≤ 140737488355328 ∧ st.length ≤ 140737488355328 ∧ Below D W wr ∧ KwP D W wr

set_option maxRecDepth 100000 in
set_option maxHeartbeats 8000000 in
theorem goTo_any {w : World} {D : Nat} {t : ByteArray} {vo vl : Value} {st : List Sp} {lv : List Pe} (a p : Nat) (h : CtV w D t (a : Int) vo st.reverse vl lv) (hap : a ≤ p) (hp : p ≤ t.size) (he : EndsOk t a st) (hv : (lv.length + st.length + 2) * 24 ≤ 140737488355328) (hl : st.length ≤ 140737488355328) :
    Calls Tryd.prog 40 #[.pointer (some ⟨D, 0, none⟩), .int .i64 (p : Int)] w fun e w' => e = .returned (.tuple #[]) ∧ Hid (∃ vo' vl', CtV w' D t (p : Int) vo' (goS p st).reverse vl' (goL t p st a lv)) ∧ Below D w w' ∧ KwP D w w' := by
  obtain ⟨R, hR⟩ : ∃ R, R = goL t p st a lv := ⟨_, rfl⟩
  obtain ⟨Q, hQ⟩ : ∃ Q, Q = goS p st := ⟨_, rfl⟩
  rw [← hR, ← hQ]
  have H0 : Hid (GoR D t p R Q w w) := hide ⟨st, a, vo, vl, lv, h, hap, he, hR.symm, hQ.symm, hv, hl, Below.refl _ _, KwP.refl _ _⟩
  clear h hap he hR hQ hv hl
  go_enter Tryd.func40, Tryd.ntmps40
  go_wp2_with fail
  go_loopw [4] (fun _ wr => Hid (GoR D t p R Q w wr)) (fun _ wr => opLen D wr)
  case atStart => exact H0
  case round =>
    clear H0
    obtain ⟨st, a, vo, vl, lv, h, hap, he, hR, hQ, hv, hl, hW, hWp⟩ := hrel.out.ex
    have HW := hide hW
    have HWP := hide hWp
    have hDw := h.blk.lt
    have c2 := h.blk.cell 2
    cases st with
    | nil =>
      obtain ⟨xo, xc, rfl⟩ : ∃ xo xc, vo = Value.slice xo 0 xc := ownF_slice h.op
      have CC := hide (cut_any a p h hap hp (by simp) (by simp at hv; omega))
      have ER : Hid (cutP t a p (innS ([] : List Sp).reverse).f lv = R ∧ ([] : List Sp) = Q) := hide ⟨hR, hQ⟩
      clear h hap he hR hQ hv hl hW hWp hrel
      go_wp2_with fail
      refine CC.out.mono ?_
      rintro e w2 ⟨rfl, k1, k2, k3⟩
      have K1 := hide k1.out
      have K2 := hide (HW.out.trans k2)
      have K3 := hide (HWP.out.trans k3)
      clear k1 k2 k3 CC
      go_wp2
      go_end0
      obtain ⟨vl', q⟩ := K1.out
      rw [ER.out.1, ER.out.2] at q
      exact ⟨rfl, hide ⟨_, vl', by rw [← ER.out.2]; rw [← ER.out.2] at q; exact q⟩, K2.out, K3.out⟩
    | cons s st =>
      obtain ⟨sf, sa, sb⟩ := s
      obtain ⟨b, rfl⟩ : ∃ b : Nat, sb = (b : Int) := ⟨sb.toNat, by have := (he.1 ⟨sf, sa, sb⟩ (List.mem_cons_self ..)).1; simp only [] at this; omega⟩
      have hab : a ≤ b ∧ b ≤ t.size := by have := he.1 ⟨sf, sa, (b : Int)⟩ (List.mem_cons_self ..); simp only [] at this; omega
      have e0 : ((⟨sf, sa, (b : Int)⟩ : Sp) :: st).reverse = st.reverse ++ [⟨sf, sa, (b : Int)⟩] := by simp
      rw [e0] at h
      obtain ⟨m, hm⟩ : ∃ m, m = st.length := ⟨_, rfl⟩
      have hl2 : (st.reverse ++ [(⟨sf, sa, (b : Int)⟩ : Sp)]).length = m + 1 := by simp [hm]
      obtain ⟨N, hN⟩ : ∃ N, N = m + 1 := ⟨_, rfl⟩
      obtain ⟨g, xc, hv2, hg1, hg2, hg3⟩ := ownF_some h.op (by rw [hl2]; omega)
      rw [hl2, ← hN] at hv2 hg3
      subst hv2
      have hsl : m + 1 ≤ 140737488355328 := by rw [List.length_cons, ← hm] at hl; exact hl
      have hIL : (st.reverse ++ [(⟨sf, sa, (b : Int)⟩ : Sp)]).length ≤ 140737488355328 := by rw [hl2]; exact hsl
      have k1 : IntKind.i64.wrap ((N : Int) - 1) = (m : Int) := by rw [show (N : Int) - 1 = (m : Int) by omega]; exact IntWalk.i64_in _ (by omega)
      have k3 : 0 < N := by omega
      have k4 : (m : Int) ≤ (xc : Int) := by omega
      have CI : Hid (∀ X, Below wr.heap.size wr X → Calls Tryd.prog 55 #[.pointer (some ⟨D, 0, none⟩)] X fun e w' => e = .returned (.agg #[.int .i64 sf, .int .i64 sa, .int .i64 (b : Int)]) ∧ Below wr.heap.size wr w') := hide (fun X hX => by
        refine (inner_any (h.below hX) hIL).mono ?_
        rintro e w' ⟨q1, q2⟩
        rw [innS_snoc] at q1
        exact ⟨q1, hX.trans (q2.mono hX.size)⟩)
      have TF := field_sp2 sf sa (b : Int)
      have hnb : ¬ (b : Int) ≤ (p : Int) → goL t p (⟨sf, sa, (b : Int)⟩ :: st) a lv = cutP t a p sf lv ∧ goS p (⟨sf, sa, (b : Int)⟩ :: st) = ⟨sf, sa, (b : Int)⟩ :: st := fun hb => ⟨by rw [goL, if_neg hb], by unfold goS; rw [List.dropWhile_cons, if_neg (by simpa using hb)]⟩
      have HNB := hide hnb
      clear hnb
      have H0 := hide h
      have HV : Hid ((lv.length + (m + 1) + 2) * 24 ≤ 140737488355328) := hide (by rw [List.length_cons, ← hm] at hv; exact hv)
      have HG : Hid (goL t p (⟨sf, sa, (b : Int)⟩ :: st) a lv = R ∧ goS p (⟨sf, sa, (b : Int)⟩ :: st) = Q) := hide ⟨hR, hQ⟩
      have HE := hide he
      have HM := hide hm
      have HNN := hide hN
      have C1 := hide (CI.out wr (Below.refl _ _))
      have EN : Hid (opLen D wr = N) := hide (by unfold opLen; rw [show wr.cell? ⟨D, 2, none⟩ = some (.slice (some ⟨g, 0, none⟩) N xc) from c2]; rfl)
      have HIL := hide hIL
      have HV1 : Hid ((lv.length + 1) * 24 ≤ 140737488355328) := hide (bnd1 hv)
      clear h he hR hQ hv hl hW hWp hrel e0 hl2 hm hN hIL hsl hg1 hg2 hg3
      by_cases hbp : (b : Int) ≤ (p : Int)
      · have hbp2 : b ≤ p := by omega
        go_wp2_with fail
        refine C1.out.mono ?_
        rintro e w1 ⟨rfl, hb1⟩
        have C2 := hide (CI.out w1 hb1)
        clear hb1 C1 CI c2
        go_wp2_with fail
        refine C2.out.mono ?_
        rintro e w2 ⟨rfl, hb2⟩
        have H2 := hide (H0.out.below hb2)
        have B2 := hide hb2
        have CC := hide (cut_any a b H2.out hab.1 hab.2 HIL.out HV1.out)
        clear hb2 C2 H0
        go_wp2_with fail
        refine CC.out.mono ?_
        rintro e w3 ⟨rfl, k1', k2', k3'⟩
        obtain ⟨vl2, h3⟩ := k1'.out
        rw [innS_snoc] at h3
        have d2 := h3.blk.cell 2
        have f2 := h3.blk.free 2
        have H3 := hide h3
        have B3 := hide ((HW.out.trans (B2.out.mono (Nat.le_of_lt hDw))).trans k2')
        have P3 := hide ((HWP.out.trans (KwP.of_below B2.out)).trans k3')
        clear k1' k2' k3' CC H2 B2 h3 HW TF
        go_wp2_with fail
        go_region
        have bk := H3.out.blk.setN 2 (.slice (some ⟨g, 0, none⟩) m xc)
        have oo := H3.out.op
        rw [HNN.out] at oo
        have oc := OwnS.cut oo (by rw [List.length_reverse]; exact HM.out.symm)
        have E4 : Hid (GoR D t p R Q w (w3.setCell ⟨D, 2, none⟩ (.slice (some ⟨g, 0, none⟩) m xc)).drew) := hide ⟨st, b, _, vl2, cutP t a b sf lv, ⟨bk, ownF_set oc (Nat.lt_succ_self D), ownF_set H3.out.lv (Nat.lt_succ_self D)⟩, hbp2, ⟨fun s hs => ⟨(List.pairwise_cons.1 HE.out.2).1 s hs, (HE.out.1 s (List.mem_cons_of_mem _ hs)).2⟩, (List.pairwise_cons.1 HE.out.2).2⟩, by
          have q := HG.out.1
          rw [goL, if_pos hbp] at q
          exact q, by
          have q := HG.out.2
          unfold goS at q
          rw [List.dropWhile_cons, if_pos (by simpa using hbp)] at q
          exact q, (by have q := bnd2 HV.out (cutP_len t a b sf lv); rw [HM.out] at q; exact q.1), (by have q := bnd2 HV.out (cutP_len t a b sf lv); rw [HM.out] at q; exact q.2), (B3.out.setCell (p := ⟨D, 2, none⟩) (Nat.le_refl _) _).drew, (P3.out.set _).drew⟩
        have EL : Hid (opLen D (w3.setCell ⟨D, 2, none⟩ (.slice (some ⟨g, 0, none⟩) m xc)).drew = m ∧ opLen D wr = N) := hide ⟨by
          have q : (w3.setCell ⟨D, 2, none⟩ (.slice (some ⟨g, 0, none⟩) m xc)).drew.cell? ⟨D, 2, none⟩ = some (.slice (some ⟨g, 0, none⟩) m xc) := bk.cell 2
          unfold opLen; rw [q]; rfl, EN.out⟩
        clear bk oo oc d2 f2 H3 B3 HG HE k1 k4
        go_wp2
        exact ⟨E4, by rw [EL.out.1, EL.out.2]; have := HNN.out; omega⟩
      · have hbp2 : ¬ b ≤ p := by omega
        go_wp2_with fail
        refine C1.out.mono ?_
        rintro e w1 ⟨rfl, hb1⟩
        have H2 := hide (H0.out.below hb1)
        have B2 := hide (HW.out.trans (hb1.mono (Nat.le_of_lt hDw)))
        have P2 := hide (HWP.out.trans (KwP.of_below hb1))
        have CC := hide (cut_any a p H2.out hap hp HIL.out HV1.out)
        have ER : Hid (cutP t a p (innS (st.reverse ++ [⟨sf, sa, (b : Int)⟩])).f lv = R ∧ (⟨sf, sa, (b : Int)⟩ : Sp) :: st = Q) := hide ⟨by rw [innS_snoc, ← HG.out.1, (HNB.out (by omega)).1], by rw [← HG.out.2, (HNB.out (by omega)).2]⟩
        clear hb1 C1 CI c2 H0 HG HE HW
        go_wp2_with fail
        refine CC.out.mono ?_
        rintro e w2 ⟨rfl, k1', k2', k3'⟩
        have K1 := hide k1'.out
        have K2 := hide (B2.out.trans k2')
        have K3 := hide (P2.out.trans k3')
        clear k1' k2' k3' CC
        go_wp2
        go_end0
        obtain ⟨vl', q⟩ := K1.out
        rw [ER.out.1] at q
        exact ⟨rfl, hide ⟨_, vl', by rw [← ER.out.2, List.reverse_cons]; exact q⟩, K2.out, K3.out⟩
end Go.Proofs.YtkgapklhgkngnaaDoor

namespace Go.Proofs.YtkgapklhgkngnaaDoor
open Go.RowKit

attribute [local go_sem ↓] Go.wp_at_zero Go.wp_at_succ

theorem OthF.grown {D : Nat} {r : Option Nat} {w w' w'' : World} (h : OthF D r w w') (hg : w'.grownBy w'' r) : OthF D r w w'' :=
  ⟨Nat.le_trans h.1 hg.size, fun b h1 h2 h3 => by rw [hg.block b (Nat.lt_of_lt_of_le h1 h.1) h3]; exact h.2 b h1 h2 h3⟩
theorem OthF.set {D i : Nat} {r : Option Nat} {w w' : World} (h : OthF D r w w') (v : Value) : OthF D r w (w'.setCell ⟨D, i, none⟩ v) := h.only ((OnlyB.refl D w').set _ _) (.inl rfl)
theorem OthF.drew {D : Nat} {r : Option Nat} {w w' : World} (h : OthF D r w w') : OthF D r w w'.drew := h

theorem BgV.grown {X w4 : World} {D : Nat} {l : List UInt8} {sp : List Sp} {dg s : Sp} {p v sv : Value} (h : BgV X D l sp dg p v sv) (hg : (X.alloc (.cells #[.int .i64 s.f, .int .i64 s.a, .int .i64 s.b] 31)).grownBy w4 sv.ownBlock) :
    Blk w4 D #[p, v, sv, .int .i64 dg.f, .int .i64 dg.a, .int .i64 dg.b] 60 ∧ w4.ownsRow (D + 1) 5 1 v l.length (Lib.byteCells l) ∧ Below D X w4 ∧ OthF D sv.ownBlock X w4 := by
  have AB : Below X.heap.size X (X.alloc (.cells #[.int .i64 s.f, .int .i64 s.a, .int .i64 s.b] 31)) := (Below.refl _ _).alloc (Nat.le_refl _) _
  have h2 := h.below AB
  have hDX := h.blk.lt
  have hlo : ∀ q, sv.ownBlock = some q → D + 1 ≤ q := fun q hq => (World.ownsRow.lt h2.spn q hq).1
  refine ⟨?_, ⟨h2.own.1, ?_⟩, (AB.mono (Nat.le_of_lt hDX)).grown hg (by have := h2.blk.lt; omega) (fun q hq => by have := hlo q hq; omega), ((OthF.refl D _ X).below AB).grown hg⟩
  · have q := h2.blk
    unfold Blk at *
    rw [hg.block D (lt_of_block q) (fun e => by have := hlo D e.symm; omega)]
    exact q
  · rcases h2.own.2 with h3 | ⟨g, cap, cur, hv, h4, h5, h6⟩
    · exact .inl h3
    · refine .inr ⟨g, cap, cur, hv, h4, ?_, h6⟩
      rw [hg.block g (lt_of_block h5) (fun e => own_apartF h2.own h2.spn (by decide) g (by rw [hv]; rfl) e.symm)]
      exact h5

structure ScB (g0 o0 : Nat) (s : Sp) (w : World) : Prop where
  c0 : w.cell? ⟨g0, o0, none⟩ = some (.int .i64 s.f)
  c1 : w.cell? ⟨g0, o0 + 1, none⟩ = some (.int .i64 s.a)
  c2 : w.cell? ⟨g0, o0 + 2, none⟩ = some (.int .i64 s.b)
theorem ScB.below {g0 o0 : Nat} {s : Sp} {w w' : World} (h : ScB g0 o0 s w) (hb : Below w.heap.size w w') : ScB g0 o0 s w' := by
  have hD : g0 < w.heap.size := by
    rcases Nat.lt_or_ge g0 w.heap.size with h' | h'
    · exact h'
    · have := h.c0
      simp [World.cell?, Array.getElem?_eq_none h'] at this
  exact ⟨(hb.cell (p := ⟨g0, o0, none⟩) hD).trans h.c0, (hb.cell (p := ⟨g0, o0 + 1, none⟩) hD).trans h.c1, (hb.cell (p := ⟨g0, o0 + 2, none⟩) hD).trans h.c2⟩
theorem news_sp (s : Sp) (X : World) : ∀ (j : Nat) (u : Value), ([.int .i64 s.f, .int .i64 s.a, .int .i64 s.b] : List Value)[j]? = some u → (X.alloc (.cells #[.int .i64 s.f, .int .i64 s.a, .int .i64 s.b] 31)).cell? ((⟨X.heap.size, 0, none⟩ : Addr).add j) = some u := by
  have q : (X.alloc (.cells #[.int .i64 s.f, .int .i64 s.a, .int .i64 s.b] 31)).heap[X.heap.size]? = some (.cells #[.int .i64 s.f, .int .i64 s.a, .int .i64 s.b] 31 (0, 0)) := heap_alloc_new X _
  exact World.news_of_block q
theorem one_sp (s : Sp) : ∀ u ∈ ([.int .i64 s.f, .int .i64 s.a, .int .i64 s.b] : List Value), u.oneCell' = true := fun u hu => by
  simp only [List.mem_cons, List.not_mem_nil, or_false] at hu
  rcases hu with rfl | rfl | rfl <;> rfl

def endS (sp : List Sp) (dg : Sp) : List Sp := if 0 < dg.b then sp ++ [dg] else sp
def spN : Sp := ⟨0, 0, 0⟩

set_option maxRecDepth 100000 in
set_option maxHeartbeats 8000000 in
theorem endD_any {w : World} {D : Nat} {l : List UInt8} {sp : List Sp} {dg : Sp} {p v sv : Value} (h : BgV w D l sp dg p v sv) (hl : (sp.length + 1) * 24 ≤ 140737488355328) :
    Calls Tryd.prog 25 #[.pointer (some ⟨D, 0, none⟩)] w fun e w' => e = .returned (.tuple #[]) ∧ Hid (∃ sv', BgV w' D l (endS sp dg) spN p v sv' ∧ ∀ q, sv'.ownBlock = some q → sv.ownBlock = some q ∨ w.heap.size ≤ q) ∧ Below D w w' ∧ OthF D sv.ownBlock w w' := by
  have hDw := h.blk.lt
  have c5 : w.cell? ⟨D, 5, none⟩ = some (.int .i64 dg.b) := h.blk.cell 5
  have f3 := h.blk.free 3
  have f4 := h.blk.free 4
  have f5 := h.blk.free 5
  have c3 : w.cell? ⟨D, 3, none⟩ = some (.int .i64 dg.f) := h.blk.cell 3
  have c4 : w.cell? ⟨D, 4, none⟩ = some (.int .i64 dg.a) := h.blk.cell 4
  unfold endS
  by_cases h0 : 0 < dg.b
  · rw [if_pos h0]
    obtain ⟨i0, hi, hz0, hz1, hz2⟩ := info_parts infoSp
    obtain ⟨so, sc, rfl⟩ := ownF_slice h.spn
    obtain ⟨n, hn⟩ : ∃ n, n = sp.length := ⟨_, rfl⟩
    obtain ⟨xs, hxs⟩ : ∃ xs, xs = cellsS sp := ⟨_, rfl⟩
    have HX : Hid (n + 1 = (sp ++ [dg]).length ∧ xs ++ [.int .i64 dg.f, .int .i64 dg.a, .int .i64 dg.b] = cellsS (sp ++ [dg])) := hide ⟨by rw [hn]; simp, by rw [hxs, cellsS_app]; rfl⟩
    rw [← hn] at hl h ⊢
    have hl2 : n + 1 ≤ maxLen := by unfold maxLen; exact Nat.le_trans (bnd0 hl) (by decide)
    have c2 : w.cell? ⟨D, 2, none⟩ = some (.slice so n sc) := h.blk.cell 2
    have s0 : ScB D 3 dg w.drew := ⟨c3, c4, c5⟩
    have HB := hide (show BgV w.drew D l sp dg p v (.slice so n sc) from h.below (Below.refl _ _).drew)
    have OW : Hid ((w.drew.alloc (.cells #[.int .i64 dg.f, .int .i64 dg.a, .int .i64 dg.b] 31)).ownsRow (D + 1) 31 3 (.slice so n sc) n xs) := hide (by rw [hn, hxs]; have q := (HB.out.below ((Below.refl _ _).alloc (Nat.le_refl _) (.cells #[.int .i64 dg.f, .int .i64 dg.a, .int .i64 dg.b] 31))).spn; rw [hn] at q; exact q)
    have BASE : Hid (D + 1 ≤ (w.drew.alloc (.cells #[.int .i64 dg.f, .int .i64 dg.a, .int .i64 dg.b] 31)).heap.size) := hide (by simp; omega)
    have HDX := hide (show D < w.drew.heap.size from hDw)
    clear h hn hxs
    go_enter Tryd.func25, Tryd.ntmps25
    go_wp2_with fail
    refine wp_region_held_drew (S := (ScB D 3 dg)) (by kernel_rfl) ?_ (fun hHeld => ?_)
    · exact s0
    refine wpAnyH_take (i := 0) (oi := Oper.mk (some 8) _ _ _ _ _) (v := .pointer (some ⟨D, 0, none⟩)) rfl (by kernel_rfl) (by kernel_rfl) (by kernel_rfl) (fun _ _ _ h => h) (Or.inl ⟨by rfl, ?_⟩) (by assumption) ?_
    · intro wX hSw
      (try dsimp only at hSw)
      go_simp
    simp only [Act.put, List.setIfInBounds_toArray, List.set_cons_succ, List.set_cons_zero]
    refine wpAnyH_take (i := 1) (oi := Oper.mk (some 9) _ _ _ _ _) (v := .pointer (some ⟨D, 0, none⟩)) rfl (by kernel_rfl) (by kernel_rfl) (by kernel_rfl) (fun _ _ _ h => h) (Or.inl ⟨by rfl, ?_⟩) (by assumption) ?_
    · intro wX hSw
      (try dsimp only at hSw)
      go_simp
    simp only [Act.put, List.setIfInBounds_toArray, List.set_cons_succ, List.set_cons_zero]
    refine wpAnyH_take (i := 2) (oi := Oper.mk (some 10) _ _ _ _ _) (v := .pointer (some ⟨D, 0, none⟩)) rfl (by kernel_rfl) (by kernel_rfl) (by kernel_rfl) (fun _ _ _ h => h) (Or.inl ⟨by rfl, ?_⟩) (by assumption) ?_
    · intro wX hSw
      (try dsimp only at hSw)
      go_simp
    simp only [Act.put, List.setIfInBounds_toArray, List.set_cons_succ, List.set_cons_zero]
    refine wpAnyH_take (i := 3) (oi := Oper.mk (some 11) _ _ _ _ _) (v := .pointer (some ⟨D, 2, none⟩)) rfl (by kernel_rfl) (by kernel_rfl) (by kernel_rfl) (fun _ _ _ h => h) (Or.inl ⟨by rfl, ?_⟩) (by assumption) ?_
    · intro wX hSw
      (try dsimp only at hSw)
      go_simp
    simp only [Act.put, List.setIfInBounds_toArray, List.set_cons_succ, List.set_cons_zero]
    refine wpAnyH_take (i := 5) (oi := Oper.mk (some 13) _ _ _ _ _) (v := .pointer (some ⟨D, 0, none⟩)) rfl (by kernel_rfl) (by kernel_rfl) (by kernel_rfl) (fun _ _ _ h => h) (Or.inl ⟨by rfl, ?_⟩) (by assumption) ?_
    · intro wX hSw
      (try dsimp only at hSw)
      go_simp
    simp only [Act.put, List.setIfInBounds_toArray, List.set_cons_succ, List.set_cons_zero]
    refine wpAnyH_take (i := 6) (oi := Oper.mk (some 14) _ _ _ _ _) (v := .pointer (some ⟨D, 0, none⟩)) rfl (by kernel_rfl) (by kernel_rfl) (by kernel_rfl) (fun _ _ _ h => h) (Or.inl ⟨by rfl, ?_⟩) (by assumption) ?_
    · intro wX hSw
      (try dsimp only at hSw)
      go_simp
    simp only [Act.put, List.setIfInBounds_toArray, List.set_cons_succ, List.set_cons_zero]
    refine wpAnyH_take (i := 7) (oi := Oper.mk (some 15) _ _ _ _ _) (v := .pointer (some ⟨D, 3, none⟩)) rfl (by kernel_rfl) (by kernel_rfl) (by kernel_rfl) (fun _ _ _ h => h) (Or.inl ⟨by rfl, ?_⟩) (by assumption) ?_
    · intro wX hSw
      (try dsimp only at hSw)
      go_simp
    simp only [Act.put, List.setIfInBounds_toArray, List.set_cons_succ, List.set_cons_zero]
    refine wpAnyH_take (i := 8) (oi := Oper.mk (some 16) _ _ _ _ _) (v := .agg #[.int .i64 dg.f, .int .i64 dg.a, .int .i64 dg.b]) rfl (by kernel_rfl) (by kernel_rfl) (by kernel_rfl) (fun _ _ _ h => h) (Or.inl ⟨by rfl, ?_⟩) (by assumption) ?_
    · intro wX hSw
      (try dsimp only at hSw)
      obtain ⟨q0, q1, q2⟩ := hSw
      go_simp
    simp only [Act.put, List.setIfInBounds_toArray, List.set_cons_succ, List.set_cons_zero]
    refine wpAnyH_ready (rs := [4, 9]) (by kernel_rfl) (by simp) ?_
    refine AllReadyH.cons (o := Oper.mk (some 12) _ _ _ _ _) rfl (fun K hK => ?_) (AllReadyH.cons (o := Oper.mk (some 17) _ _ _ _ _) rfl (fun K hK => ?_) AllReadyH.nil)
    · go_simp
      refine hK.out _ _ ?_ (fun hHeld => ?_)
      · assumption
      clear hK K
      refine wpAnyH_ready (rs := [9]) (by kernel_rfl) (by simp) ?_
      refine AllReadyH.cons (o := Oper.mk (some 17) _ _ _ _ _) rfl (fun K hK => ?_) AllReadyH.nil
      go_simp
      refine hK.out _ _ ?_ (fun hHeld => ?_)
      · exact (ScB.below s0 ((Below.refl _ _).alloc (Nat.le_refl _) _))
      clear hK K
      refine wpAnyH_ready (rs := [10]) (by kernel_rfl) (by simp) ?_
      refine AllReadyH.cons (o := Oper.mk (some 18) _ _ _ _ _) rfl (fun K hK => ?_) AllReadyH.nil
      refine step_append_lies _ (by rfl) _ _ _ (by rfl) (D + 1) 31 i0 (.agg #[.int .i64 0, .int .i64 0, .int .i64 0]) 3 24 Tryd.underlying23 hi hz0 hz1 hz2 rfl (by decide) (.slice so n sc) n xs (by rfl) OW.out ⟨w.drew.heap.size, 0, none⟩ 1 1 [.int .i64 dg.f, .int .i64 dg.a, .int .i64 dg.b] (by rfl) rfl (news_sp dg _) (one_sp dg) (by decide) hl2 hl BASE.out _ rfl ?_
      intro g cp w4 hown hgr hat hlt
      obtain ⟨GX, GO, GL, GF⟩ := HB.out.grown (s := dg) hgr
      have y2 := GX.cell 2
      have y3 := GX.free 2
      have GX2 := hide GX
      have GO2 := hide GO
      have GL2 := hide GL
      have GF2 := hide GF
      have HO2 := hide hown
      have HAT := hide hat
      have y5 : w4.cell? ⟨D, 3, none⟩ = some (.int .i64 dg.f) := GX.cell 3
      have y6 : w4.cell? ⟨D, 4, none⟩ = some (.int .i64 dg.a) := GX.cell 4
      have y7 : w4.cell? ⟨D, 5, none⟩ = some (.int .i64 dg.b) := GX.cell 5
      have z5 := GX.free 3
      have z6 := GX.free 4
      have z7 := GX.free 5
      clear hgr hat hlt GX GO GL GF hown
      refine hK.out _ _ ?_ (fun hHeld => ?_)
      · exact ⟨y5, y6, y7⟩
      clear hK K
      refine wpAnyH_take (i := 11) (oi := Oper.mk (some 19) _ _ _ _ _) (v := .pointer (some ⟨D, 0, none⟩)) rfl (by kernel_rfl) (by kernel_rfl) (by kernel_rfl) (fun _ _ _ h => h) (Or.inl ⟨by rfl, ?_⟩) (by assumption) ?_
      · intro wX hSw
        (try dsimp only at hSw)
        go_simp
      simp only [Act.put, List.setIfInBounds_toArray, List.set_cons_succ, List.set_cons_zero]
      refine wpAnyH_take (i := 12) (oi := Oper.mk (some 20) _ _ _ _ _) (v := .pointer (some ⟨D, 2, none⟩)) rfl (by kernel_rfl) (by kernel_rfl) (by kernel_rfl) (fun _ _ _ h => h) (Or.inl ⟨by rfl, ?_⟩) (by assumption) ?_
      · intro wX hSw
        (try dsimp only at hSw)
        go_simp
      simp only [Act.put, List.setIfInBounds_toArray, List.set_cons_succ, List.set_cons_zero]
      refine wpAnyH_ready (rs := [13]) (by kernel_rfl) (by simp) ?_
      refine AllReadyH.cons (o := Oper.mk none _ _ _ _ _) rfl (fun K hK => ?_) AllReadyH.nil
      go_simp
      refine hK.out _ _ ?_ (fun hHeld => ?_)
      · exact ⟨by simp [go_sem, y5], by simp [go_sem, y6], by simp [go_sem, y7]⟩
      clear hK K
      refine wpAnyH_done (by kernel_rfl) ?_ _
      clear hHeld
      go_wp2
      go_end0
      have BK := (((GX2.out.setN 2 (.slice (some ⟨g, 0, none⟩) (n + 1) cp)).setN 3 (.int .i64 0)).setN 4 (.int .i64 0)).setN 5 (.int .i64 0)
      refine ⟨rfl, hide ⟨.slice (some ⟨g, 0, none⟩) (n + 1) cp, ⟨BK, HB.out.ptr, ownF_set (ownF_set (ownF_set (ownF_set GO2.out (Nat.lt_succ_self D)) (Nat.lt_succ_self D)) (Nat.lt_succ_self D)) (Nat.lt_succ_self D), HB.out.nil, ?_⟩, fun q hq => ?_⟩, (((((Below.refl D w).drew.trans GL2.out).setCell (p := ⟨D, 2, none⟩) (Nat.le_refl _) _).setCell (p := ⟨D, 3, none⟩) (Nat.le_refl _) _).setCell (p := ⟨D, 4, none⟩) (Nat.le_refl _) _).setCell (p := ⟨D, 5, none⟩) (Nat.le_refl _) _, ((((OthF.trans (OthF.refl D _ w).drew GF2.out).set _).set _).set _).set _⟩
      · unfold OwnS
        rw [← HX.out.1, ← HX.out.2]
        exact ownF_set (ownF_set (ownF_set (ownF_set HO2.out (Nat.lt_succ_self D)) (Nat.lt_succ_self D)) (Nat.lt_succ_self D)) (Nat.lt_succ_self D)
      · obtain rfl : g = q := by simpa [Value.ownBlock] using hq
        rcases HAT.out with e | e
        · exact .inl e
        · refine .inr ?_
          rw [e]
          exact ((Below.refl w.heap.size w.drew).alloc (Nat.le_refl _) _).size
    · go_simp
      refine hK.out _ _ ?_ (fun hHeld => ?_)
      · exact (ScB.below s0 ((Below.refl _ _).alloc (Nat.le_refl _) _))
      clear hK K
      refine wpAnyH_ready (rs := [4]) (by kernel_rfl) (by simp) ?_
      refine AllReadyH.cons (o := Oper.mk (some 12) _ _ _ _ _) rfl (fun K hK => ?_) AllReadyH.nil
      have c2a : (w.drew.alloc (.cells #[.int .i64 dg.f, .int .i64 dg.a, .int .i64 dg.b] 31)).cell? ⟨D, 2, none⟩ = some (.slice so n sc) := (((Below.refl w.drew.heap.size w.drew).alloc (Nat.le_refl _) _).cell (p := ⟨D, 2, none⟩) HDX.out).trans c2
      go_simp
      refine hK.out _ _ ?_ (fun hHeld => ?_)
      · assumption
      clear hK K
      refine wpAnyH_ready (rs := [10]) (by kernel_rfl) (by simp) ?_
      refine AllReadyH.cons (o := Oper.mk (some 18) _ _ _ _ _) rfl (fun K hK => ?_) AllReadyH.nil
      refine step_append_lies _ (by rfl) _ _ _ (by rfl) (D + 1) 31 i0 (.agg #[.int .i64 0, .int .i64 0, .int .i64 0]) 3 24 Tryd.underlying23 hi hz0 hz1 hz2 rfl (by decide) (.slice so n sc) n xs (by rfl) OW.out ⟨w.drew.heap.size, 0, none⟩ 1 1 [.int .i64 dg.f, .int .i64 dg.a, .int .i64 dg.b] (by rfl) rfl (news_sp dg _) (one_sp dg) (by decide) hl2 hl BASE.out _ rfl ?_
      intro g cp w4 hown hgr hat hlt
      obtain ⟨GX, GO, GL, GF⟩ := HB.out.grown (s := dg) hgr
      have y2 := GX.cell 2
      have y3 := GX.free 2
      have GX2 := hide GX
      have GO2 := hide GO
      have GL2 := hide GL
      have GF2 := hide GF
      have HO2 := hide hown
      have HAT := hide hat
      have y5 : w4.cell? ⟨D, 3, none⟩ = some (.int .i64 dg.f) := GX.cell 3
      have y6 : w4.cell? ⟨D, 4, none⟩ = some (.int .i64 dg.a) := GX.cell 4
      have y7 : w4.cell? ⟨D, 5, none⟩ = some (.int .i64 dg.b) := GX.cell 5
      have z5 := GX.free 3
      have z6 := GX.free 4
      have z7 := GX.free 5
      clear hgr hat hlt GX GO GL GF hown
      refine hK.out _ _ ?_ (fun hHeld => ?_)
      · exact ⟨y5, y6, y7⟩
      clear hK K
      refine wpAnyH_take (i := 11) (oi := Oper.mk (some 19) _ _ _ _ _) (v := .pointer (some ⟨D, 0, none⟩)) rfl (by kernel_rfl) (by kernel_rfl) (by kernel_rfl) (fun _ _ _ h => h) (Or.inl ⟨by rfl, ?_⟩) (by assumption) ?_
      · intro wX hSw
        (try dsimp only at hSw)
        go_simp
      simp only [Act.put, List.setIfInBounds_toArray, List.set_cons_succ, List.set_cons_zero]
      refine wpAnyH_take (i := 12) (oi := Oper.mk (some 20) _ _ _ _ _) (v := .pointer (some ⟨D, 2, none⟩)) rfl (by kernel_rfl) (by kernel_rfl) (by kernel_rfl) (fun _ _ _ h => h) (Or.inl ⟨by rfl, ?_⟩) (by assumption) ?_
      · intro wX hSw
        (try dsimp only at hSw)
        go_simp
      simp only [Act.put, List.setIfInBounds_toArray, List.set_cons_succ, List.set_cons_zero]
      refine wpAnyH_ready (rs := [13]) (by kernel_rfl) (by simp) ?_
      refine AllReadyH.cons (o := Oper.mk none _ _ _ _ _) rfl (fun K hK => ?_) AllReadyH.nil
      go_simp
      refine hK.out _ _ ?_ (fun hHeld => ?_)
      · exact ⟨by simp [go_sem, y5], by simp [go_sem, y6], by simp [go_sem, y7]⟩
      clear hK K
      refine wpAnyH_done (by kernel_rfl) ?_ _
      clear hHeld
      go_wp2
      go_end0
      have BK := (((GX2.out.setN 2 (.slice (some ⟨g, 0, none⟩) (n + 1) cp)).setN 3 (.int .i64 0)).setN 4 (.int .i64 0)).setN 5 (.int .i64 0)
      refine ⟨rfl, hide ⟨.slice (some ⟨g, 0, none⟩) (n + 1) cp, ⟨BK, HB.out.ptr, ownF_set (ownF_set (ownF_set (ownF_set GO2.out (Nat.lt_succ_self D)) (Nat.lt_succ_self D)) (Nat.lt_succ_self D)) (Nat.lt_succ_self D), HB.out.nil, ?_⟩, fun q hq => ?_⟩, (((((Below.refl D w).drew.trans GL2.out).setCell (p := ⟨D, 2, none⟩) (Nat.le_refl _) _).setCell (p := ⟨D, 3, none⟩) (Nat.le_refl _) _).setCell (p := ⟨D, 4, none⟩) (Nat.le_refl _) _).setCell (p := ⟨D, 5, none⟩) (Nat.le_refl _) _, ((((OthF.trans (OthF.refl D _ w).drew GF2.out).set _).set _).set _).set _⟩
      · unfold OwnS
        rw [← HX.out.1, ← HX.out.2]
        exact ownF_set (ownF_set (ownF_set (ownF_set HO2.out (Nat.lt_succ_self D)) (Nat.lt_succ_self D)) (Nat.lt_succ_self D)) (Nat.lt_succ_self D)
      · obtain rfl : g = q := by simpa [Value.ownBlock] using hq
        rcases HAT.out with e | e
        · exact .inl e
        · refine .inr ?_
          rw [e]
          exact ((Below.refl w.heap.size w.drew).alloc (Nat.le_refl _) _).size
  · rw [if_neg h0]
    have HB := hide h
    clear h
    go_enter Tryd.func25, Tryd.ntmps25
    go_wp2
    go_end0
    have BK := ((HB.out.blk.setN 3 (.int .i64 0)).setN 4 (.int .i64 0)).setN 5 (.int .i64 0)
    exact ⟨rfl, hide ⟨sv, ⟨BK, HB.out.ptr, ownF_set (ownF_set (ownF_set HB.out.own (Nat.lt_succ_self D)) (Nat.lt_succ_self D)) (Nat.lt_succ_self D), HB.out.nil, ownF_set (ownF_set (ownF_set HB.out.spn (Nat.lt_succ_self D)) (Nat.lt_succ_self D)) (Nat.lt_succ_self D)⟩, fun _ h => .inl h⟩, (((Below.refl D w).setCell (p := ⟨D, 3, none⟩) (Nat.le_refl _) _).setCell (p := ⟨D, 4, none⟩) (Nat.le_refl _) _).setCell (p := ⟨D, 5, none⟩) (Nat.le_refl _) _, (((OthF.refl D _ w).set _).set _).set _⟩
end Go.Proofs.YtkgapklhgkngnaaDoor

namespace Go.Proofs.YtkgapklhgkngnaaDoor
open Go.RowKit

attribute [local go_sem ↓] Go.wp_at_zero Go.wp_at_succ

def digS (dg own : Sp) : Sp := if dg.b = 0 then own else ⟨dg.f, dg.a, own.b⟩

set_option maxRecDepth 100000 in
set_option maxHeartbeats 4000000 in
theorem putD_any {w : World} {D : Nat} {l : List UInt8} {sp : List Sp} {dg : Sp} {p v sv : Value} (own : Sp) (h : BgV w D l sp dg p v sv) :
    Calls Tryd.prog 46 #[.pointer (some ⟨D, 0, none⟩), .agg #[.int .i64 own.f, .int .i64 own.a, .int .i64 own.b]] w fun e w' => e = .returned (.tuple #[]) ∧ BgV w' D l sp (digS dg own) p v sv ∧ Below D w w' := by
  have hDw := h.blk.lt
  have c5 : w.cell? ⟨D, 5, none⟩ = some (.int .i64 dg.b) := h.blk.cell 5
  have c3 : w.cell? ⟨D, 3, none⟩ = some (.int .i64 dg.f) := h.blk.cell 3
  have c4 : w.cell? ⟨D, 4, none⟩ = some (.int .i64 dg.a) := h.blk.cell 4
  have f3 := h.blk.free 3
  have f4 := h.blk.free 4
  have f5 := h.blk.free 5
  have n1 : ¬ w.heap.size = D := by omega
  have n2 : ¬ D = w.heap.size := by omega
  obtain ⟨W1, hW1⟩ : ∃ W1, W1 = w.alloc (.cells #[.int .i64 own.f, .int .i64 own.a, .int .i64 own.b] 31) := ⟨_, rfl⟩
  have B1 := hide (show Below w.heap.size w W1 by rw [hW1]; exact (Below.refl _ _).alloc (Nat.le_refl _) _)
  have H1 := hide (h.below B1.out)
  have SB : Hid (Blk W1 w.heap.size #[.int .i64 own.f, .int .i64 own.a, .int .i64 own.b] 31) := hide (by rw [hW1]; exact Blk.newAt w _ rfl _ _)
  have d5 : W1.cell? ⟨D, 5, none⟩ = some (.int .i64 dg.b) := H1.out.blk.cell 5
  have d3 : W1.cell? ⟨D, 3, none⟩ = some (.int .i64 dg.f) := H1.out.blk.cell 3
  have d4 : W1.cell? ⟨D, 4, none⟩ = some (.int .i64 dg.a) := H1.out.blk.cell 4
  have g3 := H1.out.blk.free 3
  have g4 := H1.out.blk.free 4
  have g5 := H1.out.blk.free 5
  have s0 := SB.out.cell 0
  have s1 := SB.out.cell 1
  have s2 := SB.out.cell 2
  have HW := hide hW1.symm
  have BD := hide (B1.out.mono (Nat.le_of_lt hDw))
  unfold digS
  clear hW1 h c3 c4 c5 f3 f4 f5
  by_cases h0 : dg.b = 0
  · rw [if_pos h0]
    have e0 : (dg.b == 0) = true := by simpa using h0
    have H2 := H1
    clear h0
    go_enter Tryd.func46, Tryd.ntmps46
    go_wp2_with (simp only [HW.out])
    go_end0
    refine ⟨rfl, ⟨?_, H2.out.ptr, ?_, H2.out.nil, ?_⟩, ?_⟩
    · exact (((((H2.out.blk.setN 3 (.int .i64 own.f)).setN 4 (.int .i64 own.a)).setN 5 (.int .i64 own.b)).setN 5 (.int .i64 own.b)))
    · first | exact ownF_set (ownF_set (ownF_set (ownF_set H2.out.own (Nat.lt_succ_self D)) (Nat.lt_succ_self D)) (Nat.lt_succ_self D)) (Nat.lt_succ_self D) | exact ownF_set (ownF_set (ownF_set H2.out.own (Nat.lt_succ_self D)) (Nat.lt_succ_self D)) (Nat.lt_succ_self D)
    · first | exact ownF_set (ownF_set (ownF_set (ownF_set H2.out.spn (Nat.lt_succ_self D)) (Nat.lt_succ_self D)) (Nat.lt_succ_self D)) (Nat.lt_succ_self D) | exact ownF_set (ownF_set (ownF_set H2.out.spn (Nat.lt_succ_self D)) (Nat.lt_succ_self D)) (Nat.lt_succ_self D)
    · first | exact (((BD.out.setCell (p := ⟨D, 3, none⟩) (Nat.le_refl _) _).setCell (p := ⟨D, 4, none⟩) (Nat.le_refl _) _).setCell (p := ⟨D, 5, none⟩) (Nat.le_refl _) _).setCell (p := ⟨D, 5, none⟩) (Nat.le_refl _) _ | exact ((BD.out.setCell (p := ⟨D, 3, none⟩) (Nat.le_refl _) _).setCell (p := ⟨D, 4, none⟩) (Nat.le_refl _) _).setCell (p := ⟨D, 5, none⟩) (Nat.le_refl _) _
  · rw [if_neg h0]
    have e0 : (dg.b == 0) = false := by simpa using h0
    have H2 := H1
    clear h0
    go_enter Tryd.func46, Tryd.ntmps46
    go_wp2_with (simp only [HW.out])
    go_end0
    exact ⟨rfl, ⟨H2.out.blk.setN 5 (.int .i64 own.b), H2.out.ptr, ownF_set H2.out.own (Nat.lt_succ_self D), H2.out.nil, ownF_set H2.out.spn (Nat.lt_succ_self D)⟩, BD.out.setCell (p := ⟨D, 5, none⟩) (Nat.le_refl _) _⟩
end Go.Proofs.YtkgapklhgkngnaaDoor
