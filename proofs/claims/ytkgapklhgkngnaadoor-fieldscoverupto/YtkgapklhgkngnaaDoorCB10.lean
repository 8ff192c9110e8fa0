/-
  FieldsCover answers true, whatever it is handed: the law's walk.
  What the rows' list of package variables gives, and a world that holds them (a dump without DecodeRuneInString).
-/
import Derived.Test.YtkgapklhgkngnaaDoorCB9
import Derived.Lib.AppendStr
import Derived.BigQuiet
import Derived.Test.YtkgapklhgkngnaaDoorRows
import Derived.Test.YtkgapklhgkngnaaDoorCB3
import Derived.Lib.LaidU8
import Derived.Deep.DeepHandedRow
namespace Go.Proofs.YtkgapklhgkngnaaDoor
open Go.RowKit

theorem own_ne_blk {w : World} {B n k D : Nat} {e t : TypeId} {v : Value} {xs : List Value} {cs : Array Value} (h : w.ownsRow B e k v n xs) (hb : Blk w D cs t) (he : e ≠ t) : v.ownBlock ≠ some D := by
  intro q
  rcases h.2 with ⟨hv, _⟩ | ⟨g, cap, cur, hv, _, hg, _⟩
  · rw [hv] at q; simp [Value.ownBlock] at q
  · rw [hv] at q
    simp only [Value.ownBlock, Option.some.injEq] at q
    subst q
    unfold Blk at hb
    rw [hb] at hg
    simp only [Option.some.injEq, Obj.cells.injEq] at hg
    exact he hg.2.1.symm
theorem own_keptC {w w' : World} {B B2 n n2 k k2 : Nat} {e e2 : TypeId} {v v2 : Value} {xs ys : List Value} (h : w.ownsRow B e k v n xs) (h2 : w.ownsRow B2 e2 k2 v2 n2 ys) (he : e ≠ e2) (hg : w.grownBy w' v2.ownBlock) : w'.ownsRow B e k v n xs := by
  refine World.ownsRow.kept h hg ?_
  cases q : v.ownBlock with
  | none => exact .inl rfl
  | some g => exact .inr fun e2 => own_apartF h h2 he g q e2.symm
theorem blk_keptC {w w' : World} {g B n k : Nat} {cs : Array Value} {t e : TypeId} {v : Value} {xs : List Value} (h : Blk w g cs t) (ho : w.ownsRow B e k v n xs) (he : e ≠ t) (hg : w.grownBy w' v.ownBlock) : Blk w' g cs t := by
  have q := own_ne_blk ho h he
  unfold Blk at *
  rw [hg.block g (lt_of_block h) (fun e2 => q e2.symm)]
  exact h
theorem rowC_some {w : World} {B e n : Nat} {v : Value} {xs : List Value} (h : w.ownsRow B e 1 v n xs) (hv : v ≠ .slice none 0 0) : ∃ g cap, v = .slice (some ⟨g, 0, none⟩) n cap := by
  rcases h.2 with ⟨q, _⟩ | ⟨g, cap, cur, q, _⟩
  · exact absurd q hv
  · exact ⟨g, cap, q⟩
theorem pcN_drop {l : List Pe} {i : Nat} (h : i < l.length) : l.drop i = gN peZ l i :: l.drop (i + 1) := by
  rw [List.drop_eq_getElem_cons h]
  unfold gN
  rw [List.getElem?_eq_getElem h]
  rfl
theorem OwnS.nilOr {B : Nat} {w : World} {v : Value} {l : List Sp} (h : OwnS B w v l) : NilOr v := by
  rcases h.2 with ⟨hv, _⟩ | ⟨g, cap, cur, hv, _⟩
  · exact .inl hv
  · exact .inr ⟨_, _, _, hv⟩

structure CvR (w : World) (D : Nat) (T : ByteArray) (S : List Sp) (sv tv : Value) (N : Nat) (bs : List UInt8) (wr : World) : Prop where
  bel : Below w.heap.size w wr
  hD : w.heap.size ≤ D
  out : Blk wr D #[.string T, sv] 25
  spn : OwnS w.heap.size wr sv S
  txt : wr.ownsRow w.heap.size 5 1 tv N (Lib.byteCells bs)
theorem CvR.below {w : World} {D : Nat} {T : ByteArray} {S : List Sp} {sv tv : Value} {N : Nat} {bs : List UInt8} {wr w' : World} (h : CvR w D T S sv tv N bs wr) (hb : Below wr.heap.size wr w') : CvR w D T S sv tv N bs w' :=
  ⟨h.bel.trans (hb.mono h.bel.size), h.hD, h.out.below hb h.out.lt, ownF_below h.spn hb, ownF_below h.txt hb⟩
theorem CvR.grow {w : World} {D : Nat} {T : ByteArray} {S : List Sp} {sv tv tv' : Value} {N N' : Nat} {bs bs' : List UInt8} {wr w' : World} (h : CvR w D T S sv tv N bs wr) (hg : wr.grownBy w' tv.ownBlock) (hn : w'.ownsRow w.heap.size 5 1 tv' N' (Lib.byteCells bs')) : CvR w D T S sv tv' N' bs' w' :=
  ⟨h.bel.grown hg h.bel.size (fun q hq => (World.ownsRow.lt h.txt q hq).1), h.hD, blk_keptC h.out h.txt (by decide) hg, own_keptC h.spn h.txt (by decide) hg, hn⟩
theorem CvR.set {w : World} {D : Nat} {T : ByteArray} {S S' : List Sp} {sv sv' tv : Value} {N : Nat} {bs : List UInt8} {wr : World} (h : CvR w D T S sv tv N bs wr) (hn : OwnS w.heap.size wr sv' S') : CvR w D T S' sv' tv N bs ((wr.setCell ⟨D, 0, none⟩ (.string T)).setCell ⟨D, 1, none⟩ sv') := by
  have q1 := own_ne_blk hn h.out (by decide)
  have q2 := own_ne_blk h.txt h.out (by decide)
  have a1 := ownF_setne (a := ⟨D, 0, none⟩) hn q1 (.string T)
  have a2 := ownF_setne (a := ⟨D, 0, none⟩) h.txt q2 (.string T)
  exact ⟨(h.bel.setCell (p := ⟨D, 0, none⟩) h.hD _).setCell (p := ⟨D, 1, none⟩) h.hD _, h.hD, (h.out.setN 0 _).setN 1 _, ownF_setne (a := ⟨D, 1, none⟩) a1 q1 sv', ownF_setne (a := ⟨D, 1, none⟩) a2 q2 sv'⟩

def WrO (T : ByteArray) (S : List Sp) (s : Sp) (B : Nat) (w' : World) (To : ByteArray) (v : Value) (mo : Nat) (er : Int) : Prop := (er = 0 ∧ To = T ∧ mo = S.length + 1 ∧ OwnS B w' v (wrapL S s) ∧ mayB T (wrapL S s) = true) ∨ er = 170
theorem wrap_c (T : ByteArray) (v : Value) (S : List Sp) (s : Sp) (X : World) (hT : U8 X) (ht : T.size ≤ 9223372036854775807) (hv : SpV X v S) (hno : NilOr v) (hl : (S.length + 2) * 32 ≤ 140737488355328) (hm : mayB T S = true) :
    Calls Tryd.prog 13 #[.agg #[.string T, v], .int .i64 s.f, .int .i64 s.a, .int .i64 s.b] X fun e w' => (∃ To so mo sc er, e = .returned (.tuple #[.agg #[.string To, .slice so mo sc], .int .i64 er]) ∧ Hid (WrO T S s X.heap.size w' To (.slice so mo sc) mo er)) ∧ Hid (Below X.heap.size X w') := by
  cases h2 : mayB T (wrapL S s) with
  | true =>
    refine (Wrap_yes T v S s X hT ht hv hno hl hm h2).mono ?_
    rintro e w' ⟨HE, hb⟩
    obtain ⟨uo, uc, rfl, ho⟩ := HE.out
    exact ⟨⟨T, uo, S.length + 1, uc, 0, rfl, hide (.inl ⟨rfl, rfl, rfl, ho, h2⟩)⟩, hide hb⟩
  | false =>
    refine (Wrap_no2 T v S s X hT ht hv hno hl hm h2).mono ?_
    rintro e w' ⟨rfl, hb⟩
    exact ⟨⟨⟨#[]⟩, none, 0, 0, 170, rfl, hide (.inr rfl)⟩, hide hb⟩
structure CutW (T : ByteArray) (S : List Sp) (s : Sp) (W : World) (v u : Value) (W' : World) : Prop where
  ex : ∃ (H : Nat) (To : ByteArray) (so : Option Addr) (mo sc : Nat) (er : Int), v = .pointer (some ⟨H, 0, none⟩) ∧ u = .int .i64 er ∧ Blk W' H #[.string To, .slice so mo sc] 25 ∧ W.heap.size ≤ H ∧ Below W.heap.size W W' ∧ WrO T S s W.heap.size W' To (.slice so mo sc) mo er
theorem WrO.map {T : ByteArray} {S : List Sp} {s : Sp} {B B' : Nat} {w w' : World} {To : ByteArray} {v : Value} {mo : Nat} {er : Int} (h : WrO T S s B w To v mo er) (hm : ∀ L, OwnS B w v L → OwnS B' w' v L) : WrO T S s B' w' To v mo er := by
  rcases h with ⟨a, b, c, d, e⟩ | a
  · exact .inl ⟨a, b, c, hm _ d, e⟩
  · exact .inr a
theorem cutw_new {T : ByteArray} {S : List Sp} {s : Sp} {W w3 : World} {To : ByteArray} {so : Option Addr} {mo sc : Nat} {er : Int} (hb : Below W.heap.size W w3) (h : WrO T S s W.heap.size w3 To (.slice so mo sc) mo er) :
    CutW T S s W (.pointer (some ⟨w3.heap.size, 0, none⟩)) (.int .i64 er) (w3.alloc (.cells #[.string To, .slice so mo sc] 25)) :=
  ⟨w3.heap.size, To, so, mo, sc, er, rfl, rfl, Blk.newAt _ _ rfl _ _, hb.size, hb.alloc hb.size _, h.map fun _ hL => ownF_below hL ((Below.refl _ _).alloc (Nat.le_refl _) _)⟩
theorem cutw_old {T : ByteArray} {S : List Sp} {s : Sp} {W w3 : World} {H : Nat} {x0 x1 : Value} {To : ByteArray} {so : Option Addr} {mo sc : Nat} {er : Int} (hb : Below W.heap.size W w3) (q : Blk w3 H #[x0, x1] 25) (hH : W.heap.size ≤ H) (h : WrO T S s (H + 1) w3 To (.slice so mo sc) mo er) :
    CutW T S s W (.pointer (some ⟨H, 0, none⟩)) (.int .i64 er) ((w3.setCell ⟨H, 0, none⟩ (.string To)).setCell ⟨H, 1, none⟩ (.slice so mo sc)) :=
  ⟨H, To, so, mo, sc, er, rfl, rfl, (q.setN 0 _).setN 1 _, hH, (hb.setCell (p := ⟨H, 0, none⟩) hH _).setCell (p := ⟨H, 1, none⟩) hH _, h.map fun _ hL => ownF_mono (ownF_set (ownF_set hL (Nat.lt_succ_self _)) (Nat.lt_succ_self _)) (Nat.le_trans hH (Nat.le_succ _))⟩

structure KG (G : Nat) (W wr : World) : Prop where
  size : W.heap.size ≤ wr.heap.size
  blk : ∀ i, i < W.heap.size → i ≠ G → wr.heap[i]? = W.heap[i]?
theorem KG.refl (G : Nat) (W : World) : KG G W W := ⟨Nat.le_refl _, fun _ _ _ => rfl⟩
theorem KG.below {G : Nat} {W wr w' : World} (h : KG G W wr) (hb : Below wr.heap.size wr w') : KG G W w' := ⟨Nat.le_trans h.size hb.size, fun i h1 h2 => (hb.block i (Nat.lt_of_lt_of_le h1 h.size)).trans (h.blk i h1 h2)⟩
theorem KG.set {G p : Nat} {W wr : World} (h : KG G W wr) (v : Value) : KG G W (wr.setCell ⟨G, p, none⟩ v) :=
  ⟨by rw [((OnlyB.refl G wr).set p v).1]; exact h.size, fun i h1 h2 => (((OnlyB.refl G wr).set p v).2 i h2).trans (h.blk i h1 h2)⟩
theorem KG.cell {G : Nat} {W wr : World} (h : KG G W wr) {i : Nat} (hi : i < W.heap.size) (hn : i ≠ G) (o : Nat) : wr.cell? ⟨i, o, none⟩ = W.cell? ⟨i, o, none⟩ := by
  simp only [World.cell?, h.blk i hi hn]
structure EdB (G n : Nat) (E : Nat → Prop) (w : World) : Prop where
  ex : ∃ cs : Array Value, Blk w G cs 4 ∧ ∀ j, j ≤ n → ∃ b, cs[j]? = some (.bool b) ∧ (E j → b = true)
theorem EdB.below {G n : Nat} {E : Nat → Prop} {w w' : World} (h : EdB G n E w) (hb : Below w.heap.size w w') : EdB G n E w' := by
  obtain ⟨cs, h1, h2⟩ := h.ex
  exact ⟨cs, h1.below hb h1.lt, h2⟩
theorem EdB.cell {G n : Nat} {E : Nat → Prop} {w : World} (h : EdB G n E w) {j : Nat} (hj : j ≤ n) : (∃ b, w.cell? ⟨G, j, none⟩ = some (.bool b) ∧ (E j → b = true)) ∧ w.frozen? ⟨G, j, none⟩ = false := by
  obtain ⟨cs, h1, h2⟩ := h.ex
  obtain ⟨b, h3, h4⟩ := h2 j hj
  exact ⟨⟨b, (h1.cell j).trans h3, h4⟩, h1.free j⟩
theorem EdB.put {G n : Nat} {E : Nat → Prop} {w : World} (h : EdB G n E w) (p : Nat) : EdB G n (fun x => E x ∨ x = p) (w.setCell ⟨G, p, none⟩ (.bool true)) := by
  obtain ⟨cs, h1, h2⟩ := h.ex
  refine ⟨_, h1.setN p _, fun j hj => ?_⟩
  obtain ⟨b, h3, h4⟩ := h2 j hj
  by_cases e : j = p
  · subst e
    refine ⟨true, ?_, fun _ => rfl⟩
    have hlt : j < cs.size := by
      rcases Nat.lt_or_ge j cs.size with q | q
      · exact q
      · rw [Array.getElem?_eq_none q] at h3; cases h3
    rw [Array.getElem?_setIfInBounds_self_of_lt hlt]
  · refine ⟨b, by rw [Array.getElem?_setIfInBounds_ne (fun q => e q.symm)]; exact h3, fun q => ?_⟩
    rcases q with q | q
    · exact h4 q
    · exact absurd q e
theorem mkEdges (X : World) (n : Nat) (hn : n ≤ 1048576) : ∃ cs : Array Value, (Instr.makeSlice 51 (.int .i64 ((n : Int) + 1)) (.int .i64 ((n : Int) + 1))).run Tryd.prog X = .ok (.slice (some ⟨X.heap.size, 0, none⟩) (n + 1) (n + 1)) (X.alloc (.cells cs 4)) ∧ ∀ j, j ≤ n → cs[j]? = some (.bool false) := by
  obtain ⟨i0, hi, hz0, hz1, hz2⟩ := info_parts (show (Tryd.prog.info? 4).map (fun i => (i.zero, i.size, i.bytes)) = some (some (.bool false), 1, 1) by kernel_rfl)
  have q := run_make (P := Tryd.prog) X 51 4 i0 (.bool false) Tryd.underlying51 hi hz0 .i64 .i64 ((n : Int) + 1) ((n : Int) + 1) (by omega) (Int.le_refl _) (by rw [hz2]; omega) (by omega)
  rw [hz1, show ((n : Int) + 1).toNat = n + 1 by omega] at q
  refine ⟨_, q, fun j hj => ?_⟩
  unfold madeCells
  rw [Array.getElem?_map, Array.getElem?_range, if_pos (by omega)]
  show some (#[Value.bool false][j % 1]!) = _
  rw [Nat.mod_one]
  rfl
theorem edg_mem_at {x at_ : Nat} {p : Pe} {l : List Pe} (h : x ∈ edg at_ (p :: l)) : x = at_ ∨ x ∈ edg (at_ + p.t.size) l := List.mem_cons.1 h

theorem bdrC (W : World) : Hid (Below W.heap.size W W.drew) := hide (Below.refl _ _).drew
theorem balC (W : World) (o : Obj) : Hid (Below W.heap.size W (W.drew.alloc o)) := hide ((Below.refl _ _).drew.alloc (Nat.le_refl _) _)

set_option maxRecDepth 100000 in
set_option maxHeartbeats 4000000 in
theorem cov_no (v v1 : Value) (l : List Pe) (w : World) (hT : U8 w) (hv : PeV w v l) (hs : SmP l) (hl : l.length ≤ 1048576) (hm : l.any unfB = true) :
    Calls Tryd.prog 6 #[v, v1] w fun e w' => e = .returned (.bool true) ∧ Below w.heap.size w w' := by
  have CB := hide (Build_no v l w hT hv (by omega) hs hm)
  have HT := hide hT
  obtain ⟨ao, cap, rfl⟩ := hv.len
  obtain ⟨n, hn⟩ : ∃ n, n = l.length := ⟨_, rfl⟩
  rw [← hn] at CB ⊢
  clear hT hv hs hl hm hn
  go_enter Tryd.func6, Tryd.ntmps6
  go_wp2_with fail
  refine CB.out.mono ?_
  rintro e w2 ⟨rfl, hb2⟩
  obtain ⟨W3, hW3⟩ : ∃ W3, W3 = w2.alloc (.cells #[.string ⟨#[]⟩, .slice none 0 0] 25) := ⟨_, rfl⟩
  have b3 : Below w2.heap.size w2 W3 := by rw [hW3]; exact (Below.refl _ _).alloc (Nat.le_refl _) _
  have BO3 : Hid (Blk W3 w2.heap.size #[.string ⟨#[]⟩, .slice none 0 0] 25) := hide (by rw [hW3]; exact Blk.newAt w2 _ rfl _ _)
  have B3 := hide (hb2.trans (b3.mono hb2.size))
  have HW := hide hW3.symm
  have f0 := BO3.out.free 0
  have f1 := BO3.out.free 1
  have x0 := BO3.out.cell 0
  have x1 := BO3.out.cell 1
  have h02 := hb2.size
  clear hb2 b3 hW3 CB
  go_wp2_with (simp only [HW.out])
  obtain ⟨W9, hW9⟩ : ∃ W9, W9 = (W3.setCell ⟨w2.heap.size, 0, none⟩ (.string ⟨#[]⟩)).setCell ⟨w2.heap.size, 1, none⟩ (.slice none 0 0) := ⟨_, rfl⟩
  have B9 := hide (show Below w.heap.size w W9 by rw [hW9]; exact (B3.out.setCell (p := ⟨w2.heap.size, 0, none⟩) h02 _).setCell (p := ⟨w2.heap.size, 1, none⟩) h02 _)
  have BO9 : Hid (Blk W9 w2.heap.size #[.string ⟨#[]⟩, .slice none 0 0] 25) := hide (by rw [hW9]; exact (BO3.out.setN 0 _).setN 1 _)
  have CA := hide (awake17_any W9 (HT.out.below B9.out))
  rw [← hW9]
  clear hW9 x0 x1 f0 f1 HW BO3 B3
  refine CA.out.mono ?_
  rintro e w5 ⟨rfl, hb5⟩
  have B5 := hide (B9.out.trans (hb5.mono B9.out.size))
  have BO5 := hide (BO9.out.below hb5 BO9.out.lt)
  have x0 := BO5.out.cell 0
  have x1 := BO5.out.cell 1
  clear hb5 CA B9 BO9
  go_wp2
  go_ret
  exact ⟨rfl, B5.out⟩

set_option maxRecDepth 100000 in
set_option maxHeartbeats 32000000 in
theorem cov_yes (v v1 : Value) (l : List Pe) (at_ : List Sp) (w : World) (hT : U8 w) (hv : PeV w v l) (ha : SpV w v1 at_) (hs : SmP l) (hl : l.length ≤ 1048576) (hsum : sumP l ≤ 1048576) (hal : at_.length ≤ 1048576) (hm : l.any unfB = false) :
    Calls Tryd.prog 6 #[v, v1] w fun e w' => e = .returned (.bool true) ∧ Below w.heap.size w w' := by
  have CB := hide (Build_yes v l w hT hv (by omega) hs (by omega) hm)
  have hlen := bldF_len l [] [] spN
  obtain ⟨T, hT0⟩ : ∃ T : ByteArray, T = ⟨(bldP l).1.toArray⟩ := ⟨_, rfl⟩
  have hbT : bys T = (bldP l).1 := by rw [hT0]; simp [bys]
  obtain ⟨S, hS⟩ : ∃ S, S = ordS (bldP l).2 := ⟨_, rfl⟩
  have HM0 : mayB T S = true := by rw [hS]; exact built_may l T hbT hm
  have hTs : T.size = sumP l := by rw [← bys_len, hbT, ← xpd_len]; exact (bldP_want l).2.symm
  have hSl : S.length = (bldP l).2.length := by rw [hS, ordS_len]
  have hSb : S.length ≤ 2 * l.length + 1 := by rw [hSl]; simpa [bldP] using hlen
  have hcat : catP l = bys T := by rw [hbT, bldP_cat]
  rw [← hT0, ← hS, ← hSl] at CB
  have hSb2 : S.length ≤ 2097153 := by omega
  have HM := hide HM0
  have HTs := hide (show T.size ≤ 1048576 by omega)
  obtain ⟨m, hmm⟩ : ∃ m, m = S.length := ⟨_, rfl⟩
  rw [← hmm] at CB hSb2
  have HMm := hide hmm
  have HT := hide hT
  have HV := hide hv
  have HA := hide ha
  have HCT := hide hcat
  have HS := hide hs
  obtain ⟨ao, cap, hv2⟩ := hv.len
  subst hv2
  obtain ⟨n, hn⟩ : ∃ n, n = l.length := ⟨_, rfl⟩
  rw [← hn] at CB HV hl ⊢
  have HN := hide hn
  obtain ⟨aa, capa, ha2⟩ := ha.len
  subst ha2
  obtain ⟨na, hna⟩ : ∃ na, na = at_.length := ⟨_, rfl⟩
  rw [← hna] at HA hal ⊢
  have HNA := hide hna
  obtain ⟨i0, hi0, hz0, hz1, hz2⟩ := info_parts byte_info
  have IN := hide (And.intro hi0 (And.intro hz0 (And.intro hz1 hz2)))
  clear hi0 hz0 hz1 hz2 hT hv ha hs hsum hm hlen hT0 hbT hS HM0 hTs hSl hSb hcat hmm hn hna
  go_enter Tryd.func6, Tryd.ntmps6
  go_wp2_with fail
  refine CB.out.mono ?_
  rintro e w2 ⟨HE, hb2⟩
  obtain ⟨uo, uc, rfl, ho2⟩ := HE.out
  obtain ⟨W3, hW3⟩ : ∃ W3, W3 = w2.alloc (.cells #[.string T, .slice uo m uc] 25) := ⟨_, rfl⟩
  have b3 : Below w2.heap.size w2 W3 := by rw [hW3]; exact (Below.refl _ _).alloc (Nat.le_refl _) _
  have BO3 : Hid (Blk W3 w2.heap.size #[.string T, .slice uo m uc] 25) := hide (by rw [hW3]; exact Blk.newAt w2 _ rfl _ _)
  have B3 := hide (hb2.trans (b3.mono hb2.size))
  have O3 : Hid (OwnS w.heap.size W3 (.slice uo m uc) S) := hide (by rw [HMm.out]; rw [HMm.out] at ho2; exact ownF_below ho2 b3)
  have HW := hide hW3.symm
  have hD := hide hb2.size
  have CA := hide (awake17_any W3 (HT.out.below B3.out))
  clear hb2 b3 hW3 CB ho2 HE
  go_wp2_with (simp only [HW.out])
  refine CA.out.mono ?_
  rintro e w5 ⟨rfl, hb5⟩
  have B5 := hide (B3.out.trans (hb5.mono B3.out.size))
  have O5 : Hid (OwnS w.heap.size w5 (.slice uo m uc) S) := hide (ownF_below O3.out hb5)
  have BO5 := hide (BO3.out.below hb5 BO3.out.lt)
  obtain ⟨D, hDD⟩ : ∃ D, D = w2.heap.size := ⟨_, rfl⟩
  rw [← hDD] at BO5 hD ⊢
  clear hb5 CA B3 O3 BO3 HW hDD
  obtain ⟨W6, hW6⟩ : ∃ W6, W6 = w5.alloc (.cells #[] 5) := ⟨_, rfl⟩
  have b6 : Below w5.heap.size w5 W6 := by rw [hW6]; exact (Below.refl _ _).alloc (Nat.le_refl _) _
  have L0 : Hid (CvR w D T S (.slice uo m uc) (.slice (some ⟨w5.heap.size, 0, none⟩) 0 0) 0 [] W6) := hide ⟨B5.out.trans (b6.mono B5.out.size), hD.out, BO5.out.below b6 BO5.out.lt, ownF_below O5.out b6, by rw [hW6]; exact World.ownsRow_made w5 #[] 0 B5.out.size (by decide) rfl⟩
  have HW := hide hW6.symm
  clear hW6 b6 B5 O5 BO5
  go_wp2_with (simp only [HW.out])
  go_loopw [7, 8] (fun x7 x8 wr => ∃ (i g N bc : Nat) (bs : List UInt8), i ≤ n ∧ x7 = .slice (some ⟨g, 0, none⟩) N bc ∧ x8 = .int .i64 (i : Int) ∧ Hid (CvR w D T S (.slice uo m uc) (.slice (some ⟨g, 0, none⟩) N bc) N bs wr) ∧ Hid (bs.length = N ∧ bs ++ catP (l.drop i) = bys T)) (fun _ x8 _ => n - (intOf x8).toNat)
  case atStart => exact ⟨0, _, 0, 0, [], Nat.zero_le _, rfl, rfl, L0, hide ⟨rfl, by rw [List.drop_zero, List.nil_append]; exact HCT.out⟩⟩
  case round =>
    clear L0 HW
    obtain ⟨i, g, N, bc, bs, hi, rfl, rfl, RR, HX⟩ := hrel
    by_cases hlt : i < n
    · have hlt' : (i : Int) < (n : Int) := by omega
      have hil : i < l.length := by rw [← HN.out]; exact hlt
      have HP := HV.out
      rw [HN.out] at HP
      cases HP with
      | none _ _ _ h => subst h; simp at hil
      | some b o cp hv hc hb ha =>
        simp only [Value.slice.injEq] at hv
        obtain ⟨rfl, hx, rfl⟩ := hv
        clear hx
        obtain ⟨d0, _⟩ := ha i hil
        have ED := hide (pcN_drop hil)
        obtain ⟨t, ht⟩ : ∃ t, t = (gN peZ l i).t := ⟨_, rfl⟩
        have HX2 : Hid (bs ++ bys t ++ catP (l.drop (i + 1)) = bys T) := hide (by rw [← HX.out.2, ED.out, ht, List.append_assoc]; rfl)
        rw [← ht] at d0
        have NB : Hid (N + t.size ≤ 1048576) := hide (by have q := congrArg List.length HX2.out; rw [List.length_append, List.length_append, bys_len, bys_len, HX.out.1] at q; have := HTs.out; omega)
        have c0 := (RR.out.bel.cell (p := ⟨b, o + i * 2, none⟩) hb).trans d0
        clear d0 ht ha hc ED
        have NN : Hid (bs.length = N) := hide HX.out.1
        go_wp2_with (at_builtin; refine Lib.wpList_append_own_string _ rfl _ _ 48 9 rfl w.heap.size 5 i0 Tryd.underlying48 Tryd.underlying9 IN.out.1 IN.out.2.1 IN.out.2.2.1 IN.out.2.2.2 _ N (Lib.byteCells bs) rfl RR.out.txt t rfl (by have := NB.out; unfold maxLen; omega) (by have := NB.out; omega) RR.out.bel.size ?_; intro v9 y9 hown hgr hnil; (obtain ⟨g9, bc9, rfl⟩ := rowC_some hown (fun q => by have := (hnil.1 q).1; cases this)))
        have R9 : Hid (CvR w D T S (.slice uo m uc) (.slice (some ⟨g9, 0, none⟩) (N + t.size) bc9) (N + t.size) (bs ++ bys t) y9) := hide (RR.out.grow hgr (by rw [Lib.byteCells_append]; exact hown))
        exact ⟨⟨i + 1, g9, N + t.size, bc9, bs ++ bys t, by omega, rfl, by go_num, R9, hide ⟨by rw [List.length_append, bys_len, NN.out], HX2.out⟩⟩, by simp [intOf]; omega⟩
    · obtain rfl : i = n := by omega
      have hlt' : ¬ (i : Int) < (i : Int) := by omega
      have EB : bs = bys T := by have q := HX.out.2; rw [HN.out, List.drop_length] at q; simpa [catP] using q
      obtain ⟨wo, hwo⟩ : ∃ wo, wo = wr := ⟨_, rfl⟩
      subst hwo
      have hNT : N = T.size := by rw [← HX.out.1, EB, bys_len]
      subst hNT
      have R0 : Hid (CvR w D T S (.slice uo m uc) (.slice (some ⟨g, 0, none⟩) T.size bc) T.size (bys T) wo) := hide (by have q := RR.out; rw [EB] at q; exact q)
      clear RR HX EB HCT HV hlt hlt' hi bs
      have hTz := HTs.out
      go_wp2
      obtain ⟨tv, htv⟩ : ∃ tv, tv = (Value.slice (some ⟨g, 0, none⟩) T.size bc) := ⟨_, rfl⟩
      have HTV := hide htv
      rw [← htv] at R0
      clear htv
      go_loopw [9] (fun x9 wr => ∃ (i : Nat) (S : List Sp) (so : Option Addr) (m sc : Nat), i ≤ na ∧ x9 = .int .i64 (i : Int) ∧ Hid (CvR w D T S (.slice so m sc) tv T.size (bys T) wr) ∧ Hid (mayB T S = true ∧ m = S.length) ∧ m ≤ 2097153 + i) (fun x9 _ => na - (intOf x9).toNat)
      case atStart => exact ⟨0, S, uo, m, uc, Nat.zero_le _, rfl, R0, hide ⟨HM.out, HMm.out⟩, hSb2⟩
      case round =>
        clear R0 HM HMm hSb2
        obtain ⟨i, S, so, m, sc, hi, rfl, RR, HMY, hmb⟩ := hrel
        by_cases hlt : i < na
        · have hlt' : (i : Int) < (na : Int) := by omega
          have hil : i < at_.length := by rw [← HNA.out]; exact hlt
          have HP := HA.out
          rw [HNA.out] at HP
          cases HP with
          | none _ _ _ h => subst h; simp at hil
          | some b o cp hv hc hb ha =>
            simp only [Value.slice.injEq] at hv
            obtain ⟨rfl, hx, rfl⟩ := hv
            clear hx
            obtain ⟨d0, d1, d2⟩ := ha i hil
            obtain ⟨s, hs0⟩ : ∃ s, s = gN spZ at_ i := ⟨_, rfl⟩
            rw [← hs0] at d0 d1 d2
            clear hs0 ha hc
            obtain ⟨sf, sa, sb⟩ := s
            simp only [] at d0 d1 d2
            have HC : Hid (∀ X, Below w.heap.size w X → X.cell? ⟨b, o + i * 3, none⟩ = some (.int .i64 sf) ∧ X.cell? ⟨b, o + i * 3 + 1, none⟩ = some (.int .i64 sa) ∧ X.cell? ⟨b, o + i * 3 + 2, none⟩ = some (.int .i64 sb)) := hide (fun X hX => ⟨(hX.cell (p := ⟨b, o + i * 3, none⟩) hb).trans d0, (hX.cell (p := ⟨b, o + i * 3 + 1, none⟩) hb).trans d1, (hX.cell (p := ⟨b, o + i * 3 + 2, none⟩) hb).trans d2⟩)
            clear d0 d1 d2
            have HG1 : Hid (D < wr.heap.size) := hide RR.out.out.lt
            have HG2 : Hid (b < wr.heap.size) := hide (Nat.lt_of_lt_of_le hb RR.out.bel.size)
            clear hb
            have C1 : Hid (∀ X, Hid (Below wr.heap.size wr X) → Calls Tryd.prog 13 #[.agg #[.string T, .slice so m sc], .int .i64 sf, .int .i64 sa, .int .i64 sb] X fun e w' => (∃ To vo mo vc er, e = .returned (.tuple #[.agg #[.string To, .slice vo mo vc], .int .i64 er]) ∧ Hid (∀ B, B ≤ X.heap.size → WrO T S ⟨sf, sa, sb⟩ B w' To (.slice vo mo vc) mo er)) ∧ Hid (Below X.heap.size X w') ∧ Hid (Below wr.heap.size wr w') ∧ w'.cell? ⟨D, 0, none⟩ = some (.string T) ∧ w'.cell? ⟨D, 1, none⟩ = some (.slice so m sc) ∧ w'.cell? ⟨b, o + i * 3, none⟩ = some (.int .i64 sf) ∧ w'.cell? ⟨b, o + i * 3 + 1, none⟩ = some (.int .i64 sa) ∧ w'.cell? ⟨b, o + i * 3 + 2, none⟩ = some (.int .i64 sb)) := hide (fun X hX => by
              have RX := RR.out.below hX.out
              have hsp : OwnS w.heap.size X (.slice so m sc) S := RX.spn
              refine (wrap_c T (.slice so m sc) S ⟨sf, sa, sb⟩ X (HT.out.below RX.bel) (by have := HTs.out; omega) hsp.spv hsp.nilOr (by have := HMY.out.2; omega) HMY.out.1).mono ?_
              rintro e w' ⟨⟨To, vo, mo, vc, er, rfl, hq⟩, hb⟩
              have RW := RX.below hb.out
              obtain ⟨e0, e1, e2⟩ := HC.out w' RW.bel
              exact ⟨⟨To, vo, mo, vc, er, rfl, hide (fun B hB => hq.out.map fun _ hL => ownF_mono hL hB)⟩, hb, hide (hX.out.trans (hb.out.mono hX.out.size)), RW.out.cell 0, RW.out.cell 1, e0, e1, e2⟩)
            obtain ⟨c0, c1, c2⟩ := HC.out wr RR.out.bel
            have x0 := RR.out.out.cell 0
            have x1 := RR.out.out.cell 1
            go_wp2_with fail
            go_cut [10, 11] (fun vp ve wx => CutW T S ⟨sf, sa, sb⟩ wr vp ve wx)
            case first =>
              have b0 := bdrC wr
              have n0W : ¬ D = wr.heap.size := (by have := HG1.out; omega)
              have m0W : ¬ wr.heap.size = D := (by have := HG1.out; omega)
              have n1W : ¬ b = wr.heap.size := (by have := HG2.out; omega)
              have m1W : ¬ wr.heap.size = b := (by have := HG2.out; omega)
              have mk0 : True := trivial
              go_region_held3 (fun w' => w'.cell? ⟨D, 0, none⟩ = some (.string T) ∧ w'.cell? ⟨D, 1, none⟩ = some (.slice so m sc) ∧ w'.cell? ⟨b, o + i * 3, none⟩ = some (.int .i64 sf) ∧ w'.cell? ⟨b, o + i * 3 + 1, none⟩ = some (.int .i64 sa) ∧ w'.cell? ⟨b, o + i * 3 + 2, none⟩ = some (.int .i64 sb)) (go_keep) (first
                  | (clear mk0; go_at_call 13; refine (C1.out _ (balC wr (Obj.cells #[.string ⟨#[]⟩, .slice none 0 0] 25))).mono ?_; rintro x u1 ⟨⟨To, vo, mo, vc, er, rfl, HQ⟩, R1, b1, q0, q1, q2, q3, q4⟩; have QN := (Blk.newAt wr.drew wr.heap.size rfl #[.string ⟨#[]⟩, .slice none 0 0] 25).below R1.out (Blk.newAt wr.drew wr.heap.size rfl #[.string ⟨#[]⟩, .slice none 0 0] 25).lt; have h0 : u1.cell? ⟨wr.heap.size, 0, none⟩ = some (.string ⟨#[]⟩) := QN.cell 0; have h1 : u1.cell? ⟨wr.heap.size, 1, none⟩ = some (.slice none 0 0) := QN.cell 1; have h2 := QN.free 0; have h3 := QN.free 1; have QH := hide QN; have QB := hide (HQ.out (wr.heap.size + 1) (by rw [allocW_size]; exact Nat.le_refl _)); clear QN HQ; have mk1L0 : True := trivial)
                  | (clear mk0; go_at_call 13; refine (C1.out _ b0).mono ?_; rintro x u1 ⟨⟨To, vo, mo, vc, er, rfl, HQ⟩, R1, b1, q0, q1, q2, q3, q4⟩; have n0u1 : ¬ D = u1.heap.size := (by have := HG1.out; have := b1.out.size; omega); have m0u1 : ¬ u1.heap.size = D := (by have := HG1.out; have := b1.out.size; omega); have n1u1 : ¬ b = u1.heap.size := (by have := HG2.out; have := b1.out.size; omega); have m1u1 : ¬ u1.heap.size = b := (by have := HG2.out; have := b1.out.size; omega); have QB := hide (HQ.out wr.heap.size (Nat.le_refl _)); clear HQ; have mk1 : True := trivial))
              all_goals (go_wp2_with fail; go_meet)
              all_goals (first | (clear mk1L0; exact cutw_old b1.out QH.out (Nat.le_refl _) QB.out) | (clear mk1; exact cutw_new b1.out QB.out))
            case rest =>
              obtain ⟨⟨H, To, vo, mo, vc, er, rfl, rfl, hq, hH, hbc, hwo⟩⟩ := hcut
              have R1 := hide (RR.out.below hbc)
              have hwl := hide (Nat.le_trans RR.out.bel.size (Nat.le_refl wr.heap.size))
              have HP1 := hide hq
              clear hq hH hbc C1 c0 c1 c2 x0 x1 HG1 HG2 HC
              have x0 := R1.out.out.cell 0
              have x1 := R1.out.out.cell 1
              have f0 := R1.out.out.free 0
              have f1 := R1.out.out.free 1
              have p0 := HP1.out.cell 0
              have p1 := HP1.out.cell 1
              rcases hwo with ⟨rfl, rfl, rfl, hS2, hm2⟩ | rfl
              · have RS := hide (R1.out.set (ownF_mono hS2 hwl.out))
                have HM2 := hide hm2
                obtain ⟨k1, hk1⟩ : ∃ k1, k1 = S.length + 1 := ⟨_, rfl⟩
                have hk2 : k1 = m + 1 := by rw [hk1, HMY.out.2]
                have HL1 : Hid (k1 = (wrapL S ⟨sf, sa, sb⟩).length) := hide (by rw [hk1]; unfold wrapL; rw [ordS_len]; rfl)
                rw [← hk1] at p1 RS
                clear hS2 hm2 RR hk1
                subst hk2
                go_wp2
                exact ⟨⟨i + 1, wrapL S ⟨sf, sa, sb⟩, vo, m + 1, vc, by omega, by go_num, RS, hide ⟨HM2.out, HL1.out⟩, by omega⟩, by simp [intOf]; omega⟩
              · clear RR
                go_wp2
                exact ⟨⟨i + 1, S, so, m, sc, by omega, by go_num, R1, HMY, by omega⟩, by simp [intOf]; omega⟩
        · obtain rfl : i = na := by omega
          have hlt' : ¬ (i : Int) < (i : Int) := by omega
          obtain ⟨wo2, hwo2⟩ : ∃ wo2, wo2 = wr := ⟨_, rfl⟩
          subst hwo2
          clear hlt hlt' hi HA HNA
          have x0 := RR.out.out.cell 0
          have x1 := RR.out.out.cell 1
          obtain ⟨LV, hLV⟩ : ∃ LV, LV = leavesP T S := ⟨_, rfl⟩
          obtain ⟨q, hq⟩ : ∃ q, q = LV.length := ⟨_, rfl⟩
          have HL := hide hLV
          have HQ := hide hq
          have CT := hide (leaves_ct HMY.out.1)
          have SPS := hide (mayB_sp HMY.out.1)
          have PRS := hide (mayB_pair HMY.out.1)
          rw [← hLV] at CT
          have hqb : q ≤ 1048576 := by have a := til_len _ _ _ CT.out.1; have := HTs.out; omega
          have hspv : SpV wo2 (.slice so m sc) S := by have k := RR.out.spn; exact k.spv
          have C1 := hide (Leaves_yes T (.slice so m sc) S wo2 (HT.out.below RR.out.bel) (by have := HTs.out; omega) hspv (by have := HMY.out.2; omega) HMY.out.1)
          rw [← hLV, ← hq] at C1
          clear hspv hLV hq
          go_wp2_with fail
          refine C1.out.mono ?_
          rintro e w3 ⟨HE, hb3⟩
          obtain ⟨lo, lc, rfl, ho3⟩ := HE.out
          have R3 := hide (RR.out.below hb3)
          have PV3 : Hid (PeV w3 (.slice lo q lc) LV) := hide (by rw [HQ.out]; rw [HQ.out] at ho3; have k : OwnP wo2.heap.size w3 (.slice lo LV.length lc) LV := ho3; exact k.pev)
          clear HE hb3 ho3 C1 x0 x1 RR
          have x0 := R3.out.out.cell 0
          have x1 := R3.out.out.cell 1
          have kc : (convert 48 9 (.slice (some ⟨g, 0, none⟩) T.size bc)).run Tryd.prog w3 = .ok (.string T) w3 := by
            have k0 := R3.out.txt
            rw [HTV.out] at k0
            have e1 : (⟨(bys T).toArray⟩ : ByteArray) = T := by cases T; rfl
            have k1 : (convert 48 9 (.slice (some ⟨g, 0, none⟩) (bys T).length bc)).run Tryd.prog w3 = .ok (.string ⟨(bys T).toArray⟩) w3 := convB_at fun i hi => by
              rw [Nat.zero_add, (own_get k0 i (by rw [bys_len] at hi; omega)).1]
              unfold Lib.byteCells byt
              simp [hi]
            rw [e1, bys_len] at k1
            exact k1
          have C2 := hide (Check_any T (.slice so m sc) S w3 (HT.out.below R3.out.bel) (by have := HTs.out; omega) (by have k := R3.out.spn; exact k.spv) (by have := HMY.out.2; omega))
          rw [HMY.out.1, show errM true = 0 from rfl] at C2
          go_wp2_with fail
          refine C2.out.mono ?_
          rintro e w4 ⟨rfl, hb4⟩
          have R4 := hide (R3.out.below hb4)
          have PV4 := hide (PV3.out.below hb4)
          clear hb4 C2 x0 x1 R3 PV3 kc
          have x0 := R4.out.out.cell 0
          have x1 := R4.out.out.cell 1
          go_wp2_with fail
          obtain ⟨cs, hmk, hcs⟩ := mkEdges w4 T.size HTs.out
          have HMK := hide hmk
          obtain ⟨G, hG⟩ : ∃ G, G = w4.heap.size := ⟨_, rfl⟩
          have hGs := hG.symm
          obtain ⟨W5, hW5⟩ : ∃ W5, W5 = w4.alloc (.cells cs 4) := ⟨_, rfl⟩
          have b5 : Below w4.heap.size w4 W5 := by rw [hW5]; exact (Below.refl _ _).alloc (Nat.le_refl _) _
          have E5 : Hid (EdB G T.size (fun _ => False) W5) := hide ⟨cs, by rw [hW5]; exact Blk.newAt w4 G hGs _ _, fun j hj => ⟨false, hcs j hj, fun q => q.elim⟩⟩
          have R5 := hide (R4.out.below b5)
          have PV5 := hide (PV4.out.below b5)
          have GD : Hid (D < G ∧ w.heap.size ≤ G) := hide ⟨by rw [hG]; exact R4.out.out.lt, by rw [hG]; exact R4.out.bel.size⟩
          have LP : Hid (∀ b o cp, (Value.slice lo q lc) = .slice (some ⟨b, o, none⟩) LV.length cp → 0 < q → b ≠ G) := hide (fun b o cp hv hq0 => by
            cases PV4.out with
            | none _ _ hv2 hl2 => rw [HQ.out, hl2] at hq0; simp at hq0
            | some b2 o2 cp2 hv2 _ hb2 _ =>
              rw [hv2] at hv
              simp only [Value.slice.injEq, Option.some.injEq, Addr.mk.injEq] at hv
              rw [← hv.1.1, hG]
              exact Nat.ne_of_lt hb2)
          have SPn : Hid (∀ b o cp, (Value.slice so m sc) = .slice (some ⟨b, o, none⟩) S.length cp → 0 < m → b ≠ G) := hide (fun b o cp hv hq0 => by
            have k : SpV w4 (.slice so m sc) S := R4.out.spn.spv
            cases k with
            | none _ _ hv2 hl2 => rw [HMY.out.2, hl2] at hq0; simp at hq0
            | some b2 o2 cp2 hv2 _ hb2 _ =>
              rw [hv2] at hv
              simp only [Value.slice.injEq, Option.some.injEq, Addr.mk.injEq] at hv
              rw [← hv.1.1, hG]
              exact Nat.ne_of_lt hb2)
          have HW5 := hide hW5.symm
          obtain ⟨⟨bb, e0, _⟩, e1⟩ := E5.out.cell (Nat.zero_le T.size)
          rw [hGs] at HMK
          clear hmk hcs hW5 b5 R4 PV4 x0 x1 hG hGs
          have x0 := R5.out.out.cell 0
          have x1 := R5.out.out.cell 1
          go_wp2_with (first | simp only [HMK.out] | simp only [HW5.out])
          go_loopw [15, 16] (fun x15 x16 wr => ∃ (i a : Nat) (E : Nat → Prop), i ≤ q ∧ a ≤ T.size ∧ x15 = .int .i64 (a : Int) ∧ x16 = .int .i64 (i : Int) ∧ Hid (Below w.heap.size w wr) ∧ Hid (KG G W5 wr) ∧ Hid (EdB G T.size E wr) ∧ Hid (TilD T a (LV.drop i) T.size ∧ E a ∧ ∀ x ∈ edg 0 LV, E x ∨ x ∈ edg a (LV.drop i))) (fun _ x16 _ => q - (intOf x16).toNat)
          case atStart => exact ⟨0, 0, _, Nat.zero_le _, Nat.zero_le _, rfl, rfl, hide (R5.out.bel.setCell (p := ⟨G, 0, none⟩) GD.out.2 _), hide ((KG.refl G W5).set _), hide (E5.out.put 0), hide ⟨CT.out.1, .inr rfl, fun x hx => .inr hx⟩⟩
          case round =>
            clear x0 x1 e0 e1 E5
            obtain ⟨i, a, E, hi, haT, rfl, rfl, BB, KK, EE, TT⟩ := hrel
            have x0 := (KK.out.cell R5.out.out.lt (Nat.ne_of_lt GD.out.1) 0).trans (R5.out.out.cell 0)
            have x1 := (KK.out.cell R5.out.out.lt (Nat.ne_of_lt GD.out.1) 1).trans (R5.out.out.cell 1)
            have hTz := HTs.out
            by_cases hlt : i < q
            · have hlt' : (i : Int) < (q : Int) := by omega
              have hil : i < LV.length := by rw [← HQ.out]; exact hlt
              have HP := PV5.out
              have hq0 : 0 < q := by omega
              have hL := LP.out
              rw [HQ.out] at HP hL
              cases HP with
              | none _ _ _ h => subst h; simp at hil
              | some b o cp hv hc hb ha =>
                have hbG := hL b o cp hv (by rw [← HQ.out]; exact hq0)
                simp only [Value.slice.injEq] at hv
                obtain ⟨rfl, hx, rfl⟩ := hv
                clear hx hL hq0
                obtain ⟨d0, d1⟩ := ha i hil
                have ED := pcN_drop hil
                obtain ⟨p, hp⟩ : ∃ p, p = gN peZ LV i := ⟨_, rfl⟩
                rw [← hp] at d0 d1 ED
                have T0 := TT.out
                rw [ED] at T0
                obtain ⟨⟨tz, tl, te, ⟨f1, f2⟩, tr⟩, ta, tx⟩ := T0
                clear hp ha hc hil ED
                obtain ⟨t, f⟩ := p
                simp only [] at d0 d1 tz tl te f1 f2 tr
                have c0 := (KK.out.cell hb hbG (o + i * 2)).trans d0
                have c1 := (KK.out.cell hb hbG (o + i * 2 + 1)).trans d1
                obtain ⟨a2, ha2⟩ : ∃ a2, a2 = a + t.size := ⟨_, rfl⟩
                rw [← ha2] at tl te tr
                obtain ⟨⟨bb, e0, _⟩, e1⟩ := EE.out.cell (j := a2) tl
                have NX : Hid (TilD T a2 (LV.drop (i + 1)) T.size ∧ ∀ x ∈ edg 0 LV, (E x ∨ x = a2) ∨ x ∈ edg a2 (LV.drop (i + 1))) := hide ⟨tr, fun x hx => by
                  rcases tx x hx with k | k
                  · exact .inl (.inl k)
                  · rcases edg_mem_at k with k | k
                    · subst k; exact .inl (.inl ta)
                    · rw [ha2]; exact .inr k⟩
                have u1 : ((t.size : Int) == 0) = false := beq_eq_false_iff_ne.2 (by omega)
                have u2 : decide (IntKind.i64.wrap ((T.size : Int) - (a : Int)) < (t.size : Int)) = false := decide_eq_false (by rw [IntKind.wrap_i64]; omega)
                have u3 : IntKind.i64.wrap ((a : Int) + (t.size : Int)) = (a2 : Int) := by rw [IntKind.wrap_i64]; omega
                have u4 : decide (f < 0) = false := decide_eq_false (by omega)
                have u5 : decide (17 < f) = false := decide_eq_false (by omega)
                have hsl : ∀ W, (Instr.slice 9 (.string T) (some (.int .i64 (a : Int))) (some (.int .i64 (a2 : Int))) none).run Tryd.prog W = .ok (.string t) W := fun W => by
                  rw [run_slice_string_if W 9 T .i64 .i64 (a : Int) (a2 : Int) Tryd.underlying9, if_pos (by omega), if_pos (by omega), show ((a : Int)).toNat = a by omega, show ((a2 : Int)).toNat = a2 by omega, ← te]
                have ha3 : (a2 : Int) < (T.size : Int) + 1 := by omega
                clear tr tx ta TT te d0 d1 hb hbG ha2
                go_wp2_with fail
                go_quiet (fail)
                obtain ⟨wz, hwz⟩ : ∃ wz, wz = wr.drewN nq := ⟨_, rfl⟩
                have BZ : Hid (Below wr.heap.size wr wz) := hide (by rw [hwz]; exact ⟨rfl, rfl, rfl, Nat.le_refl _, fun _ _ => rfl⟩)
                rw [← hwz]
                clear hwz
                have BB2 := hide (BB.out.trans (BZ.out.mono BB.out.size))
                have KK2 := hide (KK.out.below BZ.out)
                have EE2 := hide (EE.out.below BZ.out)
                clear x0 x1 c0 c1 e0 e1 BB KK EE BZ hsl u1 u2 u4 u5
                obtain ⟨⟨bb, e0, _⟩, e1⟩ := EE2.out.cell (j := a2) tl
                go_wp2
                exact ⟨⟨i + 1, a2, _, by omega, tl, rfl, by go_num, hide (BB2.out.setCell (p := ⟨G, a2, none⟩) GD.out.2 _), hide (KK2.out.set _), hide (EE2.out.put a2), hide ⟨NX.out.1, .inr rfl, NX.out.2⟩⟩, by simp [intOf]; omega⟩
            · obtain rfl : i = q := by omega
              have hlt' : ¬ (i : Int) < (i : Int) := by omega
              have ED : LV.drop i = [] := List.drop_eq_nil_of_le (by rw [← HQ.out]; exact Nat.le_refl _)
              have EF : Hid (∀ x ∈ edg 0 LV, E x) := hide (fun x hx => by
                obtain ⟨t1, t2, t3⟩ := TT.out
                rw [ED] at t3
                rcases t3 x hx with k | k
                · exact k
                · have k2 : x = a := by simpa [edg] using k
                  rw [k2]; exact t2)
              obtain rfl : a = T.size := by have t1 := TT.out.1; rw [ED] at t1; exact t1
              obtain ⟨wo3, hwo3⟩ : ∃ wo3, wo3 = wr := ⟨_, rfl⟩
              subst hwo3
              clear TT ED hlt hlt' hi haT
              have hmS := HMY.out.2
              have HMS := hide hmS
              clear hmS
              go_wp2
              go_loopw [18] (fun x18 wr => ∃ i : Nat, i ≤ m ∧ x18 = .int .i64 (i : Int) ∧ Hid (Below w.heap.size w wr) ∧ Hid (KG G W5 wr) ∧ Hid (EdB G T.size E wr)) (fun x18 _ => m - (intOf x18).toNat)
              case atStart => exact ⟨0, Nat.zero_le _, rfl, BB, KK, EE⟩
              case round =>
                clear BB KK EE x0 x1
                obtain ⟨j, hj, rfl, BB, KK, EE⟩ := hrel
                have x0 := (KK.out.cell R5.out.out.lt (Nat.ne_of_lt GD.out.1) 0).trans (R5.out.out.cell 0)
                have x1 := (KK.out.cell R5.out.out.lt (Nat.ne_of_lt GD.out.1) 1).trans (R5.out.out.cell 1)
                by_cases hjm : j < m
                · have hjm' : (j : Int) < (m : Int) := by omega
                  have hjS : j < S.length := by rw [← HMS.out]; exact hjm
                  have HP : SpV W5 (.slice so m sc) S := by have k := R5.out.spn; exact k.spv
                  have hL := SPn.out
                  have hq0 : 0 < m := by omega
                  rw [HMS.out] at HP hL
                  cases HP with
                  | none _ _ _ h => subst h; simp at hjS
                  | some b o cp hv hc hb ha =>
                    have hbG := hL b o cp hv (by rw [← HMS.out]; exact hq0)
                    simp only [Value.slice.injEq] at hv
                    obtain ⟨rfl, hx, rfl⟩ := hv
                    clear hx hL hq0
                    obtain ⟨d0, d1, d2⟩ := ha j hjS
                    obtain ⟨sf, sp1, sp2, sp3⟩ := SPS.out _ (gN_mem (d := spZ) hjS)
                    have EG := CT.out.2 _ (gN_mem (d := spZ) hjS)
                    have PR : Hid (∀ k, k < j → ¬ LtS (gN spZ S j) (gN spZ S k) ∧ ¬ ((gN spZ S j).a < (gN spZ S k).b ∧ (gN spZ S k).b < (gN spZ S j).b)) := hide (fun k hk => by
                      obtain ⟨p1, p2⟩ := PRS.out
                      have hks : k < S.length := by omega
                      have g1 : gN spZ S j = S[j] := by unfold gN; rw [List.getElem?_eq_getElem hjS]; rfl
                      have g2 : gN spZ S k = S[k] := by unfold gN; rw [List.getElem?_eq_getElem hks]; rfl
                      rw [g1, g2]
                      exact ⟨List.pairwise_iff_getElem.1 p1 k j hks hjS hk, List.pairwise_iff_getElem.1 p2 k j hks hjS hk⟩)
                    have CY : Hid (∀ X, KG G W5 X → ∀ k, k < S.length → X.cell? ⟨b, o + k * 3, none⟩ = some (.int .i64 (gN spZ S k).f) ∧ X.cell? ⟨b, o + k * 3 + 1, none⟩ = some (.int .i64 (gN spZ S k).a) ∧ X.cell? ⟨b, o + k * 3 + 2, none⟩ = some (.int .i64 (gN spZ S k).b)) := hide (fun X hX k hk => by
                      obtain ⟨y0, y1, y2⟩ := ha k hk
                      exact ⟨(hX.cell hb hbG _).trans y0, (hX.cell hb hbG _).trans y1, (hX.cell hb hbG _).trans y2⟩)
                    obtain ⟨x, hx⟩ : ∃ x, x = gN spZ S j := ⟨_, rfl⟩
                    obtain ⟨c0, c1, c2⟩ := CY.out _ KK.out j hjS
                    rw [← hx] at c0 c1 c2 sf sp1 sp2 sp3 EG PR
                    clear hx ha hc d0 d1 d2 hb hbG
                    obtain ⟨xf, xa, xb⟩ := x
                    simp only [] at c0 c1 c2 sp1 sp2 sp3 EG
                    obtain ⟨A, rfl⟩ : ∃ A : Nat, xa = (A : Int) := ⟨xa.toNat, by omega⟩
                    obtain ⟨B, rfl⟩ : ∃ B : Nat, xb = (B : Int) := ⟨xb.toNat, by omega⟩
                    rw [Int.toNat_natCast, Int.toNat_natCast] at EG
                    have hB2 : B ≤ T.size := by omega
                    have hA2 : A ≤ T.size := by omega
                    obtain ⟨⟨b1, e0, e1⟩, _⟩ := EE.out.cell (j := A) hA2
                    have hb1 := e1 (EF.out A EG.1)
                    subst hb1
                    obtain ⟨⟨b2, e2, e3⟩, _⟩ := EE.out.cell (j := B) hB2
                    have hb2 := e3 (EF.out B EG.2)
                    subst hb2
                    clear EG e1 e3 sf
                    obtain ⟨V, hV⟩ : ∃ V, V = wr.alloc (.cells #[.int .i64 xf, .int .i64 (A : Int), .int .i64 (B : Int)] 31) := ⟨_, rfl⟩
                    have bV : Below wr.heap.size wr V := by rw [hV]; exact (Below.refl _ _).alloc (Nat.le_refl _) _
                    have XB : Hid (Blk V wr.heap.size #[.int .i64 xf, .int .i64 (A : Int), .int .i64 (B : Int)] 31) := hide (by rw [hV]; exact Blk.newAt _ _ rfl _ _)
                    have BV := hide (BB.out.trans (bV.mono BB.out.size))
                    have KV := hide (KK.out.below bV)
                    have EV := hide (EE.out.below bV)
                    have hGs : G < wr.heap.size := by obtain ⟨cs, k1, _⟩ := EE.out.ex; exact k1.lt
                    have e0V := (bV.cell (p := ⟨G, A, none⟩) hGs).trans e0
                    have e2V := (bV.cell (p := ⟨G, B, none⟩) hGs).trans e2
                    have x0V := (KV.out.cell R5.out.out.lt (Nat.ne_of_lt GD.out.1) 0).trans (R5.out.out.cell 0)
                    have x1V := (KV.out.cell R5.out.out.lt (Nat.ne_of_lt GD.out.1) 1).trans (R5.out.out.cell 1)
                    have s0 := XB.out.cell 0
                    have s1 := XB.out.cell 1
                    have s2 := XB.out.cell 2
                    have HV9 := hide hV.symm
                    have v1 : ¬ ((A : Int) < 0) := by omega
                    have v2 : ¬ ((T.size : Int) < (B : Int)) := by omega
                    have v3 : ¬ ((B : Int) ≤ (A : Int)) := by omega
                    have v4 : (A : Int) < (T.size : Int) + 1 := by omega
                    have v5 : (B : Int) < (T.size : Int) + 1 := by omega
                    clear hV bV e0 e2
                    go_wp2_with (simp only [HV9.out])
                    clear x0V x1V e0V e2V s0 s1 s2 v1 v2 v3 v4 v5 HV9 c0 c1 c2 x0 x1
                    have hjV : (j : Int) ≤ 9223372036854775806 := by omega
                    obtain ⟨H, hH⟩ : ∃ H, H = wr.heap.size := ⟨_, rfl⟩
                    rw [← hH] at XB ⊢
                    have LT := hide (show D < H by rw [hH]; exact Nat.lt_of_lt_of_le R5.out.out.lt KK.out.size)
                    have HVs := hide XB.out.lt
                    clear BB KK EE hGs hH
                    go_loopw [20] (fun x20 wr => ∃ k : Nat, k ≤ j ∧ x20 = .int .i64 (k : Int) ∧ Hid (Below V.heap.size V wr)) (fun x20 _ => j - (intOf x20).toNat)
                    case atStart => exact ⟨0, Nat.zero_le _, rfl, hide (Below.refl _ _)⟩
                    case round =>
                      obtain ⟨k, hk, rfl, BQ⟩ := hrel
                      have KQ := hide (KV.out.below BQ.out)
                      by_cases hkj : k < j
                      · have hkj' : (k : Int) < (j : Int) := by omega
                        have hkS : k < S.length := by omega
                        have hkm : (k : Int) < (m : Int) := by omega
                        obtain ⟨c0, c1, c2⟩ := CY.out _ KQ.out k hkS
                        obtain ⟨p1, p2⟩ := PR.out k hkj
                        obtain ⟨y, hy⟩ : ∃ y, y = gN spZ S k := ⟨_, rfl⟩
                        rw [← hy] at c0 c1 c2 p1 p2
                        clear hy hkS
                        obtain ⟨yf, ya, yb⟩ := y
                        unfold LtS at p1
                        simp only [] at c0 c1 c2 p1 p2
                        have x1 := (KQ.out.cell R5.out.out.lt (Nat.ne_of_lt GD.out.1) 1).trans (R5.out.out.cell 1)
                        obtain ⟨U, hU⟩ : ∃ U, U = wr.alloc (.cells #[.int .i64 yf, .int .i64 ya, .int .i64 yb] 31) := ⟨_, rfl⟩
                        have bU : Below wr.heap.size wr U := by rw [hU]; exact (Below.refl _ _).alloc (Nat.le_refl _) _
                        have YB : Hid (Blk U wr.heap.size #[.int .i64 yf, .int .i64 ya, .int .i64 yb] 31) := hide (by rw [hU]; exact Blk.newAt _ _ rfl _ _)
                        have BU := hide (BQ.out.trans (bU.mono BQ.out.size))
                        have XU := hide (XB.out.below BU.out XB.out.lt)
                        have t1 := XU.out.cell 1
                        have t2 := XU.out.cell 2
                        have z1 := YB.out.cell 1
                        have z2 := YB.out.cell 2
                        have HU := hide hU.symm
                        have w1 : ¬ ((A : Int) < ya) := by omega
                        clear hU bU
                        by_cases q1 : ya = (A : Int)
                        · have q2 : ¬ yb < (B : Int) := by omega
                          have q3 : (ya == (A : Int)) = true := by simpa using q1
                          subst q1
                          clear p1 p2
                          by_cases q4 : (A : Int) < yb
                          · go_wp2_with (simp only [HU.out])
                            exact ⟨⟨k + 1, by omega, by go_num, BU⟩, by simp [intOf]; omega⟩
                          · exfalso
                            omega
                        · have q3 : (ya == (A : Int)) = false := beq_eq_false_iff_ne.2 q1
                          clear q1
                          by_cases q4 : (A : Int) < yb
                          · have q2 : ¬ yb < (B : Int) := by omega
                            clear p1 p2
                            go_wp2_with (simp only [HU.out])
                            exact ⟨⟨k + 1, by omega, by go_num, BU⟩, by simp [intOf]; omega⟩
                          · clear p1 p2
                            go_wp2_with (simp only [HU.out])
                            exact ⟨⟨k + 1, by omega, by go_num, BU⟩, by simp [intOf]; omega⟩
                      · obtain rfl : k = j := by omega
                        have hkj' : ¬ (k : Int) < (k : Int) := by omega
                        have BF := hide (BV.out.trans (BQ.out.mono BV.out.size))
                        have EQ := hide (EV.out.below BQ.out)
                        clear PR CY XB
                        go_wp2
                        exact ⟨⟨k + 1, by omega, by go_num, BF, KQ, EQ⟩, by simp [intOf]; omega⟩
                · obtain rfl : j = m := by omega
                  have hjm' : ¬ (j : Int) < (j : Int) := by omega
                  go_wp2
                  go_ret
                  exact ⟨rfl, BB.out⟩

theorem cov_row (w : World) (hT : U8 w) (v : Value) (l : List Pe) (hv : PeV w v l) (hl : l.length ≤ 1048576) (hsum : sumP l ≤ 1048576) (v1 : Value) (at_ : List Sp) (ha : SpV w v1 at_) (hal : at_.length ≤ 1048576) :
    Calls Tryd.prog 6 #[v, v1] w fun e w' => e = .returned (.bool true) ∧ Below w.heap.size w w' := by
  have hs : SmP l := fun p hp => Nat.le_trans (sumP_mem hp) (Nat.le_trans hsum (by decide))
  cases hm : l.any unfB with
  | true => exact cov_no v v1 l w hT hv hs hl hm
  | false => exact cov_yes v v1 l at_ w hT hv ha hs hl hsum hal hm

end Go.Proofs.YtkgapklhgkngnaaDoor

namespace Go.Proofs.YtkgapklhgkngnaaDoor
open Go.RowKit

theorem laid_first : (Rows.laid_unicode_utf8_first : DataW Unit) = Lib.firstData := by kernel_rfl
theorem laid_accept : (Rows.laid_unicode_utf8_acceptRanges : DataW Unit) = Lib.acceptData := by kernel_rfl
theorem cellsAR : Tryd.prog.cellsOf 97 = 2 := by kernel_rfl
theorem cellsU8 : Tryd.prog.cellsOf 5 = 1 := by kernel_rfl
theorem cellsFT : Tryd.prog.cellsOf 95 = 256 := by kernel_rfl

theorem first_of {W : World} (h : Lib.VarReads Tryd.prog W "unicode/utf8.first" Lib.firstData) : ∀ c, c < 256 → W.cell? ⟨0, c, none⟩ = some (.int .u8 (Lib.firstT c : Int)) := by
  intro c hc
  obtain ⟨g, t, cs, fuel, p, hg, hty, hvar, hd⟩ := h
  have eg : g = 0 := Option.some.inj (hg.symm.trans (by kernel_rfl))
  subst eg
  have et : t = 95 := Option.some.inj (hty.symm.trans (by kernel_rfl))
  subst et
  have hcs := Lib.cells_of_tab Tryd.underlying95 Tryd.underlying5 cellsU8 cellsFT hd
  rw [World.var?_cell hg hvar c, ← Array.getElem?_toList, hcs]
  simp [Lib.firstTab, hc]

theorem accept_of {W : World} (h : Lib.VarReads Tryd.prog W "unicode/utf8.acceptRanges" Lib.acceptData) : ∀ i, i < 16 → W.cell? ⟨1, 2 * i, none⟩ = some (.int .u8 (Lib.accLo i : Int)) ∧ W.cell? ⟨1, 2 * i + 1, none⟩ = some (.int .u8 (Lib.accHi i : Int)) := by
  intro i hi
  obtain ⟨g, t, cs, fuel, p, hg, hty, hvar, hd⟩ := h
  have eg : g = 1 := Option.some.inj (hg.symm.trans (by kernel_rfl))
  subst eg
  have et : t = 98 := Option.some.inj (hty.symm.trans (by kernel_rfl))
  subst et
  obtain ⟨fu, d, q, hdi, he⟩ := Lib.array_elem Tryd.underlying98 hd i hi
  rw [cellsAR] at he
  have hdv : d = .agg ([(Lib.accLo i : Int), (Lib.accHi i : Int)].map fun z => .lit (.int .u8 z)) := by
    rw [List.getElem?_map, List.getElem?_range hi] at hdi
    exact (Option.some.inj hdi).symm
  subst hdv
  have fields : ∀ (j : Nat) (f : Field), (Tryd.prog.fieldsOf 97)[j]? = some f → Tryd.prog.underlying f.type = some (.int .u8) ∧ f.offset = j ∧ Tryd.prog.cellsOf f.type = 1 := by
    intro j f hj
    have e2 : Tryd.prog.fieldsOf 97 = #[(Tryd.prog.fieldsOf 97)[0]!, (Tryd.prog.fieldsOf 97)[1]!] := by kernel_rfl
    rw [e2] at hj
    match j, hj with
    | 0, hj => simp at hj; subst hj; exact ⟨by kernel_rfl, by kernel_rfl, by kernel_rfl⟩
    | 1, hj => simp at hj; subst hj; exact ⟨by kernel_rfl, by kernel_rfl, by kernel_rfl⟩
    | j + 2, hj => simp at hj
  have hcs := Lib.ints_of_struct (fs := Tryd.prog.fieldsOf 97) (by kernel_rfl) fields (by kernel_rfl) he
  have q0 := congrArg (fun l => l[0]?) hcs
  have q1 := congrArg (fun l => l[1]?) hcs
  simp only [List.getElem?_take, List.getElem?_drop] at q0 q1
  refine ⟨?_, ?_⟩
  · rw [World.var?_cell hg hvar (2 * i), ← Array.getElem?_toList, Nat.mul_comm]
    simpa using q0
  · rw [World.var?_cell hg hvar (2 * i + 1), ← Array.getElem?_toList, Nat.mul_comm]
    simpa using q1

theorem table {W : World} (h : laidMetH Tryd.prog [("unicode/utf8.acceptRanges", Rows.laid_unicode_utf8_acceptRanges), ("unicode/utf8.first", Rows.laid_unicode_utf8_first)] W) : U8 W := by
  have h' : laidMet Tryd.prog [("unicode/utf8.acceptRanges", Rows.laid_unicode_utf8_acceptRanges), ("unicode/utf8.first", Rows.laid_unicode_utf8_first)] W := h
  have h3 := Lib.laidMet.reads h' (n := "unicode/utf8.first") (d := Rows.laid_unicode_utf8_first) (by simp)
  have h4 := Lib.laidMet.reads h' (n := "unicode/utf8.acceptRanges") (d := Rows.laid_unicode_utf8_acceptRanges) (by simp)
  rw [laid_first] at h3
  rw [laid_accept] at h4
  exact ⟨first_of h3, accept_of h4⟩

def tabVals : DataW Unit → Array Value
  | .agg l => (l.flatMap fun
      | .lit (.int k z) => [Value.int k z]
      | .agg l2 => l2.map fun
        | .lit (.int k z) => Value.int k z
        | _ => .int .u8 0
      | _ => []).toArray
  | _ => #[]

def putVals (d : DataW Unit) : Obj → Obj
  | .cells _ t frozen => .cells (tabVals d) t frozen
  | o => o

noncomputable def laidWorld (os : Os) : World :=
  { World.holding Tryd.prog os ⟨#[], #[], []⟩ with
    heap := ((World.holding Tryd.prog os ⟨#[], #[], []⟩).heap.modify 1 (putVals Rows.laid_unicode_utf8_acceptRanges)).modify 0 (putVals Rows.laid_unicode_utf8_first) }

end Go.Proofs.YtkgapklhgkngnaaDoor
