/-
  Bundle's writer: a strings.Builder at the head of a struct, a map behind it; what put and String do.
  What the String of bundle's writer answers.
  The places of texts in a map; what bundle's writer lays of an entry.
  What bundle's writer lays of a table.
  What bundle's writer lays of its texts.
  The pool of texts, as a list: each once, rising strictly.
  Rising lists of texts: where a text stands, and with one text more.
  What quipuref12's place answers: where a text stands, or would, in a rising list.
  What bundle's Encode answers.
  A cursor in memory; what New, At, Fault, End, left and take do.
-/
import Derived.Test.YtobmdifledegbaaGreatDoorCB3
import Derived.Lib.UnsafeStr
import Derived.Maps.OwnOps
import Derived.Deep.RegionHeld3
import Derived.Test.YtobmdifledegbaaGreatDoorCB2
namespace Go.Proofs.YtobmdifledegbaaGreatDoor
open Go.RowKit

structure Kw (D : Nat) (w w' : World) : Prop where
  os : w'.os = w.os
  tape : w'.tape = w.tape
  output : w'.output = w.output
  size : w.heap.size ≤ w'.heap.size
  low : ∀ b, b < D → b < w.heap.size → w'.heap[b]? = w.heap[b]?
  block : ∀ b, b < w.heap.size → b ≠ D → (∀ cs fz, w.heap[b]? ≠ some (.cells cs 5 fz)) → w'.heap[b]? = w.heap[b]?

theorem Kw.refl (D : Nat) (w : World) : Kw D w w := ⟨rfl, rfl, rfl, Nat.le_refl _, fun _ _ _ => rfl, fun _ _ _ _ => rfl⟩
theorem Kw.trans {D : Nat} {a b c : World} (h : Kw D a b) (k : Kw D b c) : Kw D a c :=
  ⟨k.os.trans h.os, k.tape.trans h.tape, k.output.trans h.output, Nat.le_trans h.size k.size, fun i h1 h2 => (k.low i h1 (Nat.lt_of_lt_of_le h2 h.size)).trans (h.low i h1 h2), fun i h1 h2 h3 => by
    have e := h.block i h1 h2 h3
    exact (k.block i (Nat.lt_of_lt_of_le h1 h.size) h2 (by rw [e]; exact h3)).trans e⟩
theorem Kw.of_below {D : Nat} {a b : World} (h : Below a.heap.size a b) : Kw D a b := ⟨h.os, h.tape, h.output, h.size, fun i _ h2 => h.block i h2, fun i h1 _ _ => h.block i h1⟩
theorem Kw.blk {D : Nat} {a b : World} (h : Kw D a b) {g : Nat} {cs : Array Value} {t : TypeId} (hg : Blk a g cs t) (hn : g ≠ D) (ht : t ≠ 5) : Blk b g cs t := by
  have hlt := hg.lt
  unfold Blk at *
  rw [h.block g hlt hn (fun cs' fz q => by rw [hg] at q; simp at q; exact ht q.2.1)]
  exact hg
theorem Kw.frame {D : Nat} {a b c : World} (h : Below a.heap.size a b) (k : Kw D b c) (hD : a.heap.size ≤ D) : Below a.heap.size a c := ⟨k.os.trans h.os, k.tape.trans h.tape, k.output.trans h.output, Nat.le_trans h.size k.size, fun i hi => (k.low i (by omega) (Nat.lt_of_lt_of_le hi h.size)).trans (h.block i hi)⟩

def Wr (w : World) (D G : Nat) (l : List UInt8) : Prop :=
  ∃ p v, Blk w D #[p, v, .map (some G)] 56 ∧ (p = .pointer none ∨ p = .pointer (some ⟨D, 0, none⟩)) ∧ w.ownsRow D 5 1 v l.length (Lib.byteCells l)

theorem Wr.lt {w : World} {D G : Nat} {l : List UInt8} (h : Wr w D G l) : D < w.heap.size := by
  obtain ⟨p, v, h1, _⟩ := h
  exact h1.lt
theorem Wr.below {w w' : World} {D G : Nat} {l : List UInt8} (h : Wr w D G l) (hb : Below w.heap.size w w') : Wr w' D G l := by
  obtain ⟨p, v, h1, h2, h3⟩ := h
  exact ⟨p, v, h1.below hb h1.lt, h2, World.ownsRow.kept h3 (row := none) ⟨hb.os, hb.tape, hb.output, hb.size, fun k hk _ => hb.block k hk⟩ (by cases v.ownBlock <;> simp)⟩

theorem wr_lies : liesAt Tryz.prog Tryz.prog.depth 56 (3 / Tryz.prog.cellsOf 56) 0 54 1 = true := by kernel_rfl

theorem Blk.set0of3 {w : World} {b : Nat} {x0 x1 x2 : Value} {t : TypeId} (h : Blk w b #[x0, x1, x2] t) (v : Value) : Blk (w.setCell ⟨b, 0, none⟩ v) b #[v, x1, x2] t := by
  unfold Blk at *
  simp only [World.setCell, Array.getElem?_modify, if_true, h, Option.map_some]
  rfl

theorem kw_set {D i : Nat} (w : World) (v : Value) : Kw D w (w.setCell ⟨D, i, none⟩ v) := by
  refine ⟨rfl, rfl, rfl, by simp [World.setCell], fun k hk _ => ?_, fun k _ hk _ => ?_⟩
  · have : D ≠ k := by omega
    simp [World.setCell, Array.getElem?_modify, this]
  · have : D ≠ k := fun e => hk e.symm
    simp [World.setCell, Array.getElem?_modify, this]

theorem row_set {w : World} {B D i n : Nat} {v u : Value} {xs cs : List Value} {t : TypeId} {ca : Array Value} (h : w.ownsRow B 5 1 v n xs) (hD : Blk w D ca t) (ht : t ≠ 5) (_ : cs = xs) : (w.setCell ⟨D, i, none⟩ u).ownsRow B 5 1 v n xs :=
  h.kept (row := some D) ⟨rfl, rfl, rfl, by simp [World.setCell], fun k _ hk => by
    have : D ≠ k := fun e => hk (by rw [e])
    simp [World.setCell, Array.getElem?_modify, this]⟩ (Or.inr (Lib.ownBlock_ne h hD ht))

set_option maxRecDepth 100000 in
set_option maxHeartbeats 1000000 in
theorem wcheck_any {w : World} {D G : Nat} {l : List UInt8} (h : Wr w D G l) :
    Calls Tryz.prog 78 #[.pointer (some ⟨D, 0, none⟩)] w fun e w' => e = .returned (.tuple #[]) ∧ (∃ v, Blk w' D #[.pointer (some ⟨D, 0, none⟩), v, .map (some G)] 56 ∧ w'.ownsRow D 5 1 v l.length (Lib.byteCells l)) ∧ Kw D w w' := by
  obtain ⟨p, v, h1, h2, h3⟩ := h
  rcases h2 with rfl | rfl
  · have h0 : w.cell? ⟨D, 0, none⟩ = some (.pointer none) := h1.cell 0
    have hfz : w.frozen? ⟨D, 0, none⟩ = false := h1.free 0
    have hsh : w.shape? D = some (56, 3) := by unfold Blk at h1; simp [World.shape?, h1]
    obtain ⟨j, hj, hjs⟩ := Option.map_eq_some_iff.1 bld_size
    have k1 := Lib.run_to_unsafe (P := Tryz.prog) w ⟨D, 0, none⟩ Tryz.underlying51 Tryz.underlying138 hj (by rw [hjs]; decide) hsh (Nat.zero_lt_succ 2)
    have k2 := Lib.run_from_unsafe (P := Tryz.prog) w ⟨D, 0, none⟩ Tryz.underlying138 Tryz.underlying51 hj hsh wr_lies
    have H1 := hide h1
    have H3 := hide h3
    clear h1 h3
    go_enter Tryz.func78, Tryz.ntmps78
    go_wp2
    rw [run_callFunc_extern Tryz.func106 (by kernel_rfl) (by kernel_rfl) (by kernel_rfl) (e := Extern.AbiNoEscape.same) (by kernel_rfl), Lib.run_noEscape]
    simp only [Result.andThen]
    rw [Oper.upon_value]
    go_wp2
    go_end0
    exact ⟨rfl, ⟨v, H1.out.set0of3 _, row_set H3.out H1.out (by decide) rfl⟩, kw_set _ _⟩
  · have h0 : w.cell? ⟨D, 0, none⟩ = some (.pointer (some ⟨D, 0, none⟩)) := h1.cell 0
    obtain ⟨j, hj, _⟩ := Option.map_eq_some_iff.1 bld_size
    have key := Lib.run_neq_ptr_same (P := Tryz.prog) w ⟨D, 0, none⟩ Tryz.underlying51 hj
    have H1 := hide h1
    have H3 := hide h3
    clear h1 h3
    go_enter Tryz.func78, Tryz.ntmps78
    go_wp2
    go_end0
    exact ⟨rfl, ⟨v, H1.out, H3.out⟩, Kw.refl _ _⟩

theorem kw_grown {D n : Nat} {w w' : World} {v : Value} {xs : List Value} (h : w.grownBy w' v.ownBlock) (ho : w.ownsRow D 5 1 v n xs) : Kw D w w' := by
  have hv : ∀ k, v.ownBlock = some k → D ≤ k ∧ ∃ cs fz, w.heap[k]? = some (.cells cs 5 fz) := by
    intro k hk
    rcases ho.2 with ⟨rfl, _⟩ | ⟨g, cap, cur, rfl, hg, hh, _⟩
    · simp [Value.ownBlock] at hk
    · simp only [Value.ownBlock, Option.some.injEq] at hk
      subst hk
      exact ⟨hg, cur, (0, 0), hh⟩
  refine ⟨h.os, h.tape, h.output, h.size, fun i h1 h2 => h.block i h2 (fun e => ?_), fun i h1 _ h3 => h.block i h1 (fun e => ?_)⟩
  · have := (hv i e.symm).1; omega
  · obtain ⟨cs, fz, q⟩ := (hv i e.symm).2
    exact h3 cs fz q

set_option maxRecDepth 100000 in
set_option maxHeartbeats 2000000 in
theorem wput_any {w : World} {D G : Nat} {l : List UInt8} (s : ByteArray) (h : Wr w D G l) (hlen : l.length + s.size ≤ 140737488355328) :
    Calls Tryz.prog 55 #[.pointer (some ⟨D, 0, none⟩), .string s] w fun e w' => e = .returned (.tuple #[.int .i64 s.size, .nilIface]) ∧ Wr w' D G (l ++ bys s) ∧ Kw D w w' := by
  obtain ⟨i0, hi, hz0, hz1, hz2⟩ := info_parts byte_info
  have hDw := h.lt
  have HC := hide (wcheck_any h)
  clear h
  go_enter Tryz.func55, Tryz.ntmps55
  go_wp2_with fail
  refine HC.out.mono ?_
  rintro e w1 ⟨rfl, ⟨v, hbk, hown⟩, hk1⟩
  have c0 : w1.cell? ⟨D, 0, none⟩ = some (.pointer (some ⟨D, 0, none⟩)) := hbk.cell 0
  have c1 : w1.cell? ⟨D, 1, none⟩ = some v := hbk.cell 1
  have hlt := hbk.lt
  have hne : v.ownBlock ≠ some D := Lib.ownBlock_ne hown hbk (by decide)
  have HBK := hide hbk
  have HK := hide hk1
  clear hbk hk1 HC
  go_wp2_with (at_builtin; refine Lib.wpList_append_own_string _ rfl _ _ 52 9 rfl D 5 i0 Tryz.underlying52 Tryz.underlying9 hi hz0 hz1 hz2 _ _ _ rfl hown s rfl ?c3 ?c4 ?c5 ?_)
  case c3 => unfold maxLen; omega
  case c4 => omega
  case c5 => omega
  intro v' w2 hown' hgrow _
  have hb2 : Blk w2 D #[.pointer (some ⟨D, 0, none⟩), v, .map (some G)] 56 := by
    unfold Blk
    rw [hgrow.block D hlt (fun e => hne e.symm)]; exact HBK.out
  have d0 : w2.cell? ⟨D, 0, none⟩ = some (.pointer (some ⟨D, 0, none⟩)) := hb2.cell 0
  have d1 : w2.cell? ⟨D, 1, none⟩ = some v := hb2.cell 1
  have f1 : w2.frozen? ⟨D, 1, none⟩ = false := hb2.free 1
  have HB2 := hide hb2
  have HK2 := hide (HK.out.trans (kw_grown hgrow hown))
  obtain ⟨ao, n', cap, rfl⟩ : ∃ ao n' cap, v' = .slice ao n' cap := by
    rcases hown'.2 with ⟨hv, _⟩ | ⟨g, cap, cur, hv, _⟩
    · exact ⟨_, _, _, hv⟩
    · exact ⟨_, _, _, hv⟩
  have HO : Hid (w2.ownsRow D 5 1 (.slice ao n' cap) (l ++ bys s).length (Lib.byteCells (l ++ bys s))) := hide (by
    rw [Lib.byteCells_append, List.length_append, bys_len]
    exact hown')
  clear hb2 hown' hgrow hown
  go_wp2
  go_ret2
  exact ⟨rfl, ⟨_, _, HB2.out.set1of3 _, .inr rfl, row_set HO.out HB2.out (by decide) rfl⟩, HK2.out.trans (kw_set _ _)⟩

set_option maxHeartbeats 1000000 in
theorem put_any {w : World} {D G : Nat} {l : List UInt8} (s : ByteArray) (h : Wr w D G l) (hlen : l.length + s.size ≤ 140737488355328) :
    Calls Tryz.prog 26 #[.pointer (some ⟨D, 0, none⟩), .string s] w fun e w' => e = .returned (.tuple #[]) ∧ Wr w' D G (l ++ bys s) ∧ Kw D w w' := by
  have HC := hide (wput_any s h hlen)
  obtain ⟨p, v, h1, _, _⟩ := h
  have c0 := h1.cell 0
  clear h1
  go_enter Tryz.func26, Tryz.ntmps26
  go_wp2_with fail
  refine HC.out.mono ?_
  rintro e w1 ⟨rfl, h1, h2⟩
  have H1 := hide h1
  have H2 := hide h2
  clear h1 h2 HC
  go_wp2
  go_end0
  exact ⟨rfl, H1.out, H2.out⟩

end Go.Proofs.YtobmdifledegbaaGreatDoor

namespace Go.Proofs.YtobmdifledegbaaGreatDoor
open Go.RowKit

set_option maxRecDepth 100000 in
set_option maxHeartbeats 2000000 in
theorem wString_any {w : World} {D G B : Nat} {l : List UInt8} (h : Wr w D G l) (h0 : l ≠ []) (hB : B ≤ D) :
    Calls Tryz.prog 29 #[.pointer (some ⟨D, 0, none⟩)] w fun e w' => e = .returned (.string ⟨l.toArray⟩) ∧ Below B w w' := by
  obtain ⟨p, v, h1, _, hown⟩ := h
  have hl0 : l.length ≠ 0 := by simpa using h0
  obtain ⟨g, cap, cur, rfl, hbg, hg, hnc, hcm, hcs, htake⟩ : ∃ g cap cur, v = .slice (some ⟨g, 0, none⟩) l.length cap ∧ D ≤ g ∧ w.heap[g]? = some (.cells cur 5 (0, 0)) ∧ l.length ≤ cap ∧ cap ≤ maxLen ∧ cur.size = cap * 1 ∧ cur.toList.take (l.length * 1) = Lib.byteCells l := by
    rcases hown.2 with ⟨_, hz⟩ | ⟨g, cap, cur, hv, r⟩
    · exact absurd hz hl0
    · exact ⟨g, cap, cur, hv, r⟩
  have c1 : w.drew.cell? ⟨D, 1, none⟩ = some (.slice (some ⟨g, 0, none⟩) l.length cap) := h1.cell 1
  have hSD : (Builtin.unsafeSliceData_ #[52] 96 #[.slice (some ⟨g, 0, none⟩) l.length cap]).run Tryz.prog w.drew = .ok (.pointer (some ⟨g, 0, none⟩)) w.drew :=
    Lib.run_unsafeSliceData_row _ _ _ _ _ _ (by omega)
  have hUS : (Builtin.unsafeString_ #[96, 3] 9 #[.pointer (some ⟨g, 0, none⟩), .int .i64 l.length]).run Tryz.prog w.drew = .ok (.string ⟨l.toArray⟩) (w.drew.freeze ⟨g, 0, none⟩ l.length) := by
    refine Lib.run_unsafeString_row w.drew 96 3 9 5 Tryz.underlying96 (by kernel_rfl) g cur.size (by have hg' : w.drew.heap[g]? = some (.cells cur 5 (0, 0)) := hg; simp [World.shape?, hg']) l h0 (by omega) (by unfold maxLen at hcm; omega) ?_
    intro j x hx
    have := hown.cells (g := g) rfl j (.int .u8 x.toNat) (by simp [Lib.byteCells, hx])
    exact this
  have mixed : Tryz.prog.follows Departure.mixedOrders = true := by kernel_rfl
  clear hown h1 htake
  go_enter Tryz.func29, Tryz.ntmps29
  go_wp2
  go_region_o
  all_goals (go_wp2; go_ret; exact ⟨rfl, Lib.below_freeze (Below.drew (Below.refl B w)) (p := ⟨g, 0, none⟩) (Nat.le_trans hB hbg) _⟩)

end Go.Proofs.YtobmdifledegbaaGreatDoor

namespace Go.Proofs.YtobmdifledegbaaGreatDoor
open Go.RowKit Go.Maps

def numL (k : Nat) : Lit := .int .i64 (k : Int)
def foldP (k : Nat) (m : DataW Unit) : List (List UInt8) → DataW Unit
  | [] => m
  | s :: r => foldP (k + 1) (m.put (.string s) (.lit (numL k))) r

def plD (ps : List (List UInt8)) : DataW Unit := foldP 0 (.map []) ps

theorem foldP_snoc (s : List UInt8) : ∀ (ps : List (List UInt8)) (k : Nat) (m : DataW Unit), foldP k m (ps ++ [s]) = (foldP k m ps).put (.string s) (.lit (numL (k + ps.length)))
  | [], k, m => rfl
  | x :: r, k, m => by
    simp only [List.cons_append, foldP, List.length_cons]
    rw [foldP_snoc s r (k + 1)]
    congr 3
    omega

theorem isMap_put {D : DataW Unit} (h : IsMap D) (k : Lit) (d : DataW Unit) : IsMap (D.put k d) := by
  obtain ⟨es, rfl⟩ := h
  exact ⟨_, rfl⟩

def placeS (ps : List (List UInt8)) (s : List UInt8) : Nat := if s ∈ ps then ps.idxOf s else 0

theorem foldP_at (s : List UInt8) (z : DataW Unit) : ∀ (ps : List (List UInt8)) (k : Nat) (m : DataW Unit), IsMap m → ps.Nodup → (foldP k m ps).atKey (.string s) z = if s ∈ ps then .lit (numL (k + ps.idxOf s)) else m.atKey (.string s) z
  | [], k, m, _, _ => by simp [foldP]
  | x :: r, k, m, hm, hn => by
    simp only [foldP]
    rw [List.nodup_cons] at hn
    rw [foldP_at s z r (k + 1) _ (isMap_put hm _ _) hn.2]
    by_cases e : s = x
    · subst e
      rw [if_neg hn.1, if_pos (List.mem_cons_self ..), atKey_put_same hm (show WideAt.IsKeyLit (.string s) from trivial)]
      simp
    · have e2 : (Lit.string s) ≠ .string x := fun q => e (by injection q)
      rw [atKey_put_other e2]
      by_cases h : s ∈ r
      · rw [if_pos h, if_pos (List.mem_cons_of_mem _ h), List.idxOf_cons, show (x == s) = false from beq_eq_false_iff_ne.2 (fun q => e q.symm)]
        show DataW.lit (numL (k + 1 + r.idxOf s)) = .lit (numL (k + (r.idxOf s + 1)))
        congr 2
        omega
      · rw [if_neg h, if_neg (by simp [e, h])]

theorem plD_at (ps : List (List UInt8)) (s : List UInt8) (hn : ps.Nodup) : (plD ps).atKey (.string s) (.lit (numL 0)) = .lit (numL (placeS ps s)) := by
  unfold plD
  rw [foldP_at s _ ps 0 (.map []) ⟨_, rfl⟩ hn]
  unfold placeS
  by_cases h : s ∈ ps
  · rw [if_pos h, if_pos h, Nat.zero_add]
  · rw [if_neg h, if_neg h]; rfl

def PlAt (w : World) (G n : Nat) (ps : List (List UInt8)) : Prop := w.ownsMap (H := Unit) Tryz.prog 9 (plainElem Tryz.prog 3) G n (plD ps)

theorem PlAt.lt {w : World} {G n : Nat} {ps : List (List UInt8)} (h : PlAt w G n ps) : G < w.heap.size := World.ownsMap.lt h
theorem PlAt.kw {w w' : World} {G n D : Nat} {ps : List (List UInt8)} (h : PlAt w G n ps) (hk : Kw D w w') (hn : G < D) : PlAt w' G n ps := by
  have hlt := h.lt
  obtain ⟨es, clock, hb, hr⟩ := h
  exact ⟨es, clock, (hk.low G hn hlt).trans hb, hr⟩
theorem PlAt.below {w w' : World} {G n : Nat} {ps : List (List UInt8)} (h : PlAt w G n ps) (hb : Below w.heap.size w w') : PlAt w' G n ps := h.kw (D := G + 1) (.of_below hb) (Nat.lt_succ_self _)

theorem zeroI (w : World) : (zeroValue 3).run Tryz.prog w = .ok (.int .i64 0) w := by kernel_rfl

theorem PlAt.look {w : World} {G n : Nat} {ps : List (List UInt8)} (h : PlAt w G n ps) (hn : ps.Nodup) (s : ByteArray) (hs : s.size ≤ 140737488355328) : (Instr.lookup 50 (.map (some G)) (.string s) false).run Tryz.prog w = .ok (.int .i64 (placeS ps (bys s) : Int)) w := by
  have hkey : keyOf Tryz.prog 9 (.string s) = some (.string s.data.toList) := WideMaps.keyOf_string_mk Tryz.underlying9 (by unfold maxLen; omega)
  obtain ⟨c, h1, h2, _⟩ := World.ownsMap.lookup_int h keyS Tryz.underlying50 Tryz.underlying3 (zeroI w) hkey
  have h3 := plD_at ps (bys s) hn
  have h4 : (DataW.lit (H := Unit) (numL (placeS ps (bys s)))) = .lit (.int .i64 c) := h3.symm.trans h2
  have h5 : ((placeS ps (bys s) : Nat) : Int) = c := by
    simp only [DataW.lit.injEq, numL, Lit.int.injEq] at h4
    exact h4.2
  rw [h1, h5]

def p1 (n : Int) : List UInt8 := [bN n 0]
def p2 (n : Int) : List UInt8 := [bN n 1, bN n 0]
def p4 (n : Int) : List UInt8 := [bN n 3, bN n 2, bN n 1, bN n 0]

def entB (ps : List (List UInt8)) (e : Ent) : List UInt8 := p2 (placeS ps (bys e.key)) ++ p1 e.kind ++ (if e.kind = 1 then p4 e.num else p4 (placeS ps (bys e.text)))

set_option maxRecDepth 100000 in
set_option maxHeartbeats 4000000 in
theorem entry_any {w : World} {D G n : Nat} {l : List UInt8} {ps : List (List UInt8)} (e : Ent) (h : Wr w D G l) (hp : PlAt w G n ps) (hn : ps.Nodup) (hGD : G < D) (hl : l.length ≤ 1000000000000) (hk : e.key.size ≤ 140737488355328) (ht : e.text.size ≤ 140737488355328) :
    Calls Tryz.prog 57 #[.pointer (some ⟨D, 0, none⟩), entV e] w fun x w' => x = .returned (.tuple #[]) ∧ Wr w' D G (l ++ entB ps e) ∧ Kw D w w' := by
  obtain ⟨k, d, t, m⟩ := e
  unfold entV
  obtain ⟨WA, hWA⟩ : ∃ WA, WA = w.alloc (.cells #[.string k, .int .i64 d, .string t, .int .i64 m] 39) := ⟨_, rfl⟩
  have BA : Hid (Below w.heap.size w WA) := hide (by rw [hWA]; exact (Below.refl _ _).alloc (Nat.le_refl _) _)
  have Q : Hid (Blk WA w.heap.size #[.string k, .int .i64 d, .string t, .int .i64 m] 39) := hide (by rw [hWA]; exact Blk.newAt w w.heap.size rfl _ _)
  have WR := hide (h.below BA.out)
  have PA := hide (hp.below BA.out)
  have hne : w.heap.size ≠ D := Nat.ne_of_gt h.lt
  have HWA := hide hWA.symm
  have KW : Hid (Kw D w WA) := hide (.of_below BA.out)
  clear h hp hWA
  have c2 : Hid (∃ p v, Blk WA D #[p, v, .map (some G)] 56) := hide (by obtain ⟨p, v, h1, _⟩ := WR.out; exact ⟨p, v, h1⟩)
  obtain ⟨p, v, hD0⟩ := c2.out
  have cD0 : WA.cell? ⟨D, 0, none⟩ = some p := hD0.cell 0
  have cD2 : WA.cell? ⟨D, 2, none⟩ = some (.map (some G)) := hD0.cell 2
  have ce0 : WA.cell? ⟨w.heap.size, 0, none⟩ = some (.string k) := Q.out.cell 0
  have KP : Hid (∀ w', Kw D WA w' → (∃ l', Wr w' D G l') → w'.cell? ⟨D, 2, none⟩ = some (.map (some G)) ∧ w'.cell? ⟨w.heap.size, 0, none⟩ = some (.string k) ∧ (Instr.lookup 50 (.map (some G)) (.string k) false).run Tryz.prog w' = .ok (.int .i64 (placeS ps (bys k) : Int)) w') := hide (fun w' hk' hw' => by
    obtain ⟨l', p', v', h1, _⟩ := hw'
    exact ⟨h1.cell 2, (hk'.blk Q.out hne (by decide)).cell 0, PlAt.look (PA.out.kw hk' hGD) hn k hk⟩)
  have C1 : Hid (∀ X, Hid (Below WA.heap.size WA X) → Calls Tryz.prog 52 #[.int .i64 (placeS ps (bys k) : Int)] X fun x w' => x = .returned (.string (put2 (placeS ps (bys k) : Int))) ∧ Hid (Below WA.heap.size WA w') ∧ w'.cell? ⟨D, 2, none⟩ = some (.map (some G)) ∧ w'.cell? ⟨w.heap.size, 0, none⟩ = some (.string k) ∧ (Instr.lookup 50 (.map (some G)) (.string k) false).run Tryz.prog w' = .ok (.int .i64 (placeS ps (bys k) : Int)) w') := hide (fun X hX => (Put16_any _ X).mono (fun x w' q => ⟨q.1, hide (hX.out.trans (q.2.mono hX.out.size)), KP.out w' (.of_below (hX.out.trans (q.2.mono hX.out.size))) ⟨l, WR.out.below (hX.out.trans (q.2.mono hX.out.size))⟩⟩))
  have C2 : Hid (∀ X, Hid (Below WA.heap.size WA X) → Calls Tryz.prog 26 #[.pointer (some ⟨D, 0, none⟩), .string (put2 (placeS ps (bys k) : Int))] X fun x w' => x = .returned (.tuple #[]) ∧ Hid (Wr w' D G (l ++ p2 (placeS ps (bys k))) ∧ Kw D WA w') ∧ w'.cell? ⟨D, 2, none⟩ = some (.map (some G)) ∧ w'.cell? ⟨w.heap.size, 0, none⟩ = some (.string k) ∧ (Instr.lookup 50 (.map (some G)) (.string k) false).run Tryz.prog w' = .ok (.int .i64 (placeS ps (bys k) : Int)) w') := hide (fun X hX => (put_any (put2 (placeS ps (bys k) : Int)) (WR.out.below hX.out) (by show l.length + 2 ≤ _; omega)).mono (fun x w' q => ⟨q.1, hide ⟨q.2.1, (Kw.of_below hX.out).trans q.2.2⟩, KP.out w' ((Kw.of_below hX.out).trans q.2.2) ⟨_, q.2.1⟩⟩))
  have b0 : Hid (Below WA.heap.size WA WA.drew) := (Below.refl _ _).drew
  obtain ⟨s1, s2, s3⟩ := KP.out WA.drew (.of_below b0.out) ⟨l, WR.out.below b0.out⟩
  have hl2 : Hid (∀ x, (l ++ p2 x).length = l.length + 2) := hide (fun x => by rw [List.length_append]; rfl)
  have ER : Hid (entB ps ⟨k, d, t, m⟩ = p2 (placeS ps (bys k)) ++ p1 d ++ (if d = 1 then p4 m else p4 (placeS ps (bys t)))) := hide rfl
  generalize hPK : (placeS ps (bys k) : Int) = PK at *
  clear hPK
  have hD1 := hide hD0
  clear hD0 KP
  go_enter Tryz.func57, Tryz.ntmps57
  go_wp2_with (simp only [HWA.out])
  have mk0 : True := trivial
  go_region_held3 (fun w' => w'.cell? ⟨D, 2, none⟩ = some (.map (some G)) ∧ w'.cell? ⟨w.heap.size, 0, none⟩ = some (.string k) ∧ (Instr.lookup 50 (.map (some G)) (.string k) false).run Tryz.prog w' = .ok (.int .i64 PK) w') (go_keep) (first
    | (clear mk0; go_at_call 52; refine (C1.out _ b0).mono ?_; rintro x v1 ⟨rfl, P1, y1, y2, y3⟩; have mk1 : True := trivial)
    | (clear mk1; go_at_call 26; refine (C2.out _ P1).mono ?_; rintro x v2 ⟨rfl, P2, y4, y5, y6⟩; have mk2 : True := trivial))
  obtain ⟨R1, K1⟩ := P2.out
  have WR1 := hide R1
  have KW1 := hide K1
  clear R1 K1 P2 P1 C1 C2 mk2 y1 y2 y3 y4 y5 y6 s1 s2 s3 b0
  have z1 : v2.cell? ⟨w.heap.size, 1, none⟩ = some (.int .i64 d) := (KW1.out.blk Q.out hne (by decide)).cell 1
  have C3 := hide (Put8_any d v2)
  go_wp2_with fail
  refine C3.out.mono ?_
  rintro x w3 ⟨rfl, hb3⟩
  have WR3 := hide (WR1.out.below hb3)
  have KW3 := hide (KW1.out.trans (.of_below hb3))
  have C4 := hide (put_any (⟨#[bN d 0]⟩ : ByteArray) WR3.out (by rw [hl2.out]; show l.length + 2 + 1 ≤ _; omega))
  clear hb3 C3 z1 WR1 KW1
  go_wp2_with fail
  refine C4.out.mono ?_
  rintro x w4 ⟨rfl, hr4, hk4⟩
  have WR4 : Hid (Wr w4 D G (l ++ p2 PK ++ p1 d)) := hide hr4
  have KW4 := hide (KW3.out.trans hk4)
  have Q4 := hide (KW4.out.blk Q.out hne (by decide))
  have z1 : w4.cell? ⟨w.heap.size, 1, none⟩ = some (.int .i64 d) := Q4.out.cell 1
  have hl3 : Hid ((l ++ p2 PK ++ p1 d).length = l.length + 3) := hide (by rw [List.length_append, hl2.out]; rfl)
  clear hr4 hk4 C4 WR3 KW3
  by_cases h1 : d = 1
  · subst h1
    have ER2 : Hid (l ++ entB ps ⟨k, 1, t, m⟩ = l ++ p2 PK ++ p1 1 ++ p4 m) := hide (by rw [ER.out, if_pos rfl]; simp only [List.append_assoc])
    have z3 : w4.cell? ⟨w.heap.size, 3, none⟩ = some (.int .i64 m) := Q4.out.cell 3
    have C5 := hide (Put32_any m w4)
    clear ER
    go_wp2_with fail
    refine C5.out.mono ?_
    rintro x w5 ⟨rfl, hb5⟩
    have WR5 := hide (WR4.out.below hb5)
    have KW5 := hide (KW4.out.trans (.of_below hb5))
    have C6 := hide (put_any (put4 m) WR5.out (by rw [hl3.out]; show l.length + 3 + 4 ≤ _; omega))
    clear hb5 C5 z1 z3
    go_wp2_with fail
    refine C6.out.mono ?_
    rintro x w6 ⟨rfl, hr6, hk6⟩
    have WR6 := hide hr6
    have KW6 := hide (KW5.out.trans hk6)
    clear hr6 hk6 C6
    go_wp2
    refine bodyPost_ret (results_none rfl _ _ _) rfl ?_
    exact ⟨rfl, by rw [ER2.out]; exact WR6.out, KW.out.trans KW6.out⟩
  · have ER2 : Hid (l ++ entB ps ⟨k, d, t, m⟩ = l ++ p2 PK ++ p1 d ++ p4 (placeS ps (bys t))) := hide (by rw [ER.out, if_neg h1]; simp only [List.append_assoc])
    have h1' : (d == 1) = false := beq_eq_false_iff_ne.2 h1
    have KP : Hid (∀ w', Kw D w4 w' → (∃ l', Wr w' D G l') → w'.cell? ⟨D, 2, none⟩ = some (.map (some G)) ∧ w'.cell? ⟨w.heap.size, 2, none⟩ = some (.string t) ∧ (Instr.lookup 50 (.map (some G)) (.string t) false).run Tryz.prog w' = .ok (.int .i64 (placeS ps (bys t) : Int)) w') := hide (fun w' hk' hw' => by
      obtain ⟨l', p', v', h1, _⟩ := hw'
      exact ⟨h1.cell 2, (hk'.blk Q4.out hne (by decide)).cell 2, PlAt.look ((PA.out.kw KW4.out hGD).kw hk' hGD) hn t ht⟩)
    have C5 : Hid (∀ X, Hid (Below w4.heap.size w4 X) → Calls Tryz.prog 79 #[.int .i64 (placeS ps (bys t) : Int)] X fun x w' => x = .returned (.string (put4 (placeS ps (bys t) : Int))) ∧ Hid (Below w4.heap.size w4 w') ∧ w'.cell? ⟨D, 2, none⟩ = some (.map (some G)) ∧ w'.cell? ⟨w.heap.size, 2, none⟩ = some (.string t) ∧ (Instr.lookup 50 (.map (some G)) (.string t) false).run Tryz.prog w' = .ok (.int .i64 (placeS ps (bys t) : Int)) w') := hide (fun X hX => (Put32_any _ X).mono (fun x w' q => ⟨q.1, hide (hX.out.trans (q.2.mono hX.out.size)), KP.out w' (.of_below (hX.out.trans (q.2.mono hX.out.size))) ⟨_, WR4.out.below (hX.out.trans (q.2.mono hX.out.size))⟩⟩))
    have C6 : Hid (∀ X, Hid (Below w4.heap.size w4 X) → Calls Tryz.prog 26 #[.pointer (some ⟨D, 0, none⟩), .string (put4 (placeS ps (bys t) : Int))] X fun x w' => x = .returned (.tuple #[]) ∧ Hid (Wr w' D G (l ++ p2 PK ++ p1 d ++ p4 (placeS ps (bys t))) ∧ Kw D w4 w') ∧ w'.cell? ⟨D, 2, none⟩ = some (.map (some G)) ∧ w'.cell? ⟨w.heap.size, 2, none⟩ = some (.string t) ∧ (Instr.lookup 50 (.map (some G)) (.string t) false).run Tryz.prog w' = .ok (.int .i64 (placeS ps (bys t) : Int)) w') := hide (fun X hX => (put_any (put4 (placeS ps (bys t) : Int)) (WR4.out.below hX.out) (by rw [hl3.out]; show l.length + 3 + 4 ≤ _; omega)).mono (fun x w' q => ⟨q.1, hide ⟨q.2.1, (Kw.of_below hX.out).trans q.2.2⟩, KP.out w' ((Kw.of_below hX.out).trans q.2.2) ⟨_, q.2.1⟩⟩))
    have b0 : Hid (Below w4.heap.size w4 w4.drew) := (Below.refl _ _).drew
    obtain ⟨s1, s2, s3⟩ := KP.out w4.drew (.of_below b0.out) ⟨_, WR4.out.below b0.out⟩
    generalize hPT : (placeS ps (bys t) : Int) = PT at *
    clear hPT KP ER
    go_wp2_with fail
    have mk0 : True := trivial
    go_region_held3 (fun w' => w'.cell? ⟨D, 2, none⟩ = some (.map (some G)) ∧ w'.cell? ⟨w.heap.size, 2, none⟩ = some (.string t) ∧ (Instr.lookup 50 (.map (some G)) (.string t) false).run Tryz.prog w' = .ok (.int .i64 PT) w') (go_keep) (first
      | (clear mk0; go_at_call 79; refine (C5.out _ b0).mono ?_; rintro x v5 ⟨rfl, P1, y1, y2, y3⟩; have mk1 : True := trivial)
      | (clear mk1; go_at_call 26; refine (C6.out _ P1).mono ?_; rintro x v6 ⟨rfl, P2, y4, y5, y6⟩; have mk2 : True := trivial))
    go_wp2
    go_end0
    exact ⟨rfl, by rw [ER2.out]; exact P2.out.1, KW.out.trans (KW4.out.trans P2.out.2)⟩

end Go.Proofs.YtobmdifledegbaaGreatDoor

namespace Go.Proofs.YtobmdifledegbaaGreatDoor
open Go.RowKit Go.Maps

def parB (p : Int) : Int := if p = -1 then 255 else p

set_option maxHeartbeats 1000000 in
theorem parentByte_any (p : Int) (w : World) : Calls Tryz.prog 56 #[.int .i64 p] w fun e w' => e = .returned (.int .i64 (parB p)) ∧ w = w' := by
  by_cases h : p = -1
  · subst h
    go_enter Tryz.func56, Tryz.ntmps56
    go_wp2
    go_ret
    exact ⟨rfl, rfl⟩
  · have h' : (p == -1) = false := beq_eq_false_iff_ne.2 h
    have e : Hid (parB p = p) := hide (if_neg h)
    go_enter Tryz.func56, Tryz.ntmps56
    go_wp2
    go_ret
    exact ⟨by rw [e.out]; rfl, rfl⟩

def tabB (ps : List (List UInt8)) (t : Tab) : List UInt8 := p2 (placeS ps (bys t.name)) ++ p1 (parB t.parent) ++ p2 (t.ents.length : Int) ++ t.ents.flatMap (entB ps)

theorem entB_len (ps : List (List UInt8)) (e : Ent) : (entB ps e).length = 7 := by unfold entB; split <;> rfl
theorem entsB_len (ps : List (List UInt8)) : ∀ es : List Ent, (es.flatMap (entB ps)).length = 7 * es.length
  | [] => rfl
  | e :: r => by rw [List.flatMap_cons, List.length_append, entB_len, entsB_len ps r, List.length_cons]; omega
theorem entsB_next (ps : List (List UInt8)) (es : List Ent) (j : Nat) (hj : j < es.length) : (es.take (j + 1)).flatMap (entB ps) = (es.take j).flatMap (entB ps) ++ entB ps (entN es j) := by
  rw [List.take_add_one, entN_some hj, List.flatMap_append]
  simp

set_option maxRecDepth 100000 in
set_option maxHeartbeats 4000000 in
theorem table_any {w0 w : World} {D G n : Nat} {l : List UInt8} {ps : List (List UInt8)} {a2 : Option Addr} {cap2 : Nat} (t : Tab) (h : Wr w D G l) (hp : PlAt w G n ps) (hn : ps.Nodup) (hGD : G < D) (hl : l.length ≤ 100000000000) (hk : t.name.size ≤ 140737488355328) (hE : ESl w0 (.slice a2 t.ents.length cap2) t.ents) (hz : SzE t.ents) (hel : t.ents.length ≤ 1024) (hw0 : Below w0.heap.size w0 w) (hD0 : w0.heap.size ≤ D) :
    Calls Tryz.prog 28 #[.pointer (some ⟨D, 0, none⟩), .agg #[.string t.name, .int .i64 t.parent, .slice a2 t.ents.length cap2]] w fun x w' => x = .returned (.tuple #[]) ∧ Wr w' D G (l ++ tabB ps t) ∧ Kw D w w' := by
  obtain ⟨k, d, es⟩ := t
  simp only at *
  obtain ⟨M, hM⟩ : ∃ M, M = es.length := ⟨_, rfl⟩
  obtain ⟨WA, hWA⟩ : ∃ WA, WA = w.alloc (.cells #[.string k, .int .i64 d, .slice a2 M cap2] 37) := ⟨_, rfl⟩
  have BA : Hid (Below w.heap.size w WA) := hide (by rw [hWA]; exact (Below.refl _ _).alloc (Nat.le_refl _) _)
  have Q : Hid (Blk WA w.heap.size #[.string k, .int .i64 d, .slice a2 M cap2] 37) := hide (by rw [hWA]; exact Blk.newAt w w.heap.size rfl _ _)
  have WR := hide (h.below BA.out)
  have PA := hide (hp.below BA.out)
  have hne : w.heap.size ≠ D := Nat.ne_of_gt h.lt
  have HWA := hide hWA.symm
  have KW : Hid (Kw D w WA) := hide (.of_below BA.out)
  have W0A := hide (hw0.trans (BA.out.mono hw0.size))
  have HZ := hide hz
  obtain ⟨_, _, hv, hc2, hE2⟩ := hE
  simp only [Value.slice.injEq] at hv
  obtain ⟨rfl, _, rfl⟩ := hv
  have HE2 := hide hE2
  have HD0 := hide hD0
  rw [← hM] at hel hc2 ⊢
  have HM := hide hM
  clear h hp hWA hw0 hz hE2 hM hD0
  have KP : Hid (∀ w', Kw D WA w' → (∃ l', Wr w' D G l') → w'.cell? ⟨D, 2, none⟩ = some (.map (some G)) ∧ w'.cell? ⟨w.heap.size, 0, none⟩ = some (.string k) ∧ (Instr.lookup 50 (.map (some G)) (.string k) false).run Tryz.prog w' = .ok (.int .i64 (placeS ps (bys k) : Int)) w') := hide (fun w' hk' hw' => by
    obtain ⟨l', p', v', h1, _⟩ := hw'
    exact ⟨h1.cell 2, (hk'.blk Q.out hne (by decide)).cell 0, PlAt.look (PA.out.kw hk' hGD) hn k hk⟩)
  have C1 : Hid (∀ X, Hid (Below WA.heap.size WA X) → Calls Tryz.prog 52 #[.int .i64 (placeS ps (bys k) : Int)] X fun x w' => x = .returned (.string (put2 (placeS ps (bys k) : Int))) ∧ Hid (Below WA.heap.size WA w') ∧ w'.cell? ⟨D, 2, none⟩ = some (.map (some G)) ∧ w'.cell? ⟨w.heap.size, 0, none⟩ = some (.string k) ∧ (Instr.lookup 50 (.map (some G)) (.string k) false).run Tryz.prog w' = .ok (.int .i64 (placeS ps (bys k) : Int)) w') := hide (fun X hX => (Put16_any _ X).mono (fun x w' q => ⟨q.1, hide (hX.out.trans (q.2.mono hX.out.size)), KP.out w' (.of_below (hX.out.trans (q.2.mono hX.out.size))) ⟨l, WR.out.below (hX.out.trans (q.2.mono hX.out.size))⟩⟩))
  have C2 : Hid (∀ X, Hid (Below WA.heap.size WA X) → Calls Tryz.prog 26 #[.pointer (some ⟨D, 0, none⟩), .string (put2 (placeS ps (bys k) : Int))] X fun x w' => x = .returned (.tuple #[]) ∧ Hid (Wr w' D G (l ++ p2 (placeS ps (bys k))) ∧ Kw D WA w') ∧ w'.cell? ⟨D, 2, none⟩ = some (.map (some G)) ∧ w'.cell? ⟨w.heap.size, 0, none⟩ = some (.string k) ∧ (Instr.lookup 50 (.map (some G)) (.string k) false).run Tryz.prog w' = .ok (.int .i64 (placeS ps (bys k) : Int)) w') := hide (fun X hX => (put_any (put2 (placeS ps (bys k) : Int)) (WR.out.below hX.out) (by show l.length + 2 ≤ _; omega)).mono (fun x w' q => ⟨q.1, hide ⟨q.2.1, (Kw.of_below hX.out).trans q.2.2⟩, KP.out w' ((Kw.of_below hX.out).trans q.2.2) ⟨_, q.2.1⟩⟩))
  have b0 : Hid (Below WA.heap.size WA WA.drew) := (Below.refl _ _).drew
  obtain ⟨s1, s2, s3⟩ := KP.out WA.drew (.of_below b0.out) ⟨l, WR.out.below b0.out⟩
  have hl2 : Hid (∀ x, (l ++ p2 x).length = l.length + 2) := hide (fun x => by rw [List.length_append]; rfl)
  have ER : Hid (tabB ps ⟨k, d, es⟩ = p2 (placeS ps (bys k)) ++ p1 (parB d) ++ p2 (M : Int) ++ es.flatMap (entB ps)) := hide (by rw [HM.out]; rfl)
  generalize hPK : (placeS ps (bys k) : Int) = PK at *
  clear hPK KP
  go_enter Tryz.func28, Tryz.ntmps28
  go_wp2_with (simp only [HWA.out])
  have mk0 : True := trivial
  go_region_held3 (fun w' => w'.cell? ⟨D, 2, none⟩ = some (.map (some G)) ∧ w'.cell? ⟨w.heap.size, 0, none⟩ = some (.string k) ∧ (Instr.lookup 50 (.map (some G)) (.string k) false).run Tryz.prog w' = .ok (.int .i64 PK) w') (go_keep) (first
    | (clear mk0; go_at_call 52; refine (C1.out _ b0).mono ?_; rintro x v1 ⟨rfl, P1, y1, y2, y3⟩; have mk1 : True := trivial)
    | (clear mk1; go_at_call 26; refine (C2.out _ P1).mono ?_; rintro x v2 ⟨rfl, P2, y4, y5, y6⟩; have mk2 : True := trivial))
  obtain ⟨R1, K1⟩ := P2.out
  have WR1 := hide R1
  have KW1 := hide K1
  clear R1 K1 P2 P1 C1 C2 mk2 y1 y2 y3 y4 y5 y6 s1 s2 s3 b0
  have z1 : v2.cell? ⟨w.heap.size, 1, none⟩ = some (.int .i64 d) := (KW1.out.blk Q.out hne (by decide)).cell 1
  have C3 := hide (parentByte_any d v2)
  go_wp2_with fail
  refine C3.out.mono ?_
  rintro x w2 ⟨rfl, rfl⟩
  have C4 := hide (Put8_any (parB d) v2)
  clear C3
  go_wp2_with fail
  refine C4.out.mono ?_
  rintro x w3 ⟨rfl, hb3⟩
  have WR3 := hide (WR1.out.below hb3)
  have KW3 := hide (KW1.out.trans (.of_below hb3))
  have C5 := hide (put_any (⟨#[bN (parB d) 0]⟩ : ByteArray) WR3.out (by rw [hl2.out]; show l.length + 2 + 1 ≤ _; omega))
  clear hb3 C4 z1 WR1 KW1
  go_wp2_with fail
  refine C5.out.mono ?_
  rintro x w4 ⟨rfl, hr4, hk4⟩
  have WR4 : Hid (Wr w4 D G (l ++ p2 PK ++ p1 (parB d))) := hide hr4
  have KW4 := hide (KW3.out.trans hk4)
  have hl3 : Hid ((l ++ p2 PK ++ p1 (parB d)).length = l.length + 3) := hide (by rw [List.length_append, hl2.out]; rfl)
  have z2 : w4.cell? ⟨w.heap.size, 2, none⟩ = some (.slice a2 M cap2) := (KW4.out.blk Q.out hne (by decide)).cell 2
  have C6 := hide (Put16_any (M : Int) w4)
  clear hr4 hk4 C5 WR3 KW3
  go_wp2_with fail
  refine C6.out.mono ?_
  rintro x w5 ⟨rfl, hb5⟩
  have WR5 := hide (WR4.out.below hb5)
  have KW5 := hide (KW4.out.trans (.of_below hb5))
  have C7 := hide (put_any (put2 (M : Int)) WR5.out (by rw [hl3.out]; show l.length + 3 + 2 ≤ _; omega))
  clear hb5 C6 z2 WR4 KW4
  go_wp2_with fail
  refine C7.out.mono ?_
  rintro x w6 ⟨rfl, hr6, hk6⟩
  have WR6 : Hid (Wr w6 D G (l ++ p2 PK ++ p1 (parB d) ++ p2 (M : Int))) := hide hr6
  have KW6 := hide (KW5.out.trans hk6)
  have hl5 : Hid ((l ++ p2 PK ++ p1 (parB d) ++ p2 (M : Int)).length = l.length + 5) := hide (by rw [List.length_append, hl3.out]; rfl)
  have z2 : w6.cell? ⟨w.heap.size, 2, none⟩ = some (.slice a2 M cap2) := (KW6.out.blk Q.out hne (by decide)).cell 2
  have ER2 : Hid (l ++ tabB ps ⟨k, d, es⟩ = l ++ p2 PK ++ p1 (parB d) ++ p2 (M : Int) ++ es.flatMap (entB ps)) := hide (by rw [ER.out]; simp only [List.append_assoc])
  generalize hl1 : l ++ p2 PK ++ p1 (parB d) ++ p2 (M : Int) = l1 at *
  clear hl1 hr6 hk6 C7 WR5 KW5 ER
  have PA6 := hide (PA.out.kw KW6.out hGD)
  go_wp2
  go_loopw [31] (fun p wr => ∃ j : Nat, j ≤ M ∧ p = .int .i64 (j : Int) ∧ Hid (Wr wr D G (l1 ++ (es.take j).flatMap (entB ps))) ∧ Hid (Kw D w6 wr)) (fun p _ => M - (intOf p).toNat)
  case atStart => exact ⟨0, Nat.zero_le _, rfl, hide (by simpa using WR6.out), Kw.refl _ _⟩
  case round =>
    obtain ⟨j, hj, rfl, HWr, HKw⟩ := hrel
    have K0 := hide (Kw.frame W0A.out (KW6.out.trans HKw.out) HD0.out)
    by_cases hjl : j < M
    · have hjl' : (j : Int) < (M : Int) := by omega
      have hjt : j < es.length := by rw [← HM.out]; exact hjl
      obtain ⟨b2, o2, ha2, hb2, hcl⟩ : ∃ b o, a2 = some ⟨b, o, none⟩ ∧ b < w0.heap.size ∧ ∀ i, i < es.length → w0.cell? ⟨b, o + i * 4, none⟩ = some (.string (entN es i).key) ∧ w0.cell? ⟨b, o + i * 4 + 1, none⟩ = some (.int .i64 (entN es i).kind) ∧ w0.cell? ⟨b, o + i * 4 + 2, none⟩ = some (.string (entN es i).text) ∧ w0.cell? ⟨b, o + i * 4 + 3, none⟩ = some (.int .i64 (entN es i).num) := by
        rcases HE2.out with h | h
        · rw [h] at hjt; simp at hjt
        · exact h
      subst ha2
      obtain ⟨x0, x1, x2, x3⟩ := hcl j hjt
      have bc : ∀ i, wr.cell? ⟨b2, i, none⟩ = w0.cell? ⟨b2, i, none⟩ := fun i => K0.out.cell hb2
      rw [← bc] at x0 x1 x2 x3
      obtain ⟨zk, zt⟩ := HZ.out j
      have NE := hide (entsB_next ps es j hjt)
      have LE : Hid ((l1 ++ (es.take j).flatMap (entB ps)).length ≤ 1000000000000) := hide (by
        rw [List.length_append, hl5.out, entsB_len, List.length_take]
        omega)
      obtain ⟨g, hg⟩ : ∃ g, g = entN es j := ⟨_, rfl⟩
      rw [← hg] at x0 x1 x2 x3 zk zt NE
      obtain ⟨WB, hWB⟩ : ∃ WB, WB = wr.alloc (.cells #[.string g.key, .int .i64 g.kind, .string g.text, .int .i64 g.num] 39) := ⟨_, rfl⟩
      have BB : Hid (Below wr.heap.size wr WB) := hide (by rw [hWB]; exact (Below.refl _ _).alloc (Nat.le_refl _) _)
      have QE := hide (Blk.newAt wr wr.heap.size rfl #[.string g.key, .int .i64 g.kind, .string g.text, .int .i64 g.num] 39)
      rw [← hWB] at QE
      have HWB := hide hWB.symm
      have CE : Hid (Calls Tryz.prog 57 #[.pointer (some ⟨D, 0, none⟩), .agg #[.string g.key, .int .i64 g.kind, .string g.text, .int .i64 g.num]] WB fun x w' => x = .returned (.tuple #[]) ∧ Wr w' D G (l1 ++ (es.take j).flatMap (entB ps) ++ entB ps g) ∧ Kw D WB w') := hide (entry_any g (HWr.out.below BB.out) ((PA6.out.kw HKw.out hGD).below BB.out) hn hGD LE.out zk zt)
      have KB := hide (HKw.out.trans (.of_below BB.out))
      have y0 := QE.out.cell 0
      have y1 := QE.out.cell 1
      have y2 := QE.out.cell 2
      have y3 := QE.out.cell 3
      clear hg bc hcl hjt hWB zk zt LE HWr HKw BB K0 hb2 z2
      go_wp2_with (simp only [HWB.out])
      refine CE.out.mono ?_
      rintro x w7 ⟨rfl, hr7, hk7⟩
      have WN : Hid (Wr w7 D G (l1 ++ (es.take (j + 1)).flatMap (entB ps))) := hide (by rw [NE.out, ← List.append_assoc]; exact hr7)
      have KN := hide (KB.out.trans hk7)
      clear hr7 hk7 CE KB NE
      go_wp2
      exact ⟨⟨j + 1, by omega, by go_num, WN, KN⟩, by simp [intOf]; omega⟩
    · obtain rfl : j = M := by omega
      have hjl' : ¬ (j : Int) < (j : Int) := by omega
      have WN : Hid (Wr wr D G (l1 ++ es.flatMap (entB ps))) := hide (by
        have := HWr.out
        rwa [List.take_of_length_le (l := es) (by rw [← HM.out]; exact Nat.le_refl _)] at this)
      clear HWr hjl
      go_wp2
      go_end0
      exact ⟨rfl, by rw [ER2.out]; exact WN.out, KW.out.trans (KW6.out.trans HKw.out)⟩

end Go.Proofs.YtobmdifledegbaaGreatDoor

namespace Go.Proofs.YtobmdifledegbaaGreatDoor
open Go.RowKit Go.Maps

theorem Kw.to_below {D B : Nat} {a b : World} (h : Kw D a b) (hB : B ≤ D) (hs : B ≤ a.heap.size) : Below B a b := ⟨h.os, h.tape, h.output, h.size, fun i hi => h.low i (by omega) (by omega)⟩

theorem RowS.kw {D B : Nat} {a b : World} {v : Value} {ps : List (List UInt8)} (h : RowS a B v ps) (hk : Kw D a b) (hB : D < B) : RowS b B v ps := by
  refine ⟨h.1, ?_⟩
  rcases h.2 with q | ⟨g, cap, cur, h1, h2, h3, h4⟩
  · exact .inl q
  · refine .inr ⟨g, cap, cur, h1, h2, ?_, h4⟩
    rw [hk.block g (lt_of_block h3) (by omega) (fun cs fz q => by rw [h3] at q; simp at q)]
    exact h3
theorem RowS.but {G B : Nat} {a b : World} {v : Value} {ps : List (List UInt8)} (h : RowS a B v ps) (hk : But G a b) (hB : G < B) : RowS b B v ps := by
  refine ⟨h.1, ?_⟩
  rcases h.2 with q | ⟨g, cap, cur, h1, h2, h3, h4⟩
  · exact .inl q
  · refine .inr ⟨g, cap, cur, h1, h2, ?_, h4⟩
    rw [hk.block g (lt_of_block h3) (by omega)]
    exact h3
theorem RowS.cell {B q cap : Nat} {a : World} {ps : List (List UInt8)} (h : RowS a B (.slice (some ⟨q, 0, none⟩) ps.length cap) ps) (k : Nat) (hk : k < ps.length) : a.cell? ⟨q, k, none⟩ = some (.string ⟨(ps[k]?.getD []).toArray⟩) := by
  have := World.ownsRow.cells h (g := q) rfl k (encStr (ps[k]?.getD [])) (by rw [List.getElem?_map, List.getElem?_eq_getElem hk]; rfl)
  rw [Addr.add_lit, Nat.zero_add] at this
  exact this
theorem Wr.but {w w' : World} {D G : Nat} {l : List UInt8} (h : Wr w D G l) (hb : But G w w') (hG : G < D) : Wr w' D G l := by
  obtain ⟨p, v, h1, h2, h3⟩ := h
  refine ⟨p, v, hb.blk h1 (by omega), h2, World.ownsRow.kept h3 (hb.to_grown rfl) ?_⟩
  rcases h3.2 with ⟨rfl, _⟩ | ⟨g, cap, cur, rfl, hg, _⟩
  · exact .inl rfl
  · right
    simp only [Value.ownBlock, ne_eq, Option.some.injEq]
    omega

def txtB (ps : List (List UInt8)) : List UInt8 := ps.flatMap (fun s => bys (ptxV ⟨s.toArray⟩))

theorem ptxV_le (s : ByteArray) : (bys (ptxV s)).length ≤ 1026 := by
  rw [bys_len]
  unfold ptxV
  by_cases h : ptxE s = 0
  · rw [if_pos h]
    unfold ptxE at h
    by_cases h1 : 1024 < s.size
    · rw [if_pos h1] at h; cases h
    · rw [ByteArray.size_append]
      show 2 + s.size ≤ 1026
      omega
  · rw [if_neg h]; exact Nat.zero_le _

theorem txtB_len : ∀ ps, (txtB ps).length ≤ 1026 * ps.length
  | [] => Nat.zero_le _
  | s :: r => by
    have h1 := txtB_len r
    have h2 := ptxV_le ⟨s.toArray⟩
    unfold txtB at *
    rw [List.flatMap_cons, List.length_append, List.length_cons]
    omega
theorem txtB_next (ps : List (List UInt8)) (k : Nat) (hk : k < ps.length) : txtB (ps.take (k + 1)) = txtB (ps.take k) ++ bys (ptxV ⟨(ps[k]?.getD []).toArray⟩) := by
  rw [List.take_add_one, List.getElem?_eq_getElem hk]
  unfold txtB
  rw [List.flatMap_append]
  simp

theorem PlAt.made (w : World) : PlAt (w.alloc (.map #[] 0)) w.heap.size 0 [] := World.ownsMap_made _ _ _ _

set_option maxRecDepth 100000 in
set_option maxHeartbeats 4000000 in
theorem wtexts_any {w0 w : World} {D G B q cap N : Nat} {ps : List (List UInt8)} (h : Wr w D G []) (hp : PlAt w G 0 []) (hN : N = ps.length) (hNb : N ≤ 10000) (hs : ∀ s ∈ ps, s.length ≤ 140737488355328) (hcap : N ≤ cap) (hR : RowS w B (.slice (some ⟨q, 0, none⟩) ps.length cap) ps) (hGD : G < D) (hDB : D < B) (hT : U8 w0) (hw0 : Below w0.heap.size w0 w) (hG0 : w0.heap.size ≤ G) :
    Calls Tryz.prog 23 #[.pointer (some ⟨D, 0, none⟩), .slice (some ⟨q, 0, none⟩) N cap] w fun x w' => x = .returned (.tuple #[]) ∧ Wr w' D G (p2 (N : Int) ++ txtB ps) ∧ PlAt w' G N ps ∧ Below G w w' := by
  have hGw := h.lt
  have C1 := hide (Put16_any (N : Int) w)
  have HW0 := hide hw0
  have HT := hide hT
  have HR := hide hR
  have HP := hide hp
  have HWR := hide h
  have HN := hide hN
  have HS := hide hs
  clear h hp hR hw0 hT hN hs
  go_enter Tryz.func23, Tryz.ntmps23
  go_wp2_with fail
  refine C1.out.mono ?_
  rintro x w1 ⟨rfl, hb1⟩
  have WR1 := hide (HWR.out.below hb1)
  have PA1 := hide (HP.out.below hb1)
  have K1 : Hid (Kw D w w1) := hide (.of_below hb1)
  have C2 := hide (put_any (put2 (N : Int)) WR1.out (by show 0 + 2 ≤ _; omega))
  clear hb1 C1 HP HWR
  go_wp2_with fail
  refine C2.out.mono ?_
  rintro x w2 ⟨rfl, hr2, hk2⟩
  have WR2 : Hid (Wr w2 D G (p2 (N : Int) ++ txtB (ps.take 0))) := hide (by rw [List.take_zero, show txtB [] = [] from rfl, List.append_nil]; exact hr2)
  have PA2 := hide (PA1.out.kw hk2 hGD)
  have K2 := hide (K1.out.trans hk2)
  have RW2 := hide (HR.out.kw K2.out hDB)
  have B2 := hide (K2.out.to_below (B := G) (by omega) (by omega))
  clear hr2 hk2 C2 WR1 PA1 K1 HR
  go_wp2
  go_loopw [15] (fun p wr => ∃ k : Nat, k ≤ N ∧ p = .int .i64 (k : Int) ∧ Hid (Wr wr D G (p2 (N : Int) ++ txtB (ps.take k))) ∧ Hid (PlAt wr G k (ps.take k)) ∧ Hid (RowS wr B (.slice (some ⟨q, 0, none⟩) ps.length cap) ps) ∧ Hid (Below G w wr)) (fun p _ => N - (intOf p).toNat)
  case atStart => exact ⟨0, Nat.zero_le _, rfl, WR2, hide (by simpa using PA2.out), RW2, B2⟩
  case round =>
    obtain ⟨k, hk, rfl, HWR, HPA, HRW, HB⟩ := hrel
    by_cases hlt : k < N
    · have hlt' : (k : Int) < (N : Int) := by omega
      have hkt : k < ps.length := by rw [← HN.out]; exact hlt
      have c0 := HRW.out.cell k hkt
      have NX := hide (txtB_next ps k hkt)
      have hsz : (ps[k]?.getD []).length ≤ 140737488355328 := HS.out _ (by rw [List.getElem?_eq_getElem hkt]; exact List.getElem_mem hkt)
      have TK : Hid (ps.take (k + 1) = ps.take k ++ [ps[k]?.getD []]) := hide (by rw [List.take_add_one, List.getElem?_eq_getElem hkt]; rfl)
      have LN : Hid ((p2 (N : Int) ++ txtB (ps.take k)).length ≤ 2 + 1026 * k) := hide (by
        rw [List.length_append]
        have := txtB_len (ps.take k)
        rw [List.length_take] at this
        have e : (p2 (N : Int)).length = 2 := rfl
        rw [e]
        have : min k ps.length ≤ k := Nat.min_le_left _ _
        omega)
      obtain ⟨sb, hsb⟩ : ∃ sb, sb = ps[k]?.getD [] := ⟨_, rfl⟩
      rw [← hsb] at c0 NX hsz TK
      obtain ⟨T, hTb⟩ : ∃ T : ByteArray, T = ⟨sb.toArray⟩ := ⟨_, rfl⟩
      rw [← hTb] at c0 NX
      have hTs : T.size = sb.length := by rw [hTb]; simp [ByteArray.size]
      have UW := hide (HT.out.below (HW0.out.trans (HB.out.mono (Nat.le_trans hG0 (Nat.le_refl _)))))
      have C3 := hide (PutText_any T wr UW.out)
      have hkey : Hid (keyOf Tryz.prog 9 (.string T) = some (.string sb)) := hide (by
        rw [hTb]; exact WideMaps.keyOf_string_mk Tryz.underlying9 (by unfold maxLen; simp [ByteArray.size]; omega))
      have hpl := ptxV_le T
      rw [bys_len] at hpl
      have FP : Hid ((plD (ps.take k)).put (.string sb) (.lit (.int .i64 (k : Int))) = plD (ps.take (k + 1))) := hide (by
        rw [TK.out]; unfold plD; rw [foldP_snoc, List.length_take, Nat.min_eq_left (by omega), Nat.zero_add]; rfl)
      generalize ptxV T = V at *
      generalize ptxE T = E at *
      clear hsb hTb hTs hsz TK UW hkt
      go_wp2_with fail
      refine C3.out.mono ?_
      rintro x w3 ⟨rfl, hb3⟩
      have WR3 := hide (HWR.out.below hb3)
      have PA3 := hide (HPA.out.below hb3)
      have K3 : Hid (Kw D wr w3) := hide (.of_below hb3)
      have C4 := hide (put_any V WR3.out (by have := LN.out; omega))
      clear hb3 C3 HWR HPA
      go_wp2_with fail
      refine C4.out.mono ?_
      rintro x w4 ⟨rfl, hr4, hk4⟩
      have WR4 : Hid (Wr w4 D G (p2 (N : Int) ++ txtB (ps.take (k + 1)))) := hide (by rw [NX.out, ← List.append_assoc]; exact hr4)
      have PA4 := hide (PA3.out.kw hk4 hGD)
      have K4 := hide (K3.out.trans hk4)
      have RW4 := hide (HRW.out.kw K4.out hDB)
      have B4 := hide (HB.out.trans (K4.out.to_below (B := G) (by omega) (Nat.le_trans (by omega) HB.out.size)))
      obtain ⟨p, v, hD4, _, _⟩ := WR4.out
      have d0 := hD4.cell 0
      have d2 : w4.cell? ⟨D, 2, none⟩ = some (.map (some G)) := hD4.cell 2
      clear hr4 hk4 C4 WR3 PA3 K3 K4 HRW hD4 NX LN c0
      have hown : w4.ownsMap (H := Unit) Tryz.prog 9 (plainElem Tryz.prog 3) G k (plD (ps.take k)) := PA4.out
      go_wp2_with (first | (at_mapUpdate; refine wpList_mapUpdate_own _ rfl _ _ _ 50 rfl 9 3 keyS Tryz.underlying50 _ G k _ rfl hown (by unfold maxLen; omega) _ _ _ rfl rfl hkey.out _ [] (plainElem_int Tryz.underlying3 (WalkArith.wf_i64 (by omega))) ?_; intro w5 hown5 hgrow5) | go_in)
      have PA5 : Hid (PlAt w5 G (k + 1) (ps.take (k + 1))) := hide (by unfold PlAt; rw [← FP.out]; exact hown5)
      have BT := But.of_grown hgrow5
      have WR5 := hide (WR4.out.but BT hGD)
      have RW5 := hide (RW4.out.but BT (by omega))
      have B5 := hide (B4.out.trans (BT.to_below (B := G) (Nat.le_trans (by omega) B4.out.size) (Nat.le_refl _)))
      exact ⟨⟨k + 1, by omega, by go_num, WR5, PA5, RW5, B5⟩, by simp [intOf]; omega⟩
    · obtain rfl : k = N := by omega
      have hlt' : ¬ (k : Int) < (k : Int) := by omega
      have e1 : ps.take k = ps := List.take_of_length_le (by rw [← HN.out]; exact Nat.le_refl _)
      rw [e1] at HWR HPA
      clear hlt e1
      go_wp2
      go_end0
      exact ⟨rfl, HWR.out, HPA.out, HB.out⟩

end Go.Proofs.YtobmdifledegbaaGreatDoor

namespace Go.Proofs.YtobmdifledegbaaGreatDoor
open Go.RowKit Go.Maps

theorem mem_insertD {H : Type} (x p : Lit × DataW H) : ∀ l : List (Lit × DataW H), p ∈ DataW.insert x l → p = x ∨ p ∈ l
  | [], h => by simp [DataW.insert] at h; exact .inl h
  | y :: r, h => by
    unfold DataW.insert at h
    split at h
    · rcases List.mem_cons.1 h with q | q
      · exact .inl q
      · exact .inr q
    · rcases List.mem_cons.1 h with q | q
      · exact .inr (by rw [q]; exact List.mem_cons_self ..)
      · rcases mem_insertD x p r q with q | q
        · exact .inl q
        · exact .inr (List.mem_cons_of_mem _ q)

def AllStr (D : DataW Unit) : Prop := ∃ es, D = .map es ∧ ∀ p ∈ es, ∃ x, p.1 = Lit.string x

theorem AllStr.put {D : DataW Unit} (h : AllStr D) (s : List UInt8) (d : DataW Unit) : AllStr (D.put (.string s) d) := by
  obtain ⟨es, rfl, h⟩ := h
  refine ⟨DataW.insert (.string s, d) (es.filter fun p => !p.1.sameKey (.string s)), rfl, fun p hp => ?_⟩
  rcases mem_insertD _ _ _ hp with q | q
  · exact ⟨s, by rw [q]⟩
  · exact h p (List.mem_filter.1 q).1

theorem allStr_fold : ∀ (l : List ByteArray) (D : DataW Unit), AllStr D → AllStr ((l.map litT).foldl (fun m x => m.put x (.agg [])) D)
  | [], _, h => h
  | s :: r, _, h => allStr_fold r _ (h.put s.data.toList _)

theorem allStr_set (l : List ByteArray) : AllStr (setOf (.agg []) (l.map litT)) := allStr_fold l _ ⟨[], rfl, fun p hp => by simp at hp⟩

theorem has_set (l : List ByteArray) (x : List UInt8) : has (setOf (H := Unit) (.agg []) (l.map litT)) (.string x) = true ↔ ∃ t ∈ l, bys t = x := by
  rw [has_setOf _ _ _ (keyLit l), List.any_eq_true]
  constructor
  · rintro ⟨y, hy, hs⟩
    obtain ⟨t, ht, rfl⟩ := List.mem_map.1 hy
    exact ⟨t, ht, by simpa [litT, Lit.sameKey, bys] using hs⟩
  · rintro ⟨t, ht, rfl⟩
    exact ⟨litT t, List.mem_map_of_mem ht, by simp [litT, Lit.sameKey, bys]⟩

theorem keys_facts (l : List ByteArray) : (strKeys (setOf (H := Unit) (.agg []) (l.map litT))).Nodup ∧ (∀ x, x ∈ strKeys (setOf (H := Unit) (.agg []) (l.map litT)) ↔ ∃ t ∈ l, bys t = x) ∧ (strKeys (setOf (H := Unit) (.agg []) (l.map litT))).length = poolS l := by
  obtain ⟨es, he, hk⟩ := allStr_set l
  obtain ⟨es', he', hp⟩ := tidy_setOf (H := Unit) (.agg []) (l.map litT) (keyLit l)
  have hh := has_set l
  have e2 : es' = es := by rw [he] at he'; injection he' with q; exact q.symm
  subst e2
  unfold poolS
  rw [he] at hh ⊢
  refine ⟨?_, fun x => ?_, by simp [strKeys, Maps.size]⟩
  · show (es'.map fun p => strOf p.1).Nodup
    refine List.pairwise_map.2 (hp.imp_of_mem fun {p q} hp' hq' hne e => hne ?_)
    obtain ⟨a, ha⟩ := hk p hp'
    obtain ⟨b, hb⟩ := hk q hq'
    rw [ha, hb] at e ⊢
    exact congrArg _ e
  · rw [← hh x, has_eq, List.any_eq_true]
    show x ∈ es'.map (fun p => strOf p.1) ↔ _
    rw [List.mem_map]
    constructor
    · rintro ⟨p, hp', rfl⟩
      obtain ⟨a, ha⟩ := hk p hp'
      exact ⟨p, hp', by rw [ha]; simp [Lit.sameKey, strOf]⟩
    · rintro ⟨p, hp', hs⟩
      obtain ⟨a, ha⟩ := hk p hp'
      rw [ha] at hs
      exact ⟨p, hp', by rw [ha]; simpa [Lit.sameKey, strOf] using hs⟩

theorem pool_mem (l : List ByteArray) (x : List UInt8) : x ∈ poolL l ↔ ∃ t ∈ l, bys t = x := by
  unfold poolL
  rw [(List.mergeSort_perm _ _).mem_iff]
  exact (keys_facts l).2.1 x
theorem pool_nodup (l : List ByteArray) : (poolL l).Nodup := (List.mergeSort_perm _ _).nodup_iff.2 (keys_facts l).1
theorem pool_len (l : List ByteArray) : (poolL l).length = poolS l := by
  unfold poolL
  rw [List.length_mergeSort]
  exact (keys_facts l).2.2
theorem pool_rise (l : List ByteArray) : (poolL l).Pairwise (· < ·) := by
  have h1 : (poolL l).Pairwise (fun a b => leB a b = true) := by
    unfold poolL
    refine List.pairwise_mergeSort (fun a b c h1 h2 => ?_) (fun a b => ?_) _
    · simp only [leB, decide_eq_true_eq] at *; exact List.le_trans h1 h2
    · simp only [leB, Bool.or_eq_true, decide_eq_true_eq]; exact List.le_total a b
  have h2 : (poolL l).Pairwise (· ≠ ·) := pool_nodup l
  refine (List.Pairwise.and h1 h2).imp fun {a b} h => ?_
  have h3 : a ≤ b := by simpa [leB] using h.1
  exact Decidable.byContradiction fun hn => h.2 (List.le_antisymm h3 (List.not_lt.1 hn))

end Go.Proofs.YtobmdifledegbaaGreatDoor

namespace Go.Proofs.YtobmdifledegbaaGreatDoor
open Go.RowKit

def Rise (ps : List (List UInt8)) : Prop := ps.Pairwise (· < ·)
def atP (ps : List (List UInt8)) (i : Nat) : List UInt8 := ps[i]?.getD []

theorem atP_get {ps : List (List UInt8)} {i : Nat} (h : i < ps.length) : ps[i]? = some (atP ps i) := by unfold atP; rw [List.getElem?_eq_getElem h]; rfl

theorem rise_lt {ps : List (List UInt8)} (h : Rise ps) {i j : Nat} (hij : i < j) (hj : j < ps.length) : atP ps i < atP ps j := by
  have := List.pairwise_iff_getElem.1 h i j (by omega) hj hij
  unfold atP
  rw [List.getElem?_eq_getElem hj, List.getElem?_eq_getElem (show i < ps.length by omega)]
  exact this

def PosL (ps : List (List UInt8)) (s : List UInt8) (p : Nat) : Prop := p ≤ ps.length ∧ (∀ i, i < p → atP ps i < s) ∧ ∀ i, p ≤ i → i < ps.length → ¬ atP ps i < s
def isAt (ps : List (List UInt8)) (s : List UInt8) (p : Nat) : Bool := decide (p < ps.length) && decide (atP ps p = s)

theorem PosL.mem {ps : List (List UInt8)} {s : List UInt8} {p : Nat} (hr : Rise ps) (h : PosL ps s p) : isAt ps s p = true ↔ s ∈ ps := by
  obtain ⟨h1, h2, h3⟩ := h
  unfold isAt
  rw [Bool.and_eq_true, decide_eq_true_iff, decide_eq_true_iff]
  constructor
  · rintro ⟨q1, q2⟩
    rw [← q2]
    exact List.mem_of_getElem? (atP_get q1)
  · intro hm
    obtain ⟨i, hi, rfl⟩ := List.getElem_of_mem hm
    have e : atP ps i = ps[i] := by unfold atP; rw [List.getElem?_eq_getElem hi]; rfl
    have hip : ¬ i < p := fun q => by
      have := h2 i q
      rw [e] at this
      exact List.lt_irrefl _ this
    by_cases hpi : p = i
    · subst hpi
      exact ⟨hi, e⟩
    · exfalso
      have h4 := rise_lt hr (i := p) (j := i) (by omega) hi
      rw [e] at h4
      exact h3 p (Nat.le_refl _) (by omega) h4

def insP (ps : List (List UInt8)) (s : List UInt8) (p : Nat) : List (List UInt8) := ps.take p ++ s :: ps.drop p

theorem insP_mem {ps : List (List UInt8)} {s : List UInt8} {p : Nat} (x : List UInt8) : x ∈ insP ps s p ↔ x ∈ ps ∨ x = s := by
  unfold insP
  have e : x ∈ ps ↔ x ∈ ps.take p ∨ x ∈ ps.drop p := by rw [← List.mem_append, List.take_append_drop]
  rw [e, List.mem_append, List.mem_cons]
  constructor
  · rintro (q | q | q)
    · exact .inl (.inl q)
    · exact .inr q
    · exact .inl (.inr q)
  · rintro ((q | q) | q)
    · exact .inl q
    · exact .inr (.inr q)
    · exact .inr (.inl q)

theorem insP_len {ps : List (List UInt8)} {s : List UInt8} {p : Nat} (h : p ≤ ps.length) : (insP ps s p).length = ps.length + 1 := by
  unfold insP
  rw [List.length_append, List.length_cons, List.length_take, List.length_drop]
  omega

theorem insP_rise {ps : List (List UInt8)} {s : List UInt8} {p : Nat} (hr : Rise ps) (h : PosL ps s p) (hn : isAt ps s p = false) : Rise (insP ps s p) := by
  have hm := PosL.mem hr h
  obtain ⟨h1, h2, h3⟩ := h
  have hns : s ∉ ps := fun q => by rw [hm.2 q] at hn; cases hn
  unfold insP Rise
  have ht : ∀ x ∈ ps.take p, x < s := by
    intro x hx
    obtain ⟨i, hi, rfl⟩ := List.getElem_of_mem hx
    rw [List.length_take] at hi
    have := h2 i (by omega)
    rw [List.getElem_take]
    unfold atP at this
    rw [List.getElem?_eq_getElem (show i < ps.length by omega)] at this
    exact this
  have hd : ∀ x ∈ ps.drop p, s < x := by
    intro x hx
    have hxm : x ∈ ps := List.mem_of_mem_drop hx
    obtain ⟨i, hi, rfl⟩ := List.getElem_of_mem hx
    rw [List.length_drop] at hi
    have := h3 (p + i) (by omega) (by omega)
    rw [List.getElem_drop] at hxm ⊢
    unfold atP at this
    rw [List.getElem?_eq_getElem (show p + i < ps.length by omega)] at this
    have hle : s ≤ ps[p + i] := List.not_lt.1 this
    rcases Decidable.em (s < ps[p + i]) with q | q
    · exact q
    · exact absurd (by rw [List.le_antisymm hle (List.not_lt.1 q)]; exact hxm) hns
  have hr' : (ps.take p ++ ps.drop p).Pairwise (· < ·) := by rw [List.take_append_drop]; exact hr
  rw [List.pairwise_append] at hr' ⊢
  refine ⟨hr'.1, List.pairwise_cons.2 ⟨hd, hr'.2.1⟩, fun x hx y hy => ?_⟩
  rcases List.mem_cons.1 hy with q | q
  · subst q; exact ht x hx
  · exact hr'.2.2 x hx y q

theorem rise_eq : ∀ {a b : List (List UInt8)}, Rise a → Rise b → (∀ x, x ∈ a ↔ x ∈ b) → a = b
  | [], [], _, _, _ => rfl
  | [], y :: b, _, _, h => by have := (h y).2 (List.mem_cons_self ..); cases this
  | x :: a, [], _, _, h => by have := (h x).1 (List.mem_cons_self ..); cases this
  | x :: a, y :: b, ha, hb, h => by
    obtain ⟨ha1, ha2⟩ := List.pairwise_cons.1 ha
    obtain ⟨hb1, hb2⟩ := List.pairwise_cons.1 hb
    have hxy : x = y := by
      rcases List.mem_cons.1 ((h x).1 (List.mem_cons_self ..)) with q | q
      · exact q
      · rcases List.mem_cons.1 ((h y).2 (List.mem_cons_self ..)) with r | r
        · exact r.symm
        · exact absurd (List.lt_trans (hb1 x q) (ha1 y r)) (List.lt_irrefl _)
    subst hxy
    congr 1
    refine rise_eq ha2 hb2 (fun z => ⟨fun hz => ?_, fun hz => ?_⟩)
    · rcases List.mem_cons.1 ((h z).1 (List.mem_cons_of_mem _ hz)) with q | q
      · subst q; exact absurd (ha1 z hz) (List.lt_irrefl _)
      · exact q
    · rcases List.mem_cons.1 ((h z).2 (List.mem_cons_of_mem _ hz)) with q | q
      · subst q; exact absurd (hb1 z hz) (List.lt_irrefl _)
      · exact q

end Go.Proofs.YtobmdifledegbaaGreatDoor

namespace Go.Proofs.YtobmdifledegbaaGreatDoor
open Go.RowKit

theorem eqA (l : List UInt8) (s : ByteArray) : ((⟨l.toArray⟩ : ByteArray).toList == s.toList) = decide (l = bys s) := by
  rw [eqT]
  by_cases h : l = bys s
  · rw [decide_eq_true h]
    refine decide_eq_true ?_
    rw [h]
    rfl
  · rw [decide_eq_false h]
    exact decide_eq_false (fun e => h (by rw [← e]; rfl))

def TxS (w : World) (v : Value) (ps : List (List UInt8)) : Prop := ∃ ao cap, v = .slice ao ps.length cap ∧ ps.length ≤ cap ∧ ∀ i, i < ps.length → ∃ g o, ao = some ⟨g, o, none⟩ ∧ g < w.heap.size ∧ ∀ j, j < ps.length → w.cell? ⟨g, o + j, none⟩ = some (.string ⟨(atP ps j).toArray⟩)

theorem TxS.of_row {w : World} {B : Nat} {v : Value} {ps : List (List UInt8)} (h : RowS w B v ps) : TxS w v ps := by
  rcases h.2 with ⟨rfl, h0⟩ | ⟨g, cap, cur, rfl, hg, hh, hn, _⟩
  · obtain rfl := List.length_eq_zero_iff.1 h0
    exact ⟨none, 0, rfl, Nat.le_refl _, fun i hi => by simp at hi⟩
  · exact ⟨some ⟨g, 0, none⟩, cap, rfl, hn, fun i _ => ⟨g, 0, rfl, lt_of_block hh, fun j hj => by rw [Nat.zero_add]; exact RowS.cell h j hj⟩⟩

set_option maxRecDepth 100000 in
set_option maxHeartbeats 4000000 in
theorem place_any {w : World} {v : Value} {ps : List (List UInt8)} (s : ByteArray) (h : TxS w v ps) (hr : Rise ps) (hn : ps.length ≤ 4398046511104) :
    Calls Tryz.prog 60 #[v, .string s] w fun e w' => (∃ p, PosL ps (bys s) p ∧ e = .returned (.tuple #[.int .i64 (p : Int), .bool (isAt ps (bys s) p)])) ∧ Below w.heap.size w w' := by
  obtain ⟨ao, cap, rfl, hcap, hc⟩ := h
  have HC := hide hc
  have HR := hide hr
  obtain ⟨L, hL⟩ : ∃ L, L = ps.length := ⟨_, rfl⟩
  have HL := hide hL
  rw [← hL] at hcap hn ⊢
  clear hc hr hL
  go_enter Tryz.func60, Tryz.ntmps60
  go_wp2
  go_loopw [6, 7] (fun x y wr => ∃ lo hi : Nat, x = .int .i64 (lo : Int) ∧ y = .int .i64 (hi : Int) ∧ lo ≤ hi ∧ hi ≤ L ∧ Hid (∀ i, i < lo → atP ps i < bys s) ∧ Hid (∀ i, hi ≤ i → i < ps.length → ¬ atP ps i < bys s) ∧ w = wr) (fun x y _ => (intOf y - intOf x).toNat)
  case atStart => exact ⟨0, L, rfl, rfl, Nat.zero_le _, Nat.le_refl _, hide (fun i hi => by omega), hide (fun i h1 h2 => by have := HL.out; omega), rfl⟩
  case round =>
    obtain ⟨lo, hi, rfl, rfl, hlh, hhL, H1, H2, rfl⟩ := hrel
    by_cases hlt : lo < hi
    · have hlt' : (lo : Int) < (hi : Int) := by omega
      obtain ⟨m, hm⟩ : ∃ m, m = (lo + hi) / 2 := ⟨_, rfl⟩
      have hm1 : lo ≤ m := by omega
      have hm2 : m < hi := by omega
      have hmL : m < L := by omega
      have hmL' : (m : Int) < (L : Int) := by omega
      have hq : ((lo : Int) + (hi : Int)).tdiv 2 = (m : Int) := by rw [Int.tdiv_eq_ediv_of_nonneg (by omega)]; omega
      obtain ⟨g, o, rfl, hg, hcl⟩ := HC.out m (by rw [← HL.out]; exact hmL)
      have c0 := hcl m (by rw [← HL.out]; exact hmL)
      have HRM := hide (fun i (q : i < m) => rise_lt HR.out q (by rw [← HL.out]; exact hmL))
      have HRG := hide (fun j (q : m < j) (q2 : j < ps.length) => rise_lt HR.out q q2)
      obtain ⟨t, ht⟩ : ∃ t : ByteArray, t = ⟨(atP ps m).toArray⟩ := ⟨_, rfl⟩
      rw [← ht] at c0
      have hbt : bys t = atP ps m := by rw [ht]; rfl
      by_cases hl : atP ps m < bys s
      · have hl' : Op.bytesLess t.toList s.toList = true := by
          have := ltT_iff t s
          rw [hbt, decide_eq_true hl] at this
          exact this
        have HN : Hid (∀ i, i < m + 1 → atP ps i < bys s) := hide (fun i hi => by
          rcases Nat.lt_or_ge i m with q | q
          · exact List.lt_trans (HRM.out i q) hl
          · obtain rfl : i = m := by omega
            exact hl)
        clear hm hbt ht hl hcl HRM HRG
        go_wp2
        exact ⟨⟨m + 1, hi, by go_num, rfl, by omega, hhL, HN, H2, trivial⟩, by simp [intOf]; omega⟩
      · have hl' : Op.bytesLess t.toList s.toList = false := by
          have := ltT_iff t s
          rw [hbt, decide_eq_false hl] at this
          exact this
        have HN : Hid (∀ i, m ≤ i → i < ps.length → ¬ atP ps i < bys s) := hide (fun i h1 h2 => by
          rcases Nat.lt_or_ge m i with q | q
          · exact fun e => hl (List.lt_trans (HRG.out i q h2) e)
          · obtain rfl : i = m := by omega
            exact hl)
        clear hm hbt ht hl hcl HRM HRG
        go_wp2
        exact ⟨⟨lo, m, rfl, rfl, hm1, by omega, H1, HN, trivial⟩, by simp [intOf]; omega⟩
    · obtain rfl : lo = hi := by omega
      have hlt' : ¬ (lo : Int) < (lo : Int) := by omega
      have HP : Hid (PosL ps (bys s) lo) := hide ⟨by rw [← HL.out]; exact hhL, H1.out, H2.out⟩
      clear hlt hlh H1 H2
      by_cases hlL : lo < L
      · have hlL' : (lo : Int) < (L : Int) := by omega
        obtain ⟨g, o, rfl, hg, hcl⟩ := HC.out lo (by rw [← HL.out]; exact hlL)
        have c0 := hcl lo (by rw [← HL.out]; exact hlL)
        have EA : Hid (isAt ps (bys s) lo = decide (atP ps lo = bys s)) := hide (by unfold isAt; rw [decide_eq_true (by rw [← HL.out]; exact hlL), Bool.true_and])
        have EQ := eqA (atP ps lo) s
        obtain ⟨t, ht⟩ : ∃ t : ByteArray, t = ⟨(atP ps lo).toArray⟩ := ⟨_, rfl⟩
        rw [← ht] at c0 EQ
        rw [← EA.out] at EQ
        obtain ⟨V, hV⟩ : ∃ V, V = isAt ps (bys s) lo := ⟨_, rfl⟩
        rw [← hV] at EQ
        have HV := hide hV
        clear ht hcl hV EA hlL
        cases V with
        | true =>
          go_wp2_with fail
          go_region
          go_wp2
          refine bodyPost_ret (results_tmp2 rfl _ _ _) rfl ?_
          exact ⟨⟨lo, HP.out, by rw [← HV.out]; rfl⟩, (Below.refl _ _).drew⟩
        | false =>
          go_wp2_with fail
          go_region
          go_wp2
          refine bodyPost_ret (results_tmp2 rfl _ _ _) rfl ?_
          exact ⟨⟨lo, HP.out, by rw [← HV.out]; rfl⟩, (Below.refl _ _).drew⟩
      · have hlL' : ¬ (lo : Int) < (L : Int) := by omega
        have HV : Hid (isAt ps (bys s) lo = false) := hide (by unfold isAt; rw [decide_eq_false (by rw [← HL.out]; exact hlL), Bool.false_and])
        have hlB : decide (lo < L) = false := decide_eq_false hlL
        clear hlL
        go_wp2_with fail
        go_region
        go_wp2
        refine bodyPost_ret (results_tmp2 rfl _ _ _) rfl ?_
        exact ⟨⟨lo, HP.out, by rw [HV.out]; rfl⟩, (Below.refl _ _).drew⟩

end Go.Proofs.YtobmdifledegbaaGreatDoor

namespace Go.Proofs.YtobmdifledegbaaGreatDoor
open Go.RowKit Go.Maps

def encT (ts : List Tab) : List UInt8 := p2 ((poolL (textsL ts)).length : Int) ++ txtB (poolL (textsL ts)) ++ p1 (ts.length : Int) ++ ts.flatMap (tabB (poolL (textsL ts)))

theorem tabB_len (ps : List (List UInt8)) (t : Tab) : (tabB ps t).length = 5 + 7 * t.ents.length := by
  unfold tabB
  rw [List.length_append, entsB_len]
  rfl
theorem tabsB_len (ps : List (List UInt8)) : ∀ ts : List Tab, (∀ t ∈ ts, t.ents.length ≤ 1024) → (ts.flatMap (tabB ps)).length ≤ 8000 * ts.length
  | [], _ => Nat.zero_le _
  | t :: r, h => by
    have h1 := tabsB_len ps r (fun t ht => h t (List.mem_cons_of_mem _ ht))
    have h2 := h t (List.mem_cons_self ..)
    rw [List.flatMap_cons, List.length_append, tabB_len, List.length_cons]
    omega
theorem tabsB_next (ps : List (List UInt8)) (ts : List Tab) (k : Nat) (hk : k < ts.length) : (ts.take (k + 1)).flatMap (tabB ps) = (ts.take k).flatMap (tabB ps) ++ tabB ps (tabN ts k) := by
  rw [List.take_add_one, tabN_some hk, List.flatMap_append]
  simp

theorem texts_short {ts : List Tab} (hz : SzT ts) : ∀ t ∈ textsL ts, t.size ≤ 140737488355328 := by
  intro t ht
  unfold textsL at ht
  obtain ⟨a, ha, hta⟩ := List.mem_flatMap.1 ht
  obtain ⟨k, hk, rfl⟩ := List.getElem_of_mem ha
  have hzk := hz k
  rw [tabN_get (List.getElem?_eq_getElem hk)] at hzk
  unfold tabL at hta
  rcases List.mem_cons.1 hta with q | q
  · rw [q]; exact hzk.1
  · obtain ⟨e, he, hte⟩ := List.mem_flatMap.1 q
    obtain ⟨j, hj, rfl⟩ := List.getElem_of_mem he
    have hzj := hzk.2.2 j
    rw [entN_get (List.getElem?_eq_getElem hj)] at hzj
    unfold entL at hte
    split at hte
    · simp at hte; rw [hte]; exact hzj.1
    · simp at hte
      rcases hte with q | q
      · rw [q]; exact hzj.1
      · rw [q]; exact hzj.2

theorem pool_short {ts : List Tab} (hz : SzT ts) : ∀ s ∈ poolL (textsL ts), s.length ≤ 140737488355328 := by
  intro s hs
  obtain ⟨t, ht, rfl⟩ := (pool_mem _ _).1 hs
  rw [bys_len]
  exact texts_short hz t ht

def encA (ts : List Tab) : Value := .tuple #[.string (if checkT ts = 0 then ⟨(encT ts).toArray⟩ else ⟨#[]⟩), .int .i64 (checkT ts : Int)]

set_option maxRecDepth 100000 in
set_option maxHeartbeats 4000000 in
theorem Encode_any {w : World} {v : Value} {ts : List Tab} (h : TSl w v ts) (hl : ts.length ≤ 9223372036854775806) (hz : SzT ts) (hT : U8 w) : Calls Tryz.prog 8 #[.agg #[v]] w fun e w' => e = .returned (encA ts) ∧ Below w.heap.size w w' := by
  have hmm := @run_makeMap Tryz.prog
  obtain ⟨WA, hWA⟩ : ∃ WA, WA = w.alloc (.cells #[v] 24) := ⟨_, rfl⟩
  have BA : Hid (Below w.heap.size w WA) := hide (by rw [hWA]; exact (Below.refl _ _).alloc (Nat.le_refl _) _)
  have Q : Hid (Blk WA w.heap.size #[v] 24) := hide (by rw [hWA]; exact Blk.newAt w w.heap.size rfl _ _)
  have HWA := hide hWA.symm
  have SA := hide (h.below BA.out)
  have TA := hide (hT.below BA.out)
  have CK := hide (Check_any SA.out hl hz TA.out)
  have RE : Hid (encA ts = .tuple #[.string (if checkT ts = 0 then ⟨(encT ts).toArray⟩ else ⟨#[]⟩), .int .i64 (checkT ts : Int)]) := hide rfl
  have q0 := Q.out.cell 0
  have CZ : Hid (checkT ts = 0 → countsOk ts = true ∧ (∀ k, k < ts.length → tabE ts k = 0) ∧ poolS (textsL ts) ≤ 4096) := hide check_zero
  generalize encA ts = R at *
  generalize checkT ts = C at *
  obtain ⟨ao, cap, rfl, hcap, hat⟩ := h
  have HZ := hide hz
  clear hWA hT hz hat
  by_cases hC : C = 0
  · subst hC
    rw [if_pos rfl] at RE
    rw [show ((0 : Nat) : Int) = 0 from rfl] at CK RE
    obtain ⟨z1, _, z3⟩ := CZ.out rfl
    obtain ⟨h1, h16, he⟩ := counts_len z1
    have HE := hide he
    obtain ⟨b, o, rfl, hb, hcl⟩ : ∃ b o, ao = some ⟨b, o, none⟩ ∧ b < WA.heap.size ∧ ∀ i, i < ts.length → TabAt WA b o i (tabN ts i) := by
      obtain ⟨ao', cap', e1, _, h3⟩ := SA.out
      simp only [Value.slice.injEq] at e1
      obtain ⟨rfl, _, rfl⟩ := e1
      rcases h3 with q | q
      · rw [q] at h1; simp at h1
      · exact q
    have HCL := hide hcl
    have HBB := hide hb
    have PN := hide (pool_nodup (textsL ts))
    have PS := hide (pool_short HZ.out)
    have PLn := hide (pool_len (textsL ts))
    have ET : Hid (encT ts = p2 ((poolL (textsL ts)).length : Int) ++ txtB (poolL (textsL ts)) ++ p1 (ts.length : Int) ++ ts.flatMap (tabB (poolL (textsL ts)))) := hide rfl
    have TX : Hid (∀ X, Below WA.heap.size WA X → Calls Tryz.prog 24 #[.slice (some ⟨b, o, none⟩) ts.length cap] X fun e w' => e = .returned (.map (some X.heap.size)) ∧ (∃ n, SetAt w' X.heap.size n (textsL ts)) ∧ Below X.heap.size X w') := hide (fun X hX => textsOf_any (SA.out.below hX) h16 HZ.out HE.out)
    have RI : Hid (∀ X g n, SetAt X g n (textsL ts) → Calls Tryz.prog 25 #[.map (some g)] X fun e w' => ∃ q cap, e = .returned (.slice (some ⟨q, 0, none⟩) (poolL (textsL ts)).length cap) ∧ RowS w' X.heap.size (.slice (some ⟨q, 0, none⟩) (poolL (textsL ts)).length cap) (poolL (textsL ts)) ∧ Below X.heap.size X w') := hide (fun X g n hX => rising_any hX (by omega))
    obtain ⟨ps, hps⟩ : ∃ ps, ps = poolL (textsL ts) := ⟨_, rfl⟩
    rw [← hps] at PN PS PLn ET RI
    obtain ⟨N, hN⟩ : ∃ N, N = ps.length := ⟨_, rfl⟩
    have HN := hide hN
    have hNb : N ≤ 4096 := by rw [hN, PLn.out]; exact z3
    obtain ⟨L, hL⟩ : ∃ L, L = ts.length := ⟨_, rfl⟩
    have HL := hide hL
    rw [← hL] at hl h1 h16 hcap CK TX Q ET q0 HWA
    rw [← hL]
    have LT : Hid (∀ k, (ts.take k).length ≤ 16 ∧ ((ts.take k).flatMap (tabB ps)).length ≤ 8000 * 16) := hide (fun k => by
      have a1 : (ts.take k).length ≤ 16 := by rw [List.length_take]; omega
      have a2 := tabsB_len ps (ts.take k) (fun t ht => by
        obtain ⟨i, hi, rfl⟩ := mem_tabN (List.mem_of_mem_take ht)
        exact HE.out i)
      exact ⟨a1, Nat.le_trans a2 (Nat.mul_le_mul_left _ a1)⟩)
    clear z1 z3 he hb hcl hps hL SA PLn hN CZ
    go_enter Tryz.func8, Tryz.ntmps8
    go_wp2_with (simp only [HWA.out])
    refine CK.out.mono ?_
    rintro e w1 ⟨rfl, hb1⟩
    obtain ⟨W2, hW2⟩ : ∃ W2, W2 = (w1.alloc (.map #[] 0)).alloc (.cells #[.pointer none, .slice none 0 0, .map (some w1.heap.size)] 56) := ⟨_, rfl⟩
    have hGs : (w1.alloc (.map #[] 0)).heap.size = w1.heap.size + 1 := by simp
    have B12 : Below w1.heap.size w1 W2 := by rw [hW2]; exact ((Below.refl _ _).alloc (Nat.le_refl _) _).alloc ((Below.refl _ _).alloc (Nat.le_refl _) _).size _
    have B2 := hide (hb1.trans (B12.mono hb1.size))
    have P2 : Hid (PlAt W2 w1.heap.size 0 []) := hide (by rw [hW2]; exact (PlAt.made w1).below ((Below.refl _ _).alloc (Nat.le_refl _) _))
    have R2 : Hid (Wr W2 (w1.heap.size + 1) w1.heap.size []) := hide (by
      refine ⟨.pointer none, .slice none 0 0, ?_, .inl rfl, World.ownsRow_nil _ _ _ _⟩
      rw [hW2]
      exact Blk.newAt _ _ hGs _ _)
    have q2 := (Q.out.below B2.out Q.out.lt).cell 0
    have TC := hide (TX.out W2 B2.out)
    have HW2 : Hid ((w1.alloc (.map #[] 0)).alloc (.cells #[.pointer none, .slice none 0 0, .map (some w1.heap.size)] 56) = W2) := hide hW2.symm
    have HGA : Hid (WA.heap.size ≤ w1.heap.size) := hide hb1.size
    have HWAs : Hid (w.heap.size < WA.heap.size) := hide Q.out.lt
    clear hb1 CK q0 hW2 hGs B12 TX
    go_wp2_with (simp only [HW2.out])
    refine TC.out.mono ?_
    rintro e w3 ⟨rfl, ⟨n3, hs3⟩, hb3⟩
    have B3 := hide (B2.out.trans (hb3.mono B2.out.size))
    have P3 := hide (P2.out.below hb3)
    have R3 := hide (R2.out.below hb3)
    have RC := hide (RI.out w3 _ n3 hs3)
    clear hs3 hb3 TC RI P2 R2 HW2 q2
    generalize hG : w1.heap.size = G at *
    generalize hD : G + 1 = D at *
    have hGD : G < D := by omega
    clear hG hD
    go_wp2_with fail
    refine RC.out.mono ?_
    rintro e w4 ⟨q, capq, rfl, hrow, hb4⟩
    have B4 := hide (B3.out.trans (hb4.mono B3.out.size))
    have P4 := hide (P3.out.below hb4)
    have R4 := hide (R3.out.below hb4)
    have hD3 : D < w3.heap.size := R3.out.lt
    have hcq : N ≤ capq := by
      rcases hrow.2 with ⟨q, _⟩ | ⟨g', cap', cur', q, _, _, q2, _⟩
      · cases q
      · simp only [Value.slice.injEq] at q
        rw [HN.out, q.2.2]; exact q2
    have CT : Hid (Calls Tryz.prog 23 #[.pointer (some ⟨D, 0, none⟩), .slice (some ⟨q, 0, none⟩) N capq] w4 fun x w' => x = .returned (.tuple #[]) ∧ Wr w' D G (p2 (N : Int) ++ txtB ps) ∧ PlAt w' G N ps ∧ Below G w4 w') := hide (wtexts_any R4.out P4.out HN.out (by omega) PS.out hcq hrow hGD hD3 TA.out B4.out HGA.out)
    rw [← HN.out]
    clear hrow hb4 RC B3 P3 R3 P4
    go_wp2_with fail
    refine CT.out.mono ?_
    rintro e w5 ⟨rfl, hr5, hp5, hb5⟩
    have hG4 : G ≤ w4.heap.size := Nat.le_of_lt (Nat.lt_trans hGD R4.out.lt)
    have B5 := hide (B4.out.trans (hb5.mono HGA.out))
    have R5 := hide hr5
    have P5 := hide hp5
    have q5 := (Q.out.below B5.out Q.out.lt).cell 0
    have LN : Hid ((p2 (N : Int) ++ txtB ps).length ≤ 2 + 1026 * 4096) := hide (by
      rw [List.length_append]
      have a1 := txtB_len ps
      rw [← HN.out] at a1
      have a2 : (p2 (N : Int)).length = 2 := rfl
      rw [a2]
      have : 1026 * N ≤ 1026 * 4096 := Nat.mul_le_mul_left _ hNb
      omega)
    have C6 := hide (Put8_any (L : Int) w5)
    clear hr5 hp5 hb5 CT hG4 R4 B4
    go_wp2_with fail
    refine C6.out.mono ?_
    rintro e w6 ⟨rfl, hb6⟩
    have B6 := hide (B5.out.trans (hb6.mono B5.out.size))
    have R6 := hide (R5.out.below hb6)
    have P6 := hide (P5.out.below hb6)
    have C7 := hide (put_any (⟨#[bN (L : Int) 0]⟩ : ByteArray) R6.out (by have := LN.out; show _ + 1 ≤ _; omega))
    clear hb6 C6 R5 P5 B5 q5
    go_wp2_with fail
    refine C7.out.mono ?_
    rintro e w7 ⟨rfl, hr7, hk7⟩
    have hDA : Hid (WA.heap.size ≤ D) := hide (Nat.le_trans HGA.out (Nat.le_of_lt hGD))
    have B7 := hide (Kw.frame B6.out hk7 hDA.out)
    have R7 : Hid (Wr w7 D G (p2 (N : Int) ++ txtB ps ++ p1 (L : Int))) := hide hr7
    have P7 := hide (P6.out.kw hk7 hGD)
    have q7 := (Q.out.below B7.out Q.out.lt).cell 0
    have ET2 : Hid (encT ts = p2 (N : Int) ++ txtB ps ++ p1 (L : Int) ++ ts.flatMap (tabB ps)) := hide (by rw [ET.out, HN.out])
    have LN2 : Hid ((p2 (N : Int) ++ txtB ps ++ p1 (L : Int)).length ≤ 3 + 1026 * 4096) := hide (by
      rw [List.length_append]
      have := LN.out
      have a2 : (p1 (L : Int)).length = 1 := rfl
      omega)
    have LNE : Hid (p2 (N : Int) ++ txtB ps ++ p1 (L : Int) ≠ []) := hide (by unfold p2; simp)
    generalize hl1 : p2 (N : Int) ++ txtB ps ++ p1 (L : Int) = l1 at *
    clear hl1 hr7 hk7 C7 R6 P6 B6 ET LN
    go_wp2
    go_loopw [28] (fun p wr => ∃ k : Nat, k ≤ L ∧ p = .int .i64 (k : Int) ∧ Hid (Wr wr D G (l1 ++ (ts.take k).flatMap (tabB ps))) ∧ Hid (Kw D w7 wr)) (fun p _ => L - (intOf p).toNat)
    case atStart => exact ⟨0, Nat.zero_le _, rfl, hide (by simpa using R7.out), Kw.refl _ _⟩
    case round =>
      obtain ⟨k, hk, rfl, HWr, HKw⟩ := hrel
      have K0 := hide (Kw.frame B7.out HKw.out hDA.out)
      by_cases hlt : k < L
      · have hlt' : (k : Int) < (L : Int) := by omega
        have hkt : k < ts.length := by rw [← HL.out]; exact hlt
        obtain ⟨d0, d1, ve, d2, hes⟩ := HCL.out k hkt
        have c0 := (K0.out.cell HBB.out).trans d0
        have c1 := (K0.out.cell HBB.out).trans d1
        have c2 := (K0.out.cell HBB.out).trans d2
        have hem := HE.out k
        obtain ⟨zn, _, zE⟩ := HZ.out k
        have NX := hide (tabsB_next ps ts k hkt)
        have LK : Hid ((l1 ++ (ts.take k).flatMap (tabB ps)).length ≤ 100000000000) := hide (by
          rw [List.length_append]
          have a1 := LN2.out
          have a2 := (LT.out k).2
          omega)
        obtain ⟨g, hg⟩ : ∃ g, g = tabN ts k := ⟨_, rfl⟩
        rw [← hg] at c0 c1 hem zn zE NX hes
        have hes' := hes
        obtain ⟨a2, cap2, rfl, hc2, _⟩ := hes'
        obtain ⟨WB, hWB⟩ : ∃ WB, WB = wr.alloc (.cells #[.string g.name, .int .i64 g.parent, .slice a2 g.ents.length cap2] 37) := ⟨_, rfl⟩
        have BB : Hid (Below wr.heap.size wr WB) := hide (by rw [hWB]; exact (Below.refl _ _).alloc (Nat.le_refl _) _)
        have QB := hide (Blk.newAt wr wr.heap.size rfl #[.string g.name, .int .i64 g.parent, .slice a2 g.ents.length cap2] 37)
        rw [← hWB] at QB
        have HWB := hide hWB.symm
        have CB := hide (table_any g (HWr.out.below BB.out) ((P7.out.kw HKw.out hGD).below BB.out) PN.out hGD LK.out zn hes zE hem (K0.out.trans (BB.out.mono K0.out.size)) hDA.out)
        have KB := hide (HKw.out.trans (.of_below BB.out))
        have y0 := QB.out.cell 0
        have y1 := QB.out.cell 1
        have y2 := QB.out.cell 2
        generalize g.ents.length = M at *
        clear hg hkt d0 d1 d2 hes hWB zn zE LK HWr HKw BB K0
        go_wp2_with (simp only [HWB.out])
        refine CB.out.mono ?_
        rintro x w8 ⟨rfl, hr8, hk8⟩
        have WN : Hid (Wr w8 D G (l1 ++ (ts.take (k + 1)).flatMap (tabB ps))) := hide (by rw [NX.out, ← List.append_assoc]; exact hr8)
        have KN := hide (KB.out.trans hk8)
        clear hr8 hk8 CB KB NX
        go_wp2
        exact ⟨⟨k + 1, by omega, by go_num, WN, KN⟩, by simp [intOf]; omega⟩
      · obtain rfl : k = L := by omega
        have hlt' : ¬ (k : Int) < (k : Int) := by omega
        have WN : Hid (Wr wr D G (encT ts)) := hide (by
          have := HWr.out
          rw [List.take_of_length_le (l := ts) (by rw [← HL.out]; exact Nat.le_refl _)] at this
          rw [ET2.out]
          exact this)
        have NE : Hid (encT ts ≠ []) := hide (by rw [ET2.out]; exact fun q => LNE.out (List.append_eq_nil_iff.1 q).1)
        have CS := hide (wString_any (B := w.heap.size) WN.out NE.out (Nat.le_trans (Nat.le_of_lt HWAs.out) hDA.out))
        have BF := hide (BA.out.trans (K0.out.mono BA.out.size))
        clear HWr hlt
        go_wp2_with fail
        refine CS.out.mono ?_
        rintro x w9 ⟨rfl, hb9⟩
        have B9 := hide (BF.out.trans hb9)
        clear hb9 CS
        go_wp2
        go_ret2
        exact ⟨by rw [RE.out]; rfl, B9.out⟩
  · have hC' : ((C : Int) == 0) = false := beq_eq_false_iff_ne.2 (by omega)
    have hC2 : ((C : Int) != 0) = true := by rw [bne, hC']; rfl
    rw [if_neg hC] at RE
    clear CZ
    go_enter Tryz.func8, Tryz.ntmps8
    go_wp2_with (simp only [HWA.out])
    refine CK.out.mono ?_
    rintro e w1 ⟨rfl, hb1⟩
    have BV := hide (BA.out.trans (hb1.mono BA.out.size))
    clear hb1 CK
    go_wp2
    go_ret2
    exact ⟨by rw [RE.out]; rfl, BV.out⟩

end Go.Proofs.YtobmdifledegbaaGreatDoor

namespace Go.Proofs.YtobmdifledegbaaGreatDoor
open Go.RowKit

def Cur (w : World) (D : Nat) (s : ByteArray) (at_ e : Nat) : Prop := Blk w D #[.string s, .int .i64 (at_ : Int), .int .i64 (e : Int)] 101

theorem Cur.below {w w' : World} {D : Nat} {s : ByteArray} {at_ e : Nat} (h : Cur w D s at_ e) (hb : Below w.heap.size w w') : Cur w' D s at_ e := Blk.below h hb (Blk.lt h)
theorem Cur.lt {w : World} {D : Nat} {s : ByteArray} {at_ e : Nat} (h : Cur w D s at_ e) : D < w.heap.size := Blk.lt h
set_option maxHeartbeats 1000000 in
theorem New_any (s : ByteArray) (w : World) : Calls Tryz.prog 37 #[.string s] w fun e w' => e = .returned (.pointer (some ⟨w.heap.size, 0, none⟩)) ∧ Cur w' w.heap.size s 0 0 ∧ Below w.heap.size w w' := by
  go_enter Tryz.func37, Tryz.ntmps37
  go_wp2
  go_ret
  exact ⟨rfl, Blk.new _ _ _, (Below.refl _ _).alloc (Nat.le_refl _) _⟩

section
variable {w : World} {D : Nat} {s : ByteArray} {at_ e : Nat}

set_option maxHeartbeats 1000000 in
theorem left_any (hs : s.size ≤ 4611686018427387904) (ha : at_ ≤ s.size) (h : Cur w D s at_ e) : Calls Tryz.prog 120 #[.pointer (some ⟨D, 0, none⟩)] w fun x w' => x = .returned (.int .i64 ((s.size : Int) - (at_ : Int))) ∧ w' = w.drew := by
  have c0 := Blk.cell h 0
  have c1 := Blk.cell h 1
  clear h
  go_enter Tryz.func120, Tryz.ntmps120
  go_wp2_with fail
  go_region
  go_wp2
  go_ret
  exact ⟨rfl, rfl⟩

def Pan (e : Nat) (x : Ending) : Prop := x = .panicked [{ v := .iface 26 (.int .i64 (e : Int)), recovered := false }]

set_option maxHeartbeats 1000000 in
theorem take_no (n : Nat) (hs : s.size ≤ 4611686018427387904) (ha : at_ ≤ s.size) (h : Cur w D s at_ e) (hn : s.size < at_ + n) : Calls Tryz.prog 109 #[.pointer (some ⟨D, 0, none⟩), .int .i64 (n : Int)] w fun x w' => Pan 110 x ∧ Below w.heap.size w w' := by
  have HL := hide (left_any hs ha h)
  have hn' : (s.size : Int) - (at_ : Int) < (n : Int) := by omega
  clear h
  go_enter Tryz.func109, Tryz.ntmps109
  go_wp2_with fail
  refine HL.out.mono ?_
  rintro x w1 ⟨rfl, rfl⟩
  go_wp2
  exact ⟨rfl, rfl, (Below.refl _ _).drew⟩

set_option maxHeartbeats 1000000 in
theorem take_ok (n : Nat) (hs : s.size ≤ 4611686018427387904) (h : Cur w D s at_ e) (hn : at_ + n ≤ s.size) : Calls Tryz.prog 109 #[.pointer (some ⟨D, 0, none⟩), .int .i64 (n : Int)] w fun x w' => x = .returned (.string (s.extract at_ (at_ + n))) ∧ Cur w' D s (at_ + n) e ∧ But D w w' := by
  have HL := hide (left_any hs (by omega) h)
  have hn' : ¬ (s.size : Int) - (at_ : Int) < (n : Int) := by omega
  have HC := hide h
  have c0 := Blk.cell HC.out 0
  have c1 := Blk.cell HC.out 1
  have f1 := Blk.free HC.out 1
  have HC2 := hide (Blk.set1of3 HC.out (.int .i64 ((at_ : Int) + (n : Int))))
  have d0 := Blk.cell HC2.out 0
  have d1 := Blk.cell HC2.out 1
  have hle : (at_ : Int) ≤ (at_ : Int) + (n : Int) := by omega
  have hle2 : (at_ : Int) + (n : Int) ≤ (s.size : Int) := by omega
  clear h
  go_enter Tryz.func109, Tryz.ntmps109
  go_wp2_with fail
  refine HL.out.mono ?_
  rintro x w1 ⟨rfl, rfl⟩
  go_wp2_with fail
  go_region
  go_wp2
  go_ret
  have h9 : Cur (w.setCell ⟨D, 1, none⟩ (.int .i64 ((at_ : Int) + (n : Int)))) D s (at_ + n) e := HC2.out
  exact ⟨rfl, h9.below ((Below.refl _ _).drew.drew), ((But.refl D w).set 1 _).trans (But.of_below (Below.refl _ _).drew.drew)⟩

end

end Go.Proofs.YtobmdifledegbaaGreatDoor
