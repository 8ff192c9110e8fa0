/-
  Rows that are made and filled, cell by cell; what bundle's row reads as texts and as entries.
  What bundle's reader reads as a table; what row reads as texts.
  What bundle's row reads as tables; what the reader reads as a bundle.
  What bundle's Decode answers.
  The document's examples of chapter 12, reckoned.
  The calls whose answers the document fixes.
  What quipuref12's SameTable and Same answer of two that read the same.
  quipuref12.SameTexts of two lists that read the same.
  Laws of append within the room of a list of the call's own: nil or not, and at a step of a region that draws its order.
  What quipuref12's Copy makes: lists of the call's own, a mark behind each.
-/
import Derived.Test.YtobmdifledegbaaGreatDoorCB5
import Derived.Laws.StructEq
import Derived.OwnWalk
import Derived.Deep.RegionLaw
import Derived.Laws.OwnMore
namespace Go.Proofs.YtobmdifledegbaaGreatDoor
open Go.RowKit

theorem blk_at {w : World} {g m : Nat} {a rest : List Value} {r : Value} {T : TypeId} (h : Blk w g (a ++ r :: rest).toArray T) (ha : a.length = m) : w.cell? ⟨g, m, none⟩ = some r := by
  rw [h.cell m, ← ha]
  simp
theorem blk_set {w : World} {g m : Nat} {a rest : List Value} {r : Value} {T : TypeId} (h : Blk w g (a ++ r :: rest).toArray T) (ha : a.length = m) (v : Value) : Blk (w.setCell ⟨g, m, none⟩ v) g (a ++ v :: rest).toArray T := by
  have e : ((a ++ r :: rest).toArray).set! m v = (a ++ v :: rest).toArray := by
    rw [← ha, Array.set!_eq_setIfInBounds, List.setIfInBounds_toArray]
    simp
  unfold Blk at *
  simp only [World.setCell, Array.getElem?_modify, if_true, h, Option.map_some]
  rw [← e]
  rfl
theorem blk_snoc {w : World} {g : Nat} {a rest : List Value} {v : Value} {T : TypeId} (h : Blk w g (a ++ v :: rest).toArray T) : Blk w g ((a ++ [v]) ++ rest).toArray T := by
  rw [List.append_assoc]; exact h

theorem blk_put4 {w : World} {g m : Nat} {a rest : List Value} {r0 r1 r2 r3 : Value} {T : TypeId} (h : Blk w g (a ++ r0 :: r1 :: r2 :: r3 :: rest).toArray T) (ha : a.length = m) (v0 v1 v2 v3 : Value) :
    Blk ((((w.setCell ⟨g, m, none⟩ v0).setCell ⟨g, m + 1, none⟩ v1).setCell ⟨g, m + 2, none⟩ v2).setCell ⟨g, m + 3, none⟩ v3) g (a ++ v0 :: v1 :: v2 :: v3 :: rest).toArray T := by
  have h0 := blk_snoc (blk_set h ha v0)
  have h1 := blk_snoc (blk_set h0 (m := m + 1) (by simp [ha]) v1)
  have h2 := blk_snoc (blk_set h1 (m := m + 2) (by simp [ha]) v2)
  have h3 := blk_set h2 (m := m + 3) (by simp [ha]) v3
  simpa using h3
theorem blk_four {w : World} {g m : Nat} {a rest : List Value} {r0 r1 r2 r3 : Value} {T : TypeId} (h : Blk w g (a ++ r0 :: r1 :: r2 :: r3 :: rest).toArray T) (ha : a.length = m) :
    w.cell? ⟨g, m, none⟩ = some r0 ∧ w.cell? ⟨g, m + 1, none⟩ = some r1 ∧ w.cell? ⟨g, m + 2, none⟩ = some r2 ∧ w.cell? ⟨g, m + 3, none⟩ = some r3 :=
  ⟨blk_at h ha, blk_at (blk_snoc h) (by simp [ha]), blk_at (blk_snoc (blk_snoc h)) (by simp [ha]), blk_at (blk_snoc (blk_snoc (blk_snoc h))) (by simp [ha])⟩

theorem blk_made {w : World} {B n sz : Nat} {e : TypeId} {g : Nat} {xs : List Value} (h : w.ownsRow B e sz (.slice (some ⟨g, 0, none⟩) n n) n xs) : Blk w g xs.toArray e ∧ xs.length = n * sz := by
  refine ⟨?_, h.1⟩
  rcases h.2 with ⟨q, _⟩ | ⟨g', cap, cur, q, _, hh, _, _, hs, ht⟩
  · cases q
  · simp only [Value.slice.injEq, Option.some.injEq, Addr.mk.injEq] at q
    obtain ⟨⟨rfl, _, _⟩, _, rfl⟩ := q
    unfold Blk
    rw [hh]
    have : cur.toList = xs := by rw [← ht, List.take_of_length_le (by rw [Array.length_toList, hs]; exact Nat.le_refl _)]
    rw [← this]

def Made (T : TypeId) (B : Nat) (w : World) (v : Value) (n : Nat) (cs : List Value) : Prop := (n = 0 ∧ v = .slice none 0 0) ∨ ∃ g, v = .slice (some ⟨g, 0, none⟩) n n ∧ B ≤ g ∧ Blk w g cs.toArray T

theorem Made.but {T : TypeId} {B D n : Nat} {w w' : World} {v : Value} {cs : List Value} (h : Made T B w v n cs) (hb : But D w w') (hD : D < B) : Made T B w' v n cs := by
  rcases h with h | ⟨g, h1, h2, h3⟩
  · exact .inl h
  · exact .inr ⟨g, h1, h2, hb.blk h3 (by omega)⟩
theorem Made.set {T : TypeId} {B E i n : Nat} {w : World} {v : Value} {cs : List Value} (h : Made T B w v n cs) (hE : E < B) (u : Value) : Made T B (w.setCell ⟨E, i, none⟩ u) v n cs := by
  rcases h with h | ⟨g, h1, h2, h3⟩
  · exact .inl h
  · exact .inr ⟨g, h1, h2, h3.other (a := ⟨E, i, none⟩) (by show E ≠ g; omega) u⟩
theorem Made.base {T : TypeId} {B B' n : Nat} {w : World} {v : Value} {cs : List Value} (h : Made T B w v n cs) (hB : B' ≤ B) : Made T B' w v n cs := by
  rcases h with h | ⟨g, h1, h2, h3⟩
  · exact .inl h
  · exact .inr ⟨g, h1, Nat.le_trans hB h2, h3⟩

def rdMany {α : Type} (item : St → α × St) : Nat → St → List α × St
  | 0, st => ([], st)
  | n + 1, st => ((item st).1 :: (rdMany item n (item st).2).1, (rdMany item n (item st).2).2)
def rdRow {α : Type} (s : ByteArray) (k most : Nat) (item : St → α × St) (st : St) : List α × St := if most < gV s st k then ([], gS s st k) else rdMany item (gV s st k) (gS s st k)

theorem rdMany_len {α : Type} (item : St → α × St) : ∀ n st, (rdMany item n st).1.length = n
  | 0, st => rfl
  | n + 1, st => by show (rdMany item n _).1.length + 1 = n + 1; rw [rdMany_len item n]
theorem rdRow_len {α : Type} (s : ByteArray) (k most : Nat) (item : St → α × St) (st : St) : (rdRow s k most item st).1.length ≤ most := by
  unfold rdRow
  split
  · exact Nat.zero_le _
  · rw [rdMany_len]; omega

theorem infoE : (Tryz.prog.info? 39).map (fun i => (i.zero, i.size, i.bytes)) = some (some (.agg #[.string ⟨#[]⟩, .int .i64 0, .string ⟨#[]⟩, .int .i64 0]), 4, 48) := by kernel_rfl

def cellsEn (es : List Ent) : List Value := es.flatMap fun e => [.string e.key, .int .i64 e.kind, .string e.text, .int .i64 e.num]
theorem cellsEn_len (es : List Ent) : (cellsEn es).length = es.length * 4 := by
  induction es with
  | nil => rfl
  | cons f r ih =>
    have : cellsEn (f :: r) = [.string f.key, .int .i64 f.kind, .string f.text, .int .i64 f.num] ++ cellsEn r := rfl
    rw [this, List.length_append, ih, List.length_cons]
    simp; omega
theorem cellsEn_snoc (es : List Ent) (e : Ent) : cellsEn (es ++ [e]) = cellsEn es ++ [.string e.key, .int .i64 e.kind, .string e.text, .int .i64 e.num] := by
  unfold cellsEn; rw [List.flatMap_append]; rfl

theorem four_of {l : List Value} {n : Nat} (h : l.length = (n + 1) * 4) : ∃ r0 r1 r2 r3 r, l = r0 :: r1 :: r2 :: r3 :: r ∧ r.length = n * 4 := by
  match l, h with
  | r0 :: r1 :: r2 :: r3 :: r, h => exact ⟨r0, r1, r2, r3, r, rfl, by simp at h; omega⟩
  | [], h => simp at h
  | [_], h => simp at h; omega
  | [_, _], h => simp at h; omega
  | [_, _, _], h => simp at h; omega

section
variable {w : World} {R D : Nat} {tx : Value} {s : ByteArray} {st : St}

set_option maxRecDepth 100000 in
set_option maxHeartbeats 4000000 in
theorem rowE {ps : List ByteArray} (h : Rd w R D tx s st) (ht : TxAt w D tx ps) (hp : ps.length ≤ 4096) :
    Calls Tryz.prog 91 #[.func (.func 62) #[.pointer (some ⟨D, 0, none⟩)] #[], .int .i64 1024, .func (.func 92) #[.pointer (some ⟨R, 0, none⟩)] #[]] w fun x w' => ∃ v, x = .returned v ∧ Made 39 w.heap.size w' v (rdRow s 2 1024 (rdE ps s) st).1.length (cellsEn (rdRow s 2 1024 (rdE ps s) st).1) ∧ Rd w' R D tx s (rdRow s 2 1024 (rdE ps s) st).2 ∧ But D w w' := by
  obtain ⟨i0, hi, hz0, hz1, hz2⟩ := info_parts infoE
  have HC := hide (rget2 h)
  have RE : Hid (rdRow s 2 1024 (rdE ps s) st = if 1024 < gV s st 2 then ([], gS s st 2) else rdMany (rdE ps s) (gV s st 2) (gS s st 2)) := hide rfl
  generalize rdRow s 2 1024 (rdE ps s) st = RR at *
  have HT := hide ht
  have hDw := Blk.lt h.cur
  have hRw := h.blk.lt
  generalize gV s st 2 = V at *
  generalize gS s st 2 = st1 at *
  clear h ht
  by_cases hv : 1024 < V
  · rw [if_pos hv] at RE
    have hv' : (1024 : Int) < (V : Int) := by omega
    go_enter Tryz.func91, Tryz.ntmps91
    go_wp2_with fail
    refine HC.out.mono ?_
    rintro x w1 ⟨rfl, h1, h2⟩
    have H1 := hide h1
    have H2 := hide h2
    clear h1 h2 HC
    go_wp2
    go_ret
    exact ⟨_, rfl, by rw [RE.out]; exact .inl ⟨rfl, rfl⟩, by rw [RE.out]; exact H1.out, H2.out⟩
  · rw [if_neg hv] at RE
    have hv' : ¬ (1024 : Int) < (V : Int) := by omega
    have IT : Hid (∀ X sx, Rd X R D tx s sx → TxAt X D tx ps → Calls Tryz.prog 92 #[.pointer (some ⟨R, 0, none⟩)] X fun x w' => x = .returned (entV (rdE ps s sx).1) ∧ Rd w' R D tx s (rdE ps s sx).2 ∧ But D X w') := hide (fun X sx hX hT => rentry hX hT hp)
    go_enter Tryz.func91, Tryz.ntmps91
    go_wp2_with fail
    refine HC.out.mono ?_
    rintro x w1 ⟨rfl, h1, h2⟩
    have H1 := hide h1
    have H2 := hide h2
    have T1 := hide (HT.out.but h2)
    have hs1 := h2.size
    clear h1 h2 HC
    go_wp2_with (at_make; refine wpList_make_full _ rfl _ _ 35 rfl w.heap.size 39 i0 (.agg #[.string ⟨#[]⟩, .int .i64 0, .string ⟨#[]⟩, .int .i64 0]) 4 Tryz.underlying35 hi hz0 hz1 _ _ _ _ V rfl rfl rfl rfl (by rw [hz2]; omega) (by unfold maxLen; omega) hs1 ?_; intro w2 hrow hgr)
    have B12 : Below w1.heap.size w1 w2 := ⟨hgr.os, hgr.tape, hgr.output, hgr.size, fun k hk => hgr.block k hk (by simp)⟩
    obtain ⟨hbk, hlen⟩ := blk_made hrow
    obtain ⟨g, hg⟩ : ∃ g, g = w1.heap.size := ⟨_, rfl⟩
    rw [← hg] at hbk
    rw [← hg]
    have hgD : g ≠ D := by omega
    have hgR : g ≠ R := by omega
    have hgw : w.heap.size ≤ g := by omega
    have Q2 := hide hbk
    have LN := hide hlen
    have R2 := hide (H1.out.below B12)
    have T2 := hide (T1.out.below B12)
    have U2 := hide (H2.out.trans (.of_below B12))
    generalize (madeCells (Value.agg #[.string ⟨#[]⟩, .int .i64 0, .string ⟨#[]⟩, .int .i64 0]).cells (V * 4)).toList = xs at *
    clear hrow hgr B12 hbk hlen H1 T1 H2 hg hs1
    go_wp2
    go_loopw [19] (fun p wr => ∃ (k : Nat) (es : List Ent) (sk : St) (rest : List Value), k ≤ V ∧ p = .int .i64 (k : Int) ∧ Hid (es.length = k ∧ rest.length = (V - k) * 4 ∧ es ++ (rdMany (rdE ps s) (V - k) sk).1 = RR.1 ∧ (rdMany (rdE ps s) (V - k) sk).2 = RR.2) ∧ Hid (Blk wr g (cellsEn es ++ rest).toArray 39) ∧ Hid (Rd wr R D tx s sk) ∧ Hid (TxAt wr D tx ps) ∧ Hid (But D w wr)) (fun p _ => V - (intOf p).toNat)
    case atStart => exact ⟨0, [], st1, xs, Nat.zero_le _, rfl, hide ⟨rfl, LN.out, by rw [RE.out]; rfl, by rw [RE.out]; rfl⟩, Q2, R2, T2, U2⟩
    case round =>
      obtain ⟨k, es, sk, rest, hk, rfl, HF, HB, HR, HTx, HU⟩ := hrel
      by_cases hlt : k < V
      · have hlt' : (k : Int) < (V : Int) := by omega
        have CI := hide (IT.out wr sk HR.out HTx.out)
        obtain ⟨r0, r1, r2, r3, rest', hrest, hrl⟩ := four_of (l := rest) (n := V - (k + 1)) (by rw [HF.out.2.1]; congr 1; omega)
        subst hrest
        have HRL := hide hrl
        have HN : Hid (es ++ [(rdE ps s sk).1] ++ (rdMany (rdE ps s) (V - (k + 1)) (rdE ps s sk).2).1 = RR.1 ∧ (rdMany (rdE ps s) (V - (k + 1)) (rdE ps s sk).2).2 = RR.2) := hide (by
          have q := HF.out.2.2
          rw [show V - k = (V - (k + 1)) + 1 by omega] at q
          refine ⟨?_, q.2⟩
          rw [← q.1, List.append_assoc]
          rfl)
        have HEL : Hid (es.length = k) := hide HF.out.1
        have CL : Hid ((cellsEn es).length = k * 4) := hide (by rw [cellsEn_len, HEL.out])
        obtain ⟨e, he⟩ : ∃ e, e = (rdE ps s sk).1 := ⟨_, rfl⟩
        rw [← he] at CI HN
        clear he
        unfold entV at CI
        go_wp2_with fail
        refine CI.out.mono ?_
        rintro x w3 ⟨rfl, hr3, hb3⟩
        have B3 := hb3.blk HB.out hgD
        have PB := hide (blk_put4 B3 CL.out (.string e.key) (.int .i64 e.kind) (.string e.text) (.int .i64 e.num))
        obtain ⟨b0, b1, b2, b3⟩ := blk_four B3 CL.out
        have f0 := B3.free (k * 4)
        have f1 := B3.free (k * 4 + 1)
        have f2 := B3.free (k * 4 + 2)
        have f3 := B3.free (k * 4 + 3)
        have RN := hide ((((hr3.other (i := k * 4) hgR hgD (.string e.key)).other (i := k * 4 + 1) hgR hgD (.int .i64 e.kind)).other (i := k * 4 + 2) hgR hgD (.string e.text)).other (i := k * 4 + 3) hgR hgD (.int .i64 e.num))
        have T3 := HTx.out.but hb3
        have TN := hide ((((T3.other (i := k * 4) HT.out hgw (.string e.key)).other (i := k * 4 + 1) HT.out hgw (.int .i64 e.kind)).other (i := k * 4 + 2) HT.out hgw (.string e.text)).other (i := k * 4 + 3) HT.out hgw (.int .i64 e.num))
        have UN := hide (((((HU.out.trans hb3).setNew (i := k * 4) hgw (.string e.key)).setNew (i := k * 4 + 1) hgw (.int .i64 e.kind)).setNew (i := k * 4 + 2) hgw (.string e.text)).setNew (i := k * 4 + 3) hgw (.int .i64 e.num))
        have PN : Hid (Blk ((((w3.setCell ⟨g, k * 4, none⟩ (.string e.key)).setCell ⟨g, k * 4 + 1, none⟩ (.int .i64 e.kind)).setCell ⟨g, k * 4 + 2, none⟩ (.string e.text)).setCell ⟨g, k * 4 + 3, none⟩ (.int .i64 e.num)) g (cellsEn (es ++ [e]) ++ rest').toArray 39) := hide (by rw [cellsEn_snoc, List.append_assoc]; exact PB.out)
        clear hr3 hb3 B3 PB T3 CI HB HR HTx HU HF
        go_wp2
        exact ⟨⟨k + 1, es ++ [e], _, rest', by omega, by go_num, hide ⟨by rw [List.length_append, HEL.out]; rfl, HRL.out, HN.out⟩, PN, RN, TN, UN⟩, by simp [intOf]; omega⟩
      · obtain rfl : k = V := by omega
        have hlt' : ¬ (k : Int) < (k : Int) := by omega
        have HE : Hid (es = RR.1 ∧ sk = RR.2 ∧ rest = [] ∧ RR.1.length = k) := hide (by
          have q := HF.out
          rw [Nat.sub_self] at q
          have e1 : es = RR.1 := by have := q.2.2.1; simpa [rdMany] using this
          refine ⟨e1, q.2.2.2, List.length_eq_zero_iff.1 (by simpa using q.2.1), by rw [← e1]; exact q.1⟩)
        clear HF hlt
        go_wp2
        go_ret
        refine ⟨_, rfl, .inr ⟨g, by rw [HE.out.2.2.2]; rfl, hgw, ?_⟩, by rw [← HE.out.2.1]; exact HR.out, HU.out⟩
        have q := HB.out
        rw [HE.out.2.2.1, List.append_nil, HE.out.1] at q
        exact q

end

end Go.Proofs.YtobmdifledegbaaGreatDoor

namespace Go.Proofs.YtobmdifledegbaaGreatDoor
open Go.RowKit

def rdT (ps : List ByteArray) (s : ByteArray) (st : St) : Tab × St :=
  (⟨txN ps (gV s st 2), parV (gV s (gS s st 2) 1), (rdRow s 2 1024 (rdE ps s) (gS s (gS s st 2) 1)).1⟩, (rdRow s 2 1024 (rdE ps s) (gS s (gS s st 2) 1)).2)

theorem results_tab1 {fn : Func} {a : Tmp} (h : fn.results = #[.cell a 37]) (tmps : Array Value) (H : Nat) (x0 x1 x2 : Value) (w : World) (ht : tmps.getD a undef = .pointer (some ⟨H, 0, none⟩)) (hp : Blk w H #[x0, x1, x2] 37) :
    (results fn tmps).run Tryz.prog w = .ok (.agg #[x0, x1, x2]) w := by
  have c0 := hp.cell 0
  have c1 := hp.cell 1
  have c2 := hp.cell 2
  simp at c0 c1 c2
  rw [Array.getD_eq_getD_getElem?] at ht
  simp [results, h, ht, go_sem, c0, c1, c2]

theorem Blk.put3 {w : World} {b : Nat} {x0 x1 x2 : Value} {t : TypeId} (h : Blk w b #[x0, x1, x2] t) (y0 y1 y2 : Value) : Blk (((w.setCell ⟨b, 0, none⟩ y0).setCell ⟨b, 1, none⟩ y1).setCell ⟨b, 2, none⟩ y2) b #[y0, y1, y2] t := ((h.set0of3 y0).set1of3 y1).set2of3 y2

theorem Made.slice {T : TypeId} {B n : Nat} {w : World} {v : Value} {cs : List Value} (h : Made T B w v n cs) : ∃ ao cap, v = .slice ao n cap := by
  rcases h with ⟨rfl, rfl⟩ | ⟨g, rfl, _⟩
  · exact ⟨none, 0, rfl⟩
  · exact ⟨_, _, rfl⟩

section
variable {w : World} {R D : Nat} {tx : Value} {s : ByteArray} {st : St}

set_option maxRecDepth 100000 in
set_option maxHeartbeats 4000000 in
theorem rtable {ps : List ByteArray} (h : Rd w R D tx s st) (ht : TxAt w D tx ps) (hp : ps.length ≤ 4096) : Calls Tryz.prog 66 #[.pointer (some ⟨R, 0, none⟩)] w fun x w' => ∃ v, x = .returned (.agg #[.string (rdT ps s st).1.name, .int .i64 (rdT ps s st).1.parent, v]) ∧ Made 39 w.heap.size w' v (rdT ps s st).1.ents.length (cellsEn (rdT ps s st).1.ents) ∧ Rd w' R D tx s (rdT ps s st).2 ∧ But D w w' := by
  have hmf : ∀ (fn : Fn) (first cap : Array Value) (w : World), (Instr.makeFunc fn first cap).run Tryz.prog w = .ok (.func fn first cap) w := fun _ _ _ _ => rfl
  obtain ⟨WA, hWA⟩ : ∃ WA, WA = w.alloc (.cells #[.string ⟨#[]⟩, .int .i64 0, .slice none 0 0] 37) := ⟨_, rfl⟩
  have BA : Hid (Below w.heap.size w WA) := hide (by rw [hWA]; exact (Below.refl _ _).alloc (Nat.le_refl _) _)
  have QH : Hid (Blk WA w.heap.size #[.string ⟨#[]⟩, .int .i64 0, .slice none 0 0] 37) := hide (by rw [hWA]; exact Blk.newAt w w.heap.size rfl _ _)
  have HWA := hide hWA.symm
  have RA := hide (h.below BA.out)
  have TA := hide (ht.below BA.out)
  have hDw := Blk.lt h.cur
  have hRw := h.blk.lt
  have hHD : w.heap.size ≠ D := Nat.ne_of_gt hDw
  have hHR : w.heap.size ≠ R := Nat.ne_of_gt hRw
  have C1 := hide (rtextAt2 RA.out TA.out hp)
  have RE : Hid (rdT ps s st = (⟨txN ps (gV s st 2), parV (gV s (gS s st 2) 1), (rdRow s 2 1024 (rdE ps s) (gS s (gS s st 2) 1)).1⟩, (rdRow s 2 1024 (rdE ps s) (gS s (gS s st 2) 1)).2)) := hide rfl
  generalize rdT ps s st = RR at *
  have c0 := RA.out.blk.cell 0
  generalize txN ps (gV s st 2) = K at *
  generalize gS s st 2 = st1 at *
  clear hWA h ht
  go_enter Tryz.func66, Tryz.ntmps66
  go_wp2_with (simp only [HWA.out])
  refine C1.out.mono ?_
  rintro x w1 ⟨rfl, hr1, hb1⟩
  have R1 := hide hr1
  have T1 := hide (TA.out.but hb1)
  have U1 : Hid (But D w w1) := hide ((But.of_below BA.out).trans hb1)
  have Q1 := hide (hb1.blk QH.out hHD)
  have C2 := hide (rparent R1.out)
  generalize parV (gV s st1 1) = P at *
  generalize gS s st1 1 = st2 at *
  clear hr1 hb1 C1 c0 RA TA QH BA
  go_wp2_with fail
  refine C2.out.mono ?_
  rintro x w2 ⟨rfl, hr2, hb2⟩
  have R2 := hide hr2
  have T2 := hide (T1.out.but hb2)
  have U2 := hide (U1.out.trans hb2)
  have Q2 := hide (hb2.blk Q1.out hHD)
  have c2 := R2.out.blk.cell 0
  have hH2 : w.heap.size < w2.heap.size := Q2.out.lt
  have C3 := hide (rowE R2.out T2.out hp)
  generalize rdRow s 2 1024 (rdE ps s) st2 = RW at *
  clear hr2 hb2 C2 R1 T1 U1 Q1
  go_wp2_with fail
  refine C3.out.mono ?_
  rintro x w3 ⟨v, rfl, hm3, hr3, hb3⟩
  have R3 := hide hr3
  have M3 := hide hm3
  have U3 := hide (U2.out.trans hb3)
  have Q3 := hide (hb3.blk Q2.out hHD)
  obtain ⟨ao, cap, rfl⟩ := hm3.slice
  have h0 := Q3.out.cell 0
  have h1 := Q3.out.cell 1
  have h2 := Q3.out.cell 2
  have g0 := Q3.out.free 0
  have g1 := Q3.out.free 1
  have g2 := Q3.out.free 2
  clear hm3 hr3 hb3 C3 c2 R2 T2 U2 Q2
  go_wp2
  refine bodyPost_ret (results_tab1 rfl _ _ _ _ _ _ rfl (Q3.out.put3 _ _ _)) rfl ?_
  refine ⟨_, by rw [RE.out], ?_, ?_, ((U3.out.setNew (Nat.le_refl _) _).setNew (Nat.le_refl _) _).setNew (Nat.le_refl _) _⟩
  · rw [RE.out]
    exact (((M3.out.set hH2 _).set hH2 _).set hH2 _).base (Nat.le_of_lt hH2)
  · rw [RE.out]
    exact ((R3.out.other hHR hHD _).other hHR hHD _).other hHR hHD _

def rdX (s : ByteArray) (st : St) : ByteArray × St := (xV s st, xS s st)

theorem one_of {l : List Value} {n : Nat} (h : l.length = n + 1) : ∃ r0 r, l = r0 :: r ∧ r.length = n := by
  match l, h with
  | r0 :: r, h => exact ⟨r0, r, rfl, by simpa using h⟩

set_option maxRecDepth 100000 in
set_option maxHeartbeats 4000000 in
theorem rowX (h : Rd w R D tx s st) (hT : U8 w) (hD : OffT D) :
    Calls Tryz.prog 61 #[.func (.func 62) #[.pointer (some ⟨D, 0, none⟩)] #[], .int .i64 4096, .func (.func 63) #[.pointer (some ⟨R, 0, none⟩)] #[]] w fun x w' => ∃ v, x = .returned v ∧ Made 9 w.heap.size w' v (rdRow s 2 4096 (rdX s) st).1.length ((rdRow s 2 4096 (rdX s) st).1.map Value.string) ∧ Rd w' R D tx s (rdRow s 2 4096 (rdX s) st).2 ∧ But D w w' := by
  obtain ⟨i0, hi, hz0, hz1, hz2⟩ := info_parts infoS
  have HC := hide (rget2 h)
  have RE : Hid (rdRow s 2 4096 (rdX s) st = if 4096 < gV s st 2 then ([], gS s st 2) else rdMany (rdX s) (gV s st 2) (gS s st 2)) := hide rfl
  generalize rdRow s 2 4096 (rdX s) st = RR at *
  have hDw := Blk.lt h.cur
  have hRw := h.blk.lt
  have HT := hide hT
  have HD := hide hD
  generalize gV s st 2 = V at *
  generalize gS s st 2 = st1 at *
  clear h hT hD
  by_cases hv : 4096 < V
  · rw [if_pos hv] at RE
    have hv' : (4096 : Int) < (V : Int) := by omega
    go_enter Tryz.func61, Tryz.ntmps61
    go_wp2_with fail
    refine HC.out.mono ?_
    rintro x w1 ⟨rfl, h1, h2⟩
    have H1 := hide h1
    have H2 := hide h2
    clear h1 h2 HC
    go_wp2
    go_ret
    exact ⟨_, rfl, by rw [RE.out]; exact .inl ⟨rfl, rfl⟩, by rw [RE.out]; exact H1.out, H2.out⟩
  · rw [if_neg hv] at RE
    have hv' : ¬ (4096 : Int) < (V : Int) := by omega
    have IT : Hid (∀ X sx, Rd X R D tx s sx → U8 X → Calls Tryz.prog 63 #[.pointer (some ⟨R, 0, none⟩)] X fun x w' => x = .returned (.string (rdX s sx).1) ∧ Rd w' R D tx s (rdX s sx).2 ∧ But D X w') := hide (fun X sx hX hT => rtext hX hT HD.out)
    go_enter Tryz.func61, Tryz.ntmps61
    go_wp2_with fail
    refine HC.out.mono ?_
    rintro x w1 ⟨rfl, h1, h2⟩
    have H1 := hide h1
    have H2 := hide h2
    have hs1 := h2.size
    clear h1 h2 HC
    go_wp2_with (at_make; refine wpList_make_full _ rfl _ _ 43 rfl w.heap.size 9 i0 (.string ⟨#[]⟩) 1 Tryz.underlying43 hi hz0 hz1 _ _ _ _ V rfl rfl rfl rfl (by rw [hz2]; omega) (by unfold maxLen; omega) hs1 ?_; intro w2 hrow hgr)
    have B12 : Below w1.heap.size w1 w2 := ⟨hgr.os, hgr.tape, hgr.output, hgr.size, fun k hk => hgr.block k hk (by simp)⟩
    obtain ⟨hbk, hlen⟩ := blk_made hrow
    obtain ⟨g, hg⟩ : ∃ g, g = w1.heap.size := ⟨_, rfl⟩
    rw [← hg] at hbk
    rw [← hg]
    have hgD : g ≠ D := by omega
    have hgR : g ≠ R := by omega
    have hgw : w.heap.size ≤ g := by omega
    have Q2 := hide hbk
    have LN := hide hlen
    have R2 := hide (H1.out.below B12)
    have U2 := hide (H2.out.trans (.of_below B12))
    generalize (madeCells (Value.string ⟨#[]⟩).cells (V * 1)).toList = xs at *
    clear hrow hgr B12 hbk hlen H1 H2 hg hs1
    go_wp2
    go_loopw [19] (fun p wr => ∃ (k : Nat) (es : List ByteArray) (sk : St) (rest : List Value), k ≤ V ∧ p = .int .i64 (k : Int) ∧ Hid (es.length = k ∧ rest.length = V - k ∧ es ++ (rdMany (rdX s) (V - k) sk).1 = RR.1 ∧ (rdMany (rdX s) (V - k) sk).2 = RR.2) ∧ Hid (Blk wr g (es.map Value.string ++ rest).toArray 9) ∧ Hid (Rd wr R D tx s sk) ∧ Hid (But D w wr)) (fun p _ => V - (intOf p).toNat)
    case atStart => exact ⟨0, [], st1, xs, Nat.zero_le _, rfl, hide ⟨rfl, by rw [LN.out]; omega, by rw [RE.out]; rfl, by rw [RE.out]; rfl⟩, Q2, R2, U2⟩
    case round =>
      obtain ⟨k, es, sk, rest, hk, rfl, HF, HB, HR, HU⟩ := hrel
      by_cases hlt : k < V
      · have hlt' : (k : Int) < (V : Int) := by omega
        have CI := hide (IT.out wr sk HR.out (HT.out.but HU.out HD.out))
        obtain ⟨r0, rest', hrest, hrl⟩ := one_of (l := rest) (n := V - (k + 1)) (by rw [HF.out.2.1]; omega)
        subst hrest
        have HRL := hide hrl
        have HN : Hid (es ++ [(rdX s sk).1] ++ (rdMany (rdX s) (V - (k + 1)) (rdX s sk).2).1 = RR.1 ∧ (rdMany (rdX s) (V - (k + 1)) (rdX s sk).2).2 = RR.2) := hide (by
          have q := HF.out.2.2
          rw [show V - k = (V - (k + 1)) + 1 by omega] at q
          refine ⟨?_, q.2⟩
          rw [← q.1, List.append_assoc]
          rfl)
        have HEL : Hid (es.length = k) := hide HF.out.1
        have CL : Hid ((es.map Value.string).length = k) := hide (by rw [List.length_map, HEL.out])
        obtain ⟨e, he⟩ : ∃ e, e = (rdX s sk).1 := ⟨_, rfl⟩
        rw [← he] at CI HN
        clear he
        go_wp2_with fail
        refine CI.out.mono ?_
        rintro x w3 ⟨rfl, hr3, hb3⟩
        have B3 := hb3.blk HB.out hgD
        have PB := hide (blk_set B3 CL.out (.string e))
        have b0 := blk_at B3 CL.out
        have f0 := B3.free k
        have RN := hide (hr3.other (i := k) hgR hgD (.string e))
        have UN := hide ((HU.out.trans hb3).setNew (i := k) hgw (.string e))
        have PN : Hid (Blk (w3.setCell ⟨g, k, none⟩ (.string e)) g ((es ++ [e]).map Value.string ++ rest').toArray 9) := hide (by rw [List.map_append, List.append_assoc]; exact PB.out)
        clear hr3 hb3 B3 PB CI HB HR HU HF
        go_wp2
        exact ⟨⟨k + 1, es ++ [e], _, rest', by omega, by go_num, hide ⟨by rw [List.length_append, HEL.out]; rfl, HRL.out, HN.out⟩, PN, RN, UN⟩, by simp [intOf]; omega⟩
      · obtain rfl : k = V := by omega
        have hlt' : ¬ (k : Int) < (k : Int) := by omega
        have HE : Hid (es = RR.1 ∧ sk = RR.2 ∧ rest = [] ∧ RR.1.length = k) := hide (by
          have q := HF.out
          rw [Nat.sub_self] at q
          have e1 : es = RR.1 := by have := q.2.2.1; simpa [rdMany] using this
          refine ⟨e1, q.2.2.2, List.length_eq_zero_iff.1 (by simpa using q.2.1), by rw [← e1]; exact q.1⟩)
        clear HF hlt
        go_wp2
        go_ret
        refine ⟨_, rfl, .inr ⟨g, by rw [HE.out.2.2.2]; rfl, hgw, ?_⟩, by rw [← HE.out.2.1]; exact HR.out, HU.out⟩
        have q := HB.out
        rw [HE.out.2.2.1, List.append_nil, HE.out.1] at q
        exact q

end

end Go.Proofs.YtobmdifledegbaaGreatDoor

namespace Go.Proofs.YtobmdifledegbaaGreatDoor
open Go.RowKit

theorem three_of {l : List Value} {n : Nat} (h : l.length = (n + 1) * 3) : ∃ r0 r1 r2 r, l = r0 :: r1 :: r2 :: r ∧ r.length = n * 3 := by
  match l, h with
  | r0 :: r1 :: r2 :: r, h => exact ⟨r0, r1, r2, r, rfl, by simp at h; omega⟩
  | [], h => simp at h
  | [_], h => simp at h; omega
  | [_, _], h => simp at h; omega

theorem blk_put3 {w : World} {g m : Nat} {a rest : List Value} {r0 r1 r2 : Value} {T : TypeId} (h : Blk w g (a ++ r0 :: r1 :: r2 :: rest).toArray T) (ha : a.length = m) (v0 v1 v2 : Value) :
    Blk (((w.setCell ⟨g, m, none⟩ v0).setCell ⟨g, m + 1, none⟩ v1).setCell ⟨g, m + 2, none⟩ v2) g (a ++ v0 :: v1 :: v2 :: rest).toArray T := by
  have h0 := blk_snoc (blk_set h ha v0)
  have h1 := blk_snoc (blk_set h0 (m := m + 1) (by simp [ha]) v1)
  have h2 := blk_set h1 (m := m + 2) (by simp [ha]) v2
  simpa using h2
theorem blk_three {w : World} {g m : Nat} {a rest : List Value} {r0 r1 r2 : Value} {T : TypeId} (h : Blk w g (a ++ r0 :: r1 :: r2 :: rest).toArray T) (ha : a.length = m) :
    w.cell? ⟨g, m, none⟩ = some r0 ∧ w.cell? ⟨g, m + 1, none⟩ = some r1 ∧ w.cell? ⟨g, m + 2, none⟩ = some r2 :=
  ⟨blk_at h ha, blk_at (blk_snoc h) (by simp [ha]), blk_at (blk_snoc (blk_snoc h)) (by simp [ha])⟩

def MadeE (B : Nat) (w : World) (c : Tab × Value) : Prop := Made 39 B w c.2 c.1.ents.length (cellsEn c.1.ents)
def MadeT (B : Nat) (w : World) (v : Value) (cs : List (Tab × Value)) : Prop := Made 37 B w v cs.length (cellsTb cs) ∧ ∀ c ∈ cs, MadeE B w c

section
variable {w : World} {R D : Nat} {tx : Value} {s : ByteArray} {st : St}

set_option maxRecDepth 100000 in
set_option maxHeartbeats 4000000 in
theorem rowT {ps : List ByteArray} (h : Rd w R D tx s st) (ht : TxAt w D tx ps) (hp : ps.length ≤ 4096) :
    Calls Tryz.prog 64 #[.func (.func 65) #[.pointer (some ⟨D, 0, none⟩)] #[], .int .i64 16, .func (.func 66) #[.pointer (some ⟨R, 0, none⟩)] #[]] w fun x w' => ∃ v, x = .returned v ∧ ∃ cs, cs.map Prod.fst = (rdRow s 1 16 (rdT ps s) st).1 ∧ MadeT w.heap.size w' v cs ∧ Rd w' R D tx s (rdRow s 1 16 (rdT ps s) st).2 ∧ But D w w' := by
  obtain ⟨i0, hi, hz0, hz1, hz2⟩ := info_parts infoT
  have HC := hide (rget1 h)
  have RE : Hid (rdRow s 1 16 (rdT ps s) st = if 16 < gV s st 1 then ([], gS s st 1) else rdMany (rdT ps s) (gV s st 1) (gS s st 1)) := hide rfl
  generalize rdRow s 1 16 (rdT ps s) st = RR at *
  have HT := hide ht
  have hDw := Blk.lt h.cur
  have hRw := h.blk.lt
  generalize gV s st 1 = V at *
  generalize gS s st 1 = st1 at *
  clear h ht
  by_cases hv : 16 < V
  · rw [if_pos hv] at RE
    have hv' : (16 : Int) < (V : Int) := by omega
    go_enter Tryz.func64, Tryz.ntmps64
    go_wp2_with fail
    refine HC.out.mono ?_
    rintro x w1 ⟨rfl, h1, h2⟩
    have H1 := hide h1
    have H2 := hide h2
    clear h1 h2 HC
    go_wp2
    go_ret
    exact ⟨_, rfl, [], by rw [RE.out]; rfl, ⟨.inl ⟨rfl, rfl⟩, fun c hc => by simp at hc⟩, by rw [RE.out]; exact H1.out, H2.out⟩
  · rw [if_neg hv] at RE
    have hv' : ¬ (16 : Int) < (V : Int) := by omega
    have IT : Hid (∀ X sx, Rd X R D tx s sx → TxAt X D tx ps → Calls Tryz.prog 66 #[.pointer (some ⟨R, 0, none⟩)] X fun x w' => ∃ v, x = .returned (.agg #[.string (rdT ps s sx).1.name, .int .i64 (rdT ps s sx).1.parent, v]) ∧ Made 39 X.heap.size w' v (rdT ps s sx).1.ents.length (cellsEn (rdT ps s sx).1.ents) ∧ Rd w' R D tx s (rdT ps s sx).2 ∧ But D X w') := hide (fun X sx hX hT => rtable hX hT hp)
    go_enter Tryz.func64, Tryz.ntmps64
    go_wp2_with fail
    refine HC.out.mono ?_
    rintro x w1 ⟨rfl, h1, h2⟩
    have H1 := hide h1
    have H2 := hide h2
    have T1 := hide (HT.out.but h2)
    have hs1 := h2.size
    clear h1 h2 HC
    go_wp2_with (at_make; refine wpList_make_full _ rfl _ _ 22 rfl w.heap.size 37 i0 (.agg #[.string ⟨#[]⟩, .int .i64 0, .slice none 0 0]) 3 Tryz.underlying22 hi hz0 hz1 _ _ _ _ V rfl rfl rfl rfl (by rw [hz2]; omega) (by unfold maxLen; omega) hs1 ?_; intro w2 hrow hgr)
    have B12 : Below w1.heap.size w1 w2 := ⟨hgr.os, hgr.tape, hgr.output, hgr.size, fun k hk => hgr.block k hk (by simp)⟩
    obtain ⟨hbk, hlen⟩ := blk_made hrow
    obtain ⟨g, hg⟩ : ∃ g, g = w1.heap.size := ⟨_, rfl⟩
    rw [← hg] at hbk
    rw [← hg]
    have hgD : g ≠ D := by omega
    have hgR : g ≠ R := by omega
    have hgw : w.heap.size ≤ g := by omega
    have hDg : D < g + 1 := by omega
    have Q2 := hide hbk
    have LN := hide hlen
    have R2 := hide (H1.out.below B12)
    have T2 := hide (T1.out.below B12)
    have U2 := hide (H2.out.trans (.of_below B12))
    generalize (madeCells (Value.agg #[.string ⟨#[]⟩, .int .i64 0, .slice none 0 0]).cells (V * 3)).toList = xs at *
    clear hrow hgr B12 hbk hlen H1 T1 H2 hg hs1
    go_wp2
    go_loopw [19] (fun p wr => ∃ (k : Nat) (cs : List (Tab × Value)) (sk : St) (rest : List Value), k ≤ V ∧ p = .int .i64 (k : Int) ∧ Hid (cs.length = k ∧ rest.length = (V - k) * 3 ∧ cs.map Prod.fst ++ (rdMany (rdT ps s) (V - k) sk).1 = RR.1 ∧ (rdMany (rdT ps s) (V - k) sk).2 = RR.2) ∧ Hid (Blk wr g (cellsTb cs ++ rest).toArray 37) ∧ Hid (∀ c ∈ cs, MadeE (g + 1) wr c) ∧ Hid (Rd wr R D tx s sk) ∧ Hid (TxAt wr D tx ps) ∧ Hid (But D w wr)) (fun p _ => V - (intOf p).toNat)
    case atStart => exact ⟨0, [], st1, xs, Nat.zero_le _, rfl, hide ⟨rfl, LN.out, by rw [RE.out]; rfl, by rw [RE.out]; rfl⟩, Q2, hide (fun c hc => by simp at hc), R2, T2, U2⟩
    case round =>
      obtain ⟨k, cs, sk, rest, hk, rfl, HF, HB, HM, HR, HTx, HU⟩ := hrel
      by_cases hlt : k < V
      · have hlt' : (k : Int) < (V : Int) := by omega
        have CI := hide (IT.out wr sk HR.out HTx.out)
        obtain ⟨r0, r1, r2, rest', hrest, hrl⟩ := three_of (l := rest) (n := V - (k + 1)) (by rw [HF.out.2.1]; congr 1; omega)
        subst hrest
        have HRL := hide hrl
        have HN : Hid (cs.map Prod.fst ++ [(rdT ps s sk).1] ++ (rdMany (rdT ps s) (V - (k + 1)) (rdT ps s sk).2).1 = RR.1 ∧ (rdMany (rdT ps s) (V - (k + 1)) (rdT ps s sk).2).2 = RR.2) := hide (by
          have q := HF.out.2.2
          rw [show V - k = (V - (k + 1)) + 1 by omega] at q
          refine ⟨?_, q.2⟩
          rw [← q.1, List.append_assoc]
          rfl)
        have HEL : Hid (cs.length = k) := hide HF.out.1
        have CL : Hid ((cellsTb cs).length = k * 3) := hide (by rw [cellsTb_len, HEL.out])
        have hgx : Hid (g + 1 ≤ wr.heap.size) := hide HB.out.lt
        obtain ⟨e, he⟩ : ∃ e, e = (rdT ps s sk).1 := ⟨_, rfl⟩
        rw [← he] at CI HN
        clear he
        go_wp2_with fail
        refine CI.out.mono ?_
        rintro x w3 ⟨v, rfl, hm3, hr3, hb3⟩
        have M3 := hide (hm3.base hgx.out)
        obtain ⟨ao, cap, rfl⟩ := hm3.slice
        have B3 := hb3.blk HB.out hgD
        have PB := hide (blk_put3 B3 CL.out (.string e.name) (.int .i64 e.parent) (.slice ao e.ents.length cap))
        obtain ⟨b0, b1, b2⟩ := blk_three B3 CL.out
        have f0 := B3.free (k * 3)
        have f1 := B3.free (k * 3 + 1)
        have f2 := B3.free (k * 3 + 2)
        have RN := hide (((hr3.other (i := k * 3) hgR hgD (.string e.name)).other (i := k * 3 + 1) hgR hgD (.int .i64 e.parent)).other (i := k * 3 + 2) hgR hgD (.slice ao e.ents.length cap))
        have T3 := HTx.out.but hb3
        have TN := hide (((T3.other (i := k * 3) HT.out hgw (.string e.name)).other (i := k * 3 + 1) HT.out hgw (.int .i64 e.parent)).other (i := k * 3 + 2) HT.out hgw (.slice ao e.ents.length cap))
        have UN := hide ((((HU.out.trans hb3).setNew (i := k * 3) hgw (.string e.name)).setNew (i := k * 3 + 1) hgw (.int .i64 e.parent)).setNew (i := k * 3 + 2) hgw (.slice ao e.ents.length cap))
        have PN : Hid (Blk (((w3.setCell ⟨g, k * 3, none⟩ (.string e.name)).setCell ⟨g, k * 3 + 1, none⟩ (.int .i64 e.parent)).setCell ⟨g, k * 3 + 2, none⟩ (.slice ao e.ents.length cap)) g (cellsTb (cs ++ [(e, .slice ao e.ents.length cap)]) ++ rest').toArray 37) := hide (by rw [cellsTb_app, List.append_assoc]; exact PB.out)
        have MN : Hid (∀ c ∈ cs ++ [(e, .slice ao e.ents.length cap)], MadeE (g + 1) (((w3.setCell ⟨g, k * 3, none⟩ (.string e.name)).setCell ⟨g, k * 3 + 1, none⟩ (.int .i64 e.parent)).setCell ⟨g, k * 3 + 2, none⟩ (.slice ao e.ents.length cap)) c) := hide (fun c hc => by
          have q : MadeE (g + 1) w3 c := by
            rcases List.mem_append.1 hc with q | q
            · exact Made.but (HM.out c q) hb3 hDg
            · simp at q; subst q; exact M3.out
          exact ((Made.set q (Nat.lt_succ_self g) _).set (Nat.lt_succ_self g) _).set (Nat.lt_succ_self g) _)
        generalize e.ents.length = ne at *
        clear hr3 hb3 hm3 B3 PB T3 CI HB HR HTx HU HF HM M3
        go_wp2
        exact ⟨⟨k + 1, cs ++ [(e, .slice ao ne cap)], _, rest', by omega, by go_num, hide ⟨by rw [List.length_append, HEL.out]; rfl, HRL.out, by rw [List.map_append]; exact HN.out⟩, PN, MN, RN, TN, UN⟩, by simp [intOf]; omega⟩
      · obtain rfl : k = V := by omega
        have hlt' : ¬ (k : Int) < (k : Int) := by omega
        have HE : Hid (cs.map Prod.fst = RR.1 ∧ sk = RR.2 ∧ rest = [] ∧ cs.length = k) := hide (by
          have q := HF.out
          rw [Nat.sub_self] at q
          exact ⟨by have := q.2.2.1; simpa [rdMany] using this, q.2.2.2, List.length_eq_zero_iff.1 (by simpa using q.2.1), q.1⟩)
        clear HF hlt
        go_wp2
        go_ret
        refine ⟨_, rfl, cs, HE.out.1, ⟨.inr ⟨g, by rw [HE.out.2.2.2]; rfl, hgw, ?_⟩, fun c hc => Made.base (HM.out c hc) (by omega)⟩, by rw [← HE.out.2.1]; exact HR.out, HU.out⟩
        have q := HB.out
        rw [HE.out.2.2.1, List.append_nil] at q
        exact q

theorem results_bun1 {fn : Func} {a : Tmp} (h : fn.results = #[.cell a 24]) (tmps : Array Value) (H : Nat) (x0 : Value) (w : World) (ht : tmps.getD a undef = .pointer (some ⟨H, 0, none⟩)) (hp : Blk w H #[x0] 24) :
    (results fn tmps).run Tryz.prog w = .ok (.agg #[x0]) w := by
  have c0 := hp.cell 0
  simp at c0
  rw [Array.getD_eq_getD_getElem?] at ht
  simp [results, h, ht, go_sem, c0]

def rdP (s : ByteArray) : List ByteArray × St := rdRow s 2 4096 (rdX s) (0, 0)
def rdB (s : ByteArray) : List Tab × St := rdRow s 1 16 (rdT (rdP s).1 s) (rdP s).2

set_option maxRecDepth 100000 in
set_option maxHeartbeats 4000000 in
theorem rbundle (h : Rd w R D (.slice none 0 0) s (0, 0)) (hT : U8 w) (hD : OffT D) : Calls Tryz.prog 38 #[.pointer (some ⟨R, 0, none⟩)] w fun x w' => ∃ v, x = .returned (.agg #[v]) ∧ (∃ cs, cs.map Prod.fst = (rdB s).1 ∧ MadeT w.heap.size w' v cs) ∧ Below (min R D) w w' := by
  have hmf : ∀ (fn : Fn) (first cap : Array Value) (w : World), (Instr.makeFunc fn first cap).run Tryz.prog w = .ok (.func fn first cap) w := fun _ _ _ _ => rfl
  obtain ⟨WA, hWA⟩ : ∃ WA, WA = w.alloc (.cells #[.slice none 0 0] 24) := ⟨_, rfl⟩
  have BA : Hid (Below w.heap.size w WA) := hide (by rw [hWA]; exact (Below.refl _ _).alloc (Nat.le_refl _) _)
  have QH : Hid (Blk WA w.heap.size #[.slice none 0 0] 24) := hide (by rw [hWA]; exact Blk.newAt w w.heap.size rfl _ _)
  have HWA := hide hWA.symm
  have RA := hide (h.below BA.out)
  have hDw := Blk.lt h.cur
  have hRw := h.blk.lt
  have hHD : w.heap.size ≠ D := Nat.ne_of_gt hDw
  have hHR : w.heap.size ≠ R := Nat.ne_of_gt hRw
  have hRD := h.ne
  have hRl := rdRow_len s 2 4096 (rdX s) (0, 0)
  have hP : rdRow s 2 4096 (rdX s) (0, 0) = rdP s := rfl
  have C1 := hide (rowX RA.out (hT.below BA.out) hD)
  rw [hP] at C1 hRl
  have RE : Hid (rdB s = rdRow s 1 16 (rdT (rdP s).1 s) (rdP s).2) := hide rfl
  generalize rdB s = RB at *
  generalize rdP s = PP at *
  have c0 := RA.out.blk.cell 0
  have WAs : w.heap.size < WA.heap.size := QH.out.lt
  clear hWA h hT hD hP
  go_enter Tryz.func38, Tryz.ntmps38
  go_wp2_with (simp only [HWA.out])
  refine C1.out.mono ?_
  rintro x w1 ⟨v1, rfl, hm1, hr1, hb1⟩
  obtain ⟨ao, cap, rfl⟩ := hm1.slice
  have y1 := hr1.blk.cell 1
  have f1 := hr1.blk.free 1
  have y0 := hr1.blk.cell 0
  obtain ⟨W1, hW1⟩ : ∃ W1, W1 = w1.setCell ⟨R, 1, none⟩ (.slice ao PP.1.length cap) := ⟨_, rfl⟩
  have HW1 := hide hW1.symm
  have R1 : Hid (Rd W1 R D (.slice ao PP.1.length cap) s PP.2) := hide (by
    rw [hW1]
    refine ⟨?_, Blk.other hr1.cur (a := ⟨R, 1, none⟩) hRD _, hRD, hr1.le, hr1.small⟩
    have q := hr1.blk
    unfold Blk at *
    simp only [World.setCell, Array.getElem?_modify, if_true, q, Option.map_some]
    rfl)
  have T1 : Hid (TxAt W1 D (.slice ao PP.1.length cap) PP.1) := hide (by
    rw [hW1]
    rcases hm1 with ⟨h0, h1⟩ | ⟨g, h1, h2, h3⟩
    · exact .inl ⟨List.length_eq_zero_iff.1 h0, ao, cap, by rw [h0]⟩
    · exact .inr ⟨g, h1, by omega, h3.other (a := ⟨R, 1, none⟩) (by show R ≠ g; omega) _⟩)
  have U1 : Hid (Below (min R D) w W1) := hide (by
    rw [hW1]
    exact (((But.of_below BA.out).trans hb1).to_below (B := min R D) (by omega) (by omega)).setCell (p := ⟨R, 1, none⟩) (by show min R D ≤ R; omega) _)
  have Q1 : Hid (Blk W1 w.heap.size #[.slice none 0 0] 24) := hide (by rw [hW1]; exact (hb1.blk QH.out hHD).other (a := ⟨R, 1, none⟩) hHR.symm _)
  have z0 := R1.out.blk.cell 0
  have C2 := hide (rowT R1.out T1.out hRl)
  rw [← RE.out] at C2
  have hs1 : w.heap.size < W1.heap.size := Q1.out.lt
  clear hm1 hr1 hb1 hW1 C1 c0 RE
  go_wp2_with (simp only [HW1.out])
  refine C2.out.mono ?_
  rintro x w2 ⟨v2, rfl, cs, hcs, hm2, _, hb2⟩
  have Q2 := hide (hb2.blk Q1.out hHD)
  have M2 := hide hm2
  have HCS := hide hcs
  obtain ⟨ao2, cap2, rfl⟩ := hm2.1.slice
  have h0 := Q2.out.cell 0
  have g0 := Q2.out.free 0
  have U2 := hide ((U1.out.trans (hb2.to_below (B := min R D) (by omega) (by omega))).setCell (p := ⟨w.heap.size, 0, none⟩) (by show min R D ≤ w.heap.size; omega) (.slice ao2 cs.length cap2))
  have QN := hide (Q2.out.one (.slice ao2 cs.length cap2))
  have MN : Hid (MadeT w.heap.size (w2.setCell ⟨w.heap.size, 0, none⟩ (.slice ao2 cs.length cap2)) (.slice ao2 cs.length cap2) cs) := hide ⟨(Made.set M2.out.1 hs1 _).base (Nat.le_of_lt hs1), fun c hc => Made.base (Made.set (M2.out.2 c hc) hs1 _) (Nat.le_of_lt hs1)⟩
  clear hm2 hb2 hcs C2 z0 Q1 R1 T1 U1
  go_wp2
  refine bodyPost_ret (results_bun1 rfl _ _ _ _ rfl QN.out) rfl ?_
  exact ⟨_, rfl, ⟨cs, HCS.out, MN.out⟩, U2.out⟩

end

end Go.Proofs.YtobmdifledegbaaGreatDoor

namespace Go.Proofs.YtobmdifledegbaaGreatDoor
open Go.RowKit

theorem cellsEn_get (es : List Ent) : ∀ i, i < es.length → (cellsEn es)[i * 4]? = some (.string (entN es i).key) ∧ (cellsEn es)[i * 4 + 1]? = some (.int .i64 (entN es i).kind) ∧ (cellsEn es)[i * 4 + 2]? = some (.string (entN es i).text) ∧ (cellsEn es)[i * 4 + 3]? = some (.int .i64 (entN es i).num) := by
  induction es with
  | nil => intro i h; simp at h
  | cons d t ih =>
    intro i h
    have e : cellsEn (d :: t) = [.string d.key, .int .i64 d.kind, .string d.text, .int .i64 d.num] ++ cellsEn t := rfl
    rw [e]
    rcases i with _ | i
    · exact ⟨rfl, rfl, rfl, rfl⟩
    · obtain ⟨h0, h1, h2, h3⟩ := ih i (by simpa using h)
      have q : entN (d :: t) (i + 1) = entN t i := rfl
      rw [q]
      refine ⟨?_, ?_, ?_, ?_⟩
      · rw [List.getElem?_append_right (by simp; omega), ← h0]; congr 1; simp; omega
      · rw [List.getElem?_append_right (by simp; omega), ← h1]; congr 1; simp; omega
      · rw [List.getElem?_append_right (by simp; omega), ← h2]; congr 1; simp; omega
      · rw [List.getElem?_append_right (by simp; omega), ← h3]; congr 1; simp; omega

theorem ESl.of_made {B : Nat} {w : World} {c : Tab × Value} (h : MadeE B w c) : ESl w c.2 c.1.ents := by
  rcases h with ⟨h0, h1⟩ | ⟨g, h1, _, h3⟩
  · refine ⟨none, 0, by rw [h1, h0], by omega, .inl (List.length_eq_zero_iff.1 h0)⟩
  · refine ⟨_, _, h1, Nat.le_refl _, .inr ⟨g, 0, rfl, h3.lt, fun i hi => ?_⟩⟩
    obtain ⟨q0, q1, q2, q3⟩ := cellsEn_get c.1.ents i hi
    have hc : ∀ j, w.cell? ⟨g, j, none⟩ = (cellsEn c.1.ents)[j]? := fun j => by rw [h3.cell j]; simp
    refine ⟨?_, ?_, ?_, ?_⟩
    · rw [hc, Nat.zero_add]; exact q0
    · rw [hc, Nat.zero_add]; exact q1
    · rw [hc, Nat.zero_add]; exact q2
    · rw [hc, Nat.zero_add]; exact q3

theorem TSl.of_made {B : Nat} {w : World} {v : Value} {cs : List (Tab × Value)} (h : MadeT B w v cs) : TSl w v (cs.map Prod.fst) := by
  obtain ⟨h, hE⟩ := h
  rcases h with ⟨h0, h1⟩ | ⟨g, h1, _, h3⟩
  · obtain rfl := List.length_eq_zero_iff.1 h0
    exact ⟨none, 0, h1, Nat.le_refl _, .inl rfl⟩
  · refine ⟨some ⟨g, 0, none⟩, cs.length, by rw [List.length_map]; exact h1, by rw [List.length_map]; exact Nat.le_refl _, .inr ⟨g, 0, rfl, h3.lt, fun i hi => ?_⟩⟩
    rw [List.length_map] at hi
    have hci : cs[i]? = some cs[i] := List.getElem?_eq_getElem hi
    have e : tabN (cs.map Prod.fst) i = cs[i].1 := tabN_get (by rw [List.getElem?_map, hci]; rfl)
    obtain ⟨g0, g1, g2⟩ := cellsTb_get cs i _ hci
    have hc : ∀ j, w.cell? ⟨g, j, none⟩ = (cellsTb cs)[j]? := fun j => by rw [h3.cell j]; simp
    rw [e]
    exact ⟨by rw [hc, Nat.zero_add]; exact g0, by rw [hc, Nat.zero_add]; exact g1, cs[i].2, by rw [hc, Nat.zero_add]; exact g2, ESl.of_made (hE _ (List.getElem_mem hi))⟩

theorem MadeT.below {B : Nat} {w w' : World} {v : Value} {cs : List (Tab × Value)} (h : MadeT B w v cs) (hb : Below w.heap.size w w') : MadeT B w' v cs := by
  have q : ∀ {T n v cs}, Made T B w v n cs → Made T B w' v n cs := fun h => by
    rcases h with h | ⟨g, h1, h2, h3⟩
    · exact .inl h
    · exact .inr ⟨g, h1, h2, h3.below hb h3.lt⟩
  exact ⟨q h.1, fun c hc => q (h.2 c hc)⟩

theorem many_all {α : Type} (P : α → Prop) (item : St → α × St) (h : ∀ st, P (item st).1) : ∀ n st, ∀ x ∈ (rdMany item n st).1, P x
  | 0, st, x, hx => by simp [rdMany] at hx
  | n + 1, st, x, hx => by
    have hx' : x ∈ (item st).1 :: (rdMany item n (item st).2).1 := hx
    rcases List.mem_cons.1 hx' with q | q
    · rw [q]; exact h st
    · exact many_all P item h n _ x q
theorem row_all {α : Type} (P : α → Prop) (s : ByteArray) (k most : Nat) (item : St → α × St) (h : ∀ st, P (item st).1) (st : St) : ∀ x ∈ (rdRow s k most item st).1, P x := by
  unfold rdRow
  split
  · intro x hx; simp at hx
  · exact many_all P item h _ _

theorem xV_le (s : ByteArray) (st : St) : (xV s st).size ≤ s.size := by
  unfold xV tgtV
  split
  · unfold txtS
    rw [ByteArray.size_extract]
    omega
  · exact Nat.zero_le _
theorem txN_le {s : ByteArray} {ps : List ByteArray} (h : ∀ p ∈ ps, p.size ≤ s.size) (k : Nat) : (txN ps k).size ≤ s.size := by
  unfold txN
  cases e : ps[k]? with
  | none => exact Nat.zero_le _
  | some p => exact h p (List.mem_of_getElem? e)

theorem rdB_size (s : ByteArray) (hs : s.size ≤ 140737488355328) : SzT (rdB s).1 ∧ (rdB s).1.length ≤ 16 := by
  have hP : ∀ p ∈ (rdP s).1, p.size ≤ s.size := row_all (fun p : ByteArray => p.size ≤ s.size) s 2 4096 (rdX s) (fun st => xV_le s st) (0, 0)
  have hE : ∀ st, (rdE (rdP s).1 s st).1.key.size ≤ s.size ∧ (rdE (rdP s).1 s st).1.text.size ≤ s.size := by
    intro st
    unfold rdE
    simp only
    split
    · exact ⟨txN_le hP _, Nat.zero_le _⟩
    · exact ⟨txN_le hP _, txN_le hP _⟩
  have hT : ∀ t ∈ (rdB s).1, t.name.size ≤ s.size ∧ t.ents.length ≤ 1024 ∧ ∀ e ∈ t.ents, e.key.size ≤ s.size ∧ e.text.size ≤ s.size := by
    refine row_all (fun t : Tab => t.name.size ≤ s.size ∧ t.ents.length ≤ 1024 ∧ ∀ e ∈ t.ents, e.key.size ≤ s.size ∧ e.text.size ≤ s.size) s 1 16 (rdT (rdP s).1 s) (fun st => ⟨txN_le hP _, rdRow_len _ _ _ _ _, ?_⟩) (rdP s).2
    exact row_all (fun e : Ent => e.key.size ≤ s.size ∧ e.text.size ≤ s.size) s 2 1024 (rdE (rdP s).1 s) hE _
  refine ⟨fun i => ?_, rdRow_len _ _ _ _ _⟩
  unfold tabN
  cases e : (rdB s).1[i]? with
  | none => exact ⟨Nat.zero_le _, Nat.zero_le _, fun j => ⟨Nat.zero_le _, Nat.zero_le _⟩⟩
  | some t =>
    obtain ⟨h1, h2, h3⟩ := hT t (List.mem_of_getElem? e)
    refine ⟨Nat.le_trans h1 hs, Nat.le_trans h2 (by decide), fun j => ?_⟩
    show (entN t.ents j).key.size ≤ _ ∧ (entN t.ents j).text.size ≤ _
    unfold entN
    cases e2 : t.ents[j]? with
    | none => exact ⟨Nat.zero_le _, Nat.zero_le _⟩
    | some x =>
      obtain ⟨h4, h5⟩ := h3 x (List.mem_of_getElem? e2)
      exact ⟨Nat.le_trans h4 hs, Nat.le_trans h5 hs⟩

def decOk (s : ByteArray) : Bool := decide (checkT (rdB s).1 = 0 ∧ encT (rdB s).1 = bys s)

def DecA (s : ByteArray) (w : World) (x : Ending) (w' : World) : Prop :=
  (decOk s = true → ∃ v cs, x = .returned (.tuple #[.agg #[v], .int .i64 0]) ∧ cs.map Prod.fst = (rdB s).1 ∧ MadeT w.heap.size w' v cs) ∧ (decOk s = false → x = .returned (.tuple #[.agg #[.slice none 0 0], .int .i64 120])) ∧ Below w.heap.size w w'
theorem DecA.ok {s : ByteArray} {w w' : World} {x : Ending} (h : decOk s = true) (v : Value) (cs : List (Tab × Value)) (h1 : x = .returned (.tuple #[.agg #[v], .int .i64 0])) (h2 : cs.map Prod.fst = (rdB s).1) (h3 : MadeT w.heap.size w' v cs) (h4 : Below w.heap.size w w') : DecA s w x w' := ⟨fun _ => ⟨v, cs, h1, h2, h3⟩, fun q => by (rw [h] at q; cases q), h4⟩
theorem DecA.no {s : ByteArray} {w w' : World} {x : Ending} (h : decOk s = false) (h1 : x = .returned (.tuple #[.agg #[.slice none 0 0], .int .i64 120])) (h4 : Below w.heap.size w w') : DecA s w x w' := ⟨fun q => by (rw [h] at q; cases q), fun _ => h1, h4⟩

theorem results_bun2 {fn : Func} {a c : Tmp} (h : fn.results = #[.cell a 24, .tmp c]) (tmps : Array Value) (H : Nat) (x0 : Value) (w : World) (ht : tmps.getD a undef = .pointer (some ⟨H, 0, none⟩)) (hp : Blk w H #[x0] 24) :
    (results fn tmps).run Tryz.prog w = .ok (.tuple #[.agg #[x0], tmps.getD c undef]) w := by
  have c0 := hp.cell 0
  simp at c0
  rw [Array.getD_eq_getD_getElem?] at ht
  simp [results, h, ht, go_sem, c0]

set_option maxRecDepth 100000 in
set_option maxHeartbeats 4000000 in
theorem Decode_any (s : ByteArray) (w : World) (hs : s.size ≤ 140737488355328) (hT : U8 w) : Calls Tryz.prog 13 #[.string s] w fun x w' => DecA s w x w' := by
  obtain ⟨WA, hWA⟩ : ∃ WA, WA = w.alloc (.cells #[.slice none 0 0] 24) := ⟨_, rfl⟩
  have BA : Hid (Below w.heap.size w WA) := hide (by rw [hWA]; exact (Below.refl _ _).alloc (Nat.le_refl _) _)
  have QH : Hid (Blk WA w.heap.size #[.slice none 0 0] 24) := hide (by rw [hWA]; exact Blk.newAt w w.heap.size rfl _ _)
  have HWA := hide hWA.symm
  have TA := hide (hT.below BA.out)
  have C1 := hide (New_any s WA)
  have hWAs : WA.heap.size = w.heap.size + 1 := by rw [hWA]; simp
  obtain ⟨D, hD⟩ : ∃ D, D = WA.heap.size := ⟨_, rfl⟩
  rw [← hD] at C1
  have hDs : D = w.heap.size + 1 := by rw [hD, hWAs]
  obtain ⟨hsz, hln⟩ := rdB_size s hs
  have HSZ := hide hsz
  have HD := hide hD
  have HDs := hide hDs
  have HT0 := hide hT
  clear hWA hT hD hWAs hsz hDs
  go_enter Tryz.func13, Tryz.ntmps13
  go_wp2_with (simp only [HWA.out])
  refine C1.out.mono ?_
  rintro x w1 ⟨rfl, hc1, hb1⟩
  obtain ⟨WB, hWB⟩ : ∃ WB, WB = w1.alloc (.cells #[.pointer (some ⟨D, 0, none⟩), .slice none 0 0] 75) := ⟨_, rfl⟩
  have BB : Below w1.heap.size w1 WB := by rw [hWB]; exact (Below.refl _ _).alloc (Nat.le_refl _) _
  have QR : Blk WB w1.heap.size #[.pointer (some ⟨D, 0, none⟩), .slice none 0 0] 75 := by rw [hWB]; exact Blk.newAt w1 w1.heap.size rfl _ _
  have HWB := hide hWB.symm
  have hDl := Blk.lt hc1
  have R1 : Hid (Rd WB w1.heap.size D (.slice none 0 0) s (0, 0)) := hide ⟨QR, hc1.below BB, by omega, Nat.zero_le _, hs⟩
  have hb1' : Below WA.heap.size WA WB := by rw [← HD.out]; exact hb1.trans (BB.mono (Nat.le_of_lt hDl))
  have TB := hide (TA.out.below hb1')
  have OD := hide (TA.out.off (D := D) (by rw [HD.out]; exact Nat.le_refl _))
  have C2 := hide (rbundle R1.out TB.out OD.out)
  have U1 := hide (BA.out.trans (hb1'.mono BA.out.size))
  have Q1 := hide (QH.out.below hb1' QH.out.lt)
  have hmin : Hid (w.heap.size < min w1.heap.size D) := hide (by have := HDs.out; omega)
  have hwB : Hid (w.heap.size < WB.heap.size) := hide Q1.out.lt
  clear hc1 hb1 BB QR hb1' C1 hDl hWB
  go_wp2_with (simp only [HWB.out])
  refine C2.out.mono ?_
  rintro x w2 ⟨v2, rfl, ⟨cs, hcs, hm2⟩, hb2⟩
  generalize hR : w1.heap.size = R at *
  obtain ⟨ao, cap, rfl⟩ := hm2.1.slice
  obtain ⟨WC, hWC⟩ : ∃ WC, WC = w2.alloc (.cells #[.slice ao cs.length cap] 24) := ⟨_, rfl⟩
  have BC : Hid (Below w2.heap.size w2 WC) := hide (by rw [hWC]; exact (Below.refl _ _).alloc (Nat.le_refl _) _)
  have QC : Hid (Blk WC w2.heap.size #[.slice ao cs.length cap] 24) := hide (by rw [hWC]; exact Blk.newAt w2 w2.heap.size rfl _ _)
  have HWC := hide hWC.symm
  have M2 : Hid (MadeT WB.heap.size WC (.slice ao cs.length cap) cs) := hide (hm2.below BC.out)
  have U2 := hide (U1.out.trans ((hb2.mono (Nat.le_of_lt hmin.out)).trans (BC.out.mono (Nat.le_trans (Nat.le_of_lt hwB.out) hb2.size))))
  have Q2 := hide ((Q1.out.below hb2 hmin.out).below BC.out (Blk.lt (Q1.out.below hb2 hmin.out)))
  have TC := hide (HT0.out.below U2.out)
  have HCS := hide hcs
  have EN : Hid (Calls Tryz.prog 8 #[.agg #[.slice ao cs.length cap]] WC fun e w' => e = .returned (encA (rdB s).1) ∧ Below WC.heap.size WC w') := hide (Encode_any (by rw [← HCS.out]; exact TSl.of_made M2.out) (by omega) HSZ.out TC.out)
  have q0 := QC.out.cell 0
  have hCH : Hid (w2.heap.size ≠ w.heap.size) := hide (Nat.ne_of_gt (Blk.lt (Q1.out.below hb2 hmin.out)))
  have RE : Hid (encA (rdB s).1 = .tuple #[.string (if checkT (rdB s).1 = 0 then ⟨(encT (rdB s).1).toArray⟩ else ⟨#[]⟩), .int .i64 (checkT (rdB s).1 : Int)]) := hide rfl
  have DO : Hid (decOk s = decide (checkT (rdB s).1 = 0 ∧ encT (rdB s).1 = bys s)) := hide rfl
  obtain ⟨C, hC⟩ : ∃ C, C = checkT (rdB s).1 := ⟨_, rfl⟩
  rw [← hC] at RE DO
  rw [RE.out] at EN
  obtain ⟨X, hX⟩ : ∃ X : ByteArray, X = (if C = 0 then ⟨(encT (rdB s).1).toArray⟩ else ⟨#[]⟩) := ⟨_, rfl⟩
  rw [← hX] at EN
  have DX : Hid (decOk s = (decide (C = 0) && (X.toList == s.toList))) := hide (by
    rw [DO.out]
    by_cases h0 : C = 0
    · rw [hX, if_pos h0, eqT, decide_eq_true h0, Bool.true_and]
      refine decide_eq_decide.2 ⟨fun h => by (rw [h.2]; exact mkByB s), fun h => ⟨h0, congrArg bys h⟩⟩
    · rw [decide_eq_false h0, Bool.false_and]
      exact decide_eq_false (fun h => h0 h.1))
  clear hC hX RE DO hR hWC hm2 hb2 hcs C2
  go_wp2_with (simp only [HWC.out])
  refine EN.out.mono ?_
  rintro x w3 ⟨rfl, hb3⟩
  have U3 := hide (U2.out.trans (hb3.mono U2.out.size))
  have Q3 := hide (Q2.out.below hb3 Q2.out.lt)
  have M3 := hide (M2.out.below hb3)
  have p0 := (QC.out.below hb3 QC.out.lt).cell 0
  have h0 := Q3.out.cell 0
  have g0 := Q3.out.free 0
  have QN := hide (Q3.out.one (.slice none 0 0))
  have QY := hide (Q3.out.one (.slice ao cs.length cap))
  have UN := hide (U3.out.setCell (p := ⟨w.heap.size, 0, none⟩) (Nat.le_refl _) (.slice none 0 0))
  have UY := hide (U3.out.setCell (p := ⟨w.heap.size, 0, none⟩) (Nat.le_refl _) (.slice ao cs.length cap))
  have MY : Hid (MadeT (w.heap.size) (w3.setCell ⟨w.heap.size, 0, none⟩ (.slice ao cs.length cap)) (.slice ao cs.length cap) cs) := hide ⟨(Made.set M3.out.1 hwB.out _).base (Nat.le_of_lt hwB.out), fun c hc => Made.base (Made.set (M3.out.2 c hc) hwB.out _) (Nat.le_of_lt hwB.out)⟩
  clear hb3 EN q0
  by_cases hC0 : C = 0
  · subst hC0
    cases hx : (X.toList == s.toList) with
    | true =>
      have OK : Hid (decOk s = true) := hide (by rw [DX.out, hx]; rfl)
      clear DX
      go_wp2
      refine bodyPost_ret (results_bun2 rfl _ _ _ _ rfl QY.out) rfl ?_
      exact DecA.ok OK.out _ cs rfl HCS.out MY.out UY.out
    | false =>
      have OK : Hid (decOk s = false) := hide (by rw [DX.out, hx]; rfl)
      clear DX
      go_wp2
      refine bodyPost_ret (results_bun2 rfl _ _ _ _ rfl QN.out) rfl ?_
      exact DecA.no OK.out rfl UN.out
  · have OK : Hid (decOk s = false) := hide (by rw [DX.out, decide_eq_false hC0]; rfl)
    have hC' : ((C : Int) == 0) = false := beq_eq_false_iff_ne.2 (by omega)
    have hC2 : ((C : Int) != 0) = true := by rw [bne, hC']; rfl
    clear DX
    go_wp2
    refine bodyPost_ret (results_bun2 rfl _ _ _ _ rfl QN.out) rfl ?_
    exact DecA.no OK.out rfl UN.out

end Go.Proofs.YtobmdifledegbaaGreatDoor

namespace Go.Proofs.YtobmdifledegbaaGreatDoor
open Go.RowKit Go.Maps

theorem pool_eq {l : List ByteArray} {ps : List (List UInt8)} (h1 : ps.Pairwise (· < ·)) (h2 : ∀ x, x ∈ ps ↔ ∃ t ∈ l, bys t = x) : poolL l = ps := by
  have n1 : (poolL l).Pairwise (· < ·) := pool_rise l
  have n2 : ps.Nodup := h1.imp (fun {a b} h e => by rw [e] at h; exact List.lt_irrefl _ h)
  refine List.Perm.eq_of_pairwise (le := fun a b => a < b) (fun a b _ _ q1 q2 => absurd (List.lt_trans q1 q2) (List.lt_irrefl _)) n1 h1 ((List.perm_ext_iff_of_nodup (pool_nodup l) n2).2 fun x => ?_)
  rw [pool_mem, h2]

def xA : ByteArray := ⟨#[97]⟩
def xB : ByteArray := ⟨#[98]⟩
def xC : ByteArray := ⟨#[99]⟩
def xD : ByteArray := ⟨#[100]⟩
def xX : ByteArray := ⟨#[120]⟩
def xY : ByteArray := ⟨#[121]⟩
def xR : ByteArray := ⟨#[114]⟩
def xO : ByteArray := ⟨#[]⟩
def xEn : ByteArray := ⟨#[101, 110]⟩
def xRoot : ByteArray := ⟨#[114, 111, 111, 116]⟩
def xOne : ByteArray := ⟨#[0, 1, 0, 1, 114, 1, 0, 0, 255, 0, 0]⟩

def esR : List Ent := [⟨xA, 0, xX, 0⟩, ⟨xB, 2, xA, 0⟩, ⟨xC, 1, xO, 7⟩]
def esE : List Ent := [⟨xA, 0, xY, 0⟩]
def rootT : List Tab := [⟨xRoot, -1, esR⟩, ⟨xEn, 0, esE⟩]
def oneT : List Tab := [⟨xR, -1, []⟩]

set_option maxRecDepth 100000 in
theorem fx_check1 : checkT oneT = 0 := by kernel_rfl
theorem fx_pool1 : poolL (textsL oneT) = [[114]] := pool_eq (by simp) (fun x => by
  constructor
  · intro h; simp at h; subst h; exact ⟨xR, by simp [textsL, oneT, tabL], rfl⟩
  · rintro ⟨t, ht, rfl⟩
    have : t = xR := by simpa [textsL, oneT, tabL] using ht
    subst this
    exact List.mem_singleton.2 rfl)
theorem fx_enc : encT oneT = bys xOne := by unfold encT; rw [fx_pool1]; kernel_rfl
theorem fx_find1 : findT rootT xEn xB = (⟨xA, 0, xY, 0⟩, 0) := by kernel_rfl
theorem fx_find2 : findT rootT xEn xD = (Ent.zero, 125) := by kernel_rfl
theorem fx_ch : chE rootT xEn = 0 := by kernel_rfl
theorem fx_keys : (poolL (keysL xO (chL rootT xEn))).length = 3 := by rw [pool_len]; kernel_rfl
theorem fx_read : (rdB xOne).1 = oneT := by kernel_rfl
theorem fx_dec : decOk xOne = true := by unfold decOk; rw [fx_read]; exact decide_eq_true ⟨fx_check1, fx_enc⟩

end Go.Proofs.YtobmdifledegbaaGreatDoor

namespace Go.Proofs.YtobmdifledegbaaGreatDoor
open Go.RowKit

set_option maxRecDepth 100000 in
set_option maxHeartbeats 2000000 in
theorem root_any (w : World) : Calls Tryz.prog 36 #[] w fun e w' => ∃ v, e = .returned (.agg #[v]) ∧ TSl w' v rootT ∧ Below w.heap.size w w' := by
  go_enter Tryz.func36, Tryz.ntmps36
  go_wp2
  refine bodyPost_ret (results_bun1 rfl _ _ _ _ rfl ((((Blk.new _ _ _).alloc _).alloc _).alloc _)) rfl ?_
  refine ⟨_, rfl, ?_, ((((Below.refl _ _).alloc (Nat.le_refl _) _).alloc (by simp) _).alloc (by simp; omega) _).alloc (by simp; omega) _⟩
  refine TSl.of_made (B := 0) (cs := [(⟨xRoot, -1, esR⟩, .slice (some ⟨w.heap.size + 1, 0, none⟩) 3 3), (⟨xEn, 0, esE⟩, .slice (some ⟨w.heap.size + 1 + 1, 0, none⟩) 1 1)]) ⟨.inr ⟨w.heap.size + 1 + 1 + 1, rfl, Nat.zero_le _, Blk.newAt _ _ (by simp) _ _⟩, fun c hc => ?_⟩
  simp only [List.mem_cons, List.not_mem_nil, or_false] at hc
  rcases hc with rfl | rfl
  · exact .inr ⟨w.heap.size + 1, rfl, Nat.zero_le _, ((Blk.newAt _ _ (by simp) _ _).alloc _).alloc _⟩
  · exact .inr ⟨w.heap.size + 1 + 1, rfl, Nat.zero_le _, (Blk.newAt _ _ (by simp) _ _).alloc _⟩

theorem szT_root : SzT rootT ∧ SzT oneT := by
  constructor
  · intro i
    rcases i with _ | _ | i
    · refine ⟨by decide, by decide, fun j => ?_⟩
      rcases j with _ | _ | _ | j <;> first | exact ⟨by decide, by decide⟩ | exact ⟨Nat.zero_le _, Nat.zero_le _⟩
    · refine ⟨by decide, by decide, fun j => ?_⟩
      rcases j with _ | j <;> first | exact ⟨by decide, by decide⟩ | exact ⟨Nat.zero_le _, Nat.zero_le _⟩
    · exact ⟨Nat.zero_le _, Nat.zero_le _, fun j => ⟨Nat.zero_le _, Nat.zero_le _⟩⟩
  · intro i
    rcases i with _ | i
    · exact ⟨by decide, by decide, fun j => ⟨Nat.zero_le _, Nat.zero_le _⟩⟩
    · exact ⟨Nat.zero_le _, Nat.zero_le _, fun j => ⟨Nat.zero_le _, Nat.zero_le _⟩⟩

set_option maxRecDepth 100000 in
set_option maxHeartbeats 4000000 in
theorem fixed_any (w : World) (hT : U8 w) : Calls Tryz.prog 12 #[] w fun e w' => e = .returned (.bool true) ∧ Below w.heap.size w w' := by
  obtain ⟨WA, hWA⟩ : ∃ WA, WA = w.alloc (.cells #[.string xR, .int .i64 (-1), .slice none 0 0] 37) := ⟨_, rfl⟩
  have BA : Hid (Below w.heap.size w WA) := hide (by rw [hWA]; exact (Below.refl _ _).alloc (Nat.le_refl _) _)
  have TS : TSl WA (.slice (some ⟨w.heap.size, 0, none⟩) 1 1) oneT := TSl.of_made (B := 0) (cs := [(⟨xR, -1, []⟩, .slice none 0 0)]) ⟨.inr ⟨w.heap.size, rfl, Nat.zero_le _, by rw [hWA]; exact Blk.newAt _ _ rfl _ _⟩, fun c hc => by
    simp only [List.mem_cons, List.not_mem_nil, or_false] at hc
    subst hc
    exact .inl ⟨rfl, rfl⟩⟩
  have HWA : Hid (w.alloc (.cells #[.string ⟨#[114]⟩, .int .i64 (-1), .slice none 0 0] 37) = WA) := hide hWA.symm
  have C1 := hide (Encode_any TS (by decide) szT_root.2 (hT.below BA.out))
  have e1 : encA oneT = .tuple #[.string xOne, .int .i64 0] := by
    unfold encA
    rw [fx_check1, if_pos rfl, fx_enc]
    rfl
  rw [e1] at C1
  have HT := hide hT
  have RT := hide root_any
  have FB : Hid (∀ X v, TSl X v rootT → U8 X → Calls Tryz.prog 15 #[.agg #[v], .string ⟨#[101, 110]⟩, .string ⟨#[98]⟩] X fun e w' => e = .returned (.tuple #[.agg #[.string ⟨#[97]⟩, .int .i64 0, .string ⟨#[121]⟩, .int .i64 0], .int .i64 0]) ∧ Below X.heap.size X w') := hide (fun X v h1 h2 => (Find_any xEn xB h1 (by decide) szT_root.1 h2).mono (fun e w' q => ⟨by rw [q.1, fx_find1]; rfl, q.2⟩))
  have FD : Hid (∀ X v, TSl X v rootT → U8 X → Calls Tryz.prog 15 #[.agg #[v], .string ⟨#[101, 110]⟩, .string ⟨#[100]⟩] X fun e w' => e = .returned (.tuple #[.agg #[.string ⟨#[]⟩, .int .i64 0, .string ⟨#[]⟩, .int .i64 0], .int .i64 125]) ∧ Below X.heap.size X w') := hide (fun X v h1 h2 => (Find_any xEn xD h1 (by decide) szT_root.1 h2).mono (fun e w' q => ⟨by rw [q.1, fx_find2]; rfl, q.2⟩))
  have KY : Hid (∀ X v, TSl X v rootT → U8 X → Calls Tryz.prog 17 #[.agg #[v], .string ⟨#[101, 110]⟩, .string ⟨#[]⟩] X fun e w' => (∃ q cap, e = .returned (.tuple #[.slice (some ⟨q, 0, none⟩) 3 cap, .int .i64 0])) ∧ Below X.heap.size X w') := hide (fun X v h1 h2 => (Keys_any xEn xO h1 (by decide) szT_root.1 h2).mono (fun e w' q => ⟨by obtain ⟨a, b, c, _⟩ := q.1 fx_ch; rw [fx_keys] at c; exact ⟨a, b, c⟩, q.2.2⟩))
  have DC : Hid (∀ X, U8 X → Calls Tryz.prog 13 #[.string xOne] X fun e w' => (∃ ao cap, e = .returned (.tuple #[.agg #[.slice ao 1 cap], .int .i64 0])) ∧ Below X.heap.size X w') := hide (fun X h2 => (Decode_any xOne X (by decide) h2).mono (fun e w' q => ⟨by
    obtain ⟨v, cs, h3, h4, h5⟩ := q.1 fx_dec
    rw [fx_read] at h4
    obtain ⟨ao, cap, rfl⟩ := h5.1.slice
    have hl : cs.length = 1 := by rw [← List.length_map (f := Prod.fst), h4]; rfl
    rw [hl] at h3
    exact ⟨ao, cap, h3⟩, q.2.2⟩))
  clear hWA TS e1 hT
  have hxo : (xOne.toList == [0, 1, 0, 1, 114, 1, 0, 0, 255, 0, 0]) = true := by kernel_rfl
  go_enter Tryz.func12, Tryz.ntmps12
  go_wp2_with (simp only [HWA.out])
  refine C1.out.mono ?_
  rintro x w1 ⟨rfl, hb1⟩
  have B1 := hide (BA.out.trans (hb1.mono BA.out.size))
  clear hb1 C1 BA HWA
  go_wp2_with fail
  refine (RT.out w1).mono ?_
  rintro x w2 ⟨v2, rfl, ht2, hb2⟩
  have B2 := hide (B1.out.trans (hb2.mono B1.out.size))
  have C2 := hide (FB.out w2 v2 ht2 (HT.out.below B2.out))
  clear ht2 hb2 FB B1
  go_wp2_with fail
  refine C2.out.mono ?_
  rintro x w3 ⟨rfl, hb3⟩
  have B3 := hide (B2.out.trans (hb3.mono B2.out.size))
  have B3' := hide (B3.out.alloc B3.out.size (.cells #[.string ⟨#[97]⟩, .int .i64 0, .string ⟨#[121]⟩, .int .i64 0] 39))
  have QX := hide (Blk.newAt w3 w3.heap.size rfl #[.string ⟨#[97]⟩, .int .i64 0, .string ⟨#[121]⟩, .int .i64 0] 39)
  have C3 := hide (RT.out (w3.alloc (.cells #[.string ⟨#[97]⟩, .int .i64 0, .string ⟨#[121]⟩, .int .i64 0] 39)))
  clear hb3 C2 B2 B3
  go_wp2_with fail
  refine C3.out.mono ?_
  rintro x w4 ⟨v4, rfl, ht4, hb4⟩
  have B4 := hide (B3'.out.trans (hb4.mono B3'.out.size))
  have Q4 := hide (QX.out.below hb4 QX.out.lt)
  have C4 := hide (FD.out w4 v4 ht4 (HT.out.below B4.out))
  clear ht4 hb4 FD C3 B3' QX
  go_wp2_with fail
  refine C4.out.mono ?_
  rintro x w5 ⟨rfl, hb5⟩
  have B5 := hide (B4.out.trans (hb5.mono B4.out.size))
  have Q5 := hide ((Q4.out.below hb5 Q4.out.lt).alloc (.cells #[.string ⟨#[]⟩, .int .i64 0, .string ⟨#[]⟩, .int .i64 0] 39))
  have B5' := hide (B5.out.alloc B5.out.size (.cells #[.string ⟨#[]⟩, .int .i64 0, .string ⟨#[]⟩, .int .i64 0] 39))
  have C5 := hide (RT.out (w5.alloc (.cells #[.string ⟨#[]⟩, .int .i64 0, .string ⟨#[]⟩, .int .i64 0] 39)))
  clear hb5 C4 Q4 B4 B5 RT
  go_wp2_with fail
  refine C5.out.mono ?_
  rintro x w6 ⟨v6, rfl, ht6, hb6⟩
  have B6 := hide (B5'.out.trans (hb6.mono B5'.out.size))
  have Q6 := hide (Q5.out.below hb6 Q5.out.lt)
  have C6 := hide (KY.out w6 v6 ht6 (HT.out.below B6.out))
  clear ht6 hb6 KY C5 B5' Q5
  go_wp2_with fail
  refine C6.out.mono ?_
  rintro x w7 ⟨⟨q, cq, rfl⟩, hb7⟩
  have B7 := hide (B6.out.trans (hb7.mono B6.out.size))
  have Q7 := hide (Q6.out.below hb7 Q6.out.lt)
  have C7 := hide (DC.out w7 (HT.out.below B7.out))
  clear hb7 C6 Q6 B6 DC HT
  go_wp2_with fail
  refine C7.out.mono ?_
  rintro x w8 ⟨⟨ao, cap, rfl⟩, hb8⟩
  have B8 := hide ((B7.out.trans (hb8.mono B7.out.size)).alloc (B7.out.trans (hb8.mono B7.out.size)).size (.cells #[.slice ao 1 cap] 24))
  have Q8 := hide ((Q7.out.below hb8 Q7.out.lt).alloc (.cells #[.slice ao 1 cap] 24))
  have y0 := Q8.out.cell 0
  have y1 := Q8.out.cell 1
  have y2 := Q8.out.cell 2
  have y3 := Q8.out.cell 3
  clear hb8 C7 Q7 B7
  go_wp2
  go_ret
  exact ⟨rfl, B8.out⟩

end Go.Proofs.YtobmdifledegbaaGreatDoor

namespace Go.Proofs.YtobmdifledegbaaGreatDoor
open Go.RowKit

set_option maxRecDepth 100000 in
set_option maxHeartbeats 4000000 in
theorem sameTable_eq {w : World} {a1 a2 : Option Addr} {c1 c2 : Nat} (n : ByteArray) (p : Int) (es : List Ent) (h1 : ESl w (.slice a1 es.length c1) es) (h2 : ESl w (.slice a2 es.length c2) es) (hl : es.length ≤ 4398046511104) :
    Calls Tryz.prog 35 #[.agg #[.string n, .int .i64 p, .slice a1 es.length c1], .agg #[.string n, .int .i64 p, .slice a2 es.length c2]] w fun e w' => e = .returned (.bool true) ∧ Below w.heap.size w w' := by
  obtain ⟨_, _, e1, hc1, hA1⟩ := h1
  simp only [Value.slice.injEq] at e1
  obtain ⟨rfl, _, rfl⟩ := e1
  obtain ⟨_, _, e2, hc2, hA2⟩ := h2
  simp only [Value.slice.injEq] at e2
  obtain ⟨rfl, _, rfl⟩ := e2
  have HA1 := hide hA1
  have HA2 := hide hA2
  obtain ⟨L, hL⟩ : ∃ L, L = es.length := ⟨_, rfl⟩
  rw [← hL] at hc1 hc2 hl ⊢
  have HL := hide hL
  obtain ⟨WA, hWA⟩ : ∃ WA, WA = (w.alloc (.cells #[.string n, .int .i64 p, .slice a1 L c1] 37)).alloc (.cells #[.string n, .int .i64 p, .slice a2 L c2] 37) := ⟨_, rfl⟩
  have BA : Hid (Below w.heap.size w WA) := hide (by rw [hWA]; exact ((Below.refl _ _).alloc (Nat.le_refl _) _).alloc ((Below.refl _ _).alloc (Nat.le_refl _) _).size _)
  have Q1 : Hid (Blk WA w.heap.size #[.string n, .int .i64 p, .slice a1 L c1] 37) := hide (by rw [hWA]; exact (Blk.new _ _ _).alloc _)
  have Q2 : Hid (Blk WA (w.heap.size + 1) #[.string n, .int .i64 p, .slice a2 L c2] 37) := hide (by rw [hWA]; exact Blk.newAt _ _ (by simp) _ _)
  have HWA := hide hWA.symm
  have q10 := Q1.out.cell 0
  have q11 := Q1.out.cell 1
  have q12 := Q1.out.cell 2
  have q20 := Q2.out.cell 0
  have q21 := Q2.out.cell 1
  have q22 := Q2.out.cell 2
  clear hA1 hA2 hL hWA
  go_enter Tryz.func35, Tryz.ntmps35
  go_wp2_with (simp only [HWA.out])
  go_loopw [5] (fun p wr => ∃ k : Nat, k ≤ L ∧ p = .int .i64 (k : Int) ∧ Hid (Below WA.heap.size WA wr)) (fun p _ => L - (intOf p).toNat)
  case atStart => exact ⟨0, Nat.zero_le _, rfl, Below.refl _ _⟩
  case round =>
    obtain ⟨k, hk, rfl, HW⟩ := hrel
    have HWW := hide (BA.out.trans (HW.out.mono BA.out.size))
    have r12 := (Q1.out.below HW.out Q1.out.lt).cell 2
    have r22 := (Q2.out.below HW.out Q2.out.lt).cell 2
    by_cases hlt : k < L
    · have hlt' : (k : Int) < (L : Int) := by omega
      have hkt : k < es.length := by rw [← HL.out]; exact hlt
      obtain ⟨b1, o1, ha1, hb1, hcl1⟩ : ∃ b o, a1 = some ⟨b, o, none⟩ ∧ b < w.heap.size ∧ ∀ i, i < es.length → w.cell? ⟨b, o + i * 4, none⟩ = some (.string (entN es i).key) ∧ w.cell? ⟨b, o + i * 4 + 1, none⟩ = some (.int .i64 (entN es i).kind) ∧ w.cell? ⟨b, o + i * 4 + 2, none⟩ = some (.string (entN es i).text) ∧ w.cell? ⟨b, o + i * 4 + 3, none⟩ = some (.int .i64 (entN es i).num) := by
        rcases HA1.out with h | h
        · rw [h] at hkt; simp at hkt
        · exact h
      obtain ⟨b2, o2, ha2, hb2, hcl2⟩ : ∃ b o, a2 = some ⟨b, o, none⟩ ∧ b < w.heap.size ∧ ∀ i, i < es.length → w.cell? ⟨b, o + i * 4, none⟩ = some (.string (entN es i).key) ∧ w.cell? ⟨b, o + i * 4 + 1, none⟩ = some (.int .i64 (entN es i).kind) ∧ w.cell? ⟨b, o + i * 4 + 2, none⟩ = some (.string (entN es i).text) ∧ w.cell? ⟨b, o + i * 4 + 3, none⟩ = some (.int .i64 (entN es i).num) := by
        rcases HA2.out with h | h
        · rw [h] at hkt; simp at hkt
        · exact h
      subst ha1 ha2
      obtain ⟨x0, x1, x2, x3⟩ := hcl1 k hkt
      obtain ⟨y0, y1, y2, y3⟩ := hcl2 k hkt
      have bc1 : ∀ i, wr.cell? ⟨b1, i, none⟩ = w.cell? ⟨b1, i, none⟩ := fun i => HWW.out.cell hb1
      have bc2 : ∀ i, wr.cell? ⟨b2, i, none⟩ = w.cell? ⟨b2, i, none⟩ := fun i => HWW.out.cell hb2
      rw [← bc1] at x0 x1 x2 x3
      rw [← bc2] at y0 y1 y2 y3
      generalize entN es k = g at *
      have HD : Hid (Below WA.heap.size WA wr.drew) := HW.out.drew
      clear bc1 bc2 hcl1 hcl2 hkt HWW HW
      go_wp2_with fail
      go_region
      go_wp2
      exact ⟨⟨k + 1, by omega, by go_num, HD⟩, by simp [intOf]; omega⟩
    · obtain rfl : k = L := by omega
      have hlt' : ¬ (k : Int) < (k : Int) := by omega
      clear hlt
      go_wp2
      go_ret
      exact ⟨rfl, HWW.out⟩

set_option maxRecDepth 100000 in
set_option maxHeartbeats 4000000 in
theorem same_eq {w : World} {v1 v2 : Value} {ts : List Tab} (h1 : TSl w v1 ts) (h2 : TSl w v2 ts) (hl : ts.length ≤ 4398046511104) (hz : SzT ts) :
    Calls Tryz.prog 10 #[.agg #[v1], .agg #[v2]] w fun e w' => e = .returned (.bool true) ∧ Below w.heap.size w w' := by
  obtain ⟨a1, c1, rfl, hc1, hA1⟩ := h1
  obtain ⟨a2, c2, rfl, hc2, hA2⟩ := h2
  have HA1 := hide hA1
  have HA2 := hide hA2
  have HZ := hide hz
  obtain ⟨L, hL⟩ : ∃ L, L = ts.length := ⟨_, rfl⟩
  rw [← hL] at hc1 hc2 hl ⊢
  have HL := hide hL
  obtain ⟨WA, hWA⟩ : ∃ WA, WA = (w.alloc (.cells #[.slice a1 L c1] 24)).alloc (.cells #[.slice a2 L c2] 24) := ⟨_, rfl⟩
  have BA : Hid (Below w.heap.size w WA) := hide (by rw [hWA]; exact ((Below.refl _ _).alloc (Nat.le_refl _) _).alloc ((Below.refl _ _).alloc (Nat.le_refl _) _).size _)
  have Q1 : Hid (Blk WA w.heap.size #[.slice a1 L c1] 24) := hide (by rw [hWA]; exact (Blk.new _ _ _).alloc _)
  have Q2 : Hid (Blk WA (w.heap.size + 1) #[.slice a2 L c2] 24) := hide (by rw [hWA]; exact Blk.newAt _ _ (by simp) _ _)
  have HWA := hide hWA.symm
  have q10 := Q1.out.cell 0
  have q20 := Q2.out.cell 0
  clear hA1 hA2 hL hWA hz
  go_enter Tryz.func10, Tryz.ntmps10
  go_wp2_with (simp only [HWA.out])
  go_loopw [5] (fun p wr => ∃ k : Nat, k ≤ L ∧ p = .int .i64 (k : Int) ∧ Hid (Below WA.heap.size WA wr)) (fun p _ => L - (intOf p).toNat)
  case atStart => exact ⟨0, Nat.zero_le _, rfl, Below.refl _ _⟩
  case round =>
    obtain ⟨k, hk, rfl, HW⟩ := hrel
    have HWW := hide (BA.out.trans (HW.out.mono BA.out.size))
    have r1 := (Q1.out.below HW.out Q1.out.lt).cell 0
    have r2 := (Q2.out.below HW.out Q2.out.lt).cell 0
    by_cases hlt : k < L
    · have hlt' : (k : Int) < (L : Int) := by omega
      have hkt : k < ts.length := by rw [← HL.out]; exact hlt
      obtain ⟨b1, o1, ha1, hb1, hcl1⟩ : ∃ b o, a1 = some ⟨b, o, none⟩ ∧ b < w.heap.size ∧ ∀ i, i < ts.length → TabAt w b o i (tabN ts i) := by
        rcases HA1.out with h | h
        · rw [h] at hkt; simp at hkt
        · exact h
      obtain ⟨b2, o2, ha2, hb2, hcl2⟩ : ∃ b o, a2 = some ⟨b, o, none⟩ ∧ b < w.heap.size ∧ ∀ i, i < ts.length → TabAt w b o i (tabN ts i) := by
        rcases HA2.out with h | h
        · rw [h] at hkt; simp at hkt
        · exact h
      subst ha1 ha2
      obtain ⟨x0, x1, u1, x2, hE1⟩ := (hcl1 k hkt).below hb1 HWW.out
      obtain ⟨y0, y1, u2, y2, hE2⟩ := (hcl2 k hkt).below hb2 HWW.out
      obtain ⟨_, zl, _⟩ := HZ.out k
      obtain ⟨g, hg⟩ : ∃ g, g = tabN ts k := ⟨_, rfl⟩
      rw [← hg] at x0 x1 y0 y1 hE1 hE2 zl
      have hb1' : b1 < wr.heap.size := Nat.lt_of_lt_of_le hb1 HWW.out.size
      have hb2' : b2 < wr.heap.size := Nat.lt_of_lt_of_le hb2 HWW.out.size
      have hQ1' : w.heap.size < wr.heap.size := Nat.lt_of_lt_of_le Q1.out.lt HW.out.size
      have hQ2' : w.heap.size + 1 < wr.heap.size := Nat.lt_of_lt_of_le Q2.out.lt HW.out.size
      have hE1' := hE1
      have hE2' := hE2
      obtain ⟨a3, c3, rfl, _, _⟩ := hE1'
      obtain ⟨a4, c4, rfl, _, _⟩ := hE2'
      have b0 : Hid (Below wr.heap.size wr wr.drew) := (Below.refl _ _).drew
      have KP : Hid (∀ w', Below wr.heap.size wr w' → w'.cell? ⟨w.heap.size, 0, none⟩ = some (.slice (some ⟨b1, o1, none⟩) L c1) ∧ w'.cell? ⟨w.heap.size + 1, 0, none⟩ = some (.slice (some ⟨b2, o2, none⟩) L c2) ∧ w'.cell? ⟨b1, o1 + k * 3, none⟩ = some (.string g.name) ∧ w'.cell? ⟨b1, o1 + k * 3 + 1, none⟩ = some (.int .i64 g.parent) ∧ w'.cell? ⟨b1, o1 + k * 3 + 2, none⟩ = some (.slice a3 g.ents.length c3) ∧ w'.cell? ⟨b2, o2 + k * 3, none⟩ = some (.string g.name) ∧ w'.cell? ⟨b2, o2 + k * 3 + 1, none⟩ = some (.int .i64 g.parent) ∧ w'.cell? ⟨b2, o2 + k * 3 + 2, none⟩ = some (.slice a4 g.ents.length c4)) := hide (fun w' hb => ⟨(hb.cell hQ1').trans r1, (hb.cell hQ2').trans r2, (hb.cell hb1').trans x0, (hb.cell hb1').trans x1, (hb.cell hb1').trans x2, (hb.cell hb2').trans y0, (hb.cell hb2').trans y1, (hb.cell hb2').trans y2⟩)
      have C0 : Hid (∀ X, Hid (Below wr.heap.size wr X) → Calls Tryz.prog 35 #[.agg #[.string g.name, .int .i64 g.parent, .slice a3 g.ents.length c3], .agg #[.string g.name, .int .i64 g.parent, .slice a4 g.ents.length c4]] X fun x w' => x = .returned (.bool true) ∧ Hid (Below wr.heap.size wr w') ∧ w'.cell? ⟨w.heap.size, 0, none⟩ = some (.slice (some ⟨b1, o1, none⟩) L c1) ∧ w'.cell? ⟨w.heap.size + 1, 0, none⟩ = some (.slice (some ⟨b2, o2, none⟩) L c2) ∧ w'.cell? ⟨b1, o1 + k * 3, none⟩ = some (.string g.name) ∧ w'.cell? ⟨b1, o1 + k * 3 + 1, none⟩ = some (.int .i64 g.parent) ∧ w'.cell? ⟨b1, o1 + k * 3 + 2, none⟩ = some (.slice a3 g.ents.length c3) ∧ w'.cell? ⟨b2, o2 + k * 3, none⟩ = some (.string g.name) ∧ w'.cell? ⟨b2, o2 + k * 3 + 1, none⟩ = some (.int .i64 g.parent) ∧ w'.cell? ⟨b2, o2 + k * 3 + 2, none⟩ = some (.slice a4 g.ents.length c4)) := hide (fun X hX => (sameTable_eq g.name g.parent g.ents (hE1.below hX.out) (hE2.below hX.out) zl).mono (fun x w' q => ⟨q.1, hide (hX.out.trans (q.2.mono hX.out.size)), KP.out w' (hX.out.trans (q.2.mono hX.out.size))⟩))
      generalize g.ents.length = M at *
      clear hcl1 hcl2 hkt hE1 hE2 hg hb1 hb2 hb1' hb2' hQ1' hQ2' HWW KP
      go_wp2_with fail
      have mk0 : True := trivial
      go_region_held3 (fun w' => w'.cell? ⟨w.heap.size, 0, none⟩ = some (.slice (some ⟨b1, o1, none⟩) L c1) ∧ w'.cell? ⟨w.heap.size + 1, 0, none⟩ = some (.slice (some ⟨b2, o2, none⟩) L c2) ∧ w'.cell? ⟨b1, o1 + k * 3, none⟩ = some (.string g.name) ∧ w'.cell? ⟨b1, o1 + k * 3 + 1, none⟩ = some (.int .i64 g.parent) ∧ w'.cell? ⟨b1, o1 + k * 3 + 2, none⟩ = some (.slice a3 M c3) ∧ w'.cell? ⟨b2, o2 + k * 3, none⟩ = some (.string g.name) ∧ w'.cell? ⟨b2, o2 + k * 3 + 1, none⟩ = some (.int .i64 g.parent) ∧ w'.cell? ⟨b2, o2 + k * 3 + 2, none⟩ = some (.slice a4 M c4)) (go_keep) (first
        | (clear mk0; go_at_call 35; refine (C0.out _ b0).mono ?_; rintro x z1 ⟨rfl, P1, t0, t1, t2, t3, t4, t5, t6, t7⟩; have mk1 : True := trivial))
      have HN := hide (HW.out.trans (P1.out.mono HW.out.size))
      clear C0 b0 mk1 P1 t0 t1 t2 t3 t4 t5 t6 t7
      go_wp2
      exact ⟨⟨k + 1, by omega, by go_num, HN⟩, by simp [intOf]; omega⟩
    · obtain rfl : k = L := by omega
      have hlt' : ¬ (k : Int) < (k : Int) := by omega
      clear hlt
      go_wp2
      go_ret
      exact ⟨rfl, HWW.out⟩

end Go.Proofs.YtobmdifledegbaaGreatDoor

namespace Go.Proofs.YtobmdifledegbaaGreatDoor
open Go.RowKit

end Go.Proofs.YtobmdifledegbaaGreatDoor

namespace Go.Proofs.YtobmdifledegbaaGreatDoor
open Go.RowKit

theorem run_append_zero {P : Program} {w : World} (base : Nat) (t ty e : TypeId) (i : TypeInfo) (size : Nat) (ht : P.underlying t = some (.slice e)) (hi : P.info? e = some i)
    (v : Value) (n : Nat) (xs : List Value) (hown : w.ownsRow base e size v n xs) (c : Nat) :
    (Builtin.append_ #[t, t] ty #[v, .slice none 0 c]).run P w = .ok v w := by
  rcases hown.2 with ⟨rfl, rfl⟩ | ⟨g, cap, cur, rfl, _, _, hnc, _⟩
  · simp [Builtin.append_, run_underlying ht, sizeOf, typeInfo, hi, Builtin.lenOf, Builtin.firstCells]
  · simp [Builtin.append_, run_underlying ht, sizeOf, typeInfo, hi, Builtin.lenOf, Builtin.firstCells, hnc, storeCells]

theorem wpB_append {P : Program} (w : World) {ops : Array Oper} {rest : List Oper} {o : Oper} {a : Act} {Q : Exit → Act → World → Prop}
    (hg : o.guard = none) (s x : Operand) (t : TypeId) (hop : o.op = Op.call { callee := Callee.builtin Builtin.append, args := #[s, x], argTypes := #[t, t] })
    (base : Nat) (e : TypeId) (i : TypeInfo) (size : Nat) (h1 : P.underlying t = some (.slice e)) (h2 : P.info? e = some i) (h4 : i.size = size)
    (g k cap : Nat) (xs : List Value) (hs : a.eval s = .slice (some ⟨g, 0, none⟩) k cap) (hown : w.ownsRow base e size (.slice (some ⟨g, 0, none⟩) k cap) k xs) (ao : Option Addr) (m c : Nat) (news : List Value) (hx : a.eval x = .slice ao m c) (hn : news.length = m * size)
    (hnone : ao = none → m = 0) (hc : ∀ ad, ao = some ad → ∀ j u, news[j]? = some u → w.cell? (ad.add j) = some u) (h1c : ∀ u ∈ news, u.oneCell' = true) (b1 : k + m ≤ cap)
    (hK : ∀ w', w'.ownsRow base e size (.slice (some ⟨g, 0, none⟩) (k + m) cap) (k + m) (xs ++ news) → w.grownBy w' (some g) → wpList P ops Q rest (a.put o.dst (.slice (some ⟨g, 0, none⟩) (k + m) cap)) w') :
    wpList P ops Q (o :: rest) a w := by
  cases ao with
  | some ad => exact wpList_append_fits w hg s x t hop base e i size h1 h2 h4 g k cap xs hs hown ad m c news hx hn (hc ad rfl) h1c b1 hK
  | none =>
    obtain rfl := hnone rfl
    have hnews : news = [] := List.eq_nil_of_length_eq_zero (by simpa using hn)
    subst hnews
    refine wpList_plain hg fun K hK' => ?_
    have hrun := run_append_zero (P := P) (w := w) base t o.type e i size h1 h2 _ k xs hown c
    unfold Oper.wp
    simp [execOp, hop, resolve, invoke, builtin, hs, hx, hrun, Result.andThen]
    exact hK' _ _ (by simpa using hK w (by simpa using hown) (World.grownBy.refl _ _))

theorem step_append_fits {P : Program} {ops : Array Oper} {o : Oper} {a : Act} {w : World} {K : Act → World → Prop} {Q : Exit → Act → World → Prop} {E : Prop}
    (hg : o.guard = none) (s x : Operand) (t : TypeId) (hop : o.op = Op.call { callee := Callee.builtin Builtin.append, args := #[s, x], argTypes := #[t, t] })
    (base : Nat) (e : TypeId) (i : TypeInfo) (size : Nat) (h1 : P.underlying t = some (.slice e)) (h2 : P.info? e = some i) (h4 : i.size = size)
    (g k cap : Nat) (xs : List Value) (hs : a.eval s = .slice (some ⟨g, 0, none⟩) k cap) (hown : w.ownsRow base e size (.slice (some ⟨g, 0, none⟩) k cap) k xs) (ad : Addr) (m c : Nat) (news : List Value) (hx : a.eval x = .slice (some ad) m c) (hn : news.length = m * size)
    (hc : ∀ j u, news[j]? = some u → w.cell? (ad.add j) = some u) (h1c : ∀ u ∈ news, u.oneCell' = true) (b1 : k + m ≤ cap)
    (hK : ∀ w', w'.ownsRow base e size (.slice (some ⟨g, 0, none⟩) (k + m) cap) (k + m) (xs ++ news) → w.grownBy w' (some g) → K (a.put o.dst (.slice (some ⟨g, 0, none⟩) (k + m) cap)) w') :
    if Region.wanted o (yielded ops a.tmps) = true then Oper.wp P o a w K Q else E := by
  have hw : Region.wanted o (yielded ops a.tmps) = true := by simp [Region.wanted, hg]
  rw [if_pos hw]
  obtain ⟨w', hrun, r1, r2⟩ := run_append_fits (P := P) w base t o.type e i size h1 h2 h4 g k cap xs hown ad m c news hn hc h1c b1
  unfold Oper.wp
  simp [execOp, hop, resolve, invoke, builtin, hs, hx, hrun, Result.andThen]
  exact hK w' r1 r2

structure Kept (D G : Nat) (w w' : World) : Prop where
  os : w'.os = w.os
  tape : w'.tape = w.tape
  output : w'.output = w.output
  size : w.heap.size ≤ w'.heap.size
  block : ∀ b, b < w.heap.size → b ≠ D → b ≠ G → w'.heap[b]? = w.heap[b]?
theorem Kept.refl (D G : Nat) (w : World) : Kept D G w w := ⟨rfl, rfl, rfl, Nat.le_refl _, fun _ _ _ _ => rfl⟩
theorem Kept.trans {D G : Nat} {a b c : World} (h : Kept D G a b) (h' : Kept D G b c) : Kept D G a c :=
  ⟨h'.os.trans h.os, h'.tape.trans h.tape, h'.output.trans h.output, Nat.le_trans h.size h'.size, fun k h1 h2 h3 => (h'.block k (Nat.lt_of_lt_of_le h1 h.size) h2 h3).trans (h.block k h1 h2 h3)⟩
theorem Kept.of_below {D G : Nat} {w w' : World} (hb : Below w.heap.size w w') : Kept D G w w' := ⟨hb.os, hb.tape, hb.output, hb.size, fun b h _ _ => hb.block b h⟩
theorem Kept.below {D G : Nat} {w w' w'' : World} (h : Kept D G w w') (hb : Below w'.heap.size w' w'') : Kept D G w w'' := h.trans (.of_below hb)
theorem Kept.set {D G : Nat} {w w' : World} (h : Kept D G w w') (c i : Nat) (v : Value) (hc : c = D ∨ w.heap.size ≤ c ∨ c = G) : Kept D G w (w'.setCell ⟨c, i, none⟩ v) := by
  refine ⟨h.os, h.tape, h.output, by rw [show (w'.setCell ⟨c, i, none⟩ v).heap.size = w'.heap.size by simp [World.setCell]]; exact h.size, fun b h1 h2 h3 => ?_⟩
  have hne : c ≠ b := by
    rintro rfl
    rcases hc with q | q | q
    · exact h2 q
    · omega
    · exact h3 q
  rw [← h.block b h1 h2 h3]
  simp [World.setCell, Array.getElem?_modify, hne]
theorem Kept.alloc {D G : Nat} {w w' : World} (h : Kept D G w w') (o : Obj) : Kept D G w (w'.alloc o) := h.below ((Below.refl _ _).alloc (Nat.le_refl _) _)
theorem Kept.drew {D G : Nat} {w w' : World} (h : Kept D G w w') : Kept D G w w'.drew := h.below (Below.refl _ _).drew
theorem Kept.grown {D G : Nat} {r : Option Nat} {w w' w'' : World} (h : Kept D G w w') (hg : w'.grownBy w'' r) (hgg : ∀ g, r = some g → g = D ∨ w.heap.size ≤ g ∨ g = G) : Kept D G w w'' :=
  ⟨hg.os.trans h.os, hg.tape.trans h.tape, hg.output.trans h.output, Nat.le_trans h.size hg.size, fun b h1 h2 h3 => (hg.block b (Nat.lt_of_lt_of_le h1 h.size) (by
    intro e
    rcases hgg b e.symm with q | q | q
    · exact h2 q
    · omega
    · exact h3 q)).trans (h.block b h1 h2 h3)⟩
theorem Kept.blk {D G b : Nat} {w w' : World} {cs : Array Value} {T : TypeId} (h : Kept D G w w') (hb : Blk w b cs T) (h1 : b ≠ D) (h2 : b ≠ G) : Blk w' b cs T := by
  have := hb.lt
  unfold Blk at *
  rw [h.block b this h1 h2]
  exact hb
theorem Kept.out {D G B : Nat} {a w w' : World} (h : Kept D G w w') (hb : Below B a w) (hB : B ≤ w.heap.size) (h1 : B ≤ D) (h2 : B ≤ G) : Below B a w' :=
  hb.trans ⟨h.os, h.tape, h.output, h.size, fun k hk => h.block k (by omega) (by omega) (by omega)⟩
theorem Kept.own {D G B sz n : Nat} {w w' : World} {e : TypeId} {v : Value} {xs : List Value} (h : Kept D G w w') (ho : w.ownsRow B e sz v n xs) (h1 : v.ownBlock ≠ some D) (h2 : v.ownBlock ≠ some G) : w'.ownsRow B e sz v n xs := by
  refine ⟨ho.1, ?_⟩
  rcases ho.2 with q | ⟨g, cap, cur, rfl, hg, hh, r⟩
  · exact .inl q
  · have hgl := lt_of_block hh
    exact .inr ⟨g, cap, cur, rfl, hg, by rw [h.block g hgl (fun e => h1 (by rw [e]; rfl)) (fun e => h2 (by rw [e]; rfl))]; exact hh, r⟩

end Go.Proofs.YtobmdifledegbaaGreatDoor

namespace Go.Proofs.YtobmdifledegbaaGreatDoor
open Go.RowKit

def behB : ByteArray := ⟨#[98, 101, 104, 105, 110, 100]⟩
def MkdE (B : Nat) (w : World) (c : Tab × Value) : Prop := ∃ g cap, c.2 = .slice (some ⟨g, 0, none⟩) c.1.ents.length cap ∧ w.ownsRow B 39 4 (.slice (some ⟨g, 0, none⟩) (c.1.ents.length + 1) cap) (c.1.ents.length + 1) (cellsEn c.1.ents ++ [.string behB, .int .i64 0, .string ⟨#[]⟩, .int .i64 0])
def MkdT (B : Nat) (w : World) (v : Value) (cs : List (Tab × Value)) : Prop := ∃ g cap, v = .slice (some ⟨g, 0, none⟩) cs.length cap ∧ w.ownsRow B 37 3 (.slice (some ⟨g, 0, none⟩) (cs.length + 1) cap) (cs.length + 1) (cellsTb cs ++ [.string behB, .int .i64 0, .slice none 0 0]) ∧ ∀ c ∈ cs, MkdE B w c

theorem Blk.set0of1 {w : World} {b : Nat} {x0 : Value} {t : TypeId} (h : Blk w b #[x0] t) (v : Value) : Blk (w.setCell ⟨b, 0, none⟩ v) b #[v] t := by
  unfold Blk at *
  simp only [World.setCell, Array.getElem?_modify, if_true, h, Option.map_some]
  rfl
theorem Blk.set2of3b {w : World} {b : Nat} {x0 x1 x2 : Value} {t : TypeId} (h : Blk w b #[x0, x1, x2] t) (v : Value) : Blk (w.setCell ⟨b, 2, none⟩ v) b #[x0, x1, v] t := by
  unfold Blk at *
  simp only [World.setCell, Array.getElem?_modify, if_true, h, Option.map_some]
  rfl

theorem cell_four_new (w : World) (a b c d : Value) (t : TypeId) : ∀ j u, [a, b, c, d][j]? = some u → (w.alloc (.cells #[a, b, c, d] t)).cell? ((⟨w.heap.size, 0, none⟩ : Addr).add j) = some u := by
  intro j u hj
  have h : Blk (w.alloc (.cells #[a, b, c, d] t)) w.heap.size #[a, b, c, d] t := Blk.newAt w w.heap.size rfl _ _
  rw [Addr.add_lit, Nat.zero_add, h.cell j]
  match j, hj with
  | 0, hj => exact hj
  | 1, hj => exact hj
  | 2, hj => exact hj
  | 3, hj => exact hj

theorem own_pre {w : World} {B sz g n cap : Nat} {e : TypeId} {xs ys : List Value} (h : w.ownsRow B e sz (.slice (some ⟨g, 0, none⟩) (n + 1) cap) (n + 1) (xs ++ ys)) (hx : xs.length = n * sz) :
    w.ownsRow B e sz (.slice (some ⟨g, 0, none⟩) n cap) n xs ∧ n + 1 ≤ cap := by
  rcases h.2 with ⟨q, _⟩ | ⟨g', cap', cur, q, hg, hh, hn, hm, hs, ht⟩
  · cases q
  · simp only [Value.slice.injEq, Option.some.injEq, Addr.mk.injEq] at q
    obtain ⟨⟨rfl, _, _⟩, _, rfl⟩ := q
    refine ⟨⟨hx, .inr ⟨g, cap, cur, rfl, hg, hh, by omega, hm, hs, ?_⟩⟩, hn⟩
    have e1 : (cur.toList.take ((n + 1) * sz)).take (n * sz) = cur.toList.take (n * sz) := by
      rw [List.take_take, Nat.min_eq_left (Nat.mul_le_mul_right _ (Nat.le_succ n))]
    rw [← e1, ht, ← hx, List.take_left]

theorem ESl.of_row {w : World} {B g n cap : Nat} {es : List Ent} (hn : n = es.length) (h : w.ownsRow B 39 4 (.slice (some ⟨g, 0, none⟩) n cap) n (cellsEn es)) : ESl w (.slice (some ⟨g, 0, none⟩) n cap) es := by
  subst hn
  have hcl := World.ownsRow.cells h (g := g) rfl
  rcases h.2 with ⟨q, _⟩ | ⟨g', cap', cur, q, hg, hh, hn, _⟩
  · cases q
  · simp only [Value.slice.injEq, Option.some.injEq, Addr.mk.injEq] at q
    obtain ⟨⟨rfl, _, _⟩, _, rfl⟩ := q
    refine ⟨_, _, rfl, hn, .inr ⟨g, 0, rfl, lt_of_block hh, fun i hi => ?_⟩⟩
    obtain ⟨e0, e1, e2, e3⟩ := cellsEn_get es i hi
    have k0 := hcl _ _ e0
    have k1 := hcl _ _ e1
    have k2 := hcl _ _ e2
    have k3 := hcl _ _ e3
    rw [Addr.add_lit] at k0 k1 k2 k3
    exact ⟨k0, by rw [Nat.add_assoc]; exact k1, by rw [Nat.add_assoc]; exact k2, by rw [Nat.add_assoc]; exact k3⟩

theorem MkdE.esl {B : Nat} {w : World} {c : Tab × Value} (h : MkdE B w c) : ESl w c.2 c.1.ents := by
  obtain ⟨g, cap, h1, h2⟩ := h
  rw [h1]
  exact ESl.of_row rfl (own_pre h2 (cellsEn_len _)).1
theorem MkdT.tsl {B : Nat} {w : World} {v : Value} {cs : List (Tab × Value)} (h : MkdT B w v cs) : TSl w v (cs.map Prod.fst) := by
  obtain ⟨g, cap, h1, h2, h3⟩ := h
  rw [h1]
  exact TSl.of_own (own_pre h2 (cellsTb_len _)).1 (fun c hc => (h3 c hc).esl) (Below.refl _ _)

theorem own_belowB {w w' : World} {B sz n : Nat} {e : TypeId} {v : Value} {xs : List Value} (h : w.ownsRow B e sz v n xs) (hb : Below w.heap.size w w') : w'.ownsRow B e sz v n xs :=
  World.ownsRow.kept h (row := none) ⟨hb.os, hb.tape, hb.output, hb.size, fun k hk _ => hb.block k hk⟩ (by cases v.ownBlock <;> simp)
theorem MkdE.below {B : Nat} {w w' : World} {c : Tab × Value} (h : MkdE B w c) (hb : Below w.heap.size w w') : MkdE B w' c := by
  obtain ⟨g, cap, h1, h2⟩ := h
  exact ⟨g, cap, h1, own_belowB h2 hb⟩
theorem MkdT.below {B : Nat} {w w' : World} {v : Value} {cs : List (Tab × Value)} (h : MkdT B w v cs) (hb : Below w.heap.size w w') : MkdT B w' v cs := by
  obtain ⟨g, cap, h1, h2, h3⟩ := h
  exact ⟨g, cap, h1, own_belowB h2 hb, fun c hc => (h3 c hc).below hb⟩
theorem MkdE.kept {D G B : Nat} {w w' : World} {c : Tab × Value} (h : MkdE B w c) (hk : Kept D G w w') (h1 : D < B) (h2 : G < B) : MkdE B w' c := by
  obtain ⟨g, cap, e1, e2⟩ := h
  have hg := (World.ownsRow.lt e2 g rfl).1
  exact ⟨g, cap, e1, hk.own e2 (by simp [Value.ownBlock]; omega) (by simp [Value.ownBlock]; omega)⟩
theorem MkdE.base {B B' : Nat} {w : World} {c : Tab × Value} (h : MkdE B w c) (hB : B' ≤ B) : MkdE B' w c := by
  obtain ⟨g, cap, e1, e2, e3⟩ := h
  refine ⟨g, cap, e1, e2, ?_⟩
  rcases e3 with ⟨q, _⟩ | ⟨g', cap', cur, q, hg, r⟩
  · cases q
  · exact .inr ⟨g', cap', cur, q, by omega, r⟩
theorem own_baseB {w : World} {B B' sz n : Nat} {e : TypeId} {v : Value} {xs : List Value} (h : w.ownsRow B e sz v n xs) (hB : B' ≤ B) : w.ownsRow B' e sz v n xs := by
  refine ⟨h.1, ?_⟩
  rcases h.2 with q | ⟨g', cap', cur, q, hg, r⟩
  · exact .inl q
  · exact .inr ⟨g', cap', cur, q, by omega, r⟩

theorem EAt.cells {w : World} {b o : Nat} {es : List Ent} (h : ∀ i, i < es.length → w.cell? ⟨b, o + i * 4, none⟩ = some (.string (entN es i).key) ∧ w.cell? ⟨b, o + i * 4 + 1, none⟩ = some (.int .i64 (entN es i).kind) ∧ w.cell? ⟨b, o + i * 4 + 2, none⟩ = some (.string (entN es i).text) ∧ w.cell? ⟨b, o + i * 4 + 3, none⟩ = some (.int .i64 (entN es i).num)) :
    ∀ j u, (cellsEn es)[j]? = some u → w.cell? ((⟨b, o, none⟩ : Addr).add j) = some u := by
  intro j u hj
  have hlt : j < es.length * 4 := by rw [← cellsEn_len]; exact (List.getElem?_eq_some_iff.1 hj).1
  obtain ⟨i, r, rfl, hr⟩ : ∃ i r, j = i * 4 + r ∧ r < 4 := ⟨j / 4, j % 4, by omega, by omega⟩
  have hi : i < es.length := by omega
  obtain ⟨e0, e1, e2, e3⟩ := cellsEn_get es i hi
  obtain ⟨c0, c1, c2, c3⟩ := h i hi
  rw [Addr.add_lit]
  match r, hr with
  | 0, _ => rw [show i * 4 + 0 = i * 4 from rfl, e0] at hj; rw [← hj]; exact c0
  | 1, _ => rw [e1] at hj; rw [← hj, ← Nat.add_assoc]; exact c1
  | 2, _ => rw [e2] at hj; rw [← hj, ← Nat.add_assoc]; exact c2
  | 3, _ => rw [e3] at hj; rw [← hj, ← Nat.add_assoc]; exact c3
theorem cellsEn_one : ∀ (es : List Ent) (u : Value), u ∈ cellsEn es → u.oneCell' = true
  | [], u, h => by cases h
  | e :: es, u, h => by
    have q : cellsEn (e :: es) = .string e.key :: .int .i64 e.kind :: .string e.text :: .int .i64 e.num :: cellsEn es := rfl
    rw [q] at h
    simp only [List.mem_cons] at h
    rcases h with rfl | rfl | rfl | rfl | h
    · rfl
    · rfl
    · rfl
    · rfl
    · exact cellsEn_one es u h

end Go.Proofs.YtobmdifledegbaaGreatDoor
