/-
  What bundle's row reads as tables; what the reader reads as a bundle.
  What bundle's Decode answers.
  The document's examples of chapter 12, reckoned.
  The calls whose answers the document fixes.
  What quipuref12's SameTable and Same answer of two that read the same.
  quipuref12.SameTexts of two lists that read the same.
  Laws of append within the room of a list of the call's own: nil or not, and at a step of a region that draws its order.
  What quipuref12's Copy makes: lists of the call's own, a mark behind each.
  quipuref12.Copy: a bundle in memory of its own, a mark behind each list.
-/
import Derived.Test.YtobmdifledegbaaDoorAB5
import Derived.Laws.StructEq
import Derived.OwnWalk
import Derived.Deep.RegionLaw
import Derived.Laws.OwnMore
namespace Go.Proofs.YtobmdifledegbaaDoor
open Go.RowKit

theorem three_of {l : List Value} {n : Nat} (h : l.length = (n + 1) * 3) : ∃ r0 r1 r2 r, l = r0 :: r1 :: r2 :: r ∧ r.length = n * 3 := by
  match l, h with
  | r0 :: r1 :: r2 :: r, h => exact ⟨r0, r1, r2, r, rfl, by simp at h; omega⟩
  | [], h => simp at h
  | [_], h => simp at h; omega
  | [_, _], h => simp at h; omega

theorem blk_put3 {w : World} {g m : Nat} {a rest : List Value} {r0 r1 r2 : Value} {T : TypeId} (h : Blk w g (a ++ r0 :: r1 :: r2 :: rest).toArray T) (ha : a.length = m) (v0 v1 v2 : Value) :
    Blk (((w.setCell ⟨g, m, none⟩ v0).setCell ⟨g, m + 1, none⟩ v1).setCell ⟨g, m + 2, none⟩ v2) g (a ++ v0 :: v1 :: v2 :: rest).toArray T := by
  have h0 := blk_snoc (blk_set h ha v0)
  have h1 := blk_snoc (blk_set h0 (m := m + 1) (by simp [ha]) v1)
  have h2 := blk_set h1 (m := m + 2) (by simp [ha]) v2
  simpa using h2
theorem blk_three {w : World} {g m : Nat} {a rest : List Value} {r0 r1 r2 : Value} {T : TypeId} (h : Blk w g (a ++ r0 :: r1 :: r2 :: rest).toArray T) (ha : a.length = m) :
    w.cell? ⟨g, m, none⟩ = some r0 ∧ w.cell? ⟨g, m + 1, none⟩ = some r1 ∧ w.cell? ⟨g, m + 2, none⟩ = some r2 :=
  ⟨blk_at h ha, blk_at (blk_snoc h) (by simp [ha]), blk_at (blk_snoc (blk_snoc h)) (by simp [ha])⟩

def MadeE (B : Nat) (w : World) (c : Tab × Value) : Prop := Made 33 B w c.2 c.1.ents.length (cellsEn c.1.ents)
def MadeT (B : Nat) (w : World) (v : Value) (cs : List (Tab × Value)) : Prop := Made 27 B w v cs.length (cellsTb cs) ∧ ∀ c ∈ cs, MadeE B w c

section
variable {w : World} {R D : Nat} {tx : Value} {s : ByteArray} {st : St}

set_option maxRecDepth 100000 in
set_option maxHeartbeats 4000000 in
theorem rowT {ps : List ByteArray} (h : Rd w R D tx s st) (ht : TxAt w D tx ps) (hp : ps.length ≤ 4096) :
    Calls Tryd.prog 48 #[.func (.func 49) #[.pointer (some ⟨D, 0, none⟩)] #[], .int .i64 16, .func (.func 50) #[.pointer (some ⟨R, 0, none⟩)] #[]] w fun x w' => ∃ v, x = .returned v ∧ ∃ cs, cs.map Prod.fst = (rdRow s 1 16 (rdT ps s) st).1 ∧ MadeT w.heap.size w' v cs ∧ Rd w' R D tx s (rdRow s 1 16 (rdT ps s) st).2 ∧ But D w w' := by
  obtain ⟨i0, hi, hz0, hz1, hz2⟩ := info_parts infoT
  have HC := hide (rget1 h)
  have RE : Hid (rdRow s 1 16 (rdT ps s) st = if 16 < gV s st 1 then ([], gS s st 1) else rdMany (rdT ps s) (gV s st 1) (gS s st 1)) := hide rfl
  generalize rdRow s 1 16 (rdT ps s) st = RR at *
  have HT := hide ht
  have hDw := Blk.lt h.cur
  have hRw := h.blk.lt
  generalize gV s st 1 = V at *
  generalize gS s st 1 = st1 at *
  clear h ht
  by_cases hv : 16 < V
  · rw [if_pos hv] at RE
    have hv' : (16 : Int) < (V : Int) := by omega
    go_enter Tryd.func48, Tryd.ntmps48
    go_wp2_with fail
    refine HC.out.mono ?_
    rintro x w1 ⟨rfl, h1, h2⟩
    have H1 := hide h1
    have H2 := hide h2
    clear h1 h2 HC
    go_wp2
    go_ret
    exact ⟨_, rfl, [], by rw [RE.out]; rfl, ⟨.inl ⟨rfl, rfl⟩, fun c hc => by simp at hc⟩, by rw [RE.out]; exact H1.out, H2.out⟩
  · rw [if_neg hv] at RE
    have hv' : ¬ (16 : Int) < (V : Int) := by omega
    have IT : Hid (∀ X sx, Rd X R D tx s sx → TxAt X D tx ps → Calls Tryd.prog 50 #[.pointer (some ⟨R, 0, none⟩)] X fun x w' => ∃ v, x = .returned (.agg #[.string (rdT ps s sx).1.name, .int .i64 (rdT ps s sx).1.parent, v]) ∧ Made 33 X.heap.size w' v (rdT ps s sx).1.ents.length (cellsEn (rdT ps s sx).1.ents) ∧ Rd w' R D tx s (rdT ps s sx).2 ∧ But D X w') := hide (fun X sx hX hT => rtable hX hT hp)
    go_enter Tryd.func48, Tryd.ntmps48
    go_wp2_with fail
    refine HC.out.mono ?_
    rintro x w1 ⟨rfl, h1, h2⟩
    have H1 := hide h1
    have H2 := hide h2
    have T1 := hide (HT.out.but h2)
    have hs1 := h2.size
    clear h1 h2 HC
    go_wp2_with (at_make; refine wpList_make_full _ rfl _ _ 22 rfl w.heap.size 27 i0 (.agg #[.string ⟨#[]⟩, .int .i64 0, .slice none 0 0]) 3 Tryd.underlying22 hi hz0 hz1 _ _ _ _ V rfl rfl rfl rfl (by rw [hz2]; omega) (by unfold maxLen; omega) hs1 ?_; intro w2 hrow hgr)
    have B12 : Below w1.heap.size w1 w2 := ⟨hgr.os, hgr.tape, hgr.output, hgr.size, fun k hk => hgr.block k hk (by simp)⟩
    obtain ⟨hbk, hlen⟩ := blk_made hrow
    obtain ⟨g, hg⟩ : ∃ g, g = w1.heap.size := ⟨_, rfl⟩
    rw [← hg] at hbk
    rw [← hg]
    have hgD : g ≠ D := by omega
    have hgR : g ≠ R := by omega
    have hgw : w.heap.size ≤ g := by omega
    have hDg : D < g + 1 := by omega
    have Q2 := hide hbk
    have LN := hide hlen
    have R2 := hide (H1.out.below B12)
    have T2 := hide (T1.out.below B12)
    have U2 := hide (H2.out.trans (.of_below B12))
    generalize (madeCells (Value.agg #[.string ⟨#[]⟩, .int .i64 0, .slice none 0 0]).cells (V * 3)).toList = xs at *
    clear hrow hgr B12 hbk hlen H1 T1 H2 hg hs1
    go_wp2
    go_loopw [19] (fun p wr => ∃ (k : Nat) (cs : List (Tab × Value)) (sk : St) (rest : List Value), k ≤ V ∧ p = .int .i64 (k : Int) ∧ Hid (cs.length = k ∧ rest.length = (V - k) * 3 ∧ cs.map Prod.fst ++ (rdMany (rdT ps s) (V - k) sk).1 = RR.1 ∧ (rdMany (rdT ps s) (V - k) sk).2 = RR.2) ∧ Hid (Blk wr g (cellsTb cs ++ rest).toArray 27) ∧ Hid (∀ c ∈ cs, MadeE (g + 1) wr c) ∧ Hid (Rd wr R D tx s sk) ∧ Hid (TxAt wr D tx ps) ∧ Hid (But D w wr)) (fun p _ => V - (intOf p).toNat)
    case atStart => exact ⟨0, [], st1, xs, Nat.zero_le _, rfl, hide ⟨rfl, LN.out, by rw [RE.out]; rfl, by rw [RE.out]; rfl⟩, Q2, hide (fun c hc => by simp at hc), R2, T2, U2⟩
    case round =>
      obtain ⟨k, cs, sk, rest, hk, rfl, HF, HB, HM, HR, HTx, HU⟩ := hrel
      by_cases hlt : k < V
      · have hlt' : (k : Int) < (V : Int) := by omega
        have CI := hide (IT.out wr sk HR.out HTx.out)
        obtain ⟨r0, r1, r2, rest', hrest, hrl⟩ := three_of (l := rest) (n := V - (k + 1)) (by rw [HF.out.2.1]; congr 1; omega)
        subst hrest
        have HRL := hide hrl
        have HN : Hid (cs.map Prod.fst ++ [(rdT ps s sk).1] ++ (rdMany (rdT ps s) (V - (k + 1)) (rdT ps s sk).2).1 = RR.1 ∧ (rdMany (rdT ps s) (V - (k + 1)) (rdT ps s sk).2).2 = RR.2) := hide (by
          have q := HF.out.2.2
          rw [show V - k = (V - (k + 1)) + 1 by omega] at q
          refine ⟨?_, q.2⟩
          rw [← q.1, List.append_assoc]
          rfl)
        have HEL : Hid (cs.length = k) := hide HF.out.1
        have CL : Hid ((cellsTb cs).length = k * 3) := hide (by rw [cellsTb_len, HEL.out])
        have hgx : Hid (g + 1 ≤ wr.heap.size) := hide HB.out.lt
        obtain ⟨e, he⟩ : ∃ e, e = (rdT ps s sk).1 := ⟨_, rfl⟩
        rw [← he] at CI HN
        clear he
        go_wp2_with fail
        refine CI.out.mono ?_
        rintro x w3 ⟨v, rfl, hm3, hr3, hb3⟩
        have M3 := hide (hm3.base hgx.out)
        obtain ⟨ao, cap, rfl⟩ := hm3.slice
        have B3 := hb3.blk HB.out hgD
        have PB := hide (blk_put3 B3 CL.out (.string e.name) (.int .i64 e.parent) (.slice ao e.ents.length cap))
        obtain ⟨b0, b1, b2⟩ := blk_three B3 CL.out
        have f0 := B3.free (k * 3)
        have f1 := B3.free (k * 3 + 1)
        have f2 := B3.free (k * 3 + 2)
        have RN := hide (((hr3.other (i := k * 3) hgR hgD (.string e.name)).other (i := k * 3 + 1) hgR hgD (.int .i64 e.parent)).other (i := k * 3 + 2) hgR hgD (.slice ao e.ents.length cap))
        have T3 := HTx.out.but hb3
        have TN := hide (((T3.other (i := k * 3) HT.out hgw (.string e.name)).other (i := k * 3 + 1) HT.out hgw (.int .i64 e.parent)).other (i := k * 3 + 2) HT.out hgw (.slice ao e.ents.length cap))
        have UN := hide ((((HU.out.trans hb3).setNew (i := k * 3) hgw (.string e.name)).setNew (i := k * 3 + 1) hgw (.int .i64 e.parent)).setNew (i := k * 3 + 2) hgw (.slice ao e.ents.length cap))
        have PN : Hid (Blk (((w3.setCell ⟨g, k * 3, none⟩ (.string e.name)).setCell ⟨g, k * 3 + 1, none⟩ (.int .i64 e.parent)).setCell ⟨g, k * 3 + 2, none⟩ (.slice ao e.ents.length cap)) g (cellsTb (cs ++ [(e, .slice ao e.ents.length cap)]) ++ rest').toArray 27) := hide (by rw [cellsTb_app, List.append_assoc]; exact PB.out)
        have MN : Hid (∀ c ∈ cs ++ [(e, .slice ao e.ents.length cap)], MadeE (g + 1) (((w3.setCell ⟨g, k * 3, none⟩ (.string e.name)).setCell ⟨g, k * 3 + 1, none⟩ (.int .i64 e.parent)).setCell ⟨g, k * 3 + 2, none⟩ (.slice ao e.ents.length cap)) c) := hide (fun c hc => by
          have q : MadeE (g + 1) w3 c := by
            rcases List.mem_append.1 hc with q | q
            · exact Made.but (HM.out c q) hb3 hDg
            · simp at q; subst q; exact M3.out
          exact ((Made.set q (Nat.lt_succ_self g) _).set (Nat.lt_succ_self g) _).set (Nat.lt_succ_self g) _)
        generalize e.ents.length = ne at *
        clear hr3 hb3 hm3 B3 PB T3 CI HB HR HTx HU HF HM M3
        go_wp2
        exact ⟨⟨k + 1, cs ++ [(e, .slice ao ne cap)], _, rest', by omega, by go_num, hide ⟨by rw [List.length_append, HEL.out]; rfl, HRL.out, by rw [List.map_append]; exact HN.out⟩, PN, MN, RN, TN, UN⟩, by simp [intOf]; omega⟩
      · obtain rfl : k = V := by omega
        have hlt' : ¬ (k : Int) < (k : Int) := by omega
        have HE : Hid (cs.map Prod.fst = RR.1 ∧ sk = RR.2 ∧ rest = [] ∧ cs.length = k) := hide (by
          have q := HF.out
          rw [Nat.sub_self] at q
          exact ⟨by have := q.2.2.1; simpa [rdMany] using this, q.2.2.2, List.length_eq_zero_iff.1 (by simpa using q.2.1), q.1⟩)
        clear HF hlt
        go_wp2
        go_ret
        refine ⟨_, rfl, cs, HE.out.1, ⟨.inr ⟨g, by rw [HE.out.2.2.2]; rfl, hgw, ?_⟩, fun c hc => Made.base (HM.out c hc) (by omega)⟩, by rw [← HE.out.2.1]; exact HR.out, HU.out⟩
        have q := HB.out
        rw [HE.out.2.2.1, List.append_nil] at q
        exact q

theorem results_bun1 {fn : Func} {a : Tmp} (h : fn.results = #[.cell a 24]) (tmps : Array Value) (H : Nat) (x0 : Value) (w : World) (ht : tmps.getD a undef = .pointer (some ⟨H, 0, none⟩)) (hp : Blk w H #[x0] 24) :
    (results fn tmps).run Tryd.prog w = .ok (.agg #[x0]) w := by
  have c0 := hp.cell 0
  simp at c0
  rw [Array.getD_eq_getD_getElem?] at ht
  simp [results, h, ht, go_sem, c0]

def rdP (s : ByteArray) : List ByteArray × St := rdRow s 2 4096 (rdX s) (0, 0)
def rdB (s : ByteArray) : List Tab × St := rdRow s 1 16 (rdT (rdP s).1 s) (rdP s).2

set_option maxRecDepth 100000 in
set_option maxHeartbeats 4000000 in
theorem rbundle (h : Rd w R D (.slice none 0 0) s (0, 0)) (hT : U8 w) (hD : OffT D) : Calls Tryd.prog 31 #[.pointer (some ⟨R, 0, none⟩)] w fun x w' => ∃ v, x = .returned (.agg #[v]) ∧ (∃ cs, cs.map Prod.fst = (rdB s).1 ∧ MadeT w.heap.size w' v cs) ∧ Below (min R D) w w' := by
  have hmf : ∀ (fn : Fn) (first cap : Array Value) (w : World), (Instr.makeFunc fn first cap).run Tryd.prog w = .ok (.func fn first cap) w := fun _ _ _ _ => rfl
  obtain ⟨WA, hWA⟩ : ∃ WA, WA = w.alloc (.cells #[.slice none 0 0] 24) := ⟨_, rfl⟩
  have BA : Hid (Below w.heap.size w WA) := hide (by rw [hWA]; exact (Below.refl _ _).alloc (Nat.le_refl _) _)
  have QH : Hid (Blk WA w.heap.size #[.slice none 0 0] 24) := hide (by rw [hWA]; exact Blk.newAt w w.heap.size rfl _ _)
  have HWA := hide hWA.symm
  have RA := hide (h.below BA.out)
  have hDw := Blk.lt h.cur
  have hRw := h.blk.lt
  have hHD : w.heap.size ≠ D := Nat.ne_of_gt hDw
  have hHR : w.heap.size ≠ R := Nat.ne_of_gt hRw
  have hRD := h.ne
  have hRl := rdRow_len s 2 4096 (rdX s) (0, 0)
  have hP : rdRow s 2 4096 (rdX s) (0, 0) = rdP s := rfl
  have C1 := hide (rowX RA.out (hT.below BA.out) hD)
  rw [hP] at C1 hRl
  have RE : Hid (rdB s = rdRow s 1 16 (rdT (rdP s).1 s) (rdP s).2) := hide rfl
  generalize rdB s = RB at *
  generalize rdP s = PP at *
  have c0 := RA.out.blk.cell 0
  have WAs : w.heap.size < WA.heap.size := QH.out.lt
  clear hWA h hT hD hP
  go_enter Tryd.func31, Tryd.ntmps31
  go_wp2_with (simp only [HWA.out])
  refine C1.out.mono ?_
  rintro x w1 ⟨v1, rfl, hm1, hr1, hb1⟩
  obtain ⟨ao, cap, rfl⟩ := hm1.slice
  have y1 := hr1.blk.cell 1
  have f1 := hr1.blk.free 1
  have y0 := hr1.blk.cell 0
  obtain ⟨W1, hW1⟩ : ∃ W1, W1 = w1.setCell ⟨R, 1, none⟩ (.slice ao PP.1.length cap) := ⟨_, rfl⟩
  have HW1 := hide hW1.symm
  have R1 : Hid (Rd W1 R D (.slice ao PP.1.length cap) s PP.2) := hide (by
    rw [hW1]
    refine ⟨?_, Blk.other hr1.cur (a := ⟨R, 1, none⟩) hRD _, hRD, hr1.le, hr1.small⟩
    have q := hr1.blk
    unfold Blk at *
    simp only [World.setCell, Array.getElem?_modify, if_true, q, Option.map_some]
    rfl)
  have T1 : Hid (TxAt W1 D (.slice ao PP.1.length cap) PP.1) := hide (by
    rw [hW1]
    rcases hm1 with ⟨h0, h1⟩ | ⟨g, h1, h2, h3⟩
    · exact .inl ⟨List.length_eq_zero_iff.1 h0, ao, cap, by rw [h0]⟩
    · exact .inr ⟨g, h1, by omega, h3.other (a := ⟨R, 1, none⟩) (by show R ≠ g; omega) _⟩)
  have U1 : Hid (Below (min R D) w W1) := hide (by
    rw [hW1]
    exact (((But.of_below BA.out).trans hb1).to_below (B := min R D) (by omega) (by omega)).setCell (p := ⟨R, 1, none⟩) (by show min R D ≤ R; omega) _)
  have Q1 : Hid (Blk W1 w.heap.size #[.slice none 0 0] 24) := hide (by rw [hW1]; exact (hb1.blk QH.out hHD).other (a := ⟨R, 1, none⟩) hHR.symm _)
  have z0 := R1.out.blk.cell 0
  have C2 := hide (rowT R1.out T1.out hRl)
  rw [← RE.out] at C2
  have hs1 : w.heap.size < W1.heap.size := Q1.out.lt
  clear hm1 hr1 hb1 hW1 C1 c0 RE
  go_wp2_with (simp only [HW1.out])
  refine C2.out.mono ?_
  rintro x w2 ⟨v2, rfl, cs, hcs, hm2, _, hb2⟩
  have Q2 := hide (hb2.blk Q1.out hHD)
  have M2 := hide hm2
  have HCS := hide hcs
  obtain ⟨ao2, cap2, rfl⟩ := hm2.1.slice
  have h0 := Q2.out.cell 0
  have g0 := Q2.out.free 0
  have U2 := hide ((U1.out.trans (hb2.to_below (B := min R D) (by omega) (by omega))).setCell (p := ⟨w.heap.size, 0, none⟩) (by show min R D ≤ w.heap.size; omega) (.slice ao2 cs.length cap2))
  have QN := hide (Q2.out.one (.slice ao2 cs.length cap2))
  have MN : Hid (MadeT w.heap.size (w2.setCell ⟨w.heap.size, 0, none⟩ (.slice ao2 cs.length cap2)) (.slice ao2 cs.length cap2) cs) := hide ⟨(Made.set M2.out.1 hs1 _).base (Nat.le_of_lt hs1), fun c hc => Made.base (Made.set (M2.out.2 c hc) hs1 _) (Nat.le_of_lt hs1)⟩
  clear hm2 hb2 hcs C2 z0 Q1 R1 T1 U1
  go_wp2
  refine bodyPost_ret (results_bun1 rfl _ _ _ _ rfl QN.out) rfl ?_
  exact ⟨_, rfl, ⟨cs, HCS.out, MN.out⟩, U2.out⟩

end

end Go.Proofs.YtobmdifledegbaaDoor

namespace Go.Proofs.YtobmdifledegbaaDoor
open Go.RowKit

theorem cellsEn_get (es : List Ent) : ∀ i, i < es.length → (cellsEn es)[i * 4]? = some (.string (entN es i).key) ∧ (cellsEn es)[i * 4 + 1]? = some (.int .i64 (entN es i).kind) ∧ (cellsEn es)[i * 4 + 2]? = some (.string (entN es i).text) ∧ (cellsEn es)[i * 4 + 3]? = some (.int .i64 (entN es i).num) := by
  induction es with
  | nil => intro i h; simp at h
  | cons d t ih =>
    intro i h
    have e : cellsEn (d :: t) = [.string d.key, .int .i64 d.kind, .string d.text, .int .i64 d.num] ++ cellsEn t := rfl
    rw [e]
    rcases i with _ | i
    · exact ⟨rfl, rfl, rfl, rfl⟩
    · obtain ⟨h0, h1, h2, h3⟩ := ih i (by simpa using h)
      have q : entN (d :: t) (i + 1) = entN t i := rfl
      rw [q]
      refine ⟨?_, ?_, ?_, ?_⟩
      · rw [List.getElem?_append_right (by simp; omega), ← h0]; congr 1; simp; omega
      · rw [List.getElem?_append_right (by simp; omega), ← h1]; congr 1; simp; omega
      · rw [List.getElem?_append_right (by simp; omega), ← h2]; congr 1; simp; omega
      · rw [List.getElem?_append_right (by simp; omega), ← h3]; congr 1; simp; omega

theorem ESl.of_made {B : Nat} {w : World} {c : Tab × Value} (h : MadeE B w c) : ESl w c.2 c.1.ents := by
  rcases h with ⟨h0, h1⟩ | ⟨g, h1, _, h3⟩
  · refine ⟨none, 0, by rw [h1, h0], by omega, .inl (List.length_eq_zero_iff.1 h0)⟩
  · refine ⟨_, _, h1, Nat.le_refl _, .inr ⟨g, 0, rfl, h3.lt, fun i hi => ?_⟩⟩
    obtain ⟨q0, q1, q2, q3⟩ := cellsEn_get c.1.ents i hi
    have hc : ∀ j, w.cell? ⟨g, j, none⟩ = (cellsEn c.1.ents)[j]? := fun j => by rw [h3.cell j]; simp
    refine ⟨?_, ?_, ?_, ?_⟩
    · rw [hc, Nat.zero_add]; exact q0
    · rw [hc, Nat.zero_add]; exact q1
    · rw [hc, Nat.zero_add]; exact q2
    · rw [hc, Nat.zero_add]; exact q3

theorem TSl.of_made {B : Nat} {w : World} {v : Value} {cs : List (Tab × Value)} (h : MadeT B w v cs) : TSl w v (cs.map Prod.fst) := by
  obtain ⟨h, hE⟩ := h
  rcases h with ⟨h0, h1⟩ | ⟨g, h1, _, h3⟩
  · obtain rfl := List.length_eq_zero_iff.1 h0
    exact ⟨none, 0, h1, Nat.le_refl _, .inl rfl⟩
  · refine ⟨some ⟨g, 0, none⟩, cs.length, by rw [List.length_map]; exact h1, by rw [List.length_map]; exact Nat.le_refl _, .inr ⟨g, 0, rfl, h3.lt, fun i hi => ?_⟩⟩
    rw [List.length_map] at hi
    have hci : cs[i]? = some cs[i] := List.getElem?_eq_getElem hi
    have e : tabN (cs.map Prod.fst) i = cs[i].1 := tabN_get (by rw [List.getElem?_map, hci]; rfl)
    obtain ⟨g0, g1, g2⟩ := cellsTb_get cs i _ hci
    have hc : ∀ j, w.cell? ⟨g, j, none⟩ = (cellsTb cs)[j]? := fun j => by rw [h3.cell j]; simp
    rw [e]
    exact ⟨by rw [hc, Nat.zero_add]; exact g0, by rw [hc, Nat.zero_add]; exact g1, cs[i].2, by rw [hc, Nat.zero_add]; exact g2, ESl.of_made (hE _ (List.getElem_mem hi))⟩

theorem MadeT.below {B : Nat} {w w' : World} {v : Value} {cs : List (Tab × Value)} (h : MadeT B w v cs) (hb : Below w.heap.size w w') : MadeT B w' v cs := by
  have q : ∀ {T n v cs}, Made T B w v n cs → Made T B w' v n cs := fun h => by
    rcases h with h | ⟨g, h1, h2, h3⟩
    · exact .inl h
    · exact .inr ⟨g, h1, h2, h3.below hb h3.lt⟩
  exact ⟨q h.1, fun c hc => q (h.2 c hc)⟩

theorem many_all {α : Type} (P : α → Prop) (item : St → α × St) (h : ∀ st, P (item st).1) : ∀ n st, ∀ x ∈ (rdMany item n st).1, P x
  | 0, st, x, hx => by simp [rdMany] at hx
  | n + 1, st, x, hx => by
    have hx' : x ∈ (item st).1 :: (rdMany item n (item st).2).1 := hx
    rcases List.mem_cons.1 hx' with q | q
    · rw [q]; exact h st
    · exact many_all P item h n _ x q
theorem row_all {α : Type} (P : α → Prop) (s : ByteArray) (k most : Nat) (item : St → α × St) (h : ∀ st, P (item st).1) (st : St) : ∀ x ∈ (rdRow s k most item st).1, P x := by
  unfold rdRow
  split
  · intro x hx; simp at hx
  · exact many_all P item h _ _

theorem xV_le (s : ByteArray) (st : St) : (xV s st).size ≤ s.size := by
  unfold xV tgtV
  split
  · unfold txtS
    rw [ByteArray.size_extract]
    omega
  · exact Nat.zero_le _
theorem txN_le {s : ByteArray} {ps : List ByteArray} (h : ∀ p ∈ ps, p.size ≤ s.size) (k : Nat) : (txN ps k).size ≤ s.size := by
  unfold txN
  cases e : ps[k]? with
  | none => exact Nat.zero_le _
  | some p => exact h p (List.mem_of_getElem? e)

theorem rdB_size (s : ByteArray) (hs : s.size ≤ 140737488355328) : SzT (rdB s).1 ∧ (rdB s).1.length ≤ 16 := by
  have hP : ∀ p ∈ (rdP s).1, p.size ≤ s.size := row_all (fun p : ByteArray => p.size ≤ s.size) s 2 4096 (rdX s) (fun st => xV_le s st) (0, 0)
  have hE : ∀ st, (rdE (rdP s).1 s st).1.key.size ≤ s.size ∧ (rdE (rdP s).1 s st).1.text.size ≤ s.size := by
    intro st
    unfold rdE
    simp only
    split
    · exact ⟨txN_le hP _, Nat.zero_le _⟩
    · exact ⟨txN_le hP _, txN_le hP _⟩
  have hT : ∀ t ∈ (rdB s).1, t.name.size ≤ s.size ∧ t.ents.length ≤ 1024 ∧ ∀ e ∈ t.ents, e.key.size ≤ s.size ∧ e.text.size ≤ s.size := by
    refine row_all (fun t : Tab => t.name.size ≤ s.size ∧ t.ents.length ≤ 1024 ∧ ∀ e ∈ t.ents, e.key.size ≤ s.size ∧ e.text.size ≤ s.size) s 1 16 (rdT (rdP s).1 s) (fun st => ⟨txN_le hP _, rdRow_len _ _ _ _ _, ?_⟩) (rdP s).2
    exact row_all (fun e : Ent => e.key.size ≤ s.size ∧ e.text.size ≤ s.size) s 2 1024 (rdE (rdP s).1 s) hE _
  refine ⟨fun i => ?_, rdRow_len _ _ _ _ _⟩
  unfold tabN
  cases e : (rdB s).1[i]? with
  | none => exact ⟨Nat.zero_le _, Nat.zero_le _, fun j => ⟨Nat.zero_le _, Nat.zero_le _⟩⟩
  | some t =>
    obtain ⟨h1, h2, h3⟩ := hT t (List.mem_of_getElem? e)
    refine ⟨Nat.le_trans h1 hs, Nat.le_trans h2 (by decide), fun j => ?_⟩
    show (entN t.ents j).key.size ≤ _ ∧ (entN t.ents j).text.size ≤ _
    unfold entN
    cases e2 : t.ents[j]? with
    | none => exact ⟨Nat.zero_le _, Nat.zero_le _⟩
    | some x =>
      obtain ⟨h4, h5⟩ := h3 x (List.mem_of_getElem? e2)
      exact ⟨Nat.le_trans h4 hs, Nat.le_trans h5 hs⟩

def decOk (s : ByteArray) : Bool := decide (checkT (rdB s).1 = 0 ∧ encT (rdB s).1 = bys s)

def DecA (s : ByteArray) (w : World) (x : Ending) (w' : World) : Prop :=
  (decOk s = true → ∃ v cs, x = .returned (.tuple #[.agg #[v], .int .i64 0]) ∧ cs.map Prod.fst = (rdB s).1 ∧ MadeT w.heap.size w' v cs) ∧ (decOk s = false → x = .returned (.tuple #[.agg #[.slice none 0 0], .int .i64 120])) ∧ Below w.heap.size w w'
theorem DecA.ok {s : ByteArray} {w w' : World} {x : Ending} (h : decOk s = true) (v : Value) (cs : List (Tab × Value)) (h1 : x = .returned (.tuple #[.agg #[v], .int .i64 0])) (h2 : cs.map Prod.fst = (rdB s).1) (h3 : MadeT w.heap.size w' v cs) (h4 : Below w.heap.size w w') : DecA s w x w' := ⟨fun _ => ⟨v, cs, h1, h2, h3⟩, fun q => by (rw [h] at q; cases q), h4⟩
theorem DecA.no {s : ByteArray} {w w' : World} {x : Ending} (h : decOk s = false) (h1 : x = .returned (.tuple #[.agg #[.slice none 0 0], .int .i64 120])) (h4 : Below w.heap.size w w') : DecA s w x w' := ⟨fun q => by (rw [h] at q; cases q), fun _ => h1, h4⟩

theorem results_bun2 {fn : Func} {a c : Tmp} (h : fn.results = #[.cell a 24, .tmp c]) (tmps : Array Value) (H : Nat) (x0 : Value) (w : World) (ht : tmps.getD a undef = .pointer (some ⟨H, 0, none⟩)) (hp : Blk w H #[x0] 24) :
    (results fn tmps).run Tryd.prog w = .ok (.tuple #[.agg #[x0], tmps.getD c undef]) w := by
  have c0 := hp.cell 0
  simp at c0
  rw [Array.getD_eq_getD_getElem?] at ht
  simp [results, h, ht, go_sem, c0]

set_option maxRecDepth 100000 in
set_option maxHeartbeats 4000000 in
theorem Decode_any (s : ByteArray) (w : World) (hs : s.size ≤ 140737488355328) (hT : U8 w) : Calls Tryd.prog 15 #[.string s] w fun x w' => DecA s w x w' := by
  obtain ⟨WA, hWA⟩ : ∃ WA, WA = w.alloc (.cells #[.slice none 0 0] 24) := ⟨_, rfl⟩
  have BA : Hid (Below w.heap.size w WA) := hide (by rw [hWA]; exact (Below.refl _ _).alloc (Nat.le_refl _) _)
  have QH : Hid (Blk WA w.heap.size #[.slice none 0 0] 24) := hide (by rw [hWA]; exact Blk.newAt w w.heap.size rfl _ _)
  have HWA := hide hWA.symm
  have TA := hide (hT.below BA.out)
  have C1 := hide (New_any s WA)
  have hWAs : WA.heap.size = w.heap.size + 1 := by rw [hWA]; simp
  obtain ⟨D, hD⟩ : ∃ D, D = WA.heap.size := ⟨_, rfl⟩
  rw [← hD] at C1
  have hDs : D = w.heap.size + 1 := by rw [hD, hWAs]
  obtain ⟨hsz, hln⟩ := rdB_size s hs
  have HSZ := hide hsz
  have HD := hide hD
  have HDs := hide hDs
  have HT0 := hide hT
  clear hWA hT hD hWAs hsz hDs
  go_enter Tryd.func15, Tryd.ntmps15
  go_wp2_with (simp only [HWA.out])
  refine C1.out.mono ?_
  rintro x w1 ⟨rfl, hc1, hb1⟩
  obtain ⟨WB, hWB⟩ : ∃ WB, WB = w1.alloc (.cells #[.pointer (some ⟨D, 0, none⟩), .slice none 0 0] 75) := ⟨_, rfl⟩
  have BB : Below w1.heap.size w1 WB := by rw [hWB]; exact (Below.refl _ _).alloc (Nat.le_refl _) _
  have QR : Blk WB w1.heap.size #[.pointer (some ⟨D, 0, none⟩), .slice none 0 0] 75 := by rw [hWB]; exact Blk.newAt w1 w1.heap.size rfl _ _
  have HWB := hide hWB.symm
  have hDl := Blk.lt hc1
  have R1 : Hid (Rd WB w1.heap.size D (.slice none 0 0) s (0, 0)) := hide ⟨QR, hc1.below BB, by omega, Nat.zero_le _, hs⟩
  have hb1' : Below WA.heap.size WA WB := by rw [← HD.out]; exact hb1.trans (BB.mono (Nat.le_of_lt hDl))
  have TB := hide (TA.out.below hb1')
  have OD := hide (TA.out.off (D := D) (by rw [HD.out]; exact Nat.le_refl _))
  have C2 := hide (rbundle R1.out TB.out OD.out)
  have U1 := hide (BA.out.trans (hb1'.mono BA.out.size))
  have Q1 := hide (QH.out.below hb1' QH.out.lt)
  have hmin : Hid (w.heap.size < min w1.heap.size D) := hide (by have := HDs.out; omega)
  have hwB : Hid (w.heap.size < WB.heap.size) := hide Q1.out.lt
  clear hc1 hb1 BB QR hb1' C1 hDl hWB
  go_wp2_with (simp only [HWB.out])
  refine C2.out.mono ?_
  rintro x w2 ⟨v2, rfl, ⟨cs, hcs, hm2⟩, hb2⟩
  generalize hR : w1.heap.size = R at *
  obtain ⟨ao, cap, rfl⟩ := hm2.1.slice
  obtain ⟨WC, hWC⟩ : ∃ WC, WC = w2.alloc (.cells #[.slice ao cs.length cap] 24) := ⟨_, rfl⟩
  have BC : Hid (Below w2.heap.size w2 WC) := hide (by rw [hWC]; exact (Below.refl _ _).alloc (Nat.le_refl _) _)
  have QC : Hid (Blk WC w2.heap.size #[.slice ao cs.length cap] 24) := hide (by rw [hWC]; exact Blk.newAt w2 w2.heap.size rfl _ _)
  have HWC := hide hWC.symm
  have M2 : Hid (MadeT WB.heap.size WC (.slice ao cs.length cap) cs) := hide (hm2.below BC.out)
  have U2 := hide (U1.out.trans ((hb2.mono (Nat.le_of_lt hmin.out)).trans (BC.out.mono (Nat.le_trans (Nat.le_of_lt hwB.out) hb2.size))))
  have Q2 := hide ((Q1.out.below hb2 hmin.out).below BC.out (Blk.lt (Q1.out.below hb2 hmin.out)))
  have TC := hide (HT0.out.below U2.out)
  have HCS := hide hcs
  have EN : Hid (Calls Tryd.prog 13 #[.agg #[.slice ao cs.length cap]] WC fun e w' => e = .returned (encA (rdB s).1) ∧ Below WC.heap.size WC w') := hide (Encode_any (by rw [← HCS.out]; exact TSl.of_made M2.out) (by omega) HSZ.out TC.out)
  have q0 := QC.out.cell 0
  have hCH : Hid (w2.heap.size ≠ w.heap.size) := hide (Nat.ne_of_gt (Blk.lt (Q1.out.below hb2 hmin.out)))
  have RE : Hid (encA (rdB s).1 = .tuple #[.string (if checkT (rdB s).1 = 0 then ⟨(encT (rdB s).1).toArray⟩ else ⟨#[]⟩), .int .i64 (checkT (rdB s).1 : Int)]) := hide rfl
  have DO : Hid (decOk s = decide (checkT (rdB s).1 = 0 ∧ encT (rdB s).1 = bys s)) := hide rfl
  obtain ⟨C, hC⟩ : ∃ C, C = checkT (rdB s).1 := ⟨_, rfl⟩
  rw [← hC] at RE DO
  rw [RE.out] at EN
  obtain ⟨X, hX⟩ : ∃ X : ByteArray, X = (if C = 0 then ⟨(encT (rdB s).1).toArray⟩ else ⟨#[]⟩) := ⟨_, rfl⟩
  rw [← hX] at EN
  have DX : Hid (decOk s = (decide (C = 0) && (X.toList == s.toList))) := hide (by
    rw [DO.out]
    by_cases h0 : C = 0
    · rw [hX, if_pos h0, eqT, decide_eq_true h0, Bool.true_and]
      refine decide_eq_decide.2 ⟨fun h => by (rw [h.2]; exact mkByB s), fun h => ⟨h0, congrArg bys h⟩⟩
    · rw [decide_eq_false h0, Bool.false_and]
      exact decide_eq_false (fun h => h0 h.1))
  clear hC hX RE DO hR hWC hm2 hb2 hcs C2
  go_wp2_with (simp only [HWC.out])
  refine EN.out.mono ?_
  rintro x w3 ⟨rfl, hb3⟩
  have U3 := hide (U2.out.trans (hb3.mono U2.out.size))
  have Q3 := hide (Q2.out.below hb3 Q2.out.lt)
  have M3 := hide (M2.out.below hb3)
  have p0 := (QC.out.below hb3 QC.out.lt).cell 0
  have h0 := Q3.out.cell 0
  have g0 := Q3.out.free 0
  have QN := hide (Q3.out.one (.slice none 0 0))
  have QY := hide (Q3.out.one (.slice ao cs.length cap))
  have UN := hide (U3.out.setCell (p := ⟨w.heap.size, 0, none⟩) (Nat.le_refl _) (.slice none 0 0))
  have UY := hide (U3.out.setCell (p := ⟨w.heap.size, 0, none⟩) (Nat.le_refl _) (.slice ao cs.length cap))
  have MY : Hid (MadeT (w.heap.size) (w3.setCell ⟨w.heap.size, 0, none⟩ (.slice ao cs.length cap)) (.slice ao cs.length cap) cs) := hide ⟨(Made.set M3.out.1 hwB.out _).base (Nat.le_of_lt hwB.out), fun c hc => Made.base (Made.set (M3.out.2 c hc) hwB.out _) (Nat.le_of_lt hwB.out)⟩
  clear hb3 EN q0
  by_cases hC0 : C = 0
  · subst hC0
    cases hx : (X.toList == s.toList) with
    | true =>
      have OK : Hid (decOk s = true) := hide (by rw [DX.out, hx]; rfl)
      clear DX
      go_wp2
      refine bodyPost_ret (results_bun2 rfl _ _ _ _ rfl QY.out) rfl ?_
      exact DecA.ok OK.out _ cs rfl HCS.out MY.out UY.out
    | false =>
      have OK : Hid (decOk s = false) := hide (by rw [DX.out, hx]; rfl)
      clear DX
      go_wp2
      refine bodyPost_ret (results_bun2 rfl _ _ _ _ rfl QN.out) rfl ?_
      exact DecA.no OK.out rfl UN.out
  · have OK : Hid (decOk s = false) := hide (by rw [DX.out, decide_eq_false hC0]; rfl)
    have hC' : ((C : Int) == 0) = false := beq_eq_false_iff_ne.2 (by omega)
    have hC2 : ((C : Int) != 0) = true := by rw [bne, hC']; rfl
    clear DX
    go_wp2
    refine bodyPost_ret (results_bun2 rfl _ _ _ _ rfl QN.out) rfl ?_
    exact DecA.no OK.out rfl UN.out

end Go.Proofs.YtobmdifledegbaaDoor

namespace Go.Proofs.YtobmdifledegbaaDoor
open Go.RowKit Go.Maps

theorem pool_eq {l : List ByteArray} {ps : List (List UInt8)} (h1 : ps.Pairwise (· < ·)) (h2 : ∀ x, x ∈ ps ↔ ∃ t ∈ l, bys t = x) : poolL l = ps := by
  have n1 : (poolL l).Pairwise (· < ·) := pool_rise l
  have n2 : ps.Nodup := h1.imp (fun {a b} h e => by rw [e] at h; exact List.lt_irrefl _ h)
  refine List.Perm.eq_of_pairwise (le := fun a b => a < b) (fun a b _ _ q1 q2 => absurd (List.lt_trans q1 q2) (List.lt_irrefl _)) n1 h1 ((List.perm_ext_iff_of_nodup (pool_nodup l) n2).2 fun x => ?_)
  rw [pool_mem, h2]

def xA : ByteArray := ⟨#[97]⟩
def xB : ByteArray := ⟨#[98]⟩
def xC : ByteArray := ⟨#[99]⟩
def xD : ByteArray := ⟨#[100]⟩
def xX : ByteArray := ⟨#[120]⟩
def xY : ByteArray := ⟨#[121]⟩
def xR : ByteArray := ⟨#[114]⟩
def xO : ByteArray := ⟨#[]⟩
def xEn : ByteArray := ⟨#[101, 110]⟩
def xRoot : ByteArray := ⟨#[114, 111, 111, 116]⟩
def xOne : ByteArray := ⟨#[0, 1, 0, 1, 114, 1, 0, 0, 255, 0, 0]⟩

def esR : List Ent := [⟨xA, 0, xX, 0⟩, ⟨xB, 2, xA, 0⟩, ⟨xC, 1, xO, 7⟩]
def esE : List Ent := [⟨xA, 0, xY, 0⟩]
def rootT : List Tab := [⟨xRoot, -1, esR⟩, ⟨xEn, 0, esE⟩]
def oneT : List Tab := [⟨xR, -1, []⟩]

set_option maxRecDepth 100000 in
theorem fx_check1 : checkT oneT = 0 := by kernel_rfl
theorem fx_pool1 : poolL (textsL oneT) = [[114]] := pool_eq (by simp) (fun x => by
  constructor
  · intro h; simp at h; subst h; exact ⟨xR, by simp [textsL, oneT, tabL], rfl⟩
  · rintro ⟨t, ht, rfl⟩
    have : t = xR := by simpa [textsL, oneT, tabL] using ht
    subst this
    exact List.mem_singleton.2 rfl)
theorem fx_enc : encT oneT = bys xOne := by unfold encT; rw [fx_pool1]; kernel_rfl
theorem fx_find1 : findT rootT xEn xB = (⟨xA, 0, xY, 0⟩, 0) := by kernel_rfl
theorem fx_find2 : findT rootT xEn xD = (Ent.zero, 125) := by kernel_rfl
theorem fx_ch : chE rootT xEn = 0 := by kernel_rfl
theorem fx_keys : (poolL (keysL xO (chL rootT xEn))).length = 3 := by rw [pool_len]; kernel_rfl
theorem fx_read : (rdB xOne).1 = oneT := by kernel_rfl
theorem fx_dec : decOk xOne = true := by unfold decOk; rw [fx_read]; exact decide_eq_true ⟨fx_check1, fx_enc⟩

end Go.Proofs.YtobmdifledegbaaDoor

namespace Go.Proofs.YtobmdifledegbaaDoor
open Go.RowKit

set_option maxRecDepth 100000 in
set_option maxHeartbeats 2000000 in
theorem root_any (w : World) : Calls Tryd.prog 14 #[] w fun e w' => ∃ v, e = .returned (.agg #[v]) ∧ TSl w' v rootT ∧ Below w.heap.size w w' := by
  go_enter Tryd.func14, Tryd.ntmps14
  go_wp2
  refine bodyPost_ret (results_bun1 rfl _ _ _ _ rfl ((((Blk.new _ _ _).alloc _).alloc _).alloc _)) rfl ?_
  refine ⟨_, rfl, ?_, ((((Below.refl _ _).alloc (Nat.le_refl _) _).alloc (by simp) _).alloc (by simp; omega) _).alloc (by simp; omega) _⟩
  refine TSl.of_made (B := 0) (cs := [(⟨xRoot, -1, esR⟩, .slice (some ⟨w.heap.size + 1, 0, none⟩) 3 3), (⟨xEn, 0, esE⟩, .slice (some ⟨w.heap.size + 1 + 1, 0, none⟩) 1 1)]) ⟨.inr ⟨w.heap.size + 1 + 1 + 1, rfl, Nat.zero_le _, Blk.newAt _ _ (by simp) _ _⟩, fun c hc => ?_⟩
  simp only [List.mem_cons, List.not_mem_nil, or_false] at hc
  rcases hc with rfl | rfl
  · exact .inr ⟨w.heap.size + 1, rfl, Nat.zero_le _, ((Blk.newAt _ _ (by simp) _ _).alloc _).alloc _⟩
  · exact .inr ⟨w.heap.size + 1 + 1, rfl, Nat.zero_le _, (Blk.newAt _ _ (by simp) _ _).alloc _⟩

theorem szT_root : SzT rootT ∧ SzT oneT := by
  constructor
  · intro i
    rcases i with _ | _ | i
    · refine ⟨by decide, by decide, fun j => ?_⟩
      rcases j with _ | _ | _ | j <;> first | exact ⟨by decide, by decide⟩ | exact ⟨Nat.zero_le _, Nat.zero_le _⟩
    · refine ⟨by decide, by decide, fun j => ?_⟩
      rcases j with _ | j <;> first | exact ⟨by decide, by decide⟩ | exact ⟨Nat.zero_le _, Nat.zero_le _⟩
    · exact ⟨Nat.zero_le _, Nat.zero_le _, fun j => ⟨Nat.zero_le _, Nat.zero_le _⟩⟩
  · intro i
    rcases i with _ | i
    · exact ⟨by decide, by decide, fun j => ⟨Nat.zero_le _, Nat.zero_le _⟩⟩
    · exact ⟨Nat.zero_le _, Nat.zero_le _, fun j => ⟨Nat.zero_le _, Nat.zero_le _⟩⟩

set_option maxRecDepth 100000 in
set_option maxHeartbeats 4000000 in
theorem fixed_any (w : World) (hT : U8 w) : Calls Tryd.prog 5 #[] w fun e w' => e = .returned (.bool true) ∧ Below w.heap.size w w' := by
  obtain ⟨WA, hWA⟩ : ∃ WA, WA = w.alloc (.cells #[.string xR, .int .i64 (-1), .slice none 0 0] 27) := ⟨_, rfl⟩
  have BA : Hid (Below w.heap.size w WA) := hide (by rw [hWA]; exact (Below.refl _ _).alloc (Nat.le_refl _) _)
  have TS : TSl WA (.slice (some ⟨w.heap.size, 0, none⟩) 1 1) oneT := TSl.of_made (B := 0) (cs := [(⟨xR, -1, []⟩, .slice none 0 0)]) ⟨.inr ⟨w.heap.size, rfl, Nat.zero_le _, by rw [hWA]; exact Blk.newAt _ _ rfl _ _⟩, fun c hc => by
    simp only [List.mem_cons, List.not_mem_nil, or_false] at hc
    subst hc
    exact .inl ⟨rfl, rfl⟩⟩
  have HWA : Hid (w.alloc (.cells #[.string ⟨#[114]⟩, .int .i64 (-1), .slice none 0 0] 27) = WA) := hide hWA.symm
  have C1 := hide (Encode_any TS (by decide) szT_root.2 (hT.below BA.out))
  have e1 : encA oneT = .tuple #[.string xOne, .int .i64 0] := by
    unfold encA
    rw [fx_check1, if_pos rfl, fx_enc]
    rfl
  rw [e1] at C1
  have HT := hide hT
  have RT := hide root_any
  have FB : Hid (∀ X v, TSl X v rootT → U8 X → Calls Tryd.prog 7 #[.agg #[v], .string ⟨#[101, 110]⟩, .string ⟨#[98]⟩] X fun e w' => e = .returned (.tuple #[.agg #[.string ⟨#[97]⟩, .int .i64 0, .string ⟨#[121]⟩, .int .i64 0], .int .i64 0]) ∧ Below X.heap.size X w') := hide (fun X v h1 h2 => (Find_any xEn xB h1 (by decide) szT_root.1 h2).mono (fun e w' q => ⟨by rw [q.1, fx_find1]; rfl, q.2⟩))
  have FD : Hid (∀ X v, TSl X v rootT → U8 X → Calls Tryd.prog 7 #[.agg #[v], .string ⟨#[101, 110]⟩, .string ⟨#[100]⟩] X fun e w' => e = .returned (.tuple #[.agg #[.string ⟨#[]⟩, .int .i64 0, .string ⟨#[]⟩, .int .i64 0], .int .i64 125]) ∧ Below X.heap.size X w') := hide (fun X v h1 h2 => (Find_any xEn xD h1 (by decide) szT_root.1 h2).mono (fun e w' q => ⟨by rw [q.1, fx_find2]; rfl, q.2⟩))
  have KY : Hid (∀ X v, TSl X v rootT → U8 X → Calls Tryd.prog 8 #[.agg #[v], .string ⟨#[101, 110]⟩, .string ⟨#[]⟩] X fun e w' => (∃ q cap, e = .returned (.tuple #[.slice (some ⟨q, 0, none⟩) 3 cap, .int .i64 0])) ∧ Below X.heap.size X w') := hide (fun X v h1 h2 => (Keys_any xEn xO h1 (by decide) szT_root.1 h2).mono (fun e w' q => ⟨by obtain ⟨a, b, c, _⟩ := q.1 fx_ch; rw [fx_keys] at c; exact ⟨a, b, c⟩, q.2.2⟩))
  have DC : Hid (∀ X, U8 X → Calls Tryd.prog 15 #[.string xOne] X fun e w' => (∃ ao cap, e = .returned (.tuple #[.agg #[.slice ao 1 cap], .int .i64 0])) ∧ Below X.heap.size X w') := hide (fun X h2 => (Decode_any xOne X (by decide) h2).mono (fun e w' q => ⟨by
    obtain ⟨v, cs, h3, h4, h5⟩ := q.1 fx_dec
    rw [fx_read] at h4
    obtain ⟨ao, cap, rfl⟩ := h5.1.slice
    have hl : cs.length = 1 := by rw [← List.length_map (f := Prod.fst), h4]; rfl
    rw [hl] at h3
    exact ⟨ao, cap, h3⟩, q.2.2⟩))
  clear hWA TS e1 hT
  have hxo : (xOne.toList == [0, 1, 0, 1, 114, 1, 0, 0, 255, 0, 0]) = true := by kernel_rfl
  go_enter Tryd.func5, Tryd.ntmps5
  go_wp2_with (simp only [HWA.out])
  refine C1.out.mono ?_
  rintro x w1 ⟨rfl, hb1⟩
  have B1 := hide (BA.out.trans (hb1.mono BA.out.size))
  clear hb1 C1 BA HWA
  go_wp2_with fail
  refine (RT.out w1).mono ?_
  rintro x w2 ⟨v2, rfl, ht2, hb2⟩
  have B2 := hide (B1.out.trans (hb2.mono B1.out.size))
  have C2 := hide (FB.out w2 v2 ht2 (HT.out.below B2.out))
  clear ht2 hb2 FB B1
  go_wp2_with fail
  refine C2.out.mono ?_
  rintro x w3 ⟨rfl, hb3⟩
  have B3 := hide (B2.out.trans (hb3.mono B2.out.size))
  have B3' := hide (B3.out.alloc B3.out.size (.cells #[.string ⟨#[97]⟩, .int .i64 0, .string ⟨#[121]⟩, .int .i64 0] 33))
  have QX := hide (Blk.newAt w3 w3.heap.size rfl #[.string ⟨#[97]⟩, .int .i64 0, .string ⟨#[121]⟩, .int .i64 0] 33)
  have C3 := hide (RT.out (w3.alloc (.cells #[.string ⟨#[97]⟩, .int .i64 0, .string ⟨#[121]⟩, .int .i64 0] 33)))
  clear hb3 C2 B2 B3
  go_wp2_with fail
  refine C3.out.mono ?_
  rintro x w4 ⟨v4, rfl, ht4, hb4⟩
  have B4 := hide (B3'.out.trans (hb4.mono B3'.out.size))
  have Q4 := hide (QX.out.below hb4 QX.out.lt)
  have C4 := hide (FD.out w4 v4 ht4 (HT.out.below B4.out))
  clear ht4 hb4 FD C3 B3' QX
  go_wp2_with fail
  refine C4.out.mono ?_
  rintro x w5 ⟨rfl, hb5⟩
  have B5 := hide (B4.out.trans (hb5.mono B4.out.size))
  have Q5 := hide ((Q4.out.below hb5 Q4.out.lt).alloc (.cells #[.string ⟨#[]⟩, .int .i64 0, .string ⟨#[]⟩, .int .i64 0] 33))
  have B5' := hide (B5.out.alloc B5.out.size (.cells #[.string ⟨#[]⟩, .int .i64 0, .string ⟨#[]⟩, .int .i64 0] 33))
  have C5 := hide (RT.out (w5.alloc (.cells #[.string ⟨#[]⟩, .int .i64 0, .string ⟨#[]⟩, .int .i64 0] 33)))
  clear hb5 C4 Q4 B4 B5 RT
  go_wp2_with fail
  refine C5.out.mono ?_
  rintro x w6 ⟨v6, rfl, ht6, hb6⟩
  have B6 := hide (B5'.out.trans (hb6.mono B5'.out.size))
  have Q6 := hide (Q5.out.below hb6 Q5.out.lt)
  have C6 := hide (KY.out w6 v6 ht6 (HT.out.below B6.out))
  clear ht6 hb6 KY C5 B5' Q5
  go_wp2_with fail
  refine C6.out.mono ?_
  rintro x w7 ⟨⟨q, cq, rfl⟩, hb7⟩
  have B7 := hide (B6.out.trans (hb7.mono B6.out.size))
  have Q7 := hide (Q6.out.below hb7 Q6.out.lt)
  have C7 := hide (DC.out w7 (HT.out.below B7.out))
  clear hb7 C6 Q6 B6 DC HT
  go_wp2_with fail
  refine C7.out.mono ?_
  rintro x w8 ⟨⟨ao, cap, rfl⟩, hb8⟩
  have B8 := hide ((B7.out.trans (hb8.mono B7.out.size)).alloc (B7.out.trans (hb8.mono B7.out.size)).size (.cells #[.slice ao 1 cap] 24))
  have Q8 := hide ((Q7.out.below hb8 Q7.out.lt).alloc (.cells #[.slice ao 1 cap] 24))
  have y0 := Q8.out.cell 0
  have y1 := Q8.out.cell 1
  have y2 := Q8.out.cell 2
  have y3 := Q8.out.cell 3
  clear hb8 C7 Q7 B7
  go_wp2
  go_ret
  exact ⟨rfl, B8.out⟩

end Go.Proofs.YtobmdifledegbaaDoor

namespace Go.Proofs.YtobmdifledegbaaDoor
open Go.RowKit

end Go.Proofs.YtobmdifledegbaaDoor

namespace Go.Proofs.YtobmdifledegbaaDoor
open Go.RowKit

set_option maxRecDepth 100000 in
set_option maxHeartbeats 4000000 in
theorem sameTexts_eq {w : World} {q1 q2 L c1 c2 : Nat} (hL : L ≤ 1000000) (f : Nat → ByteArray) (h1 : ∀ i, i < L → w.cell? ⟨q1, i, none⟩ = some (.string (f i))) (h2 : ∀ i, i < L → w.cell? ⟨q2, i, none⟩ = some (.string (f i))) :
    Calls Tryd.prog 9 #[.slice (some ⟨q1, 0, none⟩) L c1, .slice (some ⟨q2, 0, none⟩) L c2] w fun e w' => e = .returned (.bool true) ∧ Below w.heap.size w w' := by
  have H := hide (show Below w.heap.size w w ∧ (∀ i, i < L → w.cell? ⟨q1, i, none⟩ = some (.string (f i))) ∧ ∀ i, i < L → w.cell? ⟨q2, i, none⟩ = some (.string (f i)) from ⟨Below.refl _ _, h1, h2⟩)
  clear h1 h2
  go_enter Tryd.func9, Tryd.ntmps9
  go_wp2
  go_loopw [5] (fun y wr => ∃ k : Nat, k ≤ L ∧ y = .int .i64 (k : Int) ∧ Hid (Below w.heap.size w wr ∧ (∀ i, i < L → wr.cell? ⟨q1, i, none⟩ = some (.string (f i))) ∧ ∀ i, i < L → wr.cell? ⟨q2, i, none⟩ = some (.string (f i)))) (fun y _ => L - (intOf y).toNat)
  case atStart => exact ⟨0, Nat.zero_le _, rfl, H⟩
  case round =>
    obtain ⟨k, hk, rfl, HB⟩ := hrel
    by_cases hkl : k < L
    · have hkl' : (k : Int) < (L : Int) := by omega
      have l1 := HB.out.2.1 k hkl
      have l2 := HB.out.2.2 k hkl
      generalize f k = s at *
      go_wp2_with fail
      go_region
      go_wp2
      exact ⟨⟨k + 1, by omega, by go_num, hide ⟨HB.out.1.drew, fun i hi => HB.out.2.1 i hi, fun i hi => HB.out.2.2 i hi⟩⟩, by simp [intOf]; omega⟩
    · obtain rfl : k = L := by omega
      have hkl' : ¬ (k : Int) < (k : Int) := by omega
      clear hkl
      go_wp2
      go_ret
      exact ⟨rfl, HB.out.1⟩

end Go.Proofs.YtobmdifledegbaaDoor

namespace Go.Proofs.YtobmdifledegbaaDoor
open Go.RowKit

theorem run_append_zero {P : Program} {w : World} (base : Nat) (t ty e : TypeId) (i : TypeInfo) (size : Nat) (ht : P.underlying t = some (.slice e)) (hi : P.info? e = some i)
    (v : Value) (n : Nat) (xs : List Value) (hown : w.ownsRow base e size v n xs) (c : Nat) :
    (Builtin.append_ #[t, t] ty #[v, .slice none 0 c]).run P w = .ok v w := by
  rcases hown.2 with ⟨rfl, rfl⟩ | ⟨g, cap, cur, rfl, _, _, hnc, _⟩
  · simp [Builtin.append_, run_underlying ht, sizeOf, typeInfo, hi, Builtin.lenOf, Builtin.firstCells]
  · simp [Builtin.append_, run_underlying ht, sizeOf, typeInfo, hi, Builtin.lenOf, Builtin.firstCells, hnc, storeCells]

theorem wpB_append {P : Program} (w : World) {ops : Array Oper} {rest : List Oper} {o : Oper} {a : Act} {Q : Exit → Act → World → Prop}
    (hg : o.guard = none) (s x : Operand) (t : TypeId) (hop : o.op = Op.call { callee := Callee.builtin Builtin.append, args := #[s, x], argTypes := #[t, t] })
    (base : Nat) (e : TypeId) (i : TypeInfo) (size : Nat) (h1 : P.underlying t = some (.slice e)) (h2 : P.info? e = some i) (h4 : i.size = size)
    (g k cap : Nat) (xs : List Value) (hs : a.eval s = .slice (some ⟨g, 0, none⟩) k cap) (hown : w.ownsRow base e size (.slice (some ⟨g, 0, none⟩) k cap) k xs) (ao : Option Addr) (m c : Nat) (news : List Value) (hx : a.eval x = .slice ao m c) (hn : news.length = m * size)
    (hnone : ao = none → m = 0) (hc : ∀ ad, ao = some ad → ∀ j u, news[j]? = some u → w.cell? (ad.add j) = some u) (h1c : ∀ u ∈ news, u.oneCell' = true) (b1 : k + m ≤ cap)
    (hK : ∀ w', w'.ownsRow base e size (.slice (some ⟨g, 0, none⟩) (k + m) cap) (k + m) (xs ++ news) → w.grownBy w' (some g) → wpList P ops Q rest (a.put o.dst (.slice (some ⟨g, 0, none⟩) (k + m) cap)) w') :
    wpList P ops Q (o :: rest) a w := by
  cases ao with
  | some ad => exact wpList_append_fits w hg s x t hop base e i size h1 h2 h4 g k cap xs hs hown ad m c news hx hn (hc ad rfl) h1c b1 hK
  | none =>
    obtain rfl := hnone rfl
    have hnews : news = [] := List.eq_nil_of_length_eq_zero (by simpa using hn)
    subst hnews
    refine wpList_plain hg fun K hK' => ?_
    have hrun := run_append_zero (P := P) (w := w) base t o.type e i size h1 h2 _ k xs hown c
    unfold Oper.wp
    simp [execOp, hop, resolve, invoke, builtin, hs, hx, hrun, Result.andThen]
    exact hK' _ _ (by simpa using hK w (by simpa using hown) (World.grownBy.refl _ _))

theorem step_append_fits {P : Program} {ops : Array Oper} {o : Oper} {a : Act} {w : World} {K : Act → World → Prop} {Q : Exit → Act → World → Prop} {E : Prop}
    (hg : o.guard = none) (s x : Operand) (t : TypeId) (hop : o.op = Op.call { callee := Callee.builtin Builtin.append, args := #[s, x], argTypes := #[t, t] })
    (base : Nat) (e : TypeId) (i : TypeInfo) (size : Nat) (h1 : P.underlying t = some (.slice e)) (h2 : P.info? e = some i) (h4 : i.size = size)
    (g k cap : Nat) (xs : List Value) (hs : a.eval s = .slice (some ⟨g, 0, none⟩) k cap) (hown : w.ownsRow base e size (.slice (some ⟨g, 0, none⟩) k cap) k xs) (ad : Addr) (m c : Nat) (news : List Value) (hx : a.eval x = .slice (some ad) m c) (hn : news.length = m * size)
    (hc : ∀ j u, news[j]? = some u → w.cell? (ad.add j) = some u) (h1c : ∀ u ∈ news, u.oneCell' = true) (b1 : k + m ≤ cap)
    (hK : ∀ w', w'.ownsRow base e size (.slice (some ⟨g, 0, none⟩) (k + m) cap) (k + m) (xs ++ news) → w.grownBy w' (some g) → K (a.put o.dst (.slice (some ⟨g, 0, none⟩) (k + m) cap)) w') :
    if Region.wanted o (yielded ops a.tmps) = true then Oper.wp P o a w K Q else E := by
  have hw : Region.wanted o (yielded ops a.tmps) = true := by simp [Region.wanted, hg]
  rw [if_pos hw]
  obtain ⟨w', hrun, r1, r2⟩ := run_append_fits (P := P) w base t o.type e i size h1 h2 h4 g k cap xs hown ad m c news hn hc h1c b1
  unfold Oper.wp
  simp [execOp, hop, resolve, invoke, builtin, hs, hx, hrun, Result.andThen]
  exact hK w' r1 r2

structure Kept (D G : Nat) (w w' : World) : Prop where
  os : w'.os = w.os
  tape : w'.tape = w.tape
  output : w'.output = w.output
  size : w.heap.size ≤ w'.heap.size
  block : ∀ b, b < w.heap.size → b ≠ D → b ≠ G → w'.heap[b]? = w.heap[b]?
theorem Kept.refl (D G : Nat) (w : World) : Kept D G w w := ⟨rfl, rfl, rfl, Nat.le_refl _, fun _ _ _ _ => rfl⟩
theorem Kept.trans {D G : Nat} {a b c : World} (h : Kept D G a b) (h' : Kept D G b c) : Kept D G a c :=
  ⟨h'.os.trans h.os, h'.tape.trans h.tape, h'.output.trans h.output, Nat.le_trans h.size h'.size, fun k h1 h2 h3 => (h'.block k (Nat.lt_of_lt_of_le h1 h.size) h2 h3).trans (h.block k h1 h2 h3)⟩
theorem Kept.of_below {D G : Nat} {w w' : World} (hb : Below w.heap.size w w') : Kept D G w w' := ⟨hb.os, hb.tape, hb.output, hb.size, fun b h _ _ => hb.block b h⟩
theorem Kept.below {D G : Nat} {w w' w'' : World} (h : Kept D G w w') (hb : Below w'.heap.size w' w'') : Kept D G w w'' := h.trans (.of_below hb)
theorem Kept.set {D G : Nat} {w w' : World} (h : Kept D G w w') (c i : Nat) (v : Value) (hc : c = D ∨ w.heap.size ≤ c ∨ c = G) : Kept D G w (w'.setCell ⟨c, i, none⟩ v) := by
  refine ⟨h.os, h.tape, h.output, by rw [show (w'.setCell ⟨c, i, none⟩ v).heap.size = w'.heap.size by simp [World.setCell]]; exact h.size, fun b h1 h2 h3 => ?_⟩
  have hne : c ≠ b := by
    rintro rfl
    rcases hc with q | q | q
    · exact h2 q
    · omega
    · exact h3 q
  rw [← h.block b h1 h2 h3]
  simp [World.setCell, Array.getElem?_modify, hne]
theorem Kept.alloc {D G : Nat} {w w' : World} (h : Kept D G w w') (o : Obj) : Kept D G w (w'.alloc o) := h.below ((Below.refl _ _).alloc (Nat.le_refl _) _)
theorem Kept.drew {D G : Nat} {w w' : World} (h : Kept D G w w') : Kept D G w w'.drew := h.below (Below.refl _ _).drew
theorem Kept.grown {D G : Nat} {r : Option Nat} {w w' w'' : World} (h : Kept D G w w') (hg : w'.grownBy w'' r) (hgg : ∀ g, r = some g → g = D ∨ w.heap.size ≤ g ∨ g = G) : Kept D G w w'' :=
  ⟨hg.os.trans h.os, hg.tape.trans h.tape, hg.output.trans h.output, Nat.le_trans h.size hg.size, fun b h1 h2 h3 => (hg.block b (Nat.lt_of_lt_of_le h1 h.size) (by
    intro e
    rcases hgg b e.symm with q | q | q
    · exact h2 q
    · omega
    · exact h3 q)).trans (h.block b h1 h2 h3)⟩
theorem Kept.blk {D G b : Nat} {w w' : World} {cs : Array Value} {T : TypeId} (h : Kept D G w w') (hb : Blk w b cs T) (h1 : b ≠ D) (h2 : b ≠ G) : Blk w' b cs T := by
  have := hb.lt
  unfold Blk at *
  rw [h.block b this h1 h2]
  exact hb
theorem Kept.out {D G B : Nat} {a w w' : World} (h : Kept D G w w') (hb : Below B a w) (hB : B ≤ w.heap.size) (h1 : B ≤ D) (h2 : B ≤ G) : Below B a w' :=
  hb.trans ⟨h.os, h.tape, h.output, h.size, fun k hk => h.block k (by omega) (by omega) (by omega)⟩
theorem Kept.own {D G B sz n : Nat} {w w' : World} {e : TypeId} {v : Value} {xs : List Value} (h : Kept D G w w') (ho : w.ownsRow B e sz v n xs) (h1 : v.ownBlock ≠ some D) (h2 : v.ownBlock ≠ some G) : w'.ownsRow B e sz v n xs := by
  refine ⟨ho.1, ?_⟩
  rcases ho.2 with q | ⟨g, cap, cur, rfl, hg, hh, r⟩
  · exact .inl q
  · have hgl := lt_of_block hh
    exact .inr ⟨g, cap, cur, rfl, hg, by rw [h.block g hgl (fun e => h1 (by rw [e]; rfl)) (fun e => h2 (by rw [e]; rfl))]; exact hh, r⟩

end Go.Proofs.YtobmdifledegbaaDoor

namespace Go.Proofs.YtobmdifledegbaaDoor
open Go.RowKit

def behB : ByteArray := ⟨#[98, 101, 104, 105, 110, 100]⟩
def MkdE (B : Nat) (w : World) (c : Tab × Value) : Prop := ∃ g cap, c.2 = .slice (some ⟨g, 0, none⟩) c.1.ents.length cap ∧ w.ownsRow B 33 4 (.slice (some ⟨g, 0, none⟩) (c.1.ents.length + 1) cap) (c.1.ents.length + 1) (cellsEn c.1.ents ++ [.string behB, .int .i64 0, .string ⟨#[]⟩, .int .i64 0])
def MkdT (B : Nat) (w : World) (v : Value) (cs : List (Tab × Value)) : Prop := ∃ g cap, v = .slice (some ⟨g, 0, none⟩) cs.length cap ∧ w.ownsRow B 27 3 (.slice (some ⟨g, 0, none⟩) (cs.length + 1) cap) (cs.length + 1) (cellsTb cs ++ [.string behB, .int .i64 0, .slice none 0 0]) ∧ ∀ c ∈ cs, MkdE B w c

theorem Blk.set0of1 {w : World} {b : Nat} {x0 : Value} {t : TypeId} (h : Blk w b #[x0] t) (v : Value) : Blk (w.setCell ⟨b, 0, none⟩ v) b #[v] t := by
  unfold Blk at *
  simp only [World.setCell, Array.getElem?_modify, if_true, h, Option.map_some]
  rfl
theorem Blk.set2of3b {w : World} {b : Nat} {x0 x1 x2 : Value} {t : TypeId} (h : Blk w b #[x0, x1, x2] t) (v : Value) : Blk (w.setCell ⟨b, 2, none⟩ v) b #[x0, x1, v] t := by
  unfold Blk at *
  simp only [World.setCell, Array.getElem?_modify, if_true, h, Option.map_some]
  rfl

theorem cell_four_new (w : World) (a b c d : Value) (t : TypeId) : ∀ j u, [a, b, c, d][j]? = some u → (w.alloc (.cells #[a, b, c, d] t)).cell? ((⟨w.heap.size, 0, none⟩ : Addr).add j) = some u := by
  intro j u hj
  have h : Blk (w.alloc (.cells #[a, b, c, d] t)) w.heap.size #[a, b, c, d] t := Blk.newAt w w.heap.size rfl _ _
  rw [Addr.add_lit, Nat.zero_add, h.cell j]
  match j, hj with
  | 0, hj => exact hj
  | 1, hj => exact hj
  | 2, hj => exact hj
  | 3, hj => exact hj

theorem own_pre {w : World} {B sz g n cap : Nat} {e : TypeId} {xs ys : List Value} (h : w.ownsRow B e sz (.slice (some ⟨g, 0, none⟩) (n + 1) cap) (n + 1) (xs ++ ys)) (hx : xs.length = n * sz) :
    w.ownsRow B e sz (.slice (some ⟨g, 0, none⟩) n cap) n xs ∧ n + 1 ≤ cap := by
  rcases h.2 with ⟨q, _⟩ | ⟨g', cap', cur, q, hg, hh, hn, hm, hs, ht⟩
  · cases q
  · simp only [Value.slice.injEq, Option.some.injEq, Addr.mk.injEq] at q
    obtain ⟨⟨rfl, _, _⟩, _, rfl⟩ := q
    refine ⟨⟨hx, .inr ⟨g, cap, cur, rfl, hg, hh, by omega, hm, hs, ?_⟩⟩, hn⟩
    have e1 : (cur.toList.take ((n + 1) * sz)).take (n * sz) = cur.toList.take (n * sz) := by
      rw [List.take_take, Nat.min_eq_left (Nat.mul_le_mul_right _ (Nat.le_succ n))]
    rw [← e1, ht, ← hx, List.take_left]

theorem ESl.of_row {w : World} {B g n cap : Nat} {es : List Ent} (hn : n = es.length) (h : w.ownsRow B 33 4 (.slice (some ⟨g, 0, none⟩) n cap) n (cellsEn es)) : ESl w (.slice (some ⟨g, 0, none⟩) n cap) es := by
  subst hn
  have hcl := World.ownsRow.cells h (g := g) rfl
  rcases h.2 with ⟨q, _⟩ | ⟨g', cap', cur, q, hg, hh, hn, _⟩
  · cases q
  · simp only [Value.slice.injEq, Option.some.injEq, Addr.mk.injEq] at q
    obtain ⟨⟨rfl, _, _⟩, _, rfl⟩ := q
    refine ⟨_, _, rfl, hn, .inr ⟨g, 0, rfl, lt_of_block hh, fun i hi => ?_⟩⟩
    obtain ⟨e0, e1, e2, e3⟩ := cellsEn_get es i hi
    have k0 := hcl _ _ e0
    have k1 := hcl _ _ e1
    have k2 := hcl _ _ e2
    have k3 := hcl _ _ e3
    rw [Addr.add_lit] at k0 k1 k2 k3
    exact ⟨k0, by rw [Nat.add_assoc]; exact k1, by rw [Nat.add_assoc]; exact k2, by rw [Nat.add_assoc]; exact k3⟩

theorem MkdE.esl {B : Nat} {w : World} {c : Tab × Value} (h : MkdE B w c) : ESl w c.2 c.1.ents := by
  obtain ⟨g, cap, h1, h2⟩ := h
  rw [h1]
  exact ESl.of_row rfl (own_pre h2 (cellsEn_len _)).1
theorem own_belowB {w w' : World} {B sz n : Nat} {e : TypeId} {v : Value} {xs : List Value} (h : w.ownsRow B e sz v n xs) (hb : Below w.heap.size w w') : w'.ownsRow B e sz v n xs :=
  World.ownsRow.kept h (row := none) ⟨hb.os, hb.tape, hb.output, hb.size, fun k hk _ => hb.block k hk⟩ (by cases v.ownBlock <;> simp)
theorem MkdE.below {B : Nat} {w w' : World} {c : Tab × Value} (h : MkdE B w c) (hb : Below w.heap.size w w') : MkdE B w' c := by
  obtain ⟨g, cap, h1, h2⟩ := h
  exact ⟨g, cap, h1, own_belowB h2 hb⟩
theorem MkdE.kept {D G B : Nat} {w w' : World} {c : Tab × Value} (h : MkdE B w c) (hk : Kept D G w w') (h1 : D < B) (h2 : G < B) : MkdE B w' c := by
  obtain ⟨g, cap, e1, e2⟩ := h
  have hg := (World.ownsRow.lt e2 g rfl).1
  exact ⟨g, cap, e1, hk.own e2 (by simp [Value.ownBlock]; omega) (by simp [Value.ownBlock]; omega)⟩
theorem MkdE.base {B B' : Nat} {w : World} {c : Tab × Value} (h : MkdE B w c) (hB : B' ≤ B) : MkdE B' w c := by
  obtain ⟨g, cap, e1, e2, e3⟩ := h
  refine ⟨g, cap, e1, e2, ?_⟩
  rcases e3 with ⟨q, _⟩ | ⟨g', cap', cur, q, hg, r⟩
  · cases q
  · exact .inr ⟨g', cap', cur, q, by omega, r⟩
theorem own_baseB {w : World} {B B' sz n : Nat} {e : TypeId} {v : Value} {xs : List Value} (h : w.ownsRow B e sz v n xs) (hB : B' ≤ B) : w.ownsRow B' e sz v n xs := by
  refine ⟨h.1, ?_⟩
  rcases h.2 with q | ⟨g', cap', cur, q, hg, r⟩
  · exact .inl q
  · exact .inr ⟨g', cap', cur, q, by omega, r⟩

theorem EAt.cells {w : World} {b o : Nat} {es : List Ent} (h : ∀ i, i < es.length → w.cell? ⟨b, o + i * 4, none⟩ = some (.string (entN es i).key) ∧ w.cell? ⟨b, o + i * 4 + 1, none⟩ = some (.int .i64 (entN es i).kind) ∧ w.cell? ⟨b, o + i * 4 + 2, none⟩ = some (.string (entN es i).text) ∧ w.cell? ⟨b, o + i * 4 + 3, none⟩ = some (.int .i64 (entN es i).num)) :
    ∀ j u, (cellsEn es)[j]? = some u → w.cell? ((⟨b, o, none⟩ : Addr).add j) = some u := by
  intro j u hj
  have hlt : j < es.length * 4 := by rw [← cellsEn_len]; exact (List.getElem?_eq_some_iff.1 hj).1
  obtain ⟨i, r, rfl, hr⟩ : ∃ i r, j = i * 4 + r ∧ r < 4 := ⟨j / 4, j % 4, by omega, by omega⟩
  have hi : i < es.length := by omega
  obtain ⟨e0, e1, e2, e3⟩ := cellsEn_get es i hi
  obtain ⟨c0, c1, c2, c3⟩ := h i hi
  rw [Addr.add_lit]
  match r, hr with
  | 0, _ => rw [show i * 4 + 0 = i * 4 from rfl, e0] at hj; rw [← hj]; exact c0
  | 1, _ => rw [e1] at hj; rw [← hj, ← Nat.add_assoc]; exact c1
  | 2, _ => rw [e2] at hj; rw [← hj, ← Nat.add_assoc]; exact c2
  | 3, _ => rw [e3] at hj; rw [← hj, ← Nat.add_assoc]; exact c3
theorem cellsEn_one : ∀ (es : List Ent) (u : Value), u ∈ cellsEn es → u.oneCell' = true
  | [], u, h => by cases h
  | e :: es, u, h => by
    have q : cellsEn (e :: es) = .string e.key :: .int .i64 e.kind :: .string e.text :: .int .i64 e.num :: cellsEn es := rfl
    rw [q] at h
    simp only [List.mem_cons] at h
    rcases h with rfl | rfl | rfl | rfl | h
    · rfl
    · rfl
    · rfl
    · rfl
    · exact cellsEn_one es u h

end Go.Proofs.YtobmdifledegbaaDoor

namespace Go.Proofs.YtobmdifledegbaaDoor
open Go.RowKit

set_option maxRecDepth 100000 in
set_option maxHeartbeats 4000000 in
theorem copy_any {w : World} {v : Value} {ts : List Tab} (h : TSl w v ts) (hl : (ts.length + 1) * 48 ≤ 281474976710656) (he : ∀ k, k < ts.length → ((tabN ts k).ents.length + 1) * 48 ≤ 281474976710656) :
    Calls Tryd.prog 6 #[.agg #[v]] w fun x w' => ∃ v' cs, x = .returned (.agg #[v']) ∧ cs.map Prod.fst = ts ∧ MkdT w.heap.size w' v' cs ∧ Below w.heap.size w w' := by
  obtain ⟨i0, hi, hz0, hz1, hz2⟩ := info_parts infoT
  obtain ⟨i1, hi1, hy0, hy1, hy2⟩ := info_parts infoE
  obtain ⟨ao, cap, rfl, hcap, hat⟩ := h
  obtain ⟨L, hL⟩ : ∃ L, L = ts.length := ⟨_, rfl⟩
  have HL := hide hL
  have HE := hide he
  have HAT := hide hat
  rw [← hL] at hcap hl ⊢
  clear hat he hL
  obtain ⟨WA, hWA⟩ : ∃ WA, WA = (w.alloc (.cells #[.slice ao L cap] 24)).alloc (.cells #[.slice none 0 0] 24) := ⟨_, rfl⟩
  have BA : Hid (Below w.heap.size w WA) := hide (by rw [hWA]; exact ((Below.refl _ _).alloc (Nat.le_refl _) _).alloc ((Below.refl _ _).alloc (Nat.le_refl _) _).size _)
  have Q1 : Hid (Blk WA w.heap.size #[.slice ao L cap] 24) := hide (by rw [hWA]; exact (Blk.new _ _ _).alloc _)
  have Q2 : Hid (Blk WA (w.heap.size + 1) #[.slice none 0 0] 24) := hide (by rw [hWA]; exact Blk.newAt _ _ (by simp) _ _)
  have hWAs : Hid (WA.heap.size = w.heap.size + 2) := hide (by rw [hWA]; simp)
  have HWA := hide hWA.symm
  have q0 := Q1.out.cell 0
  clear hWA
  go_enter Tryd.func6, Tryd.ntmps6
  go_wp2_with (first
    | simp only [HWA.out]
    | (at_make; refine wpList_make_own _ rfl _ _ 22 rfl w.heap.size 27 i0 (.agg #[.string ⟨#[]⟩, .int .i64 0, .slice none 0 0]) 3 Tryd.underlying22 hi hz0 hz1 _ _ _ (L + 1) rfl rfl (by first | rfl | omega) (by rw [hz2]; omega) (by unfold maxLen; omega) (by have := hWAs.out; omega) ?_; intro w1 hrow hgr))
  have hWAs := hWAs.out
  have BA1 := hide (BA.out.grown hgr (by omega) (fun j hj => by cases hj))
  have hG1 : WA.heap.size < w1.heap.size := (World.ownsRow.lt hrow _ rfl).2
  obtain ⟨G, hG⟩ : ∃ G, G = WA.heap.size := ⟨_, rfl⟩
  obtain ⟨O, hO⟩ : ∃ O, O = w1.heap.size := ⟨_, rfl⟩
  obtain ⟨WC, hWC⟩ : ∃ WC, WC = w1.alloc (.cells #[.slice (some ⟨G, 0, none⟩) 0 (L + 1)] 24) := ⟨_, rfl⟩
  have P1 : Hid (Blk WC w.heap.size #[.slice ao L cap] 24) := hide (by
    rw [hWC]
    have q := Q1.out
    unfold Blk at *
    rw [Below.heap_alloc _ _ _ (by omega), hgr.block _ (by omega) (by simp)]
    exact q)
  have P2 : Hid (Blk WC (w.heap.size + 1) #[.slice none 0 0] 24) := hide (by
    rw [hWC]
    have q := Q2.out
    unfold Blk at *
    rw [Below.heap_alloc _ _ _ (by omega), hgr.block _ (by omega) (by simp)]
    exact q)
  have BO : Hid (Blk WC O #[.slice (some ⟨G, 0, none⟩) 0 (L + 1)] 24) := hide (by rw [hWC]; exact Blk.newAt _ _ hO.symm _ _)
  have OG : Hid (WC.ownsRow G 27 3 (.slice (some ⟨G, 0, none⟩) 0 (L + 1)) 0 []) := hide (by
    rw [hWC, hG]
    rcases hrow with ⟨r1, ⟨q, _⟩ | ⟨g', cap', cur, q, _, hh, r⟩⟩
    · cases q
    · simp only [Value.slice.injEq, Option.some.injEq, Addr.mk.injEq] at q
      obtain ⟨⟨rfl, _, _⟩, _, rfl⟩ := q
      exact ⟨r1, .inr ⟨WA.heap.size, L + 1, cur, rfl, Nat.le_refl _, by rw [Below.heap_alloc _ _ _ hG1]; exact hh, r⟩⟩)
  have BC : Hid (Below w.heap.size w WC) := hide (by rw [hWC]; exact BA1.out.alloc BA1.out.size _)
  have hWCs : Hid (WC.heap.size = O + 1) := hide (by rw [hWC, hO]; simp)
  have HWC := hide hWC.symm
  have hNG : Hid (w.heap.size + 2 = G) := hide (by omega)
  have hGO : Hid (G < O) := hide (by omega)
  rw [← hG] at *
  clear hWC hrow hgr Q1 Q2 q0 BA BA1 HWA hG1 hWAs hG
  go_wp2_with (simp only [HWC.out])
  simp only [← hO]
  clear hO HWC
  go_loopw [4] (fun y wr => ∃ (k : Nat) (cs : List (Tab × Value)), k ≤ L ∧ y = .int .i64 (k : Int) ∧ Hid (cs.map Prod.fst = ts.take k) ∧ Hid (Below w.heap.size w wr) ∧ Hid (O < wr.heap.size) ∧ Hid (Blk wr w.heap.size #[.slice ao L cap] 24) ∧ Hid (Blk wr (w.heap.size + 1) #[.slice none 0 0] 24) ∧ Hid (Blk wr O #[.slice (some ⟨G, 0, none⟩) k (L + 1)] 24) ∧ Hid (wr.ownsRow G 27 3 (.slice (some ⟨G, 0, none⟩) k (L + 1)) k (cellsTb cs)) ∧ Hid (∀ c ∈ cs, MkdE (O + 1) wr c)) (fun y _ => L - (intOf y).toNat)
  case atStart => exact ⟨0, [], Nat.zero_le _, rfl, hide rfl, BC, hide (by have := hWCs.out; omega), P1, P2, BO, OG, hide (fun c hc => by simp at hc)⟩
  case round =>
    obtain ⟨k, cs, hk, rfl, HC, HB, HO, R1, R2, RO, RG, RM⟩ := hrel
    clear P1 P2 BO OG BC hWCs
    have q0 := R1.out.cell 0
    by_cases hkl : k < L
    · have hkl' : (k : Int) < (L : Int) := by omega
      have hkt : k < ts.length := by rw [← HL.out]; exact hkl
      obtain ⟨b, o, rfl, hbw, HCL⟩ : ∃ b o, ao = some ⟨b, o, none⟩ ∧ Hid (b < w.heap.size) ∧ Hid (∀ i, i < ts.length → TabAt w b o i (tabN ts i)) := by
        rcases HAT.out with q | ⟨b, o, rfl, q, hcl⟩
        · rw [q] at hkt; simp at hkt
        · exact ⟨b, o, rfl, hide q, hide hcl⟩
      obtain ⟨c0, c1, ve, c2, hes⟩ := (HCL.out k hkt).below hbw.out HB.out
      have heb := HE.out k hkt
      have TK : Hid (ts.take (k + 1) = ts.take k ++ [tabN ts k]) := hide (by rw [List.take_add_one, tabN_some hkt]; rfl)
      obtain ⟨g, hg⟩ : ∃ g, g = tabN ts k := ⟨_, rfl⟩
      rw [← hg] at c0 c1 hes heb TK
      clear hg hkt HCL
      obtain ⟨nm, pr, es⟩ := g
      obtain ⟨a2, cap2, rfl, hc2, hE2⟩ := hes
      simp only [] at c0 c1 c2 heb hc2 hE2
      obtain ⟨M, hM⟩ : ∃ M, M = es.length := ⟨_, rfl⟩
      rw [← hM] at c2 heb hc2
      have HM := hide hM
      obtain ⟨WB, hWB⟩ : ∃ WB, WB = wr.alloc (.cells #[.string nm, .int .i64 pr, .slice a2 M cap2] 27) := ⟨_, rfl⟩
      have BB : Hid (Below wr.heap.size wr WB) := hide (by rw [hWB]; exact (Below.refl _ _).alloc (Nat.le_refl _) _)
      have T1 : Hid (Blk WB wr.heap.size #[.string nm, .int .i64 pr, .slice a2 M cap2] 27) := hide (by rw [hWB]; exact Blk.newAt _ _ rfl _ _)
      have hBs : Hid (WB.heap.size = wr.heap.size + 1) := hide (by rw [hWB]; simp)
      have HE2 := hide hE2
      have HWB := hide hWB.symm
      have T2F : Hid (∀ w2, WB.grownBy w2 none → Blk w2 wr.heap.size #[.string nm, .int .i64 pr, .slice a2 M cap2] 27) := hide (fun w2 hg => by
        have q := T1.out
        have hlt := T1.out.lt
        unfold Blk at *
        rw [hg.block _ hlt (by simp)]
        exact q)
      have hOB : O + 1 ≤ WB.heap.size := by have := HO.out; have := hBs.out; omega
      have HOB := hide hOB
      clear hWB hM hE2 hOB
      have SRCF : Hid (∀ w2, WB.grownBy w2 none → ∀ ad, a2 = some ad → ∀ j u, (cellsEn es)[j]? = some u → w2.cell? (ad.add j) = some u) := hide (by
        rintro w2 hg ad rfl j u hu
        rcases HE2.out with q | ⟨b2, o2, q, q2, hcl⟩
        · rw [q] at hu; simp [cellsEn] at hu
        · obtain rfl := Option.some.inj q
          have h5 := EAt.cells hcl j u hu
          rw [← h5]
          exact (BB.out.grown hg BB.out.size (fun j hj => by cases hj)).cell (p := (⟨b2, o2, none⟩ : Addr).add j) (by rw [Addr.add_lit]; exact q2))
      have NON : Hid (a2 = none → M = 0) := hide (by
        rintro rfl
        rcases HE2.out with q | ⟨b2, o2, q, _⟩
        · rw [HM.out, q]; rfl
        · cases q)
      have HEL : Hid ((cellsEn es).length = M * 4) := hide (by rw [cellsEn_len, HM.out])
      have t2 := T1.out.cell 2
      go_wp2_with (first
        | simp only [HWB.out]
        | (at_make; refine wpList_make_own _ rfl _ _ 25 rfl (O + 1) 33 i1 (.agg #[.string ⟨#[]⟩, .int .i64 0, .string ⟨#[]⟩, .int .i64 0]) 4 Tryd.underlying25 hi1 hy0 hy1 _ _ _ (M + 1) rfl rfl (by first | rfl | omega) (by rw [hy2]; omega) (by unfold maxLen; omega) HOB.out ?_; intro w2 hrow2 hgr2; have t2b := (T2F.out w2 hgr2).cell 2)
        | (at_builtin; refine wpB_append _ rfl _ _ 25 rfl (O + 1) 33 i1 4 Tryd.underlying25 hi1 hy1 WB.heap.size 0 (M + 1) [] rfl hrow2 a2 M cap2 (cellsEn es) rfl HEL.out NON.out (SRCF.out w2 hgr2) (cellsEn_one es) (by omega) ?_; intro w3 hrow3 hgr3))
      have B2 : Hid (Below wr.heap.size wr w2) := hide (BB.out.grown hgr2 BB.out.size (fun j hj => by cases hj))
      have T2 := hide (T2F.out w2 hgr2)
      rw [Nat.zero_add, List.nil_append] at hrow3
      obtain ⟨gE, hgE⟩ : ∃ gE, gE = WB.heap.size := ⟨_, rfl⟩
      have HgE : Hid (gE = wr.heap.size + 1) := hide (by rw [hgE]; exact hBs.out)
      have HgO : Hid (O + 1 ≤ gE) := hide (by rw [hgE]; exact HOB.out)
      rw [← hgE] at hrow3 hgr3
      simp only [← hgE]
      have E3 := hide hrow3
      have B3 : Hid (Below wr.heap.size wr w3) := hide (B2.out.grown hgr3 B2.out.size (fun j hj => by cases hj; have := HgE.out; omega))
      have T3 : Hid (Blk w3 wr.heap.size #[.string nm, .int .i64 pr, .slice a2 M cap2] 27) := hide (by
        have q := T2.out
        have hlt := T2.out.lt
        unfold Blk at *
        rw [hgr3.block _ hlt (by have := HgE.out; simp; omega)]
        exact q)
      clear hrow3 hgr3 t2b hrow2 hgr2 t2 hgE HOB T1 T2F B2 T2 SRCF NON
      have t2 := T3.out.cell 2
      have t3 := T3.out.free 2
      have t2a := (T3.out.alloc (.cells #[.string ⟨#[98, 101, 104, 105, 110, 100]⟩, .int .i64 0, .string ⟨#[]⟩, .int .i64 0] 33)).cell 2
      have n1 : ¬ w3.heap.size = wr.heap.size := (by have := T3.out.lt; omega)
      have n2 : ¬ wr.heap.size = w3.heap.size := (by have := T3.out.lt; omega)
      have n5 : ¬ gE = wr.heap.size := (by have := HgE.out; omega)
      have n6 : (M : Int) ≤ (M : Int) + 1 := by omega
      have OW : Hid ((w3.alloc (.cells #[.string ⟨#[98, 101, 104, 105, 110, 100]⟩, .int .i64 0, .string ⟨#[]⟩, .int .i64 0] 33)).drew.ownsRow (O + 1) 33 4 (.slice (some ⟨gE, 0, none⟩) M (M + 1)) M (cellsEn es)) := hide (own_belowB E3.out ((Below.refl _ _).alloc (Nat.le_refl _) _).drew)
      have NEWS : Hid (∀ j u, [Value.string ⟨#[98, 101, 104, 105, 110, 100]⟩, .int .i64 0, .string ⟨#[]⟩, .int .i64 0][j]? = some u → (w3.alloc (.cells #[.string ⟨#[98, 101, 104, 105, 110, 100]⟩, .int .i64 0, .string ⟨#[]⟩, .int .i64 0] 33)).drew.cell? ((⟨w3.heap.size, 0, none⟩ : Addr).add j) = some u) := hide (cell_four_new _ _ _ _ _ _)
      have ONE : Hid (∀ u ∈ [Value.string ⟨#[98, 101, 104, 105, 110, 100]⟩, .int .i64 0, .string ⟨#[]⟩, .int .i64 0], u.oneCell' = true) := hide (by
        intro u hu
        simp only [List.mem_cons, List.not_mem_nil, or_false] at hu
        rcases hu with rfl | rfl | rfl | rfl <;> rfl)
      have KX : Hid (∀ w4, (w3.alloc (.cells #[.string ⟨#[98, 101, 104, 105, 110, 100]⟩, .int .i64 0, .string ⟨#[]⟩, .int .i64 0] 33)).drew.grownBy w4 (some gE) → Blk w4 wr.heap.size #[.string nm, .int .i64 pr, .slice a2 M cap2] 27) := hide (fun w4 hg => by
        have q := T3.out.alloc (.cells #[.string ⟨#[98, 101, 104, 105, 110, 100]⟩, .int .i64 0, .string ⟨#[]⟩, .int .i64 0] 33)
        have := T3.out.lt
        unfold Blk at *
        rw [hg.block wr.heap.size (by show wr.heap.size < (w3.heap.push _).size; rw [Array.size_push]; omega) (by have := HgE.out; simp; omega)]
        exact q)
      have KB : Hid (∀ w4, (w3.alloc (.cells #[.string ⟨#[98, 101, 104, 105, 110, 100]⟩, .int .i64 0, .string ⟨#[]⟩, .int .i64 0] 33)).drew.grownBy w4 (some gE) → Below wr.heap.size wr w4) := hide (fun w4 hg => (B3.out.alloc B3.out.size _).drew.grown hg (by show _ ≤ (w3.heap.push _).size; rw [Array.size_push]; have := B3.out.size; omega) (fun j hj => by cases hj; have := HgE.out; omega))
      go_wp2_with fail
      go_region_law ((refine step_append_fits (by rfl) _ _ _ (by rfl) (O + 1) 33 i1 4 Tryd.underlying25 hi1 hy1 gE M (M + 1) (cellsEn es) rfl OW.out ⟨w3.heap.size, 0, none⟩ 1 1 [.string ⟨#[98, 101, 104, 105, 110, 100]⟩, .int .i64 0, .string ⟨#[]⟩, .int .i64 0] rfl rfl NEWS.out ONE.out (Nat.le_refl _) ?_; intro w4 hown hgr; have z0 := (KX.out w4 hgr).cell 2; have z1 := (KX.out w4 hgr).free 2))
      all_goals
        have KX4 := hide (KX.out w4 hgr)
        have KB4 := hide (KB.out w4 hgr)
        obtain ⟨W5, hW5⟩ : ∃ W5, W5 = w4.setCell ⟨wr.heap.size, 2, none⟩ (.slice (some ⟨gE, 0, none⟩) M (M + 1)) := ⟨_, rfl⟩
        have B5 : Hid (Below wr.heap.size wr W5) := hide (by rw [hW5]; exact KB4.out.setCell (p := ⟨wr.heap.size, 2, none⟩) (Nat.le_refl _) _)
        have T5 : Hid (Blk W5 wr.heap.size #[.string nm, .int .i64 pr, .slice (some ⟨gE, 0, none⟩) M (M + 1)] 27) := hide (by rw [hW5]; exact KX4.out.set2of3b _)
        have E5 := hide (((Kept.refl wr.heap.size wr.heap.size w4).set wr.heap.size 2 (.slice (some ⟨gE, 0, none⟩) M (M + 1)) (.inl rfl)).own hown (by have := HgE.out; simp [Value.ownBlock]; omega) (by have := HgE.out; simp [Value.ownBlock]; omega))
        rw [← hW5] at E5
        have HW5 := hide hW5.symm
        have RO5 := hide (RO.out.below B5.out RO.out.lt)
        have OG5 := hide (own_belowB RG.out B5.out)
        have OG6 := hide (own_belowB OG5.out ((Below.refl W5.heap.size W5).alloc (Nat.le_refl _) (.cells #[Value.string nm, .int .i64 pr, .slice (some ⟨gE, 0, none⟩) M (M + 1)] 27)))
        have NEW6 : Hid (∀ ad, some (⟨W5.heap.size, 0, none⟩ : Addr) = some ad → ∀ j u, [Value.string nm, .int .i64 pr, .slice (some ⟨gE, 0, none⟩) M (M + 1)][j]? = some u → (W5.alloc (.cells #[Value.string nm, .int .i64 pr, .slice (some ⟨gE, 0, none⟩) M (M + 1)] 27)).cell? (ad.add j) = some u) := hide (fun ad h => by cases h; exact cell_three_new _ _ _ _ _)
        have ONE6 : Hid (∀ u ∈ [Value.string nm, .int .i64 pr, .slice (some ⟨gE, 0, none⟩) M (M + 1)], u.oneCell' = true) := hide (by
          intro u hu
          simp only [List.mem_cons, List.not_mem_nil, or_false] at hu
          rcases hu with rfl | rfl | rfl <;> rfl)
        have RO7F : Hid (∀ w7, (W5.alloc (.cells #[Value.string nm, .int .i64 pr, .slice (some ⟨gE, 0, none⟩) M (M + 1)] 27)).grownBy w7 (some G) → Blk w7 O #[.slice (some ⟨G, 0, none⟩) k (L + 1)] 24) := hide (fun w7 hg => by
          have q := RO5.out.alloc (.cells #[Value.string nm, .int .i64 pr, .slice (some ⟨gE, 0, none⟩) M (M + 1)] 27)
          have hlt := q.lt
          unfold Blk at *
          rw [hg.block O hlt (by have := hGO.out; simp; omega)]
          exact q)
        have K7F : Hid (∀ w7, (W5.alloc (.cells #[Value.string nm, .int .i64 pr, .slice (some ⟨gE, 0, none⟩) M (M + 1)] 27)).grownBy w7 (some G) → Kept O G W5 w7) := hide (fun w7 hg => ((Kept.refl O G W5).alloc _).grown hg (fun g hg => .inr (.inr (by cases hg; rfl))))
        have r0 := RO5.out.cell 0
        have d0 := T5.out.cell 0
        have d1 := T5.out.cell 1
        have d2 := T5.out.cell 2
        have hkL : k + 1 ≤ L + 1 := by omega
        clear hown hgr z0 z1 t2 t3 t2a n1 n2 n5 n6 OW NEWS ONE KX KB KX4 KB4 hW5 c0 c1 c2 E3 T3 B3
        go_wp2_with (first
          | simp only [HW5.out]
          | (at_builtin; refine wpB_append _ rfl _ _ 22 rfl G 27 i0 3 Tryd.underlying22 hi hz1 G k (L + 1) (cellsTb cs) rfl OG6.out (some ⟨W5.heap.size, 0, none⟩) 1 1 [Value.string nm, .int .i64 pr, .slice (some ⟨gE, 0, none⟩) M (M + 1)] rfl rfl (fun h => by cases h) NEW6.out ONE6.out hkL ?_; intro w7 hrow7 hgr7; have z0 := (RO7F.out w7 hgr7).cell 0; have z1 := (RO7F.out w7 hgr7).free 0))
        have K8 : Hid (Kept O G W5 (w7.setCell ⟨O, 0, none⟩ (.slice (some ⟨G, 0, none⟩) (k + 1) (L + 1)))) := hide ((K7F.out w7 hgr7).set O 0 _ (.inl rfl))
        have BW5 := hide (HB.out.trans (B5.out.mono HB.out.size))
        have lO := HO.out
        have lG := hGO.out
        have lN := hNG.out
        have lE := HgE.out
        have lB := B5.out.size
        refine ⟨⟨k + 1, cs ++ [(⟨nm, pr, es⟩, .slice (some ⟨gE, 0, none⟩) M (M + 1))], by omega, by go_num, ?_, ?_, ?_, ?_, ?_, ?_, ?_, ?_⟩, by simp [intOf]; omega⟩
        · exact hide (by rw [List.map_append, HC.out, TK.out]; rfl)
        · exact hide (K8.out.out BW5.out BW5.out.size (by omega) (by omega))
        · exact hide (by have := K8.out.size; omega)
        · exact hide (K8.out.blk (R1.out.below B5.out R1.out.lt) (by omega) (by omega))
        · exact hide (K8.out.blk (R2.out.below B5.out R2.out.lt) (by omega) (by omega))
        · exact hide ((RO7F.out w7 hgr7).set0of1 _)
        · exact hide (by
            have q := ((Kept.refl O O w7).set O 0 (.slice (some ⟨G, 0, none⟩) (k + 1) (L + 1)) (.inl rfl)).own hrow7 (by simp [Value.ownBlock]; omega) (by simp [Value.ownBlock]; omega)
            rw [cellsTb_app]
            exact q)
        · refine hide (fun c hc => ?_)
          rcases List.mem_append.1 hc with q | q
          · exact ((RM.out c q).below B5.out).kept K8.out (by omega) (by omega)
          · simp only [List.mem_cons, List.not_mem_nil, or_false] at q
            subst q
            refine ⟨gE, M + 1, by simp only [HM.out], ?_⟩
            simp only [← HM.out]
            exact K8.out.own E5.out (by simp [Value.ownBlock]; omega) (by simp [Value.ownBlock]; omega)
    · obtain rfl : k = L := by omega
      have hkl' : ¬ (k : Int) < (k : Int) := by omega
      have q1 := RO.out.cell 0
      have q2 := RO.out.free 0
      have OW : Hid ((wr.alloc (.cells #[.string ⟨#[98, 101, 104, 105, 110, 100]⟩, .int .i64 0, .slice none 0 0] 27)).drew.ownsRow G 27 3 (.slice (some ⟨G, 0, none⟩) k (k + 1)) k (cellsTb cs)) := hide (own_belowB RG.out ((Below.refl _ _).alloc (Nat.le_refl _) _).drew)
      have NEWS : Hid (∀ j u, [Value.string ⟨#[98, 101, 104, 105, 110, 100]⟩, .int .i64 0, .slice none 0 0][j]? = some u → (wr.alloc (.cells #[.string ⟨#[98, 101, 104, 105, 110, 100]⟩, .int .i64 0, .slice none 0 0] 27)).drew.cell? ((⟨wr.heap.size, 0, none⟩ : Addr).add j) = some u) := hide (cell_three_new _ _ _ _ _)
      have ONE : Hid (∀ u ∈ [Value.string ⟨#[98, 101, 104, 105, 110, 100]⟩, .int .i64 0, .slice none 0 0], u.oneCell' = true) := hide (by
        intro u hu
        simp only [List.mem_cons, List.not_mem_nil, or_false] at hu
        rcases hu with rfl | rfl | rfl <;> rfl)
      have GK : Hid (∀ w4, (wr.alloc (.cells #[.string ⟨#[98, 101, 104, 105, 110, 100]⟩, .int .i64 0, .slice none 0 0] 27)).drew.grownBy w4 (some G) → Kept O G wr w4) := hide (fun w4 hg => ((Kept.refl O G wr).alloc _).drew.grown hg (fun g hg => .inr (.inr (by cases hg; rfl))))
      have KO : Hid (∀ w4, (wr.alloc (.cells #[.string ⟨#[98, 101, 104, 105, 110, 100]⟩, .int .i64 0, .slice none 0 0] 27)).drew.grownBy w4 (some G) → Blk w4 O #[.slice (some ⟨G, 0, none⟩) k (k + 1)] 24) := hide (fun w4 hg => by
        have q := RO.out.alloc (.cells #[.string ⟨#[98, 101, 104, 105, 110, 100]⟩, .int .i64 0, .slice none 0 0] 27)
        have := RO.out.lt
        unfold Blk at *
        rw [hg.block O (by show O < (wr.heap.push _).size; rw [Array.size_push]; omega) (by have := hGO.out; simp; omega)]
        exact q)
      have n1 : ¬ wr.heap.size = O := (by have := HO.out; omega)
      have n2 : ¬ O = wr.heap.size := (by have := HO.out; omega)
      have n3 : ¬ wr.heap.size = w.heap.size := (by have := HO.out; have := hGO.out; have := hNG.out; omega)
      have n4 : ¬ w.heap.size = wr.heap.size := (by have := HO.out; have := hGO.out; have := hNG.out; omega)
      have n5 : ¬ G = O := (by have := hGO.out; omega)
      have n6 : (k : Int) ≤ (k : Int) + 1 := by omega
      have m0 := (R1.out.alloc (.cells #[.string ⟨#[98, 101, 104, 105, 110, 100]⟩, .int .i64 0, .slice none 0 0] 27)).cell 0
      have m1 := (RO.out.alloc (.cells #[.string ⟨#[98, 101, 104, 105, 110, 100]⟩, .int .i64 0, .slice none 0 0] 27)).cell 0
      have HKL : Hid (cs.length = k) := hide (by have := congrArg List.length HC.out; rw [List.length_map, List.length_take, ← HL.out, Nat.min_self] at this; exact this)
      clear hkl
      go_wp2_with fail
      go_region_law ((refine step_append_fits (by rfl) _ _ _ (by rfl) G 27 i0 3 Tryd.underlying22 hi hz1 G k (k + 1) (cellsTb cs) rfl OW.out ⟨wr.heap.size, 0, none⟩ 1 1 [.string ⟨#[98, 101, 104, 105, 110, 100]⟩, .int .i64 0, .slice none 0 0] rfl rfl NEWS.out ONE.out (Nat.le_refl _) ?_; intro w4 hown hgr; have z0 := (KO.out w4 hgr).cell 0; have z1 := (KO.out w4 hgr).free 0; have z2 := ((GK.out w4 hgr).blk R1.out (by have := hGO.out; have := hNG.out; omega) (by have := hNG.out; omega)).cell 0))
      all_goals
        have K4 := hide (GK.out w4 hgr)
        have KK : Hid (Kept O (w.heap.size + 1) w4 ((w4.setCell ⟨O, 0, none⟩ (.slice (some ⟨G, 0, none⟩) k (k + 1))).setCell ⟨w.heap.size + 1, 0, none⟩ (.slice (some ⟨G, 0, none⟩) k (k + 1)))) := hide (((Kept.refl O (w.heap.size + 1) w4).set O 0 _ (.inl rfl)).set (w.heap.size + 1) 0 _ (.inr (.inr rfl)))
        have HOW := hide hown
        have R24 := K4.out.blk R2.out (by have := hGO.out; have := hNG.out; omega) (by have := hNG.out; omega)
        have R25 := hide (R24.other (a := ⟨O, 0, none⟩) (by show O ≠ w.heap.size + 1; have := hGO.out; have := hNG.out; omega) (.slice (some ⟨G, 0, none⟩) k (k + 1)))
        have R26 := hide (R25.out.set0of1 (.slice (some ⟨G, 0, none⟩) k (k + 1)))
        have b1 := R24.free 0
        have b4 := R24.cell 0
        have b2 : ¬ O = w.heap.size + 1 := (by have := hGO.out; have := hNG.out; omega)
        have b3 : ¬ w.heap.size + 1 = O := (by have := hGO.out; have := hNG.out; omega)
        clear hown hgr z1 z2 q0 q1 q2 m0 m1 n1 n2 n3 n4 n5 n6 OW NEWS ONE GK KO R24 R25
        go_wp2
        refine bodyPost_ret (results_bun1 rfl _ _ _ _ rfl R26.out) rfl ?_
        refine ⟨_, cs, rfl, by rw [HC.out, HL.out, List.take_length], ⟨G, k + 1, ?_, ?_, fun c hc => ?_⟩, ?_⟩
        · rw [HKL.out]
        · rw [HKL.out]
          exact own_baseB (KK.out.own HOW.out (by have := hGO.out; simp [Value.ownBlock]; omega) (by have := hNG.out; simp [Value.ownBlock]; omega)) (by have := hNG.out; omega)
        · exact (((RM.out c hc).kept K4.out (by omega) (by have := hGO.out; omega)).kept KK.out (by omega) (by have := hGO.out; have := hNG.out; omega)).base (by have := hGO.out; have := hNG.out; omega)
        · exact KK.out.out (K4.out.out HB.out HB.out.size (by have := hGO.out; have := hNG.out; omega) (by have := hNG.out; omega)) (by have := HB.out.size; have := K4.out.size; omega) (by have := hGO.out; have := hNG.out; omega) (by omega)

end Go.Proofs.YtobmdifledegbaaDoor
