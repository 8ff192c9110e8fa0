/-
  What bundle's row reads as tables; what the reader reads as a bundle.
  What bundle's Decode answers.
  The document's examples of chapter 12, reckoned.
  The calls whose answers the document fixes.
  What quipulaw12's hides answers: a chain's entry of a key.
  What Find and Keys answer of a bundle's own names, as mathematics.
-/
import Derived.Test.YtpeoigipjcdpjaaDoorBB5
import Derived.Laws.StructEq
import Derived.Test.YtpeoigipjcdpjaaDoorBB3
import Derived.Test.YtpeoigipjcdpjaaDoorBB4
namespace Go.Proofs.YtpeoigipjcdpjaaDoor
open Go.RowKit

theorem three_of {l : List Value} {n : Nat} (h : l.length = (n + 1) * 3) : ∃ r0 r1 r2 r, l = r0 :: r1 :: r2 :: r ∧ r.length = n * 3 := by
  match l, h with
  | r0 :: r1 :: r2 :: r, h => exact ⟨r0, r1, r2, r, rfl, by simp at h; omega⟩
  | [], h => simp at h
  | [_], h => simp at h; omega
  | [_, _], h => simp at h; omega

theorem blk_put3 {w : World} {g m : Nat} {a rest : List Value} {r0 r1 r2 : Value} {T : TypeId} (h : Blk w g (a ++ r0 :: r1 :: r2 :: rest).toArray T) (ha : a.length = m) (v0 v1 v2 : Value) :
    Blk (((w.setCell ⟨g, m, none⟩ v0).setCell ⟨g, m + 1, none⟩ v1).setCell ⟨g, m + 2, none⟩ v2) g (a ++ v0 :: v1 :: v2 :: rest).toArray T := by
  have h0 := blk_snoc (blk_set h ha v0)
  have h1 := blk_snoc (blk_set h0 (m := m + 1) (by simp [ha]) v1)
  have h2 := blk_set h1 (m := m + 2) (by simp [ha]) v2
  simpa using h2
theorem blk_three {w : World} {g m : Nat} {a rest : List Value} {r0 r1 r2 : Value} {T : TypeId} (h : Blk w g (a ++ r0 :: r1 :: r2 :: rest).toArray T) (ha : a.length = m) :
    w.cell? ⟨g, m, none⟩ = some r0 ∧ w.cell? ⟨g, m + 1, none⟩ = some r1 ∧ w.cell? ⟨g, m + 2, none⟩ = some r2 :=
  ⟨blk_at h ha, blk_at (blk_snoc h) (by simp [ha]), blk_at (blk_snoc (blk_snoc h)) (by simp [ha])⟩

def MadeE (B : Nat) (w : World) (c : Tab × Value) : Prop := Made 35 B w c.2 c.1.ents.length (cellsEn c.1.ents)
def MadeT (B : Nat) (w : World) (v : Value) (cs : List (Tab × Value)) : Prop := Made 40 B w v cs.length (cellsTb cs) ∧ ∀ c ∈ cs, MadeE B w c

section
variable {w : World} {R D : Nat} {tx : Value} {s : ByteArray} {st : St}

set_option maxRecDepth 100000 in
set_option maxHeartbeats 4000000 in
theorem rowT {ps : List ByteArray} (h : Rd w R D tx s st) (ht : TxAt w D tx ps) (hp : ps.length ≤ 4096) :
    Calls Tryd.prog 46 #[.func (.func 47) #[.pointer (some ⟨D, 0, none⟩)] #[], .int .i64 16, .func (.func 48) #[.pointer (some ⟨R, 0, none⟩)] #[]] w fun x w' => ∃ v, x = .returned v ∧ ∃ cs, cs.map Prod.fst = (rdRow s 1 16 (rdT ps s) st).1 ∧ MadeT w.heap.size w' v cs ∧ Rd w' R D tx s (rdRow s 1 16 (rdT ps s) st).2 ∧ But D w w' := by
  obtain ⟨i0, hi, hz0, hz1, hz2⟩ := info_parts infoT
  have HC := hide (rget1 h)
  have RE : Hid (rdRow s 1 16 (rdT ps s) st = if 16 < gV s st 1 then ([], gS s st 1) else rdMany (rdT ps s) (gV s st 1) (gS s st 1)) := hide rfl
  generalize rdRow s 1 16 (rdT ps s) st = RR at *
  have HT := hide ht
  have hDw := Blk.lt h.cur
  have hRw := h.blk.lt
  generalize gV s st 1 = V at *
  generalize gS s st 1 = st1 at *
  clear h ht
  by_cases hv : 16 < V
  · rw [if_pos hv] at RE
    have hv' : (16 : Int) < (V : Int) := by omega
    go_enter Tryd.func46, Tryd.ntmps46
    go_wp2_with fail
    refine HC.out.mono ?_
    rintro x w1 ⟨rfl, h1, h2⟩
    have H1 := hide h1
    have H2 := hide h2
    clear h1 h2 HC
    go_wp2
    go_ret
    exact ⟨_, rfl, [], by rw [RE.out]; rfl, ⟨.inl ⟨rfl, rfl⟩, fun c hc => by simp at hc⟩, by rw [RE.out]; exact H1.out, H2.out⟩
  · rw [if_neg hv] at RE
    have hv' : ¬ (16 : Int) < (V : Int) := by omega
    have IT : Hid (∀ X sx, Rd X R D tx s sx → TxAt X D tx ps → Calls Tryd.prog 48 #[.pointer (some ⟨R, 0, none⟩)] X fun x w' => ∃ v, x = .returned (.agg #[.string (rdT ps s sx).1.name, .int .i64 (rdT ps s sx).1.parent, v]) ∧ Made 35 X.heap.size w' v (rdT ps s sx).1.ents.length (cellsEn (rdT ps s sx).1.ents) ∧ Rd w' R D tx s (rdT ps s sx).2 ∧ But D X w') := hide (fun X sx hX hT => rtable hX hT hp)
    go_enter Tryd.func46, Tryd.ntmps46
    go_wp2_with fail
    refine HC.out.mono ?_
    rintro x w1 ⟨rfl, h1, h2⟩
    have H1 := hide h1
    have H2 := hide h2
    have T1 := hide (HT.out.but h2)
    have hs1 := h2.size
    clear h1 h2 HC
    go_wp2_with (at_make; refine wpList_make_full _ rfl _ _ 22 rfl w.heap.size 40 i0 (.agg #[.string ⟨#[]⟩, .int .i64 0, .slice none 0 0]) 3 Tryd.underlying22 hi hz0 hz1 _ _ _ _ V rfl rfl rfl rfl (by rw [hz2]; omega) (by unfold maxLen; omega) hs1 ?_; intro w2 hrow hgr)
    have B12 : Below w1.heap.size w1 w2 := ⟨hgr.os, hgr.tape, hgr.output, hgr.size, fun k hk => hgr.block k hk (by simp)⟩
    obtain ⟨hbk, hlen⟩ := blk_made hrow
    obtain ⟨g, hg⟩ : ∃ g, g = w1.heap.size := ⟨_, rfl⟩
    rw [← hg] at hbk
    rw [← hg]
    have hgD : g ≠ D := by omega
    have hgR : g ≠ R := by omega
    have hgw : w.heap.size ≤ g := by omega
    have hDg : D < g + 1 := by omega
    have Q2 := hide hbk
    have LN := hide hlen
    have R2 := hide (H1.out.below B12)
    have T2 := hide (T1.out.below B12)
    have U2 := hide (H2.out.trans (.of_below B12))
    generalize (madeCells (Value.agg #[.string ⟨#[]⟩, .int .i64 0, .slice none 0 0]).cells (V * 3)).toList = xs at *
    clear hrow hgr B12 hbk hlen H1 T1 H2 hg hs1
    go_wp2
    go_loopw [19] (fun p wr => ∃ (k : Nat) (cs : List (Tab × Value)) (sk : St) (rest : List Value), k ≤ V ∧ p = .int .i64 (k : Int) ∧ Hid (cs.length = k ∧ rest.length = (V - k) * 3 ∧ cs.map Prod.fst ++ (rdMany (rdT ps s) (V - k) sk).1 = RR.1 ∧ (rdMany (rdT ps s) (V - k) sk).2 = RR.2) ∧ Hid (Blk wr g (cellsTb cs ++ rest).toArray 40) ∧ Hid (∀ c ∈ cs, MadeE (g + 1) wr c) ∧ Hid (Rd wr R D tx s sk) ∧ Hid (TxAt wr D tx ps) ∧ Hid (But D w wr)) (fun p _ => V - (intOf p).toNat)
    case atStart => exact ⟨0, [], st1, xs, Nat.zero_le _, rfl, hide ⟨rfl, LN.out, by rw [RE.out]; rfl, by rw [RE.out]; rfl⟩, Q2, hide (fun c hc => by simp at hc), R2, T2, U2⟩
    case round =>
      obtain ⟨k, cs, sk, rest, hk, rfl, HF, HB, HM, HR, HTx, HU⟩ := hrel
      by_cases hlt : k < V
      · have hlt' : (k : Int) < (V : Int) := by omega
        have CI := hide (IT.out wr sk HR.out HTx.out)
        obtain ⟨r0, r1, r2, rest', hrest, hrl⟩ := three_of (l := rest) (n := V - (k + 1)) (by rw [HF.out.2.1]; congr 1; omega)
        subst hrest
        have HRL := hide hrl
        have HN : Hid (cs.map Prod.fst ++ [(rdT ps s sk).1] ++ (rdMany (rdT ps s) (V - (k + 1)) (rdT ps s sk).2).1 = RR.1 ∧ (rdMany (rdT ps s) (V - (k + 1)) (rdT ps s sk).2).2 = RR.2) := hide (by
          have q := HF.out.2.2
          rw [show V - k = (V - (k + 1)) + 1 by omega] at q
          refine ⟨?_, q.2⟩
          rw [← q.1, List.append_assoc]
          rfl)
        have HEL : Hid (cs.length = k) := hide HF.out.1
        have CL : Hid ((cellsTb cs).length = k * 3) := hide (by rw [cellsTb_len, HEL.out])
        have hgx : Hid (g + 1 ≤ wr.heap.size) := hide HB.out.lt
        obtain ⟨e, he⟩ : ∃ e, e = (rdT ps s sk).1 := ⟨_, rfl⟩
        rw [← he] at CI HN
        clear he
        go_wp2_with fail
        refine CI.out.mono ?_
        rintro x w3 ⟨v, rfl, hm3, hr3, hb3⟩
        have M3 := hide (hm3.base hgx.out)
        obtain ⟨ao, cap, rfl⟩ := hm3.slice
        have B3 := hb3.blk HB.out hgD
        have PB := hide (blk_put3 B3 CL.out (.string e.name) (.int .i64 e.parent) (.slice ao e.ents.length cap))
        obtain ⟨b0, b1, b2⟩ := blk_three B3 CL.out
        have f0 := B3.free (k * 3)
        have f1 := B3.free (k * 3 + 1)
        have f2 := B3.free (k * 3 + 2)
        have RN := hide (((hr3.other (i := k * 3) hgR hgD (.string e.name)).other (i := k * 3 + 1) hgR hgD (.int .i64 e.parent)).other (i := k * 3 + 2) hgR hgD (.slice ao e.ents.length cap))
        have T3 := HTx.out.but hb3
        have TN := hide (((T3.other (i := k * 3) HT.out hgw (.string e.name)).other (i := k * 3 + 1) HT.out hgw (.int .i64 e.parent)).other (i := k * 3 + 2) HT.out hgw (.slice ao e.ents.length cap))
        have UN := hide ((((HU.out.trans hb3).setNew (i := k * 3) hgw (.string e.name)).setNew (i := k * 3 + 1) hgw (.int .i64 e.parent)).setNew (i := k * 3 + 2) hgw (.slice ao e.ents.length cap))
        have PN : Hid (Blk (((w3.setCell ⟨g, k * 3, none⟩ (.string e.name)).setCell ⟨g, k * 3 + 1, none⟩ (.int .i64 e.parent)).setCell ⟨g, k * 3 + 2, none⟩ (.slice ao e.ents.length cap)) g (cellsTb (cs ++ [(e, .slice ao e.ents.length cap)]) ++ rest').toArray 40) := hide (by rw [cellsTb_app, List.append_assoc]; exact PB.out)
        have MN : Hid (∀ c ∈ cs ++ [(e, .slice ao e.ents.length cap)], MadeE (g + 1) (((w3.setCell ⟨g, k * 3, none⟩ (.string e.name)).setCell ⟨g, k * 3 + 1, none⟩ (.int .i64 e.parent)).setCell ⟨g, k * 3 + 2, none⟩ (.slice ao e.ents.length cap)) c) := hide (fun c hc => by
          have q : MadeE (g + 1) w3 c := by
            rcases List.mem_append.1 hc with q | q
            · exact Made.but (HM.out c q) hb3 hDg
            · simp at q; subst q; exact M3.out
          exact ((Made.set q (Nat.lt_succ_self g) _).set (Nat.lt_succ_self g) _).set (Nat.lt_succ_self g) _)
        generalize e.ents.length = ne at *
        clear hr3 hb3 hm3 B3 PB T3 CI HB HR HTx HU HF HM M3
        go_wp2
        exact ⟨⟨k + 1, cs ++ [(e, .slice ao ne cap)], _, rest', by omega, by go_num, hide ⟨by rw [List.length_append, HEL.out]; rfl, HRL.out, by rw [List.map_append]; exact HN.out⟩, PN, MN, RN, TN, UN⟩, by simp [intOf]; omega⟩
      · obtain rfl : k = V := by omega
        have hlt' : ¬ (k : Int) < (k : Int) := by omega
        have HE : Hid (cs.map Prod.fst = RR.1 ∧ sk = RR.2 ∧ rest = [] ∧ cs.length = k) := hide (by
          have q := HF.out
          rw [Nat.sub_self] at q
          exact ⟨by have := q.2.2.1; simpa [rdMany] using this, q.2.2.2, List.length_eq_zero_iff.1 (by simpa using q.2.1), q.1⟩)
        clear HF hlt
        go_wp2
        go_ret
        refine ⟨_, rfl, cs, HE.out.1, ⟨.inr ⟨g, by rw [HE.out.2.2.2]; rfl, hgw, ?_⟩, fun c hc => Made.base (HM.out c hc) (by omega)⟩, by rw [← HE.out.2.1]; exact HR.out, HU.out⟩
        have q := HB.out
        rw [HE.out.2.2.1, List.append_nil] at q
        exact q

theorem results_bun1 {fn : Func} {a : Tmp} (h : fn.results = #[.cell a 24]) (tmps : Array Value) (H : Nat) (x0 : Value) (w : World) (ht : tmps.getD a undef = .pointer (some ⟨H, 0, none⟩)) (hp : Blk w H #[x0] 24) :
    (results fn tmps).run Tryd.prog w = .ok (.agg #[x0]) w := by
  have c0 := hp.cell 0
  simp at c0
  rw [Array.getD_eq_getD_getElem?] at ht
  simp [results, h, ht, go_sem, c0]

def rdP (s : ByteArray) : List ByteArray × St := rdRow s 2 4096 (rdX s) (0, 0)
def rdB (s : ByteArray) : List Tab × St := rdRow s 1 16 (rdT (rdP s).1 s) (rdP s).2

set_option maxRecDepth 100000 in
set_option maxHeartbeats 4000000 in
theorem rbundle (h : Rd w R D (.slice none 0 0) s (0, 0)) (hT : U8 w) (hD : OffT D) : Calls Tryd.prog 27 #[.pointer (some ⟨R, 0, none⟩)] w fun x w' => ∃ v, x = .returned (.agg #[v]) ∧ (∃ cs, cs.map Prod.fst = (rdB s).1 ∧ MadeT w.heap.size w' v cs) ∧ Below (min R D) w w' := by
  have hmf : ∀ (fn : Fn) (first cap : Array Value) (w : World), (Instr.makeFunc fn first cap).run Tryd.prog w = .ok (.func fn first cap) w := fun _ _ _ _ => rfl
  obtain ⟨WA, hWA⟩ : ∃ WA, WA = w.alloc (.cells #[.slice none 0 0] 24) := ⟨_, rfl⟩
  have BA : Hid (Below w.heap.size w WA) := hide (by rw [hWA]; exact (Below.refl _ _).alloc (Nat.le_refl _) _)
  have QH : Hid (Blk WA w.heap.size #[.slice none 0 0] 24) := hide (by rw [hWA]; exact Blk.newAt w w.heap.size rfl _ _)
  have HWA := hide hWA.symm
  have RA := hide (h.below BA.out)
  have hDw := Blk.lt h.cur
  have hRw := h.blk.lt
  have hHD : w.heap.size ≠ D := Nat.ne_of_gt hDw
  have hHR : w.heap.size ≠ R := Nat.ne_of_gt hRw
  have hRD := h.ne
  have hRl := rdRow_len s 2 4096 (rdX s) (0, 0)
  have hP : rdRow s 2 4096 (rdX s) (0, 0) = rdP s := rfl
  have C1 := hide (rowX RA.out (hT.below BA.out) hD)
  rw [hP] at C1 hRl
  have RE : Hid (rdB s = rdRow s 1 16 (rdT (rdP s).1 s) (rdP s).2) := hide rfl
  generalize rdB s = RB at *
  generalize rdP s = PP at *
  have c0 := RA.out.blk.cell 0
  have WAs : w.heap.size < WA.heap.size := QH.out.lt
  clear hWA h hT hD hP
  go_enter Tryd.func27, Tryd.ntmps27
  go_wp2_with (simp only [HWA.out])
  refine C1.out.mono ?_
  rintro x w1 ⟨v1, rfl, hm1, hr1, hb1⟩
  obtain ⟨ao, cap, rfl⟩ := hm1.slice
  have y1 := hr1.blk.cell 1
  have f1 := hr1.blk.free 1
  have y0 := hr1.blk.cell 0
  obtain ⟨W1, hW1⟩ : ∃ W1, W1 = w1.setCell ⟨R, 1, none⟩ (.slice ao PP.1.length cap) := ⟨_, rfl⟩
  have HW1 := hide hW1.symm
  have R1 : Hid (Rd W1 R D (.slice ao PP.1.length cap) s PP.2) := hide (by
    rw [hW1]
    refine ⟨?_, Blk.other hr1.cur (a := ⟨R, 1, none⟩) hRD _, hRD, hr1.le, hr1.small⟩
    have q := hr1.blk
    unfold Blk at *
    simp only [World.setCell, Array.getElem?_modify, if_true, q, Option.map_some]
    rfl)
  have T1 : Hid (TxAt W1 D (.slice ao PP.1.length cap) PP.1) := hide (by
    rw [hW1]
    rcases hm1 with ⟨h0, h1⟩ | ⟨g, h1, h2, h3⟩
    · exact .inl ⟨List.length_eq_zero_iff.1 h0, ao, cap, by rw [h0]⟩
    · exact .inr ⟨g, h1, by omega, h3.other (a := ⟨R, 1, none⟩) (by show R ≠ g; omega) _⟩)
  have U1 : Hid (Below (min R D) w W1) := hide (by
    rw [hW1]
    exact (((But.of_below BA.out).trans hb1).to_below (B := min R D) (by omega) (by omega)).setCell (p := ⟨R, 1, none⟩) (by show min R D ≤ R; omega) _)
  have Q1 : Hid (Blk W1 w.heap.size #[.slice none 0 0] 24) := hide (by rw [hW1]; exact (hb1.blk QH.out hHD).other (a := ⟨R, 1, none⟩) hHR.symm _)
  have z0 := R1.out.blk.cell 0
  have C2 := hide (rowT R1.out T1.out hRl)
  rw [← RE.out] at C2
  have hs1 : w.heap.size < W1.heap.size := Q1.out.lt
  clear hm1 hr1 hb1 hW1 C1 c0 RE
  go_wp2_with (simp only [HW1.out])
  refine C2.out.mono ?_
  rintro x w2 ⟨v2, rfl, cs, hcs, hm2, _, hb2⟩
  have Q2 := hide (hb2.blk Q1.out hHD)
  have M2 := hide hm2
  have HCS := hide hcs
  obtain ⟨ao2, cap2, rfl⟩ := hm2.1.slice
  have h0 := Q2.out.cell 0
  have g0 := Q2.out.free 0
  have U2 := hide ((U1.out.trans (hb2.to_below (B := min R D) (by omega) (by omega))).setCell (p := ⟨w.heap.size, 0, none⟩) (by show min R D ≤ w.heap.size; omega) (.slice ao2 cs.length cap2))
  have QN := hide (Q2.out.one (.slice ao2 cs.length cap2))
  have MN : Hid (MadeT w.heap.size (w2.setCell ⟨w.heap.size, 0, none⟩ (.slice ao2 cs.length cap2)) (.slice ao2 cs.length cap2) cs) := hide ⟨(Made.set M2.out.1 hs1 _).base (Nat.le_of_lt hs1), fun c hc => Made.base (Made.set (M2.out.2 c hc) hs1 _) (Nat.le_of_lt hs1)⟩
  clear hm2 hb2 hcs C2 z0 Q1 R1 T1 U1
  go_wp2
  refine bodyPost_ret (results_bun1 rfl _ _ _ _ rfl QN.out) rfl ?_
  exact ⟨_, rfl, ⟨cs, HCS.out, MN.out⟩, U2.out⟩

end

end Go.Proofs.YtpeoigipjcdpjaaDoor

namespace Go.Proofs.YtpeoigipjcdpjaaDoor
open Go.RowKit

theorem cellsEn_get (es : List Ent) : ∀ i, i < es.length → (cellsEn es)[i * 4]? = some (.string (entN es i).key) ∧ (cellsEn es)[i * 4 + 1]? = some (.int .i64 (entN es i).kind) ∧ (cellsEn es)[i * 4 + 2]? = some (.string (entN es i).text) ∧ (cellsEn es)[i * 4 + 3]? = some (.int .i64 (entN es i).num) := by
  induction es with
  | nil => intro i h; simp at h
  | cons d t ih =>
    intro i h
    have e : cellsEn (d :: t) = [.string d.key, .int .i64 d.kind, .string d.text, .int .i64 d.num] ++ cellsEn t := rfl
    rw [e]
    rcases i with _ | i
    · exact ⟨rfl, rfl, rfl, rfl⟩
    · obtain ⟨h0, h1, h2, h3⟩ := ih i (by simpa using h)
      have q : entN (d :: t) (i + 1) = entN t i := rfl
      rw [q]
      refine ⟨?_, ?_, ?_, ?_⟩
      · rw [List.getElem?_append_right (by simp; omega), ← h0]; congr 1; simp; omega
      · rw [List.getElem?_append_right (by simp; omega), ← h1]; congr 1; simp; omega
      · rw [List.getElem?_append_right (by simp; omega), ← h2]; congr 1; simp; omega
      · rw [List.getElem?_append_right (by simp; omega), ← h3]; congr 1; simp; omega

theorem ESl.of_made {B : Nat} {w : World} {c : Tab × Value} (h : MadeE B w c) : ESl w c.2 c.1.ents := by
  rcases h with ⟨h0, h1⟩ | ⟨g, h1, _, h3⟩
  · refine ⟨none, 0, by rw [h1, h0], by omega, .inl (List.length_eq_zero_iff.1 h0)⟩
  · refine ⟨_, _, h1, Nat.le_refl _, .inr ⟨g, 0, rfl, h3.lt, fun i hi => ?_⟩⟩
    obtain ⟨q0, q1, q2, q3⟩ := cellsEn_get c.1.ents i hi
    have hc : ∀ j, w.cell? ⟨g, j, none⟩ = (cellsEn c.1.ents)[j]? := fun j => by rw [h3.cell j]; simp
    refine ⟨?_, ?_, ?_, ?_⟩
    · rw [hc, Nat.zero_add]; exact q0
    · rw [hc, Nat.zero_add]; exact q1
    · rw [hc, Nat.zero_add]; exact q2
    · rw [hc, Nat.zero_add]; exact q3

theorem TSl.of_made {B : Nat} {w : World} {v : Value} {cs : List (Tab × Value)} (h : MadeT B w v cs) : TSl w v (cs.map Prod.fst) := by
  obtain ⟨h, hE⟩ := h
  rcases h with ⟨h0, h1⟩ | ⟨g, h1, _, h3⟩
  · obtain rfl := List.length_eq_zero_iff.1 h0
    exact ⟨none, 0, h1, Nat.le_refl _, .inl rfl⟩
  · refine ⟨some ⟨g, 0, none⟩, cs.length, by rw [List.length_map]; exact h1, by rw [List.length_map]; exact Nat.le_refl _, .inr ⟨g, 0, rfl, h3.lt, fun i hi => ?_⟩⟩
    rw [List.length_map] at hi
    have hci : cs[i]? = some cs[i] := List.getElem?_eq_getElem hi
    have e : tabN (cs.map Prod.fst) i = cs[i].1 := tabN_get (by rw [List.getElem?_map, hci]; rfl)
    obtain ⟨g0, g1, g2⟩ := cellsTb_get cs i _ hci
    have hc : ∀ j, w.cell? ⟨g, j, none⟩ = (cellsTb cs)[j]? := fun j => by rw [h3.cell j]; simp
    rw [e]
    exact ⟨by rw [hc, Nat.zero_add]; exact g0, by rw [hc, Nat.zero_add]; exact g1, cs[i].2, by rw [hc, Nat.zero_add]; exact g2, ESl.of_made (hE _ (List.getElem_mem hi))⟩

theorem MadeT.below {B : Nat} {w w' : World} {v : Value} {cs : List (Tab × Value)} (h : MadeT B w v cs) (hb : Below w.heap.size w w') : MadeT B w' v cs := by
  have q : ∀ {T n v cs}, Made T B w v n cs → Made T B w' v n cs := fun h => by
    rcases h with h | ⟨g, h1, h2, h3⟩
    · exact .inl h
    · exact .inr ⟨g, h1, h2, h3.below hb h3.lt⟩
  exact ⟨q h.1, fun c hc => q (h.2 c hc)⟩

theorem many_all {α : Type} (P : α → Prop) (item : St → α × St) (h : ∀ st, P (item st).1) : ∀ n st, ∀ x ∈ (rdMany item n st).1, P x
  | 0, st, x, hx => by simp [rdMany] at hx
  | n + 1, st, x, hx => by
    have hx' : x ∈ (item st).1 :: (rdMany item n (item st).2).1 := hx
    rcases List.mem_cons.1 hx' with q | q
    · rw [q]; exact h st
    · exact many_all P item h n _ x q
theorem row_all {α : Type} (P : α → Prop) (s : ByteArray) (k most : Nat) (item : St → α × St) (h : ∀ st, P (item st).1) (st : St) : ∀ x ∈ (rdRow s k most item st).1, P x := by
  unfold rdRow
  split
  · intro x hx; simp at hx
  · exact many_all P item h _ _

theorem xV_le (s : ByteArray) (st : St) : (xV s st).size ≤ s.size := by
  unfold xV tgtV
  split
  · unfold txtS
    rw [ByteArray.size_extract]
    omega
  · exact Nat.zero_le _
theorem txN_le {s : ByteArray} {ps : List ByteArray} (h : ∀ p ∈ ps, p.size ≤ s.size) (k : Nat) : (txN ps k).size ≤ s.size := by
  unfold txN
  cases e : ps[k]? with
  | none => exact Nat.zero_le _
  | some p => exact h p (List.mem_of_getElem? e)

theorem rdB_size (s : ByteArray) (hs : s.size ≤ 140737488355328) : SzT (rdB s).1 ∧ (rdB s).1.length ≤ 16 := by
  have hP : ∀ p ∈ (rdP s).1, p.size ≤ s.size := row_all (fun p : ByteArray => p.size ≤ s.size) s 2 4096 (rdX s) (fun st => xV_le s st) (0, 0)
  have hE : ∀ st, (rdE (rdP s).1 s st).1.key.size ≤ s.size ∧ (rdE (rdP s).1 s st).1.text.size ≤ s.size := by
    intro st
    unfold rdE
    simp only
    split
    · exact ⟨txN_le hP _, Nat.zero_le _⟩
    · exact ⟨txN_le hP _, txN_le hP _⟩
  have hT : ∀ t ∈ (rdB s).1, t.name.size ≤ s.size ∧ t.ents.length ≤ 1024 ∧ ∀ e ∈ t.ents, e.key.size ≤ s.size ∧ e.text.size ≤ s.size := by
    refine row_all (fun t : Tab => t.name.size ≤ s.size ∧ t.ents.length ≤ 1024 ∧ ∀ e ∈ t.ents, e.key.size ≤ s.size ∧ e.text.size ≤ s.size) s 1 16 (rdT (rdP s).1 s) (fun st => ⟨txN_le hP _, rdRow_len _ _ _ _ _, ?_⟩) (rdP s).2
    exact row_all (fun e : Ent => e.key.size ≤ s.size ∧ e.text.size ≤ s.size) s 2 1024 (rdE (rdP s).1 s) hE _
  refine ⟨fun i => ?_, rdRow_len _ _ _ _ _⟩
  unfold tabN
  cases e : (rdB s).1[i]? with
  | none => exact ⟨Nat.zero_le _, Nat.zero_le _, fun j => ⟨Nat.zero_le _, Nat.zero_le _⟩⟩
  | some t =>
    obtain ⟨h1, h2, h3⟩ := hT t (List.mem_of_getElem? e)
    refine ⟨Nat.le_trans h1 hs, Nat.le_trans h2 (by decide), fun j => ?_⟩
    show (entN t.ents j).key.size ≤ _ ∧ (entN t.ents j).text.size ≤ _
    unfold entN
    cases e2 : t.ents[j]? with
    | none => exact ⟨Nat.zero_le _, Nat.zero_le _⟩
    | some x =>
      obtain ⟨h4, h5⟩ := h3 x (List.mem_of_getElem? e2)
      exact ⟨Nat.le_trans h4 hs, Nat.le_trans h5 hs⟩

def decOk (s : ByteArray) : Bool := decide (checkT (rdB s).1 = 0 ∧ encT (rdB s).1 = bys s)

def DecA (s : ByteArray) (w : World) (x : Ending) (w' : World) : Prop :=
  (decOk s = true → ∃ v cs, x = .returned (.tuple #[.agg #[v], .int .i64 0]) ∧ cs.map Prod.fst = (rdB s).1 ∧ MadeT w.heap.size w' v cs) ∧ (decOk s = false → x = .returned (.tuple #[.agg #[.slice none 0 0], .int .i64 120])) ∧ Below w.heap.size w w'
theorem DecA.ok {s : ByteArray} {w w' : World} {x : Ending} (h : decOk s = true) (v : Value) (cs : List (Tab × Value)) (h1 : x = .returned (.tuple #[.agg #[v], .int .i64 0])) (h2 : cs.map Prod.fst = (rdB s).1) (h3 : MadeT w.heap.size w' v cs) (h4 : Below w.heap.size w w') : DecA s w x w' := ⟨fun _ => ⟨v, cs, h1, h2, h3⟩, fun q => by (rw [h] at q; cases q), h4⟩
theorem DecA.no {s : ByteArray} {w w' : World} {x : Ending} (h : decOk s = false) (h1 : x = .returned (.tuple #[.agg #[.slice none 0 0], .int .i64 120])) (h4 : Below w.heap.size w w') : DecA s w x w' := ⟨fun q => by (rw [h] at q; cases q), fun _ => h1, h4⟩

theorem results_bun2 {fn : Func} {a c : Tmp} (h : fn.results = #[.cell a 24, .tmp c]) (tmps : Array Value) (H : Nat) (x0 : Value) (w : World) (ht : tmps.getD a undef = .pointer (some ⟨H, 0, none⟩)) (hp : Blk w H #[x0] 24) :
    (results fn tmps).run Tryd.prog w = .ok (.tuple #[.agg #[x0], tmps.getD c undef]) w := by
  have c0 := hp.cell 0
  simp at c0
  rw [Array.getD_eq_getD_getElem?] at ht
  simp [results, h, ht, go_sem, c0]

set_option maxRecDepth 100000 in
set_option maxHeartbeats 4000000 in
theorem Decode_any (s : ByteArray) (w : World) (hs : s.size ≤ 140737488355328) (hT : U8 w) : Calls Tryd.prog 8 #[.string s] w fun x w' => DecA s w x w' := by
  obtain ⟨WA, hWA⟩ : ∃ WA, WA = w.alloc (.cells #[.slice none 0 0] 24) := ⟨_, rfl⟩
  have BA : Hid (Below w.heap.size w WA) := hide (by rw [hWA]; exact (Below.refl _ _).alloc (Nat.le_refl _) _)
  have QH : Hid (Blk WA w.heap.size #[.slice none 0 0] 24) := hide (by rw [hWA]; exact Blk.newAt w w.heap.size rfl _ _)
  have HWA := hide hWA.symm
  have TA := hide (hT.below BA.out)
  have C1 := hide (New_any s WA)
  have hWAs : WA.heap.size = w.heap.size + 1 := by rw [hWA]; simp
  obtain ⟨D, hD⟩ : ∃ D, D = WA.heap.size := ⟨_, rfl⟩
  rw [← hD] at C1
  have hDs : D = w.heap.size + 1 := by rw [hD, hWAs]
  obtain ⟨hsz, hln⟩ := rdB_size s hs
  have HSZ := hide hsz
  have HD := hide hD
  have HDs := hide hDs
  have HT0 := hide hT
  clear hWA hT hD hWAs hsz hDs
  go_enter Tryd.func8, Tryd.ntmps8
  go_wp2_with (simp only [HWA.out])
  refine C1.out.mono ?_
  rintro x w1 ⟨rfl, hc1, hb1⟩
  obtain ⟨WB, hWB⟩ : ∃ WB, WB = w1.alloc (.cells #[.pointer (some ⟨D, 0, none⟩), .slice none 0 0] 71) := ⟨_, rfl⟩
  have BB : Below w1.heap.size w1 WB := by rw [hWB]; exact (Below.refl _ _).alloc (Nat.le_refl _) _
  have QR : Blk WB w1.heap.size #[.pointer (some ⟨D, 0, none⟩), .slice none 0 0] 71 := by rw [hWB]; exact Blk.newAt w1 w1.heap.size rfl _ _
  have HWB := hide hWB.symm
  have hDl := Blk.lt hc1
  have R1 : Hid (Rd WB w1.heap.size D (.slice none 0 0) s (0, 0)) := hide ⟨QR, hc1.below BB, by omega, Nat.zero_le _, hs⟩
  have hb1' : Below WA.heap.size WA WB := by rw [← HD.out]; exact hb1.trans (BB.mono (Nat.le_of_lt hDl))
  have TB := hide (TA.out.below hb1')
  have OD := hide (TA.out.off (D := D) (by rw [HD.out]; exact Nat.le_refl _))
  have C2 := hide (rbundle R1.out TB.out OD.out)
  have U1 := hide (BA.out.trans (hb1'.mono BA.out.size))
  have Q1 := hide (QH.out.below hb1' QH.out.lt)
  have hmin : Hid (w.heap.size < min w1.heap.size D) := hide (by have := HDs.out; omega)
  have hwB : Hid (w.heap.size < WB.heap.size) := hide Q1.out.lt
  clear hc1 hb1 BB QR hb1' C1 hDl hWB
  go_wp2_with (simp only [HWB.out])
  refine C2.out.mono ?_
  rintro x w2 ⟨v2, rfl, ⟨cs, hcs, hm2⟩, hb2⟩
  generalize hR : w1.heap.size = R at *
  obtain ⟨ao, cap, rfl⟩ := hm2.1.slice
  obtain ⟨WC, hWC⟩ : ∃ WC, WC = w2.alloc (.cells #[.slice ao cs.length cap] 24) := ⟨_, rfl⟩
  have BC : Hid (Below w2.heap.size w2 WC) := hide (by rw [hWC]; exact (Below.refl _ _).alloc (Nat.le_refl _) _)
  have QC : Hid (Blk WC w2.heap.size #[.slice ao cs.length cap] 24) := hide (by rw [hWC]; exact Blk.newAt w2 w2.heap.size rfl _ _)
  have HWC := hide hWC.symm
  have M2 : Hid (MadeT WB.heap.size WC (.slice ao cs.length cap) cs) := hide (hm2.below BC.out)
  have U2 := hide (U1.out.trans ((hb2.mono (Nat.le_of_lt hmin.out)).trans (BC.out.mono (Nat.le_trans (Nat.le_of_lt hwB.out) hb2.size))))
  have Q2 := hide ((Q1.out.below hb2 hmin.out).below BC.out (Blk.lt (Q1.out.below hb2 hmin.out)))
  have TC := hide (HT0.out.below U2.out)
  have HCS := hide hcs
  have EN : Hid (Calls Tryd.prog 6 #[.agg #[.slice ao cs.length cap]] WC fun e w' => e = .returned (encA (rdB s).1) ∧ Below WC.heap.size WC w') := hide (Encode_any (by rw [← HCS.out]; exact TSl.of_made M2.out) (by omega) HSZ.out TC.out)
  have q0 := QC.out.cell 0
  have hCH : Hid (w2.heap.size ≠ w.heap.size) := hide (Nat.ne_of_gt (Blk.lt (Q1.out.below hb2 hmin.out)))
  have RE : Hid (encA (rdB s).1 = .tuple #[.string (if checkT (rdB s).1 = 0 then ⟨(encT (rdB s).1).toArray⟩ else ⟨#[]⟩), .int .i64 (checkT (rdB s).1 : Int)]) := hide rfl
  have DO : Hid (decOk s = decide (checkT (rdB s).1 = 0 ∧ encT (rdB s).1 = bys s)) := hide rfl
  obtain ⟨C, hC⟩ : ∃ C, C = checkT (rdB s).1 := ⟨_, rfl⟩
  rw [← hC] at RE DO
  rw [RE.out] at EN
  obtain ⟨X, hX⟩ : ∃ X : ByteArray, X = (if C = 0 then ⟨(encT (rdB s).1).toArray⟩ else ⟨#[]⟩) := ⟨_, rfl⟩
  rw [← hX] at EN
  have DX : Hid (decOk s = (decide (C = 0) && (X.toList == s.toList))) := hide (by
    rw [DO.out]
    by_cases h0 : C = 0
    · rw [hX, if_pos h0, eqT, decide_eq_true h0, Bool.true_and]
      refine decide_eq_decide.2 ⟨fun h => by (rw [h.2]; exact mkByB s), fun h => ⟨h0, congrArg bys h⟩⟩
    · rw [decide_eq_false h0, Bool.false_and]
      exact decide_eq_false (fun h => h0 h.1))
  clear hC hX RE DO hR hWC hm2 hb2 hcs C2
  go_wp2_with (simp only [HWC.out])
  refine EN.out.mono ?_
  rintro x w3 ⟨rfl, hb3⟩
  have U3 := hide (U2.out.trans (hb3.mono U2.out.size))
  have Q3 := hide (Q2.out.below hb3 Q2.out.lt)
  have M3 := hide (M2.out.below hb3)
  have p0 := (QC.out.below hb3 QC.out.lt).cell 0
  have h0 := Q3.out.cell 0
  have g0 := Q3.out.free 0
  have QN := hide (Q3.out.one (.slice none 0 0))
  have QY := hide (Q3.out.one (.slice ao cs.length cap))
  have UN := hide (U3.out.setCell (p := ⟨w.heap.size, 0, none⟩) (Nat.le_refl _) (.slice none 0 0))
  have UY := hide (U3.out.setCell (p := ⟨w.heap.size, 0, none⟩) (Nat.le_refl _) (.slice ao cs.length cap))
  have MY : Hid (MadeT (w.heap.size) (w3.setCell ⟨w.heap.size, 0, none⟩ (.slice ao cs.length cap)) (.slice ao cs.length cap) cs) := hide ⟨(Made.set M3.out.1 hwB.out _).base (Nat.le_of_lt hwB.out), fun c hc => Made.base (Made.set (M3.out.2 c hc) hwB.out _) (Nat.le_of_lt hwB.out)⟩
  clear hb3 EN q0
  by_cases hC0 : C = 0
  · subst hC0
    cases hx : (X.toList == s.toList) with
    | true =>
      have OK : Hid (decOk s = true) := hide (by rw [DX.out, hx]; rfl)
      clear DX
      go_wp2
      refine bodyPost_ret (results_bun2 rfl _ _ _ _ rfl QY.out) rfl ?_
      exact DecA.ok OK.out _ cs rfl HCS.out MY.out UY.out
    | false =>
      have OK : Hid (decOk s = false) := hide (by rw [DX.out, hx]; rfl)
      clear DX
      go_wp2
      refine bodyPost_ret (results_bun2 rfl _ _ _ _ rfl QN.out) rfl ?_
      exact DecA.no OK.out rfl UN.out
  · have OK : Hid (decOk s = false) := hide (by rw [DX.out, decide_eq_false hC0]; rfl)
    have hC' : ((C : Int) == 0) = false := beq_eq_false_iff_ne.2 (by omega)
    have hC2 : ((C : Int) != 0) = true := by rw [bne, hC']; rfl
    clear DX
    go_wp2
    refine bodyPost_ret (results_bun2 rfl _ _ _ _ rfl QN.out) rfl ?_
    exact DecA.no OK.out rfl UN.out

end Go.Proofs.YtpeoigipjcdpjaaDoor

namespace Go.Proofs.YtpeoigipjcdpjaaDoor
open Go.RowKit Go.Maps

theorem pool_eq {l : List ByteArray} {ps : List (List UInt8)} (h1 : ps.Pairwise (· < ·)) (h2 : ∀ x, x ∈ ps ↔ ∃ t ∈ l, bys t = x) : poolL l = ps := by
  have n1 : (poolL l).Pairwise (· < ·) := pool_rise l
  have n2 : ps.Nodup := h1.imp (fun {a b} h e => by rw [e] at h; exact List.lt_irrefl _ h)
  refine List.Perm.eq_of_pairwise (le := fun a b => a < b) (fun a b _ _ q1 q2 => absurd (List.lt_trans q1 q2) (List.lt_irrefl _)) n1 h1 ((List.perm_ext_iff_of_nodup (pool_nodup l) n2).2 fun x => ?_)
  rw [pool_mem, h2]

def xA : ByteArray := ⟨#[97]⟩
def xB : ByteArray := ⟨#[98]⟩
def xC : ByteArray := ⟨#[99]⟩
def xD : ByteArray := ⟨#[100]⟩
def xX : ByteArray := ⟨#[120]⟩
def xY : ByteArray := ⟨#[121]⟩
def xR : ByteArray := ⟨#[114]⟩
def xO : ByteArray := ⟨#[]⟩
def xEn : ByteArray := ⟨#[101, 110]⟩
def xRoot : ByteArray := ⟨#[114, 111, 111, 116]⟩
def xOne : ByteArray := ⟨#[0, 1, 0, 1, 114, 1, 0, 0, 255, 0, 0]⟩

def esR : List Ent := [⟨xA, 0, xX, 0⟩, ⟨xB, 2, xA, 0⟩, ⟨xC, 1, xO, 7⟩]
def esE : List Ent := [⟨xA, 0, xY, 0⟩]
def rootT : List Tab := [⟨xRoot, -1, esR⟩, ⟨xEn, 0, esE⟩]
def oneT : List Tab := [⟨xR, -1, []⟩]

set_option maxRecDepth 100000 in
theorem fx_check1 : checkT oneT = 0 := by kernel_rfl
theorem fx_pool1 : poolL (textsL oneT) = [[114]] := pool_eq (by simp) (fun x => by
  constructor
  · intro h; simp at h; subst h; exact ⟨xR, by simp [textsL, oneT, tabL], rfl⟩
  · rintro ⟨t, ht, rfl⟩
    have : t = xR := by simpa [textsL, oneT, tabL] using ht
    subst this
    exact List.mem_singleton.2 rfl)
theorem fx_enc : encT oneT = bys xOne := by unfold encT; rw [fx_pool1]; kernel_rfl
theorem fx_find1 : findT rootT xEn xB = (⟨xA, 0, xY, 0⟩, 0) := by kernel_rfl
theorem fx_find2 : findT rootT xEn xD = (Ent.zero, 125) := by kernel_rfl
theorem fx_ch : chE rootT xEn = 0 := by kernel_rfl
theorem fx_keys : (poolL (keysL xO (chL rootT xEn))).length = 3 := by rw [pool_len]; kernel_rfl
theorem fx_read : (rdB xOne).1 = oneT := by kernel_rfl
theorem fx_dec : decOk xOne = true := by unfold decOk; rw [fx_read]; exact decide_eq_true ⟨fx_check1, fx_enc⟩

end Go.Proofs.YtpeoigipjcdpjaaDoor

namespace Go.Proofs.YtpeoigipjcdpjaaDoor
open Go.RowKit

set_option maxRecDepth 100000 in
set_option maxHeartbeats 2000000 in
theorem root_any (w : World) : Calls Tryd.prog 29 #[] w fun e w' => ∃ v, e = .returned (.agg #[v]) ∧ TSl w' v rootT ∧ Below w.heap.size w w' := by
  go_enter Tryd.func29, Tryd.ntmps29
  go_wp2
  refine bodyPost_ret (results_bun1 rfl _ _ _ _ rfl ((((Blk.new _ _ _).alloc _).alloc _).alloc _)) rfl ?_
  refine ⟨_, rfl, ?_, ((((Below.refl _ _).alloc (Nat.le_refl _) _).alloc (by simp) _).alloc (by simp; omega) _).alloc (by simp; omega) _⟩
  refine TSl.of_made (B := 0) (cs := [(⟨xRoot, -1, esR⟩, .slice (some ⟨w.heap.size + 1, 0, none⟩) 3 3), (⟨xEn, 0, esE⟩, .slice (some ⟨w.heap.size + 1 + 1, 0, none⟩) 1 1)]) ⟨.inr ⟨w.heap.size + 1 + 1 + 1, rfl, Nat.zero_le _, Blk.newAt _ _ (by simp) _ _⟩, fun c hc => ?_⟩
  simp only [List.mem_cons, List.not_mem_nil, or_false] at hc
  rcases hc with rfl | rfl
  · exact .inr ⟨w.heap.size + 1, rfl, Nat.zero_le _, ((Blk.newAt _ _ (by simp) _ _).alloc _).alloc _⟩
  · exact .inr ⟨w.heap.size + 1 + 1, rfl, Nat.zero_le _, (Blk.newAt _ _ (by simp) _ _).alloc _⟩

theorem szT_root : SzT rootT ∧ SzT oneT := by
  constructor
  · intro i
    rcases i with _ | _ | i
    · refine ⟨by decide, by decide, fun j => ?_⟩
      rcases j with _ | _ | _ | j <;> first | exact ⟨by decide, by decide⟩ | exact ⟨Nat.zero_le _, Nat.zero_le _⟩
    · refine ⟨by decide, by decide, fun j => ?_⟩
      rcases j with _ | j <;> first | exact ⟨by decide, by decide⟩ | exact ⟨Nat.zero_le _, Nat.zero_le _⟩
    · exact ⟨Nat.zero_le _, Nat.zero_le _, fun j => ⟨Nat.zero_le _, Nat.zero_le _⟩⟩
  · intro i
    rcases i with _ | i
    · exact ⟨by decide, by decide, fun j => ⟨Nat.zero_le _, Nat.zero_le _⟩⟩
    · exact ⟨Nat.zero_le _, Nat.zero_le _, fun j => ⟨Nat.zero_le _, Nat.zero_le _⟩⟩

set_option maxRecDepth 100000 in
set_option maxHeartbeats 4000000 in
theorem fixed_any (w : World) (hT : U8 w) : Calls Tryd.prog 10 #[] w fun e w' => e = .returned (.bool true) ∧ Below w.heap.size w w' := by
  obtain ⟨WA, hWA⟩ : ∃ WA, WA = w.alloc (.cells #[.string xR, .int .i64 (-1), .slice none 0 0] 40) := ⟨_, rfl⟩
  have BA : Hid (Below w.heap.size w WA) := hide (by rw [hWA]; exact (Below.refl _ _).alloc (Nat.le_refl _) _)
  have TS : TSl WA (.slice (some ⟨w.heap.size, 0, none⟩) 1 1) oneT := TSl.of_made (B := 0) (cs := [(⟨xR, -1, []⟩, .slice none 0 0)]) ⟨.inr ⟨w.heap.size, rfl, Nat.zero_le _, by rw [hWA]; exact Blk.newAt _ _ rfl _ _⟩, fun c hc => by
    simp only [List.mem_cons, List.not_mem_nil, or_false] at hc
    subst hc
    exact .inl ⟨rfl, rfl⟩⟩
  have HWA : Hid (w.alloc (.cells #[.string ⟨#[114]⟩, .int .i64 (-1), .slice none 0 0] 40) = WA) := hide hWA.symm
  have C1 := hide (Encode_any TS (by decide) szT_root.2 (hT.below BA.out))
  have e1 : encA oneT = .tuple #[.string xOne, .int .i64 0] := by
    unfold encA
    rw [fx_check1, if_pos rfl, fx_enc]
    rfl
  rw [e1] at C1
  have HT := hide hT
  have RT := hide root_any
  have FB : Hid (∀ X v, TSl X v rootT → U8 X → Calls Tryd.prog 11 #[.agg #[v], .string ⟨#[101, 110]⟩, .string ⟨#[98]⟩] X fun e w' => e = .returned (.tuple #[.agg #[.string ⟨#[97]⟩, .int .i64 0, .string ⟨#[121]⟩, .int .i64 0], .int .i64 0]) ∧ Below X.heap.size X w') := hide (fun X v h1 h2 => (Find_any xEn xB h1 (by decide) szT_root.1 h2).mono (fun e w' q => ⟨by rw [q.1, fx_find1]; rfl, q.2⟩))
  have FD : Hid (∀ X v, TSl X v rootT → U8 X → Calls Tryd.prog 11 #[.agg #[v], .string ⟨#[101, 110]⟩, .string ⟨#[100]⟩] X fun e w' => e = .returned (.tuple #[.agg #[.string ⟨#[]⟩, .int .i64 0, .string ⟨#[]⟩, .int .i64 0], .int .i64 125]) ∧ Below X.heap.size X w') := hide (fun X v h1 h2 => (Find_any xEn xD h1 (by decide) szT_root.1 h2).mono (fun e w' q => ⟨by rw [q.1, fx_find2]; rfl, q.2⟩))
  have KY : Hid (∀ X v, TSl X v rootT → U8 X → Calls Tryd.prog 13 #[.agg #[v], .string ⟨#[101, 110]⟩, .string ⟨#[]⟩] X fun e w' => (∃ q cap, e = .returned (.tuple #[.slice (some ⟨q, 0, none⟩) 3 cap, .int .i64 0])) ∧ Below X.heap.size X w') := hide (fun X v h1 h2 => (Keys_any xEn xO h1 (by decide) szT_root.1 h2).mono (fun e w' q => ⟨by obtain ⟨a, b, c, _⟩ := q.1 fx_ch; rw [fx_keys] at c; exact ⟨a, b, c⟩, q.2.2⟩))
  have DC : Hid (∀ X, U8 X → Calls Tryd.prog 8 #[.string xOne] X fun e w' => (∃ ao cap, e = .returned (.tuple #[.agg #[.slice ao 1 cap], .int .i64 0])) ∧ Below X.heap.size X w') := hide (fun X h2 => (Decode_any xOne X (by decide) h2).mono (fun e w' q => ⟨by
    obtain ⟨v, cs, h3, h4, h5⟩ := q.1 fx_dec
    rw [fx_read] at h4
    obtain ⟨ao, cap, rfl⟩ := h5.1.slice
    have hl : cs.length = 1 := by rw [← List.length_map (f := Prod.fst), h4]; rfl
    rw [hl] at h3
    exact ⟨ao, cap, h3⟩, q.2.2⟩))
  clear hWA TS e1 hT
  have hxo : (xOne.toList == [0, 1, 0, 1, 114, 1, 0, 0, 255, 0, 0]) = true := by kernel_rfl
  go_enter Tryd.func10, Tryd.ntmps10
  go_wp2_with (simp only [HWA.out])
  refine C1.out.mono ?_
  rintro x w1 ⟨rfl, hb1⟩
  have B1 := hide (BA.out.trans (hb1.mono BA.out.size))
  clear hb1 C1 BA HWA
  go_wp2_with fail
  refine (RT.out w1).mono ?_
  rintro x w2 ⟨v2, rfl, ht2, hb2⟩
  have B2 := hide (B1.out.trans (hb2.mono B1.out.size))
  have C2 := hide (FB.out w2 v2 ht2 (HT.out.below B2.out))
  clear ht2 hb2 FB B1
  go_wp2_with fail
  refine C2.out.mono ?_
  rintro x w3 ⟨rfl, hb3⟩
  have B3 := hide (B2.out.trans (hb3.mono B2.out.size))
  have B3' := hide (B3.out.alloc B3.out.size (.cells #[.string ⟨#[97]⟩, .int .i64 0, .string ⟨#[121]⟩, .int .i64 0] 35))
  have QX := hide (Blk.newAt w3 w3.heap.size rfl #[.string ⟨#[97]⟩, .int .i64 0, .string ⟨#[121]⟩, .int .i64 0] 35)
  have C3 := hide (RT.out (w3.alloc (.cells #[.string ⟨#[97]⟩, .int .i64 0, .string ⟨#[121]⟩, .int .i64 0] 35)))
  clear hb3 C2 B2 B3
  go_wp2_with fail
  refine C3.out.mono ?_
  rintro x w4 ⟨v4, rfl, ht4, hb4⟩
  have B4 := hide (B3'.out.trans (hb4.mono B3'.out.size))
  have Q4 := hide (QX.out.below hb4 QX.out.lt)
  have C4 := hide (FD.out w4 v4 ht4 (HT.out.below B4.out))
  clear ht4 hb4 FD C3 B3' QX
  go_wp2_with fail
  refine C4.out.mono ?_
  rintro x w5 ⟨rfl, hb5⟩
  have B5 := hide (B4.out.trans (hb5.mono B4.out.size))
  have Q5 := hide ((Q4.out.below hb5 Q4.out.lt).alloc (.cells #[.string ⟨#[]⟩, .int .i64 0, .string ⟨#[]⟩, .int .i64 0] 35))
  have B5' := hide (B5.out.alloc B5.out.size (.cells #[.string ⟨#[]⟩, .int .i64 0, .string ⟨#[]⟩, .int .i64 0] 35))
  have C5 := hide (RT.out (w5.alloc (.cells #[.string ⟨#[]⟩, .int .i64 0, .string ⟨#[]⟩, .int .i64 0] 35)))
  clear hb5 C4 Q4 B4 B5 RT
  go_wp2_with fail
  refine C5.out.mono ?_
  rintro x w6 ⟨v6, rfl, ht6, hb6⟩
  have B6 := hide (B5'.out.trans (hb6.mono B5'.out.size))
  have Q6 := hide (Q5.out.below hb6 Q5.out.lt)
  have C6 := hide (KY.out w6 v6 ht6 (HT.out.below B6.out))
  clear ht6 hb6 KY C5 B5' Q5
  go_wp2_with fail
  refine C6.out.mono ?_
  rintro x w7 ⟨⟨q, cq, rfl⟩, hb7⟩
  have B7 := hide (B6.out.trans (hb7.mono B6.out.size))
  have Q7 := hide (Q6.out.below hb7 Q6.out.lt)
  have C7 := hide (DC.out w7 (HT.out.below B7.out))
  clear hb7 C6 Q6 B6 DC HT
  go_wp2_with fail
  refine C7.out.mono ?_
  rintro x w8 ⟨⟨ao, cap, rfl⟩, hb8⟩
  have B8 := hide ((B7.out.trans (hb8.mono B7.out.size)).alloc (B7.out.trans (hb8.mono B7.out.size)).size (.cells #[.slice ao 1 cap] 24))
  have Q8 := hide ((Q7.out.below hb8 Q7.out.lt).alloc (.cells #[.slice ao 1 cap] 24))
  have y0 := Q8.out.cell 0
  have y1 := Q8.out.cell 1
  have y2 := Q8.out.cell 2
  have y3 := Q8.out.cell 3
  clear hb8 C7 Q7 B7
  go_wp2
  go_ret
  exact ⟨rfl, B8.out⟩

end Go.Proofs.YtpeoigipjcdpjaaDoor

namespace Go.Proofs.YtpeoigipjcdpjaaDoor
open Go.RowKit

theorem findE_drop (es : List Ent) (key : ByteArray) (j : Nat) (hj : j < es.length) : findE (es.drop j) key = if (entN es j).key = key then some (entN es j) else findE (es.drop (j + 1)) key := by
  rw [List.drop_eq_getElem_cons hj]
  have e : entN es j = es[j] := entN_get (List.getElem?_eq_getElem hj)
  rw [e]
  unfold findE
  rw [List.find?_cons]
  by_cases h : es[j].key = key
  · rw [if_pos h, decide_eq_true h]
  · rw [if_neg h, decide_eq_false h]

theorem firstT_cons (t : Tab) (cs : List Tab) (key : ByteArray) : firstT (t :: cs) key = match findE t.ents key with | some e => some e | none => firstT cs key := by
  unfold firstT
  rw [List.findSome?_cons]
  cases findE t.ents key <;> rfl

set_option maxRecDepth 100000 in
set_option maxHeartbeats 4000000 in
theorem hides_any {w : World} {v : Value} {ts : List Tab} (k0 : Nat) (key : ByteArray) (h : TSl w v ts) (hd : Down ts) (hk0 : k0 < ts.length) (he : ∀ k, (tabN ts k).ents.length ≤ 1024) :
    Calls Tryd.prog 12 #[.agg #[v], .int .i64 (k0 : Int), .string key] w fun e w' => e = .returned (.tuple #[entV ((firstT (chainP ts (k0 : Int)) key).getD Ent.zero), .bool (firstT (chainP ts (k0 : Int)) key).isSome]) ∧ Below w.heap.size w w' := by
  obtain ⟨ao, cap, rfl, hcap, hat⟩ := h
  obtain ⟨b, o, rfl, hb, hcl⟩ : ∃ b o, ao = some ⟨b, o, none⟩ ∧ b < w.heap.size ∧ ∀ i, i < ts.length → TabAt w b o i (tabN ts i) := by
    rcases hat with q | q
    · rw [q] at hk0; simp at hk0
    · exact q
  obtain ⟨L, hL⟩ : ∃ L, L = ts.length := ⟨_, rfl⟩
  rw [← hL] at hk0 hcap ⊢
  obtain ⟨WA, hWA⟩ : ∃ WA, WA = (w.alloc (.cells #[.slice (some ⟨b, o, none⟩) L cap] 24)).alloc (.cells #[.string ⟨#[]⟩, .int .i64 0, .string ⟨#[]⟩, .int .i64 0] 35) := ⟨_, rfl⟩
  have BA : Hid (Below w.heap.size w WA) := hide (by rw [hWA]; exact ((Below.refl _ _).alloc (Nat.le_refl _) _).alloc ((Below.refl _ _).alloc (Nat.le_refl _) _).size _)
  have Q1 : Hid (Blk WA w.heap.size #[.slice (some ⟨b, o, none⟩) L cap] 24) := hide (by rw [hWA]; exact (Blk.new _ _ _).alloc _)
  have Q2 : Hid (Blk WA (w.heap.size + 1) #[.string ⟨#[]⟩, .int .i64 0, .string ⟨#[]⟩, .int .i64 0] 35) := hide (by rw [hWA]; exact Blk.newAt _ _ (by simp) _ _)
  have HWA := hide hWA.symm
  have HCL : Hid (∀ i, i < ts.length → TabAt WA b o i (tabN ts i)) := hide (fun i hi => (hcl i hi).below hb BA.out)
  have HL := hide hL
  have HDn := hide hd
  have HE := hide he
  have q0 := Q1.out.cell 0
  have f0 := Q2.out.free 0
  have f1 := Q2.out.free 1
  have f2 := Q2.out.free 2
  have f3 := Q2.out.free 3
  have y0 := Q2.out.cell 0
  have y1 := Q2.out.cell 1
  have y2 := Q2.out.cell 2
  have y3 := Q2.out.cell 3
  obtain ⟨R, hR⟩ : ∃ R, R = firstT (chainP ts (k0 : Int)) key := ⟨_, rfl⟩
  rw [← hR]
  have HR := hide hR
  clear hR hcl hd he hL hWA hb
  go_enter Tryd.func12, Tryd.ntmps12
  go_wp2_with (simp only [HWA.out])
  go_loopw [1] (fun x wr => ∃ q : Int, x = .int .i64 q ∧ -1 ≤ q ∧ q < (L : Int) ∧ Hid (firstT (chainP ts q) key = R) ∧ WA = wr) (fun x _ => (intOf x + 1).toNat)
  case atStart => exact ⟨(k0 : Int), rfl, by omega, by omega, hide HR.out.symm, rfl⟩
  case round =>
    obtain ⟨q, rfl, hq1, hq2, HF, rfl⟩ := hrel
    by_cases hq : q = -1
    · subst hq
      have EE : Hid (R = none) := hide (by rw [← HF.out]; rfl)
      clear HF
      go_wp2
      refine bodyPost_ret (results_ent2 rfl _ _ _ _ _ _ _ rfl (Q2.out.put4 _ _ _ _)) rfl ?_
      exact ⟨by rw [EE.out]; rfl, below_putE BA.out (Nat.le_succ _) _ _ _ _⟩
    · obtain ⟨k, rfl⟩ : ∃ k : Nat, q = (k : Int) := ⟨q.toNat, by omega⟩
      have hk : k < L := by omega
      have hk' : (k : Int) < (L : Int) := by omega
      have hk0' : (0 : Int) ≤ (k : Int) := by omega
      have hkt : k < ts.length := by rw [← HL.out]; exact hk
      obtain ⟨c0, c1, ve, c2, hes⟩ := HCL.out k hkt
      obtain ⟨pd1, pd2⟩ := HDn.out k hkt
      have hem := HE.out k
      have CS : Hid (R = match findE (tabN ts k).ents key with | some e => some e | none => firstT (chainP ts (tabN ts k).parent) key) := hide (by rw [← HF.out, chainP_step HDn.out k hkt, firstT_cons])
      obtain ⟨g, hg⟩ : ∃ g, g = tabN ts k := ⟨_, rfl⟩
      rw [← hg] at c0 c1 hes pd1 pd2 CS hem
      obtain ⟨a2, cap2, rfl, hc2, hE2⟩ := hes
      obtain ⟨M, hM⟩ : ∃ M, M = g.ents.length := ⟨_, rfl⟩
      rw [← hM] at c2 hc2 hem
      have HM := hide hM
      have HE2 := hide hE2
      clear hg hM hkt hE2 HF hq
      go_wp2
      go_loopw [8] (fun y wq => ∃ j : Nat, j ≤ M ∧ y = .int .i64 (j : Int) ∧ Hid (findE (g.ents.drop j) key = findE g.ents key) ∧ WA = wq) (fun y _ => M - (intOf y).toNat)
      case atStart => exact ⟨0, Nat.zero_le _, rfl, hide (by rw [List.drop_zero]), rfl⟩
      case round =>
        obtain ⟨j, hj, rfl, HG, rfl⟩ := hrel
        by_cases hjl : j < M
        · have hjl' : (j : Int) < (M : Int) := by omega
          have hjt : j < g.ents.length := by rw [← HM.out]; exact hjl
          obtain ⟨b2, o2, ha2, _, hcl⟩ : ∃ b o, a2 = some ⟨b, o, none⟩ ∧ b < WA.heap.size ∧ ∀ i, i < g.ents.length → WA.cell? ⟨b, o + i * 4, none⟩ = some (.string (entN g.ents i).key) ∧ WA.cell? ⟨b, o + i * 4 + 1, none⟩ = some (.int .i64 (entN g.ents i).kind) ∧ WA.cell? ⟨b, o + i * 4 + 2, none⟩ = some (.string (entN g.ents i).text) ∧ WA.cell? ⟨b, o + i * 4 + 3, none⟩ = some (.int .i64 (entN g.ents i).num) := by
            rcases HE2.out with h | h
            · rw [h] at hjt; simp at hjt
            · exact h
          subst ha2
          obtain ⟨x0, x1, x2, x3⟩ := hcl j hjt
          have FD := hide (findE_drop g.ents key j hjt)
          obtain ⟨e, he⟩ : ∃ e, e = entN g.ents j := ⟨_, rfl⟩
          rw [← he] at x0 x1 x2 x3 FD
          clear he hcl hjt
          by_cases hke : e.key = key
          · have EE : Hid (R = some e) := hide (by rw [CS.out, ← HG.out, FD.out, if_pos hke])
            have hke' : (e.key.toList == key.toList) = true := by rw [eqT, decide_eq_true hke]
            clear FD HG CS hke
            go_wp2
            refine bodyPost_ret (results_ent2 rfl _ _ _ _ _ _ _ rfl (Q2.out.put4 _ _ _ _)) rfl ?_
            exact ⟨by rw [EE.out]; rfl, below_putE BA.out (Nat.le_succ _) _ _ _ _⟩
          · have EN : Hid (findE (g.ents.drop (j + 1)) key = findE g.ents key) := hide (by rw [← HG.out, FD.out, if_neg hke])
            have hke' : (e.key.toList == key.toList) = false := by rw [eqT, decide_eq_false hke]
            clear FD HG hke
            go_wp2
            exact ⟨⟨j + 1, by omega, by go_num, EN, trivial⟩, by simp [intOf]; omega⟩
        · obtain rfl : j = M := by omega
          have hjl' : ¬ (j : Int) < (j : Int) := by omega
          have EN : Hid (firstT (chainP ts g.parent) key = R) := hide (by
            rw [CS.out, ← HG.out, List.drop_eq_nil_of_le (by rw [← HM.out]; exact Nat.le_refl _)]
            rfl)
          clear HG hjl CS
          go_wp2
          exact ⟨⟨g.parent, rfl, by omega, by omega, EN, trivial⟩, by simp [intOf]; omega⟩

end Go.Proofs.YtpeoigipjcdpjaaDoor

namespace Go.Proofs.YtpeoigipjcdpjaaDoor
open Go.RowKit

theorem placeF_app (n : ByteArray) (t : Tab) (r : List Tab) : ∀ (a : List Tab) (k : Nat), placeF n k a = -1 → placeF n k (a ++ t :: r) = if t.name = n then ((k + a.length : Nat) : Int) else placeF n (k + a.length + 1) r
  | [], k, _ => by simp [placeF]
  | x :: a, k, h => by
    unfold placeF at h
    by_cases hx : x.name = n
    · rw [if_pos hx] at h; omega
    · rw [if_neg hx] at h
      show (if x.name = n then (k : Int) else placeF n (k + 1) (a ++ t :: r)) = _
      rw [if_neg hx, placeF_app n t r a (k + 1) h, List.length_cons, show k + 1 + a.length = k + (a.length + 1) by omega]

theorem place_self {ts : List Tab} (h : checkT ts = 0) {i : Nat} (hi : i < ts.length) : placeT ts (tabN ts i).name = (i : Int) := by
  obtain ⟨_, h2, _⟩ := tabE_zero ((check_zero h).2.1 i hi)
  have e : ts = ts.take i ++ tabN ts i :: ts.drop (i + 1) := by
    have e2 : tabN ts i = ts[i] := tabN_get (List.getElem?_eq_getElem hi)
    rw [e2, ← List.drop_eq_getElem_cons hi, List.take_append_drop]
  unfold placeT at h2 ⊢
  have q := placeF_app (tabN ts i).name (tabN ts i) (ts.drop (i + 1)) (ts.take i) 0 h2
  rw [← e, if_pos rfl, List.length_take, Nat.min_eq_left (by omega), Nat.zero_add] at q
  exact q

theorem ch_self {ts : List Tab} (h : checkT ts = 0) {i : Nat} (hi : i < ts.length) : chE ts (tabN ts i).name = 0 ∧ chL ts (tabN ts i).name = chainP ts (i : Int) := by
  have hp := place_self h hi
  constructor
  · unfold chE
    rw [if_neg (fun q => q h), hp, if_neg (by omega)]
  · unfold chL; rw [hp]

theorem find_self {ts : List Tab} (h : checkT ts = 0) {i : Nat} (hi : i < ts.length) (key : ByteArray) : findT ts (tabN ts i).name key = findN (chainP ts (i : Int)) 9 key := by
  obtain ⟨h1, h2⟩ := ch_self h hi
  unfold findT
  rw [h1, if_neg (fun q => q rfl), h2]

theorem find_more (cs : List Tab) : ∀ (n : Nat) (key : ByteArray), (findN cs n key).2 ≠ 124 → findN cs (n + 1) key = findN cs n key
  | 0, key, h => absurd rfl h
  | n + 1, key, h => by
    have e : ∀ m, findN cs (m + 1) key = match firstT cs key with | none => (Ent.zero, 125) | some e => if e.kind = 2 then findN cs m e.text else (e, 0) := fun m => rfl
    rw [e (n + 1), e n]
    rw [e n] at h
    cases hf : firstT cs key with
    | none => rfl
    | some x =>
      rw [hf] at h
      by_cases hk : x.kind = 2
      · simp only [hk, if_true] at h ⊢
        exact find_more cs n x.text h
      · simp only [hk, if_false]

theorem first_some {cs : List Tab} {key : ByteArray} : (firstT cs key).isSome = true ↔ ∃ t ∈ cs, ∃ e ∈ t.ents, e.key = key := by
  unfold firstT
  rw [List.findSome?_isSome_iff]
  constructor
  · rintro ⟨t, ht, h⟩
    unfold findE at h
    rw [List.find?_isSome] at h
    obtain ⟨e, he, h⟩ := h
    exact ⟨t, ht, e, he, of_decide_eq_true h⟩
  · rintro ⟨t, ht, e, he, h⟩
    refine ⟨t, ht, ?_⟩
    unfold findE
    rw [List.find?_isSome]
    exact ⟨e, he, decide_eq_true h⟩

theorem prefix_le : ∀ (p s : List UInt8), p.isPrefixOf s = true → p ≤ s
  | [], s, _ => List.nil_le s
  | x :: p, [], h => by simp at h
  | x :: p, y :: s, h => by
    rw [List.isPrefixOf_cons_cons, Bool.and_eq_true] at h
    have e : x = y := by simpa using h.1
    subst e
    exact List.cons_le_cons_iff.2 (.inr ⟨rfl, prefix_le p s h.2⟩)

theorem begins_self (b : ByteArray) : begins b b = true := by
  unfold begins Lib.hasPrefix
  exact List.isPrefixOf_iff_prefix.2 (List.prefix_refl _)

theorem keys_mem (b : ByteArray) (cs : List Tab) (x : ByteArray) : x ∈ keysL b cs ↔ (∃ t ∈ cs, ∃ e ∈ t.ents, e.key = x) ∧ begins b x = true := by
  unfold keysL keysE
  simp only [List.mem_flatMap, List.mem_map, List.mem_filter]
  constructor
  · rintro ⟨t, ht, e, ⟨he, hb⟩, rfl⟩
    exact ⟨⟨t, ht, e, he, rfl⟩, hb⟩
  · rintro ⟨⟨t, ht, e, he, rfl⟩, hb⟩
    exact ⟨t, ht, e, ⟨he, hb⟩, rfl⟩

theorem keys_head (key : ByteArray) (cs : List Tab) : (decide (0 < (poolL (keysL key cs)).length) && decide ((poolL (keysL key cs))[0]?.getD [] = bys key)) = (firstT cs key).isSome := by
  have hr := pool_rise (keysL key cs)
  have hm := pool_mem (keysL key cs)
  generalize poolL (keysL key cs) = ps at *
  cases hf : (firstT cs key).isSome with
  | true =>
    have hin : bys key ∈ ps := (hm _).2 ⟨key, (keys_mem key cs key).2 ⟨first_some.1 hf, begins_self key⟩, rfl⟩
    cases ps with
    | nil => simp at hin
    | cons x r =>
      have hx : x = bys key := by
        rcases List.mem_cons.1 hin with q | q
        · exact q.symm
        · have h1 := (List.pairwise_cons.1 hr).1 _ q
          obtain ⟨t, ht, hte⟩ := (hm x).1 (List.mem_cons_self ..)
          have h2 := ((keys_mem key cs t).1 ht).2
          have h3 : bys key ≤ x := by
            rw [← hte]
            exact prefix_le _ _ h2
          exact absurd h1 (List.not_lt.2 h3)
      simp [hx]
  | false =>
    cases ps with
    | nil => rfl
    | cons x r =>
      have hne : x ≠ bys key := fun e => by
        obtain ⟨t, ht, hte⟩ := (hm x).1 (List.mem_cons_self ..)
        have := ((keys_mem key cs t).1 ht).1
        rw [e] at hte
        obtain rfl := bys_inj hte
        rw [first_some.2 this] at hf
        cases hf
      simp [hne]

end Go.Proofs.YtpeoigipjcdpjaaDoor
