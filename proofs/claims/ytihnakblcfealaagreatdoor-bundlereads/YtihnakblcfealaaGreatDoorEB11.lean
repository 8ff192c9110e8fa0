/-
  What bundle's row reads as tables; what the reader reads as a bundle.
  What bundle's Decode answers.
  The document's examples of chapter 12, reckoned.
  What is laid is read as it was: plain mathematics.
  Bundles and bytes are one to one: what is laid is read as it was.
-/
import Derived.Test.YtihnakblcfealaaGreatDoorEB10
namespace Go.Proofs.YtihnakblcfealaaGreatDoor
open Go.RowKit

theorem three_of {l : List Value} {n : Nat} (h : l.length = (n + 1) * 3) : ∃ r0 r1 r2 r, l = r0 :: r1 :: r2 :: r ∧ r.length = n * 3 := by
  match l, h with
  | r0 :: r1 :: r2 :: r, h => exact ⟨r0, r1, r2, r, rfl, by simp at h; omega⟩
  | [], h => simp at h
  | [_], h => simp at h; omega
  | [_, _], h => simp at h; omega

theorem blk_put3 {w : World} {g m : Nat} {a rest : List Value} {r0 r1 r2 : Value} {T : TypeId} (h : Blk w g (a ++ r0 :: r1 :: r2 :: rest).toArray T) (ha : a.length = m) (v0 v1 v2 : Value) :
    Blk (((w.setCell ⟨g, m, none⟩ v0).setCell ⟨g, m + 1, none⟩ v1).setCell ⟨g, m + 2, none⟩ v2) g (a ++ v0 :: v1 :: v2 :: rest).toArray T := by
  have h0 := blk_snoc (blk_set h ha v0)
  have h1 := blk_snoc (blk_set h0 (m := m + 1) (by simp [ha]) v1)
  have h2 := blk_set h1 (m := m + 2) (by simp [ha]) v2
  simpa using h2
theorem blk_three {w : World} {g m : Nat} {a rest : List Value} {r0 r1 r2 : Value} {T : TypeId} (h : Blk w g (a ++ r0 :: r1 :: r2 :: rest).toArray T) (ha : a.length = m) :
    w.cell? ⟨g, m, none⟩ = some r0 ∧ w.cell? ⟨g, m + 1, none⟩ = some r1 ∧ w.cell? ⟨g, m + 2, none⟩ = some r2 :=
  ⟨blk_at h ha, blk_at (blk_snoc h) (by simp [ha]), blk_at (blk_snoc (blk_snoc h)) (by simp [ha])⟩

def MadeE (B : Nat) (w : World) (c : Tab × Value) : Prop := Made 33 B w c.2 c.1.ents.length (cellsEn c.1.ents)
def MadeT (B : Nat) (w : World) (v : Value) (cs : List (Tab × Value)) : Prop := Made 31 B w v cs.length (cellsTb cs) ∧ ∀ c ∈ cs, MadeE B w c

section
variable {w : World} {R D : Nat} {tx : Value} {s : ByteArray} {st : St}

set_option maxRecDepth 100000 in
set_option maxHeartbeats 4000000 in
theorem rowT {ps : List ByteArray} (h : Rd w R D tx s st) (ht : TxAt w D tx ps) (hp : ps.length ≤ 4096) :
    Calls Tryz.prog 22 #[.func (.func 23) #[.pointer (some ⟨D, 0, none⟩)] #[], .int .i64 16, .func (.func 24) #[.pointer (some ⟨R, 0, none⟩)] #[]] w fun x w' => ∃ v, x = .returned v ∧ ∃ cs, cs.map Prod.fst = (rdRow s 1 16 (rdT ps s) st).1 ∧ MadeT w.heap.size w' v cs ∧ Rd w' R D tx s (rdRow s 1 16 (rdT ps s) st).2 ∧ But D w w' := by
  obtain ⟨i0, hi, hz0, hz1, hz2⟩ := info_parts infoT
  have HC := hide (rget1 h)
  have RE : Hid (rdRow s 1 16 (rdT ps s) st = if 16 < gV s st 1 then ([], gS s st 1) else rdMany (rdT ps s) (gV s st 1) (gS s st 1)) := hide rfl
  generalize rdRow s 1 16 (rdT ps s) st = RR at *
  have HT := hide ht
  have hDw := Blk.lt h.cur
  have hRw := h.blk.lt
  generalize gV s st 1 = V at *
  generalize gS s st 1 = st1 at *
  clear h ht
  by_cases hv : 16 < V
  · rw [if_pos hv] at RE
    have hv' : (16 : Int) < (V : Int) := by omega
    go_enter Tryz.func22, Tryz.ntmps22
    go_wp2_with fail
    refine HC.out.mono ?_
    rintro x w1 ⟨rfl, h1, h2⟩
    have H1 := hide h1
    have H2 := hide h2
    clear h1 h2 HC
    go_wp2
    go_ret
    exact ⟨_, rfl, [], by rw [RE.out]; rfl, ⟨.inl ⟨rfl, rfl⟩, fun c hc => by simp at hc⟩, by rw [RE.out]; exact H1.out, H2.out⟩
  · rw [if_neg hv] at RE
    have hv' : ¬ (16 : Int) < (V : Int) := by omega
    have IT : Hid (∀ X sx, Rd X R D tx s sx → TxAt X D tx ps → Calls Tryz.prog 24 #[.pointer (some ⟨R, 0, none⟩)] X fun x w' => ∃ v, x = .returned (.agg #[.string (rdT ps s sx).1.name, .int .i64 (rdT ps s sx).1.parent, v]) ∧ Made 33 X.heap.size w' v (rdT ps s sx).1.ents.length (cellsEn (rdT ps s sx).1.ents) ∧ Rd w' R D tx s (rdT ps s sx).2 ∧ But D X w') := hide (fun X sx hX hT => rtable hX hT hp)
    go_enter Tryz.func22, Tryz.ntmps22
    go_wp2_with fail
    refine HC.out.mono ?_
    rintro x w1 ⟨rfl, h1, h2⟩
    have H1 := hide h1
    have H2 := hide h2
    have T1 := hide (HT.out.but h2)
    have hs1 := h2.size
    clear h1 h2 HC
    go_wp2_with (at_make; refine wpList_make_full _ rfl _ _ 22 rfl w.heap.size 31 i0 (.agg #[.string ⟨#[]⟩, .int .i64 0, .slice none 0 0]) 3 Tryz.underlying22 hi hz0 hz1 _ _ _ _ V rfl rfl rfl rfl (by rw [hz2]; omega) (by unfold maxLen; omega) hs1 ?_; intro w2 hrow hgr)
    have B12 : Below w1.heap.size w1 w2 := ⟨hgr.os, hgr.tape, hgr.output, hgr.size, fun k hk => hgr.block k hk (by simp)⟩
    obtain ⟨hbk, hlen⟩ := blk_made hrow
    obtain ⟨g, hg⟩ : ∃ g, g = w1.heap.size := ⟨_, rfl⟩
    rw [← hg] at hbk
    rw [← hg]
    have hgD : g ≠ D := by omega
    have hgR : g ≠ R := by omega
    have hgw : w.heap.size ≤ g := by omega
    have hDg : D < g + 1 := by omega
    have Q2 := hide hbk
    have LN := hide hlen
    have R2 := hide (H1.out.below B12)
    have T2 := hide (T1.out.below B12)
    have U2 := hide (H2.out.trans (.of_below B12))
    generalize (madeCells (Value.agg #[.string ⟨#[]⟩, .int .i64 0, .slice none 0 0]).cells (V * 3)).toList = xs at *
    clear hrow hgr B12 hbk hlen H1 T1 H2 hg hs1
    go_wp2
    go_loopw [19] (fun p wr => ∃ (k : Nat) (cs : List (Tab × Value)) (sk : St) (rest : List Value), k ≤ V ∧ p = .int .i64 (k : Int) ∧ Hid (cs.length = k ∧ rest.length = (V - k) * 3 ∧ cs.map Prod.fst ++ (rdMany (rdT ps s) (V - k) sk).1 = RR.1 ∧ (rdMany (rdT ps s) (V - k) sk).2 = RR.2) ∧ Hid (Blk wr g (cellsTb cs ++ rest).toArray 31) ∧ Hid (∀ c ∈ cs, MadeE (g + 1) wr c) ∧ Hid (Rd wr R D tx s sk) ∧ Hid (TxAt wr D tx ps) ∧ Hid (But D w wr)) (fun p _ => V - (intOf p).toNat)
    case atStart => exact ⟨0, [], st1, xs, Nat.zero_le _, rfl, hide ⟨rfl, LN.out, by rw [RE.out]; rfl, by rw [RE.out]; rfl⟩, Q2, hide (fun c hc => by simp at hc), R2, T2, U2⟩
    case round =>
      obtain ⟨k, cs, sk, rest, hk, rfl, HF, HB, HM, HR, HTx, HU⟩ := hrel
      by_cases hlt : k < V
      · have hlt' : (k : Int) < (V : Int) := by omega
        have CI := hide (IT.out wr sk HR.out HTx.out)
        obtain ⟨r0, r1, r2, rest', hrest, hrl⟩ := three_of (l := rest) (n := V - (k + 1)) (by rw [HF.out.2.1]; congr 1; omega)
        subst hrest
        have HRL := hide hrl
        have HN : Hid (cs.map Prod.fst ++ [(rdT ps s sk).1] ++ (rdMany (rdT ps s) (V - (k + 1)) (rdT ps s sk).2).1 = RR.1 ∧ (rdMany (rdT ps s) (V - (k + 1)) (rdT ps s sk).2).2 = RR.2) := hide (by
          have q := HF.out.2.2
          rw [show V - k = (V - (k + 1)) + 1 by omega] at q
          refine ⟨?_, q.2⟩
          rw [← q.1, List.append_assoc]
          rfl)
        have HEL : Hid (cs.length = k) := hide HF.out.1
        have CL : Hid ((cellsTb cs).length = k * 3) := hide (by rw [cellsTb_len, HEL.out])
        have hgx : Hid (g + 1 ≤ wr.heap.size) := hide HB.out.lt
        obtain ⟨e, he⟩ : ∃ e, e = (rdT ps s sk).1 := ⟨_, rfl⟩
        rw [← he] at CI HN
        clear he
        go_wp2_with fail
        refine CI.out.mono ?_
        rintro x w3 ⟨v, rfl, hm3, hr3, hb3⟩
        have M3 := hide (hm3.base hgx.out)
        obtain ⟨ao, cap, rfl⟩ := hm3.slice
        have B3 := hb3.blk HB.out hgD
        have PB := hide (blk_put3 B3 CL.out (.string e.name) (.int .i64 e.parent) (.slice ao e.ents.length cap))
        obtain ⟨b0, b1, b2⟩ := blk_three B3 CL.out
        have f0 := B3.free (k * 3)
        have f1 := B3.free (k * 3 + 1)
        have f2 := B3.free (k * 3 + 2)
        have RN := hide (((hr3.other (i := k * 3) hgR hgD (.string e.name)).other (i := k * 3 + 1) hgR hgD (.int .i64 e.parent)).other (i := k * 3 + 2) hgR hgD (.slice ao e.ents.length cap))
        have T3 := HTx.out.but hb3
        have TN := hide (((T3.other (i := k * 3) HT.out hgw (.string e.name)).other (i := k * 3 + 1) HT.out hgw (.int .i64 e.parent)).other (i := k * 3 + 2) HT.out hgw (.slice ao e.ents.length cap))
        have UN := hide ((((HU.out.trans hb3).setNew (i := k * 3) hgw (.string e.name)).setNew (i := k * 3 + 1) hgw (.int .i64 e.parent)).setNew (i := k * 3 + 2) hgw (.slice ao e.ents.length cap))
        have PN : Hid (Blk (((w3.setCell ⟨g, k * 3, none⟩ (.string e.name)).setCell ⟨g, k * 3 + 1, none⟩ (.int .i64 e.parent)).setCell ⟨g, k * 3 + 2, none⟩ (.slice ao e.ents.length cap)) g (cellsTb (cs ++ [(e, .slice ao e.ents.length cap)]) ++ rest').toArray 31) := hide (by rw [cellsTb_app, List.append_assoc]; exact PB.out)
        have MN : Hid (∀ c ∈ cs ++ [(e, .slice ao e.ents.length cap)], MadeE (g + 1) (((w3.setCell ⟨g, k * 3, none⟩ (.string e.name)).setCell ⟨g, k * 3 + 1, none⟩ (.int .i64 e.parent)).setCell ⟨g, k * 3 + 2, none⟩ (.slice ao e.ents.length cap)) c) := hide (fun c hc => by
          have q : MadeE (g + 1) w3 c := by
            rcases List.mem_append.1 hc with q | q
            · exact Made.but (HM.out c q) hb3 hDg
            · simp at q; subst q; exact M3.out
          exact ((Made.set q (Nat.lt_succ_self g) _).set (Nat.lt_succ_self g) _).set (Nat.lt_succ_self g) _)
        generalize e.ents.length = ne at *
        clear hr3 hb3 hm3 B3 PB T3 CI HB HR HTx HU HF HM M3
        go_wp2
        exact ⟨⟨k + 1, cs ++ [(e, .slice ao ne cap)], _, rest', by omega, by go_num, hide ⟨by rw [List.length_append, HEL.out]; rfl, HRL.out, by rw [List.map_append]; exact HN.out⟩, PN, MN, RN, TN, UN⟩, by simp [intOf]; omega⟩
      · obtain rfl : k = V := by omega
        have hlt' : ¬ (k : Int) < (k : Int) := by omega
        have HE : Hid (cs.map Prod.fst = RR.1 ∧ sk = RR.2 ∧ rest = [] ∧ cs.length = k) := hide (by
          have q := HF.out
          rw [Nat.sub_self] at q
          exact ⟨by have := q.2.2.1; simpa [rdMany] using this, q.2.2.2, List.length_eq_zero_iff.1 (by simpa using q.2.1), q.1⟩)
        clear HF hlt
        go_wp2
        go_ret
        refine ⟨_, rfl, cs, HE.out.1, ⟨.inr ⟨g, by rw [HE.out.2.2.2]; rfl, hgw, ?_⟩, fun c hc => Made.base (HM.out c hc) (by omega)⟩, by rw [← HE.out.2.1]; exact HR.out, HU.out⟩
        have q := HB.out
        rw [HE.out.2.2.1, List.append_nil] at q
        exact q

theorem results_bun1 {fn : Func} {a : Tmp} (h : fn.results = #[.cell a 24]) (tmps : Array Value) (H : Nat) (x0 : Value) (w : World) (ht : tmps.getD a undef = .pointer (some ⟨H, 0, none⟩)) (hp : Blk w H #[x0] 24) :
    (results fn tmps).run Tryz.prog w = .ok (.agg #[x0]) w := by
  have c0 := hp.cell 0
  simp at c0
  rw [Array.getD_eq_getD_getElem?] at ht
  simp [results, h, ht, go_sem, c0]

def rdP (s : ByteArray) : List ByteArray × St := rdRow s 2 4096 (rdX s) (0, 0)
def rdB (s : ByteArray) : List Tab × St := rdRow s 1 16 (rdT (rdP s).1 s) (rdP s).2

set_option maxRecDepth 100000 in
set_option maxHeartbeats 4000000 in
theorem rbundle (h : Rd w R D (.slice none 0 0) s (0, 0)) (hT : U8 w) (hD : OffT D) : Calls Tryz.prog 9 #[.pointer (some ⟨R, 0, none⟩)] w fun x w' => ∃ v, x = .returned (.agg #[v]) ∧ (∃ cs, cs.map Prod.fst = (rdB s).1 ∧ MadeT w.heap.size w' v cs) ∧ Below (min R D) w w' := by
  have hmf : ∀ (fn : Fn) (first cap : Array Value) (w : World), (Instr.makeFunc fn first cap).run Tryz.prog w = .ok (.func fn first cap) w := fun _ _ _ _ => rfl
  obtain ⟨WA, hWA⟩ : ∃ WA, WA = w.alloc (.cells #[.slice none 0 0] 24) := ⟨_, rfl⟩
  have BA : Hid (Below w.heap.size w WA) := hide (by rw [hWA]; exact (Below.refl _ _).alloc (Nat.le_refl _) _)
  have QH : Hid (Blk WA w.heap.size #[.slice none 0 0] 24) := hide (by rw [hWA]; exact Blk.newAt w w.heap.size rfl _ _)
  have HWA := hide hWA.symm
  have RA := hide (h.below BA.out)
  have hDw := Blk.lt h.cur
  have hRw := h.blk.lt
  have hHD : w.heap.size ≠ D := Nat.ne_of_gt hDw
  have hHR : w.heap.size ≠ R := Nat.ne_of_gt hRw
  have hRD := h.ne
  have hRl := rdRow_len s 2 4096 (rdX s) (0, 0)
  have hP : rdRow s 2 4096 (rdX s) (0, 0) = rdP s := rfl
  have C1 := hide (rowX RA.out (hT.below BA.out) hD)
  rw [hP] at C1 hRl
  have RE : Hid (rdB s = rdRow s 1 16 (rdT (rdP s).1 s) (rdP s).2) := hide rfl
  generalize rdB s = RB at *
  generalize rdP s = PP at *
  have c0 := RA.out.blk.cell 0
  have WAs : w.heap.size < WA.heap.size := QH.out.lt
  clear hWA h hT hD hP
  go_enter Tryz.func9, Tryz.ntmps9
  go_wp2_with (simp only [HWA.out])
  refine C1.out.mono ?_
  rintro x w1 ⟨v1, rfl, hm1, hr1, hb1⟩
  obtain ⟨ao, cap, rfl⟩ := hm1.slice
  have y1 := hr1.blk.cell 1
  have f1 := hr1.blk.free 1
  have y0 := hr1.blk.cell 0
  obtain ⟨W1, hW1⟩ : ∃ W1, W1 = w1.setCell ⟨R, 1, none⟩ (.slice ao PP.1.length cap) := ⟨_, rfl⟩
  have HW1 := hide hW1.symm
  have R1 : Hid (Rd W1 R D (.slice ao PP.1.length cap) s PP.2) := hide (by
    rw [hW1]
    refine ⟨?_, Blk.other hr1.cur (a := ⟨R, 1, none⟩) hRD _, hRD, hr1.le, hr1.small⟩
    have q := hr1.blk
    unfold Blk at *
    simp only [World.setCell, Array.getElem?_modify, if_true, q, Option.map_some]
    rfl)
  have T1 : Hid (TxAt W1 D (.slice ao PP.1.length cap) PP.1) := hide (by
    rw [hW1]
    rcases hm1 with ⟨h0, h1⟩ | ⟨g, h1, h2, h3⟩
    · exact .inl ⟨List.length_eq_zero_iff.1 h0, ao, cap, by rw [h0]⟩
    · exact .inr ⟨g, h1, by omega, h3.other (a := ⟨R, 1, none⟩) (by show R ≠ g; omega) _⟩)
  have U1 : Hid (Below (min R D) w W1) := hide (by
    rw [hW1]
    exact (((But.of_below BA.out).trans hb1).to_below (B := min R D) (by omega) (by omega)).setCell (p := ⟨R, 1, none⟩) (by show min R D ≤ R; omega) _)
  have Q1 : Hid (Blk W1 w.heap.size #[.slice none 0 0] 24) := hide (by rw [hW1]; exact (hb1.blk QH.out hHD).other (a := ⟨R, 1, none⟩) hHR.symm _)
  have z0 := R1.out.blk.cell 0
  have C2 := hide (rowT R1.out T1.out hRl)
  rw [← RE.out] at C2
  have hs1 : w.heap.size < W1.heap.size := Q1.out.lt
  clear hm1 hr1 hb1 hW1 C1 c0 RE
  go_wp2_with (simp only [HW1.out])
  refine C2.out.mono ?_
  rintro x w2 ⟨v2, rfl, cs, hcs, hm2, _, hb2⟩
  have Q2 := hide (hb2.blk Q1.out hHD)
  have M2 := hide hm2
  have HCS := hide hcs
  obtain ⟨ao2, cap2, rfl⟩ := hm2.1.slice
  have h0 := Q2.out.cell 0
  have g0 := Q2.out.free 0
  have U2 := hide ((U1.out.trans (hb2.to_below (B := min R D) (by omega) (by omega))).setCell (p := ⟨w.heap.size, 0, none⟩) (by show min R D ≤ w.heap.size; omega) (.slice ao2 cs.length cap2))
  have QN := hide (Q2.out.one (.slice ao2 cs.length cap2))
  have MN : Hid (MadeT w.heap.size (w2.setCell ⟨w.heap.size, 0, none⟩ (.slice ao2 cs.length cap2)) (.slice ao2 cs.length cap2) cs) := hide ⟨(Made.set M2.out.1 hs1 _).base (Nat.le_of_lt hs1), fun c hc => Made.base (Made.set (M2.out.2 c hc) hs1 _) (Nat.le_of_lt hs1)⟩
  clear hm2 hb2 hcs C2 z0 Q1 R1 T1 U1
  go_wp2
  refine bodyPost_ret (results_bun1 rfl _ _ _ _ rfl QN.out) rfl ?_
  exact ⟨_, rfl, ⟨cs, HCS.out, MN.out⟩, U2.out⟩

end

end Go.Proofs.YtihnakblcfealaaGreatDoor

namespace Go.Proofs.YtihnakblcfealaaGreatDoor
open Go.RowKit

theorem cellsEn_get (es : List Ent) : ∀ i, i < es.length → (cellsEn es)[i * 4]? = some (.string (entN es i).key) ∧ (cellsEn es)[i * 4 + 1]? = some (.int .i64 (entN es i).kind) ∧ (cellsEn es)[i * 4 + 2]? = some (.string (entN es i).text) ∧ (cellsEn es)[i * 4 + 3]? = some (.int .i64 (entN es i).num) := by
  induction es with
  | nil => intro i h; simp at h
  | cons d t ih =>
    intro i h
    have e : cellsEn (d :: t) = [.string d.key, .int .i64 d.kind, .string d.text, .int .i64 d.num] ++ cellsEn t := rfl
    rw [e]
    rcases i with _ | i
    · exact ⟨rfl, rfl, rfl, rfl⟩
    · obtain ⟨h0, h1, h2, h3⟩ := ih i (by simpa using h)
      have q : entN (d :: t) (i + 1) = entN t i := rfl
      rw [q]
      refine ⟨?_, ?_, ?_, ?_⟩
      · rw [List.getElem?_append_right (by simp; omega), ← h0]; congr 1; simp; omega
      · rw [List.getElem?_append_right (by simp; omega), ← h1]; congr 1; simp; omega
      · rw [List.getElem?_append_right (by simp; omega), ← h2]; congr 1; simp; omega
      · rw [List.getElem?_append_right (by simp; omega), ← h3]; congr 1; simp; omega

theorem ESl.of_made {B : Nat} {w : World} {c : Tab × Value} (h : MadeE B w c) : ESl w c.2 c.1.ents := by
  rcases h with ⟨h0, h1⟩ | ⟨g, h1, _, h3⟩
  · refine ⟨none, 0, by rw [h1, h0], by omega, .inl (List.length_eq_zero_iff.1 h0)⟩
  · refine ⟨_, _, h1, Nat.le_refl _, .inr ⟨g, 0, rfl, h3.lt, fun i hi => ?_⟩⟩
    obtain ⟨q0, q1, q2, q3⟩ := cellsEn_get c.1.ents i hi
    have hc : ∀ j, w.cell? ⟨g, j, none⟩ = (cellsEn c.1.ents)[j]? := fun j => by rw [h3.cell j]; simp
    refine ⟨?_, ?_, ?_, ?_⟩
    · rw [hc, Nat.zero_add]; exact q0
    · rw [hc, Nat.zero_add]; exact q1
    · rw [hc, Nat.zero_add]; exact q2
    · rw [hc, Nat.zero_add]; exact q3

theorem TSl.of_made {B : Nat} {w : World} {v : Value} {cs : List (Tab × Value)} (h : MadeT B w v cs) : TSl w v (cs.map Prod.fst) := by
  obtain ⟨h, hE⟩ := h
  rcases h with ⟨h0, h1⟩ | ⟨g, h1, _, h3⟩
  · obtain rfl := List.length_eq_zero_iff.1 h0
    exact ⟨none, 0, h1, Nat.le_refl _, .inl rfl⟩
  · refine ⟨some ⟨g, 0, none⟩, cs.length, by rw [List.length_map]; exact h1, by rw [List.length_map]; exact Nat.le_refl _, .inr ⟨g, 0, rfl, h3.lt, fun i hi => ?_⟩⟩
    rw [List.length_map] at hi
    have hci : cs[i]? = some cs[i] := List.getElem?_eq_getElem hi
    have e : tabN (cs.map Prod.fst) i = cs[i].1 := tabN_get (by rw [List.getElem?_map, hci]; rfl)
    obtain ⟨g0, g1, g2⟩ := cellsTb_get cs i _ hci
    have hc : ∀ j, w.cell? ⟨g, j, none⟩ = (cellsTb cs)[j]? := fun j => by rw [h3.cell j]; simp
    rw [e]
    exact ⟨by rw [hc, Nat.zero_add]; exact g0, by rw [hc, Nat.zero_add]; exact g1, cs[i].2, by rw [hc, Nat.zero_add]; exact g2, ESl.of_made (hE _ (List.getElem_mem hi))⟩

theorem MadeT.below {B : Nat} {w w' : World} {v : Value} {cs : List (Tab × Value)} (h : MadeT B w v cs) (hb : Below w.heap.size w w') : MadeT B w' v cs := by
  have q : ∀ {T n v cs}, Made T B w v n cs → Made T B w' v n cs := fun h => by
    rcases h with h | ⟨g, h1, h2, h3⟩
    · exact .inl h
    · exact .inr ⟨g, h1, h2, h3.below hb h3.lt⟩
  exact ⟨q h.1, fun c hc => q (h.2 c hc)⟩

theorem many_all {α : Type} (P : α → Prop) (item : St → α × St) (h : ∀ st, P (item st).1) : ∀ n st, ∀ x ∈ (rdMany item n st).1, P x
  | 0, st, x, hx => by simp [rdMany] at hx
  | n + 1, st, x, hx => by
    have hx' : x ∈ (item st).1 :: (rdMany item n (item st).2).1 := hx
    rcases List.mem_cons.1 hx' with q | q
    · rw [q]; exact h st
    · exact many_all P item h n _ x q
theorem row_all {α : Type} (P : α → Prop) (s : ByteArray) (k most : Nat) (item : St → α × St) (h : ∀ st, P (item st).1) (st : St) : ∀ x ∈ (rdRow s k most item st).1, P x := by
  unfold rdRow
  split
  · intro x hx; simp at hx
  · exact many_all P item h _ _

theorem xV_le (s : ByteArray) (st : St) : (xV s st).size ≤ s.size := by
  unfold xV tgtV
  split
  · unfold txtS
    rw [ByteArray.size_extract]
    omega
  · exact Nat.zero_le _
theorem txN_le {s : ByteArray} {ps : List ByteArray} (h : ∀ p ∈ ps, p.size ≤ s.size) (k : Nat) : (txN ps k).size ≤ s.size := by
  unfold txN
  cases e : ps[k]? with
  | none => exact Nat.zero_le _
  | some p => exact h p (List.mem_of_getElem? e)

theorem rdB_size (s : ByteArray) (hs : s.size ≤ 140737488355328) : SzT (rdB s).1 ∧ (rdB s).1.length ≤ 16 := by
  have hP : ∀ p ∈ (rdP s).1, p.size ≤ s.size := row_all (fun p : ByteArray => p.size ≤ s.size) s 2 4096 (rdX s) (fun st => xV_le s st) (0, 0)
  have hE : ∀ st, (rdE (rdP s).1 s st).1.key.size ≤ s.size ∧ (rdE (rdP s).1 s st).1.text.size ≤ s.size := by
    intro st
    unfold rdE
    simp only
    split
    · exact ⟨txN_le hP _, Nat.zero_le _⟩
    · exact ⟨txN_le hP _, txN_le hP _⟩
  have hT : ∀ t ∈ (rdB s).1, t.name.size ≤ s.size ∧ t.ents.length ≤ 1024 ∧ ∀ e ∈ t.ents, e.key.size ≤ s.size ∧ e.text.size ≤ s.size := by
    refine row_all (fun t : Tab => t.name.size ≤ s.size ∧ t.ents.length ≤ 1024 ∧ ∀ e ∈ t.ents, e.key.size ≤ s.size ∧ e.text.size ≤ s.size) s 1 16 (rdT (rdP s).1 s) (fun st => ⟨txN_le hP _, rdRow_len _ _ _ _ _, ?_⟩) (rdP s).2
    exact row_all (fun e : Ent => e.key.size ≤ s.size ∧ e.text.size ≤ s.size) s 2 1024 (rdE (rdP s).1 s) hE _
  refine ⟨fun i => ?_, rdRow_len _ _ _ _ _⟩
  unfold tabN
  cases e : (rdB s).1[i]? with
  | none => exact ⟨Nat.zero_le _, Nat.zero_le _, fun j => ⟨Nat.zero_le _, Nat.zero_le _⟩⟩
  | some t =>
    obtain ⟨h1, h2, h3⟩ := hT t (List.mem_of_getElem? e)
    refine ⟨Nat.le_trans h1 hs, Nat.le_trans h2 (by decide), fun j => ?_⟩
    show (entN t.ents j).key.size ≤ _ ∧ (entN t.ents j).text.size ≤ _
    unfold entN
    cases e2 : t.ents[j]? with
    | none => exact ⟨Nat.zero_le _, Nat.zero_le _⟩
    | some x =>
      obtain ⟨h4, h5⟩ := h3 x (List.mem_of_getElem? e2)
      exact ⟨Nat.le_trans h4 hs, Nat.le_trans h5 hs⟩

def decOk (s : ByteArray) : Bool := decide (checkT (rdB s).1 = 0 ∧ encT (rdB s).1 = bys s)

def DecA (s : ByteArray) (w : World) (x : Ending) (w' : World) : Prop :=
  (decOk s = true → ∃ v cs, x = .returned (.tuple #[.agg #[v], .int .i64 0]) ∧ cs.map Prod.fst = (rdB s).1 ∧ MadeT w.heap.size w' v cs) ∧ (decOk s = false → x = .returned (.tuple #[.agg #[.slice none 0 0], .int .i64 120])) ∧ Below w.heap.size w w'
theorem DecA.ok {s : ByteArray} {w w' : World} {x : Ending} (h : decOk s = true) (v : Value) (cs : List (Tab × Value)) (h1 : x = .returned (.tuple #[.agg #[v], .int .i64 0])) (h2 : cs.map Prod.fst = (rdB s).1) (h3 : MadeT w.heap.size w' v cs) (h4 : Below w.heap.size w w') : DecA s w x w' := ⟨fun _ => ⟨v, cs, h1, h2, h3⟩, fun q => by (rw [h] at q; cases q), h4⟩
theorem DecA.no {s : ByteArray} {w w' : World} {x : Ending} (h : decOk s = false) (h1 : x = .returned (.tuple #[.agg #[.slice none 0 0], .int .i64 120])) (h4 : Below w.heap.size w w') : DecA s w x w' := ⟨fun q => by (rw [h] at q; cases q), fun _ => h1, h4⟩

theorem results_bun2 {fn : Func} {a c : Tmp} (h : fn.results = #[.cell a 24, .tmp c]) (tmps : Array Value) (H : Nat) (x0 : Value) (w : World) (ht : tmps.getD a undef = .pointer (some ⟨H, 0, none⟩)) (hp : Blk w H #[x0] 24) :
    (results fn tmps).run Tryz.prog w = .ok (.tuple #[.agg #[x0], tmps.getD c undef]) w := by
  have c0 := hp.cell 0
  simp at c0
  rw [Array.getD_eq_getD_getElem?] at ht
  simp [results, h, ht, go_sem, c0]

set_option maxRecDepth 100000 in
set_option maxHeartbeats 4000000 in
theorem Decode_any (s : ByteArray) (w : World) (hs : s.size ≤ 140737488355328) (hT : U8 w) : Calls Tryz.prog 4 #[.string s] w fun x w' => DecA s w x w' := by
  obtain ⟨WA, hWA⟩ : ∃ WA, WA = w.alloc (.cells #[.slice none 0 0] 24) := ⟨_, rfl⟩
  have BA : Hid (Below w.heap.size w WA) := hide (by rw [hWA]; exact (Below.refl _ _).alloc (Nat.le_refl _) _)
  have QH : Hid (Blk WA w.heap.size #[.slice none 0 0] 24) := hide (by rw [hWA]; exact Blk.newAt w w.heap.size rfl _ _)
  have HWA := hide hWA.symm
  have TA := hide (hT.below BA.out)
  have C1 := hide (New_any s WA)
  have hWAs : WA.heap.size = w.heap.size + 1 := by rw [hWA]; simp
  obtain ⟨D, hD⟩ : ∃ D, D = WA.heap.size := ⟨_, rfl⟩
  rw [← hD] at C1
  have hDs : D = w.heap.size + 1 := by rw [hD, hWAs]
  obtain ⟨hsz, hln⟩ := rdB_size s hs
  have HSZ := hide hsz
  have HD := hide hD
  have HDs := hide hDs
  have HT0 := hide hT
  clear hWA hT hD hWAs hsz hDs
  go_enter Tryz.func4, Tryz.ntmps4
  go_wp2_with (simp only [HWA.out])
  refine C1.out.mono ?_
  rintro x w1 ⟨rfl, hc1, hb1⟩
  obtain ⟨WB, hWB⟩ : ∃ WB, WB = w1.alloc (.cells #[.pointer (some ⟨D, 0, none⟩), .slice none 0 0] 40) := ⟨_, rfl⟩
  have BB : Below w1.heap.size w1 WB := by rw [hWB]; exact (Below.refl _ _).alloc (Nat.le_refl _) _
  have QR : Blk WB w1.heap.size #[.pointer (some ⟨D, 0, none⟩), .slice none 0 0] 40 := by rw [hWB]; exact Blk.newAt w1 w1.heap.size rfl _ _
  have HWB := hide hWB.symm
  have hDl := Blk.lt hc1
  have R1 : Hid (Rd WB w1.heap.size D (.slice none 0 0) s (0, 0)) := hide ⟨QR, hc1.below BB, by omega, Nat.zero_le _, hs⟩
  have hb1' : Below WA.heap.size WA WB := by rw [← HD.out]; exact hb1.trans (BB.mono (Nat.le_of_lt hDl))
  have TB := hide (TA.out.below hb1')
  have OD := hide (TA.out.off (D := D) (by rw [HD.out]; exact Nat.le_refl _))
  have C2 := hide (rbundle R1.out TB.out OD.out)
  have U1 := hide (BA.out.trans (hb1'.mono BA.out.size))
  have Q1 := hide (QH.out.below hb1' QH.out.lt)
  have hmin : Hid (w.heap.size < min w1.heap.size D) := hide (by have := HDs.out; omega)
  have hwB : Hid (w.heap.size < WB.heap.size) := hide Q1.out.lt
  clear hc1 hb1 BB QR hb1' C1 hDl hWB
  go_wp2_with (simp only [HWB.out])
  refine C2.out.mono ?_
  rintro x w2 ⟨v2, rfl, ⟨cs, hcs, hm2⟩, hb2⟩
  generalize hR : w1.heap.size = R at *
  obtain ⟨ao, cap, rfl⟩ := hm2.1.slice
  obtain ⟨WC, hWC⟩ : ∃ WC, WC = w2.alloc (.cells #[.slice ao cs.length cap] 24) := ⟨_, rfl⟩
  have BC : Hid (Below w2.heap.size w2 WC) := hide (by rw [hWC]; exact (Below.refl _ _).alloc (Nat.le_refl _) _)
  have QC : Hid (Blk WC w2.heap.size #[.slice ao cs.length cap] 24) := hide (by rw [hWC]; exact Blk.newAt w2 w2.heap.size rfl _ _)
  have HWC := hide hWC.symm
  have M2 : Hid (MadeT WB.heap.size WC (.slice ao cs.length cap) cs) := hide (hm2.below BC.out)
  have U2 := hide (U1.out.trans ((hb2.mono (Nat.le_of_lt hmin.out)).trans (BC.out.mono (Nat.le_trans (Nat.le_of_lt hwB.out) hb2.size))))
  have Q2 := hide ((Q1.out.below hb2 hmin.out).below BC.out (Blk.lt (Q1.out.below hb2 hmin.out)))
  have TC := hide (HT0.out.below U2.out)
  have HCS := hide hcs
  have EN : Hid (Calls Tryz.prog 10 #[.agg #[.slice ao cs.length cap]] WC fun e w' => e = .returned (encA (rdB s).1) ∧ Below WC.heap.size WC w') := hide (Encode_any (by rw [← HCS.out]; exact TSl.of_made M2.out) (by omega) HSZ.out TC.out)
  have q0 := QC.out.cell 0
  have hCH : Hid (w2.heap.size ≠ w.heap.size) := hide (Nat.ne_of_gt (Blk.lt (Q1.out.below hb2 hmin.out)))
  have RE : Hid (encA (rdB s).1 = .tuple #[.string (if checkT (rdB s).1 = 0 then ⟨(encT (rdB s).1).toArray⟩ else ⟨#[]⟩), .int .i64 (checkT (rdB s).1 : Int)]) := hide rfl
  have DO : Hid (decOk s = decide (checkT (rdB s).1 = 0 ∧ encT (rdB s).1 = bys s)) := hide rfl
  obtain ⟨C, hC⟩ : ∃ C, C = checkT (rdB s).1 := ⟨_, rfl⟩
  rw [← hC] at RE DO
  rw [RE.out] at EN
  obtain ⟨X, hX⟩ : ∃ X : ByteArray, X = (if C = 0 then ⟨(encT (rdB s).1).toArray⟩ else ⟨#[]⟩) := ⟨_, rfl⟩
  rw [← hX] at EN
  have DX : Hid (decOk s = (decide (C = 0) && (X.toList == s.toList))) := hide (by
    rw [DO.out]
    by_cases h0 : C = 0
    · rw [hX, if_pos h0, eqT, decide_eq_true h0, Bool.true_and]
      refine decide_eq_decide.2 ⟨fun h => by (rw [h.2]; exact mkByB s), fun h => ⟨h0, congrArg bys h⟩⟩
    · rw [decide_eq_false h0, Bool.false_and]
      exact decide_eq_false (fun h => h0 h.1))
  clear hC hX RE DO hR hWC hm2 hb2 hcs C2
  go_wp2_with (simp only [HWC.out])
  refine EN.out.mono ?_
  rintro x w3 ⟨rfl, hb3⟩
  have U3 := hide (U2.out.trans (hb3.mono U2.out.size))
  have Q3 := hide (Q2.out.below hb3 Q2.out.lt)
  have M3 := hide (M2.out.below hb3)
  have p0 := (QC.out.below hb3 QC.out.lt).cell 0
  have h0 := Q3.out.cell 0
  have g0 := Q3.out.free 0
  have QN := hide (Q3.out.one (.slice none 0 0))
  have QY := hide (Q3.out.one (.slice ao cs.length cap))
  have UN := hide (U3.out.setCell (p := ⟨w.heap.size, 0, none⟩) (Nat.le_refl _) (.slice none 0 0))
  have UY := hide (U3.out.setCell (p := ⟨w.heap.size, 0, none⟩) (Nat.le_refl _) (.slice ao cs.length cap))
  have MY : Hid (MadeT (w.heap.size) (w3.setCell ⟨w.heap.size, 0, none⟩ (.slice ao cs.length cap)) (.slice ao cs.length cap) cs) := hide ⟨(Made.set M3.out.1 hwB.out _).base (Nat.le_of_lt hwB.out), fun c hc => Made.base (Made.set (M3.out.2 c hc) hwB.out _) (Nat.le_of_lt hwB.out)⟩
  clear hb3 EN q0
  by_cases hC0 : C = 0
  · subst hC0
    cases hx : (X.toList == s.toList) with
    | true =>
      have OK : Hid (decOk s = true) := hide (by rw [DX.out, hx]; rfl)
      clear DX
      go_wp2
      refine bodyPost_ret (results_bun2 rfl _ _ _ _ rfl QY.out) rfl ?_
      exact DecA.ok OK.out _ cs rfl HCS.out MY.out UY.out
    | false =>
      have OK : Hid (decOk s = false) := hide (by rw [DX.out, hx]; rfl)
      clear DX
      go_wp2
      refine bodyPost_ret (results_bun2 rfl _ _ _ _ rfl QN.out) rfl ?_
      exact DecA.no OK.out rfl UN.out
  · have OK : Hid (decOk s = false) := hide (by rw [DX.out, decide_eq_false hC0]; rfl)
    have hC' : ((C : Int) == 0) = false := beq_eq_false_iff_ne.2 (by omega)
    have hC2 : ((C : Int) != 0) = true := by rw [bne, hC']; rfl
    clear DX
    go_wp2
    refine bodyPost_ret (results_bun2 rfl _ _ _ _ rfl QN.out) rfl ?_
    exact DecA.no OK.out rfl UN.out

end Go.Proofs.YtihnakblcfealaaGreatDoor

namespace Go.Proofs.YtihnakblcfealaaGreatDoor
open Go.RowKit Go.Maps

theorem pool_eq {l : List ByteArray} {ps : List (List UInt8)} (h1 : ps.Pairwise (· < ·)) (h2 : ∀ x, x ∈ ps ↔ ∃ t ∈ l, bys t = x) : poolL l = ps := by
  have n1 : (poolL l).Pairwise (· < ·) := pool_rise l
  have n2 : ps.Nodup := h1.imp (fun {a b} h e => by rw [e] at h; exact List.lt_irrefl _ h)
  refine List.Perm.eq_of_pairwise (le := fun a b => a < b) (fun a b _ _ q1 q2 => absurd (List.lt_trans q1 q2) (List.lt_irrefl _)) n1 h1 ((List.perm_ext_iff_of_nodup (pool_nodup l) n2).2 fun x => ?_)
  rw [pool_mem, h2]

def xA : ByteArray := ⟨#[97]⟩
def xB : ByteArray := ⟨#[98]⟩
def xC : ByteArray := ⟨#[99]⟩
def xD : ByteArray := ⟨#[100]⟩
def xX : ByteArray := ⟨#[120]⟩
def xY : ByteArray := ⟨#[121]⟩
def xR : ByteArray := ⟨#[114]⟩
def xO : ByteArray := ⟨#[]⟩
def xEn : ByteArray := ⟨#[101, 110]⟩
def xRoot : ByteArray := ⟨#[114, 111, 111, 116]⟩
def xOne : ByteArray := ⟨#[0, 1, 0, 1, 114, 1, 0, 0, 255, 0, 0]⟩

def esR : List Ent := [⟨xA, 0, xX, 0⟩, ⟨xB, 2, xA, 0⟩, ⟨xC, 1, xO, 7⟩]
def esE : List Ent := [⟨xA, 0, xY, 0⟩]
def rootT : List Tab := [⟨xRoot, -1, esR⟩, ⟨xEn, 0, esE⟩]
def oneT : List Tab := [⟨xR, -1, []⟩]

set_option maxRecDepth 100000 in
theorem fx_check1 : checkT oneT = 0 := by kernel_rfl
theorem fx_pool1 : poolL (textsL oneT) = [[114]] := pool_eq (by simp) (fun x => by
  constructor
  · intro h; simp at h; subst h; exact ⟨xR, by simp [textsL, oneT, tabL], rfl⟩
  · rintro ⟨t, ht, rfl⟩
    have : t = xR := by simpa [textsL, oneT, tabL] using ht
    subst this
    exact List.mem_singleton.2 rfl)
theorem fx_enc : encT oneT = bys xOne := by unfold encT; rw [fx_pool1]; kernel_rfl
theorem fx_find1 : findT rootT xEn xB = (⟨xA, 0, xY, 0⟩, 0) := by kernel_rfl
theorem fx_find2 : findT rootT xEn xD = (Ent.zero, 125) := by kernel_rfl
theorem fx_ch : chE rootT xEn = 0 := by kernel_rfl
theorem fx_keys : (poolL (keysL xO (chL rootT xEn))).length = 3 := by rw [pool_len]; kernel_rfl
theorem fx_read : (rdB xOne).1 = oneT := by kernel_rfl
theorem fx_dec : decOk xOne = true := by unfold decOk; rw [fx_read]; exact decide_eq_true ⟨fx_check1, fx_enc⟩

end Go.Proofs.YtihnakblcfealaaGreatDoor

namespace Go.Proofs.YtihnakblcfealaaGreatDoor
open Go.RowKit

theorem put2_size (n : Int) : (put2 n).size = 2 := rfl
theorem size_cat (a b : ByteArray) : (a ++ b).size = a.size + b.size := by rw [← bys_len, bys_append, List.length_append, bys_len, bys_len]

theorem ptxE_ok (s : ByteArray) (h : ptxE s = 0) : s.size ≤ 1024 ∧ (runesL (bys s)).isSome = true := by
  unfold ptxE at h
  split at h
  · omega
  split at h
  · omega
  · rename_i h1
    refine ⟨by omega, ?_⟩
    cases hb : (runesL (bys s)).isSome with
    | true => rfl
    | false => exact absurd hb h1

theorem ptxV_ok (s : ByteArray) (h : ptxE s = 0) : ptxV s = put2 (s.size : Int) ++ s := by unfold ptxV; rw [if_pos h]
def Stands (s : ByteArray) (p : Nat) (f : ByteArray) : Prop := p + f.size ≤ s.size ∧ s.extract p (p + f.size) = f

theorem bN_inj {a b : Int} {k : Nat} (h : bN a k = bN b k) : a / 2 ^ (8 * k) % 256 = b / 2 ^ (8 * k) % 256 := by
  have h1 := bN_nat a k
  have h2 := bN_nat b k
  rw [h] at h1
  omega

theorem lists1 {a b : UInt8} (h : (⟨#[a]⟩ : ByteArray) = ⟨#[b]⟩) : a = b := by
  simpa using h
theorem lists2 {a b c d : UInt8} (h : (⟨#[a, b]⟩ : ByteArray) = ⟨#[c, d]⟩) : a = c ∧ b = d := by
  simpa using h
theorem lists4 {a b c d a' b' c' d' : UInt8} (h : (⟨#[a, b, c, d]⟩ : ByteArray) = ⟨#[a', b', c', d']⟩) : a = a' ∧ b = b' ∧ c = c' ∧ d = d' := by
  simpa using h

theorem low1 (m n : Int) (h0 : 0 ≤ m) (h1 : m < 256) (h : (⟨#[bN m 0]⟩ : ByteArray) = ⟨#[bN n 0]⟩) : m = n % 256 := by
  have e0 := bN_inj (lists1 h)
  rw [show (2 : Int) ^ (8 * 0) = 1 by decide, Int.ediv_one, Int.ediv_one] at e0
  omega
theorem low2 (m n : Int) (h0 : 0 ≤ m) (h1 : m < 65536) (h : put2 m = put2 n) : m = n % 65536 := by
  obtain ⟨h1', h0'⟩ := lists2 h
  have e0 := bN_inj h0'
  have e1 := bN_inj h1'
  rw [show (2 : Int) ^ (8 * 0) = 1 by decide, Int.ediv_one, Int.ediv_one] at e0
  rw [show (2 : Int) ^ (8 * 1) = 256 by decide] at e1
  omega
theorem low4 (m n : Int) (h0 : 0 ≤ m) (h1 : m < 4294967296) (h : put4 m = put4 n) : m = n % 4294967296 := by
  obtain ⟨h3', h2', h1', h0'⟩ := lists4 h
  have e0 := bN_inj h0'
  have e1 := bN_inj h1'
  have e2 := bN_inj h2'
  have e3 := bN_inj h3'
  rw [show (2 : Int) ^ (8 * 0) = 1 by decide, Int.ediv_one, Int.ediv_one] at e0
  rw [show (2 : Int) ^ (8 * 1) = 256 by decide] at e1
  rw [show (2 : Int) ^ (8 * 2) = 65536 by decide] at e2
  rw [show (2 : Int) ^ (8 * 3) = 16777216 by decide] at e3
  omega

theorem read1 (s : ByteArray) (p : Nat) (n : Int) (h : Stands s p ⟨#[bN n 0]⟩) : (getV s p 0 1 : Int) = n % 256 ∧ getA s p 0 1 = p + 1 ∧ getE s p 0 1 = 0 := by
  obtain ⟨h1, h2⟩ := h
  have h1' : p + 1 ≤ s.size := h1
  have h2' : s.extract p (p + 1) = ⟨#[bN n 0]⟩ := h2
  rw [getV_val s p 0 1 rfl h1']
  rw [again1 s p h1'] at h2'
  have hl := beA_lt (bys s) p 1
  refine ⟨low1 _ _ (by omega) (by omega) h2', ?_, ?_⟩
  · unfold getA; rw [if_pos ⟨rfl, h1'⟩]
  · unfold getE; rw [if_pos rfl, if_pos h1']
theorem read2 (s : ByteArray) (p : Nat) (n : Int) (h : Stands s p (put2 n)) : (getV s p 0 2 : Int) = n % 65536 ∧ getA s p 0 2 = p + 2 ∧ getE s p 0 2 = 0 := by
  obtain ⟨h1, h2⟩ := h
  have h1' : p + 2 ≤ s.size := h1
  have h2' : s.extract p (p + 2) = put2 n := h2
  rw [getV_val s p 0 2 rfl h1']
  rw [again2 s p h1'] at h2'
  have hl := beA_lt (bys s) p 2
  refine ⟨low2 _ _ (by omega) (by omega) h2', ?_, ?_⟩
  · unfold getA; rw [if_pos ⟨rfl, h1'⟩]
  · unfold getE; rw [if_pos rfl, if_pos h1']
theorem read4 (s : ByteArray) (p : Nat) (n : Int) (h : Stands s p (put4 n)) : (getV s p 0 4 : Int) = n % 4294967296 ∧ getA s p 0 4 = p + 4 ∧ getE s p 0 4 = 0 := by
  obtain ⟨h1, h2⟩ := h
  have h1' : p + 4 ≤ s.size := h1
  have h2' : s.extract p (p + 4) = put4 n := h2
  rw [getV_val s p 0 4 rfl h1']
  rw [again4 s p h1'] at h2'
  have hl := beA_lt (bys s) p 4
  refine ⟨low4 _ _ (by omega) (by omega) h2', ?_, ?_⟩
  · unfold getA; rw [if_pos ⟨rfl, h1'⟩]
  · unfold getE; rw [if_pos rfl, if_pos h1']

theorem stands_parts (s : ByteArray) (p : Nat) (a b : ByteArray) (h : Stands s p (a ++ b)) : Stands s p a ∧ Stands s (p + a.size) b := by
  obtain ⟨h1, h2⟩ := h
  rw [size_cat] at h1 h2
  have e := congrArg bys h2
  rw [bys_cutB, bys_append, List.take_add] at e
  have hl : (((bys s).drop p).take a.size).length = (bys a).length := by rw [List.length_take, List.length_drop, bys_len, bys_len]; omega
  obtain ⟨e1, e2⟩ := List.append_inj e hl
  refine ⟨⟨by omega, bys_injB ?_⟩, ⟨by omega, bys_injB ?_⟩⟩
  · rw [bys_cutB]; exact e1
  · rw [bys_cutB, ← List.drop_drop]; exact e2

theorem readT (s : ByteArray) (p : Nat) (t : ByteArray) (he : ptxE t = 0) (h : Stands s p (ptxV t)) : tgtV s p 0 1024 = t ∧ tgtA s p 0 1024 = p + (ptxV t).size ∧ tgtE s p 0 1024 = 0 := by
  obtain ⟨z1, z2⟩ := ptxE_ok t he
  rw [ptxV_ok t he] at h ⊢
  obtain ⟨h1, h2⟩ := stands_parts s p _ _ h
  obtain ⟨r1, _, _⟩ := read2 s p _ h1
  have hsz := h1.1
  rw [put2_size] at hsz h2
  rw [getV_val s p 0 2 rfl hsz] at r1
  have hN : beA (bys s) p 2 = t.size := by omega
  obtain ⟨h3, h4⟩ := h2
  have hT : txtS s p = t := by unfold txtS; rw [hN]; exact h4
  have hF : txtF s p 1024 = 0 := by
    unfold txtF
    rw [hN, if_neg (by omega), if_neg (by omega), if_neg (by omega), if_neg (by rw [h4, z2]; decide)]
  refine ⟨?_, ?_, ?_⟩
  · unfold tgtV; rw [if_pos ⟨rfl, hF⟩, hT]
  · unfold tgtA; rw [if_pos ⟨rfl, hF⟩, hN, size_cat, put2_size]; omega
  · unfold tgtE; rw [if_pos rfl, hF]

end Go.Proofs.YtihnakblcfealaaGreatDoor

namespace Go.Proofs.YtihnakblcfealaaGreatDoor
open Go.RowKit

def SL (s : ByteArray) (p : Nat) (l : List UInt8) : Prop := p ≤ s.size ∧ ∃ post, (bys s).drop p = l ++ post

theorem SL.parts {s : ByteArray} {p : Nat} {a b : List UInt8} (h : SL s p (a ++ b)) : SL s p a ∧ SL s (p + a.length) b := by
  obtain ⟨h1, post, h2⟩ := h
  have hl : s.size - p = ((a ++ b) ++ post).length := by rw [← h2, List.length_drop, bys_len]
  simp only [List.length_append] at hl
  refine ⟨⟨h1, b ++ post, by rw [h2, List.append_assoc]⟩, by omega, post, ?_⟩
  rw [← List.drop_drop, h2, List.append_assoc, List.drop_left]

theorem SL.stands {s : ByteArray} {p : Nat} {f : ByteArray} (h : SL s p (bys f)) : Stands s p f := by
  obtain ⟨h1, post, h2⟩ := h
  have hl : s.size - p = (bys f ++ post).length := by rw [← h2, List.length_drop, bys_len]
  rw [List.length_append, bys_len] at hl
  refine ⟨by omega, bys_injB ?_⟩
  rw [bys_cutB, h2, ← bys_len f, List.take_left]

theorem get1_back {s : ByteArray} {p n : Nat} (h : SL s p (p1 (n : Int))) (hn : n < 256) : gV s (p, 0) 1 = n ∧ gS s (p, 0) 1 = (p + 1, 0) := by
  obtain ⟨h1, h2, h3⟩ := read1 s p n (SL.stands (f := ⟨#[bN n 0]⟩) h)
  refine ⟨?_, ?_⟩
  · unfold gV; show getV s p 0 1 = n; omega
  · unfold gS; show (getA s p 0 1, getE s p 0 1) = _; rw [h2, h3]
theorem get2_back {s : ByteArray} {p n : Nat} (h : SL s p (p2 (n : Int))) (hn : n < 65536) : gV s (p, 0) 2 = n ∧ gS s (p, 0) 2 = (p + 2, 0) := by
  obtain ⟨h1, h2, h3⟩ := read2 s p n (SL.stands (f := put2 n) h)
  refine ⟨?_, ?_⟩
  · unfold gV; show getV s p 0 2 = n; omega
  · unfold gS; show (getA s p 0 2, getE s p 0 2) = _; rw [h2, h3]
theorem get4_back {s : ByteArray} {p n : Nat} (h : SL s p (p4 (n : Int))) (hn : n < 4294967296) : gV s (p, 0) 4 = n ∧ gS s (p, 0) 4 = (p + 4, 0) := by
  obtain ⟨h1, h2, h3⟩ := read4 s p n (SL.stands (f := put4 n) h)
  refine ⟨?_, ?_⟩
  · unfold gV; show getV s p 0 4 = n; omega
  · unfold gS; show (getA s p 0 4, getE s p 0 4) = _; rw [h2, h3]
theorem text_back {s : ByteArray} {p : Nat} {t : ByteArray} (h : SL s p (bys (ptxV t))) (ht : ptxE t = 0) : rdX s (p, 0) = (t, (p + (bys (ptxV t)).length, 0)) := by
  obtain ⟨h1, h2, h3⟩ := readT s p t ht h.stands
  unfold rdX xV xS
  show (tgtV s p 0 1024, (tgtA s p 0 1024, tgtE s p 0 1024)) = _
  rw [h1, h2, h3, bys_len]

theorem many_back {α : Type} {s : ByteArray} (item : St → α × St) (lay : α → List UInt8) (P : α → Prop) (h : ∀ p x, P x → SL s p (lay x) → item (p, 0) = (x, (p + (lay x).length, 0))) :
    ∀ (xs : List α) (p : Nat), (∀ x ∈ xs, P x) → SL s p (xs.flatMap lay) → rdMany item xs.length (p, 0) = (xs, (p + (xs.flatMap lay).length, 0))
  | [], p, _, _ => rfl
  | x :: r, p, hP, hS => by
    rw [List.flatMap_cons] at hS ⊢
    have hx := h p x (hP x (List.mem_cons_self ..)) hS.parts.1
    have hr := many_back item lay P h r (p + (lay x).length) (fun y hy => hP y (List.mem_cons_of_mem _ hy)) hS.parts.2
    show ((item (p, 0)).1 :: (rdMany item r.length (item (p, 0)).2).1, (rdMany item r.length (item (p, 0)).2).2) = _
    rw [hx, hr, List.length_append, Nat.add_assoc]

theorem row2_back {α : Type} {s : ByteArray} {most : Nat} (item : St → α × St) (lay : α → List UInt8) (P : α → Prop) (h : ∀ p x, P x → SL s p (lay x) → item (p, 0) = (x, (p + (lay x).length, 0)))
    (xs : List α) (p : Nat) (hP : ∀ x ∈ xs, P x) (hl : xs.length ≤ most) (hm : most < 65536) (hS : SL s p (p2 (xs.length : Int) ++ xs.flatMap lay)) : rdRow s 2 most item (p, 0) = (xs, (p + 2 + (xs.flatMap lay).length, 0)) := by
  obtain ⟨h1, h2⟩ := get2_back hS.parts.1 (by omega)
  unfold rdRow
  rw [h1, h2, if_neg (by omega)]
  exact many_back item lay P h xs (p + 2) hP hS.parts.2
theorem row1_back {α : Type} {s : ByteArray} {most : Nat} (item : St → α × St) (lay : α → List UInt8) (P : α → Prop) (h : ∀ p x, P x → SL s p (lay x) → item (p, 0) = (x, (p + (lay x).length, 0)))
    (xs : List α) (p : Nat) (hP : ∀ x ∈ xs, P x) (hl : xs.length ≤ most) (hm : most < 256) (hS : SL s p (p1 (xs.length : Int) ++ xs.flatMap lay)) : rdRow s 1 most item (p, 0) = (xs, (p + 1 + (xs.flatMap lay).length, 0)) := by
  obtain ⟨h1, h2⟩ := get1_back hS.parts.1 (by omega)
  unfold rdRow
  rw [h1, h2, if_neg (by omega)]
  exact many_back item lay P h xs (p + 1) hP hS.parts.2

def unB (ps : List (List UInt8)) : List ByteArray := ps.map fun l => ⟨l.toArray⟩

theorem place_back {ps : List (List UInt8)} {x : ByteArray} (h : bys x ∈ ps) : txN (unB ps) (placeS ps (bys x)) = x ∧ placeS ps (bys x) < ps.length := by
  have hi : ps.idxOf (bys x) < ps.length := List.idxOf_lt_length_iff.2 h
  unfold placeS
  rw [if_pos h]
  refine ⟨?_, hi⟩
  unfold txN unB
  rw [List.getElem?_map, List.getElem?_eq_getElem hi]
  have : ps[ps.idxOf (bys x)] = bys x := List.getElem_idxOf hi
  rw [this]
  exact mkByB x

def PE (ps : List (List UInt8)) (e : Ent) : Prop := bys e.key ∈ ps ∧ mayVal e = true ∧ (e.kind ≠ 1 → bys e.text ∈ ps)

theorem entry_back {s : ByteArray} {ps : List (List UInt8)} (hps : ps.length ≤ 4096) (p : Nat) (e : Ent) (he : PE ps e) (h : SL s p (entB ps e)) : rdE (unB ps) s (p, 0) = (e, (p + (entB ps e).length, 0)) := by
  obtain ⟨hk, hv, ht⟩ := he
  obtain ⟨k, d, t, m⟩ := e
  simp only at hk ht
  have hlen : (entB ps ⟨k, d, t, m⟩).length = 7 := entB_len _ _
  unfold entB at h
  simp only at h
  obtain ⟨h12, h3⟩ := h.parts
  obtain ⟨h1, h2⟩ := h12.parts
  obtain ⟨k1, k2⟩ := place_back hk
  obtain ⟨a1, a2⟩ := get2_back h1 (by omega)
  unfold mayVal at hv
  simp only at hv
  have hd : d = 0 ∨ d = 1 ∨ d = 2 := by
    by_cases q0 : d = 0
    · exact .inl q0
    by_cases q1 : d = 1
    · exact .inr (.inl q1)
    by_cases q2 : d = 2
    · exact .inr (.inr q2)
    rw [if_neg q0, if_neg q1, if_neg q2] at hv
    cases hv
  obtain ⟨dn, rfl⟩ : ∃ dn : Nat, d = (dn : Int) := ⟨d.toNat, by omega⟩
  have hp2 : (p2 (placeS ps (bys k) : Int)).length = 2 := rfl
  rw [hp2] at h2
  obtain ⟨b1, b2⟩ := get1_back h2 (by omega)
  have hp3 : p + (p2 (placeS ps (bys k) : Int) ++ p1 (dn : Int)).length = p + 2 + 1 := rfl
  rw [hp3] at h3
  rw [hlen]
  unfold rdE
  rw [a1, a2, b1, b2, k1]
  by_cases q : dn = 1
  · subst q
    rw [if_pos (show ((1 : Nat) : Int) = 1 from rfl)] at h3
    rw [if_neg (show ¬ ((1 : Nat) : Int) = 0 by decide), if_pos (show ((1 : Nat) : Int) = 1 from rfl)] at hv
    have hv' := of_decide_eq_true hv
    obtain ⟨mn, rfl⟩ : ∃ mn : Nat, m = (mn : Int) := ⟨m.toNat, by omega⟩
    obtain ⟨c1, c2⟩ := get4_back h3 (by omega)
    rw [c1, c2, if_pos rfl, mk_empty hv'.1]
    rfl
  · rw [if_neg (by omega)] at h3
    obtain ⟨t1, t2⟩ := place_back (ht (by omega))
    obtain ⟨c1, c2⟩ := get4_back h3 (by omega)
    have hm0 : m = 0 := by
      rcases hd with q0 | q1 | q2
      · rw [if_pos q0, Bool.and_eq_true] at hv; exact of_decide_eq_true hv.2
      · omega
      · rw [if_neg (by omega), if_neg (by omega), if_pos q2, Bool.and_eq_true] at hv; exact of_decide_eq_true hv.2
    rw [c1, c2, if_neg q, t1, hm0]

def PT (ps : List (List UInt8)) (t : Tab) : Prop := bys t.name ∈ ps ∧ -1 ≤ t.parent ∧ t.parent < 16 ∧ t.ents.length ≤ 1024 ∧ ∀ e ∈ t.ents, PE ps e

theorem table_back {s : ByteArray} {ps : List (List UInt8)} (hps : ps.length ≤ 4096) (p : Nat) (t : Tab) (ht : PT ps t) (h : SL s p (tabB ps t)) : rdT (unB ps) s (p, 0) = (t, (p + (tabB ps t).length, 0)) := by
  obtain ⟨hn, hp1, hp2, hl, hE⟩ := ht
  obtain ⟨n, d, es⟩ := t
  simp only at hn hp1 hp2 hl hE
  have hlen : (tabB ps ⟨n, d, es⟩).length = 5 + 7 * es.length := tabB_len _ _
  unfold tabB at h
  simp only [List.append_assoc] at h
  obtain ⟨h1, h2⟩ := h.parts
  obtain ⟨h2, h3⟩ := h2.parts
  obtain ⟨k1, k2⟩ := place_back hn
  obtain ⟨a1, a2⟩ := get2_back h1 (by omega)
  obtain ⟨pn, hpn, hpl⟩ : ∃ pn : Nat, parB d = (pn : Int) ∧ pn < 256 ∧ parV pn = d := by
    unfold parB parV
    by_cases q : d = -1
    · exact ⟨255, by rw [if_pos q]; rfl, by decide, by rw [if_pos rfl, q]⟩
    · exact ⟨d.toNat, by rw [if_neg q]; omega, by omega, by rw [if_neg (by omega)]; omega⟩
  rw [hpn] at h2 h3
  have e2 : (p2 (placeS ps (bys n) : Int)).length = 2 := rfl
  rw [e2] at h2 h3
  obtain ⟨b1, b2⟩ := get1_back h2 hpl.1
  have e3 : p + 2 + (p1 (pn : Int)).length = p + 2 + 1 := rfl
  rw [e3] at h3
  have hr := row2_back (most := 1024) (rdE (unB ps) s) (entB ps) (PE ps) (fun q x => entry_back hps q x) es (p + 2 + 1) hE hl (by decide) h3
  rw [hlen]
  unfold rdT
  rw [a1, a2, b1, b2, k1, hr, hpl.2, entsB_len]
  simp only [Prod.mk.injEq, true_and]
  exact ⟨by omega, trivial⟩

theorem ents_may : ∀ (es : List Ent) (last : ByteArray), entsE last es = 0 → ∀ e ∈ es, mayName e.key = true ∧ mayVal e = true := by
  intro es last h e he
  obtain ⟨j, hj, rfl⟩ := List.getElem_of_mem he
  have q := (ents_rise es last h).2.2 j hj
  rw [entN_get (List.getElem?_eq_getElem hj)] at q
  exact q

theorem mayText_ptx {t : ByteArray} (h : mayText t = true) : ptxE t = 0 := by
  unfold mayText at h
  rw [Bool.and_eq_true, decide_eq_true_eq] at h
  unfold ptxE
  rw [if_neg (by omega), if_neg (by rw [h.2]; decide)]
theorem mayName_text {t : ByteArray} (h : mayName t = true) : mayText t = true := by
  unfold mayName at h
  rw [Bool.and_eq_true] at h
  exact h.2

theorem texts_may {ts : List Tab} (h : checkT ts = 0) : ∀ t ∈ textsL ts, ptxE t = 0 := by
  intro t ht
  unfold textsL at ht
  obtain ⟨a, ha, hta⟩ := List.mem_flatMap.1 ht
  obtain ⟨k, hk, rfl⟩ := mem_tabN ha
  obtain ⟨h1, _, _, _, h5⟩ := tabE_zero ((check_zero h).2.1 k hk)
  unfold tabL at hta
  rcases List.mem_cons.1 hta with q | q
  · rw [q]; exact mayText_ptx (mayName_text h1)
  · obtain ⟨e, he, hte⟩ := List.mem_flatMap.1 q
    obtain ⟨m1, m2⟩ := ents_may _ _ h5 e he
    unfold entL at hte
    by_cases q1 : e.kind = 1
    · rw [if_pos q1] at hte
      simp at hte
      rw [hte]; exact mayText_ptx (mayName_text m1)
    · rw [if_neg q1] at hte
      simp at hte
      rcases hte with q | q
      · rw [q]; exact mayText_ptx (mayName_text m1)
      · rw [q]
        unfold mayVal at m2
        by_cases q0 : e.kind = 0
        · rw [if_pos q0, Bool.and_eq_true] at m2; exact mayText_ptx m2.1
        · rw [if_neg q0, if_neg q1] at m2
          by_cases q2 : e.kind = 2
          · rw [if_pos q2, Bool.and_eq_true] at m2; exact mayText_ptx (mayName_text m2.1)
          · rw [if_neg q2] at m2; cases m2

theorem tabs_may {ts : List Tab} (h : checkT ts = 0) : ∀ t ∈ ts, PT (poolL (textsL ts)) t := by
  intro t ht
  obtain ⟨k, hk, rfl⟩ := mem_tabN ht
  obtain ⟨_, _, h3, h4, h5⟩ := tabE_zero ((check_zero h).2.1 k hk)
  obtain ⟨_, l16, hl⟩ := counts_len (check_zero h).1
  have hmem : ∀ x, x ∈ tabL (tabN ts k) → bys x ∈ poolL (textsL ts) := fun x hx => (pool_mem _ _).2 ⟨x, List.mem_flatMap.2 ⟨_, ht, hx⟩, rfl⟩
  refine ⟨hmem _ (List.mem_cons_self ..), h3, by omega, hl k, fun e he => ?_⟩
  have hsub : ∀ x, x ∈ entL e → bys x ∈ poolL (textsL ts) := fun x hx => hmem x (List.mem_cons_of_mem _ (List.mem_flatMap.2 ⟨e, he, hx⟩))
  refine ⟨hsub _ (by unfold entL; split <;> simp), (ents_may _ _ h5 e he).2, fun q => hsub _ (by unfold entL; rw [if_neg q]; simp)⟩

theorem read_back {ts : List Tab} (h : checkT ts = 0) (s : ByteArray) (more : List UInt8) (hs : bys s = encT ts ++ more) : rdB s = (ts, ((encT ts).length, 0)) := by
  have hpl : (poolL (textsL ts)).length ≤ 4096 := by rw [pool_len]; exact (check_zero h).2.2
  obtain ⟨l1, l16, _⟩ := counts_len (check_zero h).1
  have hS : SL s 0 (encT ts) := ⟨Nat.zero_le _, more, by rw [List.drop_zero, hs]⟩
  have hlen : (encT ts).length = 2 + (txtB (poolL (textsL ts))).length + 1 + (ts.flatMap (tabB (poolL (textsL ts)))).length := by
    unfold encT
    simp only [List.length_append]
    rfl
  have hT := tabs_may h
  have hX : ∀ t ∈ unB (poolL (textsL ts)), ptxE t = 0 := by
    intro t ht
    unfold unB at ht
    obtain ⟨l, hl, rfl⟩ := List.mem_map.1 ht
    obtain ⟨x, hx, rfl⟩ := (pool_mem _ _).1 hl
    rw [mkByB]
    exact texts_may h x hx
  unfold encT at hS
  rw [List.append_assoc] at hS
  obtain ⟨hA, hB⟩ := hS.parts
  have hfl : txtB (poolL (textsL ts)) = (unB (poolL (textsL ts))).flatMap (fun t => bys (ptxV t)) := by
    unfold txtB unB
    rw [List.flatMap_map]
  have hul : (unB (poolL (textsL ts))).length = (poolL (textsL ts)).length := by unfold unB; rw [List.length_map]
  have e1 : rdP s = (unB (poolL (textsL ts)), (2 + (txtB (poolL (textsL ts))).length, 0)) := by
    unfold rdP
    rw [row2_back (rdX s) (fun t => bys (ptxV t)) (fun t => ptxE t = 0) (fun q x hx hq => text_back hq hx) (unB (poolL (textsL ts))) 0 hX (by rw [hul]; exact hpl) (by decide) (by rw [hul, ← hfl]; exact hA), ← hfl, Nat.zero_add]
  have e2 : 0 + (p2 ((poolL (textsL ts)).length : Int) ++ txtB (poolL (textsL ts))).length = 2 + (txtB (poolL (textsL ts))).length := by
    rw [List.length_append, Nat.zero_add]; rfl
  rw [e2] at hB
  unfold rdB
  rw [e1]
  simp only
  rw [row1_back (rdT (unB (poolL (textsL ts))) s) (tabB (poolL (textsL ts))) (PT (poolL (textsL ts))) (fun q x => table_back hpl q x) ts _ hT l16 (by decide) hB, hlen]

theorem dec_enc {ts : List Tab} (h : checkT ts = 0) (s : ByteArray) (hs : bys s = encT ts) : decOk s = true ∧ (rdB s).1 = ts := by
  have e := read_back h s [] (by rw [hs, List.append_nil])
  have e1 : (rdB s).1 = ts := by rw [e]
  exact ⟨by unfold decOk; rw [e1]; exact decide_eq_true ⟨h, hs.symm⟩, e1⟩

end Go.Proofs.YtihnakblcfealaaGreatDoor
