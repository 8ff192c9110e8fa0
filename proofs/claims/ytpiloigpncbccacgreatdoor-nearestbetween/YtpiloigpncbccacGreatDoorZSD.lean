/-
  What shortest's fewest does.
  What shortest's dec, Of64, Of32, Exact64 and Exact32 do.
  What quipulaw03's dec and awake do: the eight calls answer what the document fixes.
  What quipulaw03's formed does, of a Dec in its one form.
-/
import Derived.Test.YtpiloigpncbccacGreatDoorZSC
import Derived.Test.YtpiloigpncbccacGreatDoorZQ3
import Derived.Test.YtpiloigpncbccacGreatDoorZSM
namespace Go.Proofs.YtpiloigpncbccacGreatDoor
open Go.RowKit

theorem size_bound {A j c : Nat} (h : A < 10 ^ j) (h1 : 1 ≤ j) (hj : j ≤ c) : sizeN A ≤ c := Nat.le_trans (sizeN_le h h1) hj

theorem pickV_none : pickV none = .tuple #[.int .u64 0, .bool false] := rfl
theorem pickV_some (v : Nat) : pickV (some v) = .tuple #[.int .u64 (v : Int), .bool true] := rfl

/-- At the head of fewest's loop, at place p. -/
structure FewInv (w : World) (r : Near) (s p H : Nat) (va vl vh vu vr : Value) (wr : World) : Prop where
  bel : Below w.heap.size w wr
  blk : Blk wr H #[va, vl, vh, .bool r.clo] 69
  lo : Nt wr vl r.lo
  hi : Nt wr vh r.hi
  unit : Nt wr vu (10 ^ p)
  rest : Nt wr vr (r.amt % 10 ^ (p + 1))
  few : fewN r s = fewN r (p + 1)
  top : r.amt / 10 ^ (p + 1) < 10 ^ 16
  tab : Tab wr

theorem digit_step (A p : Nat) : A / 10 ^ (p + 1) * 10 + A % 10 ^ (p + 1) / 10 ^ p = A / 10 ^ p ∧ A % 10 ^ (p + 1) / 10 ^ p < 10 ∧ A % 10 ^ (p + 1) % 10 ^ p = A % 10 ^ p := by
  have hp : 0 < 10 ^ p := Nat.pow_pos (by omega)
  have e : A % 10 ^ (p + 1) / 10 ^ p = A / 10 ^ p % 10 := by rw [Nat.pow_succ, Nat.mod_mul_right_div_self]
  refine ⟨?_, ?_, ?_⟩
  · rw [e, Nat.pow_succ, ← Nat.div_div_eq_div_mul]; omega
  · rw [e]; omega
  · rw [Nat.pow_succ, Nat.mod_mul_right_mod]

set_option maxHeartbeats 2000000 in
theorem fewest_any (F X B x m : Nat) (w : World) (hF : F ≤ 52) (hB : B ≤ 2000) (hx : x ≤ 5000) (hm : m < 2 ^ F) (h1 : -1074 ≤ fPow B x) (h2 : fPow B x ≤ 971) (h0 : ¬ (x = 0 ∧ m = 0)) (htab : Tab w) :
    Calls Tryz.prog 23 #[widV F X B, .int .u64 (x : Int), .int .u64 (m : Int)] w (TxtPost w (fewD F B x m).1 (fewD F B x m).2) := by
  have RC := fun W => reach_any F X B x m W hF hB hx hm h1 h2
  have g := nearOf_good (B := B) (x := x) hF hm
  have hn : fNum F x m ≠ 0 := by
    have := Nat.pow_pos (n := F) (show 0 < 2 by omega)
    unfold fNum; split <;> omega
  have ha : (nearOf F B x m).amt ≠ 0 := by
    have := p2N_pos (fPow B x - 2)
    exact Nat.mul_ne_zero (by omega) (by omega)
  obtain ⟨j, hj⟩ : ∃ j : Nat, j = 1081 := ⟨_, rfl⟩
  have hp := p2N_lt (n := fPow B x - 2) (j := j) (by omega) (by omega)
  have hA : (nearOf F B x m).amt < 10 ^ (j + 17) := mul_lt10 hp (fNum_lt17 hF hm)
  have hH : (nearOf F B x m).hi < 10 ^ (j + 1) := mul_lt10 hp (by omega)
  have hE : -1100 ≤ p2E (fPow B x - 2) ∧ p2E (fPow B x - 2) ≤ 0 := by unfold p2E; split <;> omega
  unfold fewD
  obtain ⟨r, hr⟩ : ∃ r, r = nearOf F B x m := ⟨_, rfl⟩
  obtain ⟨ex, hex⟩ : ∃ ex, ex = p2E (fPow B x - 2) := ⟨_, rfl⟩
  obtain ⟨sz, hsz⟩ : ∃ sz, sz = sizeN r.amt := ⟨_, rfl⟩
  rw [← hr, ← hex] at RC
  rw [← hr] at g ha hA hH
  rw [← hex] at hE
  rw [← hr, ← hex, ← hsz]
  have hs1 : 1 ≤ sz ∧ sz ≤ 1098 := ⟨by rw [hsz]; exact sizeN_pos _, by rw [hsz]; exact size_bound hA (by omega) (by omega)⟩
  have hlt : r.amt < 10 ^ sz := by rw [hsz]; exact sizeN_lt _
  have SM : Hid (Sm r.amt ∧ Sm r.lo ∧ Sm r.hi ∧ ∀ p, p ≤ 1100 → Sm (10 ^ p)) := ⟨Sm.of hA (by omega), Sm.of (Nat.lt_of_le_of_lt g.le hH) (by omega), Sm.of hH (by omega), fun p hp => Sm.of (k := p + 1) ((Nat.pow_lt_pow_iff_right (by omega : 1 < 10)).2 (by omega)) (by omega)⟩
  have GD := hide g
  have SZ : Hid (sz = (Lib.decDigits r.amt).length ∧ r.amt < 10 ^ sz) := ⟨hsz, hlt⟩
  have HT := hide htab
  have HR := hide RC
  clear RC g hn ha hp hA hH hr hex hsz htab hF hB hx hm h1 h2 h0 hlt hj j
  go_enter Tryz.func23, Tryz.ntmps23
  go_wp2_with fail
  refine (HR.out _).mono ?_
  rintro e w1 ⟨oa, la, ca, ol, ll, cl, oh, lh, ch, rfl, hra, hb1⟩
  have HA := hide hra
  have HB1 : Hid (Below w.heap.size w w1) := ((Below.refl _ _).alloc (Nat.le_refl _) _).trans (hb1.mono (by simp))
  clear hb1 hra HR
  have blk := Blk.new w1 #[.slice oa la ca, .slice ol ll cl, .slice oh lh ch, .bool r.clo] 69
  have hb1' : Below w1.heap.size w1 (w1.alloc (.cells #[.slice oa la ca, .slice ol ll cl, .slice oh lh ch, .bool r.clo] 69)) := (Below.refl _ _).alloc (Nat.le_refl _) _
  have HB1' := hide (HB1.out.trans (hb1'.mono HB1.out.size))
  have HA' : Hid (ReachAt (w1.alloc (.cells #[.slice oa la ca, .slice ol ll cl, .slice oh lh ch, .bool r.clo] 69)) r (.slice oa la ca) (.slice ol ll cl) (.slice oh lh ch)) := ⟨HA.out.amt.below hb1', HA.out.lo.below hb1', HA.out.hi.below hb1'⟩
  obtain ⟨H, eH⟩ : ∃ H, H = w1.heap.size := ⟨_, rfl⟩
  rw [← eH] at blk
  have BLK := hide blk
  clear blk hb1' HA
  go_wp2_with fail
  refine (nt_text _ _ _ HA'.out.amt (HT.out.below HB1'.out)).mono ?_
  rintro e w2 ⟨rfl, hb2⟩
  have BLK2 := hide (BLK.out.below hb2 BLK.out.lt)
  have HB2 := hide (HB1'.out.trans (hb2.mono HB1'.out.size))
  have HA2 : Hid (ReachAt w2 r (.slice oa la ca) (.slice ol ll cl) (.slice oh lh ch)) := ⟨HA'.out.amt.below hb2, HA'.out.lo.below hb2, HA'.out.hi.below hb2⟩
  obtain ⟨t, ht⟩ : ∃ t : ByteArray, t = ⟨(Lib.decDigits r.amt).toArray⟩ := ⟨_, rfl⟩
  have hts : t.size = sz := by rw [ht, SZ.out.1]; simp [ByteArray.size]
  rw [← ht]
  clear ht hb2 BLK HB1' HA' HB1
  go_wp2_with fail
  refine (nt_pow10 _ (sz - 1) _ (by omega) (by omega)).mono ?_
  rintro e w3 ⟨vu, rfl, hvu, hb3, _⟩
  have BLK3 := hide (BLK2.out.below hb3 BLK2.out.lt)
  have HB3 := hide (HB2.out.trans (hb3.mono HB2.out.size))
  have HA3 : Hid (ReachAt w3 r (.slice oa la ca) (.slice ol ll cl) (.slice oh lh ch)) := ⟨HA2.out.amt.below hb3, HA2.out.lo.below hb3, HA2.out.hi.below hb3⟩
  have HU := hide hvu
  have k0 : w3.cell? ⟨H, 0, none⟩ = some (.slice oa la ca) := BLK3.out.cell 0
  rw [eH] at k0
  have TB3 := hide (HT.out.below HB3.out)
  clear hvu hb3 BLK2 HB2 HA2 HT
  go_wp2
  simp only [← eH]
  clear k0
  have START : Hid (FewInv w r sz (sz - 1) H (.slice oa la ca) (.slice ol ll cl) (.slice oh lh ch) vu (.slice oa la ca) w3) := by
    have e : sz - 1 + 1 = sz := by omega
    refine ⟨HB3.out, BLK3.out, HA3.out.lo, HA3.out.hi, HU.out, ?_, by rw [e], ?_, TB3.out⟩
    · rw [e, Nat.mod_eq_of_lt SZ.out.2]; exact HA3.out.amt
    · rw [e, Nat.div_eq_of_lt SZ.out.2]; exact Nat.pow_pos (by omega)
  have N0 : Hid (r.amt / 10 ^ (sz - 1 + 1) = 0) := by
    have e : sz - 1 + 1 = sz := by omega
    show r.amt / 10 ^ (sz - 1 + 1) = 0
    rw [e, Nat.div_eq_of_lt SZ.out.2]
  clear HB3 BLK3 HA3 HU TB3 SZ eH
  go_loopw [11, 13, 14, 15] (fun vu vr n i wr => ∃ p : Nat, p ≤ 1098 ∧ n = .int .u64 ((r.amt / 10 ^ (p + 1) : Nat) : Int) ∧ i = .int .i64 (p : Int) ∧ FewInv w r sz p H (.slice oa la ca) (.slice ol ll cl) (.slice oh lh ch) vu vr wr) (fun _ _ _ i _ => (intOf i).toNat)
  case atStart => exact ⟨sz - 1, by omega, by rw [N0.out]; rfl, congrArg (Value.int IntKind.i64) (by omega), START.out⟩
  case round =>
    clear START N0 hts
    obtain ⟨p, hp, rfl, rfl, hinv⟩ := hrel
    obtain ⟨d1, d2, d3⟩ := digit_step r.amt p
    have hp0 : 0 < 10 ^ p := Nat.pow_pos (by omega)
    have htop := hinv.top
    have h16 : (10 : Nat) ^ 16 = 10000000000000000 := by decide
    have DV := nt_div u13 u11 _ _ wr hinv.rest hinv.unit (Nat.lt_of_le_of_lt (Nat.mod_le _ _) SM.out.1) (SM.out.2.2.2 p (by omega)) (by omega)
    rw [d3] at DV
    have PA : pickAt r p = pickN r (r.amt / 10 ^ p) (r.amt % 10 ^ p) (10 ^ p) := rfl
    have FS : pickAt r p = none → r.amt / 10 ^ p < 10 ^ 16 := few_small GD.out
    have P0 : p = 0 → pickAt r p ≠ none := fun h => by rw [h, pickAt_zero GD.out]; simp
    have FN : fewN r (p + 1) = (match pickAt r p with | some v => (v, p) | none => fewN r p) := rfl
    rw [← hinv.few] at FN
    obtain ⟨n1, hn1⟩ : ∃ n, n = r.amt / 10 ^ (p + 1) := ⟨_, rfl⟩
    obtain ⟨dd, hdd⟩ : ∃ n, n = r.amt % 10 ^ (p + 1) / 10 ^ p := ⟨_, rfl⟩
    obtain ⟨n0, hn0⟩ : ∃ n, n = r.amt / 10 ^ p := ⟨_, rfl⟩
    obtain ⟨rr, hrr⟩ : ∃ n, n = r.amt % 10 ^ p := ⟨_, rfl⟩
    have hrU : rr < 10 ^ p := by rw [hrr]; exact Nat.mod_lt _ hp0
    rw [← hn1] at htop d1 ⊢
    rw [← hdd] at d1 d2 DV
    rw [← hn0] at d1 PA FS
    rw [← hrr] at DV PA
    have hn1b : n1 < 10000000000000000 := by omega
    have SR : Sm rr := by rw [hrr]; exact Nat.lt_of_le_of_lt (Nat.mod_le _ _) SM.out.1
    have PK : Hid (∀ (W : World) (vr : Value), Below wr.heap.size wr W → Nt W vr rr → Calls Tryz.prog 41 #[.agg #[.slice oa la ca, .slice ol ll cl, .slice oh lh ch, .bool r.clo], .int .u64 ((n1 : Int) * 10 + (dd : Int)), vr, u11] W fun e w' => e = .returned (pickV (pickAt r p)) ∧ Below W.heap.size W w') := by
      intro W vr hW hvr
      rw [show (n1 : Int) * 10 + (dd : Int) = ((n0 : Nat) : Int) by omega, PA]
      exact pick_any oa ol oh la ca ll cl lh ch r.clo vr u11 r n0 rr (10 ^ p) W (hinv.lo.below hW) (hinv.hi.below hW) rfl hvr (hinv.unit.below hW) SR (SM.out.2.2.2 p (by omega)) SM.out.2.1 SM.out.2.2.1 (by omega) (by omega)
    have HI := hide hinv
    have DVH := hide DV
    have FSH : Hid (pickAt r p = none → n0 < 10 ^ 16) := FS
    have P0H := hide P0
    have FNH := hide FN
    have PAH := hide PA
    have N0H : Hid (n0 = r.amt / 10 ^ p ∧ rr = r.amt % 10 ^ p ∧ n0 < 100000000000000000 ∧ n1 * 10 + dd = n0) := ⟨hn0, hrr, by omega, d1⟩
    clear DV PA FS P0 FN hn1 hdd hn0 hrr hrU htop d1 d3 SR hinv hp0 h16
    go_wp2_with fail
    refine DVH.out.mono ?_
    rintro e w4 ⟨vd, vr, rfl, hvd, hvr, hb4⟩
    have HB4 := hide hb4
    have HVR := hide hvr
    have UI := hide (nt_uint vd dd w4 hvd (by unfold B64; omega))
    clear hb4 hvr hvd DVH
    go_wp2_with fail
    refine UI.out.mono ?_
    rintro e w5 ⟨rfl, rfl⟩
    have BK4 := HI.out.blk.below HB4.out HI.out.blk.lt
    have k0 : w4.cell? ⟨H, 0, none⟩ = some (.slice oa la ca) := BK4.cell 0
    have k1 : w4.cell? ⟨H, 1, none⟩ = some (.slice ol ll cl) := BK4.cell 1
    have k2 : w4.cell? ⟨H, 2, none⟩ = some (.slice oh lh ch) := BK4.cell 2
    have k3 : w4.cell? ⟨H, 3, none⟩ = some (.bool r.clo) := BK4.cell 3
    clear BK4 UI
    go_wp2_with fail
    refine (PK.out w4 vr HB4.out HVR.out).mono ?_
    rintro e w6 ⟨rfl, hb6⟩
    have HB6 := hide (HB4.out.trans (hb6.mono HB4.out.size))
    have HVR6 := hide (HVR.out.below hb6)
    clear hb6 HB4 HVR k0 k1 k2 k3 PK
    have HW6 := hide (HI.out.bel.trans (HB6.out.mono HI.out.bel.size))
    rcases ho : pickAt r p with _ | v
    · obtain ⟨k, rfl⟩ : ∃ k, p = k + 1 := ⟨p - 1, by have := P0H.out; have : p ≠ 0 := fun h => this h ho; omega⟩
      have FN := FNH.out
      rw [ho] at FN
      have NX : Hid (∀ (v1 : Value) (W : World), Below w6.heap.size w6 W → Nt W v1 (10 ^ (k + 1) / 10) → FewInv w r sz k H (.slice oa la ca) (.slice ol ll cl) (.slice oh lh ch) v1 vr W) := by
        intro v1 W hW hv1
        have hb := HB6.out.trans (hW.mono HB6.out.size)
        refine ⟨HW6.out.trans (hW.mono HW6.out.size), HI.out.blk.below hb HI.out.blk.lt, HI.out.lo.below hb, HI.out.hi.below hb, ?_, ?_, FN, ?_, HI.out.tab.below hb⟩
        · rw [Nat.pow_succ, Nat.mul_div_cancel _ (by omega)] at hv1; exact hv1
        · rw [← N0H.out.2.1]; exact HVR6.out.below hW
        · rw [← N0H.out.1]; exact FSH.out ho
      have NV : Hid ((n0 : Int) = ((r.amt / 10 ^ (k + 1) : Nat) : Int)) := congrArg Nat.cast N0H.out.1
      have DD : Hid (∀ (W : World) (v1 : Value), Below w6.heap.size w6 W → Nt W v1 10 → Calls Tryz.prog 39 #[u11, v1] W (NtDiv W (10 ^ (k + 1) / 10) (10 ^ (k + 1) % 10))) := by
        intro W v1 hW hv1
        exact nt_div u11 v1 _ 10 W (HI.out.unit.below (HB6.out.trans (hW.mono HB6.out.size))) hv1 (SM.out.2.2.2 _ (by omega)) (Sm.of (k := 2) (by omega) (by omega)) (by omega)
      have NS : Hid ((n1 : Int) * 10 + (dd : Int) = (n0 : Int)) := by have := N0H.out.2.2.2; show (n1 : Int) * 10 + (dd : Int) = (n0 : Int); omega
      rw [pickV_none]
      clear ho FN P0H FNH PAH FSH HI HB6 HVR6 HW6
      go_wp2_with fail
      refine (nt_of 10 _ (by decide)).mono ?_
      rintro e w7 ⟨v7, rfl, hv7, hb7, _⟩
      go_wp2_with fail
      refine (DD.out w7 v7 hb7 hv7).mono ?_
      rintro e w8 ⟨v8, v9, rfl, hv8, _, hb8⟩
      have NX8 := hide (NX.out v8 w8 (hb7.trans (hb8.mono hb7.size)) hv8)
      clear NX DD hv7 hv8 hb7 hb8
      go_wp2
      go_roundw
      case rel => exact ⟨k, by omega, by rw [← NV.out, ← NS.out], by go_num, NX8.out⟩
      case measure => simp [intOf]
    · have hv : v < 18446744073709551616 := by
        have := PAH.out
        rw [ho] at this
        have := pick_or this.symm
        have := N0H.out.2.2.1
        omega
      have FN := FNH.out
      rw [ho] at FN
      have FNX : Hid (fewN r sz = (v, p)) := FN
      have FU := hide (fmtUint_any v hv w6 (HI.out.tab.below HB6.out))
      rw [pickV_some]
      clear ho FN P0H FNH PAH FSH HI HB6 HVR6 N0H
      go_wp2_with fail
      refine FU.out.mono ?_
      rintro e w7 ⟨rfl, hb7⟩
      have HB7 := hide (HW6.out.trans (hb7.mono HW6.out.size))
      clear hb7 FU HW6
      go_wp2
      go_ret2
      refine ⟨?_, HB7.out⟩
      rw [FNX.out]
      rfl

end Go.Proofs.YtpiloigpncbccacGreatDoor

namespace Go.Proofs.YtpiloigpncbccacGreatDoor
open Go.RowKit

/-- A Dec, as a struct. -/
def decVal (d : DecT) : Value := .agg #[.int .i64 (d.cls : Int), .bool d.neg, .string ⟨d.dig.toArray⟩, .int .i64 d.exp]

theorem results_dec {fn : Func} {a : Tmp} (h : fn.results = #[.cell a 24]) (tmps : Array Value) (H : Nat) (x0 x1 x2 x3 : Value) (w : World) (ht : tmps.getD a undef = .pointer (some ⟨H, 0, none⟩)) (hp : Blk w H #[x0, x1, x2, x3] 24) :
    (results fn tmps).run Tryz.prog w = .ok (.agg #[x0, x1, x2, x3]) w := by
  have c0 := hp.cell 0
  have c1 := hp.cell 1
  have c2 := hp.cell 2
  have c3 := hp.cell 3
  simp at c0 c1 c2 c3
  rw [Array.getD_eq_getD_getElem?] at ht
  simp [results, h, ht, go_sem, c0, c1, c2, c3]

theorem below_put4 {w W : World} {H : Nat} (h : Below w.heap.size w W) (hH : w.heap.size ≤ H) (y0 y1 y2 y3 : Value) : Below w.heap.size w ((((W.setCell ⟨H, 0, none⟩ y0).setCell ⟨H, 1, none⟩ y1).setCell ⟨H, 2, none⟩ y2).setCell ⟨H, 3, none⟩ y3) :=
  (((h.setCell hH _).setCell hH _).setCell hH _).setCell hH _

/-- What tells the digits of x and m. -/
def Tells (f : Nat) (rv : Value) (x m N : Nat) (ex : Int) : Prop :=
  (∀ args w, (callFunc f args).run Tryz.prog w = .ok (.enter f args) w) ∧ ∀ w, Tab w → Calls Tryz.prog f #[rv, .int .u64 (x : Int), .int .u64 (m : Int)] w (TxtPost w N ex)

theorem size_lt {A j c : Nat} (h : A < 10 ^ j) (h1 : 1 ≤ j) (hj : j ≤ c) : (Lib.decDigits A).length ≤ c := Nat.le_trans (sizeN_le h h1) hj

theorem cut0_le (l : List UInt8) : (cut0 l).length ≤ l.length := by
  unfold cut0 Lib.trimRightB
  rw [List.length_reverse]
  have := (List.dropWhile_sublist (p := (· == (48 : UInt8))) (l := l.reverse)).length_le
  rw [List.length_reverse] at this
  exact this

set_option maxHeartbeats 2000000 in
theorem dec11 (F B b f : Nat) (rv : Value) (tell : Nat → Nat → Nat × Int) (w : World) (hF : F ≤ 52) (hb : b < 18446744073709551616) (htab : Tab w)
    (ht : b / 2 ^ F % 2 ^ 11 ≠ 2047 → ¬ (b / 2 ^ F % 2 ^ 11 = 0 ∧ b % 2 ^ F = 0) → Tells f rv (b / 2 ^ F % 2 ^ 11) (b % 2 ^ F) (tell (b / 2 ^ F % 2 ^ 11) (b % 2 ^ F)).1 (tell (b / 2 ^ F % 2 ^ 11) (b % 2 ^ F)).2 ∧ (∃ j, j ≤ 2000 ∧ (tell (b / 2 ^ F % 2 ^ 11) (b % 2 ^ F)).1 < 10 ^ j) ∧ -5000 ≤ (tell (b / 2 ^ F % 2 ^ 11) (b % 2 ^ F)).2 ∧ (tell (b / 2 ^ F % 2 ^ 11) (b % 2 ^ F)).2 ≤ 5000) :
    Calls Tryz.prog 22 #[widV F 11 B, .int .u64 (b : Int), .func (.func f) #[rv] #[]] w fun e w' => e = .returned (decVal (decOf F 11 tell b)) ∧ Below w.heap.size w w' := by
  have SP := fun W => split_any F 11 B b W hF (by omega) hb
  unfold splitV at SP
  unfold decOf
  have e11 : 2 ^ 11 - 1 = 2047 := by decide
  rw [e11]
  have hx2 : b / 2 ^ F % 2 ^ 11 < 2048 := Nat.mod_lt _ (by omega)
  have hm2 : b % 2 ^ F < 18446744073709551616 := Nat.lt_of_le_of_lt (Nat.mod_le _ _) hb
  obtain ⟨x, hx⟩ : ∃ x, x = b / 2 ^ F % 2 ^ 11 := ⟨_, rfl⟩
  obtain ⟨m, hm⟩ : ∃ m, m = b % 2 ^ F := ⟨_, rfl⟩
  obtain ⟨neg, hneg⟩ : ∃ n : Bool, n = decide (b / 2 ^ F / 2 ^ 11 ≠ 0) := ⟨_, rfl⟩
  rw [← hx] at hx2
  rw [← hm] at hm2
  rw [← hx, ← hm] at ht
  rw [← hx, ← hm, ← hneg] at SP ⊢
  obtain ⟨d, hd⟩ : ∃ d, d = (if x = 2047 then if m = 0 then DecT.mk 1 neg [] 0 else ⟨2, false, [], 0⟩ else if x = 0 ∧ m = 0 then ⟨0, neg, [], 0⟩ else decA neg (tell x m).1 (tell x m).2) := ⟨_, rfl⟩
  rw [← hd]
  have HD := hide hd
  clear hd
  have SPH := hide SP
  have HTL := hide ht
  have HT := hide htab
  have blk := Blk.newAt (w.alloc (.cells #[.int .i64 (F : Int), .int .i64 11, .int .i64 (-(B : Int))] 46)) (w.heap.size + 1) (by simp) #[.int .i64 0, .bool false, .string ⟨#[]⟩, .int .i64 0] 24
  have blk0 := (Blk.new w #[.int .i64 (F : Int), .int .i64 11, .int .i64 (-(B : Int))] 46).alloc (.cells #[.int .i64 0, .bool false, .string ⟨#[]⟩, .int .i64 0] 24)
  have BLK := hide blk
  have BLK0 := hide blk0
  have HB0 : Hid (Below w.heap.size w ((w.alloc (.cells #[.int .i64 (F : Int), .int .i64 11, .int .i64 (-(B : Int))] 46)).alloc (.cells #[.int .i64 0, .bool false, .string ⟨#[]⟩, .int .i64 0] 24))) := ((Below.refl _ _).alloc (Nat.le_refl _) _).alloc (by simp) _
  clear SP ht htab hx hm hneg blk blk0 hb e11
  go_enter Tryz.func22, Tryz.ntmps22
  go_wp2_with fail
  refine (SPH.out _).mono ?_
  rintro e w1 ⟨rfl, hb1⟩
  have B1 := BLK.out.below hb1 BLK.out.lt
  have B0 := BLK0.out.below hb1 BLK0.out.lt
  have HB1 := hide (HB0.out.trans (hb1.mono (by simp; omega)))
  have q1 : w1.cell? ⟨w.heap.size, 1, none⟩ = some (.int .i64 11) := B0.cell 1
  have k0 : w1.cell? ⟨w.heap.size + 1, 0, none⟩ = some (.int .i64 0) := B1.cell 0
  have k1 : w1.cell? ⟨w.heap.size + 1, 1, none⟩ = some (.bool false) := B1.cell 1
  have k2 : w1.cell? ⟨w.heap.size + 1, 2, none⟩ = some (.string ⟨#[]⟩) := B1.cell 2
  have k3 : w1.cell? ⟨w.heap.size + 1, 3, none⟩ = some (.int .i64 0) := B1.cell 3
  have f0 := B1.free 0
  have f1 := B1.free 1
  have f2 := B1.free 2
  have f3 := B1.free 3
  have BL1 := hide B1
  clear B1 B0 hb1 BLK BLK0 HB0 SPH
  by_cases hx1 : x = 2047
  · have hx1' : (x : Int) = 2047 := by omega
    by_cases hm0 : m = 0
    · have hm0' : (m : Int) = 0 := by omega
      have IF : Hid (d = ⟨1, neg, [], 0⟩) := HD.out.trans (by rw [if_pos hx1, if_pos hm0])
      clear hx1 hm0 HTL HD
      go_wp2
      refine bodyPost_ret (results_dec rfl _ _ _ _ _ _ _ rfl (BL1.out.put4 _ _ _ _)) rfl ?_
      refine ⟨?_, below_put4 HB1.out (by omega) _ _ _ _⟩
      rw [IF.out]
      rfl
    · have hm0' : ¬ (m : Int) = 0 := by omega
      have IF : Hid (d = ⟨2, false, [], 0⟩) := HD.out.trans (by rw [if_pos hx1, if_neg hm0])
      clear hx1 hm0 HTL HD
      go_wp2
      refine bodyPost_ret (results_dec rfl _ _ _ _ _ _ _ rfl (BL1.out.put4 _ _ _ _)) rfl ?_
      refine ⟨?_, below_put4 HB1.out (by omega) _ _ _ _⟩
      rw [IF.out]
      rfl
  · have hx1' : ¬ (x : Int) = 2047 := by omega
    by_cases h0 : x = 0 ∧ m = 0
    · have IF : Hid (d = ⟨0, neg, [], 0⟩) := HD.out.trans (by rw [if_neg hx1, if_pos h0])
      have hx0' : (x : Int) = 0 := by omega
      have hm0' : (m : Int) = 0 := by omega
      clear hx1 h0 HTL HD
      go_wp2
      refine bodyPost_ret (results_dec rfl _ _ _ _ _ _ _ rfl (BL1.out.put4 _ _ _ _)) rfl ?_
      refine ⟨?_, below_put4 HB1.out (by omega) _ _ _ _⟩
      rw [IF.out]
      rfl
    · obtain ⟨tl, hj, he1, he2⟩ := HTL.out hx1 h0
      obtain ⟨N, hN⟩ : ∃ N, N = (tell x m).1 := ⟨_, rfl⟩
      obtain ⟨ex, hex⟩ : ∃ ex, ex = (tell x m).2 := ⟨_, rfl⟩
      have IF : Hid (d = decA neg N ex) := HD.out.trans (by rw [if_neg hx1, if_neg h0, hN, hex])
      rw [← hN] at tl hj
      rw [← hex] at tl he1 he2
      have TL : Hid (∀ w, Tab w → Calls Tryz.prog f #[rv, .int .u64 (x : Int), .int .u64 (m : Int)] w (TxtPost w N ex)) := tl.2
      have hent := tl.1
      have hsz : (Lib.decDigits N).length ≤ 2000 := by
        obtain ⟨j, h1, h2⟩ := hj
        by_cases hj0 : 1 ≤ j
        · exact size_lt h2 hj0 h1
        · rw [show j = 0 by omega, Nat.pow_zero] at h2
          rw [show N = 0 by omega, Lib.decDigits_one (by omega)]; simp
      have TB1 := hide (HT.out.below HB1.out)
      clear hx1 HTL tl hj hN hex HT HD
      by_cases hx0 : x = 0
      · have hx0' : (x : Int) = 0 := by omega
        have hm0' : ¬ (m : Int) = 0 := by omega
        have TLZ : Hid (∀ w, Tab w → Calls Tryz.prog f #[rv, .int .u64 0, .int .u64 (m : Int)] w (TxtPost w N ex)) := by
          have h := TL.out
          rw [hx0] at h
          exact h
        clear h0 hx0
        go_wp2_with fail
        refine (TLZ.out _ TB1.out).mono ?_
        rintro e w2 ⟨rfl, hb2⟩
        obtain ⟨t, htt⟩ : ∃ t : ByteArray, t = ⟨(Lib.decDigits N).toArray⟩ := ⟨_, rfl⟩
        have hts : t.size = (Lib.decDigits N).length := by rw [htt]; simp [ByteArray.size]
        have htl : t.data.toList = Lib.decDigits N := by rw [htt]
        obtain ⟨t2, htt2⟩ : ∃ t : ByteArray, t = ⟨(cut0 (Lib.decDigits N)).toArray⟩ := ⟨_, rfl⟩
        have hts2 : t2.size = (cut0 (Lib.decDigits N)).length := by rw [htt2]; simp [ByteArray.size]
        have TR := Tryz.strings_TrimRight_one t 48 (by decide) w2 (by omega)
        rw [htl] at TR
        have TRH : Hid (Calls Tryz.prog 35 #[.string t, .string ⟨#[48]⟩] w2 fun e w' => e = .returned (.string t2) ∧ w' = w2) := by rw [htt2]; exact TR
        have FIN : Hid (.agg #[.int .i64 0, .bool neg, .string t2, .int .i64 (ex + (t.size : Int) - (t2.size : Int))] = decVal d) := by
          have h : decVal d = decVal (decA neg N ex) := by rw [IF.out]
          rw [hts, hts2, h, htt2]; rfl
        rw [← htt]
        have hs1 : t.size ≤ 2000 := by omega
        have hs2 : t2.size ≤ 2000 := by have := cut0_le (Lib.decDigits N); omega
        have HB2 := hide (HB1.out.trans (hb2.mono HB1.out.size))
        have B2 := BL1.out.below hb2 BL1.out.lt
        clear TR htl hts hts2 htt htt2 hsz IF k0 k1 k2 k3 f0 f1 f2 f3 q1 TL TB1 HB1 hb2 BL1
        have k0 : w2.cell? ⟨w.heap.size + 1, 0, none⟩ = some (.int .i64 0) := B2.cell 0
        have k1 : w2.cell? ⟨w.heap.size + 1, 1, none⟩ = some (.bool false) := B2.cell 1
        have k2 : w2.cell? ⟨w.heap.size + 1, 2, none⟩ = some (.string ⟨#[]⟩) := B2.cell 2
        have k3 : w2.cell? ⟨w.heap.size + 1, 3, none⟩ = some (.int .i64 0) := B2.cell 3
        have f0 := B2.free 0
        have f1 := B2.free 1
        have f2 := B2.free 2
        have f3 := B2.free 3
        have BL2 := hide B2
        clear B2
        go_wp2_with fail
        refine TRH.out.mono ?_
        rintro e w3 ⟨rfl, rfl⟩
        clear TRH
        go_wp2
        refine bodyPost_ret (results_dec rfl _ _ _ _ _ _ _ rfl (BL2.out.put4 _ _ _ _)) rfl ?_
        exact ⟨congrArg Ending.returned FIN.out, below_put4 HB2.out (by omega) _ _ _ _⟩
      · have hx0' : ¬ (x : Int) = 0 := by omega
        clear h0 hx0
        go_wp2_with fail
        refine (TL.out _ TB1.out).mono ?_
        rintro e w2 ⟨rfl, hb2⟩
        obtain ⟨t, htt⟩ : ∃ t : ByteArray, t = ⟨(Lib.decDigits N).toArray⟩ := ⟨_, rfl⟩
        have hts : t.size = (Lib.decDigits N).length := by rw [htt]; simp [ByteArray.size]
        have htl : t.data.toList = Lib.decDigits N := by rw [htt]
        obtain ⟨t2, htt2⟩ : ∃ t : ByteArray, t = ⟨(cut0 (Lib.decDigits N)).toArray⟩ := ⟨_, rfl⟩
        have hts2 : t2.size = (cut0 (Lib.decDigits N)).length := by rw [htt2]; simp [ByteArray.size]
        have TR := Tryz.strings_TrimRight_one t 48 (by decide) w2 (by omega)
        rw [htl] at TR
        have TRH : Hid (Calls Tryz.prog 35 #[.string t, .string ⟨#[48]⟩] w2 fun e w' => e = .returned (.string t2) ∧ w' = w2) := by rw [htt2]; exact TR
        have FIN : Hid (.agg #[.int .i64 0, .bool neg, .string t2, .int .i64 (ex + (t.size : Int) - (t2.size : Int))] = decVal d) := by
          have h : decVal d = decVal (decA neg N ex) := by rw [IF.out]
          rw [hts, hts2, h, htt2]; rfl
        rw [← htt]
        have hs1 : t.size ≤ 2000 := by omega
        have hs2 : t2.size ≤ 2000 := by have := cut0_le (Lib.decDigits N); omega
        have HB2 := hide (HB1.out.trans (hb2.mono HB1.out.size))
        have B2 := BL1.out.below hb2 BL1.out.lt
        clear TR htl hts hts2 htt htt2 hsz IF k0 k1 k2 k3 f0 f1 f2 f3 q1 TL TB1 HB1 hb2 BL1
        have k0 : w2.cell? ⟨w.heap.size + 1, 0, none⟩ = some (.int .i64 0) := B2.cell 0
        have k1 : w2.cell? ⟨w.heap.size + 1, 1, none⟩ = some (.bool false) := B2.cell 1
        have k2 : w2.cell? ⟨w.heap.size + 1, 2, none⟩ = some (.string ⟨#[]⟩) := B2.cell 2
        have k3 : w2.cell? ⟨w.heap.size + 1, 3, none⟩ = some (.int .i64 0) := B2.cell 3
        have f0 := B2.free 0
        have f1 := B2.free 1
        have f2 := B2.free 2
        have f3 := B2.free 3
        have BL2 := hide B2
        clear B2
        go_wp2_with fail
        refine TRH.out.mono ?_
        rintro e w3 ⟨rfl, rfl⟩
        clear TRH
        go_wp2
        refine bodyPost_ret (results_dec rfl _ _ _ _ _ _ _ rfl (BL2.out.put4 _ _ _ _)) rfl ?_
        exact ⟨congrArg Ending.returned FIN.out, below_put4 HB2.out (by omega) _ _ _ _⟩

set_option maxHeartbeats 2000000 in
theorem dec8 (F B b f : Nat) (rv : Value) (tell : Nat → Nat → Nat × Int) (w : World) (hF : F ≤ 52) (hb : b < 18446744073709551616) (htab : Tab w)
    (ht : b / 2 ^ F % 2 ^ 8 ≠ 255 → ¬ (b / 2 ^ F % 2 ^ 8 = 0 ∧ b % 2 ^ F = 0) → Tells f rv (b / 2 ^ F % 2 ^ 8) (b % 2 ^ F) (tell (b / 2 ^ F % 2 ^ 8) (b % 2 ^ F)).1 (tell (b / 2 ^ F % 2 ^ 8) (b % 2 ^ F)).2 ∧ (∃ j, j ≤ 2000 ∧ (tell (b / 2 ^ F % 2 ^ 8) (b % 2 ^ F)).1 < 10 ^ j) ∧ -5000 ≤ (tell (b / 2 ^ F % 2 ^ 8) (b % 2 ^ F)).2 ∧ (tell (b / 2 ^ F % 2 ^ 8) (b % 2 ^ F)).2 ≤ 5000) :
    Calls Tryz.prog 22 #[widV F 8 B, .int .u64 (b : Int), .func (.func f) #[rv] #[]] w fun e w' => e = .returned (decVal (decOf F 8 tell b)) ∧ Below w.heap.size w w' := by
  have SP := fun W => split_any F 8 B b W hF (by omega) hb
  unfold splitV at SP
  unfold decOf
  have e8 : 2 ^ 8 - 1 = 255 := by decide
  rw [e8]
  have hx2 : b / 2 ^ F % 2 ^ 8 < 256 := Nat.mod_lt _ (by omega)
  have hm2 : b % 2 ^ F < 18446744073709551616 := Nat.lt_of_le_of_lt (Nat.mod_le _ _) hb
  obtain ⟨x, hx⟩ : ∃ x, x = b / 2 ^ F % 2 ^ 8 := ⟨_, rfl⟩
  obtain ⟨m, hm⟩ : ∃ m, m = b % 2 ^ F := ⟨_, rfl⟩
  obtain ⟨neg, hneg⟩ : ∃ n : Bool, n = decide (b / 2 ^ F / 2 ^ 8 ≠ 0) := ⟨_, rfl⟩
  rw [← hx] at hx2
  rw [← hm] at hm2
  rw [← hx, ← hm] at ht
  rw [← hx, ← hm, ← hneg] at SP ⊢
  obtain ⟨d, hd⟩ : ∃ d, d = (if x = 255 then if m = 0 then DecT.mk 1 neg [] 0 else ⟨2, false, [], 0⟩ else if x = 0 ∧ m = 0 then ⟨0, neg, [], 0⟩ else decA neg (tell x m).1 (tell x m).2) := ⟨_, rfl⟩
  rw [← hd]
  have HD := hide hd
  clear hd
  have SPH := hide SP
  have HTL := hide ht
  have HT := hide htab
  have blk := Blk.newAt (w.alloc (.cells #[.int .i64 (F : Int), .int .i64 8, .int .i64 (-(B : Int))] 46)) (w.heap.size + 1) (by simp) #[.int .i64 0, .bool false, .string ⟨#[]⟩, .int .i64 0] 24
  have blk0 := (Blk.new w #[.int .i64 (F : Int), .int .i64 8, .int .i64 (-(B : Int))] 46).alloc (.cells #[.int .i64 0, .bool false, .string ⟨#[]⟩, .int .i64 0] 24)
  have BLK := hide blk
  have BLK0 := hide blk0
  have HB0 : Hid (Below w.heap.size w ((w.alloc (.cells #[.int .i64 (F : Int), .int .i64 8, .int .i64 (-(B : Int))] 46)).alloc (.cells #[.int .i64 0, .bool false, .string ⟨#[]⟩, .int .i64 0] 24))) := ((Below.refl _ _).alloc (Nat.le_refl _) _).alloc (by simp) _
  clear SP ht htab hx hm hneg blk blk0 hb e8
  go_enter Tryz.func22, Tryz.ntmps22
  go_wp2_with fail
  refine (SPH.out _).mono ?_
  rintro e w1 ⟨rfl, hb1⟩
  have B1 := BLK.out.below hb1 BLK.out.lt
  have B0 := BLK0.out.below hb1 BLK0.out.lt
  have HB1 := hide (HB0.out.trans (hb1.mono (by simp; omega)))
  have q1 : w1.cell? ⟨w.heap.size, 1, none⟩ = some (.int .i64 8) := B0.cell 1
  have k0 : w1.cell? ⟨w.heap.size + 1, 0, none⟩ = some (.int .i64 0) := B1.cell 0
  have k1 : w1.cell? ⟨w.heap.size + 1, 1, none⟩ = some (.bool false) := B1.cell 1
  have k2 : w1.cell? ⟨w.heap.size + 1, 2, none⟩ = some (.string ⟨#[]⟩) := B1.cell 2
  have k3 : w1.cell? ⟨w.heap.size + 1, 3, none⟩ = some (.int .i64 0) := B1.cell 3
  have f0 := B1.free 0
  have f1 := B1.free 1
  have f2 := B1.free 2
  have f3 := B1.free 3
  have BL1 := hide B1
  clear B1 B0 hb1 BLK BLK0 HB0 SPH
  by_cases hx1 : x = 255
  · have hx1' : (x : Int) = 255 := by omega
    by_cases hm0 : m = 0
    · have hm0' : (m : Int) = 0 := by omega
      have IF : Hid (d = ⟨1, neg, [], 0⟩) := HD.out.trans (by rw [if_pos hx1, if_pos hm0])
      clear hx1 hm0 HTL HD
      go_wp2
      refine bodyPost_ret (results_dec rfl _ _ _ _ _ _ _ rfl (BL1.out.put4 _ _ _ _)) rfl ?_
      refine ⟨?_, below_put4 HB1.out (by omega) _ _ _ _⟩
      rw [IF.out]
      rfl
    · have hm0' : ¬ (m : Int) = 0 := by omega
      have IF : Hid (d = ⟨2, false, [], 0⟩) := HD.out.trans (by rw [if_pos hx1, if_neg hm0])
      clear hx1 hm0 HTL HD
      go_wp2
      refine bodyPost_ret (results_dec rfl _ _ _ _ _ _ _ rfl (BL1.out.put4 _ _ _ _)) rfl ?_
      refine ⟨?_, below_put4 HB1.out (by omega) _ _ _ _⟩
      rw [IF.out]
      rfl
  · have hx1' : ¬ (x : Int) = 255 := by omega
    by_cases h0 : x = 0 ∧ m = 0
    · have IF : Hid (d = ⟨0, neg, [], 0⟩) := HD.out.trans (by rw [if_neg hx1, if_pos h0])
      have hx0' : (x : Int) = 0 := by omega
      have hm0' : (m : Int) = 0 := by omega
      clear hx1 h0 HTL HD
      go_wp2
      refine bodyPost_ret (results_dec rfl _ _ _ _ _ _ _ rfl (BL1.out.put4 _ _ _ _)) rfl ?_
      refine ⟨?_, below_put4 HB1.out (by omega) _ _ _ _⟩
      rw [IF.out]
      rfl
    · obtain ⟨tl, hj, he1, he2⟩ := HTL.out hx1 h0
      obtain ⟨N, hN⟩ : ∃ N, N = (tell x m).1 := ⟨_, rfl⟩
      obtain ⟨ex, hex⟩ : ∃ ex, ex = (tell x m).2 := ⟨_, rfl⟩
      have IF : Hid (d = decA neg N ex) := HD.out.trans (by rw [if_neg hx1, if_neg h0, hN, hex])
      rw [← hN] at tl hj
      rw [← hex] at tl he1 he2
      have TL : Hid (∀ w, Tab w → Calls Tryz.prog f #[rv, .int .u64 (x : Int), .int .u64 (m : Int)] w (TxtPost w N ex)) := tl.2
      have hent := tl.1
      have hsz : (Lib.decDigits N).length ≤ 2000 := by
        obtain ⟨j, h1, h2⟩ := hj
        by_cases hj0 : 1 ≤ j
        · exact size_lt h2 hj0 h1
        · rw [show j = 0 by omega, Nat.pow_zero] at h2
          rw [show N = 0 by omega, Lib.decDigits_one (by omega)]; simp
      have TB1 := hide (HT.out.below HB1.out)
      clear hx1 HTL tl hj hN hex HT HD
      by_cases hx0 : x = 0
      · have hx0' : (x : Int) = 0 := by omega
        have hm0' : ¬ (m : Int) = 0 := by omega
        have TLZ : Hid (∀ w, Tab w → Calls Tryz.prog f #[rv, .int .u64 0, .int .u64 (m : Int)] w (TxtPost w N ex)) := by
          have h := TL.out
          rw [hx0] at h
          exact h
        clear h0 hx0
        go_wp2_with fail
        refine (TLZ.out _ TB1.out).mono ?_
        rintro e w2 ⟨rfl, hb2⟩
        obtain ⟨t, htt⟩ : ∃ t : ByteArray, t = ⟨(Lib.decDigits N).toArray⟩ := ⟨_, rfl⟩
        have hts : t.size = (Lib.decDigits N).length := by rw [htt]; simp [ByteArray.size]
        have htl : t.data.toList = Lib.decDigits N := by rw [htt]
        obtain ⟨t2, htt2⟩ : ∃ t : ByteArray, t = ⟨(cut0 (Lib.decDigits N)).toArray⟩ := ⟨_, rfl⟩
        have hts2 : t2.size = (cut0 (Lib.decDigits N)).length := by rw [htt2]; simp [ByteArray.size]
        have TR := Tryz.strings_TrimRight_one t 48 (by decide) w2 (by omega)
        rw [htl] at TR
        have TRH : Hid (Calls Tryz.prog 35 #[.string t, .string ⟨#[48]⟩] w2 fun e w' => e = .returned (.string t2) ∧ w' = w2) := by rw [htt2]; exact TR
        have FIN : Hid (.agg #[.int .i64 0, .bool neg, .string t2, .int .i64 (ex + (t.size : Int) - (t2.size : Int))] = decVal d) := by
          have h : decVal d = decVal (decA neg N ex) := by rw [IF.out]
          rw [hts, hts2, h, htt2]; rfl
        rw [← htt]
        have hs1 : t.size ≤ 2000 := by omega
        have hs2 : t2.size ≤ 2000 := by have := cut0_le (Lib.decDigits N); omega
        have HB2 := hide (HB1.out.trans (hb2.mono HB1.out.size))
        have B2 := BL1.out.below hb2 BL1.out.lt
        clear TR htl hts hts2 htt htt2 hsz IF k0 k1 k2 k3 f0 f1 f2 f3 q1 TL TB1 HB1 hb2 BL1
        have k0 : w2.cell? ⟨w.heap.size + 1, 0, none⟩ = some (.int .i64 0) := B2.cell 0
        have k1 : w2.cell? ⟨w.heap.size + 1, 1, none⟩ = some (.bool false) := B2.cell 1
        have k2 : w2.cell? ⟨w.heap.size + 1, 2, none⟩ = some (.string ⟨#[]⟩) := B2.cell 2
        have k3 : w2.cell? ⟨w.heap.size + 1, 3, none⟩ = some (.int .i64 0) := B2.cell 3
        have f0 := B2.free 0
        have f1 := B2.free 1
        have f2 := B2.free 2
        have f3 := B2.free 3
        have BL2 := hide B2
        clear B2
        go_wp2_with fail
        refine TRH.out.mono ?_
        rintro e w3 ⟨rfl, rfl⟩
        clear TRH
        go_wp2
        refine bodyPost_ret (results_dec rfl _ _ _ _ _ _ _ rfl (BL2.out.put4 _ _ _ _)) rfl ?_
        exact ⟨congrArg Ending.returned FIN.out, below_put4 HB2.out (by omega) _ _ _ _⟩
      · have hx0' : ¬ (x : Int) = 0 := by omega
        clear h0 hx0
        go_wp2_with fail
        refine (TL.out _ TB1.out).mono ?_
        rintro e w2 ⟨rfl, hb2⟩
        obtain ⟨t, htt⟩ : ∃ t : ByteArray, t = ⟨(Lib.decDigits N).toArray⟩ := ⟨_, rfl⟩
        have hts : t.size = (Lib.decDigits N).length := by rw [htt]; simp [ByteArray.size]
        have htl : t.data.toList = Lib.decDigits N := by rw [htt]
        obtain ⟨t2, htt2⟩ : ∃ t : ByteArray, t = ⟨(cut0 (Lib.decDigits N)).toArray⟩ := ⟨_, rfl⟩
        have hts2 : t2.size = (cut0 (Lib.decDigits N)).length := by rw [htt2]; simp [ByteArray.size]
        have TR := Tryz.strings_TrimRight_one t 48 (by decide) w2 (by omega)
        rw [htl] at TR
        have TRH : Hid (Calls Tryz.prog 35 #[.string t, .string ⟨#[48]⟩] w2 fun e w' => e = .returned (.string t2) ∧ w' = w2) := by rw [htt2]; exact TR
        have FIN : Hid (.agg #[.int .i64 0, .bool neg, .string t2, .int .i64 (ex + (t.size : Int) - (t2.size : Int))] = decVal d) := by
          have h : decVal d = decVal (decA neg N ex) := by rw [IF.out]
          rw [hts, hts2, h, htt2]; rfl
        rw [← htt]
        have hs1 : t.size ≤ 2000 := by omega
        have hs2 : t2.size ≤ 2000 := by have := cut0_le (Lib.decDigits N); omega
        have HB2 := hide (HB1.out.trans (hb2.mono HB1.out.size))
        have B2 := BL1.out.below hb2 BL1.out.lt
        clear TR htl hts hts2 htt htt2 hsz IF k0 k1 k2 k3 f0 f1 f2 f3 q1 TL TB1 HB1 hb2 BL1
        have k0 : w2.cell? ⟨w.heap.size + 1, 0, none⟩ = some (.int .i64 0) := B2.cell 0
        have k1 : w2.cell? ⟨w.heap.size + 1, 1, none⟩ = some (.bool false) := B2.cell 1
        have k2 : w2.cell? ⟨w.heap.size + 1, 2, none⟩ = some (.string ⟨#[]⟩) := B2.cell 2
        have k3 : w2.cell? ⟨w.heap.size + 1, 3, none⟩ = some (.int .i64 0) := B2.cell 3
        have f0 := B2.free 0
        have f1 := B2.free 1
        have f2 := B2.free 2
        have f3 := B2.free 3
        have BL2 := hide B2
        clear B2
        go_wp2_with fail
        refine TRH.out.mono ?_
        rintro e w3 ⟨rfl, rfl⟩
        clear TRH
        go_wp2
        refine bodyPost_ret (results_dec rfl _ _ _ _ _ _ _ rfl (BL2.out.put4 _ _ _ _)) rfl ?_
        exact ⟨congrArg Ending.returned FIN.out, below_put4 HB2.out (by omega) _ _ _ _⟩

theorem few_tell {F B x m : Nat} (hF : F ≤ 52) (hm : m < 2 ^ F) (h1 : -1074 ≤ fPow B x) (h2 : fPow B x ≤ 971) (h0 : ¬ (x = 0 ∧ m = 0)) :
    (∃ j, j ≤ 2000 ∧ (fewD F B x m).1 < 10 ^ j) ∧ -5000 ≤ (fewD F B x m).2 ∧ (fewD F B x m).2 ≤ 5000 := by
  have g := nearOf_good (B := B) (x := x) hF hm
  have hn : fNum F x m ≠ 0 := by
    have := Nat.pow_pos (n := F) (show 0 < 2 by omega)
    unfold fNum; split <;> omega
  have ha : (nearOf F B x m).amt ≠ 0 := by
    have := p2N_pos (fPow B x - 2)
    exact Nat.mul_ne_zero (by omega) (by omega)
  obtain ⟨j, hj⟩ : ∃ j : Nat, j = 1081 := ⟨_, rfl⟩
  have hp := p2N_lt (n := fPow B x - 2) (j := j) (by omega) (by omega)
  have hA : (nearOf F B x m).amt < 10 ^ (j + 17) := mul_lt10 hp (fNum_lt17 hF hm)
  have hs : sizeN (nearOf F B x m).amt ≤ 1098 := size_bound hA (by omega) (by omega)
  have hE : -1100 ≤ p2E (fPow B x - 2) ∧ p2E (fPow B x - 2) ≤ 0 := by unfold p2E; split <;> omega
  rcases hf : fewN (nearOf F B x m) (sizeN (nearOf F B x m).amt) with ⟨v, p⟩
  obtain ⟨b1, b2, b3, _⟩ := few_bound g ha hf
  have e : fewD F B x m = (v, p2E (fPow B x - 2) + (p : Nat)) := by unfold fewD; rw [hf]
  rw [e]
  have b4 : v < 10 ^ 18 := by
    have e1 : (10 : Nat) ^ 18 = 1000000000000000000 := by decide
    have e2 : (10 : Nat) ^ 17 = 100000000000000000 := by decide
    omega
  exact ⟨⟨18, by omega, b4⟩, by show -5000 ≤ p2E (fPow B x - 2) + (p : Int); omega, by show p2E (fPow B x - 2) + (p : Int) ≤ 5000; omega⟩

theorem all_tell {F B x m : Nat} (hF : F ≤ 52) (hm : m < 2 ^ F) (h1 : -1074 ≤ fPow B x) (h2 : fPow B x ≤ 971) :
    (∃ j, j ≤ 2000 ∧ (allD F B x m).1 < 10 ^ j) ∧ -5000 ≤ (allD F B x m).2 ∧ (allD F B x m).2 ≤ 5000 := by
  obtain ⟨j, hj⟩ : ∃ j : Nat, j = 1081 := ⟨_, rfl⟩
  have hp := p2N_lt (n := fPow B x) (j := j) (by omega) (by omega)
  have h17 := fNum_lt17 (x := x) hF hm
  have hA : fNum F x m * p2N (fPow B x) < 10 ^ (17 + j) := mul_lt10 (by omega) hp
  have hE : -1100 ≤ p2E (fPow B x) ∧ p2E (fPow B x) ≤ 0 := by unfold p2E; split <;> omega
  exact ⟨⟨17 + j, by omega, hA⟩, by show -5000 ≤ p2E (fPow B x); omega, by show p2E (fPow B x) ≤ 5000; omega⟩

theorem enters_few : ∀ args w, (callFunc 23 args).run Tryz.prog w = .ok (.enter 23 args) w := by intro args w; kernel_rfl
theorem enters_all : ∀ args w, (callFunc 31 args).run Tryz.prog w = .ok (.enter 31 args) w := by intro args w; kernel_rfl


theorem of64_dec (b : Nat) (W : World) (hb : b < 18446744073709551616) (htab : Tab W) : Calls Tryz.prog 22 #[w64, .int .u64 (b : Int), .func (.func 23) #[w64] #[]] W fun e w' => e = .returned (decVal (of64D b)) ∧ Below W.heap.size W w' := by
  refine dec11 52 1074 b 23 w64 (fewD 52 1074) W (by omega) (by omega) htab ?_
  intro hx h0
  have hm : b % 2 ^ 52 < 2 ^ 52 := Nat.mod_lt _ (by omega)
  have hx2 : b / 2 ^ 52 % 2 ^ 11 < 2048 := Nat.mod_lt _ (by omega)
  have h1 : -1074 ≤ fPow 1074 (b / 2 ^ 52 % 2 ^ 11) := by unfold fPow; split <;> omega
  have h2 : fPow 1074 (b / 2 ^ 52 % 2 ^ 11) ≤ 971 := by unfold fPow; split <;> omega
  exact ⟨⟨enters_few, fun w ht => fewest_any 52 11 1074 _ _ w (by omega) (by omega) (by omega) hm h1 h2 h0 ht⟩, few_tell (by omega) hm h1 h2 h0⟩

set_option maxHeartbeats 1000000 in
theorem of64_any (b : Nat) (w : World) (hb : b < 18446744073709551616) (htab : Tab w) : Calls Tryz.prog 6 #[.int .u64 (b : Int)] w fun e w' => e = .returned (decVal (of64D b)) ∧ Below w.heap.size w w' := by
  have hmf : ∀ (fn : Fn) (first cap : Array Value) (w : World), (Instr.makeFunc fn first cap).run Tryz.prog w = .ok (.func fn first cap) w := fun _ _ _ _ => rfl
  have DC := hide (fun W => of64_dec b W hb)
  have HT := hide htab
  have HB0 : Hid (Below w.heap.size w (w.alloc (.cells #[.int .i64 0, .bool false, .string ⟨#[]⟩, .int .i64 0] 24))) := (Below.refl _ _).alloc (Nat.le_refl _) _
  have BLK := hide (Blk.new w #[.int .i64 0, .bool false, .string ⟨#[]⟩, .int .i64 0] 24)
  obtain ⟨d, hd⟩ : ∃ d, d = of64D b := ⟨_, rfl⟩
  rw [← hd] at DC ⊢
  clear htab hd
  go_enter Tryz.func6, Tryz.ntmps6
  go_wp2_with fail
  refine (binary64_any _).mono ?_
  rintro e w1 ⟨rfl, hb1⟩
  have HB1 := hide (HB0.out.trans (hb1.mono (by simp)))
  have BLK1 := hide (BLK.out.below hb1 BLK.out.lt)
  have HB1' : Hid (Below w1.heap.size w1 (w1.alloc (.cells #[.int .i64 52, .int .i64 11, .int .i64 (-1074)] 46))) := (Below.refl _ _).alloc (Nat.le_refl _) _
  clear hb1 HB0 BLK
  go_wp2_with fail
  refine (DC.out _ (HT.out.below (HB1.out.trans (HB1'.out.mono HB1.out.size)))).mono ?_
  rintro e w2 ⟨rfl, hb2⟩
  have hb12 := HB1'.out.trans (hb2.mono (by simp))
  have HB2 := hide (HB1.out.trans (hb12.mono HB1.out.size))
  have B2 := BLK1.out.below hb12 BLK1.out.lt
  have k0 : w2.cell? ⟨w.heap.size, 0, none⟩ = some (.int .i64 0) := B2.cell 0
  have k1 : w2.cell? ⟨w.heap.size, 1, none⟩ = some (.bool false) := B2.cell 1
  have k2 : w2.cell? ⟨w.heap.size, 2, none⟩ = some (.string ⟨#[]⟩) := B2.cell 2
  have k3 : w2.cell? ⟨w.heap.size, 3, none⟩ = some (.int .i64 0) := B2.cell 3
  have f0 := B2.free 0
  have f1 := B2.free 1
  have f2 := B2.free 2
  have f3 := B2.free 3
  have BL2 := hide B2
  have FIN : Hid (decVal d = .agg #[.int .i64 (d.cls : Int), .bool d.neg, .string ⟨d.dig.toArray⟩, .int .i64 d.exp]) := rfl
  rw [FIN.out]
  clear B2 hb2 hb12 HB1 HB1' BLK1 DC
  go_wp2
  refine bodyPost_ret (results_dec rfl _ _ _ _ _ _ _ rfl (BL2.out.put4 _ _ _ _)) rfl ?_
  exact ⟨rfl, below_put4 HB2.out (by omega) _ _ _ _⟩

theorem of32_dec (b : Nat) (W : World) (hb : b < 4294967296) (htab : Tab W) : Calls Tryz.prog 22 #[w32, .int .u64 (b : Int), .func (.func 23) #[w32] #[]] W fun e w' => e = .returned (decVal (of32D b)) ∧ Below W.heap.size W w' := by
  refine dec8 23 149 b 23 w32 (fewD 23 149) W (by omega) (by omega) htab ?_
  intro hx h0
  have hm : b % 2 ^ 23 < 2 ^ 23 := Nat.mod_lt _ (by omega)
  have hx2 : b / 2 ^ 23 % 2 ^ 8 < 256 := Nat.mod_lt _ (by omega)
  have h1 : -1074 ≤ fPow 149 (b / 2 ^ 23 % 2 ^ 8) := by unfold fPow; split <;> omega
  have h2 : fPow 149 (b / 2 ^ 23 % 2 ^ 8) ≤ 971 := by unfold fPow; split <;> omega
  exact ⟨⟨enters_few, fun w ht => fewest_any 23 8 149 _ _ w (by omega) (by omega) (by omega) hm h1 h2 h0 ht⟩, few_tell (by omega) hm h1 h2 h0⟩

theorem exact64_dec (b : Nat) (W : World) (hb : b < 18446744073709551616) (htab : Tab W) : Calls Tryz.prog 22 #[w64, .int .u64 (b : Int), .func (.func 31) #[w64] #[]] W fun e w' => e = .returned (decVal (ex64D b)) ∧ Below W.heap.size W w' := by
  refine dec11 52 1074 b 31 w64 (allD 52 1074) W (by omega) (by omega) htab ?_
  intro hx _
  have hm : b % 2 ^ 52 < 2 ^ 52 := Nat.mod_lt _ (by omega)
  have hx2 : b / 2 ^ 52 % 2 ^ 11 < 2048 := Nat.mod_lt _ (by omega)
  have h1 : -1074 ≤ fPow 1074 (b / 2 ^ 52 % 2 ^ 11) := by unfold fPow; split <;> omega
  have h2 : fPow 1074 (b / 2 ^ 52 % 2 ^ 11) ≤ 971 := by unfold fPow; split <;> omega
  exact ⟨⟨enters_all, fun w ht => all_any 52 11 1074 _ _ w (by omega) (by omega) (by omega) hm h1 h2 ht⟩, all_tell (by omega) hm h1 h2⟩

set_option maxHeartbeats 1000000 in
theorem exact64_any (b : Nat) (w : World) (hb : b < 18446744073709551616) (htab : Tab w) : Calls Tryz.prog 15 #[.int .u64 (b : Int)] w fun e w' => e = .returned (decVal (ex64D b)) ∧ Below w.heap.size w w' := by
  have hmf : ∀ (fn : Fn) (first cap : Array Value) (w : World), (Instr.makeFunc fn first cap).run Tryz.prog w = .ok (.func fn first cap) w := fun _ _ _ _ => rfl
  have DC := hide (fun W => exact64_dec b W hb)
  have HT := hide htab
  have HB0 : Hid (Below w.heap.size w (w.alloc (.cells #[.int .i64 0, .bool false, .string ⟨#[]⟩, .int .i64 0] 24))) := (Below.refl _ _).alloc (Nat.le_refl _) _
  have BLK := hide (Blk.new w #[.int .i64 0, .bool false, .string ⟨#[]⟩, .int .i64 0] 24)
  obtain ⟨d, hd⟩ : ∃ d, d = ex64D b := ⟨_, rfl⟩
  rw [← hd] at DC ⊢
  clear htab hd
  go_enter Tryz.func15, Tryz.ntmps15
  go_wp2_with fail
  refine (binary64_any _).mono ?_
  rintro e w1 ⟨rfl, hb1⟩
  have HB1 := hide (HB0.out.trans (hb1.mono (by simp)))
  have BLK1 := hide (BLK.out.below hb1 BLK.out.lt)
  have HB1' : Hid (Below w1.heap.size w1 (w1.alloc (.cells #[.int .i64 52, .int .i64 11, .int .i64 (-1074)] 46))) := (Below.refl _ _).alloc (Nat.le_refl _) _
  clear hb1 HB0 BLK
  go_wp2_with fail
  refine (DC.out _ (HT.out.below (HB1.out.trans (HB1'.out.mono HB1.out.size)))).mono ?_
  rintro e w2 ⟨rfl, hb2⟩
  have hb12 := HB1'.out.trans (hb2.mono (by simp))
  have HB2 := hide (HB1.out.trans (hb12.mono HB1.out.size))
  have B2 := BLK1.out.below hb12 BLK1.out.lt
  have k0 : w2.cell? ⟨w.heap.size, 0, none⟩ = some (.int .i64 0) := B2.cell 0
  have k1 : w2.cell? ⟨w.heap.size, 1, none⟩ = some (.bool false) := B2.cell 1
  have k2 : w2.cell? ⟨w.heap.size, 2, none⟩ = some (.string ⟨#[]⟩) := B2.cell 2
  have k3 : w2.cell? ⟨w.heap.size, 3, none⟩ = some (.int .i64 0) := B2.cell 3
  have f0 := B2.free 0
  have f1 := B2.free 1
  have f2 := B2.free 2
  have f3 := B2.free 3
  have BL2 := hide B2
  have FIN : Hid (decVal d = .agg #[.int .i64 (d.cls : Int), .bool d.neg, .string ⟨d.dig.toArray⟩, .int .i64 d.exp]) := rfl
  rw [FIN.out]
  clear B2 hb2 hb12 HB1 HB1' BLK1 DC
  go_wp2
  refine bodyPost_ret (results_dec rfl _ _ _ _ _ _ _ rfl (BL2.out.put4 _ _ _ _)) rfl ?_
  exact ⟨rfl, below_put4 HB2.out (by omega) _ _ _ _⟩

theorem exact32_dec (b : Nat) (W : World) (hb : b < 4294967296) (htab : Tab W) : Calls Tryz.prog 22 #[w32, .int .u64 (b : Int), .func (.func 31) #[w32] #[]] W fun e w' => e = .returned (decVal (ex32D b)) ∧ Below W.heap.size W w' := by
  refine dec8 23 149 b 31 w32 (allD 23 149) W (by omega) (by omega) htab ?_
  intro hx _
  have hm : b % 2 ^ 23 < 2 ^ 23 := Nat.mod_lt _ (by omega)
  have hx2 : b / 2 ^ 23 % 2 ^ 8 < 256 := Nat.mod_lt _ (by omega)
  have h1 : -1074 ≤ fPow 149 (b / 2 ^ 23 % 2 ^ 8) := by unfold fPow; split <;> omega
  have h2 : fPow 149 (b / 2 ^ 23 % 2 ^ 8) ≤ 971 := by unfold fPow; split <;> omega
  exact ⟨⟨enters_all, fun w ht => all_any 23 8 149 _ _ w (by omega) (by omega) (by omega) hm h1 h2 ht⟩, all_tell (by omega) hm h1 h2⟩

set_option maxHeartbeats 1000000 in
theorem exact32_any (b : Nat) (w : World) (hb : b < 4294967296) (htab : Tab w) : Calls Tryz.prog 45 #[.int .u32 (b : Int)] w fun e w' => e = .returned (decVal (ex32D b)) ∧ Below w.heap.size w w' := by
  have hmf : ∀ (fn : Fn) (first cap : Array Value) (w : World), (Instr.makeFunc fn first cap).run Tryz.prog w = .ok (.func fn first cap) w := fun _ _ _ _ => rfl
  have DC := hide (fun W => exact32_dec b W hb)
  have HT := hide htab
  have HB0 : Hid (Below w.heap.size w (w.alloc (.cells #[.int .i64 0, .bool false, .string ⟨#[]⟩, .int .i64 0] 24))) := (Below.refl _ _).alloc (Nat.le_refl _) _
  have BLK := hide (Blk.new w #[.int .i64 0, .bool false, .string ⟨#[]⟩, .int .i64 0] 24)
  obtain ⟨d, hd⟩ : ∃ d, d = ex32D b := ⟨_, rfl⟩
  rw [← hd] at DC ⊢
  clear htab hd
  go_enter Tryz.func45, Tryz.ntmps45
  go_wp2_with fail
  refine (binary32_any _).mono ?_
  rintro e w1 ⟨rfl, hb1⟩
  have HB1 := hide (HB0.out.trans (hb1.mono (by simp)))
  have BLK1 := hide (BLK.out.below hb1 BLK.out.lt)
  have HB1' : Hid (Below w1.heap.size w1 (w1.alloc (.cells #[.int .i64 23, .int .i64 8, .int .i64 (-149)] 46))) := (Below.refl _ _).alloc (Nat.le_refl _) _
  clear hb1 HB0 BLK
  go_wp2_with fail
  refine (DC.out _ (HT.out.below (HB1.out.trans (HB1'.out.mono HB1.out.size)))).mono ?_
  rintro e w2 ⟨rfl, hb2⟩
  have hb12 := HB1'.out.trans (hb2.mono (by simp))
  have HB2 := hide (HB1.out.trans (hb12.mono HB1.out.size))
  have B2 := BLK1.out.below hb12 BLK1.out.lt
  have k0 : w2.cell? ⟨w.heap.size, 0, none⟩ = some (.int .i64 0) := B2.cell 0
  have k1 : w2.cell? ⟨w.heap.size, 1, none⟩ = some (.bool false) := B2.cell 1
  have k2 : w2.cell? ⟨w.heap.size, 2, none⟩ = some (.string ⟨#[]⟩) := B2.cell 2
  have k3 : w2.cell? ⟨w.heap.size, 3, none⟩ = some (.int .i64 0) := B2.cell 3
  have f0 := B2.free 0
  have f1 := B2.free 1
  have f2 := B2.free 2
  have f3 := B2.free 3
  have BL2 := hide B2
  have FIN : Hid (decVal d = .agg #[.int .i64 (d.cls : Int), .bool d.neg, .string ⟨d.dig.toArray⟩, .int .i64 d.exp]) := rfl
  rw [FIN.out]
  clear B2 hb2 hb12 HB1 HB1' BLK1 DC
  go_wp2
  refine bodyPost_ret (results_dec rfl _ _ _ _ _ _ _ rfl (BL2.out.put4 _ _ _ _)) rfl ?_
  exact ⟨rfl, below_put4 HB2.out (by omega) _ _ _ _⟩

end Go.Proofs.YtpiloigpncbccacGreatDoor

namespace Go.Proofs.YtpiloigpncbccacGreatDoor
open Go.RowKit

theorem aw1 (w : World) (htab : Tab w) : Calls Tryz.prog 6 #[.int .u64 4591870180066957722] w fun e w' => e = .returned (.agg #[.int .i64 0, .bool false, .string ⟨#[49]⟩, .int .i64 (-1)]) ∧ Below w.heap.size w w' := by
  have h := of64_any 4591870180066957722 w (by omega) htab
  rw [show ((4591870180066957722 : Nat)) = 0x3fb999999999999a from rfl] at h
  rw [awk1] at h
  exact h

theorem aw2 (w : World) (htab : Tab w) : Calls Tryz.prog 6 #[.int .u64 1] w fun e w' => e = .returned (.agg #[.int .i64 0, .bool false, .string ⟨#[53]⟩, .int .i64 (-324)]) ∧ Below w.heap.size w w' := by
  have h := of64_any 1 w (by omega) htab
  rw [show ((1 : Nat)) = 0x1 from rfl] at h
  rw [awk2] at h
  exact h

theorem aw5 (w : World) (htab : Tab w) : Calls Tryz.prog 15 #[.int .u64 4602678819172646912] w fun e w' => e = .returned (.agg #[.int .i64 0, .bool false, .string ⟨#[53]⟩, .int .i64 (-1)]) ∧ Below w.heap.size w w' := by
  have h := exact64_any 4602678819172646912 w (by omega) htab
  rw [show ((4602678819172646912 : Nat)) = 0x3fe0000000000000 from rfl] at h
  rw [awk5] at h
  exact h

theorem aw6 (w : World) (htab : Tab w) : Calls Tryz.prog 45 #[.int .u32 1056964608] w fun e w' => e = .returned (.agg #[.int .i64 0, .bool false, .string ⟨#[53]⟩, .int .i64 (-1)]) ∧ Below w.heap.size w w' := by
  have h := exact32_any 1056964608 w (by omega) htab
  rw [show ((1056964608 : Nat)) = 0x3f000000 from rfl] at h
  rw [awk6] at h
  exact h

theorem aw7 (w : World) (htab : Tab w) : Calls Tryz.prog 6 #[.int .u64 9223372036854775808] w fun e w' => e = .returned (.agg #[.int .i64 0, .bool true, .string ⟨#[]⟩, .int .i64 0]) ∧ Below w.heap.size w w' := by
  have h := of64_any 9223372036854775808 w (by omega) htab
  rw [show ((9223372036854775808 : Nat)) = 0x8000000000000000 from rfl] at h
  rw [awk7] at h
  exact h

theorem aw8 (w : World) (htab : Tab w) : Calls Tryz.prog 6 #[.int .u64 9218868437227405312] w fun e w' => e = .returned (.agg #[.int .i64 1, .bool false, .string ⟨#[]⟩, .int .i64 0]) ∧ Below w.heap.size w w' := by
  have h := of64_any 9218868437227405312 w (by omega) htab
  rw [show ((9218868437227405312 : Nat)) = 0x7ff0000000000000 from rfl] at h
  rw [awk8] at h
  exact h

end Go.Proofs.YtpiloigpncbccacGreatDoor

namespace Go.Proofs.YtpiloigpncbccacGreatDoor
open Go.RowKit

end Go.Proofs.YtpiloigpncbccacGreatDoor
