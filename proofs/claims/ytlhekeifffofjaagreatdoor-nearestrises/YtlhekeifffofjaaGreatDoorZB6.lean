/-
  What shortest's fewest does.
  Decs as structs: what a function answers that hands back one, or one and an error.
  What shortest's dec, Of64, Of32, Exact64 and Exact32 do.
  What nearest's Narrow and Widen do, and quipulaw04's awake: the calls answer what the document fixes.
  What the rows' list of package variables gives, and a world that holds them.
-/
import Derived.Test.YtlhekeifffofjaaGreatDoorZB5
import Derived.Test.YtlhekeifffofjaaGreatDoorZB4
import Derived.Test.YtlhekeifffofjaaGreatDoorRows
import Derived.Lib.LaidTab
import Derived.Deep.DeepHandedRow
namespace Go.Proofs.YtlhekeifffofjaaGreatDoor
open Go.RowKit

theorem size_bound {A j c : Nat} (h : A < 10 ^ j) (h1 : 1 ≤ j) (hj : j ≤ c) : sizeN A ≤ c := Nat.le_trans (sizeN_le h h1) hj

theorem pickV_none : pickV none = .tuple #[.int .u64 0, .bool false] := rfl
theorem pickV_some (v : Nat) : pickV (some v) = .tuple #[.int .u64 (v : Int), .bool true] := rfl

/-- At the head of fewest's loop, at place p. -/
structure FewInv (w : World) (r : Near) (s p H : Nat) (va vl vh vu vr : Value) (wr : World) : Prop where
  bel : Below w.heap.size w wr
  blk : Blk wr H #[va, vl, vh, .bool r.clo] 88
  lo : Nt wr vl r.lo
  hi : Nt wr vh r.hi
  unit : Nt wr vu (10 ^ p)
  rest : Nt wr vr (r.amt % 10 ^ (p + 1))
  few : fewN r s = fewN r (p + 1)
  top : r.amt / 10 ^ (p + 1) < 10 ^ 16
  tab : Tab wr

theorem digit_step (A p : Nat) : A / 10 ^ (p + 1) * 10 + A % 10 ^ (p + 1) / 10 ^ p = A / 10 ^ p ∧ A % 10 ^ (p + 1) / 10 ^ p < 10 ∧ A % 10 ^ (p + 1) % 10 ^ p = A % 10 ^ p := by
  have hp : 0 < 10 ^ p := Nat.pow_pos (by omega)
  have e : A % 10 ^ (p + 1) / 10 ^ p = A / 10 ^ p % 10 := by rw [Nat.pow_succ, Nat.mod_mul_right_div_self]
  refine ⟨?_, ?_, ?_⟩
  · rw [e, Nat.pow_succ, ← Nat.div_div_eq_div_mul]; omega
  · rw [e]; omega
  · rw [Nat.pow_succ, Nat.mod_mul_right_mod]

set_option maxHeartbeats 2000000 in
theorem fewest_any (F X B x m : Nat) (w : World) (hF : F ≤ 52) (hB : B ≤ 2000) (hx : x ≤ 5000) (hm : m < 2 ^ F) (h1 : -1074 ≤ fPow B x) (h2 : fPow B x ≤ 971) (h0 : ¬ (x = 0 ∧ m = 0)) (htab : Tab w) :
    Calls Tryz.prog 45 #[widV F X B, .int .u64 (x : Int), .int .u64 (m : Int)] w (TxtPost w (fewD F B x m).1 (fewD F B x m).2) := by
  have RC := fun W => reach_any F X B x m W hF hB hx hm h1 h2
  have g := nearOf_good (B := B) (x := x) hF hm
  have hn : fNum F x m ≠ 0 := by
    have := Nat.pow_pos (n := F) (show 0 < 2 by omega)
    unfold fNum; split <;> omega
  have ha : (nearOf F B x m).amt ≠ 0 := by
    have := p2N_pos (fPow B x - 2)
    exact Nat.mul_ne_zero (by omega) (by omega)
  obtain ⟨j, hj⟩ : ∃ j : Nat, j = 1081 := ⟨_, rfl⟩
  have hp := p2N_lt (n := fPow B x - 2) (j := j) (by omega) (by omega)
  have hA : (nearOf F B x m).amt < 10 ^ (j + 17) := mul_lt10 hp (fNum_lt17 hF hm)
  have hH : (nearOf F B x m).hi < 10 ^ (j + 1) := mul_lt10 hp (by omega)
  have hE : -1100 ≤ p2E (fPow B x - 2) ∧ p2E (fPow B x - 2) ≤ 0 := by unfold p2E; split <;> omega
  unfold fewD
  obtain ⟨r, hr⟩ : ∃ r, r = nearOf F B x m := ⟨_, rfl⟩
  obtain ⟨ex, hex⟩ : ∃ ex, ex = p2E (fPow B x - 2) := ⟨_, rfl⟩
  obtain ⟨sz, hsz⟩ : ∃ sz, sz = sizeN r.amt := ⟨_, rfl⟩
  rw [← hr, ← hex] at RC
  rw [← hr] at g ha hA hH
  rw [← hex] at hE
  rw [← hr, ← hex, ← hsz]
  have hs1 : 1 ≤ sz ∧ sz ≤ 1098 := ⟨by rw [hsz]; exact sizeN_pos _, by rw [hsz]; exact size_bound hA (by omega) (by omega)⟩
  have hlt : r.amt < 10 ^ sz := by rw [hsz]; exact sizeN_lt _
  have SM : Hid (Sm r.amt ∧ Sm r.lo ∧ Sm r.hi ∧ ∀ p, p ≤ 1100 → Sm (10 ^ p)) := ⟨Sm.of hA (by omega), Sm.of (Nat.lt_of_le_of_lt g.le hH) (by omega), Sm.of hH (by omega), fun p hp => Sm.of (k := p + 1) ((Nat.pow_lt_pow_iff_right (by omega : 1 < 10)).2 (by omega)) (by omega)⟩
  have GD := hide g
  have SZ : Hid (sz = (Lib.decDigits r.amt).length ∧ r.amt < 10 ^ sz) := ⟨hsz, hlt⟩
  have HT := hide htab
  have HR := hide RC
  clear RC g hn ha hp hA hH hr hex hsz htab hF hB hx hm h1 h2 h0 hlt hj j
  go_enter Tryz.func45, Tryz.ntmps45
  go_wp2_with fail
  refine (HR.out _).mono ?_
  rintro e w1 ⟨oa, la, ca, ol, ll, cl, oh, lh, ch, rfl, hra, hb1⟩
  have HA := hide hra
  have HB1 : Hid (Below w.heap.size w w1) := ((Below.refl _ _).alloc (Nat.le_refl _) _).trans (hb1.mono (by simp))
  clear hb1 hra HR
  have blk := Blk.new w1 #[.slice oa la ca, .slice ol ll cl, .slice oh lh ch, .bool r.clo] 88
  have hb1' : Below w1.heap.size w1 (w1.alloc (.cells #[.slice oa la ca, .slice ol ll cl, .slice oh lh ch, .bool r.clo] 88)) := (Below.refl _ _).alloc (Nat.le_refl _) _
  have HB1' := hide (HB1.out.trans (hb1'.mono HB1.out.size))
  have HA' : Hid (ReachAt (w1.alloc (.cells #[.slice oa la ca, .slice ol ll cl, .slice oh lh ch, .bool r.clo] 88)) r (.slice oa la ca) (.slice ol ll cl) (.slice oh lh ch)) := ⟨HA.out.amt.below hb1', HA.out.lo.below hb1', HA.out.hi.below hb1'⟩
  obtain ⟨H, eH⟩ : ∃ H, H = w1.heap.size := ⟨_, rfl⟩
  rw [← eH] at blk
  have BLK := hide blk
  clear blk hb1' HA
  go_wp2_with fail
  refine (nt_text _ _ _ HA'.out.amt (HT.out.below HB1'.out)).mono ?_
  rintro e w2 ⟨rfl, hb2⟩
  have BLK2 := hide (BLK.out.below hb2 BLK.out.lt)
  have HB2 := hide (HB1'.out.trans (hb2.mono HB1'.out.size))
  have HA2 : Hid (ReachAt w2 r (.slice oa la ca) (.slice ol ll cl) (.slice oh lh ch)) := ⟨HA'.out.amt.below hb2, HA'.out.lo.below hb2, HA'.out.hi.below hb2⟩
  obtain ⟨t, ht⟩ : ∃ t : ByteArray, t = ⟨(Lib.decDigits r.amt).toArray⟩ := ⟨_, rfl⟩
  have hts : t.size = sz := by rw [ht, SZ.out.1]; simp [ByteArray.size]
  rw [← ht]
  clear ht hb2 BLK HB1' HA' HB1
  go_wp2_with fail
  refine (nt_pow10 _ (sz - 1) _ (by omega) (by omega)).mono ?_
  rintro e w3 ⟨vu, rfl, hvu, hb3, _⟩
  have BLK3 := hide (BLK2.out.below hb3 BLK2.out.lt)
  have HB3 := hide (HB2.out.trans (hb3.mono HB2.out.size))
  have HA3 : Hid (ReachAt w3 r (.slice oa la ca) (.slice ol ll cl) (.slice oh lh ch)) := ⟨HA2.out.amt.below hb3, HA2.out.lo.below hb3, HA2.out.hi.below hb3⟩
  have HU := hide hvu
  have k0 : w3.cell? ⟨H, 0, none⟩ = some (.slice oa la ca) := BLK3.out.cell 0
  rw [eH] at k0
  have TB3 := hide (HT.out.below HB3.out)
  clear hvu hb3 BLK2 HB2 HA2 HT
  go_wp2
  simp only [← eH]
  clear k0
  have START : Hid (FewInv w r sz (sz - 1) H (.slice oa la ca) (.slice ol ll cl) (.slice oh lh ch) vu (.slice oa la ca) w3) := by
    have e : sz - 1 + 1 = sz := by omega
    refine ⟨HB3.out, BLK3.out, HA3.out.lo, HA3.out.hi, HU.out, ?_, by rw [e], ?_, TB3.out⟩
    · rw [e, Nat.mod_eq_of_lt SZ.out.2]; exact HA3.out.amt
    · rw [e, Nat.div_eq_of_lt SZ.out.2]; exact Nat.pow_pos (by omega)
  have N0 : Hid (r.amt / 10 ^ (sz - 1 + 1) = 0) := by
    have e : sz - 1 + 1 = sz := by omega
    show r.amt / 10 ^ (sz - 1 + 1) = 0
    rw [e, Nat.div_eq_of_lt SZ.out.2]
  clear HB3 BLK3 HA3 HU TB3 SZ eH
  go_loopw [11, 13, 14, 15] (fun vu vr n i wr => ∃ p : Nat, p ≤ 1098 ∧ n = .int .u64 ((r.amt / 10 ^ (p + 1) : Nat) : Int) ∧ i = .int .i64 (p : Int) ∧ FewInv w r sz p H (.slice oa la ca) (.slice ol ll cl) (.slice oh lh ch) vu vr wr) (fun _ _ _ i _ => (intOf i).toNat)
  case atStart => exact ⟨sz - 1, by omega, by rw [N0.out]; rfl, congrArg (Value.int IntKind.i64) (by omega), START.out⟩
  case round =>
    clear START N0 hts
    obtain ⟨p, hp, rfl, rfl, hinv⟩ := hrel
    obtain ⟨d1, d2, d3⟩ := digit_step r.amt p
    have hp0 : 0 < 10 ^ p := Nat.pow_pos (by omega)
    have htop := hinv.top
    have h16 : (10 : Nat) ^ 16 = 10000000000000000 := by decide
    have DV := nt_div u13 u11 _ _ wr hinv.rest hinv.unit (Nat.lt_of_le_of_lt (Nat.mod_le _ _) SM.out.1) (SM.out.2.2.2 p (by omega)) (by omega)
    rw [d3] at DV
    have PA : pickAt r p = pickN r (r.amt / 10 ^ p) (r.amt % 10 ^ p) (10 ^ p) := rfl
    have FS : pickAt r p = none → r.amt / 10 ^ p < 10 ^ 16 := few_small GD.out
    have P0 : p = 0 → pickAt r p ≠ none := fun h => by rw [h, pickAt_zero GD.out]; simp
    have FN : fewN r (p + 1) = (match pickAt r p with | some v => (v, p) | none => fewN r p) := rfl
    rw [← hinv.few] at FN
    obtain ⟨n1, hn1⟩ : ∃ n, n = r.amt / 10 ^ (p + 1) := ⟨_, rfl⟩
    obtain ⟨dd, hdd⟩ : ∃ n, n = r.amt % 10 ^ (p + 1) / 10 ^ p := ⟨_, rfl⟩
    obtain ⟨n0, hn0⟩ : ∃ n, n = r.amt / 10 ^ p := ⟨_, rfl⟩
    obtain ⟨rr, hrr⟩ : ∃ n, n = r.amt % 10 ^ p := ⟨_, rfl⟩
    have hrU : rr < 10 ^ p := by rw [hrr]; exact Nat.mod_lt _ hp0
    rw [← hn1] at htop d1 ⊢
    rw [← hdd] at d1 d2 DV
    rw [← hn0] at d1 PA FS
    rw [← hrr] at DV PA
    have hn1b : n1 < 10000000000000000 := by omega
    have SR : Sm rr := by rw [hrr]; exact Nat.lt_of_le_of_lt (Nat.mod_le _ _) SM.out.1
    have PK : Hid (∀ (W : World) (vr : Value), Below wr.heap.size wr W → Nt W vr rr → Calls Tryz.prog 68 #[.agg #[.slice oa la ca, .slice ol ll cl, .slice oh lh ch, .bool r.clo], .int .u64 ((n1 : Int) * 10 + (dd : Int)), vr, u11] W fun e w' => e = .returned (pickV (pickAt r p)) ∧ Below W.heap.size W w') := by
      intro W vr hW hvr
      rw [show (n1 : Int) * 10 + (dd : Int) = ((n0 : Nat) : Int) by omega, PA]
      exact pick_any oa ol oh la ca ll cl lh ch r.clo vr u11 r n0 rr (10 ^ p) W (hinv.lo.below hW) (hinv.hi.below hW) rfl hvr (hinv.unit.below hW) SR (SM.out.2.2.2 p (by omega)) SM.out.2.1 SM.out.2.2.1 (by omega) (by omega)
    have HI := hide hinv
    have DVH := hide DV
    have FSH : Hid (pickAt r p = none → n0 < 10 ^ 16) := FS
    have P0H := hide P0
    have FNH := hide FN
    have PAH := hide PA
    have N0H : Hid (n0 = r.amt / 10 ^ p ∧ rr = r.amt % 10 ^ p ∧ n0 < 100000000000000000 ∧ n1 * 10 + dd = n0) := ⟨hn0, hrr, by omega, d1⟩
    clear DV PA FS P0 FN hn1 hdd hn0 hrr hrU htop d1 d3 SR hinv hp0 h16
    go_wp2_with fail
    refine DVH.out.mono ?_
    rintro e w4 ⟨vd, vr, rfl, hvd, hvr, hb4⟩
    have HB4 := hide hb4
    have HVR := hide hvr
    have UI := hide (nt_uint vd dd w4 hvd (by unfold B64; omega))
    clear hb4 hvr hvd DVH
    go_wp2_with fail
    refine UI.out.mono ?_
    rintro e w5 ⟨rfl, rfl⟩
    have BK4 := HI.out.blk.below HB4.out HI.out.blk.lt
    have k0 : w4.cell? ⟨H, 0, none⟩ = some (.slice oa la ca) := BK4.cell 0
    have k1 : w4.cell? ⟨H, 1, none⟩ = some (.slice ol ll cl) := BK4.cell 1
    have k2 : w4.cell? ⟨H, 2, none⟩ = some (.slice oh lh ch) := BK4.cell 2
    have k3 : w4.cell? ⟨H, 3, none⟩ = some (.bool r.clo) := BK4.cell 3
    clear BK4 UI
    go_wp2_with fail
    refine (PK.out w4 vr HB4.out HVR.out).mono ?_
    rintro e w6 ⟨rfl, hb6⟩
    have HB6 := hide (HB4.out.trans (hb6.mono HB4.out.size))
    have HVR6 := hide (HVR.out.below hb6)
    clear hb6 HB4 HVR k0 k1 k2 k3 PK
    have HW6 := hide (HI.out.bel.trans (HB6.out.mono HI.out.bel.size))
    rcases ho : pickAt r p with _ | v
    · obtain ⟨k, rfl⟩ : ∃ k, p = k + 1 := ⟨p - 1, by have := P0H.out; have : p ≠ 0 := fun h => this h ho; omega⟩
      have FN := FNH.out
      rw [ho] at FN
      have NX : Hid (∀ (v1 : Value) (W : World), Below w6.heap.size w6 W → Nt W v1 (10 ^ (k + 1) / 10) → FewInv w r sz k H (.slice oa la ca) (.slice ol ll cl) (.slice oh lh ch) v1 vr W) := by
        intro v1 W hW hv1
        have hb := HB6.out.trans (hW.mono HB6.out.size)
        refine ⟨HW6.out.trans (hW.mono HW6.out.size), HI.out.blk.below hb HI.out.blk.lt, HI.out.lo.below hb, HI.out.hi.below hb, ?_, ?_, FN, ?_, HI.out.tab.below hb⟩
        · rw [Nat.pow_succ, Nat.mul_div_cancel _ (by omega)] at hv1; exact hv1
        · rw [← N0H.out.2.1]; exact HVR6.out.below hW
        · rw [← N0H.out.1]; exact FSH.out ho
      have NV : Hid ((n0 : Int) = ((r.amt / 10 ^ (k + 1) : Nat) : Int)) := congrArg Nat.cast N0H.out.1
      have DD : Hid (∀ (W : World) (v1 : Value), Below w6.heap.size w6 W → Nt W v1 10 → Calls Tryz.prog 66 #[u11, v1] W (NtDiv W (10 ^ (k + 1) / 10) (10 ^ (k + 1) % 10))) := by
        intro W v1 hW hv1
        exact nt_div u11 v1 _ 10 W (HI.out.unit.below (HB6.out.trans (hW.mono HB6.out.size))) hv1 (SM.out.2.2.2 _ (by omega)) (Sm.of (k := 2) (by omega) (by omega)) (by omega)
      have NS : Hid ((n1 : Int) * 10 + (dd : Int) = (n0 : Int)) := by have := N0H.out.2.2.2; show (n1 : Int) * 10 + (dd : Int) = (n0 : Int); omega
      rw [pickV_none]
      clear ho FN P0H FNH PAH FSH HI HB6 HVR6 HW6
      go_wp2_with fail
      refine (nt_of 10 _ (by decide)).mono ?_
      rintro e w7 ⟨v7, rfl, hv7, hb7, _⟩
      go_wp2_with fail
      refine (DD.out w7 v7 hb7 hv7).mono ?_
      rintro e w8 ⟨v8, v9, rfl, hv8, _, hb8⟩
      have NX8 := hide (NX.out v8 w8 (hb7.trans (hb8.mono hb7.size)) hv8)
      clear NX DD hv7 hv8 hb7 hb8
      go_wp2
      go_roundw
      case rel => exact ⟨k, by omega, by rw [← NV.out, ← NS.out], by go_num, NX8.out⟩
      case measure => simp [intOf]
    · have hv : v < 18446744073709551616 := by
        have := PAH.out
        rw [ho] at this
        have := pick_or this.symm
        have := N0H.out.2.2.1
        omega
      have FN := FNH.out
      rw [ho] at FN
      have FNX : Hid (fewN r sz = (v, p)) := FN
      have FU := hide (fmtUint_any v hv w6 (HI.out.tab.below HB6.out))
      rw [pickV_some]
      clear ho FN P0H FNH PAH FSH HI HB6 HVR6 N0H
      go_wp2_with fail
      refine FU.out.mono ?_
      rintro e w7 ⟨rfl, hb7⟩
      have HB7 := hide (HW6.out.trans (hb7.mono HW6.out.size))
      clear hb7 FU HW6
      go_wp2
      go_ret2
      refine ⟨?_, HB7.out⟩
      rw [FNX.out]
      rfl

end Go.Proofs.YtlhekeifffofjaaGreatDoor

namespace Go.Proofs.YtlhekeifffofjaaGreatDoor
open Go.RowKit

/-- A Dec, as a struct. -/
def decVal (d : DecT) : Value := .agg #[.int .i64 (d.cls : Int), .bool d.neg, .string ⟨d.dig.toArray⟩, .int .i64 d.exp]

theorem results_dec {fn : Func} {a : Tmp} (h : fn.results = #[.cell a 23]) (tmps : Array Value) (H : Nat) (x0 x1 x2 x3 : Value) (w : World) (ht : tmps.getD a undef = .pointer (some ⟨H, 0, none⟩)) (hp : Blk w H #[x0, x1, x2, x3] 23) :
    (results fn tmps).run Tryz.prog w = .ok (.agg #[x0, x1, x2, x3]) w := by
  have c0 := hp.cell 0
  have c1 := hp.cell 1
  have c2 := hp.cell 2
  have c3 := hp.cell 3
  simp at c0 c1 c2 c3
  rw [Array.getD_eq_getD_getElem?] at ht
  simp [results, h, ht, go_sem, c0, c1, c2, c3]

theorem below_put4 {w W : World} {H : Nat} (h : Below w.heap.size w W) (hH : w.heap.size ≤ H) (y0 y1 y2 y3 : Value) : Below w.heap.size w ((((W.setCell ⟨H, 0, none⟩ y0).setCell ⟨H, 1, none⟩ y1).setCell ⟨H, 2, none⟩ y2).setCell ⟨H, 3, none⟩ y3) :=
  (((h.setCell hH _).setCell hH _).setCell hH _).setCell hH _

end Go.Proofs.YtlhekeifffofjaaGreatDoor

namespace Go.Proofs.YtlhekeifffofjaaGreatDoor
open Go.RowKit

/-- What tells the digits of x and m. -/
def Tells (f : Nat) (rv : Value) (x m N : Nat) (ex : Int) : Prop :=
  (∀ args w, (callFunc f args).run Tryz.prog w = .ok (.enter f args) w) ∧ ∀ w, Tab w → Calls Tryz.prog f #[rv, .int .u64 (x : Int), .int .u64 (m : Int)] w (TxtPost w N ex)

theorem size_lt {A j c : Nat} (h : A < 10 ^ j) (h1 : 1 ≤ j) (hj : j ≤ c) : (Lib.decDigits A).length ≤ c := Nat.le_trans (sizeN_le h h1) hj

theorem cut0_le (l : List UInt8) : (cut0 l).length ≤ l.length := by
  unfold cut0 Lib.trimRightB
  rw [List.length_reverse]
  have := (List.dropWhile_sublist (p := (· == (48 : UInt8))) (l := l.reverse)).length_le
  rw [List.length_reverse] at this
  exact this

set_option maxHeartbeats 2000000 in
theorem dec11 (F B b f : Nat) (rv : Value) (tell : Nat → Nat → Nat × Int) (w : World) (hF : F ≤ 52) (hb : b < 18446744073709551616) (htab : Tab w)
    (ht : b / 2 ^ F % 2 ^ 11 ≠ 2047 → ¬ (b / 2 ^ F % 2 ^ 11 = 0 ∧ b % 2 ^ F = 0) → Tells f rv (b / 2 ^ F % 2 ^ 11) (b % 2 ^ F) (tell (b / 2 ^ F % 2 ^ 11) (b % 2 ^ F)).1 (tell (b / 2 ^ F % 2 ^ 11) (b % 2 ^ F)).2 ∧ (∃ j, j ≤ 2000 ∧ (tell (b / 2 ^ F % 2 ^ 11) (b % 2 ^ F)).1 < 10 ^ j) ∧ -5000 ≤ (tell (b / 2 ^ F % 2 ^ 11) (b % 2 ^ F)).2 ∧ (tell (b / 2 ^ F % 2 ^ 11) (b % 2 ^ F)).2 ≤ 5000) :
    Calls Tryz.prog 44 #[widV F 11 B, .int .u64 (b : Int), .func (.func f) #[rv] #[]] w fun e w' => e = .returned (decVal (decOf F 11 tell b)) ∧ Below w.heap.size w w' := by
  have SP := fun W => split_any F 11 B b W hF (by omega) hb
  unfold splitV at SP
  unfold decOf
  have e11 : 2 ^ 11 - 1 = 2047 := by decide
  rw [e11]
  have hx2 : b / 2 ^ F % 2 ^ 11 < 2048 := Nat.mod_lt _ (by omega)
  have hm2 : b % 2 ^ F < 18446744073709551616 := Nat.lt_of_le_of_lt (Nat.mod_le _ _) hb
  obtain ⟨x, hx⟩ : ∃ x, x = b / 2 ^ F % 2 ^ 11 := ⟨_, rfl⟩
  obtain ⟨m, hm⟩ : ∃ m, m = b % 2 ^ F := ⟨_, rfl⟩
  obtain ⟨neg, hneg⟩ : ∃ n : Bool, n = decide (b / 2 ^ F / 2 ^ 11 ≠ 0) := ⟨_, rfl⟩
  rw [← hx] at hx2
  rw [← hm] at hm2
  rw [← hx, ← hm] at ht
  rw [← hx, ← hm, ← hneg] at SP ⊢
  obtain ⟨d, hd⟩ : ∃ d, d = (if x = 2047 then if m = 0 then DecT.mk 1 neg [] 0 else ⟨2, false, [], 0⟩ else if x = 0 ∧ m = 0 then ⟨0, neg, [], 0⟩ else decA neg (tell x m).1 (tell x m).2) := ⟨_, rfl⟩
  rw [← hd]
  have HD := hide hd
  clear hd
  have SPH := hide SP
  have HTL := hide ht
  have HT := hide htab
  have blk := Blk.newAt (w.alloc (.cells #[.int .i64 (F : Int), .int .i64 11, .int .i64 (-(B : Int))] 65)) (w.heap.size + 1) (by simp) #[.int .i64 0, .bool false, .string ⟨#[]⟩, .int .i64 0] 23
  have blk0 := (Blk.new w #[.int .i64 (F : Int), .int .i64 11, .int .i64 (-(B : Int))] 65).alloc (.cells #[.int .i64 0, .bool false, .string ⟨#[]⟩, .int .i64 0] 23)
  have BLK := hide blk
  have BLK0 := hide blk0
  have HB0 : Hid (Below w.heap.size w ((w.alloc (.cells #[.int .i64 (F : Int), .int .i64 11, .int .i64 (-(B : Int))] 65)).alloc (.cells #[.int .i64 0, .bool false, .string ⟨#[]⟩, .int .i64 0] 23))) := ((Below.refl _ _).alloc (Nat.le_refl _) _).alloc (by simp) _
  clear SP ht htab hx hm hneg blk blk0 hb e11
  go_enter Tryz.func44, Tryz.ntmps44
  go_wp2_with fail
  refine (SPH.out _).mono ?_
  rintro e w1 ⟨rfl, hb1⟩
  have B1 := BLK.out.below hb1 BLK.out.lt
  have B0 := BLK0.out.below hb1 BLK0.out.lt
  have HB1 := hide (HB0.out.trans (hb1.mono (by simp; omega)))
  have q1 : w1.cell? ⟨w.heap.size, 1, none⟩ = some (.int .i64 11) := B0.cell 1
  have k0 : w1.cell? ⟨w.heap.size + 1, 0, none⟩ = some (.int .i64 0) := B1.cell 0
  have k1 : w1.cell? ⟨w.heap.size + 1, 1, none⟩ = some (.bool false) := B1.cell 1
  have k2 : w1.cell? ⟨w.heap.size + 1, 2, none⟩ = some (.string ⟨#[]⟩) := B1.cell 2
  have k3 : w1.cell? ⟨w.heap.size + 1, 3, none⟩ = some (.int .i64 0) := B1.cell 3
  have f0 := B1.free 0
  have f1 := B1.free 1
  have f2 := B1.free 2
  have f3 := B1.free 3
  have BL1 := hide B1
  clear B1 B0 hb1 BLK BLK0 HB0 SPH
  by_cases hx1 : x = 2047
  · have hx1' : (x : Int) = 2047 := by omega
    by_cases hm0 : m = 0
    · have hm0' : (m : Int) = 0 := by omega
      have IF : Hid (d = ⟨1, neg, [], 0⟩) := HD.out.trans (by rw [if_pos hx1, if_pos hm0])
      clear hx1 hm0 HTL HD
      go_wp2
      refine bodyPost_ret (results_dec rfl _ _ _ _ _ _ _ rfl (BL1.out.put4 _ _ _ _)) rfl ?_
      refine ⟨?_, below_put4 HB1.out (by omega) _ _ _ _⟩
      rw [IF.out]
      rfl
    · have hm0' : ¬ (m : Int) = 0 := by omega
      have IF : Hid (d = ⟨2, false, [], 0⟩) := HD.out.trans (by rw [if_pos hx1, if_neg hm0])
      clear hx1 hm0 HTL HD
      go_wp2
      refine bodyPost_ret (results_dec rfl _ _ _ _ _ _ _ rfl (BL1.out.put4 _ _ _ _)) rfl ?_
      refine ⟨?_, below_put4 HB1.out (by omega) _ _ _ _⟩
      rw [IF.out]
      rfl
  · have hx1' : ¬ (x : Int) = 2047 := by omega
    by_cases h0 : x = 0 ∧ m = 0
    · have IF : Hid (d = ⟨0, neg, [], 0⟩) := HD.out.trans (by rw [if_neg hx1, if_pos h0])
      have hx0' : (x : Int) = 0 := by omega
      have hm0' : (m : Int) = 0 := by omega
      clear hx1 h0 HTL HD
      go_wp2
      refine bodyPost_ret (results_dec rfl _ _ _ _ _ _ _ rfl (BL1.out.put4 _ _ _ _)) rfl ?_
      refine ⟨?_, below_put4 HB1.out (by omega) _ _ _ _⟩
      rw [IF.out]
      rfl
    · obtain ⟨tl, hj, he1, he2⟩ := HTL.out hx1 h0
      obtain ⟨N, hN⟩ : ∃ N, N = (tell x m).1 := ⟨_, rfl⟩
      obtain ⟨ex, hex⟩ : ∃ ex, ex = (tell x m).2 := ⟨_, rfl⟩
      have IF : Hid (d = decA neg N ex) := HD.out.trans (by rw [if_neg hx1, if_neg h0, hN, hex])
      rw [← hN] at tl hj
      rw [← hex] at tl he1 he2
      have TL : Hid (∀ w, Tab w → Calls Tryz.prog f #[rv, .int .u64 (x : Int), .int .u64 (m : Int)] w (TxtPost w N ex)) := tl.2
      have hent := tl.1
      have hsz : (Lib.decDigits N).length ≤ 2000 := by
        obtain ⟨j, h1, h2⟩ := hj
        by_cases hj0 : 1 ≤ j
        · exact size_lt h2 hj0 h1
        · rw [show j = 0 by omega, Nat.pow_zero] at h2
          rw [show N = 0 by omega, Lib.decDigits_one (by omega)]; simp
      have TB1 := hide (HT.out.below HB1.out)
      clear hx1 HTL tl hj hN hex HT HD
      by_cases hx0 : x = 0
      · have hx0' : (x : Int) = 0 := by omega
        have hm0' : ¬ (m : Int) = 0 := by omega
        have TLZ : Hid (∀ w, Tab w → Calls Tryz.prog f #[rv, .int .u64 0, .int .u64 (m : Int)] w (TxtPost w N ex)) := by
          have h := TL.out
          rw [hx0] at h
          exact h
        clear h0 hx0
        go_wp2_with fail
        refine (TLZ.out _ TB1.out).mono ?_
        rintro e w2 ⟨rfl, hb2⟩
        obtain ⟨t, htt⟩ : ∃ t : ByteArray, t = ⟨(Lib.decDigits N).toArray⟩ := ⟨_, rfl⟩
        have hts : t.size = (Lib.decDigits N).length := by rw [htt]; simp [ByteArray.size]
        have htl : t.data.toList = Lib.decDigits N := by rw [htt]
        obtain ⟨t2, htt2⟩ : ∃ t : ByteArray, t = ⟨(cut0 (Lib.decDigits N)).toArray⟩ := ⟨_, rfl⟩
        have hts2 : t2.size = (cut0 (Lib.decDigits N)).length := by rw [htt2]; simp [ByteArray.size]
        have TR := Tryz.strings_TrimRight_one t 48 (by decide) w2 (by omega)
        rw [htl] at TR
        have TRH : Hid (Calls Tryz.prog 62 #[.string t, .string ⟨#[48]⟩] w2 fun e w' => e = .returned (.string t2) ∧ w' = w2) := by rw [htt2]; exact TR
        have FIN : Hid (.agg #[.int .i64 0, .bool neg, .string t2, .int .i64 (ex + (t.size : Int) - (t2.size : Int))] = decVal d) := by
          have h : decVal d = decVal (decA neg N ex) := by rw [IF.out]
          rw [hts, hts2, h, htt2]; rfl
        rw [← htt]
        have hs1 : t.size ≤ 2000 := by omega
        have hs2 : t2.size ≤ 2000 := by have := cut0_le (Lib.decDigits N); omega
        have HB2 := hide (HB1.out.trans (hb2.mono HB1.out.size))
        have B2 := BL1.out.below hb2 BL1.out.lt
        clear TR htl hts hts2 htt htt2 hsz IF k0 k1 k2 k3 f0 f1 f2 f3 q1 TL TB1 HB1 hb2 BL1
        have k0 : w2.cell? ⟨w.heap.size + 1, 0, none⟩ = some (.int .i64 0) := B2.cell 0
        have k1 : w2.cell? ⟨w.heap.size + 1, 1, none⟩ = some (.bool false) := B2.cell 1
        have k2 : w2.cell? ⟨w.heap.size + 1, 2, none⟩ = some (.string ⟨#[]⟩) := B2.cell 2
        have k3 : w2.cell? ⟨w.heap.size + 1, 3, none⟩ = some (.int .i64 0) := B2.cell 3
        have f0 := B2.free 0
        have f1 := B2.free 1
        have f2 := B2.free 2
        have f3 := B2.free 3
        have BL2 := hide B2
        clear B2
        go_wp2_with fail
        refine TRH.out.mono ?_
        rintro e w3 ⟨rfl, rfl⟩
        clear TRH
        go_wp2
        refine bodyPost_ret (results_dec rfl _ _ _ _ _ _ _ rfl (BL2.out.put4 _ _ _ _)) rfl ?_
        exact ⟨congrArg Ending.returned FIN.out, below_put4 HB2.out (by omega) _ _ _ _⟩
      · have hx0' : ¬ (x : Int) = 0 := by omega
        clear h0 hx0
        go_wp2_with fail
        refine (TL.out _ TB1.out).mono ?_
        rintro e w2 ⟨rfl, hb2⟩
        obtain ⟨t, htt⟩ : ∃ t : ByteArray, t = ⟨(Lib.decDigits N).toArray⟩ := ⟨_, rfl⟩
        have hts : t.size = (Lib.decDigits N).length := by rw [htt]; simp [ByteArray.size]
        have htl : t.data.toList = Lib.decDigits N := by rw [htt]
        obtain ⟨t2, htt2⟩ : ∃ t : ByteArray, t = ⟨(cut0 (Lib.decDigits N)).toArray⟩ := ⟨_, rfl⟩
        have hts2 : t2.size = (cut0 (Lib.decDigits N)).length := by rw [htt2]; simp [ByteArray.size]
        have TR := Tryz.strings_TrimRight_one t 48 (by decide) w2 (by omega)
        rw [htl] at TR
        have TRH : Hid (Calls Tryz.prog 62 #[.string t, .string ⟨#[48]⟩] w2 fun e w' => e = .returned (.string t2) ∧ w' = w2) := by rw [htt2]; exact TR
        have FIN : Hid (.agg #[.int .i64 0, .bool neg, .string t2, .int .i64 (ex + (t.size : Int) - (t2.size : Int))] = decVal d) := by
          have h : decVal d = decVal (decA neg N ex) := by rw [IF.out]
          rw [hts, hts2, h, htt2]; rfl
        rw [← htt]
        have hs1 : t.size ≤ 2000 := by omega
        have hs2 : t2.size ≤ 2000 := by have := cut0_le (Lib.decDigits N); omega
        have HB2 := hide (HB1.out.trans (hb2.mono HB1.out.size))
        have B2 := BL1.out.below hb2 BL1.out.lt
        clear TR htl hts hts2 htt htt2 hsz IF k0 k1 k2 k3 f0 f1 f2 f3 q1 TL TB1 HB1 hb2 BL1
        have k0 : w2.cell? ⟨w.heap.size + 1, 0, none⟩ = some (.int .i64 0) := B2.cell 0
        have k1 : w2.cell? ⟨w.heap.size + 1, 1, none⟩ = some (.bool false) := B2.cell 1
        have k2 : w2.cell? ⟨w.heap.size + 1, 2, none⟩ = some (.string ⟨#[]⟩) := B2.cell 2
        have k3 : w2.cell? ⟨w.heap.size + 1, 3, none⟩ = some (.int .i64 0) := B2.cell 3
        have f0 := B2.free 0
        have f1 := B2.free 1
        have f2 := B2.free 2
        have f3 := B2.free 3
        have BL2 := hide B2
        clear B2
        go_wp2_with fail
        refine TRH.out.mono ?_
        rintro e w3 ⟨rfl, rfl⟩
        clear TRH
        go_wp2
        refine bodyPost_ret (results_dec rfl _ _ _ _ _ _ _ rfl (BL2.out.put4 _ _ _ _)) rfl ?_
        exact ⟨congrArg Ending.returned FIN.out, below_put4 HB2.out (by omega) _ _ _ _⟩

set_option maxHeartbeats 2000000 in
theorem dec8 (F B b f : Nat) (rv : Value) (tell : Nat → Nat → Nat × Int) (w : World) (hF : F ≤ 52) (hb : b < 18446744073709551616) (htab : Tab w)
    (ht : b / 2 ^ F % 2 ^ 8 ≠ 255 → ¬ (b / 2 ^ F % 2 ^ 8 = 0 ∧ b % 2 ^ F = 0) → Tells f rv (b / 2 ^ F % 2 ^ 8) (b % 2 ^ F) (tell (b / 2 ^ F % 2 ^ 8) (b % 2 ^ F)).1 (tell (b / 2 ^ F % 2 ^ 8) (b % 2 ^ F)).2 ∧ (∃ j, j ≤ 2000 ∧ (tell (b / 2 ^ F % 2 ^ 8) (b % 2 ^ F)).1 < 10 ^ j) ∧ -5000 ≤ (tell (b / 2 ^ F % 2 ^ 8) (b % 2 ^ F)).2 ∧ (tell (b / 2 ^ F % 2 ^ 8) (b % 2 ^ F)).2 ≤ 5000) :
    Calls Tryz.prog 44 #[widV F 8 B, .int .u64 (b : Int), .func (.func f) #[rv] #[]] w fun e w' => e = .returned (decVal (decOf F 8 tell b)) ∧ Below w.heap.size w w' := by
  have SP := fun W => split_any F 8 B b W hF (by omega) hb
  unfold splitV at SP
  unfold decOf
  have e8 : 2 ^ 8 - 1 = 255 := by decide
  rw [e8]
  have hx2 : b / 2 ^ F % 2 ^ 8 < 256 := Nat.mod_lt _ (by omega)
  have hm2 : b % 2 ^ F < 18446744073709551616 := Nat.lt_of_le_of_lt (Nat.mod_le _ _) hb
  obtain ⟨x, hx⟩ : ∃ x, x = b / 2 ^ F % 2 ^ 8 := ⟨_, rfl⟩
  obtain ⟨m, hm⟩ : ∃ m, m = b % 2 ^ F := ⟨_, rfl⟩
  obtain ⟨neg, hneg⟩ : ∃ n : Bool, n = decide (b / 2 ^ F / 2 ^ 8 ≠ 0) := ⟨_, rfl⟩
  rw [← hx] at hx2
  rw [← hm] at hm2
  rw [← hx, ← hm] at ht
  rw [← hx, ← hm, ← hneg] at SP ⊢
  obtain ⟨d, hd⟩ : ∃ d, d = (if x = 255 then if m = 0 then DecT.mk 1 neg [] 0 else ⟨2, false, [], 0⟩ else if x = 0 ∧ m = 0 then ⟨0, neg, [], 0⟩ else decA neg (tell x m).1 (tell x m).2) := ⟨_, rfl⟩
  rw [← hd]
  have HD := hide hd
  clear hd
  have SPH := hide SP
  have HTL := hide ht
  have HT := hide htab
  have blk := Blk.newAt (w.alloc (.cells #[.int .i64 (F : Int), .int .i64 8, .int .i64 (-(B : Int))] 65)) (w.heap.size + 1) (by simp) #[.int .i64 0, .bool false, .string ⟨#[]⟩, .int .i64 0] 23
  have blk0 := (Blk.new w #[.int .i64 (F : Int), .int .i64 8, .int .i64 (-(B : Int))] 65).alloc (.cells #[.int .i64 0, .bool false, .string ⟨#[]⟩, .int .i64 0] 23)
  have BLK := hide blk
  have BLK0 := hide blk0
  have HB0 : Hid (Below w.heap.size w ((w.alloc (.cells #[.int .i64 (F : Int), .int .i64 8, .int .i64 (-(B : Int))] 65)).alloc (.cells #[.int .i64 0, .bool false, .string ⟨#[]⟩, .int .i64 0] 23))) := ((Below.refl _ _).alloc (Nat.le_refl _) _).alloc (by simp) _
  clear SP ht htab hx hm hneg blk blk0 hb e8
  go_enter Tryz.func44, Tryz.ntmps44
  go_wp2_with fail
  refine (SPH.out _).mono ?_
  rintro e w1 ⟨rfl, hb1⟩
  have B1 := BLK.out.below hb1 BLK.out.lt
  have B0 := BLK0.out.below hb1 BLK0.out.lt
  have HB1 := hide (HB0.out.trans (hb1.mono (by simp; omega)))
  have q1 : w1.cell? ⟨w.heap.size, 1, none⟩ = some (.int .i64 8) := B0.cell 1
  have k0 : w1.cell? ⟨w.heap.size + 1, 0, none⟩ = some (.int .i64 0) := B1.cell 0
  have k1 : w1.cell? ⟨w.heap.size + 1, 1, none⟩ = some (.bool false) := B1.cell 1
  have k2 : w1.cell? ⟨w.heap.size + 1, 2, none⟩ = some (.string ⟨#[]⟩) := B1.cell 2
  have k3 : w1.cell? ⟨w.heap.size + 1, 3, none⟩ = some (.int .i64 0) := B1.cell 3
  have f0 := B1.free 0
  have f1 := B1.free 1
  have f2 := B1.free 2
  have f3 := B1.free 3
  have BL1 := hide B1
  clear B1 B0 hb1 BLK BLK0 HB0 SPH
  by_cases hx1 : x = 255
  · have hx1' : (x : Int) = 255 := by omega
    by_cases hm0 : m = 0
    · have hm0' : (m : Int) = 0 := by omega
      have IF : Hid (d = ⟨1, neg, [], 0⟩) := HD.out.trans (by rw [if_pos hx1, if_pos hm0])
      clear hx1 hm0 HTL HD
      go_wp2
      refine bodyPost_ret (results_dec rfl _ _ _ _ _ _ _ rfl (BL1.out.put4 _ _ _ _)) rfl ?_
      refine ⟨?_, below_put4 HB1.out (by omega) _ _ _ _⟩
      rw [IF.out]
      rfl
    · have hm0' : ¬ (m : Int) = 0 := by omega
      have IF : Hid (d = ⟨2, false, [], 0⟩) := HD.out.trans (by rw [if_pos hx1, if_neg hm0])
      clear hx1 hm0 HTL HD
      go_wp2
      refine bodyPost_ret (results_dec rfl _ _ _ _ _ _ _ rfl (BL1.out.put4 _ _ _ _)) rfl ?_
      refine ⟨?_, below_put4 HB1.out (by omega) _ _ _ _⟩
      rw [IF.out]
      rfl
  · have hx1' : ¬ (x : Int) = 255 := by omega
    by_cases h0 : x = 0 ∧ m = 0
    · have IF : Hid (d = ⟨0, neg, [], 0⟩) := HD.out.trans (by rw [if_neg hx1, if_pos h0])
      have hx0' : (x : Int) = 0 := by omega
      have hm0' : (m : Int) = 0 := by omega
      clear hx1 h0 HTL HD
      go_wp2
      refine bodyPost_ret (results_dec rfl _ _ _ _ _ _ _ rfl (BL1.out.put4 _ _ _ _)) rfl ?_
      refine ⟨?_, below_put4 HB1.out (by omega) _ _ _ _⟩
      rw [IF.out]
      rfl
    · obtain ⟨tl, hj, he1, he2⟩ := HTL.out hx1 h0
      obtain ⟨N, hN⟩ : ∃ N, N = (tell x m).1 := ⟨_, rfl⟩
      obtain ⟨ex, hex⟩ : ∃ ex, ex = (tell x m).2 := ⟨_, rfl⟩
      have IF : Hid (d = decA neg N ex) := HD.out.trans (by rw [if_neg hx1, if_neg h0, hN, hex])
      rw [← hN] at tl hj
      rw [← hex] at tl he1 he2
      have TL : Hid (∀ w, Tab w → Calls Tryz.prog f #[rv, .int .u64 (x : Int), .int .u64 (m : Int)] w (TxtPost w N ex)) := tl.2
      have hent := tl.1
      have hsz : (Lib.decDigits N).length ≤ 2000 := by
        obtain ⟨j, h1, h2⟩ := hj
        by_cases hj0 : 1 ≤ j
        · exact size_lt h2 hj0 h1
        · rw [show j = 0 by omega, Nat.pow_zero] at h2
          rw [show N = 0 by omega, Lib.decDigits_one (by omega)]; simp
      have TB1 := hide (HT.out.below HB1.out)
      clear hx1 HTL tl hj hN hex HT HD
      by_cases hx0 : x = 0
      · have hx0' : (x : Int) = 0 := by omega
        have hm0' : ¬ (m : Int) = 0 := by omega
        have TLZ : Hid (∀ w, Tab w → Calls Tryz.prog f #[rv, .int .u64 0, .int .u64 (m : Int)] w (TxtPost w N ex)) := by
          have h := TL.out
          rw [hx0] at h
          exact h
        clear h0 hx0
        go_wp2_with fail
        refine (TLZ.out _ TB1.out).mono ?_
        rintro e w2 ⟨rfl, hb2⟩
        obtain ⟨t, htt⟩ : ∃ t : ByteArray, t = ⟨(Lib.decDigits N).toArray⟩ := ⟨_, rfl⟩
        have hts : t.size = (Lib.decDigits N).length := by rw [htt]; simp [ByteArray.size]
        have htl : t.data.toList = Lib.decDigits N := by rw [htt]
        obtain ⟨t2, htt2⟩ : ∃ t : ByteArray, t = ⟨(cut0 (Lib.decDigits N)).toArray⟩ := ⟨_, rfl⟩
        have hts2 : t2.size = (cut0 (Lib.decDigits N)).length := by rw [htt2]; simp [ByteArray.size]
        have TR := Tryz.strings_TrimRight_one t 48 (by decide) w2 (by omega)
        rw [htl] at TR
        have TRH : Hid (Calls Tryz.prog 62 #[.string t, .string ⟨#[48]⟩] w2 fun e w' => e = .returned (.string t2) ∧ w' = w2) := by rw [htt2]; exact TR
        have FIN : Hid (.agg #[.int .i64 0, .bool neg, .string t2, .int .i64 (ex + (t.size : Int) - (t2.size : Int))] = decVal d) := by
          have h : decVal d = decVal (decA neg N ex) := by rw [IF.out]
          rw [hts, hts2, h, htt2]; rfl
        rw [← htt]
        have hs1 : t.size ≤ 2000 := by omega
        have hs2 : t2.size ≤ 2000 := by have := cut0_le (Lib.decDigits N); omega
        have HB2 := hide (HB1.out.trans (hb2.mono HB1.out.size))
        have B2 := BL1.out.below hb2 BL1.out.lt
        clear TR htl hts hts2 htt htt2 hsz IF k0 k1 k2 k3 f0 f1 f2 f3 q1 TL TB1 HB1 hb2 BL1
        have k0 : w2.cell? ⟨w.heap.size + 1, 0, none⟩ = some (.int .i64 0) := B2.cell 0
        have k1 : w2.cell? ⟨w.heap.size + 1, 1, none⟩ = some (.bool false) := B2.cell 1
        have k2 : w2.cell? ⟨w.heap.size + 1, 2, none⟩ = some (.string ⟨#[]⟩) := B2.cell 2
        have k3 : w2.cell? ⟨w.heap.size + 1, 3, none⟩ = some (.int .i64 0) := B2.cell 3
        have f0 := B2.free 0
        have f1 := B2.free 1
        have f2 := B2.free 2
        have f3 := B2.free 3
        have BL2 := hide B2
        clear B2
        go_wp2_with fail
        refine TRH.out.mono ?_
        rintro e w3 ⟨rfl, rfl⟩
        clear TRH
        go_wp2
        refine bodyPost_ret (results_dec rfl _ _ _ _ _ _ _ rfl (BL2.out.put4 _ _ _ _)) rfl ?_
        exact ⟨congrArg Ending.returned FIN.out, below_put4 HB2.out (by omega) _ _ _ _⟩
      · have hx0' : ¬ (x : Int) = 0 := by omega
        clear h0 hx0
        go_wp2_with fail
        refine (TL.out _ TB1.out).mono ?_
        rintro e w2 ⟨rfl, hb2⟩
        obtain ⟨t, htt⟩ : ∃ t : ByteArray, t = ⟨(Lib.decDigits N).toArray⟩ := ⟨_, rfl⟩
        have hts : t.size = (Lib.decDigits N).length := by rw [htt]; simp [ByteArray.size]
        have htl : t.data.toList = Lib.decDigits N := by rw [htt]
        obtain ⟨t2, htt2⟩ : ∃ t : ByteArray, t = ⟨(cut0 (Lib.decDigits N)).toArray⟩ := ⟨_, rfl⟩
        have hts2 : t2.size = (cut0 (Lib.decDigits N)).length := by rw [htt2]; simp [ByteArray.size]
        have TR := Tryz.strings_TrimRight_one t 48 (by decide) w2 (by omega)
        rw [htl] at TR
        have TRH : Hid (Calls Tryz.prog 62 #[.string t, .string ⟨#[48]⟩] w2 fun e w' => e = .returned (.string t2) ∧ w' = w2) := by rw [htt2]; exact TR
        have FIN : Hid (.agg #[.int .i64 0, .bool neg, .string t2, .int .i64 (ex + (t.size : Int) - (t2.size : Int))] = decVal d) := by
          have h : decVal d = decVal (decA neg N ex) := by rw [IF.out]
          rw [hts, hts2, h, htt2]; rfl
        rw [← htt]
        have hs1 : t.size ≤ 2000 := by omega
        have hs2 : t2.size ≤ 2000 := by have := cut0_le (Lib.decDigits N); omega
        have HB2 := hide (HB1.out.trans (hb2.mono HB1.out.size))
        have B2 := BL1.out.below hb2 BL1.out.lt
        clear TR htl hts hts2 htt htt2 hsz IF k0 k1 k2 k3 f0 f1 f2 f3 q1 TL TB1 HB1 hb2 BL1
        have k0 : w2.cell? ⟨w.heap.size + 1, 0, none⟩ = some (.int .i64 0) := B2.cell 0
        have k1 : w2.cell? ⟨w.heap.size + 1, 1, none⟩ = some (.bool false) := B2.cell 1
        have k2 : w2.cell? ⟨w.heap.size + 1, 2, none⟩ = some (.string ⟨#[]⟩) := B2.cell 2
        have k3 : w2.cell? ⟨w.heap.size + 1, 3, none⟩ = some (.int .i64 0) := B2.cell 3
        have f0 := B2.free 0
        have f1 := B2.free 1
        have f2 := B2.free 2
        have f3 := B2.free 3
        have BL2 := hide B2
        clear B2
        go_wp2_with fail
        refine TRH.out.mono ?_
        rintro e w3 ⟨rfl, rfl⟩
        clear TRH
        go_wp2
        refine bodyPost_ret (results_dec rfl _ _ _ _ _ _ _ rfl (BL2.out.put4 _ _ _ _)) rfl ?_
        exact ⟨congrArg Ending.returned FIN.out, below_put4 HB2.out (by omega) _ _ _ _⟩

theorem few_tell {F B x m : Nat} (hF : F ≤ 52) (hm : m < 2 ^ F) (h1 : -1074 ≤ fPow B x) (h2 : fPow B x ≤ 971) (h0 : ¬ (x = 0 ∧ m = 0)) :
    (∃ j, j ≤ 2000 ∧ (fewD F B x m).1 < 10 ^ j) ∧ -5000 ≤ (fewD F B x m).2 ∧ (fewD F B x m).2 ≤ 5000 := by
  have g := nearOf_good (B := B) (x := x) hF hm
  have hn : fNum F x m ≠ 0 := by
    have := Nat.pow_pos (n := F) (show 0 < 2 by omega)
    unfold fNum; split <;> omega
  have ha : (nearOf F B x m).amt ≠ 0 := by
    have := p2N_pos (fPow B x - 2)
    exact Nat.mul_ne_zero (by omega) (by omega)
  obtain ⟨j, hj⟩ : ∃ j : Nat, j = 1081 := ⟨_, rfl⟩
  have hp := p2N_lt (n := fPow B x - 2) (j := j) (by omega) (by omega)
  have hA : (nearOf F B x m).amt < 10 ^ (j + 17) := mul_lt10 hp (fNum_lt17 hF hm)
  have hs : sizeN (nearOf F B x m).amt ≤ 1098 := size_bound hA (by omega) (by omega)
  have hE : -1100 ≤ p2E (fPow B x - 2) ∧ p2E (fPow B x - 2) ≤ 0 := by unfold p2E; split <;> omega
  rcases hf : fewN (nearOf F B x m) (sizeN (nearOf F B x m).amt) with ⟨v, p⟩
  obtain ⟨b1, b2, b3, _⟩ := few_bound g ha hf
  have e : fewD F B x m = (v, p2E (fPow B x - 2) + (p : Nat)) := by unfold fewD; rw [hf]
  rw [e]
  have b4 : v < 10 ^ 18 := by
    have e1 : (10 : Nat) ^ 18 = 1000000000000000000 := by decide
    have e2 : (10 : Nat) ^ 17 = 100000000000000000 := by decide
    omega
  exact ⟨⟨18, by omega, b4⟩, by show -5000 ≤ p2E (fPow B x - 2) + (p : Int); omega, by show p2E (fPow B x - 2) + (p : Int) ≤ 5000; omega⟩

theorem all_tell {F B x m : Nat} (hF : F ≤ 52) (hm : m < 2 ^ F) (h1 : -1074 ≤ fPow B x) (h2 : fPow B x ≤ 971) :
    (∃ j, j ≤ 2000 ∧ (allD F B x m).1 < 10 ^ j) ∧ -5000 ≤ (allD F B x m).2 ∧ (allD F B x m).2 ≤ 5000 := by
  obtain ⟨j, hj⟩ : ∃ j : Nat, j = 1081 := ⟨_, rfl⟩
  have hp := p2N_lt (n := fPow B x) (j := j) (by omega) (by omega)
  have h17 := fNum_lt17 (x := x) hF hm
  have hA : fNum F x m * p2N (fPow B x) < 10 ^ (17 + j) := mul_lt10 (by omega) hp
  have hE : -1100 ≤ p2E (fPow B x) ∧ p2E (fPow B x) ≤ 0 := by unfold p2E; split <;> omega
  exact ⟨⟨17 + j, by omega, hA⟩, by show -5000 ≤ p2E (fPow B x); omega, by show p2E (fPow B x) ≤ 5000; omega⟩

theorem enters_few : ∀ args w, (callFunc 45 args).run Tryz.prog w = .ok (.enter 45 args) w := by intro args w; kernel_rfl
theorem enters_all : ∀ args w, (callFunc 46 args).run Tryz.prog w = .ok (.enter 46 args) w := by intro args w; kernel_rfl


theorem of64_dec (b : Nat) (W : World) (hb : b < 18446744073709551616) (htab : Tab W) : Calls Tryz.prog 44 #[w64, .int .u64 (b : Int), .func (.func 45) #[w64] #[]] W fun e w' => e = .returned (decVal (of64D b)) ∧ Below W.heap.size W w' := by
  refine dec11 52 1074 b 45 w64 (fewD 52 1074) W (by omega) (by omega) htab ?_
  intro hx h0
  have hm : b % 2 ^ 52 < 2 ^ 52 := Nat.mod_lt _ (by omega)
  have hx2 : b / 2 ^ 52 % 2 ^ 11 < 2048 := Nat.mod_lt _ (by omega)
  have h1 : -1074 ≤ fPow 1074 (b / 2 ^ 52 % 2 ^ 11) := by unfold fPow; split <;> omega
  have h2 : fPow 1074 (b / 2 ^ 52 % 2 ^ 11) ≤ 971 := by unfold fPow; split <;> omega
  exact ⟨⟨enters_few, fun w ht => fewest_any 52 11 1074 _ _ w (by omega) (by omega) (by omega) hm h1 h2 h0 ht⟩, few_tell (by omega) hm h1 h2 h0⟩

set_option maxHeartbeats 1000000 in
theorem of64_any (b : Nat) (w : World) (hb : b < 18446744073709551616) (htab : Tab w) : Calls Tryz.prog 21 #[.int .u64 (b : Int)] w fun e w' => e = .returned (decVal (of64D b)) ∧ Below w.heap.size w w' := by
  have hmf : ∀ (fn : Fn) (first cap : Array Value) (w : World), (Instr.makeFunc fn first cap).run Tryz.prog w = .ok (.func fn first cap) w := fun _ _ _ _ => rfl
  have DC := hide (fun W => of64_dec b W hb)
  have HT := hide htab
  have HB0 : Hid (Below w.heap.size w (w.alloc (.cells #[.int .i64 0, .bool false, .string ⟨#[]⟩, .int .i64 0] 23))) := (Below.refl _ _).alloc (Nat.le_refl _) _
  have BLK := hide (Blk.new w #[.int .i64 0, .bool false, .string ⟨#[]⟩, .int .i64 0] 23)
  obtain ⟨d, hd⟩ : ∃ d, d = of64D b := ⟨_, rfl⟩
  rw [← hd] at DC ⊢
  clear htab hd
  go_enter Tryz.func21, Tryz.ntmps21
  go_wp2_with fail
  refine (binary64_any _).mono ?_
  rintro e w1 ⟨rfl, hb1⟩
  have HB1 := hide (HB0.out.trans (hb1.mono (by simp)))
  have BLK1 := hide (BLK.out.below hb1 BLK.out.lt)
  have HB1' : Hid (Below w1.heap.size w1 (w1.alloc (.cells #[.int .i64 52, .int .i64 11, .int .i64 (-1074)] 65))) := (Below.refl _ _).alloc (Nat.le_refl _) _
  clear hb1 HB0 BLK
  go_wp2_with fail
  refine (DC.out _ (HT.out.below (HB1.out.trans (HB1'.out.mono HB1.out.size)))).mono ?_
  rintro e w2 ⟨rfl, hb2⟩
  have hb12 := HB1'.out.trans (hb2.mono (by simp))
  have HB2 := hide (HB1.out.trans (hb12.mono HB1.out.size))
  have B2 := BLK1.out.below hb12 BLK1.out.lt
  have k0 : w2.cell? ⟨w.heap.size, 0, none⟩ = some (.int .i64 0) := B2.cell 0
  have k1 : w2.cell? ⟨w.heap.size, 1, none⟩ = some (.bool false) := B2.cell 1
  have k2 : w2.cell? ⟨w.heap.size, 2, none⟩ = some (.string ⟨#[]⟩) := B2.cell 2
  have k3 : w2.cell? ⟨w.heap.size, 3, none⟩ = some (.int .i64 0) := B2.cell 3
  have f0 := B2.free 0
  have f1 := B2.free 1
  have f2 := B2.free 2
  have f3 := B2.free 3
  have BL2 := hide B2
  have FIN : Hid (decVal d = .agg #[.int .i64 (d.cls : Int), .bool d.neg, .string ⟨d.dig.toArray⟩, .int .i64 d.exp]) := rfl
  rw [FIN.out]
  clear B2 hb2 hb12 HB1 HB1' BLK1 DC
  go_wp2
  refine bodyPost_ret (results_dec rfl _ _ _ _ _ _ _ rfl (BL2.out.put4 _ _ _ _)) rfl ?_
  exact ⟨rfl, below_put4 HB2.out (by omega) _ _ _ _⟩

theorem of32_dec (b : Nat) (W : World) (hb : b < 4294967296) (htab : Tab W) : Calls Tryz.prog 44 #[w32, .int .u64 (b : Int), .func (.func 45) #[w32] #[]] W fun e w' => e = .returned (decVal (of32D b)) ∧ Below W.heap.size W w' := by
  refine dec8 23 149 b 45 w32 (fewD 23 149) W (by omega) (by omega) htab ?_
  intro hx h0
  have hm : b % 2 ^ 23 < 2 ^ 23 := Nat.mod_lt _ (by omega)
  have hx2 : b / 2 ^ 23 % 2 ^ 8 < 256 := Nat.mod_lt _ (by omega)
  have h1 : -1074 ≤ fPow 149 (b / 2 ^ 23 % 2 ^ 8) := by unfold fPow; split <;> omega
  have h2 : fPow 149 (b / 2 ^ 23 % 2 ^ 8) ≤ 971 := by unfold fPow; split <;> omega
  exact ⟨⟨enters_few, fun w ht => fewest_any 23 8 149 _ _ w (by omega) (by omega) (by omega) hm h1 h2 h0 ht⟩, few_tell (by omega) hm h1 h2 h0⟩

set_option maxHeartbeats 1000000 in
theorem of32_any (b : Nat) (w : World) (hb : b < 4294967296) (htab : Tab w) : Calls Tryz.prog 23 #[.int .u32 (b : Int)] w fun e w' => e = .returned (decVal (of32D b)) ∧ Below w.heap.size w w' := by
  have hmf : ∀ (fn : Fn) (first cap : Array Value) (w : World), (Instr.makeFunc fn first cap).run Tryz.prog w = .ok (.func fn first cap) w := fun _ _ _ _ => rfl
  have DC := hide (fun W => of32_dec b W hb)
  have HT := hide htab
  have HB0 : Hid (Below w.heap.size w (w.alloc (.cells #[.int .i64 0, .bool false, .string ⟨#[]⟩, .int .i64 0] 23))) := (Below.refl _ _).alloc (Nat.le_refl _) _
  have BLK := hide (Blk.new w #[.int .i64 0, .bool false, .string ⟨#[]⟩, .int .i64 0] 23)
  obtain ⟨d, hd⟩ : ∃ d, d = of32D b := ⟨_, rfl⟩
  rw [← hd] at DC ⊢
  clear htab hd
  go_enter Tryz.func23, Tryz.ntmps23
  go_wp2_with fail
  refine (binary32_any _).mono ?_
  rintro e w1 ⟨rfl, hb1⟩
  have HB1 := hide (HB0.out.trans (hb1.mono (by simp)))
  have BLK1 := hide (BLK.out.below hb1 BLK.out.lt)
  have HB1' : Hid (Below w1.heap.size w1 (w1.alloc (.cells #[.int .i64 23, .int .i64 8, .int .i64 (-149)] 65))) := (Below.refl _ _).alloc (Nat.le_refl _) _
  clear hb1 HB0 BLK
  go_wp2_with fail
  refine (DC.out _ (HT.out.below (HB1.out.trans (HB1'.out.mono HB1.out.size)))).mono ?_
  rintro e w2 ⟨rfl, hb2⟩
  have hb12 := HB1'.out.trans (hb2.mono (by simp))
  have HB2 := hide (HB1.out.trans (hb12.mono HB1.out.size))
  have B2 := BLK1.out.below hb12 BLK1.out.lt
  have k0 : w2.cell? ⟨w.heap.size, 0, none⟩ = some (.int .i64 0) := B2.cell 0
  have k1 : w2.cell? ⟨w.heap.size, 1, none⟩ = some (.bool false) := B2.cell 1
  have k2 : w2.cell? ⟨w.heap.size, 2, none⟩ = some (.string ⟨#[]⟩) := B2.cell 2
  have k3 : w2.cell? ⟨w.heap.size, 3, none⟩ = some (.int .i64 0) := B2.cell 3
  have f0 := B2.free 0
  have f1 := B2.free 1
  have f2 := B2.free 2
  have f3 := B2.free 3
  have BL2 := hide B2
  have FIN : Hid (decVal d = .agg #[.int .i64 (d.cls : Int), .bool d.neg, .string ⟨d.dig.toArray⟩, .int .i64 d.exp]) := rfl
  rw [FIN.out]
  clear B2 hb2 hb12 HB1 HB1' BLK1 DC
  go_wp2
  refine bodyPost_ret (results_dec rfl _ _ _ _ _ _ _ rfl (BL2.out.put4 _ _ _ _)) rfl ?_
  exact ⟨rfl, below_put4 HB2.out (by omega) _ _ _ _⟩

theorem exact64_dec (b : Nat) (W : World) (hb : b < 18446744073709551616) (htab : Tab W) : Calls Tryz.prog 44 #[w64, .int .u64 (b : Int), .func (.func 46) #[w64] #[]] W fun e w' => e = .returned (decVal (ex64D b)) ∧ Below W.heap.size W w' := by
  refine dec11 52 1074 b 46 w64 (allD 52 1074) W (by omega) (by omega) htab ?_
  intro hx _
  have hm : b % 2 ^ 52 < 2 ^ 52 := Nat.mod_lt _ (by omega)
  have hx2 : b / 2 ^ 52 % 2 ^ 11 < 2048 := Nat.mod_lt _ (by omega)
  have h1 : -1074 ≤ fPow 1074 (b / 2 ^ 52 % 2 ^ 11) := by unfold fPow; split <;> omega
  have h2 : fPow 1074 (b / 2 ^ 52 % 2 ^ 11) ≤ 971 := by unfold fPow; split <;> omega
  exact ⟨⟨enters_all, fun w ht => all_any 52 11 1074 _ _ w (by omega) (by omega) (by omega) hm h1 h2 ht⟩, all_tell (by omega) hm h1 h2⟩

set_option maxHeartbeats 1000000 in
theorem exact64_any (b : Nat) (w : World) (hb : b < 18446744073709551616) (htab : Tab w) : Calls Tryz.prog 22 #[.int .u64 (b : Int)] w fun e w' => e = .returned (decVal (ex64D b)) ∧ Below w.heap.size w w' := by
  have hmf : ∀ (fn : Fn) (first cap : Array Value) (w : World), (Instr.makeFunc fn first cap).run Tryz.prog w = .ok (.func fn first cap) w := fun _ _ _ _ => rfl
  have DC := hide (fun W => exact64_dec b W hb)
  have HT := hide htab
  have HB0 : Hid (Below w.heap.size w (w.alloc (.cells #[.int .i64 0, .bool false, .string ⟨#[]⟩, .int .i64 0] 23))) := (Below.refl _ _).alloc (Nat.le_refl _) _
  have BLK := hide (Blk.new w #[.int .i64 0, .bool false, .string ⟨#[]⟩, .int .i64 0] 23)
  obtain ⟨d, hd⟩ : ∃ d, d = ex64D b := ⟨_, rfl⟩
  rw [← hd] at DC ⊢
  clear htab hd
  go_enter Tryz.func22, Tryz.ntmps22
  go_wp2_with fail
  refine (binary64_any _).mono ?_
  rintro e w1 ⟨rfl, hb1⟩
  have HB1 := hide (HB0.out.trans (hb1.mono (by simp)))
  have BLK1 := hide (BLK.out.below hb1 BLK.out.lt)
  have HB1' : Hid (Below w1.heap.size w1 (w1.alloc (.cells #[.int .i64 52, .int .i64 11, .int .i64 (-1074)] 65))) := (Below.refl _ _).alloc (Nat.le_refl _) _
  clear hb1 HB0 BLK
  go_wp2_with fail
  refine (DC.out _ (HT.out.below (HB1.out.trans (HB1'.out.mono HB1.out.size)))).mono ?_
  rintro e w2 ⟨rfl, hb2⟩
  have hb12 := HB1'.out.trans (hb2.mono (by simp))
  have HB2 := hide (HB1.out.trans (hb12.mono HB1.out.size))
  have B2 := BLK1.out.below hb12 BLK1.out.lt
  have k0 : w2.cell? ⟨w.heap.size, 0, none⟩ = some (.int .i64 0) := B2.cell 0
  have k1 : w2.cell? ⟨w.heap.size, 1, none⟩ = some (.bool false) := B2.cell 1
  have k2 : w2.cell? ⟨w.heap.size, 2, none⟩ = some (.string ⟨#[]⟩) := B2.cell 2
  have k3 : w2.cell? ⟨w.heap.size, 3, none⟩ = some (.int .i64 0) := B2.cell 3
  have f0 := B2.free 0
  have f1 := B2.free 1
  have f2 := B2.free 2
  have f3 := B2.free 3
  have BL2 := hide B2
  have FIN : Hid (decVal d = .agg #[.int .i64 (d.cls : Int), .bool d.neg, .string ⟨d.dig.toArray⟩, .int .i64 d.exp]) := rfl
  rw [FIN.out]
  clear B2 hb2 hb12 HB1 HB1' BLK1 DC
  go_wp2
  refine bodyPost_ret (results_dec rfl _ _ _ _ _ _ _ rfl (BL2.out.put4 _ _ _ _)) rfl ?_
  exact ⟨rfl, below_put4 HB2.out (by omega) _ _ _ _⟩

theorem exact32_dec (b : Nat) (W : World) (hb : b < 4294967296) (htab : Tab W) : Calls Tryz.prog 44 #[w32, .int .u64 (b : Int), .func (.func 46) #[w32] #[]] W fun e w' => e = .returned (decVal (ex32D b)) ∧ Below W.heap.size W w' := by
  refine dec8 23 149 b 46 w32 (allD 23 149) W (by omega) (by omega) htab ?_
  intro hx _
  have hm : b % 2 ^ 23 < 2 ^ 23 := Nat.mod_lt _ (by omega)
  have hx2 : b / 2 ^ 23 % 2 ^ 8 < 256 := Nat.mod_lt _ (by omega)
  have h1 : -1074 ≤ fPow 149 (b / 2 ^ 23 % 2 ^ 8) := by unfold fPow; split <;> omega
  have h2 : fPow 149 (b / 2 ^ 23 % 2 ^ 8) ≤ 971 := by unfold fPow; split <;> omega
  exact ⟨⟨enters_all, fun w ht => all_any 23 8 149 _ _ w (by omega) (by omega) (by omega) hm h1 h2 ht⟩, all_tell (by omega) hm h1 h2⟩

set_option maxHeartbeats 1000000 in
theorem exact32_any (b : Nat) (w : World) (hb : b < 4294967296) (htab : Tab w) : Calls Tryz.prog 24 #[.int .u32 (b : Int)] w fun e w' => e = .returned (decVal (ex32D b)) ∧ Below w.heap.size w w' := by
  have hmf : ∀ (fn : Fn) (first cap : Array Value) (w : World), (Instr.makeFunc fn first cap).run Tryz.prog w = .ok (.func fn first cap) w := fun _ _ _ _ => rfl
  have DC := hide (fun W => exact32_dec b W hb)
  have HT := hide htab
  have HB0 : Hid (Below w.heap.size w (w.alloc (.cells #[.int .i64 0, .bool false, .string ⟨#[]⟩, .int .i64 0] 23))) := (Below.refl _ _).alloc (Nat.le_refl _) _
  have BLK := hide (Blk.new w #[.int .i64 0, .bool false, .string ⟨#[]⟩, .int .i64 0] 23)
  obtain ⟨d, hd⟩ : ∃ d, d = ex32D b := ⟨_, rfl⟩
  rw [← hd] at DC ⊢
  clear htab hd
  go_enter Tryz.func24, Tryz.ntmps24
  go_wp2_with fail
  refine (binary32_any _).mono ?_
  rintro e w1 ⟨rfl, hb1⟩
  have HB1 := hide (HB0.out.trans (hb1.mono (by simp)))
  have BLK1 := hide (BLK.out.below hb1 BLK.out.lt)
  have HB1' : Hid (Below w1.heap.size w1 (w1.alloc (.cells #[.int .i64 23, .int .i64 8, .int .i64 (-149)] 65))) := (Below.refl _ _).alloc (Nat.le_refl _) _
  clear hb1 HB0 BLK
  go_wp2_with fail
  refine (DC.out _ (HT.out.below (HB1.out.trans (HB1'.out.mono HB1.out.size)))).mono ?_
  rintro e w2 ⟨rfl, hb2⟩
  have hb12 := HB1'.out.trans (hb2.mono (by simp))
  have HB2 := hide (HB1.out.trans (hb12.mono HB1.out.size))
  have B2 := BLK1.out.below hb12 BLK1.out.lt
  have k0 : w2.cell? ⟨w.heap.size, 0, none⟩ = some (.int .i64 0) := B2.cell 0
  have k1 : w2.cell? ⟨w.heap.size, 1, none⟩ = some (.bool false) := B2.cell 1
  have k2 : w2.cell? ⟨w.heap.size, 2, none⟩ = some (.string ⟨#[]⟩) := B2.cell 2
  have k3 : w2.cell? ⟨w.heap.size, 3, none⟩ = some (.int .i64 0) := B2.cell 3
  have f0 := B2.free 0
  have f1 := B2.free 1
  have f2 := B2.free 2
  have f3 := B2.free 3
  have BL2 := hide B2
  have FIN : Hid (decVal d = .agg #[.int .i64 (d.cls : Int), .bool d.neg, .string ⟨d.dig.toArray⟩, .int .i64 d.exp]) := rfl
  rw [FIN.out]
  clear B2 hb2 hb12 HB1 HB1' BLK1 DC
  go_wp2
  refine bodyPost_ret (results_dec rfl _ _ _ _ _ _ _ rfl (BL2.out.put4 _ _ _ _)) rfl ?_
  exact ⟨rfl, below_put4 HB2.out (by omega) _ _ _ _⟩

end Go.Proofs.YtlhekeifffofjaaGreatDoor

namespace Go.Proofs.YtlhekeifffofjaaGreatDoor
open Go.RowKit

/-- May a Dec be? -/
def May (d : DecT) : Prop := MayD (d.cls : Int) d.neg d.dig d.exp

theorem may_formed {d : DecT} {most : Nat} (h : Formed d most) (hm : most ≤ 1000) : May d := by
  unfold May MayD
  rw [h.cls]
  refine .inl ⟨rfl, ?_⟩
  by_cases h0 : d.dig = []
  · exact .inl ⟨h0, h.nil h0⟩
  · obtain ⟨c1, c2, c3, c4⟩ := h.cons h0
    have hl := h.len
    have hp := List.length_pos_iff.2 h0
    exact .inr ⟨h0, by omega, by omega, by omega, c1, c2, h.dig⟩

theorem may_dec {F X : Nat} {tell : Nat → Nat → Nat × Int} {b most : Nat} (hm : most ≤ 1000)
    (hf : ∀ neg, ¬ (b / 2 ^ F % 2 ^ X = 0 ∧ b % 2 ^ F = 0) → b / 2 ^ F % 2 ^ X ≠ 2 ^ X - 1 → Formed (decA neg (tell (b / 2 ^ F % 2 ^ X) (b % 2 ^ F)).1 (tell (b / 2 ^ F % 2 ^ X) (b % 2 ^ F)).2) most) : May (decOf F X tell b) := by
  unfold decOf
  split
  · split
    · exact .inr (.inl ⟨rfl, rfl, rfl⟩)
    · exact .inr (.inr ⟨rfl, rfl, rfl, rfl⟩)
  · next h1 =>
    split
    · exact .inl ⟨rfl, .inl ⟨rfl, rfl⟩⟩
    · next h2 => exact may_formed (hf _ h2 h1) hm

theorem fp64 {b : Nat} (h : b / 2 ^ 52 % 2 ^ 11 ≠ 2 ^ 11 - 1) : -1074 ≤ fPow 1074 (b / 2 ^ 52 % 2 ^ 11) ∧ fPow 1074 (b / 2 ^ 52 % 2 ^ 11) ≤ 971 := by
  have e : (2 : Nat) ^ 11 = 2048 := by decide
  rw [e] at *
  have := Nat.mod_lt (b / 2 ^ 52) (show 0 < 2048 by omega)
  generalize b / 2 ^ 52 % 2048 = x at *
  unfold fPow; split <;> omega

theorem fp32 {b : Nat} (_h : b / 2 ^ 23 % 2 ^ 8 ≠ 2 ^ 8 - 1) : -1074 ≤ fPow 149 (b / 2 ^ 23 % 2 ^ 8) ∧ fPow 149 (b / 2 ^ 23 % 2 ^ 8) ≤ 971 := by
  have e : (2 : Nat) ^ 8 = 256 := by decide
  rw [e] at *
  have := Nat.mod_lt (b / 2 ^ 23) (show 0 < 256 by omega)
  generalize b / 2 ^ 23 % 256 = x at *
  unfold fPow; split <;> omega

theorem may_of64 (b : Nat) : May (of64D b) := may_dec (most := 17) (by omega) fun neg h0 h1 => (fewD_formed neg (by omega) (Nat.mod_lt _ (Nat.pow_pos (by omega))) h0 (fp64 h1).1 (fp64 h1).2).1
theorem may_ex64 (b : Nat) : May (ex64D b) := may_dec (most := 767) (by omega) fun neg h0 h1 => (allD_formed neg (by omega) (Nat.mod_lt _ (Nat.pow_pos (by omega))) h0 (fp64 h1).1 (fp64 h1).2).1
theorem may_of32 (b : Nat) : May (of32D b) := may_dec (most := 17) (by omega) fun neg h0 h1 => (fewD_formed neg (by omega) (Nat.mod_lt _ (Nat.pow_pos (by omega))) h0 (fp32 h1).1 (fp32 h1).2).1
theorem may_ex32 (b : Nat) : May (ex32D b) := may_dec (most := 767) (by omega) fun neg h0 h1 => (allD_formed neg (by omega) (Nat.mod_lt _ (Nat.pow_pos (by omega))) h0 (fp32 h1).1 (fp32 h1).2).1

theorem to64_dec (d : DecT) (w : World) (h : May d) : Calls Tryz.prog 10 #[decVal d] w fun e w' => e = .returned (.tuple #[.int .u64 ((toD 52 11 1074 d : Nat) : Int), .int .i64 0]) ∧ Below w.heap.size w w' := by
  have hb : bys ⟨d.dig.toArray⟩ = d.dig := by simp [bys]
  have g := to64_yes (d.cls : Int) d.neg ⟨d.dig.toArray⟩ d.exp w (by rw [hb]; exact h)
  rw [hb, Int.toNat_natCast] at g
  exact g

theorem to32_dec (d : DecT) (w : World) (h : May d) : Calls Tryz.prog 15 #[decVal d] w fun e w' => e = .returned (.tuple #[.int .u32 ((toD 23 8 149 d : Nat) : Int), .int .i64 0]) ∧ Below w.heap.size w w' := by
  have hb : bys ⟨d.dig.toArray⟩ = d.dig := by simp [bys]
  have g := to32_yes (d.cls : Int) d.neg ⟨d.dig.toArray⟩ d.exp w (by rw [hb]; exact h)
  rw [hb, Int.toNat_natCast] at g
  exact g

set_option maxHeartbeats 1000000 in
theorem narrow_call (b : Nat) (w : World) (hb : b < 18446744073709551616) (htab : Tab w) : Calls Tryz.prog 17 #[.int .u64 (b : Int)] w fun e w' => e = .returned (.int .u32 ((toD 23 8 149 (ex64D b) : Nat) : Int)) ∧ Below w.heap.size w w' := by
  have E := hide (exact64_any b w hb htab)
  have T := hide (fun W => to32_dec (ex64D b) W (may_ex64 b))
  obtain ⟨r, hr⟩ : ∃ r, r = toD 23 8 149 (ex64D b) := ⟨_, rfl⟩
  rw [← hr] at T ⊢
  clear hr htab
  go_enter Tryz.func17, Tryz.ntmps17
  go_wp2_with fail
  refine E.out.mono ?_
  rintro e w1 ⟨rfl, hb1⟩
  have HB1 := hide hb1
  clear hb1 E
  go_wp2_with fail
  refine (T.out _).mono ?_
  rintro e w2 ⟨rfl, hb2⟩
  have HB2 := hide (HB1.out.trans (hb2.mono HB1.out.size))
  clear hb2 HB1 T
  go_wp2
  go_ret
  exact ⟨rfl, HB2.out⟩

set_option maxHeartbeats 1000000 in
theorem widen_call (b : Nat) (w : World) (hb : b < 4294967296) (htab : Tab w) : Calls Tryz.prog 19 #[.int .u32 (b : Int)] w fun e w' => e = .returned (.int .u64 ((toD 52 11 1074 (ex32D b) : Nat) : Int)) ∧ Below w.heap.size w w' := by
  have E := hide (exact32_any b w hb htab)
  have T := hide (fun W => to64_dec (ex32D b) W (may_ex32 b))
  obtain ⟨r, hr⟩ : ∃ r, r = toD 52 11 1074 (ex32D b) := ⟨_, rfl⟩
  rw [← hr] at T ⊢
  clear hr htab
  go_enter Tryz.func19, Tryz.ntmps19
  go_wp2_with fail
  refine E.out.mono ?_
  rintro e w1 ⟨rfl, hb1⟩
  have HB1 := hide hb1
  clear hb1 E
  go_wp2_with fail
  refine (T.out _).mono ?_
  rintro e w2 ⟨rfl, hb2⟩
  have HB2 := hide (HB1.out.trans (hb2.mono HB1.out.size))
  clear hb2 HB1 T
  go_wp2
  go_ret
  exact ⟨rfl, HB2.out⟩

theorem one64 : ex64D 0x3ff0000000000000 = ⟨0, false, [49], 0⟩ := by
  have h : ex64D 0x3ff0000000000000 = decA false (allD 52 1074 1023 0).1 (allD 52 1074 1023 0).2 := by unfold ex64D decOf; rw [if_neg (by decide), if_neg (by decide)]; rfl
  have h2 : (allD 52 1074 1023 0).1 = 1 * 10 ^ 52 := by decide +kernel
  have h3 : (allD 52 1074 1023 0).2 = -52 := by decide +kernel
  rw [h, h2, h3, decA_tens (by decide), decA_digit (by decide) (by decide)]
  rfl

theorem one32 : ex32D 0x3f800000 = ⟨0, false, [49], 0⟩ := by
  have h : ex32D 0x3f800000 = decA false (allD 23 149 127 0).1 (allD 23 149 127 0).2 := by unfold ex32D decOf; rw [if_neg (by decide), if_neg (by decide)]; rfl
  have h2 : (allD 23 149 127 0).1 = 1 * 10 ^ 23 := by decide +kernel
  have h3 : (allD 23 149 127 0).2 = -23 := by decide +kernel
  rw [h, h2, h3, decA_tens (by decide), decA_digit (by decide) (by decide)]
  rfl

theorem nw1 (w : World) : Calls Tryz.prog 10 #[.agg #[.int .i64 0, .bool false, .string ⟨#[49]⟩, .int .i64 (-1)]] w fun e w' => e = .returned (.tuple #[.int .u64 4591870180066957722, .int .i64 0]) ∧ Below w.heap.size w w' := by
  have h := to64_dec (of64D 0x3fb999999999999a) w (may_of64 _)
  rw [back64_of _ (by omega), show same64 0x3fb999999999999a = 4591870180066957722 by decide, awk1] at h
  exact h

theorem nw2 (w : World) : Calls Tryz.prog 15 #[.agg #[.int .i64 0, .bool false, .string ⟨#[49]⟩, .int .i64 (-1)]] w fun e w' => e = .returned (.tuple #[.int .u32 1036831949, .int .i64 0]) ∧ Below w.heap.size w w' := by
  have h := to32_dec (of32D 0x3dcccccd) w (may_of32 _)
  rw [back32_of _ (by omega), show same32 0x3dcccccd = 1036831949 by decide, awk3] at h
  exact h

theorem nw3 (w : World) : Calls Tryz.prog 10 #[.agg #[.int .i64 0, .bool false, .string ⟨#[48, 49]⟩, .int .i64 0]] w fun e w' => e = .returned (.tuple #[.int .u64 0, .int .i64 40]) ∧ Below w.heap.size w w' :=
  to64_no 0 false ⟨#[48, 49]⟩ 0 w (by
    rw [mayD_0]
    rintro (⟨h, _⟩ | ⟨_, _, _, _, h, _⟩)
    · exact absurd h (by decide)
    · exact h rfl)

theorem nw4 (w : World) : Calls Tryz.prog 15 #[.agg #[.int .i64 2, .bool true, .string ⟨#[]⟩, .int .i64 0]] w fun e w' => e = .returned (.tuple #[.int .u32 0, .int .i64 40]) ∧ Below w.heap.size w w' :=
  to32_no 2 true ⟨#[]⟩ 0 w (by
    rintro (⟨h, _⟩ | ⟨h, _⟩ | ⟨_, h, _⟩)
    · omega
    · omega
    · cases h)

theorem one_val64 : toD 52 11 1074 ⟨0, false, [49], 0⟩ = 4607182418800017408 := by
  have h := back64_ex 0x3ff0000000000000 (by omega)
  rw [one64] at h
  rw [h]; decide
theorem one_val32 : toD 23 8 149 ⟨0, false, [49], 0⟩ = 1065353216 := by
  have h := back32_ex 0x3f800000 (by omega)
  rw [one32] at h
  rw [h]; decide

theorem nw5 (w : World) (htab : Tab w) : Calls Tryz.prog 17 #[.int .u64 4607182418800017408] w fun e w' => e = .returned (.int .u32 1065353216) ∧ Below w.heap.size w w' := by
  have h := narrow_call 4607182418800017408 w (by omega) htab
  rw [show ex64D 4607182418800017408 = _ from one64, one_val32] at h
  exact h

theorem nw6 (w : World) (htab : Tab w) : Calls Tryz.prog 19 #[.int .u32 1065353216] w fun e w' => e = .returned (.int .u64 4607182418800017408) ∧ Below w.heap.size w w' := by
  have h := widen_call 1065353216 w (by omega) htab
  rw [show ex32D 1065353216 = _ from one32, one_val64] at h
  exact h

set_option maxRecDepth 100000 in
set_option maxHeartbeats 2000000 in
theorem nawake_any (w : World) (htab : Tab w) : Calls Tryz.prog 11 #[] w fun e w' => e = .returned (.bool true) ∧ Below w.heap.size w w' := by
  have HT := hide htab
  clear htab
  go_enter Tryz.func11, Tryz.ntmps11
  go_wp2_with fail
  refine (nw1 _).mono ?_
  rintro e w1 ⟨rfl, hb⟩
  have HB1 := hide hb
  clear hb
  go_wp2_with fail
  refine (nw2 _).mono ?_
  rintro e w2 ⟨rfl, hb⟩
  have HB2 := hide (HB1.out.trans (hb.mono HB1.out.size))
  clear hb HB1
  go_wp2_with fail
  refine (nw3 _).mono ?_
  rintro e w3 ⟨rfl, hb⟩
  have HB3 := hide (HB2.out.trans (hb.mono HB2.out.size))
  clear hb HB2
  go_wp2_with fail
  refine (nw4 _).mono ?_
  rintro e w4 ⟨rfl, hb⟩
  have HB4 := hide (HB3.out.trans (hb.mono HB3.out.size))
  clear hb HB3
  go_wp2_with fail
  refine (nw5 _ (HT.out.below HB4.out)).mono ?_
  rintro e w5 ⟨rfl, hb⟩
  have HB5 := hide (HB4.out.trans (hb.mono HB4.out.size))
  clear hb HB4
  go_wp2_with fail
  refine (nw6 _ (HT.out.below HB5.out)).mono ?_
  rintro e w6 ⟨rfl, hb⟩
  have HB6 := hide (HB5.out.trans (hb.mono HB5.out.size))
  clear hb HB5
  go_wp2
  go_ret
  exact ⟨rfl, HB6.out⟩

end Go.Proofs.YtlhekeifffofjaaGreatDoor

namespace Go.Proofs.YtlhekeifffofjaaGreatDoor
open Go.RowKit

theorem tg : Tryz.prog.globalNamed "internal/strconv.uint64pow10" = some 2 := by kernel_rfl
theorem tgt : (Tryz.prog.globals[2]?).map (·.type) = some 177 := by kernel_rfl
theorem tc20 : Tryz.prog.cellsOf 177 = 20 := by kernel_rfl
theorem tc1 : Tryz.prog.cellsOf 24 = 1 := by kernel_rfl

theorem table {W : World} (h : laidMetH Tryz.prog [("math/bits.deBruijn32tab", Rows.laid_math_bits_deBruijn32tab), ("math/bits.deBruijn64tab", Rows.laid_math_bits_deBruijn64tab), ("internal/strconv.uint64pow10", Rows.laid_internal_strconv_uint64pow10), ("unicode/utf8.acceptRanges", Rows.laid_unicode_utf8_acceptRanges), ("unicode/utf8.first", Rows.laid_unicode_utf8_first)] W) : Tab W := by
  have h' : laidMet Tryz.prog [("math/bits.deBruijn32tab", Rows.laid_math_bits_deBruijn32tab), ("math/bits.deBruijn64tab", Rows.laid_math_bits_deBruijn64tab), ("internal/strconv.uint64pow10", Rows.laid_internal_strconv_uint64pow10), ("unicode/utf8.acceptRanges", Rows.laid_unicode_utf8_acceptRanges), ("unicode/utf8.first", Rows.laid_unicode_utf8_first)] W := h
  obtain ⟨ps, ⟨_, _, _, _, _, q1, _, _, _, _, ⟨_, _, _, _, _, q2, _, _, _, _, ⟨g', t', cs, fuel, p3, q3, hg', ht', hvar, hd, _, _⟩, _⟩, _⟩, _⟩ := h'
  obtain rfl := Option.some.inj (tg.symm.trans hg')
  obtain rfl := Option.some.inj (tgt.symm.trans ht')
  unfold Tab Lib.TabIs
  have hd' : DataW.trod (fun _ => ()) Tryz.prog W 0 (fun _ => true) false fuel 177 cs.toList = some (Lib.tabData .u64 Lib.pow10Tab, p3) := hd
  rw [hvar, ← Lib.cells_of_tab Tryz.underlying177 Tryz.underlying24 tc1 tc20 hd']

theorem nat_of_u64 {z : Int} (h : (Lit.int .u64 z).wf = true) : ∃ n : Nat, n < 18446744073709551616 ∧ z = (n : Int) := by
  have h2 : IntKind.u64.min ≤ z ∧ z ≤ IntKind.u64.max := by simpa [Lit.wf] using h
  rw [show IntKind.u64.min = 0 by decide, show IntKind.u64.max = 18446744073709551615 by decide] at h2
  exact ⟨z.toNat, by omega, by omega⟩
theorem nat_of_u32 {z : Int} (h : (Lit.int .u32 z).wf = true) : ∃ n : Nat, n < 4294967296 ∧ z = (n : Int) := by
  have h2 : IntKind.u32.min ≤ z ∧ z ≤ IntKind.u32.max := by simpa [Lit.wf] using h
  rw [show IntKind.u32.min = 0 by decide, show IntKind.u32.max = 4294967295 by decide] at h2
  exact ⟨z.toNat, by omega, by omega⟩

/-- The values of a table's reading, whose places hold one number or a few. -/
def tabVals : DataW Unit → Array Value
  | .agg l => (l.flatMap fun
      | .lit (.int k z) => [Value.int k z]
      | .agg l2 => l2.map fun
        | .lit (.int k z) => Value.int k z
        | _ => .int .u8 0
      | _ => []).toArray
  | _ => #[]

/-- A block that holds other values, of the same type. -/
def putVals (d : DataW Unit) : Obj → Obj
  | .cells _ t frozen => .cells (tabVals d) t frozen
  | o => o

/-- The settled world, the five tables holding what their initialisers lay. -/
noncomputable def laidWorld (os : Os) : World :=
  { World.holding Tryz.prog os ⟨#[], #[], []⟩ with
    heap := (((((World.holding Tryz.prog os ⟨#[], #[], []⟩).heap.modify 6 (putVals Rows.laid_math_bits_deBruijn32tab)).modify 7 (putVals Rows.laid_math_bits_deBruijn64tab)).modify 2 (putVals Rows.laid_internal_strconv_uint64pow10)).modify 4 (putVals Rows.laid_unicode_utf8_acceptRanges)).modify 3 (putVals Rows.laid_unicode_utf8_first) }

end Go.Proofs.YtlhekeifffofjaaGreatDoor
