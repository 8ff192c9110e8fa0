/-
  What width.Show does with a precision of kind 4, out of what it calls.
  What width's kinds round to, and how many fraction digits they show at least, out of what they call.
  What width.Show answers, whatever it is handed.
-/
import Derived.Test.YtobloamnaemfnaaGreatDoorUB23
import Derived.Test.YtobloamnaemfnaaGreatDoorUB6
import Derived.Test.YtobloamnaemfnaaGreatDoorUB5
import Derived.Test.YtobloamnaemfnaaGreatDoorUB10
import Derived.Test.YtobloamnaemfnaaGreatDoorUB12
import Derived.Deep.RegionHeld3
import Derived.Test.YtobloamnaemfnaaGreatDoorUB25
import Derived.Test.YtobloamnaemfnaaGreatDoorUB13
namespace Go.Proofs.YtobloamnaemfnaaGreatDoor
open Go.RowKit

end Go.Proofs.YtobloamnaemfnaaGreatDoor

namespace Go.Proofs.YtobloamnaemfnaaGreatDoor
open Go.RowKit

set_option maxHeartbeats 1000000 in
theorem atFrac_g (k mf xf ms xs : Int) (st : Bool) (cs : Int) (ns : Bool) (ts : ByteArray) (es md : Int) (hd : Bool) (im ix ca : Int) (na : Bool) (ta : ByteArray) (ea cx : Int) (nx : Bool) (tx : ByteArray) (ex rx : Int) (w : World) (htab : Tab w) (hC : ∀ W, Tab W → Calls Tryz.prog 123 #[dcV ca na ta ea, .int .i64 (-xf), .int .i64 md] W fun e w' => e = .returned (.tuple #[.agg #[.int .i64 cx, .bool nx, .string tx, .int .i64 ex], .int .i64 rx]) ∧ Below W.heap.size W w') (h1 : 0 ≤ xf) (h2 : xf ≤ 99) : Calls Tryz.prog 78 #[prV k mf xf ms xs st cs ns ts es md hd im ix, dcV ca na ta ea] w fun e w' => e = .returned (.tuple #[.agg #[.int .i64 cx, .bool nx, .string tx, .int .i64 ex], .int .i64 rx]) ∧ Below w.heap.size w w' := by
  have HC := hide hC
  have HT := hide htab
  clear hC htab
  have Bp0 := hide (((Blk.newAt w (w.heap.size) (rfl) #[.int .i64 k, .int .i64 mf, .int .i64 xf, .int .i64 ms, .int .i64 xs, .bool st, .int .i64 cs, .bool ns, .string ts, .int .i64 es, .int .i64 md, .bool hd, .int .i64 im, .int .i64 ix] 61).alloc (.cells #[.int .i64 ca, .bool na, .string ta, .int .i64 ea] 23)).alloc (.cells #[.int .i64 0, .bool false, .string ⟨#[]⟩, .int .i64 0] 23))
  have Ba0 := hide ((Blk.newAt (w.alloc (.cells #[.int .i64 k, .int .i64 mf, .int .i64 xf, .int .i64 ms, .int .i64 xs, .bool st, .int .i64 cs, .bool ns, .string ts, .int .i64 es, .int .i64 md, .bool hd, .int .i64 im, .int .i64 ix] 61)) (w.heap.size + 1) (by simp) #[.int .i64 ca, .bool na, .string ta, .int .i64 ea] 23).alloc (.cells #[.int .i64 0, .bool false, .string ⟨#[]⟩, .int .i64 0] 23))
  have Br0 := hide (Blk.newAt ((w.alloc (.cells #[.int .i64 k, .int .i64 mf, .int .i64 xf, .int .i64 ms, .int .i64 xs, .bool st, .int .i64 cs, .bool ns, .string ts, .int .i64 es, .int .i64 md, .bool hd, .int .i64 im, .int .i64 ix] 61)).alloc (.cells #[.int .i64 ca, .bool na, .string ta, .int .i64 ea] 23)) (w.heap.size + 1 + 1) (by simp) #[.int .i64 0, .bool false, .string ⟨#[]⟩, .int .i64 0] 23)
  have HB0 : Hid (Below w.heap.size w (((w.alloc (.cells #[.int .i64 k, .int .i64 mf, .int .i64 xf, .int .i64 ms, .int .i64 xs, .bool st, .int .i64 cs, .bool ns, .string ts, .int .i64 es, .int .i64 md, .bool hd, .int .i64 im, .int .i64 ix] 61)).alloc (.cells #[.int .i64 ca, .bool na, .string ta, .int .i64 ea] 23)).alloc (.cells #[.int .i64 0, .bool false, .string ⟨#[]⟩, .int .i64 0] 23))) := ((((Below.refl _ _).alloc (Nat.le_refl _) _).alloc (by simp <;> omega) _).alloc (by simp <;> omega) _)
  go_enter Tryz.func78, Tryz.ntmps78
  go_wp2_with fail
  refine (HC.out _ (HT.out.below HB0.out)).mono ?_
  rintro e w1 ⟨rfl, hb⟩
  have Bp1 := Blk.on Bp0 hb
  have Ba1 := Blk.on Ba0 hb
  have Br1 := Blk.on Br0 hb
  have HB1 := hide (HB0.out.trans (hb.mono HB0.out.size))
  clear hb Bp0 Ba0 Br0 HB0 
  obtain ⟨yp0, yp1, yp2, yp3, yp4, yp5, yp6, yp7, yp8, yp9, yp10, yp11, yp12, yp13⟩ := Bp1.out.fourteen
  obtain ⟨ya0, ya1, ya2, ya3⟩ := Ba1.out.four
  obtain ⟨yr0, yr1, yr2, yr3⟩ := Br1.out.four
  have fr0 := Br1.out.free 0
  have fr1 := Br1.out.free 1
  have fr2 := Br1.out.free 2
  have fr3 := Br1.out.free 3
  go_wp2
  refine bodyPost_ret (results_dec2 rfl _ _ _ _ _ _ _ rfl (Br1.out.put4 _ _ _ _)) rfl ?_
  exact ⟨rfl, below_put4 (HB1.out) (by omega) _ _ _ _⟩

set_option maxHeartbeats 1000000 in
theorem minFrac_any (k mf xf ms xs : Int) (st : Bool) (cs : Int) (ns : Bool) (ts : ByteArray) (es md : Int) (hd : Bool) (im ix ca : Int) (na : Bool) (ta : ByteArray) (ea : Int) (w : World) : Calls Tryz.prog 79 #[prV k mf xf ms xs st cs ns ts es md hd im ix, dcV ca na ta ea] w fun e w' => e = .returned (.int .i64 mf) ∧ Below w.heap.size w w' := by
  have Bp0 := hide ((Blk.newAt w (w.heap.size) (rfl) #[.int .i64 k, .int .i64 mf, .int .i64 xf, .int .i64 ms, .int .i64 xs, .bool st, .int .i64 cs, .bool ns, .string ts, .int .i64 es, .int .i64 md, .bool hd, .int .i64 im, .int .i64 ix] 61).alloc (.cells #[.int .i64 ca, .bool na, .string ta, .int .i64 ea] 23))
  have Ba0 := hide (Blk.newAt (w.alloc (.cells #[.int .i64 k, .int .i64 mf, .int .i64 xf, .int .i64 ms, .int .i64 xs, .bool st, .int .i64 cs, .bool ns, .string ts, .int .i64 es, .int .i64 md, .bool hd, .int .i64 im, .int .i64 ix] 61)) (w.heap.size + 1) (by simp) #[.int .i64 ca, .bool na, .string ta, .int .i64 ea] 23)
  have HB0 : Hid (Below w.heap.size w ((w.alloc (.cells #[.int .i64 k, .int .i64 mf, .int .i64 xf, .int .i64 ms, .int .i64 xs, .bool st, .int .i64 cs, .bool ns, .string ts, .int .i64 es, .int .i64 md, .bool hd, .int .i64 im, .int .i64 ix] 61)).alloc (.cells #[.int .i64 ca, .bool na, .string ta, .int .i64 ea] 23))) := (((Below.refl _ _).alloc (Nat.le_refl _) _).alloc (by simp <;> omega) _)
  go_enter Tryz.func79, Tryz.ntmps79
  go_wp2
  go_ret
  exact ⟨rfl, HB0.out⟩

end Go.Proofs.YtobloamnaemfnaaGreatDoor

namespace Go.Proofs.YtobloamnaemfnaaGreatDoor
open Go.RowKit

def shVal (s : ShownT) : Value := .agg #[.int .i64 s.cls, .bool s.neg, .string ⟨s.int.toArray⟩, .string ⟨s.frac.toArray⟩, .int .i64 s.exp, .bool s.compact]
def shErr (r : ShownT × Int) : Value := .tuple #[shVal r.1, .int .i64 r.2]

theorem rnd_k1 (mf xf ms xs : Int) (st : Bool) (cs : Int) (ns : Bool) (ts : ByteArray) (es md : Int) (hd : Bool) (im ix ca : Int) (na : Bool) (ta : ByteArray) (ea : Int) (w : World) (htab : Tab w) (_h : MayD ca na (bys ta) ea) (g1 : 0 ≤ xf) (g2 : xf ≤ 99) : Calls Tryz.prog 78 #[prV 1 mf xf ms xs st cs ns ts es md hd im ix, dcV ca na ta ea] w fun e w' => e = .returned (decErr (roundP ⟨1, mf, xf, ms, xs, st, cs, ns, bys ts, es, md, hd, im, ix⟩ ca na (bys ta) ea)) ∧ Below w.heap.size w w' := by
  rw [roundP_1 rfl]
  exact atFrac_g 1 mf xf ms xs st cs ns ts es md hd im ix ca na ta ea _ _ _ _ _ w htab (fun W hW => At_any ca na ta ea (-xf) md W hW) g1 g2

theorem least_k1 (mf xf ms xs : Int) (st : Bool) (cs : Int) (ns : Bool) (ts : ByteArray) (es md : Int) (hd : Bool) (im ix : Int) (nr : Bool) (tr : ByteArray) (er : Int) (w : World) (_h : MayD 0 nr (bys tr) er)  : Calls Tryz.prog 79 #[prV 1 mf xf ms xs st cs ns ts es md hd im ix, dcV 0 nr tr er] w fun e w' => e = .returned (.int .i64 (leastP ⟨1, mf, xf, ms, xs, st, cs, ns, bys ts, es, md, hd, im, ix⟩ ⟨0, nr, bys tr, er⟩)) ∧ Below w.heap.size w w' := by
  rw [show leastP ⟨1, mf, xf, ms, xs, st, cs, ns, bys ts, es, md, hd, im, ix⟩ ⟨0, nr, bys tr, er⟩ = mf by unfold leastP; simp]
  exact minFrac_any 1 mf xf ms xs st cs ns ts es md hd im ix 0 nr tr er w

theorem Show_k1 (ca : Int) (na : Bool) (ta : ByteArray) (ea mf xf ms xs : Int) (st : Bool) (cs : Int) (ns : Bool) (ts : ByteArray) (es md : Int) (hd : Bool) (im ix : Int) (w : World) (htab : Tab w) (h : MayD ca na (bys ta) ea) (hp : MayP ⟨1, mf, xf, ms, xs, st, cs, ns, bys ts, es, md, hd, im, ix⟩) : Calls Tryz.prog 14 #[dcV ca na ta ea, prV 1 mf xf ms xs st cs ns ts es md hd im ix] w fun e w' => e = .returned (shErr (showP ca na (bys ta) ea ⟨1, mf, xf, ms, xs, st, cs, ns, bys ts, es, md, hd, im, ix⟩)) ∧ Below w.heap.size w w' := by
  obtain ⟨⟨⟨q1, q2⟩, q3⟩, _⟩ := mayP_1 hp rfl
  simp only at q1 q2 q3
  have hm := roundP_may hp h
  have RN := fun W hW => rnd_k1 mf xf ms xs st cs ns ts es md hd im ix ca na ta ea W hW h (by omega) q3
  have e1 := fun q => showP_err h hp q
  have e2 := fun q => showP_in h hp q
  have lp := leastP_in hp hm
  generalize roundP ⟨1, mf, xf, ms, xs, st, cs, ns, bys ts, es, md, hd, im, ix⟩ ca na (bys ta) ea = r at hm RN e1 e2 lp
  obtain ⟨⟨c, n, l, e⟩, er⟩ := r
  simp only at hm e1 e2 lp
  have hz : c = 0 → MayD 0 n (bys ⟨l.toArray⟩) e := by rintro rfl; rw [bys_mk]; exact hm
  refine show_k1 ca na ta ea mf xf ms xs st cs ns ts es md hd im ix (c : Int) n ⟨l.toArray⟩ e er (leastP ⟨1, mf, xf, ms, xs, st, cs, ns, bys ts, es, md, hd, im, ix⟩ ⟨c, n, l, e⟩) ⟨(digitsP ⟨1, mf, xf, ms, xs, st, cs, ns, bys ts, es, md, hd, im, ix⟩ ⟨c, n, l, e⟩ (leastP ⟨1, mf, xf, ms, xs, st, cs, ns, bys ts, es, md, hd, im, ix⟩ ⟨c, n, l, e⟩)).1.toArray⟩ ⟨(digitsP ⟨1, mf, xf, ms, xs, st, cs, ns, bys ts, es, md, hd, im, ix⟩ ⟨c, n, l, e⟩ (leastP ⟨1, mf, xf, ms, xs, st, cs, ns, bys ts, es, md, hd, im, ix⟩ ⟨c, n, l, e⟩)).2.toArray⟩ _ w htab h (fun W hW => check_tP 1 mf xf ms xs st cs ns ts es md hd im ix W hW hp) RN ?_ ?_ ?_ ?_ ?_
  · intro _ hc W
    have hc : c = 0 := by omega
    subst hc
    have g := least_k1 mf xf ms xs st cs ns ts es md hd im ix n ⟨l.toArray⟩ e W (hz rfl)
    rw [bys_mk] at g
    exact g
  · intro _ hc W
    have hc : c = 0 := by omega
    subst hc
    have g := xdigits_any 1 mf xf ms xs st cs ns ts es md hd im ix n ⟨l.toArray⟩ e (leastP ⟨1, mf, xf, ms, xs, st, cs, ns, bys ts, es, md, hd, im, ix⟩ ⟨0, n, l, e⟩) W (hz rfl) hp.2.1 (by omega) (by omega)
    rw [bys_mk] at g
    exact g
  · intro q
    rw [e1 q]; rfl
  · intro q hc
    rw [e2 q]
    unfold shownP
    rw [if_neg (by simp only; omega)]
    rfl
  · intro q hc
    have hc : c = 0 := by omega
    subst hc
    rw [e2 q]
    rfl

end Go.Proofs.YtobloamnaemfnaaGreatDoor
