/-
  What nearest's divided and highest do.
-/
import Derived.Test.YtpiloigpncbccabGreatDoorNNt
import Derived.Test.YtpiloigpncbccabGreatDoorNBits
import Derived.Deep.RegionHeld3
import Derived.Deep.QuietTactic
import Derived.BigQuiet
import Derived.WalkSmall
namespace Go.Proofs.YtpiloigpncbccabGreatDoor
open Go.RowKit

/-- A fraction is answered. -/
def FrPost (w : World) (f x l : Int) (o u : Nat) (e : Ending) (w' : World) : Prop :=
  ∃ oo lo co ou lu cu, e = .returned (fracV f x l (.slice oo lo co) (.slice ou lu cu)) ∧ Nt w' (.slice oo lo co) o ∧ Nt w' (.slice ou lu cu) u ∧ Below w.heap.size w w'

theorem below_put5 {w W : World} {H : Nat} (h : Below w.heap.size w W) (hH : w.heap.size ≤ H) (y0 y1 y2 y3 y4 : Value) : Below w.heap.size w (((((W.setCell ⟨H, 0, none⟩ y0).setCell ⟨H, 1, none⟩ y1).setCell ⟨H, 2, none⟩ y2).setCell ⟨H, 3, none⟩ y3).setCell ⟨H, 4, none⟩ y4) :=
  ((((h.setCell hH _).setCell hH _).setCell hH _).setCell hH _).setCell hH _

theorem Nt.put5 {w : World} {v : Value} {n base H : Nat} (h : Nt w v n) (hf : Far base v) (hH : H < base) (y0 y1 y2 y3 y4 : Value) : Nt (((((w.setCell ⟨H, 0, none⟩ y0).setCell ⟨H, 1, none⟩ y1).setCell ⟨H, 2, none⟩ y2).setCell ⟨H, 3, none⟩ y3).setCell ⟨H, 4, none⟩ y4) v n :=
  ((((h.put hf hH _).put hf hH _).put hf hH _).put hf hH _).put hf hH _

set_option maxHeartbeats 1000000 in
theorem divided_neg (f x l : Int) (oo ou : Option Addr) (lo co lu cu o u k : Nat) (w : World) (ho : Nt w (.slice oo lo co) o) (hu : Nt w (.slice ou lu cu) u) (sm : Sm o) (hk : k ≤ 65536) (h0 : -(k : Int) < 0) :
    Calls Tryz.prog 97 #[fracV f x l (.slice oo lo co) (.slice ou lu cu), .int .i64 (-(k : Int))] w (FrPost w f x l (o * 2 ^ k) u) := by
  have SH : Hid (∀ W, Below w.heap.size w W → Calls Tryz.prog 82 #[.slice oo lo co, .int .i64 (k : Int)] W (NtErr W (o * 2 ^ k) 0)) := fun W hW => nt_shl _ o k _ W rfl (ho.below hW) sm hk
  have HO := hide hu
  have blk := (Blk.new w #[.int .i64 f, .int .i64 x, .int .i64 l, .slice oo lo co, .slice ou lu cu] 94).alloc (.cells #[.int .i64 0, .int .i64 0, .int .i64 0, .slice none 0 0, .slice none 0 0] 94)
  have blk1 := Blk.newAt (w.alloc (.cells #[.int .i64 f, .int .i64 x, .int .i64 l, .slice oo lo co, .slice ou lu cu] 94)) (w.heap.size + 1) (by simp) #[.int .i64 0, .int .i64 0, .int .i64 0, .slice none 0 0, .slice none 0 0] 94
  obtain ⟨W, hW⟩ : ∃ W, W = (w.alloc (.cells #[.int .i64 f, .int .i64 x, .int .i64 l, .slice oo lo co, .slice ou lu cu] 94)).alloc (.cells #[.int .i64 0, .int .i64 0, .int .i64 0, .slice none 0 0, .slice none 0 0] 94) := ⟨_, rfl⟩
  rw [← hW] at blk blk1
  have HBW : Hid (Below w.heap.size w W) := by rw [hW]; exact ((Below.refl _ _).alloc (Nat.le_refl _) _).alloc (by simp) _
  have BLK := hide blk
  have BLK1 := hide blk1
  have c3 : W.cell? ⟨w.heap.size, 3, none⟩ = some (.slice oo lo co) := blk.cell 3
  have HW := hide hW
  clear ho hu sm blk blk1 hW
  go_enter Tryz.func97, Tryz.ntmps97
  go_wp2_with fail
  simp only [← HW.out]
  refine (SH.out _ HBW.out).mono ?_
  rintro e w1 ⟨v1, rfl, n1, b1, f1⟩
  obtain ⟨o1, c1, x1, rfl, _⟩ := id n1
  have q := BLK.out.below b1 BLK.out.lt
  have q1 := BLK1.out.below b1 BLK1.out.lt
  have a0 : w1.cell? ⟨w.heap.size, 0, none⟩ = some (.int .i64 f) := q.cell 0
  have a1 : w1.cell? ⟨w.heap.size, 1, none⟩ = some (.int .i64 x) := q.cell 1
  have a2 : w1.cell? ⟨w.heap.size, 2, none⟩ = some (.int .i64 l) := q.cell 2
  have a3 : w1.cell? ⟨w.heap.size, 3, none⟩ = some (.slice oo lo co) := q.cell 3
  have a4 : w1.cell? ⟨w.heap.size, 4, none⟩ = some (.slice ou lu cu) := q.cell 4
  have z3 := q.free 3
  have k0 : w1.cell? ⟨w.heap.size + 1, 0, none⟩ = some (.int .i64 0) := q1.cell 0
  have k1 : w1.cell? ⟨w.heap.size + 1, 1, none⟩ = some (.int .i64 0) := q1.cell 1
  have k2 : w1.cell? ⟨w.heap.size + 1, 2, none⟩ = some (.int .i64 0) := q1.cell 2
  have k3 : w1.cell? ⟨w.heap.size + 1, 3, none⟩ = some (.slice none 0 0) := q1.cell 3
  have k4 : w1.cell? ⟨w.heap.size + 1, 4, none⟩ = some (.slice none 0 0) := q1.cell 4
  have g0 := q1.free 0
  have g1 := q1.free 1
  have g2 := q1.free 2
  have g3 := q1.free 3
  have g4 := q1.free 4
  have Q1 := hide (q1.other (a := ⟨w.heap.size, 3, none⟩) (by simp) (.slice o1 x1.length c1))
  have hlt := BLK1.out.lt
  have NEWH : Hid (Nt (w1.setCell ⟨w.heap.size, 3, none⟩ (.slice o1 x1.length c1)) (.slice o1 x1.length c1) (o * 2 ^ k) ∧ Far (w.heap.size + 2) (.slice o1 x1.length c1)) := ⟨n1.put f1 (by simp; omega) _, f1.mono (by omega)⟩
  have BELH : Hid (Below w.heap.size w (w1.setCell ⟨w.heap.size, 3, none⟩ (.slice o1 x1.length c1))) := (HBW.out.trans (b1.mono HBW.out.size)).setCell (Nat.le_refl _) _
  clear n1 b1 f1 q q1 BLK BLK1 HBW SH hlt c3
  simp only []
  repeat (first | go_values | go_skip | go_guarded | go_step | go_upon)
  refine bodyPost_ret (results_frac rfl _ _ _ _ _ _ _ _ rfl (Q1.out.put5 _ _ _ _ _)) rfl ?_
  have BEL := below_put5 BELH.out (H := w.heap.size + 1) (by omega) (.int .i64 f) (.int .i64 x) (.int .i64 l) (.slice o1 x1.length c1) (.slice ou lu cu)
  have NEW := NEWH.out.1.put5 NEWH.out.2 (H := w.heap.size + 1) (by omega) (.int .i64 f) (.int .i64 x) (.int .i64 l) (.slice o1 x1.length c1) (.slice ou lu cu)
  have OLD := HO.out.below BEL
  exact ⟨o1, x1.length, c1, ou, lu, cu, rfl, NEW, OLD, BEL⟩

set_option maxHeartbeats 1000000 in
theorem divided_pos (f x l : Int) (oo ou : Option Addr) (lo co lu cu o u k : Nat) (w : World) (ho : Nt w (.slice oo lo co) o) (hu : Nt w (.slice ou lu cu) u) (sm : Sm u) (hk : k ≤ 65536) (h0 : ¬ (k : Int) < 0) :
    Calls Tryz.prog 97 #[fracV f x l (.slice oo lo co) (.slice ou lu cu), .int .i64 ((k : Int))] w (FrPost w f x l o (u * 2 ^ k)) := by
  have SH : Hid (∀ W, Below w.heap.size w W → Calls Tryz.prog 82 #[.slice ou lu cu, .int .i64 (k : Int)] W (NtErr W (u * 2 ^ k) 0)) := fun W hW => nt_shl _ u k _ W rfl (hu.below hW) sm hk
  have HO := hide ho
  have blk := (Blk.new w #[.int .i64 f, .int .i64 x, .int .i64 l, .slice oo lo co, .slice ou lu cu] 94).alloc (.cells #[.int .i64 0, .int .i64 0, .int .i64 0, .slice none 0 0, .slice none 0 0] 94)
  have blk1 := Blk.newAt (w.alloc (.cells #[.int .i64 f, .int .i64 x, .int .i64 l, .slice oo lo co, .slice ou lu cu] 94)) (w.heap.size + 1) (by simp) #[.int .i64 0, .int .i64 0, .int .i64 0, .slice none 0 0, .slice none 0 0] 94
  obtain ⟨W, hW⟩ : ∃ W, W = (w.alloc (.cells #[.int .i64 f, .int .i64 x, .int .i64 l, .slice oo lo co, .slice ou lu cu] 94)).alloc (.cells #[.int .i64 0, .int .i64 0, .int .i64 0, .slice none 0 0, .slice none 0 0] 94) := ⟨_, rfl⟩
  rw [← hW] at blk blk1
  have HBW : Hid (Below w.heap.size w W) := by rw [hW]; exact ((Below.refl _ _).alloc (Nat.le_refl _) _).alloc (by simp) _
  have BLK := hide blk
  have BLK1 := hide blk1
  have c4 : W.cell? ⟨w.heap.size, 4, none⟩ = some (.slice ou lu cu) := blk.cell 4
  have HW := hide hW
  clear ho hu sm blk blk1 hW
  go_enter Tryz.func97, Tryz.ntmps97
  go_wp2_with fail
  simp only [← HW.out]
  refine (SH.out _ HBW.out).mono ?_
  rintro e w1 ⟨v1, rfl, n1, b1, f1⟩
  obtain ⟨o1, c1, x1, rfl, _⟩ := id n1
  have q := BLK.out.below b1 BLK.out.lt
  have q1 := BLK1.out.below b1 BLK1.out.lt
  have a0 : w1.cell? ⟨w.heap.size, 0, none⟩ = some (.int .i64 f) := q.cell 0
  have a1 : w1.cell? ⟨w.heap.size, 1, none⟩ = some (.int .i64 x) := q.cell 1
  have a2 : w1.cell? ⟨w.heap.size, 2, none⟩ = some (.int .i64 l) := q.cell 2
  have a3 : w1.cell? ⟨w.heap.size, 3, none⟩ = some (.slice oo lo co) := q.cell 3
  have a4 : w1.cell? ⟨w.heap.size, 4, none⟩ = some (.slice ou lu cu) := q.cell 4
  have z4 := q.free 4
  have k0 : w1.cell? ⟨w.heap.size + 1, 0, none⟩ = some (.int .i64 0) := q1.cell 0
  have k1 : w1.cell? ⟨w.heap.size + 1, 1, none⟩ = some (.int .i64 0) := q1.cell 1
  have k2 : w1.cell? ⟨w.heap.size + 1, 2, none⟩ = some (.int .i64 0) := q1.cell 2
  have k3 : w1.cell? ⟨w.heap.size + 1, 3, none⟩ = some (.slice none 0 0) := q1.cell 3
  have k4 : w1.cell? ⟨w.heap.size + 1, 4, none⟩ = some (.slice none 0 0) := q1.cell 4
  have g0 := q1.free 0
  have g1 := q1.free 1
  have g2 := q1.free 2
  have g3 := q1.free 3
  have g4 := q1.free 4
  have Q1 := hide (q1.other (a := ⟨w.heap.size, 4, none⟩) (by simp) (.slice o1 x1.length c1))
  have hlt := BLK1.out.lt
  have NEWH : Hid (Nt (w1.setCell ⟨w.heap.size, 4, none⟩ (.slice o1 x1.length c1)) (.slice o1 x1.length c1) (u * 2 ^ k) ∧ Far (w.heap.size + 2) (.slice o1 x1.length c1)) := ⟨n1.put f1 (by simp; omega) _, f1.mono (by omega)⟩
  have BELH : Hid (Below w.heap.size w (w1.setCell ⟨w.heap.size, 4, none⟩ (.slice o1 x1.length c1))) := (HBW.out.trans (b1.mono HBW.out.size)).setCell (Nat.le_refl _) _
  clear n1 b1 f1 q q1 BLK BLK1 HBW SH hlt c4
  simp only []
  repeat (first | go_values | go_skip | go_guarded | go_step | go_upon)
  refine bodyPost_ret (results_frac rfl _ _ _ _ _ _ _ _ rfl (Q1.out.put5 _ _ _ _ _)) rfl ?_
  have BEL := below_put5 BELH.out (H := w.heap.size + 1) (by omega) (.int .i64 f) (.int .i64 x) (.int .i64 l) (.slice oo lo co) (.slice o1 x1.length c1)
  have NEW := NEWH.out.1.put5 NEWH.out.2 (H := w.heap.size + 1) (by omega) (.int .i64 f) (.int .i64 x) (.int .i64 l) (.slice oo lo co) (.slice o1 x1.length c1)
  have OLD := HO.out.below BEL
  exact ⟨oo, lo, co, o1, x1.length, c1, rfl, OLD, NEW, BEL⟩

/-- A fraction by 2^n. -/
theorem divided_any (f x l : Int) (oo ou : Option Addr) (lo co lu cu o u : Nat) (n : Int) (w : World) (ho : Nt w (.slice oo lo co) o) (hu : Nt w (.slice ou lu cu) u) (so : Sm o) (su : Sm u) (h1 : -65536 ≤ n) (h2 : n ≤ 65536) :
    Calls Tryz.prog 97 #[fracV f x l (.slice oo lo co) (.slice ou lu cu), .int .i64 n] w (FrPost w f x l (o * 2 ^ (-n).toNat) (u * 2 ^ n.toNat)) := by
  by_cases h : n < 0
  · obtain ⟨k, rfl⟩ : ∃ k : Nat, n = -(k : Int) := ⟨(-n).toNat, by omega⟩
    rw [show (- -(k : Int)).toNat = k by omega, show (-(k : Int)).toNat = 0 by omega, Nat.pow_zero, Nat.mul_one]
    exact divided_neg f x l oo ou lo co lu cu o u k w ho hu so (by omega) h
  · obtain ⟨k, rfl⟩ : ∃ k : Nat, n = (k : Int) := ⟨n.toNat, by omega⟩
    rw [show (-(k : Int)).toNat = 0 by omega, show ((k : Int)).toNat = k by omega, Nat.pow_zero, Nat.mul_one]
    exact divided_pos f x l oo ou lo co lu cu o u k w ho hu su (by omega) h

/-- A number that is not too great to be shifted by as many bits as it has. -/
def Fit (n : Nat) : Prop := n < powT 2 30000

theorem Fit.bits {n : Nat} (h : Fit n) : bitsN n ≤ 30000 := by
  by_cases h0 : n = 0
  · subst h0; exact Nat.zero_le _
  · obtain ⟨k, e, h1, _⟩ := bitsN_spec h0
    obtain ⟨E, hE⟩ : ∃ E, E = 30000 := ⟨_, rfl⟩
    unfold Fit powT at h
    rw [← hE] at h ⊢
    have : k < E := (Nat.pow_lt_pow_iff_right (by omega : 1 < 2)).1 (Nat.lt_of_le_of_lt h1 h)
    omega

theorem pow60 : powT 2 30000 * powT 2 32000 < B64 ^ 10000 := by decide +kernel

theorem Fit.sm {n : Nat} (h : Fit n) {k : Nat} (hk : k ≤ 32000) : Sm (n * 2 ^ k) := by
  have h1 : 2 ^ k ≤ powT 2 32000 := powT_ge (by omega) hk
  have h2 : n * 2 ^ k ≤ powT 2 30000 * powT 2 32000 := Nat.mul_le_mul (Nat.le_of_lt h) h1
  exact Nat.lt_of_le_of_lt h2 pow60

theorem Fit.sm0 {n : Nat} (h : Fit n) : Sm n := by have := h.sm (k := 0) (by omega); rwa [Nat.pow_zero, Nat.mul_one] at this

set_option maxRecDepth 100000 in
set_option maxHeartbeats 1000000 in
theorem highest_any (f x l : Int) (oo ou : Option Addr) (lo co lu cu o u : Nat) (w : World) (ho : Nt w (.slice oo lo co) o) (hu : Nt w (.slice ou lu cu) u) (fo : Fit o) (fu : Fit u) :
    Calls Tryz.prog 96 #[fracV f x l (.slice oo lo co) (.slice ou lu cu)] w fun e w' => e = .returned (.int .i64 (highN o u)) ∧ Below w.heap.size w w' := by
  obtain ⟨bo, hbo⟩ : ∃ b, b = bitsN o := ⟨_, rfl⟩
  obtain ⟨bu, hbu⟩ : ∃ b, b = bitsN u := ⟨_, rfl⟩
  have lbo : bo ≤ 30000 := by rw [hbo]; exact fo.bits
  have lbu : bu ≤ 30000 := by rw [hbu]; exact fu.bits
  have blk := Blk.new w #[.int .i64 f, .int .i64 x, .int .i64 l, .slice oo lo co, .slice ou lu cu] 94
  obtain ⟨W, hW⟩ : ∃ W, W = w.alloc (.cells #[.int .i64 f, .int .i64 x, .int .i64 l, .slice oo lo co, .slice ou lu cu] 94) := ⟨_, rfl⟩
  rw [← hW] at blk
  have HBW : Hid (Below w.heap.size w W) := by rw [hW]; exact (Below.refl _ _).alloc (Nat.le_refl _) _
  have BO : Hid (∀ n, Calls Tryz.prog 106 #[.slice oo lo co] (W.drewN n) fun e w' => e = .returned (.int .i64 (bo : Int)) ∧ w' = W.drewN n) := fun n => by
    refine (nt_bits _ o _ ((ho.below HBW.out).below (below_drewN (Below.refl _ _) n)) fo.sm0).mono ?_
    rintro e w' ⟨rfl, rfl⟩
    rw [hbo]; exact ⟨rfl, rfl⟩
  have BU : Hid (∀ n, Calls Tryz.prog 106 #[.slice ou lu cu] (W.drewN n) fun e w' => e = .returned (.int .i64 (bu : Int)) ∧ w' = W.drewN n) := fun n => by
    refine (nt_bits _ u _ ((hu.below HBW.out).below (below_drewN (Below.refl _ _) n)) fu.sm0).mono ?_
    rintro e w' ⟨rfl, rfl⟩
    rw [hbu]; exact ⟨rfl, rfl⟩
  have BLK := hide blk
  have HW := hide hW
  have c0 : W.cell? ⟨w.heap.size, 0, none⟩ = some (.int .i64 f) := blk.cell 0
  have c1 : W.cell? ⟨w.heap.size, 1, none⟩ = some (.int .i64 x) := blk.cell 1
  have c2 : W.cell? ⟨w.heap.size, 2, none⟩ = some (.int .i64 l) := blk.cell 2
  have c3 : W.cell? ⟨w.heap.size, 3, none⟩ = some (.slice oo lo co) := blk.cell 3
  have c4 : W.cell? ⟨w.heap.size, 4, none⟩ = some (.slice ou lu cu) := blk.cell 4
  obtain ⟨n, hn⟩ : ∃ n : Int, n = (bo : Int) - (bu : Int) := ⟨_, rfl⟩
  have DV : Hid (∀ W', Below w.heap.size w W' → Calls Tryz.prog 97 #[fracV f x l (.slice oo lo co) (.slice ou lu cu), .int .i64 ((bo : Int) - (bu : Int))] W' (FrPost W' f x l (o * 2 ^ (-n).toNat) (u * 2 ^ n.toNat))) := fun W' hW' => by
    rw [← hn]
    exact divided_any f x l oo ou lo co lu cu o u n W' (ho.below hW') (hu.below hW') fo.sm0 fu.sm0 (by omega) (by omega)
  have SS : Hid (Sm (o * 2 ^ (-n).toNat) ∧ Sm (u * 2 ^ n.toNat)) := ⟨fo.sm (by omega), fu.sm (by omega)⟩
  have HH : Hid (highN o u = if o * 2 ^ (-n).toNat < u * 2 ^ n.toNat then n - 1 else n) := by
    show highN o u = _
    unfold highN
    rw [← hbo, ← hbu, ← hn]
  have HN := hide hn
  clear ho hu fo fu hbo hbu blk hW hn
  go_enter Tryz.func96, Tryz.ntmps96
  go_wp2_with fail
  simp only [← HW.out]
  go_quiet (first | (go_at_call 106; with_reducible refine Calls.quiet_of_same (BO.out _)) | (go_at_call 106; with_reducible refine Calls.quiet_of_same (BU.out _)))
  go_wp2_with fail
  refine (DV.out _ (below_drewN HBW.out _)).mono ?_
  rintro e w1 ⟨o1, l1, p1, o2, l2, p2, rfl, n1, n2, b1⟩
  have N1 := hide n1
  have N2 := hide n2
  have HB1 := hide (HBW.out.trans ((below_drewN (Below.refl _ _) _).trans (b1.mono (Nat.le_refl _)) |>.mono HBW.out.size))
  clear n1 n2 b1 DV BO BU c0 c1 c2 c3 c4
  have AL : Hid (∀ O, Below w1.heap.size w1 (w1.alloc O)) := fun O => (Below.refl _ _).alloc (Nat.le_refl _) _
  have CM : Hid (∀ O z, cmpN (o * 2 ^ (-n).toNat) (u * 2 ^ n.toNat) = z → Calls Tryz.prog 90 #[.slice o1 l1 p1, .slice o2 l2 p2] (w1.alloc O) fun e w' => e = .returned (.int .i64 z) ∧ Below (w1.alloc O).heap.size (w1.alloc O) w') := fun O z hz => nt_cmp _ _ _ _ z _ (N1.out.below (AL.out O)) (N2.out.below (AL.out O)) SS.out.1 SS.out.2 hz
  have HB2 : Hid (∀ O w', Below (w1.alloc O).heap.size (w1.alloc O) w' → Below w.heap.size w w') := fun O w' h => HB1.out.trans (((AL.out O).trans (h.mono (AL.out O).size)).mono HB1.out.size)
  clear N1 N2 SS HB1 AL HBW
  by_cases hlt : o * 2 ^ (-n).toNat < u * 2 ^ n.toNat
  · have CM1 := hide (fun O => CM.out O (-1) (by unfold cmpN; rw [if_pos hlt]))
    have HR : Hid (highN o u = (bo : Int) - (bu : Int) - 1) := by
      show highN o u = _
      rw [HH.out, if_pos hlt, HN.out]
    clear hlt CM HH HN
    go_wp2_with fail
    refine (CM1.out _).mono ?_
    rintro e w2 ⟨rfl, b2⟩
    have FIN := hide (HB2.out _ _ b2)
    clear b2 CM1 HB2
    go_wp2
    go_ret
    exact ⟨by rw [HR.out]; rfl, FIN.out⟩
  · obtain ⟨z, hz, hz0⟩ : ∃ z, cmpN (o * 2 ^ (-n).toNat) (u * 2 ^ n.toNat) = z ∧ ¬ z < 0 := by
      refine ⟨_, rfl, ?_⟩
      unfold cmpN; rw [if_neg hlt]; split <;> omega
    have CM1 := hide (fun O => CM.out O z hz)
    have HR : Hid (highN o u = (bo : Int) - (bu : Int)) := by
      show highN o u = _
      rw [HH.out, if_neg hlt, HN.out]
    clear hlt CM HH HN hz
    go_wp2_with fail
    refine (CM1.out _).mono ?_
    rintro e w2 ⟨rfl, b2⟩
    have FIN := hide (HB2.out _ _ b2)
    clear b2 CM1 HB2
    go_wp2
    go_ret
    exact ⟨by rw [HR.out]; rfl, FIN.out⟩

end Go.Proofs.YtpiloigpncbccabGreatDoor
