/-
  What quipuref04's To does for the narrow floats.
-/
import Derived.Test.YtlhekeifffofjaaGreatDoorZB10
namespace Go.Proofs.YtlhekeifffofjaaGreatDoor
open Go.RowKit

set_option maxRecDepth 100000 in
set_option maxHeartbeats 1000000 in
theorem rto32_nan (w : World) : Calls Tryz.prog 13 #[k32, dcV 2 false ⟨#[]⟩ 0] w fun e w' => e = .returned (.int .u64 2143289345) ∧ Below w.heap.size w w' := by
  have blkk := (Blk.new w #[.int .i64 23, .int .i64 8] 32).alloc (.cells #[.int .i64 2, .bool false, .string ⟨#[]⟩, .int .i64 0] 23)
  have blkd := Blk.newAt (w.alloc (.cells #[.int .i64 23, .int .i64 8] 32)) (w.heap.size + 1) (by simp) #[.int .i64 2, .bool false, .string ⟨#[]⟩, .int .i64 0] 23
  obtain ⟨W, hW⟩ : ∃ W, W = ((w.alloc (.cells #[.int .i64 23, .int .i64 8] 32)).alloc (.cells #[.int .i64 2, .bool false, .string ⟨#[]⟩, .int .i64 0] 23)) := ⟨_, rfl⟩
  rw [← hW] at blkk blkd
  have HBW : Hid (Below w.heap.size w W) := by rw [hW]; exact ((Below.refl _ _).alloc (Nat.le_refl _) _).alloc (by simp) _
  have BLK := hide blkk
  have BLD := hide blkd
  have x0 : W.cell? ⟨w.heap.size, 0, none⟩ = some (.int .i64 23) := blkk.cell 0
  have x1 : W.cell? ⟨w.heap.size, 1, none⟩ = some (.int .i64 8) := blkk.cell 1
  have y0 : W.cell? ⟨w.heap.size + 1, 0, none⟩ = some (.int .i64 2) := blkd.cell 0
  have y1 : W.cell? ⟨w.heap.size + 1, 1, none⟩ = some (.bool false) := blkd.cell 1
  have y2 : W.cell? ⟨w.heap.size + 1, 2, none⟩ = some (.string ⟨#[]⟩) := blkd.cell 2
  have y3 : W.cell? ⟨w.heap.size + 1, 3, none⟩ = some (.int .i64 0) := blkd.cell 3
  have HW := hide hW
  clear blkk blkd hW
  go_enter Tryz.func13, Tryz.ntmps13
  go_wp2_with fail
  simp only [← HW.out]
  go_quiet (fail)
  go_wp2
  go_ret
  refine ⟨?_, below_drewN HBW.out _⟩
  rw [← show bits .or .u64 (bits .or .u64 2139095040 4194304) 1 = 2143289345 by decide +kernel]
  rfl

set_option maxRecDepth 100000 in
set_option maxHeartbeats 1000000 in
theorem rto32_inf_false (w : World) : Calls Tryz.prog 13 #[k32, dcV 1 false ⟨#[]⟩ 0] w fun e w' => e = .returned (.int .u64 2139095040) ∧ Below w.heap.size w w' := by
  have blkk := (Blk.new w #[.int .i64 23, .int .i64 8] 32).alloc (.cells #[.int .i64 1, .bool false, .string ⟨#[]⟩, .int .i64 0] 23)
  have blkd := Blk.newAt (w.alloc (.cells #[.int .i64 23, .int .i64 8] 32)) (w.heap.size + 1) (by simp) #[.int .i64 1, .bool false, .string ⟨#[]⟩, .int .i64 0] 23
  obtain ⟨W, hW⟩ : ∃ W, W = ((w.alloc (.cells #[.int .i64 23, .int .i64 8] 32)).alloc (.cells #[.int .i64 1, .bool false, .string ⟨#[]⟩, .int .i64 0] 23)) := ⟨_, rfl⟩
  rw [← hW] at blkk blkd
  have HBW : Hid (Below w.heap.size w W) := by rw [hW]; exact ((Below.refl _ _).alloc (Nat.le_refl _) _).alloc (by simp) _
  have BLK := hide blkk
  have BLD := hide blkd
  have x0 : W.cell? ⟨w.heap.size, 0, none⟩ = some (.int .i64 23) := blkk.cell 0
  have x1 : W.cell? ⟨w.heap.size, 1, none⟩ = some (.int .i64 8) := blkk.cell 1
  have y0 : W.cell? ⟨w.heap.size + 1, 0, none⟩ = some (.int .i64 1) := blkd.cell 0
  have y1 : W.cell? ⟨w.heap.size + 1, 1, none⟩ = some (.bool false) := blkd.cell 1
  have y2 : W.cell? ⟨w.heap.size + 1, 2, none⟩ = some (.string ⟨#[]⟩) := blkd.cell 2
  have y3 : W.cell? ⟨w.heap.size + 1, 3, none⟩ = some (.int .i64 0) := blkd.cell 3
  have HW := hide hW
  clear blkk blkd hW
  go_enter Tryz.func13, Tryz.ntmps13
  go_wp2_with fail
  simp only [← HW.out]
  go_quiet (fail)
  go_wp2
  go_ret
  refine ⟨?_, below_drewN HBW.out _⟩
  rw [← show bits .or .u64 0 2139095040 = 2139095040 by decide +kernel]
  rfl

set_option maxRecDepth 100000 in
set_option maxHeartbeats 1000000 in
theorem rto32_zero_false (w : World) : Calls Tryz.prog 13 #[k32, dcV 0 false ⟨#[]⟩ 0] w fun e w' => e = .returned (.int .u64 0) ∧ Below w.heap.size w w' := by
  have blkk := (Blk.new w #[.int .i64 23, .int .i64 8] 32).alloc (.cells #[.int .i64 0, .bool false, .string ⟨#[]⟩, .int .i64 0] 23)
  have blkd := Blk.newAt (w.alloc (.cells #[.int .i64 23, .int .i64 8] 32)) (w.heap.size + 1) (by simp) #[.int .i64 0, .bool false, .string ⟨#[]⟩, .int .i64 0] 23
  obtain ⟨W, hW⟩ : ∃ W, W = ((w.alloc (.cells #[.int .i64 23, .int .i64 8] 32)).alloc (.cells #[.int .i64 0, .bool false, .string ⟨#[]⟩, .int .i64 0] 23)) := ⟨_, rfl⟩
  rw [← hW] at blkk blkd
  have HBW : Hid (Below w.heap.size w W) := by rw [hW]; exact ((Below.refl _ _).alloc (Nat.le_refl _) _).alloc (by simp) _
  have BLK := hide blkk
  have BLD := hide blkd
  have x0 : W.cell? ⟨w.heap.size, 0, none⟩ = some (.int .i64 23) := blkk.cell 0
  have x1 : W.cell? ⟨w.heap.size, 1, none⟩ = some (.int .i64 8) := blkk.cell 1
  have y0 : W.cell? ⟨w.heap.size + 1, 0, none⟩ = some (.int .i64 0) := blkd.cell 0
  have y1 : W.cell? ⟨w.heap.size + 1, 1, none⟩ = some (.bool false) := blkd.cell 1
  have y2 : W.cell? ⟨w.heap.size + 1, 2, none⟩ = some (.string ⟨#[]⟩) := blkd.cell 2
  have y3 : W.cell? ⟨w.heap.size + 1, 3, none⟩ = some (.int .i64 0) := blkd.cell 3
  have HW := hide hW
  clear blkk blkd hW
  go_enter Tryz.func13, Tryz.ntmps13
  go_wp2_with fail
  simp only [← HW.out]
  go_quiet (fail)
  go_wp2
  go_ret
  refine ⟨?_, below_drewN HBW.out _⟩
  rfl

set_option maxRecDepth 100000 in
set_option maxHeartbeats 1000000 in
theorem rto32_inf_true (w : World) : Calls Tryz.prog 13 #[k32, dcV 1 true ⟨#[]⟩ 0] w fun e w' => e = .returned (.int .u64 4286578688) ∧ Below w.heap.size w w' := by
  have blkk := (Blk.new w #[.int .i64 23, .int .i64 8] 32).alloc (.cells #[.int .i64 1, .bool true, .string ⟨#[]⟩, .int .i64 0] 23)
  have blkd := Blk.newAt (w.alloc (.cells #[.int .i64 23, .int .i64 8] 32)) (w.heap.size + 1) (by simp) #[.int .i64 1, .bool true, .string ⟨#[]⟩, .int .i64 0] 23
  obtain ⟨W, hW⟩ : ∃ W, W = ((w.alloc (.cells #[.int .i64 23, .int .i64 8] 32)).alloc (.cells #[.int .i64 1, .bool true, .string ⟨#[]⟩, .int .i64 0] 23)) := ⟨_, rfl⟩
  rw [← hW] at blkk blkd
  have HBW : Hid (Below w.heap.size w W) := by rw [hW]; exact ((Below.refl _ _).alloc (Nat.le_refl _) _).alloc (by simp) _
  have BLK := hide blkk
  have BLD := hide blkd
  have x0 : W.cell? ⟨w.heap.size, 0, none⟩ = some (.int .i64 23) := blkk.cell 0
  have x1 : W.cell? ⟨w.heap.size, 1, none⟩ = some (.int .i64 8) := blkk.cell 1
  have y0 : W.cell? ⟨w.heap.size + 1, 0, none⟩ = some (.int .i64 1) := blkd.cell 0
  have y1 : W.cell? ⟨w.heap.size + 1, 1, none⟩ = some (.bool true) := blkd.cell 1
  have y2 : W.cell? ⟨w.heap.size + 1, 2, none⟩ = some (.string ⟨#[]⟩) := blkd.cell 2
  have y3 : W.cell? ⟨w.heap.size + 1, 3, none⟩ = some (.int .i64 0) := blkd.cell 3
  have HW := hide hW
  clear blkk blkd hW
  go_enter Tryz.func13, Tryz.ntmps13
  go_wp2_with fail
  simp only [← HW.out]
  go_quiet (fail)
  go_wp2
  go_ret
  refine ⟨?_, below_drewN HBW.out _⟩
  rw [← show bits .or .u64 2147483648 2139095040 = 4286578688 by decide +kernel]
  rfl

set_option maxRecDepth 100000 in
set_option maxHeartbeats 1000000 in
theorem rto32_zero_true (w : World) : Calls Tryz.prog 13 #[k32, dcV 0 true ⟨#[]⟩ 0] w fun e w' => e = .returned (.int .u64 2147483648) ∧ Below w.heap.size w w' := by
  have blkk := (Blk.new w #[.int .i64 23, .int .i64 8] 32).alloc (.cells #[.int .i64 0, .bool true, .string ⟨#[]⟩, .int .i64 0] 23)
  have blkd := Blk.newAt (w.alloc (.cells #[.int .i64 23, .int .i64 8] 32)) (w.heap.size + 1) (by simp) #[.int .i64 0, .bool true, .string ⟨#[]⟩, .int .i64 0] 23
  obtain ⟨W, hW⟩ : ∃ W, W = ((w.alloc (.cells #[.int .i64 23, .int .i64 8] 32)).alloc (.cells #[.int .i64 0, .bool true, .string ⟨#[]⟩, .int .i64 0] 23)) := ⟨_, rfl⟩
  rw [← hW] at blkk blkd
  have HBW : Hid (Below w.heap.size w W) := by rw [hW]; exact ((Below.refl _ _).alloc (Nat.le_refl _) _).alloc (by simp) _
  have BLK := hide blkk
  have BLD := hide blkd
  have x0 : W.cell? ⟨w.heap.size, 0, none⟩ = some (.int .i64 23) := blkk.cell 0
  have x1 : W.cell? ⟨w.heap.size, 1, none⟩ = some (.int .i64 8) := blkk.cell 1
  have y0 : W.cell? ⟨w.heap.size + 1, 0, none⟩ = some (.int .i64 0) := blkd.cell 0
  have y1 : W.cell? ⟨w.heap.size + 1, 1, none⟩ = some (.bool true) := blkd.cell 1
  have y2 : W.cell? ⟨w.heap.size + 1, 2, none⟩ = some (.string ⟨#[]⟩) := blkd.cell 2
  have y3 : W.cell? ⟨w.heap.size + 1, 3, none⟩ = some (.int .i64 0) := blkd.cell 3
  have HW := hide hW
  clear blkk blkd hW
  go_enter Tryz.func13, Tryz.ntmps13
  go_wp2_with fail
  simp only [← HW.out]
  go_quiet (fail)
  go_wp2
  go_ret
  refine ⟨?_, below_drewN HBW.out _⟩
  rfl

/-- At the head of To's loop. -/
structure To32Inv (w : World) (o u : Nat) (e : Int) (vo vu vm : Value) (wr : World) : Prop where
  bel : Below w.heap.size w wr
  blk : Blk wr w.heap.size #[.int .i64 23, .int .i64 8] 32
  inv : RInv 23 149 o u e
  up : e ≤ 31000
  no : Nr wr vo o
  nu : Nr wr vu u
  nm : Nr wr vm (rnd o u e)

/-- What To answers at its loop's end. -/
theorem to32_end {o u : Nat} {e : Int} {wr w : World} {vo vu vm : Value} (h : To32Inv w o u e vo vu vm wr) (ho : o ≠ 0) (hu : u ≠ 0) (hm : rnd o u e < 16777216) : bitsOf 23 149 (infN 23 8) o u = min ((e + 149).toNat * 8388608 + rnd o u e) 2139095040 ∧ ((e + 149).toNat ≠ 0 → 8388608 ≤ rnd o u e) := by
  have e1 : (2 : Nat) ^ 23 = 8388608 := by decide
  obtain ⟨h1, h2⟩ := h.inv.lies (I := infN 23 8) (by omega) (by rw [inf32]) hu (by rw [e1]; omega)
  have h3 := bitsOf_lies (F := 23) (B := 149) (I := infN 23 8) (by omega) (by rw [inf32]) ho hu
  have h4 := h3.uniq h1 (by omega) (by omega) rfl
  rw [e1] at h4 h2
  rw [inf32] at h4 ⊢
  exact ⟨h4, h2⟩

set_option maxRecDepth 100000 in
set_option maxHeartbeats 4000000 in
theorem rto32_false_neg (t : ByteArray) (ex : Int) (n : Nat) (w : World) (h : DigD (bys t) ex) (hex : ex = -(n : Int)) (hs : ¬ 0 ≤ ex) :
    Calls Tryz.prog 13 #[k32, dcV 0 false t ex] w fun e w' => e = .returned (.int .u64 ((bitsOf 23 149 (infN 23 8) (decV (bys t) * 10 ^ ex.toNat) (10 ^ (-ex).toNat) : Nat) : Int)) ∧ Below w.heap.size w w' := by
  have NS := Nums.of h
  obtain ⟨h0, h1, h2, h3, h4, h5, h6⟩ := h
  rw [bys_len] at h1 h2 h3
  have hne : t.size ≠ 0 := fun e => h0 (bys_nil.2 e)
  have ht := toList_ne hne
  have hnl : n ≤ 3000 := by omega
  have OFC : Hid (∀ W', Calls Tryz.prog 28 #[.string t] W' (NrPost W' (decV (bys t)))) := fun W' => (rof_any t W' (by omega) h6).mono fun e w' hh => NrPost.of hh
  have PW : Hid (∀ W' z, z = (n : Int) → Calls Tryz.prog 29 #[.int .i64 10, .int .i64 z] W' (NrPost W' (10 ^ n))) := fun W' z hz => nr_pow10 z n W' hz (by omega)
  have s1 : Sm (decV (bys t)) := Sm.of (decV_lt _ _ rfl h6) (by rw [bys_len]; omega)
  have SS : Hid (Sm (decV (bys t)) ∧ Sm (10 ^ n)) := ⟨s1, (fit_pow n hnl).sm0⟩
  obtain ⟨o, ho⟩ : ∃ o, o = decV (bys t) * 10 ^ ex.toNat := ⟨_, rfl⟩
  obtain ⟨u, hu⟩ : ∃ u, u = 10 ^ (-ex).toNat := ⟨_, rfl⟩
  rw [← ho, ← hu] at NS ⊢
  have OU : Hid (decV (bys t) = o ∧ 10 ^ n = u) := by
    refine ⟨by rw [ho, show ex.toNat = 0 by omega, Nat.pow_zero, Nat.mul_one], by rw [hu, show (-ex).toNat = n by omega]⟩
  have bo := NS.fo.bits
  have bu := NS.fu.bits
  obtain ⟨bo', hbo⟩ : ∃ z, z = bitsN o := ⟨_, rfl⟩
  obtain ⟨bu', hbu⟩ : ∃ z, z = bitsN u := ⟨_, rfl⟩
  obtain ⟨e0, he0⟩ : ∃ e : Int, e = max ((bo' : Int) - (bu' : Int) - 23 - 2) (-149) := ⟨_, rfl⟩
  have ST : Hid (RInv 23 149 o u e0) := by rw [he0, hbo, hbu]; exact RInv.start NS.o0 NS.u0
  have EN : Hid (∀ e : Int, -149 ≤ e → 16777216 ≤ rnd o u e → e < (bo' : Int) - (bu' : Int) + 1 - 23) := fun e h1 h2 => by
    rcases Int.lt_or_le e ((bo' : Int) - (bu' : Int) + 1 - 23) with h3 | h3
    · exact h3
    · exfalso
      have := rnd_end (F := 23) (B := 149) NS.o0 NS.u0 h1 (by rw [← hbo, ← hbu]; exact h3)
      have e1 : (2 : Nat) ^ 23 = 8388608 := by decide
      rw [e1] at this
      omega
  rw [← hbo] at bo
  rw [← hbu] at bu
  have BNO := hide hbo
  have BNU := hide hbu
  have NSH := hide NS
  obtain ⟨r, hr⟩ : ∃ r, r = bitsOf 23 149 (infN 23 8) o u := ⟨_, rfl⟩
  have HR := hide hr
  have RL : Hid (r ≤ 2139095040) := by show r ≤ 2139095040; rw [hr, ← inf32]; exact bitsOf_le _ _ _ _ _
  rw [← hr]
  obtain ⟨R, hRR⟩ : ∃ R, R = r := ⟨_, rfl⟩
  rw [← hRR]
  have OR : Hid (∀ a : Nat, r = a → bits .or .u64 0 (a : Int) = (R : Int)) := fun a ha => by
    subst ha
    have h1 : r ≤ 2139095040 := RL.out
    rw [hRR]
    exact or_zero r (by omega)
  have R0 : Hid (r = 0 → (R : Int) = 0) := fun h => by rw [hRR, h]; rfl
  clear hRR
  have hex1 : -ex = (n : Int) := by omega
  have HEX := hide hex1
  have hxb : -3000 ≤ ex := by omega
  clear h0 h1 h2 h3 h4 h5 h6 hne s1 ho hu NS hbo hbu hr hex
  have blkk := (Blk.new w #[.int .i64 23, .int .i64 8] 32).alloc (.cells #[.int .i64 0, .bool false, .string t, .int .i64 ex] 23)
  have blkd := Blk.newAt (w.alloc (.cells #[.int .i64 23, .int .i64 8] 32)) (w.heap.size + 1) (by simp) #[.int .i64 0, .bool false, .string t, .int .i64 ex] 23
  obtain ⟨W, hW⟩ : ∃ W, W = ((w.alloc (.cells #[.int .i64 23, .int .i64 8] 32)).alloc (.cells #[.int .i64 0, .bool false, .string t, .int .i64 ex] 23)) := ⟨_, rfl⟩
  rw [← hW] at blkk blkd
  have HBW : Hid (Below w.heap.size w W) := by rw [hW]; exact ((Below.refl _ _).alloc (Nat.le_refl _) _).alloc (by simp) _
  have BLK := hide blkk
  have BLD := hide blkd
  have x0 : W.cell? ⟨w.heap.size, 0, none⟩ = some (.int .i64 23) := blkk.cell 0
  have x1 : W.cell? ⟨w.heap.size, 1, none⟩ = some (.int .i64 8) := blkk.cell 1
  have y0 : W.cell? ⟨w.heap.size + 1, 0, none⟩ = some (.int .i64 0) := blkd.cell 0
  have y1 : W.cell? ⟨w.heap.size + 1, 1, none⟩ = some (.bool false) := blkd.cell 1
  have y2 : W.cell? ⟨w.heap.size + 1, 2, none⟩ = some (.string t) := blkd.cell 2
  have y3 : W.cell? ⟨w.heap.size + 1, 3, none⟩ = some (.int .i64 ex) := blkd.cell 3
  have HW := hide hW
  clear blkk blkd hW
  go_enter Tryz.func13, Tryz.ntmps13
  go_wp2_with fail
  simp only [← HW.out]
  go_quiet (fail)
  go_wp2_with fail
  refine (OFC.out _).mono ?_
  rintro e w1 ⟨o1, c1, l1, rfl, n1, b1⟩
  have AL : Hid (Below w1.heap.size w1 (w1.alloc (.cells #[.int .u32 1] 34))) := (Below.refl _ _).alloc (Nat.le_refl _) _
  have HB1 := hide (HBW.out.trans (((below_drewN (Below.refl _ _) _).trans (b1.mono (Nat.le_refl _)) |>.trans (AL.out.mono b1.size)).mono HBW.out.size))
  have BK1 := hide (BLK.out.below ((below_drewN (Below.refl _ _) _).trans (b1.mono (Nat.le_refl _)) |>.trans (AL.out.mono b1.size)) BLK.out.lt)
  have BD1 := hide (BLD.out.below ((below_drewN (Below.refl _ _) _).trans (b1.mono (Nat.le_refl _)) |>.trans (AL.out.mono b1.size)) BLD.out.lt)
  have N1 := hide (n1.below AL.out)
  have N2 := hide (row_one32 w1)
  obtain ⟨V, hV⟩ : ∃ V, V = w1.alloc (.cells #[.int .u32 1] 34) := ⟨_, rfl⟩
  obtain ⟨g1, hg1⟩ : ∃ g, g = w1.heap.size := ⟨_, rfl⟩
  rw [← hV] at HB1 BK1 BD1 N1 N2
  rw [← hg1] at N2
  have z3 : V.cell? ⟨w.heap.size + 1, 3, none⟩ = some (.int .i64 ex) := BD1.out.cell 3
  have HVH := hide hV
  have HGH := hide hg1
  clear n1 b1 AL OFC HBW BLK BLD x0 x1 y0 y1 y2 y3 HW hV hg1
  go_wp2_with (simp only [← HVH.out, ← HGH.out])
  refine (PW.out _ _ (by first | rfl | exact HEX.out)).mono ?_
  rintro e wz ⟨o2, c2, l2, rfl, n2, b2⟩
  rw [OU.out.2] at n2
  have T3 := hide b2
  have NU := hide n2
  have NO : Hid (Nr wz (.slice o1 l1 c1) o) := by rw [← OU.out.1]; exact N1.out.below b2
  clear n2 b2 N1
  have HBZ := hide (HB1.out.trans (T3.out.mono HB1.out.size))
  have BKZ := hide (BK1.out.below T3.out BK1.out.lt)
  have x0 : wz.cell? ⟨w.heap.size, 0, none⟩ = some (.int .i64 23) := BKZ.out.cell 0
  have x1 : wz.cell? ⟨w.heap.size, 1, none⟩ = some (.int .i64 8) := BKZ.out.cell 1
  have BO : Hid (∀ n, Calls Tryz.prog 37 #[.slice o1 l1 c1] (wz.drewN n) fun e w' => e = .returned (.int .i64 (bo' : Int)) ∧ w' = wz.drewN n) := fun n => by
    refine (nr_bits _ o _ (NO.out.below (below_drewN (Below.refl _ _) n)) NSH.out.fo.sm0).mono ?_
    rintro e w' ⟨rfl, rfl⟩
    rw [BNO.out]; exact ⟨rfl, rfl⟩
  have BU : Hid (∀ n, Calls Tryz.prog 37 #[.slice o2 l2 c2] (wz.drewN n) fun e w' => e = .returned (.int .i64 (bu' : Int)) ∧ w' = wz.drewN n) := fun n => by
    refine (nr_bits _ u _ (NU.out.below (below_drewN (Below.refl _ _) n)) NSH.out.fu.sm0).mono ?_
    rintro e w' ⟨rfl, rfl⟩
    rw [BNU.out]; exact ⟨rfl, rfl⟩
  have RD : Hid (∀ W' z (e : Int), z = -e → -32000 ≤ e → e ≤ 32000 → Below wz.heap.size wz W' → Calls Tryz.prog 39 #[.slice o1 l1 c1, .slice o2 l2 c2, .int .i64 z] W' (NrPost W' (rnd o u e))) := fun W' z e hz h1 h2 hb => rounded_any _ _ _ _ _ _ o u e z W' hz (NO.out.below hb) (NU.out.below hb) NSH.out.fo NSH.out.fu h1 h2 NSH.out.u0
  have HE0 := hide he0
  clear T3 N2 z3 HB1 BK1 BD1 HVH HGH SS OU PW HEX BNO BNU he0
  go_wp2_with fail
  go_quiet (first | (go_at_call 37; with_reducible refine Calls.quiet_of_same (BO.out _)) | (go_at_call 37; with_reducible refine Calls.quiet_of_same (BU.out _)))
  clear BO BU
  go_wp2_with fail
  refine (bias32 _).mono ?_
  rintro e w4 ⟨rfl, b4⟩
  have T4 : Hid (Below wz.heap.size wz w4) := (below_drewN (Below.refl _ _) _).trans (b4.mono (Nat.le_refl _))
  have q4 := BKZ.out.below T4.out BKZ.out.lt
  have x04 : w4.cell? ⟨w.heap.size, 0, none⟩ = some (.int .i64 23) := q4.cell 0
  have x14 : w4.cell? ⟨w.heap.size, 1, none⟩ = some (.int .i64 8) := q4.cell 1
  clear b4 q4 x0 x1
  by_cases hc : (bo' : Int) - (bu' : Int) - 23 - 2 < -149
  · have he : e0 = -149 := by have := HE0.out; omega
    have HEE := hide he
    clear he HE0
    go_wp2_with fail
    refine (bias32 _).mono ?_
    rintro e w5 ⟨rfl, b5⟩
    have T5 := hide (T4.out.trans (b5.mono T4.out.size))
    clear b5 T4 x04 x14
    go_wp2_with fail
    refine (RD.out _ _ e0 (by have := HEE.out; omega) (by have := HEE.out; omega) (by have := HEE.out; omega) T5.out).mono ?_
    rintro e w6 ⟨om, cm, lm, rfl, nm, b6⟩
    have START : Hid (To32Inv w o u (-149) (.slice o1 l1 c1) (.slice o2 l2 c2) (.slice om lm cm) w6) := by
      have t6 := T5.out.trans (b6.mono T5.out.size)
      have := ST.out
      rw [HEE.out] at this nm
      exact ⟨HBZ.out.trans (t6.mono HBZ.out.size), BKZ.out.below t6 BKZ.out.lt, this, by omega, NO.out.below t6, NU.out.below t6, nm⟩
    clear nm b6 T5 ST HBZ BKZ NO NU RD hc
    go_wp2
    go_loopw [9, 10] (fun ve vm wr => ∃ (e : Int) (om : Option Addr) (lm cm : Nat), ve = .int .i64 e ∧ vm = .slice om lm cm ∧ To32Inv w o u e (.slice o1 l1 c1) (.slice o2 l2 c2) (.slice om lm cm) wr) (fun ve _ _ => ((bo' : Int) - (bu' : Int) + 1 - 23 - intOf ve).toNat)
    case atStart => exact ⟨-149, om, lm, cm, rfl, rfl, START.out⟩
    case round =>
      clear START
      obtain ⟨e, om, lm, cm, rfl, rfl, hinv⟩ := hrel
      have HI := hide hinv
      have heL := hinv.inv.1
      have heU := hinv.up
      clear hinv
      have x0 : wr.cell? ⟨w.heap.size, 0, none⟩ = some (.int .i64 23) := HI.out.blk.cell 0
      obtain ⟨m, hm⟩ : ∃ m, m = rnd o u e := ⟨_, rfl⟩
      obtain ⟨bm, hbm⟩ : ∃ z, z = bitsN m := ⟨_, rfl⟩
      have BM : Hid (∀ n, Calls Tryz.prog 37 #[.slice om lm cm] (wr.drewN n) fun e w' => e = .returned (.int .i64 (bm : Int)) ∧ w' = wr.drewN n) := fun n => by
        refine (nr_bits _ m _ (by rw [hm]; exact HI.out.nm.below (below_drewN (Below.refl _ _) n)) (by rw [hm]; exact rnd_sm NSH.out.fo NSH.out.u0 (by omega))).mono ?_
        rintro e w' ⟨rfl, rfl⟩
        rw [hbm]; exact ⟨rfl, rfl⟩
      have HM := hide hm
      have HBM := hide hbm
      clear hm hbm
      go_wp2_with fail
      go_quiet (first | (go_at_call 37; with_reducible refine Calls.quiet_of_same (BM.out _)))
      clear BM
      by_cases hb : 24 < bm
      · have hb' : (24 : Int) < (bm : Int) := by omega
        have hlt : e < (bo' : Int) - (bu' : Int) + 1 - 23 := EN.out e heL (by
          rw [← HM.out]
          exact bitsN_gt (k := 24) (by rw [← HBM.out]; exact hb))
        have NX : Hid (RInv 23 149 o u (e + 1)) := HI.out.inv.step NSH.out.u0 (by
          rw [← HM.out]
          have := bitsN_gt (n := m) (k := 24) (by rw [← HBM.out]; exact hb)
          have e1 : 2 * 2 ^ 23 = 2 ^ 24 := by decide
          omega)
        have RD : Hid (∀ n z, z = -(e + 1) → Calls Tryz.prog 39 #[.slice o1 l1 c1, .slice o2 l2 c2, .int .i64 z] (wr.drewN n) (NrPost (wr.drewN n) (rnd o u (e + 1)))) := fun n z hz => rounded_any _ _ _ _ _ _ o u (e + 1) z _ hz (HI.out.no.below (below_drewN (Below.refl _ _) n)) (HI.out.nu.below (below_drewN (Below.refl _ _) n)) NSH.out.fo NSH.out.fu (by omega) (by omega) NSH.out.u0
        clear hb
        go_wp2_with fail
        refine (RD.out _ _ (by omega)).mono ?_
        rintro e2 w7 ⟨om2, cm2, lm2, rfl, nm2, b7⟩
        have T7 : Hid (Below wr.heap.size wr w7) := (below_drewN (Below.refl _ _) _).trans (b7.mono (Nat.le_refl _))
        have NEXT : Hid (To32Inv w o u (e + 1) (.slice o1 l1 c1) (.slice o2 l2 c2) (.slice om2 lm2 cm2) w7) := ⟨HI.out.bel.trans (T7.out.mono HI.out.bel.size), HI.out.blk.below T7.out HI.out.blk.lt, NX.out, by omega, HI.out.no.below T7.out, HI.out.nu.below T7.out, nm2⟩
        clear nm2 b7 T7 NX RD HI
        go_wp2
        go_roundw
        case rel => exact ⟨e + 1, om2, lm2, cm2, by go_num, rfl, NEXT.out⟩
        case measure => simp [intOf]; omega
      · have hb' : ¬ (24 : Int) < (bm : Int) := by omega
        have mlt : m < 16777216 := bitsN_low (k := 24) (by rw [← HBM.out]; omega)
        obtain ⟨s, hse⟩ : ∃ s : Nat, e = (s : Int) - 149 := ⟨(e + 149).toNat, by omega⟩
        have hs1 : s ≤ 33000 := by omega
        have ED := to32_end HI.out NSH.out.o0 NSH.out.u0 (by rw [← HM.out]; exact mlt)
        rw [← HM.out, ← HR.out, show (e + 149).toNat = s by omega] at ED
        have RE := hide ED
        have OUTC : Hid (∀ n, Calls Tryz.prog 40 #[.slice om lm cm] (wr.drewN n) fun e w' => ∃ o l c, e = .returned (.slice o l c) ∧ Hid (Below wr.heap.size wr w') ∧ ((m = 0 ∧ l = 0) ∨ (m ≠ 0 ∧ 0 < l ∧ ∃ g f, o = some ⟨g, f, none⟩ ∧ g < w'.heap.size ∧ w'.cell? ⟨g, f, none⟩ = some (.int .u64 (m : Int))))) := fun n => by
          refine (nr_out _ m _ (by rw [HM.out]; exact HI.out.nm.below (below_drewN (Below.refl _ _) n)) (by unfold B64; omega)).mono ?_
          rintro e w' ⟨oo, ll, cc, rfl, h1, h2⟩
          exact ⟨oo, ll, cc, rfl, (below_drewN (Below.refl _ _) _).trans (h1.mono (Nat.le_refl _)), h2⟩
        have BLR := hide HI.out.blk
        have BEL := hide HI.out.bel
        clear ED HI HM HBM EN heL heU hb
        subst hse
        go_wp2_with fail
        refine (OUTC.out _).mono ?_
        rintro e w5 ⟨ol, ll, cl, rfl, b5, hcase⟩
        have BEL5 := hide (BEL.out.trans (b5.out.mono BEL.out.size))
        have BLR5 := hide (BLR.out.below b5.out BLR.out.lt)
        clear b5 BEL BLR OUTC x0
        rcases hcase with ⟨hm0, rfl⟩ | ⟨hm0, hl, g, f, rfl, hg, hcell⟩
        · have hr0 : r = 0 := by
            obtain ⟨h1, h2⟩ := RE.out
            rcases Nat.eq_zero_or_pos s with h3 | h3
            · rw [h1, h3, hm0]; rfl
            · have := h2 (by omega); omega
          have HR0 := hide (R0.out hr0)
          clear RE RL hm0 hr0 OR R0
          go_wp2
          go_ret
          refine ⟨?_, BEL5.out⟩
          rw [HR0.out]
          rfl
        · have hl' : (0 : Int) < (ll : Int) := by omega
          have hl'' : ¬ (ll : Int) = 0 := by omega
          have x05 : w5.cell? ⟨w.heap.size, 0, none⟩ = some (.int .i64 23) := BLR5.out.cell 0
          have x15 : w5.cell? ⟨w.heap.size, 1, none⟩ = some (.int .i64 8) := BLR5.out.cell 1
          go_wp2_with fail
          refine (bias32 _).mono ?_
          rintro e w6 ⟨rfl, b6⟩
          have BEL6 := hide (BEL5.out.trans (b6.mono BEL5.out.size))
          have q6 := BLR5.out.below b6 BLR5.out.lt
          have x06 : w6.cell? ⟨w.heap.size, 0, none⟩ = some (.int .i64 23) := q6.cell 0
          have x16 : w6.cell? ⟨w.heap.size, 1, none⟩ = some (.int .i64 8) := q6.cell 1
          have hc6 : w6.cell? ⟨g, f, none⟩ = some (.int .u64 (m : Int)) := by rw [World.cell?_of_block (w := w5) (b6.block g hg)]; exact hcell
          clear b6 q6 BEL5 BLR5 x05 x15 hcell hg
          by_cases hx : 255 ≤ s
          · have hx' : (255 : Int) ≤ (s : Int) := by omega
            have hrI : r = 2139095040 := by have := RE.out.1; omega
            have FV := hide (OR.out 2139095040 hrI)
            clear RE RL hx hrI OR R0
            go_wp2
            go_ret
            refine ⟨?_, BEL6.out⟩
            rw [← FV.out]
            rfl
          · have hx' : ¬ (255 : Int) ≤ (s : Int) := by omega
            go_wp2_with fail
            go_quiet (fail)
            by_cases hge : 2139095040 ≤ s * 8388608 + m
            · have hge' : (2139095040 : Int) ≤ (s : Int) * 8388608 + (m : Int) := by omega
              have hrI : r = 2139095040 := by have := RE.out.1; omega
              have FV := hide (OR.out 2139095040 hrI)
              clear RE RL hx hge hrI OR R0
              go_wp2
              go_ret
              refine ⟨?_, below_drewN BEL6.out _⟩
              rw [← FV.out]
              rfl
            · have hge' : ¬ (2139095040 : Int) ≤ (s : Int) * 8388608 + (m : Int) := by omega
              have hrI : r = s * 8388608 + m := by have := RE.out.1; omega
              have FV := hide (OR.out (s * 8388608 + m) hrI)
              clear RE RL hx hge hrI OR R0
              go_wp2
              go_ret
              refine ⟨?_, below_drewN BEL6.out _⟩
              rw [← FV.out, show ((s * 8388608 + m : Nat) : Int) = (s : Int) * 8388608 + (m : Int) by omega]
              rfl

  · have he : e0 = (bo' : Int) - (bu' : Int) - 23 - 2 := by have := HE0.out; omega
    have HEE := hide he
    clear he HE0
    go_wp2_with fail
    refine (RD.out _ _ e0 (by have := HEE.out; omega) (by have := HEE.out; omega) (by have := HEE.out; omega) T4.out).mono ?_
    rintro e w6 ⟨om, cm, lm, rfl, nm, b6⟩
    have START : Hid (To32Inv w o u ((bo' : Int) - (bu' : Int) - 23 - 2) (.slice o1 l1 c1) (.slice o2 l2 c2) (.slice om lm cm) w6) := by
      have t6 := T4.out.trans (b6.mono T4.out.size)
      have := ST.out
      rw [HEE.out] at this nm
      exact ⟨HBZ.out.trans (t6.mono HBZ.out.size), BKZ.out.below t6 BKZ.out.lt, this, by omega, NO.out.below t6, NU.out.below t6, nm⟩
    clear nm b6 T4 ST HBZ BKZ NO NU RD hc x04 x14
    go_wp2
    go_loopw [9, 10] (fun ve vm wr => ∃ (e : Int) (om : Option Addr) (lm cm : Nat), ve = .int .i64 e ∧ vm = .slice om lm cm ∧ To32Inv w o u e (.slice o1 l1 c1) (.slice o2 l2 c2) (.slice om lm cm) wr) (fun ve _ _ => ((bo' : Int) - (bu' : Int) + 1 - 23 - intOf ve).toNat)
    case atStart => exact ⟨(bo' : Int) - (bu' : Int) - 23 - 2, om, lm, cm, rfl, rfl, START.out⟩
    case round =>
      clear START
      obtain ⟨e, om, lm, cm, rfl, rfl, hinv⟩ := hrel
      have HI := hide hinv
      have heL := hinv.inv.1
      have heU := hinv.up
      clear hinv
      have x0 : wr.cell? ⟨w.heap.size, 0, none⟩ = some (.int .i64 23) := HI.out.blk.cell 0
      obtain ⟨m, hm⟩ : ∃ m, m = rnd o u e := ⟨_, rfl⟩
      obtain ⟨bm, hbm⟩ : ∃ z, z = bitsN m := ⟨_, rfl⟩
      have BM : Hid (∀ n, Calls Tryz.prog 37 #[.slice om lm cm] (wr.drewN n) fun e w' => e = .returned (.int .i64 (bm : Int)) ∧ w' = wr.drewN n) := fun n => by
        refine (nr_bits _ m _ (by rw [hm]; exact HI.out.nm.below (below_drewN (Below.refl _ _) n)) (by rw [hm]; exact rnd_sm NSH.out.fo NSH.out.u0 (by omega))).mono ?_
        rintro e w' ⟨rfl, rfl⟩
        rw [hbm]; exact ⟨rfl, rfl⟩
      have HM := hide hm
      have HBM := hide hbm
      clear hm hbm
      go_wp2_with fail
      go_quiet (first | (go_at_call 37; with_reducible refine Calls.quiet_of_same (BM.out _)))
      clear BM
      by_cases hb : 24 < bm
      · have hb' : (24 : Int) < (bm : Int) := by omega
        have hlt : e < (bo' : Int) - (bu' : Int) + 1 - 23 := EN.out e heL (by
          rw [← HM.out]
          exact bitsN_gt (k := 24) (by rw [← HBM.out]; exact hb))
        have NX : Hid (RInv 23 149 o u (e + 1)) := HI.out.inv.step NSH.out.u0 (by
          rw [← HM.out]
          have := bitsN_gt (n := m) (k := 24) (by rw [← HBM.out]; exact hb)
          have e1 : 2 * 2 ^ 23 = 2 ^ 24 := by decide
          omega)
        have RD : Hid (∀ n z, z = -(e + 1) → Calls Tryz.prog 39 #[.slice o1 l1 c1, .slice o2 l2 c2, .int .i64 z] (wr.drewN n) (NrPost (wr.drewN n) (rnd o u (e + 1)))) := fun n z hz => rounded_any _ _ _ _ _ _ o u (e + 1) z _ hz (HI.out.no.below (below_drewN (Below.refl _ _) n)) (HI.out.nu.below (below_drewN (Below.refl _ _) n)) NSH.out.fo NSH.out.fu (by omega) (by omega) NSH.out.u0
        clear hb
        go_wp2_with fail
        refine (RD.out _ _ (by omega)).mono ?_
        rintro e2 w7 ⟨om2, cm2, lm2, rfl, nm2, b7⟩
        have T7 : Hid (Below wr.heap.size wr w7) := (below_drewN (Below.refl _ _) _).trans (b7.mono (Nat.le_refl _))
        have NEXT : Hid (To32Inv w o u (e + 1) (.slice o1 l1 c1) (.slice o2 l2 c2) (.slice om2 lm2 cm2) w7) := ⟨HI.out.bel.trans (T7.out.mono HI.out.bel.size), HI.out.blk.below T7.out HI.out.blk.lt, NX.out, by omega, HI.out.no.below T7.out, HI.out.nu.below T7.out, nm2⟩
        clear nm2 b7 T7 NX RD HI
        go_wp2
        go_roundw
        case rel => exact ⟨e + 1, om2, lm2, cm2, by go_num, rfl, NEXT.out⟩
        case measure => simp [intOf]; omega
      · have hb' : ¬ (24 : Int) < (bm : Int) := by omega
        have mlt : m < 16777216 := bitsN_low (k := 24) (by rw [← HBM.out]; omega)
        obtain ⟨s, hse⟩ : ∃ s : Nat, e = (s : Int) - 149 := ⟨(e + 149).toNat, by omega⟩
        have hs1 : s ≤ 33000 := by omega
        have ED := to32_end HI.out NSH.out.o0 NSH.out.u0 (by rw [← HM.out]; exact mlt)
        rw [← HM.out, ← HR.out, show (e + 149).toNat = s by omega] at ED
        have RE := hide ED
        have OUTC : Hid (∀ n, Calls Tryz.prog 40 #[.slice om lm cm] (wr.drewN n) fun e w' => ∃ o l c, e = .returned (.slice o l c) ∧ Hid (Below wr.heap.size wr w') ∧ ((m = 0 ∧ l = 0) ∨ (m ≠ 0 ∧ 0 < l ∧ ∃ g f, o = some ⟨g, f, none⟩ ∧ g < w'.heap.size ∧ w'.cell? ⟨g, f, none⟩ = some (.int .u64 (m : Int))))) := fun n => by
          refine (nr_out _ m _ (by rw [HM.out]; exact HI.out.nm.below (below_drewN (Below.refl _ _) n)) (by unfold B64; omega)).mono ?_
          rintro e w' ⟨oo, ll, cc, rfl, h1, h2⟩
          exact ⟨oo, ll, cc, rfl, (below_drewN (Below.refl _ _) _).trans (h1.mono (Nat.le_refl _)), h2⟩
        have BLR := hide HI.out.blk
        have BEL := hide HI.out.bel
        clear ED HI HM HBM EN heL heU hb
        subst hse
        go_wp2_with fail
        refine (OUTC.out _).mono ?_
        rintro e w5 ⟨ol, ll, cl, rfl, b5, hcase⟩
        have BEL5 := hide (BEL.out.trans (b5.out.mono BEL.out.size))
        have BLR5 := hide (BLR.out.below b5.out BLR.out.lt)
        clear b5 BEL BLR OUTC x0
        rcases hcase with ⟨hm0, rfl⟩ | ⟨hm0, hl, g, f, rfl, hg, hcell⟩
        · have hr0 : r = 0 := by
            obtain ⟨h1, h2⟩ := RE.out
            rcases Nat.eq_zero_or_pos s with h3 | h3
            · rw [h1, h3, hm0]; rfl
            · have := h2 (by omega); omega
          have HR0 := hide (R0.out hr0)
          clear RE RL hm0 hr0 OR R0
          go_wp2
          go_ret
          refine ⟨?_, BEL5.out⟩
          rw [HR0.out]
          rfl
        · have hl' : (0 : Int) < (ll : Int) := by omega
          have hl'' : ¬ (ll : Int) = 0 := by omega
          have x05 : w5.cell? ⟨w.heap.size, 0, none⟩ = some (.int .i64 23) := BLR5.out.cell 0
          have x15 : w5.cell? ⟨w.heap.size, 1, none⟩ = some (.int .i64 8) := BLR5.out.cell 1
          go_wp2_with fail
          refine (bias32 _).mono ?_
          rintro e w6 ⟨rfl, b6⟩
          have BEL6 := hide (BEL5.out.trans (b6.mono BEL5.out.size))
          have q6 := BLR5.out.below b6 BLR5.out.lt
          have x06 : w6.cell? ⟨w.heap.size, 0, none⟩ = some (.int .i64 23) := q6.cell 0
          have x16 : w6.cell? ⟨w.heap.size, 1, none⟩ = some (.int .i64 8) := q6.cell 1
          have hc6 : w6.cell? ⟨g, f, none⟩ = some (.int .u64 (m : Int)) := by rw [World.cell?_of_block (w := w5) (b6.block g hg)]; exact hcell
          clear b6 q6 BEL5 BLR5 x05 x15 hcell hg
          by_cases hx : 255 ≤ s
          · have hx' : (255 : Int) ≤ (s : Int) := by omega
            have hrI : r = 2139095040 := by have := RE.out.1; omega
            have FV := hide (OR.out 2139095040 hrI)
            clear RE RL hx hrI OR R0
            go_wp2
            go_ret
            refine ⟨?_, BEL6.out⟩
            rw [← FV.out]
            rfl
          · have hx' : ¬ (255 : Int) ≤ (s : Int) := by omega
            go_wp2_with fail
            go_quiet (fail)
            by_cases hge : 2139095040 ≤ s * 8388608 + m
            · have hge' : (2139095040 : Int) ≤ (s : Int) * 8388608 + (m : Int) := by omega
              have hrI : r = 2139095040 := by have := RE.out.1; omega
              have FV := hide (OR.out 2139095040 hrI)
              clear RE RL hx hge hrI OR R0
              go_wp2
              go_ret
              refine ⟨?_, below_drewN BEL6.out _⟩
              rw [← FV.out]
              rfl
            · have hge' : ¬ (2139095040 : Int) ≤ (s : Int) * 8388608 + (m : Int) := by omega
              have hrI : r = s * 8388608 + m := by have := RE.out.1; omega
              have FV := hide (OR.out (s * 8388608 + m) hrI)
              clear RE RL hx hge hrI OR R0
              go_wp2
              go_ret
              refine ⟨?_, below_drewN BEL6.out _⟩
              rw [← FV.out, show ((s * 8388608 + m : Nat) : Int) = (s : Int) * 8388608 + (m : Int) by omega]
              rfl

set_option maxRecDepth 100000 in
set_option maxHeartbeats 4000000 in
theorem rto32_false_pos (t : ByteArray) (ex : Int) (n : Nat) (w : World) (h : DigD (bys t) ex) (hex : ex = (n : Int)) (hs : 0 ≤ ex) :
    Calls Tryz.prog 13 #[k32, dcV 0 false t ex] w fun e w' => e = .returned (.int .u64 ((bitsOf 23 149 (infN 23 8) (decV (bys t) * 10 ^ ex.toNat) (10 ^ (-ex).toNat) : Nat) : Int)) ∧ Below w.heap.size w w' := by
  have NS := Nums.of h
  obtain ⟨h0, h1, h2, h3, h4, h5, h6⟩ := h
  rw [bys_len] at h1 h2 h3
  have hne : t.size ≠ 0 := fun e => h0 (bys_nil.2 e)
  have ht := toList_ne hne
  have hnl : n ≤ 3000 := by omega
  have OFC : Hid (∀ W', Calls Tryz.prog 28 #[.string t] W' (NrPost W' (decV (bys t)))) := fun W' => (rof_any t W' (by omega) h6).mono fun e w' hh => NrPost.of hh
  have PW : Hid (∀ W' z, z = (n : Int) → Calls Tryz.prog 29 #[.int .i64 10, .int .i64 z] W' (NrPost W' (10 ^ n))) := fun W' z hz => nr_pow10 z n W' hz (by omega)
  have s1 : Sm (decV (bys t)) := Sm.of (decV_lt _ _ rfl h6) (by rw [bys_len]; omega)
  have SS : Hid (Sm (decV (bys t)) ∧ Sm (10 ^ n)) := ⟨s1, (fit_pow n hnl).sm0⟩
  obtain ⟨o, ho⟩ : ∃ o, o = decV (bys t) * 10 ^ ex.toNat := ⟨_, rfl⟩
  obtain ⟨u, hu⟩ : ∃ u, u = 10 ^ (-ex).toNat := ⟨_, rfl⟩
  rw [← ho, ← hu] at NS ⊢
  have OU : Hid (decV (bys t) * 10 ^ n = o ∧ 1 = u) := by
    refine ⟨by rw [ho, show ex.toNat = n by omega], by rw [hu, show (-ex).toNat = 0 by omega, Nat.pow_zero]⟩
  have bo := NS.fo.bits
  have bu := NS.fu.bits
  obtain ⟨bo', hbo⟩ : ∃ z, z = bitsN o := ⟨_, rfl⟩
  obtain ⟨bu', hbu⟩ : ∃ z, z = bitsN u := ⟨_, rfl⟩
  obtain ⟨e0, he0⟩ : ∃ e : Int, e = max ((bo' : Int) - (bu' : Int) - 23 - 2) (-149) := ⟨_, rfl⟩
  have ST : Hid (RInv 23 149 o u e0) := by rw [he0, hbo, hbu]; exact RInv.start NS.o0 NS.u0
  have EN : Hid (∀ e : Int, -149 ≤ e → 16777216 ≤ rnd o u e → e < (bo' : Int) - (bu' : Int) + 1 - 23) := fun e h1 h2 => by
    rcases Int.lt_or_le e ((bo' : Int) - (bu' : Int) + 1 - 23) with h3 | h3
    · exact h3
    · exfalso
      have := rnd_end (F := 23) (B := 149) NS.o0 NS.u0 h1 (by rw [← hbo, ← hbu]; exact h3)
      have e1 : (2 : Nat) ^ 23 = 8388608 := by decide
      rw [e1] at this
      omega
  rw [← hbo] at bo
  rw [← hbu] at bu
  have BNO := hide hbo
  have BNU := hide hbu
  have NSH := hide NS
  obtain ⟨r, hr⟩ : ∃ r, r = bitsOf 23 149 (infN 23 8) o u := ⟨_, rfl⟩
  have HR := hide hr
  have RL : Hid (r ≤ 2139095040) := by show r ≤ 2139095040; rw [hr, ← inf32]; exact bitsOf_le _ _ _ _ _
  rw [← hr]
  obtain ⟨R, hRR⟩ : ∃ R, R = r := ⟨_, rfl⟩
  rw [← hRR]
  have OR : Hid (∀ a : Nat, r = a → bits .or .u64 0 (a : Int) = (R : Int)) := fun a ha => by
    subst ha
    have h1 : r ≤ 2139095040 := RL.out
    rw [hRR]
    exact or_zero r (by omega)
  have R0 : Hid (r = 0 → (R : Int) = 0) := fun h => by rw [hRR, h]; rfl
  clear hRR
  have hex1 : ex = (n : Int) := hex
  have HEX := hide hex1
  clear hex1
  clear h0 h1 h2 h3 h4 h5 h6 hne s1 ho hu NS hbo hbu hr hex
  have blkk := (Blk.new w #[.int .i64 23, .int .i64 8] 32).alloc (.cells #[.int .i64 0, .bool false, .string t, .int .i64 ex] 23)
  have blkd := Blk.newAt (w.alloc (.cells #[.int .i64 23, .int .i64 8] 32)) (w.heap.size + 1) (by simp) #[.int .i64 0, .bool false, .string t, .int .i64 ex] 23
  obtain ⟨W, hW⟩ : ∃ W, W = ((w.alloc (.cells #[.int .i64 23, .int .i64 8] 32)).alloc (.cells #[.int .i64 0, .bool false, .string t, .int .i64 ex] 23)) := ⟨_, rfl⟩
  rw [← hW] at blkk blkd
  have HBW : Hid (Below w.heap.size w W) := by rw [hW]; exact ((Below.refl _ _).alloc (Nat.le_refl _) _).alloc (by simp) _
  have BLK := hide blkk
  have BLD := hide blkd
  have x0 : W.cell? ⟨w.heap.size, 0, none⟩ = some (.int .i64 23) := blkk.cell 0
  have x1 : W.cell? ⟨w.heap.size, 1, none⟩ = some (.int .i64 8) := blkk.cell 1
  have y0 : W.cell? ⟨w.heap.size + 1, 0, none⟩ = some (.int .i64 0) := blkd.cell 0
  have y1 : W.cell? ⟨w.heap.size + 1, 1, none⟩ = some (.bool false) := blkd.cell 1
  have y2 : W.cell? ⟨w.heap.size + 1, 2, none⟩ = some (.string t) := blkd.cell 2
  have y3 : W.cell? ⟨w.heap.size + 1, 3, none⟩ = some (.int .i64 ex) := blkd.cell 3
  have HW := hide hW
  clear blkk blkd hW
  go_enter Tryz.func13, Tryz.ntmps13
  go_wp2_with fail
  simp only [← HW.out]
  go_quiet (fail)
  go_wp2_with fail
  refine (OFC.out _).mono ?_
  rintro e w1 ⟨o1, c1, l1, rfl, n1, b1⟩
  have AL : Hid (Below w1.heap.size w1 (w1.alloc (.cells #[.int .u32 1] 34))) := (Below.refl _ _).alloc (Nat.le_refl _) _
  have HB1 := hide (HBW.out.trans (((below_drewN (Below.refl _ _) _).trans (b1.mono (Nat.le_refl _)) |>.trans (AL.out.mono b1.size)).mono HBW.out.size))
  have BK1 := hide (BLK.out.below ((below_drewN (Below.refl _ _) _).trans (b1.mono (Nat.le_refl _)) |>.trans (AL.out.mono b1.size)) BLK.out.lt)
  have BD1 := hide (BLD.out.below ((below_drewN (Below.refl _ _) _).trans (b1.mono (Nat.le_refl _)) |>.trans (AL.out.mono b1.size)) BLD.out.lt)
  have N1 := hide (n1.below AL.out)
  have N2 := hide (row_one32 w1)
  obtain ⟨V, hV⟩ : ∃ V, V = w1.alloc (.cells #[.int .u32 1] 34) := ⟨_, rfl⟩
  obtain ⟨g1, hg1⟩ : ∃ g, g = w1.heap.size := ⟨_, rfl⟩
  rw [← hV] at HB1 BK1 BD1 N1 N2
  rw [← hg1] at N2
  have z3 : V.cell? ⟨w.heap.size + 1, 3, none⟩ = some (.int .i64 ex) := BD1.out.cell 3
  have HVH := hide hV
  have HGH := hide hg1
  clear n1 b1 AL OFC HBW BLK BLD x0 x1 y0 y1 y2 y3 HW hV hg1
  go_wp2_with (simp only [← HVH.out, ← HGH.out])
  refine (PW.out _ _ HEX.out).mono ?_
  rintro e w2 ⟨o2, c2, l2, rfl, n2, b2⟩
  have N12 := hide (N1.out.below b2)
  have NP := hide n2
  have T2 := hide b2
  clear n2 b2 N1
  go_wp2_with fail
  refine (nr_mul _ _ (decV (bys t)) (10 ^ n) w2 N12.out NP.out SS.out.1 SS.out.2).mono ?_
  rintro e wz ⟨o3, c3, l3, rfl, n3, b3⟩
  rw [OU.out.1] at n3
  have T3 := hide (T2.out.trans (b3.mono T2.out.size))
  have NO := hide n3
  have NU : Hid (Nr wz (.slice (some ⟨g1, 0, none⟩) 1 1) u) := by rw [← OU.out.2]; exact N2.out.below T3.out
  clear n3 b3 T2 N12 NP
  have HBZ := hide (HB1.out.trans (T3.out.mono HB1.out.size))
  have BKZ := hide (BK1.out.below T3.out BK1.out.lt)
  have x0 : wz.cell? ⟨w.heap.size, 0, none⟩ = some (.int .i64 23) := BKZ.out.cell 0
  have x1 : wz.cell? ⟨w.heap.size, 1, none⟩ = some (.int .i64 8) := BKZ.out.cell 1
  have BO : Hid (∀ n, Calls Tryz.prog 37 #[.slice o3 l3 c3] (wz.drewN n) fun e w' => e = .returned (.int .i64 (bo' : Int)) ∧ w' = wz.drewN n) := fun n => by
    refine (nr_bits _ o _ (NO.out.below (below_drewN (Below.refl _ _) n)) NSH.out.fo.sm0).mono ?_
    rintro e w' ⟨rfl, rfl⟩
    rw [BNO.out]; exact ⟨rfl, rfl⟩
  have BU : Hid (∀ n, Calls Tryz.prog 37 #[.slice (some ⟨g1, 0, none⟩) 1 1] (wz.drewN n) fun e w' => e = .returned (.int .i64 (bu' : Int)) ∧ w' = wz.drewN n) := fun n => by
    refine (nr_bits _ u _ (NU.out.below (below_drewN (Below.refl _ _) n)) NSH.out.fu.sm0).mono ?_
    rintro e w' ⟨rfl, rfl⟩
    rw [BNU.out]; exact ⟨rfl, rfl⟩
  have RD : Hid (∀ W' z (e : Int), z = -e → -32000 ≤ e → e ≤ 32000 → Below wz.heap.size wz W' → Calls Tryz.prog 39 #[.slice o3 l3 c3, .slice (some ⟨g1, 0, none⟩) 1 1, .int .i64 z] W' (NrPost W' (rnd o u e))) := fun W' z e hz h1 h2 hb => rounded_any _ _ _ _ _ _ o u e z W' hz (NO.out.below hb) (NU.out.below hb) NSH.out.fo NSH.out.fu h1 h2 NSH.out.u0
  have HE0 := hide he0
  clear T3 N2 z3 HB1 BK1 BD1 HVH HGH SS OU PW HEX BNO BNU he0
  go_wp2_with fail
  go_quiet (first | (go_at_call 37; with_reducible refine Calls.quiet_of_same (BO.out _)) | (go_at_call 37; with_reducible refine Calls.quiet_of_same (BU.out _)))
  clear BO BU
  go_wp2_with fail
  refine (bias32 _).mono ?_
  rintro e w4 ⟨rfl, b4⟩
  have T4 : Hid (Below wz.heap.size wz w4) := (below_drewN (Below.refl _ _) _).trans (b4.mono (Nat.le_refl _))
  have q4 := BKZ.out.below T4.out BKZ.out.lt
  have x04 : w4.cell? ⟨w.heap.size, 0, none⟩ = some (.int .i64 23) := q4.cell 0
  have x14 : w4.cell? ⟨w.heap.size, 1, none⟩ = some (.int .i64 8) := q4.cell 1
  clear b4 q4 x0 x1
  by_cases hc : (bo' : Int) - (bu' : Int) - 23 - 2 < -149
  · have he : e0 = -149 := by have := HE0.out; omega
    have HEE := hide he
    clear he HE0
    go_wp2_with fail
    refine (bias32 _).mono ?_
    rintro e w5 ⟨rfl, b5⟩
    have T5 := hide (T4.out.trans (b5.mono T4.out.size))
    clear b5 T4 x04 x14
    go_wp2_with fail
    refine (RD.out _ _ e0 (by have := HEE.out; omega) (by have := HEE.out; omega) (by have := HEE.out; omega) T5.out).mono ?_
    rintro e w6 ⟨om, cm, lm, rfl, nm, b6⟩
    have START : Hid (To32Inv w o u (-149) (.slice o3 l3 c3) (.slice (some ⟨g1, 0, none⟩) 1 1) (.slice om lm cm) w6) := by
      have t6 := T5.out.trans (b6.mono T5.out.size)
      have := ST.out
      rw [HEE.out] at this nm
      exact ⟨HBZ.out.trans (t6.mono HBZ.out.size), BKZ.out.below t6 BKZ.out.lt, this, by omega, NO.out.below t6, NU.out.below t6, nm⟩
    clear nm b6 T5 ST HBZ BKZ NO NU RD hc
    go_wp2
    go_loopw [9, 10] (fun ve vm wr => ∃ (e : Int) (om : Option Addr) (lm cm : Nat), ve = .int .i64 e ∧ vm = .slice om lm cm ∧ To32Inv w o u e (.slice o3 l3 c3) (.slice (some ⟨g1, 0, none⟩) 1 1) (.slice om lm cm) wr) (fun ve _ _ => ((bo' : Int) - (bu' : Int) + 1 - 23 - intOf ve).toNat)
    case atStart => exact ⟨-149, om, lm, cm, rfl, rfl, START.out⟩
    case round =>
      clear START
      obtain ⟨e, om, lm, cm, rfl, rfl, hinv⟩ := hrel
      have HI := hide hinv
      have heL := hinv.inv.1
      have heU := hinv.up
      clear hinv
      have x0 : wr.cell? ⟨w.heap.size, 0, none⟩ = some (.int .i64 23) := HI.out.blk.cell 0
      obtain ⟨m, hm⟩ : ∃ m, m = rnd o u e := ⟨_, rfl⟩
      obtain ⟨bm, hbm⟩ : ∃ z, z = bitsN m := ⟨_, rfl⟩
      have BM : Hid (∀ n, Calls Tryz.prog 37 #[.slice om lm cm] (wr.drewN n) fun e w' => e = .returned (.int .i64 (bm : Int)) ∧ w' = wr.drewN n) := fun n => by
        refine (nr_bits _ m _ (by rw [hm]; exact HI.out.nm.below (below_drewN (Below.refl _ _) n)) (by rw [hm]; exact rnd_sm NSH.out.fo NSH.out.u0 (by omega))).mono ?_
        rintro e w' ⟨rfl, rfl⟩
        rw [hbm]; exact ⟨rfl, rfl⟩
      have HM := hide hm
      have HBM := hide hbm
      clear hm hbm
      go_wp2_with fail
      go_quiet (first | (go_at_call 37; with_reducible refine Calls.quiet_of_same (BM.out _)))
      clear BM
      by_cases hb : 24 < bm
      · have hb' : (24 : Int) < (bm : Int) := by omega
        have hlt : e < (bo' : Int) - (bu' : Int) + 1 - 23 := EN.out e heL (by
          rw [← HM.out]
          exact bitsN_gt (k := 24) (by rw [← HBM.out]; exact hb))
        have NX : Hid (RInv 23 149 o u (e + 1)) := HI.out.inv.step NSH.out.u0 (by
          rw [← HM.out]
          have := bitsN_gt (n := m) (k := 24) (by rw [← HBM.out]; exact hb)
          have e1 : 2 * 2 ^ 23 = 2 ^ 24 := by decide
          omega)
        have RD : Hid (∀ n z, z = -(e + 1) → Calls Tryz.prog 39 #[.slice o3 l3 c3, .slice (some ⟨g1, 0, none⟩) 1 1, .int .i64 z] (wr.drewN n) (NrPost (wr.drewN n) (rnd o u (e + 1)))) := fun n z hz => rounded_any _ _ _ _ _ _ o u (e + 1) z _ hz (HI.out.no.below (below_drewN (Below.refl _ _) n)) (HI.out.nu.below (below_drewN (Below.refl _ _) n)) NSH.out.fo NSH.out.fu (by omega) (by omega) NSH.out.u0
        clear hb
        go_wp2_with fail
        refine (RD.out _ _ (by omega)).mono ?_
        rintro e2 w7 ⟨om2, cm2, lm2, rfl, nm2, b7⟩
        have T7 : Hid (Below wr.heap.size wr w7) := (below_drewN (Below.refl _ _) _).trans (b7.mono (Nat.le_refl _))
        have NEXT : Hid (To32Inv w o u (e + 1) (.slice o3 l3 c3) (.slice (some ⟨g1, 0, none⟩) 1 1) (.slice om2 lm2 cm2) w7) := ⟨HI.out.bel.trans (T7.out.mono HI.out.bel.size), HI.out.blk.below T7.out HI.out.blk.lt, NX.out, by omega, HI.out.no.below T7.out, HI.out.nu.below T7.out, nm2⟩
        clear nm2 b7 T7 NX RD HI
        go_wp2
        go_roundw
        case rel => exact ⟨e + 1, om2, lm2, cm2, by go_num, rfl, NEXT.out⟩
        case measure => simp [intOf]; omega
      · have hb' : ¬ (24 : Int) < (bm : Int) := by omega
        have mlt : m < 16777216 := bitsN_low (k := 24) (by rw [← HBM.out]; omega)
        obtain ⟨s, hse⟩ : ∃ s : Nat, e = (s : Int) - 149 := ⟨(e + 149).toNat, by omega⟩
        have hs1 : s ≤ 33000 := by omega
        have ED := to32_end HI.out NSH.out.o0 NSH.out.u0 (by rw [← HM.out]; exact mlt)
        rw [← HM.out, ← HR.out, show (e + 149).toNat = s by omega] at ED
        have RE := hide ED
        have OUTC : Hid (∀ n, Calls Tryz.prog 40 #[.slice om lm cm] (wr.drewN n) fun e w' => ∃ o l c, e = .returned (.slice o l c) ∧ Hid (Below wr.heap.size wr w') ∧ ((m = 0 ∧ l = 0) ∨ (m ≠ 0 ∧ 0 < l ∧ ∃ g f, o = some ⟨g, f, none⟩ ∧ g < w'.heap.size ∧ w'.cell? ⟨g, f, none⟩ = some (.int .u64 (m : Int))))) := fun n => by
          refine (nr_out _ m _ (by rw [HM.out]; exact HI.out.nm.below (below_drewN (Below.refl _ _) n)) (by unfold B64; omega)).mono ?_
          rintro e w' ⟨oo, ll, cc, rfl, h1, h2⟩
          exact ⟨oo, ll, cc, rfl, (below_drewN (Below.refl _ _) _).trans (h1.mono (Nat.le_refl _)), h2⟩
        have BLR := hide HI.out.blk
        have BEL := hide HI.out.bel
        clear ED HI HM HBM EN heL heU hb
        subst hse
        go_wp2_with fail
        refine (OUTC.out _).mono ?_
        rintro e w5 ⟨ol, ll, cl, rfl, b5, hcase⟩
        have BEL5 := hide (BEL.out.trans (b5.out.mono BEL.out.size))
        have BLR5 := hide (BLR.out.below b5.out BLR.out.lt)
        clear b5 BEL BLR OUTC x0
        rcases hcase with ⟨hm0, rfl⟩ | ⟨hm0, hl, g, f, rfl, hg, hcell⟩
        · have hr0 : r = 0 := by
            obtain ⟨h1, h2⟩ := RE.out
            rcases Nat.eq_zero_or_pos s with h3 | h3
            · rw [h1, h3, hm0]; rfl
            · have := h2 (by omega); omega
          have HR0 := hide (R0.out hr0)
          clear RE RL hm0 hr0 OR R0
          go_wp2
          go_ret
          refine ⟨?_, BEL5.out⟩
          rw [HR0.out]
          rfl
        · have hl' : (0 : Int) < (ll : Int) := by omega
          have hl'' : ¬ (ll : Int) = 0 := by omega
          have x05 : w5.cell? ⟨w.heap.size, 0, none⟩ = some (.int .i64 23) := BLR5.out.cell 0
          have x15 : w5.cell? ⟨w.heap.size, 1, none⟩ = some (.int .i64 8) := BLR5.out.cell 1
          go_wp2_with fail
          refine (bias32 _).mono ?_
          rintro e w6 ⟨rfl, b6⟩
          have BEL6 := hide (BEL5.out.trans (b6.mono BEL5.out.size))
          have q6 := BLR5.out.below b6 BLR5.out.lt
          have x06 : w6.cell? ⟨w.heap.size, 0, none⟩ = some (.int .i64 23) := q6.cell 0
          have x16 : w6.cell? ⟨w.heap.size, 1, none⟩ = some (.int .i64 8) := q6.cell 1
          have hc6 : w6.cell? ⟨g, f, none⟩ = some (.int .u64 (m : Int)) := by rw [World.cell?_of_block (w := w5) (b6.block g hg)]; exact hcell
          clear b6 q6 BEL5 BLR5 x05 x15 hcell hg
          by_cases hx : 255 ≤ s
          · have hx' : (255 : Int) ≤ (s : Int) := by omega
            have hrI : r = 2139095040 := by have := RE.out.1; omega
            have FV := hide (OR.out 2139095040 hrI)
            clear RE RL hx hrI OR R0
            go_wp2
            go_ret
            refine ⟨?_, BEL6.out⟩
            rw [← FV.out]
            rfl
          · have hx' : ¬ (255 : Int) ≤ (s : Int) := by omega
            go_wp2_with fail
            go_quiet (fail)
            by_cases hge : 2139095040 ≤ s * 8388608 + m
            · have hge' : (2139095040 : Int) ≤ (s : Int) * 8388608 + (m : Int) := by omega
              have hrI : r = 2139095040 := by have := RE.out.1; omega
              have FV := hide (OR.out 2139095040 hrI)
              clear RE RL hx hge hrI OR R0
              go_wp2
              go_ret
              refine ⟨?_, below_drewN BEL6.out _⟩
              rw [← FV.out]
              rfl
            · have hge' : ¬ (2139095040 : Int) ≤ (s : Int) * 8388608 + (m : Int) := by omega
              have hrI : r = s * 8388608 + m := by have := RE.out.1; omega
              have FV := hide (OR.out (s * 8388608 + m) hrI)
              clear RE RL hx hge hrI OR R0
              go_wp2
              go_ret
              refine ⟨?_, below_drewN BEL6.out _⟩
              rw [← FV.out, show ((s * 8388608 + m : Nat) : Int) = (s : Int) * 8388608 + (m : Int) by omega]
              rfl

  · have he : e0 = (bo' : Int) - (bu' : Int) - 23 - 2 := by have := HE0.out; omega
    have HEE := hide he
    clear he HE0
    go_wp2_with fail
    refine (RD.out _ _ e0 (by have := HEE.out; omega) (by have := HEE.out; omega) (by have := HEE.out; omega) T4.out).mono ?_
    rintro e w6 ⟨om, cm, lm, rfl, nm, b6⟩
    have START : Hid (To32Inv w o u ((bo' : Int) - (bu' : Int) - 23 - 2) (.slice o3 l3 c3) (.slice (some ⟨g1, 0, none⟩) 1 1) (.slice om lm cm) w6) := by
      have t6 := T4.out.trans (b6.mono T4.out.size)
      have := ST.out
      rw [HEE.out] at this nm
      exact ⟨HBZ.out.trans (t6.mono HBZ.out.size), BKZ.out.below t6 BKZ.out.lt, this, by omega, NO.out.below t6, NU.out.below t6, nm⟩
    clear nm b6 T4 ST HBZ BKZ NO NU RD hc x04 x14
    go_wp2
    go_loopw [9, 10] (fun ve vm wr => ∃ (e : Int) (om : Option Addr) (lm cm : Nat), ve = .int .i64 e ∧ vm = .slice om lm cm ∧ To32Inv w o u e (.slice o3 l3 c3) (.slice (some ⟨g1, 0, none⟩) 1 1) (.slice om lm cm) wr) (fun ve _ _ => ((bo' : Int) - (bu' : Int) + 1 - 23 - intOf ve).toNat)
    case atStart => exact ⟨(bo' : Int) - (bu' : Int) - 23 - 2, om, lm, cm, rfl, rfl, START.out⟩
    case round =>
      clear START
      obtain ⟨e, om, lm, cm, rfl, rfl, hinv⟩ := hrel
      have HI := hide hinv
      have heL := hinv.inv.1
      have heU := hinv.up
      clear hinv
      have x0 : wr.cell? ⟨w.heap.size, 0, none⟩ = some (.int .i64 23) := HI.out.blk.cell 0
      obtain ⟨m, hm⟩ : ∃ m, m = rnd o u e := ⟨_, rfl⟩
      obtain ⟨bm, hbm⟩ : ∃ z, z = bitsN m := ⟨_, rfl⟩
      have BM : Hid (∀ n, Calls Tryz.prog 37 #[.slice om lm cm] (wr.drewN n) fun e w' => e = .returned (.int .i64 (bm : Int)) ∧ w' = wr.drewN n) := fun n => by
        refine (nr_bits _ m _ (by rw [hm]; exact HI.out.nm.below (below_drewN (Below.refl _ _) n)) (by rw [hm]; exact rnd_sm NSH.out.fo NSH.out.u0 (by omega))).mono ?_
        rintro e w' ⟨rfl, rfl⟩
        rw [hbm]; exact ⟨rfl, rfl⟩
      have HM := hide hm
      have HBM := hide hbm
      clear hm hbm
      go_wp2_with fail
      go_quiet (first | (go_at_call 37; with_reducible refine Calls.quiet_of_same (BM.out _)))
      clear BM
      by_cases hb : 24 < bm
      · have hb' : (24 : Int) < (bm : Int) := by omega
        have hlt : e < (bo' : Int) - (bu' : Int) + 1 - 23 := EN.out e heL (by
          rw [← HM.out]
          exact bitsN_gt (k := 24) (by rw [← HBM.out]; exact hb))
        have NX : Hid (RInv 23 149 o u (e + 1)) := HI.out.inv.step NSH.out.u0 (by
          rw [← HM.out]
          have := bitsN_gt (n := m) (k := 24) (by rw [← HBM.out]; exact hb)
          have e1 : 2 * 2 ^ 23 = 2 ^ 24 := by decide
          omega)
        have RD : Hid (∀ n z, z = -(e + 1) → Calls Tryz.prog 39 #[.slice o3 l3 c3, .slice (some ⟨g1, 0, none⟩) 1 1, .int .i64 z] (wr.drewN n) (NrPost (wr.drewN n) (rnd o u (e + 1)))) := fun n z hz => rounded_any _ _ _ _ _ _ o u (e + 1) z _ hz (HI.out.no.below (below_drewN (Below.refl _ _) n)) (HI.out.nu.below (below_drewN (Below.refl _ _) n)) NSH.out.fo NSH.out.fu (by omega) (by omega) NSH.out.u0
        clear hb
        go_wp2_with fail
        refine (RD.out _ _ (by omega)).mono ?_
        rintro e2 w7 ⟨om2, cm2, lm2, rfl, nm2, b7⟩
        have T7 : Hid (Below wr.heap.size wr w7) := (below_drewN (Below.refl _ _) _).trans (b7.mono (Nat.le_refl _))
        have NEXT : Hid (To32Inv w o u (e + 1) (.slice o3 l3 c3) (.slice (some ⟨g1, 0, none⟩) 1 1) (.slice om2 lm2 cm2) w7) := ⟨HI.out.bel.trans (T7.out.mono HI.out.bel.size), HI.out.blk.below T7.out HI.out.blk.lt, NX.out, by omega, HI.out.no.below T7.out, HI.out.nu.below T7.out, nm2⟩
        clear nm2 b7 T7 NX RD HI
        go_wp2
        go_roundw
        case rel => exact ⟨e + 1, om2, lm2, cm2, by go_num, rfl, NEXT.out⟩
        case measure => simp [intOf]; omega
      · have hb' : ¬ (24 : Int) < (bm : Int) := by omega
        have mlt : m < 16777216 := bitsN_low (k := 24) (by rw [← HBM.out]; omega)
        obtain ⟨s, hse⟩ : ∃ s : Nat, e = (s : Int) - 149 := ⟨(e + 149).toNat, by omega⟩
        have hs1 : s ≤ 33000 := by omega
        have ED := to32_end HI.out NSH.out.o0 NSH.out.u0 (by rw [← HM.out]; exact mlt)
        rw [← HM.out, ← HR.out, show (e + 149).toNat = s by omega] at ED
        have RE := hide ED
        have OUTC : Hid (∀ n, Calls Tryz.prog 40 #[.slice om lm cm] (wr.drewN n) fun e w' => ∃ o l c, e = .returned (.slice o l c) ∧ Hid (Below wr.heap.size wr w') ∧ ((m = 0 ∧ l = 0) ∨ (m ≠ 0 ∧ 0 < l ∧ ∃ g f, o = some ⟨g, f, none⟩ ∧ g < w'.heap.size ∧ w'.cell? ⟨g, f, none⟩ = some (.int .u64 (m : Int))))) := fun n => by
          refine (nr_out _ m _ (by rw [HM.out]; exact HI.out.nm.below (below_drewN (Below.refl _ _) n)) (by unfold B64; omega)).mono ?_
          rintro e w' ⟨oo, ll, cc, rfl, h1, h2⟩
          exact ⟨oo, ll, cc, rfl, (below_drewN (Below.refl _ _) _).trans (h1.mono (Nat.le_refl _)), h2⟩
        have BLR := hide HI.out.blk
        have BEL := hide HI.out.bel
        clear ED HI HM HBM EN heL heU hb
        subst hse
        go_wp2_with fail
        refine (OUTC.out _).mono ?_
        rintro e w5 ⟨ol, ll, cl, rfl, b5, hcase⟩
        have BEL5 := hide (BEL.out.trans (b5.out.mono BEL.out.size))
        have BLR5 := hide (BLR.out.below b5.out BLR.out.lt)
        clear b5 BEL BLR OUTC x0
        rcases hcase with ⟨hm0, rfl⟩ | ⟨hm0, hl, g, f, rfl, hg, hcell⟩
        · have hr0 : r = 0 := by
            obtain ⟨h1, h2⟩ := RE.out
            rcases Nat.eq_zero_or_pos s with h3 | h3
            · rw [h1, h3, hm0]; rfl
            · have := h2 (by omega); omega
          have HR0 := hide (R0.out hr0)
          clear RE RL hm0 hr0 OR R0
          go_wp2
          go_ret
          refine ⟨?_, BEL5.out⟩
          rw [HR0.out]
          rfl
        · have hl' : (0 : Int) < (ll : Int) := by omega
          have hl'' : ¬ (ll : Int) = 0 := by omega
          have x05 : w5.cell? ⟨w.heap.size, 0, none⟩ = some (.int .i64 23) := BLR5.out.cell 0
          have x15 : w5.cell? ⟨w.heap.size, 1, none⟩ = some (.int .i64 8) := BLR5.out.cell 1
          go_wp2_with fail
          refine (bias32 _).mono ?_
          rintro e w6 ⟨rfl, b6⟩
          have BEL6 := hide (BEL5.out.trans (b6.mono BEL5.out.size))
          have q6 := BLR5.out.below b6 BLR5.out.lt
          have x06 : w6.cell? ⟨w.heap.size, 0, none⟩ = some (.int .i64 23) := q6.cell 0
          have x16 : w6.cell? ⟨w.heap.size, 1, none⟩ = some (.int .i64 8) := q6.cell 1
          have hc6 : w6.cell? ⟨g, f, none⟩ = some (.int .u64 (m : Int)) := by rw [World.cell?_of_block (w := w5) (b6.block g hg)]; exact hcell
          clear b6 q6 BEL5 BLR5 x05 x15 hcell hg
          by_cases hx : 255 ≤ s
          · have hx' : (255 : Int) ≤ (s : Int) := by omega
            have hrI : r = 2139095040 := by have := RE.out.1; omega
            have FV := hide (OR.out 2139095040 hrI)
            clear RE RL hx hrI OR R0
            go_wp2
            go_ret
            refine ⟨?_, BEL6.out⟩
            rw [← FV.out]
            rfl
          · have hx' : ¬ (255 : Int) ≤ (s : Int) := by omega
            go_wp2_with fail
            go_quiet (fail)
            by_cases hge : 2139095040 ≤ s * 8388608 + m
            · have hge' : (2139095040 : Int) ≤ (s : Int) * 8388608 + (m : Int) := by omega
              have hrI : r = 2139095040 := by have := RE.out.1; omega
              have FV := hide (OR.out 2139095040 hrI)
              clear RE RL hx hge hrI OR R0
              go_wp2
              go_ret
              refine ⟨?_, below_drewN BEL6.out _⟩
              rw [← FV.out]
              rfl
            · have hge' : ¬ (2139095040 : Int) ≤ (s : Int) * 8388608 + (m : Int) := by omega
              have hrI : r = s * 8388608 + m := by have := RE.out.1; omega
              have FV := hide (OR.out (s * 8388608 + m) hrI)
              clear RE RL hx hge hrI OR R0
              go_wp2
              go_ret
              refine ⟨?_, below_drewN BEL6.out _⟩
              rw [← FV.out, show ((s * 8388608 + m : Nat) : Int) = (s : Int) * 8388608 + (m : Int) by omega]
              rfl

set_option maxRecDepth 100000 in
set_option maxHeartbeats 4000000 in
theorem rto32_true_neg (t : ByteArray) (ex : Int) (n : Nat) (w : World) (h : DigD (bys t) ex) (hex : ex = -(n : Int)) (hs : ¬ 0 ≤ ex) :
    Calls Tryz.prog 13 #[k32, dcV 0 true t ex] w fun e w' => e = .returned (.int .u64 ((bitsOf 23 149 (infN 23 8) (decV (bys t) * 10 ^ ex.toNat) (10 ^ (-ex).toNat) + 2147483648 : Nat) : Int)) ∧ Below w.heap.size w w' := by
  have NS := Nums.of h
  obtain ⟨h0, h1, h2, h3, h4, h5, h6⟩ := h
  rw [bys_len] at h1 h2 h3
  have hne : t.size ≠ 0 := fun e => h0 (bys_nil.2 e)
  have ht := toList_ne hne
  have hnl : n ≤ 3000 := by omega
  have OFC : Hid (∀ W', Calls Tryz.prog 28 #[.string t] W' (NrPost W' (decV (bys t)))) := fun W' => (rof_any t W' (by omega) h6).mono fun e w' hh => NrPost.of hh
  have PW : Hid (∀ W' z, z = (n : Int) → Calls Tryz.prog 29 #[.int .i64 10, .int .i64 z] W' (NrPost W' (10 ^ n))) := fun W' z hz => nr_pow10 z n W' hz (by omega)
  have s1 : Sm (decV (bys t)) := Sm.of (decV_lt _ _ rfl h6) (by rw [bys_len]; omega)
  have SS : Hid (Sm (decV (bys t)) ∧ Sm (10 ^ n)) := ⟨s1, (fit_pow n hnl).sm0⟩
  obtain ⟨o, ho⟩ : ∃ o, o = decV (bys t) * 10 ^ ex.toNat := ⟨_, rfl⟩
  obtain ⟨u, hu⟩ : ∃ u, u = 10 ^ (-ex).toNat := ⟨_, rfl⟩
  rw [← ho, ← hu] at NS ⊢
  have OU : Hid (decV (bys t) = o ∧ 10 ^ n = u) := by
    refine ⟨by rw [ho, show ex.toNat = 0 by omega, Nat.pow_zero, Nat.mul_one], by rw [hu, show (-ex).toNat = n by omega]⟩
  have bo := NS.fo.bits
  have bu := NS.fu.bits
  obtain ⟨bo', hbo⟩ : ∃ z, z = bitsN o := ⟨_, rfl⟩
  obtain ⟨bu', hbu⟩ : ∃ z, z = bitsN u := ⟨_, rfl⟩
  obtain ⟨e0, he0⟩ : ∃ e : Int, e = max ((bo' : Int) - (bu' : Int) - 23 - 2) (-149) := ⟨_, rfl⟩
  have ST : Hid (RInv 23 149 o u e0) := by rw [he0, hbo, hbu]; exact RInv.start NS.o0 NS.u0
  have EN : Hid (∀ e : Int, -149 ≤ e → 16777216 ≤ rnd o u e → e < (bo' : Int) - (bu' : Int) + 1 - 23) := fun e h1 h2 => by
    rcases Int.lt_or_le e ((bo' : Int) - (bu' : Int) + 1 - 23) with h3 | h3
    · exact h3
    · exfalso
      have := rnd_end (F := 23) (B := 149) NS.o0 NS.u0 h1 (by rw [← hbo, ← hbu]; exact h3)
      have e1 : (2 : Nat) ^ 23 = 8388608 := by decide
      rw [e1] at this
      omega
  rw [← hbo] at bo
  rw [← hbu] at bu
  have BNO := hide hbo
  have BNU := hide hbu
  have NSH := hide NS
  obtain ⟨r, hr⟩ : ∃ r, r = bitsOf 23 149 (infN 23 8) o u := ⟨_, rfl⟩
  have HR := hide hr
  have RL : Hid (r ≤ 2139095040) := by show r ≤ 2139095040; rw [hr, ← inf32]; exact bitsOf_le _ _ _ _ _
  rw [← hr]
  obtain ⟨R, hRR⟩ : ∃ R, R = r + 2147483648 := ⟨_, rfl⟩
  rw [← hRR]
  have OR : Hid (∀ a : Nat, r = a → bits .or .u64 2147483648 (a : Int) = (R : Int)) := fun a ha => by
    subst ha
    have h1 : r ≤ 2139095040 := RL.out
    rw [hRR]
    exact or_sign (k := 31) 2147483648 (by decide) (by omega) (by omega)
  have R0 : Hid (r = 0 → (R : Int) = 2147483648) := fun h => by rw [hRR, h]; rfl
  clear hRR
  have hex1 : -ex = (n : Int) := by omega
  have HEX := hide hex1
  have hxb : -3000 ≤ ex := by omega
  clear h0 h1 h2 h3 h4 h5 h6 hne s1 ho hu NS hbo hbu hr hex
  have blkk := (Blk.new w #[.int .i64 23, .int .i64 8] 32).alloc (.cells #[.int .i64 0, .bool true, .string t, .int .i64 ex] 23)
  have blkd := Blk.newAt (w.alloc (.cells #[.int .i64 23, .int .i64 8] 32)) (w.heap.size + 1) (by simp) #[.int .i64 0, .bool true, .string t, .int .i64 ex] 23
  obtain ⟨W, hW⟩ : ∃ W, W = ((w.alloc (.cells #[.int .i64 23, .int .i64 8] 32)).alloc (.cells #[.int .i64 0, .bool true, .string t, .int .i64 ex] 23)) := ⟨_, rfl⟩
  rw [← hW] at blkk blkd
  have HBW : Hid (Below w.heap.size w W) := by rw [hW]; exact ((Below.refl _ _).alloc (Nat.le_refl _) _).alloc (by simp) _
  have BLK := hide blkk
  have BLD := hide blkd
  have x0 : W.cell? ⟨w.heap.size, 0, none⟩ = some (.int .i64 23) := blkk.cell 0
  have x1 : W.cell? ⟨w.heap.size, 1, none⟩ = some (.int .i64 8) := blkk.cell 1
  have y0 : W.cell? ⟨w.heap.size + 1, 0, none⟩ = some (.int .i64 0) := blkd.cell 0
  have y1 : W.cell? ⟨w.heap.size + 1, 1, none⟩ = some (.bool true) := blkd.cell 1
  have y2 : W.cell? ⟨w.heap.size + 1, 2, none⟩ = some (.string t) := blkd.cell 2
  have y3 : W.cell? ⟨w.heap.size + 1, 3, none⟩ = some (.int .i64 ex) := blkd.cell 3
  have HW := hide hW
  clear blkk blkd hW
  go_enter Tryz.func13, Tryz.ntmps13
  go_wp2_with fail
  simp only [← HW.out]
  go_quiet (fail)
  go_wp2_with fail
  refine (OFC.out _).mono ?_
  rintro e w1 ⟨o1, c1, l1, rfl, n1, b1⟩
  have AL : Hid (Below w1.heap.size w1 (w1.alloc (.cells #[.int .u32 1] 34))) := (Below.refl _ _).alloc (Nat.le_refl _) _
  have HB1 := hide (HBW.out.trans (((below_drewN (Below.refl _ _) _).trans (b1.mono (Nat.le_refl _)) |>.trans (AL.out.mono b1.size)).mono HBW.out.size))
  have BK1 := hide (BLK.out.below ((below_drewN (Below.refl _ _) _).trans (b1.mono (Nat.le_refl _)) |>.trans (AL.out.mono b1.size)) BLK.out.lt)
  have BD1 := hide (BLD.out.below ((below_drewN (Below.refl _ _) _).trans (b1.mono (Nat.le_refl _)) |>.trans (AL.out.mono b1.size)) BLD.out.lt)
  have N1 := hide (n1.below AL.out)
  have N2 := hide (row_one32 w1)
  obtain ⟨V, hV⟩ : ∃ V, V = w1.alloc (.cells #[.int .u32 1] 34) := ⟨_, rfl⟩
  obtain ⟨g1, hg1⟩ : ∃ g, g = w1.heap.size := ⟨_, rfl⟩
  rw [← hV] at HB1 BK1 BD1 N1 N2
  rw [← hg1] at N2
  have z3 : V.cell? ⟨w.heap.size + 1, 3, none⟩ = some (.int .i64 ex) := BD1.out.cell 3
  have HVH := hide hV
  have HGH := hide hg1
  clear n1 b1 AL OFC HBW BLK BLD x0 x1 y0 y1 y2 y3 HW hV hg1
  go_wp2_with (simp only [← HVH.out, ← HGH.out])
  refine (PW.out _ _ (by first | rfl | exact HEX.out)).mono ?_
  rintro e wz ⟨o2, c2, l2, rfl, n2, b2⟩
  rw [OU.out.2] at n2
  have T3 := hide b2
  have NU := hide n2
  have NO : Hid (Nr wz (.slice o1 l1 c1) o) := by rw [← OU.out.1]; exact N1.out.below b2
  clear n2 b2 N1
  have HBZ := hide (HB1.out.trans (T3.out.mono HB1.out.size))
  have BKZ := hide (BK1.out.below T3.out BK1.out.lt)
  have x0 : wz.cell? ⟨w.heap.size, 0, none⟩ = some (.int .i64 23) := BKZ.out.cell 0
  have x1 : wz.cell? ⟨w.heap.size, 1, none⟩ = some (.int .i64 8) := BKZ.out.cell 1
  have BO : Hid (∀ n, Calls Tryz.prog 37 #[.slice o1 l1 c1] (wz.drewN n) fun e w' => e = .returned (.int .i64 (bo' : Int)) ∧ w' = wz.drewN n) := fun n => by
    refine (nr_bits _ o _ (NO.out.below (below_drewN (Below.refl _ _) n)) NSH.out.fo.sm0).mono ?_
    rintro e w' ⟨rfl, rfl⟩
    rw [BNO.out]; exact ⟨rfl, rfl⟩
  have BU : Hid (∀ n, Calls Tryz.prog 37 #[.slice o2 l2 c2] (wz.drewN n) fun e w' => e = .returned (.int .i64 (bu' : Int)) ∧ w' = wz.drewN n) := fun n => by
    refine (nr_bits _ u _ (NU.out.below (below_drewN (Below.refl _ _) n)) NSH.out.fu.sm0).mono ?_
    rintro e w' ⟨rfl, rfl⟩
    rw [BNU.out]; exact ⟨rfl, rfl⟩
  have RD : Hid (∀ W' z (e : Int), z = -e → -32000 ≤ e → e ≤ 32000 → Below wz.heap.size wz W' → Calls Tryz.prog 39 #[.slice o1 l1 c1, .slice o2 l2 c2, .int .i64 z] W' (NrPost W' (rnd o u e))) := fun W' z e hz h1 h2 hb => rounded_any _ _ _ _ _ _ o u e z W' hz (NO.out.below hb) (NU.out.below hb) NSH.out.fo NSH.out.fu h1 h2 NSH.out.u0
  have HE0 := hide he0
  clear T3 N2 z3 HB1 BK1 BD1 HVH HGH SS OU PW HEX BNO BNU he0
  go_wp2_with fail
  go_quiet (first | (go_at_call 37; with_reducible refine Calls.quiet_of_same (BO.out _)) | (go_at_call 37; with_reducible refine Calls.quiet_of_same (BU.out _)))
  clear BO BU
  go_wp2_with fail
  refine (bias32 _).mono ?_
  rintro e w4 ⟨rfl, b4⟩
  have T4 : Hid (Below wz.heap.size wz w4) := (below_drewN (Below.refl _ _) _).trans (b4.mono (Nat.le_refl _))
  have q4 := BKZ.out.below T4.out BKZ.out.lt
  have x04 : w4.cell? ⟨w.heap.size, 0, none⟩ = some (.int .i64 23) := q4.cell 0
  have x14 : w4.cell? ⟨w.heap.size, 1, none⟩ = some (.int .i64 8) := q4.cell 1
  clear b4 q4 x0 x1
  by_cases hc : (bo' : Int) - (bu' : Int) - 23 - 2 < -149
  · have he : e0 = -149 := by have := HE0.out; omega
    have HEE := hide he
    clear he HE0
    go_wp2_with fail
    refine (bias32 _).mono ?_
    rintro e w5 ⟨rfl, b5⟩
    have T5 := hide (T4.out.trans (b5.mono T4.out.size))
    clear b5 T4 x04 x14
    go_wp2_with fail
    refine (RD.out _ _ e0 (by have := HEE.out; omega) (by have := HEE.out; omega) (by have := HEE.out; omega) T5.out).mono ?_
    rintro e w6 ⟨om, cm, lm, rfl, nm, b6⟩
    have START : Hid (To32Inv w o u (-149) (.slice o1 l1 c1) (.slice o2 l2 c2) (.slice om lm cm) w6) := by
      have t6 := T5.out.trans (b6.mono T5.out.size)
      have := ST.out
      rw [HEE.out] at this nm
      exact ⟨HBZ.out.trans (t6.mono HBZ.out.size), BKZ.out.below t6 BKZ.out.lt, this, by omega, NO.out.below t6, NU.out.below t6, nm⟩
    clear nm b6 T5 ST HBZ BKZ NO NU RD hc
    go_wp2
    go_loopw [9, 10] (fun ve vm wr => ∃ (e : Int) (om : Option Addr) (lm cm : Nat), ve = .int .i64 e ∧ vm = .slice om lm cm ∧ To32Inv w o u e (.slice o1 l1 c1) (.slice o2 l2 c2) (.slice om lm cm) wr) (fun ve _ _ => ((bo' : Int) - (bu' : Int) + 1 - 23 - intOf ve).toNat)
    case atStart => exact ⟨-149, om, lm, cm, rfl, rfl, START.out⟩
    case round =>
      clear START
      obtain ⟨e, om, lm, cm, rfl, rfl, hinv⟩ := hrel
      have HI := hide hinv
      have heL := hinv.inv.1
      have heU := hinv.up
      clear hinv
      have x0 : wr.cell? ⟨w.heap.size, 0, none⟩ = some (.int .i64 23) := HI.out.blk.cell 0
      obtain ⟨m, hm⟩ : ∃ m, m = rnd o u e := ⟨_, rfl⟩
      obtain ⟨bm, hbm⟩ : ∃ z, z = bitsN m := ⟨_, rfl⟩
      have BM : Hid (∀ n, Calls Tryz.prog 37 #[.slice om lm cm] (wr.drewN n) fun e w' => e = .returned (.int .i64 (bm : Int)) ∧ w' = wr.drewN n) := fun n => by
        refine (nr_bits _ m _ (by rw [hm]; exact HI.out.nm.below (below_drewN (Below.refl _ _) n)) (by rw [hm]; exact rnd_sm NSH.out.fo NSH.out.u0 (by omega))).mono ?_
        rintro e w' ⟨rfl, rfl⟩
        rw [hbm]; exact ⟨rfl, rfl⟩
      have HM := hide hm
      have HBM := hide hbm
      clear hm hbm
      go_wp2_with fail
      go_quiet (first | (go_at_call 37; with_reducible refine Calls.quiet_of_same (BM.out _)))
      clear BM
      by_cases hb : 24 < bm
      · have hb' : (24 : Int) < (bm : Int) := by omega
        have hlt : e < (bo' : Int) - (bu' : Int) + 1 - 23 := EN.out e heL (by
          rw [← HM.out]
          exact bitsN_gt (k := 24) (by rw [← HBM.out]; exact hb))
        have NX : Hid (RInv 23 149 o u (e + 1)) := HI.out.inv.step NSH.out.u0 (by
          rw [← HM.out]
          have := bitsN_gt (n := m) (k := 24) (by rw [← HBM.out]; exact hb)
          have e1 : 2 * 2 ^ 23 = 2 ^ 24 := by decide
          omega)
        have RD : Hid (∀ n z, z = -(e + 1) → Calls Tryz.prog 39 #[.slice o1 l1 c1, .slice o2 l2 c2, .int .i64 z] (wr.drewN n) (NrPost (wr.drewN n) (rnd o u (e + 1)))) := fun n z hz => rounded_any _ _ _ _ _ _ o u (e + 1) z _ hz (HI.out.no.below (below_drewN (Below.refl _ _) n)) (HI.out.nu.below (below_drewN (Below.refl _ _) n)) NSH.out.fo NSH.out.fu (by omega) (by omega) NSH.out.u0
        clear hb
        go_wp2_with fail
        refine (RD.out _ _ (by omega)).mono ?_
        rintro e2 w7 ⟨om2, cm2, lm2, rfl, nm2, b7⟩
        have T7 : Hid (Below wr.heap.size wr w7) := (below_drewN (Below.refl _ _) _).trans (b7.mono (Nat.le_refl _))
        have NEXT : Hid (To32Inv w o u (e + 1) (.slice o1 l1 c1) (.slice o2 l2 c2) (.slice om2 lm2 cm2) w7) := ⟨HI.out.bel.trans (T7.out.mono HI.out.bel.size), HI.out.blk.below T7.out HI.out.blk.lt, NX.out, by omega, HI.out.no.below T7.out, HI.out.nu.below T7.out, nm2⟩
        clear nm2 b7 T7 NX RD HI
        go_wp2
        go_roundw
        case rel => exact ⟨e + 1, om2, lm2, cm2, by go_num, rfl, NEXT.out⟩
        case measure => simp [intOf]; omega
      · have hb' : ¬ (24 : Int) < (bm : Int) := by omega
        have mlt : m < 16777216 := bitsN_low (k := 24) (by rw [← HBM.out]; omega)
        obtain ⟨s, hse⟩ : ∃ s : Nat, e = (s : Int) - 149 := ⟨(e + 149).toNat, by omega⟩
        have hs1 : s ≤ 33000 := by omega
        have ED := to32_end HI.out NSH.out.o0 NSH.out.u0 (by rw [← HM.out]; exact mlt)
        rw [← HM.out, ← HR.out, show (e + 149).toNat = s by omega] at ED
        have RE := hide ED
        have OUTC : Hid (∀ n, Calls Tryz.prog 40 #[.slice om lm cm] (wr.drewN n) fun e w' => ∃ o l c, e = .returned (.slice o l c) ∧ Hid (Below wr.heap.size wr w') ∧ ((m = 0 ∧ l = 0) ∨ (m ≠ 0 ∧ 0 < l ∧ ∃ g f, o = some ⟨g, f, none⟩ ∧ g < w'.heap.size ∧ w'.cell? ⟨g, f, none⟩ = some (.int .u64 (m : Int))))) := fun n => by
          refine (nr_out _ m _ (by rw [HM.out]; exact HI.out.nm.below (below_drewN (Below.refl _ _) n)) (by unfold B64; omega)).mono ?_
          rintro e w' ⟨oo, ll, cc, rfl, h1, h2⟩
          exact ⟨oo, ll, cc, rfl, (below_drewN (Below.refl _ _) _).trans (h1.mono (Nat.le_refl _)), h2⟩
        have BLR := hide HI.out.blk
        have BEL := hide HI.out.bel
        clear ED HI HM HBM EN heL heU hb
        subst hse
        go_wp2_with fail
        refine (OUTC.out _).mono ?_
        rintro e w5 ⟨ol, ll, cl, rfl, b5, hcase⟩
        have BEL5 := hide (BEL.out.trans (b5.out.mono BEL.out.size))
        have BLR5 := hide (BLR.out.below b5.out BLR.out.lt)
        clear b5 BEL BLR OUTC x0
        rcases hcase with ⟨hm0, rfl⟩ | ⟨hm0, hl, g, f, rfl, hg, hcell⟩
        · have hr0 : r = 0 := by
            obtain ⟨h1, h2⟩ := RE.out
            rcases Nat.eq_zero_or_pos s with h3 | h3
            · rw [h1, h3, hm0]; rfl
            · have := h2 (by omega); omega
          have HR0 := hide (R0.out hr0)
          clear RE RL hm0 hr0 OR R0
          go_wp2
          go_ret
          refine ⟨?_, BEL5.out⟩
          rw [HR0.out]
          rfl
        · have hl' : (0 : Int) < (ll : Int) := by omega
          have hl'' : ¬ (ll : Int) = 0 := by omega
          have x05 : w5.cell? ⟨w.heap.size, 0, none⟩ = some (.int .i64 23) := BLR5.out.cell 0
          have x15 : w5.cell? ⟨w.heap.size, 1, none⟩ = some (.int .i64 8) := BLR5.out.cell 1
          go_wp2_with fail
          refine (bias32 _).mono ?_
          rintro e w6 ⟨rfl, b6⟩
          have BEL6 := hide (BEL5.out.trans (b6.mono BEL5.out.size))
          have q6 := BLR5.out.below b6 BLR5.out.lt
          have x06 : w6.cell? ⟨w.heap.size, 0, none⟩ = some (.int .i64 23) := q6.cell 0
          have x16 : w6.cell? ⟨w.heap.size, 1, none⟩ = some (.int .i64 8) := q6.cell 1
          have hc6 : w6.cell? ⟨g, f, none⟩ = some (.int .u64 (m : Int)) := by rw [World.cell?_of_block (w := w5) (b6.block g hg)]; exact hcell
          clear b6 q6 BEL5 BLR5 x05 x15 hcell hg
          by_cases hx : 255 ≤ s
          · have hx' : (255 : Int) ≤ (s : Int) := by omega
            have hrI : r = 2139095040 := by have := RE.out.1; omega
            have FV := hide (OR.out 2139095040 hrI)
            clear RE RL hx hrI OR R0
            go_wp2
            go_ret
            refine ⟨?_, BEL6.out⟩
            rw [← FV.out]
            rfl
          · have hx' : ¬ (255 : Int) ≤ (s : Int) := by omega
            go_wp2_with fail
            go_quiet (fail)
            by_cases hge : 2139095040 ≤ s * 8388608 + m
            · have hge' : (2139095040 : Int) ≤ (s : Int) * 8388608 + (m : Int) := by omega
              have hrI : r = 2139095040 := by have := RE.out.1; omega
              have FV := hide (OR.out 2139095040 hrI)
              clear RE RL hx hge hrI OR R0
              go_wp2
              go_ret
              refine ⟨?_, below_drewN BEL6.out _⟩
              rw [← FV.out]
              rfl
            · have hge' : ¬ (2139095040 : Int) ≤ (s : Int) * 8388608 + (m : Int) := by omega
              have hrI : r = s * 8388608 + m := by have := RE.out.1; omega
              have FV := hide (OR.out (s * 8388608 + m) hrI)
              clear RE RL hx hge hrI OR R0
              go_wp2
              go_ret
              refine ⟨?_, below_drewN BEL6.out _⟩
              rw [← FV.out, show ((s * 8388608 + m : Nat) : Int) = (s : Int) * 8388608 + (m : Int) by omega]
              rfl

  · have he : e0 = (bo' : Int) - (bu' : Int) - 23 - 2 := by have := HE0.out; omega
    have HEE := hide he
    clear he HE0
    go_wp2_with fail
    refine (RD.out _ _ e0 (by have := HEE.out; omega) (by have := HEE.out; omega) (by have := HEE.out; omega) T4.out).mono ?_
    rintro e w6 ⟨om, cm, lm, rfl, nm, b6⟩
    have START : Hid (To32Inv w o u ((bo' : Int) - (bu' : Int) - 23 - 2) (.slice o1 l1 c1) (.slice o2 l2 c2) (.slice om lm cm) w6) := by
      have t6 := T4.out.trans (b6.mono T4.out.size)
      have := ST.out
      rw [HEE.out] at this nm
      exact ⟨HBZ.out.trans (t6.mono HBZ.out.size), BKZ.out.below t6 BKZ.out.lt, this, by omega, NO.out.below t6, NU.out.below t6, nm⟩
    clear nm b6 T4 ST HBZ BKZ NO NU RD hc x04 x14
    go_wp2
    go_loopw [9, 10] (fun ve vm wr => ∃ (e : Int) (om : Option Addr) (lm cm : Nat), ve = .int .i64 e ∧ vm = .slice om lm cm ∧ To32Inv w o u e (.slice o1 l1 c1) (.slice o2 l2 c2) (.slice om lm cm) wr) (fun ve _ _ => ((bo' : Int) - (bu' : Int) + 1 - 23 - intOf ve).toNat)
    case atStart => exact ⟨(bo' : Int) - (bu' : Int) - 23 - 2, om, lm, cm, rfl, rfl, START.out⟩
    case round =>
      clear START
      obtain ⟨e, om, lm, cm, rfl, rfl, hinv⟩ := hrel
      have HI := hide hinv
      have heL := hinv.inv.1
      have heU := hinv.up
      clear hinv
      have x0 : wr.cell? ⟨w.heap.size, 0, none⟩ = some (.int .i64 23) := HI.out.blk.cell 0
      obtain ⟨m, hm⟩ : ∃ m, m = rnd o u e := ⟨_, rfl⟩
      obtain ⟨bm, hbm⟩ : ∃ z, z = bitsN m := ⟨_, rfl⟩
      have BM : Hid (∀ n, Calls Tryz.prog 37 #[.slice om lm cm] (wr.drewN n) fun e w' => e = .returned (.int .i64 (bm : Int)) ∧ w' = wr.drewN n) := fun n => by
        refine (nr_bits _ m _ (by rw [hm]; exact HI.out.nm.below (below_drewN (Below.refl _ _) n)) (by rw [hm]; exact rnd_sm NSH.out.fo NSH.out.u0 (by omega))).mono ?_
        rintro e w' ⟨rfl, rfl⟩
        rw [hbm]; exact ⟨rfl, rfl⟩
      have HM := hide hm
      have HBM := hide hbm
      clear hm hbm
      go_wp2_with fail
      go_quiet (first | (go_at_call 37; with_reducible refine Calls.quiet_of_same (BM.out _)))
      clear BM
      by_cases hb : 24 < bm
      · have hb' : (24 : Int) < (bm : Int) := by omega
        have hlt : e < (bo' : Int) - (bu' : Int) + 1 - 23 := EN.out e heL (by
          rw [← HM.out]
          exact bitsN_gt (k := 24) (by rw [← HBM.out]; exact hb))
        have NX : Hid (RInv 23 149 o u (e + 1)) := HI.out.inv.step NSH.out.u0 (by
          rw [← HM.out]
          have := bitsN_gt (n := m) (k := 24) (by rw [← HBM.out]; exact hb)
          have e1 : 2 * 2 ^ 23 = 2 ^ 24 := by decide
          omega)
        have RD : Hid (∀ n z, z = -(e + 1) → Calls Tryz.prog 39 #[.slice o1 l1 c1, .slice o2 l2 c2, .int .i64 z] (wr.drewN n) (NrPost (wr.drewN n) (rnd o u (e + 1)))) := fun n z hz => rounded_any _ _ _ _ _ _ o u (e + 1) z _ hz (HI.out.no.below (below_drewN (Below.refl _ _) n)) (HI.out.nu.below (below_drewN (Below.refl _ _) n)) NSH.out.fo NSH.out.fu (by omega) (by omega) NSH.out.u0
        clear hb
        go_wp2_with fail
        refine (RD.out _ _ (by omega)).mono ?_
        rintro e2 w7 ⟨om2, cm2, lm2, rfl, nm2, b7⟩
        have T7 : Hid (Below wr.heap.size wr w7) := (below_drewN (Below.refl _ _) _).trans (b7.mono (Nat.le_refl _))
        have NEXT : Hid (To32Inv w o u (e + 1) (.slice o1 l1 c1) (.slice o2 l2 c2) (.slice om2 lm2 cm2) w7) := ⟨HI.out.bel.trans (T7.out.mono HI.out.bel.size), HI.out.blk.below T7.out HI.out.blk.lt, NX.out, by omega, HI.out.no.below T7.out, HI.out.nu.below T7.out, nm2⟩
        clear nm2 b7 T7 NX RD HI
        go_wp2
        go_roundw
        case rel => exact ⟨e + 1, om2, lm2, cm2, by go_num, rfl, NEXT.out⟩
        case measure => simp [intOf]; omega
      · have hb' : ¬ (24 : Int) < (bm : Int) := by omega
        have mlt : m < 16777216 := bitsN_low (k := 24) (by rw [← HBM.out]; omega)
        obtain ⟨s, hse⟩ : ∃ s : Nat, e = (s : Int) - 149 := ⟨(e + 149).toNat, by omega⟩
        have hs1 : s ≤ 33000 := by omega
        have ED := to32_end HI.out NSH.out.o0 NSH.out.u0 (by rw [← HM.out]; exact mlt)
        rw [← HM.out, ← HR.out, show (e + 149).toNat = s by omega] at ED
        have RE := hide ED
        have OUTC : Hid (∀ n, Calls Tryz.prog 40 #[.slice om lm cm] (wr.drewN n) fun e w' => ∃ o l c, e = .returned (.slice o l c) ∧ Hid (Below wr.heap.size wr w') ∧ ((m = 0 ∧ l = 0) ∨ (m ≠ 0 ∧ 0 < l ∧ ∃ g f, o = some ⟨g, f, none⟩ ∧ g < w'.heap.size ∧ w'.cell? ⟨g, f, none⟩ = some (.int .u64 (m : Int))))) := fun n => by
          refine (nr_out _ m _ (by rw [HM.out]; exact HI.out.nm.below (below_drewN (Below.refl _ _) n)) (by unfold B64; omega)).mono ?_
          rintro e w' ⟨oo, ll, cc, rfl, h1, h2⟩
          exact ⟨oo, ll, cc, rfl, (below_drewN (Below.refl _ _) _).trans (h1.mono (Nat.le_refl _)), h2⟩
        have BLR := hide HI.out.blk
        have BEL := hide HI.out.bel
        clear ED HI HM HBM EN heL heU hb
        subst hse
        go_wp2_with fail
        refine (OUTC.out _).mono ?_
        rintro e w5 ⟨ol, ll, cl, rfl, b5, hcase⟩
        have BEL5 := hide (BEL.out.trans (b5.out.mono BEL.out.size))
        have BLR5 := hide (BLR.out.below b5.out BLR.out.lt)
        clear b5 BEL BLR OUTC x0
        rcases hcase with ⟨hm0, rfl⟩ | ⟨hm0, hl, g, f, rfl, hg, hcell⟩
        · have hr0 : r = 0 := by
            obtain ⟨h1, h2⟩ := RE.out
            rcases Nat.eq_zero_or_pos s with h3 | h3
            · rw [h1, h3, hm0]; rfl
            · have := h2 (by omega); omega
          have HR0 := hide (R0.out hr0)
          clear RE RL hm0 hr0 OR R0
          go_wp2
          go_ret
          refine ⟨?_, BEL5.out⟩
          rw [HR0.out]
          rfl
        · have hl' : (0 : Int) < (ll : Int) := by omega
          have hl'' : ¬ (ll : Int) = 0 := by omega
          have x05 : w5.cell? ⟨w.heap.size, 0, none⟩ = some (.int .i64 23) := BLR5.out.cell 0
          have x15 : w5.cell? ⟨w.heap.size, 1, none⟩ = some (.int .i64 8) := BLR5.out.cell 1
          go_wp2_with fail
          refine (bias32 _).mono ?_
          rintro e w6 ⟨rfl, b6⟩
          have BEL6 := hide (BEL5.out.trans (b6.mono BEL5.out.size))
          have q6 := BLR5.out.below b6 BLR5.out.lt
          have x06 : w6.cell? ⟨w.heap.size, 0, none⟩ = some (.int .i64 23) := q6.cell 0
          have x16 : w6.cell? ⟨w.heap.size, 1, none⟩ = some (.int .i64 8) := q6.cell 1
          have hc6 : w6.cell? ⟨g, f, none⟩ = some (.int .u64 (m : Int)) := by rw [World.cell?_of_block (w := w5) (b6.block g hg)]; exact hcell
          clear b6 q6 BEL5 BLR5 x05 x15 hcell hg
          by_cases hx : 255 ≤ s
          · have hx' : (255 : Int) ≤ (s : Int) := by omega
            have hrI : r = 2139095040 := by have := RE.out.1; omega
            have FV := hide (OR.out 2139095040 hrI)
            clear RE RL hx hrI OR R0
            go_wp2
            go_ret
            refine ⟨?_, BEL6.out⟩
            rw [← FV.out]
            rfl
          · have hx' : ¬ (255 : Int) ≤ (s : Int) := by omega
            go_wp2_with fail
            go_quiet (fail)
            by_cases hge : 2139095040 ≤ s * 8388608 + m
            · have hge' : (2139095040 : Int) ≤ (s : Int) * 8388608 + (m : Int) := by omega
              have hrI : r = 2139095040 := by have := RE.out.1; omega
              have FV := hide (OR.out 2139095040 hrI)
              clear RE RL hx hge hrI OR R0
              go_wp2
              go_ret
              refine ⟨?_, below_drewN BEL6.out _⟩
              rw [← FV.out]
              rfl
            · have hge' : ¬ (2139095040 : Int) ≤ (s : Int) * 8388608 + (m : Int) := by omega
              have hrI : r = s * 8388608 + m := by have := RE.out.1; omega
              have FV := hide (OR.out (s * 8388608 + m) hrI)
              clear RE RL hx hge hrI OR R0
              go_wp2
              go_ret
              refine ⟨?_, below_drewN BEL6.out _⟩
              rw [← FV.out, show ((s * 8388608 + m : Nat) : Int) = (s : Int) * 8388608 + (m : Int) by omega]
              rfl

set_option maxRecDepth 100000 in
set_option maxHeartbeats 4000000 in
theorem rto32_true_pos (t : ByteArray) (ex : Int) (n : Nat) (w : World) (h : DigD (bys t) ex) (hex : ex = (n : Int)) (hs : 0 ≤ ex) :
    Calls Tryz.prog 13 #[k32, dcV 0 true t ex] w fun e w' => e = .returned (.int .u64 ((bitsOf 23 149 (infN 23 8) (decV (bys t) * 10 ^ ex.toNat) (10 ^ (-ex).toNat) + 2147483648 : Nat) : Int)) ∧ Below w.heap.size w w' := by
  have NS := Nums.of h
  obtain ⟨h0, h1, h2, h3, h4, h5, h6⟩ := h
  rw [bys_len] at h1 h2 h3
  have hne : t.size ≠ 0 := fun e => h0 (bys_nil.2 e)
  have ht := toList_ne hne
  have hnl : n ≤ 3000 := by omega
  have OFC : Hid (∀ W', Calls Tryz.prog 28 #[.string t] W' (NrPost W' (decV (bys t)))) := fun W' => (rof_any t W' (by omega) h6).mono fun e w' hh => NrPost.of hh
  have PW : Hid (∀ W' z, z = (n : Int) → Calls Tryz.prog 29 #[.int .i64 10, .int .i64 z] W' (NrPost W' (10 ^ n))) := fun W' z hz => nr_pow10 z n W' hz (by omega)
  have s1 : Sm (decV (bys t)) := Sm.of (decV_lt _ _ rfl h6) (by rw [bys_len]; omega)
  have SS : Hid (Sm (decV (bys t)) ∧ Sm (10 ^ n)) := ⟨s1, (fit_pow n hnl).sm0⟩
  obtain ⟨o, ho⟩ : ∃ o, o = decV (bys t) * 10 ^ ex.toNat := ⟨_, rfl⟩
  obtain ⟨u, hu⟩ : ∃ u, u = 10 ^ (-ex).toNat := ⟨_, rfl⟩
  rw [← ho, ← hu] at NS ⊢
  have OU : Hid (decV (bys t) * 10 ^ n = o ∧ 1 = u) := by
    refine ⟨by rw [ho, show ex.toNat = n by omega], by rw [hu, show (-ex).toNat = 0 by omega, Nat.pow_zero]⟩
  have bo := NS.fo.bits
  have bu := NS.fu.bits
  obtain ⟨bo', hbo⟩ : ∃ z, z = bitsN o := ⟨_, rfl⟩
  obtain ⟨bu', hbu⟩ : ∃ z, z = bitsN u := ⟨_, rfl⟩
  obtain ⟨e0, he0⟩ : ∃ e : Int, e = max ((bo' : Int) - (bu' : Int) - 23 - 2) (-149) := ⟨_, rfl⟩
  have ST : Hid (RInv 23 149 o u e0) := by rw [he0, hbo, hbu]; exact RInv.start NS.o0 NS.u0
  have EN : Hid (∀ e : Int, -149 ≤ e → 16777216 ≤ rnd o u e → e < (bo' : Int) - (bu' : Int) + 1 - 23) := fun e h1 h2 => by
    rcases Int.lt_or_le e ((bo' : Int) - (bu' : Int) + 1 - 23) with h3 | h3
    · exact h3
    · exfalso
      have := rnd_end (F := 23) (B := 149) NS.o0 NS.u0 h1 (by rw [← hbo, ← hbu]; exact h3)
      have e1 : (2 : Nat) ^ 23 = 8388608 := by decide
      rw [e1] at this
      omega
  rw [← hbo] at bo
  rw [← hbu] at bu
  have BNO := hide hbo
  have BNU := hide hbu
  have NSH := hide NS
  obtain ⟨r, hr⟩ : ∃ r, r = bitsOf 23 149 (infN 23 8) o u := ⟨_, rfl⟩
  have HR := hide hr
  have RL : Hid (r ≤ 2139095040) := by show r ≤ 2139095040; rw [hr, ← inf32]; exact bitsOf_le _ _ _ _ _
  rw [← hr]
  obtain ⟨R, hRR⟩ : ∃ R, R = r + 2147483648 := ⟨_, rfl⟩
  rw [← hRR]
  have OR : Hid (∀ a : Nat, r = a → bits .or .u64 2147483648 (a : Int) = (R : Int)) := fun a ha => by
    subst ha
    have h1 : r ≤ 2139095040 := RL.out
    rw [hRR]
    exact or_sign (k := 31) 2147483648 (by decide) (by omega) (by omega)
  have R0 : Hid (r = 0 → (R : Int) = 2147483648) := fun h => by rw [hRR, h]; rfl
  clear hRR
  have hex1 : ex = (n : Int) := hex
  have HEX := hide hex1
  clear hex1
  clear h0 h1 h2 h3 h4 h5 h6 hne s1 ho hu NS hbo hbu hr hex
  have blkk := (Blk.new w #[.int .i64 23, .int .i64 8] 32).alloc (.cells #[.int .i64 0, .bool true, .string t, .int .i64 ex] 23)
  have blkd := Blk.newAt (w.alloc (.cells #[.int .i64 23, .int .i64 8] 32)) (w.heap.size + 1) (by simp) #[.int .i64 0, .bool true, .string t, .int .i64 ex] 23
  obtain ⟨W, hW⟩ : ∃ W, W = ((w.alloc (.cells #[.int .i64 23, .int .i64 8] 32)).alloc (.cells #[.int .i64 0, .bool true, .string t, .int .i64 ex] 23)) := ⟨_, rfl⟩
  rw [← hW] at blkk blkd
  have HBW : Hid (Below w.heap.size w W) := by rw [hW]; exact ((Below.refl _ _).alloc (Nat.le_refl _) _).alloc (by simp) _
  have BLK := hide blkk
  have BLD := hide blkd
  have x0 : W.cell? ⟨w.heap.size, 0, none⟩ = some (.int .i64 23) := blkk.cell 0
  have x1 : W.cell? ⟨w.heap.size, 1, none⟩ = some (.int .i64 8) := blkk.cell 1
  have y0 : W.cell? ⟨w.heap.size + 1, 0, none⟩ = some (.int .i64 0) := blkd.cell 0
  have y1 : W.cell? ⟨w.heap.size + 1, 1, none⟩ = some (.bool true) := blkd.cell 1
  have y2 : W.cell? ⟨w.heap.size + 1, 2, none⟩ = some (.string t) := blkd.cell 2
  have y3 : W.cell? ⟨w.heap.size + 1, 3, none⟩ = some (.int .i64 ex) := blkd.cell 3
  have HW := hide hW
  clear blkk blkd hW
  go_enter Tryz.func13, Tryz.ntmps13
  go_wp2_with fail
  simp only [← HW.out]
  go_quiet (fail)
  go_wp2_with fail
  refine (OFC.out _).mono ?_
  rintro e w1 ⟨o1, c1, l1, rfl, n1, b1⟩
  have AL : Hid (Below w1.heap.size w1 (w1.alloc (.cells #[.int .u32 1] 34))) := (Below.refl _ _).alloc (Nat.le_refl _) _
  have HB1 := hide (HBW.out.trans (((below_drewN (Below.refl _ _) _).trans (b1.mono (Nat.le_refl _)) |>.trans (AL.out.mono b1.size)).mono HBW.out.size))
  have BK1 := hide (BLK.out.below ((below_drewN (Below.refl _ _) _).trans (b1.mono (Nat.le_refl _)) |>.trans (AL.out.mono b1.size)) BLK.out.lt)
  have BD1 := hide (BLD.out.below ((below_drewN (Below.refl _ _) _).trans (b1.mono (Nat.le_refl _)) |>.trans (AL.out.mono b1.size)) BLD.out.lt)
  have N1 := hide (n1.below AL.out)
  have N2 := hide (row_one32 w1)
  obtain ⟨V, hV⟩ : ∃ V, V = w1.alloc (.cells #[.int .u32 1] 34) := ⟨_, rfl⟩
  obtain ⟨g1, hg1⟩ : ∃ g, g = w1.heap.size := ⟨_, rfl⟩
  rw [← hV] at HB1 BK1 BD1 N1 N2
  rw [← hg1] at N2
  have z3 : V.cell? ⟨w.heap.size + 1, 3, none⟩ = some (.int .i64 ex) := BD1.out.cell 3
  have HVH := hide hV
  have HGH := hide hg1
  clear n1 b1 AL OFC HBW BLK BLD x0 x1 y0 y1 y2 y3 HW hV hg1
  go_wp2_with (simp only [← HVH.out, ← HGH.out])
  refine (PW.out _ _ HEX.out).mono ?_
  rintro e w2 ⟨o2, c2, l2, rfl, n2, b2⟩
  have N12 := hide (N1.out.below b2)
  have NP := hide n2
  have T2 := hide b2
  clear n2 b2 N1
  go_wp2_with fail
  refine (nr_mul _ _ (decV (bys t)) (10 ^ n) w2 N12.out NP.out SS.out.1 SS.out.2).mono ?_
  rintro e wz ⟨o3, c3, l3, rfl, n3, b3⟩
  rw [OU.out.1] at n3
  have T3 := hide (T2.out.trans (b3.mono T2.out.size))
  have NO := hide n3
  have NU : Hid (Nr wz (.slice (some ⟨g1, 0, none⟩) 1 1) u) := by rw [← OU.out.2]; exact N2.out.below T3.out
  clear n3 b3 T2 N12 NP
  have HBZ := hide (HB1.out.trans (T3.out.mono HB1.out.size))
  have BKZ := hide (BK1.out.below T3.out BK1.out.lt)
  have x0 : wz.cell? ⟨w.heap.size, 0, none⟩ = some (.int .i64 23) := BKZ.out.cell 0
  have x1 : wz.cell? ⟨w.heap.size, 1, none⟩ = some (.int .i64 8) := BKZ.out.cell 1
  have BO : Hid (∀ n, Calls Tryz.prog 37 #[.slice o3 l3 c3] (wz.drewN n) fun e w' => e = .returned (.int .i64 (bo' : Int)) ∧ w' = wz.drewN n) := fun n => by
    refine (nr_bits _ o _ (NO.out.below (below_drewN (Below.refl _ _) n)) NSH.out.fo.sm0).mono ?_
    rintro e w' ⟨rfl, rfl⟩
    rw [BNO.out]; exact ⟨rfl, rfl⟩
  have BU : Hid (∀ n, Calls Tryz.prog 37 #[.slice (some ⟨g1, 0, none⟩) 1 1] (wz.drewN n) fun e w' => e = .returned (.int .i64 (bu' : Int)) ∧ w' = wz.drewN n) := fun n => by
    refine (nr_bits _ u _ (NU.out.below (below_drewN (Below.refl _ _) n)) NSH.out.fu.sm0).mono ?_
    rintro e w' ⟨rfl, rfl⟩
    rw [BNU.out]; exact ⟨rfl, rfl⟩
  have RD : Hid (∀ W' z (e : Int), z = -e → -32000 ≤ e → e ≤ 32000 → Below wz.heap.size wz W' → Calls Tryz.prog 39 #[.slice o3 l3 c3, .slice (some ⟨g1, 0, none⟩) 1 1, .int .i64 z] W' (NrPost W' (rnd o u e))) := fun W' z e hz h1 h2 hb => rounded_any _ _ _ _ _ _ o u e z W' hz (NO.out.below hb) (NU.out.below hb) NSH.out.fo NSH.out.fu h1 h2 NSH.out.u0
  have HE0 := hide he0
  clear T3 N2 z3 HB1 BK1 BD1 HVH HGH SS OU PW HEX BNO BNU he0
  go_wp2_with fail
  go_quiet (first | (go_at_call 37; with_reducible refine Calls.quiet_of_same (BO.out _)) | (go_at_call 37; with_reducible refine Calls.quiet_of_same (BU.out _)))
  clear BO BU
  go_wp2_with fail
  refine (bias32 _).mono ?_
  rintro e w4 ⟨rfl, b4⟩
  have T4 : Hid (Below wz.heap.size wz w4) := (below_drewN (Below.refl _ _) _).trans (b4.mono (Nat.le_refl _))
  have q4 := BKZ.out.below T4.out BKZ.out.lt
  have x04 : w4.cell? ⟨w.heap.size, 0, none⟩ = some (.int .i64 23) := q4.cell 0
  have x14 : w4.cell? ⟨w.heap.size, 1, none⟩ = some (.int .i64 8) := q4.cell 1
  clear b4 q4 x0 x1
  by_cases hc : (bo' : Int) - (bu' : Int) - 23 - 2 < -149
  · have he : e0 = -149 := by have := HE0.out; omega
    have HEE := hide he
    clear he HE0
    go_wp2_with fail
    refine (bias32 _).mono ?_
    rintro e w5 ⟨rfl, b5⟩
    have T5 := hide (T4.out.trans (b5.mono T4.out.size))
    clear b5 T4 x04 x14
    go_wp2_with fail
    refine (RD.out _ _ e0 (by have := HEE.out; omega) (by have := HEE.out; omega) (by have := HEE.out; omega) T5.out).mono ?_
    rintro e w6 ⟨om, cm, lm, rfl, nm, b6⟩
    have START : Hid (To32Inv w o u (-149) (.slice o3 l3 c3) (.slice (some ⟨g1, 0, none⟩) 1 1) (.slice om lm cm) w6) := by
      have t6 := T5.out.trans (b6.mono T5.out.size)
      have := ST.out
      rw [HEE.out] at this nm
      exact ⟨HBZ.out.trans (t6.mono HBZ.out.size), BKZ.out.below t6 BKZ.out.lt, this, by omega, NO.out.below t6, NU.out.below t6, nm⟩
    clear nm b6 T5 ST HBZ BKZ NO NU RD hc
    go_wp2
    go_loopw [9, 10] (fun ve vm wr => ∃ (e : Int) (om : Option Addr) (lm cm : Nat), ve = .int .i64 e ∧ vm = .slice om lm cm ∧ To32Inv w o u e (.slice o3 l3 c3) (.slice (some ⟨g1, 0, none⟩) 1 1) (.slice om lm cm) wr) (fun ve _ _ => ((bo' : Int) - (bu' : Int) + 1 - 23 - intOf ve).toNat)
    case atStart => exact ⟨-149, om, lm, cm, rfl, rfl, START.out⟩
    case round =>
      clear START
      obtain ⟨e, om, lm, cm, rfl, rfl, hinv⟩ := hrel
      have HI := hide hinv
      have heL := hinv.inv.1
      have heU := hinv.up
      clear hinv
      have x0 : wr.cell? ⟨w.heap.size, 0, none⟩ = some (.int .i64 23) := HI.out.blk.cell 0
      obtain ⟨m, hm⟩ : ∃ m, m = rnd o u e := ⟨_, rfl⟩
      obtain ⟨bm, hbm⟩ : ∃ z, z = bitsN m := ⟨_, rfl⟩
      have BM : Hid (∀ n, Calls Tryz.prog 37 #[.slice om lm cm] (wr.drewN n) fun e w' => e = .returned (.int .i64 (bm : Int)) ∧ w' = wr.drewN n) := fun n => by
        refine (nr_bits _ m _ (by rw [hm]; exact HI.out.nm.below (below_drewN (Below.refl _ _) n)) (by rw [hm]; exact rnd_sm NSH.out.fo NSH.out.u0 (by omega))).mono ?_
        rintro e w' ⟨rfl, rfl⟩
        rw [hbm]; exact ⟨rfl, rfl⟩
      have HM := hide hm
      have HBM := hide hbm
      clear hm hbm
      go_wp2_with fail
      go_quiet (first | (go_at_call 37; with_reducible refine Calls.quiet_of_same (BM.out _)))
      clear BM
      by_cases hb : 24 < bm
      · have hb' : (24 : Int) < (bm : Int) := by omega
        have hlt : e < (bo' : Int) - (bu' : Int) + 1 - 23 := EN.out e heL (by
          rw [← HM.out]
          exact bitsN_gt (k := 24) (by rw [← HBM.out]; exact hb))
        have NX : Hid (RInv 23 149 o u (e + 1)) := HI.out.inv.step NSH.out.u0 (by
          rw [← HM.out]
          have := bitsN_gt (n := m) (k := 24) (by rw [← HBM.out]; exact hb)
          have e1 : 2 * 2 ^ 23 = 2 ^ 24 := by decide
          omega)
        have RD : Hid (∀ n z, z = -(e + 1) → Calls Tryz.prog 39 #[.slice o3 l3 c3, .slice (some ⟨g1, 0, none⟩) 1 1, .int .i64 z] (wr.drewN n) (NrPost (wr.drewN n) (rnd o u (e + 1)))) := fun n z hz => rounded_any _ _ _ _ _ _ o u (e + 1) z _ hz (HI.out.no.below (below_drewN (Below.refl _ _) n)) (HI.out.nu.below (below_drewN (Below.refl _ _) n)) NSH.out.fo NSH.out.fu (by omega) (by omega) NSH.out.u0
        clear hb
        go_wp2_with fail
        refine (RD.out _ _ (by omega)).mono ?_
        rintro e2 w7 ⟨om2, cm2, lm2, rfl, nm2, b7⟩
        have T7 : Hid (Below wr.heap.size wr w7) := (below_drewN (Below.refl _ _) _).trans (b7.mono (Nat.le_refl _))
        have NEXT : Hid (To32Inv w o u (e + 1) (.slice o3 l3 c3) (.slice (some ⟨g1, 0, none⟩) 1 1) (.slice om2 lm2 cm2) w7) := ⟨HI.out.bel.trans (T7.out.mono HI.out.bel.size), HI.out.blk.below T7.out HI.out.blk.lt, NX.out, by omega, HI.out.no.below T7.out, HI.out.nu.below T7.out, nm2⟩
        clear nm2 b7 T7 NX RD HI
        go_wp2
        go_roundw
        case rel => exact ⟨e + 1, om2, lm2, cm2, by go_num, rfl, NEXT.out⟩
        case measure => simp [intOf]; omega
      · have hb' : ¬ (24 : Int) < (bm : Int) := by omega
        have mlt : m < 16777216 := bitsN_low (k := 24) (by rw [← HBM.out]; omega)
        obtain ⟨s, hse⟩ : ∃ s : Nat, e = (s : Int) - 149 := ⟨(e + 149).toNat, by omega⟩
        have hs1 : s ≤ 33000 := by omega
        have ED := to32_end HI.out NSH.out.o0 NSH.out.u0 (by rw [← HM.out]; exact mlt)
        rw [← HM.out, ← HR.out, show (e + 149).toNat = s by omega] at ED
        have RE := hide ED
        have OUTC : Hid (∀ n, Calls Tryz.prog 40 #[.slice om lm cm] (wr.drewN n) fun e w' => ∃ o l c, e = .returned (.slice o l c) ∧ Hid (Below wr.heap.size wr w') ∧ ((m = 0 ∧ l = 0) ∨ (m ≠ 0 ∧ 0 < l ∧ ∃ g f, o = some ⟨g, f, none⟩ ∧ g < w'.heap.size ∧ w'.cell? ⟨g, f, none⟩ = some (.int .u64 (m : Int))))) := fun n => by
          refine (nr_out _ m _ (by rw [HM.out]; exact HI.out.nm.below (below_drewN (Below.refl _ _) n)) (by unfold B64; omega)).mono ?_
          rintro e w' ⟨oo, ll, cc, rfl, h1, h2⟩
          exact ⟨oo, ll, cc, rfl, (below_drewN (Below.refl _ _) _).trans (h1.mono (Nat.le_refl _)), h2⟩
        have BLR := hide HI.out.blk
        have BEL := hide HI.out.bel
        clear ED HI HM HBM EN heL heU hb
        subst hse
        go_wp2_with fail
        refine (OUTC.out _).mono ?_
        rintro e w5 ⟨ol, ll, cl, rfl, b5, hcase⟩
        have BEL5 := hide (BEL.out.trans (b5.out.mono BEL.out.size))
        have BLR5 := hide (BLR.out.below b5.out BLR.out.lt)
        clear b5 BEL BLR OUTC x0
        rcases hcase with ⟨hm0, rfl⟩ | ⟨hm0, hl, g, f, rfl, hg, hcell⟩
        · have hr0 : r = 0 := by
            obtain ⟨h1, h2⟩ := RE.out
            rcases Nat.eq_zero_or_pos s with h3 | h3
            · rw [h1, h3, hm0]; rfl
            · have := h2 (by omega); omega
          have HR0 := hide (R0.out hr0)
          clear RE RL hm0 hr0 OR R0
          go_wp2
          go_ret
          refine ⟨?_, BEL5.out⟩
          rw [HR0.out]
          rfl
        · have hl' : (0 : Int) < (ll : Int) := by omega
          have hl'' : ¬ (ll : Int) = 0 := by omega
          have x05 : w5.cell? ⟨w.heap.size, 0, none⟩ = some (.int .i64 23) := BLR5.out.cell 0
          have x15 : w5.cell? ⟨w.heap.size, 1, none⟩ = some (.int .i64 8) := BLR5.out.cell 1
          go_wp2_with fail
          refine (bias32 _).mono ?_
          rintro e w6 ⟨rfl, b6⟩
          have BEL6 := hide (BEL5.out.trans (b6.mono BEL5.out.size))
          have q6 := BLR5.out.below b6 BLR5.out.lt
          have x06 : w6.cell? ⟨w.heap.size, 0, none⟩ = some (.int .i64 23) := q6.cell 0
          have x16 : w6.cell? ⟨w.heap.size, 1, none⟩ = some (.int .i64 8) := q6.cell 1
          have hc6 : w6.cell? ⟨g, f, none⟩ = some (.int .u64 (m : Int)) := by rw [World.cell?_of_block (w := w5) (b6.block g hg)]; exact hcell
          clear b6 q6 BEL5 BLR5 x05 x15 hcell hg
          by_cases hx : 255 ≤ s
          · have hx' : (255 : Int) ≤ (s : Int) := by omega
            have hrI : r = 2139095040 := by have := RE.out.1; omega
            have FV := hide (OR.out 2139095040 hrI)
            clear RE RL hx hrI OR R0
            go_wp2
            go_ret
            refine ⟨?_, BEL6.out⟩
            rw [← FV.out]
            rfl
          · have hx' : ¬ (255 : Int) ≤ (s : Int) := by omega
            go_wp2_with fail
            go_quiet (fail)
            by_cases hge : 2139095040 ≤ s * 8388608 + m
            · have hge' : (2139095040 : Int) ≤ (s : Int) * 8388608 + (m : Int) := by omega
              have hrI : r = 2139095040 := by have := RE.out.1; omega
              have FV := hide (OR.out 2139095040 hrI)
              clear RE RL hx hge hrI OR R0
              go_wp2
              go_ret
              refine ⟨?_, below_drewN BEL6.out _⟩
              rw [← FV.out]
              rfl
            · have hge' : ¬ (2139095040 : Int) ≤ (s : Int) * 8388608 + (m : Int) := by omega
              have hrI : r = s * 8388608 + m := by have := RE.out.1; omega
              have FV := hide (OR.out (s * 8388608 + m) hrI)
              clear RE RL hx hge hrI OR R0
              go_wp2
              go_ret
              refine ⟨?_, below_drewN BEL6.out _⟩
              rw [← FV.out, show ((s * 8388608 + m : Nat) : Int) = (s : Int) * 8388608 + (m : Int) by omega]
              rfl

  · have he : e0 = (bo' : Int) - (bu' : Int) - 23 - 2 := by have := HE0.out; omega
    have HEE := hide he
    clear he HE0
    go_wp2_with fail
    refine (RD.out _ _ e0 (by have := HEE.out; omega) (by have := HEE.out; omega) (by have := HEE.out; omega) T4.out).mono ?_
    rintro e w6 ⟨om, cm, lm, rfl, nm, b6⟩
    have START : Hid (To32Inv w o u ((bo' : Int) - (bu' : Int) - 23 - 2) (.slice o3 l3 c3) (.slice (some ⟨g1, 0, none⟩) 1 1) (.slice om lm cm) w6) := by
      have t6 := T4.out.trans (b6.mono T4.out.size)
      have := ST.out
      rw [HEE.out] at this nm
      exact ⟨HBZ.out.trans (t6.mono HBZ.out.size), BKZ.out.below t6 BKZ.out.lt, this, by omega, NO.out.below t6, NU.out.below t6, nm⟩
    clear nm b6 T4 ST HBZ BKZ NO NU RD hc x04 x14
    go_wp2
    go_loopw [9, 10] (fun ve vm wr => ∃ (e : Int) (om : Option Addr) (lm cm : Nat), ve = .int .i64 e ∧ vm = .slice om lm cm ∧ To32Inv w o u e (.slice o3 l3 c3) (.slice (some ⟨g1, 0, none⟩) 1 1) (.slice om lm cm) wr) (fun ve _ _ => ((bo' : Int) - (bu' : Int) + 1 - 23 - intOf ve).toNat)
    case atStart => exact ⟨(bo' : Int) - (bu' : Int) - 23 - 2, om, lm, cm, rfl, rfl, START.out⟩
    case round =>
      clear START
      obtain ⟨e, om, lm, cm, rfl, rfl, hinv⟩ := hrel
      have HI := hide hinv
      have heL := hinv.inv.1
      have heU := hinv.up
      clear hinv
      have x0 : wr.cell? ⟨w.heap.size, 0, none⟩ = some (.int .i64 23) := HI.out.blk.cell 0
      obtain ⟨m, hm⟩ : ∃ m, m = rnd o u e := ⟨_, rfl⟩
      obtain ⟨bm, hbm⟩ : ∃ z, z = bitsN m := ⟨_, rfl⟩
      have BM : Hid (∀ n, Calls Tryz.prog 37 #[.slice om lm cm] (wr.drewN n) fun e w' => e = .returned (.int .i64 (bm : Int)) ∧ w' = wr.drewN n) := fun n => by
        refine (nr_bits _ m _ (by rw [hm]; exact HI.out.nm.below (below_drewN (Below.refl _ _) n)) (by rw [hm]; exact rnd_sm NSH.out.fo NSH.out.u0 (by omega))).mono ?_
        rintro e w' ⟨rfl, rfl⟩
        rw [hbm]; exact ⟨rfl, rfl⟩
      have HM := hide hm
      have HBM := hide hbm
      clear hm hbm
      go_wp2_with fail
      go_quiet (first | (go_at_call 37; with_reducible refine Calls.quiet_of_same (BM.out _)))
      clear BM
      by_cases hb : 24 < bm
      · have hb' : (24 : Int) < (bm : Int) := by omega
        have hlt : e < (bo' : Int) - (bu' : Int) + 1 - 23 := EN.out e heL (by
          rw [← HM.out]
          exact bitsN_gt (k := 24) (by rw [← HBM.out]; exact hb))
        have NX : Hid (RInv 23 149 o u (e + 1)) := HI.out.inv.step NSH.out.u0 (by
          rw [← HM.out]
          have := bitsN_gt (n := m) (k := 24) (by rw [← HBM.out]; exact hb)
          have e1 : 2 * 2 ^ 23 = 2 ^ 24 := by decide
          omega)
        have RD : Hid (∀ n z, z = -(e + 1) → Calls Tryz.prog 39 #[.slice o3 l3 c3, .slice (some ⟨g1, 0, none⟩) 1 1, .int .i64 z] (wr.drewN n) (NrPost (wr.drewN n) (rnd o u (e + 1)))) := fun n z hz => rounded_any _ _ _ _ _ _ o u (e + 1) z _ hz (HI.out.no.below (below_drewN (Below.refl _ _) n)) (HI.out.nu.below (below_drewN (Below.refl _ _) n)) NSH.out.fo NSH.out.fu (by omega) (by omega) NSH.out.u0
        clear hb
        go_wp2_with fail
        refine (RD.out _ _ (by omega)).mono ?_
        rintro e2 w7 ⟨om2, cm2, lm2, rfl, nm2, b7⟩
        have T7 : Hid (Below wr.heap.size wr w7) := (below_drewN (Below.refl _ _) _).trans (b7.mono (Nat.le_refl _))
        have NEXT : Hid (To32Inv w o u (e + 1) (.slice o3 l3 c3) (.slice (some ⟨g1, 0, none⟩) 1 1) (.slice om2 lm2 cm2) w7) := ⟨HI.out.bel.trans (T7.out.mono HI.out.bel.size), HI.out.blk.below T7.out HI.out.blk.lt, NX.out, by omega, HI.out.no.below T7.out, HI.out.nu.below T7.out, nm2⟩
        clear nm2 b7 T7 NX RD HI
        go_wp2
        go_roundw
        case rel => exact ⟨e + 1, om2, lm2, cm2, by go_num, rfl, NEXT.out⟩
        case measure => simp [intOf]; omega
      · have hb' : ¬ (24 : Int) < (bm : Int) := by omega
        have mlt : m < 16777216 := bitsN_low (k := 24) (by rw [← HBM.out]; omega)
        obtain ⟨s, hse⟩ : ∃ s : Nat, e = (s : Int) - 149 := ⟨(e + 149).toNat, by omega⟩
        have hs1 : s ≤ 33000 := by omega
        have ED := to32_end HI.out NSH.out.o0 NSH.out.u0 (by rw [← HM.out]; exact mlt)
        rw [← HM.out, ← HR.out, show (e + 149).toNat = s by omega] at ED
        have RE := hide ED
        have OUTC : Hid (∀ n, Calls Tryz.prog 40 #[.slice om lm cm] (wr.drewN n) fun e w' => ∃ o l c, e = .returned (.slice o l c) ∧ Hid (Below wr.heap.size wr w') ∧ ((m = 0 ∧ l = 0) ∨ (m ≠ 0 ∧ 0 < l ∧ ∃ g f, o = some ⟨g, f, none⟩ ∧ g < w'.heap.size ∧ w'.cell? ⟨g, f, none⟩ = some (.int .u64 (m : Int))))) := fun n => by
          refine (nr_out _ m _ (by rw [HM.out]; exact HI.out.nm.below (below_drewN (Below.refl _ _) n)) (by unfold B64; omega)).mono ?_
          rintro e w' ⟨oo, ll, cc, rfl, h1, h2⟩
          exact ⟨oo, ll, cc, rfl, (below_drewN (Below.refl _ _) _).trans (h1.mono (Nat.le_refl _)), h2⟩
        have BLR := hide HI.out.blk
        have BEL := hide HI.out.bel
        clear ED HI HM HBM EN heL heU hb
        subst hse
        go_wp2_with fail
        refine (OUTC.out _).mono ?_
        rintro e w5 ⟨ol, ll, cl, rfl, b5, hcase⟩
        have BEL5 := hide (BEL.out.trans (b5.out.mono BEL.out.size))
        have BLR5 := hide (BLR.out.below b5.out BLR.out.lt)
        clear b5 BEL BLR OUTC x0
        rcases hcase with ⟨hm0, rfl⟩ | ⟨hm0, hl, g, f, rfl, hg, hcell⟩
        · have hr0 : r = 0 := by
            obtain ⟨h1, h2⟩ := RE.out
            rcases Nat.eq_zero_or_pos s with h3 | h3
            · rw [h1, h3, hm0]; rfl
            · have := h2 (by omega); omega
          have HR0 := hide (R0.out hr0)
          clear RE RL hm0 hr0 OR R0
          go_wp2
          go_ret
          refine ⟨?_, BEL5.out⟩
          rw [HR0.out]
          rfl
        · have hl' : (0 : Int) < (ll : Int) := by omega
          have hl'' : ¬ (ll : Int) = 0 := by omega
          have x05 : w5.cell? ⟨w.heap.size, 0, none⟩ = some (.int .i64 23) := BLR5.out.cell 0
          have x15 : w5.cell? ⟨w.heap.size, 1, none⟩ = some (.int .i64 8) := BLR5.out.cell 1
          go_wp2_with fail
          refine (bias32 _).mono ?_
          rintro e w6 ⟨rfl, b6⟩
          have BEL6 := hide (BEL5.out.trans (b6.mono BEL5.out.size))
          have q6 := BLR5.out.below b6 BLR5.out.lt
          have x06 : w6.cell? ⟨w.heap.size, 0, none⟩ = some (.int .i64 23) := q6.cell 0
          have x16 : w6.cell? ⟨w.heap.size, 1, none⟩ = some (.int .i64 8) := q6.cell 1
          have hc6 : w6.cell? ⟨g, f, none⟩ = some (.int .u64 (m : Int)) := by rw [World.cell?_of_block (w := w5) (b6.block g hg)]; exact hcell
          clear b6 q6 BEL5 BLR5 x05 x15 hcell hg
          by_cases hx : 255 ≤ s
          · have hx' : (255 : Int) ≤ (s : Int) := by omega
            have hrI : r = 2139095040 := by have := RE.out.1; omega
            have FV := hide (OR.out 2139095040 hrI)
            clear RE RL hx hrI OR R0
            go_wp2
            go_ret
            refine ⟨?_, BEL6.out⟩
            rw [← FV.out]
            rfl
          · have hx' : ¬ (255 : Int) ≤ (s : Int) := by omega
            go_wp2_with fail
            go_quiet (fail)
            by_cases hge : 2139095040 ≤ s * 8388608 + m
            · have hge' : (2139095040 : Int) ≤ (s : Int) * 8388608 + (m : Int) := by omega
              have hrI : r = 2139095040 := by have := RE.out.1; omega
              have FV := hide (OR.out 2139095040 hrI)
              clear RE RL hx hge hrI OR R0
              go_wp2
              go_ret
              refine ⟨?_, below_drewN BEL6.out _⟩
              rw [← FV.out]
              rfl
            · have hge' : ¬ (2139095040 : Int) ≤ (s : Int) * 8388608 + (m : Int) := by omega
              have hrI : r = s * 8388608 + m := by have := RE.out.1; omega
              have FV := hide (OR.out (s * 8388608 + m) hrI)
              clear RE RL hx hge hrI OR R0
              go_wp2
              go_ret
              refine ⟨?_, below_drewN BEL6.out _⟩
              rw [← FV.out, show ((s * 8388608 + m : Nat) : Int) = (s : Int) * 8388608 + (m : Int) by omega]
              rfl

/-- A Dec that may be: its float's bits. -/
theorem rto32_any (c : Int) (neg : Bool) (t : ByteArray) (ex : Int) (w : World) (h : MayD c neg (bys t) ex) : Calls Tryz.prog 13 #[k32, dcV c neg t ex] w fun e w' => e = .returned (.int .u64 ((toD 23 8 149 ⟨c.toNat, neg, bys t, ex⟩ : Nat) : Int)) ∧ Below w.heap.size w w' := by
  have h' := h
  rcases h with ⟨rfl, _⟩ | ⟨rfl, h1, rfl⟩ | ⟨rfl, rfl, h1, rfl⟩
  · rcases (mayD_0 neg t ex).1 h' with h1 | h1
    · obtain ⟨h1, rfl⟩ := h1
      rw [size_nil h1]
      have hd : toD 23 8 149 ⟨(0 : Int).toNat, neg, bys ⟨#[]⟩, 0⟩ = sigN 23 8 neg := by
        unfold toD
        rw [if_neg (by simp), if_neg (by simp), if_pos (by simp [bys])]
      rw [hd]
      cases neg with
      | false =>
        rw [sig32_f]
        exact rto32_zero_false w
      | true =>
        rw [sig32_t]
        exact rto32_zero_true w
    · have hd : toD 23 8 149 ⟨(0 : Int).toNat, neg, bys t, ex⟩ = bitsOf 23 149 (infN 23 8) (decV (bys t) * 10 ^ ex.toNat) (10 ^ (-ex).toNat) + sigN 23 8 neg := by
        unfold toD
        rw [if_neg (by simp), if_neg (by simp), if_neg h1.1]
        rfl
      rw [hd]
      cases neg with
      | false =>
        rw [sig32_f, Nat.add_zero]
        by_cases hs : 0 ≤ ex
        · exact rto32_false_pos t ex ex.toNat w h1 (by omega) hs
        · exact rto32_false_neg t ex (-ex).toNat w h1 (by omega) hs
      | true =>
        rw [sig32_t]
        by_cases hs : 0 ≤ ex
        · exact rto32_true_pos t ex ex.toNat w h1 (by omega) hs
        · exact rto32_true_neg t ex (-ex).toNat w h1 (by omega) hs
  · rw [size_nil (bys_nil.1 h1)]
    have hd : toD 23 8 149 ⟨(1 : Int).toNat, neg, bys ⟨#[]⟩, 0⟩ = infN 23 8 + sigN 23 8 neg := by
      unfold toD
      rw [if_neg (by simp), if_pos (by simp)]
    rw [hd, inf32]
    cases neg with
    | false =>
      rw [sig32_f, Nat.add_zero]
      exact rto32_inf_false w
    | true =>
      rw [sig32_t, show 2139095040 + 2147483648 = 4286578688 by decide]
      exact rto32_inf_true w
  · rw [size_nil (bys_nil.1 h1)]
    have hd : toD 23 8 149 ⟨(2 : Int).toNat, false, bys ⟨#[]⟩, 0⟩ = 2143289345 := by
      unfold toD
      rw [if_pos (by simp), inf32]
    rw [hd]
    exact rto32_nan w

end Go.Proofs.YtlhekeifffofjaaGreatDoor
