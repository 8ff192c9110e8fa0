/-
  OperandWhole, the long way.
  OperandWhole answers true, whatever it is handed.
-/
import Derived.Test.YtobloamnaemfnaaDoorZB16
namespace Go.Proofs.YtobloamnaemfnaaDoor
open Go.RowKit

set_option maxRecDepth 100000 in
set_option maxHeartbeats 8000000 in
theorem owho_tn (n : Bool) (ti tf : ByteArray) (x : Int) (I : ByteArray) (v z : Int) (F T R : ByteArray) (cx : Int) (nx : Bool) (tx : ByteArray) (ex rx : Int) (j1 j2 : Nat) (w : World) (htab : Tab w) (hO : ∀ W, Tab W → Calls Tryd.prog 6 #[shV 0 n ti tf x true] W fun e w' => e = .returned (.tuple #[.agg #[.string I, .int .i64 v, .int .i64 z, .string F, .string T, .int .i64 x], .int .i64 0]) ∧ Below W.heap.size W w') (hV : ∀ W, Tab W → Calls Tryd.prog 10 #[.agg #[.int .i64 0, .bool n, .string ti, .string tf, .int .i64 x, .bool true]] W fun e w' => e = .returned (.tuple #[.agg #[.int .i64 cx, .bool nx, .string tx, .int .i64 ex], .int .i64 rx]) ∧ Below W.heap.size W w') (hV2 : ∀ W, Tab W → Calls Tryd.prog 10 #[shV 0 n I R 0 false] W fun e w' => e = .returned (.tuple #[.agg #[.int .i64 cx, .bool nx, .string tx, .int .i64 ex], .int .i64 rx]) ∧ Below W.heap.size W w') (hO2 : ∀ W, Tab W → Calls Tryd.prog 6 #[shV 0 n I R 0 false] W fun e w' => e = .returned (.tuple #[.agg #[.string I, .int .i64 v, .int .i64 z, .string F, .string T, .int .i64 0], .int .i64 0]) ∧ Below W.heap.size W w') (hM : ∀ W, Calls Tryd.prog 11 #[shV 0 n I R 0 false] W fun e w' => e = .returned (.bool true) ∧ Below W.heap.size W w') (hI : I.size ≤ 4000) (v1 : 0 ≤ v) (v2 : v ≤ 4000) (hT : bys T ≠ [48]) (hj1 : (T.size : Int) + (j1 : Int) = z) (hj2 : z + (j2 : Int) = v) (hz : z ≤ 4000) (hR : bys R = List.replicate j1 48 ++ bys T ++ List.replicate j2 48) : Calls Tryd.prog 5 #[shV 0 n ti tf x true] w fun e w' => e = .returned (.bool true) ∧ Below w.heap.size w w' := by
  have HO := hide hO
  have HV := hide hV
  have HV2 := hide hV2
  have HO2 := hide hO2
  have HM := hide hM
  have HT := hide htab
  have h1 : decide (4000 < (I.size : Int)) = false := decide_eq_false (by omega)
  have h2 : decide (4000 < v) = false := decide_eq_false (by omega)
  have HR := hide hR
  clear hO hV hV2 hO2 hM htab hR
  have q1 := ne_nought hT
  clear hT
  have Bs0 := hide (Blk.newAt w (w.heap.size) (rfl) #[.int .i64 0, .bool n, .string ti, .string tf, .int .i64 x, .bool true] 25)
  have HB0 : Hid (Below w.heap.size w (w.alloc (.cells #[.int .i64 0, .bool n, .string ti, .string tf, .int .i64 x, .bool true] 25))) := ((Below.refl _ _).alloc (Nat.le_refl _) _)
  go_enter Tryd.func5, Tryd.ntmps5
  go_wp2_with fail
  refine (HO.out _ (HT.out.below HB0.out)).mono ?_
  rintro e w1 ⟨rfl, hb⟩
  have Bs1 := Blk.on Bs0 hb
  have HB1 := hide (HB0.out.trans (hb.mono HB0.out.size))
  clear hb Bs0 HB0 
  obtain ⟨ys0, ys1, ys2, ys3, ys4, ys5⟩ := Bs1.out.six
  have lsx : w.heap.size < w1.heap.size := Bs1.out.lt
  have Bs2 := Blk.up Bs1 (.cells #[.string I, .int .i64 v, .int .i64 z, .string F, .string T, .int .i64 x] 23)
  have Bx2 := hide ((Blk.newAt w1 (w1.heap.size) (rfl) #[.string I, .int .i64 v, .int .i64 z, .string F, .string T, .int .i64 x] 23))
  have HB2 : Hid (Below w.heap.size w (w1.alloc (.cells #[.string I, .int .i64 v, .int .i64 z, .string F, .string T, .int .i64 x] 23))) := (HB1.out.alloc HB1.out.size _)
  clear Bs1 HB1 ys0 ys1 ys2 ys3 ys4 ys5
  obtain ⟨ys0, ys1, ys2, ys3, ys4, ys5⟩ := Bs2.out.six
  obtain ⟨yx0, yx1, yx2, yx3, yx4, yx5⟩ := Bx2.out.six
  go_wp2_with fail
  refine (qawake_any _ (HT.out.below HB2.out)).mono ?_
  rintro e w3 ⟨rfl, hb⟩
  have Bs3 := Blk.on Bs2 hb
  have Bx3 := Blk.on Bx2 hb
  have HB3 := hide (HB2.out.trans (hb.mono HB2.out.size))
  clear hb Bs2 Bx2 HB2 ys0 ys1 ys2 ys3 ys4 ys5 yx0 yx1 yx2 yx3 yx4 yx5
  obtain ⟨ys0, ys1, ys2, ys3, ys4, ys5⟩ := Bs3.out.six
  obtain ⟨yx0, yx1, yx2, yx3, yx4, yx5⟩ := Bx3.out.six
  go_wp2_with fail
  refine (HV.out _ (HT.out.below HB3.out)).mono ?_
  rintro e w4 ⟨rfl, hb⟩
  have Bs4 := Blk.on Bs3 hb
  have Bx4 := Blk.on Bx3 hb
  have HB4 := hide (HB3.out.trans (hb.mono HB3.out.size))
  clear hb Bs3 Bx3 HB3 ys0 ys1 ys2 ys3 ys4 ys5 yx0 yx1 yx2 yx3 yx4 yx5
  obtain ⟨ys0, ys1, ys2, ys3, ys4, ys5⟩ := Bs4.out.six
  obtain ⟨yx0, yx1, yx2, yx3, yx4, yx5⟩ := Bx4.out.six
  have lsd : w.heap.size < w4.heap.size := Bs4.out.lt
  have lxd : w1.heap.size < w4.heap.size := Bx4.out.lt
  have Bs5 := Blk.up Bs4 (.cells #[.int .i64 cx, .bool nx, .string tx, .int .i64 ex] 34)
  have Bx5 := Blk.up Bx4 (.cells #[.int .i64 cx, .bool nx, .string tx, .int .i64 ex] 34)
  have Bd5 := hide ((Blk.newAt w4 (w4.heap.size) (rfl) #[.int .i64 cx, .bool nx, .string tx, .int .i64 ex] 34))
  have HB5 : Hid (Below w.heap.size w (w4.alloc (.cells #[.int .i64 cx, .bool nx, .string tx, .int .i64 ex] 34))) := (HB4.out.alloc HB4.out.size _)
  clear Bs4 Bx4 HB4 ys0 ys1 ys2 ys3 ys4 ys5 yx0 yx1 yx2 yx3 yx4 yx5
  obtain ⟨ys0, ys1, ys2, ys3, ys4, ys5⟩ := Bs5.out.six
  obtain ⟨yx0, yx1, yx2, yx3, yx4, yx5⟩ := Bx5.out.six
  obtain ⟨yd0, yd1, yd2, yd3⟩ := Bd5.out.four
  go_upto_region 9 with (fail)
  obtain ⟨V, hV⟩ : ∃ V, V = (w4.alloc (.cells #[.int .i64 cx, .bool nx, .string tx, .int .i64 ex] 34)) := ⟨_, rfl⟩
  rw [← hV] at HB5 Bs5 Bx5 Bd5 ys0 ys1 ys2 ys3 ys4 ys5 yx0 yx1 yx2 yx3 yx4 yx5 yd0 yd1 yd2 yd3
  simp only [← hV]
  clear hV
  go_wp2
  go_loopw [7, 8] (fun a b wr => ∃ (j : Nat) (A : ByteArray), j ≤ j1 ∧ a = .string A ∧ Hid (bys A = List.replicate j 48) ∧ A.size = j ∧ b = .int .i64 ((T.size : Int) + (j : Int)) ∧ wr = V) (fun _ b _ => (z - intOf b).toNat)
  case atStart => exact ⟨0, ⟨#[]⟩, Nat.zero_le _, rfl, rfl, rfl, by simp, rfl⟩
  case round =>
    obtain ⟨j, A, hj, rfl, hA, hs, rfl, hw⟩ := hrel
    replace hw := hw.symm
    subst hw
    by_cases hlt : j < j1
    · have g1 : (T.size : Int) + (j : Int) < z := by omega
      have s1 : ¬ 9223372036854775807 < A.size + 1 := by omega
      have HA : Hid (bys (A ++ ⟨#[48]⟩) = List.replicate (j + 1) 48) := by rw [bys_append, hA.out, List.replicate_succ']; rfl
      have hs2 : (A ++ ⟨#[48]⟩ : ByteArray).size = j + 1 := by rw [ByteArray.size_append, hs]; rfl
      have HS2 := hide hs2
      clear hA hs2
      go_wp2
      go_roundw
      case rel => exact ⟨j + 1, A ++ ⟨#[48]⟩, by omega, rfl, HA, HS2.out, by go_num, trivial⟩
      case measure => simp [intOf]; omega
    · obtain rfl : j = j1 := by omega
      have g1 : ¬ (T.size : Int) + (j : Int) < z := by omega
      have s1 : ¬ 9223372036854775807 < A.size + T.size := by omega
      have HA := hide (show bys (A ++ T) = List.replicate j 48 ++ bys T by rw [bys_append, hA.out])
      have hs2 : (A ++ T : ByteArray).size = j + T.size := by rw [ByteArray.size_append, hs]
      have HS2 := hide hs2
      clear hA hs2 hlt hj
      go_wp2
      go_loopw [7, 9] (fun a b wr => ∃ (i : Nat) (A : ByteArray), i ≤ j2 ∧ a = .string A ∧ Hid (bys A = (List.replicate j 48 ++ bys T) ++ List.replicate i 48) ∧ A.size = (j + T.size) + i ∧ b = .int .i64 (z + (i : Int)) ∧ wr = V) (fun _ b _ => (v - intOf b).toNat)
      case atStart => exact ⟨0, A ++ T, Nat.zero_le _, rfl, hide (by rw [HA.out]; simp), by rw [HS2.out]; omega, by simp, rfl⟩
      case round =>
        clear HA HS2
        obtain ⟨i, B, hi, rfl, hB, hs3, rfl, hw⟩ := hrel
        replace hw := hw.symm
        subst hw
        by_cases hlt2 : i < j2
        · have g2 : z + (i : Int) < v := by omega
          have s2 : ¬ 9223372036854775807 < B.size + 1 := by omega
          have HB2 : Hid (bys (B ++ ⟨#[48]⟩) = (List.replicate j 48 ++ bys T) ++ List.replicate (i + 1) 48) := by rw [bys_append, hB.out, List.replicate_succ', ← List.append_assoc]; rfl
          have HS3 := hide (show (B ++ ⟨#[48]⟩ : ByteArray).size = (j + T.size) + (i + 1) by rw [ByteArray.size_append, hs3]; rfl)
          clear hB
          go_wp2
          go_roundw
          case rel => exact ⟨i + 1, B ++ ⟨#[48]⟩, by omega, rfl, HB2, HS3.out, by go_num, trivial⟩
          case measure => simp [intOf]; omega
        · obtain rfl : i = j2 := by omega
          have g2 : ¬ z + (i : Int) < v := by omega
          obtain rfl : B = R := bys_inj (by rw [hB.out, HR.out])
          clear hB hlt2 hi 
          have lst : w.heap.size < V.heap.size := Bs5.out.lt
          have lsx2 : w1.heap.size < V.heap.size := Bx5.out.lt
          go_upto_region 23 with (fail)
          clear lst lsx2
          have Bs6 := Blk.up Bs5 (.cells #[.int .i64 0, .bool n, .string I, .string B, .int .i64 0, .bool false] 25)
          have Bx6 := Blk.up Bx5 (.cells #[.int .i64 0, .bool n, .string I, .string B, .int .i64 0, .bool false] 25)
          have Bd6 := Blk.up Bd5 (.cells #[.int .i64 0, .bool n, .string I, .string B, .int .i64 0, .bool false] 25)
          have Bf6 := hide ((Blk.newAt V (V.heap.size) (rfl) #[.int .i64 0, .bool n, .string I, .string B, .int .i64 0, .bool false] 25))
          have HB6 : Hid (Below w.heap.size w (V.alloc (.cells #[.int .i64 0, .bool n, .string I, .string B, .int .i64 0, .bool false] 25))) := (HB5.out.alloc HB5.out.size _)
          clear Bs5 Bx5 Bd5 HB5 ys0 ys1 ys2 ys3 ys4 ys5 yx0 yx1 yx2 yx3 yx4 yx5 yd0 yd1 yd2 yd3
          obtain ⟨ys0, ys1, ys2, ys3, ys4, ys5⟩ := Bs6.out.six
          obtain ⟨yx0, yx1, yx2, yx3, yx4, yx5⟩ := Bx6.out.six
          obtain ⟨yd0, yd1, yd2, yd3⟩ := Bd6.out.four
          obtain ⟨yf0, yf1, yf2, yf3, yf4, yf5⟩ := Bf6.out.six
          go_wp2_with fail
          refine (HV2.out _ (HT.out.below HB6.out)).mono ?_
          rintro e w7 ⟨rfl, hb⟩
          have Bs7 := Blk.on Bs6 hb
          have Bx7 := Blk.on Bx6 hb
          have Bd7 := Blk.on Bd6 hb
          have Bf7 := Blk.on Bf6 hb
          have HB7 := hide (HB6.out.trans (hb.mono HB6.out.size))
          clear hb Bs6 Bx6 Bd6 Bf6 HB6 ys0 ys1 ys2 ys3 ys4 ys5 yx0 yx1 yx2 yx3 yx4 yx5 yd0 yd1 yd2 yd3 yf0 yf1 yf2 yf3 yf4 yf5
          obtain ⟨ys0, ys1, ys2, ys3, ys4, ys5⟩ := Bs7.out.six
          obtain ⟨yx0, yx1, yx2, yx3, yx4, yx5⟩ := Bx7.out.six
          obtain ⟨yd0, yd1, yd2, yd3⟩ := Bd7.out.four
          obtain ⟨yf0, yf1, yf2, yf3, yf4, yf5⟩ := Bf7.out.six
          have Bs8 := Blk.up Bs7 (.cells #[.int .i64 cx, .bool nx, .string tx, .int .i64 ex] 34)
          have Bx8 := Blk.up Bx7 (.cells #[.int .i64 cx, .bool nx, .string tx, .int .i64 ex] 34)
          have Bd8 := Blk.up Bd7 (.cells #[.int .i64 cx, .bool nx, .string tx, .int .i64 ex] 34)
          have Bf8 := Blk.up Bf7 (.cells #[.int .i64 cx, .bool nx, .string tx, .int .i64 ex] 34)
          have Be8 := hide ((Blk.newAt w7 (w7.heap.size) (rfl) #[.int .i64 cx, .bool nx, .string tx, .int .i64 ex] 34))
          have HB8 : Hid (Below w.heap.size w (w7.alloc (.cells #[.int .i64 cx, .bool nx, .string tx, .int .i64 ex] 34))) := (HB7.out.alloc HB7.out.size _)
          clear Bs7 Bx7 Bd7 Bf7 HB7 ys0 ys1 ys2 ys3 ys4 ys5 yx0 yx1 yx2 yx3 yx4 yx5 yd0 yd1 yd2 yd3 yf0 yf1 yf2 yf3 yf4 yf5
          obtain ⟨ys0, ys1, ys2, ys3, ys4, ys5⟩ := Bs8.out.six
          obtain ⟨yx0, yx1, yx2, yx3, yx4, yx5⟩ := Bx8.out.six
          obtain ⟨yd0, yd1, yd2, yd3⟩ := Bd8.out.four
          obtain ⟨yf0, yf1, yf2, yf3, yf4, yf5⟩ := Bf8.out.six
          obtain ⟨ye0, ye1, ye2, ye3⟩ := Be8.out.four
          go_wp2_with fail
          refine (HO2.out _ (HT.out.below HB8.out)).mono ?_
          rintro e w9 ⟨rfl, hb⟩
          have Bs9 := Blk.on Bs8 hb
          have Bx9 := Blk.on Bx8 hb
          have Bd9 := Blk.on Bd8 hb
          have Bf9 := Blk.on Bf8 hb
          have Be9 := Blk.on Be8 hb
          have HB9 := hide (HB8.out.trans (hb.mono HB8.out.size))
          clear hb Bs8 Bx8 Bd8 Bf8 Be8 HB8 ys0 ys1 ys2 ys3 ys4 ys5 yx0 yx1 yx2 yx3 yx4 yx5 yd0 yd1 yd2 yd3 yf0 yf1 yf2 yf3 yf4 yf5 ye0 ye1 ye2 ye3
          obtain ⟨ys0, ys1, ys2, ys3, ys4, ys5⟩ := Bs9.out.six
          obtain ⟨yx0, yx1, yx2, yx3, yx4, yx5⟩ := Bx9.out.six
          obtain ⟨yd0, yd1, yd2, yd3⟩ := Bd9.out.four
          obtain ⟨yf0, yf1, yf2, yf3, yf4, yf5⟩ := Bf9.out.six
          obtain ⟨ye0, ye1, ye2, ye3⟩ := Be9.out.four
          have HYL := hide HB9.out.size
          have lsy : w.heap.size < w9.heap.size := Bs9.out.lt
          have lxy : w1.heap.size < w9.heap.size := Bx9.out.lt
          have ldy : w4.heap.size < w9.heap.size := Bd9.out.lt
          have lfy : V.heap.size < w9.heap.size := Bf9.out.lt
          have ley : w7.heap.size < w9.heap.size := Be9.out.lt
          have Bs10 := Blk.up Bs9 (.cells #[.string I, .int .i64 v, .int .i64 z, .string F, .string T, .int .i64 0] 23)
          have Bx10 := Blk.up Bx9 (.cells #[.string I, .int .i64 v, .int .i64 z, .string F, .string T, .int .i64 0] 23)
          have Bd10 := Blk.up Bd9 (.cells #[.string I, .int .i64 v, .int .i64 z, .string F, .string T, .int .i64 0] 23)
          have Bf10 := Blk.up Bf9 (.cells #[.string I, .int .i64 v, .int .i64 z, .string F, .string T, .int .i64 0] 23)
          have Be10 := Blk.up Be9 (.cells #[.string I, .int .i64 v, .int .i64 z, .string F, .string T, .int .i64 0] 23)
          have By10 := hide ((Blk.newAt w9 (w9.heap.size) (rfl) #[.string I, .int .i64 v, .int .i64 z, .string F, .string T, .int .i64 0] 23))
          have HB10 : Hid (Below w.heap.size w (w9.alloc (.cells #[.string I, .int .i64 v, .int .i64 z, .string F, .string T, .int .i64 0] 23))) := (HB9.out.alloc HB9.out.size _)
          clear Bs9 Bx9 Bd9 Bf9 Be9 HB9 ys0 ys1 ys2 ys3 ys4 ys5 yx0 yx1 yx2 yx3 yx4 yx5 yd0 yd1 yd2 yd3 yf0 yf1 yf2 yf3 yf4 yf5 ye0 ye1 ye2 ye3
          obtain ⟨ys0, ys1, ys2, ys3, ys4, ys5⟩ := Bs10.out.six
          obtain ⟨yx0, yx1, yx2, yx3, yx4, yx5⟩ := Bx10.out.six
          obtain ⟨yd0, yd1, yd2, yd3⟩ := Bd10.out.four
          obtain ⟨yf0, yf1, yf2, yf3, yf4, yf5⟩ := Bf10.out.six
          obtain ⟨ye0, ye1, ye2, ye3⟩ := Be10.out.four
          obtain ⟨yy0, yy1, yy2, yy3, yy4, yy5⟩ := By10.out.six
          go_upto_region 25 with (fail)
          obtain ⟨Q, hQ⟩ : ∃ Q, Q = (w9.alloc (.cells #[.string I, .int .i64 v, .int .i64 z, .string F, .string T, .int .i64 0] 23)) := ⟨_, rfl⟩
          rw [← hQ] at HB10 Bs10 Bx10 Bd10 Bf10 Be10 By10 ys0 ys1 ys2 ys3 ys4 ys5 yx0 yx1 yx2 yx3 yx4 yx5 yd0 yd1 yd2 yd3 yf0 yf1 yf2 yf3 yf4 yf5 ye0 ye1 ye2 ye3 yy0 yy1 yy2 yy3 yy4 yy5
          simp only [← hQ]
          clear hQ
          have fy5 := By10.out.free 5
          have nsy : ¬ w9.heap.size = w.heap.size := by omega
          have nxy : ¬ w9.heap.size = w1.heap.size := by omega
          have ndy : ¬ w9.heap.size = w4.heap.size := by omega
          have nfy : ¬ w9.heap.size = V.heap.size := by omega
          have ney : ¬ w9.heap.size = w7.heap.size := by omega
          have Bs11 : Hid (Blk (Q.setCell ⟨w9.heap.size, 5, none⟩ (.int .i64 x)) (w.heap.size) #[.int .i64 0, .bool n, .string ti, .string tf, .int .i64 x, .bool true] 25) := Bs10.out.other (a := ⟨w9.heap.size, 5, none⟩) nsy (.int .i64 x)
          have Bx11 : Hid (Blk (Q.setCell ⟨w9.heap.size, 5, none⟩ (.int .i64 x)) (w1.heap.size) #[.string I, .int .i64 v, .int .i64 z, .string F, .string T, .int .i64 x] 23) := Bx10.out.other (a := ⟨w9.heap.size, 5, none⟩) nxy (.int .i64 x)
          have Bd11 : Hid (Blk (Q.setCell ⟨w9.heap.size, 5, none⟩ (.int .i64 x)) (w4.heap.size) #[.int .i64 cx, .bool nx, .string tx, .int .i64 ex] 34) := Bd10.out.other (a := ⟨w9.heap.size, 5, none⟩) ndy (.int .i64 x)
          have Bf11 : Hid (Blk (Q.setCell ⟨w9.heap.size, 5, none⟩ (.int .i64 x)) (V.heap.size) #[.int .i64 0, .bool n, .string I, .string B, .int .i64 0, .bool false] 25) := Bf10.out.other (a := ⟨w9.heap.size, 5, none⟩) nfy (.int .i64 x)
          have Be11 : Hid (Blk (Q.setCell ⟨w9.heap.size, 5, none⟩ (.int .i64 x)) (w7.heap.size) #[.int .i64 cx, .bool nx, .string tx, .int .i64 ex] 34) := Be10.out.other (a := ⟨w9.heap.size, 5, none⟩) ney (.int .i64 x)
          have By11 : Hid (Blk (Q.setCell ⟨w9.heap.size, 5, none⟩ (.int .i64 x)) (w9.heap.size) #[.string I, .int .i64 v, .int .i64 z, .string F, .string T, .int .i64 x] 23) := By10.out.setC 5 (.int .i64 x)
          have HB11 : Hid (Below w.heap.size w (Q.setCell ⟨w9.heap.size, 5, none⟩ (.int .i64 x))) := HB10.out.setCell (by have := HYL.out; omega) _
          go_upto_region 26 with (fail)
          obtain ⟨G, hG⟩ : ∃ G, G = (Q.setCell ⟨w9.heap.size, 5, none⟩ (.int .i64 x)) := ⟨_, rfl⟩
          rw [← hG] at HB11 Bs11 Bx11 Bd11 Bf11 Be11 By11
          simp only [← hG]
          clear hG fy5 nsy lsy nxy lxy ndy ldy nfy lfy ney ley Bs10 Bx10 Bd10 Bf10 Be10 By10 HB10 HYL ys0 ys1 ys2 ys3 ys4 ys5 yx0 yx1 yx2 yx3 yx4 yx5 yd0 yd1 yd2 yd3 yf0 yf1 yf2 yf3 yf4 yf5 ye0 ye1 ye2 ye3 yy0 yy1 yy2 yy3 yy4 yy5
          obtain ⟨ys0, ys1, ys2, ys3, ys4, ys5⟩ := Bs11.out.six
          obtain ⟨yx0, yx1, yx2, yx3, yx4, yx5⟩ := Bx11.out.six
          obtain ⟨yd0, yd1, yd2, yd3⟩ := Bd11.out.four
          obtain ⟨yf0, yf1, yf2, yf3, yf4, yf5⟩ := Bf11.out.six
          obtain ⟨ye0, ye1, ye2, ye3⟩ := Be11.out.four
          obtain ⟨yy0, yy1, yy2, yy3, yy4, yy5⟩ := By11.out.six
          go_wp2_with fail
          refine (HM.out _).mono ?_
          rintro e w12 ⟨rfl, hb⟩
          have Bs12 := Blk.on Bs11 hb
          have Bx12 := Blk.on Bx11 hb
          have Bd12 := Blk.on Bd11 hb
          have Bf12 := Blk.on Bf11 hb
          have Be12 := Blk.on Be11 hb
          have By12 := Blk.on By11 hb
          have HB12 := hide (HB11.out.trans (hb.mono HB11.out.size))
          clear hb Bs11 Bx11 Bd11 Bf11 Be11 By11 HB11 ys0 ys1 ys2 ys3 ys4 ys5 yx0 yx1 yx2 yx3 yx4 yx5 yd0 yd1 yd2 yd3 yf0 yf1 yf2 yf3 yf4 yf5 ye0 ye1 ye2 ye3 yy0 yy1 yy2 yy3 yy4 yy5
          obtain ⟨ys0, ys1, ys2, ys3, ys4, ys5⟩ := Bs12.out.six
          obtain ⟨yx0, yx1, yx2, yx3, yx4, yx5⟩ := Bx12.out.six
          obtain ⟨yd0, yd1, yd2, yd3⟩ := Bd12.out.four
          obtain ⟨yf0, yf1, yf2, yf3, yf4, yf5⟩ := Bf12.out.six
          obtain ⟨ye0, ye1, ye2, ye3⟩ := Be12.out.four
          obtain ⟨yy0, yy1, yy2, yy3, yy4, yy5⟩ := By12.out.six
          go_wp2
          go_ret
          exact ⟨rfl, HB12.out⟩

end Go.Proofs.YtobloamnaemfnaaDoor

namespace Go.Proofs.YtobloamnaemfnaaDoor
open Go.RowKit

theorem flat_has {n : Bool} {a b : List UInt8} (ha : DigB a) (hb : DigB b) (h1 : a ≠ []) (h2 : a.length ≤ 4096) (h3 : b.length ≤ 4096) : HasO ⟨0, n, a, b, 0, false⟩ :=
  ⟨⟨⟨show (-2001 : Int) ≤ 0 by decide, show (0 : Int) ≤ 2001 by decide⟩, .inl ⟨rfl, .inl h1, ⟨h2, ha⟩, ⟨h3, hb⟩⟩⟩, rfl, fun g => by cases g⟩

theorem oper_flat {s : ShownT} (n : Bool) : operS ⟨0, n, numO (moveA s.int s.frac (expO s)), s.frac.drop (expO s), 0, false⟩ = ⟨(operS s).i, (operS s).v, (operS s).w, (operS s).f, (operS s).t, 0⟩ := by
  unfold operS
  have e : ∀ (n : Bool) (a b : List UInt8), expO ⟨0, n, a, b, 0, false⟩ = 0 := fun _ _ _ => rfl
  simp only [e, List.drop_zero]
  have m : ∀ a b : List UInt8, moveA a b 0 = a := fun a b => by unfold moveA; simp
  rw [m, numO_twice]
  rfl

theorem value_fin {s : ShownT} (h : MayS s) (h0 : s.cls = 0) : valueS s = tellF s.neg (decV (s.int ++ s.frac)) (s.exp - s.frac.length) := by
  unfold valueS
  rw [if_neg (fun g => g h), if_neg (fun g => g h0)]

theorem value_flat {n : Bool} {a b : List UInt8} {cm : Bool} (k : Nat) (hs : MayS ⟨0, n, a, b, (k : Int), cm⟩) (hf : MayS ⟨0, n, numO (moveA a b k), b.drop k, 0, false⟩) : valueS ⟨0, n, numO (moveA a b k), b.drop k, 0, false⟩ = valueS ⟨0, n, a, b, (k : Int), cm⟩ := by
  rw [value_fin hs rfl, value_fin hf rfl]
  exact tell_flat n a b k

theorem owho_walk (w : World) (htab : Tab w) (c : Int) (n : Bool) (ti tf : ByteArray) (x : Int) (cm : Bool) : Calls Tryd.prog 5 #[shV c n ti tf x cm] w fun e w' => e = .returned (.bool true) ∧ Below w.heap.size w w' := by
  have hO := fun W hW => Of_any c n ti tf x cm W hW
  by_cases h : HasO ⟨c, n, bys ti, bys tf, x, cm⟩
  rotate_left
  · rw [ofS_no h] at hO
    exact owho_e c n ti tf x cm _ _ _ _ _ _ w htab hO
  rw [ofS_yes h] at hO
  obtain rfl : c = 0 := h.2.1
  have hmay := oper_may h
  have hfr := fracO_of ⟨0, n, bys ti, bys tf, x, cm⟩
  have hfl := oper_flat (s := ⟨0, n, bys ti, bys tf, x, cm⟩) n
  have hI : (operS ⟨0, n, bys ti, bys tf, x, cm⟩).i = numO (moveA (bys ti) (bys tf) (expO ⟨0, n, bys ti, bys tf, x, cm⟩)) := rfl
  have hV0 : (operS ⟨0, n, bys ti, bys tf, x, cm⟩).v = (((bys tf).drop (expO ⟨0, n, bys ti, bys tf, x, cm⟩)).length : Int) := rfl
  have hE0 : (operS ⟨0, n, bys ti, bys tf, x, cm⟩).e = (expO ⟨0, n, bys ti, bys tf, x, cm⟩ : Int) := rfl
  obtain ⟨⟨x1, x2⟩, hm2⟩ := h.1
  rcases hm2 with ⟨_, hne, ⟨h3, h4⟩, ⟨h5, h6⟩⟩ | ⟨g1, _⟩ | ⟨g1, _⟩
  rotate_left
  · exact absurd (show (0 : Int) = 1 from g1) (by decide)
  · exact absurd (show (0 : Int) = 2 from g1) (by decide)
  simp only at x1 x2 hne h3 h4 h5 h6 hfr hfl
  have hk : cm = true → (expO ⟨0, n, bys ti, bys tf, x, cm⟩ : Int) = x := fun g => by
    have := h.2.2 g
    unfold expO
    rw [if_pos g]
    exact Int.toNat_of_nonneg this
  have hk0 : cm = false → expO ⟨0, n, bys ti, bys tf, x, cm⟩ = 0 := fun g => by subst g; rfl
  generalize hP : operS ⟨0, n, bys ti, bys tf, x, cm⟩ = p at hO hmay hfr hfl hI hV0 hE0
  generalize hK : expO ⟨0, n, bys ti, bys tf, x, cm⟩ = k at *
  obtain ⟨pi, pv, pw, pf, pt, pe⟩ := p
  simp only at hO hmay hfr hfl hI hV0 hE0
  by_cases hi : pi.length ≤ 4000
  rotate_left
  · exact owho_i 0 n ti tf x cm ⟨pi.toArray⟩ pv pw ⟨pf.toArray⟩ ⟨pt.toArray⟩ pe w htab hO (by rw [size_mk0]; omega)
  by_cases hv : pv ≤ 4000
  rotate_left
  · exact owho_v 0 n ti tf x cm ⟨pi.toArray⟩ pv pw ⟨pf.toArray⟩ ⟨pt.toArray⟩ pe w htab hO (by rw [size_mk0]; omega) (by omega)
  have hfh : HasO ⟨0, n, pi, (bys tf).drop k, 0, false⟩ := by
    rw [hI]
    exact flat_has (numO_digB (moveA_digB h4 h6 k)) (h6.drop k) (numO_ne _) (by rw [← hI]; omega) (by omega)
  have hO2 : ∀ W, Tab W → Calls Tryd.prog 6 #[shV 0 n ⟨pi.toArray⟩ ⟨((bys tf).drop k).toArray⟩ 0 false] W fun e w' => e = .returned (opErr (⟨pi, pv, pw, pf, pt, 0⟩, 0)) ∧ Below W.heap.size W w' := fun W hW => by
    have g := Of_any 0 n ⟨pi.toArray⟩ ⟨((bys tf).drop k).toArray⟩ 0 false W hW
    rw [bys_mk pi, bys_mk ((bys tf).drop k), ofS_yes hfh, hI, hfl, ← hI] at g
    exact g
  have hM := fun W => rmayS_T 0 n ⟨pi.toArray⟩ ⟨((bys tf).drop k).toArray⟩ 0 false W (by rw [bys_mk pi, bys_mk ((bys tf).drop k)]; exact hfh.1)
  have hms : MayS ⟨0, n, bys ti, bys tf, (k : Int), cm⟩ := by
    refine ⟨⟨?_, ?_⟩, .inl ⟨rfl, hne, ⟨h3, h4⟩, ⟨h5, h6⟩⟩⟩
    · simp only; omega
    · simp only
      cases cm
      · rw [hk0 rfl]; decide
      · rw [hk rfl]; exact x2
  have hvf := value_flat k hms (by rw [← hI]; exact hfh.1)
  have hV2 : ∀ W, Tab W → Calls Tryd.prog 10 #[shV 0 n ⟨pi.toArray⟩ ⟨((bys tf).drop k).toArray⟩ 0 false] W fun e w' => e = .returned (decErr (valueS ⟨0, n, bys ti, bys tf, (k : Int), cm⟩)) ∧ Below W.heap.size W w' := fun W hW => by
    have g := Value_any 0 n ⟨pi.toArray⟩ ⟨((bys tf).drop k).toArray⟩ 0 false W hW
    rw [bys_mk pi, bys_mk ((bys tf).drop k), hI, hvf] at g
    rw [hI]
    exact g
  have hV := fun W hW => Value_any 0 n ti tf (k : Int) cm W hW
  generalize valueS ⟨0, n, bys ti, bys tf, (k : Int), cm⟩ = D at hV hV2
  obtain ⟨d, r⟩ := D
  obtain ⟨⟨v1, v2⟩, ⟨w1, w2⟩, _, _, _, ht, _, _⟩ := hmay
  simp only at v1 v2 w1 w2 ht
  have hR : bys ⟨((bys tf).drop k).toArray⟩ = fracO ⟨pi, pv, pw, pf, pt, pe⟩ := (bys_mk _).trans hfr.symm
  unfold fracO at hR
  simp only at hR
  by_cases hz : pt = [48]
  · subst hz
    rw [if_pos rfl, List.nil_append] at hR
    have hw0 : pw = 0 := by
      have e1 := congrArg OperT.w hP
      have e2 := congrArg OperT.t hP
      simp only [operS] at e1 e2
      rw [hK] at e1 e2
      have : shortN ((bys tf).drop k) = 0 := by
        rw [← lead_short]
        have g : numO (((bys tf).drop k).take (shortN ((bys tf).drop k))) = [48] := e2
        unfold numO at g
        by_cases q : lead (((bys tf).drop k).take (shortN ((bys tf).drop k))) = []
        · exact q
        · rw [if_neg q] at g
          obtain ⟨_, _, _, q2⟩ := lead_form (((bys tf).drop k).take (shortN ((bys tf).drop k)))
          have q3 := q2.resolve_left q
          rw [g] at q3
          exact absurd rfl q3
      rw [← e1, this]; rfl
    subst hw0
    rw [Int.sub_zero] at hR
    cases cm
    · have hkz := hk0 rfl
      subst hkz
      obtain rfl : pe = 0 := hE0
      exact owho_fz n ti tf x ⟨pi.toArray⟩ pv ⟨pf.toArray⟩ ⟨((bys tf).drop 0).toArray⟩ _ _ _ _ _ pv.toNat w htab hO hV hV2 hO2 hM (by rw [size_mk0]; omega) v1 hv (by omega) hR
    · have hkx := hk rfl
      rw [hkx] at hE0 hV
      obtain rfl : pe = x := hE0
      exact owho_tz n ti tf pe ⟨pi.toArray⟩ pv ⟨pf.toArray⟩ ⟨((bys tf).drop k).toArray⟩ _ _ _ _ _ pv.toNat w htab hO hV hV2 hO2 hM (by rw [size_mk0]; omega) v1 hv (by omega) hR
  · rw [if_neg hz] at hR
    obtain ⟨t1, t2, _, _⟩ := ht.resolve_left hz
    have htl : (⟨pt.toArray⟩ : ByteArray).size = pt.length := size_mk0 pt
    have hbt : bys ⟨pt.toArray⟩ = pt := bys_mk pt
    cases cm
    · have hkz := hk0 rfl
      subst hkz
      obtain rfl : pe = 0 := hE0
      exact owho_fn n ti tf x ⟨pi.toArray⟩ pv pw ⟨pf.toArray⟩ ⟨pt.toArray⟩ ⟨((bys tf).drop 0).toArray⟩ _ _ _ _ _ (pw - pt.length).toNat (pv - pw).toNat w htab hO hV hV2 hO2 hM (by rw [size_mk0]; omega) v1 hv (by rw [hbt]; exact hz) (by rw [htl]; omega) (by omega) (by omega) (by rw [hbt]; exact hR)
    · have hkx := hk rfl
      rw [hkx] at hE0 hV
      obtain rfl : pe = x := hE0
      exact owho_tn n ti tf pe ⟨pi.toArray⟩ pv pw ⟨pf.toArray⟩ ⟨pt.toArray⟩ ⟨((bys tf).drop k).toArray⟩ _ _ _ _ _ (pw - pt.length).toNat (pv - pw).toNat w htab hO hV hV2 hO2 hM (by rw [size_mk0]; omega) v1 hv (by rw [hbt]; exact hz) (by rw [htl]; omega) (by omega) (by omega) (by rw [hbt]; exact hR)

end Go.Proofs.YtobloamnaemfnaaDoor
