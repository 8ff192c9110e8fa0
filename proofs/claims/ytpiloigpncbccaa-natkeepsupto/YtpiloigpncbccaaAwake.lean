/-
  What quipulaw01.awake does: it answers true, and leaves what was there as it was.
-/
import Derived.Test.YtpiloigpncbccaaShort
import Derived.Test.YtpiloigpncbccaaShrN
namespace Go.Proofs.Ytpiloigpncbccaa
open Go.RowKit

def litM : List Nat := [18446744073709551615]
def litS : List Nat := [9223372036854775808, 1]
def litT : List Nat := [9223372036854775808]
def litX : List Nat := [1, 18446744073709551614]

set_option maxRecDepth 1000000 in
set_option maxHeartbeats 20000000 in
theorem awake_true (w : World) :
    Calls Try.prog 13 #[] w fun e w' => e = .returned (.bool true) ∧ Below w.heap.size w w' := by
  go_enter Try.func13, Try.ntmps13
  have hbw0 : Below w.heap.size w w := Below.refl _ _
  go_wp2_with fail
  have am : At .u64 (((w.alloc (Obj.cells #[Value.int IntKind.u64 18446744073709551615] 33)).alloc (Obj.cells #[Value.int IntKind.u64 0, Value.int IntKind.u64 1] 33)).alloc (Obj.cells #[Value.int IntKind.u64 1] 33)) (some ⟨w.heap.size, 0, none⟩) litM := (((lit_new w (w.heap.size) (by simp) litM).alloc _).alloc _)
  have l0 : At .u64 (((w.alloc (Obj.cells #[Value.int IntKind.u64 18446744073709551615] 33)).alloc (Obj.cells #[Value.int IntKind.u64 0, Value.int IntKind.u64 1] 33)).alloc (Obj.cells #[Value.int IntKind.u64 1] 33)) (some ⟨w.heap.size + 1, 0, none⟩) [0, 1] := ((lit_new (w.alloc (Obj.cells #[Value.int IntKind.u64 18446744073709551615] 33)) (w.heap.size + 1) (by simp) [0, 1]).alloc _)
  have l1 : At .u64 (((w.alloc (Obj.cells #[Value.int IntKind.u64 18446744073709551615] 33)).alloc (Obj.cells #[Value.int IntKind.u64 0, Value.int IntKind.u64 1] 33)).alloc (Obj.cells #[Value.int IntKind.u64 1] 33)) (some ⟨w.heap.size + 1 + 1, 0, none⟩) [1] := (lit_new ((w.alloc (Obj.cells #[Value.int IntKind.u64 18446744073709551615] 33)).alloc (Obj.cells #[Value.int IntKind.u64 0, Value.int IntKind.u64 1] 33)) (w.heap.size + 1 + 1) (by simp) [1])
  replace hbw0 : Below w.heap.size w (((w.alloc (Obj.cells #[Value.int IntKind.u64 18446744073709551615] 33)).alloc (Obj.cells #[Value.int IntKind.u64 0, Value.int IntKind.u64 1] 33)).alloc (Obj.cells #[Value.int IntKind.u64 1] 33)) := (((hbw0.alloc (by first | exact hbw0.size | (have := hbw0.size; simp; done) | (have := hbw0.size; simp; omega)) _).alloc (by first | exact hbw0.size | (have := hbw0.size; simp; done) | (have := hbw0.size; simp; omega)) _).alloc (by first | exact hbw0.size | (have := hbw0.size; simp; done) | (have := hbw0.size; simp; omega)) _)
  have hsz : w.heap.size ≤ ((((w.alloc (Obj.cells #[Value.int IntKind.u64 18446744073709551615] 33)).alloc (Obj.cells #[Value.int IntKind.u64 0, Value.int IntKind.u64 1] 33)).alloc (Obj.cells #[Value.int IntKind.u64 1] 33))).heap.size := hbw0.size
  refine (sub_any (some ⟨w.heap.size + 1, 0, none⟩) (some ⟨w.heap.size + 1 + 1, 0, none⟩) 2 2 1 1 [0, 1] [1] _ (by omega) (by omega) (by omega) (by omega) rfl rfl l0 l1 (ok_of (by decide +kernel) : Ok B64 [0, 1]) (ok_of (by decide +kernel) : Ok B64 [1])).mono ?_
  rintro e w1 ⟨v, r, rfl, hown, his, hbel⟩
  rw [if_neg (by decide +kernel)]
  obtain ⟨oad, cad, rfl, hclad, hcmad, ad⟩ := own_lit litM 1 rfl hown his (is_of litM (by decide +kernel) (by decide +kernel) (by decide +kernel))
  clear hown his
  replace am := am.below hbel
  replace l0 := l0.below hbel
  replace l1 := l1.below hbel
  have hbw : Below w.heap.size w w1 := hbw0.trans (hbel.mono (by first | exact Nat.le_refl _ | exact hsz))
  clear hbel hbw0 hsz
  have hbw0 := hbw
  clear hbw
  replace hcmad : cad ≤ 2000 := Nat.le_trans hcmad (by decide)
  replace hclad : 1 ≤ cad := hclad
  clear l0
  clear l1
  go_wp2_with fail
  replace am : At .u64 ((w1.alloc (Obj.cells #[Value.int IntKind.u64 1] 33)).alloc (Obj.cells #[Value.int IntKind.u64 2] 33)) (some ⟨w.heap.size, 0, none⟩) litM := (((am).alloc _).alloc _)
  replace ad : At .u64 ((w1.alloc (Obj.cells #[Value.int IntKind.u64 1] 33)).alloc (Obj.cells #[Value.int IntKind.u64 2] 33)) oad litM := (((ad).alloc _).alloc _)
  have l0 : At .u64 ((w1.alloc (Obj.cells #[Value.int IntKind.u64 1] 33)).alloc (Obj.cells #[Value.int IntKind.u64 2] 33)) (some ⟨w1.heap.size, 0, none⟩) [1] := ((lit_new w1 (w1.heap.size) (by simp) [1]).alloc _)
  have l1 : At .u64 ((w1.alloc (Obj.cells #[Value.int IntKind.u64 1] 33)).alloc (Obj.cells #[Value.int IntKind.u64 2] 33)) (some ⟨w1.heap.size + 1, 0, none⟩) [2] := (lit_new (w1.alloc (Obj.cells #[Value.int IntKind.u64 1] 33)) (w1.heap.size + 1) (by simp) [2])
  replace hbw0 : Below w.heap.size w ((w1.alloc (Obj.cells #[Value.int IntKind.u64 1] 33)).alloc (Obj.cells #[Value.int IntKind.u64 2] 33)) := ((hbw0.alloc (by first | exact hbw0.size | (have := hbw0.size; simp; done) | (have := hbw0.size; simp; omega)) _).alloc (by first | exact hbw0.size | (have := hbw0.size; simp; done) | (have := hbw0.size; simp; omega)) _)
  have hsz : w.heap.size ≤ (((w1.alloc (Obj.cells #[Value.int IntKind.u64 1] 33)).alloc (Obj.cells #[Value.int IntKind.u64 2] 33))).heap.size := hbw0.size
  refine (sub_any (some ⟨w1.heap.size, 0, none⟩) (some ⟨w1.heap.size + 1, 0, none⟩) 1 1 1 1 [1] [2] _ (by omega) (by omega) (by omega) (by omega) rfl rfl l0 l1 (ok_of (by decide +kernel) : Ok B64 [1]) (ok_of (by decide +kernel) : Ok B64 [2])).mono ?_
  rintro e w2 ⟨v, r, rfl, hown, his, hbel⟩
  rw [if_pos (by decide +kernel)]
  obtain ⟨oan, can, rfl, hclan, hcman, an⟩ := own_lit [] 0 rfl hown his (is_of [] (by decide +kernel) (by decide +kernel) (by decide +kernel))
  clear hown his
  replace am := am.below hbel
  replace ad := ad.below hbel
  replace l0 := l0.below hbel
  replace l1 := l1.below hbel
  have hbw : Below w.heap.size w w2 := hbw0.trans (hbel.mono (by first | exact Nat.le_refl _ | exact hsz))
  clear hbel hbw0 hsz
  have hbw0 := hbw
  clear hbw
  replace hcman : can ≤ 2000 := Nat.le_trans hcman (by decide)
  replace hclan : 0 ≤ can := hclan
  clear l0
  clear l1
  clear an
  go_wp2_with fail
  replace am : At .u64 ((w2.alloc (Obj.cells #[Value.int IntKind.u64 7] 33)).alloc (Obj.cells #[Value.int IntKind.u64 2] 33)) (some ⟨w.heap.size, 0, none⟩) litM := (((am).alloc _).alloc _)
  replace ad : At .u64 ((w2.alloc (Obj.cells #[Value.int IntKind.u64 7] 33)).alloc (Obj.cells #[Value.int IntKind.u64 2] 33)) oad litM := (((ad).alloc _).alloc _)
  have l0 : At .u64 ((w2.alloc (Obj.cells #[Value.int IntKind.u64 7] 33)).alloc (Obj.cells #[Value.int IntKind.u64 2] 33)) (some ⟨w2.heap.size, 0, none⟩) [7] := ((lit_new w2 (w2.heap.size) (by simp) [7]).alloc _)
  have l1 : At .u64 ((w2.alloc (Obj.cells #[Value.int IntKind.u64 7] 33)).alloc (Obj.cells #[Value.int IntKind.u64 2] 33)) (some ⟨w2.heap.size + 1, 0, none⟩) [2] := (lit_new (w2.alloc (Obj.cells #[Value.int IntKind.u64 7] 33)) (w2.heap.size + 1) (by simp) [2])
  replace hbw0 : Below w.heap.size w ((w2.alloc (Obj.cells #[Value.int IntKind.u64 7] 33)).alloc (Obj.cells #[Value.int IntKind.u64 2] 33)) := ((hbw0.alloc (by first | exact hbw0.size | (have := hbw0.size; simp; done) | (have := hbw0.size; simp; omega)) _).alloc (by first | exact hbw0.size | (have := hbw0.size; simp; done) | (have := hbw0.size; simp; omega)) _)
  have hsz : w.heap.size ≤ (((w2.alloc (Obj.cells #[Value.int IntKind.u64 7] 33)).alloc (Obj.cells #[Value.int IntKind.u64 2] 33))).heap.size := hbw0.size
  refine (divmod_by_limb (some ⟨w2.heap.size, 0, none⟩) (some ⟨w2.heap.size + 1, 0, none⟩) 1 1 1 1 [7] [2] _ (by omega) (by omega) (by omega) (by omega) rfl rfl l0 l1 (ok_of (by decide +kernel) : Ok B64 [7]) (ok_of (by decide +kernel) : Ok B64 [2]) (by decide +kernel) (by decide +kernel)).mono ?_
  rintro e w3 ⟨v, rl, v2, rl2, rfl, hown, hown2, his, his2, hbel, _⟩
  obtain ⟨oar, car, rfl, hclar, hcmar, ar⟩ := own_lit [1] 1 rfl hown2 his2 (is_of [1] (by decide +kernel) (by decide +kernel) (by decide +kernel))
  clear hown2 his2
  obtain ⟨oaq, caq, rfl, hclaq, hcmaq, aq⟩ := own_lit [3] 1 rfl hown his (is_of [3] (by decide +kernel) (by decide +kernel) (by decide +kernel))
  clear hown his
  replace am := am.below hbel
  replace ad := ad.below hbel
  replace l0 := l0.below hbel
  replace l1 := l1.below hbel
  have hbw : Below w.heap.size w w3 := hbw0.trans (hbel.mono (by first | exact Nat.le_refl _ | exact hsz))
  clear hbel hbw0 hsz
  have hbw0 := hbw
  clear hbw
  replace hcmaq : caq ≤ 2000 := Nat.le_trans hcmaq (by decide)
  replace hclaq : 1 ≤ caq := hclaq
  replace hcmar : car ≤ 2000 := Nat.le_trans hcmar (by decide)
  clear l0
  clear l1
  go_wp2_with fail
  replace am : At .u64 ((w3.alloc (Obj.cells #[Value.int IntKind.u64 1] 33)).alloc (Obj.cells #[Value.int IntKind.u64 0, Value.int IntKind.u64 0] 33)) (some ⟨w.heap.size, 0, none⟩) litM := (((am).alloc _).alloc _)
  replace ad : At .u64 ((w3.alloc (Obj.cells #[Value.int IntKind.u64 1] 33)).alloc (Obj.cells #[Value.int IntKind.u64 0, Value.int IntKind.u64 0] 33)) oad litM := (((ad).alloc _).alloc _)
  replace aq : At .u64 ((w3.alloc (Obj.cells #[Value.int IntKind.u64 1] 33)).alloc (Obj.cells #[Value.int IntKind.u64 0, Value.int IntKind.u64 0] 33)) oaq [3] := (((aq).alloc _).alloc _)
  replace ar : At .u64 ((w3.alloc (Obj.cells #[Value.int IntKind.u64 1] 33)).alloc (Obj.cells #[Value.int IntKind.u64 0, Value.int IntKind.u64 0] 33)) oar [1] := (((ar).alloc _).alloc _)
  have l0 : At .u64 ((w3.alloc (Obj.cells #[Value.int IntKind.u64 1] 33)).alloc (Obj.cells #[Value.int IntKind.u64 0, Value.int IntKind.u64 0] 33)) (some ⟨w3.heap.size, 0, none⟩) [1] := ((lit_new w3 (w3.heap.size) (by simp) [1]).alloc _)
  have l1 : At .u64 ((w3.alloc (Obj.cells #[Value.int IntKind.u64 1] 33)).alloc (Obj.cells #[Value.int IntKind.u64 0, Value.int IntKind.u64 0] 33)) (some ⟨w3.heap.size + 1, 0, none⟩) [0, 0] := (lit_new (w3.alloc (Obj.cells #[Value.int IntKind.u64 1] 33)) (w3.heap.size + 1) (by simp) [0, 0])
  replace hbw0 : Below w.heap.size w ((w3.alloc (Obj.cells #[Value.int IntKind.u64 1] 33)).alloc (Obj.cells #[Value.int IntKind.u64 0, Value.int IntKind.u64 0] 33)) := ((hbw0.alloc (by first | exact hbw0.size | (have := hbw0.size; simp; done) | (have := hbw0.size; simp; omega)) _).alloc (by first | exact hbw0.size | (have := hbw0.size; simp; done) | (have := hbw0.size; simp; omega)) _)
  have hsz : w.heap.size ≤ (((w3.alloc (Obj.cells #[Value.int IntKind.u64 1] 33)).alloc (Obj.cells #[Value.int IntKind.u64 0, Value.int IntKind.u64 0] 33))).heap.size := hbw0.size
  refine (divmod_by_zero (some ⟨w3.heap.size, 0, none⟩) (some ⟨w3.heap.size + 1, 0, none⟩) 1 1 2 2 [1] [0, 0] _ (by omega) (by omega) (by omega) (by omega) rfl rfl l0 l1 (by decide +kernel)).mono ?_
  rintro e w4 ⟨v, rl, v2, rl2, rfl, hown, hown2, his, his2, hbel, _⟩
  obtain ⟨oan2, can2, rfl, hclan2, hcman2, an2⟩ := own_lit [] 0 rfl hown2 his2 (is_of [] (by decide +kernel) (by decide +kernel) (by decide +kernel))
  clear hown2 his2
  obtain ⟨oan1, can1, rfl, hclan1, hcman1, an1⟩ := own_lit [] 0 rfl hown his (is_of [] (by decide +kernel) (by decide +kernel) (by decide +kernel))
  clear hown his
  replace am := am.below hbel
  replace ad := ad.below hbel
  replace aq := aq.below hbel
  replace ar := ar.below hbel
  replace l0 := l0.below hbel
  replace l1 := l1.below hbel
  have hbw : Below w.heap.size w w4 := hbw0.trans (hbel.mono (by first | exact Nat.le_refl _ | exact hsz))
  clear hbel hbw0 hsz
  have hbw0 := hbw
  clear hbw
  replace hcman1 : can1 ≤ 2000 := Nat.le_trans hcman1 (by decide)
  replace hclan1 : 0 ≤ can1 := hclan1
  replace hcman2 : can2 ≤ 2000 := Nat.le_trans hcman2 (by decide)
  clear l0
  clear l1
  clear an1
  clear an2
  go_wp2_with fail
  replace am : At .u64 (w4.alloc (Obj.cells #[Value.int IntKind.u64 3] 33)) (some ⟨w.heap.size, 0, none⟩) litM := ((am).alloc _)
  replace ad : At .u64 (w4.alloc (Obj.cells #[Value.int IntKind.u64 3] 33)) oad litM := ((ad).alloc _)
  replace aq : At .u64 (w4.alloc (Obj.cells #[Value.int IntKind.u64 3] 33)) oaq [3] := ((aq).alloc _)
  replace ar : At .u64 (w4.alloc (Obj.cells #[Value.int IntKind.u64 3] 33)) oar [1] := ((ar).alloc _)
  have l0 : At .u64 (w4.alloc (Obj.cells #[Value.int IntKind.u64 3] 33)) (some ⟨w4.heap.size, 0, none⟩) [3] := (lit_new w4 (w4.heap.size) (by simp) [3])
  replace hbw0 : Below w.heap.size w (w4.alloc (Obj.cells #[Value.int IntKind.u64 3] 33)) := (hbw0.alloc (by first | exact hbw0.size | (have := hbw0.size; simp; done) | (have := hbw0.size; simp; omega)) _)
  have hsz : w.heap.size ≤ ((w4.alloc (Obj.cells #[Value.int IntKind.u64 3] 33))).heap.size := hbw0.size
  refine (shl_any (some ⟨w4.heap.size, 0, none⟩) 1 1 63 [3] _ (by decide) (by omega) (by omega) rfl l0 (ok_of (by decide +kernel) : Ok B64 [3])).mono ?_
  rintro e w5 ⟨v, r, rfl, hown, his, hbel⟩
  obtain ⟨oash, cash, rfl, hclash, hcmash, ash⟩ := own_lit litS 2 rfl hown his (is_of litS (by decide +kernel) (by decide +kernel) (by decide +kernel))
  clear hown his
  replace am := am.below hbel
  replace ad := ad.below hbel
  replace aq := aq.below hbel
  replace ar := ar.below hbel
  replace l0 := l0.below hbel
  have hbw : Below w.heap.size w w5 := hbw0.trans (hbel.mono (by first | exact Nat.le_refl _ | exact hsz))
  clear hbel hbw0 hsz
  have hbw0 := hbw
  clear hbw
  replace hcmash : cash ≤ 2000 := Nat.le_trans hcmash (by decide)
  replace hclash : 2 ≤ cash := hclash
  clear l0
  go_wp2_with fail
  replace am : At .u64 (w5.alloc (Obj.cells #[Value.int IntKind.u64 1] 33)) (some ⟨w.heap.size, 0, none⟩) litM := ((am).alloc _)
  replace ad : At .u64 (w5.alloc (Obj.cells #[Value.int IntKind.u64 1] 33)) oad litM := ((ad).alloc _)
  replace aq : At .u64 (w5.alloc (Obj.cells #[Value.int IntKind.u64 1] 33)) oaq [3] := ((aq).alloc _)
  replace ar : At .u64 (w5.alloc (Obj.cells #[Value.int IntKind.u64 1] 33)) oar [1] := ((ar).alloc _)
  replace ash : At .u64 (w5.alloc (Obj.cells #[Value.int IntKind.u64 1] 33)) oash litS := ((ash).alloc _)
  have l0 : At .u64 (w5.alloc (Obj.cells #[Value.int IntKind.u64 1] 33)) (some ⟨w5.heap.size, 0, none⟩) [1] := (lit_new w5 (w5.heap.size) (by simp) [1])
  replace hbw0 : Below w.heap.size w (w5.alloc (Obj.cells #[Value.int IntKind.u64 1] 33)) := (hbw0.alloc (by first | exact hbw0.size | (have := hbw0.size; simp; done) | (have := hbw0.size; simp; omega)) _)
  have hsz : w.heap.size ≤ ((w5.alloc (Obj.cells #[Value.int IntKind.u64 1] 33))).heap.size := hbw0.size
  refine (shl_bad (some ⟨w5.heap.size, 0, none⟩) 1 1 65537 _ (.inr (by decide))).mono ?_
  rintro e w6 ⟨v, r, rfl, hown, his, hbel⟩
  obtain ⟨oan3, can3, rfl, hclan3, hcman3, an3⟩ := own_lit [] 0 rfl hown his (is_of [] (by decide +kernel) (by decide +kernel) (by decide +kernel))
  clear hown his
  replace am := am.below hbel
  replace ad := ad.below hbel
  replace aq := aq.below hbel
  replace ar := ar.below hbel
  replace ash := ash.below hbel
  replace l0 := l0.below hbel
  have hbw : Below w.heap.size w w6 := hbw0.trans (hbel.mono (by first | exact Nat.le_refl _ | exact hsz))
  clear hbel hbw0 hsz
  have hbw0 := hbw
  clear hbw
  replace hcman3 : can3 ≤ 2000 := Nat.le_trans hcman3 (by decide)
  replace hclan3 : 0 ≤ can3 := hclan3
  clear l0
  clear an3
  go_wp2_with fail
  replace am : At .u64 (w6.alloc (Obj.cells #[Value.int IntKind.u64 0, Value.int IntKind.u64 1] 33)) (some ⟨w.heap.size, 0, none⟩) litM := ((am).alloc _)
  replace ad : At .u64 (w6.alloc (Obj.cells #[Value.int IntKind.u64 0, Value.int IntKind.u64 1] 33)) oad litM := ((ad).alloc _)
  replace aq : At .u64 (w6.alloc (Obj.cells #[Value.int IntKind.u64 0, Value.int IntKind.u64 1] 33)) oaq [3] := ((aq).alloc _)
  replace ar : At .u64 (w6.alloc (Obj.cells #[Value.int IntKind.u64 0, Value.int IntKind.u64 1] 33)) oar [1] := ((ar).alloc _)
  replace ash : At .u64 (w6.alloc (Obj.cells #[Value.int IntKind.u64 0, Value.int IntKind.u64 1] 33)) oash litS := ((ash).alloc _)
  have l0 : At .u64 (w6.alloc (Obj.cells #[Value.int IntKind.u64 0, Value.int IntKind.u64 1] 33)) (some ⟨w6.heap.size, 0, none⟩) [0, 1] := (lit_new w6 (w6.heap.size) (by simp) [0, 1])
  replace hbw0 : Below w.heap.size w (w6.alloc (Obj.cells #[Value.int IntKind.u64 0, Value.int IntKind.u64 1] 33)) := (hbw0.alloc (by first | exact hbw0.size | (have := hbw0.size; simp; done) | (have := hbw0.size; simp; omega)) _)
  have hsz : w.heap.size ≤ ((w6.alloc (Obj.cells #[Value.int IntKind.u64 0, Value.int IntKind.u64 1] 33))).heap.size := hbw0.size
  refine (shr_any (some ⟨w6.heap.size, 0, none⟩) 2 2 1 [0, 1] _ (by decide) (by omega) (by omega) rfl l0 (ok_of (by decide +kernel) : Ok B64 [0, 1])).mono ?_
  rintro e w7 ⟨v, r, rfl, hown, his, hbel⟩
  obtain ⟨oat1, cat1, rfl, hclat1, hcmat1, at1⟩ := own_lit litT 1 rfl hown his (is_of litT (by decide +kernel) (by decide +kernel) (by decide +kernel))
  clear hown his
  replace am := am.below hbel
  replace ad := ad.below hbel
  replace aq := aq.below hbel
  replace ar := ar.below hbel
  replace ash := ash.below hbel
  replace l0 := l0.below hbel
  have hbw : Below w.heap.size w w7 := hbw0.trans (hbel.mono (by first | exact Nat.le_refl _ | exact hsz))
  clear hbel hbw0 hsz
  have hbw0 := hbw
  clear hbw
  replace hcmat1 : cat1 ≤ 2000 := Nat.le_trans hcmat1 (by decide)
  replace hclat1 : 1 ≤ cat1 := hclat1
  clear l0
  go_wp2_with fail
  replace am : At .u64 (w7.alloc (Obj.cells #[Value.int IntKind.u64 1] 33)) (some ⟨w.heap.size, 0, none⟩) litM := ((am).alloc _)
  replace ad : At .u64 (w7.alloc (Obj.cells #[Value.int IntKind.u64 1] 33)) oad litM := ((ad).alloc _)
  replace aq : At .u64 (w7.alloc (Obj.cells #[Value.int IntKind.u64 1] 33)) oaq [3] := ((aq).alloc _)
  replace ar : At .u64 (w7.alloc (Obj.cells #[Value.int IntKind.u64 1] 33)) oar [1] := ((ar).alloc _)
  replace ash : At .u64 (w7.alloc (Obj.cells #[Value.int IntKind.u64 1] 33)) oash litS := ((ash).alloc _)
  replace at1 : At .u64 (w7.alloc (Obj.cells #[Value.int IntKind.u64 1] 33)) oat1 litT := ((at1).alloc _)
  have l0 : At .u64 (w7.alloc (Obj.cells #[Value.int IntKind.u64 1] 33)) (some ⟨w7.heap.size, 0, none⟩) [1] := (lit_new w7 (w7.heap.size) (by simp) [1])
  replace hbw0 : Below w.heap.size w (w7.alloc (Obj.cells #[Value.int IntKind.u64 1] 33)) := (hbw0.alloc (by first | exact hbw0.size | (have := hbw0.size; simp; done) | (have := hbw0.size; simp; omega)) _)
  have hsz : w.heap.size ≤ ((w7.alloc (Obj.cells #[Value.int IntKind.u64 1] 33))).heap.size := hbw0.size
  refine (add_any (some ⟨w.heap.size, 0, none⟩) (some ⟨w7.heap.size, 0, none⟩) 1 1 1 1 litM [1] _ (by omega) (by omega) (by omega) (by omega) rfl rfl am l0 (ok_of (by decide +kernel) : Ok B64 litM) (ok_of (by decide +kernel) : Ok B64 [1])).mono ?_
  rintro e w8 ⟨v, r, rfl, hown, his, hbel⟩
  obtain ⟨oaa, caa, rfl, hclaa, hcmaa, aa⟩ := own_lit [0, 1] 2 rfl hown his (is_of [0, 1] (by decide +kernel) (by decide +kernel) (by decide +kernel))
  clear hown his
  replace am := am.below hbel
  replace ad := ad.below hbel
  replace aq := aq.below hbel
  replace ar := ar.below hbel
  replace ash := ash.below hbel
  replace at1 := at1.below hbel
  replace l0 := l0.below hbel
  have hbw : Below w.heap.size w w8 := hbw0.trans (hbel.mono (by first | exact Nat.le_refl _ | exact hsz))
  clear hbel hbw0 hsz
  have hbw0 := hbw
  clear hbw
  replace hcmaa : caa ≤ 2000 := Nat.le_trans hcmaa (by decide)
  replace hclaa : 2 ≤ caa := hclaa
  clear l0
  go_wp2_with fail
  replace am : At .u64 (w8.alloc (Obj.cells #[Value.int IntKind.u64 0, Value.int IntKind.u64 1] 33)) (some ⟨w.heap.size, 0, none⟩) litM := ((am).alloc _)
  replace ad : At .u64 (w8.alloc (Obj.cells #[Value.int IntKind.u64 0, Value.int IntKind.u64 1] 33)) oad litM := ((ad).alloc _)
  replace aq : At .u64 (w8.alloc (Obj.cells #[Value.int IntKind.u64 0, Value.int IntKind.u64 1] 33)) oaq [3] := ((aq).alloc _)
  replace ar : At .u64 (w8.alloc (Obj.cells #[Value.int IntKind.u64 0, Value.int IntKind.u64 1] 33)) oar [1] := ((ar).alloc _)
  replace ash : At .u64 (w8.alloc (Obj.cells #[Value.int IntKind.u64 0, Value.int IntKind.u64 1] 33)) oash litS := ((ash).alloc _)
  replace at1 : At .u64 (w8.alloc (Obj.cells #[Value.int IntKind.u64 0, Value.int IntKind.u64 1] 33)) oat1 litT := ((at1).alloc _)
  replace aa : At .u64 (w8.alloc (Obj.cells #[Value.int IntKind.u64 0, Value.int IntKind.u64 1] 33)) oaa [0, 1] := ((aa).alloc _)
  have l0 : At .u64 (w8.alloc (Obj.cells #[Value.int IntKind.u64 0, Value.int IntKind.u64 1] 33)) (some ⟨w8.heap.size, 0, none⟩) [0, 1] := (lit_new w8 (w8.heap.size) (by simp) [0, 1])
  replace hbw0 : Below w.heap.size w (w8.alloc (Obj.cells #[Value.int IntKind.u64 0, Value.int IntKind.u64 1] 33)) := (hbw0.alloc (by first | exact hbw0.size | (have := hbw0.size; simp; done) | (have := hbw0.size; simp; omega)) _)
  have hsz : w.heap.size ≤ ((w8.alloc (Obj.cells #[Value.int IntKind.u64 0, Value.int IntKind.u64 1] 33))).heap.size := hbw0.size
  refine (same_any oaa (some ⟨w8.heap.size, 0, none⟩) 2 caa 2 2 [0, 1] [0, 1] _ (by omega) rfl rfl aa l0).mono ?_
  rintro e w9 ⟨rfl, hbel⟩
  rw [show decide ([0, 1] = [0, 1]) = true from by decide +kernel]
  replace am := am.below hbel
  replace ad := ad.below hbel
  replace aq := aq.below hbel
  replace ar := ar.below hbel
  replace ash := ash.below hbel
  replace at1 := at1.below hbel
  replace aa := aa.below hbel
  replace l0 := l0.below hbel
  have hbw : Below w.heap.size w w9 := hbw0.trans (hbel.mono (by first | exact Nat.le_refl _ | exact hsz))
  clear hbel hbw0 hsz
  have hbw0 := hbw
  clear hbw
  clear aa
  clear l0
  go_wp2_with fail
  have hsz : w.heap.size ≤ (w9).heap.size := hbw0.size
  refine (same_any oad (some ⟨w.heap.size, 0, none⟩) 1 cad 1 1 litM litM _ (by omega) rfl rfl ad am).mono ?_
  rintro e w10 ⟨rfl, hbel⟩
  rw [show decide (litM = litM) = true from by decide +kernel]
  replace am := am.below hbel
  replace ad := ad.below hbel
  replace aq := aq.below hbel
  replace ar := ar.below hbel
  replace ash := ash.below hbel
  replace at1 := at1.below hbel
  have hbw : Below w.heap.size w w10 := hbw0.trans (hbel.mono (by first | exact Nat.le_refl _ | exact hsz))
  clear hbel hbw0 hsz
  have hbw0 := hbw
  clear hbw
  clear ad
  go_wp2_with fail
  replace am : At .u64 (w10.alloc (Obj.cells #[Value.int IntKind.u64 3] 33)) (some ⟨w.heap.size, 0, none⟩) litM := ((am).alloc _)
  replace aq : At .u64 (w10.alloc (Obj.cells #[Value.int IntKind.u64 3] 33)) oaq [3] := ((aq).alloc _)
  replace ar : At .u64 (w10.alloc (Obj.cells #[Value.int IntKind.u64 3] 33)) oar [1] := ((ar).alloc _)
  replace ash : At .u64 (w10.alloc (Obj.cells #[Value.int IntKind.u64 3] 33)) oash litS := ((ash).alloc _)
  replace at1 : At .u64 (w10.alloc (Obj.cells #[Value.int IntKind.u64 3] 33)) oat1 litT := ((at1).alloc _)
  have l0 : At .u64 (w10.alloc (Obj.cells #[Value.int IntKind.u64 3] 33)) (some ⟨w10.heap.size, 0, none⟩) [3] := (lit_new w10 (w10.heap.size) (by simp) [3])
  replace hbw0 : Below w.heap.size w (w10.alloc (Obj.cells #[Value.int IntKind.u64 3] 33)) := (hbw0.alloc (by first | exact hbw0.size | (have := hbw0.size; simp; done) | (have := hbw0.size; simp; omega)) _)
  have hsz : w.heap.size ≤ ((w10.alloc (Obj.cells #[Value.int IntKind.u64 3] 33))).heap.size := hbw0.size
  refine (same_any oaq (some ⟨w10.heap.size, 0, none⟩) 1 caq 1 1 [3] [3] _ (by omega) rfl rfl aq l0).mono ?_
  rintro e w11 ⟨rfl, hbel⟩
  rw [show decide ([3] = [3]) = true from by decide +kernel]
  replace am := am.below hbel
  replace aq := aq.below hbel
  replace ar := ar.below hbel
  replace ash := ash.below hbel
  replace at1 := at1.below hbel
  replace l0 := l0.below hbel
  have hbw : Below w.heap.size w w11 := hbw0.trans (hbel.mono (by first | exact Nat.le_refl _ | exact hsz))
  clear hbel hbw0 hsz
  have hbw0 := hbw
  clear hbw
  clear aq
  clear l0
  go_wp2_with fail
  replace am : At .u64 (w11.alloc (Obj.cells #[Value.int IntKind.u64 1] 33)) (some ⟨w.heap.size, 0, none⟩) litM := ((am).alloc _)
  replace ar : At .u64 (w11.alloc (Obj.cells #[Value.int IntKind.u64 1] 33)) oar [1] := ((ar).alloc _)
  replace ash : At .u64 (w11.alloc (Obj.cells #[Value.int IntKind.u64 1] 33)) oash litS := ((ash).alloc _)
  replace at1 : At .u64 (w11.alloc (Obj.cells #[Value.int IntKind.u64 1] 33)) oat1 litT := ((at1).alloc _)
  have l0 : At .u64 (w11.alloc (Obj.cells #[Value.int IntKind.u64 1] 33)) (some ⟨w11.heap.size, 0, none⟩) [1] := (lit_new w11 (w11.heap.size) (by simp) [1])
  replace hbw0 : Below w.heap.size w (w11.alloc (Obj.cells #[Value.int IntKind.u64 1] 33)) := (hbw0.alloc (by first | exact hbw0.size | (have := hbw0.size; simp; done) | (have := hbw0.size; simp; omega)) _)
  have hsz : w.heap.size ≤ ((w11.alloc (Obj.cells #[Value.int IntKind.u64 1] 33))).heap.size := hbw0.size
  refine (same_any oar (some ⟨w11.heap.size, 0, none⟩) 1 car 1 1 [1] [1] _ (by omega) rfl rfl ar l0).mono ?_
  rintro e w12 ⟨rfl, hbel⟩
  rw [show decide ([1] = [1]) = true from by decide +kernel]
  replace am := am.below hbel
  replace ar := ar.below hbel
  replace ash := ash.below hbel
  replace at1 := at1.below hbel
  replace l0 := l0.below hbel
  have hbw : Below w.heap.size w w12 := hbw0.trans (hbel.mono (by first | exact Nat.le_refl _ | exact hsz))
  clear hbel hbw0 hsz
  have hbw0 := hbw
  clear hbw
  clear ar
  clear l0
  go_wp2_with fail
  replace am : At .u64 (w12.alloc (Obj.cells #[Value.int IntKind.u64 9223372036854775808, Value.int IntKind.u64 1] 33)) (some ⟨w.heap.size, 0, none⟩) litM := ((am).alloc _)
  replace ash : At .u64 (w12.alloc (Obj.cells #[Value.int IntKind.u64 9223372036854775808, Value.int IntKind.u64 1] 33)) oash litS := ((ash).alloc _)
  replace at1 : At .u64 (w12.alloc (Obj.cells #[Value.int IntKind.u64 9223372036854775808, Value.int IntKind.u64 1] 33)) oat1 litT := ((at1).alloc _)
  have l0 : At .u64 (w12.alloc (Obj.cells #[Value.int IntKind.u64 9223372036854775808, Value.int IntKind.u64 1] 33)) (some ⟨w12.heap.size, 0, none⟩) litS := (lit_new w12 (w12.heap.size) (by simp) litS)
  replace hbw0 : Below w.heap.size w (w12.alloc (Obj.cells #[Value.int IntKind.u64 9223372036854775808, Value.int IntKind.u64 1] 33)) := (hbw0.alloc (by first | exact hbw0.size | (have := hbw0.size; simp; done) | (have := hbw0.size; simp; omega)) _)
  have hsz : w.heap.size ≤ ((w12.alloc (Obj.cells #[Value.int IntKind.u64 9223372036854775808, Value.int IntKind.u64 1] 33))).heap.size := hbw0.size
  refine (same_any oash (some ⟨w12.heap.size, 0, none⟩) 2 cash 2 2 litS litS _ (by omega) rfl rfl ash l0).mono ?_
  rintro e w13 ⟨rfl, hbel⟩
  rw [show decide (litS = litS) = true from by decide +kernel]
  replace am := am.below hbel
  replace ash := ash.below hbel
  replace at1 := at1.below hbel
  replace l0 := l0.below hbel
  have hbw : Below w.heap.size w w13 := hbw0.trans (hbel.mono (by first | exact Nat.le_refl _ | exact hsz))
  clear hbel hbw0 hsz
  have hbw0 := hbw
  clear hbw
  clear ash
  clear l0
  go_wp2_with fail
  replace am : At .u64 (w13.alloc (Obj.cells #[Value.int IntKind.u64 9223372036854775808] 33)) (some ⟨w.heap.size, 0, none⟩) litM := ((am).alloc _)
  replace at1 : At .u64 (w13.alloc (Obj.cells #[Value.int IntKind.u64 9223372036854775808] 33)) oat1 litT := ((at1).alloc _)
  have l0 : At .u64 (w13.alloc (Obj.cells #[Value.int IntKind.u64 9223372036854775808] 33)) (some ⟨w13.heap.size, 0, none⟩) litT := (lit_new w13 (w13.heap.size) (by simp) litT)
  replace hbw0 : Below w.heap.size w (w13.alloc (Obj.cells #[Value.int IntKind.u64 9223372036854775808] 33)) := (hbw0.alloc (by first | exact hbw0.size | (have := hbw0.size; simp; done) | (have := hbw0.size; simp; omega)) _)
  have hsz : w.heap.size ≤ ((w13.alloc (Obj.cells #[Value.int IntKind.u64 9223372036854775808] 33))).heap.size := hbw0.size
  refine (same_any oat1 (some ⟨w13.heap.size, 0, none⟩) 1 cat1 1 1 litT litT _ (by omega) rfl rfl at1 l0).mono ?_
  rintro e w14 ⟨rfl, hbel⟩
  rw [show decide (litT = litT) = true from by decide +kernel]
  replace am := am.below hbel
  replace at1 := at1.below hbel
  replace l0 := l0.below hbel
  have hbw : Below w.heap.size w w14 := hbw0.trans (hbel.mono (by first | exact Nat.le_refl _ | exact hsz))
  clear hbel hbw0 hsz
  have hbw0 := hbw
  clear hbw
  clear at1
  clear l0
  go_wp2_with fail
  replace am : At .u64 (w14.alloc (Obj.cells #[Value.int IntKind.u64 0] 33)) (some ⟨w.heap.size, 0, none⟩) litM := ((am).alloc _)
  have l0 : At .u64 (w14.alloc (Obj.cells #[Value.int IntKind.u64 0] 33)) (some ⟨w14.heap.size, 0, none⟩) [0] := (lit_new w14 (w14.heap.size) (by simp) [0])
  replace hbw0 : Below w.heap.size w (w14.alloc (Obj.cells #[Value.int IntKind.u64 0] 33)) := (hbw0.alloc (by first | exact hbw0.size | (have := hbw0.size; simp; done) | (have := hbw0.size; simp; omega)) _)
  have hsz : w.heap.size ≤ ((w14.alloc (Obj.cells #[Value.int IntKind.u64 0] 33))).heap.size := hbw0.size
  refine (norm_any (some ⟨w14.heap.size, 0, none⟩) 1 1 [0] _ (by omega) (by omega) rfl l0 (ok_of (by decide +kernel) : Ok B64 [0])).mono ?_
  rintro e w15 ⟨v, r, rfl, hown, his, hbel⟩
  obtain ⟨oan4, can4, rfl, hclan4, hcman4, an4⟩ := own_lit [] 0 rfl hown his (is_of [] (by decide +kernel) (by decide +kernel) (by decide +kernel))
  clear hown his
  replace am := am.below hbel
  replace l0 := l0.below hbel
  have hbw : Below w.heap.size w w15 := hbw0.trans (hbel.mono (by first | exact Nat.le_refl _ | exact hsz))
  clear hbel hbw0 hsz
  have hbw0 := hbw
  clear hbw
  replace hcman4 : can4 ≤ 2000 := Nat.le_trans hcman4 (by decide)
  replace hclan4 : 0 ≤ can4 := hclan4
  clear l0
  clear an4
  go_wp2_with fail
  have hsz : w.heap.size ≤ (w15).heap.size := hbw0.size
  refine (bits_any (some ⟨w.heap.size, 0, none⟩) 1 1 litM _ (by omega) (by omega) rfl am (ok_of (by decide +kernel) : Ok B64 litM)).mono ?_
  rintro e w' ⟨rfl, rfl⟩
  rw [show bitsN (num B64 litM) = 64 from by decide +kernel]
  clear hsz
  go_wp2_with fail
  have hsz : w.heap.size ≤ (w15).heap.size := hbw0.size
  refine (cmp_any (some ⟨w.heap.size, 0, none⟩) none 1 1 0 0 litM [] _ (by omega) (by omega) rfl rfl am (At.nil _ _ _)).mono ?_
  rintro e w16 ⟨rfl, hbel⟩
  rw [show cmpTo litM [] (max 1 0) = 1 from by decide +kernel]
  replace am := am.below hbel
  have hbw : Below w.heap.size w w16 := hbw0.trans (hbel.mono (by first | exact Nat.le_refl _ | exact hsz))
  clear hbel hbw0 hsz
  have hbw0 := hbw
  clear hbw
  go_wp2_with fail
  have hsz : w.heap.size ≤ (w16).heap.size := hbw0.size
  refine (mul_any (some ⟨w.heap.size, 0, none⟩) (some ⟨w.heap.size, 0, none⟩) 1 1 1 1 litM litM _ (by omega) (by omega) (by omega) (by omega) rfl rfl am am (ok_of (by decide +kernel) : Ok B64 litM) (ok_of (by decide +kernel) : Ok B64 litM)).mono ?_
  rintro e w17 ⟨v, r, rfl, hown, his, hbel⟩
  obtain ⟨oax, cax, rfl, hclax, hcmax, ax⟩ := own_lit litX 2 rfl hown his (is_of litX (by decide +kernel) (by decide +kernel) (by decide +kernel))
  clear hown his
  replace am := am.below hbel
  have hbw : Below w.heap.size w w17 := hbw0.trans (hbel.mono (by first | exact Nat.le_refl _ | exact hsz))
  clear hbel hbw0 hsz
  have hbw0 := hbw
  clear hbw
  replace hcmax : cax ≤ 2000 := Nat.le_trans hcmax (by decide)
  replace hclax : 2 ≤ cax := hclax
  go_wp2_with fail
  replace am : At .u64 (w17.alloc (Obj.cells #[Value.int IntKind.u64 1, Value.int IntKind.u64 18446744073709551614] 33)) (some ⟨w.heap.size, 0, none⟩) litM := ((am).alloc _)
  replace ax : At .u64 (w17.alloc (Obj.cells #[Value.int IntKind.u64 1, Value.int IntKind.u64 18446744073709551614] 33)) oax litX := ((ax).alloc _)
  have l0 : At .u64 (w17.alloc (Obj.cells #[Value.int IntKind.u64 1, Value.int IntKind.u64 18446744073709551614] 33)) (some ⟨w17.heap.size, 0, none⟩) litX := (lit_new w17 (w17.heap.size) (by simp) litX)
  replace hbw0 : Below w.heap.size w (w17.alloc (Obj.cells #[Value.int IntKind.u64 1, Value.int IntKind.u64 18446744073709551614] 33)) := (hbw0.alloc (by first | exact hbw0.size | (have := hbw0.size; simp; done) | (have := hbw0.size; simp; omega)) _)
  have hsz : w.heap.size ≤ ((w17.alloc (Obj.cells #[Value.int IntKind.u64 1, Value.int IntKind.u64 18446744073709551614] 33))).heap.size := hbw0.size
  refine (same_any oax (some ⟨w17.heap.size, 0, none⟩) 2 cax 2 2 litX litX _ (by omega) rfl rfl ax l0).mono ?_
  rintro e w18 ⟨rfl, hbel⟩
  rw [show decide (litX = litX) = true from by decide +kernel]
  replace am := am.below hbel
  replace ax := ax.below hbel
  replace l0 := l0.below hbel
  have hbw : Below w.heap.size w w18 := hbw0.trans (hbel.mono (by first | exact Nat.le_refl _ | exact hsz))
  clear hbel hbw0 hsz
  have hbw0 := hbw
  clear hbw
  clear ax
  clear l0
  clear am
  go_wp2_with fail
  have hsz : w.heap.size ≤ (w18).heap.size := hbw0.size
  refine (of_any 5 _ (by decide)).mono ?_
  rintro e w19 ⟨v, r, rfl, hown, his, hbel⟩
  obtain ⟨oaf, caf, rfl, hclaf, hcmaf, af⟩ := own_lit [5] 1 rfl hown his (is_of [5] (by decide +kernel) (by decide +kernel) (by decide +kernel))
  clear hown his
  have hbw : Below w.heap.size w w19 := hbw0.trans (hbel.mono (by first | exact Nat.le_refl _ | exact hsz))
  clear hbel hbw0 hsz
  have hbw0 := hbw
  clear hbw
  replace hcmaf : caf ≤ 2000 := Nat.le_trans hcmaf (by decide)
  replace hclaf : 1 ≤ caf := hclaf
  go_wp2_with fail
  replace af : At .u64 (w19.alloc (Obj.cells #[Value.int IntKind.u64 5] 33)) oaf [5] := ((af).alloc _)
  have l0 : At .u64 (w19.alloc (Obj.cells #[Value.int IntKind.u64 5] 33)) (some ⟨w19.heap.size, 0, none⟩) [5] := (lit_new w19 (w19.heap.size) (by simp) [5])
  replace hbw0 : Below w.heap.size w (w19.alloc (Obj.cells #[Value.int IntKind.u64 5] 33)) := (hbw0.alloc (by first | exact hbw0.size | (have := hbw0.size; simp; done) | (have := hbw0.size; simp; omega)) _)
  have hsz : w.heap.size ≤ ((w19.alloc (Obj.cells #[Value.int IntKind.u64 5] 33))).heap.size := hbw0.size
  refine (same_any oaf (some ⟨w19.heap.size, 0, none⟩) 1 caf 1 1 [5] [5] _ (by omega) rfl rfl af l0).mono ?_
  rintro e w20 ⟨rfl, hbel⟩
  rw [show decide ([5] = [5]) = true from by decide +kernel]
  replace af := af.below hbel
  replace l0 := l0.below hbel
  have hbw : Below w.heap.size w w20 := hbw0.trans (hbel.mono (by first | exact Nat.le_refl _ | exact hsz))
  clear hbel hbw0 hsz
  have hbw0 := hbw
  clear hbw
  clear af
  clear l0
  go_wp2
  go_ret
  exact ⟨rfl, hbw0⟩

end Go.Proofs.Ytpiloigpncbccaa
