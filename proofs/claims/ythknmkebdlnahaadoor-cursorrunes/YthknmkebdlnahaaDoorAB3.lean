/-
  What cursor's text and Text do.
  Lists of bytes in blocks of their own, out of a conversion or an append: an append to one; what a conversion makes.
  Texts and lists of bytes: conversions, there and back.
  What cursor's Put8, Put16, Put32 and PutText do.
  The calls whose answers the document fixes.
  What the reference's within, Rune and Runes do.
  What the reference's Rune does.
  What the reference's Rune does.
-/
import Derived.Test.YthknmkebdlnahaaDoorAB2
import Derived.ArgAppend
import Derived.Lib.ConvBytes
import Derived.Laws.BytesArg
namespace Go.Proofs.YthknmkebdlnahaaDoor
open Go.RowKit Go.Shelf

def OffT (D : Nat) : Prop := 0 ≠ D ∧ 1 ≠ D

theorem lt_of_cell {w : World} {g i : Nat} {v : Value} (h : w.cell? ⟨g, i, none⟩ = some v) : g < w.heap.size := by
  by_cases hg : g < w.heap.size
  · exact hg
  · unfold World.cell? at h
    rw [Array.getElem?_eq_none (by show w.heap.size ≤ g; omega)] at h
    simp at h

theorem U8.lt {w : World} (h : U8 w) : 0 < w.heap.size ∧ 1 < w.heap.size := ⟨lt_of_cell (h.1 0 (by decide)), lt_of_cell (h.2 0 (by decide)).1⟩
theorem U8.off {w : World} (h : U8 w) {D : Nat} (hD : w.heap.size ≤ D) : OffT D := by
  have := h.lt
  exact ⟨by omega, by omega⟩
section
variable {w : World} {D : Nat} {s : ByteArray} {at_ e : Nat}

end

end Go.Proofs.YthknmkebdlnahaaDoor

namespace Go.Proofs.YthknmkebdlnahaaDoor
open Go.RowKit

end Go.Proofs.YthknmkebdlnahaaDoor

namespace Go.Proofs.YthknmkebdlnahaaDoor
open Go.RowKit

theorem strB_of (l : List UInt8) : strOfNums ((l.map UInt8.toNat).map fun (x : Nat) => (x : Int)) = ⟨l.toArray⟩ := by
  apply ByteArray.ext
  apply Array.toList_inj.1
  rw [strOfNums_data, List.map_map, List.map_map]
  show _ = l
  conv => rhs; rw [← List.map_id l]
  apply List.map_congr_left
  intro x _
  simp

theorem convB_at {X : World} {g o cap : Nat} {l : List UInt8} (h : ∀ i, i < l.length → X.cell? ⟨g, o + i, none⟩ = some (.int .u8 ((byt l i : Nat) : Int))) : (convert 34 9 (.slice (some ⟨g, o, none⟩) l.length cap)).run Tryd.prog X = .ok (.string ⟨l.toArray⟩) X := by
  have kc := run_convert_bytes_arg (P := Tryd.prog) X 34 5 Tryd.underlying34 Tryd.underlying5 g o l.length cap ((l.map UInt8.toNat).map fun (x : Nat) => (x : Int)) (by rw [List.length_map, List.length_map]) (fun i hi => by
    rw [h i hi]
    unfold byt
    simp [List.getD, hi]) 9 Tryd.underlying9
  rw [strB_of] at kc
  exact kc

end Go.Proofs.YthknmkebdlnahaaDoor

namespace Go.Proofs.YthknmkebdlnahaaDoor
open Go.RowKit

def bN (n : Int) (k : Nat) : UInt8 := UInt8.ofNat ((n / 2 ^ (8 * k)) % 256).toNat
theorem bN_nat (n : Int) (k : Nat) : (((bN n k).toNat : Nat) : Int) = (n / 2 ^ (8 * k)) % 256 := by
  unfold bN
  rw [UInt8.toNat_ofNat']
  have h1 := Int.emod_nonneg (n / 2 ^ (8 * k)) (show (256 : Int) ≠ 0 by decide)
  have h2 := Int.emod_lt_of_pos (n / 2 ^ (8 * k)) (show (0 : Int) < 256 by decide)
  omega

set_option maxHeartbeats 1000000 in
theorem Put8_any (n : Int) (w : World) : Calls Tryd.prog 10 #[.int .i64 n] w fun e w' => e = .returned (.string ⟨#[bN n 0]⟩) ∧ Below w.heap.size w w' := by
  have hb : n % 256 = (((bN n 0).toNat : Nat) : Int) := by rw [bN_nat]; simp
  have HCV : Hid ((convert 34 9 (.slice (some ⟨w.heap.size, 0, none⟩) 1 1)).run Tryd.prog (w.alloc (.cells #[.int .u8 (n % 256)] 5)) = .ok (.string ⟨#[bN n 0]⟩) (w.alloc (.cells #[.int .u8 (n % 256)] 5))) :=
    convB_at (l := [bN n 0]) (fun i hi => by
      obtain rfl : i = 0 := by simpa using hi
      have := (Blk.new w #[.int .u8 (n % 256)] 5).cell 0
      rw [Nat.add_zero, this, hb]
      rfl)
  have hcv := HCV.out
  clear HCV hb
  go_enter Tryd.func10, Tryd.ntmps10
  go_wp2
  go_ret
  exact ⟨rfl, (Below.refl _ _).alloc (Nat.le_refl _) _⟩

theorem bN_shift (n : Int) (j k : Nat) : bN (n / 2 ^ (8 * j)) k = bN n (j + k) := by
  unfold bN
  rw [Int.ediv_ediv_of_nonneg (by exact Int.le_of_lt (Int.pow_pos (by decide))), ← Int.pow_add, ← Nat.mul_add]

def put2 (n : Int) : ByteArray := ⟨#[bN n 1, bN n 0]⟩
def put4 (n : Int) : ByteArray := ⟨#[bN n 3, bN n 2, bN n 1, bN n 0]⟩

theorem cat2 (n : Int) : (⟨#[bN (n / 256) 0]⟩ : ByteArray) ++ ⟨#[bN n 0]⟩ = put2 n := by
  have := bN_shift n 1 0
  rw [show (2 : Int) ^ (8 * 1) = 256 by decide] at this
  rw [this]
  rfl
theorem cat4 (n : Int) : put2 (n / 65536) ++ put2 n = put4 n := by
  have h0 := bN_shift n 2 0
  have h1 := bN_shift n 2 1
  rw [show (2 : Int) ^ (8 * 2) = 65536 by decide] at h0 h1
  unfold put2 put4
  rw [h0, h1]
  rfl

set_option maxHeartbeats 1000000 in
theorem Put16_any (n : Int) (w : World) : Calls Tryd.prog 12 #[.int .i64 n] w fun e w' => e = .returned (.string (put2 n)) ∧ Below w.heap.size w w' := by
  have HP : Hid (∀ m X, Calls Tryd.prog 10 #[.int .i64 m] X fun e w' => e = .returned (.string ⟨#[bN m 0]⟩) ∧ Below X.heap.size X w') := fun m X => Put8_any m X
  have HC := hide (cat2 n)
  have hz : ¬ 9223372036854775807 < (⟨#[bN (n / 256) 0]⟩ : ByteArray).size + (⟨#[bN n 0]⟩ : ByteArray).size := by show ¬ _ < 1 + 1; omega
  go_enter Tryd.func12, Tryd.ntmps12
  go_wp2_with fail
  refine (HP.out _ _).mono ?_
  generalize (⟨#[bN (n / 256) 0]⟩ : ByteArray) = A at *
  rintro e w1 ⟨rfl, hb⟩
  have HB := hide hb
  clear hb
  go_wp2_with fail
  refine (HP.out _ _).mono ?_
  clear HP
  generalize (⟨#[bN n 0]⟩ : ByteArray) = B at *
  rintro e w2 ⟨rfl, hb⟩
  have HB2 := hide (HB.out.trans (hb.mono HB.out.size))
  clear hb HB
  have hc := HC.out
  go_wp2
  go_ret
  first | exact ⟨rfl, HB2.out⟩ | exact ⟨by rw [← hc]; rfl, HB2.out⟩

set_option maxHeartbeats 1000000 in
theorem Put32_any (n : Int) (w : World) : Calls Tryd.prog 13 #[.int .i64 n] w fun e w' => e = .returned (.string (put4 n)) ∧ Below w.heap.size w w' := by
  have HP : Hid (∀ m X, Calls Tryd.prog 12 #[.int .i64 m] X fun e w' => e = .returned (.string (put2 m)) ∧ Below X.heap.size X w') := fun m X => Put16_any m X
  have HC := hide (cat4 n)
  have hz : ¬ 9223372036854775807 < (put2 (n / 65536)).size + (put2 n).size := by show ¬ _ < 2 + 2; omega
  go_enter Tryd.func13, Tryd.ntmps13
  go_wp2_with fail
  refine (HP.out _ _).mono ?_
  generalize put2 (n / 65536) = A at *
  rintro e w1 ⟨rfl, hb⟩
  have HB := hide hb
  clear hb
  go_wp2_with fail
  refine (HP.out _ _).mono ?_
  clear HP
  generalize put2 n = B at *
  rintro e w2 ⟨rfl, hb⟩
  have HB2 := hide (HB.out.trans (hb.mono HB.out.size))
  clear hb HB
  have hc := HC.out
  go_wp2
  go_ret
  first | exact ⟨rfl, HB2.out⟩ | exact ⟨by rw [← hc]; rfl, HB2.out⟩

def ptxE (s : ByteArray) : Nat := if 1024 < s.size then 112 else if (runesL (bys s)).isSome = false then 111 else 0
def ptxV (s : ByteArray) : ByteArray := if ptxE s = 0 then put2 (s.size : Int) ++ s else ⟨#[]⟩

set_option maxHeartbeats 1000000 in
theorem PutText_any (s : ByteArray) (w : World) (hT : U8 w) : Calls Tryd.prog 8 #[.string s] w fun e w' => e = .returned (.tuple #[.string (ptxV s), .int .i64 (ptxE s : Int)]) ∧ Below w.heap.size w w' := by
  by_cases h1 : 1024 < s.size
  · have e1 : ptxE s = 112 := by unfold ptxE; rw [if_pos h1]
    have e2 : ptxV s = ⟨#[]⟩ := by unfold ptxV; rw [e1, if_neg (by decide)]
    rw [e1, e2]
    have h1' : 1024 < (s.size : Int) := by omega
    clear hT e1 e2
    go_enter Tryd.func8, Tryd.ntmps8
    go_wp2
    go_ret2
    exact ⟨rfl, Below.refl _ _⟩
  have h1' : ¬ 1024 < (s.size : Int) := by omega
  have HV := hide (Valid_any s w (by omega) hT)
  cases h2 : (runesL (bys s)).isSome with
  | false =>
    have e1 : ptxE s = 111 := by unfold ptxE; rw [if_neg h1, if_pos h2]
    have e2 : ptxV s = ⟨#[]⟩ := by unfold ptxV; rw [e1, if_neg (by decide)]
    rw [e1, e2]
    rw [h2] at HV
    clear hT e1 e2
    go_enter Tryd.func8, Tryd.ntmps8
    go_wp2_with fail
    refine HV.out.mono ?_
    rintro e w1 ⟨rfl, hb⟩
    go_wp2
    go_ret2
    exact ⟨rfl, hb⟩
  | true =>
    have e1 : ptxE s = 0 := by unfold ptxE; rw [if_neg h1, if_neg (by rw [h2]; decide)]
    have e2 : ptxV s = put2 (s.size : Int) ++ s := by unfold ptxV; rw [e1, if_pos rfl]
    rw [e1, e2]
    rw [h2] at HV
    have HP : Hid (∀ X, Calls Tryd.prog 12 #[.int .i64 (s.size : Int)] X fun e w' => e = .returned (.string (put2 (s.size : Int))) ∧ Below X.heap.size X w') := fun X => Put16_any _ X
    have hz : ¬ 9223372036854775807 < (put2 (s.size : Int)).size + s.size := by show ¬ _ < 2 + s.size; omega
    generalize put2 (s.size : Int) = A at *
    clear hT e1 e2
    go_enter Tryd.func8, Tryd.ntmps8
    go_wp2_with fail
    refine HV.out.mono ?_
    rintro e w1 ⟨rfl, hb⟩
    have HB := hide hb
    clear hb HV
    go_wp2_with fail
    refine (HP.out _).mono ?_
    rintro e w2 ⟨rfl, hb⟩
    have HB2 := hide (HB.out.trans (hb.mono HB.out.size))
    clear hb HB HP
    go_wp2
    go_ret2
    exact ⟨rfl, HB2.out⟩

end Go.Proofs.YthknmkebdlnahaaDoor

namespace Go.Proofs.YthknmkebdlnahaaDoor
open Go.RowKit

def T3 : ByteArray := ⟨#[1, 2, 3]⟩
def Tab_ : ByteArray := ⟨#[97, 98]⟩
def Teu : ByteArray := ⟨#[226, 130, 172]⟩
def T80 : ByteArray := ⟨#[128]⟩
def Ta : ByteArray := ⟨#[97]⟩
theorem fx1 : getV T3 0 0 2 = 258 ∧ getA T3 0 0 2 = 2 ∧ getE T3 0 0 2 = 0 := by decide
theorem fx2 : getV T3 2 0 2 = 0 ∧ getA T3 2 0 2 = 2 ∧ getE T3 2 0 2 = 110 := by decide
theorem fx3 : fltP 2 110 = 2 := by decide
theorem fx4 : ptxE Tab_ = 0 := by decide
theorem fx5 : ptxV Tab_ = ⟨#[0, 2, 97, 98]⟩ := by unfold ptxV; rw [if_pos fx4]; rfl
theorem fx6 : put4 (-1) = ⟨#[255, 255, 255, 255]⟩ := by rfl
theorem fx7 : runeAt Teu 0 = 3 := by decide
theorem fx8 : runesI (bys T80) = -1 := by decide
theorem fx9 : (runesL (bys Ta)).isSome = true := by decide

set_option maxRecDepth 100000 in
set_option maxHeartbeats 2000000 in
theorem fixed_any (w : World) (hT : U8 w) : Calls Tryd.prog 14 #[] w fun e w' => e = .returned (.bool true) ∧ Below w.heap.size w w' := by
  have HT := hide hT
  have hoff := hT.off (Nat.le_refl _)
  clear hT hoff
  have HN := hide (New_any T3 w)
  go_enter Tryd.func14, Tryd.ntmps14
  go_wp2_with fail
  refine HN.out.mono ?_
  rintro e w1 ⟨rfl, hc, hb⟩
  have HB1 := hide hb
  obtain ⟨v1, v2, v3⟩ := fx1
  have HG := hide (Get16_any (by decide) (by decide) hc)
  rw [v1, v2, v3] at HG
  clear hc hb HN v1 v2 v3
  generalize hD : w.heap.size = D at *
  go_wp2_with fail
  refine HG.out.mono ?_
  rintro e w2 ⟨rfl, hc, hb⟩
  have HB2 := hide (But.frame (by rw [hD]; exact HB1.out) hb (by omega))
  obtain ⟨v1, v2, v3⟩ := fx2
  have HG2 := hide (Get16_any (by decide) (by decide) hc)
  rw [v1, v2, v3] at HG2
  clear hc hb HG v1 v2 v3 HB1
  go_wp2_with fail
  refine HG2.out.mono ?_
  rintro e w3 ⟨rfl, hc, hb⟩
  have HB3 := hide (But.frame HB2.out hb (by omega))
  have HA := hide (At_any hc)
  have HF := hide (Fault_any hc)
  rw [fx3] at HF
  clear hc hb HG2 HB2
  go_wp2_with fail
  refine HA.out.mono ?_
  rintro e w4 ⟨rfl, rfl⟩
  clear HA
  go_wp2_with fail
  refine HF.out.mono ?_
  rintro e w4 ⟨rfl, hb⟩
  have HB4 := hide (HB3.out.trans (hb.mono HB3.out.size))
  have HP := hide (PutText_any Tab_ w4 (HT.out.below HB4.out))
  rw [fx4, fx5] at HP
  clear hb HF HB3
  go_wp2_with fail
  refine HP.out.mono ?_
  rintro e w5 ⟨rfl, hb⟩
  have HB5 := hide (HB4.out.trans (hb.mono HB4.out.size))
  have HP := hide (Put32_any (-1) w5)
  rw [fx6] at HP
  clear hb HB4
  go_wp2_with fail
  refine HP.out.mono ?_
  rintro e w6 ⟨rfl, hb⟩
  have HB6 := hide (HB5.out.trans (hb.mono HB5.out.size))
  have HP := hide (Rune_any Teu 0 w6 (HT.out.below HB6.out))
  rw [fx7] at HP
  clear hb HB5
  go_wp2_with fail
  refine HP.out.mono ?_
  rintro e w7 ⟨rfl, hb⟩
  have HB7 := hide (HB6.out.trans (hb.mono HB6.out.size))
  have HP := hide (Runes_any T80 w7 (by decide) (HT.out.below HB7.out))
  rw [fx8] at HP
  clear hb HB6
  go_wp2_with fail
  refine HP.out.mono ?_
  rintro e w8 ⟨rfl, hb⟩
  have HB8 := hide (HB7.out.trans (hb.mono HB7.out.size))
  have HP := hide (Valid_any Ta w8 (by decide) (HT.out.below HB8.out))
  rw [fx9] at HP
  clear hb HB7
  go_wp2_with fail
  refine HP.out.mono ?_
  rintro e w9 ⟨rfl, hb⟩
  have HB9 := hide (HB8.out.trans (hb.mono HB8.out.size))
  clear hb HB8 HP HT
  go_wp2
  go_ret
  exact ⟨rfl, by rw [hD]; first | exact HB9.out | (have h := HB9.out; rw [hD] at h; exact h)⟩

end Go.Proofs.YthknmkebdlnahaaDoor

namespace Go.Proofs.YthknmkebdlnahaaDoor
open Go.RowKit Go.Lib

theorem byB_byt (l : List UInt8) (k : Nat) : byB l k = byt l k := by
  unfold byB byt
  rw [List.getD]
  cases l[k]? <;> rfl

theorem runeN_asc (n b0 b1 b2 b3 : Nat) (hn : 1 ≤ n) (h : b0 < 128) : runeN n b0 b1 b2 b3 = 1 := by
  unfold runeN
  rw [if_neg (by omega), if_pos h]
theorem runeN_hi (n b0 b1 b2 b3 : Nat) (hn : 1 ≤ n) (h : 128 ≤ b0) : runeN n b0 b1 b2 b3 = (checkN n b1 b2 b3 (firstT b0 % 8) (accLo (firstT b0 / 16)) (accHi (firstT b0 / 16))).getD 0 := by
  unfold runeN
  rw [if_neg (by omega), if_neg (by omega)]

theorem firstT_C2 (b0 : Nat) (h : 194 ≤ b0 ∧ b0 ≤ 223) : firstT b0 = 2 := by
  unfold firstT
  repeat' split
  all_goals first | rfl | (exfalso; omega)
theorem runeN_C2 (n b0 b1 b2 b3 : Nat) (hn : 1 ≤ n) (h : 194 ≤ b0 ∧ b0 ≤ 223) : runeN n b0 b1 b2 b3 = if n < 2 ∨ b1 < 128 ∨ 191 < b1 then 0 else 2 := by
  rw [runeN_hi n b0 b1 b2 b3 hn (by omega), firstT_C2 b0 h]
  exact checkN_two n b1 b2 b3 128 191

theorem firstT_E0 (b0 : Nat) (h : b0 = 224) : firstT b0 = 19 := by
  unfold firstT
  repeat' split
  all_goals first | rfl | (exfalso; omega)
theorem runeN_E0 (n b0 b1 b2 b3 : Nat) (hn : 1 ≤ n) (h : b0 = 224) : runeN n b0 b1 b2 b3 = if n < 3 ∨ b1 < 160 ∨ 191 < b1 ∨ b2 < 128 ∨ 191 < b2 then 0 else 3 := by
  rw [runeN_hi n b0 b1 b2 b3 hn (by omega), firstT_E0 b0 h]
  exact checkN_three n b1 b2 b3 160 191

theorem firstT_E1 (b0 : Nat) (h : 225 ≤ b0 ∧ b0 ≤ 236 ∨ b0 = 238 ∨ b0 = 239) : firstT b0 = 3 := by
  unfold firstT
  repeat' split
  all_goals first | rfl | (exfalso; omega)
theorem runeN_E1 (n b0 b1 b2 b3 : Nat) (hn : 1 ≤ n) (h : 225 ≤ b0 ∧ b0 ≤ 236 ∨ b0 = 238 ∨ b0 = 239) : runeN n b0 b1 b2 b3 = if n < 3 ∨ b1 < 128 ∨ 191 < b1 ∨ b2 < 128 ∨ 191 < b2 then 0 else 3 := by
  rw [runeN_hi n b0 b1 b2 b3 hn (by omega), firstT_E1 b0 h]
  exact checkN_three n b1 b2 b3 128 191

theorem firstT_ED (b0 : Nat) (h : b0 = 237) : firstT b0 = 35 := by
  unfold firstT
  repeat' split
  all_goals first | rfl | (exfalso; omega)
theorem runeN_ED (n b0 b1 b2 b3 : Nat) (hn : 1 ≤ n) (h : b0 = 237) : runeN n b0 b1 b2 b3 = if n < 3 ∨ b1 < 128 ∨ 159 < b1 ∨ b2 < 128 ∨ 191 < b2 then 0 else 3 := by
  rw [runeN_hi n b0 b1 b2 b3 hn (by omega), firstT_ED b0 h]
  exact checkN_three n b1 b2 b3 128 159

theorem firstT_F0 (b0 : Nat) (h : b0 = 240) : firstT b0 = 52 := by
  unfold firstT
  repeat' split
  all_goals first | rfl | (exfalso; omega)
theorem runeN_F0 (n b0 b1 b2 b3 : Nat) (hn : 1 ≤ n) (h : b0 = 240) : runeN n b0 b1 b2 b3 = if n < 4 ∨ b1 < 144 ∨ 191 < b1 ∨ b2 < 128 ∨ 191 < b2 ∨ b3 < 128 ∨ 191 < b3 then 0 else 4 := by
  rw [runeN_hi n b0 b1 b2 b3 hn (by omega), firstT_F0 b0 h]
  exact checkN_four n b1 b2 b3 144 191

theorem firstT_F1 (b0 : Nat) (h : 241 ≤ b0 ∧ b0 ≤ 243) : firstT b0 = 4 := by
  unfold firstT
  repeat' split
  all_goals first | rfl | (exfalso; omega)
theorem runeN_F1 (n b0 b1 b2 b3 : Nat) (hn : 1 ≤ n) (h : 241 ≤ b0 ∧ b0 ≤ 243) : runeN n b0 b1 b2 b3 = if n < 4 ∨ b1 < 128 ∨ 191 < b1 ∨ b2 < 128 ∨ 191 < b2 ∨ b3 < 128 ∨ 191 < b3 then 0 else 4 := by
  rw [runeN_hi n b0 b1 b2 b3 hn (by omega), firstT_F1 b0 h]
  exact checkN_four n b1 b2 b3 128 191

theorem firstT_F4 (b0 : Nat) (h : b0 = 244) : firstT b0 = 68 := by
  unfold firstT
  repeat' split
  all_goals first | rfl | (exfalso; omega)
theorem runeN_F4 (n b0 b1 b2 b3 : Nat) (hn : 1 ≤ n) (h : b0 = 244) : runeN n b0 b1 b2 b3 = if n < 4 ∨ b1 < 128 ∨ 143 < b1 ∨ b2 < 128 ∨ 191 < b2 ∨ b3 < 128 ∨ 191 < b3 then 0 else 4 := by
  rw [runeN_hi n b0 b1 b2 b3 hn (by omega), firstT_F4 b0 h]
  exact checkN_four n b1 b2 b3 128 143

theorem firstT_No (b0 : Nat) (h : 128 ≤ b0 ∧ b0 < 194 ∨ 244 < b0) : firstT b0 = 241 := by
  unfold firstT
  repeat' split
  all_goals first | rfl | (exfalso; omega)
theorem runeN_No (n b0 b1 b2 b3 : Nat) (hn : 1 ≤ n) (h : 128 ≤ b0 ∧ b0 < 194 ∨ 244 < b0) : runeN n b0 b1 b2 b3 = 0 := by
  rw [runeN_hi n b0 b1 b2 b3 hn (by omega), firstT_No b0 h]
  exact checkN_else _ _ _ _ _ _ _ (by decide) (by decide) (by decide)

def inB (l : List UInt8) (p lo hi : Nat) : Bool := decide (p < l.length ∧ lo ≤ byt l p ∧ byt l p ≤ hi)

set_option maxHeartbeats 1000000 in
theorem within_any (s : ByteArray) (p lo hi : Nat) (w : World) : Calls Tryd.prog 31 #[.string s, .int .i64 (p : Int), .int .i64 (lo : Int), .int .i64 (hi : Int)] w fun e w' => e = .returned (.bool (inB (bys s) p lo hi)) ∧ w = w' := by
  have HI : Hid (inB (bys s) p lo hi = decide (p < s.size ∧ lo ≤ byt (bys s) p ∧ byt (bys s) p ≤ hi)) := by
    show inB (bys s) p lo hi = _
    unfold inB
    rw [bys_len]
  rw [HI.out]
  clear HI
  by_cases h1 : p < s.size
  · have h1' : (p : Int) < (s.size : Int) := by omega
    have hg : ∀ h : p < s.size, s[p].toNat = byt (bys s) p := fun h => byt_get s p h
    have hb2 := byt_lt (bys s) p
    obtain ⟨b, hbb⟩ : ∃ b, b = byt (bys s) p := ⟨_, rfl⟩
    rw [← hbb] at hg hb2 ⊢
    clear hbb
    by_cases h2 : lo ≤ b
    · have h2' : (lo : Int) ≤ (b : Int) := by omega
      by_cases h3 : b ≤ hi
      · have h3' : (b : Int) ≤ (hi : Int) := by omega
        rw [decide_eq_true (by omega)]
        go_enter Tryd.func31, Tryd.ntmps31
        go_wp2
        go_ret
        exact ⟨rfl, rfl⟩
      · have h3' : ¬ (b : Int) ≤ (hi : Int) := by omega
        rw [decide_eq_false (by omega)]
        go_enter Tryd.func31, Tryd.ntmps31
        go_wp2
        go_ret
        exact ⟨rfl, rfl⟩
    · have h2' : ¬ (lo : Int) ≤ (b : Int) := by omega
      rw [decide_eq_false (by omega)]
      go_enter Tryd.func31, Tryd.ntmps31
      go_wp2
      go_ret
      exact ⟨rfl, rfl⟩
  · have h1' : ¬ (p : Int) < (s.size : Int) := by omega
    rw [decide_eq_false (by omega)]
    go_enter Tryd.func31, Tryd.ntmps31
    go_wp2
    go_ret
    exact ⟨rfl, rfl⟩

end Go.Proofs.YthknmkebdlnahaaDoor

namespace Go.Proofs.YthknmkebdlnahaaDoor
open Go.RowKit Go.Lib

set_option maxRecDepth 100000 in
set_option maxHeartbeats 2000000 in
theorem rr_As (s : ByteArray) (p B : Nat) (w : World) (hs : s.size ≤ 140737488355328) (hp : p < s.size) (hB : byt (bys s) p = B) (hc : B < 128) : Calls Tryd.prog 17 #[.string s, .int .i64 (p : Int)] w fun e w' => e = .returned (.int .i64 ((runeAt s (p : Int) : Nat) : Int)) ∧ w = w' := by
  have hp' : (p : Int) < (s.size : Int) := by omega
  have hg : ∀ h : p < s.size, s[p].toNat = B := fun h => (byt_get s p h).trans hB
  have hb2 : B < 256 := by rw [← hB]; exact byt_lt _ _
  have W1 : Hid (∀ X, Calls Tryd.prog 31 #[.string s, .int .i64 ((p : Int) + 1), .int .i64 128, .int .i64 191] X fun e w' => e = .returned (.bool (inB (bys s) (p + 1) 128 191)) ∧ X = w') := fun X => by have := within_any s (p + 1) 128 191 X; simpa using this
  have W2 : Hid (∀ X, Calls Tryd.prog 31 #[.string s, .int .i64 ((p : Int) + 2), .int .i64 128, .int .i64 191] X fun e w' => e = .returned (.bool (inB (bys s) (p + 2) 128 191)) ∧ X = w') := fun X => by have := within_any s (p + 2) 128 191 X; simpa using this
  have W3 : Hid (∀ X, Calls Tryd.prog 31 #[.string s, .int .i64 ((p : Int) + 3), .int .i64 128, .int .i64 191] X fun e w' => e = .returned (.bool (inB (bys s) (p + 3) 128 191)) ∧ X = w') := fun X => by have := within_any s (p + 3) 128 191 X; simpa using this
  have ta : (B : Int) < 128 := by omega
  have hR : runeAt s (p : Int) = runeN (s.size - p) B (byt (bys s) (p + 1)) (byt (bys s) (p + 2)) (byt (bys s) (p + 3)) := by
    unfold runeAt
    rw [if_neg (by omega)]
    show runeL ((bys s).drop p) = _
    unfold runeL
    rw [byB_drop, byB_drop, byB_drop, byB_drop, byB_byt, byB_byt, byB_byt, byB_byt, List.length_drop, bys_len, Nat.add_zero, hB]
  rw [runeN_asc _ _ _ _ _ (by omega) (by omega)] at hR
  rw [hR]
  clear hR
  clear hB hc
  go_enter Tryd.func17, Tryd.ntmps17
  go_wp2_with fail
  refine (W1.out _).mono ?_
  rintro e w1 ⟨rfl, rfl⟩
  go_wp2_with fail
  refine (W2.out _).mono ?_
  rintro e w2 ⟨rfl, rfl⟩
  go_wp2_with fail
  refine (W3.out _).mono ?_
  rintro e w3 ⟨rfl, rfl⟩
  go_wp2
  go_ret
  exact ⟨rfl, rfl⟩

set_option maxRecDepth 100000 in
set_option maxHeartbeats 2000000 in
theorem rr_C2 (s : ByteArray) (p B : Nat) (w : World) (hs : s.size ≤ 140737488355328) (hp : p < s.size) (hB : byt (bys s) p = B) (hc : 194 ≤ B ∧ B ≤ 223) : Calls Tryd.prog 17 #[.string s, .int .i64 (p : Int)] w fun e w' => e = .returned (.int .i64 ((runeAt s (p : Int) : Nat) : Int)) ∧ w = w' := by
  have hp' : (p : Int) < (s.size : Int) := by omega
  have hg : ∀ h : p < s.size, s[p].toNat = B := fun h => (byt_get s p h).trans hB
  have hb2 : B < 256 := by rw [← hB]; exact byt_lt _ _
  have W1 : Hid (∀ X, Calls Tryd.prog 31 #[.string s, .int .i64 ((p : Int) + 1), .int .i64 128, .int .i64 191] X fun e w' => e = .returned (.bool (inB (bys s) (p + 1) 128 191)) ∧ X = w') := fun X => by have := within_any s (p + 1) 128 191 X; simpa using this
  have W2 : Hid (∀ X, Calls Tryd.prog 31 #[.string s, .int .i64 ((p : Int) + 2), .int .i64 128, .int .i64 191] X fun e w' => e = .returned (.bool (inB (bys s) (p + 2) 128 191)) ∧ X = w') := fun X => by have := within_any s (p + 2) 128 191 X; simpa using this
  have W3 : Hid (∀ X, Calls Tryd.prog 31 #[.string s, .int .i64 ((p : Int) + 3), .int .i64 128, .int .i64 191] X fun e w' => e = .returned (.bool (inB (bys s) (p + 3) 128 191)) ∧ X = w') := fun X => by have := within_any s (p + 3) 128 191 X; simpa using this
  have ta : ¬ (B : Int) < 128 := by omega
  have tb : 194 ≤ (B : Int) := by omega
  have tc : (B : Int) ≤ 223 := by omega
  have td : ¬ (B : Int) = 224 := by omega
  have te : ¬ 225 ≤ (B : Int) := by omega
  have tg : ¬ (B : Int) = 238 := by omega
  have th : ¬ (B : Int) = 239 := by omega
  have ti : ¬ (B : Int) = 237 := by omega
  have tj : ¬ (B : Int) = 240 := by omega
  have tk : ¬ 241 ≤ (B : Int) := by omega
  have tm : ¬ (B : Int) = 244 := by omega
  have hR : runeAt s (p : Int) = runeN (s.size - p) B (byt (bys s) (p + 1)) (byt (bys s) (p + 2)) (byt (bys s) (p + 3)) := by
    unfold runeAt
    rw [if_neg (by omega)]
    show runeL ((bys s).drop p) = _
    unfold runeL
    rw [byB_drop, byB_drop, byB_drop, byB_drop, byB_byt, byB_byt, byB_byt, byB_byt, List.length_drop, bys_len, Nat.add_zero, hB]
  rw [runeN_C2 _ _ _ _ _ (by omega) (by omega)] at hR
  have hl := bys_len s
  obtain ⟨x1, hx1⟩ : ∃ x, x = inB (bys s) (p + 1) 128 191 := ⟨_, rfl⟩
  rw [← hx1] at W1
  obtain ⟨x2, hx2⟩ : ∃ x, x = inB (bys s) (p + 2) 128 191 := ⟨_, rfl⟩
  rw [← hx2] at W2
  obtain ⟨x3, hx3⟩ : ∃ x, x = inB (bys s) (p + 3) 128 191 := ⟨_, rfl⟩
  rw [← hx3] at W3
  have hV : runeAt s (p : Int) = (if x1 = true then 2 else 0 : Nat) := by
    rw [hR]
    unfold inB at hx1
    have q : (x1 = true) ↔ (((p + 1) < (bys s).length ∧ 128 ≤ byt (bys s) (p + 1) ∧ byt (bys s) (p + 1) ≤ 191)) := by rw [hx1]; simp only [decide_eq_true_eq]
    by_cases hq : x1 = true
    · have := q.1 hq
      rw [if_pos hq, if_neg (by omega)]
    · have : ¬ (((p + 1) < (bys s).length ∧ 128 ≤ byt (bys s) (p + 1) ∧ byt (bys s) (p + 1) ≤ 191)) := fun h => hq (q.2 h)
      rw [if_neg hq, if_pos (by omega)]
  rw [hV]
  clear hR hV hl hx1 hx2 hx3
  clear hB hc
  cases x1
  · rw [if_neg (by simp)]
    go_enter Tryd.func17, Tryd.ntmps17
    go_wp2_with fail
    refine (W1.out _).mono ?_
    rintro e w1 ⟨rfl, rfl⟩
    go_wp2_with fail
    refine (W2.out _).mono ?_
    rintro e w2 ⟨rfl, rfl⟩
    go_wp2_with fail
    refine (W3.out _).mono ?_
    rintro e w3 ⟨rfl, rfl⟩
    go_wp2
    go_ret
    exact ⟨rfl, rfl⟩
  · skip
    rw [if_pos (by simp)]
    go_enter Tryd.func17, Tryd.ntmps17
    go_wp2_with fail
    refine (W1.out _).mono ?_
    rintro e w1 ⟨rfl, rfl⟩
    go_wp2_with fail
    refine (W2.out _).mono ?_
    rintro e w2 ⟨rfl, rfl⟩
    go_wp2_with fail
    refine (W3.out _).mono ?_
    rintro e w3 ⟨rfl, rfl⟩
    go_wp2
    go_ret
    exact ⟨rfl, rfl⟩

set_option maxRecDepth 100000 in
set_option maxHeartbeats 2000000 in
theorem rr_E0 (s : ByteArray) (p B : Nat) (w : World) (hs : s.size ≤ 140737488355328) (hp : p < s.size) (hB : byt (bys s) p = B) (hc : B = 224) : Calls Tryd.prog 17 #[.string s, .int .i64 (p : Int)] w fun e w' => e = .returned (.int .i64 ((runeAt s (p : Int) : Nat) : Int)) ∧ w = w' := by
  have hp' : (p : Int) < (s.size : Int) := by omega
  have hg : ∀ h : p < s.size, s[p].toNat = B := fun h => (byt_get s p h).trans hB
  have hb2 : B < 256 := by rw [← hB]; exact byt_lt _ _
  have W1 : Hid (∀ X, Calls Tryd.prog 31 #[.string s, .int .i64 ((p : Int) + 1), .int .i64 128, .int .i64 191] X fun e w' => e = .returned (.bool (inB (bys s) (p + 1) 128 191)) ∧ X = w') := fun X => by have := within_any s (p + 1) 128 191 X; simpa using this
  have W2 : Hid (∀ X, Calls Tryd.prog 31 #[.string s, .int .i64 ((p : Int) + 2), .int .i64 128, .int .i64 191] X fun e w' => e = .returned (.bool (inB (bys s) (p + 2) 128 191)) ∧ X = w') := fun X => by have := within_any s (p + 2) 128 191 X; simpa using this
  have W3 : Hid (∀ X, Calls Tryd.prog 31 #[.string s, .int .i64 ((p : Int) + 3), .int .i64 128, .int .i64 191] X fun e w' => e = .returned (.bool (inB (bys s) (p + 3) 128 191)) ∧ X = w') := fun X => by have := within_any s (p + 3) 128 191 X; simpa using this
  have W4 : Hid (∀ X, Calls Tryd.prog 31 #[.string s, .int .i64 ((p : Int) + 1), .int .i64 160, .int .i64 191] X fun e w' => e = .returned (.bool (inB (bys s) (p + 1) 160 191)) ∧ X = w') := fun X => by have := within_any s (p + 1) 160 191 X; simpa using this
  have ta : ¬ (B : Int) < 128 := by omega
  have tb : 194 ≤ (B : Int) := by omega
  have tc : ¬ (B : Int) ≤ 223 := by omega
  have td : (B : Int) = 224 := by omega
  have te : ¬ 225 ≤ (B : Int) := by omega
  have tg : ¬ (B : Int) = 238 := by omega
  have th : ¬ (B : Int) = 239 := by omega
  have ti : ¬ (B : Int) = 237 := by omega
  have tj : ¬ (B : Int) = 240 := by omega
  have tk : ¬ 241 ≤ (B : Int) := by omega
  have tm : ¬ (B : Int) = 244 := by omega
  have hR : runeAt s (p : Int) = runeN (s.size - p) B (byt (bys s) (p + 1)) (byt (bys s) (p + 2)) (byt (bys s) (p + 3)) := by
    unfold runeAt
    rw [if_neg (by omega)]
    show runeL ((bys s).drop p) = _
    unfold runeL
    rw [byB_drop, byB_drop, byB_drop, byB_drop, byB_byt, byB_byt, byB_byt, byB_byt, List.length_drop, bys_len, Nat.add_zero, hB]
  rw [runeN_E0 _ _ _ _ _ (by omega) (by omega)] at hR
  have hl := bys_len s
  obtain ⟨x1, hx1⟩ : ∃ x, x = inB (bys s) (p + 1) 128 191 := ⟨_, rfl⟩
  rw [← hx1] at W1
  obtain ⟨x2, hx2⟩ : ∃ x, x = inB (bys s) (p + 2) 128 191 := ⟨_, rfl⟩
  rw [← hx2] at W2
  obtain ⟨x3, hx3⟩ : ∃ x, x = inB (bys s) (p + 3) 128 191 := ⟨_, rfl⟩
  rw [← hx3] at W3
  obtain ⟨x4, hx4⟩ : ∃ x, x = inB (bys s) (p + 1) 160 191 := ⟨_, rfl⟩
  rw [← hx4] at W4
  have hV : runeAt s (p : Int) = (if x4 = true ∧ x2 = true then 3 else 0 : Nat) := by
    rw [hR]
    unfold inB at hx4
    unfold inB at hx2
    have q : (x4 = true ∧ x2 = true) ↔ (((p + 1) < (bys s).length ∧ 160 ≤ byt (bys s) (p + 1) ∧ byt (bys s) (p + 1) ≤ 191) ∧ ((p + 2) < (bys s).length ∧ 128 ≤ byt (bys s) (p + 2) ∧ byt (bys s) (p + 2) ≤ 191)) := by rw [hx4, hx2]; simp only [decide_eq_true_eq]
    by_cases hq : x4 = true ∧ x2 = true
    · have := q.1 hq
      rw [if_pos hq, if_neg (by omega)]
    · have : ¬ (((p + 1) < (bys s).length ∧ 160 ≤ byt (bys s) (p + 1) ∧ byt (bys s) (p + 1) ≤ 191) ∧ ((p + 2) < (bys s).length ∧ 128 ≤ byt (bys s) (p + 2) ∧ byt (bys s) (p + 2) ≤ 191)) := fun h => hq (q.2 h)
      rw [if_neg hq, if_pos (by omega)]
  rw [hV]
  clear hR hV hl hx1 hx2 hx3 hx4
  clear hB hc
  cases x4
  · rw [if_neg (by simp)]
    go_enter Tryd.func17, Tryd.ntmps17
    go_wp2_with fail
    refine (W1.out _).mono ?_
    rintro e w1 ⟨rfl, rfl⟩
    go_wp2_with fail
    refine (W2.out _).mono ?_
    rintro e w2 ⟨rfl, rfl⟩
    go_wp2_with fail
    refine (W3.out _).mono ?_
    rintro e w3 ⟨rfl, rfl⟩
    go_wp2_with fail
    refine (W4.out _).mono ?_
    rintro e w4 ⟨rfl, rfl⟩
    go_wp2
    go_ret
    exact ⟨rfl, rfl⟩
  · skip
    cases x2
    · rw [if_neg (by simp)]
      go_enter Tryd.func17, Tryd.ntmps17
      go_wp2_with fail
      refine (W1.out _).mono ?_
      rintro e w1 ⟨rfl, rfl⟩
      go_wp2_with fail
      refine (W2.out _).mono ?_
      rintro e w2 ⟨rfl, rfl⟩
      go_wp2_with fail
      refine (W3.out _).mono ?_
      rintro e w3 ⟨rfl, rfl⟩
      go_wp2_with fail
      refine (W4.out _).mono ?_
      rintro e w4 ⟨rfl, rfl⟩
      go_wp2
      go_ret
      exact ⟨rfl, rfl⟩
    · skip
      rw [if_pos (by simp)]
      go_enter Tryd.func17, Tryd.ntmps17
      go_wp2_with fail
      refine (W1.out _).mono ?_
      rintro e w1 ⟨rfl, rfl⟩
      go_wp2_with fail
      refine (W2.out _).mono ?_
      rintro e w2 ⟨rfl, rfl⟩
      go_wp2_with fail
      refine (W3.out _).mono ?_
      rintro e w3 ⟨rfl, rfl⟩
      go_wp2_with fail
      refine (W4.out _).mono ?_
      rintro e w4 ⟨rfl, rfl⟩
      go_wp2
      go_ret
      exact ⟨rfl, rfl⟩

set_option maxRecDepth 100000 in
set_option maxHeartbeats 2000000 in
theorem rr_E1a (s : ByteArray) (p B : Nat) (w : World) (hs : s.size ≤ 140737488355328) (hp : p < s.size) (hB : byt (bys s) p = B) (hc : 225 ≤ B ∧ B ≤ 236) : Calls Tryd.prog 17 #[.string s, .int .i64 (p : Int)] w fun e w' => e = .returned (.int .i64 ((runeAt s (p : Int) : Nat) : Int)) ∧ w = w' := by
  have hp' : (p : Int) < (s.size : Int) := by omega
  have hg : ∀ h : p < s.size, s[p].toNat = B := fun h => (byt_get s p h).trans hB
  have hb2 : B < 256 := by rw [← hB]; exact byt_lt _ _
  have W1 : Hid (∀ X, Calls Tryd.prog 31 #[.string s, .int .i64 ((p : Int) + 1), .int .i64 128, .int .i64 191] X fun e w' => e = .returned (.bool (inB (bys s) (p + 1) 128 191)) ∧ X = w') := fun X => by have := within_any s (p + 1) 128 191 X; simpa using this
  have W2 : Hid (∀ X, Calls Tryd.prog 31 #[.string s, .int .i64 ((p : Int) + 2), .int .i64 128, .int .i64 191] X fun e w' => e = .returned (.bool (inB (bys s) (p + 2) 128 191)) ∧ X = w') := fun X => by have := within_any s (p + 2) 128 191 X; simpa using this
  have W3 : Hid (∀ X, Calls Tryd.prog 31 #[.string s, .int .i64 ((p : Int) + 3), .int .i64 128, .int .i64 191] X fun e w' => e = .returned (.bool (inB (bys s) (p + 3) 128 191)) ∧ X = w') := fun X => by have := within_any s (p + 3) 128 191 X; simpa using this
  have ta : ¬ (B : Int) < 128 := by omega
  have tb : 194 ≤ (B : Int) := by omega
  have tc : ¬ (B : Int) ≤ 223 := by omega
  have td : ¬ (B : Int) = 224 := by omega
  have te : 225 ≤ (B : Int) := by omega
  have tf : (B : Int) ≤ 236 := by omega
  have tg : ¬ (B : Int) = 238 := by omega
  have th : ¬ (B : Int) = 239 := by omega
  have ti : ¬ (B : Int) = 237 := by omega
  have tj : ¬ (B : Int) = 240 := by omega
  have tk : ¬ 241 ≤ (B : Int) := by omega
  have tm : ¬ (B : Int) = 244 := by omega
  have hR : runeAt s (p : Int) = runeN (s.size - p) B (byt (bys s) (p + 1)) (byt (bys s) (p + 2)) (byt (bys s) (p + 3)) := by
    unfold runeAt
    rw [if_neg (by omega)]
    show runeL ((bys s).drop p) = _
    unfold runeL
    rw [byB_drop, byB_drop, byB_drop, byB_drop, byB_byt, byB_byt, byB_byt, byB_byt, List.length_drop, bys_len, Nat.add_zero, hB]
  rw [runeN_E1 _ _ _ _ _ (by omega) (by omega)] at hR
  have hl := bys_len s
  obtain ⟨x1, hx1⟩ : ∃ x, x = inB (bys s) (p + 1) 128 191 := ⟨_, rfl⟩
  rw [← hx1] at W1
  obtain ⟨x2, hx2⟩ : ∃ x, x = inB (bys s) (p + 2) 128 191 := ⟨_, rfl⟩
  rw [← hx2] at W2
  obtain ⟨x3, hx3⟩ : ∃ x, x = inB (bys s) (p + 3) 128 191 := ⟨_, rfl⟩
  rw [← hx3] at W3
  have hV : runeAt s (p : Int) = (if x1 = true ∧ x2 = true then 3 else 0 : Nat) := by
    rw [hR]
    unfold inB at hx1
    unfold inB at hx2
    have q : (x1 = true ∧ x2 = true) ↔ (((p + 1) < (bys s).length ∧ 128 ≤ byt (bys s) (p + 1) ∧ byt (bys s) (p + 1) ≤ 191) ∧ ((p + 2) < (bys s).length ∧ 128 ≤ byt (bys s) (p + 2) ∧ byt (bys s) (p + 2) ≤ 191)) := by rw [hx1, hx2]; simp only [decide_eq_true_eq]
    by_cases hq : x1 = true ∧ x2 = true
    · have := q.1 hq
      rw [if_pos hq, if_neg (by omega)]
    · have : ¬ (((p + 1) < (bys s).length ∧ 128 ≤ byt (bys s) (p + 1) ∧ byt (bys s) (p + 1) ≤ 191) ∧ ((p + 2) < (bys s).length ∧ 128 ≤ byt (bys s) (p + 2) ∧ byt (bys s) (p + 2) ≤ 191)) := fun h => hq (q.2 h)
      rw [if_neg hq, if_pos (by omega)]
  rw [hV]
  clear hR hV hl hx1 hx2 hx3
  clear hB hc
  cases x1
  · rw [if_neg (by simp)]
    go_enter Tryd.func17, Tryd.ntmps17
    go_wp2_with fail
    refine (W1.out _).mono ?_
    rintro e w1 ⟨rfl, rfl⟩
    go_wp2_with fail
    refine (W2.out _).mono ?_
    rintro e w2 ⟨rfl, rfl⟩
    go_wp2_with fail
    refine (W3.out _).mono ?_
    rintro e w3 ⟨rfl, rfl⟩
    go_wp2
    go_ret
    exact ⟨rfl, rfl⟩
  · skip
    cases x2
    · rw [if_neg (by simp)]
      go_enter Tryd.func17, Tryd.ntmps17
      go_wp2_with fail
      refine (W1.out _).mono ?_
      rintro e w1 ⟨rfl, rfl⟩
      go_wp2_with fail
      refine (W2.out _).mono ?_
      rintro e w2 ⟨rfl, rfl⟩
      go_wp2_with fail
      refine (W3.out _).mono ?_
      rintro e w3 ⟨rfl, rfl⟩
      go_wp2
      go_ret
      exact ⟨rfl, rfl⟩
    · skip
      rw [if_pos (by simp)]
      go_enter Tryd.func17, Tryd.ntmps17
      go_wp2_with fail
      refine (W1.out _).mono ?_
      rintro e w1 ⟨rfl, rfl⟩
      go_wp2_with fail
      refine (W2.out _).mono ?_
      rintro e w2 ⟨rfl, rfl⟩
      go_wp2_with fail
      refine (W3.out _).mono ?_
      rintro e w3 ⟨rfl, rfl⟩
      go_wp2
      go_ret
      exact ⟨rfl, rfl⟩

set_option maxRecDepth 100000 in
set_option maxHeartbeats 2000000 in
theorem rr_E1b (s : ByteArray) (p B : Nat) (w : World) (hs : s.size ≤ 140737488355328) (hp : p < s.size) (hB : byt (bys s) p = B) (hc : B = 238) : Calls Tryd.prog 17 #[.string s, .int .i64 (p : Int)] w fun e w' => e = .returned (.int .i64 ((runeAt s (p : Int) : Nat) : Int)) ∧ w = w' := by
  have hp' : (p : Int) < (s.size : Int) := by omega
  have hg : ∀ h : p < s.size, s[p].toNat = B := fun h => (byt_get s p h).trans hB
  have hb2 : B < 256 := by rw [← hB]; exact byt_lt _ _
  have W1 : Hid (∀ X, Calls Tryd.prog 31 #[.string s, .int .i64 ((p : Int) + 1), .int .i64 128, .int .i64 191] X fun e w' => e = .returned (.bool (inB (bys s) (p + 1) 128 191)) ∧ X = w') := fun X => by have := within_any s (p + 1) 128 191 X; simpa using this
  have W2 : Hid (∀ X, Calls Tryd.prog 31 #[.string s, .int .i64 ((p : Int) + 2), .int .i64 128, .int .i64 191] X fun e w' => e = .returned (.bool (inB (bys s) (p + 2) 128 191)) ∧ X = w') := fun X => by have := within_any s (p + 2) 128 191 X; simpa using this
  have W3 : Hid (∀ X, Calls Tryd.prog 31 #[.string s, .int .i64 ((p : Int) + 3), .int .i64 128, .int .i64 191] X fun e w' => e = .returned (.bool (inB (bys s) (p + 3) 128 191)) ∧ X = w') := fun X => by have := within_any s (p + 3) 128 191 X; simpa using this
  have ta : ¬ (B : Int) < 128 := by omega
  have tb : 194 ≤ (B : Int) := by omega
  have tc : ¬ (B : Int) ≤ 223 := by omega
  have td : ¬ (B : Int) = 224 := by omega
  have te : 225 ≤ (B : Int) := by omega
  have tf : ¬ (B : Int) ≤ 236 := by omega
  have tg : (B : Int) = 238 := by omega
  have ti : ¬ (B : Int) = 237 := by omega
  have tj : ¬ (B : Int) = 240 := by omega
  have tk : ¬ 241 ≤ (B : Int) := by omega
  have tm : ¬ (B : Int) = 244 := by omega
  have hR : runeAt s (p : Int) = runeN (s.size - p) B (byt (bys s) (p + 1)) (byt (bys s) (p + 2)) (byt (bys s) (p + 3)) := by
    unfold runeAt
    rw [if_neg (by omega)]
    show runeL ((bys s).drop p) = _
    unfold runeL
    rw [byB_drop, byB_drop, byB_drop, byB_drop, byB_byt, byB_byt, byB_byt, byB_byt, List.length_drop, bys_len, Nat.add_zero, hB]
  rw [runeN_E1 _ _ _ _ _ (by omega) (by omega)] at hR
  have hl := bys_len s
  obtain ⟨x1, hx1⟩ : ∃ x, x = inB (bys s) (p + 1) 128 191 := ⟨_, rfl⟩
  rw [← hx1] at W1
  obtain ⟨x2, hx2⟩ : ∃ x, x = inB (bys s) (p + 2) 128 191 := ⟨_, rfl⟩
  rw [← hx2] at W2
  obtain ⟨x3, hx3⟩ : ∃ x, x = inB (bys s) (p + 3) 128 191 := ⟨_, rfl⟩
  rw [← hx3] at W3
  have hV : runeAt s (p : Int) = (if x1 = true ∧ x2 = true then 3 else 0 : Nat) := by
    rw [hR]
    unfold inB at hx1
    unfold inB at hx2
    have q : (x1 = true ∧ x2 = true) ↔ (((p + 1) < (bys s).length ∧ 128 ≤ byt (bys s) (p + 1) ∧ byt (bys s) (p + 1) ≤ 191) ∧ ((p + 2) < (bys s).length ∧ 128 ≤ byt (bys s) (p + 2) ∧ byt (bys s) (p + 2) ≤ 191)) := by rw [hx1, hx2]; simp only [decide_eq_true_eq]
    by_cases hq : x1 = true ∧ x2 = true
    · have := q.1 hq
      rw [if_pos hq, if_neg (by omega)]
    · have : ¬ (((p + 1) < (bys s).length ∧ 128 ≤ byt (bys s) (p + 1) ∧ byt (bys s) (p + 1) ≤ 191) ∧ ((p + 2) < (bys s).length ∧ 128 ≤ byt (bys s) (p + 2) ∧ byt (bys s) (p + 2) ≤ 191)) := fun h => hq (q.2 h)
      rw [if_neg hq, if_pos (by omega)]
  rw [hV]
  clear hR hV hl hx1 hx2 hx3
  clear hB hc
  cases x1
  · rw [if_neg (by simp)]
    go_enter Tryd.func17, Tryd.ntmps17
    go_wp2_with fail
    refine (W1.out _).mono ?_
    rintro e w1 ⟨rfl, rfl⟩
    go_wp2_with fail
    refine (W2.out _).mono ?_
    rintro e w2 ⟨rfl, rfl⟩
    go_wp2_with fail
    refine (W3.out _).mono ?_
    rintro e w3 ⟨rfl, rfl⟩
    go_wp2
    go_ret
    exact ⟨rfl, rfl⟩
  · skip
    cases x2
    · rw [if_neg (by simp)]
      go_enter Tryd.func17, Tryd.ntmps17
      go_wp2_with fail
      refine (W1.out _).mono ?_
      rintro e w1 ⟨rfl, rfl⟩
      go_wp2_with fail
      refine (W2.out _).mono ?_
      rintro e w2 ⟨rfl, rfl⟩
      go_wp2_with fail
      refine (W3.out _).mono ?_
      rintro e w3 ⟨rfl, rfl⟩
      go_wp2
      go_ret
      exact ⟨rfl, rfl⟩
    · skip
      rw [if_pos (by simp)]
      go_enter Tryd.func17, Tryd.ntmps17
      go_wp2_with fail
      refine (W1.out _).mono ?_
      rintro e w1 ⟨rfl, rfl⟩
      go_wp2_with fail
      refine (W2.out _).mono ?_
      rintro e w2 ⟨rfl, rfl⟩
      go_wp2_with fail
      refine (W3.out _).mono ?_
      rintro e w3 ⟨rfl, rfl⟩
      go_wp2
      go_ret
      exact ⟨rfl, rfl⟩

set_option maxRecDepth 100000 in
set_option maxHeartbeats 2000000 in
theorem rr_E1c (s : ByteArray) (p B : Nat) (w : World) (hs : s.size ≤ 140737488355328) (hp : p < s.size) (hB : byt (bys s) p = B) (hc : B = 239) : Calls Tryd.prog 17 #[.string s, .int .i64 (p : Int)] w fun e w' => e = .returned (.int .i64 ((runeAt s (p : Int) : Nat) : Int)) ∧ w = w' := by
  have hp' : (p : Int) < (s.size : Int) := by omega
  have hg : ∀ h : p < s.size, s[p].toNat = B := fun h => (byt_get s p h).trans hB
  have hb2 : B < 256 := by rw [← hB]; exact byt_lt _ _
  have W1 : Hid (∀ X, Calls Tryd.prog 31 #[.string s, .int .i64 ((p : Int) + 1), .int .i64 128, .int .i64 191] X fun e w' => e = .returned (.bool (inB (bys s) (p + 1) 128 191)) ∧ X = w') := fun X => by have := within_any s (p + 1) 128 191 X; simpa using this
  have W2 : Hid (∀ X, Calls Tryd.prog 31 #[.string s, .int .i64 ((p : Int) + 2), .int .i64 128, .int .i64 191] X fun e w' => e = .returned (.bool (inB (bys s) (p + 2) 128 191)) ∧ X = w') := fun X => by have := within_any s (p + 2) 128 191 X; simpa using this
  have W3 : Hid (∀ X, Calls Tryd.prog 31 #[.string s, .int .i64 ((p : Int) + 3), .int .i64 128, .int .i64 191] X fun e w' => e = .returned (.bool (inB (bys s) (p + 3) 128 191)) ∧ X = w') := fun X => by have := within_any s (p + 3) 128 191 X; simpa using this
  have ta : ¬ (B : Int) < 128 := by omega
  have tb : 194 ≤ (B : Int) := by omega
  have tc : ¬ (B : Int) ≤ 223 := by omega
  have td : ¬ (B : Int) = 224 := by omega
  have te : 225 ≤ (B : Int) := by omega
  have tf : ¬ (B : Int) ≤ 236 := by omega
  have tg : ¬ (B : Int) = 238 := by omega
  have th : (B : Int) = 239 := by omega
  have ti : ¬ (B : Int) = 237 := by omega
  have tj : ¬ (B : Int) = 240 := by omega
  have tk : ¬ 241 ≤ (B : Int) := by omega
  have tm : ¬ (B : Int) = 244 := by omega
  have hR : runeAt s (p : Int) = runeN (s.size - p) B (byt (bys s) (p + 1)) (byt (bys s) (p + 2)) (byt (bys s) (p + 3)) := by
    unfold runeAt
    rw [if_neg (by omega)]
    show runeL ((bys s).drop p) = _
    unfold runeL
    rw [byB_drop, byB_drop, byB_drop, byB_drop, byB_byt, byB_byt, byB_byt, byB_byt, List.length_drop, bys_len, Nat.add_zero, hB]
  rw [runeN_E1 _ _ _ _ _ (by omega) (by omega)] at hR
  have hl := bys_len s
  obtain ⟨x1, hx1⟩ : ∃ x, x = inB (bys s) (p + 1) 128 191 := ⟨_, rfl⟩
  rw [← hx1] at W1
  obtain ⟨x2, hx2⟩ : ∃ x, x = inB (bys s) (p + 2) 128 191 := ⟨_, rfl⟩
  rw [← hx2] at W2
  obtain ⟨x3, hx3⟩ : ∃ x, x = inB (bys s) (p + 3) 128 191 := ⟨_, rfl⟩
  rw [← hx3] at W3
  have hV : runeAt s (p : Int) = (if x1 = true ∧ x2 = true then 3 else 0 : Nat) := by
    rw [hR]
    unfold inB at hx1
    unfold inB at hx2
    have q : (x1 = true ∧ x2 = true) ↔ (((p + 1) < (bys s).length ∧ 128 ≤ byt (bys s) (p + 1) ∧ byt (bys s) (p + 1) ≤ 191) ∧ ((p + 2) < (bys s).length ∧ 128 ≤ byt (bys s) (p + 2) ∧ byt (bys s) (p + 2) ≤ 191)) := by rw [hx1, hx2]; simp only [decide_eq_true_eq]
    by_cases hq : x1 = true ∧ x2 = true
    · have := q.1 hq
      rw [if_pos hq, if_neg (by omega)]
    · have : ¬ (((p + 1) < (bys s).length ∧ 128 ≤ byt (bys s) (p + 1) ∧ byt (bys s) (p + 1) ≤ 191) ∧ ((p + 2) < (bys s).length ∧ 128 ≤ byt (bys s) (p + 2) ∧ byt (bys s) (p + 2) ≤ 191)) := fun h => hq (q.2 h)
      rw [if_neg hq, if_pos (by omega)]
  rw [hV]
  clear hR hV hl hx1 hx2 hx3
  clear hB hc
  cases x1
  · rw [if_neg (by simp)]
    go_enter Tryd.func17, Tryd.ntmps17
    go_wp2_with fail
    refine (W1.out _).mono ?_
    rintro e w1 ⟨rfl, rfl⟩
    go_wp2_with fail
    refine (W2.out _).mono ?_
    rintro e w2 ⟨rfl, rfl⟩
    go_wp2_with fail
    refine (W3.out _).mono ?_
    rintro e w3 ⟨rfl, rfl⟩
    go_wp2
    go_ret
    exact ⟨rfl, rfl⟩
  · skip
    cases x2
    · rw [if_neg (by simp)]
      go_enter Tryd.func17, Tryd.ntmps17
      go_wp2_with fail
      refine (W1.out _).mono ?_
      rintro e w1 ⟨rfl, rfl⟩
      go_wp2_with fail
      refine (W2.out _).mono ?_
      rintro e w2 ⟨rfl, rfl⟩
      go_wp2_with fail
      refine (W3.out _).mono ?_
      rintro e w3 ⟨rfl, rfl⟩
      go_wp2
      go_ret
      exact ⟨rfl, rfl⟩
    · skip
      rw [if_pos (by simp)]
      go_enter Tryd.func17, Tryd.ntmps17
      go_wp2_with fail
      refine (W1.out _).mono ?_
      rintro e w1 ⟨rfl, rfl⟩
      go_wp2_with fail
      refine (W2.out _).mono ?_
      rintro e w2 ⟨rfl, rfl⟩
      go_wp2_with fail
      refine (W3.out _).mono ?_
      rintro e w3 ⟨rfl, rfl⟩
      go_wp2
      go_ret
      exact ⟨rfl, rfl⟩

end Go.Proofs.YthknmkebdlnahaaDoor

namespace Go.Proofs.YthknmkebdlnahaaDoor
open Go.RowKit Go.Lib

set_option maxRecDepth 100000 in
set_option maxHeartbeats 2000000 in
theorem rr_ED (s : ByteArray) (p B : Nat) (w : World) (hs : s.size ≤ 140737488355328) (hp : p < s.size) (hB : byt (bys s) p = B) (hc : B = 237) : Calls Tryd.prog 17 #[.string s, .int .i64 (p : Int)] w fun e w' => e = .returned (.int .i64 ((runeAt s (p : Int) : Nat) : Int)) ∧ w = w' := by
  have hp' : (p : Int) < (s.size : Int) := by omega
  have hg : ∀ h : p < s.size, s[p].toNat = B := fun h => (byt_get s p h).trans hB
  have hb2 : B < 256 := by rw [← hB]; exact byt_lt _ _
  have W1 : Hid (∀ X, Calls Tryd.prog 31 #[.string s, .int .i64 ((p : Int) + 1), .int .i64 128, .int .i64 191] X fun e w' => e = .returned (.bool (inB (bys s) (p + 1) 128 191)) ∧ X = w') := fun X => by have := within_any s (p + 1) 128 191 X; simpa using this
  have W2 : Hid (∀ X, Calls Tryd.prog 31 #[.string s, .int .i64 ((p : Int) + 2), .int .i64 128, .int .i64 191] X fun e w' => e = .returned (.bool (inB (bys s) (p + 2) 128 191)) ∧ X = w') := fun X => by have := within_any s (p + 2) 128 191 X; simpa using this
  have W3 : Hid (∀ X, Calls Tryd.prog 31 #[.string s, .int .i64 ((p : Int) + 3), .int .i64 128, .int .i64 191] X fun e w' => e = .returned (.bool (inB (bys s) (p + 3) 128 191)) ∧ X = w') := fun X => by have := within_any s (p + 3) 128 191 X; simpa using this
  have W4 : Hid (∀ X, Calls Tryd.prog 31 #[.string s, .int .i64 ((p : Int) + 1), .int .i64 128, .int .i64 159] X fun e w' => e = .returned (.bool (inB (bys s) (p + 1) 128 159)) ∧ X = w') := fun X => by have := within_any s (p + 1) 128 159 X; simpa using this
  have ta : ¬ (B : Int) < 128 := by omega
  have tb : 194 ≤ (B : Int) := by omega
  have tc : ¬ (B : Int) ≤ 223 := by omega
  have td : ¬ (B : Int) = 224 := by omega
  have te : 225 ≤ (B : Int) := by omega
  have tf : ¬ (B : Int) ≤ 236 := by omega
  have tg : ¬ (B : Int) = 238 := by omega
  have th : ¬ (B : Int) = 239 := by omega
  have ti : (B : Int) = 237 := by omega
  have tj : ¬ (B : Int) = 240 := by omega
  have tk : ¬ 241 ≤ (B : Int) := by omega
  have tm : ¬ (B : Int) = 244 := by omega
  have hR : runeAt s (p : Int) = runeN (s.size - p) B (byt (bys s) (p + 1)) (byt (bys s) (p + 2)) (byt (bys s) (p + 3)) := by
    unfold runeAt
    rw [if_neg (by omega)]
    show runeL ((bys s).drop p) = _
    unfold runeL
    rw [byB_drop, byB_drop, byB_drop, byB_drop, byB_byt, byB_byt, byB_byt, byB_byt, List.length_drop, bys_len, Nat.add_zero, hB]
  rw [runeN_ED _ _ _ _ _ (by omega) (by omega)] at hR
  have hl := bys_len s
  obtain ⟨x1, hx1⟩ : ∃ x, x = inB (bys s) (p + 1) 128 191 := ⟨_, rfl⟩
  rw [← hx1] at W1
  obtain ⟨x2, hx2⟩ : ∃ x, x = inB (bys s) (p + 2) 128 191 := ⟨_, rfl⟩
  rw [← hx2] at W2
  obtain ⟨x3, hx3⟩ : ∃ x, x = inB (bys s) (p + 3) 128 191 := ⟨_, rfl⟩
  rw [← hx3] at W3
  obtain ⟨x4, hx4⟩ : ∃ x, x = inB (bys s) (p + 1) 128 159 := ⟨_, rfl⟩
  rw [← hx4] at W4
  have hV : runeAt s (p : Int) = (if x4 = true ∧ x2 = true then 3 else 0 : Nat) := by
    rw [hR]
    unfold inB at hx4
    unfold inB at hx2
    have q : (x4 = true ∧ x2 = true) ↔ (((p + 1) < (bys s).length ∧ 128 ≤ byt (bys s) (p + 1) ∧ byt (bys s) (p + 1) ≤ 159) ∧ ((p + 2) < (bys s).length ∧ 128 ≤ byt (bys s) (p + 2) ∧ byt (bys s) (p + 2) ≤ 191)) := by rw [hx4, hx2]; simp only [decide_eq_true_eq]
    by_cases hq : x4 = true ∧ x2 = true
    · have := q.1 hq
      rw [if_pos hq, if_neg (by omega)]
    · have : ¬ (((p + 1) < (bys s).length ∧ 128 ≤ byt (bys s) (p + 1) ∧ byt (bys s) (p + 1) ≤ 159) ∧ ((p + 2) < (bys s).length ∧ 128 ≤ byt (bys s) (p + 2) ∧ byt (bys s) (p + 2) ≤ 191)) := fun h => hq (q.2 h)
      rw [if_neg hq, if_pos (by omega)]
  rw [hV]
  clear hR hV hl hx1 hx2 hx3 hx4
  clear hB hc
  cases x4
  · rw [if_neg (by simp)]
    go_enter Tryd.func17, Tryd.ntmps17
    go_wp2_with fail
    refine (W1.out _).mono ?_
    rintro e w1 ⟨rfl, rfl⟩
    go_wp2_with fail
    refine (W2.out _).mono ?_
    rintro e w2 ⟨rfl, rfl⟩
    go_wp2_with fail
    refine (W3.out _).mono ?_
    rintro e w3 ⟨rfl, rfl⟩
    go_wp2_with fail
    refine (W4.out _).mono ?_
    rintro e w4 ⟨rfl, rfl⟩
    go_wp2
    go_ret
    exact ⟨rfl, rfl⟩
  · skip
    cases x2
    · rw [if_neg (by simp)]
      go_enter Tryd.func17, Tryd.ntmps17
      go_wp2_with fail
      refine (W1.out _).mono ?_
      rintro e w1 ⟨rfl, rfl⟩
      go_wp2_with fail
      refine (W2.out _).mono ?_
      rintro e w2 ⟨rfl, rfl⟩
      go_wp2_with fail
      refine (W3.out _).mono ?_
      rintro e w3 ⟨rfl, rfl⟩
      go_wp2_with fail
      refine (W4.out _).mono ?_
      rintro e w4 ⟨rfl, rfl⟩
      go_wp2
      go_ret
      exact ⟨rfl, rfl⟩
    · skip
      rw [if_pos (by simp)]
      go_enter Tryd.func17, Tryd.ntmps17
      go_wp2_with fail
      refine (W1.out _).mono ?_
      rintro e w1 ⟨rfl, rfl⟩
      go_wp2_with fail
      refine (W2.out _).mono ?_
      rintro e w2 ⟨rfl, rfl⟩
      go_wp2_with fail
      refine (W3.out _).mono ?_
      rintro e w3 ⟨rfl, rfl⟩
      go_wp2_with fail
      refine (W4.out _).mono ?_
      rintro e w4 ⟨rfl, rfl⟩
      go_wp2
      go_ret
      exact ⟨rfl, rfl⟩

set_option maxRecDepth 100000 in
set_option maxHeartbeats 2000000 in
theorem rr_F0 (s : ByteArray) (p B : Nat) (w : World) (hs : s.size ≤ 140737488355328) (hp : p < s.size) (hB : byt (bys s) p = B) (hc : B = 240) : Calls Tryd.prog 17 #[.string s, .int .i64 (p : Int)] w fun e w' => e = .returned (.int .i64 ((runeAt s (p : Int) : Nat) : Int)) ∧ w = w' := by
  have hp' : (p : Int) < (s.size : Int) := by omega
  have hg : ∀ h : p < s.size, s[p].toNat = B := fun h => (byt_get s p h).trans hB
  have hb2 : B < 256 := by rw [← hB]; exact byt_lt _ _
  have W1 : Hid (∀ X, Calls Tryd.prog 31 #[.string s, .int .i64 ((p : Int) + 1), .int .i64 128, .int .i64 191] X fun e w' => e = .returned (.bool (inB (bys s) (p + 1) 128 191)) ∧ X = w') := fun X => by have := within_any s (p + 1) 128 191 X; simpa using this
  have W2 : Hid (∀ X, Calls Tryd.prog 31 #[.string s, .int .i64 ((p : Int) + 2), .int .i64 128, .int .i64 191] X fun e w' => e = .returned (.bool (inB (bys s) (p + 2) 128 191)) ∧ X = w') := fun X => by have := within_any s (p + 2) 128 191 X; simpa using this
  have W3 : Hid (∀ X, Calls Tryd.prog 31 #[.string s, .int .i64 ((p : Int) + 3), .int .i64 128, .int .i64 191] X fun e w' => e = .returned (.bool (inB (bys s) (p + 3) 128 191)) ∧ X = w') := fun X => by have := within_any s (p + 3) 128 191 X; simpa using this
  have W4 : Hid (∀ X, Calls Tryd.prog 31 #[.string s, .int .i64 ((p : Int) + 1), .int .i64 144, .int .i64 191] X fun e w' => e = .returned (.bool (inB (bys s) (p + 1) 144 191)) ∧ X = w') := fun X => by have := within_any s (p + 1) 144 191 X; simpa using this
  have ta : ¬ (B : Int) < 128 := by omega
  have tb : 194 ≤ (B : Int) := by omega
  have tc : ¬ (B : Int) ≤ 223 := by omega
  have td : ¬ (B : Int) = 224 := by omega
  have te : 225 ≤ (B : Int) := by omega
  have tf : ¬ (B : Int) ≤ 236 := by omega
  have tg : ¬ (B : Int) = 238 := by omega
  have th : ¬ (B : Int) = 239 := by omega
  have ti : ¬ (B : Int) = 237 := by omega
  have tj : (B : Int) = 240 := by omega
  have tk : ¬ 241 ≤ (B : Int) := by omega
  have tm : ¬ (B : Int) = 244 := by omega
  have hR : runeAt s (p : Int) = runeN (s.size - p) B (byt (bys s) (p + 1)) (byt (bys s) (p + 2)) (byt (bys s) (p + 3)) := by
    unfold runeAt
    rw [if_neg (by omega)]
    show runeL ((bys s).drop p) = _
    unfold runeL
    rw [byB_drop, byB_drop, byB_drop, byB_drop, byB_byt, byB_byt, byB_byt, byB_byt, List.length_drop, bys_len, Nat.add_zero, hB]
  rw [runeN_F0 _ _ _ _ _ (by omega) (by omega)] at hR
  have hl := bys_len s
  obtain ⟨x1, hx1⟩ : ∃ x, x = inB (bys s) (p + 1) 128 191 := ⟨_, rfl⟩
  rw [← hx1] at W1
  obtain ⟨x2, hx2⟩ : ∃ x, x = inB (bys s) (p + 2) 128 191 := ⟨_, rfl⟩
  rw [← hx2] at W2
  obtain ⟨x3, hx3⟩ : ∃ x, x = inB (bys s) (p + 3) 128 191 := ⟨_, rfl⟩
  rw [← hx3] at W3
  obtain ⟨x4, hx4⟩ : ∃ x, x = inB (bys s) (p + 1) 144 191 := ⟨_, rfl⟩
  rw [← hx4] at W4
  have hV : runeAt s (p : Int) = (if x4 = true ∧ x2 = true ∧ x3 = true then 4 else 0 : Nat) := by
    rw [hR]
    unfold inB at hx4
    unfold inB at hx2
    unfold inB at hx3
    have q : (x4 = true ∧ x2 = true ∧ x3 = true) ↔ (((p + 1) < (bys s).length ∧ 144 ≤ byt (bys s) (p + 1) ∧ byt (bys s) (p + 1) ≤ 191) ∧ ((p + 2) < (bys s).length ∧ 128 ≤ byt (bys s) (p + 2) ∧ byt (bys s) (p + 2) ≤ 191) ∧ ((p + 3) < (bys s).length ∧ 128 ≤ byt (bys s) (p + 3) ∧ byt (bys s) (p + 3) ≤ 191)) := by rw [hx4, hx2, hx3]; simp only [decide_eq_true_eq]
    by_cases hq : x4 = true ∧ x2 = true ∧ x3 = true
    · have := q.1 hq
      rw [if_pos hq, if_neg (by omega)]
    · have : ¬ (((p + 1) < (bys s).length ∧ 144 ≤ byt (bys s) (p + 1) ∧ byt (bys s) (p + 1) ≤ 191) ∧ ((p + 2) < (bys s).length ∧ 128 ≤ byt (bys s) (p + 2) ∧ byt (bys s) (p + 2) ≤ 191) ∧ ((p + 3) < (bys s).length ∧ 128 ≤ byt (bys s) (p + 3) ∧ byt (bys s) (p + 3) ≤ 191)) := fun h => hq (q.2 h)
      rw [if_neg hq, if_pos (by omega)]
  rw [hV]
  clear hR hV hl hx1 hx2 hx3 hx4
  clear hB hc
  cases x4
  · rw [if_neg (by simp)]
    go_enter Tryd.func17, Tryd.ntmps17
    go_wp2_with fail
    refine (W1.out _).mono ?_
    rintro e w1 ⟨rfl, rfl⟩
    go_wp2_with fail
    refine (W2.out _).mono ?_
    rintro e w2 ⟨rfl, rfl⟩
    go_wp2_with fail
    refine (W3.out _).mono ?_
    rintro e w3 ⟨rfl, rfl⟩
    go_wp2_with fail
    refine (W4.out _).mono ?_
    rintro e w4 ⟨rfl, rfl⟩
    go_wp2
    go_ret
    exact ⟨rfl, rfl⟩
  · skip
    cases x2
    · rw [if_neg (by simp)]
      go_enter Tryd.func17, Tryd.ntmps17
      go_wp2_with fail
      refine (W1.out _).mono ?_
      rintro e w1 ⟨rfl, rfl⟩
      go_wp2_with fail
      refine (W2.out _).mono ?_
      rintro e w2 ⟨rfl, rfl⟩
      go_wp2_with fail
      refine (W3.out _).mono ?_
      rintro e w3 ⟨rfl, rfl⟩
      go_wp2_with fail
      refine (W4.out _).mono ?_
      rintro e w4 ⟨rfl, rfl⟩
      go_wp2
      go_ret
      exact ⟨rfl, rfl⟩
    · skip
      cases x3
      · rw [if_neg (by simp)]
        go_enter Tryd.func17, Tryd.ntmps17
        go_wp2_with fail
        refine (W1.out _).mono ?_
        rintro e w1 ⟨rfl, rfl⟩
        go_wp2_with fail
        refine (W2.out _).mono ?_
        rintro e w2 ⟨rfl, rfl⟩
        go_wp2_with fail
        refine (W3.out _).mono ?_
        rintro e w3 ⟨rfl, rfl⟩
        go_wp2_with fail
        refine (W4.out _).mono ?_
        rintro e w4 ⟨rfl, rfl⟩
        go_wp2
        go_ret
        exact ⟨rfl, rfl⟩
      · skip
        rw [if_pos (by simp)]
        go_enter Tryd.func17, Tryd.ntmps17
        go_wp2_with fail
        refine (W1.out _).mono ?_
        rintro e w1 ⟨rfl, rfl⟩
        go_wp2_with fail
        refine (W2.out _).mono ?_
        rintro e w2 ⟨rfl, rfl⟩
        go_wp2_with fail
        refine (W3.out _).mono ?_
        rintro e w3 ⟨rfl, rfl⟩
        go_wp2_with fail
        refine (W4.out _).mono ?_
        rintro e w4 ⟨rfl, rfl⟩
        go_wp2
        go_ret
        exact ⟨rfl, rfl⟩

end Go.Proofs.YthknmkebdlnahaaDoor
