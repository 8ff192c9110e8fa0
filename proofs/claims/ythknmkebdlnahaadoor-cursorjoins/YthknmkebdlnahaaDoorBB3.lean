/-
  What cursor's text and Text do.
  Lists of bytes in blocks of their own, out of a conversion or an append: an append to one; what a conversion makes.
  Texts and lists of bytes: conversions, there and back.
  What cursor's Put8, Put16, Put32 and PutText do.
  The calls whose answers the document fixes.
  CursorJoins.
  What the rows' list of package variables gives, and a world that holds them.
-/
import Derived.Test.YthknmkebdlnahaaDoorBB2
import Derived.ArgAppend
import Derived.Lib.ConvBytes
import Derived.Laws.BytesArg
import Derived.Test.YthknmkebdlnahaaDoorRows
import Derived.Lib.LaidU8
import Derived.Deep.DeepHandedRow
namespace Go.Proofs.YthknmkebdlnahaaDoor
open Go.RowKit Go.Shelf

def OffT (D : Nat) : Prop := 0 ≠ D ∧ 1 ≠ D

theorem lt_of_cell {w : World} {g i : Nat} {v : Value} (h : w.cell? ⟨g, i, none⟩ = some v) : g < w.heap.size := by
  by_cases hg : g < w.heap.size
  · exact hg
  · unfold World.cell? at h
    rw [Array.getElem?_eq_none (by show w.heap.size ≤ g; omega)] at h
    simp at h

theorem U8.lt {w : World} (h : U8 w) : 0 < w.heap.size ∧ 1 < w.heap.size := ⟨lt_of_cell (h.1 0 (by decide)), lt_of_cell (h.2 0 (by decide)).1⟩
theorem U8.off {w : World} (h : U8 w) {D : Nat} (hD : w.heap.size ≤ D) : OffT D := by
  have := h.lt
  exact ⟨by omega, by omega⟩
section
variable {w : World} {D : Nat} {s : ByteArray} {at_ e : Nat}

end

end Go.Proofs.YthknmkebdlnahaaDoor

namespace Go.Proofs.YthknmkebdlnahaaDoor
open Go.RowKit

end Go.Proofs.YthknmkebdlnahaaDoor

namespace Go.Proofs.YthknmkebdlnahaaDoor
open Go.RowKit

theorem strB_of (l : List UInt8) : strOfNums ((l.map UInt8.toNat).map fun (x : Nat) => (x : Int)) = ⟨l.toArray⟩ := by
  apply ByteArray.ext
  apply Array.toList_inj.1
  rw [strOfNums_data, List.map_map, List.map_map]
  show _ = l
  conv => rhs; rw [← List.map_id l]
  apply List.map_congr_left
  intro x _
  simp

theorem convB_at {X : World} {g o cap : Nat} {l : List UInt8} (h : ∀ i, i < l.length → X.cell? ⟨g, o + i, none⟩ = some (.int .u8 ((byt l i : Nat) : Int))) : (convert 34 9 (.slice (some ⟨g, o, none⟩) l.length cap)).run Tryd.prog X = .ok (.string ⟨l.toArray⟩) X := by
  have kc := run_convert_bytes_arg (P := Tryd.prog) X 34 5 Tryd.underlying34 Tryd.underlying5 g o l.length cap ((l.map UInt8.toNat).map fun (x : Nat) => (x : Int)) (by rw [List.length_map, List.length_map]) (fun i hi => by
    rw [h i hi]
    unfold byt
    simp [List.getD, hi]) 9 Tryd.underlying9
  rw [strB_of] at kc
  exact kc

end Go.Proofs.YthknmkebdlnahaaDoor

namespace Go.Proofs.YthknmkebdlnahaaDoor
open Go.RowKit

def bN (n : Int) (k : Nat) : UInt8 := UInt8.ofNat ((n / 2 ^ (8 * k)) % 256).toNat
theorem bN_nat (n : Int) (k : Nat) : (((bN n k).toNat : Nat) : Int) = (n / 2 ^ (8 * k)) % 256 := by
  unfold bN
  rw [UInt8.toNat_ofNat']
  have h1 := Int.emod_nonneg (n / 2 ^ (8 * k)) (show (256 : Int) ≠ 0 by decide)
  have h2 := Int.emod_lt_of_pos (n / 2 ^ (8 * k)) (show (0 : Int) < 256 by decide)
  omega

set_option maxHeartbeats 1000000 in
theorem Put8_any (n : Int) (w : World) : Calls Tryd.prog 10 #[.int .i64 n] w fun e w' => e = .returned (.string ⟨#[bN n 0]⟩) ∧ Below w.heap.size w w' := by
  have hb : n % 256 = (((bN n 0).toNat : Nat) : Int) := by rw [bN_nat]; simp
  have HCV : Hid ((convert 34 9 (.slice (some ⟨w.heap.size, 0, none⟩) 1 1)).run Tryd.prog (w.alloc (.cells #[.int .u8 (n % 256)] 5)) = .ok (.string ⟨#[bN n 0]⟩) (w.alloc (.cells #[.int .u8 (n % 256)] 5))) :=
    convB_at (l := [bN n 0]) (fun i hi => by
      obtain rfl : i = 0 := by simpa using hi
      have := (Blk.new w #[.int .u8 (n % 256)] 5).cell 0
      rw [Nat.add_zero, this, hb]
      rfl)
  have hcv := HCV.out
  clear HCV hb
  go_enter Tryd.func10, Tryd.ntmps10
  go_wp2
  go_ret
  exact ⟨rfl, (Below.refl _ _).alloc (Nat.le_refl _) _⟩

theorem bN_shift (n : Int) (j k : Nat) : bN (n / 2 ^ (8 * j)) k = bN n (j + k) := by
  unfold bN
  rw [Int.ediv_ediv_of_nonneg (by exact Int.le_of_lt (Int.pow_pos (by decide))), ← Int.pow_add, ← Nat.mul_add]

def put2 (n : Int) : ByteArray := ⟨#[bN n 1, bN n 0]⟩
def put4 (n : Int) : ByteArray := ⟨#[bN n 3, bN n 2, bN n 1, bN n 0]⟩

theorem cat2 (n : Int) : (⟨#[bN (n / 256) 0]⟩ : ByteArray) ++ ⟨#[bN n 0]⟩ = put2 n := by
  have := bN_shift n 1 0
  rw [show (2 : Int) ^ (8 * 1) = 256 by decide] at this
  rw [this]
  rfl
theorem cat4 (n : Int) : put2 (n / 65536) ++ put2 n = put4 n := by
  have h0 := bN_shift n 2 0
  have h1 := bN_shift n 2 1
  rw [show (2 : Int) ^ (8 * 2) = 65536 by decide] at h0 h1
  unfold put2 put4
  rw [h0, h1]
  rfl

set_option maxHeartbeats 1000000 in
theorem Put16_any (n : Int) (w : World) : Calls Tryd.prog 12 #[.int .i64 n] w fun e w' => e = .returned (.string (put2 n)) ∧ Below w.heap.size w w' := by
  have HP : Hid (∀ m X, Calls Tryd.prog 10 #[.int .i64 m] X fun e w' => e = .returned (.string ⟨#[bN m 0]⟩) ∧ Below X.heap.size X w') := fun m X => Put8_any m X
  have HC := hide (cat2 n)
  have hz : ¬ 9223372036854775807 < (⟨#[bN (n / 256) 0]⟩ : ByteArray).size + (⟨#[bN n 0]⟩ : ByteArray).size := by show ¬ _ < 1 + 1; omega
  go_enter Tryd.func12, Tryd.ntmps12
  go_wp2_with fail
  refine (HP.out _ _).mono ?_
  generalize (⟨#[bN (n / 256) 0]⟩ : ByteArray) = A at *
  rintro e w1 ⟨rfl, hb⟩
  have HB := hide hb
  clear hb
  go_wp2_with fail
  refine (HP.out _ _).mono ?_
  clear HP
  generalize (⟨#[bN n 0]⟩ : ByteArray) = B at *
  rintro e w2 ⟨rfl, hb⟩
  have HB2 := hide (HB.out.trans (hb.mono HB.out.size))
  clear hb HB
  have hc := HC.out
  go_wp2
  go_ret
  first | exact ⟨rfl, HB2.out⟩ | exact ⟨by rw [← hc]; rfl, HB2.out⟩

set_option maxHeartbeats 1000000 in
theorem Put32_any (n : Int) (w : World) : Calls Tryd.prog 13 #[.int .i64 n] w fun e w' => e = .returned (.string (put4 n)) ∧ Below w.heap.size w w' := by
  have HP : Hid (∀ m X, Calls Tryd.prog 12 #[.int .i64 m] X fun e w' => e = .returned (.string (put2 m)) ∧ Below X.heap.size X w') := fun m X => Put16_any m X
  have HC := hide (cat4 n)
  have hz : ¬ 9223372036854775807 < (put2 (n / 65536)).size + (put2 n).size := by show ¬ _ < 2 + 2; omega
  go_enter Tryd.func13, Tryd.ntmps13
  go_wp2_with fail
  refine (HP.out _ _).mono ?_
  generalize put2 (n / 65536) = A at *
  rintro e w1 ⟨rfl, hb⟩
  have HB := hide hb
  clear hb
  go_wp2_with fail
  refine (HP.out _ _).mono ?_
  clear HP
  generalize put2 n = B at *
  rintro e w2 ⟨rfl, hb⟩
  have HB2 := hide (HB.out.trans (hb.mono HB.out.size))
  clear hb HB
  have hc := HC.out
  go_wp2
  go_ret
  first | exact ⟨rfl, HB2.out⟩ | exact ⟨by rw [← hc]; rfl, HB2.out⟩

def ptxE (s : ByteArray) : Nat := if 1024 < s.size then 112 else if (runesL (bys s)).isSome = false then 111 else 0
def ptxV (s : ByteArray) : ByteArray := if ptxE s = 0 then put2 (s.size : Int) ++ s else ⟨#[]⟩

set_option maxHeartbeats 1000000 in
theorem PutText_any (s : ByteArray) (w : World) (hT : U8 w) : Calls Tryd.prog 8 #[.string s] w fun e w' => e = .returned (.tuple #[.string (ptxV s), .int .i64 (ptxE s : Int)]) ∧ Below w.heap.size w w' := by
  by_cases h1 : 1024 < s.size
  · have e1 : ptxE s = 112 := by unfold ptxE; rw [if_pos h1]
    have e2 : ptxV s = ⟨#[]⟩ := by unfold ptxV; rw [e1, if_neg (by decide)]
    rw [e1, e2]
    have h1' : 1024 < (s.size : Int) := by omega
    clear hT e1 e2
    go_enter Tryd.func8, Tryd.ntmps8
    go_wp2
    go_ret2
    exact ⟨rfl, Below.refl _ _⟩
  have h1' : ¬ 1024 < (s.size : Int) := by omega
  have HV := hide (Valid_any s w (by omega) hT)
  cases h2 : (runesL (bys s)).isSome with
  | false =>
    have e1 : ptxE s = 111 := by unfold ptxE; rw [if_neg h1, if_pos h2]
    have e2 : ptxV s = ⟨#[]⟩ := by unfold ptxV; rw [e1, if_neg (by decide)]
    rw [e1, e2]
    rw [h2] at HV
    clear hT e1 e2
    go_enter Tryd.func8, Tryd.ntmps8
    go_wp2_with fail
    refine HV.out.mono ?_
    rintro e w1 ⟨rfl, hb⟩
    go_wp2
    go_ret2
    exact ⟨rfl, hb⟩
  | true =>
    have e1 : ptxE s = 0 := by unfold ptxE; rw [if_neg h1, if_neg (by rw [h2]; decide)]
    have e2 : ptxV s = put2 (s.size : Int) ++ s := by unfold ptxV; rw [e1, if_pos rfl]
    rw [e1, e2]
    rw [h2] at HV
    have HP : Hid (∀ X, Calls Tryd.prog 12 #[.int .i64 (s.size : Int)] X fun e w' => e = .returned (.string (put2 (s.size : Int))) ∧ Below X.heap.size X w') := fun X => Put16_any _ X
    have hz : ¬ 9223372036854775807 < (put2 (s.size : Int)).size + s.size := by show ¬ _ < 2 + s.size; omega
    generalize put2 (s.size : Int) = A at *
    clear hT e1 e2
    go_enter Tryd.func8, Tryd.ntmps8
    go_wp2_with fail
    refine HV.out.mono ?_
    rintro e w1 ⟨rfl, hb⟩
    have HB := hide hb
    clear hb HV
    go_wp2_with fail
    refine (HP.out _).mono ?_
    rintro e w2 ⟨rfl, hb⟩
    have HB2 := hide (HB.out.trans (hb.mono HB.out.size))
    clear hb HB HP
    go_wp2
    go_ret2
    exact ⟨rfl, HB2.out⟩

end Go.Proofs.YthknmkebdlnahaaDoor

namespace Go.Proofs.YthknmkebdlnahaaDoor
open Go.RowKit

def T3 : ByteArray := ⟨#[1, 2, 3]⟩
def Tab_ : ByteArray := ⟨#[97, 98]⟩
def Teu : ByteArray := ⟨#[226, 130, 172]⟩
def T80 : ByteArray := ⟨#[128]⟩
def Ta : ByteArray := ⟨#[97]⟩
theorem fx1 : getV T3 0 0 2 = 258 ∧ getA T3 0 0 2 = 2 ∧ getE T3 0 0 2 = 0 := by decide
theorem fx2 : getV T3 2 0 2 = 0 ∧ getA T3 2 0 2 = 2 ∧ getE T3 2 0 2 = 110 := by decide
theorem fx3 : fltP 2 110 = 2 := by decide
theorem fx4 : ptxE Tab_ = 0 := by decide
theorem fx5 : ptxV Tab_ = ⟨#[0, 2, 97, 98]⟩ := by unfold ptxV; rw [if_pos fx4]; rfl
theorem fx6 : put4 (-1) = ⟨#[255, 255, 255, 255]⟩ := by rfl
theorem fx7 : runeAt Teu 0 = 3 := by decide
theorem fx8 : runesI (bys T80) = -1 := by decide
theorem fx9 : (runesL (bys Ta)).isSome = true := by decide

set_option maxRecDepth 100000 in
set_option maxHeartbeats 2000000 in
theorem fixed_any (w : World) (hT : U8 w) : Calls Tryd.prog 14 #[] w fun e w' => e = .returned (.bool true) ∧ Below w.heap.size w w' := by
  have HT := hide hT
  have hoff := hT.off (Nat.le_refl _)
  clear hT hoff
  have HN := hide (New_any T3 w)
  go_enter Tryd.func14, Tryd.ntmps14
  go_wp2_with fail
  refine HN.out.mono ?_
  rintro e w1 ⟨rfl, hc, hb⟩
  have HB1 := hide hb
  obtain ⟨v1, v2, v3⟩ := fx1
  have HG := hide (Get16_any (by decide) (by decide) hc)
  rw [v1, v2, v3] at HG
  clear hc hb HN v1 v2 v3
  generalize hD : w.heap.size = D at *
  go_wp2_with fail
  refine HG.out.mono ?_
  rintro e w2 ⟨rfl, hc, hb⟩
  have HB2 := hide (But.frame (by rw [hD]; exact HB1.out) hb (by omega))
  obtain ⟨v1, v2, v3⟩ := fx2
  have HG2 := hide (Get16_any (by decide) (by decide) hc)
  rw [v1, v2, v3] at HG2
  clear hc hb HG v1 v2 v3 HB1
  go_wp2_with fail
  refine HG2.out.mono ?_
  rintro e w3 ⟨rfl, hc, hb⟩
  have HB3 := hide (But.frame HB2.out hb (by omega))
  have HA := hide (At_any hc)
  have HF := hide (Fault_any hc)
  rw [fx3] at HF
  clear hc hb HG2 HB2
  go_wp2_with fail
  refine HA.out.mono ?_
  rintro e w4 ⟨rfl, rfl⟩
  clear HA
  go_wp2_with fail
  refine HF.out.mono ?_
  rintro e w4 ⟨rfl, hb⟩
  have HB4 := hide (HB3.out.trans (hb.mono HB3.out.size))
  have HP := hide (PutText_any Tab_ w4 (HT.out.below HB4.out))
  rw [fx4, fx5] at HP
  clear hb HF HB3
  go_wp2_with fail
  refine HP.out.mono ?_
  rintro e w5 ⟨rfl, hb⟩
  have HB5 := hide (HB4.out.trans (hb.mono HB4.out.size))
  have HP := hide (Put32_any (-1) w5)
  rw [fx6] at HP
  clear hb HB4
  go_wp2_with fail
  refine HP.out.mono ?_
  rintro e w6 ⟨rfl, hb⟩
  have HB6 := hide (HB5.out.trans (hb.mono HB5.out.size))
  have HP := hide (Rune_any Teu 0 w6 (HT.out.below HB6.out))
  rw [fx7] at HP
  clear hb HB5
  go_wp2_with fail
  refine HP.out.mono ?_
  rintro e w7 ⟨rfl, hb⟩
  have HB7 := hide (HB6.out.trans (hb.mono HB6.out.size))
  have HP := hide (Runes_any T80 w7 (by decide) (HT.out.below HB7.out))
  rw [fx8] at HP
  clear hb HB6
  go_wp2_with fail
  refine HP.out.mono ?_
  rintro e w8 ⟨rfl, hb⟩
  have HB8 := hide (HB7.out.trans (hb.mono HB7.out.size))
  have HP := hide (Valid_any Ta w8 (by decide) (HT.out.below HB8.out))
  rw [fx9] at HP
  clear hb HB7
  go_wp2_with fail
  refine HP.out.mono ?_
  rintro e w9 ⟨rfl, hb⟩
  have HB9 := hide (HB8.out.trans (hb.mono HB8.out.size))
  clear hb HB8 HP HT
  go_wp2
  go_ret
  exact ⟨rfl, by rw [hD]; first | exact HB9.out | (have h := HB9.out; rw [hD] at h; exact h)⟩

end Go.Proofs.YthknmkebdlnahaaDoor

namespace Go.Proofs.YthknmkebdlnahaaDoor
open Go.RowKit

theorem bys_cut (t : ByteArray) (i j : Nat) : bys (t.extract i (i + j)) = ((bys t).drop i).take j := by
  unfold bys
  rw [ByteArray.data_extract, Array.toList_extract]
  simp only [List.extract, Nat.add_sub_cancel_left]

theorem runes_oneI (a : ByteArray) (i K : Nat) (hK : runeL ((bys a).drop i) = K) (h0 : K ≠ 0) : runesI (bys (a.extract i (i + K))) = 1 := by
  rw [bys_cut a i K]
  unfold runesI
  rw [← hK, runesL_one _ (by rw [hK]; exact h0)]
  rfl
theorem rune_short (a : ByteArray) (i K : Nat) (hK : runeL ((bys a).drop i) = K + 1) (h0 : K ≠ 0) : runeAt (a.extract i (i + K)) 0 = 0 := by
  unfold runeAt
  split
  · rfl
  · show runeL ((bys (a.extract i (i + K))).drop 0) = 0
    rw [bys_cut a i K, List.drop_zero]
    exact runeL_short _ K (by omega) (by omega)

theorem runeAt_lt (s : ByteArray) (p : Nat) (h : p < s.size) : runeAt s (p : Int) = runeL ((bys s).drop p) := by
  unfold runeAt
  rw [if_neg (by omega)]
  rfl

set_option maxRecDepth 100000 in
set_option maxHeartbeats 4000000 in
theorem joins_ss (w : World) (hT : U8 w) (a b : ByteArray) (ha : a.size ≤ 140737488355328) (hb : b.size ≤ 140737488355328) (N M K : Nat) (hn : runesI (bys a) = (N : Int)) (hm : runesI (bys b) = (M : Int)) (hk : runesI (bys (a ++ b)) = (K : Int)) (hKe : K = N + M) (hN : N ≤ a.size) (hM : M ≤ b.size) : Calls Tryd.prog 7 #[.string a, .string b] w fun e w' => e = .returned (.bool true) ∧ Below w.heap.size w w' := by
  have HT := hide hT
  have H1 := hide (Runes_any a w (by omega) hT)
  have H2 : Hid (∀ X, U8 X → Calls Tryd.prog 19 #[.string b] X fun e w' => e = .returned (.int .i64 (runesI (bys b))) ∧ Below X.heap.size X w') := fun X hX => Runes_any b X (by omega) hX
  have H3 : Hid (∀ X, U8 X → Calls Tryd.prog 19 #[.string (a ++ b)] X fun e w' => e = .returned (.int .i64 (runesI (bys (a ++ b)))) ∧ Below X.heap.size X w') := fun X hX => Runes_any (a ++ b) X (by rw [ByteArray.size_append]; omega) hX
  have HU : Hid (∀ (i : Nat) X, U8 X → Calls Tryd.prog 16 #[.string a, .int .i64 (i : Int)] X fun e w' => e = .returned (.int .i64 (runeAt a (i : Int) : Int)) ∧ Below X.heap.size X w') := fun i X hX => Rune_any a i X hX
  have HL := hide (bys_len a)
  have hz : ¬ 9223372036854775807 < a.size + b.size := by omega
  rw [hn] at H1
  rw [hm] at H2
  rw [hk] at H3
  clear hT hn hm hk
  have g1 : (0 : Int) ≤ (N : Int) := by omega
  have g2 : (0 : Int) ≤ (M : Int) := by omega
  have g3 : (K : Int) = (N : Int) + (M : Int) := by omega
  have g4 : ¬ (a.size : Int) < (N : Int) := by omega
  go_enter Tryd.func7, Tryd.ntmps7
  go_wp2_with fail
  refine H1.out.mono ?_
  rintro e w1 ⟨rfl, hb1⟩
  have HB1 := hide hb1
  clear hb1
  go_wp2_with fail
  refine (H2.out _ (HT.out.below HB1.out)).mono ?_
  rintro e w2 ⟨rfl, hb1⟩
  have HB2 := hide (HB1.out.trans (hb1.mono HB1.out.size))
  clear hb1
  go_wp2_with fail
  refine (H3.out _ (HT.out.below HB2.out)).mono ?_
  rintro e w3 ⟨rfl, hb1⟩
  have HB3 := hide (HB2.out.trans (hb1.mono HB2.out.size))
  clear hb1
  go_wp2
  clear H1 H2 H3 HB1 HB2 g1 g2 g3 g4
  go_loopw [8] (fun x wr => ∃ i : Nat, x = .int .i64 (i : Int) ∧ i ≤ 100 ∧ Hid (Below w.heap.size w wr)) (fun x _ => 100 - (intOf x).toNat)
  case atStart => exact ⟨0, rfl, Nat.zero_le _, HB3⟩
  case round =>
    obtain ⟨i, rfl, hi, HB⟩ := hrel
    clear HB3
    by_cases h1 : i < a.size
    · have h1' : (i : Int) < (a.size : Int) := by omega
      by_cases h2 : i < 100
      · have h2' : (i : Int) < 100 := by omega
        have HK := hide (HU.out i wr (HT.out.below HB.out))
        rw [runeAt_lt a i h1] at HK
        have hle := runeL_le ((bys a).drop i)
        rw [List.length_drop, HL.out] at hle
        generalize hKK : runeL ((bys a).drop i) = K at *
        obtain ⟨hle1, hle2⟩ := hle
        have k0 : ¬ (K : Int) < 0 := by omega
        have k4 : ¬ 4 < (K : Int) := by omega
        have kl : ¬ (a.size : Int) - (i : Int) < (K : Int) := by omega
        by_cases e0 : K = 0
        · subst e0
          go_wp2_with fail
          refine HK.out.mono ?_
          rintro e w4 ⟨rfl, hb⟩
          have HB4 := hide (HB.out.trans (hb.mono HB.out.size))
          clear hb HB HK
          go_wp2
          exact ⟨⟨i + 1, by go_num, by omega, HB4⟩, by simp [intOf]; omega⟩
        · obtain ⟨J, rfl⟩ : ∃ J, K = J + 1 := ⟨K - 1, by omega⟩
          have q1 := runes_oneI a i (J + 1) hKK (by omega)
          have HT1 : Hid (∀ X, U8 X → Calls Tryd.prog 19 #[.string (a.extract i (i + (J + 1)))] X fun e w' => e = .returned (.int .i64 1) ∧ Below X.heap.size X w') := fun X hX => by have := Runes_any (a.extract i (i + (J + 1))) X (by rw [ByteArray.size_extract]; omega) hX; rw [q1] at this; exact this
          have kp : (0 : Int) < ((J + 1 : Nat) : Int) := by omega
          have z1 : (i : Int) ≤ (i : Int) + ((J + 1 : Nat) : Int) := by omega
          have z2 : (i : Int) + ((J + 1 : Nat) : Int) ≤ (a.size : Int) := by omega
          by_cases e1 : J = 0
          · subst e1
            clear q1
            go_wp2_with fail
            refine HK.out.mono ?_
            rintro e w4 ⟨rfl, hb⟩
            have HB4 := hide (HB.out.trans (hb.mono HB.out.size))
            clear hb HB HK
            go_wp2_with fail
            refine (HT1.out _ (HT.out.below HB4.out)).mono ?_
            rintro e w5 ⟨rfl, hb⟩
            have HB5 := hide (HB4.out.trans (hb.mono HB4.out.size))
            clear hb HB4 HT1
            go_wp2
            exact ⟨⟨i + 1, by go_num, by omega, HB5⟩, by simp [intOf]; omega⟩
          · have q2 := rune_short a i J hKK e1
            have HT2 : Hid (∀ X, U8 X → Calls Tryd.prog 16 #[.string (a.extract i (i + J)), .int .i64 0] X fun e w' => e = .returned (.int .i64 0) ∧ Below X.heap.size X w') := fun X hX => by have := Rune_any (a.extract i (i + J)) 0 X hX; rw [q2] at this; exact this
            have kq : (1 : Int) < ((J + 1 : Nat) : Int) := by omega
            have z3 : (i : Int) + ((J + 1 : Nat) : Int) - 1 = ((i + J : Nat) : Int) := by omega
            clear q1 q2
            go_wp2_with fail
            refine HK.out.mono ?_
            rintro e w4 ⟨rfl, hb⟩
            have HB4 := hide (HB.out.trans (hb.mono HB.out.size))
            clear hb HB HK
            go_wp2_with fail
            refine (HT1.out _ (HT.out.below HB4.out)).mono ?_
            rintro e w5 ⟨rfl, hb⟩
            have HB5 := hide (HB4.out.trans (hb.mono HB4.out.size))
            clear hb HB4 HT1
            go_wp2_with fail
            refine (HT2.out _ (HT.out.below HB5.out)).mono ?_
            rintro e w6 ⟨rfl, hb⟩
            have HB6 := hide (HB5.out.trans (hb.mono HB5.out.size))
            clear hb HB5 HT2
            go_wp2
            exact ⟨⟨i + 1, by go_num, by omega, HB6⟩, by simp [intOf]; omega⟩
      · have h2' : ¬ (i : Int) < 100 := by omega
        have HF := hide (fixed_any wr (HT.out.below HB.out))
        clear HU
        go_wp2_with fail
        refine HF.out.mono ?_
        rintro e w9 ⟨rfl, hb⟩
        have HB9 := hide (HB.out.trans (hb.mono HB.out.size))
        clear hb HF HB HT
        go_wp2
        go_ret
        exact ⟨rfl, HB9.out⟩
    · have h1' : ¬ (i : Int) < (a.size : Int) := by omega
      have HF := hide (fixed_any wr (HT.out.below HB.out))
      clear HU
      go_wp2_with fail
      refine HF.out.mono ?_
      rintro e w9 ⟨rfl, hb⟩
      have HB9 := hide (HB.out.trans (hb.mono HB.out.size))
      clear hb HF HB HT
      go_wp2
      go_ret
      exact ⟨rfl, HB9.out⟩

set_option maxRecDepth 100000 in
set_option maxHeartbeats 4000000 in
theorem joins_sn (w : World) (hT : U8 w) (a b : ByteArray) (ha : a.size ≤ 140737488355328) (hb : b.size ≤ 140737488355328) (N : Nat) (M K : Int) (hn : runesI (bys a) = (N : Int)) (hm : runesI (bys b) = M) (hk : runesI (bys (a ++ b)) = K) (g3 : M < 0) (g5 : (K != -1) = false) (hN : N ≤ a.size) : Calls Tryd.prog 7 #[.string a, .string b] w fun e w' => e = .returned (.bool true) ∧ Below w.heap.size w w' := by
  have HT := hide hT
  have H1 := hide (Runes_any a w (by omega) hT)
  have H2 : Hid (∀ X, U8 X → Calls Tryd.prog 19 #[.string b] X fun e w' => e = .returned (.int .i64 (runesI (bys b))) ∧ Below X.heap.size X w') := fun X hX => Runes_any b X (by omega) hX
  have H3 : Hid (∀ X, U8 X → Calls Tryd.prog 19 #[.string (a ++ b)] X fun e w' => e = .returned (.int .i64 (runesI (bys (a ++ b)))) ∧ Below X.heap.size X w') := fun X hX => Runes_any (a ++ b) X (by rw [ByteArray.size_append]; omega) hX
  have HU : Hid (∀ (i : Nat) X, U8 X → Calls Tryd.prog 16 #[.string a, .int .i64 (i : Int)] X fun e w' => e = .returned (.int .i64 (runeAt a (i : Int) : Int)) ∧ Below X.heap.size X w') := fun i X hX => Rune_any a i X hX
  have HL := hide (bys_len a)
  have hz : ¬ 9223372036854775807 < a.size + b.size := by omega
  rw [hn] at H1
  rw [hm] at H2
  rw [hk] at H3
  clear hT hn hm hk
  have g1 : (0 : Int) ≤ (N : Int) := by omega
  have g4 : ¬ (a.size : Int) < (N : Int) := by omega
  go_enter Tryd.func7, Tryd.ntmps7
  go_wp2_with fail
  refine H1.out.mono ?_
  rintro e w1 ⟨rfl, hb1⟩
  have HB1 := hide hb1
  clear hb1
  go_wp2_with fail
  refine (H2.out _ (HT.out.below HB1.out)).mono ?_
  rintro e w2 ⟨rfl, hb1⟩
  have HB2 := hide (HB1.out.trans (hb1.mono HB1.out.size))
  clear hb1
  go_wp2_with fail
  refine (H3.out _ (HT.out.below HB2.out)).mono ?_
  rintro e w3 ⟨rfl, hb1⟩
  have HB3 := hide (HB2.out.trans (hb1.mono HB2.out.size))
  clear hb1
  go_wp2
  clear H1 H2 H3 HB1 HB2 g1 g4 g3 g5
  go_loopw [8] (fun x wr => ∃ i : Nat, x = .int .i64 (i : Int) ∧ i ≤ 100 ∧ Hid (Below w.heap.size w wr)) (fun x _ => 100 - (intOf x).toNat)
  case atStart => exact ⟨0, rfl, Nat.zero_le _, HB3⟩
  case round =>
    obtain ⟨i, rfl, hi, HB⟩ := hrel
    clear HB3
    by_cases h1 : i < a.size
    · have h1' : (i : Int) < (a.size : Int) := by omega
      by_cases h2 : i < 100
      · have h2' : (i : Int) < 100 := by omega
        have HK := hide (HU.out i wr (HT.out.below HB.out))
        rw [runeAt_lt a i h1] at HK
        have hle := runeL_le ((bys a).drop i)
        rw [List.length_drop, HL.out] at hle
        generalize hKK : runeL ((bys a).drop i) = K at *
        obtain ⟨hle1, hle2⟩ := hle
        have k0 : ¬ (K : Int) < 0 := by omega
        have k4 : ¬ 4 < (K : Int) := by omega
        have kl : ¬ (a.size : Int) - (i : Int) < (K : Int) := by omega
        by_cases e0 : K = 0
        · subst e0
          go_wp2_with fail
          refine HK.out.mono ?_
          rintro e w4 ⟨rfl, hb⟩
          have HB4 := hide (HB.out.trans (hb.mono HB.out.size))
          clear hb HB HK
          go_wp2
          exact ⟨⟨i + 1, by go_num, by omega, HB4⟩, by simp [intOf]; omega⟩
        · obtain ⟨J, rfl⟩ : ∃ J, K = J + 1 := ⟨K - 1, by omega⟩
          have q1 := runes_oneI a i (J + 1) hKK (by omega)
          have HT1 : Hid (∀ X, U8 X → Calls Tryd.prog 19 #[.string (a.extract i (i + (J + 1)))] X fun e w' => e = .returned (.int .i64 1) ∧ Below X.heap.size X w') := fun X hX => by have := Runes_any (a.extract i (i + (J + 1))) X (by rw [ByteArray.size_extract]; omega) hX; rw [q1] at this; exact this
          have kp : (0 : Int) < ((J + 1 : Nat) : Int) := by omega
          have z1 : (i : Int) ≤ (i : Int) + ((J + 1 : Nat) : Int) := by omega
          have z2 : (i : Int) + ((J + 1 : Nat) : Int) ≤ (a.size : Int) := by omega
          by_cases e1 : J = 0
          · subst e1
            clear q1
            go_wp2_with fail
            refine HK.out.mono ?_
            rintro e w4 ⟨rfl, hb⟩
            have HB4 := hide (HB.out.trans (hb.mono HB.out.size))
            clear hb HB HK
            go_wp2_with fail
            refine (HT1.out _ (HT.out.below HB4.out)).mono ?_
            rintro e w5 ⟨rfl, hb⟩
            have HB5 := hide (HB4.out.trans (hb.mono HB4.out.size))
            clear hb HB4 HT1
            go_wp2
            exact ⟨⟨i + 1, by go_num, by omega, HB5⟩, by simp [intOf]; omega⟩
          · have q2 := rune_short a i J hKK e1
            have HT2 : Hid (∀ X, U8 X → Calls Tryd.prog 16 #[.string (a.extract i (i + J)), .int .i64 0] X fun e w' => e = .returned (.int .i64 0) ∧ Below X.heap.size X w') := fun X hX => by have := Rune_any (a.extract i (i + J)) 0 X hX; rw [q2] at this; exact this
            have kq : (1 : Int) < ((J + 1 : Nat) : Int) := by omega
            have z3 : (i : Int) + ((J + 1 : Nat) : Int) - 1 = ((i + J : Nat) : Int) := by omega
            clear q1 q2
            go_wp2_with fail
            refine HK.out.mono ?_
            rintro e w4 ⟨rfl, hb⟩
            have HB4 := hide (HB.out.trans (hb.mono HB.out.size))
            clear hb HB HK
            go_wp2_with fail
            refine (HT1.out _ (HT.out.below HB4.out)).mono ?_
            rintro e w5 ⟨rfl, hb⟩
            have HB5 := hide (HB4.out.trans (hb.mono HB4.out.size))
            clear hb HB4 HT1
            go_wp2_with fail
            refine (HT2.out _ (HT.out.below HB5.out)).mono ?_
            rintro e w6 ⟨rfl, hb⟩
            have HB6 := hide (HB5.out.trans (hb.mono HB5.out.size))
            clear hb HB5 HT2
            go_wp2
            exact ⟨⟨i + 1, by go_num, by omega, HB6⟩, by simp [intOf]; omega⟩
      · have h2' : ¬ (i : Int) < 100 := by omega
        have HF := hide (fixed_any wr (HT.out.below HB.out))
        clear HU
        go_wp2_with fail
        refine HF.out.mono ?_
        rintro e w9 ⟨rfl, hb⟩
        have HB9 := hide (HB.out.trans (hb.mono HB.out.size))
        clear hb HF HB HT
        go_wp2
        go_ret
        exact ⟨rfl, HB9.out⟩
    · have h1' : ¬ (i : Int) < (a.size : Int) := by omega
      have HF := hide (fixed_any wr (HT.out.below HB.out))
      clear HU
      go_wp2_with fail
      refine HF.out.mono ?_
      rintro e w9 ⟨rfl, hb⟩
      have HB9 := hide (HB.out.trans (hb.mono HB.out.size))
      clear hb HF HB HT
      go_wp2
      go_ret
      exact ⟨rfl, HB9.out⟩

set_option maxRecDepth 100000 in
set_option maxHeartbeats 4000000 in
theorem joins_n (w : World) (hT : U8 w) (a b : ByteArray) (ha : a.size ≤ 140737488355328) (hb : b.size ≤ 140737488355328) (M K : Int) (hn : runesI (bys a) = -1) (hm : runesI (bys b) = M) (hk : runesI (bys (a ++ b)) = K) : Calls Tryd.prog 7 #[.string a, .string b] w fun e w' => e = .returned (.bool true) ∧ Below w.heap.size w w' := by
  have HT := hide hT
  have H1 := hide (Runes_any a w (by omega) hT)
  have H2 : Hid (∀ X, U8 X → Calls Tryd.prog 19 #[.string b] X fun e w' => e = .returned (.int .i64 (runesI (bys b))) ∧ Below X.heap.size X w') := fun X hX => Runes_any b X (by omega) hX
  have H3 : Hid (∀ X, U8 X → Calls Tryd.prog 19 #[.string (a ++ b)] X fun e w' => e = .returned (.int .i64 (runesI (bys (a ++ b)))) ∧ Below X.heap.size X w') := fun X hX => Runes_any (a ++ b) X (by rw [ByteArray.size_append]; omega) hX
  have HU : Hid (∀ (i : Nat) X, U8 X → Calls Tryd.prog 16 #[.string a, .int .i64 (i : Int)] X fun e w' => e = .returned (.int .i64 (runeAt a (i : Int) : Int)) ∧ Below X.heap.size X w') := fun i X hX => Rune_any a i X hX
  have HL := hide (bys_len a)
  have hz : ¬ 9223372036854775807 < a.size + b.size := by omega
  rw [hn] at H1
  rw [hm] at H2
  rw [hk] at H3
  clear hT hn hm hk
  have g4 : ¬ (a.size : Int) < -1 := by omega
  go_enter Tryd.func7, Tryd.ntmps7
  go_wp2_with fail
  refine H1.out.mono ?_
  rintro e w1 ⟨rfl, hb1⟩
  have HB1 := hide hb1
  clear hb1
  go_wp2_with fail
  refine (H2.out _ (HT.out.below HB1.out)).mono ?_
  rintro e w2 ⟨rfl, hb1⟩
  have HB2 := hide (HB1.out.trans (hb1.mono HB1.out.size))
  clear hb1
  go_wp2_with fail
  refine (H3.out _ (HT.out.below HB2.out)).mono ?_
  rintro e w3 ⟨rfl, hb1⟩
  have HB3 := hide (HB2.out.trans (hb1.mono HB2.out.size))
  clear hb1
  go_wp2
  clear H1 H2 H3 HB1 HB2 g4
  go_loopw [8] (fun x wr => ∃ i : Nat, x = .int .i64 (i : Int) ∧ i ≤ 100 ∧ Hid (Below w.heap.size w wr)) (fun x _ => 100 - (intOf x).toNat)
  case atStart => exact ⟨0, rfl, Nat.zero_le _, HB3⟩
  case round =>
    obtain ⟨i, rfl, hi, HB⟩ := hrel
    clear HB3
    by_cases h1 : i < a.size
    · have h1' : (i : Int) < (a.size : Int) := by omega
      by_cases h2 : i < 100
      · have h2' : (i : Int) < 100 := by omega
        have HK := hide (HU.out i wr (HT.out.below HB.out))
        rw [runeAt_lt a i h1] at HK
        have hle := runeL_le ((bys a).drop i)
        rw [List.length_drop, HL.out] at hle
        generalize hKK : runeL ((bys a).drop i) = K at *
        obtain ⟨hle1, hle2⟩ := hle
        have k0 : ¬ (K : Int) < 0 := by omega
        have k4 : ¬ 4 < (K : Int) := by omega
        have kl : ¬ (a.size : Int) - (i : Int) < (K : Int) := by omega
        by_cases e0 : K = 0
        · subst e0
          go_wp2_with fail
          refine HK.out.mono ?_
          rintro e w4 ⟨rfl, hb⟩
          have HB4 := hide (HB.out.trans (hb.mono HB.out.size))
          clear hb HB HK
          go_wp2
          exact ⟨⟨i + 1, by go_num, by omega, HB4⟩, by simp [intOf]; omega⟩
        · obtain ⟨J, rfl⟩ : ∃ J, K = J + 1 := ⟨K - 1, by omega⟩
          have q1 := runes_oneI a i (J + 1) hKK (by omega)
          have HT1 : Hid (∀ X, U8 X → Calls Tryd.prog 19 #[.string (a.extract i (i + (J + 1)))] X fun e w' => e = .returned (.int .i64 1) ∧ Below X.heap.size X w') := fun X hX => by have := Runes_any (a.extract i (i + (J + 1))) X (by rw [ByteArray.size_extract]; omega) hX; rw [q1] at this; exact this
          have kp : (0 : Int) < ((J + 1 : Nat) : Int) := by omega
          have z1 : (i : Int) ≤ (i : Int) + ((J + 1 : Nat) : Int) := by omega
          have z2 : (i : Int) + ((J + 1 : Nat) : Int) ≤ (a.size : Int) := by omega
          by_cases e1 : J = 0
          · subst e1
            clear q1
            go_wp2_with fail
            refine HK.out.mono ?_
            rintro e w4 ⟨rfl, hb⟩
            have HB4 := hide (HB.out.trans (hb.mono HB.out.size))
            clear hb HB HK
            go_wp2_with fail
            refine (HT1.out _ (HT.out.below HB4.out)).mono ?_
            rintro e w5 ⟨rfl, hb⟩
            have HB5 := hide (HB4.out.trans (hb.mono HB4.out.size))
            clear hb HB4 HT1
            go_wp2
            exact ⟨⟨i + 1, by go_num, by omega, HB5⟩, by simp [intOf]; omega⟩
          · have q2 := rune_short a i J hKK e1
            have HT2 : Hid (∀ X, U8 X → Calls Tryd.prog 16 #[.string (a.extract i (i + J)), .int .i64 0] X fun e w' => e = .returned (.int .i64 0) ∧ Below X.heap.size X w') := fun X hX => by have := Rune_any (a.extract i (i + J)) 0 X hX; rw [q2] at this; exact this
            have kq : (1 : Int) < ((J + 1 : Nat) : Int) := by omega
            have z3 : (i : Int) + ((J + 1 : Nat) : Int) - 1 = ((i + J : Nat) : Int) := by omega
            clear q1 q2
            go_wp2_with fail
            refine HK.out.mono ?_
            rintro e w4 ⟨rfl, hb⟩
            have HB4 := hide (HB.out.trans (hb.mono HB.out.size))
            clear hb HB HK
            go_wp2_with fail
            refine (HT1.out _ (HT.out.below HB4.out)).mono ?_
            rintro e w5 ⟨rfl, hb⟩
            have HB5 := hide (HB4.out.trans (hb.mono HB4.out.size))
            clear hb HB4 HT1
            go_wp2_with fail
            refine (HT2.out _ (HT.out.below HB5.out)).mono ?_
            rintro e w6 ⟨rfl, hb⟩
            have HB6 := hide (HB5.out.trans (hb.mono HB5.out.size))
            clear hb HB5 HT2
            go_wp2
            exact ⟨⟨i + 1, by go_num, by omega, HB6⟩, by simp [intOf]; omega⟩
      · have h2' : ¬ (i : Int) < 100 := by omega
        have HF := hide (fixed_any wr (HT.out.below HB.out))
        clear HU
        go_wp2_with fail
        refine HF.out.mono ?_
        rintro e w9 ⟨rfl, hb⟩
        have HB9 := hide (HB.out.trans (hb.mono HB.out.size))
        clear hb HF HB HT
        go_wp2
        go_ret
        exact ⟨rfl, HB9.out⟩
    · have h1' : ¬ (i : Int) < (a.size : Int) := by omega
      have HF := hide (fixed_any wr (HT.out.below HB.out))
      clear HU
      go_wp2_with fail
      refine HF.out.mono ?_
      rintro e w9 ⟨rfl, hb⟩
      have HB9 := hide (HB.out.trans (hb.mono HB.out.size))
      clear hb HF HB HT
      go_wp2
      go_ret
      exact ⟨rfl, HB9.out⟩

theorem joins_row (w : World) (hT : U8 w) (a : ByteArray) (ha : a.size ≤ 140737488355328) (b : ByteArray) (hb : b.size ≤ 140737488355328) : Calls Tryd.prog 7 #[.string a, .string b] w fun e w' => e = .returned (.bool true) ∧ Below w.heap.size w w' := by
  cases hn : runesL (bys a) with
  | none => exact joins_n w hT a b ha hb _ _ (by unfold runesI; rw [hn]) rfl rfl
  | some N =>
    have hN := runesL_le _ _ hn
    rw [bys_len] at hN
    have hk := runesL_app (bys a) (bys b) N hn
    rw [← bys_append] at hk
    cases hm : runesL (bys b) with
    | none =>
      rw [hm] at hk
      exact joins_sn w hT a b ha hb N (-1) (-1) (by unfold runesI; rw [hn]) (by unfold runesI; rw [hm]) (by unfold runesI; rw [hk]; rfl) (by decide) (by decide) hN
    | some M =>
      have hM := runesL_le _ _ hm
      rw [bys_len] at hM
      rw [hm] at hk
      exact joins_ss w hT a b ha hb N M (M + N) (by unfold runesI; rw [hn]) (by unfold runesI; rw [hm]) (by unfold runesI; rw [hk]; rfl) (by omega) hN hM

end Go.Proofs.YthknmkebdlnahaaDoor

namespace Go.Proofs.YthknmkebdlnahaaDoor
open Go.RowKit

theorem u8extra : U8Extra Tryd.prog Tryd.lays260_ren := ⟨by kernel_rfl, by kernel_rfl, by kernel_rfl, by kernel_rfl, by kernel_rfl, by kernel_rfl, by kernel_rfl⟩
theorem laid_first : (Rows.laid_unicode_utf8_first : DataW Unit) = Lib.firstData := by kernel_rfl
theorem laid_accept : (Rows.laid_unicode_utf8_acceptRanges : DataW Unit) = Lib.acceptData := by kernel_rfl

theorem table {W : World} (h : laidMetH Tryd.prog [("unicode/utf8.acceptRanges", Rows.laid_unicode_utf8_acceptRanges), ("unicode/utf8.first", Rows.laid_unicode_utf8_first)] W) : U8 W := by
  have h' : laidMet Tryd.prog [("unicode/utf8.acceptRanges", Rows.laid_unicode_utf8_acceptRanges), ("unicode/utf8.first", Rows.laid_unicode_utf8_first)] W := h
  have h3 := Lib.laidMet.reads h' (n := "unicode/utf8.first") (d := Rows.laid_unicode_utf8_first) (by simp)
  have h4 := Lib.laidMet.reads h' (n := "unicode/utf8.acceptRanges") (d := Rows.laid_unicode_utf8_acceptRanges) (by simp)
  rw [laid_first] at h3
  rw [laid_accept] at h4
  exact utf8Tabs_of_reads Tryd.lays260 u8extra h3 h4

def tabVals : DataW Unit → Array Value
  | .agg l => (l.flatMap fun
      | .lit (.int k z) => [Value.int k z]
      | .agg l2 => l2.map fun
        | .lit (.int k z) => Value.int k z
        | _ => .int .u8 0
      | _ => []).toArray
  | _ => #[]

def putVals (d : DataW Unit) : Obj → Obj
  | .cells _ t frozen => .cells (tabVals d) t frozen
  | o => o

noncomputable def laidWorld (os : Os) : World :=
  { World.holding Tryd.prog os ⟨#[], #[], []⟩ with
    heap := ((World.holding Tryd.prog os ⟨#[], #[], []⟩).heap.modify 1 (putVals Rows.laid_unicode_utf8_acceptRanges)).modify 0 (putVals Rows.laid_unicode_utf8_first) }

end Go.Proofs.YthknmkebdlnahaaDoor
