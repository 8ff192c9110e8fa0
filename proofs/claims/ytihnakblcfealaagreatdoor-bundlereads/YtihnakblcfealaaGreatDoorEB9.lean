/-
  What the reference's Runes, Put and PutText do.
  What cursor's text and Text do.
  What the reference's Text does: a text out of bytes, where a cursor stands.
  What bundle's Encode answers.
-/
import Derived.Test.YtihnakblcfealaaGreatDoorEB8
import Derived.Test.YtihnakblcfealaaGreatDoorEB5
import Derived.Test.YtihnakblcfealaaGreatDoorEB2
import Derived.Test.YtihnakblcfealaaGreatDoorEB7
import Derived.Test.YtihnakblcfealaaGreatDoorEB6
namespace Go.Proofs.YtihnakblcfealaaGreatDoor
open Go.RowKit

theorem runeAt_in (s : ByteArray) (p : Nat) (h : p < s.size) : runeAt s (p : Int) = runeL ((bys s).drop p) := by
  unfold runeAt
  rw [if_neg (by omega)]
  rfl

set_option maxHeartbeats 1000000 in
theorem rRunes_any (s : ByteArray) (w : World) (hs : s.size ≤ 140737488355328) : Calls Tryz.prog 33 #[.string s] w fun e w' => e = .returned (.int .i64 (runesI (bys s))) ∧ w = w' := by
  have HR : Hid (∀ (q : Nat) X, Calls Tryz.prog 63 #[.string s, .int .i64 (q : Int)] X fun e w' => e = .returned (.int .i64 ((runeAt s (q : Int) : Nat) : Int)) ∧ X = w') := fun q X => rRune_any s q X hs
  have HL := hide (bys_len s)
  go_enter Tryz.func33, Tryz.ntmps33
  go_wp2
  go_loopw [3, 4] (fun a b wr => ∃ n q : Nat, q ≤ s.size ∧ n ≤ q ∧ a = .int .i64 (n : Int) ∧ b = .int .i64 (q : Int) ∧ wr = w ∧ Hid (runesL (bys s) = (runesL ((bys s).drop q)).map (· + n))) (fun _ b _ => s.size - (intOf b).toNat)
  case atStart => exact ⟨0, 0, Nat.zero_le _, Nat.le_refl _, rfl, rfl, rfl, hide (by rw [List.drop_zero]; cases runesL (bys s) <;> rfl)⟩
  case round =>
    obtain ⟨n, q, hq, hn, rfl, rfl, hw, hE⟩ := hrel
    subst hw
    by_cases hlt : q < s.size
    · have hlt' : (q : Int) < (s.size : Int) := by omega
      have hne : (bys s).drop q ≠ [] := by
        intro e
        have h1 := congrArg List.length e
        rw [List.length_drop, HL.out, List.length_nil] at h1
        omega
      have hst := runesL_step _ hne
      have hle := (runeL_le ((bys s).drop q)).1
      rw [List.length_drop, HL.out] at hle
      have HQ := hide (HR.out q wr)
      rw [runeAt_in s q hlt] at HQ
      clear HR
      by_cases h0 : runeL ((bys s).drop q) = 0
      · rw [h0] at HQ
        rw [if_pos h0] at hst
        have HI : Hid (runesI (bys s) = -1) := hide (by unfold runesI; rw [hE.out, hst]; rfl)
        clear hE hst hne hle h0
        go_wp2_with fail
        refine HQ.out.mono ?_
        rintro e w1 ⟨rfl, rfl⟩
        go_wp2
        go_ret
        exact ⟨by rw [HI.out]; rfl, rfl⟩
      · rw [if_neg h0] at hst
        have hE2 : Hid (runesL (bys s) = (runesL ((bys s).drop (q + runeL ((bys s).drop q)))).map (· + (n + 1))) := hide (by
          rw [hE.out, hst, List.drop_drop]
          cases runesL ((bys s).drop (q + runeL ((bys s).drop q))) with
          | none => rfl
          | some x => show some (x + 1 + n) = some (x + (n + 1)); congr 1; omega)
        clear hE hst hne
        generalize runeL ((bys s).drop q) = K at *
        have h0' : ¬ (K : Int) = 0 := by omega
        go_wp2_with fail
        refine HQ.out.mono ?_
        rintro e w1 ⟨rfl, rfl⟩
        go_wp2
        exact ⟨⟨n + 1, q + K, by omega, by omega, by go_num, by go_num, trivial, hE2⟩, by simp [intOf]; omega⟩
    · have hlt' : ¬ (q : Int) < (s.size : Int) := by omega
      have HI : Hid (runesI (bys s) = (n : Int)) := hide (by
        unfold runesI
        rw [hE.out, List.drop_eq_nil_of_le (by rw [HL.out]; omega), runesL_nil]
        show ((0 + n : Nat) : Int) = _
        omega)
      clear hE HR
      go_wp2
      go_ret
      exact ⟨by rw [HI.out]; rfl, rfl⟩

theorem Blk.setL {w : World} {b i : Nat} {cs : Array Value} {t : TypeId} (h : Blk w b cs t) (v : Value) : Blk (w.setCell ⟨b, i, none⟩ v) b (cs.setIfInBounds i v) t := by
  unfold Blk at *
  simp only [World.setCell, Array.getElem?_modify, if_true, h, Option.map_some]
  rfl


def rcel2 (n : Int) : Nat → Array Value
  | 0 => #[.int .u8 0, .int .u8 0]
  | 1 => #[.int .u8 ((bN n 1).toNat : Int), .int .u8 0]
  | _ => #[.int .u8 ((bN n 1).toNat : Int), .int .u8 ((bN n 0).toNat : Int)]

theorem mk2 (w : World) : (Instr.makeSlice 67 (.int .i64 2) (.int .i64 2)).run Tryz.prog w = .ok (.slice (some ⟨w.heap.size, 0, none⟩) 2 2) (w.alloc (.cells #[.int .u8 0, .int .u8 0] 5)) := by kernel_rfl

set_option maxHeartbeats 2000000 in
theorem rPut2 (n : Int) (w : World) : Calls Tryz.prog 37 #[.int .i64 n, .int .i64 2] w fun e w' => e = .returned (.string ⟨#[bN n 1, bN n 0]⟩) ∧ Below w.heap.size w w' := by

  have hb0 : n % 256 = (((bN n 0).toNat : Nat) : Int) := by rw [bN_nat]; simp
  have hb1 : (n / 256) % 256 = (((bN n 1).toNat : Nat) : Int) := by rw [bN_nat]; rfl
  have hmk := mk2 w
  go_enter Tryz.func37, Tryz.ntmps37
  go_wp2
  clear hmk
  have HB0 : Hid (Below w.heap.size w (w.alloc (.cells #[.int .u8 0, .int .u8 0] 5))) := (Below.refl _ _).alloc (Nat.le_refl _) _
  have HQ0 : Hid (Blk (w.alloc (.cells #[.int .u8 0, .int .u8 0] 5)) w.heap.size (rcel2 n 0) 5) := Blk.new _ _ _
  go_loopw [6] (fun a wr => ∃ i : Nat, i ≤ 2 ∧ a = .int .i64 (i : Int) ∧ Hid (Blk wr w.heap.size (rcel2 n i) 5) ∧ Hid (Below w.heap.size w wr)) (fun a _ => 2 - (intOf a).toNat)
  case atStart => exact ⟨0, Nat.zero_le _, rfl, HQ0, HB0⟩
  case round =>
    obtain ⟨i, hi, rfl, Q, HB⟩ := hrel
    clear HQ0 HB0
    by_cases hlt : i < 2
    · have hcs : i = 0 ∨ i = 1 := by omega
      rcases hcs with rfl | rfl
      · have c0 : wr.cell? ⟨w.heap.size, 0, none⟩ = some (.int .u8 0) := Q.out.cell 0
        have f0 := Q.out.free 0
        have Q2 : Hid (Blk (wr.setCell ⟨w.heap.size, 0, none⟩ (.int .u8 ((bN n 1).toNat : Int))) w.heap.size (rcel2 n 1) 5) := hide (Q.out.setL _)
        have HB2 : Hid (Below w.heap.size w (wr.setCell ⟨w.heap.size, 0, none⟩ (.int .u8 ((bN n 1).toNat : Int)))) := hide (HB.out.setCell (p := ⟨w.heap.size, 0, none⟩) (Nat.le_refl _) _)
        clear Q HB
        go_wp2
        exact ⟨⟨1, by omega, rfl, Q2, HB2⟩, by simp [intOf]⟩
      · have c0 : wr.cell? ⟨w.heap.size, 1, none⟩ = some (.int .u8 0) := Q.out.cell 1
        have f0 := Q.out.free 1
        have Q2 : Hid (Blk (wr.setCell ⟨w.heap.size, 1, none⟩ (.int .u8 ((bN n 0).toNat : Int))) w.heap.size (rcel2 n 2) 5) := hide (Q.out.setL _)
        have HB2 : Hid (Below w.heap.size w (wr.setCell ⟨w.heap.size, 1, none⟩ (.int .u8 ((bN n 0).toNat : Int)))) := hide (HB.out.setCell (p := ⟨w.heap.size, 1, none⟩) (Nat.le_refl _) _)
        clear Q HB
        go_wp2
        exact ⟨⟨2, by omega, rfl, Q2, HB2⟩, by simp [intOf]⟩
    · obtain rfl : i = 2 := by omega
      have hcv : (convert 67 9 (.slice (some ⟨w.heap.size, 0, none⟩) 2 2)).run Tryz.prog wr = .ok (.string ⟨#[bN n 1, bN n 0]⟩) wr :=
        convB_at (l := [bN n 1, bN n 0]) (fun i hi => by
          have hc := Q.out.cell i
          rw [Nat.zero_add, hc]
          have : i = 0 ∨ i = 1 := by simp at hi; omega
          rcases this with rfl | rfl <;> rfl)
      clear Q
      go_wp2
      go_ret
      exact ⟨rfl, HB.out⟩

def rcel4 (n : Int) : Nat → Array Value
  | 0 => #[.int .u8 0, .int .u8 0, .int .u8 0, .int .u8 0]
  | 1 => #[.int .u8 ((bN n 3).toNat : Int), .int .u8 0, .int .u8 0, .int .u8 0]
  | 2 => #[.int .u8 ((bN n 3).toNat : Int), .int .u8 ((bN n 2).toNat : Int), .int .u8 0, .int .u8 0]
  | 3 => #[.int .u8 ((bN n 3).toNat : Int), .int .u8 ((bN n 2).toNat : Int), .int .u8 ((bN n 1).toNat : Int), .int .u8 0]
  | _ => #[.int .u8 ((bN n 3).toNat : Int), .int .u8 ((bN n 2).toNat : Int), .int .u8 ((bN n 1).toNat : Int), .int .u8 ((bN n 0).toNat : Int)]

theorem mk4 (w : World) : (Instr.makeSlice 67 (.int .i64 4) (.int .i64 4)).run Tryz.prog w = .ok (.slice (some ⟨w.heap.size, 0, none⟩) 4 4) (w.alloc (.cells #[.int .u8 0, .int .u8 0, .int .u8 0, .int .u8 0] 5)) := by kernel_rfl

set_option maxHeartbeats 2000000 in
theorem rPut4 (n : Int) (w : World) : Calls Tryz.prog 37 #[.int .i64 n, .int .i64 4] w fun e w' => e = .returned (.string ⟨#[bN n 3, bN n 2, bN n 1, bN n 0]⟩) ∧ Below w.heap.size w w' := by

  have hb0 : n % 256 = (((bN n 0).toNat : Nat) : Int) := by rw [bN_nat]; simp
  have hb1 : (n / 256) % 256 = (((bN n 1).toNat : Nat) : Int) := by rw [bN_nat]; rfl
  have hb2 : (n / 65536) % 256 = (((bN n 2).toNat : Nat) : Int) := by rw [bN_nat]; rfl
  have hb3 : (n / 16777216) % 256 = (((bN n 3).toNat : Nat) : Int) := by rw [bN_nat]; rfl
  have hmk := mk4 w
  go_enter Tryz.func37, Tryz.ntmps37
  go_wp2
  clear hmk
  have HB0 : Hid (Below w.heap.size w (w.alloc (.cells #[.int .u8 0, .int .u8 0, .int .u8 0, .int .u8 0] 5))) := (Below.refl _ _).alloc (Nat.le_refl _) _
  have HQ0 : Hid (Blk (w.alloc (.cells #[.int .u8 0, .int .u8 0, .int .u8 0, .int .u8 0] 5)) w.heap.size (rcel4 n 0) 5) := Blk.new _ _ _
  go_loopw [6] (fun a wr => ∃ i : Nat, i ≤ 4 ∧ a = .int .i64 (i : Int) ∧ Hid (Blk wr w.heap.size (rcel4 n i) 5) ∧ Hid (Below w.heap.size w wr)) (fun a _ => 4 - (intOf a).toNat)
  case atStart => exact ⟨0, Nat.zero_le _, rfl, HQ0, HB0⟩
  case round =>
    obtain ⟨i, hi, rfl, Q, HB⟩ := hrel
    clear HQ0 HB0
    by_cases hlt : i < 4
    · have hcs : i = 0 ∨ i = 1 ∨ i = 2 ∨ i = 3 := by omega
      rcases hcs with rfl | rfl | rfl | rfl
      · have c0 : wr.cell? ⟨w.heap.size, 0, none⟩ = some (.int .u8 0) := Q.out.cell 0
        have f0 := Q.out.free 0
        have Q2 : Hid (Blk (wr.setCell ⟨w.heap.size, 0, none⟩ (.int .u8 ((bN n 3).toNat : Int))) w.heap.size (rcel4 n 1) 5) := hide (Q.out.setL _)
        have HB2 : Hid (Below w.heap.size w (wr.setCell ⟨w.heap.size, 0, none⟩ (.int .u8 ((bN n 3).toNat : Int)))) := hide (HB.out.setCell (p := ⟨w.heap.size, 0, none⟩) (Nat.le_refl _) _)
        clear Q HB
        go_wp2
        exact ⟨⟨1, by omega, rfl, Q2, HB2⟩, by simp [intOf]⟩
      · have c0 : wr.cell? ⟨w.heap.size, 1, none⟩ = some (.int .u8 0) := Q.out.cell 1
        have f0 := Q.out.free 1
        have Q2 : Hid (Blk (wr.setCell ⟨w.heap.size, 1, none⟩ (.int .u8 ((bN n 2).toNat : Int))) w.heap.size (rcel4 n 2) 5) := hide (Q.out.setL _)
        have HB2 : Hid (Below w.heap.size w (wr.setCell ⟨w.heap.size, 1, none⟩ (.int .u8 ((bN n 2).toNat : Int)))) := hide (HB.out.setCell (p := ⟨w.heap.size, 1, none⟩) (Nat.le_refl _) _)
        clear Q HB
        go_wp2
        exact ⟨⟨2, by omega, rfl, Q2, HB2⟩, by simp [intOf]⟩
      · have c0 : wr.cell? ⟨w.heap.size, 2, none⟩ = some (.int .u8 0) := Q.out.cell 2
        have f0 := Q.out.free 2
        have Q2 : Hid (Blk (wr.setCell ⟨w.heap.size, 2, none⟩ (.int .u8 ((bN n 1).toNat : Int))) w.heap.size (rcel4 n 3) 5) := hide (Q.out.setL _)
        have HB2 : Hid (Below w.heap.size w (wr.setCell ⟨w.heap.size, 2, none⟩ (.int .u8 ((bN n 1).toNat : Int)))) := hide (HB.out.setCell (p := ⟨w.heap.size, 2, none⟩) (Nat.le_refl _) _)
        clear Q HB
        go_wp2
        exact ⟨⟨3, by omega, rfl, Q2, HB2⟩, by simp [intOf]⟩
      · have c0 : wr.cell? ⟨w.heap.size, 3, none⟩ = some (.int .u8 0) := Q.out.cell 3
        have f0 := Q.out.free 3
        have Q2 : Hid (Blk (wr.setCell ⟨w.heap.size, 3, none⟩ (.int .u8 ((bN n 0).toNat : Int))) w.heap.size (rcel4 n 4) 5) := hide (Q.out.setL _)
        have HB2 : Hid (Below w.heap.size w (wr.setCell ⟨w.heap.size, 3, none⟩ (.int .u8 ((bN n 0).toNat : Int)))) := hide (HB.out.setCell (p := ⟨w.heap.size, 3, none⟩) (Nat.le_refl _) _)
        clear Q HB
        go_wp2
        exact ⟨⟨4, by omega, rfl, Q2, HB2⟩, by simp [intOf]⟩
    · obtain rfl : i = 4 := by omega
      have hcv : (convert 67 9 (.slice (some ⟨w.heap.size, 0, none⟩) 4 4)).run Tryz.prog wr = .ok (.string ⟨#[bN n 3, bN n 2, bN n 1, bN n 0]⟩) wr :=
        convB_at (l := [bN n 3, bN n 2, bN n 1, bN n 0]) (fun i hi => by
          have hc := Q.out.cell i
          rw [Nat.zero_add, hc]
          have : i = 0 ∨ i = 1 ∨ i = 2 ∨ i = 3 := by simp at hi; omega
          rcases this with rfl | rfl | rfl | rfl <;> rfl)
      clear Q
      go_wp2
      go_ret
      exact ⟨rfl, HB.out⟩

set_option maxHeartbeats 1000000 in
theorem rPutText_any (s : ByteArray) (w : World) (hs : s.size ≤ 140737488355328) : Calls Tryz.prog 38 #[.string s] w fun e w' => e = .returned (.tuple #[.string (ptxV s), .int .i64 (ptxE s : Int)]) ∧ Below w.heap.size w w' := by
  by_cases h1 : 1024 < s.size
  · have e1 : ptxE s = 112 := by unfold ptxE; rw [if_pos h1]
    have e2 : ptxV s = ⟨#[]⟩ := by unfold ptxV; rw [e1, if_neg (by decide)]
    rw [e1, e2]
    have h1' : 1024 < (s.size : Int) := by omega
    clear e1 e2
    go_enter Tryz.func38, Tryz.ntmps38
    go_wp2
    go_ret2
    exact ⟨rfl, Below.refl _ _⟩
  have h1' : ¬ 1024 < (s.size : Int) := by omega
  have HV := hide (rRunes_any s w hs)
  cases h2 : runesL (bys s) with
  | none =>
    have e1 : ptxE s = 111 := by unfold ptxE; rw [if_neg h1, if_pos (by rw [h2]; rfl)]
    have e2 : ptxV s = ⟨#[]⟩ := by unfold ptxV; rw [e1, if_neg (by decide)]
    have hi : runesI (bys s) = -1 := by unfold runesI; rw [h2]
    rw [e1, e2]
    rw [hi] at HV
    clear e1 e2 hi
    go_enter Tryz.func38, Tryz.ntmps38
    go_wp2_with fail
    refine HV.out.mono ?_
    rintro e w1 ⟨rfl, rfl⟩
    go_wp2
    go_ret2
    exact ⟨rfl, Below.refl _ _⟩
  | some m =>
    have e1 : ptxE s = 0 := by unfold ptxE; rw [if_neg h1, if_neg (by rw [h2]; simp)]
    have e2 : ptxV s = put2 (s.size : Int) ++ s := by unfold ptxV; rw [e1, if_pos rfl]
    have hi : runesI (bys s) = (m : Int) := by unfold runesI; rw [h2]
    rw [e1, e2]
    rw [hi] at HV
    have hm : ¬ (m : Int) < 0 := by omega
    have HP : Hid (∀ X, Calls Tryz.prog 37 #[.int .i64 (s.size : Int), .int .i64 2] X fun e w' => e = .returned (.string (put2 (s.size : Int))) ∧ Below X.heap.size X w') := fun X => rPut2 _ X
    have hz : ¬ 9223372036854775807 < (put2 (s.size : Int)).size + s.size := by show ¬ _ < 2 + s.size; omega
    generalize put2 (s.size : Int) = A at *
    clear e1 e2 hi
    go_enter Tryz.func38, Tryz.ntmps38
    go_wp2_with fail
    refine HV.out.mono ?_
    rintro e w1 ⟨rfl, rfl⟩
    clear HV
    go_wp2_with fail
    refine (HP.out _).mono ?_
    rintro e w2 ⟨rfl, hb⟩
    clear HP
    go_wp2
    go_ret2
    exact ⟨rfl, hb⟩

end Go.Proofs.YtihnakblcfealaaGreatDoor

namespace Go.Proofs.YtihnakblcfealaaGreatDoor
open Go.RowKit Go.Shelf

def OffT (D : Nat) : Prop := 0 ≠ D ∧ 1 ≠ D

theorem lt_of_cell {w : World} {g i : Nat} {v : Value} (h : w.cell? ⟨g, i, none⟩ = some v) : g < w.heap.size := by
  by_cases hg : g < w.heap.size
  · exact hg
  · unfold World.cell? at h
    rw [Array.getElem?_eq_none (by show w.heap.size ≤ g; omega)] at h
    simp at h

theorem U8.lt {w : World} (h : U8 w) : 0 < w.heap.size ∧ 1 < w.heap.size := ⟨lt_of_cell (h.1 0 (by decide)), lt_of_cell (h.2 0 (by decide)).1⟩
theorem U8.off {w : World} (h : U8 w) {D : Nat} (hD : w.heap.size ≤ D) : OffT D := by
  have := h.lt
  exact ⟨by omega, by omega⟩
theorem U8.but {D : Nat} {w w' : World} (h : U8 w) (hb : But D w w') (hD : OffT D) : U8 w' := by
  obtain ⟨l1, l2⟩ := h.lt
  refine ⟨fun c hc => ?_, fun i hi => ⟨?_, ?_⟩⟩
  · rw [hb.cell l1 hD.1]; exact h.1 c hc
  · rw [hb.cell l2 hD.2]; exact (h.2 i hi).1
  · rw [hb.cell l2 hD.2]; exact (h.2 i hi).2

def txtF (s : ByteArray) (at_ : Nat) (most : Int) : Nat :=
  if s.size < at_ + 2 then 110 else if most < (beA (bys s) at_ 2 : Int) then 112 else if s.size < at_ + 2 + beA (bys s) at_ 2 then 110
  else if (runesL (bys (s.extract (at_ + 2) (at_ + 2 + beA (bys s) at_ 2)))).isSome = false then 111 else 0
def txtS (s : ByteArray) (at_ : Nat) : ByteArray := s.extract (at_ + 2) (at_ + 2 + beA (bys s) at_ 2)

section
variable {w : World} {D : Nat} {s : ByteArray} {at_ e : Nat}

set_option maxHeartbeats 1000000 in
theorem text_no (most : Int) (f : Nat) (hs : s.size ≤ 140737488355328) (ha : at_ ≤ s.size) (h : Cur w D s at_ 0) (hT : U8 w) (hD : OffT D) (hf : txtF s at_ most = f) (h0 : f ≠ 0) :
    Calls Tryz.prog 75 #[.pointer (some ⟨D, 0, none⟩), .int .i64 most] w fun x w' => Pan f x ∧ (∃ k, Cur w' D s k 0) ∧ But D w w' := by
  unfold txtF at hf
  by_cases h1 : s.size < at_ + 2
  · rw [if_pos h1] at hf
    subst hf
    have HN := hide (number2_no (by omega) ha h h1)
    have HC := hide h
    clear h hT hD
    go_enter Tryz.func75, Tryz.ntmps75
    go_wp2_with fail
    refine HN.out.mono ?_
    rintro x w1 ⟨rfl, hb⟩
    have HB := hide hb
    clear hb
    go_wp2
    exact ⟨rfl, rfl, ⟨at_, HC.out.below HB.out⟩, But.of_below HB.out⟩
  rw [if_neg h1] at hf
  have HN := hide (number2_ok (by omega) h (by omega))
  have hNl := beA_lt (bys s) at_ 2
  have HT := hide hT
  clear hT h
  have HVV : Hid (∀ X, U8 X → Calls Tryz.prog 79 #[.string (s.extract (at_ + 2) (at_ + 2 + beA (bys s) at_ 2))] X fun x w' => x = .returned (.bool (runesL (bys (s.extract (at_ + 2) (at_ + 2 + beA (bys s) at_ 2)))).isSome) ∧ Below X.heap.size X w') := fun X hX => Valid_any _ X (by rw [ByteArray.size_extract]; omega) hX
  generalize beA (bys s) at_ 2 = N at *
  by_cases h2 : most < (N : Int)
  · rw [if_pos h2] at hf
    subst hf
    clear HVV
    go_enter Tryz.func75, Tryz.ntmps75
    go_wp2_with fail
    refine HN.out.mono ?_
    rintro x w1 ⟨rfl, hc, hb⟩
    have HC := hide hc
    have HB := hide hb
    clear hc hb
    go_wp2
    exact ⟨rfl, rfl, ⟨_, HC.out⟩, HB.out⟩
  rw [if_neg h2] at hf
  by_cases h3 : s.size < at_ + 2 + N
  · rw [if_pos h3] at hf
    subst hf
    clear HVV
    go_enter Tryz.func75, Tryz.ntmps75
    go_wp2_with fail
    refine HN.out.mono ?_
    rintro x w1 ⟨rfl, hc, hb⟩
    have HK := hide (take_no N (by omega) (by omega) hc h3)
    have HC := hide hc
    have HB := hide hb
    clear hc hb
    go_wp2_with fail
    refine HK.out.mono ?_
    rintro x w2 ⟨rfl, hb2⟩
    have HB2 := hide hb2
    clear hb2 HK
    go_wp2
    exact ⟨rfl, rfl, ⟨_, HC.out.below HB2.out⟩, HB.out.trans (But.of_below HB2.out)⟩
  rw [if_neg h3] at hf
  by_cases h4 : (runesL (bys (s.extract (at_ + 2) (at_ + 2 + N)))).isSome = false
  · rw [if_pos h4] at hf
    subst hf
    rw [h4] at HVV
    go_enter Tryz.func75, Tryz.ntmps75
    go_wp2_with fail
    refine HN.out.mono ?_
    rintro x w1 ⟨rfl, hc, hb⟩
    have HK := hide (take_ok N (by omega) hc (by omega))
    have HB := hide hb
    clear hc hb
    go_wp2_with fail
    refine HK.out.mono ?_
    rintro x w2 ⟨rfl, hc2, hb2⟩
    have HB2 := hide (HB.out.trans hb2)
    have HC2 := hide hc2
    clear hb2 HK HB hc2
    go_wp2_with fail
    refine (HVV.out _ (HT.out.but HB2.out hD)).mono ?_
    rintro x w3 ⟨rfl, hb3⟩
    have HB3 := hide hb3
    clear hb3
    go_wp2
    exact ⟨rfl, rfl, ⟨_, HC2.out.below HB3.out⟩, HB2.out.trans (But.of_below HB3.out)⟩
  · rw [if_neg h4] at hf
    exact absurd hf.symm h0

set_option maxHeartbeats 1000000 in
theorem text_ok (most : Int) (hs : s.size ≤ 140737488355328) (h : Cur w D s at_ 0) (hT : U8 w) (hD : OffT D) (hf : txtF s at_ most = 0) :
    Calls Tryz.prog 75 #[.pointer (some ⟨D, 0, none⟩), .int .i64 most] w fun x w' => x = .returned (.string (txtS s at_)) ∧ Cur w' D s (at_ + 2 + beA (bys s) at_ 2) 0 ∧ But D w w' := by
  unfold txtF at hf
  unfold txtS
  by_cases h1 : s.size < at_ + 2
  · rw [if_pos h1] at hf; omega
  rw [if_neg h1] at hf
  have HN := hide (number2_ok (by omega) h (by omega))
  have hNl := beA_lt (bys s) at_ 2
  have HT := hide hT
  clear hT h
  have HVV : Hid (∀ X, U8 X → Calls Tryz.prog 79 #[.string (s.extract (at_ + 2) (at_ + 2 + beA (bys s) at_ 2))] X fun x w' => x = .returned (.bool (runesL (bys (s.extract (at_ + 2) (at_ + 2 + beA (bys s) at_ 2)))).isSome) ∧ Below X.heap.size X w') := fun X hX => Valid_any _ X (by rw [ByteArray.size_extract]; omega) hX
  generalize beA (bys s) at_ 2 = N at *
  by_cases h2 : most < (N : Int)
  · rw [if_pos h2] at hf; omega
  rw [if_neg h2] at hf
  by_cases h3 : s.size < at_ + 2 + N
  · rw [if_pos h3] at hf; omega
  rw [if_neg h3] at hf
  cases h4 : (runesL (bys (s.extract (at_ + 2) (at_ + 2 + N)))).isSome with
  | false => rw [if_pos h4] at hf; omega
  | true =>
    rw [h4] at HVV
    clear hf
    go_enter Tryz.func75, Tryz.ntmps75
    go_wp2_with fail
    refine HN.out.mono ?_
    rintro x w1 ⟨rfl, hc, hb⟩
    have HK := hide (take_ok N (by omega) hc (by omega))
    have HB := hide hb
    clear hc hb
    go_wp2_with fail
    refine HK.out.mono ?_
    rintro x w2 ⟨rfl, hc2, hb2⟩
    have HB2 := hide (HB.out.trans hb2)
    have HC2 := hide hc2
    clear hb2 HK HB hc2
    go_wp2_with fail
    refine (HVV.out _ (HT.out.but HB2.out hD)).mono ?_
    rintro x w3 ⟨rfl, hb3⟩
    have HB3 := hide hb3
    clear hb3
    go_wp2
    go_ret
    exact ⟨rfl, HC2.out.below HB3.out, HB2.out.trans (But.of_below HB3.out)⟩


set_option maxHeartbeats 1000000 in
theorem cloT_ok {X : World} (a m b : Nat) (most : Int) (hs : s.size ≤ 140737488355328) (h : Cur X D s at_ 0) (hT : U8 X) (hD : OffT D) (hf : txtF s at_ most = 0) (ha : Blk X a #[.pointer (some ⟨D, 0, none⟩)] 36) (hm : Blk X m #[.int .i64 most] 3) (hb : Blk X b #[.string ⟨#[]⟩] 9) (hbD : b ≠ D) (hw : But D w X) (hwb : w.heap.size ≤ b) :
    Calls Tryz.prog 74 #[.pointer (some ⟨a, 0, none⟩), .pointer (some ⟨m, 0, none⟩), .pointer (some ⟨b, 0, none⟩)] X fun x X' => x = .returned (.tuple #[]) ∧ Cur X' D s (at_ + 2 + beA (bys s) at_ 2) 0 ∧ Blk X' b #[.string (txtS s at_)] 9 ∧ But D w X' := by
  have HN := hide (text_ok most hs h hT hD hf)
  have ca := ha.cell 0
  have cm := hm.cell 0
  have HBB := hide hb
  have HW := hide hw
  clear h ha hb hw hm hf hT hD
  go_enter Tryz.func74, Tryz.ntmps74
  go_wp2_with fail
  refine HN.out.mono ?_
  rintro x w1 ⟨rfl, hc, ht⟩
  have q := ht.blk HBB.out hbD
  have q0 := q.cell 0
  have f0 := q.free 0
  have Q1 := hide (q.one (.string (txtS s at_)))
  have HC := hide hc
  have HT := hide ht
  clear hc ht q
  go_wp2
  simp [bodyPost, results, Tryz.results74, go_sem]
  exact ⟨Blk.other HC.out (a := ⟨b, 0, none⟩) hbD _, Q1.out, (HW.out.trans HT.out).setNew hwb _⟩

set_option maxHeartbeats 1000000 in
theorem cloT_no {X : World} (a m b : Nat) (most : Int) (f : Nat) (hs : s.size ≤ 140737488355328) (ha' : at_ ≤ s.size) (h : Cur X D s at_ 0) (hT : U8 X) (hD : OffT D) (hf : txtF s at_ most = f) (h0 : f ≠ 0) (ha : Blk X a #[.pointer (some ⟨D, 0, none⟩)] 36) (hm : Blk X m #[.int .i64 most] 3) :
    Calls Tryz.prog 74 #[.pointer (some ⟨a, 0, none⟩), .pointer (some ⟨m, 0, none⟩), .pointer (some ⟨b, 0, none⟩)] X fun x X' => Pan f x ∧ (∃ k, Cur X' D s k 0) ∧ But D X X' := by
  have HN := hide (text_no most f hs ha' h hT hD hf h0)
  have ca := ha.cell 0
  have cm := hm.cell 0
  clear h ha hm ha' hf hT hD
  go_enter Tryz.func74, Tryz.ntmps74
  go_wp2_with fail
  refine HN.out.mono ?_
  rintro x w1 ⟨rfl, ⟨k, hc⟩, hb⟩
  have HB := hide hb
  have HC := hide hc
  clear hb hc
  go_wp2
  exact ⟨rfl, rfl, ⟨k, HC.out⟩, HB.out⟩

def tgtV (s : ByteArray) (at_ e : Nat) (most : Int) : ByteArray := if e = 0 ∧ txtF s at_ most = 0 then txtS s at_ else ⟨#[]⟩
def tgtA (s : ByteArray) (at_ e : Nat) (most : Int) : Nat := if e = 0 ∧ txtF s at_ most = 0 then at_ + 2 + beA (bys s) at_ 2 else at_
def tgtE (s : ByteArray) (at_ e : Nat) (most : Int) : Nat := if e = 0 then txtF s at_ most else e

set_option maxHeartbeats 1000000 in
theorem Text_any (most : Int) (hs : s.size ≤ 140737488355328) (ha : at_ ≤ s.size) (h : Cur w D s at_ e) (hT : U8 w) (hD : OffT D) : Calls Tryz.prog 47 #[.pointer (some ⟨D, 0, none⟩), .int .i64 most] w fun x w' => x = .returned (.string (tgtV s at_ e most)) ∧ Cur w' D s (tgtA s at_ e most) (tgtE s at_ e most) ∧ But D w w' := by
  have hmf : ∀ (fn : Fn) (first cap : Array Value) (w : World), (Instr.makeFunc fn first cap).run Tryz.prog w = .ok (.func fn first cap) w := fun _ _ _ _ => rfl
  have hDl := h.lt
  have HB1 : Hid (Below w.heap.size w ((w.alloc (.cells #[.pointer (some ⟨D, 0, none⟩)] 36)).alloc (.cells #[.int .i64 most] 3))) := ((Below.refl _ _).alloc (Nat.le_refl _) _).alloc ((Below.refl _ _).alloc (Nat.le_refl _) _).size _
  have HB2 : Hid (Below w.heap.size w (((w.alloc (.cells #[.pointer (some ⟨D, 0, none⟩)] 36)).alloc (.cells #[.int .i64 most] 3)).alloc (.cells #[.string ⟨#[]⟩] 9))) := HB1.out.alloc HB1.out.size _
  have HC := hide (h.below HB2.out)
  have HT := hide (hT.below HB2.out)
  have K1 : Hid (Blk (((w.alloc (.cells #[.pointer (some ⟨D, 0, none⟩)] 36)).alloc (.cells #[.int .i64 most] 3)).alloc (.cells #[.string ⟨#[]⟩] 9)) w.heap.size #[.pointer (some ⟨D, 0, none⟩)] 36) := ((Blk.new _ _ _).alloc _).alloc _
  have K2 : Hid (Blk (((w.alloc (.cells #[.pointer (some ⟨D, 0, none⟩)] 36)).alloc (.cells #[.int .i64 most] 3)).alloc (.cells #[.string ⟨#[]⟩] 9)) (w.heap.size + 1) #[.int .i64 most] 3) := (Blk.newAt _ _ (by simp) _ _).alloc _
  have K3 : Hid (Blk (((w.alloc (.cells #[.pointer (some ⟨D, 0, none⟩)] 36)).alloc (.cells #[.int .i64 most] 3)).alloc (.cells #[.string ⟨#[]⟩] 9)) (w.heap.size + 2) #[.string ⟨#[]⟩] 9) := Blk.newAt _ _ (by simp) _ _
  have hz1 : w.heap.size < (((w.alloc (.cells #[.pointer (some ⟨D, 0, none⟩)] 36)).alloc (.cells #[.int .i64 most] 3)).alloc (.cells #[.string ⟨#[]⟩] 9)).heap.size := K1.out.lt
  have hz2 : w.heap.size + 1 < (((w.alloc (.cells #[.pointer (some ⟨D, 0, none⟩)] 36)).alloc (.cells #[.int .i64 most] 3)).alloc (.cells #[.string ⟨#[]⟩] 9)).heap.size := K2.out.lt
  have hz3 : w.heap.size + 2 < (((w.alloc (.cells #[.pointer (some ⟨D, 0, none⟩)] 36)).alloc (.cells #[.int .i64 most] 3)).alloc (.cells #[.string ⟨#[]⟩] 9)).heap.size := K3.out.lt
  have hent : ∀ args w, (callFunc 74 args).run Tryz.prog w = .ok (.enter 74 args) w := enters_of Tryz.func74 (by kernel_rfl) rfl
  clear h hT
  by_cases h0 : e = 0
  · subst h0
    by_cases hn : txtF s at_ most = 0
    · have e1 : tgtV s at_ 0 most = txtS s at_ := by unfold tgtV; rw [if_pos ⟨rfl, hn⟩]
      have e2 : tgtA s at_ 0 most = at_ + 2 + beA (bys s) at_ 2 := by unfold tgtA; rw [if_pos ⟨rfl, hn⟩]
      have e3 : tgtE s at_ 0 most = 0 := by unfold tgtE; rw [if_pos rfl, hn]
      rw [e1, e2, e3]
      have HA := hide (attempt_ok 74 #[.pointer (some ⟨w.heap.size, 0, none⟩), .pointer (some ⟨w.heap.size + 1, 0, none⟩), .pointer (some ⟨w.heap.size + 2, 0, none⟩)] (fun _ X' => Cur X' D s (at_ + 2 + beA (bys s) at_ 2) 0 ∧ Blk X' (w.heap.size + 2) #[.string (txtS s at_)] 9 ∧ But D w X') HC.out hent
        (fun X hX => cloT_ok w.heap.size (w.heap.size + 1) (w.heap.size + 2) most hs (HC.out.below hX) (HT.out.below hX) hD hn (K1.out.below hX hz1) (K2.out.below hX hz2) (K3.out.below hX hz3) (by omega) ((But.of_below HB2.out).trans (But.of_below hX)) (by omega)))
      clear e1 e2 e3 hent HC K1 K2 K3 hn HT hD
      go_enter Tryz.func47, Tryz.ntmps47
      go_wp2_with fail
      refine HA.out.mono ?_
      rintro x w1 ⟨rfl, X, hX, hc, hq, hb⟩
      have q0 := hq.cell 0
      have f0 := hq.free 0
      have Q1 := hide (hq.one (.string (txtS s at_)))
      have r0 := Q1.out.cell 0
      have HCC := hide hc
      have HBB := hide hb
      clear hc hq hb hX HA
      go_wp2
      simp [bodyPost, results, Tryz.results47, go_sem, r0]
      exact ⟨Blk.other HCC.out (a := ⟨w.heap.size + 2, 0, none⟩) (by show w.heap.size + 2 ≠ D; omega) _, HBB.out.setNew (by omega) _⟩
    · have e1 : tgtV s at_ 0 most = ⟨#[]⟩ := by unfold tgtV; rw [if_neg (by omega)]
      have e2 : tgtA s at_ 0 most = at_ := by unfold tgtA; rw [if_neg (by omega)]
      have e3 : tgtE s at_ 0 most = txtF s at_ most := by unfold tgtE; rw [if_pos rfl]
      rw [e1, e2, e3]
      have HA := hide (attempt_no 74 #[.pointer (some ⟨w.heap.size, 0, none⟩), .pointer (some ⟨w.heap.size + 1, 0, none⟩), .pointer (some ⟨w.heap.size + 2, 0, none⟩)] (txtF s at_ most) HC.out hent
        (fun X hX => cloT_no w.heap.size (w.heap.size + 1) (w.heap.size + 2) most _ hs ha (HC.out.below hX) (HT.out.below hX) hD rfl hn (K1.out.below hX hz1) (K2.out.below hX hz2)))
      generalize txtF s at_ most = f at *
      clear e1 e2 e3 hent HC K1 K2 hn HT hD
      go_enter Tryz.func47, Tryz.ntmps47
      go_wp2_with fail
      refine HA.out.mono ?_
      rintro x w1 ⟨rfl, hc, hb⟩
      have hq := hb.blk K3.out (by omega)
      have q0 := hq.cell 0
      have f0 := hq.free 0
      have Q1 := hide (hq.one (.string ⟨#[]⟩))
      have r0 := Q1.out.cell 0
      have HCC := hide hc
      have HBB := hide ((But.of_below HB2.out).trans hb)
      clear hc hq hb HA K3
      go_wp2
      simp [bodyPost, results, Tryz.results47, go_sem, r0]
      exact ⟨Blk.other HCC.out (a := ⟨w.heap.size + 2, 0, none⟩) (by show w.heap.size + 2 ≠ D; omega) _, HBB.out.setNew (by omega) _⟩
  · have e1 : tgtV s at_ e most = ⟨#[]⟩ := by unfold tgtV; rw [if_neg (by omega)]
    have e2 : tgtA s at_ e most = at_ := by unfold tgtA; rw [if_neg (by omega)]
    have e3 : tgtE s at_ e most = e := by unfold tgtE; rw [if_neg h0]
    rw [e1, e2, e3]
    have HA := hide (attempt_idle (.func (.func 74) #[] #[.pointer (some ⟨w.heap.size, 0, none⟩), .pointer (some ⟨w.heap.size + 1, 0, none⟩), .pointer (some ⟨w.heap.size + 2, 0, none⟩)]) HC.out h0)
    clear e1 e2 e3 hent K1 K2 HT hD
    go_enter Tryz.func47, Tryz.ntmps47
    go_wp2_with fail
    refine HA.out.mono ?_
    rintro x w1 ⟨rfl, hb⟩
    have hq := K3.out.below hb hz3
    have q0 := hq.cell 0
    have f0 := hq.free 0
    have Q1 := hide (hq.one (.string ⟨#[]⟩))
    have r0 := Q1.out.cell 0
    have HCC := hide (HC.out.below hb)
    have HBB := hide ((But.of_below (D := D) HB2.out).trans (But.of_below hb))
    clear hq hb HA K3 HC
    go_wp2
    simp [bodyPost, results, Tryz.results47, go_sem, r0]
    exact ⟨Blk.other HCC.out (a := ⟨w.heap.size + 2, 0, none⟩) (by show w.heap.size + 2 ≠ D; omega) _, HBB.out.setNew (by omega) _⟩

end

end Go.Proofs.YtihnakblcfealaaGreatDoor

namespace Go.Proofs.YtihnakblcfealaaGreatDoor
open Go.RowKit

theorem runesI_neg {l : List UInt8} (h : (runesL l).isSome = false) : runesI l < 0 := by
  unfold runesI
  cases q : runesL l with
  | none => decide
  | some n => rw [q] at h; simp at h
theorem runesI_pos {l : List UInt8} (h : (runesL l).isSome = true) : ¬ runesI l < 0 := by
  unfold runesI
  cases q : runesL l with
  | none => rw [q] at h; simp at h
  | some n => exact Int.not_lt.2 (Int.natCast_nonneg n)

set_option maxRecDepth 100000 in
set_option maxHeartbeats 4000000 in
theorem rText_any {w : World} {D : Nat} {s : ByteArray} {p e : Nat} (hs : s.size ≤ 140737488355328) (hp : p ≤ s.size) (h : CuR w D s p e) :
    Calls Tryz.prog 12 #[.pointer (some ⟨D, 0, none⟩), .int .i64 1024] w fun x w' => x = .returned (.string (tgtV s p e 1024)) ∧ CuR w' D s (tgtA s p e 1024) (tgtE s p e 1024) ∧ But D w w' := by
  have HG : Hid (Calls Tryz.prog 11 #[.pointer (some ⟨D, 0, none⟩), .int .i64 2] w fun x w' => x = .returned (.int .i64 (getV s p e 2 : Int)) ∧ CuR w' D s (getA s p e 2) (getE s p e 2) ∧ But D w w') := hide (rGet_any 2 hs hp (by decide) h)
  have c1 := Blk.cell h 1
  clear h
  by_cases he : e = 0
  · subst he
    by_cases hn : p + 2 ≤ s.size
    · have EV : getV s p 0 2 = beA (bys s) p 2 := by unfold getV; rw [if_pos ⟨rfl, hn⟩]
      have EA : getA s p 0 2 = p + 2 := by unfold getA; rw [if_pos ⟨rfl, hn⟩]
      have EE : getE s p 0 2 = 0 := by unfold getE; rw [if_pos rfl, if_pos hn]
      rw [EV, EA, EE] at HG
      clear EV EA EE
      have hNl : beA (bys s) p 2 < 65536 := beA_lt (bys s) p 2
      have F0 : txtF s p 1024 = if (1024 : Int) < (beA (bys s) p 2 : Int) then 112 else if s.size < p + 2 + beA (bys s) p 2 then 110 else if (runesL (bys (s.extract (p + 2) (p + 2 + beA (bys s) p 2)))).isSome = false then 111 else 0 := by
        unfold txtF; rw [if_neg (by omega)]
      have V0 : txtS s p = s.extract (p + 2) (p + 2 + beA (bys s) p 2) := rfl
      have A0 : tgtA s p 0 1024 = if txtF s p 1024 = 0 then p + 2 + beA (bys s) p 2 else p := by unfold tgtA; by_cases q : txtF s p 1024 = 0 <;> simp [q]
      have B0 : tgtV s p 0 1024 = if txtF s p 1024 = 0 then txtS s p else ⟨#[]⟩ := by unfold tgtV; by_cases q : txtF s p 1024 = 0 <;> simp [q]
      have E0 : tgtE s p 0 1024 = txtF s p 1024 := by unfold tgtE; rw [if_pos rfl]
      rw [A0, B0, E0, V0]
      clear A0 B0 E0 V0
      have HR : Hid (∀ X, Calls Tryz.prog 33 #[.string (s.extract (p + 2) (p + 2 + beA (bys s) p 2))] X fun e w' => e = .returned (.int .i64 (runesI (bys (s.extract (p + 2) (p + 2 + beA (bys s) p 2))))) ∧ X = w') := hide (fun X => rRunes_any _ X (by rw [ByteArray.size_extract]; omega))
      obtain ⟨N, hN⟩ : ∃ N, N = beA (bys s) p 2 := ⟨_, rfl⟩
      rw [← hN] at HG hNl F0 HR ⊢
      clear hN
      by_cases h2 : (1024 : Int) < (N : Int)
      · rw [if_pos h2] at F0
        rw [F0, if_neg (by decide), if_neg (by decide)]
        clear F0 HR
        go_enter Tryz.func12, Tryz.ntmps12
        go_wp2_with fail
        refine HG.out.mono ?_
        rintro x w1 ⟨rfl, hc, hb⟩
        have HC := hide (CuR.move hc p)
        have HB := hide (hb.set 1 (.int .i64 (p : Int)))
        have c0 := Blk.cell hc 0
        have c1 := Blk.cell hc 1
        have c2 := Blk.cell hc 2
        have f1 := Blk.free hc 1
        have f2 := Blk.free hc 2
        clear hc hb HG
        go_wp2
        go_ret
        exact ⟨rfl, HC.out.fault 112, HB.out.set _ _⟩
      rw [if_neg h2] at F0
      by_cases h3 : s.size < p + 2 + N
      · rw [if_pos h3] at F0
        rw [F0, if_neg (by decide), if_neg (by decide)]
        clear F0 HR
        have h3' : (s.size : Int) - (p : Int) - 2 < (N : Int) := by omega
        clear h3
        go_enter Tryz.func12, Tryz.ntmps12
        go_wp2_with fail
        refine HG.out.mono ?_
        rintro x w1 ⟨rfl, hc, hb⟩
        have HC := hide (CuR.move hc p)
        have HB := hide (hb.set 1 (.int .i64 (p : Int)))
        have c0 := Blk.cell hc 0
        have c1 := Blk.cell hc 1
        have c2 := Blk.cell hc 2
        have f1 := Blk.free hc 1
        have f2 := Blk.free hc 2
        clear hc hb HG
        go_wp2
        go_ret
        exact ⟨rfl, HC.out.fault 110, HB.out.set _ _⟩
      rw [if_neg h3] at F0
      have h3' : ¬ (s.size : Int) - (p : Int) - 2 < (N : Int) := by omega
      clear h3
      have hq1 : ((p : Int) + 2).toNat = p + 2 := by omega
      have hq2 : ((p : Int) + 2 + (N : Int)).toNat = p + 2 + N := by omega
      have hq3 : (p : Int) + 2 + (N : Int) ≤ (s.size : Int) := by omega
      cases h4 : (runesL (bys (s.extract (p + 2) (p + 2 + N)))).isSome with
      | false =>
        rw [if_pos h4] at F0
        rw [F0, if_neg (by decide), if_neg (by decide)]
        have h5 := runesI_neg h4
        clear F0
        generalize runesI (bys (s.extract (p + 2) (p + 2 + N))) = R at *
        clear h4
        go_enter Tryz.func12, Tryz.ntmps12
        go_wp2_with fail
        refine HG.out.mono ?_
        rintro x w1 ⟨rfl, hc, hb⟩
        have HC := hide (CuR.move hc p)
        have HB := hide (hb.set 1 (.int .i64 (p : Int)))
        have c0 := Blk.cell hc 0
        have c1 := Blk.cell hc 1
        have c2 := Blk.cell hc 2
        have f1 := Blk.free hc 1
        have f2 := Blk.free hc 2
        clear hc hb HG
        go_wp2_with fail
        refine (HR.out _).mono ?_
        rintro e w2 ⟨rfl, rfl⟩
        go_wp2
        go_ret
        exact ⟨rfl, HC.out.fault 111, HB.out.set _ _⟩
      | true =>
        rw [if_neg (by rw [h4]; decide)] at F0
        rw [F0, if_pos rfl, if_pos rfl]
        have h5 := runesI_pos h4
        clear F0
        generalize runesI (bys (s.extract (p + 2) (p + 2 + N))) = R at *
        clear h4
        go_enter Tryz.func12, Tryz.ntmps12
        go_wp2_with fail
        refine HG.out.mono ?_
        rintro x w1 ⟨rfl, hc, hb⟩
        have HC := hide (CuR.move hc p)
        have HB := hide (hb.set 1 (.int .i64 (p : Int)))
        have c0 := Blk.cell hc 0
        have c1 := Blk.cell hc 1
        have c2 := Blk.cell hc 2
        have f1 := Blk.free hc 1
        have f2 := Blk.free hc 2
        clear hc hb HG
        go_wp2_with fail
        refine (HR.out _).mono ?_
        rintro e w2 ⟨rfl, rfl⟩
        go_wp2
        go_ret
        exact ⟨rfl, HC.out.move _, HB.out.set _ _⟩
    · have EV : getV s p 0 2 = 0 := by unfold getV; rw [if_neg (fun q => hn q.2)]
      have EA : getA s p 0 2 = p := by unfold getA; rw [if_neg (fun q => hn q.2)]
      have EE : getE s p 0 2 = 110 := by unfold getE; rw [if_pos rfl, if_neg hn]
      rw [EV, EA, EE] at HG
      have F0 : txtF s p 1024 = 110 := by unfold txtF; rw [if_pos (by omega)]
      have A0 : tgtA s p 0 1024 = p := by unfold tgtA; rw [F0]; rfl
      have B0 : tgtV s p 0 1024 = ⟨#[]⟩ := by unfold tgtV; rw [F0]; rfl
      have E0 : tgtE s p 0 1024 = 110 := by unfold tgtE; rw [F0]; rfl
      rw [A0, B0, E0]
      clear EV EA EE F0 A0 B0 E0
      go_enter Tryz.func12, Tryz.ntmps12
      go_wp2_with fail
      refine HG.out.mono ?_
      rintro x w1 ⟨rfl, hc, hb⟩
      have HC := hide hc
      have HB := hide hb
      have c2 := Blk.cell hc 2
      clear hc hb HG
      go_wp2
      go_ret
      exact ⟨rfl, HC.out, HB.out⟩
  · have EV : getV s p e 2 = 0 := by unfold getV; rw [if_neg (fun q => he q.1)]
    have EA : getA s p e 2 = p := by unfold getA; rw [if_neg (fun q => he q.1)]
    have EE : getE s p e 2 = e := by unfold getE; rw [if_neg he]
    rw [EV, EA, EE] at HG
    have A0 : tgtA s p e 1024 = p := by unfold tgtA; rw [if_neg (fun q => he q.1)]
    have B0 : tgtV s p e 1024 = ⟨#[]⟩ := by unfold tgtV; rw [if_neg (fun q => he q.1)]
    have E0 : tgtE s p e 1024 = e := by unfold tgtE; rw [if_neg he]
    rw [A0, B0, E0]
    have he' : ¬ (e : Int) = 0 := by omega
    clear EV EA EE A0 B0 E0 he
    go_enter Tryz.func12, Tryz.ntmps12
    go_wp2_with fail
    refine HG.out.mono ?_
    rintro x w1 ⟨rfl, hc, hb⟩
    have HC := hide hc
    have HB := hide hb
    have c2 := Blk.cell hc 2
    clear hc hb HG
    go_wp2
    go_ret
    exact ⟨rfl, HC.out, HB.out⟩

end Go.Proofs.YtihnakblcfealaaGreatDoor

namespace Go.Proofs.YtihnakblcfealaaGreatDoor
open Go.RowKit Go.Maps

def encT (ts : List Tab) : List UInt8 := p2 ((poolL (textsL ts)).length : Int) ++ txtB (poolL (textsL ts)) ++ p1 (ts.length : Int) ++ ts.flatMap (tabB (poolL (textsL ts)))

theorem tabB_len (ps : List (List UInt8)) (t : Tab) : (tabB ps t).length = 5 + 7 * t.ents.length := by
  unfold tabB
  rw [List.length_append, entsB_len]
  rfl
theorem tabsB_len (ps : List (List UInt8)) : ∀ ts : List Tab, (∀ t ∈ ts, t.ents.length ≤ 1024) → (ts.flatMap (tabB ps)).length ≤ 8000 * ts.length
  | [], _ => Nat.zero_le _
  | t :: r, h => by
    have h1 := tabsB_len ps r (fun t ht => h t (List.mem_cons_of_mem _ ht))
    have h2 := h t (List.mem_cons_self ..)
    rw [List.flatMap_cons, List.length_append, tabB_len, List.length_cons]
    omega
theorem tabsB_next (ps : List (List UInt8)) (ts : List Tab) (k : Nat) (hk : k < ts.length) : (ts.take (k + 1)).flatMap (tabB ps) = (ts.take k).flatMap (tabB ps) ++ tabB ps (tabN ts k) := by
  rw [List.take_add_one, tabN_some hk, List.flatMap_append]
  simp

theorem texts_short {ts : List Tab} (hz : SzT ts) : ∀ t ∈ textsL ts, t.size ≤ 140737488355328 := by
  intro t ht
  unfold textsL at ht
  obtain ⟨a, ha, hta⟩ := List.mem_flatMap.1 ht
  obtain ⟨k, hk, rfl⟩ := List.getElem_of_mem ha
  have hzk := hz k
  rw [tabN_get (List.getElem?_eq_getElem hk)] at hzk
  unfold tabL at hta
  rcases List.mem_cons.1 hta with q | q
  · rw [q]; exact hzk.1
  · obtain ⟨e, he, hte⟩ := List.mem_flatMap.1 q
    obtain ⟨j, hj, rfl⟩ := List.getElem_of_mem he
    have hzj := hzk.2.2 j
    rw [entN_get (List.getElem?_eq_getElem hj)] at hzj
    unfold entL at hte
    split at hte
    · simp at hte; rw [hte]; exact hzj.1
    · simp at hte
      rcases hte with q | q
      · rw [q]; exact hzj.1
      · rw [q]; exact hzj.2

theorem pool_short {ts : List Tab} (hz : SzT ts) : ∀ s ∈ poolL (textsL ts), s.length ≤ 140737488355328 := by
  intro s hs
  obtain ⟨t, ht, rfl⟩ := (pool_mem _ _).1 hs
  rw [bys_len]
  exact texts_short hz t ht

def encA (ts : List Tab) : Value := .tuple #[.string (if checkT ts = 0 then ⟨(encT ts).toArray⟩ else ⟨#[]⟩), .int .i64 (checkT ts : Int)]

set_option maxRecDepth 100000 in
set_option maxHeartbeats 4000000 in
theorem Encode_any {w : World} {v : Value} {ts : List Tab} (h : TSl w v ts) (hl : ts.length ≤ 9223372036854775806) (hz : SzT ts) (hT : U8 w) : Calls Tryz.prog 10 #[.agg #[v]] w fun e w' => e = .returned (encA ts) ∧ Below w.heap.size w w' := by
  have hmm := @run_makeMap Tryz.prog
  obtain ⟨WA, hWA⟩ : ∃ WA, WA = w.alloc (.cells #[v] 24) := ⟨_, rfl⟩
  have BA : Hid (Below w.heap.size w WA) := hide (by rw [hWA]; exact (Below.refl _ _).alloc (Nat.le_refl _) _)
  have Q : Hid (Blk WA w.heap.size #[v] 24) := hide (by rw [hWA]; exact Blk.newAt w w.heap.size rfl _ _)
  have HWA := hide hWA.symm
  have SA := hide (h.below BA.out)
  have TA := hide (hT.below BA.out)
  have CK := hide (Check_any SA.out hl hz TA.out)
  have RE : Hid (encA ts = .tuple #[.string (if checkT ts = 0 then ⟨(encT ts).toArray⟩ else ⟨#[]⟩), .int .i64 (checkT ts : Int)]) := hide rfl
  have q0 := Q.out.cell 0
  have CZ : Hid (checkT ts = 0 → countsOk ts = true ∧ (∀ k, k < ts.length → tabE ts k = 0) ∧ poolS (textsL ts) ≤ 4096) := hide check_zero
  generalize encA ts = R at *
  generalize checkT ts = C at *
  obtain ⟨ao, cap, rfl, hcap, hat⟩ := h
  have HZ := hide hz
  clear hWA hT hz hat
  by_cases hC : C = 0
  · subst hC
    rw [if_pos rfl] at RE
    rw [show ((0 : Nat) : Int) = 0 from rfl] at CK RE
    obtain ⟨z1, _, z3⟩ := CZ.out rfl
    obtain ⟨h1, h16, he⟩ := counts_len z1
    have HE := hide he
    obtain ⟨b, o, rfl, hb, hcl⟩ : ∃ b o, ao = some ⟨b, o, none⟩ ∧ b < WA.heap.size ∧ ∀ i, i < ts.length → TabAt WA b o i (tabN ts i) := by
      obtain ⟨ao', cap', e1, _, h3⟩ := SA.out
      simp only [Value.slice.injEq] at e1
      obtain ⟨rfl, _, rfl⟩ := e1
      rcases h3 with q | q
      · rw [q] at h1; simp at h1
      · exact q
    have HCL := hide hcl
    have HBB := hide hb
    have PN := hide (pool_nodup (textsL ts))
    have PS := hide (pool_short HZ.out)
    have PLn := hide (pool_len (textsL ts))
    have ET : Hid (encT ts = p2 ((poolL (textsL ts)).length : Int) ++ txtB (poolL (textsL ts)) ++ p1 (ts.length : Int) ++ ts.flatMap (tabB (poolL (textsL ts)))) := hide rfl
    have TX : Hid (∀ X, Below WA.heap.size WA X → Calls Tryz.prog 27 #[.slice (some ⟨b, o, none⟩) ts.length cap] X fun e w' => e = .returned (.map (some X.heap.size)) ∧ (∃ n, SetAt w' X.heap.size n (textsL ts)) ∧ Below X.heap.size X w') := hide (fun X hX => textsOf_any (SA.out.below hX) h16 HZ.out HE.out)
    have RI : Hid (∀ X g n, SetAt X g n (textsL ts) → Calls Tryz.prog 28 #[.map (some g)] X fun e w' => ∃ q cap, e = .returned (.slice (some ⟨q, 0, none⟩) (poolL (textsL ts)).length cap) ∧ RowS w' X.heap.size (.slice (some ⟨q, 0, none⟩) (poolL (textsL ts)).length cap) (poolL (textsL ts)) ∧ Below X.heap.size X w') := hide (fun X g n hX => rising_any hX (by omega))
    obtain ⟨ps, hps⟩ : ∃ ps, ps = poolL (textsL ts) := ⟨_, rfl⟩
    rw [← hps] at PN PS PLn ET RI
    obtain ⟨N, hN⟩ : ∃ N, N = ps.length := ⟨_, rfl⟩
    have HN := hide hN
    have hNb : N ≤ 4096 := by rw [hN, PLn.out]; exact z3
    obtain ⟨L, hL⟩ : ∃ L, L = ts.length := ⟨_, rfl⟩
    have HL := hide hL
    rw [← hL] at hl h1 h16 hcap CK TX Q ET q0 HWA
    rw [← hL]
    have LT : Hid (∀ k, (ts.take k).length ≤ 16 ∧ ((ts.take k).flatMap (tabB ps)).length ≤ 8000 * 16) := hide (fun k => by
      have a1 : (ts.take k).length ≤ 16 := by rw [List.length_take]; omega
      have a2 := tabsB_len ps (ts.take k) (fun t ht => by
        obtain ⟨i, hi, rfl⟩ := mem_tabN (List.mem_of_mem_take ht)
        exact HE.out i)
      exact ⟨a1, Nat.le_trans a2 (Nat.mul_le_mul_left _ a1)⟩)
    clear z1 z3 he hb hcl hps hL SA PLn hN CZ
    go_enter Tryz.func10, Tryz.ntmps10
    go_wp2_with (simp only [HWA.out])
    refine CK.out.mono ?_
    rintro e w1 ⟨rfl, hb1⟩
    obtain ⟨W2, hW2⟩ : ∃ W2, W2 = (w1.alloc (.map #[] 0)).alloc (.cells #[.pointer none, .slice none 0 0, .map (some w1.heap.size)] 71) := ⟨_, rfl⟩
    have hGs : (w1.alloc (.map #[] 0)).heap.size = w1.heap.size + 1 := by simp
    have B12 : Below w1.heap.size w1 W2 := by rw [hW2]; exact ((Below.refl _ _).alloc (Nat.le_refl _) _).alloc ((Below.refl _ _).alloc (Nat.le_refl _) _).size _
    have B2 := hide (hb1.trans (B12.mono hb1.size))
    have P2 : Hid (PlAt W2 w1.heap.size 0 []) := hide (by rw [hW2]; exact (PlAt.made w1).below ((Below.refl _ _).alloc (Nat.le_refl _) _))
    have R2 : Hid (Wr W2 (w1.heap.size + 1) w1.heap.size []) := hide (by
      refine ⟨.pointer none, .slice none 0 0, ?_, .inl rfl, World.ownsRow_nil _ _ _ _⟩
      rw [hW2]
      exact Blk.newAt _ _ hGs _ _)
    have q2 := (Q.out.below B2.out Q.out.lt).cell 0
    have TC := hide (TX.out W2 B2.out)
    have HW2 : Hid ((w1.alloc (.map #[] 0)).alloc (.cells #[.pointer none, .slice none 0 0, .map (some w1.heap.size)] 71) = W2) := hide hW2.symm
    have HGA : Hid (WA.heap.size ≤ w1.heap.size) := hide hb1.size
    have HWAs : Hid (w.heap.size < WA.heap.size) := hide Q.out.lt
    clear hb1 CK q0 hW2 hGs B12 TX
    go_wp2_with (simp only [HW2.out])
    refine TC.out.mono ?_
    rintro e w3 ⟨rfl, ⟨n3, hs3⟩, hb3⟩
    have B3 := hide (B2.out.trans (hb3.mono B2.out.size))
    have P3 := hide (P2.out.below hb3)
    have R3 := hide (R2.out.below hb3)
    have RC := hide (RI.out w3 _ n3 hs3)
    clear hs3 hb3 TC RI P2 R2 HW2 q2
    generalize hG : w1.heap.size = G at *
    generalize hD : G + 1 = D at *
    have hGD : G < D := by omega
    clear hG hD
    go_wp2_with fail
    refine RC.out.mono ?_
    rintro e w4 ⟨q, capq, rfl, hrow, hb4⟩
    have B4 := hide (B3.out.trans (hb4.mono B3.out.size))
    have P4 := hide (P3.out.below hb4)
    have R4 := hide (R3.out.below hb4)
    have hD3 : D < w3.heap.size := R3.out.lt
    have hcq : N ≤ capq := by
      rcases hrow.2 with ⟨q, _⟩ | ⟨g', cap', cur', q, _, _, q2, _⟩
      · cases q
      · simp only [Value.slice.injEq] at q
        rw [HN.out, q.2.2]; exact q2
    have CT : Hid (Calls Tryz.prog 26 #[.pointer (some ⟨D, 0, none⟩), .slice (some ⟨q, 0, none⟩) N capq] w4 fun x w' => x = .returned (.tuple #[]) ∧ Wr w' D G (p2 (N : Int) ++ txtB ps) ∧ PlAt w' G N ps ∧ Below G w4 w') := hide (wtexts_any R4.out P4.out HN.out (by omega) PS.out hcq hrow hGD hD3 TA.out B4.out HGA.out)
    rw [← HN.out]
    clear hrow hb4 RC B3 P3 R3 P4
    go_wp2_with fail
    refine CT.out.mono ?_
    rintro e w5 ⟨rfl, hr5, hp5, hb5⟩
    have hG4 : G ≤ w4.heap.size := Nat.le_of_lt (Nat.lt_trans hGD R4.out.lt)
    have B5 := hide (B4.out.trans (hb5.mono HGA.out))
    have R5 := hide hr5
    have P5 := hide hp5
    have q5 := (Q.out.below B5.out Q.out.lt).cell 0
    have LN : Hid ((p2 (N : Int) ++ txtB ps).length ≤ 2 + 1026 * 4096) := hide (by
      rw [List.length_append]
      have a1 := txtB_len ps
      rw [← HN.out] at a1
      have a2 : (p2 (N : Int)).length = 2 := rfl
      rw [a2]
      have : 1026 * N ≤ 1026 * 4096 := Nat.mul_le_mul_left _ hNb
      omega)
    have C6 := hide (Put8_any (L : Int) w5)
    clear hr5 hp5 hb5 CT hG4 R4 B4
    go_wp2_with fail
    refine C6.out.mono ?_
    rintro e w6 ⟨rfl, hb6⟩
    have B6 := hide (B5.out.trans (hb6.mono B5.out.size))
    have R6 := hide (R5.out.below hb6)
    have P6 := hide (P5.out.below hb6)
    have C7 := hide (put_any (⟨#[bN (L : Int) 0]⟩ : ByteArray) R6.out (by have := LN.out; show _ + 1 ≤ _; omega))
    clear hb6 C6 R5 P5 B5 q5
    go_wp2_with fail
    refine C7.out.mono ?_
    rintro e w7 ⟨rfl, hr7, hk7⟩
    have hDA : Hid (WA.heap.size ≤ D) := hide (Nat.le_trans HGA.out (Nat.le_of_lt hGD))
    have B7 := hide (Kw.frame B6.out hk7 hDA.out)
    have R7 : Hid (Wr w7 D G (p2 (N : Int) ++ txtB ps ++ p1 (L : Int))) := hide hr7
    have P7 := hide (P6.out.kw hk7 hGD)
    have q7 := (Q.out.below B7.out Q.out.lt).cell 0
    have ET2 : Hid (encT ts = p2 (N : Int) ++ txtB ps ++ p1 (L : Int) ++ ts.flatMap (tabB ps)) := hide (by rw [ET.out, HN.out])
    have LN2 : Hid ((p2 (N : Int) ++ txtB ps ++ p1 (L : Int)).length ≤ 3 + 1026 * 4096) := hide (by
      rw [List.length_append]
      have := LN.out
      have a2 : (p1 (L : Int)).length = 1 := rfl
      omega)
    have LNE : Hid (p2 (N : Int) ++ txtB ps ++ p1 (L : Int) ≠ []) := hide (by unfold p2; simp)
    generalize hl1 : p2 (N : Int) ++ txtB ps ++ p1 (L : Int) = l1 at *
    clear hl1 hr7 hk7 C7 R6 P6 B6 ET LN
    go_wp2
    go_loopw [28] (fun p wr => ∃ k : Nat, k ≤ L ∧ p = .int .i64 (k : Int) ∧ Hid (Wr wr D G (l1 ++ (ts.take k).flatMap (tabB ps))) ∧ Hid (Kw D w7 wr)) (fun p _ => L - (intOf p).toNat)
    case atStart => exact ⟨0, Nat.zero_le _, rfl, hide (by simpa using R7.out), Kw.refl _ _⟩
    case round =>
      obtain ⟨k, hk, rfl, HWr, HKw⟩ := hrel
      have K0 := hide (Kw.frame B7.out HKw.out hDA.out)
      by_cases hlt : k < L
      · have hlt' : (k : Int) < (L : Int) := by omega
        have hkt : k < ts.length := by rw [← HL.out]; exact hlt
        obtain ⟨d0, d1, ve, d2, hes⟩ := HCL.out k hkt
        have c0 := (K0.out.cell HBB.out).trans d0
        have c1 := (K0.out.cell HBB.out).trans d1
        have c2 := (K0.out.cell HBB.out).trans d2
        have hem := HE.out k
        obtain ⟨zn, _, zE⟩ := HZ.out k
        have NX := hide (tabsB_next ps ts k hkt)
        have LK : Hid ((l1 ++ (ts.take k).flatMap (tabB ps)).length ≤ 100000000000) := hide (by
          rw [List.length_append]
          have a1 := LN2.out
          have a2 := (LT.out k).2
          omega)
        obtain ⟨g, hg⟩ : ∃ g, g = tabN ts k := ⟨_, rfl⟩
        rw [← hg] at c0 c1 hem zn zE NX hes
        have hes' := hes
        obtain ⟨a2, cap2, rfl, hc2, _⟩ := hes'
        obtain ⟨WB, hWB⟩ : ∃ WB, WB = wr.alloc (.cells #[.string g.name, .int .i64 g.parent, .slice a2 g.ents.length cap2] 31) := ⟨_, rfl⟩
        have BB : Hid (Below wr.heap.size wr WB) := hide (by rw [hWB]; exact (Below.refl _ _).alloc (Nat.le_refl _) _)
        have QB := hide (Blk.newAt wr wr.heap.size rfl #[.string g.name, .int .i64 g.parent, .slice a2 g.ents.length cap2] 31)
        rw [← hWB] at QB
        have HWB := hide hWB.symm
        have CB := hide (table_any g (HWr.out.below BB.out) ((P7.out.kw HKw.out hGD).below BB.out) PN.out hGD LK.out zn hes zE hem (K0.out.trans (BB.out.mono K0.out.size)) hDA.out)
        have KB := hide (HKw.out.trans (.of_below BB.out))
        have y0 := QB.out.cell 0
        have y1 := QB.out.cell 1
        have y2 := QB.out.cell 2
        generalize g.ents.length = M at *
        clear hg hkt d0 d1 d2 hes hWB zn zE LK HWr HKw BB K0
        go_wp2_with (simp only [HWB.out])
        refine CB.out.mono ?_
        rintro x w8 ⟨rfl, hr8, hk8⟩
        have WN : Hid (Wr w8 D G (l1 ++ (ts.take (k + 1)).flatMap (tabB ps))) := hide (by rw [NX.out, ← List.append_assoc]; exact hr8)
        have KN := hide (KB.out.trans hk8)
        clear hr8 hk8 CB KB NX
        go_wp2
        exact ⟨⟨k + 1, by omega, by go_num, WN, KN⟩, by simp [intOf]; omega⟩
      · obtain rfl : k = L := by omega
        have hlt' : ¬ (k : Int) < (k : Int) := by omega
        have WN : Hid (Wr wr D G (encT ts)) := hide (by
          have := HWr.out
          rw [List.take_of_length_le (l := ts) (by rw [← HL.out]; exact Nat.le_refl _)] at this
          rw [ET2.out]
          exact this)
        have NE : Hid (encT ts ≠ []) := hide (by rw [ET2.out]; exact fun q => LNE.out (List.append_eq_nil_iff.1 q).1)
        have CS := hide (wString_any (B := w.heap.size) WN.out NE.out (Nat.le_trans (Nat.le_of_lt HWAs.out) hDA.out))
        have BF := hide (BA.out.trans (K0.out.mono BA.out.size))
        clear HWr hlt
        go_wp2_with fail
        refine CS.out.mono ?_
        rintro x w9 ⟨rfl, hb9⟩
        have B9 := hide (BF.out.trans hb9)
        clear hb9 CS
        go_wp2
        go_ret2
        exact ⟨by rw [RE.out]; rfl, B9.out⟩
  · have hC' : ((C : Int) == 0) = false := beq_eq_false_iff_ne.2 (by omega)
    have hC2 : ((C : Int) != 0) = true := by rw [bne, hC']; rfl
    rw [if_neg hC] at RE
    clear CZ
    go_enter Tryz.func10, Tryz.ntmps10
    go_wp2_with (simp only [HWA.out])
    refine CK.out.mono ?_
    rintro e w1 ⟨rfl, hb1⟩
    have BV := hide (BA.out.trans (hb1.mono BA.out.size))
    clear hb1 CK
    go_wp2
    go_ret2
    exact ⟨by rw [RE.out]; rfl, BV.out⟩

end Go.Proofs.YtihnakblcfealaaGreatDoor
