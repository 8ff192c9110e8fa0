/-
  A variable of several cells, in a block by itself.
  A variable's cells, all at once; a variable behind what was laid and called.
  Worlds that are as they were, but for one block and for new ones.
  Plain mathematics: decimal digits, the numbers that they are, and texts behind texts.
  Runes, in the document's words, as plain data; that the library's decoder tells the same.
  What cursor's Valid, Rune and Runes do.
  A cursor in memory; what New, At, Fault, End, left and take do.
  What cursor's number does.
  What cursor's attempt does, and its deferred function.
  What cursor's Get8, Get16 and Get32 do.
-/
import Derived.Test.YthknmkebdlnahaaDoorDNorm
import Derived.Handy
import Derived.Test.YthknmkebdlnahaaDoorDCarry
import Derived.Lib.ItoaNum
import Derived.Lib.ValidLaws
import Derived.Lib.RuneCount
import Derived.Lib.TrimUEq
import Derived.Test.YthknmkebdlnahaaDoorDShelf
import Derived.Laws.BitsAllLaws
import Derived.Laws.Runes
import Derived.Defers
import Derived.Recover
namespace Go.Proofs.YthknmkebdlnahaaDoor
open Go.RowKit

def Blk (w : World) (b : Nat) (cs : Array Value) (t : TypeId) : Prop := w.heap[b]? = some (.cells cs t (0, 0))

section
variable {w w' : World} {b : Nat} {cs : Array Value} {t : TypeId}

theorem Blk.cell (h : Blk w b cs t) (i : Nat) : w.cell? ⟨b, i, none⟩ = cs[i]? := by unfold Blk at h; simp [World.cell?, h]
theorem Blk.free (h : Blk w b cs t) (i : Nat) : w.frozen? ⟨b, i, none⟩ = false := by unfold Blk at h; simp [World.frozen?, h]
theorem Blk.new (w : World) (cs : Array Value) (t : TypeId) : Blk (w.alloc (.cells cs t)) w.heap.size cs t := heap_alloc_new _ _
theorem Blk.newAt (w : World) (n : Nat) (hn : w.heap.size = n) (cs : Array Value) (t : TypeId) : Blk (w.alloc (.cells cs t)) n cs t := by subst hn; exact Blk.new _ _ _
theorem Blk.lt (h : Blk w b cs t) : b < w.heap.size := lt_of_block h
theorem Blk.below (h : Blk w b cs t) {B : Nat} (hb : Below B w w') (hg : b < B) : Blk w' b cs t := by
  unfold Blk at *
  rw [hb.block b hg]; exact h
theorem Blk.alloc (h : Blk w b cs t) (o : Obj) : Blk (w.alloc o) b cs t := by
  have hlt := h.lt
  unfold Blk at *
  rw [Below.heap_alloc _ _ _ hlt]; exact h
end

theorem Blk.other {w : World} {b : Nat} {t : TypeId} {cs : Array Value} (h : Blk w b cs t) {a : Addr} (ha : a.block ≠ b) (v : Value) : Blk (w.setCell a v) b cs t := by
  unfold Blk at *
  simp only [World.setCell, Array.getElem?_modify, if_neg ha, h]

end Go.Proofs.YthknmkebdlnahaaDoor

namespace Go.Proofs.YthknmkebdlnahaaDoor
open Go.RowKit

end Go.Proofs.YthknmkebdlnahaaDoor

namespace Go.Proofs.YthknmkebdlnahaaDoor
open Go.RowKit

structure But (D : Nat) (w w' : World) : Prop where
  os : w'.os = w.os
  tape : w'.tape = w.tape
  output : w'.output = w.output
  size : w.heap.size ≤ w'.heap.size
  block : ∀ b, b < w.heap.size → b ≠ D → w'.heap[b]? = w.heap[b]?

section
variable {D : Nat} {a b c : World}
theorem But.refl (D : Nat) (w : World) : But D w w := ⟨rfl, rfl, rfl, Nat.le_refl _, fun _ _ _ => rfl⟩
theorem But.of_below (h : Below a.heap.size a b) : But D a b := ⟨h.os, h.tape, h.output, h.size, fun i hi _ => h.block i hi⟩
theorem But.trans (h : But D a b) (k : But D b c) : But D a c :=
  ⟨k.os.trans h.os, k.tape.trans h.tape, k.output.trans h.output, Nat.le_trans h.size k.size, fun i hi hn => (k.block i (Nat.lt_of_lt_of_le hi h.size) hn).trans (h.block i hi hn)⟩
theorem But.set (h : But D a b) (i : Nat) (v : Value) : But D a (b.setCell ⟨D, i, none⟩ v) := by
  refine ⟨h.os, h.tape, h.output, by simpa [World.setCell] using h.size, fun k hk hn => ?_⟩
  rw [← h.block k hk hn]
  have : D ≠ k := fun e => hn e.symm
  simp [World.setCell, Array.getElem?_modify, this]
theorem But.to_below (h : But D a b) {B : Nat} (hB : B ≤ a.heap.size) (hD : B ≤ D) : Below B a b := ⟨h.os, h.tape, h.output, h.size, fun k hk => h.block k (by omega) (by omega)⟩
theorem But.blk (h : But D a b) {g : Nat} {cs : Array Value} {t : TypeId} (hg : Blk a g cs t) (hn : g ≠ D) : Blk b g cs t := by
  have hlt := hg.lt
  unfold Blk at *
  rw [h.block g hlt hn]; exact hg
theorem But.cell (h : But D a b) {g i : Nat} (hg : g < a.heap.size) (hn : g ≠ D) : b.cell? ⟨g, i, none⟩ = a.cell? ⟨g, i, none⟩ := World.cell?_of_block (h.block g hg hn)
end

theorem But.frame {D : Nat} {a b c : World} (h : Below a.heap.size a b) (k : But D b c) (hD : a.heap.size ≤ D) : Below a.heap.size a c := h.trans (k.to_below h.size hD)

theorem Blk.set1of3 {w : World} {b : Nat} {x0 x1 x2 : Value} {t : TypeId} (h : Blk w b #[x0, x1, x2] t) (v : Value) : Blk (w.setCell ⟨b, 1, none⟩ v) b #[x0, v, x2] t := by
  unfold Blk at *
  simp only [World.setCell, Array.getElem?_modify, if_true, h, Option.map_some]
  rfl
theorem Blk.set2of3 {w : World} {b : Nat} {x0 x1 x2 : Value} {t : TypeId} (h : Blk w b #[x0, x1, x2] t) (v : Value) : Blk (w.setCell ⟨b, 2, none⟩ v) b #[x0, x1, v] t := by
  unfold Blk at *
  simp only [World.setCell, Array.getElem?_modify, if_true, h, Option.map_some]
  rfl

end Go.Proofs.YthknmkebdlnahaaDoor

namespace Go.Proofs.YthknmkebdlnahaaDoor

def bys (s : ByteArray) : List UInt8 := s.data.toList

theorem bys_len (s : ByteArray) : (bys s).length = s.size := by simp [bys]

def byt (l : List UInt8) (k : Nat) : Nat := (l[k]?.map UInt8.toNat).getD 0

theorem byt_get (s : ByteArray) (k : Nat) (h : k < s.size) : s[k].toNat = byt (bys s) k := by
  unfold byt bys
  have : s.data.toList[k]? = some s[k] := by
    rw [Array.getElem?_toList, Array.getElem?_eq_getElem h]; rfl
  rw [this]; rfl

theorem byt_lt (l : List UInt8) (k : Nat) : byt l k < 256 := by
  unfold byt
  cases l[k]? with
  | none => simp
  | some b => simp; exact b.toNat_lt

theorem bys_append (a b : ByteArray) : bys (a ++ b) = bys a ++ bys b := by
  unfold bys; simp

end Go.Proofs.YthknmkebdlnahaaDoor

namespace Go.Proofs.YthknmkebdlnahaaDoor
open Go.Lib

def runeN (n b0 b1 b2 b3 : Nat) : Nat :=
  if n = 0 then 0 else if b0 < 128 then 1 else (checkN n b1 b2 b3 (firstT b0 % 8) (accLo (firstT b0 / 16)) (accHi (firstT b0 / 16))).getD 0

theorem runeN_decode (n b0 b1 b2 b3 : Nat) (hn : 1 ≤ n) (h0 : b0 < 256) (h1 : b1 < 256) (h2 : b2 < 256) (h3 : b3 < 256) :
    (decodeN n b0 b1 b2 b3 = (65533, 1) ∧ runeN n b0 b1 b2 b3 = 0) ∨ (runeN n b0 b1 b2 b3 ≠ 0 ∧ (decodeN n b0 b1 b2 b3).2 = runeN n b0 b1 b2 b3 ∧ ¬ ((decodeN n b0 b1 b2 b3).1 = 65533 ∧ (decodeN n b0 b1 b2 b3).2 = 1)) := by
  unfold runeN
  rw [if_neg (by omega)]
  by_cases ha : b0 < 128
  · right
    rw [if_pos ha]
    have : decodeN n b0 b1 b2 b3 = (b0, 1) := by unfold decodeN; rw [if_pos ha]
    rw [this]
    exact ⟨by omega, rfl, by simp only; omega⟩
  · rw [if_neg ha]
    rcases check_decode n b0 b1 b2 b3 hn (by omega) h0 h1 h2 h3 with ⟨h, h'⟩ | ⟨k, hk, h, h'⟩
    · left
      rw [h]
      exact ⟨h', rfl⟩
    · right
      rw [h, h']
      simp only [Option.getD_some]
      exact ⟨by omega, trivial, by omega⟩

def byB (l : List UInt8) (k : Nat) : Nat := (l.getD k 0).toNat
theorem byB_lt (l : List UInt8) (k : Nat) : byB l k < 256 := (l.getD k 0).toNat_lt
def runeL (l : List UInt8) : Nat := runeN l.length (byB l 0) (byB l 1) (byB l 2) (byB l 3)

theorem decodeL_B (l : List UInt8) : decodeL l = decodeN l.length (byB l 0) (byB l 1) (byB l 2) (byB l 3) := decodeL_N l

theorem runeL_decode (l : List UInt8) (h : l ≠ []) : (decodeL l = (65533, 1) ∧ runeL l = 0) ∨ (runeL l ≠ 0 ∧ (decodeL l).2 = runeL l ∧ ¬ ((decodeL l).1 = 65533 ∧ (decodeL l).2 = 1)) := by
  rw [decodeL_B]
  exact runeN_decode _ _ _ _ _ (List.length_pos_iff.2 h) (byB_lt _ _) (byB_lt _ _) (byB_lt _ _) (byB_lt _ _)

def runesF : Nat → List UInt8 → Option Nat
  | 0, _ => some 0
  | f + 1, l => if l = [] then some 0 else if runeL l = 0 then none else (runesF f (l.drop (runeL l))).map (· + 1)
def runesL (l : List UInt8) : Option Nat := runesF l.length l

theorem runesF_nil : ∀ f, runesF f [] = some 0
  | 0 => rfl
  | _ + 1 => by simp [runesF]

theorem runesF_fuel : ∀ (f g : Nat) (l : List UInt8), l.length ≤ f → l.length ≤ g → runesF f l = runesF g l
  | 0, g, l, h, _ => by
    obtain rfl := List.eq_nil_of_length_eq_zero (Nat.le_zero.1 h)
    rw [runesF_nil, runesF_nil]
  | f + 1, 0, l, _, h => by
    obtain rfl := List.eq_nil_of_length_eq_zero (Nat.le_zero.1 h)
    rw [runesF_nil]; rfl
  | f + 1, g + 1, l, h1, h2 => by
    unfold runesF
    by_cases hl : l = []
    · rw [if_pos hl, if_pos hl]
    · rw [if_neg hl, if_neg hl]
      by_cases hr : runeL l = 0
      · rw [if_pos hr, if_pos hr]
      · rw [if_neg hr, if_neg hr, runesF_fuel f g (l.drop (runeL l)) (by rw [List.length_drop]; omega) (by rw [List.length_drop]; omega)]

theorem runesL_nil : runesL [] = some 0 := rfl
theorem runesL_step (l : List UInt8) (h : l ≠ []) : runesL l = if runeL l = 0 then none else (runesL (l.drop (runeL l))).map (· + 1) := by
  have hp := List.length_pos_iff.2 h
  obtain ⟨n, hn⟩ : ∃ n, l.length = n + 1 := ⟨l.length - 1, by omega⟩
  by_cases hr : runeL l = 0
  · rw [if_pos hr]
    unfold runesL
    rw [hn]
    unfold runesF
    rw [if_neg h, if_pos hr]
  · rw [if_neg hr]
    unfold runesL
    rw [hn]
    show (if l = [] then some 0 else if runeL l = 0 then none else (runesF n (l.drop (runeL l))).map (· + 1)) = _
    rw [if_neg h, if_neg hr, runesF_fuel n _ (l.drop (runeL l)) (by rw [List.length_drop]; omega) (Nat.le_refl _)]

theorem valid_runesA : ∀ (k : Nat) (l : List UInt8), l.length ≤ k → validD l = (runesL l).isSome
  | 0, l, h => by
    obtain rfl := List.eq_nil_of_length_eq_zero (Nat.le_zero.1 h)
    rfl
  | k + 1, l, h => by
    by_cases hl : l = []
    · subst hl; rfl
    · rw [validD_step l hl, runesL_step l hl]
      rcases runeL_decode l hl with ⟨h1, h2⟩ | ⟨h1, h2, h3⟩
      · rw [if_pos (by rw [h1]; exact ⟨rfl, rfl⟩), if_pos h2]; rfl
      · rw [if_neg h3, if_neg h1, h2, valid_runesA k _ (by rw [List.length_drop]; omega)]
        cases runesL (l.drop (runeL l)) <;> rfl
theorem valid_runes (l : List UInt8) : validD l = (runesL l).isSome := valid_runesA l.length l (Nat.le_refl _)

theorem count_runesA (s : ByteArray) : ∀ (f pos n : Nat), s.size - pos ≤ f → runesL ((bys s).drop pos) = some n → runeCountFrom s f pos = n
  | 0, pos, n, h, hr => by
    rw [List.drop_eq_nil_of_le (by rw [bys_len]; omega), runesL_nil] at hr
    cases hr; rfl
  | f + 1, pos, n, h, hr => by
    unfold runeCountFrom
    by_cases hp : pos < s.size
    · have hne : (bys s).drop pos ≠ [] := by
        intro e
        have := congrArg List.length e
        rw [List.length_drop, bys_len] at this
        simp at this; omega
      rw [if_pos hp]
      rw [runesL_step _ hne] at hr
      have hd : decodeL ((bys s).drop pos) = Utf8.decode s pos := decodeL_drop s pos
      rcases runeL_decode _ hne with ⟨h1, h2⟩ | ⟨h1, h2, h3⟩
      · rw [if_pos h2] at hr; cases hr
      · rw [if_neg h1] at hr
        rw [← hd, h2]
        obtain ⟨m, hm, rfl⟩ := Option.map_eq_some_iff.1 hr
        rw [List.drop_drop] at hm
        rw [count_runesA s f (pos + runeL ((bys s).drop pos)) m (by omega) hm]
        omega
    · rw [List.drop_eq_nil_of_le (by rw [bys_len]; omega), runesL_nil] at hr
      rw [if_neg hp]
      cases hr; rfl
theorem count_runes (s : ByteArray) (n : Nat) (h : runesL (bys s) = some n) : runeCount s = n := count_runesA s s.size 0 n (by omega) (by rw [List.drop_zero]; exact h)

end Go.Proofs.YthknmkebdlnahaaDoor

namespace Go.Proofs.YthknmkebdlnahaaDoor
open Go.RowKit

def U8 (w : World) : Prop := Lib.Utf8Tabs 0 1 w
theorem U8.below {w w' : World} (h : U8 w) (hb : Below w.heap.size w w') : U8 w' := Utf8Tabs_below h hb

set_option maxHeartbeats 1000000 in
theorem Valid_any (s : ByteArray) (w : World) (hs : s.size ≤ 9223372036854775807) (hT : U8 w) : Calls Tryd.prog 18 #[.string s] w fun e w' => e = .returned (.bool (runesL (bys s)).isSome) ∧ Below w.heap.size w w' := by
  have HV := hide (Tryd.utf8_ValidString s w hs hT)
  have HE := hide (valid_runes (bys s))
  clear hT
  go_enter Tryd.func18, Tryd.ntmps18
  go_wp2_with fail
  refine HV.out.mono ?_
  rintro e w1 ⟨rfl, hb⟩
  go_wp2
  go_ret
  exact ⟨congrArg (fun b => Ending.returned (Value.bool b)) HE.out, hb⟩

def runesI (l : List UInt8) : Int := match runesL l with | none => -1 | some n => (n : Int)

set_option maxHeartbeats 1000000 in
theorem Runes_any (s : ByteArray) (w : World) (hs : s.size < 9223372036854775807) (hT : U8 w) : Calls Tryd.prog 19 #[.string s] w fun e w' => e = .returned (.int .i64 (runesI (bys s))) ∧ Below w.heap.size w w' := by
  have HV := hide (Valid_any s w (by omega) hT)
  have HC : Hid (∀ X, Calls Tryd.prog 33 #[.string s] X fun e w' => e = .returned (.int .i64 (Lib.runeCount s)) ∧ ∃ pos, w' = X.iter s pos) := fun X => Tryd.utf8_RuneCountInString s X hs
  have HE := hide (count_runes s)
  clear hT
  cases hr : runesL (bys s) with
  | none =>
    rw [hr] at HV
    have hi : runesI (bys s) = -1 := by unfold runesI; rw [hr]
    rw [hi]
    clear HC HE
    go_enter Tryd.func19, Tryd.ntmps19
    go_wp2_with fail
    refine HV.out.mono ?_
    rintro e w1 ⟨rfl, hb⟩
    go_wp2
    go_ret
    exact ⟨rfl, hb⟩
  | some n =>
    rw [hr] at HV
    have hi : runesI (bys s) = (n : Int) := by unfold runesI; rw [hr]
    rw [hi]
    have HN := hide (HE.out n hr)
    clear HE
    go_enter Tryd.func19, Tryd.ntmps19
    go_wp2_with fail
    refine HV.out.mono ?_
    rintro e w1 ⟨rfl, hb⟩
    have HB := hide hb
    clear hb HV
    go_wp2_with fail
    refine (HC.out w1).mono ?_
    rintro e w2 ⟨rfl, pos, rfl⟩
    go_wp2
    go_ret
    refine ⟨?_, ?_⟩
    · rw [HN.out]; rfl
    · exact HB.out.trans (((Below.refl _ _).alloc (Nat.le_refl _) _).mono HB.out.size)

def runeAt (s : ByteArray) (i : Int) : Nat := if i < 0 ∨ (s.size : Int) ≤ i then 0 else runeL ((bys s).drop i.toNat)

theorem bys_tail (t : ByteArray) (i : Nat) : bys (t.extract i t.size) = (bys t).drop i := by
  have := bys_len t
  unfold bys at *
  rw [ByteArray.data_extract, Array.toList_extract]
  simp only [List.extract]
  exact List.take_of_length_le (by rw [List.length_drop]; omega)

theorem decodeGo_rune (t : ByteArray) (h : t.size ≠ 0) : (Lib.decodeGo t = (65533, 1) ∧ runeL (bys t) = 0) ∨ (runeL (bys t) ≠ 0 ∧ (Lib.decodeGo t).2 = runeL (bys t) ∧ ¬ ((Lib.decodeGo t).1 = 65533 ∧ (Lib.decodeGo t).2 = 1)) := by
  have hd : Lib.decodeGo t = Lib.decodeL (bys t) := by
    unfold Lib.decodeGo
    rw [if_neg h, ← Lib.decodeL_drop t 0, List.drop_zero]
    rfl
  rw [hd]
  refine runeL_decode (bys t) (fun e => h ?_)
  rw [← bys_len, e]; rfl

set_option maxHeartbeats 1000000 in
theorem Rune_any (s : ByteArray) (i : Int) (w : World) (hT : U8 w) : Calls Tryd.prog 16 #[.string s, .int .i64 i] w fun e w' => e = .returned (.int .i64 (runeAt s i : Int)) ∧ Below w.heap.size w w' := by
  by_cases h0 : i < 0
  · have e : runeAt s i = 0 := by unfold runeAt; rw [if_pos (.inl h0)]
    rw [e]
    clear hT
    go_enter Tryd.func16, Tryd.ntmps16
    go_wp2
    go_ret
    exact ⟨rfl, Below.refl _ _⟩
  by_cases h1 : (s.size : Int) ≤ i
  · have e : runeAt s i = 0 := by unfold runeAt; rw [if_pos (.inr h1)]
    rw [e]
    clear hT
    go_enter Tryd.func16, Tryd.ntmps16
    go_wp2
    go_ret
    exact ⟨rfl, Below.refl _ _⟩
  obtain ⟨p, rfl⟩ : ∃ p : Nat, i = (p : Int) := ⟨i.toNat, by omega⟩
  have hp : p < s.size := by omega
  have hp' : (p : Int) < (s.size : Int) := by omega
  have HE : Hid (runeAt s (p : Int) = runeL (bys (s.extract p s.size))) := by
    show runeAt s (p : Int) = _
    unfold runeAt
    rw [if_neg (by omega), bys_tail]
    rfl
  obtain ⟨t, ht⟩ : ∃ t, t = s.extract p s.size := ⟨_, rfl⟩
  have hts : t.size ≠ 0 := by rw [ht, ByteArray.size_extract]; omega
  have HD := hide (Tryd.utf8_DecodeRuneInString t w hT)
  have hd := decodeGo_rune t hts
  rw [HE.out, ← ht]
  have HT := hide ht.symm
  clear hT HE ht hts h0 h1
  rcases hd with ⟨h1, h2⟩ | ⟨h1, h2, h3⟩
  · rw [h1] at HD
    rw [h2]
    clear h1 h2
    go_enter Tryd.func16, Tryd.ntmps16
    go_wp2_with (rw [HT.out])
    refine HD.out.mono ?_
    rintro e w1 ⟨rfl, hb⟩
    go_wp2
    go_ret
    exact ⟨rfl, hb⟩
  · obtain ⟨R, K, hRK⟩ : ∃ R K, Lib.decodeGo t = (R, K) := ⟨_, _, rfl⟩
    rw [hRK] at HD h2 h3
    simp only at h2 h3
    rw [← h2]
    have HD' : Hid (Calls Tryd.prog 30 #[.string t] w fun e w' => e = .returned (.tuple #[.int .i32 (R : Int), .int .i64 (K : Int)]) ∧ Below w.heap.size w w') := HD.out
    clear HD hRK h2 h1
    by_cases hR : R = 65533
    · have hK : ¬ (K : Int) = 1 := fun e => h3 ⟨hR, by omega⟩
      have hR' : (R : Int) = 65533 := by omega
      clear h3
      go_enter Tryd.func16, Tryd.ntmps16
      go_wp2_with (rw [HT.out])
      refine HD'.out.mono ?_
      rintro e w1 ⟨rfl, hb⟩
      go_wp2
      go_ret
      exact ⟨rfl, hb⟩
    · have hR' : ¬ (R : Int) = 65533 := by omega
      clear h3
      go_enter Tryd.func16, Tryd.ntmps16
      go_wp2_with (rw [HT.out])
      refine HD'.out.mono ?_
      rintro e w1 ⟨rfl, hb⟩
      go_wp2
      go_ret
      exact ⟨rfl, hb⟩

end Go.Proofs.YthknmkebdlnahaaDoor

namespace Go.Proofs.YthknmkebdlnahaaDoor
open Go.RowKit

def Cur (w : World) (D : Nat) (s : ByteArray) (at_ e : Nat) : Prop := Blk w D #[.string s, .int .i64 (at_ : Int), .int .i64 (e : Int)] 56

theorem Cur.below {w w' : World} {D : Nat} {s : ByteArray} {at_ e : Nat} (h : Cur w D s at_ e) (hb : Below w.heap.size w w') : Cur w' D s at_ e := Blk.below h hb (Blk.lt h)
theorem Cur.lt {w : World} {D : Nat} {s : ByteArray} {at_ e : Nat} (h : Cur w D s at_ e) : D < w.heap.size := Blk.lt h
theorem Cur.but {w w' : World} {D E : Nat} {s : ByteArray} {at_ e : Nat} (h : Cur w D s at_ e) (hb : But E w w') (hn : D ≠ E) : Cur w' D s at_ e := hb.blk h hn

set_option maxHeartbeats 1000000 in
theorem New_any (s : ByteArray) (w : World) : Calls Tryd.prog 21 #[.string s] w fun e w' => e = .returned (.pointer (some ⟨w.heap.size, 0, none⟩)) ∧ Cur w' w.heap.size s 0 0 ∧ Below w.heap.size w w' := by
  go_enter Tryd.func21, Tryd.ntmps21
  go_wp2
  go_ret
  exact ⟨rfl, Blk.new _ _ _, (Below.refl _ _).alloc (Nat.le_refl _) _⟩

section
variable {w : World} {D : Nat} {s : ByteArray} {at_ e : Nat}

set_option maxHeartbeats 1000000 in
theorem At_any (h : Cur w D s at_ e) : Calls Tryd.prog 24 #[.pointer (some ⟨D, 0, none⟩)] w fun x w' => x = .returned (.int .i64 (at_ : Int)) ∧ w = w' := by
  have c1 := Blk.cell h 1
  clear h
  go_enter Tryd.func24, Tryd.ntmps24
  go_wp2
  go_ret
  exact ⟨rfl, rfl⟩

def fltP (at_ e : Nat) : Nat := if e = 0 then 0 else at_

set_option maxHeartbeats 1000000 in
theorem Fault_any (h : Cur w D s at_ e) : Calls Tryd.prog 25 #[.pointer (some ⟨D, 0, none⟩)] w fun x w' => x = .returned (.tuple #[.int .i64 (e : Int), .int .i64 (fltP at_ e : Int)]) ∧ Below w.heap.size w w' := by
  have c1 := Blk.cell h 1
  have c2 := Blk.cell h 2
  clear h
  by_cases h0 : e = 0
  · subst h0
    go_enter Tryd.func25, Tryd.ntmps25
    go_wp2
    go_ret2
    exact ⟨rfl, Below.refl _ _⟩
  · have h0' : ¬ (e : Int) = 0 := by omega
    have hf : fltP at_ e = at_ := by unfold fltP; rw [if_neg h0]
    rw [hf]
    clear hf
    go_enter Tryd.func25, Tryd.ntmps25
    go_wp2_with fail
    go_region
    go_wp2
    go_ret2
    exact ⟨rfl, (Below.refl _ _).drew⟩

set_option maxHeartbeats 1000000 in
theorem left_any (hs : s.size ≤ 4611686018427387904) (ha : at_ ≤ s.size) (h : Cur w D s at_ e) : Calls Tryd.prog 34 #[.pointer (some ⟨D, 0, none⟩)] w fun x w' => x = .returned (.int .i64 ((s.size : Int) - (at_ : Int))) ∧ w' = w.drew := by
  have c0 := Blk.cell h 0
  have c1 := Blk.cell h 1
  clear h
  go_enter Tryd.func34, Tryd.ntmps34
  go_wp2_with fail
  go_region
  go_wp2
  go_ret
  exact ⟨rfl, rfl⟩

def endE (s : ByteArray) (at_ e : Nat) : Nat := if e = 0 ∧ at_ < s.size then 113 else e
def endP (s : ByteArray) (at_ e : Nat) : Nat := if e = 0 ∧ at_ < s.size then at_ else fltP at_ e

set_option maxHeartbeats 1000000 in
theorem End_any (hs : s.size ≤ 4611686018427387904) (ha : at_ ≤ s.size) (h : Cur w D s at_ e) : Calls Tryd.prog 23 #[.pointer (some ⟨D, 0, none⟩)] w fun x w' => x = .returned (.tuple #[.int .i64 (endE s at_ e : Int), .int .i64 (endP s at_ e : Int)]) ∧ Below w.heap.size w w' := by
  have HF : Hid (∀ X, Cur X D s at_ e → Calls Tryd.prog 25 #[.pointer (some ⟨D, 0, none⟩)] X fun x w' => x = .returned (.tuple #[.int .i64 (e : Int), .int .i64 (fltP at_ e : Int)]) ∧ Below X.heap.size X w') := fun X hX => Fault_any hX
  have HL := hide (left_any hs ha h)
  have c1 := Blk.cell h 1
  have c2 := Blk.cell h 2
  have HC := hide h
  clear h
  by_cases h0 : e = 0
  · subst h0
    by_cases h1 : at_ < s.size
    · have h1' : (0 : Int) < (s.size : Int) - (at_ : Int) := by omega
      have e1 : endE s at_ 0 = 113 := by unfold endE; rw [if_pos ⟨rfl, h1⟩]
      have e2 : endP s at_ 0 = at_ := by unfold endP; rw [if_pos ⟨rfl, h1⟩]
      rw [e1, e2]
      clear e1 e2
      go_enter Tryd.func23, Tryd.ntmps23
      go_wp2_with fail
      refine HL.out.mono ?_
      rintro x w1 ⟨rfl, rfl⟩
      go_wp2_with fail
      go_region
      go_wp2
      go_ret2
      exact ⟨rfl, (Below.refl _ _).drew.drew⟩
    · have h1' : ¬ (0 : Int) < (s.size : Int) - (at_ : Int) := by omega
      have e1 : endE s at_ 0 = 0 := by unfold endE; rw [if_neg (by omega)]
      have e2 : endP s at_ 0 = fltP at_ 0 := by unfold endP; rw [if_neg (by omega)]
      rw [e1, e2]
      clear e1 e2
      go_enter Tryd.func23, Tryd.ntmps23
      go_wp2_with fail
      refine HL.out.mono ?_
      rintro x w1 ⟨rfl, rfl⟩
      go_wp2_with fail
      refine (HF.out _ (HC.out.below (Below.refl _ _).drew)).mono ?_
      rintro x w2 ⟨rfl, hb⟩
      go_wp2
      go_ret2
      exact ⟨rfl, ((Below.refl _ _).drew).trans (hb.mono (Nat.le_refl _))⟩
  · have h0' : ¬ (e : Int) = 0 := by omega
    have e1 : endE s at_ e = e := by unfold endE; rw [if_neg (by omega)]
    have e2 : endP s at_ e = fltP at_ e := by unfold endP; rw [if_neg (by omega)]
    rw [e1, e2]
    clear e1 e2
    go_enter Tryd.func23, Tryd.ntmps23
    go_wp2_with fail
    refine (HF.out _ HC.out).mono ?_
    rintro x w2 ⟨rfl, hb⟩
    go_wp2
    go_ret2
    exact ⟨rfl, hb⟩

def Pan (e : Nat) (x : Ending) : Prop := x = .panicked [{ v := .iface 22 (.int .i64 (e : Int)), recovered := false }]

set_option maxHeartbeats 1000000 in
theorem take_no (n : Nat) (hs : s.size ≤ 4611686018427387904) (ha : at_ ≤ s.size) (h : Cur w D s at_ e) (hn : s.size < at_ + n) : Calls Tryd.prog 48 #[.pointer (some ⟨D, 0, none⟩), .int .i64 (n : Int)] w fun x w' => Pan 110 x ∧ Below w.heap.size w w' := by
  have HL := hide (left_any hs ha h)
  have hn' : (s.size : Int) - (at_ : Int) < (n : Int) := by omega
  clear h
  go_enter Tryd.func48, Tryd.ntmps48
  go_wp2_with fail
  refine HL.out.mono ?_
  rintro x w1 ⟨rfl, rfl⟩
  go_wp2
  exact ⟨rfl, rfl, (Below.refl _ _).drew⟩

set_option maxHeartbeats 1000000 in
theorem take_ok (n : Nat) (hs : s.size ≤ 4611686018427387904) (h : Cur w D s at_ e) (hn : at_ + n ≤ s.size) : Calls Tryd.prog 48 #[.pointer (some ⟨D, 0, none⟩), .int .i64 (n : Int)] w fun x w' => x = .returned (.string (s.extract at_ (at_ + n))) ∧ Cur w' D s (at_ + n) e ∧ But D w w' := by
  have HL := hide (left_any hs (by omega) h)
  have hn' : ¬ (s.size : Int) - (at_ : Int) < (n : Int) := by omega
  have HC := hide h
  have c0 := Blk.cell HC.out 0
  have c1 := Blk.cell HC.out 1
  have f1 := Blk.free HC.out 1
  have HC2 := hide (Blk.set1of3 HC.out (.int .i64 ((at_ : Int) + (n : Int))))
  have d0 := Blk.cell HC2.out 0
  have d1 := Blk.cell HC2.out 1
  have hle : (at_ : Int) ≤ (at_ : Int) + (n : Int) := by omega
  have hle2 : (at_ : Int) + (n : Int) ≤ (s.size : Int) := by omega
  clear h
  go_enter Tryd.func48, Tryd.ntmps48
  go_wp2_with fail
  refine HL.out.mono ?_
  rintro x w1 ⟨rfl, rfl⟩
  go_wp2_with fail
  go_region
  go_wp2
  go_ret
  have h9 : Cur (w.setCell ⟨D, 1, none⟩ (.int .i64 ((at_ : Int) + (n : Int)))) D s (at_ + n) e := HC2.out
  exact ⟨rfl, h9.below ((Below.refl _ _).drew.drew), ((But.refl D w).set 1 _).trans (But.of_below (Below.refl _ _).drew.drew)⟩

end

end Go.Proofs.YthknmkebdlnahaaDoor

namespace Go.Proofs.YthknmkebdlnahaaDoor
open Go.RowKit

def beA (l : List UInt8) (at_ : Nat) : Nat → Nat
  | 0 => 0
  | k + 1 => beA l at_ k * 256 + byt l (at_ + k)

theorem beA_lt (l : List UInt8) (at_ : Nat) : ∀ k, beA l at_ k < 256 ^ k
  | 0 => by simp [beA]
  | k + 1 => by
    have h1 := beA_lt l at_ k
    have h2 := byt_lt l (at_ + k)
    rw [beA, Nat.pow_succ]
    omega

theorem or_byte {n b : Nat} (hb : b < 256) (hn : n < 16777216) : bits .or .i64 ((n : Int) * 256) (b : Int) = ((n * 256 + b : Nat) : Int) := by
  have h : bits .or .i64 ((n * 256 : Nat) : Int) (b : Int) = ((n * 256 ||| b : Nat) : Int) := by
    have hx : n * 256 ||| b < 2 ^ 62 := Nat.or_lt_two_pow (by omega) (by omega)
    show IntKind.i64.wrap ((BitVec.ofInt 64 ((n * 256 : Nat) : Int) ||| BitVec.ofInt 64 (b : Int)).toNat : Int) = _
    rw [BitVec.toNat_or, ofInt_u64 (n * 256) (by omega), ofInt_u64 b (by omega)]
    exact wrap_small _ (by omega) (by omega)
  have e : (n * 256) ||| b = n * 256 + b := by
    have := Nat.shiftLeft_add_eq_or_of_lt (i := 8) (show b < 2 ^ 8 by simpa using hb) n
    rw [Nat.shiftLeft_eq] at this
    exact this.symm
  rw [e] at h
  rw [show ((n : Int) * 256) = ((n * 256 : Nat) : Int) by omega]
  exact h

section
variable {w : World} {D : Nat} {s : ByteArray} {at_ e : Nat}

theorem blen1 : ((Lib.bitLen (255 : Int).toNat : Nat) : Int) = 8 := by decide

set_option maxHeartbeats 1000000 in
theorem number1_no (hs : s.size ≤ 4611686018427387904) (ha : at_ ≤ s.size) (h : Cur w D s at_ e) (hn : s.size < at_ + 1) : Calls Tryd.prog 37 #[.pointer (some ⟨D, 0, none⟩)] w fun x w' => Pan 110 x ∧ Below w.heap.size w w' := by
  have HL := hide (Tryd.bits_Len64 255 w (by decide) (by decide))
  rw [blen1] at HL
  have HT : Hid (Calls Tryd.prog 48 #[.pointer (some ⟨D, 0, none⟩), .int .i64 1] w fun x w' => Pan 110 x ∧ Below w.heap.size w w') := take_no 1 hs ha h hn
  clear h hn ha
  go_enter Tryd.func37, Tryd.ntmps37
  go_wp2_with fail
  refine HL.out.mono ?_
  rintro x w1 ⟨rfl, rfl⟩
  go_wp2_with fail
  refine HT.out.mono ?_
  rintro x w1 ⟨rfl, hb⟩
  go_wp2
  exact ⟨rfl, rfl, hb⟩

set_option maxHeartbeats 1000000 in
theorem number1_ok (hs : s.size ≤ 4611686018427387904) (h : Cur w D s at_ e) (hn : at_ + 1 ≤ s.size) : Calls Tryd.prog 37 #[.pointer (some ⟨D, 0, none⟩)] w fun x w' => x = .returned (.int .i64 (beA (bys s) at_ 1 : Int)) ∧ Cur w' D s (at_ + 1) e ∧ But D w w' := by
  have HL := hide (Tryd.bits_Len64 255 w (by decide) (by decide))
  rw [blen1] at HL
  have HT : Hid (Calls Tryd.prog 48 #[.pointer (some ⟨D, 0, none⟩), .int .i64 1] w fun x w' => x = .returned (.string (s.extract at_ (at_ + 1))) ∧ Cur w' D s (at_ + 1) e ∧ But D w w') := take_ok 1 hs h hn
  obtain ⟨t, ht⟩ : ∃ t, t = s.extract at_ (at_ + 1) := ⟨_, rfl⟩
  rw [← ht] at HT
  have hts : t.size = 1 := by rw [ht, ByteArray.size_extract]; omega
  have HG : Hid (∀ i (h : i < t.size), t[i].toNat = byt (bys s) (at_ + i)) := by
    intro i hi
    subst ht
    rw [← byt_get s (at_ + i) (by omega)]
    simp [ByteArray.getElem_extract]
  have HLT : Hid (∀ i, i < 1 → beA (bys s) at_ i < 16777216) := fun i hi => Nat.lt_of_lt_of_le (beA_lt _ _ i) (by have : i = 0 ∨ i = 1 ∨ i = 2 ∨ i = 3 := (by omega); rcases this with rfl | rfl | rfl | rfl <;> decide)
  clear h hn ht
  go_enter Tryd.func37, Tryd.ntmps37
  go_wp2_with fail
  refine HL.out.mono ?_
  rintro x w1 ⟨rfl, rfl⟩
  go_wp2_with fail
  refine HT.out.mono ?_
  rintro x w2 ⟨rfl, hc, hb⟩
  have HC := hide hc
  have HB := hide hb
  clear hc hb HL HT
  go_wp2
  go_loopw [5, 16] (fun p q wr => ∃ i : Nat, i ≤ 1 ∧ p = .int .i64 (beA (bys s) at_ i : Int) ∧ q = .int .i64 (i : Int) ∧ wr = w2) (fun _ q _ => 1 - (intOf q).toNat)
  case atStart => exact ⟨0, Nat.zero_le _, rfl, rfl, rfl⟩
  case round =>
    obtain ⟨i, hi, rfl, rfl, hw⟩ := hrel
    subst hw
    by_cases hlt : i < 1
    · have hlt' : (i : Int) < 1 := by omega
      have hlt2 : i < t.size := by omega
      have hlt3 : (i : Int) < (t.size : Int) := by omega
      have hg : ∀ h : i < t.size, t[i].toNat = byt (bys s) (at_ + i) := fun h => HG.out i h
      have hb2 := byt_lt (bys s) (at_ + i)
      have hn2 := HLT.out i hlt
      obtain ⟨N, hN⟩ : ∃ N, N = beA (bys s) at_ i := ⟨_, rfl⟩
      obtain ⟨b, hbb⟩ : ∃ b, b = byt (bys s) (at_ + i) := ⟨_, rfl⟩
      have HE : Hid (((N * 256 + b : Nat) : Int) = (beA (bys s) at_ (i + 1) : Int)) := hide (by rw [hN, hbb, beA])
      rw [← hN] at hn2 ⊢
      rw [← hbb] at hg hb2
      have e2 := or_byte hb2 hn2
      clear hN hbb
      go_wp2
      exact ⟨⟨i + 1, by omega, by rw [← HE.out]; rfl, by go_num, trivial⟩, by simp [intOf]; omega⟩
    · have hlt' : ¬ (i : Int) < 1 := by omega
      obtain rfl : i = 1 := by omega
      go_wp2
      go_ret
      exact ⟨rfl, HC.out, HB.out⟩

theorem blen2 : ((Lib.bitLen (65535 : Int).toNat : Nat) : Int) = 16 := by decide

set_option maxHeartbeats 1000000 in
theorem number2_no (hs : s.size ≤ 4611686018427387904) (ha : at_ ≤ s.size) (h : Cur w D s at_ e) (hn : s.size < at_ + 2) : Calls Tryd.prog 39 #[.pointer (some ⟨D, 0, none⟩)] w fun x w' => Pan 110 x ∧ Below w.heap.size w w' := by
  have HL := hide (Tryd.bits_Len64 65535 w (by decide) (by decide))
  rw [blen2] at HL
  have HT : Hid (Calls Tryd.prog 48 #[.pointer (some ⟨D, 0, none⟩), .int .i64 2] w fun x w' => Pan 110 x ∧ Below w.heap.size w w') := take_no 2 hs ha h hn
  clear h hn ha
  go_enter Tryd.func39, Tryd.ntmps39
  go_wp2_with fail
  refine HL.out.mono ?_
  rintro x w1 ⟨rfl, rfl⟩
  go_wp2_with fail
  refine HT.out.mono ?_
  rintro x w1 ⟨rfl, hb⟩
  go_wp2
  exact ⟨rfl, rfl, hb⟩

set_option maxHeartbeats 1000000 in
theorem number2_ok (hs : s.size ≤ 4611686018427387904) (h : Cur w D s at_ e) (hn : at_ + 2 ≤ s.size) : Calls Tryd.prog 39 #[.pointer (some ⟨D, 0, none⟩)] w fun x w' => x = .returned (.int .i64 (beA (bys s) at_ 2 : Int)) ∧ Cur w' D s (at_ + 2) e ∧ But D w w' := by
  have HL := hide (Tryd.bits_Len64 65535 w (by decide) (by decide))
  rw [blen2] at HL
  have HT : Hid (Calls Tryd.prog 48 #[.pointer (some ⟨D, 0, none⟩), .int .i64 2] w fun x w' => x = .returned (.string (s.extract at_ (at_ + 2))) ∧ Cur w' D s (at_ + 2) e ∧ But D w w') := take_ok 2 hs h hn
  obtain ⟨t, ht⟩ : ∃ t, t = s.extract at_ (at_ + 2) := ⟨_, rfl⟩
  rw [← ht] at HT
  have hts : t.size = 2 := by rw [ht, ByteArray.size_extract]; omega
  have HG : Hid (∀ i (h : i < t.size), t[i].toNat = byt (bys s) (at_ + i)) := by
    intro i hi
    subst ht
    rw [← byt_get s (at_ + i) (by omega)]
    simp [ByteArray.getElem_extract]
  have HLT : Hid (∀ i, i < 2 → beA (bys s) at_ i < 16777216) := fun i hi => Nat.lt_of_lt_of_le (beA_lt _ _ i) (by have : i = 0 ∨ i = 1 ∨ i = 2 ∨ i = 3 := (by omega); rcases this with rfl | rfl | rfl | rfl <;> decide)
  clear h hn ht
  go_enter Tryd.func39, Tryd.ntmps39
  go_wp2_with fail
  refine HL.out.mono ?_
  rintro x w1 ⟨rfl, rfl⟩
  go_wp2_with fail
  refine HT.out.mono ?_
  rintro x w2 ⟨rfl, hc, hb⟩
  have HC := hide hc
  have HB := hide hb
  clear hc hb HL HT
  go_wp2
  go_loopw [5, 16] (fun p q wr => ∃ i : Nat, i ≤ 2 ∧ p = .int .i64 (beA (bys s) at_ i : Int) ∧ q = .int .i64 (i : Int) ∧ wr = w2) (fun _ q _ => 2 - (intOf q).toNat)
  case atStart => exact ⟨0, Nat.zero_le _, rfl, rfl, rfl⟩
  case round =>
    obtain ⟨i, hi, rfl, rfl, hw⟩ := hrel
    subst hw
    by_cases hlt : i < 2
    · have hlt' : (i : Int) < 2 := by omega
      have hlt2 : i < t.size := by omega
      have hlt3 : (i : Int) < (t.size : Int) := by omega
      have hg : ∀ h : i < t.size, t[i].toNat = byt (bys s) (at_ + i) := fun h => HG.out i h
      have hb2 := byt_lt (bys s) (at_ + i)
      have hn2 := HLT.out i hlt
      obtain ⟨N, hN⟩ : ∃ N, N = beA (bys s) at_ i := ⟨_, rfl⟩
      obtain ⟨b, hbb⟩ : ∃ b, b = byt (bys s) (at_ + i) := ⟨_, rfl⟩
      have HE : Hid (((N * 256 + b : Nat) : Int) = (beA (bys s) at_ (i + 1) : Int)) := hide (by rw [hN, hbb, beA])
      rw [← hN] at hn2 ⊢
      rw [← hbb] at hg hb2
      have e2 := or_byte hb2 hn2
      clear hN hbb
      go_wp2
      exact ⟨⟨i + 1, by omega, by rw [← HE.out]; rfl, by go_num, trivial⟩, by simp [intOf]; omega⟩
    · have hlt' : ¬ (i : Int) < 2 := by omega
      obtain rfl : i = 2 := by omega
      go_wp2
      go_ret
      exact ⟨rfl, HC.out, HB.out⟩

theorem blen4 : ((Lib.bitLen (4294967295 : Int).toNat : Nat) : Int) = 32 := by decide

set_option maxHeartbeats 1000000 in
theorem number4_no (hs : s.size ≤ 4611686018427387904) (ha : at_ ≤ s.size) (h : Cur w D s at_ e) (hn : s.size < at_ + 4) : Calls Tryd.prog 41 #[.pointer (some ⟨D, 0, none⟩)] w fun x w' => Pan 110 x ∧ Below w.heap.size w w' := by
  have HL := hide (Tryd.bits_Len64 4294967295 w (by decide) (by decide))
  rw [blen4] at HL
  have HT : Hid (Calls Tryd.prog 48 #[.pointer (some ⟨D, 0, none⟩), .int .i64 4] w fun x w' => Pan 110 x ∧ Below w.heap.size w w') := take_no 4 hs ha h hn
  clear h hn ha
  go_enter Tryd.func41, Tryd.ntmps41
  go_wp2_with fail
  refine HL.out.mono ?_
  rintro x w1 ⟨rfl, rfl⟩
  go_wp2_with fail
  refine HT.out.mono ?_
  rintro x w1 ⟨rfl, hb⟩
  go_wp2
  exact ⟨rfl, rfl, hb⟩

set_option maxHeartbeats 1000000 in
theorem number4_ok (hs : s.size ≤ 4611686018427387904) (h : Cur w D s at_ e) (hn : at_ + 4 ≤ s.size) : Calls Tryd.prog 41 #[.pointer (some ⟨D, 0, none⟩)] w fun x w' => x = .returned (.int .i64 (beA (bys s) at_ 4 : Int)) ∧ Cur w' D s (at_ + 4) e ∧ But D w w' := by
  have HL := hide (Tryd.bits_Len64 4294967295 w (by decide) (by decide))
  rw [blen4] at HL
  have HT : Hid (Calls Tryd.prog 48 #[.pointer (some ⟨D, 0, none⟩), .int .i64 4] w fun x w' => x = .returned (.string (s.extract at_ (at_ + 4))) ∧ Cur w' D s (at_ + 4) e ∧ But D w w') := take_ok 4 hs h hn
  obtain ⟨t, ht⟩ : ∃ t, t = s.extract at_ (at_ + 4) := ⟨_, rfl⟩
  rw [← ht] at HT
  have hts : t.size = 4 := by rw [ht, ByteArray.size_extract]; omega
  have HG : Hid (∀ i (h : i < t.size), t[i].toNat = byt (bys s) (at_ + i)) := by
    intro i hi
    subst ht
    rw [← byt_get s (at_ + i) (by omega)]
    simp [ByteArray.getElem_extract]
  have HLT : Hid (∀ i, i < 4 → beA (bys s) at_ i < 16777216) := fun i hi => Nat.lt_of_lt_of_le (beA_lt _ _ i) (by have : i = 0 ∨ i = 1 ∨ i = 2 ∨ i = 3 := (by omega); rcases this with rfl | rfl | rfl | rfl <;> decide)
  clear h hn ht
  go_enter Tryd.func41, Tryd.ntmps41
  go_wp2_with fail
  refine HL.out.mono ?_
  rintro x w1 ⟨rfl, rfl⟩
  go_wp2_with fail
  refine HT.out.mono ?_
  rintro x w2 ⟨rfl, hc, hb⟩
  have HC := hide hc
  have HB := hide hb
  clear hc hb HL HT
  go_wp2
  go_loopw [5, 16] (fun p q wr => ∃ i : Nat, i ≤ 4 ∧ p = .int .i64 (beA (bys s) at_ i : Int) ∧ q = .int .i64 (i : Int) ∧ wr = w2) (fun _ q _ => 4 - (intOf q).toNat)
  case atStart => exact ⟨0, Nat.zero_le _, rfl, rfl, rfl⟩
  case round =>
    obtain ⟨i, hi, rfl, rfl, hw⟩ := hrel
    subst hw
    by_cases hlt : i < 4
    · have hlt' : (i : Int) < 4 := by omega
      have hlt2 : i < t.size := by omega
      have hlt3 : (i : Int) < (t.size : Int) := by omega
      have hg : ∀ h : i < t.size, t[i].toNat = byt (bys s) (at_ + i) := fun h => HG.out i h
      have hb2 := byt_lt (bys s) (at_ + i)
      have hn2 := HLT.out i hlt
      obtain ⟨N, hN⟩ : ∃ N, N = beA (bys s) at_ i := ⟨_, rfl⟩
      obtain ⟨b, hbb⟩ : ∃ b, b = byt (bys s) (at_ + i) := ⟨_, rfl⟩
      have HE : Hid (((N * 256 + b : Nat) : Int) = (beA (bys s) at_ (i + 1) : Int)) := hide (by rw [hN, hbb, beA])
      rw [← hN] at hn2 ⊢
      rw [← hbb] at hg hb2
      have e2 := or_byte hb2 hn2
      clear hN hbb
      go_wp2
      exact ⟨⟨i + 1, by omega, by rw [← HE.out]; rfl, by go_num, trivial⟩, by simp [intOf]; omega⟩
    · have hlt' : ¬ (i : Int) < 4 := by omega
      obtain rfl : i = 4 := by omega
      go_wp2
      go_ret
      exact ⟨rfl, HC.out, HB.out⟩

end

end Go.Proofs.YthknmkebdlnahaaDoor

namespace Go.Proofs.YthknmkebdlnahaaDoor
open Go.RowKit

theorem assertErrno (v : Value) (xT : TypeId) (w : World) : (Instr.typeAssert (.iface 22 v) xT 22 false).run Tryd.prog w = .ok v w := by kernel_rfl

section
variable {w : World} {D : Nat} {s : ByteArray} {at_ e : Nat}

set_option maxHeartbeats 2000000 in
theorem catch_att (b c k f : Nat) (older : List PanicEntry) (h : Cur w D s at_ 0) (hb : w.cell? ⟨b, 0, none⟩ = some (.int .i64 (k : Int))) (hc : w.cell? ⟨c, 0, none⟩ = some (.pointer (some ⟨D, 0, none⟩))) :
    CallsD Tryd.prog 46 #[.pointer (some ⟨b, 0, none⟩), .pointer (some ⟨c, 0, none⟩)] (.panicking ({ v := .iface 22 (.int .i64 (f : Int)), recovered := false } :: older)) w fun x u' w' =>
      x = .returned (.tuple #[]) ∧ u' = .panicking ({ v := .iface 22 (.int .i64 (f : Int)), recovered := true } :: older) ∧ Cur w' D s k f ∧ But D w w' := by
  refine callsD_of_wpS Tryd.func46 rfl fun c₀ cs hu => ?_
  have hfr : (#[Value.pointer (some ⟨b, 0, none⟩), Value.pointer (some ⟨c, 0, none⟩)] ++ Array.replicate (Tryd.f46.ntmps - (#[Value.pointer (some ⟨b, 0, none⟩), Value.pointer (some ⟨c, 0, none⟩)] : Array Value).size) undef) = #[Value.pointer (some ⟨b, 0, none⟩), Value.pointer (some ⟨c, 0, none⟩), undef, undef, undef, undef, undef, undef, undef, undef, undef, undef, undef, undef, undef] := by rw [Tryd.ntmps46]; rfl
  rw [hfr]
  clear hfr
  have c1 := Blk.cell h 1
  have f1 := Blk.free h 1
  have c2 := Blk.cell h 2
  have f2 := Blk.free h 2
  apply wpS_seq
  apply wpS_region
  simp [wpOpsS, go_sem, recoverD, hu, Exit.thenS]
  have HC := hide h
  have hta := assertErrno
  clear h
  refine wpS_of_wp ?_
  go_wp2_with fail
  go_region
  have h9 : Cur ((w.setCell ⟨D, 1, none⟩ (.int .i64 (k : Int))).setCell ⟨D, 2, none⟩ (.int .i64 (f : Int))) D s k f := Blk.set2of3 (Blk.set1of3 HC.out _) _
  exact ⟨rfl, _, rfl, .tuple #[], by simp [results, Tryd.results46, go_sem], rfl, rfl, h9.below ((Below.refl _ _).drew), (((But.refl D w).set 1 _).set 2 _).trans (But.of_below (Below.refl _ _).drew)⟩

theorem idle_att (b c : Nat) (w : World) :
    CallsD Tryd.prog 46 #[.pointer (some ⟨b, 0, none⟩), .pointer (some ⟨c, 0, none⟩)] .returning w fun x u' w' => x = .returned (.tuple #[]) ∧ u' = .returning ∧ w' = w := by
  refine callsD_of_wpS Tryd.func46 rfl fun c₀ cs hu => ?_
  apply wpS_seq
  apply wpS_region
  simp [wpOpsS, go_sem, recoverD, hu, Tryd.ntmps46, Exit.thenS]
  refine wpS_of_wp ?_
  go_wp2
  cases c₀
  simp_all [bodyPostS, results, Tryd.results46]

set_option maxHeartbeats 1000000 in
theorem attempt_idle (fv : Value) (h : Cur w D s at_ e) (he : e ≠ 0) : Calls Tryd.prog 35 #[.pointer (some ⟨D, 0, none⟩), fv] w fun x w' => x = .returned (.tuple #[]) ∧ Below w.heap.size w w' := by
  have h0' : ¬ (e : Int) = 0 := by omega
  have HC := hide (h.below ((Below.refl _ _).alloc (Nat.le_refl _) (.cells #[.pointer (some ⟨D, 0, none⟩)] 39)))
  have c2 := Blk.cell HC.out 2
  clear h
  go_enter_defers Tryd.func35, Tryd.ntmps35
  go_wp2
  simp [bodyPostD, Leaves, results, Tryd.results35, go_sem]
  exact (Below.refl _ _).alloc (Nat.le_refl _) _

set_option maxHeartbeats 1000000 in
theorem attempt_ok (fno : FuncId) (caps : Array Value) (Q : World → World → Prop) (h : Cur w D s at_ 0) (hent : ∀ args w, (callFunc fno args).run Tryd.prog w = .ok (.enter fno args) w)
    (HT : ∀ X, Below w.heap.size w X → Calls Tryd.prog fno caps X fun x X' => x = .returned (.tuple #[]) ∧ Q X X') :
    Calls Tryd.prog 35 #[.pointer (some ⟨D, 0, none⟩), .func (.func fno) #[] caps] w fun x w' => x = .returned (.tuple #[]) ∧ ∃ X, Below w.heap.size w X ∧ Q X w' := by
  have hmf : ∀ (fn : Fn) (first cap : Array Value) (w : World), (Instr.makeFunc fn first cap).run Tryd.prog w = .ok (.func fn first cap) w := fun _ _ _ _ => rfl
  have HB1 : Hid (Below w.heap.size w (w.alloc (.cells #[.pointer (some ⟨D, 0, none⟩)] 39))) := (Below.refl _ _).alloc (Nat.le_refl _) _
  have HC := hide (h.below HB1.out)
  have c1 := Blk.cell HC.out 1
  have c2 := Blk.cell HC.out 2
  have HTT := hide HT
  clear h HT
  go_enter_defers Tryd.func35, Tryd.ntmps35
  go_wp2_with fail
  refine (HTT.out _ (HB1.out.alloc HB1.out.size _)).mono ?_
  rintro x w1 ⟨rfl, hq⟩
  have HQ := hide hq
  clear hq
  go_wp2
  refine leaves_cons (f := 46) (args := #[.pointer (some ⟨w.heap.size + 1, 0, none⟩), .pointer (some ⟨w.heap.size, 0, none⟩)]) (by simp) (by simp [go_sem]) ?_
  refine (idle_att _ _ _).mono ?_
  rintro x u' w'' ⟨rfl, rfl, rfl⟩
  simp [Leaves, settle, results, Tryd.results35, go_sem]
  exact ⟨_, HB1.out.alloc HB1.out.size _, HQ.out⟩

set_option maxHeartbeats 1000000 in
theorem attempt_no (fno : FuncId) (caps : Array Value) (f : Nat) (h : Cur w D s at_ 0) (hent : ∀ args w, (callFunc fno args).run Tryd.prog w = .ok (.enter fno args) w)
    (HT : ∀ X, Below w.heap.size w X → Calls Tryd.prog fno caps X fun x X' => Pan f x ∧ (∃ k, Cur X' D s k 0) ∧ But D X X') :
    Calls Tryd.prog 35 #[.pointer (some ⟨D, 0, none⟩), .func (.func fno) #[] caps] w fun x w' => x = .returned (.tuple #[]) ∧ Cur w' D s at_ f ∧ But D w w' := by
  have hmf : ∀ (fn : Fn) (first cap : Array Value) (w : World), (Instr.makeFunc fn first cap).run Tryd.prog w = .ok (.func fn first cap) w := fun _ _ _ _ => rfl
  have HB1 : Hid (Below w.heap.size w (w.alloc (.cells #[.pointer (some ⟨D, 0, none⟩)] 39))) := (Below.refl _ _).alloc (Nat.le_refl _) _
  have HC := hide (h.below HB1.out)
  have c1 := Blk.cell HC.out 1
  have c2 := Blk.cell HC.out 2
  have HTT := hide HT
  have hDl := h.lt
  have HK1 : Hid (Blk ((w.alloc (.cells #[.pointer (some ⟨D, 0, none⟩)] 39)).alloc (.cells #[.int .i64 (at_ : Int)] 3)) w.heap.size #[.pointer (some ⟨D, 0, none⟩)] 39) := (Blk.new _ _ _).alloc _
  have HK2 : Hid (Blk ((w.alloc (.cells #[.pointer (some ⟨D, 0, none⟩)] 39)).alloc (.cells #[.int .i64 (at_ : Int)] 3)) (w.heap.size + 1) #[.int .i64 (at_ : Int)] 3) := Blk.newAt _ _ (by simp) _ _
  clear h HT
  go_enter_defers Tryd.func35, Tryd.ntmps35
  go_wp2_with fail
  refine (HTT.out _ (HB1.out.alloc HB1.out.size _)).mono ?_
  rintro x w1 ⟨rfl, ⟨k, hk⟩, hb⟩
  have q1 := (hb.blk HK1.out (by omega)).cell 0
  have q2 := (hb.blk HK2.out (by omega)).cell 0
  have HB2 := hide ((But.of_below (HB1.out.alloc HB1.out.size (.cells #[.int .i64 (at_ : Int)] 3))).trans hb)
  have HKK := hide hk
  have HQ1 := hide q1
  have HQ2 := hide q2
  clear hk hb q1 q2
  go_wp2
  refine leaves_cons (f := 46) (args := #[.pointer (some ⟨w.heap.size + 1, 0, none⟩), .pointer (some ⟨w.heap.size, 0, none⟩)]) (by simp) (by simp [go_sem]) ?_
  refine (catch_att _ _ at_ f [] HKK.out HQ2.out HQ1.out).mono ?_
  rintro x u' w'' ⟨rfl, rfl, hc, hb⟩
  simp [Leaves, settle, results, Tryd.results35, go_sem]
  exact ⟨hc, HB2.out.trans hb⟩

end

end Go.Proofs.YthknmkebdlnahaaDoor

namespace Go.Proofs.YthknmkebdlnahaaDoor
open Go.RowKit Go.Shelf

theorem But.setNew {D g i : Nat} {a b : World} (h : But D a b) (hg : a.heap.size ≤ g) (v : Value) : But D a (b.setCell ⟨g, i, none⟩ v) := by
  refine ⟨h.os, h.tape, h.output, by simpa [World.setCell] using h.size, fun k hk hn => ?_⟩
  rw [← h.block k hk hn]
  have : g ≠ k := by omega
  simp [World.setCell, Array.getElem?_modify, this]

theorem Blk.one {w : World} {b : Nat} {x : Value} {t : TypeId} (h : Blk w b #[x] t) (v : Value) : Blk (w.setCell ⟨b, 0, none⟩ v) b #[v] t := by
  unfold Blk at *
  simp only [World.setCell, Array.getElem?_modify, if_true, h, Option.map_some]
  rfl

def getV (s : ByteArray) (at_ e k : Nat) : Nat := if e = 0 ∧ at_ + k ≤ s.size then beA (bys s) at_ k else 0
def getA (s : ByteArray) (at_ e k : Nat) : Nat := if e = 0 ∧ at_ + k ≤ s.size then at_ + k else at_
def getE (s : ByteArray) (at_ e k : Nat) : Nat := if e = 0 then (if at_ + k ≤ s.size then 0 else 110) else e

section
variable {w : World} {D : Nat} {s : ByteArray} {at_ e : Nat}

set_option maxHeartbeats 1000000 in
theorem clo1_ok {X : World} (a b : Nat) (hs : s.size ≤ 4611686018427387904) (h : Cur X D s at_ 0) (hn : at_ + 1 ≤ s.size) (ha : Blk X a #[.pointer (some ⟨D, 0, none⟩)] 39) (hb : Blk X b #[.int .i64 0] 3) (hbD : b ≠ D) (hw : But D w X) (hwb : w.heap.size ≤ b) :
    Calls Tryd.prog 36 #[.pointer (some ⟨a, 0, none⟩), .pointer (some ⟨b, 0, none⟩)] X fun x X' => x = .returned (.tuple #[]) ∧ Cur X' D s (at_ + 1) 0 ∧ Blk X' b #[.int .i64 (beA (bys s) at_ 1 : Int)] 3 ∧ But D w X' := by
  have HN := hide (number1_ok hs h hn)
  have ca := ha.cell 0
  have HBB := hide hb
  have HW := hide hw
  clear h ha hb hw hn
  go_enter Tryd.func36, Tryd.ntmps36
  go_wp2_with fail
  refine HN.out.mono ?_
  rintro x w1 ⟨rfl, hc, ht⟩
  have q := ht.blk HBB.out hbD
  have q0 := q.cell 0
  have f0 := q.free 0
  have Q1 := hide (q.one (.int .i64 (beA (bys s) at_ 1 : Int)))
  have HC := hide hc
  have HT := hide ht
  clear hc ht q
  go_wp2
  simp [bodyPost, results, Tryd.results36, go_sem]
  exact ⟨Blk.other HC.out (a := ⟨b, 0, none⟩) hbD _, Q1.out, (HW.out.trans HT.out).setNew hwb _⟩

set_option maxHeartbeats 1000000 in
theorem clo1_no {X : World} (a b : Nat) (hs : s.size ≤ 4611686018427387904) (h : Cur X D s at_ 0) (ha' : at_ ≤ s.size) (hn : s.size < at_ + 1) (ha : Blk X a #[.pointer (some ⟨D, 0, none⟩)] 39) :
    Calls Tryd.prog 36 #[.pointer (some ⟨a, 0, none⟩), .pointer (some ⟨b, 0, none⟩)] X fun x X' => Pan 110 x ∧ (∃ k, Cur X' D s k 0) ∧ But D X X' := by
  have HN := hide (number1_no hs ha' h hn)
  have ca := ha.cell 0
  have HC := hide h
  clear h ha hn ha'
  go_enter Tryd.func36, Tryd.ntmps36
  go_wp2_with fail
  refine HN.out.mono ?_
  rintro x w1 ⟨rfl, hb⟩
  have HB := hide hb
  clear hb
  go_wp2
  exact ⟨rfl, rfl, ⟨at_, HC.out.below HB.out⟩, But.of_below HB.out⟩

set_option maxHeartbeats 1000000 in
theorem Get8_any (hs : s.size ≤ 4611686018427387904) (ha : at_ ≤ s.size) (h : Cur w D s at_ e) : Calls Tryd.prog 26 #[.pointer (some ⟨D, 0, none⟩)] w fun x w' => x = .returned (.int .i64 (getV s at_ e 1 : Int)) ∧ Cur w' D s (getA s at_ e 1) (getE s at_ e 1) ∧ But D w w' := by
  have hmf : ∀ (fn : Fn) (first cap : Array Value) (w : World), (Instr.makeFunc fn first cap).run Tryd.prog w = .ok (.func fn first cap) w := fun _ _ _ _ => rfl
  have hDl := h.lt
  have HB2 : Hid (Below w.heap.size w ((w.alloc (.cells #[.pointer (some ⟨D, 0, none⟩)] 39)).alloc (.cells #[.int .i64 0] 3))) := ((Below.refl _ _).alloc (Nat.le_refl _) _).alloc ((Below.refl _ _).alloc (Nat.le_refl _) _).size _
  have HC := hide (h.below HB2.out)
  have K1 : Hid (Blk ((w.alloc (.cells #[.pointer (some ⟨D, 0, none⟩)] 39)).alloc (.cells #[.int .i64 0] 3)) w.heap.size #[.pointer (some ⟨D, 0, none⟩)] 39) := (Blk.new _ _ _).alloc _
  have K2 : Hid (Blk ((w.alloc (.cells #[.pointer (some ⟨D, 0, none⟩)] 39)).alloc (.cells #[.int .i64 0] 3)) (w.heap.size + 1) #[.int .i64 0] 3) := Blk.newAt _ _ (by simp) _ _
  have hz1 : w.heap.size < ((w.alloc (.cells #[.pointer (some ⟨D, 0, none⟩)] 39)).alloc (.cells #[.int .i64 0] 3)).heap.size := K1.out.lt
  have hz2 : w.heap.size + 1 < ((w.alloc (.cells #[.pointer (some ⟨D, 0, none⟩)] 39)).alloc (.cells #[.int .i64 0] 3)).heap.size := K2.out.lt
  have hent : ∀ args w, (callFunc 36 args).run Tryd.prog w = .ok (.enter 36 args) w := enters_of Tryd.func36 (by kernel_rfl) rfl
  clear h
  by_cases h0 : e = 0
  · subst h0
    by_cases hn : at_ + 1 ≤ s.size
    · have e1 : getV s at_ 0 1 = beA (bys s) at_ 1 := by unfold getV; rw [if_pos ⟨rfl, hn⟩]
      have e2 : getA s at_ 0 1 = at_ + 1 := by unfold getA; rw [if_pos ⟨rfl, hn⟩]
      have e3 : getE s at_ 0 1 = 0 := by unfold getE; rw [if_pos rfl, if_pos hn]
      rw [e1, e2, e3]
      have HA := hide (attempt_ok 36 #[.pointer (some ⟨w.heap.size, 0, none⟩), .pointer (some ⟨w.heap.size + 1, 0, none⟩)] (fun _ X' => Cur X' D s (at_ + 1) 0 ∧ Blk X' (w.heap.size + 1) #[.int .i64 (beA (bys s) at_ 1 : Int)] 3 ∧ But D w X') HC.out hent
        (fun X hX => clo1_ok w.heap.size (w.heap.size + 1) hs (HC.out.below hX) hn (K1.out.below hX hz1) (K2.out.below hX hz2) (by omega) ((But.of_below HB2.out).trans (But.of_below hX)) (by omega)))
      clear e1 e2 e3 hent HC K1 K2
      go_enter Tryd.func26, Tryd.ntmps26
      go_wp2_with fail
      refine HA.out.mono ?_
      rintro x w1 ⟨rfl, X, hX, hc, hq, hb⟩
      have q0 := hq.cell 0
      have f0 := hq.free 0
      have Q1 := hide (hq.one (.int .i64 (beA (bys s) at_ 1 : Int)))
      have r0 := Q1.out.cell 0
      have HCC := hide hc
      have HBB := hide hb
      clear hc hq hb hX HA
      go_wp2
      simp [bodyPost, results, Tryd.results26, go_sem, r0]
      exact ⟨Blk.other HCC.out (a := ⟨w.heap.size + 1, 0, none⟩) (by show w.heap.size + 1 ≠ D; omega) _, HBB.out.setNew (by omega) _⟩
    · have e1 : getV s at_ 0 1 = 0 := by unfold getV; rw [if_neg (by omega)]
      have e2 : getA s at_ 0 1 = at_ := by unfold getA; rw [if_neg (by omega)]
      have e3 : getE s at_ 0 1 = 110 := by unfold getE; rw [if_pos rfl, if_neg hn]
      rw [e1, e2, e3]
      have HA := hide (attempt_no 36 #[.pointer (some ⟨w.heap.size, 0, none⟩), .pointer (some ⟨w.heap.size + 1, 0, none⟩)] 110 HC.out hent
        (fun X hX => clo1_no w.heap.size (w.heap.size + 1) hs (HC.out.below hX) ha (by omega) (K1.out.below hX hz1)))
      clear e1 e2 e3 hent HC K1
      go_enter Tryd.func26, Tryd.ntmps26
      go_wp2_with fail
      refine HA.out.mono ?_
      rintro x w1 ⟨rfl, hc, hb⟩
      have hq := hb.blk K2.out (by omega)
      have q0 := hq.cell 0
      have f0 := hq.free 0
      have Q1 := hide (hq.one (.int .i64 0))
      have r0 := Q1.out.cell 0
      have HCC := hide hc
      have HBB := hide ((But.of_below HB2.out).trans hb)
      clear hc hq hb HA K2
      go_wp2
      simp [bodyPost, results, Tryd.results26, go_sem, r0]
      exact ⟨Blk.other HCC.out (a := ⟨w.heap.size + 1, 0, none⟩) (by show w.heap.size + 1 ≠ D; omega) _, HBB.out.setNew (by omega) _⟩
  · have e1 : getV s at_ e 1 = 0 := by unfold getV; rw [if_neg (by omega)]
    have e2 : getA s at_ e 1 = at_ := by unfold getA; rw [if_neg (by omega)]
    have e3 : getE s at_ e 1 = e := by unfold getE; rw [if_neg h0]
    rw [e1, e2, e3]
    have HA := hide (attempt_idle (.func (.func 36) #[] #[.pointer (some ⟨w.heap.size, 0, none⟩), .pointer (some ⟨w.heap.size + 1, 0, none⟩)]) HC.out h0)
    clear e1 e2 e3 hent K1
    go_enter Tryd.func26, Tryd.ntmps26
    go_wp2_with fail
    refine HA.out.mono ?_
    rintro x w1 ⟨rfl, hb⟩
    have hq := K2.out.below hb hz2
    have q0 := hq.cell 0
    have f0 := hq.free 0
    have Q1 := hide (hq.one (.int .i64 0))
    have r0 := Q1.out.cell 0
    have HCC := hide (HC.out.below hb)
    have HBB := hide ((But.of_below (D := D) HB2.out).trans (But.of_below hb))
    clear hq hb HA K2 HC
    go_wp2
    simp [bodyPost, results, Tryd.results26, go_sem, r0]
    exact ⟨Blk.other HCC.out (a := ⟨w.heap.size + 1, 0, none⟩) (by show w.heap.size + 1 ≠ D; omega) _, HBB.out.setNew (by omega) _⟩

set_option maxHeartbeats 1000000 in
theorem clo2_ok {X : World} (a b : Nat) (hs : s.size ≤ 4611686018427387904) (h : Cur X D s at_ 0) (hn : at_ + 2 ≤ s.size) (ha : Blk X a #[.pointer (some ⟨D, 0, none⟩)] 39) (hb : Blk X b #[.int .i64 0] 3) (hbD : b ≠ D) (hw : But D w X) (hwb : w.heap.size ≤ b) :
    Calls Tryd.prog 38 #[.pointer (some ⟨a, 0, none⟩), .pointer (some ⟨b, 0, none⟩)] X fun x X' => x = .returned (.tuple #[]) ∧ Cur X' D s (at_ + 2) 0 ∧ Blk X' b #[.int .i64 (beA (bys s) at_ 2 : Int)] 3 ∧ But D w X' := by
  have HN := hide (number2_ok hs h hn)
  have ca := ha.cell 0
  have HBB := hide hb
  have HW := hide hw
  clear h ha hb hw hn
  go_enter Tryd.func38, Tryd.ntmps38
  go_wp2_with fail
  refine HN.out.mono ?_
  rintro x w1 ⟨rfl, hc, ht⟩
  have q := ht.blk HBB.out hbD
  have q0 := q.cell 0
  have f0 := q.free 0
  have Q1 := hide (q.one (.int .i64 (beA (bys s) at_ 2 : Int)))
  have HC := hide hc
  have HT := hide ht
  clear hc ht q
  go_wp2
  simp [bodyPost, results, Tryd.results38, go_sem]
  exact ⟨Blk.other HC.out (a := ⟨b, 0, none⟩) hbD _, Q1.out, (HW.out.trans HT.out).setNew hwb _⟩

set_option maxHeartbeats 1000000 in
theorem clo2_no {X : World} (a b : Nat) (hs : s.size ≤ 4611686018427387904) (h : Cur X D s at_ 0) (ha' : at_ ≤ s.size) (hn : s.size < at_ + 2) (ha : Blk X a #[.pointer (some ⟨D, 0, none⟩)] 39) :
    Calls Tryd.prog 38 #[.pointer (some ⟨a, 0, none⟩), .pointer (some ⟨b, 0, none⟩)] X fun x X' => Pan 110 x ∧ (∃ k, Cur X' D s k 0) ∧ But D X X' := by
  have HN := hide (number2_no hs ha' h hn)
  have ca := ha.cell 0
  have HC := hide h
  clear h ha hn ha'
  go_enter Tryd.func38, Tryd.ntmps38
  go_wp2_with fail
  refine HN.out.mono ?_
  rintro x w1 ⟨rfl, hb⟩
  have HB := hide hb
  clear hb
  go_wp2
  exact ⟨rfl, rfl, ⟨at_, HC.out.below HB.out⟩, But.of_below HB.out⟩

set_option maxHeartbeats 1000000 in
theorem Get16_any (hs : s.size ≤ 4611686018427387904) (ha : at_ ≤ s.size) (h : Cur w D s at_ e) : Calls Tryd.prog 27 #[.pointer (some ⟨D, 0, none⟩)] w fun x w' => x = .returned (.int .i64 (getV s at_ e 2 : Int)) ∧ Cur w' D s (getA s at_ e 2) (getE s at_ e 2) ∧ But D w w' := by
  have hmf : ∀ (fn : Fn) (first cap : Array Value) (w : World), (Instr.makeFunc fn first cap).run Tryd.prog w = .ok (.func fn first cap) w := fun _ _ _ _ => rfl
  have hDl := h.lt
  have HB2 : Hid (Below w.heap.size w ((w.alloc (.cells #[.pointer (some ⟨D, 0, none⟩)] 39)).alloc (.cells #[.int .i64 0] 3))) := ((Below.refl _ _).alloc (Nat.le_refl _) _).alloc ((Below.refl _ _).alloc (Nat.le_refl _) _).size _
  have HC := hide (h.below HB2.out)
  have K1 : Hid (Blk ((w.alloc (.cells #[.pointer (some ⟨D, 0, none⟩)] 39)).alloc (.cells #[.int .i64 0] 3)) w.heap.size #[.pointer (some ⟨D, 0, none⟩)] 39) := (Blk.new _ _ _).alloc _
  have K2 : Hid (Blk ((w.alloc (.cells #[.pointer (some ⟨D, 0, none⟩)] 39)).alloc (.cells #[.int .i64 0] 3)) (w.heap.size + 1) #[.int .i64 0] 3) := Blk.newAt _ _ (by simp) _ _
  have hz1 : w.heap.size < ((w.alloc (.cells #[.pointer (some ⟨D, 0, none⟩)] 39)).alloc (.cells #[.int .i64 0] 3)).heap.size := K1.out.lt
  have hz2 : w.heap.size + 1 < ((w.alloc (.cells #[.pointer (some ⟨D, 0, none⟩)] 39)).alloc (.cells #[.int .i64 0] 3)).heap.size := K2.out.lt
  have hent : ∀ args w, (callFunc 38 args).run Tryd.prog w = .ok (.enter 38 args) w := enters_of Tryd.func38 (by kernel_rfl) rfl
  clear h
  by_cases h0 : e = 0
  · subst h0
    by_cases hn : at_ + 2 ≤ s.size
    · have e1 : getV s at_ 0 2 = beA (bys s) at_ 2 := by unfold getV; rw [if_pos ⟨rfl, hn⟩]
      have e2 : getA s at_ 0 2 = at_ + 2 := by unfold getA; rw [if_pos ⟨rfl, hn⟩]
      have e3 : getE s at_ 0 2 = 0 := by unfold getE; rw [if_pos rfl, if_pos hn]
      rw [e1, e2, e3]
      have HA := hide (attempt_ok 38 #[.pointer (some ⟨w.heap.size, 0, none⟩), .pointer (some ⟨w.heap.size + 1, 0, none⟩)] (fun _ X' => Cur X' D s (at_ + 2) 0 ∧ Blk X' (w.heap.size + 1) #[.int .i64 (beA (bys s) at_ 2 : Int)] 3 ∧ But D w X') HC.out hent
        (fun X hX => clo2_ok w.heap.size (w.heap.size + 1) hs (HC.out.below hX) hn (K1.out.below hX hz1) (K2.out.below hX hz2) (by omega) ((But.of_below HB2.out).trans (But.of_below hX)) (by omega)))
      clear e1 e2 e3 hent HC K1 K2
      go_enter Tryd.func27, Tryd.ntmps27
      go_wp2_with fail
      refine HA.out.mono ?_
      rintro x w1 ⟨rfl, X, hX, hc, hq, hb⟩
      have q0 := hq.cell 0
      have f0 := hq.free 0
      have Q1 := hide (hq.one (.int .i64 (beA (bys s) at_ 2 : Int)))
      have r0 := Q1.out.cell 0
      have HCC := hide hc
      have HBB := hide hb
      clear hc hq hb hX HA
      go_wp2
      simp [bodyPost, results, Tryd.results27, go_sem, r0]
      exact ⟨Blk.other HCC.out (a := ⟨w.heap.size + 1, 0, none⟩) (by show w.heap.size + 1 ≠ D; omega) _, HBB.out.setNew (by omega) _⟩
    · have e1 : getV s at_ 0 2 = 0 := by unfold getV; rw [if_neg (by omega)]
      have e2 : getA s at_ 0 2 = at_ := by unfold getA; rw [if_neg (by omega)]
      have e3 : getE s at_ 0 2 = 110 := by unfold getE; rw [if_pos rfl, if_neg hn]
      rw [e1, e2, e3]
      have HA := hide (attempt_no 38 #[.pointer (some ⟨w.heap.size, 0, none⟩), .pointer (some ⟨w.heap.size + 1, 0, none⟩)] 110 HC.out hent
        (fun X hX => clo2_no w.heap.size (w.heap.size + 1) hs (HC.out.below hX) ha (by omega) (K1.out.below hX hz1)))
      clear e1 e2 e3 hent HC K1
      go_enter Tryd.func27, Tryd.ntmps27
      go_wp2_with fail
      refine HA.out.mono ?_
      rintro x w1 ⟨rfl, hc, hb⟩
      have hq := hb.blk K2.out (by omega)
      have q0 := hq.cell 0
      have f0 := hq.free 0
      have Q1 := hide (hq.one (.int .i64 0))
      have r0 := Q1.out.cell 0
      have HCC := hide hc
      have HBB := hide ((But.of_below HB2.out).trans hb)
      clear hc hq hb HA K2
      go_wp2
      simp [bodyPost, results, Tryd.results27, go_sem, r0]
      exact ⟨Blk.other HCC.out (a := ⟨w.heap.size + 1, 0, none⟩) (by show w.heap.size + 1 ≠ D; omega) _, HBB.out.setNew (by omega) _⟩
  · have e1 : getV s at_ e 2 = 0 := by unfold getV; rw [if_neg (by omega)]
    have e2 : getA s at_ e 2 = at_ := by unfold getA; rw [if_neg (by omega)]
    have e3 : getE s at_ e 2 = e := by unfold getE; rw [if_neg h0]
    rw [e1, e2, e3]
    have HA := hide (attempt_idle (.func (.func 38) #[] #[.pointer (some ⟨w.heap.size, 0, none⟩), .pointer (some ⟨w.heap.size + 1, 0, none⟩)]) HC.out h0)
    clear e1 e2 e3 hent K1
    go_enter Tryd.func27, Tryd.ntmps27
    go_wp2_with fail
    refine HA.out.mono ?_
    rintro x w1 ⟨rfl, hb⟩
    have hq := K2.out.below hb hz2
    have q0 := hq.cell 0
    have f0 := hq.free 0
    have Q1 := hide (hq.one (.int .i64 0))
    have r0 := Q1.out.cell 0
    have HCC := hide (HC.out.below hb)
    have HBB := hide ((But.of_below (D := D) HB2.out).trans (But.of_below hb))
    clear hq hb HA K2 HC
    go_wp2
    simp [bodyPost, results, Tryd.results27, go_sem, r0]
    exact ⟨Blk.other HCC.out (a := ⟨w.heap.size + 1, 0, none⟩) (by show w.heap.size + 1 ≠ D; omega) _, HBB.out.setNew (by omega) _⟩

set_option maxHeartbeats 1000000 in
theorem clo4_ok {X : World} (a b : Nat) (hs : s.size ≤ 4611686018427387904) (h : Cur X D s at_ 0) (hn : at_ + 4 ≤ s.size) (ha : Blk X a #[.pointer (some ⟨D, 0, none⟩)] 39) (hb : Blk X b #[.int .i64 0] 3) (hbD : b ≠ D) (hw : But D w X) (hwb : w.heap.size ≤ b) :
    Calls Tryd.prog 40 #[.pointer (some ⟨a, 0, none⟩), .pointer (some ⟨b, 0, none⟩)] X fun x X' => x = .returned (.tuple #[]) ∧ Cur X' D s (at_ + 4) 0 ∧ Blk X' b #[.int .i64 (beA (bys s) at_ 4 : Int)] 3 ∧ But D w X' := by
  have HN := hide (number4_ok hs h hn)
  have ca := ha.cell 0
  have HBB := hide hb
  have HW := hide hw
  clear h ha hb hw hn
  go_enter Tryd.func40, Tryd.ntmps40
  go_wp2_with fail
  refine HN.out.mono ?_
  rintro x w1 ⟨rfl, hc, ht⟩
  have q := ht.blk HBB.out hbD
  have q0 := q.cell 0
  have f0 := q.free 0
  have Q1 := hide (q.one (.int .i64 (beA (bys s) at_ 4 : Int)))
  have HC := hide hc
  have HT := hide ht
  clear hc ht q
  go_wp2
  simp [bodyPost, results, Tryd.results40, go_sem]
  exact ⟨Blk.other HC.out (a := ⟨b, 0, none⟩) hbD _, Q1.out, (HW.out.trans HT.out).setNew hwb _⟩

set_option maxHeartbeats 1000000 in
theorem clo4_no {X : World} (a b : Nat) (hs : s.size ≤ 4611686018427387904) (h : Cur X D s at_ 0) (ha' : at_ ≤ s.size) (hn : s.size < at_ + 4) (ha : Blk X a #[.pointer (some ⟨D, 0, none⟩)] 39) :
    Calls Tryd.prog 40 #[.pointer (some ⟨a, 0, none⟩), .pointer (some ⟨b, 0, none⟩)] X fun x X' => Pan 110 x ∧ (∃ k, Cur X' D s k 0) ∧ But D X X' := by
  have HN := hide (number4_no hs ha' h hn)
  have ca := ha.cell 0
  have HC := hide h
  clear h ha hn ha'
  go_enter Tryd.func40, Tryd.ntmps40
  go_wp2_with fail
  refine HN.out.mono ?_
  rintro x w1 ⟨rfl, hb⟩
  have HB := hide hb
  clear hb
  go_wp2
  exact ⟨rfl, rfl, ⟨at_, HC.out.below HB.out⟩, But.of_below HB.out⟩

set_option maxHeartbeats 1000000 in
theorem Get32_any (hs : s.size ≤ 4611686018427387904) (ha : at_ ≤ s.size) (h : Cur w D s at_ e) : Calls Tryd.prog 28 #[.pointer (some ⟨D, 0, none⟩)] w fun x w' => x = .returned (.int .i64 (getV s at_ e 4 : Int)) ∧ Cur w' D s (getA s at_ e 4) (getE s at_ e 4) ∧ But D w w' := by
  have hmf : ∀ (fn : Fn) (first cap : Array Value) (w : World), (Instr.makeFunc fn first cap).run Tryd.prog w = .ok (.func fn first cap) w := fun _ _ _ _ => rfl
  have hDl := h.lt
  have HB2 : Hid (Below w.heap.size w ((w.alloc (.cells #[.pointer (some ⟨D, 0, none⟩)] 39)).alloc (.cells #[.int .i64 0] 3))) := ((Below.refl _ _).alloc (Nat.le_refl _) _).alloc ((Below.refl _ _).alloc (Nat.le_refl _) _).size _
  have HC := hide (h.below HB2.out)
  have K1 : Hid (Blk ((w.alloc (.cells #[.pointer (some ⟨D, 0, none⟩)] 39)).alloc (.cells #[.int .i64 0] 3)) w.heap.size #[.pointer (some ⟨D, 0, none⟩)] 39) := (Blk.new _ _ _).alloc _
  have K2 : Hid (Blk ((w.alloc (.cells #[.pointer (some ⟨D, 0, none⟩)] 39)).alloc (.cells #[.int .i64 0] 3)) (w.heap.size + 1) #[.int .i64 0] 3) := Blk.newAt _ _ (by simp) _ _
  have hz1 : w.heap.size < ((w.alloc (.cells #[.pointer (some ⟨D, 0, none⟩)] 39)).alloc (.cells #[.int .i64 0] 3)).heap.size := K1.out.lt
  have hz2 : w.heap.size + 1 < ((w.alloc (.cells #[.pointer (some ⟨D, 0, none⟩)] 39)).alloc (.cells #[.int .i64 0] 3)).heap.size := K2.out.lt
  have hent : ∀ args w, (callFunc 40 args).run Tryd.prog w = .ok (.enter 40 args) w := enters_of Tryd.func40 (by kernel_rfl) rfl
  clear h
  by_cases h0 : e = 0
  · subst h0
    by_cases hn : at_ + 4 ≤ s.size
    · have e1 : getV s at_ 0 4 = beA (bys s) at_ 4 := by unfold getV; rw [if_pos ⟨rfl, hn⟩]
      have e2 : getA s at_ 0 4 = at_ + 4 := by unfold getA; rw [if_pos ⟨rfl, hn⟩]
      have e3 : getE s at_ 0 4 = 0 := by unfold getE; rw [if_pos rfl, if_pos hn]
      rw [e1, e2, e3]
      have HA := hide (attempt_ok 40 #[.pointer (some ⟨w.heap.size, 0, none⟩), .pointer (some ⟨w.heap.size + 1, 0, none⟩)] (fun _ X' => Cur X' D s (at_ + 4) 0 ∧ Blk X' (w.heap.size + 1) #[.int .i64 (beA (bys s) at_ 4 : Int)] 3 ∧ But D w X') HC.out hent
        (fun X hX => clo4_ok w.heap.size (w.heap.size + 1) hs (HC.out.below hX) hn (K1.out.below hX hz1) (K2.out.below hX hz2) (by omega) ((But.of_below HB2.out).trans (But.of_below hX)) (by omega)))
      clear e1 e2 e3 hent HC K1 K2
      go_enter Tryd.func28, Tryd.ntmps28
      go_wp2_with fail
      refine HA.out.mono ?_
      rintro x w1 ⟨rfl, X, hX, hc, hq, hb⟩
      have q0 := hq.cell 0
      have f0 := hq.free 0
      have Q1 := hide (hq.one (.int .i64 (beA (bys s) at_ 4 : Int)))
      have r0 := Q1.out.cell 0
      have HCC := hide hc
      have HBB := hide hb
      clear hc hq hb hX HA
      go_wp2
      simp [bodyPost, results, Tryd.results28, go_sem, r0]
      exact ⟨Blk.other HCC.out (a := ⟨w.heap.size + 1, 0, none⟩) (by show w.heap.size + 1 ≠ D; omega) _, HBB.out.setNew (by omega) _⟩
    · have e1 : getV s at_ 0 4 = 0 := by unfold getV; rw [if_neg (by omega)]
      have e2 : getA s at_ 0 4 = at_ := by unfold getA; rw [if_neg (by omega)]
      have e3 : getE s at_ 0 4 = 110 := by unfold getE; rw [if_pos rfl, if_neg hn]
      rw [e1, e2, e3]
      have HA := hide (attempt_no 40 #[.pointer (some ⟨w.heap.size, 0, none⟩), .pointer (some ⟨w.heap.size + 1, 0, none⟩)] 110 HC.out hent
        (fun X hX => clo4_no w.heap.size (w.heap.size + 1) hs (HC.out.below hX) ha (by omega) (K1.out.below hX hz1)))
      clear e1 e2 e3 hent HC K1
      go_enter Tryd.func28, Tryd.ntmps28
      go_wp2_with fail
      refine HA.out.mono ?_
      rintro x w1 ⟨rfl, hc, hb⟩
      have hq := hb.blk K2.out (by omega)
      have q0 := hq.cell 0
      have f0 := hq.free 0
      have Q1 := hide (hq.one (.int .i64 0))
      have r0 := Q1.out.cell 0
      have HCC := hide hc
      have HBB := hide ((But.of_below HB2.out).trans hb)
      clear hc hq hb HA K2
      go_wp2
      simp [bodyPost, results, Tryd.results28, go_sem, r0]
      exact ⟨Blk.other HCC.out (a := ⟨w.heap.size + 1, 0, none⟩) (by show w.heap.size + 1 ≠ D; omega) _, HBB.out.setNew (by omega) _⟩
  · have e1 : getV s at_ e 4 = 0 := by unfold getV; rw [if_neg (by omega)]
    have e2 : getA s at_ e 4 = at_ := by unfold getA; rw [if_neg (by omega)]
    have e3 : getE s at_ e 4 = e := by unfold getE; rw [if_neg h0]
    rw [e1, e2, e3]
    have HA := hide (attempt_idle (.func (.func 40) #[] #[.pointer (some ⟨w.heap.size, 0, none⟩), .pointer (some ⟨w.heap.size + 1, 0, none⟩)]) HC.out h0)
    clear e1 e2 e3 hent K1
    go_enter Tryd.func28, Tryd.ntmps28
    go_wp2_with fail
    refine HA.out.mono ?_
    rintro x w1 ⟨rfl, hb⟩
    have hq := K2.out.below hb hz2
    have q0 := hq.cell 0
    have f0 := hq.free 0
    have Q1 := hide (hq.one (.int .i64 0))
    have r0 := Q1.out.cell 0
    have HCC := hide (HC.out.below hb)
    have HBB := hide ((But.of_below (D := D) HB2.out).trans (But.of_below hb))
    clear hq hb HA K2 HC
    go_wp2
    simp [bodyPost, results, Tryd.results28, go_sem, r0]
    exact ⟨Blk.other HCC.out (a := ⟨w.heap.size + 1, 0, none⟩) (by show w.heap.size + 1 ≠ D; omega) _, HBB.out.setNew (by omega) _⟩

end

end Go.Proofs.YthknmkebdlnahaaDoor
