/-
  A variable of several cells, in a block by itself.
  A variable's cells, all at once; a variable behind what was laid and called.
  What cursor's Valid, Rune and Runes do.
  What the reference's within, Rune and Runes do.
  What the reference's Rune does.
  What the reference's Rune does.
  What the reference's Rune does.
  What the reference's Rune does.
  What the reference's Runes answers.
  Tokens in memory, and the package's tables; what affix's may, join and Check answer.
-/
import Derived.Test.YtobcbffakldfcaaDoorDNorm
import Derived.Handy
import Derived.Test.YtobcbffakldfcaaDoorDB1
import Derived.Test.YtobcbffakldfcaaDoorDShelf
namespace Go.Proofs.YtobcbffakldfcaaDoor
open Go.RowKit

def Blk (w : World) (b : Nat) (cs : Array Value) (t : TypeId) : Prop := w.heap[b]? = some (.cells cs t (0, 0))

section
variable {w w' : World} {b : Nat} {cs : Array Value} {t : TypeId}

theorem Blk.cell (h : Blk w b cs t) (i : Nat) : w.cell? ⟨b, i, none⟩ = cs[i]? := by unfold Blk at h; simp [World.cell?, h]
theorem Blk.free (h : Blk w b cs t) (i : Nat) : w.frozen? ⟨b, i, none⟩ = false := by unfold Blk at h; simp [World.frozen?, h]
theorem Blk.new (w : World) (cs : Array Value) (t : TypeId) : Blk (w.alloc (.cells cs t)) w.heap.size cs t := heap_alloc_new _ _
theorem Blk.newAt (w : World) (n : Nat) (hn : w.heap.size = n) (cs : Array Value) (t : TypeId) : Blk (w.alloc (.cells cs t)) n cs t := by subst hn; exact Blk.new _ _ _
theorem Blk.lt (h : Blk w b cs t) : b < w.heap.size := lt_of_block h
theorem Blk.below (h : Blk w b cs t) {B : Nat} (hb : Below B w w') (hg : b < B) : Blk w' b cs t := by
  unfold Blk at *
  rw [hb.block b hg]; exact h
theorem Blk.alloc (h : Blk w b cs t) (o : Obj) : Blk (w.alloc o) b cs t := by
  have hlt := h.lt
  unfold Blk at *
  rw [Below.heap_alloc _ _ _ hlt]; exact h
end

theorem Blk.other {w : World} {b : Nat} {t : TypeId} {cs : Array Value} (h : Blk w b cs t) {a : Addr} (ha : a.block ≠ b) (v : Value) : Blk (w.setCell a v) b cs t := by
  unfold Blk at *
  simp only [World.setCell, Array.getElem?_modify, if_neg ha, h]

end Go.Proofs.YtobcbffakldfcaaDoor

namespace Go.Proofs.YtobcbffakldfcaaDoor
open Go.RowKit

end Go.Proofs.YtobcbffakldfcaaDoor

namespace Go.Proofs.YtobcbffakldfcaaDoor
open Go.RowKit

def U8 (w : World) : Prop := Lib.Utf8Tabs 2 3 w
theorem U8.below {w w' : World} (h : U8 w) (hb : Below w.heap.size w w') : U8 w' := Utf8Tabs_below h hb

set_option maxHeartbeats 1000000 in
theorem Valid_any (s : ByteArray) (w : World) (hs : s.size ≤ 9223372036854775807) (hT : U8 w) : Calls Tryd.prog 50 #[.string s] w fun e w' => e = .returned (.bool (runesL (bys s)).isSome) ∧ Below w.heap.size w w' := by
  have HV := hide (Tryd.utf8_ValidString s w hs hT)
  have HE := hide (valid_runes (bys s))
  clear hT
  go_enter Tryd.func50, Tryd.ntmps50
  go_wp2_with fail
  refine HV.out.mono ?_
  rintro e w1 ⟨rfl, hb⟩
  go_wp2
  go_ret
  exact ⟨congrArg (fun b => Ending.returned (Value.bool b)) HE.out, hb⟩

def runesI (l : List UInt8) : Int := match runesL l with | none => -1 | some n => (n : Int)

def runeAt (s : ByteArray) (i : Int) : Nat := if i < 0 ∨ (s.size : Int) ≤ i then 0 else runeL ((bys s).drop i.toNat)

theorem bys_tail (t : ByteArray) (i : Nat) : bys (t.extract i t.size) = (bys t).drop i := by
  have := bys_len t
  unfold bys at *
  rw [ByteArray.data_extract, Array.toList_extract]
  simp only [List.extract]
  exact List.take_of_length_le (by rw [List.length_drop]; omega)

theorem decodeGo_rune (t : ByteArray) (h : t.size ≠ 0) : (Lib.decodeGo t = (65533, 1) ∧ runeL (bys t) = 0) ∨ (runeL (bys t) ≠ 0 ∧ (Lib.decodeGo t).2 = runeL (bys t) ∧ ¬ ((Lib.decodeGo t).1 = 65533 ∧ (Lib.decodeGo t).2 = 1)) := by
  have hd : Lib.decodeGo t = Lib.decodeL (bys t) := by
    unfold Lib.decodeGo
    rw [if_neg h, ← Lib.decodeL_drop t 0, List.drop_zero]
    rfl
  rw [hd]
  refine runeL_decode (bys t) (fun e => h ?_)
  rw [← bys_len, e]; rfl

set_option maxHeartbeats 1000000 in
theorem Rune_any (s : ByteArray) (i : Int) (w : World) (hT : U8 w) : Calls Tryd.prog 31 #[.string s, .int .i64 i] w fun e w' => e = .returned (.int .i64 (runeAt s i : Int)) ∧ Below w.heap.size w w' := by
  by_cases h0 : i < 0
  · have e : runeAt s i = 0 := by unfold runeAt; rw [if_pos (.inl h0)]
    rw [e]
    clear hT
    go_enter Tryd.func31, Tryd.ntmps31
    go_wp2
    go_ret
    exact ⟨rfl, Below.refl _ _⟩
  by_cases h1 : (s.size : Int) ≤ i
  · have e : runeAt s i = 0 := by unfold runeAt; rw [if_pos (.inr h1)]
    rw [e]
    clear hT
    go_enter Tryd.func31, Tryd.ntmps31
    go_wp2
    go_ret
    exact ⟨rfl, Below.refl _ _⟩
  obtain ⟨p, rfl⟩ : ∃ p : Nat, i = (p : Int) := ⟨i.toNat, by omega⟩
  have hp : p < s.size := by omega
  have hp' : (p : Int) < (s.size : Int) := by omega
  have HE : Hid (runeAt s (p : Int) = runeL (bys (s.extract p s.size))) := by
    show runeAt s (p : Int) = _
    unfold runeAt
    rw [if_neg (by omega), bys_tail]
    rfl
  obtain ⟨t, ht⟩ : ∃ t, t = s.extract p s.size := ⟨_, rfl⟩
  have hts : t.size ≠ 0 := by rw [ht, ByteArray.size_extract]; omega
  have HD := hide (Tryd.utf8_DecodeRuneInString t w hT)
  have hd := decodeGo_rune t hts
  rw [HE.out, ← ht]
  have HT := hide ht.symm
  clear hT HE ht hts h0 h1
  rcases hd with ⟨h1, h2⟩ | ⟨h1, h2, h3⟩
  · rw [h1] at HD
    rw [h2]
    clear h1 h2
    go_enter Tryd.func31, Tryd.ntmps31
    go_wp2_with (rw [HT.out])
    refine HD.out.mono ?_
    rintro e w1 ⟨rfl, hb⟩
    go_wp2
    go_ret
    exact ⟨rfl, hb⟩
  · obtain ⟨R, K, hRK⟩ : ∃ R K, Lib.decodeGo t = (R, K) := ⟨_, _, rfl⟩
    rw [hRK] at HD h2 h3
    simp only at h2 h3
    rw [← h2]
    have HD' : Hid (Calls Tryd.prog 53 #[.string t] w fun e w' => e = .returned (.tuple #[.int .i32 (R : Int), .int .i64 (K : Int)]) ∧ Below w.heap.size w w') := HD.out
    clear HD hRK h2 h1
    by_cases hR : R = 65533
    · have hK : ¬ (K : Int) = 1 := fun e => h3 ⟨hR, by omega⟩
      have hR' : (R : Int) = 65533 := by omega
      clear h3
      go_enter Tryd.func31, Tryd.ntmps31
      go_wp2_with (rw [HT.out])
      refine HD'.out.mono ?_
      rintro e w1 ⟨rfl, hb⟩
      go_wp2
      go_ret
      exact ⟨rfl, hb⟩
    · have hR' : ¬ (R : Int) = 65533 := by omega
      clear h3
      go_enter Tryd.func31, Tryd.ntmps31
      go_wp2_with (rw [HT.out])
      refine HD'.out.mono ?_
      rintro e w1 ⟨rfl, hb⟩
      go_wp2
      go_ret
      exact ⟨rfl, hb⟩

end Go.Proofs.YtobcbffakldfcaaDoor

namespace Go.Proofs.YtobcbffakldfcaaDoor
open Go.RowKit Go.Lib

theorem byB_byt (l : List UInt8) (k : Nat) : byB l k = byt l k := by
  unfold byB byt
  rw [List.getD]
  cases l[k]? <;> rfl

theorem runeN_asc (n b0 b1 b2 b3 : Nat) (hn : 1 ≤ n) (h : b0 < 128) : runeN n b0 b1 b2 b3 = 1 := by
  unfold runeN
  rw [if_neg (by omega), if_pos h]
theorem runeN_hi (n b0 b1 b2 b3 : Nat) (hn : 1 ≤ n) (h : 128 ≤ b0) : runeN n b0 b1 b2 b3 = (checkN n b1 b2 b3 (firstT b0 % 8) (accLo (firstT b0 / 16)) (accHi (firstT b0 / 16))).getD 0 := by
  unfold runeN
  rw [if_neg (by omega), if_neg (by omega)]

theorem firstT_C2 (b0 : Nat) (h : 194 ≤ b0 ∧ b0 ≤ 223) : firstT b0 = 2 := by
  unfold firstT
  repeat' split
  all_goals first | rfl | (exfalso; omega)
theorem runeN_C2 (n b0 b1 b2 b3 : Nat) (hn : 1 ≤ n) (h : 194 ≤ b0 ∧ b0 ≤ 223) : runeN n b0 b1 b2 b3 = if n < 2 ∨ b1 < 128 ∨ 191 < b1 then 0 else 2 := by
  rw [runeN_hi n b0 b1 b2 b3 hn (by omega), firstT_C2 b0 h]
  exact checkN_two n b1 b2 b3 128 191

theorem firstT_E0 (b0 : Nat) (h : b0 = 224) : firstT b0 = 19 := by
  unfold firstT
  repeat' split
  all_goals first | rfl | (exfalso; omega)
theorem runeN_E0 (n b0 b1 b2 b3 : Nat) (hn : 1 ≤ n) (h : b0 = 224) : runeN n b0 b1 b2 b3 = if n < 3 ∨ b1 < 160 ∨ 191 < b1 ∨ b2 < 128 ∨ 191 < b2 then 0 else 3 := by
  rw [runeN_hi n b0 b1 b2 b3 hn (by omega), firstT_E0 b0 h]
  exact checkN_three n b1 b2 b3 160 191

theorem firstT_E1 (b0 : Nat) (h : 225 ≤ b0 ∧ b0 ≤ 236 ∨ b0 = 238 ∨ b0 = 239) : firstT b0 = 3 := by
  unfold firstT
  repeat' split
  all_goals first | rfl | (exfalso; omega)
theorem runeN_E1 (n b0 b1 b2 b3 : Nat) (hn : 1 ≤ n) (h : 225 ≤ b0 ∧ b0 ≤ 236 ∨ b0 = 238 ∨ b0 = 239) : runeN n b0 b1 b2 b3 = if n < 3 ∨ b1 < 128 ∨ 191 < b1 ∨ b2 < 128 ∨ 191 < b2 then 0 else 3 := by
  rw [runeN_hi n b0 b1 b2 b3 hn (by omega), firstT_E1 b0 h]
  exact checkN_three n b1 b2 b3 128 191

theorem firstT_ED (b0 : Nat) (h : b0 = 237) : firstT b0 = 35 := by
  unfold firstT
  repeat' split
  all_goals first | rfl | (exfalso; omega)
theorem runeN_ED (n b0 b1 b2 b3 : Nat) (hn : 1 ≤ n) (h : b0 = 237) : runeN n b0 b1 b2 b3 = if n < 3 ∨ b1 < 128 ∨ 159 < b1 ∨ b2 < 128 ∨ 191 < b2 then 0 else 3 := by
  rw [runeN_hi n b0 b1 b2 b3 hn (by omega), firstT_ED b0 h]
  exact checkN_three n b1 b2 b3 128 159

theorem firstT_F0 (b0 : Nat) (h : b0 = 240) : firstT b0 = 52 := by
  unfold firstT
  repeat' split
  all_goals first | rfl | (exfalso; omega)
theorem runeN_F0 (n b0 b1 b2 b3 : Nat) (hn : 1 ≤ n) (h : b0 = 240) : runeN n b0 b1 b2 b3 = if n < 4 ∨ b1 < 144 ∨ 191 < b1 ∨ b2 < 128 ∨ 191 < b2 ∨ b3 < 128 ∨ 191 < b3 then 0 else 4 := by
  rw [runeN_hi n b0 b1 b2 b3 hn (by omega), firstT_F0 b0 h]
  exact checkN_four n b1 b2 b3 144 191

theorem firstT_F1 (b0 : Nat) (h : 241 ≤ b0 ∧ b0 ≤ 243) : firstT b0 = 4 := by
  unfold firstT
  repeat' split
  all_goals first | rfl | (exfalso; omega)
theorem runeN_F1 (n b0 b1 b2 b3 : Nat) (hn : 1 ≤ n) (h : 241 ≤ b0 ∧ b0 ≤ 243) : runeN n b0 b1 b2 b3 = if n < 4 ∨ b1 < 128 ∨ 191 < b1 ∨ b2 < 128 ∨ 191 < b2 ∨ b3 < 128 ∨ 191 < b3 then 0 else 4 := by
  rw [runeN_hi n b0 b1 b2 b3 hn (by omega), firstT_F1 b0 h]
  exact checkN_four n b1 b2 b3 128 191

theorem firstT_F4 (b0 : Nat) (h : b0 = 244) : firstT b0 = 68 := by
  unfold firstT
  repeat' split
  all_goals first | rfl | (exfalso; omega)
theorem runeN_F4 (n b0 b1 b2 b3 : Nat) (hn : 1 ≤ n) (h : b0 = 244) : runeN n b0 b1 b2 b3 = if n < 4 ∨ b1 < 128 ∨ 143 < b1 ∨ b2 < 128 ∨ 191 < b2 ∨ b3 < 128 ∨ 191 < b3 then 0 else 4 := by
  rw [runeN_hi n b0 b1 b2 b3 hn (by omega), firstT_F4 b0 h]
  exact checkN_four n b1 b2 b3 128 143

theorem firstT_No (b0 : Nat) (h : 128 ≤ b0 ∧ b0 < 194 ∨ 244 < b0) : firstT b0 = 241 := by
  unfold firstT
  repeat' split
  all_goals first | rfl | (exfalso; omega)
theorem runeN_No (n b0 b1 b2 b3 : Nat) (hn : 1 ≤ n) (h : 128 ≤ b0 ∧ b0 < 194 ∨ 244 < b0) : runeN n b0 b1 b2 b3 = 0 := by
  rw [runeN_hi n b0 b1 b2 b3 hn (by omega), firstT_No b0 h]
  exact checkN_else _ _ _ _ _ _ _ (by decide) (by decide) (by decide)

def inB (l : List UInt8) (p lo hi : Nat) : Bool := decide (p < l.length ∧ lo ≤ byt l p ∧ byt l p ≤ hi)

set_option maxHeartbeats 1000000 in
theorem within_any (s : ByteArray) (p lo hi : Nat) (w : World) : Calls Tryd.prog 70 #[.string s, .int .i64 (p : Int), .int .i64 (lo : Int), .int .i64 (hi : Int)] w fun e w' => e = .returned (.bool (inB (bys s) p lo hi)) ∧ w = w' := by
  have HI : Hid (inB (bys s) p lo hi = decide (p < s.size ∧ lo ≤ byt (bys s) p ∧ byt (bys s) p ≤ hi)) := by
    show inB (bys s) p lo hi = _
    unfold inB
    rw [bys_len]
  rw [HI.out]
  clear HI
  by_cases h1 : p < s.size
  · have h1' : (p : Int) < (s.size : Int) := by omega
    have hg : ∀ h : p < s.size, s[p].toNat = byt (bys s) p := fun h => byt_get s p h
    have hb2 := byt_lt (bys s) p
    obtain ⟨b, hbb⟩ : ∃ b, b = byt (bys s) p := ⟨_, rfl⟩
    rw [← hbb] at hg hb2 ⊢
    clear hbb
    by_cases h2 : lo ≤ b
    · have h2' : (lo : Int) ≤ (b : Int) := by omega
      by_cases h3 : b ≤ hi
      · have h3' : (b : Int) ≤ (hi : Int) := by omega
        rw [decide_eq_true (by omega)]
        go_enter Tryd.func70, Tryd.ntmps70
        go_wp2
        go_ret
        exact ⟨rfl, rfl⟩
      · have h3' : ¬ (b : Int) ≤ (hi : Int) := by omega
        rw [decide_eq_false (by omega)]
        go_enter Tryd.func70, Tryd.ntmps70
        go_wp2
        go_ret
        exact ⟨rfl, rfl⟩
    · have h2' : ¬ (lo : Int) ≤ (b : Int) := by omega
      rw [decide_eq_false (by omega)]
      go_enter Tryd.func70, Tryd.ntmps70
      go_wp2
      go_ret
      exact ⟨rfl, rfl⟩
  · have h1' : ¬ (p : Int) < (s.size : Int) := by omega
    rw [decide_eq_false (by omega)]
    go_enter Tryd.func70, Tryd.ntmps70
    go_wp2
    go_ret
    exact ⟨rfl, rfl⟩

end Go.Proofs.YtobcbffakldfcaaDoor

namespace Go.Proofs.YtobcbffakldfcaaDoor
open Go.RowKit Go.Lib

set_option maxRecDepth 100000 in
set_option maxHeartbeats 2000000 in
theorem rr_As (s : ByteArray) (p B : Nat) (w : World) (hs : s.size ≤ 140737488355328) (hp : p < s.size) (hB : byt (bys s) p = B) (hc : B < 128) : Calls Tryd.prog 57 #[.string s, .int .i64 (p : Int)] w fun e w' => e = .returned (.int .i64 ((runeAt s (p : Int) : Nat) : Int)) ∧ w = w' := by
  have hp' : (p : Int) < (s.size : Int) := by omega
  have hg : ∀ h : p < s.size, s[p].toNat = B := fun h => (byt_get s p h).trans hB
  have hb2 : B < 256 := by rw [← hB]; exact byt_lt _ _
  have W1 : Hid (∀ X, Calls Tryd.prog 70 #[.string s, .int .i64 ((p : Int) + 1), .int .i64 128, .int .i64 191] X fun e w' => e = .returned (.bool (inB (bys s) (p + 1) 128 191)) ∧ X = w') := fun X => by have := within_any s (p + 1) 128 191 X; simpa using this
  have W2 : Hid (∀ X, Calls Tryd.prog 70 #[.string s, .int .i64 ((p : Int) + 2), .int .i64 128, .int .i64 191] X fun e w' => e = .returned (.bool (inB (bys s) (p + 2) 128 191)) ∧ X = w') := fun X => by have := within_any s (p + 2) 128 191 X; simpa using this
  have W3 : Hid (∀ X, Calls Tryd.prog 70 #[.string s, .int .i64 ((p : Int) + 3), .int .i64 128, .int .i64 191] X fun e w' => e = .returned (.bool (inB (bys s) (p + 3) 128 191)) ∧ X = w') := fun X => by have := within_any s (p + 3) 128 191 X; simpa using this
  have ta : (B : Int) < 128 := by omega
  have hR : runeAt s (p : Int) = runeN (s.size - p) B (byt (bys s) (p + 1)) (byt (bys s) (p + 2)) (byt (bys s) (p + 3)) := by
    unfold runeAt
    rw [if_neg (by omega)]
    show runeL ((bys s).drop p) = _
    unfold runeL
    rw [byB_drop, byB_drop, byB_drop, byB_drop, byB_byt, byB_byt, byB_byt, byB_byt, List.length_drop, bys_len, Nat.add_zero, hB]
  rw [runeN_asc _ _ _ _ _ (by omega) (by omega)] at hR
  rw [hR]
  clear hR
  clear hB hc
  go_enter Tryd.func57, Tryd.ntmps57
  go_wp2_with fail
  refine (W1.out _).mono ?_
  rintro e w1 ⟨rfl, rfl⟩
  go_wp2_with fail
  refine (W2.out _).mono ?_
  rintro e w2 ⟨rfl, rfl⟩
  go_wp2_with fail
  refine (W3.out _).mono ?_
  rintro e w3 ⟨rfl, rfl⟩
  go_wp2
  go_ret
  exact ⟨rfl, rfl⟩

set_option maxRecDepth 100000 in
set_option maxHeartbeats 2000000 in
theorem rr_C2 (s : ByteArray) (p B : Nat) (w : World) (hs : s.size ≤ 140737488355328) (hp : p < s.size) (hB : byt (bys s) p = B) (hc : 194 ≤ B ∧ B ≤ 223) : Calls Tryd.prog 57 #[.string s, .int .i64 (p : Int)] w fun e w' => e = .returned (.int .i64 ((runeAt s (p : Int) : Nat) : Int)) ∧ w = w' := by
  have hp' : (p : Int) < (s.size : Int) := by omega
  have hg : ∀ h : p < s.size, s[p].toNat = B := fun h => (byt_get s p h).trans hB
  have hb2 : B < 256 := by rw [← hB]; exact byt_lt _ _
  have W1 : Hid (∀ X, Calls Tryd.prog 70 #[.string s, .int .i64 ((p : Int) + 1), .int .i64 128, .int .i64 191] X fun e w' => e = .returned (.bool (inB (bys s) (p + 1) 128 191)) ∧ X = w') := fun X => by have := within_any s (p + 1) 128 191 X; simpa using this
  have W2 : Hid (∀ X, Calls Tryd.prog 70 #[.string s, .int .i64 ((p : Int) + 2), .int .i64 128, .int .i64 191] X fun e w' => e = .returned (.bool (inB (bys s) (p + 2) 128 191)) ∧ X = w') := fun X => by have := within_any s (p + 2) 128 191 X; simpa using this
  have W3 : Hid (∀ X, Calls Tryd.prog 70 #[.string s, .int .i64 ((p : Int) + 3), .int .i64 128, .int .i64 191] X fun e w' => e = .returned (.bool (inB (bys s) (p + 3) 128 191)) ∧ X = w') := fun X => by have := within_any s (p + 3) 128 191 X; simpa using this
  have ta : ¬ (B : Int) < 128 := by omega
  have tb : 194 ≤ (B : Int) := by omega
  have tc : (B : Int) ≤ 223 := by omega
  have td : ¬ (B : Int) = 224 := by omega
  have te : ¬ 225 ≤ (B : Int) := by omega
  have tg : ¬ (B : Int) = 238 := by omega
  have th : ¬ (B : Int) = 239 := by omega
  have ti : ¬ (B : Int) = 237 := by omega
  have tj : ¬ (B : Int) = 240 := by omega
  have tk : ¬ 241 ≤ (B : Int) := by omega
  have tm : ¬ (B : Int) = 244 := by omega
  have hR : runeAt s (p : Int) = runeN (s.size - p) B (byt (bys s) (p + 1)) (byt (bys s) (p + 2)) (byt (bys s) (p + 3)) := by
    unfold runeAt
    rw [if_neg (by omega)]
    show runeL ((bys s).drop p) = _
    unfold runeL
    rw [byB_drop, byB_drop, byB_drop, byB_drop, byB_byt, byB_byt, byB_byt, byB_byt, List.length_drop, bys_len, Nat.add_zero, hB]
  rw [runeN_C2 _ _ _ _ _ (by omega) (by omega)] at hR
  have hl := bys_len s
  obtain ⟨x1, hx1⟩ : ∃ x, x = inB (bys s) (p + 1) 128 191 := ⟨_, rfl⟩
  rw [← hx1] at W1
  obtain ⟨x2, hx2⟩ : ∃ x, x = inB (bys s) (p + 2) 128 191 := ⟨_, rfl⟩
  rw [← hx2] at W2
  obtain ⟨x3, hx3⟩ : ∃ x, x = inB (bys s) (p + 3) 128 191 := ⟨_, rfl⟩
  rw [← hx3] at W3
  have hV : runeAt s (p : Int) = (if x1 = true then 2 else 0 : Nat) := by
    rw [hR]
    unfold inB at hx1
    have q : (x1 = true) ↔ (((p + 1) < (bys s).length ∧ 128 ≤ byt (bys s) (p + 1) ∧ byt (bys s) (p + 1) ≤ 191)) := by rw [hx1]; simp only [decide_eq_true_eq]
    by_cases hq : x1 = true
    · have := q.1 hq
      rw [if_pos hq, if_neg (by omega)]
    · have : ¬ (((p + 1) < (bys s).length ∧ 128 ≤ byt (bys s) (p + 1) ∧ byt (bys s) (p + 1) ≤ 191)) := fun h => hq (q.2 h)
      rw [if_neg hq, if_pos (by omega)]
  rw [hV]
  clear hR hV hl hx1 hx2 hx3
  clear hB hc
  cases x1
  · rw [if_neg (by simp)]
    go_enter Tryd.func57, Tryd.ntmps57
    go_wp2_with fail
    refine (W1.out _).mono ?_
    rintro e w1 ⟨rfl, rfl⟩
    go_wp2_with fail
    refine (W2.out _).mono ?_
    rintro e w2 ⟨rfl, rfl⟩
    go_wp2_with fail
    refine (W3.out _).mono ?_
    rintro e w3 ⟨rfl, rfl⟩
    go_wp2
    go_ret
    exact ⟨rfl, rfl⟩
  · skip
    rw [if_pos (by simp)]
    go_enter Tryd.func57, Tryd.ntmps57
    go_wp2_with fail
    refine (W1.out _).mono ?_
    rintro e w1 ⟨rfl, rfl⟩
    go_wp2_with fail
    refine (W2.out _).mono ?_
    rintro e w2 ⟨rfl, rfl⟩
    go_wp2_with fail
    refine (W3.out _).mono ?_
    rintro e w3 ⟨rfl, rfl⟩
    go_wp2
    go_ret
    exact ⟨rfl, rfl⟩

set_option maxRecDepth 100000 in
set_option maxHeartbeats 2000000 in
theorem rr_E0 (s : ByteArray) (p B : Nat) (w : World) (hs : s.size ≤ 140737488355328) (hp : p < s.size) (hB : byt (bys s) p = B) (hc : B = 224) : Calls Tryd.prog 57 #[.string s, .int .i64 (p : Int)] w fun e w' => e = .returned (.int .i64 ((runeAt s (p : Int) : Nat) : Int)) ∧ w = w' := by
  have hp' : (p : Int) < (s.size : Int) := by omega
  have hg : ∀ h : p < s.size, s[p].toNat = B := fun h => (byt_get s p h).trans hB
  have hb2 : B < 256 := by rw [← hB]; exact byt_lt _ _
  have W1 : Hid (∀ X, Calls Tryd.prog 70 #[.string s, .int .i64 ((p : Int) + 1), .int .i64 128, .int .i64 191] X fun e w' => e = .returned (.bool (inB (bys s) (p + 1) 128 191)) ∧ X = w') := fun X => by have := within_any s (p + 1) 128 191 X; simpa using this
  have W2 : Hid (∀ X, Calls Tryd.prog 70 #[.string s, .int .i64 ((p : Int) + 2), .int .i64 128, .int .i64 191] X fun e w' => e = .returned (.bool (inB (bys s) (p + 2) 128 191)) ∧ X = w') := fun X => by have := within_any s (p + 2) 128 191 X; simpa using this
  have W3 : Hid (∀ X, Calls Tryd.prog 70 #[.string s, .int .i64 ((p : Int) + 3), .int .i64 128, .int .i64 191] X fun e w' => e = .returned (.bool (inB (bys s) (p + 3) 128 191)) ∧ X = w') := fun X => by have := within_any s (p + 3) 128 191 X; simpa using this
  have W4 : Hid (∀ X, Calls Tryd.prog 70 #[.string s, .int .i64 ((p : Int) + 1), .int .i64 160, .int .i64 191] X fun e w' => e = .returned (.bool (inB (bys s) (p + 1) 160 191)) ∧ X = w') := fun X => by have := within_any s (p + 1) 160 191 X; simpa using this
  have ta : ¬ (B : Int) < 128 := by omega
  have tb : 194 ≤ (B : Int) := by omega
  have tc : ¬ (B : Int) ≤ 223 := by omega
  have td : (B : Int) = 224 := by omega
  have te : ¬ 225 ≤ (B : Int) := by omega
  have tg : ¬ (B : Int) = 238 := by omega
  have th : ¬ (B : Int) = 239 := by omega
  have ti : ¬ (B : Int) = 237 := by omega
  have tj : ¬ (B : Int) = 240 := by omega
  have tk : ¬ 241 ≤ (B : Int) := by omega
  have tm : ¬ (B : Int) = 244 := by omega
  have hR : runeAt s (p : Int) = runeN (s.size - p) B (byt (bys s) (p + 1)) (byt (bys s) (p + 2)) (byt (bys s) (p + 3)) := by
    unfold runeAt
    rw [if_neg (by omega)]
    show runeL ((bys s).drop p) = _
    unfold runeL
    rw [byB_drop, byB_drop, byB_drop, byB_drop, byB_byt, byB_byt, byB_byt, byB_byt, List.length_drop, bys_len, Nat.add_zero, hB]
  rw [runeN_E0 _ _ _ _ _ (by omega) (by omega)] at hR
  have hl := bys_len s
  obtain ⟨x1, hx1⟩ : ∃ x, x = inB (bys s) (p + 1) 128 191 := ⟨_, rfl⟩
  rw [← hx1] at W1
  obtain ⟨x2, hx2⟩ : ∃ x, x = inB (bys s) (p + 2) 128 191 := ⟨_, rfl⟩
  rw [← hx2] at W2
  obtain ⟨x3, hx3⟩ : ∃ x, x = inB (bys s) (p + 3) 128 191 := ⟨_, rfl⟩
  rw [← hx3] at W3
  obtain ⟨x4, hx4⟩ : ∃ x, x = inB (bys s) (p + 1) 160 191 := ⟨_, rfl⟩
  rw [← hx4] at W4
  have hV : runeAt s (p : Int) = (if x4 = true ∧ x2 = true then 3 else 0 : Nat) := by
    rw [hR]
    unfold inB at hx4
    unfold inB at hx2
    have q : (x4 = true ∧ x2 = true) ↔ (((p + 1) < (bys s).length ∧ 160 ≤ byt (bys s) (p + 1) ∧ byt (bys s) (p + 1) ≤ 191) ∧ ((p + 2) < (bys s).length ∧ 128 ≤ byt (bys s) (p + 2) ∧ byt (bys s) (p + 2) ≤ 191)) := by rw [hx4, hx2]; simp only [decide_eq_true_eq]
    by_cases hq : x4 = true ∧ x2 = true
    · have := q.1 hq
      rw [if_pos hq, if_neg (by omega)]
    · have : ¬ (((p + 1) < (bys s).length ∧ 160 ≤ byt (bys s) (p + 1) ∧ byt (bys s) (p + 1) ≤ 191) ∧ ((p + 2) < (bys s).length ∧ 128 ≤ byt (bys s) (p + 2) ∧ byt (bys s) (p + 2) ≤ 191)) := fun h => hq (q.2 h)
      rw [if_neg hq, if_pos (by omega)]
  rw [hV]
  clear hR hV hl hx1 hx2 hx3 hx4
  clear hB hc
  cases x4
  · rw [if_neg (by simp)]
    go_enter Tryd.func57, Tryd.ntmps57
    go_wp2_with fail
    refine (W1.out _).mono ?_
    rintro e w1 ⟨rfl, rfl⟩
    go_wp2_with fail
    refine (W2.out _).mono ?_
    rintro e w2 ⟨rfl, rfl⟩
    go_wp2_with fail
    refine (W3.out _).mono ?_
    rintro e w3 ⟨rfl, rfl⟩
    go_wp2_with fail
    refine (W4.out _).mono ?_
    rintro e w4 ⟨rfl, rfl⟩
    go_wp2
    go_ret
    exact ⟨rfl, rfl⟩
  · skip
    cases x2
    · rw [if_neg (by simp)]
      go_enter Tryd.func57, Tryd.ntmps57
      go_wp2_with fail
      refine (W1.out _).mono ?_
      rintro e w1 ⟨rfl, rfl⟩
      go_wp2_with fail
      refine (W2.out _).mono ?_
      rintro e w2 ⟨rfl, rfl⟩
      go_wp2_with fail
      refine (W3.out _).mono ?_
      rintro e w3 ⟨rfl, rfl⟩
      go_wp2_with fail
      refine (W4.out _).mono ?_
      rintro e w4 ⟨rfl, rfl⟩
      go_wp2
      go_ret
      exact ⟨rfl, rfl⟩
    · skip
      rw [if_pos (by simp)]
      go_enter Tryd.func57, Tryd.ntmps57
      go_wp2_with fail
      refine (W1.out _).mono ?_
      rintro e w1 ⟨rfl, rfl⟩
      go_wp2_with fail
      refine (W2.out _).mono ?_
      rintro e w2 ⟨rfl, rfl⟩
      go_wp2_with fail
      refine (W3.out _).mono ?_
      rintro e w3 ⟨rfl, rfl⟩
      go_wp2_with fail
      refine (W4.out _).mono ?_
      rintro e w4 ⟨rfl, rfl⟩
      go_wp2
      go_ret
      exact ⟨rfl, rfl⟩

set_option maxRecDepth 100000 in
set_option maxHeartbeats 2000000 in
theorem rr_E1a (s : ByteArray) (p B : Nat) (w : World) (hs : s.size ≤ 140737488355328) (hp : p < s.size) (hB : byt (bys s) p = B) (hc : 225 ≤ B ∧ B ≤ 236) : Calls Tryd.prog 57 #[.string s, .int .i64 (p : Int)] w fun e w' => e = .returned (.int .i64 ((runeAt s (p : Int) : Nat) : Int)) ∧ w = w' := by
  have hp' : (p : Int) < (s.size : Int) := by omega
  have hg : ∀ h : p < s.size, s[p].toNat = B := fun h => (byt_get s p h).trans hB
  have hb2 : B < 256 := by rw [← hB]; exact byt_lt _ _
  have W1 : Hid (∀ X, Calls Tryd.prog 70 #[.string s, .int .i64 ((p : Int) + 1), .int .i64 128, .int .i64 191] X fun e w' => e = .returned (.bool (inB (bys s) (p + 1) 128 191)) ∧ X = w') := fun X => by have := within_any s (p + 1) 128 191 X; simpa using this
  have W2 : Hid (∀ X, Calls Tryd.prog 70 #[.string s, .int .i64 ((p : Int) + 2), .int .i64 128, .int .i64 191] X fun e w' => e = .returned (.bool (inB (bys s) (p + 2) 128 191)) ∧ X = w') := fun X => by have := within_any s (p + 2) 128 191 X; simpa using this
  have W3 : Hid (∀ X, Calls Tryd.prog 70 #[.string s, .int .i64 ((p : Int) + 3), .int .i64 128, .int .i64 191] X fun e w' => e = .returned (.bool (inB (bys s) (p + 3) 128 191)) ∧ X = w') := fun X => by have := within_any s (p + 3) 128 191 X; simpa using this
  have ta : ¬ (B : Int) < 128 := by omega
  have tb : 194 ≤ (B : Int) := by omega
  have tc : ¬ (B : Int) ≤ 223 := by omega
  have td : ¬ (B : Int) = 224 := by omega
  have te : 225 ≤ (B : Int) := by omega
  have tf : (B : Int) ≤ 236 := by omega
  have tg : ¬ (B : Int) = 238 := by omega
  have th : ¬ (B : Int) = 239 := by omega
  have ti : ¬ (B : Int) = 237 := by omega
  have tj : ¬ (B : Int) = 240 := by omega
  have tk : ¬ 241 ≤ (B : Int) := by omega
  have tm : ¬ (B : Int) = 244 := by omega
  have hR : runeAt s (p : Int) = runeN (s.size - p) B (byt (bys s) (p + 1)) (byt (bys s) (p + 2)) (byt (bys s) (p + 3)) := by
    unfold runeAt
    rw [if_neg (by omega)]
    show runeL ((bys s).drop p) = _
    unfold runeL
    rw [byB_drop, byB_drop, byB_drop, byB_drop, byB_byt, byB_byt, byB_byt, byB_byt, List.length_drop, bys_len, Nat.add_zero, hB]
  rw [runeN_E1 _ _ _ _ _ (by omega) (by omega)] at hR
  have hl := bys_len s
  obtain ⟨x1, hx1⟩ : ∃ x, x = inB (bys s) (p + 1) 128 191 := ⟨_, rfl⟩
  rw [← hx1] at W1
  obtain ⟨x2, hx2⟩ : ∃ x, x = inB (bys s) (p + 2) 128 191 := ⟨_, rfl⟩
  rw [← hx2] at W2
  obtain ⟨x3, hx3⟩ : ∃ x, x = inB (bys s) (p + 3) 128 191 := ⟨_, rfl⟩
  rw [← hx3] at W3
  have hV : runeAt s (p : Int) = (if x1 = true ∧ x2 = true then 3 else 0 : Nat) := by
    rw [hR]
    unfold inB at hx1
    unfold inB at hx2
    have q : (x1 = true ∧ x2 = true) ↔ (((p + 1) < (bys s).length ∧ 128 ≤ byt (bys s) (p + 1) ∧ byt (bys s) (p + 1) ≤ 191) ∧ ((p + 2) < (bys s).length ∧ 128 ≤ byt (bys s) (p + 2) ∧ byt (bys s) (p + 2) ≤ 191)) := by rw [hx1, hx2]; simp only [decide_eq_true_eq]
    by_cases hq : x1 = true ∧ x2 = true
    · have := q.1 hq
      rw [if_pos hq, if_neg (by omega)]
    · have : ¬ (((p + 1) < (bys s).length ∧ 128 ≤ byt (bys s) (p + 1) ∧ byt (bys s) (p + 1) ≤ 191) ∧ ((p + 2) < (bys s).length ∧ 128 ≤ byt (bys s) (p + 2) ∧ byt (bys s) (p + 2) ≤ 191)) := fun h => hq (q.2 h)
      rw [if_neg hq, if_pos (by omega)]
  rw [hV]
  clear hR hV hl hx1 hx2 hx3
  clear hB hc
  cases x1
  · rw [if_neg (by simp)]
    go_enter Tryd.func57, Tryd.ntmps57
    go_wp2_with fail
    refine (W1.out _).mono ?_
    rintro e w1 ⟨rfl, rfl⟩
    go_wp2_with fail
    refine (W2.out _).mono ?_
    rintro e w2 ⟨rfl, rfl⟩
    go_wp2_with fail
    refine (W3.out _).mono ?_
    rintro e w3 ⟨rfl, rfl⟩
    go_wp2
    go_ret
    exact ⟨rfl, rfl⟩
  · skip
    cases x2
    · rw [if_neg (by simp)]
      go_enter Tryd.func57, Tryd.ntmps57
      go_wp2_with fail
      refine (W1.out _).mono ?_
      rintro e w1 ⟨rfl, rfl⟩
      go_wp2_with fail
      refine (W2.out _).mono ?_
      rintro e w2 ⟨rfl, rfl⟩
      go_wp2_with fail
      refine (W3.out _).mono ?_
      rintro e w3 ⟨rfl, rfl⟩
      go_wp2
      go_ret
      exact ⟨rfl, rfl⟩
    · skip
      rw [if_pos (by simp)]
      go_enter Tryd.func57, Tryd.ntmps57
      go_wp2_with fail
      refine (W1.out _).mono ?_
      rintro e w1 ⟨rfl, rfl⟩
      go_wp2_with fail
      refine (W2.out _).mono ?_
      rintro e w2 ⟨rfl, rfl⟩
      go_wp2_with fail
      refine (W3.out _).mono ?_
      rintro e w3 ⟨rfl, rfl⟩
      go_wp2
      go_ret
      exact ⟨rfl, rfl⟩

set_option maxRecDepth 100000 in
set_option maxHeartbeats 2000000 in
theorem rr_E1b (s : ByteArray) (p B : Nat) (w : World) (hs : s.size ≤ 140737488355328) (hp : p < s.size) (hB : byt (bys s) p = B) (hc : B = 238) : Calls Tryd.prog 57 #[.string s, .int .i64 (p : Int)] w fun e w' => e = .returned (.int .i64 ((runeAt s (p : Int) : Nat) : Int)) ∧ w = w' := by
  have hp' : (p : Int) < (s.size : Int) := by omega
  have hg : ∀ h : p < s.size, s[p].toNat = B := fun h => (byt_get s p h).trans hB
  have hb2 : B < 256 := by rw [← hB]; exact byt_lt _ _
  have W1 : Hid (∀ X, Calls Tryd.prog 70 #[.string s, .int .i64 ((p : Int) + 1), .int .i64 128, .int .i64 191] X fun e w' => e = .returned (.bool (inB (bys s) (p + 1) 128 191)) ∧ X = w') := fun X => by have := within_any s (p + 1) 128 191 X; simpa using this
  have W2 : Hid (∀ X, Calls Tryd.prog 70 #[.string s, .int .i64 ((p : Int) + 2), .int .i64 128, .int .i64 191] X fun e w' => e = .returned (.bool (inB (bys s) (p + 2) 128 191)) ∧ X = w') := fun X => by have := within_any s (p + 2) 128 191 X; simpa using this
  have W3 : Hid (∀ X, Calls Tryd.prog 70 #[.string s, .int .i64 ((p : Int) + 3), .int .i64 128, .int .i64 191] X fun e w' => e = .returned (.bool (inB (bys s) (p + 3) 128 191)) ∧ X = w') := fun X => by have := within_any s (p + 3) 128 191 X; simpa using this
  have ta : ¬ (B : Int) < 128 := by omega
  have tb : 194 ≤ (B : Int) := by omega
  have tc : ¬ (B : Int) ≤ 223 := by omega
  have td : ¬ (B : Int) = 224 := by omega
  have te : 225 ≤ (B : Int) := by omega
  have tf : ¬ (B : Int) ≤ 236 := by omega
  have tg : (B : Int) = 238 := by omega
  have ti : ¬ (B : Int) = 237 := by omega
  have tj : ¬ (B : Int) = 240 := by omega
  have tk : ¬ 241 ≤ (B : Int) := by omega
  have tm : ¬ (B : Int) = 244 := by omega
  have hR : runeAt s (p : Int) = runeN (s.size - p) B (byt (bys s) (p + 1)) (byt (bys s) (p + 2)) (byt (bys s) (p + 3)) := by
    unfold runeAt
    rw [if_neg (by omega)]
    show runeL ((bys s).drop p) = _
    unfold runeL
    rw [byB_drop, byB_drop, byB_drop, byB_drop, byB_byt, byB_byt, byB_byt, byB_byt, List.length_drop, bys_len, Nat.add_zero, hB]
  rw [runeN_E1 _ _ _ _ _ (by omega) (by omega)] at hR
  have hl := bys_len s
  obtain ⟨x1, hx1⟩ : ∃ x, x = inB (bys s) (p + 1) 128 191 := ⟨_, rfl⟩
  rw [← hx1] at W1
  obtain ⟨x2, hx2⟩ : ∃ x, x = inB (bys s) (p + 2) 128 191 := ⟨_, rfl⟩
  rw [← hx2] at W2
  obtain ⟨x3, hx3⟩ : ∃ x, x = inB (bys s) (p + 3) 128 191 := ⟨_, rfl⟩
  rw [← hx3] at W3
  have hV : runeAt s (p : Int) = (if x1 = true ∧ x2 = true then 3 else 0 : Nat) := by
    rw [hR]
    unfold inB at hx1
    unfold inB at hx2
    have q : (x1 = true ∧ x2 = true) ↔ (((p + 1) < (bys s).length ∧ 128 ≤ byt (bys s) (p + 1) ∧ byt (bys s) (p + 1) ≤ 191) ∧ ((p + 2) < (bys s).length ∧ 128 ≤ byt (bys s) (p + 2) ∧ byt (bys s) (p + 2) ≤ 191)) := by rw [hx1, hx2]; simp only [decide_eq_true_eq]
    by_cases hq : x1 = true ∧ x2 = true
    · have := q.1 hq
      rw [if_pos hq, if_neg (by omega)]
    · have : ¬ (((p + 1) < (bys s).length ∧ 128 ≤ byt (bys s) (p + 1) ∧ byt (bys s) (p + 1) ≤ 191) ∧ ((p + 2) < (bys s).length ∧ 128 ≤ byt (bys s) (p + 2) ∧ byt (bys s) (p + 2) ≤ 191)) := fun h => hq (q.2 h)
      rw [if_neg hq, if_pos (by omega)]
  rw [hV]
  clear hR hV hl hx1 hx2 hx3
  clear hB hc
  cases x1
  · rw [if_neg (by simp)]
    go_enter Tryd.func57, Tryd.ntmps57
    go_wp2_with fail
    refine (W1.out _).mono ?_
    rintro e w1 ⟨rfl, rfl⟩
    go_wp2_with fail
    refine (W2.out _).mono ?_
    rintro e w2 ⟨rfl, rfl⟩
    go_wp2_with fail
    refine (W3.out _).mono ?_
    rintro e w3 ⟨rfl, rfl⟩
    go_wp2
    go_ret
    exact ⟨rfl, rfl⟩
  · skip
    cases x2
    · rw [if_neg (by simp)]
      go_enter Tryd.func57, Tryd.ntmps57
      go_wp2_with fail
      refine (W1.out _).mono ?_
      rintro e w1 ⟨rfl, rfl⟩
      go_wp2_with fail
      refine (W2.out _).mono ?_
      rintro e w2 ⟨rfl, rfl⟩
      go_wp2_with fail
      refine (W3.out _).mono ?_
      rintro e w3 ⟨rfl, rfl⟩
      go_wp2
      go_ret
      exact ⟨rfl, rfl⟩
    · skip
      rw [if_pos (by simp)]
      go_enter Tryd.func57, Tryd.ntmps57
      go_wp2_with fail
      refine (W1.out _).mono ?_
      rintro e w1 ⟨rfl, rfl⟩
      go_wp2_with fail
      refine (W2.out _).mono ?_
      rintro e w2 ⟨rfl, rfl⟩
      go_wp2_with fail
      refine (W3.out _).mono ?_
      rintro e w3 ⟨rfl, rfl⟩
      go_wp2
      go_ret
      exact ⟨rfl, rfl⟩

set_option maxRecDepth 100000 in
set_option maxHeartbeats 2000000 in
theorem rr_E1c (s : ByteArray) (p B : Nat) (w : World) (hs : s.size ≤ 140737488355328) (hp : p < s.size) (hB : byt (bys s) p = B) (hc : B = 239) : Calls Tryd.prog 57 #[.string s, .int .i64 (p : Int)] w fun e w' => e = .returned (.int .i64 ((runeAt s (p : Int) : Nat) : Int)) ∧ w = w' := by
  have hp' : (p : Int) < (s.size : Int) := by omega
  have hg : ∀ h : p < s.size, s[p].toNat = B := fun h => (byt_get s p h).trans hB
  have hb2 : B < 256 := by rw [← hB]; exact byt_lt _ _
  have W1 : Hid (∀ X, Calls Tryd.prog 70 #[.string s, .int .i64 ((p : Int) + 1), .int .i64 128, .int .i64 191] X fun e w' => e = .returned (.bool (inB (bys s) (p + 1) 128 191)) ∧ X = w') := fun X => by have := within_any s (p + 1) 128 191 X; simpa using this
  have W2 : Hid (∀ X, Calls Tryd.prog 70 #[.string s, .int .i64 ((p : Int) + 2), .int .i64 128, .int .i64 191] X fun e w' => e = .returned (.bool (inB (bys s) (p + 2) 128 191)) ∧ X = w') := fun X => by have := within_any s (p + 2) 128 191 X; simpa using this
  have W3 : Hid (∀ X, Calls Tryd.prog 70 #[.string s, .int .i64 ((p : Int) + 3), .int .i64 128, .int .i64 191] X fun e w' => e = .returned (.bool (inB (bys s) (p + 3) 128 191)) ∧ X = w') := fun X => by have := within_any s (p + 3) 128 191 X; simpa using this
  have ta : ¬ (B : Int) < 128 := by omega
  have tb : 194 ≤ (B : Int) := by omega
  have tc : ¬ (B : Int) ≤ 223 := by omega
  have td : ¬ (B : Int) = 224 := by omega
  have te : 225 ≤ (B : Int) := by omega
  have tf : ¬ (B : Int) ≤ 236 := by omega
  have tg : ¬ (B : Int) = 238 := by omega
  have th : (B : Int) = 239 := by omega
  have ti : ¬ (B : Int) = 237 := by omega
  have tj : ¬ (B : Int) = 240 := by omega
  have tk : ¬ 241 ≤ (B : Int) := by omega
  have tm : ¬ (B : Int) = 244 := by omega
  have hR : runeAt s (p : Int) = runeN (s.size - p) B (byt (bys s) (p + 1)) (byt (bys s) (p + 2)) (byt (bys s) (p + 3)) := by
    unfold runeAt
    rw [if_neg (by omega)]
    show runeL ((bys s).drop p) = _
    unfold runeL
    rw [byB_drop, byB_drop, byB_drop, byB_drop, byB_byt, byB_byt, byB_byt, byB_byt, List.length_drop, bys_len, Nat.add_zero, hB]
  rw [runeN_E1 _ _ _ _ _ (by omega) (by omega)] at hR
  have hl := bys_len s
  obtain ⟨x1, hx1⟩ : ∃ x, x = inB (bys s) (p + 1) 128 191 := ⟨_, rfl⟩
  rw [← hx1] at W1
  obtain ⟨x2, hx2⟩ : ∃ x, x = inB (bys s) (p + 2) 128 191 := ⟨_, rfl⟩
  rw [← hx2] at W2
  obtain ⟨x3, hx3⟩ : ∃ x, x = inB (bys s) (p + 3) 128 191 := ⟨_, rfl⟩
  rw [← hx3] at W3
  have hV : runeAt s (p : Int) = (if x1 = true ∧ x2 = true then 3 else 0 : Nat) := by
    rw [hR]
    unfold inB at hx1
    unfold inB at hx2
    have q : (x1 = true ∧ x2 = true) ↔ (((p + 1) < (bys s).length ∧ 128 ≤ byt (bys s) (p + 1) ∧ byt (bys s) (p + 1) ≤ 191) ∧ ((p + 2) < (bys s).length ∧ 128 ≤ byt (bys s) (p + 2) ∧ byt (bys s) (p + 2) ≤ 191)) := by rw [hx1, hx2]; simp only [decide_eq_true_eq]
    by_cases hq : x1 = true ∧ x2 = true
    · have := q.1 hq
      rw [if_pos hq, if_neg (by omega)]
    · have : ¬ (((p + 1) < (bys s).length ∧ 128 ≤ byt (bys s) (p + 1) ∧ byt (bys s) (p + 1) ≤ 191) ∧ ((p + 2) < (bys s).length ∧ 128 ≤ byt (bys s) (p + 2) ∧ byt (bys s) (p + 2) ≤ 191)) := fun h => hq (q.2 h)
      rw [if_neg hq, if_pos (by omega)]
  rw [hV]
  clear hR hV hl hx1 hx2 hx3
  clear hB hc
  cases x1
  · rw [if_neg (by simp)]
    go_enter Tryd.func57, Tryd.ntmps57
    go_wp2_with fail
    refine (W1.out _).mono ?_
    rintro e w1 ⟨rfl, rfl⟩
    go_wp2_with fail
    refine (W2.out _).mono ?_
    rintro e w2 ⟨rfl, rfl⟩
    go_wp2_with fail
    refine (W3.out _).mono ?_
    rintro e w3 ⟨rfl, rfl⟩
    go_wp2
    go_ret
    exact ⟨rfl, rfl⟩
  · skip
    cases x2
    · rw [if_neg (by simp)]
      go_enter Tryd.func57, Tryd.ntmps57
      go_wp2_with fail
      refine (W1.out _).mono ?_
      rintro e w1 ⟨rfl, rfl⟩
      go_wp2_with fail
      refine (W2.out _).mono ?_
      rintro e w2 ⟨rfl, rfl⟩
      go_wp2_with fail
      refine (W3.out _).mono ?_
      rintro e w3 ⟨rfl, rfl⟩
      go_wp2
      go_ret
      exact ⟨rfl, rfl⟩
    · skip
      rw [if_pos (by simp)]
      go_enter Tryd.func57, Tryd.ntmps57
      go_wp2_with fail
      refine (W1.out _).mono ?_
      rintro e w1 ⟨rfl, rfl⟩
      go_wp2_with fail
      refine (W2.out _).mono ?_
      rintro e w2 ⟨rfl, rfl⟩
      go_wp2_with fail
      refine (W3.out _).mono ?_
      rintro e w3 ⟨rfl, rfl⟩
      go_wp2
      go_ret
      exact ⟨rfl, rfl⟩

end Go.Proofs.YtobcbffakldfcaaDoor

namespace Go.Proofs.YtobcbffakldfcaaDoor
open Go.RowKit Go.Lib

set_option maxRecDepth 100000 in
set_option maxHeartbeats 2000000 in
theorem rr_ED (s : ByteArray) (p B : Nat) (w : World) (hs : s.size ≤ 140737488355328) (hp : p < s.size) (hB : byt (bys s) p = B) (hc : B = 237) : Calls Tryd.prog 57 #[.string s, .int .i64 (p : Int)] w fun e w' => e = .returned (.int .i64 ((runeAt s (p : Int) : Nat) : Int)) ∧ w = w' := by
  have hp' : (p : Int) < (s.size : Int) := by omega
  have hg : ∀ h : p < s.size, s[p].toNat = B := fun h => (byt_get s p h).trans hB
  have hb2 : B < 256 := by rw [← hB]; exact byt_lt _ _
  have W1 : Hid (∀ X, Calls Tryd.prog 70 #[.string s, .int .i64 ((p : Int) + 1), .int .i64 128, .int .i64 191] X fun e w' => e = .returned (.bool (inB (bys s) (p + 1) 128 191)) ∧ X = w') := fun X => by have := within_any s (p + 1) 128 191 X; simpa using this
  have W2 : Hid (∀ X, Calls Tryd.prog 70 #[.string s, .int .i64 ((p : Int) + 2), .int .i64 128, .int .i64 191] X fun e w' => e = .returned (.bool (inB (bys s) (p + 2) 128 191)) ∧ X = w') := fun X => by have := within_any s (p + 2) 128 191 X; simpa using this
  have W3 : Hid (∀ X, Calls Tryd.prog 70 #[.string s, .int .i64 ((p : Int) + 3), .int .i64 128, .int .i64 191] X fun e w' => e = .returned (.bool (inB (bys s) (p + 3) 128 191)) ∧ X = w') := fun X => by have := within_any s (p + 3) 128 191 X; simpa using this
  have W4 : Hid (∀ X, Calls Tryd.prog 70 #[.string s, .int .i64 ((p : Int) + 1), .int .i64 128, .int .i64 159] X fun e w' => e = .returned (.bool (inB (bys s) (p + 1) 128 159)) ∧ X = w') := fun X => by have := within_any s (p + 1) 128 159 X; simpa using this
  have ta : ¬ (B : Int) < 128 := by omega
  have tb : 194 ≤ (B : Int) := by omega
  have tc : ¬ (B : Int) ≤ 223 := by omega
  have td : ¬ (B : Int) = 224 := by omega
  have te : 225 ≤ (B : Int) := by omega
  have tf : ¬ (B : Int) ≤ 236 := by omega
  have tg : ¬ (B : Int) = 238 := by omega
  have th : ¬ (B : Int) = 239 := by omega
  have ti : (B : Int) = 237 := by omega
  have tj : ¬ (B : Int) = 240 := by omega
  have tk : ¬ 241 ≤ (B : Int) := by omega
  have tm : ¬ (B : Int) = 244 := by omega
  have hR : runeAt s (p : Int) = runeN (s.size - p) B (byt (bys s) (p + 1)) (byt (bys s) (p + 2)) (byt (bys s) (p + 3)) := by
    unfold runeAt
    rw [if_neg (by omega)]
    show runeL ((bys s).drop p) = _
    unfold runeL
    rw [byB_drop, byB_drop, byB_drop, byB_drop, byB_byt, byB_byt, byB_byt, byB_byt, List.length_drop, bys_len, Nat.add_zero, hB]
  rw [runeN_ED _ _ _ _ _ (by omega) (by omega)] at hR
  have hl := bys_len s
  obtain ⟨x1, hx1⟩ : ∃ x, x = inB (bys s) (p + 1) 128 191 := ⟨_, rfl⟩
  rw [← hx1] at W1
  obtain ⟨x2, hx2⟩ : ∃ x, x = inB (bys s) (p + 2) 128 191 := ⟨_, rfl⟩
  rw [← hx2] at W2
  obtain ⟨x3, hx3⟩ : ∃ x, x = inB (bys s) (p + 3) 128 191 := ⟨_, rfl⟩
  rw [← hx3] at W3
  obtain ⟨x4, hx4⟩ : ∃ x, x = inB (bys s) (p + 1) 128 159 := ⟨_, rfl⟩
  rw [← hx4] at W4
  have hV : runeAt s (p : Int) = (if x4 = true ∧ x2 = true then 3 else 0 : Nat) := by
    rw [hR]
    unfold inB at hx4
    unfold inB at hx2
    have q : (x4 = true ∧ x2 = true) ↔ (((p + 1) < (bys s).length ∧ 128 ≤ byt (bys s) (p + 1) ∧ byt (bys s) (p + 1) ≤ 159) ∧ ((p + 2) < (bys s).length ∧ 128 ≤ byt (bys s) (p + 2) ∧ byt (bys s) (p + 2) ≤ 191)) := by rw [hx4, hx2]; simp only [decide_eq_true_eq]
    by_cases hq : x4 = true ∧ x2 = true
    · have := q.1 hq
      rw [if_pos hq, if_neg (by omega)]
    · have : ¬ (((p + 1) < (bys s).length ∧ 128 ≤ byt (bys s) (p + 1) ∧ byt (bys s) (p + 1) ≤ 159) ∧ ((p + 2) < (bys s).length ∧ 128 ≤ byt (bys s) (p + 2) ∧ byt (bys s) (p + 2) ≤ 191)) := fun h => hq (q.2 h)
      rw [if_neg hq, if_pos (by omega)]
  rw [hV]
  clear hR hV hl hx1 hx2 hx3 hx4
  clear hB hc
  cases x4
  · rw [if_neg (by simp)]
    go_enter Tryd.func57, Tryd.ntmps57
    go_wp2_with fail
    refine (W1.out _).mono ?_
    rintro e w1 ⟨rfl, rfl⟩
    go_wp2_with fail
    refine (W2.out _).mono ?_
    rintro e w2 ⟨rfl, rfl⟩
    go_wp2_with fail
    refine (W3.out _).mono ?_
    rintro e w3 ⟨rfl, rfl⟩
    go_wp2_with fail
    refine (W4.out _).mono ?_
    rintro e w4 ⟨rfl, rfl⟩
    go_wp2
    go_ret
    exact ⟨rfl, rfl⟩
  · skip
    cases x2
    · rw [if_neg (by simp)]
      go_enter Tryd.func57, Tryd.ntmps57
      go_wp2_with fail
      refine (W1.out _).mono ?_
      rintro e w1 ⟨rfl, rfl⟩
      go_wp2_with fail
      refine (W2.out _).mono ?_
      rintro e w2 ⟨rfl, rfl⟩
      go_wp2_with fail
      refine (W3.out _).mono ?_
      rintro e w3 ⟨rfl, rfl⟩
      go_wp2_with fail
      refine (W4.out _).mono ?_
      rintro e w4 ⟨rfl, rfl⟩
      go_wp2
      go_ret
      exact ⟨rfl, rfl⟩
    · skip
      rw [if_pos (by simp)]
      go_enter Tryd.func57, Tryd.ntmps57
      go_wp2_with fail
      refine (W1.out _).mono ?_
      rintro e w1 ⟨rfl, rfl⟩
      go_wp2_with fail
      refine (W2.out _).mono ?_
      rintro e w2 ⟨rfl, rfl⟩
      go_wp2_with fail
      refine (W3.out _).mono ?_
      rintro e w3 ⟨rfl, rfl⟩
      go_wp2_with fail
      refine (W4.out _).mono ?_
      rintro e w4 ⟨rfl, rfl⟩
      go_wp2
      go_ret
      exact ⟨rfl, rfl⟩

set_option maxRecDepth 100000 in
set_option maxHeartbeats 2000000 in
theorem rr_F0 (s : ByteArray) (p B : Nat) (w : World) (hs : s.size ≤ 140737488355328) (hp : p < s.size) (hB : byt (bys s) p = B) (hc : B = 240) : Calls Tryd.prog 57 #[.string s, .int .i64 (p : Int)] w fun e w' => e = .returned (.int .i64 ((runeAt s (p : Int) : Nat) : Int)) ∧ w = w' := by
  have hp' : (p : Int) < (s.size : Int) := by omega
  have hg : ∀ h : p < s.size, s[p].toNat = B := fun h => (byt_get s p h).trans hB
  have hb2 : B < 256 := by rw [← hB]; exact byt_lt _ _
  have W1 : Hid (∀ X, Calls Tryd.prog 70 #[.string s, .int .i64 ((p : Int) + 1), .int .i64 128, .int .i64 191] X fun e w' => e = .returned (.bool (inB (bys s) (p + 1) 128 191)) ∧ X = w') := fun X => by have := within_any s (p + 1) 128 191 X; simpa using this
  have W2 : Hid (∀ X, Calls Tryd.prog 70 #[.string s, .int .i64 ((p : Int) + 2), .int .i64 128, .int .i64 191] X fun e w' => e = .returned (.bool (inB (bys s) (p + 2) 128 191)) ∧ X = w') := fun X => by have := within_any s (p + 2) 128 191 X; simpa using this
  have W3 : Hid (∀ X, Calls Tryd.prog 70 #[.string s, .int .i64 ((p : Int) + 3), .int .i64 128, .int .i64 191] X fun e w' => e = .returned (.bool (inB (bys s) (p + 3) 128 191)) ∧ X = w') := fun X => by have := within_any s (p + 3) 128 191 X; simpa using this
  have W4 : Hid (∀ X, Calls Tryd.prog 70 #[.string s, .int .i64 ((p : Int) + 1), .int .i64 144, .int .i64 191] X fun e w' => e = .returned (.bool (inB (bys s) (p + 1) 144 191)) ∧ X = w') := fun X => by have := within_any s (p + 1) 144 191 X; simpa using this
  have ta : ¬ (B : Int) < 128 := by omega
  have tb : 194 ≤ (B : Int) := by omega
  have tc : ¬ (B : Int) ≤ 223 := by omega
  have td : ¬ (B : Int) = 224 := by omega
  have te : 225 ≤ (B : Int) := by omega
  have tf : ¬ (B : Int) ≤ 236 := by omega
  have tg : ¬ (B : Int) = 238 := by omega
  have th : ¬ (B : Int) = 239 := by omega
  have ti : ¬ (B : Int) = 237 := by omega
  have tj : (B : Int) = 240 := by omega
  have tk : ¬ 241 ≤ (B : Int) := by omega
  have tm : ¬ (B : Int) = 244 := by omega
  have hR : runeAt s (p : Int) = runeN (s.size - p) B (byt (bys s) (p + 1)) (byt (bys s) (p + 2)) (byt (bys s) (p + 3)) := by
    unfold runeAt
    rw [if_neg (by omega)]
    show runeL ((bys s).drop p) = _
    unfold runeL
    rw [byB_drop, byB_drop, byB_drop, byB_drop, byB_byt, byB_byt, byB_byt, byB_byt, List.length_drop, bys_len, Nat.add_zero, hB]
  rw [runeN_F0 _ _ _ _ _ (by omega) (by omega)] at hR
  have hl := bys_len s
  obtain ⟨x1, hx1⟩ : ∃ x, x = inB (bys s) (p + 1) 128 191 := ⟨_, rfl⟩
  rw [← hx1] at W1
  obtain ⟨x2, hx2⟩ : ∃ x, x = inB (bys s) (p + 2) 128 191 := ⟨_, rfl⟩
  rw [← hx2] at W2
  obtain ⟨x3, hx3⟩ : ∃ x, x = inB (bys s) (p + 3) 128 191 := ⟨_, rfl⟩
  rw [← hx3] at W3
  obtain ⟨x4, hx4⟩ : ∃ x, x = inB (bys s) (p + 1) 144 191 := ⟨_, rfl⟩
  rw [← hx4] at W4
  have hV : runeAt s (p : Int) = (if x4 = true ∧ x2 = true ∧ x3 = true then 4 else 0 : Nat) := by
    rw [hR]
    unfold inB at hx4
    unfold inB at hx2
    unfold inB at hx3
    have q : (x4 = true ∧ x2 = true ∧ x3 = true) ↔ (((p + 1) < (bys s).length ∧ 144 ≤ byt (bys s) (p + 1) ∧ byt (bys s) (p + 1) ≤ 191) ∧ ((p + 2) < (bys s).length ∧ 128 ≤ byt (bys s) (p + 2) ∧ byt (bys s) (p + 2) ≤ 191) ∧ ((p + 3) < (bys s).length ∧ 128 ≤ byt (bys s) (p + 3) ∧ byt (bys s) (p + 3) ≤ 191)) := by rw [hx4, hx2, hx3]; simp only [decide_eq_true_eq]
    by_cases hq : x4 = true ∧ x2 = true ∧ x3 = true
    · have := q.1 hq
      rw [if_pos hq, if_neg (by omega)]
    · have : ¬ (((p + 1) < (bys s).length ∧ 144 ≤ byt (bys s) (p + 1) ∧ byt (bys s) (p + 1) ≤ 191) ∧ ((p + 2) < (bys s).length ∧ 128 ≤ byt (bys s) (p + 2) ∧ byt (bys s) (p + 2) ≤ 191) ∧ ((p + 3) < (bys s).length ∧ 128 ≤ byt (bys s) (p + 3) ∧ byt (bys s) (p + 3) ≤ 191)) := fun h => hq (q.2 h)
      rw [if_neg hq, if_pos (by omega)]
  rw [hV]
  clear hR hV hl hx1 hx2 hx3 hx4
  clear hB hc
  cases x4
  · rw [if_neg (by simp)]
    go_enter Tryd.func57, Tryd.ntmps57
    go_wp2_with fail
    refine (W1.out _).mono ?_
    rintro e w1 ⟨rfl, rfl⟩
    go_wp2_with fail
    refine (W2.out _).mono ?_
    rintro e w2 ⟨rfl, rfl⟩
    go_wp2_with fail
    refine (W3.out _).mono ?_
    rintro e w3 ⟨rfl, rfl⟩
    go_wp2_with fail
    refine (W4.out _).mono ?_
    rintro e w4 ⟨rfl, rfl⟩
    go_wp2
    go_ret
    exact ⟨rfl, rfl⟩
  · skip
    cases x2
    · rw [if_neg (by simp)]
      go_enter Tryd.func57, Tryd.ntmps57
      go_wp2_with fail
      refine (W1.out _).mono ?_
      rintro e w1 ⟨rfl, rfl⟩
      go_wp2_with fail
      refine (W2.out _).mono ?_
      rintro e w2 ⟨rfl, rfl⟩
      go_wp2_with fail
      refine (W3.out _).mono ?_
      rintro e w3 ⟨rfl, rfl⟩
      go_wp2_with fail
      refine (W4.out _).mono ?_
      rintro e w4 ⟨rfl, rfl⟩
      go_wp2
      go_ret
      exact ⟨rfl, rfl⟩
    · skip
      cases x3
      · rw [if_neg (by simp)]
        go_enter Tryd.func57, Tryd.ntmps57
        go_wp2_with fail
        refine (W1.out _).mono ?_
        rintro e w1 ⟨rfl, rfl⟩
        go_wp2_with fail
        refine (W2.out _).mono ?_
        rintro e w2 ⟨rfl, rfl⟩
        go_wp2_with fail
        refine (W3.out _).mono ?_
        rintro e w3 ⟨rfl, rfl⟩
        go_wp2_with fail
        refine (W4.out _).mono ?_
        rintro e w4 ⟨rfl, rfl⟩
        go_wp2
        go_ret
        exact ⟨rfl, rfl⟩
      · skip
        rw [if_pos (by simp)]
        go_enter Tryd.func57, Tryd.ntmps57
        go_wp2_with fail
        refine (W1.out _).mono ?_
        rintro e w1 ⟨rfl, rfl⟩
        go_wp2_with fail
        refine (W2.out _).mono ?_
        rintro e w2 ⟨rfl, rfl⟩
        go_wp2_with fail
        refine (W3.out _).mono ?_
        rintro e w3 ⟨rfl, rfl⟩
        go_wp2_with fail
        refine (W4.out _).mono ?_
        rintro e w4 ⟨rfl, rfl⟩
        go_wp2
        go_ret
        exact ⟨rfl, rfl⟩

end Go.Proofs.YtobcbffakldfcaaDoor

namespace Go.Proofs.YtobcbffakldfcaaDoor
open Go.RowKit Go.Lib

set_option maxRecDepth 100000 in
set_option maxHeartbeats 2000000 in
theorem rr_F1 (s : ByteArray) (p B : Nat) (w : World) (hs : s.size ≤ 140737488355328) (hp : p < s.size) (hB : byt (bys s) p = B) (hc : 241 ≤ B ∧ B ≤ 243) : Calls Tryd.prog 57 #[.string s, .int .i64 (p : Int)] w fun e w' => e = .returned (.int .i64 ((runeAt s (p : Int) : Nat) : Int)) ∧ w = w' := by
  have hp' : (p : Int) < (s.size : Int) := by omega
  have hg : ∀ h : p < s.size, s[p].toNat = B := fun h => (byt_get s p h).trans hB
  have hb2 : B < 256 := by rw [← hB]; exact byt_lt _ _
  have W1 : Hid (∀ X, Calls Tryd.prog 70 #[.string s, .int .i64 ((p : Int) + 1), .int .i64 128, .int .i64 191] X fun e w' => e = .returned (.bool (inB (bys s) (p + 1) 128 191)) ∧ X = w') := fun X => by have := within_any s (p + 1) 128 191 X; simpa using this
  have W2 : Hid (∀ X, Calls Tryd.prog 70 #[.string s, .int .i64 ((p : Int) + 2), .int .i64 128, .int .i64 191] X fun e w' => e = .returned (.bool (inB (bys s) (p + 2) 128 191)) ∧ X = w') := fun X => by have := within_any s (p + 2) 128 191 X; simpa using this
  have W3 : Hid (∀ X, Calls Tryd.prog 70 #[.string s, .int .i64 ((p : Int) + 3), .int .i64 128, .int .i64 191] X fun e w' => e = .returned (.bool (inB (bys s) (p + 3) 128 191)) ∧ X = w') := fun X => by have := within_any s (p + 3) 128 191 X; simpa using this
  have ta : ¬ (B : Int) < 128 := by omega
  have tb : 194 ≤ (B : Int) := by omega
  have tc : ¬ (B : Int) ≤ 223 := by omega
  have td : ¬ (B : Int) = 224 := by omega
  have te : 225 ≤ (B : Int) := by omega
  have tf : ¬ (B : Int) ≤ 236 := by omega
  have tg : ¬ (B : Int) = 238 := by omega
  have th : ¬ (B : Int) = 239 := by omega
  have ti : ¬ (B : Int) = 237 := by omega
  have tj : ¬ (B : Int) = 240 := by omega
  have tk : 241 ≤ (B : Int) := by omega
  have tl : (B : Int) ≤ 243 := by omega
  have tm : ¬ (B : Int) = 244 := by omega
  have hR : runeAt s (p : Int) = runeN (s.size - p) B (byt (bys s) (p + 1)) (byt (bys s) (p + 2)) (byt (bys s) (p + 3)) := by
    unfold runeAt
    rw [if_neg (by omega)]
    show runeL ((bys s).drop p) = _
    unfold runeL
    rw [byB_drop, byB_drop, byB_drop, byB_drop, byB_byt, byB_byt, byB_byt, byB_byt, List.length_drop, bys_len, Nat.add_zero, hB]
  rw [runeN_F1 _ _ _ _ _ (by omega) (by omega)] at hR
  have hl := bys_len s
  obtain ⟨x1, hx1⟩ : ∃ x, x = inB (bys s) (p + 1) 128 191 := ⟨_, rfl⟩
  rw [← hx1] at W1
  obtain ⟨x2, hx2⟩ : ∃ x, x = inB (bys s) (p + 2) 128 191 := ⟨_, rfl⟩
  rw [← hx2] at W2
  obtain ⟨x3, hx3⟩ : ∃ x, x = inB (bys s) (p + 3) 128 191 := ⟨_, rfl⟩
  rw [← hx3] at W3
  have hV : runeAt s (p : Int) = (if x1 = true ∧ x2 = true ∧ x3 = true then 4 else 0 : Nat) := by
    rw [hR]
    unfold inB at hx1
    unfold inB at hx2
    unfold inB at hx3
    have q : (x1 = true ∧ x2 = true ∧ x3 = true) ↔ (((p + 1) < (bys s).length ∧ 128 ≤ byt (bys s) (p + 1) ∧ byt (bys s) (p + 1) ≤ 191) ∧ ((p + 2) < (bys s).length ∧ 128 ≤ byt (bys s) (p + 2) ∧ byt (bys s) (p + 2) ≤ 191) ∧ ((p + 3) < (bys s).length ∧ 128 ≤ byt (bys s) (p + 3) ∧ byt (bys s) (p + 3) ≤ 191)) := by rw [hx1, hx2, hx3]; simp only [decide_eq_true_eq]
    by_cases hq : x1 = true ∧ x2 = true ∧ x3 = true
    · have := q.1 hq
      rw [if_pos hq, if_neg (by omega)]
    · have : ¬ (((p + 1) < (bys s).length ∧ 128 ≤ byt (bys s) (p + 1) ∧ byt (bys s) (p + 1) ≤ 191) ∧ ((p + 2) < (bys s).length ∧ 128 ≤ byt (bys s) (p + 2) ∧ byt (bys s) (p + 2) ≤ 191) ∧ ((p + 3) < (bys s).length ∧ 128 ≤ byt (bys s) (p + 3) ∧ byt (bys s) (p + 3) ≤ 191)) := fun h => hq (q.2 h)
      rw [if_neg hq, if_pos (by omega)]
  rw [hV]
  clear hR hV hl hx1 hx2 hx3
  clear hB hc
  cases x1
  · rw [if_neg (by simp)]
    go_enter Tryd.func57, Tryd.ntmps57
    go_wp2_with fail
    refine (W1.out _).mono ?_
    rintro e w1 ⟨rfl, rfl⟩
    go_wp2_with fail
    refine (W2.out _).mono ?_
    rintro e w2 ⟨rfl, rfl⟩
    go_wp2_with fail
    refine (W3.out _).mono ?_
    rintro e w3 ⟨rfl, rfl⟩
    go_wp2
    go_ret
    exact ⟨rfl, rfl⟩
  · skip
    cases x2
    · rw [if_neg (by simp)]
      go_enter Tryd.func57, Tryd.ntmps57
      go_wp2_with fail
      refine (W1.out _).mono ?_
      rintro e w1 ⟨rfl, rfl⟩
      go_wp2_with fail
      refine (W2.out _).mono ?_
      rintro e w2 ⟨rfl, rfl⟩
      go_wp2_with fail
      refine (W3.out _).mono ?_
      rintro e w3 ⟨rfl, rfl⟩
      go_wp2
      go_ret
      exact ⟨rfl, rfl⟩
    · skip
      cases x3
      · rw [if_neg (by simp)]
        go_enter Tryd.func57, Tryd.ntmps57
        go_wp2_with fail
        refine (W1.out _).mono ?_
        rintro e w1 ⟨rfl, rfl⟩
        go_wp2_with fail
        refine (W2.out _).mono ?_
        rintro e w2 ⟨rfl, rfl⟩
        go_wp2_with fail
        refine (W3.out _).mono ?_
        rintro e w3 ⟨rfl, rfl⟩
        go_wp2
        go_ret
        exact ⟨rfl, rfl⟩
      · skip
        rw [if_pos (by simp)]
        go_enter Tryd.func57, Tryd.ntmps57
        go_wp2_with fail
        refine (W1.out _).mono ?_
        rintro e w1 ⟨rfl, rfl⟩
        go_wp2_with fail
        refine (W2.out _).mono ?_
        rintro e w2 ⟨rfl, rfl⟩
        go_wp2_with fail
        refine (W3.out _).mono ?_
        rintro e w3 ⟨rfl, rfl⟩
        go_wp2
        go_ret
        exact ⟨rfl, rfl⟩

set_option maxRecDepth 100000 in
set_option maxHeartbeats 2000000 in
theorem rr_F4 (s : ByteArray) (p B : Nat) (w : World) (hs : s.size ≤ 140737488355328) (hp : p < s.size) (hB : byt (bys s) p = B) (hc : B = 244) : Calls Tryd.prog 57 #[.string s, .int .i64 (p : Int)] w fun e w' => e = .returned (.int .i64 ((runeAt s (p : Int) : Nat) : Int)) ∧ w = w' := by
  have hp' : (p : Int) < (s.size : Int) := by omega
  have hg : ∀ h : p < s.size, s[p].toNat = B := fun h => (byt_get s p h).trans hB
  have hb2 : B < 256 := by rw [← hB]; exact byt_lt _ _
  have W1 : Hid (∀ X, Calls Tryd.prog 70 #[.string s, .int .i64 ((p : Int) + 1), .int .i64 128, .int .i64 191] X fun e w' => e = .returned (.bool (inB (bys s) (p + 1) 128 191)) ∧ X = w') := fun X => by have := within_any s (p + 1) 128 191 X; simpa using this
  have W2 : Hid (∀ X, Calls Tryd.prog 70 #[.string s, .int .i64 ((p : Int) + 2), .int .i64 128, .int .i64 191] X fun e w' => e = .returned (.bool (inB (bys s) (p + 2) 128 191)) ∧ X = w') := fun X => by have := within_any s (p + 2) 128 191 X; simpa using this
  have W3 : Hid (∀ X, Calls Tryd.prog 70 #[.string s, .int .i64 ((p : Int) + 3), .int .i64 128, .int .i64 191] X fun e w' => e = .returned (.bool (inB (bys s) (p + 3) 128 191)) ∧ X = w') := fun X => by have := within_any s (p + 3) 128 191 X; simpa using this
  have W4 : Hid (∀ X, Calls Tryd.prog 70 #[.string s, .int .i64 ((p : Int) + 1), .int .i64 128, .int .i64 143] X fun e w' => e = .returned (.bool (inB (bys s) (p + 1) 128 143)) ∧ X = w') := fun X => by have := within_any s (p + 1) 128 143 X; simpa using this
  have ta : ¬ (B : Int) < 128 := by omega
  have tb : 194 ≤ (B : Int) := by omega
  have tc : ¬ (B : Int) ≤ 223 := by omega
  have td : ¬ (B : Int) = 224 := by omega
  have te : 225 ≤ (B : Int) := by omega
  have tf : ¬ (B : Int) ≤ 236 := by omega
  have tg : ¬ (B : Int) = 238 := by omega
  have th : ¬ (B : Int) = 239 := by omega
  have ti : ¬ (B : Int) = 237 := by omega
  have tj : ¬ (B : Int) = 240 := by omega
  have tk : 241 ≤ (B : Int) := by omega
  have tl : ¬ (B : Int) ≤ 243 := by omega
  have tm : (B : Int) = 244 := by omega
  have hR : runeAt s (p : Int) = runeN (s.size - p) B (byt (bys s) (p + 1)) (byt (bys s) (p + 2)) (byt (bys s) (p + 3)) := by
    unfold runeAt
    rw [if_neg (by omega)]
    show runeL ((bys s).drop p) = _
    unfold runeL
    rw [byB_drop, byB_drop, byB_drop, byB_drop, byB_byt, byB_byt, byB_byt, byB_byt, List.length_drop, bys_len, Nat.add_zero, hB]
  rw [runeN_F4 _ _ _ _ _ (by omega) (by omega)] at hR
  have hl := bys_len s
  obtain ⟨x1, hx1⟩ : ∃ x, x = inB (bys s) (p + 1) 128 191 := ⟨_, rfl⟩
  rw [← hx1] at W1
  obtain ⟨x2, hx2⟩ : ∃ x, x = inB (bys s) (p + 2) 128 191 := ⟨_, rfl⟩
  rw [← hx2] at W2
  obtain ⟨x3, hx3⟩ : ∃ x, x = inB (bys s) (p + 3) 128 191 := ⟨_, rfl⟩
  rw [← hx3] at W3
  obtain ⟨x4, hx4⟩ : ∃ x, x = inB (bys s) (p + 1) 128 143 := ⟨_, rfl⟩
  rw [← hx4] at W4
  have hV : runeAt s (p : Int) = (if x4 = true ∧ x2 = true ∧ x3 = true then 4 else 0 : Nat) := by
    rw [hR]
    unfold inB at hx4
    unfold inB at hx2
    unfold inB at hx3
    have q : (x4 = true ∧ x2 = true ∧ x3 = true) ↔ (((p + 1) < (bys s).length ∧ 128 ≤ byt (bys s) (p + 1) ∧ byt (bys s) (p + 1) ≤ 143) ∧ ((p + 2) < (bys s).length ∧ 128 ≤ byt (bys s) (p + 2) ∧ byt (bys s) (p + 2) ≤ 191) ∧ ((p + 3) < (bys s).length ∧ 128 ≤ byt (bys s) (p + 3) ∧ byt (bys s) (p + 3) ≤ 191)) := by rw [hx4, hx2, hx3]; simp only [decide_eq_true_eq]
    by_cases hq : x4 = true ∧ x2 = true ∧ x3 = true
    · have := q.1 hq
      rw [if_pos hq, if_neg (by omega)]
    · have : ¬ (((p + 1) < (bys s).length ∧ 128 ≤ byt (bys s) (p + 1) ∧ byt (bys s) (p + 1) ≤ 143) ∧ ((p + 2) < (bys s).length ∧ 128 ≤ byt (bys s) (p + 2) ∧ byt (bys s) (p + 2) ≤ 191) ∧ ((p + 3) < (bys s).length ∧ 128 ≤ byt (bys s) (p + 3) ∧ byt (bys s) (p + 3) ≤ 191)) := fun h => hq (q.2 h)
      rw [if_neg hq, if_pos (by omega)]
  rw [hV]
  clear hR hV hl hx1 hx2 hx3 hx4
  clear hB hc
  cases x4
  · rw [if_neg (by simp)]
    go_enter Tryd.func57, Tryd.ntmps57
    go_wp2_with fail
    refine (W1.out _).mono ?_
    rintro e w1 ⟨rfl, rfl⟩
    go_wp2_with fail
    refine (W2.out _).mono ?_
    rintro e w2 ⟨rfl, rfl⟩
    go_wp2_with fail
    refine (W3.out _).mono ?_
    rintro e w3 ⟨rfl, rfl⟩
    go_wp2_with fail
    refine (W4.out _).mono ?_
    rintro e w4 ⟨rfl, rfl⟩
    go_wp2
    go_ret
    exact ⟨rfl, rfl⟩
  · skip
    cases x2
    · rw [if_neg (by simp)]
      go_enter Tryd.func57, Tryd.ntmps57
      go_wp2_with fail
      refine (W1.out _).mono ?_
      rintro e w1 ⟨rfl, rfl⟩
      go_wp2_with fail
      refine (W2.out _).mono ?_
      rintro e w2 ⟨rfl, rfl⟩
      go_wp2_with fail
      refine (W3.out _).mono ?_
      rintro e w3 ⟨rfl, rfl⟩
      go_wp2_with fail
      refine (W4.out _).mono ?_
      rintro e w4 ⟨rfl, rfl⟩
      go_wp2
      go_ret
      exact ⟨rfl, rfl⟩
    · skip
      cases x3
      · rw [if_neg (by simp)]
        go_enter Tryd.func57, Tryd.ntmps57
        go_wp2_with fail
        refine (W1.out _).mono ?_
        rintro e w1 ⟨rfl, rfl⟩
        go_wp2_with fail
        refine (W2.out _).mono ?_
        rintro e w2 ⟨rfl, rfl⟩
        go_wp2_with fail
        refine (W3.out _).mono ?_
        rintro e w3 ⟨rfl, rfl⟩
        go_wp2_with fail
        refine (W4.out _).mono ?_
        rintro e w4 ⟨rfl, rfl⟩
        go_wp2
        go_ret
        exact ⟨rfl, rfl⟩
      · skip
        rw [if_pos (by simp)]
        go_enter Tryd.func57, Tryd.ntmps57
        go_wp2_with fail
        refine (W1.out _).mono ?_
        rintro e w1 ⟨rfl, rfl⟩
        go_wp2_with fail
        refine (W2.out _).mono ?_
        rintro e w2 ⟨rfl, rfl⟩
        go_wp2_with fail
        refine (W3.out _).mono ?_
        rintro e w3 ⟨rfl, rfl⟩
        go_wp2_with fail
        refine (W4.out _).mono ?_
        rintro e w4 ⟨rfl, rfl⟩
        go_wp2
        go_ret
        exact ⟨rfl, rfl⟩

set_option maxRecDepth 100000 in
set_option maxHeartbeats 2000000 in
theorem rr_Na (s : ByteArray) (p B : Nat) (w : World) (hs : s.size ≤ 140737488355328) (hp : p < s.size) (hB : byt (bys s) p = B) (hc : 128 ≤ B ∧ B < 194) : Calls Tryd.prog 57 #[.string s, .int .i64 (p : Int)] w fun e w' => e = .returned (.int .i64 ((runeAt s (p : Int) : Nat) : Int)) ∧ w = w' := by
  have hp' : (p : Int) < (s.size : Int) := by omega
  have hg : ∀ h : p < s.size, s[p].toNat = B := fun h => (byt_get s p h).trans hB
  have hb2 : B < 256 := by rw [← hB]; exact byt_lt _ _
  have W1 : Hid (∀ X, Calls Tryd.prog 70 #[.string s, .int .i64 ((p : Int) + 1), .int .i64 128, .int .i64 191] X fun e w' => e = .returned (.bool (inB (bys s) (p + 1) 128 191)) ∧ X = w') := fun X => by have := within_any s (p + 1) 128 191 X; simpa using this
  have W2 : Hid (∀ X, Calls Tryd.prog 70 #[.string s, .int .i64 ((p : Int) + 2), .int .i64 128, .int .i64 191] X fun e w' => e = .returned (.bool (inB (bys s) (p + 2) 128 191)) ∧ X = w') := fun X => by have := within_any s (p + 2) 128 191 X; simpa using this
  have W3 : Hid (∀ X, Calls Tryd.prog 70 #[.string s, .int .i64 ((p : Int) + 3), .int .i64 128, .int .i64 191] X fun e w' => e = .returned (.bool (inB (bys s) (p + 3) 128 191)) ∧ X = w') := fun X => by have := within_any s (p + 3) 128 191 X; simpa using this
  have ta : ¬ (B : Int) < 128 := by omega
  have tb : ¬ 194 ≤ (B : Int) := by omega
  have td : ¬ (B : Int) = 224 := by omega
  have te : ¬ 225 ≤ (B : Int) := by omega
  have tg : ¬ (B : Int) = 238 := by omega
  have th : ¬ (B : Int) = 239 := by omega
  have ti : ¬ (B : Int) = 237 := by omega
  have tj : ¬ (B : Int) = 240 := by omega
  have tk : ¬ 241 ≤ (B : Int) := by omega
  have tm : ¬ (B : Int) = 244 := by omega
  have hR : runeAt s (p : Int) = runeN (s.size - p) B (byt (bys s) (p + 1)) (byt (bys s) (p + 2)) (byt (bys s) (p + 3)) := by
    unfold runeAt
    rw [if_neg (by omega)]
    show runeL ((bys s).drop p) = _
    unfold runeL
    rw [byB_drop, byB_drop, byB_drop, byB_drop, byB_byt, byB_byt, byB_byt, byB_byt, List.length_drop, bys_len, Nat.add_zero, hB]
  rw [runeN_No _ _ _ _ _ (by omega) (by omega)] at hR
  rw [hR]
  clear hR
  clear hB hc
  go_enter Tryd.func57, Tryd.ntmps57
  go_wp2_with fail
  refine (W1.out _).mono ?_
  rintro e w1 ⟨rfl, rfl⟩
  go_wp2_with fail
  refine (W2.out _).mono ?_
  rintro e w2 ⟨rfl, rfl⟩
  go_wp2_with fail
  refine (W3.out _).mono ?_
  rintro e w3 ⟨rfl, rfl⟩
  go_wp2
  go_ret
  exact ⟨rfl, rfl⟩

set_option maxRecDepth 100000 in
set_option maxHeartbeats 2000000 in
theorem rr_Nb (s : ByteArray) (p B : Nat) (w : World) (hs : s.size ≤ 140737488355328) (hp : p < s.size) (hB : byt (bys s) p = B) (hc : 244 < B) : Calls Tryd.prog 57 #[.string s, .int .i64 (p : Int)] w fun e w' => e = .returned (.int .i64 ((runeAt s (p : Int) : Nat) : Int)) ∧ w = w' := by
  have hp' : (p : Int) < (s.size : Int) := by omega
  have hg : ∀ h : p < s.size, s[p].toNat = B := fun h => (byt_get s p h).trans hB
  have hb2 : B < 256 := by rw [← hB]; exact byt_lt _ _
  have W1 : Hid (∀ X, Calls Tryd.prog 70 #[.string s, .int .i64 ((p : Int) + 1), .int .i64 128, .int .i64 191] X fun e w' => e = .returned (.bool (inB (bys s) (p + 1) 128 191)) ∧ X = w') := fun X => by have := within_any s (p + 1) 128 191 X; simpa using this
  have W2 : Hid (∀ X, Calls Tryd.prog 70 #[.string s, .int .i64 ((p : Int) + 2), .int .i64 128, .int .i64 191] X fun e w' => e = .returned (.bool (inB (bys s) (p + 2) 128 191)) ∧ X = w') := fun X => by have := within_any s (p + 2) 128 191 X; simpa using this
  have W3 : Hid (∀ X, Calls Tryd.prog 70 #[.string s, .int .i64 ((p : Int) + 3), .int .i64 128, .int .i64 191] X fun e w' => e = .returned (.bool (inB (bys s) (p + 3) 128 191)) ∧ X = w') := fun X => by have := within_any s (p + 3) 128 191 X; simpa using this
  have ta : ¬ (B : Int) < 128 := by omega
  have tb : 194 ≤ (B : Int) := by omega
  have tc : ¬ (B : Int) ≤ 223 := by omega
  have td : ¬ (B : Int) = 224 := by omega
  have te : 225 ≤ (B : Int) := by omega
  have tf : ¬ (B : Int) ≤ 236 := by omega
  have tg : ¬ (B : Int) = 238 := by omega
  have th : ¬ (B : Int) = 239 := by omega
  have ti : ¬ (B : Int) = 237 := by omega
  have tj : ¬ (B : Int) = 240 := by omega
  have tk : 241 ≤ (B : Int) := by omega
  have tl : ¬ (B : Int) ≤ 243 := by omega
  have tm : ¬ (B : Int) = 244 := by omega
  have hR : runeAt s (p : Int) = runeN (s.size - p) B (byt (bys s) (p + 1)) (byt (bys s) (p + 2)) (byt (bys s) (p + 3)) := by
    unfold runeAt
    rw [if_neg (by omega)]
    show runeL ((bys s).drop p) = _
    unfold runeL
    rw [byB_drop, byB_drop, byB_drop, byB_drop, byB_byt, byB_byt, byB_byt, byB_byt, List.length_drop, bys_len, Nat.add_zero, hB]
  rw [runeN_No _ _ _ _ _ (by omega) (by omega)] at hR
  rw [hR]
  clear hR
  clear hB hc
  go_enter Tryd.func57, Tryd.ntmps57
  go_wp2_with fail
  refine (W1.out _).mono ?_
  rintro e w1 ⟨rfl, rfl⟩
  go_wp2_with fail
  refine (W2.out _).mono ?_
  rintro e w2 ⟨rfl, rfl⟩
  go_wp2_with fail
  refine (W3.out _).mono ?_
  rintro e w3 ⟨rfl, rfl⟩
  go_wp2
  go_ret
  exact ⟨rfl, rfl⟩

end Go.Proofs.YtobcbffakldfcaaDoor

namespace Go.Proofs.YtobcbffakldfcaaDoor
open Go.RowKit Go.Lib

theorem rRune_any (s : ByteArray) (i : Int) (w : World) (hs : s.size ≤ 140737488355328) : Calls Tryd.prog 57 #[.string s, .int .i64 i] w fun e w' => e = .returned (.int .i64 ((runeAt s i : Nat) : Int)) ∧ w = w' := by
  by_cases h0 : i < 0
  · have e : runeAt s i = 0 := by unfold runeAt; rw [if_pos (.inl h0)]
    rw [e]
    go_enter Tryd.func57, Tryd.ntmps57
    go_wp2
    go_ret
    exact ⟨rfl, rfl⟩
  by_cases h1 : (s.size : Int) ≤ i
  · have e : runeAt s i = 0 := by unfold runeAt; rw [if_pos (.inr h1)]
    rw [e]
    go_enter Tryd.func57, Tryd.ntmps57
    go_wp2
    go_ret
    exact ⟨rfl, rfl⟩
  obtain ⟨p, rfl⟩ : ∃ p : Nat, i = (p : Int) := ⟨i.toNat, by omega⟩
  have hp : p < s.size := by omega
  obtain ⟨B, hB⟩ : ∃ B, byt (bys s) p = B := ⟨_, rfl⟩
  by_cases cAs : B < 128
  · exact rr_As s p B w hs hp hB cAs
  by_cases cC2 : 194 ≤ B ∧ B ≤ 223
  · exact rr_C2 s p B w hs hp hB cC2
  by_cases cE0 : B = 224
  · exact rr_E0 s p B w hs hp hB cE0
  by_cases cE1a : 225 ≤ B ∧ B ≤ 236
  · exact rr_E1a s p B w hs hp hB cE1a
  by_cases cE1b : B = 238
  · exact rr_E1b s p B w hs hp hB cE1b
  by_cases cE1c : B = 239
  · exact rr_E1c s p B w hs hp hB cE1c
  by_cases cED : B = 237
  · exact rr_ED s p B w hs hp hB cED
  by_cases cF0 : B = 240
  · exact rr_F0 s p B w hs hp hB cF0
  by_cases cF1 : 241 ≤ B ∧ B ≤ 243
  · exact rr_F1 s p B w hs hp hB cF1
  by_cases cF4 : B = 244
  · exact rr_F4 s p B w hs hp hB cF4
  by_cases cNa : 128 ≤ B ∧ B < 194
  · exact rr_Na s p B w hs hp hB cNa
  have hb2 : B < 256 := by rw [← hB]; exact byt_lt _ _
  exact rr_Nb s p B w hs hp hB (by omega)
end Go.Proofs.YtobcbffakldfcaaDoor

namespace Go.Proofs.YtobcbffakldfcaaDoor
open Go.RowKit

theorem runeAt_in (s : ByteArray) (p : Nat) (h : p < s.size) : runeAt s (p : Int) = runeL ((bys s).drop p) := by
  unfold runeAt
  rw [if_neg (by omega)]
  rfl

set_option maxHeartbeats 1000000 in
theorem rRunes_any (s : ByteArray) (w : World) (hs : s.size ≤ 140737488355328) : Calls Tryd.prog 51 #[.string s] w fun e w' => e = .returned (.int .i64 (runesI (bys s))) ∧ w = w' := by
  have HR : Hid (∀ (q : Nat) X, Calls Tryd.prog 57 #[.string s, .int .i64 (q : Int)] X fun e w' => e = .returned (.int .i64 ((runeAt s (q : Int) : Nat) : Int)) ∧ X = w') := fun q X => rRune_any s q X hs
  have HL := hide (bys_len s)
  go_enter Tryd.func51, Tryd.ntmps51
  go_wp2
  go_loopw [3, 4] (fun a b wr => ∃ n q : Nat, q ≤ s.size ∧ n ≤ q ∧ a = .int .i64 (n : Int) ∧ b = .int .i64 (q : Int) ∧ wr = w ∧ Hid (runesL (bys s) = (runesL ((bys s).drop q)).map (· + n))) (fun _ b _ => s.size - (intOf b).toNat)
  case atStart => exact ⟨0, 0, Nat.zero_le _, Nat.le_refl _, rfl, rfl, rfl, hide (by rw [List.drop_zero]; cases runesL (bys s) <;> rfl)⟩
  case round =>
    obtain ⟨n, q, hq, hn, rfl, rfl, hw, hE⟩ := hrel
    subst hw
    by_cases hlt : q < s.size
    · have hlt' : (q : Int) < (s.size : Int) := by omega
      have hne : (bys s).drop q ≠ [] := by
        intro e
        have h1 := congrArg List.length e
        rw [List.length_drop, HL.out, List.length_nil] at h1
        omega
      have hst := runesL_step _ hne
      have hle := (runeL_le ((bys s).drop q)).1
      rw [List.length_drop, HL.out] at hle
      have HQ := hide (HR.out q wr)
      rw [runeAt_in s q hlt] at HQ
      clear HR
      by_cases h0 : runeL ((bys s).drop q) = 0
      · rw [h0] at HQ
        rw [if_pos h0] at hst
        have HI : Hid (runesI (bys s) = -1) := hide (by unfold runesI; rw [hE.out, hst]; rfl)
        clear hE hst hne hle h0
        go_wp2_with fail
        refine HQ.out.mono ?_
        rintro e w1 ⟨rfl, rfl⟩
        go_wp2
        go_ret
        exact ⟨by rw [HI.out]; rfl, rfl⟩
      · rw [if_neg h0] at hst
        have hE2 : Hid (runesL (bys s) = (runesL ((bys s).drop (q + runeL ((bys s).drop q)))).map (· + (n + 1))) := hide (by
          rw [hE.out, hst, List.drop_drop]
          cases runesL ((bys s).drop (q + runeL ((bys s).drop q))) with
          | none => rfl
          | some x => show some (x + 1 + n) = some (x + (n + 1)); congr 1; omega)
        clear hE hst hne
        generalize runeL ((bys s).drop q) = K at *
        have h0' : ¬ (K : Int) = 0 := by omega
        go_wp2_with fail
        refine HQ.out.mono ?_
        rintro e w1 ⟨rfl, rfl⟩
        go_wp2
        exact ⟨⟨n + 1, q + K, by omega, by omega, by go_num, by go_num, trivial, hE2⟩, by simp [intOf]; omega⟩
    · have hlt' : ¬ (q : Int) < (s.size : Int) := by omega
      have HI : Hid (runesI (bys s) = (n : Int)) := hide (by
        unfold runesI
        rw [hE.out, List.drop_eq_nil_of_le (by rw [HL.out]; omega), runesL_nil]
        show ((0 + n : Nat) : Int) = _
        omega)
      clear hE HR
      go_wp2
      go_ret
      exact ⟨by rw [HI.out]; rfl, rfl⟩

end Go.Proofs.YtobcbffakldfcaaDoor

namespace Go.Proofs.YtobcbffakldfcaaDoor
open Go.RowKit

structure Wd (w : World) : Prop where
  u8 : U8 w
  s0 : w.cell? ⟨0, 0, none⟩ = some (.string ⟨#[]⟩)
  s1 : w.cell? ⟨0, 1, none⟩ = some (.string ⟨#[45]⟩)
  s2 : w.cell? ⟨0, 2, none⟩ = some (.string ⟨#[43]⟩)
  s3 : w.cell? ⟨0, 3, none⟩ = some (.string ⟨#[37]⟩)
  s4 : w.cell? ⟨0, 4, none⟩ = some (.string ⟨#[226, 128, 176]⟩)
  s5 : w.cell? ⟨0, 5, none⟩ = some (.string ⟨#[194, 164]⟩)
  m0 : w.cell? ⟨1, 0, none⟩ = some (.int .i64 1)
  m1 : w.cell? ⟨1, 1, none⟩ = some (.int .i64 0)
  m2 : w.cell? ⟨1, 2, none⟩ = some (.int .i64 0)
  m3 : w.cell? ⟨1, 3, none⟩ = some (.int .i64 2)
  m4 : w.cell? ⟨1, 4, none⟩ = some (.int .i64 3)
  m5 : w.cell? ⟨1, 5, none⟩ = some (.int .i64 2)
  m6 : w.cell? ⟨1, 6, none⟩ = some (.int .i64 2)
  m7 : w.cell? ⟨1, 7, none⟩ = some (.int .i64 0)
  ml : ∃ m, w.cell? ⟨4, 0, none⟩ = some (.int .i64 m)

theorem cell_lt {w : World} {a : Addr} {v : Value} (hc : w.cell? a = some v) : a.block < w.heap.size := by
  rcases Nat.lt_or_ge a.block w.heap.size with h' | h'
  · exact h'
  · simp [World.cell?, Array.getElem?_eq_none h'] at hc
theorem cell_on {w w' : World} {a b : Nat} {v : Value} (hb : Below w.heap.size w w') (hc : w.cell? ⟨a, b, none⟩ = some v) : w'.cell? ⟨a, b, none⟩ = some v := (hb.cell (cell_lt hc)).trans hc
theorem Wd.below {w w' : World} (h : Wd w) (hb : Below w.heap.size w w') : Wd w' :=
  ⟨h.u8.below hb, cell_on hb h.s0, cell_on hb h.s1, cell_on hb h.s2, cell_on hb h.s3, cell_on hb h.s4, cell_on hb h.s5, cell_on hb h.m0, cell_on hb h.m1, cell_on hb h.m2, cell_on hb h.m3, cell_on hb h.m4, cell_on hb h.m5, cell_on hb h.m6, cell_on hb h.m7, h.ml.imp fun _ h => cell_on hb h⟩

def tokV (t : Tok) : Value := .agg #[.int .i64 t.kind, .int .i64 t.many, .string t.text]

def TkAt (w : World) (b o : Nat) (ts : List Tok) : Prop := ∀ i, i < ts.length → w.cell? ⟨b, o + i * 3, none⟩ = some (.int .i64 (tokN ts i).kind) ∧ w.cell? ⟨b, o + i * 3 + 1, none⟩ = some (.int .i64 (tokN ts i).many) ∧ w.cell? ⟨b, o + i * 3 + 2, none⟩ = some (.string (tokN ts i).text)
theorem TkAt.below {w w' : World} {b o : Nat} {ts : List Tok} (h : TkAt w b o ts) (hb : Below w.heap.size w w') : TkAt w' b o ts := fun i hi => by
  obtain ⟨k0, k1, k2⟩ := h i hi
  exact ⟨cell_on hb k0, cell_on hb k1, cell_on hb k2⟩

def TSl (w : World) (v : Value) (ts : List Tok) : Prop := ∃ ao cap, v = .slice ao ts.length cap ∧ ts.length ≤ cap ∧ (ts = [] ∨ ∃ b o, ao = some ⟨b, o, none⟩ ∧ TkAt w b o ts)
theorem TSl.below {w w' : World} {v : Value} {ts : List Tok} (h : TSl w v ts) (hb : Below w.heap.size w w') : TSl w' v ts := by
  obtain ⟨ao, cap, h1, h2, h3⟩ := h
  refine ⟨ao, cap, h1, h2, ?_⟩
  rcases h3 with h3 | ⟨b, o, h3, h4⟩
  · exact .inl h3
  · exact .inr ⟨b, o, h3, h4.below hb⟩

def SzT (ts : List Tok) : Prop := ∀ i, (tokN ts i).text.size ≤ 140737488355328

theorem tl_ne3 {s : ByteArray} (h : s.size ≠ 0) : ¬ s.toList = [] := fun e => h (by rw [sl] at e; rw [← bys_len, e]; rfl)
theorem tl_ie3 {s : ByteArray} (h : s.size ≠ 0) : s.toList.isEmpty = false := by
  cases hh : s.toList with
  | nil => exact absurd hh (tl_ne3 h)
  | cons a l => rfl
theorem tl_nb3 {s : ByteArray} (h : s.size ≠ 0) : (s.toList == []) = false := by
  cases hh : s.toList with
  | nil => exact absurd hh (tl_ne3 h)
  | cons a l => rfl
theorem mk_empty3 {s : ByteArray} (h : s.size = 0) : s = ⟨#[]⟩ := by
  have e : bys s = [] := List.eq_nil_of_length_eq_zero (by rw [bys_len]; exact h)
  rw [← mkB_bys s, e]; rfl

set_option maxRecDepth 100000 in
set_option maxHeartbeats 2000000 in
theorem may_any (t : Tok) (w : World) (hs : t.text.size ≤ 9223372036854775807) (hT : U8 w) : Calls Tryd.prog 26 #[tokV t] w fun e w' => e = .returned (.bool (mayTok t)) ∧ Below w.heap.size w w' := by
  obtain ⟨k, n, x⟩ := t
  have AL : Hid (∀ o, Below w.heap.size w (w.alloc o)) := hide fun o => (Below.refl _ _).alloc (Nat.le_refl _) _
  unfold tokV
  simp only at hs ⊢
  by_cases k0 : k = 0
  · subst k0
    by_cases hx : x.size = 0
    · have em : mayTok ⟨0, n, x⟩ = false := by unfold mayTok; simp [hx]
      rw [em]
      rw [mk_empty3 hx]
      clear em hx hT
      go_enter Tryd.func26, Tryd.ntmps26
      go_wp2
      go_ret
      exact ⟨rfl, AL.out _⟩
    · have HB0 : Hid (Below w.heap.size w (w.alloc (.cells #[.int .i64 0, .int .i64 n, .string x] 32))) := AL.out _
      have BR0 := hide (Blk.newAt w w.heap.size rfl #[.int .i64 0, .int .i64 n, .string x] 32)
      obtain ⟨W, hW⟩ : ∃ W, W = w.alloc (.cells #[.int .i64 0, .int .i64 n, .string x] 32) := ⟨_, rfl⟩
      rw [← hW] at HB0 BR0
      have HV := hide (Valid_any x W hs (hT.below HB0.out))
      have HW := hide hW.symm
      have c0 := BR0.out.cell 0
      have c1 := BR0.out.cell 1
      have c2 := BR0.out.cell 2
      have KP : Hid (∀ X, Below W.heap.size W X → X.cell? ⟨w.heap.size, 1, none⟩ = some (.int .i64 n)) := hide (fun X hX => (BR0.out.below hX BR0.out.lt).cell 1)
      have em : Hid (mayTok ⟨0, n, x⟩ = ((runesL (bys x)).isSome && decide (n = 0))) := hide (by unfold mayTok; simp [hx])
      rw [em.out]
      have i1 := tl_ne3 hx
      have i2 := tl_ie3 hx
      have i3 := tl_nb3 hx
      generalize (runesL (bys x)).isSome = V at *
      clear em hT hx hW hs AL
      go_enter Tryd.func26, Tryd.ntmps26
      go_wp2_with (simp only [HW.out])
      refine HV.out.mono ?_
      rintro e w1 ⟨rfl, hb⟩
      have HB := hide (HB0.out.trans (hb.mono HB0.out.size))
      have c3' := KP.out w1 hb
      clear hb HV KP
      cases V
      · go_wp2
        go_ret
        exact ⟨rfl, HB.out⟩
      · by_cases hn : n = 0
        · subst hn
          go_wp2
          go_ret
          exact ⟨rfl, HB.out⟩
        · have hn' : (n == 0) = false := beq_eq_false_iff_ne.2 hn
          go_wp2
          go_ret
          exact ⟨by rw [decide_eq_false hn]; rfl, HB.out⟩
  · have hk' : (k = 1 ∨ k = 2 ∨ k = 3 ∨ k = 4) ∨ k = 5 ∨ (¬ k = 1 ∧ ¬ k = 2 ∧ ¬ k = 3 ∧ ¬ k = 4 ∧ ¬ k = 5) := by omega
    rcases hk' with hk | rfl | hk
    · have em : Hid (mayTok ⟨k, n, x⟩ = (decide (x.size = 0) && decide (n = 0))) := hide (by unfold mayTok; rw [if_neg k0, if_pos hk])
      rw [em.out]
      clear em hT
      by_cases hx : x.size = 0
      · rw [mk_empty3 hx]
        by_cases hn : n = 0
        · subst hn
          rcases hk with rfl | rfl | rfl | rfl
          all_goals
            go_enter Tryd.func26, Tryd.ntmps26
            go_wp2
            go_ret
            exact ⟨rfl, AL.out _⟩
        · rw [decide_eq_false hn]
          have hn' : (n == 0) = false := beq_eq_false_iff_ne.2 hn
          rcases hk with rfl | rfl | rfl | rfl
          all_goals
            go_enter Tryd.func26, Tryd.ntmps26
            go_wp2
            go_ret
            exact ⟨rfl, AL.out _⟩
      · rw [decide_eq_false hx]
        have i1 := tl_ne3 hx
        have i2 := tl_ie3 hx
        have i3 := tl_nb3 hx
        clear hx
        rcases hk with rfl | rfl | rfl | rfl
        all_goals
          go_enter Tryd.func26, Tryd.ntmps26
          go_wp2
          go_ret
          exact ⟨rfl, AL.out _⟩
    · have em : Hid (mayTok ⟨5, n, x⟩ = (decide (x.size = 0) && (decide (1 ≤ n) && decide (n ≤ 3)))) := hide (by unfold mayTok; simp)
      rw [em.out]
      clear em hT
      by_cases hx : x.size = 0
      · rw [mk_empty3 hx]
        by_cases h1 : 1 ≤ n
        · by_cases h3 : n ≤ 3
          · rw [decide_eq_true h1, decide_eq_true h3]
            go_enter Tryd.func26, Tryd.ntmps26
            go_wp2
            go_ret
            exact ⟨rfl, AL.out _⟩
          · rw [decide_eq_true h1, decide_eq_false h3]
            go_enter Tryd.func26, Tryd.ntmps26
            go_wp2
            go_ret
            exact ⟨rfl, AL.out _⟩
        · rw [decide_eq_false h1]
          go_enter Tryd.func26, Tryd.ntmps26
          go_wp2
          go_ret
          exact ⟨rfl, AL.out _⟩
      · rw [decide_eq_false hx]
        have i1 := tl_ne3 hx
        have i2 := tl_ie3 hx
        have i3 := tl_nb3 hx
        clear hx
        go_enter Tryd.func26, Tryd.ntmps26
        go_wp2
        go_ret
        exact ⟨rfl, AL.out _⟩
    · have em : mayTok ⟨k, n, x⟩ = false := by unfold mayTok; simp only; rw [if_neg k0, if_neg (by omega), if_neg (by omega)]
      rw [em]
      obtain ⟨a1, a2, a3, a4, a5⟩ := hk
      clear em hT
      go_enter Tryd.func26, Tryd.ntmps26
      go_wp2
      go_ret
      exact ⟨rfl, AL.out _⟩

set_option maxRecDepth 100000 in
set_option maxHeartbeats 2000000 in
theorem join_any (a b : Tok) (w : World) : Calls Tryd.prog 27 #[tokV a, tokV b] w fun e w' => e = .returned (.bool (joinT a b)) ∧ Below w.heap.size w w' := by
  obtain ⟨k, n, x⟩ := a
  obtain ⟨j, m, y⟩ := b
  unfold tokV
  simp only
  have AL : Hid (∀ o o', Below w.heap.size w ((w.alloc o).alloc o')) := hide fun o o' => ((Below.refl _ _).alloc (Nat.le_refl _) _).alloc ((Below.refl _ _).alloc (Nat.le_refl _) _).size _
  by_cases hk : k = j
  · subst hk
    by_cases h0 : k = 0
    · subst h0
      rw [show joinT ⟨0, n, x⟩ ⟨0, m, y⟩ = true from rfl]
      go_enter Tryd.func27, Tryd.ntmps27
      go_wp2
      go_ret
      exact ⟨rfl, AL.out _ _⟩
    · by_cases h5 : k = 5
      · subst h5
        rw [show joinT ⟨5, n, x⟩ ⟨5, m, y⟩ = true from rfl]
        go_enter Tryd.func27, Tryd.ntmps27
        go_wp2
        go_ret
        exact ⟨rfl, AL.out _ _⟩
      · have e : joinT ⟨k, n, x⟩ ⟨k, m, y⟩ = false := by unfold joinT; simp [h0, h5]
        rw [e]
        clear e
        have h0' : (k == 0) = false := beq_eq_false_iff_ne.2 h0
        have h5' : (k == 5) = false := beq_eq_false_iff_ne.2 h5
        go_enter Tryd.func27, Tryd.ntmps27
        go_wp2
        go_ret
        exact ⟨rfl, AL.out _ _⟩
  · have e : joinT ⟨k, n, x⟩ ⟨j, m, y⟩ = false := by unfold joinT; simp [hk]
    rw [e]
    clear e
    have hk' : (k == j) = false := beq_eq_false_iff_ne.2 hk
    go_enter Tryd.func27, Tryd.ntmps27
    go_wp2
    go_ret
    exact ⟨rfl, AL.out _ _⟩

end Go.Proofs.YtobcbffakldfcaaDoor
