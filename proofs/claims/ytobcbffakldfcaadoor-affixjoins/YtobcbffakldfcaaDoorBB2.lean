/-
  A variable of several cells, in a block by itself.
  A variable's cells, all at once; a variable behind what was laid and called.
  What cursor's Valid, Rune and Runes do.
  What the reference's within, Rune and Runes do.
  What the reference's Rune does.
  What the reference's Rune does.
  What the reference's Rune does.
  What the reference's Rune does.
  What the reference's Runes answers.
  Tokens in memory, and the package's tables; what affix's may, join and Check answer.
-/
import Derived.Test.YtobcbffakldfcaaDoorBNorm
import Derived.Handy
import Derived.Test.YtobcbffakldfcaaDoorBB1
import Derived.Test.YtobcbffakldfcaaDoorBShelf
namespace Go.Proofs.YtobcbffakldfcaaDoor
open Go.RowKit

def Blk (w : World) (b : Nat) (cs : Array Value) (t : TypeId) : Prop := w.heap[b]? = some (.cells cs t (0, 0))

section
variable {w w' : World} {b : Nat} {cs : Array Value} {t : TypeId}

theorem Blk.cell (h : Blk w b cs t) (i : Nat) : w.cell? ⟨b, i, none⟩ = cs[i]? := by unfold Blk at h; simp [World.cell?, h]
theorem Blk.free (h : Blk w b cs t) (i : Nat) : w.frozen? ⟨b, i, none⟩ = false := by unfold Blk at h; simp [World.frozen?, h]
theorem Blk.new (w : World) (cs : Array Value) (t : TypeId) : Blk (w.alloc (.cells cs t)) w.heap.size cs t := heap_alloc_new _ _
theorem Blk.newAt (w : World) (n : Nat) (hn : w.heap.size = n) (cs : Array Value) (t : TypeId) : Blk (w.alloc (.cells cs t)) n cs t := by subst hn; exact Blk.new _ _ _
theorem Blk.lt (h : Blk w b cs t) : b < w.heap.size := lt_of_block h
theorem Blk.below (h : Blk w b cs t) {B : Nat} (hb : Below B w w') (hg : b < B) : Blk w' b cs t := by
  unfold Blk at *
  rw [hb.block b hg]; exact h
theorem Blk.alloc (h : Blk w b cs t) (o : Obj) : Blk (w.alloc o) b cs t := by
  have hlt := h.lt
  unfold Blk at *
  rw [Below.heap_alloc _ _ _ hlt]; exact h
end

theorem Blk.other {w : World} {b : Nat} {t : TypeId} {cs : Array Value} (h : Blk w b cs t) {a : Addr} (ha : a.block ≠ b) (v : Value) : Blk (w.setCell a v) b cs t := by
  unfold Blk at *
  simp only [World.setCell, Array.getElem?_modify, if_neg ha, h]

end Go.Proofs.YtobcbffakldfcaaDoor

namespace Go.Proofs.YtobcbffakldfcaaDoor
open Go.RowKit

end Go.Proofs.YtobcbffakldfcaaDoor

namespace Go.Proofs.YtobcbffakldfcaaDoor
open Go.RowKit

def U8 (w : World) : Prop := Lib.Utf8Tabs 2 3 w
theorem U8.below {w w' : World} (h : U8 w) (hb : Below w.heap.size w w') : U8 w' := Utf8Tabs_below h hb

set_option maxHeartbeats 1000000 in
theorem Valid_any (s : ByteArray) (w : World) (hs : s.size ≤ 9223372036854775807) (hT : U8 w) : Calls Tryd.prog 50 #[.string s] w fun e w' => e = .returned (.bool (runesL (bys s)).isSome) ∧ Below w.heap.size w w' := by
  have HV := hide (Tryd.utf8_ValidString s w hs hT)
  have HE := hide (valid_runes (bys s))
  clear hT
  go_enter Tryd.func50, Tryd.ntmps50
  go_wp2_with fail
  refine HV.out.mono ?_
  rintro e w1 ⟨rfl, hb⟩
  go_wp2
  go_ret
  exact ⟨congrArg (fun b => Ending.returned (Value.bool b)) HE.out, hb⟩

def runeAt (s : ByteArray) (i : Int) : Nat := if i < 0 ∨ (s.size : Int) ≤ i then 0 else runeL ((bys s).drop i.toNat)

theorem bys_tail (t : ByteArray) (i : Nat) : bys (t.extract i t.size) = (bys t).drop i := by
  have := bys_len t
  unfold bys at *
  rw [ByteArray.data_extract, Array.toList_extract]
  simp only [List.extract]
  exact List.take_of_length_le (by rw [List.length_drop]; omega)

theorem decodeGo_rune (t : ByteArray) (h : t.size ≠ 0) : (Lib.decodeGo t = (65533, 1) ∧ runeL (bys t) = 0) ∨ (runeL (bys t) ≠ 0 ∧ (Lib.decodeGo t).2 = runeL (bys t) ∧ ¬ ((Lib.decodeGo t).1 = 65533 ∧ (Lib.decodeGo t).2 = 1)) := by
  have hd : Lib.decodeGo t = Lib.decodeL (bys t) := by
    unfold Lib.decodeGo
    rw [if_neg h, ← Lib.decodeL_drop t 0, List.drop_zero]
    rfl
  rw [hd]
  refine runeL_decode (bys t) (fun e => h ?_)
  rw [← bys_len, e]; rfl

set_option maxHeartbeats 1000000 in
theorem Rune_any (s : ByteArray) (i : Int) (w : World) (hT : U8 w) : Calls Tryd.prog 31 #[.string s, .int .i64 i] w fun e w' => e = .returned (.int .i64 (runeAt s i : Int)) ∧ Below w.heap.size w w' := by
  by_cases h0 : i < 0
  · have e : runeAt s i = 0 := by unfold runeAt; rw [if_pos (.inl h0)]
    rw [e]
    clear hT
    go_enter Tryd.func31, Tryd.ntmps31
    go_wp2
    go_ret
    exact ⟨rfl, Below.refl _ _⟩
  by_cases h1 : (s.size : Int) ≤ i
  · have e : runeAt s i = 0 := by unfold runeAt; rw [if_pos (.inr h1)]
    rw [e]
    clear hT
    go_enter Tryd.func31, Tryd.ntmps31
    go_wp2
    go_ret
    exact ⟨rfl, Below.refl _ _⟩
  obtain ⟨p, rfl⟩ : ∃ p : Nat, i = (p : Int) := ⟨i.toNat, by omega⟩
  have hp : p < s.size := by omega
  have hp' : (p : Int) < (s.size : Int) := by omega
  have HE : Hid (runeAt s (p : Int) = runeL (bys (s.extract p s.size))) := by
    show runeAt s (p : Int) = _
    unfold runeAt
    rw [if_neg (by omega), bys_tail]
    rfl
  obtain ⟨t, ht⟩ : ∃ t, t = s.extract p s.size := ⟨_, rfl⟩
  have hts : t.size ≠ 0 := by rw [ht, ByteArray.size_extract]; omega
  have HD := hide (Tryd.utf8_DecodeRuneInString t w hT)
  have hd := decodeGo_rune t hts
  rw [HE.out, ← ht]
  have HT := hide ht.symm
  clear hT HE ht hts h0 h1
  rcases hd with ⟨h1, h2⟩ | ⟨h1, h2, h3⟩
  · rw [h1] at HD
    rw [h2]
    clear h1 h2
    go_enter Tryd.func31, Tryd.ntmps31
    go_wp2_with (rw [HT.out])
    refine HD.out.mono ?_
    rintro e w1 ⟨rfl, hb⟩
    go_wp2
    go_ret
    exact ⟨rfl, hb⟩
  · obtain ⟨R, K, hRK⟩ : ∃ R K, Lib.decodeGo t = (R, K) := ⟨_, _, rfl⟩
    rw [hRK] at HD h2 h3
    simp only at h2 h3
    rw [← h2]
    have HD' : Hid (Calls Tryd.prog 53 #[.string t] w fun e w' => e = .returned (.tuple #[.int .i32 (R : Int), .int .i64 (K : Int)]) ∧ Below w.heap.size w w') := HD.out
    clear HD hRK h2 h1
    by_cases hR : R = 65533
    · have hK : ¬ (K : Int) = 1 := fun e => h3 ⟨hR, by omega⟩
      have hR' : (R : Int) = 65533 := by omega
      clear h3
      go_enter Tryd.func31, Tryd.ntmps31
      go_wp2_with (rw [HT.out])
      refine HD'.out.mono ?_
      rintro e w1 ⟨rfl, hb⟩
      go_wp2
      go_ret
      exact ⟨rfl, hb⟩
    · have hR' : ¬ (R : Int) = 65533 := by omega
      clear h3
      go_enter Tryd.func31, Tryd.ntmps31
      go_wp2_with (rw [HT.out])
      refine HD'.out.mono ?_
      rintro e w1 ⟨rfl, hb⟩
      go_wp2
      go_ret
      exact ⟨rfl, hb⟩

end Go.Proofs.YtobcbffakldfcaaDoor

namespace Go.Proofs.YtobcbffakldfcaaDoor
open Go.RowKit Go.Lib

end Go.Proofs.YtobcbffakldfcaaDoor

namespace Go.Proofs.YtobcbffakldfcaaDoor
open Go.RowKit Go.Lib

end Go.Proofs.YtobcbffakldfcaaDoor

namespace Go.Proofs.YtobcbffakldfcaaDoor
open Go.RowKit Go.Lib

end Go.Proofs.YtobcbffakldfcaaDoor

namespace Go.Proofs.YtobcbffakldfcaaDoor
open Go.RowKit Go.Lib

end Go.Proofs.YtobcbffakldfcaaDoor

namespace Go.Proofs.YtobcbffakldfcaaDoor
open Go.RowKit Go.Lib

end Go.Proofs.YtobcbffakldfcaaDoor

namespace Go.Proofs.YtobcbffakldfcaaDoor
open Go.RowKit

end Go.Proofs.YtobcbffakldfcaaDoor

namespace Go.Proofs.YtobcbffakldfcaaDoor
open Go.RowKit

structure Wd (w : World) : Prop where
  u8 : U8 w
  s0 : w.cell? ⟨0, 0, none⟩ = some (.string ⟨#[]⟩)
  s1 : w.cell? ⟨0, 1, none⟩ = some (.string ⟨#[45]⟩)
  s2 : w.cell? ⟨0, 2, none⟩ = some (.string ⟨#[43]⟩)
  s3 : w.cell? ⟨0, 3, none⟩ = some (.string ⟨#[37]⟩)
  s4 : w.cell? ⟨0, 4, none⟩ = some (.string ⟨#[226, 128, 176]⟩)
  s5 : w.cell? ⟨0, 5, none⟩ = some (.string ⟨#[194, 164]⟩)
  m0 : w.cell? ⟨1, 0, none⟩ = some (.int .i64 1)
  m1 : w.cell? ⟨1, 1, none⟩ = some (.int .i64 0)
  m2 : w.cell? ⟨1, 2, none⟩ = some (.int .i64 0)
  m3 : w.cell? ⟨1, 3, none⟩ = some (.int .i64 2)
  m4 : w.cell? ⟨1, 4, none⟩ = some (.int .i64 3)
  m5 : w.cell? ⟨1, 5, none⟩ = some (.int .i64 2)
  m6 : w.cell? ⟨1, 6, none⟩ = some (.int .i64 2)
  m7 : w.cell? ⟨1, 7, none⟩ = some (.int .i64 0)
  ml : ∃ m, w.cell? ⟨4, 0, none⟩ = some (.int .i64 m)

theorem cell_lt {w : World} {a : Addr} {v : Value} (hc : w.cell? a = some v) : a.block < w.heap.size := by
  rcases Nat.lt_or_ge a.block w.heap.size with h' | h'
  · exact h'
  · simp [World.cell?, Array.getElem?_eq_none h'] at hc
theorem cell_on {w w' : World} {a b : Nat} {v : Value} (hb : Below w.heap.size w w') (hc : w.cell? ⟨a, b, none⟩ = some v) : w'.cell? ⟨a, b, none⟩ = some v := (hb.cell (cell_lt hc)).trans hc
theorem Wd.below {w w' : World} (h : Wd w) (hb : Below w.heap.size w w') : Wd w' :=
  ⟨h.u8.below hb, cell_on hb h.s0, cell_on hb h.s1, cell_on hb h.s2, cell_on hb h.s3, cell_on hb h.s4, cell_on hb h.s5, cell_on hb h.m0, cell_on hb h.m1, cell_on hb h.m2, cell_on hb h.m3, cell_on hb h.m4, cell_on hb h.m5, cell_on hb h.m6, cell_on hb h.m7, h.ml.imp fun _ h => cell_on hb h⟩

def tokV (t : Tok) : Value := .agg #[.int .i64 t.kind, .int .i64 t.many, .string t.text]

def TkAt (w : World) (b o : Nat) (ts : List Tok) : Prop := ∀ i, i < ts.length → w.cell? ⟨b, o + i * 3, none⟩ = some (.int .i64 (tokN ts i).kind) ∧ w.cell? ⟨b, o + i * 3 + 1, none⟩ = some (.int .i64 (tokN ts i).many) ∧ w.cell? ⟨b, o + i * 3 + 2, none⟩ = some (.string (tokN ts i).text)
theorem TkAt.below {w w' : World} {b o : Nat} {ts : List Tok} (h : TkAt w b o ts) (hb : Below w.heap.size w w') : TkAt w' b o ts := fun i hi => by
  obtain ⟨k0, k1, k2⟩ := h i hi
  exact ⟨cell_on hb k0, cell_on hb k1, cell_on hb k2⟩

def TSl (w : World) (v : Value) (ts : List Tok) : Prop := ∃ ao cap, v = .slice ao ts.length cap ∧ ts.length ≤ cap ∧ (ts = [] ∨ ∃ b o, ao = some ⟨b, o, none⟩ ∧ TkAt w b o ts)
theorem TSl.below {w w' : World} {v : Value} {ts : List Tok} (h : TSl w v ts) (hb : Below w.heap.size w w') : TSl w' v ts := by
  obtain ⟨ao, cap, h1, h2, h3⟩ := h
  refine ⟨ao, cap, h1, h2, ?_⟩
  rcases h3 with h3 | ⟨b, o, h3, h4⟩
  · exact .inl h3
  · exact .inr ⟨b, o, h3, h4.below hb⟩

def SzT (ts : List Tok) : Prop := ∀ i, (tokN ts i).text.size ≤ 140737488355328

theorem tl_ne3 {s : ByteArray} (h : s.size ≠ 0) : ¬ s.toList = [] := fun e => h (by rw [sl] at e; rw [← bys_len, e]; rfl)
theorem tl_ie3 {s : ByteArray} (h : s.size ≠ 0) : s.toList.isEmpty = false := by
  cases hh : s.toList with
  | nil => exact absurd hh (tl_ne3 h)
  | cons a l => rfl
theorem tl_nb3 {s : ByteArray} (h : s.size ≠ 0) : (s.toList == []) = false := by
  cases hh : s.toList with
  | nil => exact absurd hh (tl_ne3 h)
  | cons a l => rfl
theorem mk_empty3 {s : ByteArray} (h : s.size = 0) : s = ⟨#[]⟩ := by
  have e : bys s = [] := List.eq_nil_of_length_eq_zero (by rw [bys_len]; exact h)
  rw [← mkB_bys s, e]; rfl

set_option maxRecDepth 100000 in
set_option maxHeartbeats 2000000 in
theorem may_any (t : Tok) (w : World) (hs : t.text.size ≤ 9223372036854775807) (hT : U8 w) : Calls Tryd.prog 26 #[tokV t] w fun e w' => e = .returned (.bool (mayTok t)) ∧ Below w.heap.size w w' := by
  obtain ⟨k, n, x⟩ := t
  have AL : Hid (∀ o, Below w.heap.size w (w.alloc o)) := hide fun o => (Below.refl _ _).alloc (Nat.le_refl _) _
  unfold tokV
  simp only at hs ⊢
  by_cases k0 : k = 0
  · subst k0
    by_cases hx : x.size = 0
    · have em : mayTok ⟨0, n, x⟩ = false := by unfold mayTok; simp [hx]
      rw [em]
      rw [mk_empty3 hx]
      clear em hx hT
      go_enter Tryd.func26, Tryd.ntmps26
      go_wp2
      go_ret
      exact ⟨rfl, AL.out _⟩
    · have HB0 : Hid (Below w.heap.size w (w.alloc (.cells #[.int .i64 0, .int .i64 n, .string x] 32))) := AL.out _
      have BR0 := hide (Blk.newAt w w.heap.size rfl #[.int .i64 0, .int .i64 n, .string x] 32)
      obtain ⟨W, hW⟩ : ∃ W, W = w.alloc (.cells #[.int .i64 0, .int .i64 n, .string x] 32) := ⟨_, rfl⟩
      rw [← hW] at HB0 BR0
      have HV := hide (Valid_any x W hs (hT.below HB0.out))
      have HW := hide hW.symm
      have c0 := BR0.out.cell 0
      have c1 := BR0.out.cell 1
      have c2 := BR0.out.cell 2
      have KP : Hid (∀ X, Below W.heap.size W X → X.cell? ⟨w.heap.size, 1, none⟩ = some (.int .i64 n)) := hide (fun X hX => (BR0.out.below hX BR0.out.lt).cell 1)
      have em : Hid (mayTok ⟨0, n, x⟩ = ((runesL (bys x)).isSome && decide (n = 0))) := hide (by unfold mayTok; simp [hx])
      rw [em.out]
      have i1 := tl_ne3 hx
      have i2 := tl_ie3 hx
      have i3 := tl_nb3 hx
      generalize (runesL (bys x)).isSome = V at *
      clear em hT hx hW hs AL
      go_enter Tryd.func26, Tryd.ntmps26
      go_wp2_with (simp only [HW.out])
      refine HV.out.mono ?_
      rintro e w1 ⟨rfl, hb⟩
      have HB := hide (HB0.out.trans (hb.mono HB0.out.size))
      have c3' := KP.out w1 hb
      clear hb HV KP
      cases V
      · go_wp2
        go_ret
        exact ⟨rfl, HB.out⟩
      · by_cases hn : n = 0
        · subst hn
          go_wp2
          go_ret
          exact ⟨rfl, HB.out⟩
        · have hn' : (n == 0) = false := beq_eq_false_iff_ne.2 hn
          go_wp2
          go_ret
          exact ⟨by rw [decide_eq_false hn]; rfl, HB.out⟩
  · have hk' : (k = 1 ∨ k = 2 ∨ k = 3 ∨ k = 4) ∨ k = 5 ∨ (¬ k = 1 ∧ ¬ k = 2 ∧ ¬ k = 3 ∧ ¬ k = 4 ∧ ¬ k = 5) := by omega
    rcases hk' with hk | rfl | hk
    · have em : Hid (mayTok ⟨k, n, x⟩ = (decide (x.size = 0) && decide (n = 0))) := hide (by unfold mayTok; rw [if_neg k0, if_pos hk])
      rw [em.out]
      clear em hT
      by_cases hx : x.size = 0
      · rw [mk_empty3 hx]
        by_cases hn : n = 0
        · subst hn
          rcases hk with rfl | rfl | rfl | rfl
          all_goals
            go_enter Tryd.func26, Tryd.ntmps26
            go_wp2
            go_ret
            exact ⟨rfl, AL.out _⟩
        · rw [decide_eq_false hn]
          have hn' : (n == 0) = false := beq_eq_false_iff_ne.2 hn
          rcases hk with rfl | rfl | rfl | rfl
          all_goals
            go_enter Tryd.func26, Tryd.ntmps26
            go_wp2
            go_ret
            exact ⟨rfl, AL.out _⟩
      · rw [decide_eq_false hx]
        have i1 := tl_ne3 hx
        have i2 := tl_ie3 hx
        have i3 := tl_nb3 hx
        clear hx
        rcases hk with rfl | rfl | rfl | rfl
        all_goals
          go_enter Tryd.func26, Tryd.ntmps26
          go_wp2
          go_ret
          exact ⟨rfl, AL.out _⟩
    · have em : Hid (mayTok ⟨5, n, x⟩ = (decide (x.size = 0) && (decide (1 ≤ n) && decide (n ≤ 3)))) := hide (by unfold mayTok; simp)
      rw [em.out]
      clear em hT
      by_cases hx : x.size = 0
      · rw [mk_empty3 hx]
        by_cases h1 : 1 ≤ n
        · by_cases h3 : n ≤ 3
          · rw [decide_eq_true h1, decide_eq_true h3]
            go_enter Tryd.func26, Tryd.ntmps26
            go_wp2
            go_ret
            exact ⟨rfl, AL.out _⟩
          · rw [decide_eq_true h1, decide_eq_false h3]
            go_enter Tryd.func26, Tryd.ntmps26
            go_wp2
            go_ret
            exact ⟨rfl, AL.out _⟩
        · rw [decide_eq_false h1]
          go_enter Tryd.func26, Tryd.ntmps26
          go_wp2
          go_ret
          exact ⟨rfl, AL.out _⟩
      · rw [decide_eq_false hx]
        have i1 := tl_ne3 hx
        have i2 := tl_ie3 hx
        have i3 := tl_nb3 hx
        clear hx
        go_enter Tryd.func26, Tryd.ntmps26
        go_wp2
        go_ret
        exact ⟨rfl, AL.out _⟩
    · have em : mayTok ⟨k, n, x⟩ = false := by unfold mayTok; simp only; rw [if_neg k0, if_neg (by omega), if_neg (by omega)]
      rw [em]
      obtain ⟨a1, a2, a3, a4, a5⟩ := hk
      clear em hT
      go_enter Tryd.func26, Tryd.ntmps26
      go_wp2
      go_ret
      exact ⟨rfl, AL.out _⟩

set_option maxRecDepth 100000 in
set_option maxHeartbeats 2000000 in
theorem join_any (a b : Tok) (w : World) : Calls Tryd.prog 27 #[tokV a, tokV b] w fun e w' => e = .returned (.bool (joinT a b)) ∧ Below w.heap.size w w' := by
  obtain ⟨k, n, x⟩ := a
  obtain ⟨j, m, y⟩ := b
  unfold tokV
  simp only
  have AL : Hid (∀ o o', Below w.heap.size w ((w.alloc o).alloc o')) := hide fun o o' => ((Below.refl _ _).alloc (Nat.le_refl _) _).alloc ((Below.refl _ _).alloc (Nat.le_refl _) _).size _
  by_cases hk : k = j
  · subst hk
    by_cases h0 : k = 0
    · subst h0
      rw [show joinT ⟨0, n, x⟩ ⟨0, m, y⟩ = true from rfl]
      go_enter Tryd.func27, Tryd.ntmps27
      go_wp2
      go_ret
      exact ⟨rfl, AL.out _ _⟩
    · by_cases h5 : k = 5
      · subst h5
        rw [show joinT ⟨5, n, x⟩ ⟨5, m, y⟩ = true from rfl]
        go_enter Tryd.func27, Tryd.ntmps27
        go_wp2
        go_ret
        exact ⟨rfl, AL.out _ _⟩
      · have e : joinT ⟨k, n, x⟩ ⟨k, m, y⟩ = false := by unfold joinT; simp [h0, h5]
        rw [e]
        clear e
        have h0' : (k == 0) = false := beq_eq_false_iff_ne.2 h0
        have h5' : (k == 5) = false := beq_eq_false_iff_ne.2 h5
        go_enter Tryd.func27, Tryd.ntmps27
        go_wp2
        go_ret
        exact ⟨rfl, AL.out _ _⟩
  · have e : joinT ⟨k, n, x⟩ ⟨j, m, y⟩ = false := by unfold joinT; simp [hk]
    rw [e]
    clear e
    have hk' : (k == j) = false := beq_eq_false_iff_ne.2 hk
    go_enter Tryd.func27, Tryd.ntmps27
    go_wp2
    go_ret
    exact ⟨rfl, AL.out _ _⟩

end Go.Proofs.YtobcbffakldfcaaDoor
