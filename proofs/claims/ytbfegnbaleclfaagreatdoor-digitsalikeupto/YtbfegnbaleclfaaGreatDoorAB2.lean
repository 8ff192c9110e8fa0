/-
  A variable of several cells, in a block by itself.
  A variable's cells, all at once; a variable behind what was laid and called.
  Plain mathematics: decimal digits, the numbers that they are, and texts behind texts.
  Plain mathematics: a float as a number and a power of 2, how far it reaches, and the fewest digits that are picked.
  Plain mathematics: Decs, the one of a number times a power of 10, and those that package shortest tells.
  Plain mathematics: the Decs that package shortest tells have a Dec's one form.
  Plain mathematics: which Decs may be.
  Plain mathematics: decimal numbers in their one form, what they are worth, and how they stand.
  How two numbers stand, by their values.
  Plain mathematics: a number, rounded to the multiples of a unit by one of eight modes.
  Plain mathematics of shifts: what one digit of a list turned does to its number, and what a digit is when it is shifted.
  Plain mathematics of shifts down.
  Plain mathematics of multiplying a list by one digit and adding it to a row.
-/
import Derived.Test.YtbfegnbaleclfaaGreatDoorANorm
import Derived.Handy
import Derived.Test.YtbfegnbaleclfaaGreatDoorACarry
import Derived.Lib.ItoaNum
import Derived.Lib.TrimByte
import Derived.Lib.Bytealg
import Derived.Test.YtbfegnbaleclfaaGreatDoorACmp
import Derived.Test.YtbfegnbaleclfaaGreatDoorAB1
import Derived.Test.YtbfegnbaleclfaaGreatDoorARow
namespace Go.Proofs.YtbfegnbaleclfaaGreatDoor
open Go.RowKit

def Blk (w : World) (b : Nat) (cs : Array Value) (t : TypeId) : Prop := w.heap[b]? = some (.cells cs t (0, 0))

section
variable {w w' : World} {b : Nat} {cs : Array Value} {t : TypeId}

theorem Blk.cell (h : Blk w b cs t) (i : Nat) : w.cell? ⟨b, i, none⟩ = cs[i]? := by unfold Blk at h; simp [World.cell?, h]
theorem Blk.free (h : Blk w b cs t) (i : Nat) : w.frozen? ⟨b, i, none⟩ = false := by unfold Blk at h; simp [World.frozen?, h]
theorem Blk.new (w : World) (cs : Array Value) (t : TypeId) : Blk (w.alloc (.cells cs t)) w.heap.size cs t := heap_alloc_new _ _
theorem Blk.newAt (w : World) (n : Nat) (hn : w.heap.size = n) (cs : Array Value) (t : TypeId) : Blk (w.alloc (.cells cs t)) n cs t := by subst hn; exact Blk.new _ _ _
theorem Blk.lt (h : Blk w b cs t) : b < w.heap.size := lt_of_block h
theorem Blk.below (h : Blk w b cs t) {B : Nat} (hb : Below B w w') (hg : b < B) : Blk w' b cs t := by
  unfold Blk at *
  rw [hb.block b hg]; exact h
theorem Blk.alloc (h : Blk w b cs t) (o : Obj) : Blk (w.alloc o) b cs t := by
  have hlt := h.lt
  unfold Blk at *
  rw [Below.heap_alloc _ _ _ hlt]; exact h
theorem Blk.put4 {x0 x1 x2 x3 : Value} (h : Blk w b #[x0, x1, x2, x3] t) (y0 y1 y2 y3 : Value) : Blk ((((w.setCell ⟨b, 0, none⟩ y0).setCell ⟨b, 1, none⟩ y1).setCell ⟨b, 2, none⟩ y2).setCell ⟨b, 3, none⟩ y3) b #[y0, y1, y2, y3] t := by
  unfold Blk at *
  simp only [World.setCell, Array.getElem?_modify, if_true, h, Option.map_some]
  rfl
end

theorem Blk.other {w : World} {b : Nat} {t : TypeId} {cs : Array Value} (h : Blk w b cs t) {a : Addr} (ha : a.block ≠ b) (v : Value) : Blk (w.setCell a v) b cs t := by
  unfold Blk at *
  simp only [World.setCell, Array.getElem?_modify, if_neg ha, h]

end Go.Proofs.YtbfegnbaleclfaaGreatDoor

namespace Go.Proofs.YtbfegnbaleclfaaGreatDoor
open Go.RowKit

theorem Blk.four {w : World} {b : Nat} {x0 x1 x2 x3 : Value} {t : TypeId} (h : Blk w b #[x0, x1, x2, x3] t) : w.cell? ⟨b, 0, none⟩ = some x0 ∧ w.cell? ⟨b, 1, none⟩ = some x1 ∧ w.cell? ⟨b, 2, none⟩ = some x2 ∧ w.cell? ⟨b, 3, none⟩ = some x3 := ⟨h.cell 0, h.cell 1, h.cell 2, h.cell 3⟩
theorem Blk.on {w w' : World} {b : Nat} {cs : Array Value} {t : TypeId} (h : Hid (Blk w b cs t)) (hb : Below w.heap.size w w') : Hid (Blk w' b cs t) := h.out.below hb h.out.lt
end Go.Proofs.YtbfegnbaleclfaaGreatDoor

namespace Go.Proofs.YtbfegnbaleclfaaGreatDoor

def bys (s : ByteArray) : List UInt8 := s.data.toList

theorem bys_len (s : ByteArray) : (bys s).length = s.size := by simp [bys]

def byt (l : List UInt8) (k : Nat) : Nat := (l[k]?.map UInt8.toNat).getD 0

theorem byt_get (s : ByteArray) (k : Nat) (h : k < s.size) : s[k].toNat = byt (bys s) k := by
  unfold byt bys
  have : s.data.toList[k]? = some s[k] := by
    rw [Array.getElem?_toList, Array.getElem?_eq_getElem h]; rfl
  rw [this]; rfl

def decV (l : List UInt8) : Nat := l.foldl (fun a b => a * 10 + (b.toNat - 48)) 0

theorem decV_foldl (l : List UInt8) : ∀ a, l.foldl (fun a b => a * 10 + (b.toNat - 48)) a = a * 10 ^ l.length + decV l := by
  unfold decV
  induction l with
  | nil => intro a; simp
  | cons b t ih =>
    intro a
    simp only [List.foldl_cons, List.length_cons]
    rw [ih (a * 10 + (b.toNat - 48)), ih (0 * 10 + (b.toNat - 48)), Nat.pow_succ, Nat.add_mul, Nat.add_mul]
    have : a * 10 * 10 ^ t.length = a * (10 ^ t.length * 10) := by rw [Nat.mul_assoc, Nat.mul_comm 10]
    rw [this]; omega

theorem decV_append (a b : List UInt8) : decV (a ++ b) = decV a * 10 ^ b.length + decV b := by
  unfold decV
  rw [List.foldl_append]
  exact decV_foldl b _

def DigB (l : List UInt8) : Prop := ∀ k, k < l.length → 48 ≤ byt l k ∧ byt l k ≤ 57

theorem byt_take (l : List UInt8) {k n : Nat} (h : k < n) : byt (l.take n) k = byt l k := by
  unfold byt; rw [List.getElem?_take_of_lt h]
theorem DigB.take {l : List UInt8} (h : DigB l) (n : Nat) : DigB (l.take n) := by
  intro k hk
  rw [List.length_take] at hk
  rw [byt_take l (by omega)]; exact h k (by omega)
theorem decV_succ (l : List UInt8) {k : Nat} (h : k < l.length) : decV (l.take (k + 1)) = decV (l.take k) * 10 + (byt l k - 48) := by
  rw [List.take_succ_eq_append_getElem h, decV_append]
  unfold byt
  rw [List.getElem?_eq_getElem h]
  simp [decV]

theorem decV_lt : ∀ (n : Nat) (l : List UInt8), l.length = n → DigB l → decV l < 10 ^ n
  | 0, l, h, _ => by rw [List.length_eq_zero_iff.1 h]; simp [decV]
  | n + 1, l, h, hd => by
    have h1 := decV_lt n (l.take n) (by simp; omega) (hd.take n)
    have h2 := decV_succ l (k := n) (by omega)
    rw [List.take_of_length_le (by omega)] at h2
    have h3 := hd n (by omega)
    rw [h2, Nat.pow_succ]; omega

def OkT (l : List UInt8) : Prop := l ≠ [] ∧ (byt l 0 = 48 → l = [48]) ∧ DigB l

theorem sl (s : ByteArray) : s.toList = bys s := ByteArray.toList_eq s

theorem dd_big {u : Nat} (h : ¬ u < 10) : Lib.decDigits u = Lib.decDigits (u / 10) ++ [UInt8.ofNat (48 + u % 10)] := by rw [Lib.decDigits, dif_neg h]

theorem u8_digit {d : Nat} (h : d < 10) : (UInt8.ofNat (48 + d)).toNat = 48 + d := by
  rw [UInt8.toNat_ofNat']
  omega

theorem byt_append_left (a b : List UInt8) {k : Nat} (h : k < a.length) : byt (a ++ b) k = byt a k := by
  unfold byt; rw [List.getElem?_append_left h]

theorem byt_last (a : List UInt8) (x : UInt8) : byt (a ++ [x]) a.length = x.toNat := by
  unfold byt; simp

theorem decV_last (a : List UInt8) (x : UInt8) : decV (a ++ [x]) = decV a * 10 + (x.toNat - 48) := by
  rw [decV_append]; simp [decV]

theorem DigB.last {a : List UInt8} (h : DigB a) {d : Nat} (hd : d < 10) : DigB (a ++ [UInt8.ofNat (48 + d)]) := by
  intro k hk
  rw [List.length_append] at hk
  by_cases e : k < a.length
  · rw [byt_append_left _ _ e]; exact h k e
  · have : k = a.length := by simp at hk; omega
    subst this
    rw [byt_last, u8_digit hd]; omega

theorem dd_ne (u : Nat) : Lib.decDigits u ≠ [] := by
  intro e
  have h := Lib.decDigits_length u
  rw [e] at h
  have := Lib.nDigits_pos u
  simp at h; omega

theorem dd_all : ∀ n u : Nat, u ≤ n → DigB (Lib.decDigits u) ∧ decV (Lib.decDigits u) = u ∧ (byt (Lib.decDigits u) 0 = 48 → Lib.decDigits u = [48])
  | n, u, hn => by
    by_cases h : u < 10
    · rw [Lib.decDigits_one h]
      refine ⟨?_, ?_, ?_⟩
      · have := DigB.last (a := []) (fun k hk => by simp at hk) h
        simpa using this
      · simp [decV]; omega
      · intro e
        have e2 : (UInt8.ofNat (48 + u)).toNat = 48 := by simpa [byt] using e
        rw [u8_digit h] at e2
        have : u = 0 := by omega
        subst this; rfl
    · rcases n with _ | n
      · omega
      · obtain ⟨h1, h2, h3⟩ := dd_all n (u / 10) (by omega)
        have hm : u % 10 < 10 := Nat.mod_lt _ (by omega)
        rw [dd_big h]
        refine ⟨h1.last hm, ?_, ?_⟩
        · rw [decV_last, h2, u8_digit hm]; omega
        · intro e
          have hpos : 0 < (Lib.decDigits (u / 10)).length := List.length_pos_iff.2 (dd_ne _)
          rw [byt_append_left _ _ hpos] at e
          have e2 := h3 e
          rw [e2] at h2
          simp [decV] at h2
          omega

theorem dd_okT (u : Nat) : OkT (Lib.decDigits u) := ⟨dd_ne u, (dd_all u u (Nat.le_refl _)).2.2, (dd_all u u (Nat.le_refl _)).1⟩
theorem dd_val (u : Nat) : decV (Lib.decDigits u) = u := (dd_all u u (Nat.le_refl _)).2.1

theorem dd_back : ∀ (n : Nat) (l : List UInt8), l.length = n + 1 → OkT l → Lib.decDigits (decV l) = l
  | 0, l, hl, h => by
    obtain ⟨x, rfl⟩ : ∃ x, l = [x] := by
      rcases l with _ | ⟨x, _ | ⟨y, t⟩⟩
      · simp at hl
      · exact ⟨x, rfl⟩
      · simp at hl
    have h1 := h.2.2 0 (by simp)
    have h2 : byt [x] 0 = x.toNat := by simp [byt]
    rw [h2] at h1
    have h3 : decV [x] = x.toNat - 48 := by simp [decV]
    rw [h3, Lib.decDigits_one (by omega)]
    congr 1
    rw [show 48 + (x.toNat - 48) = x.toNat by omega]
    exact UInt8.ofNat_toNat
  | n + 1, l, hl, h => by
    obtain ⟨a, x, rfl⟩ : ∃ a x, l = a ++ [x] := ⟨l.dropLast, l.getLast h.1, (List.dropLast_concat_getLast h.1).symm⟩
    have ha : a.length = n + 1 := by simp at hl; omega
    have hx := h.2.2 a.length (by simp)
    rw [byt_last] at hx
    have hne : byt (a ++ [x]) 0 ≠ 48 := by
      intro e
      have := congrArg List.length (h.2.1 e)
      rw [List.length_append] at this
      simp only [List.length_cons, List.length_nil] at this
      omega
    have h0 : byt a 0 = byt (a ++ [x]) 0 := (byt_append_left _ _ (by omega)).symm
    have da : DigB a := by
      intro k hk
      have := h.2.2 k (by simp; omega)
      rwa [byt_append_left _ _ hk] at this
    have oka : OkT a := ⟨fun e => by rw [e] at ha; simp at ha, fun e => absurd (h0 ▸ e) hne, da⟩
    have hb := dd_back n a ha oka
    have hv1 : 1 ≤ decV a := by
      rcases Nat.eq_zero_or_pos (decV a) with e | e
      · exfalso
        rw [e] at hb
        have : Lib.decDigits 0 = [48] := by rw [Lib.decDigits_one (by omega)]; rfl
        rw [this] at hb
        apply hne
        rw [← h0, ← hb]; rfl
      · exact e
    have hge : ¬ decV a * 10 + (x.toNat - 48) < 10 := by omega
    rw [decV_last, dd_big hge, show (decV a * 10 + (x.toNat - 48)) / 10 = decV a by omega, show (decV a * 10 + (x.toNat - 48)) % 10 = x.toNat - 48 by omega, hb]
    congr 2
    rw [show 48 + (x.toNat - 48) = x.toNat by omega]
    exact UInt8.ofNat_toNat

theorem bys_append (a b : ByteArray) : bys (a ++ b) = bys a ++ bys b := by
  unfold bys; simp

theorem byt_append_right (a b : List UInt8) (k : Nat) : byt (a ++ b) (a.length + k) = byt b k := by
  unfold byt; rw [List.getElem?_append_right (by omega), Nat.add_sub_cancel_left]

theorem DigB.append {a b : List UInt8} (ha : DigB a) (hb : DigB b) : DigB (a ++ b) := by
  intro k hk
  by_cases e : k < a.length
  · rw [byt_append_left _ _ e]; exact ha k e
  · rw [List.length_append] at hk
    have h := hb (k - a.length) (by omega)
    have e2 : byt (a ++ b) k = byt b (k - a.length) := by
      have := byt_append_right a b (k - a.length)
      rwa [show a.length + (k - a.length) = k by omega] at this
    rw [e2]; exact h

theorem dd_lt : ∀ n u : Nat, u ≤ n → u < 10 ^ (Lib.decDigits u).length ∧ (u ≠ 0 → 10 ^ ((Lib.decDigits u).length - 1) ≤ u)
  | n, u, hn => by
    by_cases h : u < 10
    · rw [Lib.decDigits_one h]
      exact ⟨by simpa using h, fun h0 => by simp; omega⟩
    · rcases n with _ | n
      · omega
      · obtain ⟨h1, h2⟩ := dd_lt n (u / 10) (by omega)
        have h3 := h2 (by omega)
        have hl : 0 < (Lib.decDigits (u / 10)).length := List.length_pos_iff.2 (dd_ne _)
        rw [dd_big h, List.length_append, List.length_singleton, Nat.add_sub_cancel]
        obtain ⟨m, hm⟩ : ∃ m, (Lib.decDigits (u / 10)).length = m + 1 := ⟨(Lib.decDigits (u / 10)).length - 1, by omega⟩
        rw [hm] at h1 h3 ⊢
        rw [Nat.add_sub_cancel] at h3
        rw [Nat.pow_succ] at h1
        rw [Nat.pow_succ, Nat.pow_succ]
        generalize 10 ^ m = p at *
        exact ⟨by omega, fun _ => by omega⟩

end Go.Proofs.YtbfegnbaleclfaaGreatDoor

namespace Go.Proofs.YtbfegnbaleclfaaGreatDoor

end Go.Proofs.YtbfegnbaleclfaaGreatDoor

namespace Go.Proofs.YtbfegnbaleclfaaGreatDoor

structure DecT where
  cls : Nat
  neg : Bool
  dig : List UInt8
  exp : Int
deriving DecidableEq

def cut0 (l : List UInt8) : List UInt8 := Lib.trimRightB l 48

def tellDec (neg : Bool) (d : List UInt8) (e : Int) : DecT := ⟨0, neg, cut0 d, e + d.length - (cut0 d).length⟩

def decA (neg : Bool) (N : Nat) (e : Int) : DecT := tellDec neg (Lib.decDigits N) e

def sizeN (N : Nat) : Nat := (Lib.decDigits N).length

theorem sizeN_pos (N : Nat) : 0 < sizeN N := List.length_pos_iff.2 (dd_ne N)

theorem sizeN_ge {N : Nat} (h : N ≠ 0) : 10 ^ (sizeN N - 1) ≤ N := (dd_lt N N (Nat.le_refl _)).2 h
theorem sizeN_le {N s : Nat} (h : N < 10 ^ s) (hs : 1 ≤ s) : sizeN N ≤ s := by
  by_cases h0 : N = 0
  · subst h0; unfold sizeN; rw [Lib.decDigits_one (by omega)]; simpa using hs
  · have := sizeN_ge h0
    have : sizeN N - 1 < s := (Nat.pow_lt_pow_iff_right (by omega : 1 < 10)).1 (by omega)
    have := sizeN_pos N
    omega

end Go.Proofs.YtbfegnbaleclfaaGreatDoor

namespace Go.Proofs.YtbfegnbaleclfaaGreatDoor

end Go.Proofs.YtbfegnbaleclfaaGreatDoor

namespace Go.Proofs.YtbfegnbaleclfaaGreatDoor

def MayD (c : Int) (neg : Bool) (dig : List UInt8) (e : Int) : Prop :=
  (c = 0 ∧ ((dig = [] ∧ e = 0) ∨ (dig ≠ [] ∧ dig.length ≤ 1000 ∧ -2000 ≤ e + dig.length ∧ e + dig.length ≤ 2000 ∧ byt dig 0 ≠ 48 ∧ byt dig (dig.length - 1) ≠ 48 ∧ DigB dig))) ∨
  (c = 1 ∧ dig = [] ∧ e = 0) ∨ (c = 2 ∧ neg = false ∧ dig = [] ∧ e = 0)

end Go.Proofs.YtbfegnbaleclfaaGreatDoor

namespace Go.Proofs.YtbfegnbaleclfaaGreatDoor

def May (d : DecT) : Prop := MayD (d.cls : Int) d.neg d.dig d.exp

def finD (neg : Bool) (N : Nat) (e : Int) : DecT := if N = 0 then ⟨0, neg, [], 0⟩ else decA neg N e

theorem cut0_cons (b : UInt8) (t : List UInt8) : cut0 (b :: t) = if cut0 t = [] then (if b = 48 then [] else [b]) else b :: cut0 t := by
  unfold cut0 Lib.trimRightB
  rw [List.reverse_cons, List.dropWhile_append]
  by_cases h : t.reverse.dropWhile (· == (48 : UInt8)) = []
  · rw [h]
    by_cases hb : b = 48
    · subst hb; simp
    · simp [hb]
  · have h2 : (t.reverse.dropWhile (· == (48 : UInt8))).isEmpty = false := by simpa using h
    rw [h2]
    have h3 : ¬ (t.reverse.dropWhile (· == (48 : UInt8))).reverse = [] := by simpa using h
    rw [if_neg h3]
    simp

theorem byt_cons0 (b : UInt8) (t : List UInt8) : byt (b :: t) 0 = b.toNat := by simp [byt]
theorem byt_consS (b : UInt8) (t : List UInt8) (k : Nat) : byt (b :: t) (k + 1) = byt t k := by simp [byt]

theorem DigB.tail {b : UInt8} {t : List UInt8} (h : DigB (b :: t)) : DigB t := fun k hk => by
  have := h (k + 1) (by simp; omega)
  rwa [byt_consS] at this

theorem DigB.head {b : UInt8} {t : List UInt8} (h : DigB (b :: t)) : 48 ≤ b.toNat ∧ b.toNat ≤ 57 := by
  have := h 0 (by simp)
  rwa [byt_cons0] at this

theorem decV_cons (b : UInt8) (t : List UInt8) : decV (b :: t) = (b.toNat - 48) * 10 ^ t.length + decV t := by
  have := decV_append [b] t
  rw [List.singleton_append] at this
  rw [this]; simp [decV]

theorem u8_48 {b : UInt8} (h : b.toNat = 48) : b = 48 := by
  rw [← UInt8.ofNat_toNat (x := b), h]; rfl

theorem decV_cut0 : ∀ (l : List UInt8), cut0 l = [] → decV l = 0
  | [], _ => rfl
  | b :: t, h => by
    rw [cut0_cons] at h
    by_cases h1 : cut0 t = []
    · rw [if_pos h1] at h
      by_cases h2 : b = 48
      · subst h2
        rw [decV_cons, decV_cut0 t h1]
        simp
      · rw [if_neg h2] at h; simp at h
    · rw [if_neg h1] at h; simp at h

def mid0 (l : List UInt8) : List UInt8 := Lib.trimLeftB (cut0 l) 48

theorem mid0_zero : ∀ (l : List UInt8), DigB l → decV l = 0 → mid0 l = []
  | [], _, _ => rfl
  | b :: t, hd, h => by
    rw [decV_cons] at h
    have hb := hd.head
    have h1 : b.toNat - 48 = 0 := by
      rcases Nat.eq_zero_or_pos (b.toNat - 48) with e | e
      · exact e
      · exfalso
        have := Nat.mul_pos e (Nat.pow_pos (n := t.length) (show 0 < 10 by omega))
        omega
    have h2 : b = 48 := u8_48 (by omega)
    have ih := mid0_zero t hd.tail (by omega)
    subst h2
    unfold mid0 at *
    rw [cut0_cons]
    by_cases h3 : cut0 t = []
    · rw [if_pos h3, if_pos rfl]; rfl
    · rw [if_neg h3]
      unfold Lib.trimLeftB at *
      rw [List.dropWhile_cons_of_pos (by simp)]
      exact ih

theorem mid0_form (neg : Bool) : ∀ (l : List UInt8) (e : Int), DigB l → decV l ≠ 0 → mid0 l ≠ [] ∧ DecT.mk 0 neg (mid0 l) (e + l.length - (cut0 l).length) = decA neg (decV l) e
  | [], _, _, h => absurd rfl h
  | b :: t, e, hd, h => by
    by_cases hb : b = 48
    · subst hb
      have hv : decV (48 :: t) = decV t := by rw [decV_cons]; simp
      rw [hv] at h
      have hc : cut0 t ≠ [] := fun hc => h (decV_cut0 t hc)
      obtain ⟨h1, h2⟩ := mid0_form neg t e hd.tail h
      have e1 : cut0 (48 :: t) = 48 :: cut0 t := by rw [cut0_cons, if_neg hc]
      have e2 : mid0 (48 :: t) = mid0 t := by
        unfold mid0
        rw [e1]
        unfold Lib.trimLeftB
        rw [List.dropWhile_cons_of_pos (by simp)]
      rw [e2, hv, e1]
      refine ⟨h1, ?_⟩
      rw [← h2]
      congr 1
      simp only [List.length_cons]
      omega
    · have h48 : byt (b :: t) 0 ≠ 48 := by rw [byt_cons0]; exact fun e => hb (u8_48 e)
      have ok : OkT (b :: t) := ⟨by simp, fun e => absurd e h48, hd⟩
      have hb2 := dd_back t.length (b :: t) (by simp) ok
      have hc : ∃ u, cut0 (b :: t) = b :: u := by
        rw [cut0_cons]
        by_cases h3 : cut0 t = []
        · rw [if_pos h3, if_neg hb]; exact ⟨_, rfl⟩
        · rw [if_neg h3]; exact ⟨_, rfl⟩
      obtain ⟨u, hu⟩ := hc
      have e2 : mid0 (b :: t) = cut0 (b :: t) := by
        unfold mid0
        rw [hu]
        unfold Lib.trimLeftB
        rw [List.dropWhile_cons_of_neg (by simpa using hb)]
      refine ⟨by rw [e2, hu]; simp, ?_⟩
      unfold decA tellDec
      rw [hb2, e2]

def ofD (neg : Bool) (l : List UInt8) (e : Int) : DecT := if mid0 l = [] then ⟨0, neg, [], 0⟩ else ⟨0, neg, mid0 l, e + l.length - (cut0 l).length⟩

theorem ofD_fin (neg : Bool) (l : List UInt8) (e : Int) (hd : DigB l) : ofD neg l e = finD neg (decV l) e := by
  unfold ofD finD
  by_cases h : decV l = 0
  · rw [if_pos (mid0_zero l hd h), if_pos h]
  · obtain ⟨h1, h2⟩ := mid0_form neg l e hd h
    rw [if_neg h1, if_neg h, h2]

noncomputable def tellF (neg : Bool) (N : Nat) (e : Int) : DecT × Int := open Classical in if May (finD neg N e) then (finD neg N e, 0) else (⟨0, false, [], 0⟩, 51)

theorem tellF_yes {neg : Bool} {N : Nat} {e : Int} (h : May (finD neg N e)) : tellF neg N e = (finD neg N e, 0) := by unfold tellF; rw [if_pos h]
theorem tellF_no {neg : Bool} {N : Nat} {e : Int} (h : ¬ May (finD neg N e)) : tellF neg N e = (⟨0, false, [], 0⟩, 51) := by unfold tellF; rw [if_neg h]

structure Fin (d : DecT) : Prop where
  cls : d.cls = 0
  ne : d.dig ≠ []
  len : d.dig.length ≤ 1000
  lo : -2000 ≤ d.exp + d.dig.length
  hi : d.exp + d.dig.length ≤ 2000
  first : byt d.dig 0 ≠ 48
  last : byt d.dig (d.dig.length - 1) ≠ 48
  dig : DigB d.dig

theorem may_cases {d : DecT} (h : May d) : (∃ neg, d = ⟨0, neg, [], 0⟩) ∨ Fin d ∨ (∃ neg, d = ⟨1, neg, [], 0⟩) ∨ d = ⟨2, false, [], 0⟩ := by
  obtain ⟨c, n, l, e⟩ := d
  rcases h with ⟨h1, h2⟩ | ⟨h1, h2, h3⟩ | ⟨h1, h2, h3, h4⟩
  · have hc : c = 0 := by simpa using h1
    subst hc
    rcases h2 with ⟨h2, h3⟩ | ⟨h2, h3, h4, h5, h6, h7, h8⟩
    · simp only at h2 h3
      subst h2 h3
      exact .inl ⟨n, rfl⟩
    · exact .inr (.inl ⟨rfl, h2, h3, h4, h5, h6, h7, h8⟩)
  · have hc : c = 1 := by simp only at h1; omega
    simp only at h2 h3
    subst hc h2 h3
    exact .inr (.inr (.inl ⟨n, rfl⟩))
  · have hc : c = 2 := by simp only at h1; omega
    simp only at h2 h3 h4
    subst hc h2 h3 h4
    exact .inr (.inr (.inr rfl))

end Go.Proofs.YtbfegnbaleclfaaGreatDoor

namespace Go.Proofs.YtbfegnbaleclfaaGreatDoor
open Go.RowKit

end Go.Proofs.YtbfegnbaleclfaaGreatDoor

namespace Go.Proofs.YtbfegnbaleclfaaGreatDoor

end Go.Proofs.YtbfegnbaleclfaaGreatDoor

namespace Go.Proofs.YtbfegnbaleclfaaGreatDoor

end Go.Proofs.YtbfegnbaleclfaaGreatDoor

namespace Go.Proofs.YtbfegnbaleclfaaGreatDoor

end Go.Proofs.YtbfegnbaleclfaaGreatDoor

namespace Go.Proofs.YtbfegnbaleclfaaGreatDoor

end Go.Proofs.YtbfegnbaleclfaaGreatDoor
