/-
  A variable of several cells, in a block by itself.
  A variable's cells, all at once; a variable behind what was laid and called.
  Plain mathematics: decimal digits, the numbers that they are, and texts behind texts.
  Plain mathematics: a float as a number and a power of 2, how far it reaches, and the fewest digits that are picked.
  Plain mathematics: Decs, the one of a number times a power of 10, and those that package shortest tells.
  Plain mathematics: the Decs that package shortest tells have a Dec's one form.
  Plain mathematics: which Decs may be.
  Plain mathematics: decimal numbers in their one form, what they are worth, and how they stand.
  How two numbers stand, by their values.
  Plain mathematics: a number, rounded to the multiples of a unit by one of eight modes.
  Plain mathematics of shifts: what one digit of a list turned does to its number, and what a digit is when it is shifted.
  Plain mathematics of shifts down.
  Plain mathematics of multiplying a list by one digit and adding it to a row.
  What nat.addTimes and nat.Mul do.
  What nat.addBack does to a row.
-/
import Derived.Test.YtobloamnaemfnaaGreatDoorVNorm
import Derived.Handy
import Derived.Test.YtobloamnaemfnaaGreatDoorVCarry
import Derived.Lib.ItoaNum
import Derived.Lib.TrimByte
import Derived.Lib.Bytealg
import Derived.Test.YtobloamnaemfnaaGreatDoorVCmp
import Derived.Test.YtobloamnaemfnaaGreatDoorVB1
import Derived.Test.YtobloamnaemfnaaGreatDoorVRow
namespace Go.Proofs.YtobloamnaemfnaaGreatDoor
open Go.RowKit

def Blk (w : World) (b : Nat) (cs : Array Value) (t : TypeId) : Prop := w.heap[b]? = some (.cells cs t (0, 0))

section
variable {w w' : World} {b : Nat} {cs : Array Value} {t : TypeId}

theorem Blk.cell (h : Blk w b cs t) (i : Nat) : w.cell? ⟨b, i, none⟩ = cs[i]? := by unfold Blk at h; simp [World.cell?, h]
theorem Blk.free (h : Blk w b cs t) (i : Nat) : w.frozen? ⟨b, i, none⟩ = false := by unfold Blk at h; simp [World.frozen?, h]
theorem Blk.new (w : World) (cs : Array Value) (t : TypeId) : Blk (w.alloc (.cells cs t)) w.heap.size cs t := heap_alloc_new _ _
theorem Blk.newAt (w : World) (n : Nat) (hn : w.heap.size = n) (cs : Array Value) (t : TypeId) : Blk (w.alloc (.cells cs t)) n cs t := by subst hn; exact Blk.new _ _ _
theorem Blk.lt (h : Blk w b cs t) : b < w.heap.size := lt_of_block h
theorem Blk.below (h : Blk w b cs t) {B : Nat} (hb : Below B w w') (hg : b < B) : Blk w' b cs t := by
  unfold Blk at *
  rw [hb.block b hg]; exact h
theorem Blk.alloc (h : Blk w b cs t) (o : Obj) : Blk (w.alloc o) b cs t := by
  have hlt := h.lt
  unfold Blk at *
  rw [Below.heap_alloc _ _ _ hlt]; exact h
theorem Blk.put4 {x0 x1 x2 x3 : Value} (h : Blk w b #[x0, x1, x2, x3] t) (y0 y1 y2 y3 : Value) : Blk ((((w.setCell ⟨b, 0, none⟩ y0).setCell ⟨b, 1, none⟩ y1).setCell ⟨b, 2, none⟩ y2).setCell ⟨b, 3, none⟩ y3) b #[y0, y1, y2, y3] t := by
  unfold Blk at *
  simp only [World.setCell, Array.getElem?_modify, if_true, h, Option.map_some]
  rfl
end

theorem Blk.other {w : World} {b : Nat} {t : TypeId} {cs : Array Value} (h : Blk w b cs t) {a : Addr} (ha : a.block ≠ b) (v : Value) : Blk (w.setCell a v) b cs t := by
  unfold Blk at *
  simp only [World.setCell, Array.getElem?_modify, if_neg ha, h]

end Go.Proofs.YtobloamnaemfnaaGreatDoor

namespace Go.Proofs.YtobloamnaemfnaaGreatDoor
open Go.RowKit

theorem Blk.four {w : World} {b : Nat} {x0 x1 x2 x3 : Value} {t : TypeId} (h : Blk w b #[x0, x1, x2, x3] t) : w.cell? ⟨b, 0, none⟩ = some x0 ∧ w.cell? ⟨b, 1, none⟩ = some x1 ∧ w.cell? ⟨b, 2, none⟩ = some x2 ∧ w.cell? ⟨b, 3, none⟩ = some x3 := ⟨h.cell 0, h.cell 1, h.cell 2, h.cell 3⟩
theorem Blk.on {w w' : World} {b : Nat} {cs : Array Value} {t : TypeId} (h : Hid (Blk w b cs t)) (hb : Below w.heap.size w w') : Hid (Blk w' b cs t) := h.out.below hb h.out.lt
theorem Blk.up {w : World} {b : Nat} {cs : Array Value} {t : TypeId} (h : Hid (Blk w b cs t)) (o : Obj) : Hid (Blk (w.alloc o) b cs t) := h.out.alloc o

end Go.Proofs.YtobloamnaemfnaaGreatDoor

namespace Go.Proofs.YtobloamnaemfnaaGreatDoor

def bys (s : ByteArray) : List UInt8 := s.data.toList

theorem bys_len (s : ByteArray) : (bys s).length = s.size := by simp [bys]

def byt (l : List UInt8) (k : Nat) : Nat := (l[k]?.map UInt8.toNat).getD 0

theorem byt_get (s : ByteArray) (k : Nat) (h : k < s.size) : s[k].toNat = byt (bys s) k := by
  unfold byt bys
  have : s.data.toList[k]? = some s[k] := by
    rw [Array.getElem?_toList, Array.getElem?_eq_getElem h]; rfl
  rw [this]; rfl

def decV (l : List UInt8) : Nat := l.foldl (fun a b => a * 10 + (b.toNat - 48)) 0

theorem decV_foldl (l : List UInt8) : ∀ a, l.foldl (fun a b => a * 10 + (b.toNat - 48)) a = a * 10 ^ l.length + decV l := by
  unfold decV
  induction l with
  | nil => intro a; simp
  | cons b t ih =>
    intro a
    simp only [List.foldl_cons, List.length_cons]
    rw [ih (a * 10 + (b.toNat - 48)), ih (0 * 10 + (b.toNat - 48)), Nat.pow_succ, Nat.add_mul, Nat.add_mul]
    have : a * 10 * 10 ^ t.length = a * (10 ^ t.length * 10) := by rw [Nat.mul_assoc, Nat.mul_comm 10]
    rw [this]; omega

theorem decV_append (a b : List UInt8) : decV (a ++ b) = decV a * 10 ^ b.length + decV b := by
  unfold decV
  rw [List.foldl_append]
  exact decV_foldl b _

def DigB (l : List UInt8) : Prop := ∀ k, k < l.length → 48 ≤ byt l k ∧ byt l k ≤ 57

theorem byt_take (l : List UInt8) {k n : Nat} (h : k < n) : byt (l.take n) k = byt l k := by
  unfold byt; rw [List.getElem?_take_of_lt h]
theorem byt_drop (l : List UInt8) (n k : Nat) : byt (l.drop n) k = byt l (n + k) := by
  unfold byt; rw [List.getElem?_drop]

theorem DigB.take {l : List UInt8} (h : DigB l) (n : Nat) : DigB (l.take n) := by
  intro k hk
  rw [List.length_take] at hk
  rw [byt_take l (by omega)]; exact h k (by omega)
theorem DigB.drop {l : List UInt8} (h : DigB l) (n : Nat) : DigB (l.drop n) := by
  intro k hk
  rw [List.length_drop] at hk
  rw [byt_drop]; exact h _ (by omega)

theorem decV_succ (l : List UInt8) {k : Nat} (h : k < l.length) : decV (l.take (k + 1)) = decV (l.take k) * 10 + (byt l k - 48) := by
  rw [List.take_succ_eq_append_getElem h, decV_append]
  unfold byt
  rw [List.getElem?_eq_getElem h]
  simp [decV]

theorem decV_lt : ∀ (n : Nat) (l : List UInt8), l.length = n → DigB l → decV l < 10 ^ n
  | 0, l, h, _ => by rw [List.length_eq_zero_iff.1 h]; simp [decV]
  | n + 1, l, h, hd => by
    have h1 := decV_lt n (l.take n) (by simp; omega) (hd.take n)
    have h2 := decV_succ l (k := n) (by omega)
    rw [List.take_of_length_le (by omega)] at h2
    have h3 := hd n (by omega)
    rw [h2, Nat.pow_succ]; omega

def OkT (l : List UInt8) : Prop := l ≠ [] ∧ (byt l 0 = 48 → l = [48]) ∧ DigB l

theorem sl (s : ByteArray) : s.toList = bys s := ByteArray.toList_eq s

theorem dd_big {u : Nat} (h : ¬ u < 10) : Lib.decDigits u = Lib.decDigits (u / 10) ++ [UInt8.ofNat (48 + u % 10)] := by rw [Lib.decDigits, dif_neg h]

theorem u8_digit {d : Nat} (h : d < 10) : (UInt8.ofNat (48 + d)).toNat = 48 + d := by
  rw [UInt8.toNat_ofNat']
  omega

theorem byt_append_left (a b : List UInt8) {k : Nat} (h : k < a.length) : byt (a ++ b) k = byt a k := by
  unfold byt; rw [List.getElem?_append_left h]

theorem byt_last (a : List UInt8) (x : UInt8) : byt (a ++ [x]) a.length = x.toNat := by
  unfold byt; simp

theorem decV_last (a : List UInt8) (x : UInt8) : decV (a ++ [x]) = decV a * 10 + (x.toNat - 48) := by
  rw [decV_append]; simp [decV]

theorem DigB.last {a : List UInt8} (h : DigB a) {d : Nat} (hd : d < 10) : DigB (a ++ [UInt8.ofNat (48 + d)]) := by
  intro k hk
  rw [List.length_append] at hk
  by_cases e : k < a.length
  · rw [byt_append_left _ _ e]; exact h k e
  · have : k = a.length := by simp at hk; omega
    subst this
    rw [byt_last, u8_digit hd]; omega

theorem dd_ne (u : Nat) : Lib.decDigits u ≠ [] := by
  intro e
  have h := Lib.decDigits_length u
  rw [e] at h
  have := Lib.nDigits_pos u
  simp at h; omega

theorem dd_all : ∀ n u : Nat, u ≤ n → DigB (Lib.decDigits u) ∧ decV (Lib.decDigits u) = u ∧ (byt (Lib.decDigits u) 0 = 48 → Lib.decDigits u = [48])
  | n, u, hn => by
    by_cases h : u < 10
    · rw [Lib.decDigits_one h]
      refine ⟨?_, ?_, ?_⟩
      · have := DigB.last (a := []) (fun k hk => by simp at hk) h
        simpa using this
      · simp [decV]; omega
      · intro e
        have e2 : (UInt8.ofNat (48 + u)).toNat = 48 := by simpa [byt] using e
        rw [u8_digit h] at e2
        have : u = 0 := by omega
        subst this; rfl
    · rcases n with _ | n
      · omega
      · obtain ⟨h1, h2, h3⟩ := dd_all n (u / 10) (by omega)
        have hm : u % 10 < 10 := Nat.mod_lt _ (by omega)
        rw [dd_big h]
        refine ⟨h1.last hm, ?_, ?_⟩
        · rw [decV_last, h2, u8_digit hm]; omega
        · intro e
          have hpos : 0 < (Lib.decDigits (u / 10)).length := List.length_pos_iff.2 (dd_ne _)
          rw [byt_append_left _ _ hpos] at e
          have e2 := h3 e
          rw [e2] at h2
          simp [decV] at h2
          omega

theorem dd_okT (u : Nat) : OkT (Lib.decDigits u) := ⟨dd_ne u, (dd_all u u (Nat.le_refl _)).2.2, (dd_all u u (Nat.le_refl _)).1⟩
theorem dd_val (u : Nat) : decV (Lib.decDigits u) = u := (dd_all u u (Nat.le_refl _)).2.1

theorem dd_back : ∀ (n : Nat) (l : List UInt8), l.length = n + 1 → OkT l → Lib.decDigits (decV l) = l
  | 0, l, hl, h => by
    obtain ⟨x, rfl⟩ : ∃ x, l = [x] := by
      rcases l with _ | ⟨x, _ | ⟨y, t⟩⟩
      · simp at hl
      · exact ⟨x, rfl⟩
      · simp at hl
    have h1 := h.2.2 0 (by simp)
    have h2 : byt [x] 0 = x.toNat := by simp [byt]
    rw [h2] at h1
    have h3 : decV [x] = x.toNat - 48 := by simp [decV]
    rw [h3, Lib.decDigits_one (by omega)]
    congr 1
    rw [show 48 + (x.toNat - 48) = x.toNat by omega]
    exact UInt8.ofNat_toNat
  | n + 1, l, hl, h => by
    obtain ⟨a, x, rfl⟩ : ∃ a x, l = a ++ [x] := ⟨l.dropLast, l.getLast h.1, (List.dropLast_concat_getLast h.1).symm⟩
    have ha : a.length = n + 1 := by simp at hl; omega
    have hx := h.2.2 a.length (by simp)
    rw [byt_last] at hx
    have hne : byt (a ++ [x]) 0 ≠ 48 := by
      intro e
      have := congrArg List.length (h.2.1 e)
      rw [List.length_append] at this
      simp only [List.length_cons, List.length_nil] at this
      omega
    have h0 : byt a 0 = byt (a ++ [x]) 0 := (byt_append_left _ _ (by omega)).symm
    have da : DigB a := by
      intro k hk
      have := h.2.2 k (by simp; omega)
      rwa [byt_append_left _ _ hk] at this
    have oka : OkT a := ⟨fun e => by rw [e] at ha; simp at ha, fun e => absurd (h0 ▸ e) hne, da⟩
    have hb := dd_back n a ha oka
    have hv1 : 1 ≤ decV a := by
      rcases Nat.eq_zero_or_pos (decV a) with e | e
      · exfalso
        rw [e] at hb
        have : Lib.decDigits 0 = [48] := by rw [Lib.decDigits_one (by omega)]; rfl
        rw [this] at hb
        apply hne
        rw [← h0, ← hb]; rfl
      · exact e
    have hge : ¬ decV a * 10 + (x.toNat - 48) < 10 := by omega
    rw [decV_last, dd_big hge, show (decV a * 10 + (x.toNat - 48)) / 10 = decV a by omega, show (decV a * 10 + (x.toNat - 48)) % 10 = x.toNat - 48 by omega, hb]
    congr 2
    rw [show 48 + (x.toNat - 48) = x.toNat by omega]
    exact UInt8.ofNat_toNat

theorem bys_append (a b : ByteArray) : bys (a ++ b) = bys a ++ bys b := by
  unfold bys; simp

theorem byt_append_right (a b : List UInt8) (k : Nat) : byt (a ++ b) (a.length + k) = byt b k := by
  unfold byt; rw [List.getElem?_append_right (by omega), Nat.add_sub_cancel_left]

theorem DigB.append {a b : List UInt8} (ha : DigB a) (hb : DigB b) : DigB (a ++ b) := by
  intro k hk
  by_cases e : k < a.length
  · rw [byt_append_left _ _ e]; exact ha k e
  · rw [List.length_append] at hk
    have h := hb (k - a.length) (by omega)
    have e2 : byt (a ++ b) k = byt b (k - a.length) := by
      have := byt_append_right a b (k - a.length)
      rwa [show a.length + (k - a.length) = k by omega] at this
    rw [e2]; exact h

theorem dd_lt : ∀ n u : Nat, u ≤ n → u < 10 ^ (Lib.decDigits u).length ∧ (u ≠ 0 → 10 ^ ((Lib.decDigits u).length - 1) ≤ u)
  | n, u, hn => by
    by_cases h : u < 10
    · rw [Lib.decDigits_one h]
      exact ⟨by simpa using h, fun h0 => by simp; omega⟩
    · rcases n with _ | n
      · omega
      · obtain ⟨h1, h2⟩ := dd_lt n (u / 10) (by omega)
        have h3 := h2 (by omega)
        have hl : 0 < (Lib.decDigits (u / 10)).length := List.length_pos_iff.2 (dd_ne _)
        rw [dd_big h, List.length_append, List.length_singleton, Nat.add_sub_cancel]
        obtain ⟨m, hm⟩ : ∃ m, (Lib.decDigits (u / 10)).length = m + 1 := ⟨(Lib.decDigits (u / 10)).length - 1, by omega⟩
        rw [hm] at h1 h3 ⊢
        rw [Nat.add_sub_cancel] at h3
        rw [Nat.pow_succ] at h1
        rw [Nat.pow_succ, Nat.pow_succ]
        generalize 10 ^ m = p at *
        exact ⟨by omega, fun _ => by omega⟩

end Go.Proofs.YtobloamnaemfnaaGreatDoor

namespace Go.Proofs.YtobloamnaemfnaaGreatDoor

def powT (b n : Nat) : Nat := b ^ n
theorem powT_ge {b k n : Nat} (hb : 0 < b) (h : k ≤ n) : b ^ k ≤ powT b n := Nat.pow_le_pow_right hb h

structure Near where
  amt : Nat
  lo : Nat
  hi : Nat
  clo : Bool

end Go.Proofs.YtobloamnaemfnaaGreatDoor

namespace Go.Proofs.YtobloamnaemfnaaGreatDoor

structure DecT where
  cls : Nat
  neg : Bool
  dig : List UInt8
  exp : Int
deriving DecidableEq

def cut0 (l : List UInt8) : List UInt8 := Lib.trimRightB l 48

def tellDec (neg : Bool) (d : List UInt8) (e : Int) : DecT := ⟨0, neg, cut0 d, e + d.length - (cut0 d).length⟩

def decA (neg : Bool) (N : Nat) (e : Int) : DecT := tellDec neg (Lib.decDigits N) e

def sizeN (N : Nat) : Nat := (Lib.decDigits N).length

theorem cut0_snoc0 (l : List UInt8) : cut0 (l ++ [48]) = cut0 l := by
  unfold cut0 Lib.trimRightB
  simp

theorem cut0_snoc (l : List UInt8) {d : UInt8} (h : d ≠ 48) : cut0 (l ++ [d]) = l ++ [d] := by
  unfold cut0 Lib.trimRightB
  simp [h]

theorem dd_ten {N : Nat} (h : N ≠ 0) : Lib.decDigits (N * 10) = Lib.decDigits N ++ [48] := by
  rw [dd_big (by omega), Nat.mul_div_cancel _ (by omega), Nat.mul_mod_left]
  rfl

theorem decA_ten {neg : Bool} {N : Nat} {e : Int} (h : N ≠ 0) : decA neg (N * 10) e = decA neg N (e + 1) := by
  unfold decA tellDec
  rw [dd_ten h, cut0_snoc0, List.length_append, List.length_singleton]
  congr 1
  omega

theorem decA_tens {neg : Bool} {N : Nat} (h : N ≠ 0) : ∀ (k : Nat) (e : Int), decA neg (N * 10 ^ k) e = decA neg N (e + k)
  | 0, e => by simp
  | k + 1, e => by
    have hp : 0 < 10 ^ k := Nat.pow_pos (by omega)
    rw [Nat.pow_succ, ← Nat.mul_assoc, decA_ten (by have := Nat.mul_pos (Nat.pos_of_ne_zero h) hp; omega), decA_tens h k]
    congr 1
    push_cast; omega

theorem sizeN_pos (N : Nat) : 0 < sizeN N := List.length_pos_iff.2 (dd_ne N)

theorem sizeN_ge {N : Nat} (h : N ≠ 0) : 10 ^ (sizeN N - 1) ≤ N := (dd_lt N N (Nat.le_refl _)).2 h
theorem sizeN_le {N s : Nat} (h : N < 10 ^ s) (hs : 1 ≤ s) : sizeN N ≤ s := by
  by_cases h0 : N = 0
  · subst h0; unfold sizeN; rw [Lib.decDigits_one (by omega)]; simpa using hs
  · have := sizeN_ge h0
    have : sizeN N - 1 < s := (Nat.pow_lt_pow_iff_right (by omega : 1 < 10)).1 (by omega)
    have := sizeN_pos N
    omega

end Go.Proofs.YtobloamnaemfnaaGreatDoor

namespace Go.Proofs.YtobloamnaemfnaaGreatDoor

end Go.Proofs.YtobloamnaemfnaaGreatDoor

namespace Go.Proofs.YtobloamnaemfnaaGreatDoor

def MayD (c : Int) (neg : Bool) (dig : List UInt8) (e : Int) : Prop :=
  (c = 0 ∧ ((dig = [] ∧ e = 0) ∨ (dig ≠ [] ∧ dig.length ≤ 1000 ∧ -2000 ≤ e + dig.length ∧ e + dig.length ≤ 2000 ∧ byt dig 0 ≠ 48 ∧ byt dig (dig.length - 1) ≠ 48 ∧ DigB dig))) ∨
  (c = 1 ∧ dig = [] ∧ e = 0) ∨ (c = 2 ∧ neg = false ∧ dig = [] ∧ e = 0)

theorem decV_ne {l : List UInt8} (h : l ≠ []) (h0 : byt l 0 ≠ 48) (hd : DigB l) : decV l ≠ 0 := by
  have ok : OkT l := ⟨h, fun e => absurd e h0, hd⟩
  rcases hl : l.length with _ | n
  · exact absurd (List.length_eq_zero_iff.1 hl) h
  · have hb := dd_back n l hl ok
    intro e
    rw [e, Lib.decDigits_one (by omega)] at hb
    apply h0
    rw [← hb]; rfl

end Go.Proofs.YtobloamnaemfnaaGreatDoor

namespace Go.Proofs.YtobloamnaemfnaaGreatDoor

def May (d : DecT) : Prop := MayD (d.cls : Int) d.neg d.dig d.exp

def finD (neg : Bool) (N : Nat) (e : Int) : DecT := if N = 0 then ⟨0, neg, [], 0⟩ else decA neg N e

theorem cut0_cons (b : UInt8) (t : List UInt8) : cut0 (b :: t) = if cut0 t = [] then (if b = 48 then [] else [b]) else b :: cut0 t := by
  unfold cut0 Lib.trimRightB
  rw [List.reverse_cons, List.dropWhile_append]
  by_cases h : t.reverse.dropWhile (· == (48 : UInt8)) = []
  · rw [h]
    by_cases hb : b = 48
    · subst hb; simp
    · simp [hb]
  · have h2 : (t.reverse.dropWhile (· == (48 : UInt8))).isEmpty = false := by simpa using h
    rw [h2]
    have h3 : ¬ (t.reverse.dropWhile (· == (48 : UInt8))).reverse = [] := by simpa using h
    rw [if_neg h3]
    simp

theorem byt_cons0 (b : UInt8) (t : List UInt8) : byt (b :: t) 0 = b.toNat := by simp [byt]
theorem byt_consS (b : UInt8) (t : List UInt8) (k : Nat) : byt (b :: t) (k + 1) = byt t k := by simp [byt]

theorem DigB.tail {b : UInt8} {t : List UInt8} (h : DigB (b :: t)) : DigB t := fun k hk => by
  have := h (k + 1) (by simp; omega)
  rwa [byt_consS] at this

theorem DigB.head {b : UInt8} {t : List UInt8} (h : DigB (b :: t)) : 48 ≤ b.toNat ∧ b.toNat ≤ 57 := by
  have := h 0 (by simp)
  rwa [byt_cons0] at this

theorem decV_cons (b : UInt8) (t : List UInt8) : decV (b :: t) = (b.toNat - 48) * 10 ^ t.length + decV t := by
  have := decV_append [b] t
  rw [List.singleton_append] at this
  rw [this]; simp [decV]

theorem u8_48 {b : UInt8} (h : b.toNat = 48) : b = 48 := by
  rw [← UInt8.ofNat_toNat (x := b), h]; rfl

theorem decV_cut0 : ∀ (l : List UInt8), cut0 l = [] → decV l = 0
  | [], _ => rfl
  | b :: t, h => by
    rw [cut0_cons] at h
    by_cases h1 : cut0 t = []
    · rw [if_pos h1] at h
      by_cases h2 : b = 48
      · subst h2
        rw [decV_cons, decV_cut0 t h1]
        simp
      · rw [if_neg h2] at h; simp at h
    · rw [if_neg h1] at h; simp at h

def mid0 (l : List UInt8) : List UInt8 := Lib.trimLeftB (cut0 l) 48

theorem mid0_zero : ∀ (l : List UInt8), DigB l → decV l = 0 → mid0 l = []
  | [], _, _ => rfl
  | b :: t, hd, h => by
    rw [decV_cons] at h
    have hb := hd.head
    have h1 : b.toNat - 48 = 0 := by
      rcases Nat.eq_zero_or_pos (b.toNat - 48) with e | e
      · exact e
      · exfalso
        have := Nat.mul_pos e (Nat.pow_pos (n := t.length) (show 0 < 10 by omega))
        omega
    have h2 : b = 48 := u8_48 (by omega)
    have ih := mid0_zero t hd.tail (by omega)
    subst h2
    unfold mid0 at *
    rw [cut0_cons]
    by_cases h3 : cut0 t = []
    · rw [if_pos h3, if_pos rfl]; rfl
    · rw [if_neg h3]
      unfold Lib.trimLeftB at *
      rw [List.dropWhile_cons_of_pos (by simp)]
      exact ih

theorem mid0_form (neg : Bool) : ∀ (l : List UInt8) (e : Int), DigB l → decV l ≠ 0 → mid0 l ≠ [] ∧ DecT.mk 0 neg (mid0 l) (e + l.length - (cut0 l).length) = decA neg (decV l) e
  | [], _, _, h => absurd rfl h
  | b :: t, e, hd, h => by
    by_cases hb : b = 48
    · subst hb
      have hv : decV (48 :: t) = decV t := by rw [decV_cons]; simp
      rw [hv] at h
      have hc : cut0 t ≠ [] := fun hc => h (decV_cut0 t hc)
      obtain ⟨h1, h2⟩ := mid0_form neg t e hd.tail h
      have e1 : cut0 (48 :: t) = 48 :: cut0 t := by rw [cut0_cons, if_neg hc]
      have e2 : mid0 (48 :: t) = mid0 t := by
        unfold mid0
        rw [e1]
        unfold Lib.trimLeftB
        rw [List.dropWhile_cons_of_pos (by simp)]
      rw [e2, hv, e1]
      refine ⟨h1, ?_⟩
      rw [← h2]
      congr 1
      simp only [List.length_cons]
      omega
    · have h48 : byt (b :: t) 0 ≠ 48 := by rw [byt_cons0]; exact fun e => hb (u8_48 e)
      have ok : OkT (b :: t) := ⟨by simp, fun e => absurd e h48, hd⟩
      have hb2 := dd_back t.length (b :: t) (by simp) ok
      have hc : ∃ u, cut0 (b :: t) = b :: u := by
        rw [cut0_cons]
        by_cases h3 : cut0 t = []
        · rw [if_pos h3, if_neg hb]; exact ⟨_, rfl⟩
        · rw [if_neg h3]; exact ⟨_, rfl⟩
      obtain ⟨u, hu⟩ := hc
      have e2 : mid0 (b :: t) = cut0 (b :: t) := by
        unfold mid0
        rw [hu]
        unfold Lib.trimLeftB
        rw [List.dropWhile_cons_of_neg (by simpa using hb)]
      refine ⟨by rw [e2, hu]; simp, ?_⟩
      unfold decA tellDec
      rw [hb2, e2]

def ofD (neg : Bool) (l : List UInt8) (e : Int) : DecT := if mid0 l = [] then ⟨0, neg, [], 0⟩ else ⟨0, neg, mid0 l, e + l.length - (cut0 l).length⟩

theorem ofD_fin (neg : Bool) (l : List UInt8) (e : Int) (hd : DigB l) : ofD neg l e = finD neg (decV l) e := by
  unfold ofD finD
  by_cases h : decV l = 0
  · rw [if_pos (mid0_zero l hd h), if_pos h]
  · obtain ⟨h1, h2⟩ := mid0_form neg l e hd h
    rw [if_neg h1, if_neg h, h2]

noncomputable def tellF (neg : Bool) (N : Nat) (e : Int) : DecT × Int := open Classical in if May (finD neg N e) then (finD neg N e, 0) else (⟨0, false, [], 0⟩, 51)

theorem tellF_yes {neg : Bool} {N : Nat} {e : Int} (h : May (finD neg N e)) : tellF neg N e = (finD neg N e, 0) := by unfold tellF; rw [if_pos h]
theorem tellF_no {neg : Bool} {N : Nat} {e : Int} (h : ¬ May (finD neg N e)) : tellF neg N e = (⟨0, false, [], 0⟩, 51) := by unfold tellF; rw [if_neg h]

theorem may_zero (neg : Bool) : May ⟨0, neg, [], 0⟩ := .inl ⟨rfl, .inl ⟨rfl, rfl⟩⟩

structure Fin (d : DecT) : Prop where
  cls : d.cls = 0
  ne : d.dig ≠ []
  len : d.dig.length ≤ 1000
  lo : -2000 ≤ d.exp + d.dig.length
  hi : d.exp + d.dig.length ≤ 2000
  first : byt d.dig 0 ≠ 48
  last : byt d.dig (d.dig.length - 1) ≠ 48
  dig : DigB d.dig

theorem Fin.may {d : DecT} (h : Fin d) : May d := .inl ⟨by rw [h.cls]; rfl, .inr ⟨h.ne, h.len, h.lo, h.hi, h.first, h.last, h.dig⟩⟩

theorem may_cases {d : DecT} (h : May d) : (∃ neg, d = ⟨0, neg, [], 0⟩) ∨ Fin d ∨ (∃ neg, d = ⟨1, neg, [], 0⟩) ∨ d = ⟨2, false, [], 0⟩ := by
  obtain ⟨c, n, l, e⟩ := d
  rcases h with ⟨h1, h2⟩ | ⟨h1, h2, h3⟩ | ⟨h1, h2, h3, h4⟩
  · have hc : c = 0 := by simpa using h1
    subst hc
    rcases h2 with ⟨h2, h3⟩ | ⟨h2, h3, h4, h5, h6, h7, h8⟩
    · simp only at h2 h3
      subst h2 h3
      exact .inl ⟨n, rfl⟩
    · exact .inr (.inl ⟨rfl, h2, h3, h4, h5, h6, h7, h8⟩)
  · have hc : c = 1 := by simp only at h1; omega
    simp only at h2 h3
    subst hc h2 h3
    exact .inr (.inr (.inl ⟨n, rfl⟩))
  · have hc : c = 2 := by simp only at h1; omega
    simp only at h2 h3 h4
    subst hc h2 h3 h4
    exact .inr (.inr (.inr rfl))

theorem Fin.okT {d : DecT} (h : Fin d) : OkT d.dig := ⟨h.ne, fun e => absurd e h.first, h.dig⟩
theorem Fin.val {d : DecT} (h : Fin d) : decV d.dig ≠ 0 := decV_ne h.ne h.first h.dig

theorem Fin.back {d : DecT} (h : Fin d) : Lib.decDigits (decV d.dig) = d.dig := by
  rcases hl : d.dig.length with _ | n
  · exact absurd (List.length_eq_zero_iff.1 hl) h.ne
  · exact dd_back n _ hl h.okT

theorem cut0_last {l : List UInt8} (h : l ≠ []) (h2 : byt l (l.length - 1) ≠ 48) : cut0 l = l := by
  obtain ⟨a, x, rfl⟩ : ∃ a x, l = a ++ [x] := ⟨l.dropLast, l.getLast h, (List.dropLast_concat_getLast h).symm⟩
  refine cut0_snoc a (fun e => h2 ?_)
  rw [show (a ++ [x]).length - 1 = a.length by simp, byt_last, e]; rfl

theorem Fin.fin {d : DecT} (h : Fin d) : finD d.neg (decV d.dig) d.exp = d := by
  unfold finD decA tellDec
  rw [if_neg h.val, h.back, cut0_last h.ne h.last]
  obtain ⟨c, n, l, e⟩ := d
  have := h.cls
  simp only at this
  subst this
  simp only
  congr 1
  omega

def amt (l : List UInt8) (e : Int) : Nat := decV l * 10 ^ (e + 9000).toNat

end Go.Proofs.YtobloamnaemfnaaGreatDoor

namespace Go.Proofs.YtobloamnaemfnaaGreatDoor
open Go.RowKit

def cmpN (a b : Nat) : Int := if a < b then -1 else if b < a then 1 else 0

theorem cmpTo_V {b : Nat} {xs ys : List Nat} (hx : Ok b xs) (hy : Ok b ys) : ∀ n, cmpTo xs ys n = cmpN (V b (dg xs) n) (V b (dg ys) n)
  | 0 => rfl
  | n + 1 => by
    have ih := cmpTo_V hx hy n
    have h1 := V_lt (b := b) n (fun i _ => hx i)
    have h2 := V_lt (b := b) n (fun i _ => hy i)
    simp only [cmpTo, V]
    have key : ∀ (p q u v B : Nat), u < B → v < B → p < q → u + p * B < v + q * B := by
      intro p q u v B hu hv hpq
      have := Nat.mul_le_mul_right B (show p + 1 ≤ q from hpq)
      rw [Nat.add_mul, Nat.one_mul] at this
      omega
    show (if dg xs n < dg ys n then -1 else if dg ys n < dg xs n then 1 else cmpTo xs ys n) = _
    unfold cmpN
    rcases Nat.lt_trichotomy (dg xs n) (dg ys n) with h | h | h
    · have := key _ _ _ _ _ h1 h2 h
      rw [if_pos h, if_pos this]
    · rw [if_neg (by omega), if_neg (by omega), ih, h]
      unfold cmpN
      congr 1
      · simp
      · simp
    · have := key _ _ _ _ _ h2 h1 h
      rw [if_neg (by omega), if_pos h, if_neg (by omega), if_pos this]

theorem cmp_num (ao bo : Option Addr) (la ca lb cb : Nat) (xs ys : List Nat) (w : World) (hla : la ≤ 1000000000000) (hlb : lb ≤ 1000000000000) (hx : xs.length = la) (hy : ys.length = lb)
    (hax : At .u64 w ao xs) (hay : At .u64 w bo ys) (ox : Ok B64 xs) (oy : Ok B64 ys) (z : Int) (hz : cmpN (num B64 xs) (num B64 ys) = z) :
    Calls Tryz.prog 209 #[.slice ao la ca, .slice bo lb cb] w fun e w' => e = .returned (.int .i64 z) ∧ Below w.heap.size w w' := by
  have h := cmp_any ao bo la ca lb cb xs ys w hla hlb hx hy hax hay
  rw [cmpTo_V ox oy, num_eq (by omega), num_eq (by omega), hz] at h
  exact h

end Go.Proofs.YtobloamnaemfnaaGreatDoor

namespace Go.Proofs.YtobloamnaemfnaaGreatDoor

def leavesB (m : Nat) (neg odd : Bool) (half : Int) : Bool :=
  match m with
  | 0 => !neg
  | 1 => neg
  | 2 => false
  | 3 => true
  | 4 => decide (0 < half) || (decide (half = 0) && odd)
  | 5 => decide (0 < half)
  | 6 => decide (0 ≤ half)
  | _ => decide (0 < half) || (decide (half = 0) && !odd)

def rndN (A U : Nat) (neg : Bool) (m : Nat) : Nat := A / U + (if A % U = 0 then 0 else if leavesB m neg (decide (A / U % 2 = 1)) (cmpN (A % U + A % U) U) then 1 else 0)

theorem rndN_exact {A U : Nat} (neg : Bool) (m : Nat) (h : A % U = 0) : rndN A U neg m = A / U := by
  unfold rndN
  rw [if_pos h, Nat.add_zero]

noncomputable def rndD (d : DecT) (N : Nat) (x : Int) (m : Nat) : DecT × Int :=
  if d.dig = [] then (d, 0) else tellF d.neg (rndN (decV d.dig * 10 ^ (d.exp - min d.exp x).toNat) (N * 10 ^ (x - min d.exp x).toNat) d.neg m * N) x

theorem finD_tens (neg : Bool) (N k : Nat) (e : Int) : finD neg (N * 10 ^ k) e = finD neg N (e + k) := by
  unfold finD
  have hk : 0 < 10 ^ k := Nat.pow_pos (by omega)
  by_cases h : N = 0
  · subst h; rw [Nat.zero_mul, if_pos rfl, if_pos rfl]
  · rw [if_neg h, if_neg (Nat.mul_ne_zero h (by omega)), decA_tens h]

theorem finD_same (neg : Bool) {K D a b : Nat} {x y : Int} (h : K * 10 ^ a = D * 10 ^ b) (hxy : x - (a : Int) = y - (b : Int)) : finD neg K x = finD neg D y := by
  have h1 := finD_tens neg K a (x - a)
  have h2 := finD_tens neg D b (y - b)
  rw [show x - (a : Int) + a = x by omega] at h1
  rw [show y - (b : Int) + b = y by omega] at h2
  rw [← h1, ← h2, h, hxy]

theorem rndD_zero {d : DecT} (h : d.dig = []) (N : Nat) (x : Int) (m : Nat) : rndD d N x m = (d, 0) := by unfold rndD; rw [if_pos h]

theorem rndD_fin {d : DecT} (h : d.dig ≠ []) (N : Nat) (x : Int) (m : Nat) : rndD d N x m = tellF d.neg (rndN (decV d.dig * 10 ^ (d.exp - min d.exp x).toNat) (N * 10 ^ (x - min d.exp x).toNat) d.neg m * N) x := by unfold rndD; rw [if_neg h]

theorem rndD_exact {d : DecT} (hd : Fin d) {N : Nat} {x : Int} (m : Nat) (h : decV d.dig * 10 ^ (d.exp - min d.exp x).toNat % (N * 10 ^ (x - min d.exp x).toNat) = 0) : rndD d N x m = (d, 0) := by
  rw [rndD_fin hd.ne, rndN_exact _ _ h]
  have e : finD d.neg (decV d.dig * 10 ^ (d.exp - min d.exp x).toNat / (N * 10 ^ (x - min d.exp x).toNat) * N) x = d := by
    have := Nat.div_mul_cancel (Nat.dvd_of_mod_eq_zero h)
    refine Eq.trans (finD_same d.neg (a := (x - min d.exp x).toNat) (b := (d.exp - min d.exp x).toNat) (D := decV d.dig) (y := d.exp) ?_ (by omega)) hd.fin
    rw [Nat.mul_assoc]; exact this
  have hm : May (finD d.neg (decV d.dig * 10 ^ (d.exp - min d.exp x).toNat / (N * 10 ^ (x - min d.exp x).toNat) * N) x) := by rw [e]; exact hd.may
  rw [tellF_yes hm, e]

end Go.Proofs.YtobloamnaemfnaaGreatDoor

namespace Go.Proofs.YtobloamnaemfnaaGreatDoor

theorem V_set (b : Nat) (f g : Nat → Nat) (i v : Nat) (hg : ∀ j, g j = if j = i then v else f j) : ∀ n, i < n → V b g n + f i * b ^ i = V b f n + v * b ^ i
  | 0, h => absurd h (by omega)
  | n + 1, h => by
    simp only [V]
    by_cases e : i = n
    · have : V b g n = V b f n := V_congr n (fun j hj => by rw [hg, if_neg (by omega)])
      rw [this, hg n, if_pos e.symm, e]; omega
    · have ih := V_set b f g i v hg n (by omega)
      rw [hg n, if_neg (by omega)]; omega

theorem num_set (b : Nat) (xs : List Nat) (i v : Nat) (hi : i < xs.length) : num b (xs.set i v) + dg xs i * b ^ i = num b xs + v * b ^ i := by
  unfold num
  rw [List.length_set]
  exact V_set b (dg xs) (dg (xs.set i v)) i v (fun j => dg_set xs i v j hi) xs.length hi

theorem Ok.set {b : Nat} {xs : List Nat} (h : Ok b xs) {i v : Nat} (hi : i < xs.length) (hv : v < b) : Ok b (xs.set i v) := by
  intro j
  rw [dg_set _ _ _ _ hi]
  split
  · exact hv
  · exact h j

theorem num_replicate (b n : Nat) : num b (List.replicate n 0) = 0 := by
  unfold num
  have : ∀ m, V b (dg (List.replicate n 0)) m = 0 := by
    intro m
    induction m with
    | zero => rfl
    | succ m ih => simp only [V]; rw [ih, dg_replicate]; simp
  exact this _

theorem Ok.replicate {b : Nat} (hb : 0 < b) (n : Nat) : Ok b (List.replicate n 0) := fun i => by rw [dg_replicate]; exact hb

theorem low_eq {n s : Nat} (hs : s ≤ n) (x : Nat) : x * 2 ^ s % 2 ^ n = x % 2 ^ (n - s) * 2 ^ s := by
  rw [show (2 : Nat) ^ n = 2 ^ (n - s) * 2 ^ s by rw [← Nat.pow_add]; congr 1; omega]
  exact Nat.mul_mod_mul_right _ _ _

theorem high_eq {n s : Nat} (hs : s ≤ n) (x : Nat) : x * 2 ^ s / 2 ^ n = x / 2 ^ (n - s) := by
  rw [show (2 : Nat) ^ n = 2 ^ (n - s) * 2 ^ s by rw [← Nat.pow_add]; congr 1; omega]
  exact Nat.mul_div_mul_right _ _ (Nat.two_pow_pos s)

theorem high_lt {n s : Nat} (hs : s ≤ n) {x : Nat} (hx : x < 2 ^ n) : x / 2 ^ (n - s) < 2 ^ s := by
  rw [Nat.div_lt_iff_lt_mul (Nat.two_pow_pos _), ← Nat.pow_add, show s + (n - s) = n by omega]
  exact hx

theorem or_low {s y a : Nat} (hy : y < 2 ^ s) : y ||| a * 2 ^ s = y + a * 2 ^ s := by
  rw [Nat.or_comm, Nat.mul_comm, ← Nat.two_pow_add_eq_or_of_lt hy]; omega

theorem low_room {n s y x : Nat} (hs : s ≤ n) (hy : y < 2 ^ s) : y + x * 2 ^ s % 2 ^ n < 2 ^ n := by
  rw [low_eq hs]
  have h1 : x % 2 ^ (n - s) + 1 ≤ 2 ^ (n - s) := Nat.mod_lt _ (Nat.two_pow_pos _)
  have h2 := Nat.mul_le_mul_right (2 ^ s) h1
  rw [← Nat.pow_add, show n - s + s = n by omega, Nat.add_mul, Nat.one_mul] at h2
  omega

theorem up_step {n s : Nat} (hs : s ≤ n) {r : List Nat} {i x : Nat} (ho : Ok (2 ^ n) r) (hi : i + 1 < r.length) (hy : dg r i < 2 ^ s) (h0 : dg r (i + 1) = 0) (hx : x < 2 ^ n) :
    Ok (2 ^ n) ((r.set i (dg r i ||| x * 2 ^ s % 2 ^ n)).set (i + 1) (x / 2 ^ (n - s))) ∧
    num (2 ^ n) ((r.set i (dg r i ||| x * 2 ^ s % 2 ^ n)).set (i + 1) (x / 2 ^ (n - s))) = num (2 ^ n) r + x * 2 ^ s * (2 ^ n) ^ i := by
  have hor : dg r i ||| x * 2 ^ s % 2 ^ n = dg r i + x * 2 ^ s % 2 ^ n := by rw [low_eq hs]; exact or_low hy
  have hroom := low_room (x := x) hs hy
  rw [hor]
  have ho' := ho.set (i := i) (v := dg r i + x * 2 ^ s % 2 ^ n) (by omega) hroom
  have hhi : x / 2 ^ (n - s) < 2 ^ n := Nat.lt_of_le_of_lt (Nat.div_le_self _ _) hx
  refine ⟨ho'.set (by simpa using hi) hhi, ?_⟩
  have e1 := num_set (2 ^ n) r i (dg r i + x * 2 ^ s % 2 ^ n) (by omega)
  have e2 := num_set (2 ^ n) (r.set i (dg r i + x * 2 ^ s % 2 ^ n)) (i + 1) (x / 2 ^ (n - s)) (by simpa using hi)
  rw [dg_set _ _ _ _ (by omega), if_neg (by omega), h0] at e2
  have e3 := Nat.div_add_mod (x * 2 ^ s) (2 ^ n)
  rw [high_eq hs] at e3
  generalize x * 2 ^ s % 2 ^ n = lo at *
  generalize x / 2 ^ (n - s) = h at *
  rw [← e3, Nat.pow_succ] at *
  generalize (2 ^ n) ^ i = p at *
  generalize 2 ^ n = B at *
  rw [Nat.add_mul] at *
  have : h * (p * B) = B * h * p := by rw [Nat.mul_comm p B, ← Nat.mul_assoc, Nat.mul_comm h B]
  omega

end Go.Proofs.YtobloamnaemfnaaGreatDoor

namespace Go.Proofs.YtobloamnaemfnaaGreatDoor

theorem V_split (b : Nat) (f : Nat → Nat) (m : Nat) : ∀ n, V b f (m + n) = V b f m + b ^ m * V b (fun i => f (m + i)) n
  | 0 => by simp [V]
  | n + 1 => by
    rw [← Nat.add_assoc]
    simp only [V]
    rw [V_split b f m n, Nat.pow_add, Nat.mul_add, Nat.mul_left_comm, Nat.add_assoc]

def downD (n s : Nat) (y : Nat → Nat) (i : Nat) : Nat := y i / 2 ^ s + y (i + 1) % 2 ^ s * 2 ^ (n - s)

theorem downD_lt {n s : Nat} (hs : s ≤ n) {y : Nat → Nat} (hy : ∀ i, y i < 2 ^ n) (i : Nat) : downD n s y i < 2 ^ n := by
  unfold downD
  have h1 := high_lt (n := n) (s := n - s) (by omega) (hy i)
  rw [show n - (n - s) = s by omega] at h1
  have h2 : y (i + 1) % 2 ^ s + 1 ≤ 2 ^ s := Nat.mod_lt _ (Nat.two_pow_pos _)
  have h3 := Nat.mul_le_mul_right (2 ^ (n - s)) h2
  rw [← Nat.pow_add, show s + (n - s) = n by omega, Nat.add_mul, Nat.one_mul] at h3
  omega

theorem down_sum {n s : Nat} (hs : s ≤ n) (y : Nat → Nat) : ∀ m, V (2 ^ n) y m + y m % 2 ^ s * (2 ^ n) ^ m = 2 ^ s * V (2 ^ n) (downD n s y) m + y 0 % 2 ^ s
  | 0 => by simp [V]
  | m + 1 => by
    have ih := down_sum hs y m
    simp only [V, downD]
    have e1 := Nat.div_add_mod (y m) (2 ^ s)
    have e2 : 2 ^ s * 2 ^ (n - s) = 2 ^ n := by rw [← Nat.pow_add]; congr 1; omega
    have e3 : y m * (2 ^ n) ^ m = 2 ^ s * (y m / 2 ^ s) * (2 ^ n) ^ m + y m % 2 ^ s * (2 ^ n) ^ m := by rw [← Nat.add_mul, e1]
    have e4 : 2 ^ s * (V (2 ^ n) (downD n s y) m + (y m / 2 ^ s + y (m + 1) % 2 ^ s * 2 ^ (n - s)) * (2 ^ n) ^ m) =
        2 ^ s * V (2 ^ n) (downD n s y) m + (2 ^ s * (y m / 2 ^ s) * (2 ^ n) ^ m + y (m + 1) % 2 ^ s * (2 ^ n) ^ (m + 1)) := by
      rw [Nat.mul_add, Nat.add_mul, Nat.mul_add, Nat.pow_succ, ← Nat.mul_assoc (2 ^ s)]
      congr 2
      rw [← Nat.mul_assoc, Nat.mul_left_comm (2 ^ s), e2, Nat.mul_assoc, Nat.mul_comm (2 ^ n)]
    show V (2 ^ n) y m + y m * (2 ^ n) ^ m + y (m + 1) % 2 ^ s * (2 ^ n) ^ (m + 1) = 2 ^ s * (V (2 ^ n) (downD n s y) m + (y m / 2 ^ s + y (m + 1) % 2 ^ s * 2 ^ (n - s)) * (2 ^ n) ^ m) + y 0 % 2 ^ s
    rw [e4]
    omega

theorem down_val {n s m : Nat} (hs : s ≤ n) (y : Nat → Nat) (h0 : y m = 0) : V (2 ^ n) (downD n s y) m = V (2 ^ n) y m / 2 ^ s := by
  have h := down_sum hs y m
  rw [h0, Nat.zero_mod, Nat.zero_mul, Nat.add_zero] at h
  rw [h, Nat.mul_add_div (Nat.two_pow_pos s), Nat.div_eq_of_lt (Nat.mod_lt _ (Nat.two_pow_pos s)), Nat.add_zero]

theorem down_num {n s lm : Nat} (hs : s ≤ n) {xs r : List Nat} (ox : Ok (2 ^ n) xs) (hl : lm ≤ xs.length) (hr : r.length = xs.length - lm) (hd : ∀ j, j < r.length → dg r j = downD n s (fun i => dg xs (lm + i)) j) :
    Ok (2 ^ n) r ∧ num (2 ^ n) r = num (2 ^ n) xs / (2 ^ n) ^ lm / 2 ^ s := by
  refine ⟨?_, ?_⟩
  · intro j
    by_cases h : j < r.length
    · rw [hd j h]; exact downD_lt hs (fun i => ox _) j
    · rw [dg_out (by omega)]; exact Nat.two_pow_pos _
  · have e := V_split (2 ^ n) (dg xs) lm (xs.length - lm)
    rw [show lm + (xs.length - lm) = xs.length by omega] at e
    have hp : 0 < (2 ^ n) ^ lm := Nat.pow_pos (Nat.two_pow_pos n)
    have e2 : num (2 ^ n) xs / (2 ^ n) ^ lm = V (2 ^ n) (fun i => dg xs (lm + i)) (xs.length - lm) := by
      unfold num
      rw [e, Nat.add_mul_div_left _ _ hp, Nat.div_eq_of_lt (V_lt lm (fun i _ => ox i)), Nat.zero_add]
    rw [e2, ← down_val hs (fun i => dg xs (lm + i)) (show dg xs (lm + (xs.length - lm)) = 0 from dg_out (by omega))]
    unfold num
    rw [hr]
    exact V_congr _ (fun i hi => hd i (by omega))

theorem or_down {n s a b : Nat} (hs : s ≤ n) (ha : a < 2 ^ n) : a / 2 ^ s ||| b * 2 ^ (n - s) % 2 ^ n = a / 2 ^ s + b % 2 ^ s * 2 ^ (n - s) := by
  rw [low_eq (by omega), show n - (n - s) = s by omega]
  have h1 := high_lt (n := n) (s := n - s) (by omega) ha
  rw [show n - (n - s) = s by omega] at h1
  exact or_low h1

end Go.Proofs.YtobloamnaemfnaaGreatDoor

namespace Go.Proofs.YtobloamnaemfnaaGreatDoor

def mulC (b : Nat) (f y : Nat → Nat) (n : Nat) : Nat → Nat
  | 0 => 0
  | i + 1 => (f i + y i * n + mulC b f y n i) / b

def mulD (b : Nat) (f y : Nat → Nat) (n i : Nat) : Nat := (f i + y i * n + mulC b f y n i) % b

theorem mul_bound {b x y n c : Nat} (hx : x < b) (hy : y < b) (hn : n < b) (hc : c < b) : x + y * n + c < b * b := by
  obtain ⟨a, rfl⟩ : ∃ a, b = a + 1 := ⟨b - 1, by omega⟩
  have h1 : y * n ≤ a * a := Nat.mul_le_mul (by omega) (by omega)
  have h2 : (a + 1) * (a + 1) = a * a + a + a + 1 := by rw [Nat.add_mul, Nat.mul_add]; omega
  omega

theorem mulC_lt {b : Nat} {f y : Nat → Nat} {n : Nat} (hb : 0 < b) (hf : ∀ i, f i < b) (hy : ∀ i, y i < b) (hn : n < b) : ∀ i, mulC b f y n i < b
  | 0 => hb
  | i + 1 => by
    have h := mulC_lt hb hf hy hn i
    simp only [mulC]
    exact (Nat.div_lt_iff_lt_mul hb).2 (mul_bound (hf i) (hy i) hn h)

theorem mulD_lt {b : Nat} (hb : 0 < b) (f y : Nat → Nat) (n i : Nat) : mulD b f y n i < b := Nat.mod_lt _ hb

theorem mulD_eq (b : Nat) (f y : Nat → Nat) (n i : Nat) : mulD b f y n i + mulC b f y n (i + 1) * b = f i + y i * n + mulC b f y n i := by
  simp only [mulD, mulC]
  have := Nat.div_add_mod (f i + y i * n + mulC b f y n i) b
  rw [Nat.mul_comm b] at this; omega

theorem mul_step {b : Nat} {r0 r : List Nat} {y : Nat → Nat} {n off i : Nat} (hi : off + i < r.length) (hd : dg r (off + i) = dg r0 (off + i))
    (h : num b r + mulC b (fun j => dg r0 (off + j)) y n i * b ^ (off + i) = num b r0 + V b y i * n * b ^ off) :
    num b (r.set (off + i) (mulD b (fun j => dg r0 (off + j)) y n i)) + mulC b (fun j => dg r0 (off + j)) y n (i + 1) * b ^ (off + (i + 1)) = num b r0 + V b y (i + 1) * n * b ^ off := by
  have e1 := num_set b r (off + i) (mulD b (fun j => dg r0 (off + j)) y n i) hi
  have e2 := mulD_eq b (fun j => dg r0 (off + j)) y n i
  rw [hd] at e1
  simp only [V]
  generalize mulC b (fun j => dg r0 (off + j)) y n (i + 1) = c' at *
  generalize mulC b (fun j => dg r0 (off + j)) y n i = c at *
  generalize mulD b (fun j => dg r0 (off + j)) y n i = d at *
  generalize dg r0 (off + i) = f at *
  have e3 : (d + c' * b) * b ^ (off + i) = (f + y i * n + c) * b ^ (off + i) := by rw [e2]
  rw [Nat.add_mul, Nat.add_mul, Nat.add_mul] at e3
  have e4 : c' * b ^ (off + (i + 1)) = c' * b * b ^ (off + i) := by rw [← Nat.add_assoc, Nat.pow_succ, Nat.mul_comm (b ^ (off + i)), Nat.mul_assoc]
  have e5 : (V b y i + y i * b ^ i) * n * b ^ off = V b y i * n * b ^ off + y i * n * b ^ (off + i) := by
    rw [Nat.add_mul, Nat.add_mul, Nat.pow_add]
    congr 1
    rw [Nat.mul_assoc, Nat.mul_assoc, Nat.mul_assoc, Nat.mul_comm (b ^ i), Nat.mul_assoc]
  rw [e4, e5]
  omega

end Go.Proofs.YtobloamnaemfnaaGreatDoor

namespace Go.Proofs.YtobloamnaemfnaaGreatDoor
open Go.RowKit

theorem call_add64_0 (x y : Nat) (w : World) :
    (callFunc 201 #[.int .u64 (x : Int), .int .u64 (y : Int), .int .u64 0]).run Tryz.prog w =
      .ok (.value (.tuple #[.int .u64 (((x + y) % B64 : Nat) : Int), .int .u64 (((x + y) / B64 : Nat) : Int)])) w := by
  have := call_add64 x y 0 (by omega) w
  simpa using this

set_option maxHeartbeats 2000000 in
theorem times1 (i x y n c m cp g off Bn Bc Bs hi lo l2 o2 s o3 : Nat) (o : Int) (w : World) (hil : i < m) (_hm : m ≤ 1000000000000)
    (hmul : ∀ w, Calls Tryz.prog 200 #[.int .u64 (y : Int), .int .u64 (n : Int)] w fun e w' => e = .returned (.tuple #[.int .u64 (hi : Int), .int .u64 (lo : Int)]) ∧ w = w')
    (hrun1 : ∀ w, (callFunc 201 #[.int .u64 (lo : Int), .int .u64 (c : Int), .int .u64 0]).run Tryz.prog w = .ok (.value (.tuple #[.int .u64 (l2 : Int), .int .u64 (o2 : Int)])) w)
    (hrun2 : ∀ w, (callFunc 201 #[.int .u64 (x : Int), .int .u64 (l2 : Int), .int .u64 0]).run Tryz.prog w = .ok (.value (.tuple #[.int .u64 (s : Int), .int .u64 (o3 : Int)])) w)
    (hs : w.cell? ⟨Bs, 0, none⟩ = some (.slice (some ⟨g, off, none⟩) m cp)) (hn : w.cell? ⟨Bn, 0, none⟩ = some (.int .u64 (n : Int))) (hc : w.cell? ⟨Bc, 0, none⟩ = some (.int .u64 (c : Int))) (hcf : w.frozen? ⟨Bc, 0, none⟩ = false)
    (hg : w.cell? ⟨g, off + i, none⟩ = some (.int .u64 o)) (hgf : w.frozen? ⟨g, off + i, none⟩ = false) (h1 : g ≠ Bc) (h2 : g ≠ Bs) (h3 : Bc ≠ Bs) (h4 : g ≠ Bn) (h5 : Bc ≠ Bn) (h6 : Bs ≠ Bn)
    (c' : Nat) (hc' : IntKind.u64.wrap (IntKind.u64.wrap ((hi : Int) + (o2 : Int)) + (o3 : Int)) = (c' : Int)) :
    Calls Tryz.prog 199 #[.int .i64 i, .int .u64 (x : Int), .int .u64 (y : Int), .pointer (some ⟨Bn, 0, none⟩), .pointer (some ⟨Bc, 0, none⟩), .pointer (some ⟨Bs, 0, none⟩)] w fun e w' =>
      e = .returned (.tuple #[]) ∧ Two w w' g (off + i) s Bc c' := by
  have hi' : (i : Int) < (m : Int) := by omega
  have HM : Hid (∀ w, Calls Tryz.prog 200 #[.int .u64 (y : Int), .int .u64 (n : Int)] w fun e w' => e = .returned (.tuple #[.int .u64 (hi : Int), .int .u64 (lo : Int)]) ∧ w = w') := hmul
  have HC : Hid (IntKind.u64.wrap (IntKind.u64.wrap ((hi : Int) + (o2 : Int)) + (o3 : Int)) = (c' : Int)) := hc'
  clear hmul hc'
  go_enter Tryz.func199, Tryz.ntmps199
  go_wp2_with fail
  refine (HM.out _).mono ?_
  rintro e w' ⟨rfl, rfl⟩
  go_wp2
  go_region
  all_goals
    go_wp2
    go_end0
    refine ⟨rfl, ?_⟩
    rw [HC.out]
    exact ⟨rfl, rfl, rfl, rfl⟩


theorem times_math {x y n c : Nat} (hx : x < B64) (hy : y < B64) (hn : n < B64) (hc : c < B64) :
    (x + (y * n % B64 + c) % B64) % B64 = (x + y * n + c) % B64 ∧
    IntKind.u64.wrap (IntKind.u64.wrap (((y * n / B64 : Nat) : Int) + (((y * n % B64 + c) / B64 : Nat) : Int)) + (((x + (y * n % B64 + c) % B64) / B64 : Nat) : Int)) = (((x + y * n + c) / B64 : Nat) : Int) := by
  have hb : 0 < B64 := by decide
  have hB : B64 = 18446744073709551616 := rfl
  have hlt := mul_bound hx hy hn hc
  have e1 := Nat.div_add_mod (y * n) B64
  have e2 := Nat.div_add_mod (y * n % B64 + c) B64
  have e3 := Nat.div_add_mod (x + (y * n % B64 + c) % B64) B64
  have hs := Nat.mod_lt (x + (y * n % B64 + c) % B64) hb
  have hdlt : (x + y * n + c) / B64 < B64 := (Nat.div_lt_iff_lt_mul hb).2 hlt
  generalize y * n = p at *
  generalize p / B64 = hi at *
  generalize p % B64 = lo at *
  generalize (lo + c) / B64 = o2 at *
  generalize (lo + c) % B64 = l2 at *
  generalize (x + l2) / B64 = o3 at *
  generalize (x + l2) % B64 = s at *
  have e4 : x + p + c = s + (hi + o2 + o3) * B64 := by
    rw [Nat.add_mul, Nat.add_mul, Nat.mul_comm hi, Nat.mul_comm o2, Nat.mul_comm o3]; omega
  have e5 : (x + p + c) / B64 = hi + o2 + o3 := by rw [e4, Nat.add_mul_div_right _ _ hb, Nat.div_eq_of_lt hs, Nat.zero_add]
  have e6 : (x + p + c) % B64 = s := by rw [e4, Nat.add_mul_mod_self_right, Nat.mod_eq_of_lt hs]
  rw [e5] at hdlt ⊢
  refine ⟨e6.symm, ?_⟩
  rw [natAdd, wrapLt _ (by omega), natAdd, wrapLt _ (by omega)]

theorem enters199 : ∀ args w, (callFunc 199 args).run Tryz.prog w = .ok (.enter 199 args) w := by intro args w; kernel_rfl

structure TimesInv (w : World) (H g off m cp : Nat) (r0 : List Nat) (y : Nat → Nat) (n i : Nat) (wr : World) : Prop where
  gr : w.grownBy wr (some g)
  row : ∃ r, Row .u64 134 wr g r ∧ r.length = r0.length ∧ Ok B64 r ∧ (∀ j, off + i ≤ j → dg r j = dg r0 j) ∧
    num B64 r + mulC B64 (fun j => dg r0 (off + j)) y n i * B64 ^ (off + i) = num B64 r0 + V B64 y i * n * B64 ^ off
  boxS : Box wr H (.slice (some ⟨g, off, none⟩) m cp) 118
  boxN : Box wr (H + 1) (.int .u64 (n : Int)) 134
  car : Box wr (H + 2) (.int .u64 ((mulC B64 (fun j => dg r0 (off + j)) y n i : Nat) : Int)) 134

theorem grownBy_like {w wr wr' : World} {row : Option Nat} (h : w.grownBy wr row) (hl : Like wr' wr) : w.grownBy wr' row :=
  ⟨hl.2.1.trans h.os, hl.2.2.1.trans h.tape, hl.2.2.2.trans h.output, by rw [hl.1]; exact h.size, fun k hk hne => by rw [hl.1]; exact h.block k hk hne⟩

theorem grownBy_set {w wr : World} {g : Nat} (h : w.grownBy wr (some g)) (a : Addr) (u : Value) (ha : a.block = g ∨ w.heap.size ≤ a.block) : w.grownBy (wr.setCell a u) (some g) :=
  ⟨h.os, h.tape, h.output, by simpa [World.setCell] using h.size, fun k hk hne => by
    rw [Below.heap_setCell _ _ _ _ (by rintro rfl; rcases ha with ha | ha; exact hne (by rw [ha]); omega)]
    exact h.block k hk hne⟩

theorem TimesInv.step {w wr wr' : World} {H g off m cp n i : Nat} {r0 : List Nat} {y : Nat → Nat} (h : TimesInv w H g off m cp r0 y n i wr) (hg : g < H) (hH : w.heap.size ≤ H) (hi : off + i < r0.length)
    (ht : Two wr wr' g (off + i) (mulD B64 (fun j => dg r0 (off + j)) y n i) (H + 2) (mulC B64 (fun j => dg r0 (off + j)) y n (i + 1))) : TimesInv w H g off m cp r0 y n (i + 1) wr' := by
  obtain ⟨r, hr, hl, ho, hd, hn⟩ := h.row
  refine ⟨?_, ⟨_, ((hr.set (off + i) _).other (by show g ≠ H + 2; omega) _).alike ht, by simp [hl], ho.set (by omega) (mulD_lt (by decide) _ _ _ _), ?_, ?_⟩, ?_, ?_, ?_⟩
  · exact grownBy_like (grownBy_set (grownBy_set h.gr _ _ (.inl rfl)) _ _ (.inr (by show _ ≤ H + 2; omega))) ht
  · intro j hj
    rw [dg_set _ _ _ _ (by omega), if_neg (by omega)]
    exact hd j (by omega)
  · exact mul_step (by omega) (hd _ (by omega)) hn
  · exact ((h.boxS.other (by show H ≠ g; omega) _).other (by show H ≠ H + 2; omega) _).alike ht
  · exact ((h.boxN.other (by show H + 1 ≠ g; omega) _).other (by show H + 1 ≠ H + 2; omega) _).alike ht
  · exact ((h.car.other (by show H + 2 ≠ g; omega) _).set _).alike ht

def TimesPost (w : World) (g : Nat) (r0 : List Nat) (add last : Nat) (e : Ending) (w' : World) : Prop :=
  e = .returned (.tuple #[]) ∧ w.grownBy w' (some g) ∧ ∃ r, Row .u64 134 w' g r ∧ r.length = r0.length ∧ Ok B64 r ∧ (∀ j, last ≤ j → dg r j = dg r0 j) ∧ num B64 r = num B64 r0 + add

set_option maxHeartbeats 2000000 in
theorem addTimes_any (g off p cp cb n : Nat) (bo : Option Addr) (r0 ys : List Nat) (w : World) (hp : p ≤ 100000000000) (hy : ys.length = p) (hay : At .u64 w bo ys) (oy : Ok B64 ys) (hn : n < B64)
    (hr : Row .u64 134 w g r0) (o0 : Ok B64 r0) (hoff : off + p < r0.length) (hz : dg r0 (off + p) = 0) (hng : ∀ b o, ys ≠ [] → bo = some ⟨b, o, none⟩ → b ≠ g) :
    Calls Tryz.prog 160 #[.slice (some ⟨g, off, none⟩) (p + 1) cp, .slice bo p cb, .int .u64 (n : Int)] w (TimesPost w g r0 (num B64 ys * n * B64 ^ off) (off + p + 1)) := by
  have hb : 0 < B64 := by decide
  have hglt := hr.lt
  have f0 : ∀ i, (fun j => dg r0 (off + j)) i < B64 := fun i => o0 _
  go_enter Tryz.func160, Tryz.ntmps160
  go_wp2_with fail
  refine (each_any _ bo (p + 1) cp p cb 199 _ (fun i => dg r0 (off + i)) (dg ys) (fun i wr => TimesInv w w.heap.size g off (p + 1) cp r0 (dg ys) n i wr) _ (by omega) (by omega) enters199 ?_ ?_ ?_ ?_).mono ?_
  · intro i wr hi h
    obtain ⟨r, hr, hl, _, hd, _⟩ := h.row
    refine ⟨fun _ => ⟨g, off, rfl, ?_⟩, fun h => by omega⟩
    rw [hr.cell _ (by omega), hd _ (by omega)]
  · intro i wr hi h
    subst hy
    refine ⟨fun hil => ?_, fun h => dg_out h⟩
    rcases hay with rfl | ⟨b, o, h1, h2, h3⟩
    · simp at hil
    · refine ⟨b, o, h1, ?_⟩
      rw [World.cell?_of_block (w := w) (h.gr.block b h2 (by simp; exact hng b o (by intro e; rw [e] at hil; simp at hil) h1))]
      exact h3 i hil
  · intro i wr hi h
    have hi' : i < p + 1 := by omega
    obtain ⟨r, hr', hl, _, hd, _⟩ := h.row
    have tm := times_math (x := dg r0 (off + i)) (y := dg ys i) (n := n) (c := mulC B64 (fun j => dg r0 (off + j)) (dg ys) n i) (o0 _) (oy _) hn (mulC_lt hb f0 oy hn i)
    refine (times1 i _ _ n (mulC B64 (fun j => dg r0 (off + j)) (dg ys) n i) (p + 1) cp g off (w.heap.size + 1) (w.heap.size + 2) w.heap.size _ _ _ _ (mulD B64 (fun j => dg r0 (off + j)) (dg ys) n i) _ _ wr hi' (by omega)
      (fun w => mul64 _ _ w (oy i) hn) (fun w => call_add64_0 _ _ w) ?_ h.boxS.cell h.boxN.cell h.car.cell h.car.free (hr'.cell _ (by omega)) (hr'.free _) (by omega) (by omega) (by omega) (by omega) (by omega) (by omega)
      (mulC B64 (fun j => dg r0 (off + j)) (dg ys) n (i + 1)) tm.2).mono ?_
    · intro w
      have := call_add64_0 (dg r0 (off + i)) ((dg ys i * n % B64 + mulC B64 (fun j => dg r0 (off + j)) (dg ys) n i) % B64) w
      rw [tm.1] at this
      exact this
    · rintro e w' ⟨rfl, ht⟩
      exact ⟨rfl, h.step hglt (Nat.le_refl _) (by omega) ht⟩
  · refine ⟨?_, ⟨r0, ((hr.alloc _).alloc _).alloc _, rfl, o0, fun _ _ => rfl, by simp [mulC, V]⟩, ((Box.new _ _ _).alloc _).alloc _, ?_, ?_⟩
    · refine ⟨rfl, rfl, rfl, by simp; omega, fun k hk _ => ?_⟩
      rw [Below.heap_alloc _ _ _ (by simp; omega), Below.heap_alloc _ _ _ (by simp; omega), Below.heap_alloc _ _ _ hk]
    · have := (Box.new (w.alloc (Obj.cells #[Value.slice (some { block := g, off := off }) (p + 1) cp] 118)) (.int .u64 (n : Int)) 134).alloc (Obj.cells #[Value.int IntKind.u64 0] 134)
      simpa using this
    · have := Box.new ((w.alloc (Obj.cells #[Value.slice (some { block := g, off := off }) (p + 1) cp] 118)).alloc (Obj.cells #[Value.int IntKind.u64 (n : Int)] 134)) (.int .u64 0) 134
      simpa [mulC] using this
  · rintro e w2 ⟨rfl, h⟩
    go_wp2
    go_end0
    rw [show max (p + 1) p = p + 1 by omega] at h
    obtain ⟨r, hr2, hl, ho, hd, hnum⟩ := h.row
    refine ⟨rfl, h.gr, r, hr2, hl, ho, fun j hj => hd j (by omega), ?_⟩
    have hc0 : mulC B64 (fun j => dg r0 (off + j)) (dg ys) n (p + 1) = 0 := by
      simp only [mulC]
      rw [hz, dg_out (by omega), Nat.zero_mul, Nat.zero_add]
      exact Nat.div_eq_of_lt (mulC_lt hb f0 oy hn p)
    rw [hc0, num_eq (by omega)] at hnum
    omega

end Go.Proofs.YtobloamnaemfnaaGreatDoor

namespace Go.Proofs.YtobloamnaemfnaaGreatDoor
open Go.RowKit

theorem back_step {b : Nat} {r0 r : List Nat} {y : Nat → Nat} {off i : Nat} (hi : off + i < r.length) (hd : dg r (off + i) = dg r0 (off + i))
    (h : num b r + addC b (fun j => dg r0 (off + j)) y i * b ^ (off + i) = num b r0 + V b y i * b ^ off) :
    num b (r.set (off + i) (addD b (fun j => dg r0 (off + j)) y i)) + addC b (fun j => dg r0 (off + j)) y (i + 1) * b ^ (off + (i + 1)) = num b r0 + V b y (i + 1) * b ^ off := by
  have e1 := num_set b r (off + i) (addD b (fun j => dg r0 (off + j)) y i) hi
  have e2 : addD b (fun j => dg r0 (off + j)) y i + addC b (fun j => dg r0 (off + j)) y (i + 1) * b = dg r0 (off + i) + y i + addC b (fun j => dg r0 (off + j)) y i := by
    simp only [addD, addC]
    have := Nat.div_add_mod (dg r0 (off + i) + y i + addC b (fun j => dg r0 (off + j)) y i) b
    rw [Nat.mul_comm b] at this; omega
  rw [hd] at e1
  simp only [V]
  generalize addC b (fun j => dg r0 (off + j)) y (i + 1) = c' at *
  generalize addC b (fun j => dg r0 (off + j)) y i = c at *
  generalize addD b (fun j => dg r0 (off + j)) y i = d at *
  generalize dg r0 (off + i) = f at *
  have e3 : (d + c' * b) * b ^ (off + i) = (f + y i + c) * b ^ (off + i) := by rw [e2]
  rw [Nat.add_mul, Nat.add_mul, Nat.add_mul] at e3
  have e4 : c' * b ^ (off + (i + 1)) = c' * b * b ^ (off + i) := by rw [← Nat.add_assoc, Nat.pow_succ, Nat.mul_comm (b ^ (off + i)), Nat.mul_assoc]
  have e5 : (V b y i + y i * b ^ i) * b ^ off = V b y i * b ^ off + y i * b ^ (off + i) := by
    rw [Nat.add_mul, Nat.pow_add, Nat.mul_assoc, Nat.mul_comm (b ^ i)]
  rw [e4, e5]
  omega

structure BackInv (w : World) (H g off m cp : Nat) (r0 : List Nat) (y : Nat → Nat) (i : Nat) (wr : World) : Prop where
  gr : w.grownBy wr (some g)
  row : ∃ r, Row .u64 134 wr g r ∧ r.length = r0.length ∧ Ok B64 r ∧ (∀ j, off + i ≤ j → dg r j = dg r0 j) ∧
    num B64 r + addC B64 (fun j => dg r0 (off + j)) y i * B64 ^ (off + i) = num B64 r0 + V B64 y i * B64 ^ off
  boxS : Box wr H (.slice (some ⟨g, off, none⟩) m cp) 118
  car : Box wr (H + 1) (.int .u64 ((addC B64 (fun j => dg r0 (off + j)) y i : Nat) : Int)) 134

theorem BackInv.step {w wr wr' : World} {H g off m cp i : Nat} {r0 : List Nat} {y : Nat → Nat} (h : BackInv w H g off m cp r0 y i wr) (hg : g < H) (hH : w.heap.size ≤ H) (hi : off + i < r0.length)
    (ht : Two wr wr' g (off + i) (addD B64 (fun j => dg r0 (off + j)) y i) (H + 1) (addC B64 (fun j => dg r0 (off + j)) y (i + 1))) : BackInv w H g off m cp r0 y (i + 1) wr' := by
  obtain ⟨r, hr, hl, ho, hd, hn⟩ := h.row
  refine ⟨?_, ⟨_, ((hr.set (off + i) _).other (by show g ≠ H + 1; omega) _).alike ht, by simp [hl], ho.set (by omega) (addD_lt (by decide) _ _ _), ?_, ?_⟩, ?_, ?_⟩
  · exact grownBy_like (grownBy_set (grownBy_set h.gr _ _ (.inl rfl)) _ _ (.inr (by show _ ≤ H + 1; omega))) ht
  · intro j hj
    rw [dg_set _ _ _ _ (by omega), if_neg (by omega)]
    exact hd j (by omega)
  · exact back_step (by omega) (hd _ (by omega)) hn
  · exact ((h.boxS.other (by show H ≠ g; omega) _).other (by show H ≠ H + 1; omega) _).alike ht
  · exact ((h.car.other (by show H + 1 ≠ g; omega) _).set _).alike ht

def BackPost (w : World) (g : Nat) (r0 : List Nat) (add last : Nat) (e : Ending) (w' : World) : Prop :=
  e = .returned (.tuple #[]) ∧ w.grownBy w' (some g) ∧ ∃ r c, Row .u64 134 w' g r ∧ r.length = r0.length ∧ Ok B64 r ∧ (∀ j, last ≤ j → dg r j = dg r0 j) ∧ c ≤ 1 ∧ num B64 r + c * B64 ^ last = num B64 r0 + add

set_option maxHeartbeats 2000000 in
theorem addBack_any (g off p cp cb : Nat) (bo : Option Addr) (r0 ys : List Nat) (w : World) (hp : p ≤ 100000000000) (hy : ys.length = p) (hay : At .u64 w bo ys) (oy : Ok B64 ys)
    (hr : Row .u64 134 w g r0) (o0 : Ok B64 r0) (hoff : off + p < r0.length) (hng : ∀ b o, ys ≠ [] → bo = some ⟨b, o, none⟩ → b ≠ g) :
    Calls Tryz.prog 249 #[.slice (some ⟨g, off, none⟩) (p + 1) cp, .slice bo p cb] w (BackPost w g r0 (num B64 ys * B64 ^ off) (off + (p + 1))) := by
  have hglt := hr.lt
  have f0 : ∀ i, (fun j => dg r0 (off + j)) i < B64 := fun i => o0 _
  go_enter Tryz.func249, Tryz.ntmps249
  go_wp2_with fail
  refine (each_any _ bo (p + 1) cp p cb 255 _ (fun i => dg r0 (off + i)) (dg ys) (fun i wr => BackInv w w.heap.size g off (p + 1) cp r0 (dg ys) i wr) _ (by omega) (by omega) enters255 ?_ ?_ ?_ ?_).mono ?_
  · intro i wr hi h
    obtain ⟨r, hr, hl, _, hd, _⟩ := h.row
    refine ⟨fun _ => ⟨g, off, rfl, ?_⟩, fun h => by omega⟩
    rw [hr.cell _ (by omega), hd _ (by omega)]
  · intro i wr hi h
    subst hy
    refine ⟨fun hil => ?_, fun h => dg_out h⟩
    rcases hay with rfl | ⟨b, o, h1, h2, h3⟩
    · simp at hil
    · refine ⟨b, o, h1, ?_⟩
      rw [World.cell?_of_block (w := w) (h.gr.block b h2 (by simp; exact hng b o (by intro e; rw [e] at hil; simp at hil) h1))]
      exact h3 i hil
  · intro i wr hi h
    have hi' : i < p + 1 := by omega
    obtain ⟨r, hr', hl, _, hd, _⟩ := h.row
    refine (addBack1 i _ _ (addC B64 (fun j => dg r0 (off + j)) (dg ys) i) (p + 1) cp g off (w.heap.size + 1) w.heap.size (addD B64 (fun j => dg r0 (off + j)) (dg ys) i) (addC B64 (fun j => dg r0 (off + j)) (dg ys) (i + 1)) _ wr hi' (by omega)
      (fun w => call_add64 _ _ _ (addC_le f0 oy i) w) h.boxS.cell h.car.cell h.car.free (hr'.cell _ (by omega)) (hr'.free _) (by omega) (by omega) (by omega)).mono ?_
    rintro e w' ⟨rfl, ht⟩
    exact ⟨rfl, h.step hglt (Nat.le_refl _) (by omega) ht⟩
  · refine ⟨?_, ⟨r0, (hr.alloc _).alloc _, rfl, o0, fun _ _ => rfl, by simp [addC, V]⟩, (Box.new _ _ _).alloc _, ?_⟩
    · refine ⟨rfl, rfl, rfl, by simp; omega, fun k hk _ => ?_⟩
      rw [Below.heap_alloc _ _ _ (by simp; omega), Below.heap_alloc _ _ _ hk]
    · have := Box.new (w.alloc (Obj.cells #[Value.slice (some { block := g, off := off }) (p + 1) cp] 118)) (.int .u64 0) 134
      simpa [addC] using this
  · rintro e w2 ⟨rfl, h⟩
    go_wp2
    go_end0
    rw [show max (p + 1) p = p + 1 by omega] at h
    obtain ⟨r, hr2, hl, ho, hd, hnum⟩ := h.row
    refine ⟨rfl, h.gr, r, _, hr2, hl, ho, fun j hj => hd j (by omega), addC_le f0 oy (p + 1), ?_⟩
    rw [hnum, num_eq (by omega)]

end Go.Proofs.YtobloamnaemfnaaGreatDoor
