/-
  A variable of several cells, in a block by itself.
  A variable's cells, all at once; a variable behind what was laid and called.
  Plain mathematics: decimal digits, the numbers that they are, and texts behind texts.
  Plain mathematics: a float as a number and a power of 2, how far it reaches, and the fewest digits that are picked.
  Plain mathematics: Decs, the one of a number times a power of 10, and those that package shortest tells.
  Plain mathematics: the Decs that package shortest tells have a Dec's one form.
  Plain mathematics: which Decs may be.
  Plain mathematics: decimal numbers in their one form, what they are worth, and how they stand.
  How two numbers stand, by their values.
  Plain mathematics: a number, rounded to the multiples of a unit by one of eight modes.
  Plain mathematics of shifts: what one digit of a list turned does to its number, and what a digit is when it is shifted.
  Plain mathematics of shifts down.
  Plain mathematics of multiplying a list by one digit and adding it to a row.
  What nat.addTimes and nat.Mul do.
  What nat.addBack does to a row.
-/
import Derived.Test.YtkbciljfjijclaaGreatDoorANorm
import Derived.Handy
import Derived.Test.YtkbciljfjijclaaGreatDoorACarry
import Derived.Lib.ItoaNum
import Derived.Lib.TrimByte
import Derived.Lib.Bytealg
import Derived.Test.YtkbciljfjijclaaGreatDoorACmp
import Derived.Test.YtkbciljfjijclaaGreatDoorAB1
import Derived.Test.YtkbciljfjijclaaGreatDoorARow
namespace Go.Proofs.YtkbciljfjijclaaGreatDoor
open Go.RowKit

def Blk (w : World) (b : Nat) (cs : Array Value) (t : TypeId) : Prop := w.heap[b]? = some (.cells cs t (0, 0))

section
variable {w w' : World} {b : Nat} {cs : Array Value} {t : TypeId}

theorem Blk.cell (h : Blk w b cs t) (i : Nat) : w.cell? ⟨b, i, none⟩ = cs[i]? := by unfold Blk at h; simp [World.cell?, h]
theorem Blk.free (h : Blk w b cs t) (i : Nat) : w.frozen? ⟨b, i, none⟩ = false := by unfold Blk at h; simp [World.frozen?, h]
theorem Blk.new (w : World) (cs : Array Value) (t : TypeId) : Blk (w.alloc (.cells cs t)) w.heap.size cs t := heap_alloc_new _ _
theorem Blk.newAt (w : World) (n : Nat) (hn : w.heap.size = n) (cs : Array Value) (t : TypeId) : Blk (w.alloc (.cells cs t)) n cs t := by subst hn; exact Blk.new _ _ _
theorem Blk.lt (h : Blk w b cs t) : b < w.heap.size := lt_of_block h
theorem Blk.below (h : Blk w b cs t) {B : Nat} (hb : Below B w w') (hg : b < B) : Blk w' b cs t := by
  unfold Blk at *
  rw [hb.block b hg]; exact h
theorem Blk.alloc (h : Blk w b cs t) (o : Obj) : Blk (w.alloc o) b cs t := by
  have hlt := h.lt
  unfold Blk at *
  rw [Below.heap_alloc _ _ _ hlt]; exact h
theorem Blk.put4 {x0 x1 x2 x3 : Value} (h : Blk w b #[x0, x1, x2, x3] t) (y0 y1 y2 y3 : Value) : Blk ((((w.setCell ⟨b, 0, none⟩ y0).setCell ⟨b, 1, none⟩ y1).setCell ⟨b, 2, none⟩ y2).setCell ⟨b, 3, none⟩ y3) b #[y0, y1, y2, y3] t := by
  unfold Blk at *
  simp only [World.setCell, Array.getElem?_modify, if_true, h, Option.map_some]
  rfl
end

theorem Blk.other {w : World} {b : Nat} {t : TypeId} {cs : Array Value} (h : Blk w b cs t) {a : Addr} (ha : a.block ≠ b) (v : Value) : Blk (w.setCell a v) b cs t := by
  unfold Blk at *
  simp only [World.setCell, Array.getElem?_modify, if_neg ha, h]

end Go.Proofs.YtkbciljfjijclaaGreatDoor

namespace Go.Proofs.YtkbciljfjijclaaGreatDoor
open Go.RowKit

theorem Blk.four {w : World} {b : Nat} {x0 x1 x2 x3 : Value} {t : TypeId} (h : Blk w b #[x0, x1, x2, x3] t) : w.cell? ⟨b, 0, none⟩ = some x0 ∧ w.cell? ⟨b, 1, none⟩ = some x1 ∧ w.cell? ⟨b, 2, none⟩ = some x2 ∧ w.cell? ⟨b, 3, none⟩ = some x3 := ⟨h.cell 0, h.cell 1, h.cell 2, h.cell 3⟩
theorem Blk.two {w : World} {b : Nat} {x0 x1 : Value} {t : TypeId} (h : Blk w b #[x0, x1] t) : w.cell? ⟨b, 0, none⟩ = some x0 ∧ w.cell? ⟨b, 1, none⟩ = some x1 := ⟨h.cell 0, h.cell 1⟩
theorem Blk.on {w w' : World} {b : Nat} {cs : Array Value} {t : TypeId} (h : Hid (Blk w b cs t)) (hb : Below w.heap.size w w') : Hid (Blk w' b cs t) := h.out.below hb h.out.lt
end Go.Proofs.YtkbciljfjijclaaGreatDoor

namespace Go.Proofs.YtkbciljfjijclaaGreatDoor

def bys (s : ByteArray) : List UInt8 := s.data.toList

theorem bys_len (s : ByteArray) : (bys s).length = s.size := by simp [bys]

def byt (l : List UInt8) (k : Nat) : Nat := (l[k]?.map UInt8.toNat).getD 0

theorem byt_get (s : ByteArray) (k : Nat) (h : k < s.size) : s[k].toNat = byt (bys s) k := by
  unfold byt bys
  have : s.data.toList[k]? = some s[k] := by
    rw [Array.getElem?_toList, Array.getElem?_eq_getElem h]; rfl
  rw [this]; rfl

theorem byt_lt (l : List UInt8) (k : Nat) : byt l k < 256 := by
  unfold byt
  cases l[k]? with
  | none => simp
  | some b => simp; exact b.toNat_lt

def DigB (l : List UInt8) : Prop := ∀ k, k < l.length → 48 ≤ byt l k ∧ byt l k ≤ 57

theorem byt_append_left (a b : List UInt8) {k : Nat} (h : k < a.length) : byt (a ++ b) k = byt a k := by
  unfold byt; rw [List.getElem?_append_left h]

theorem bys_append (a b : ByteArray) : bys (a ++ b) = bys a ++ bys b := by
  unfold bys; simp

theorem byt_append_right (a b : List UInt8) (k : Nat) : byt (a ++ b) (a.length + k) = byt b k := by
  unfold byt; rw [List.getElem?_append_right (by omega), Nat.add_sub_cancel_left]

theorem DigB.append {a b : List UInt8} (ha : DigB a) (hb : DigB b) : DigB (a ++ b) := by
  intro k hk
  by_cases e : k < a.length
  · rw [byt_append_left _ _ e]; exact ha k e
  · rw [List.length_append] at hk
    have h := hb (k - a.length) (by omega)
    have e2 : byt (a ++ b) k = byt b (k - a.length) := by
      have := byt_append_right a b (k - a.length)
      rwa [show a.length + (k - a.length) = k by omega] at this
    rw [e2]; exact h

end Go.Proofs.YtkbciljfjijclaaGreatDoor

namespace Go.Proofs.YtkbciljfjijclaaGreatDoor

end Go.Proofs.YtkbciljfjijclaaGreatDoor

namespace Go.Proofs.YtkbciljfjijclaaGreatDoor

end Go.Proofs.YtkbciljfjijclaaGreatDoor

namespace Go.Proofs.YtkbciljfjijclaaGreatDoor

end Go.Proofs.YtkbciljfjijclaaGreatDoor

namespace Go.Proofs.YtkbciljfjijclaaGreatDoor

end Go.Proofs.YtkbciljfjijclaaGreatDoor

namespace Go.Proofs.YtkbciljfjijclaaGreatDoor

theorem byt_cons0 (b : UInt8) (t : List UInt8) : byt (b :: t) 0 = b.toNat := by simp [byt]
theorem byt_consS (b : UInt8) (t : List UInt8) (k : Nat) : byt (b :: t) (k + 1) = byt t k := by simp [byt]

end Go.Proofs.YtkbciljfjijclaaGreatDoor

namespace Go.Proofs.YtkbciljfjijclaaGreatDoor
open Go.RowKit

end Go.Proofs.YtkbciljfjijclaaGreatDoor

namespace Go.Proofs.YtkbciljfjijclaaGreatDoor

end Go.Proofs.YtkbciljfjijclaaGreatDoor

namespace Go.Proofs.YtkbciljfjijclaaGreatDoor

end Go.Proofs.YtkbciljfjijclaaGreatDoor

namespace Go.Proofs.YtkbciljfjijclaaGreatDoor

end Go.Proofs.YtkbciljfjijclaaGreatDoor

namespace Go.Proofs.YtkbciljfjijclaaGreatDoor

end Go.Proofs.YtkbciljfjijclaaGreatDoor

namespace Go.Proofs.YtkbciljfjijclaaGreatDoor
open Go.RowKit

end Go.Proofs.YtkbciljfjijclaaGreatDoor

namespace Go.Proofs.YtkbciljfjijclaaGreatDoor
open Go.RowKit

end Go.Proofs.YtkbciljfjijclaaGreatDoor
