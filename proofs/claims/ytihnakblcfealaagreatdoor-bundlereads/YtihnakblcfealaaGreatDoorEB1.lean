/-
  From what a row of the given statements hands over (readings of the arguments, the bound on their bulk) to the words of the walks.
  Plain mathematics: decimal digits, the numbers that they are, and texts behind texts.
  Runes, in the document's words, as plain data; that the library's decoder tells the same.
  Bundles as plain data: what may be, the order of texts, where a name stands.
  Plain mathematics of adding and taking away with a carry, digit by digit.
-/
import Derived.Test.YtihnakblcfealaaGreatDoorRows
import Derived.Test.YtihnakblcfealaaGreatDoorEOwn
import Derived.ProofKit
import Derived.OpenShut
import Derived.JoinedCond
import Derived.Test.YtihnakblcfealaaGreatDoorECarry
import Derived.Lib.ItoaNum
import Derived.Lib.ValidLaws
import Derived.Lib.RuneCount
import Derived.Lib.TrimUEq
import Derived.Laws.Cover1
namespace Go.Proofs.YtihnakblcfealaaGreatDoor
open Go.ChangeShapes Go.WideShapes Go.ChangeAt Go.RowKit

theorem Tryz.own : ownKnob Tryz.prog.godebug = none := by kernel_rfl
end Go.Proofs.YtihnakblcfealaaGreatDoor

namespace Go.Proofs.YtihnakblcfealaaGreatDoor

def bys (s : ByteArray) : List UInt8 := s.data.toList

theorem bys_len (s : ByteArray) : (bys s).length = s.size := by simp [bys]

def byt (l : List UInt8) (k : Nat) : Nat := (l[k]?.map UInt8.toNat).getD 0

theorem byt_get (s : ByteArray) (k : Nat) (h : k < s.size) : s[k].toNat = byt (bys s) k := by
  unfold byt bys
  have : s.data.toList[k]? = some s[k] := by
    rw [Array.getElem?_toList, Array.getElem?_eq_getElem h]; rfl
  rw [this]; rfl

theorem byt_lt (l : List UInt8) (k : Nat) : byt l k < 256 := by
  unfold byt
  cases l[k]? with
  | none => simp
  | some b => simp; exact b.toNat_lt

theorem sl (s : ByteArray) : s.toList = bys s := ByteArray.toList_eq s

theorem bys_append (a b : ByteArray) : bys (a ++ b) = bys a ++ bys b := by
  unfold bys; simp

end Go.Proofs.YtihnakblcfealaaGreatDoor

namespace Go.Proofs.YtihnakblcfealaaGreatDoor
open Go.Lib

def runeN (n b0 b1 b2 b3 : Nat) : Nat :=
  if n = 0 then 0 else if b0 < 128 then 1 else (checkN n b1 b2 b3 (firstT b0 % 8) (accLo (firstT b0 / 16)) (accHi (firstT b0 / 16))).getD 0

theorem runeN_le (n b0 b1 b2 b3 : Nat) : runeN n b0 b1 b2 b3 ≤ n ∧ runeN n b0 b1 b2 b3 ≤ 4 := by
  unfold runeN
  generalize firstT b0 % 8 = sz
  generalize accLo (firstT b0 / 16) = lo
  generalize accHi (firstT b0 / 16) = hi
  unfold checkN
  repeat' split
  all_goals (try simp only [Option.getD_none, Option.getD_some])
  all_goals omega

theorem checkN_two (n b1 b2 b3 lo hi : Nat) : (checkN n b1 b2 b3 2 lo hi).getD 0 = if n < 2 ∨ b1 < lo ∨ hi < b1 then 0 else 2 := by
  unfold checkN
  rw [if_pos rfl]
  split <;> rfl
theorem checkN_three (n b1 b2 b3 lo hi : Nat) : (checkN n b1 b2 b3 3 lo hi).getD 0 = if n < 3 ∨ b1 < lo ∨ hi < b1 ∨ b2 < 128 ∨ 191 < b2 then 0 else 3 := by
  unfold checkN
  rw [if_neg (by decide), if_pos rfl]
  split <;> rfl
theorem checkN_four (n b1 b2 b3 lo hi : Nat) : (checkN n b1 b2 b3 4 lo hi).getD 0 = if n < 4 ∨ b1 < lo ∨ hi < b1 ∨ b2 < 128 ∨ 191 < b2 ∨ b3 < 128 ∨ 191 < b3 then 0 else 4 := by
  unfold checkN
  rw [if_neg (by decide), if_neg (by decide), if_pos rfl]
  split <;> rfl
theorem checkN_else (n b1 b2 b3 sz lo hi : Nat) (h2 : ¬ sz = 2) (h3 : ¬ sz = 3) (h4 : ¬ sz = 4) : (checkN n b1 b2 b3 sz lo hi).getD 0 = 0 := by
  unfold checkN
  rw [if_neg h2, if_neg h3, if_neg h4]
  rfl

theorem runeN_decode (n b0 b1 b2 b3 : Nat) (hn : 1 ≤ n) (h0 : b0 < 256) (h1 : b1 < 256) (h2 : b2 < 256) (h3 : b3 < 256) :
    (decodeN n b0 b1 b2 b3 = (65533, 1) ∧ runeN n b0 b1 b2 b3 = 0) ∨ (runeN n b0 b1 b2 b3 ≠ 0 ∧ (decodeN n b0 b1 b2 b3).2 = runeN n b0 b1 b2 b3 ∧ ¬ ((decodeN n b0 b1 b2 b3).1 = 65533 ∧ (decodeN n b0 b1 b2 b3).2 = 1)) := by
  unfold runeN
  rw [if_neg (by omega)]
  by_cases ha : b0 < 128
  · right
    rw [if_pos ha]
    have : decodeN n b0 b1 b2 b3 = (b0, 1) := by unfold decodeN; rw [if_pos ha]
    rw [this]
    exact ⟨by omega, rfl, by simp only; omega⟩
  · rw [if_neg ha]
    rcases check_decode n b0 b1 b2 b3 hn (by omega) h0 h1 h2 h3 with ⟨h, h'⟩ | ⟨k, hk, h, h'⟩
    · left
      rw [h]
      exact ⟨h', rfl⟩
    · right
      rw [h, h']
      simp only [Option.getD_some]
      exact ⟨by omega, trivial, by omega⟩

def byB (l : List UInt8) (k : Nat) : Nat := (l.getD k 0).toNat
theorem byB_lt (l : List UInt8) (k : Nat) : byB l k < 256 := (l.getD k 0).toNat_lt
theorem byB_drop (l : List UInt8) (p k : Nat) : byB (l.drop p) k = byB l (p + k) := by unfold byB; rw [getD_dropU]
def runeL (l : List UInt8) : Nat := runeN l.length (byB l 0) (byB l 1) (byB l 2) (byB l 3)

theorem runeL_le (l : List UInt8) : runeL l ≤ l.length ∧ runeL l ≤ 4 := runeN_le _ _ _ _ _
theorem decodeL_B (l : List UInt8) : decodeL l = decodeN l.length (byB l 0) (byB l 1) (byB l 2) (byB l 3) := decodeL_N l

theorem runeL_decode (l : List UInt8) (h : l ≠ []) : (decodeL l = (65533, 1) ∧ runeL l = 0) ∨ (runeL l ≠ 0 ∧ (decodeL l).2 = runeL l ∧ ¬ ((decodeL l).1 = 65533 ∧ (decodeL l).2 = 1)) := by
  rw [decodeL_B]
  exact runeN_decode _ _ _ _ _ (List.length_pos_iff.2 h) (byB_lt _ _) (byB_lt _ _) (byB_lt _ _) (byB_lt _ _)

def runesF : Nat → List UInt8 → Option Nat
  | 0, _ => some 0
  | f + 1, l => if l = [] then some 0 else if runeL l = 0 then none else (runesF f (l.drop (runeL l))).map (· + 1)
def runesL (l : List UInt8) : Option Nat := runesF l.length l

theorem runesF_nil : ∀ f, runesF f [] = some 0
  | 0 => rfl
  | _ + 1 => by simp [runesF]

theorem runesF_fuel : ∀ (f g : Nat) (l : List UInt8), l.length ≤ f → l.length ≤ g → runesF f l = runesF g l
  | 0, g, l, h, _ => by
    obtain rfl := List.eq_nil_of_length_eq_zero (Nat.le_zero.1 h)
    rw [runesF_nil, runesF_nil]
  | f + 1, 0, l, _, h => by
    obtain rfl := List.eq_nil_of_length_eq_zero (Nat.le_zero.1 h)
    rw [runesF_nil]; rfl
  | f + 1, g + 1, l, h1, h2 => by
    unfold runesF
    by_cases hl : l = []
    · rw [if_pos hl, if_pos hl]
    · rw [if_neg hl, if_neg hl]
      by_cases hr : runeL l = 0
      · rw [if_pos hr, if_pos hr]
      · rw [if_neg hr, if_neg hr, runesF_fuel f g (l.drop (runeL l)) (by rw [List.length_drop]; omega) (by rw [List.length_drop]; omega)]

theorem runesL_nil : runesL [] = some 0 := rfl
theorem runesL_step (l : List UInt8) (h : l ≠ []) : runesL l = if runeL l = 0 then none else (runesL (l.drop (runeL l))).map (· + 1) := by
  have hp := List.length_pos_iff.2 h
  obtain ⟨n, hn⟩ : ∃ n, l.length = n + 1 := ⟨l.length - 1, by omega⟩
  by_cases hr : runeL l = 0
  · rw [if_pos hr]
    unfold runesL
    rw [hn]
    unfold runesF
    rw [if_neg h, if_pos hr]
  · rw [if_neg hr]
    unfold runesL
    rw [hn]
    show (if l = [] then some 0 else if runeL l = 0 then none else (runesF n (l.drop (runeL l))).map (· + 1)) = _
    rw [if_neg h, if_neg hr, runesF_fuel n _ (l.drop (runeL l)) (by rw [List.length_drop]; omega) (Nat.le_refl _)]

theorem valid_runesA : ∀ (k : Nat) (l : List UInt8), l.length ≤ k → validD l = (runesL l).isSome
  | 0, l, h => by
    obtain rfl := List.eq_nil_of_length_eq_zero (Nat.le_zero.1 h)
    rfl
  | k + 1, l, h => by
    by_cases hl : l = []
    · subst hl; rfl
    · rw [validD_step l hl, runesL_step l hl]
      rcases runeL_decode l hl with ⟨h1, h2⟩ | ⟨h1, h2, h3⟩
      · rw [if_pos (by rw [h1]; exact ⟨rfl, rfl⟩), if_pos h2]; rfl
      · rw [if_neg h3, if_neg h1, h2, valid_runesA k _ (by rw [List.length_drop]; omega)]
        cases runesL (l.drop (runeL l)) <;> rfl
theorem valid_runes (l : List UInt8) : validD l = (runesL l).isSome := valid_runesA l.length l (Nat.le_refl _)

end Go.Proofs.YtihnakblcfealaaGreatDoor

namespace Go.Proofs.YtihnakblcfealaaGreatDoor
open Go.RowKit

structure Ent where
  key : ByteArray
  kind : Int
  text : ByteArray
  num : Int

structure Tab where
  name : ByteArray
  parent : Int
  ents : List Ent

def Ent.zero : Ent := ⟨⟨#[]⟩, 0, ⟨#[]⟩, 0⟩
def Tab.zero : Tab := ⟨⟨#[]⟩, 0, []⟩

def entV (e : Ent) : Value := .agg #[.string e.key, .int .i64 e.kind, .string e.text, .int .i64 e.num]

def entN (es : List Ent) (i : Nat) : Ent := es[i]?.getD Ent.zero
def tabN (ts : List Tab) (i : Nat) : Tab := ts[i]?.getD Tab.zero

theorem entN_get {es : List Ent} {i : Nat} {e : Ent} (h : es[i]? = some e) : entN es i = e := by unfold entN; rw [h]; rfl
theorem tabN_get {ts : List Tab} {i : Nat} {t : Tab} (h : ts[i]? = some t) : tabN ts i = t := by unfold tabN; rw [h]; rfl
theorem entN_some {es : List Ent} {i : Nat} (h : i < es.length) : es[i]? = some (entN es i) := by unfold entN; rw [List.getElem?_eq_getElem h]; rfl
theorem tabN_some {ts : List Tab} {i : Nat} (h : i < ts.length) : ts[i]? = some (tabN ts i) := by unfold tabN; rw [List.getElem?_eq_getElem h]; rfl

def leT (a b : ByteArray) : Bool := Op.bytesLess a.toList b.toList || a.toList == b.toList
def ltT (a b : ByteArray) : Bool := Op.bytesLess a.toList b.toList

def mayText (s : ByteArray) : Bool := decide (s.size ≤ 1024) && (runesL (bys s)).isSome
def mayName (s : ByteArray) : Bool := decide (s.size ≠ 0) && mayText s
def mayVal (e : Ent) : Bool :=
  if e.kind = 0 then mayText e.text && decide (e.num = 0)
  else if e.kind = 1 then decide (e.text.size = 0 ∧ 0 ≤ e.num ∧ e.num ≤ 4294967295)
  else if e.kind = 2 then mayName e.text && decide (e.num = 0)
  else false

def entsE (last : ByteArray) : List Ent → Nat
  | [] => 0
  | e :: r => if mayName e.key = false then 120 else if leT e.key last = true then 122 else if mayVal e = false then 120 else entsE e.key r

def placeF (n : ByteArray) : Nat → List Tab → Int
  | _, [] => -1
  | k, t :: r => if t.name = n then (k : Int) else placeF n (k + 1) r
def placeT (ts : List Tab) (n : ByteArray) : Int := placeF n 0 ts

def tabE (ts : List Tab) (k : Nat) : Nat :=
  if mayName (tabN ts k).name = false then 120
  else if placeT (ts.take k) (tabN ts k).name ≠ -1 ∨ (tabN ts k).parent < -1 ∨ (k : Int) ≤ (tabN ts k).parent then 122
  else entsE ⟨#[]⟩ (tabN ts k).ents

def tabsE (ts : List Tab) : Nat → Nat → Nat
  | 0, _ => 0
  | n + 1, k => if tabE ts k ≠ 0 then tabE ts k else tabsE ts n (k + 1)

def countsOk (ts : List Tab) : Bool := ts.all (fun t => decide (t.ents.length ≤ 1024)) && decide (1 ≤ ts.length ∧ ts.length ≤ 16)

def entL (e : Ent) : List ByteArray := if e.kind = 1 then [e.key] else [e.key, e.text]
def tabL (t : Tab) : List ByteArray := t.name :: t.ents.flatMap entL
def textsL (ts : List Tab) : List ByteArray := ts.flatMap tabL

end Go.Proofs.YtihnakblcfealaaGreatDoor

namespace Go.Proofs.YtihnakblcfealaaGreatDoor

end Go.Proofs.YtihnakblcfealaaGreatDoor
