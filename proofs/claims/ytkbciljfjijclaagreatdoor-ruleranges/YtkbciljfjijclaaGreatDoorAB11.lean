/-
  What dec's takeApart does: the parts of a text of a number.
  What dec's Parse does.
  Plain mathematics: what is printed of a number is read as that number.
  Plain mathematics: digits with a point between and an exponent behind are read as the number that they show.
  Plain mathematics of chapter 8: operands, and what the document says of them.
  Chapter 9's words as plain data: the parts of a text; rules, conditions, relations; what holds.
  The parts of a text told by places: what quipuref09.parts does at each.
-/
import Derived.Test.YtkbciljfjijclaaGreatDoorAB10
import Derived.WalkMore
import Derived.Lib.SmallJoins
import Derived.Test.YtkbciljfjijclaaGreatDoorAB2
import Derived.Test.YtkbciljfjijclaaGreatDoorAB7
import Derived.Test.YtkbciljfjijclaaGreatDoorAB6
import Derived.Lib.SlTrimSet
import Derived.Lib.AtoiTie
namespace Go.Proofs.YtkbciljfjijclaaGreatDoor
open Go.RowKit

section
variable {w : World} {b : Nat} {t : TypeId} {x0 x1 x2 x3 : Value}
end

theorem bytes_below (w : World) (T : TypeId) (t : ByteArray) : Below w.heap.size w (Lib.bytesWorld w T t) := Joins.below_bytesWorld _ w T t (Nat.le_refl _)

end Go.Proofs.YtkbciljfjijclaaGreatDoor

namespace Go.Proofs.YtkbciljfjijclaaGreatDoor
open Go.RowKit

end Go.Proofs.YtkbciljfjijclaaGreatDoor

namespace Go.Proofs.YtkbciljfjijclaaGreatDoor

end Go.Proofs.YtkbciljfjijclaaGreatDoor

namespace Go.Proofs.YtkbciljfjijclaaGreatDoor

end Go.Proofs.YtkbciljfjijclaaGreatDoor

namespace Go.Proofs.YtkbciljfjijclaaGreatDoor

structure OperT where
  i : List UInt8
  v : Int
  w : Int
  f : List UInt8
  t : List UInt8
  e : Int

def NumT (l : List UInt8) (most : Int) : Prop := l = [48] ∨ (l ≠ [] ∧ (l.length : Int) ≤ most ∧ byt l 0 ≠ 48 ∧ DigB l)

def MayO (x : OperT) : Prop := (0 ≤ x.v ∧ x.v ≤ 8192) ∧ (0 ≤ x.w ∧ x.w ≤ x.v) ∧ (0 ≤ x.e ∧ x.e ≤ 8192) ∧ NumT x.i 8192 ∧ NumT x.f x.v ∧ NumT x.t x.w ∧ (x.t = [48] → x.f = [48]) ∧ (x.t ≠ [48] → x.f = x.t ++ List.replicate (x.v - x.w).toNat 48)

end Go.Proofs.YtkbciljfjijclaaGreatDoor

namespace Go.Proofs.YtkbciljfjijclaaGreatDoor
open Go.RowKit

abbrev Tok := List UInt8

def isLt (b : UInt8) : Bool := decide (97 ≤ b.toNat) && decide (b.toNat ≤ 122)
def isNm (b : UInt8) : Bool := decide (48 ≤ b.toNat) && decide (b.toNat ≤ 57)
def isSg (b : UInt8) : Bool := b.toNat == 58 || b.toNat == 59 || b.toNat == 37 || b.toNat == 61 || b.toNat == 44 || b.toNat == 43

def partN : List UInt8 → Option Nat
  | [] => none
  | c :: r => if isLt c then some ((c :: r).takeWhile isLt).length else if isNm c then some ((c :: r).takeWhile isNm).length
    else if (c.toNat = 33 ∧ r.head? = some 61) ∨ (c.toNat = 46 ∧ r.head? = some 46) then some 2 else if isSg c then some 1 else none

theorem partN_le {s : List UInt8} {n : Nat} (h : partN s = some n) : 1 ≤ n ∧ n ≤ s.length := by
  cases s with
  | nil => simp [partN] at h
  | cons c r =>
    simp only [partN] at h
    split at h
    · rename_i h1
      simp only [Option.some.injEq] at h
      subst h
      refine ⟨by simp [List.takeWhile, h1], (List.takeWhile_sublist _).length_le⟩
    · split at h
      · rename_i h1
        simp only [Option.some.injEq] at h
        subst h
        refine ⟨by simp [List.takeWhile, h1], (List.takeWhile_sublist _).length_le⟩
      · split at h
        · rename_i h1
          simp only [Option.some.injEq] at h
          subst h
          refine ⟨by omega, ?_⟩
          cases r with
          | nil => simp at h1
          | cons d r => simp
        · split at h
          · simp only [Option.some.injEq] at h
            subst h
            simp
          · cases h

def trimB (s : List UInt8) : List UInt8 := s.dropWhile (fun c => c == 32)

theorem trimB_len (s : List UInt8) : (trimB s).length ≤ s.length := (List.dropWhile_sublist _).length_le

def toksF : Nat → List UInt8 → List Tok × Bool
  | 0, _ => ([], false)
  | n + 1, s => match trimB s with
    | [] => ([], false)
    | c :: r => match partN (c :: r) with
      | none => ([], true)
      | some k => ((c :: r).take k :: (toksF n ((c :: r).drop k)).1, (toksF n ((c :: r).drop k)).2)

theorem toksF_more (n : Nat) (s : List UInt8) (h : s.length < n) : toksF (n + 1) s = toksF n s := by
  induction n generalizing s with
  | zero => omega
  | succ n ih =>
    rw [toksF, toksF]
    have hl := trimB_len s
    cases ht : trimB s with
    | nil => rfl
    | cons c r =>
      dsimp only
      cases hp : partN (c :: r) with
      | none => rfl
      | some k =>
        have hk := partN_le hp
        dsimp only
        rw [ih ((c :: r).drop k) (by rw [List.length_drop, ← ht]; rw [← ht] at hk; omega)]

def toks (s : List UInt8) : List Tok × Bool := toksF (s.length + 1) s

theorem toksF_enough (n : Nat) (s : List UInt8) (h : s.length < n) : toksF n s = toks s := by
  unfold toks
  induction n with
  | zero => omega
  | succ n ih =>
    by_cases e : s.length = n
    · subst e; rfl
    · rw [toksF_more n s (by omega), ih (by omega)]

theorem toks_step (s : List UInt8) : toks s = match trimB s with
    | [] => ([], false)
    | c :: r => match partN (c :: r) with
      | none => ([], true)
      | some k => ((c :: r).take k :: (toks ((c :: r).drop k)).1, (toks ((c :: r).drop k)).2) := by
  have hl := trimB_len s
  unfold toks
  rw [toksF]
  cases ht : trimB s with
  | nil => rfl
  | cons c r =>
    dsimp only
    cases hp : partN (c :: r) with
    | none => rfl
    | some k =>
      have hk := partN_le hp
      dsimp only
      rw [toksF_enough _ _ (by rw [List.length_drop, ← ht]; rw [← ht] at hk; omega)]
      rfl

def cutsAt (sep : Tok) : Nat → Nat → List Tok → List (Nat × Nat)
  | f, p, [] => [(f, p)]
  | f, p, t :: ts => if t = sep then (f, p) :: cutsAt sep (p + 1) (p + 1) ts else cutsAt sep f (p + 1) ts

def splitT (sep : Tok) : List Tok → List (List Tok)
  | [] => [[]]
  | t :: ts => if t = sep then [] :: splitT sep ts else match splitT sep ts with
    | [] => [[t]]
    | r :: rs => (t :: r) :: rs

def opsT : List UInt8 := [110, 105, 118, 119, 102, 116, 99, 101]
def Tk : Tok → Prop
  | [] => True
  | c :: r => c ≠ 45 ∧ (c = 43 → r = [])

def catT (t : Tok) : Option Nat :=
  if t = [122, 101, 114, 111] then some 0 else if t = [111, 110, 101] then some 1 else if t = [116, 119, 111] then some 2
  else if t = [102, 101, 119] then some 3 else if t = [109, 97, 110, 121] then some 4 else if t = [111, 116, 104, 101, 114] then some 5 else none

def numT (t : Tok) : Option Nat := if t.length ≤ 9 then Lib.decNat t else none

structure RelT where
  op : UInt8
  div : Nat
  neq : Bool
  rs : List (Nat × Nat)

def rangeT : List Tok → Option (Nat × Nat)
  | [a] => (numT a).map fun n => (n, n)
  | [a, d, b] => if d = [46, 46] then match numT a, numT b with
    | some x, some y => if x ≤ y then some (x, y) else none
    | _, _ => none else none
  | _ => none

def operT : Tok → Option UInt8
  | [c] => if c ∈ opsT then some c else none
  | _ => none

def exprT : List Tok → Option (UInt8 × Nat)
  | [o] => (operT o).map fun c => (c, 0)
  | [o, p, m] => if p = [37] then match operT o, numT m with
    | some c, some k => if k = 0 then none else some (c, k)
    | _, _ => none else none
  | _ => none

def isEq (t : Tok) : Bool := t == [61] || t == [33, 61]

def relT (row : List Tok) : Option RelT :=
  match row.dropWhile (fun t => !isEq t) with
  | [] => none
  | e :: r => match exprT (row.takeWhile (fun t => !isEq t)), (splitT [44] r).mapM rangeT with
    | some x, some rs => some ⟨x.1, x.2, e == [33, 61], rs⟩
    | _, _ => none

def allT (l : List Tok) : Option (List RelT) := (splitT [97, 110, 100] l).mapM relT
def condT (l : List Tok) : Option (List (List RelT)) := (splitT [111, 114] l).mapM allT

def ruleT : List Tok → Option (Nat × List (List RelT))
  | c :: d :: r => if d = [58] then match catT c, condT r with
    | some k, some a => if k = 5 then none else some (k, a)
    | _, _ => none else none
  | _ => none

def unlike {α β : Type} [DecidableEq α] : List (α × β) → Bool
  | [] => true
  | x :: xs => !(xs.any fun y => y.1 == x.1) && unlike xs

def onlyU {α β : Type} [DecidableEq α] (o : Option (List (α × β))) : Option (List (α × β)) := match o with
  | some l => if unlike l then some l else none
  | none => none

def rulesT (s : List UInt8) : Option (List (Nat × List (List RelT))) :=
  if (toks s).2 then none else if (toks s).1 = [] then some [] else onlyU ((splitT [59] (toks s).1).mapM ruleT)

def entryT : List Tok → Option ((Nat × Nat) × Nat)
  | [a, p, b, c, d] => if p = [43] ∧ c = [58] then match catT a, catT b, catT d with
    | some x, some y, some z => some ((x, y), z)
    | _, _, _ => none else none
  | _ => none

def entriesT (s : List UInt8) : Option (List ((Nat × Nat) × Nat)) :=
  if (toks s).2 then none else if (toks s).1 = [] then some [] else onlyU ((splitT [59] (toks s).1).mapM entryT)

end Go.Proofs.YtkbciljfjijclaaGreatDoor

namespace Go.Proofs.YtkbciljfjijclaaGreatDoor
open Go.RowKit

def toksA (l : List UInt8) (i : Nat) : List Tok × Bool := toks (l.drop i)

theorem drop_at {l : List UInt8} {i : Nat} (h : i < l.length) : l.drop i = l[i] :: l.drop (i + 1) := List.drop_eq_getElem_cons h

theorem byt_at {l : List UInt8} {i : Nat} (h : i < l.length) : l[i].toNat = byt l i := by unfold byt; simp [h]

theorem toksA_end (l : List UInt8) (i : Nat) (h : l.length ≤ i) : toksA l i = ([], false) := by
  unfold toksA
  rw [List.drop_eq_nil_of_le h, toks_step]
  rfl

theorem toksA_blank (l : List UInt8) (i : Nat) (h : i < l.length) (hb : byt l i = 32) : toksA l i = toksA l (i + 1) := by
  have e : l[i] = 32 := UInt8.toNat_inj.1 (by rw [byt_at h, hb]; rfl)
  have ht : trimB (l.drop i) = trimB (l.drop (i + 1)) := by
    rw [drop_at h, e]
    rfl
  unfold toksA
  rw [toks_step, toks_step (l.drop (i + 1)), ht]

theorem trimB_at (l : List UInt8) (i : Nat) (h : i < l.length) (hb : byt l i ≠ 32) : trimB (l.drop i) = l[i] :: l.drop (i + 1) := by
  have e : (l[i] == (32 : UInt8)) = false := beq_eq_false_iff_ne.2 (fun q => hb (by rw [← byt_at h, q]; rfl))
  rw [drop_at h]
  unfold trimB
  rw [List.dropWhile_cons, e]
  rfl

theorem toksA_none (l : List UInt8) (i : Nat) (h : i < l.length) (hb : byt l i ≠ 32) (hp : partN (l.drop i) = none) : toksA l i = ([], true) := by
  rw [drop_at h] at hp
  unfold toksA
  rw [toks_step, trimB_at l i h hb]
  simp only [hp]

theorem toksA_some (l : List UInt8) (i k : Nat) (h : i < l.length) (hb : byt l i ≠ 32) (hp : partN (l.drop i) = some k) : toksA l i = ((l.drop i).take k :: (toksA l (i + k)).1, (toksA l (i + k)).2) := by
  have hd : (l[i] :: l.drop (i + 1)).drop k = l.drop (i + k) := by rw [← drop_at h, List.drop_drop]
  rw [drop_at h] at hp ⊢
  unfold toksA
  rw [toks_step, trimB_at l i h hb]
  simp only [hp, hd]

theorem row_is (p : UInt8 → Bool) (l : List UInt8) (k : Nat) (hk : k ≤ l.length) (hin : ∀ j (h : j < l.length), j < k → p l[j] = true) (hend : ∀ h : k < l.length, p l[k] = false) : (l.takeWhile p).length = k := by
  induction l generalizing k with
  | nil => simp at hk; simp [hk]
  | cons c r ih =>
    cases k with
    | zero =>
      have := hend (by simp)
      simp only [List.getElem_cons_zero] at this
      simp [List.takeWhile, this]
    | succ k =>
      have h0 := hin 0 (by simp) (by omega)
      simp only [List.getElem_cons_zero] at h0
      rw [List.takeWhile_cons, h0]
      simp only [if_true, List.length_cons]
      rw [ih k (by simpa using hk) (fun j h hj => by have := hin (j + 1) (by simpa using h) (by omega); simpa using this) (fun h => by have := hend (by simpa using h); simpa using this)]

theorem part_lt (l : List UInt8) (i : Nat) (h : i < l.length) (hl : 97 ≤ byt l i ∧ byt l i ≤ 122) (k : Nat) (hik : i ≤ k) (hk : k ≤ l.length) (hin : ∀ j, i ≤ j → j < k → 97 ≤ byt l j ∧ byt l j ≤ 122) (hend : k < l.length → ¬ (97 ≤ byt l k ∧ byt l k ≤ 122)) : partN (l.drop i) = some (k - i) := by
  have e : isLt l[i] = true := by unfold isLt; rw [byt_at h]; simp [hl.1, hl.2]
  have hr := row_is isLt (l.drop i) (k - i) (by rw [List.length_drop]; omega) (fun j hj hjk => by
    rw [List.getElem_drop]
    unfold isLt
    rw [byt_at (by rw [List.length_drop] at hj; omega)]
    have := hin (i + j) (by omega) (by omega)
    simp [this.1, this.2]) (fun hj => by
    rw [List.getElem_drop]
    unfold isLt
    rw [List.length_drop] at hj
    have hk' : i + (k - i) = k := by omega
    rw [byt_at (by omega), hk']
    have := hend (by omega)
    simp; omega)
  rw [← hr, drop_at h]
  simp only [partN, e, if_true]

theorem part_nm (l : List UInt8) (i : Nat) (h : i < l.length) (hl : 48 ≤ byt l i ∧ byt l i ≤ 57) (k : Nat) (hik : i ≤ k) (hk : k ≤ l.length) (hin : ∀ j, i ≤ j → j < k → 48 ≤ byt l j ∧ byt l j ≤ 57) (hend : k < l.length → ¬ (48 ≤ byt l k ∧ byt l k ≤ 57)) : partN (l.drop i) = some (k - i) := by
  have e0 : isLt l[i] = false := by unfold isLt; rw [byt_at h]; simp; omega
  have e : isNm l[i] = true := by unfold isNm; rw [byt_at h]; simp [hl.1, hl.2]
  have hr := row_is isNm (l.drop i) (k - i) (by rw [List.length_drop]; omega) (fun j hj hjk => by
    rw [List.getElem_drop]
    unfold isNm
    rw [byt_at (by rw [List.length_drop] at hj; omega)]
    have := hin (i + j) (by omega) (by omega)
    simp [this.1, this.2]) (fun hj => by
    rw [List.getElem_drop]
    unfold isNm
    rw [List.length_drop] at hj
    have hk' : i + (k - i) = k := by omega
    rw [byt_at (by omega), hk']
    have := hend (by omega)
    simp; omega)
  rw [← hr, drop_at h]
  simp only [partN, e0, e, if_true, Bool.false_eq_true, if_false]

end Go.Proofs.YtkbciljfjijclaaGreatDoor
