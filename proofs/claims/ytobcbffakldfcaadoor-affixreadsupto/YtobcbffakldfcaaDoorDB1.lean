/-
  From what a row of the given statements hands over (readings of the arguments, the bound on their bulk) to the words of the walks.
  Plain mathematics: decimal digits, the numbers that they are, and texts behind texts.
  Runes, in the document's words, as plain data; that the library's decoder tells the same.
  Tokens of affixes, their text, and how a text is read as tokens: the document's words as plain data.
  Plain mathematics of adding and taking away with a carry, digit by digit.
-/
import Derived.Test.YtobcbffakldfcaaDoorRows
import Derived.Test.YtobcbffakldfcaaDoorDOwn
import Derived.ProofKit
import Derived.OpenShut
import Derived.JoinedCond
import Derived.Test.YtobcbffakldfcaaDoorDCarry
import Derived.Lib.ItoaNum
import Derived.Lib.ValidLaws
import Derived.Lib.RuneCount
import Derived.Lib.TrimUEq
namespace Go.Proofs.YtobcbffakldfcaaDoor
open Go.ChangeShapes Go.WideShapes Go.ChangeAt Go.RowKit

theorem Tryd.own : ownKnob Tryd.prog.godebug = none := by kernel_rfl
end Go.Proofs.YtobcbffakldfcaaDoor

namespace Go.Proofs.YtobcbffakldfcaaDoor

def bys (s : ByteArray) : List UInt8 := s.data.toList

theorem bys_len (s : ByteArray) : (bys s).length = s.size := by simp [bys]

def byt (l : List UInt8) (k : Nat) : Nat := (l[k]?.map UInt8.toNat).getD 0

theorem byt_get (s : ByteArray) (k : Nat) (h : k < s.size) : s[k].toNat = byt (bys s) k := by
  unfold byt bys
  have : s.data.toList[k]? = some s[k] := by
    rw [Array.getElem?_toList, Array.getElem?_eq_getElem h]; rfl
  rw [this]; rfl

theorem byt_lt (l : List UInt8) (k : Nat) : byt l k < 256 := by
  unfold byt
  cases l[k]? with
  | none => simp
  | some b => simp; exact b.toNat_lt

theorem sl (s : ByteArray) : s.toList = bys s := ByteArray.toList_eq s

theorem bys_append (a b : ByteArray) : bys (a ++ b) = bys a ++ bys b := by
  unfold bys; simp

end Go.Proofs.YtobcbffakldfcaaDoor

namespace Go.Proofs.YtobcbffakldfcaaDoor
open Go.Lib

def runeN (n b0 b1 b2 b3 : Nat) : Nat :=
  if n = 0 then 0 else if b0 < 128 then 1 else (checkN n b1 b2 b3 (firstT b0 % 8) (accLo (firstT b0 / 16)) (accHi (firstT b0 / 16))).getD 0

theorem runeN_le (n b0 b1 b2 b3 : Nat) : runeN n b0 b1 b2 b3 ≤ n ∧ runeN n b0 b1 b2 b3 ≤ 4 := by
  unfold runeN
  generalize firstT b0 % 8 = sz
  generalize accLo (firstT b0 / 16) = lo
  generalize accHi (firstT b0 / 16) = hi
  unfold checkN
  repeat' split
  all_goals (try simp only [Option.getD_none, Option.getD_some])
  all_goals omega

theorem checkN_two (n b1 b2 b3 lo hi : Nat) : (checkN n b1 b2 b3 2 lo hi).getD 0 = if n < 2 ∨ b1 < lo ∨ hi < b1 then 0 else 2 := by
  unfold checkN
  rw [if_pos rfl]
  split <;> rfl
theorem checkN_three (n b1 b2 b3 lo hi : Nat) : (checkN n b1 b2 b3 3 lo hi).getD 0 = if n < 3 ∨ b1 < lo ∨ hi < b1 ∨ b2 < 128 ∨ 191 < b2 then 0 else 3 := by
  unfold checkN
  rw [if_neg (by decide), if_pos rfl]
  split <;> rfl
theorem checkN_four (n b1 b2 b3 lo hi : Nat) : (checkN n b1 b2 b3 4 lo hi).getD 0 = if n < 4 ∨ b1 < lo ∨ hi < b1 ∨ b2 < 128 ∨ 191 < b2 ∨ b3 < 128 ∨ 191 < b3 then 0 else 4 := by
  unfold checkN
  rw [if_neg (by decide), if_neg (by decide), if_pos rfl]
  split <;> rfl
theorem checkN_else (n b1 b2 b3 sz lo hi : Nat) (h2 : ¬ sz = 2) (h3 : ¬ sz = 3) (h4 : ¬ sz = 4) : (checkN n b1 b2 b3 sz lo hi).getD 0 = 0 := by
  unfold checkN
  rw [if_neg h2, if_neg h3, if_neg h4]
  rfl

theorem runeN_decode (n b0 b1 b2 b3 : Nat) (hn : 1 ≤ n) (h0 : b0 < 256) (h1 : b1 < 256) (h2 : b2 < 256) (h3 : b3 < 256) :
    (decodeN n b0 b1 b2 b3 = (65533, 1) ∧ runeN n b0 b1 b2 b3 = 0) ∨ (runeN n b0 b1 b2 b3 ≠ 0 ∧ (decodeN n b0 b1 b2 b3).2 = runeN n b0 b1 b2 b3 ∧ ¬ ((decodeN n b0 b1 b2 b3).1 = 65533 ∧ (decodeN n b0 b1 b2 b3).2 = 1)) := by
  unfold runeN
  rw [if_neg (by omega)]
  by_cases ha : b0 < 128
  · right
    rw [if_pos ha]
    have : decodeN n b0 b1 b2 b3 = (b0, 1) := by unfold decodeN; rw [if_pos ha]
    rw [this]
    exact ⟨by omega, rfl, by simp only; omega⟩
  · rw [if_neg ha]
    rcases check_decode n b0 b1 b2 b3 hn (by omega) h0 h1 h2 h3 with ⟨h, h'⟩ | ⟨k, hk, h, h'⟩
    · left
      rw [h]
      exact ⟨h', rfl⟩
    · right
      rw [h, h']
      simp only [Option.getD_some]
      exact ⟨by omega, trivial, by omega⟩

theorem runeN_more (n m b0 b1 b2 b3 c0 c1 c2 c3 k : Nat) (h : runeN n b0 b1 b2 b3 = k) (hk : k ≠ 0) (hm : k ≤ m) (e0 : c0 = b0) (e1 : 1 < k → c1 = b1) (e2 : 2 < k → c2 = b2) (e3 : 3 < k → c3 = b3) : runeN m c0 c1 c2 c3 = k := by
  subst e0
  unfold runeN at h ⊢
  generalize firstT c0 % 8 = sz at h ⊢
  generalize accLo (firstT c0 / 16) = lo at h ⊢
  generalize accHi (firstT c0 / 16) = hi at h ⊢
  by_cases a0 : c0 < 128
  · rw [if_pos a0] at h ⊢
    split at h
    · omega
    · rw [if_neg (by omega)]; exact h
  rw [if_neg a0] at h ⊢
  by_cases s2 : sz = 2
  · subst s2
    rw [checkN_two] at h ⊢
    split at h
    · omega
    split at h
    · omega
    · subst h
      rw [if_neg (by omega), if_neg (by rw [e1 (by omega)]; omega)]
  by_cases s3 : sz = 3
  · subst s3
    rw [checkN_three] at h ⊢
    split at h
    · omega
    split at h
    · omega
    · subst h
      rw [if_neg (by omega), if_neg (by rw [e1 (by omega), e2 (by omega)]; omega)]
  by_cases s4 : sz = 4
  · subst s4
    rw [checkN_four] at h ⊢
    split at h
    · omega
    split at h
    · omega
    · subst h
      rw [if_neg (by omega), if_neg (by rw [e1 (by omega), e2 (by omega), e3 (by omega)]; omega)]
  rw [checkN_else _ _ _ _ _ _ _ s2 s3 s4] at h
  split at h <;> omega

def byB (l : List UInt8) (k : Nat) : Nat := (l.getD k 0).toNat
theorem byB_lt (l : List UInt8) (k : Nat) : byB l k < 256 := (l.getD k 0).toNat_lt
theorem byB_drop (l : List UInt8) (p k : Nat) : byB (l.drop p) k = byB l (p + k) := by unfold byB; rw [getD_dropU]
theorem byB_app (a b : List UInt8) (k : Nat) (h : k < a.length) : byB (a ++ b) k = byB a k := by unfold byB; simp [List.getD, List.getElem?_append_left h]
theorem byB_take (a : List UInt8) (n k : Nat) (h : k < n) : byB (a.take n) k = byB a k := by unfold byB; simp [List.getD, h]

def runeL (l : List UInt8) : Nat := runeN l.length (byB l 0) (byB l 1) (byB l 2) (byB l 3)

theorem runeL_le (l : List UInt8) : runeL l ≤ l.length ∧ runeL l ≤ 4 := runeN_le _ _ _ _ _
theorem decodeL_B (l : List UInt8) : decodeL l = decodeN l.length (byB l 0) (byB l 1) (byB l 2) (byB l 3) := decodeL_N l

theorem runeL_decode (l : List UInt8) (h : l ≠ []) : (decodeL l = (65533, 1) ∧ runeL l = 0) ∨ (runeL l ≠ 0 ∧ (decodeL l).2 = runeL l ∧ ¬ ((decodeL l).1 = 65533 ∧ (decodeL l).2 = 1)) := by
  rw [decodeL_B]
  exact runeN_decode _ _ _ _ _ (List.length_pos_iff.2 h) (byB_lt _ _) (byB_lt _ _) (byB_lt _ _) (byB_lt _ _)

theorem runeL_app (a b : List UInt8) (h : runeL a ≠ 0) : runeL (a ++ b) = runeL a := by
  have hl := (runeL_le a).1
  refine runeN_more a.length _ (byB a 0) (byB a 1) (byB a 2) (byB a 3) _ _ _ _ _ rfl h ?_ (byB_app a b 0 ?_) (fun h1 => byB_app a b 1 ?_) (fun h1 => byB_app a b 2 ?_) (fun h1 => byB_app a b 3 ?_)
  · rw [List.length_append]
    exact Nat.le_trans hl (Nat.le_add_right _ _)
  all_goals omega

theorem runeL_take (a : List UInt8) (n : Nat) (h : runeL a ≠ 0) (hn : runeL a ≤ n) : runeL (a.take n) = runeL a := by
  have hl := (runeL_le a).1
  refine runeN_more a.length _ (byB a 0) (byB a 1) (byB a 2) (byB a 3) _ _ _ _ _ rfl h ?_ (byB_take a n 0 ?_) (fun h1 => byB_take a n 1 ?_) (fun h1 => byB_take a n 2 ?_) (fun h1 => byB_take a n 3 ?_)
  · rw [List.length_take]
    exact Nat.le_min.2 ⟨hn, hl⟩
  all_goals omega

def runesF : Nat → List UInt8 → Option Nat
  | 0, _ => some 0
  | f + 1, l => if l = [] then some 0 else if runeL l = 0 then none else (runesF f (l.drop (runeL l))).map (· + 1)
def runesL (l : List UInt8) : Option Nat := runesF l.length l

theorem runesF_nil : ∀ f, runesF f [] = some 0
  | 0 => rfl
  | _ + 1 => by simp [runesF]

theorem runesF_fuel : ∀ (f g : Nat) (l : List UInt8), l.length ≤ f → l.length ≤ g → runesF f l = runesF g l
  | 0, g, l, h, _ => by
    obtain rfl := List.eq_nil_of_length_eq_zero (Nat.le_zero.1 h)
    rw [runesF_nil, runesF_nil]
  | f + 1, 0, l, _, h => by
    obtain rfl := List.eq_nil_of_length_eq_zero (Nat.le_zero.1 h)
    rw [runesF_nil]; rfl
  | f + 1, g + 1, l, h1, h2 => by
    unfold runesF
    by_cases hl : l = []
    · rw [if_pos hl, if_pos hl]
    · rw [if_neg hl, if_neg hl]
      by_cases hr : runeL l = 0
      · rw [if_pos hr, if_pos hr]
      · rw [if_neg hr, if_neg hr, runesF_fuel f g (l.drop (runeL l)) (by rw [List.length_drop]; omega) (by rw [List.length_drop]; omega)]

theorem runesL_nil : runesL [] = some 0 := rfl
theorem runesL_step (l : List UInt8) (h : l ≠ []) : runesL l = if runeL l = 0 then none else (runesL (l.drop (runeL l))).map (· + 1) := by
  have hp := List.length_pos_iff.2 h
  obtain ⟨n, hn⟩ : ∃ n, l.length = n + 1 := ⟨l.length - 1, by omega⟩
  by_cases hr : runeL l = 0
  · rw [if_pos hr]
    unfold runesL
    rw [hn]
    unfold runesF
    rw [if_neg h, if_pos hr]
  · rw [if_neg hr]
    unfold runesL
    rw [hn]
    show (if l = [] then some 0 else if runeL l = 0 then none else (runesF n (l.drop (runeL l))).map (· + 1)) = _
    rw [if_neg h, if_neg hr, runesF_fuel n _ (l.drop (runeL l)) (by rw [List.length_drop]; omega) (Nat.le_refl _)]

theorem valid_runesA : ∀ (k : Nat) (l : List UInt8), l.length ≤ k → validD l = (runesL l).isSome
  | 0, l, h => by
    obtain rfl := List.eq_nil_of_length_eq_zero (Nat.le_zero.1 h)
    rfl
  | k + 1, l, h => by
    by_cases hl : l = []
    · subst hl; rfl
    · rw [validD_step l hl, runesL_step l hl]
      rcases runeL_decode l hl with ⟨h1, h2⟩ | ⟨h1, h2, h3⟩
      · rw [if_pos (by rw [h1]; exact ⟨rfl, rfl⟩), if_pos h2]; rfl
      · rw [if_neg h3, if_neg h1, h2, valid_runesA k _ (by rw [List.length_drop]; omega)]
        cases runesL (l.drop (runeL l)) <;> rfl
theorem valid_runes (l : List UInt8) : validD l = (runesL l).isSome := valid_runesA l.length l (Nat.le_refl _)

theorem runesL_leA : ∀ (k : Nat) (l : List UInt8) (n : Nat), l.length ≤ k → runesL l = some n → n ≤ l.length
  | 0, l, n, h, hr => by
    obtain rfl := List.eq_nil_of_length_eq_zero (Nat.le_zero.1 h)
    rw [runesL_nil] at hr; cases hr; exact Nat.zero_le _
  | k + 1, l, n, h, hr => by
    by_cases hl : l = []
    · subst hl; rw [runesL_nil] at hr; cases hr; exact Nat.zero_le _
    · rw [runesL_step l hl] at hr
      by_cases h0 : runeL l = 0
      · rw [if_pos h0] at hr; cases hr
      · rw [if_neg h0] at hr
        obtain ⟨m, hm, rfl⟩ := Option.map_eq_some_iff.1 hr
        have := runesL_leA k _ m (by rw [List.length_drop]; have := List.length_pos_iff.2 hl; omega) hm
        rw [List.length_drop] at this
        have h9 := (runeL_le l).1
        omega
theorem runesL_appA (b : List UInt8) : ∀ (k : Nat) (l : List UInt8) (n : Nat), l.length ≤ k → runesL l = some n → runesL (l ++ b) = (runesL b).map (· + n)
  | 0, l, n, h, hr => by
    obtain rfl := List.eq_nil_of_length_eq_zero (Nat.le_zero.1 h)
    rw [runesL_nil] at hr; cases hr
    rw [List.nil_append]
    cases runesL b <;> rfl
  | k + 1, l, n, h, hr => by
    by_cases hl : l = []
    · subst hl; rw [runesL_nil] at hr; cases hr
      rw [List.nil_append]
      cases runesL b <;> rfl
    · rw [runesL_step l hl] at hr
      by_cases h0 : runeL l = 0
      · rw [if_pos h0] at hr; cases hr
      · rw [if_neg h0] at hr
        obtain ⟨m, hm, rfl⟩ := Option.map_eq_some_iff.1 hr
        have h9 := (runeL_le l).1
        rw [runesL_step (l ++ b) (by simp [hl]), runeL_app l b h0, if_neg h0, List.drop_append_of_le_length h9, runesL_appA b k _ m (by rw [List.length_drop]; have := List.length_pos_iff.2 hl; omega) hm]
        cases runesL b with
        | none => rfl
        | some x => show some _ = some _; congr 1
theorem runesL_app (a b : List UInt8) (n : Nat) (h : runesL a = some n) : runesL (a ++ b) = (runesL b).map (· + n) := runesL_appA b _ a n (Nat.le_refl _) h

end Go.Proofs.YtobcbffakldfcaaDoor

namespace Go.Proofs.YtobcbffakldfcaaDoor

structure Tok where
  kind : Int
  many : Int
  text : ByteArray
deriving DecidableEq

def Tok.zero : Tok := ⟨0, 0, ⟨#[]⟩⟩
def tokN (ts : List Tok) (i : Nat) : Tok := ts[i]?.getD Tok.zero
theorem tokN_get {ts : List Tok} {i : Nat} {t : Tok} (h : ts[i]? = some t) : tokN ts i = t := by unfold tokN; rw [h]; rfl
theorem tokN_drop {ts : List Tok} {i : Nat} (h : i < ts.length) : ts.drop i = tokN ts i :: ts.drop (i + 1) := by
  rw [List.drop_eq_getElem_cons h]
  have : tokN ts i = ts[i] := tokN_get (List.getElem?_eq_getElem h)
  rw [this]

def rnsF : Nat → List UInt8 → List (List UInt8)
  | 0, _ => []
  | f + 1, l => if runeL l = 0 then [] else l.take (runeL l) :: rnsF f (l.drop (runeL l))
def rns (l : List UInt8) : List (List UInt8) := rnsF l.length l

def IsR (r : List UInt8) : Prop := runeL r = r.length ∧ r ≠ []

def kindB (r : List UInt8) : Nat := if r = [45] then 1 else if r = [43] then 2 else if r = [37] then 3 else if r = [226, 128, 176] then 4 else if r = [194, 164] then 5 else 0
def lettersL : List UInt8 := [48, 49, 50, 51, 52, 53, 54, 55, 56, 57, 35, 64, 44, 46, 59, 42]
def letB : List UInt8 → Bool
  | [c] => lettersL.contains c
  | _ => false
def bndB (r : List UInt8) : Bool := decide (r = [39]) || letB r || decide (kindB r ≠ 0)

def mkB (r : List UInt8) : ByteArray := ⟨r.toArray⟩
theorem bys_mkB (r : List UInt8) : bys (mkB r) = r := rfl
theorem mkB_bys (s : ByteArray) : mkB (bys s) = s := rfl
theorem mkB_app (a b : List UInt8) : mkB (a ++ b) = mkB a ++ mkB b := by
  have : bys (mkB a ++ mkB b) = a ++ b := by rw [bys_append]; rfl
  rw [← mkB_bys (mkB a ++ mkB b), this]

def aft (st : Nat) (r : List UInt8) : Nat :=
  if r = [39] then (if st = 0 then 1 else if st = 1 then 0 else if st = 2 then 3 else 2) else if st = 0 then 0 else if st = 1 then 2 else if st = 2 then 2 else 0

def txtT (r : List UInt8) : Tok := ⟨0, 0, mkB r⟩
def sgnT (k : Nat) : Tok := ⟨k, if k = 5 then 1 else 0, ⟨#[]⟩⟩
def plnT (r : List UInt8) : Tok := if kindB r = 0 then txtT r else sgnT (kindB r)
def joinT (a b : Tok) : Bool := decide (a.kind = b.kind) && (decide (a.kind = 0) || decide (a.kind = 5))
def merT (a t : Tok) : Tok := ⟨a.kind, a.many + t.many, a.text ++ t.text⟩
def addT (l : List Tok) (t : Tok) : List Tok := match l.getLast? with
  | none => [t]
  | some a => if joinT a t then l.dropLast ++ [merT a t] else l ++ [t]
def coinsT (l : List Tok) : Int := match l.getLast? with
  | none => 0
  | some a => if a.kind = 5 then a.many else 0

def stepP (st : Nat) (l : List Tok) (r : List UInt8) : Option (Nat × List Tok) :=
  if aft st r = 1 ∨ aft st r = 3 then some (aft st r, l) else if aft st r = 2 then some (2, addT l (txtT r)) else if letB r then none else if coinsT (addT l (plnT r)) ≤ 3 then some (0, addT l (plnT r)) else none
def runsP : Nat → List Tok → List (List UInt8) → Option (Nat × List Tok)
  | st, l, [] => some (st, l)
  | st, l, r :: rs => match stepP st l r with
    | none => none
    | some q => runsP q.1 q.2 rs

def mayTok (t : Tok) : Bool :=
  if t.kind = 0 then decide (t.text.size ≠ 0) && ((runesL (bys t.text)).isSome && decide (t.many = 0))
  else if t.kind = 1 ∨ t.kind = 2 ∨ t.kind = 3 ∨ t.kind = 4 then decide (t.text.size = 0) && decide (t.many = 0)
  else if t.kind = 5 then decide (t.text.size = 0) && (decide (1 ≤ t.many) && decide (t.many ≤ 3)) else false
def joinO : Option Tok → Tok → Bool
  | none, _ => false
  | some q, t => joinT q t
def badT : Option Tok → List Tok → Bool
  | _, [] => false
  | p, t :: l => (!mayTok t || joinO p t) || badT (some t) l
def sizeT (ts : List Tok) : Nat := (ts.map fun t => t.text.size).sum
def longT (ts : List Tok) : Bool := decide (64 < ts.length) || decide (64 < sizeT ts)
def chkT (ts : List Tok) : Nat := if badT none ts then 131 else if longT ts then 132 else 0

def parseR (l : List UInt8) : Nat × List Tok := match runsP 0 [] (rns l) with
  | none => (131, [])
  | some q => if (runesL l).isNone then (131, []) else if q.1 = 1 ∨ q.1 = 2 then (130, []) else if chkT q.2 = 0 then (0, q.2) else (chkT q.2, [])

def dbl (r : List UInt8) : List UInt8 := if r = [39] then [39, 39] else r
def quoR (row : List (List UInt8)) : List UInt8 := if row.all (fun r => decide (r = [39])) then row.flatMap dbl else 39 :: (row.flatMap dbl ++ [39])
def textF : Nat → List (List UInt8) → List UInt8
  | 0, _ => []
  | _ + 1, [] => []
  | f + 1, r :: rs => if bndB r then quoR ((r :: rs).takeWhile bndB) ++ textF f ((r :: rs).dropWhile bndB) else r ++ textF f rs
def textR (rs : List (List UInt8)) : List UInt8 := textF rs.length rs
def sgnL (k : Int) : List UInt8 := if k = 1 then [45] else if k = 2 then [43] else if k = 3 then [37] else if k = 4 then [226, 128, 176] else if k = 5 then [194, 164] else []
def prtT (t : Tok) : List UInt8 := if t.kind = 0 then textR (rns (bys t.text)) else (List.replicate (max 1 t.many).toNat (sgnL t.kind)).flatten
def prtL (ts : List Tok) : List UInt8 := ts.flatMap prtT
def printR (ts : List Tok) : Nat × List UInt8 := if chkT ts = 0 then (0, prtL ts) else (chkT ts, [])

def turnT (f t : Int) (ts : List Tok) : List Tok := ts.map fun x => if x.kind = f then ⟨t, 0, ⟨#[]⟩⟩ else x
def hasT (ts : List Tok) (k : Int) : Bool := ts.any fun x => decide (x.kind = k)

/- Runes. -/
theorem rnsF_fuel : ∀ (f g : Nat) (l : List UInt8), l.length ≤ f → l.length ≤ g → rnsF f l = rnsF g l
  | 0, 0, _, _, _ => rfl
  | 0, g + 1, l, h, _ => by
    have : l = [] := List.eq_nil_of_length_eq_zero (by omega)
    subst this
    rfl
  | f + 1, 0, l, _, h => by
    have : l = [] := List.eq_nil_of_length_eq_zero (by omega)
    subst this
    rfl
  | f + 1, g + 1, l, h, k => by
    unfold rnsF
    by_cases hr : runeL l = 0
    · rw [if_pos hr, if_pos hr]
    · rw [if_neg hr, if_neg hr]
      have hd : (l.drop (runeL l)).length ≤ f ∧ (l.drop (runeL l)).length ≤ g := by rw [List.length_drop]; omega
      rw [rnsF_fuel f g _ hd.1 hd.2]
theorem rns_nil : rns [] = [] := rfl
theorem rns_bad (l : List UInt8) (h : runeL l = 0) : rns l = [] := by
  unfold rns
  cases l with
  | nil => rfl
  | cons a l => show rnsF (l.length + 1) _ = _; unfold rnsF; rw [if_pos h]
theorem rns_step (l : List UInt8) (h : runeL l ≠ 0) : rns l = l.take (runeL l) :: rns (l.drop (runeL l)) := by
  have hl := (runeL_le l).1
  obtain ⟨n, hn⟩ : ∃ n, l.length = n + 1 := ⟨l.length - 1, by omega⟩
  unfold rns
  rw [hn]
  rw [rnsF, if_neg h]
  rw [rnsF_fuel n (l.drop (runeL l)).length _ (by rw [List.length_drop]; omega) (Nat.le_refl _)]

theorem IsR.len {r : List UInt8} (h : IsR r) : r.length ≠ 0 := fun e => h.2 (List.eq_nil_of_length_eq_zero e)
theorem IsR.ne {r : List UInt8} (h : IsR r) : runeL r ≠ 0 := by rw [h.1]; exact h.len
theorem isR_take (l : List UInt8) (h : runeL l ≠ 0) : IsR (l.take (runeL l)) := by
  have hl := (runeL_le l).1
  have e : (l.take (runeL l)).length = runeL l := by rw [List.length_take]; omega
  refine ⟨?_, ?_⟩
  · rw [runeL_take l _ h (Nat.le_refl _), e]
  · intro q
    rw [q] at e
    exact h e.symm
theorem IsR.app {r : List UInt8} (h : IsR r) (b : List UInt8) : runeL (r ++ b) = r.length := by rw [runeL_app r b h.ne, h.1]
theorem runesL_cons {r : List UInt8} (h : IsR r) (b : List UInt8) : runesL (r ++ b) = (runesL b).map (· + 1) := by
  have e := h.app b
  rw [runesL_step _ (by intro q; exact h.2 (List.append_eq_nil_iff.1 q).1), e, if_neg h.len, List.drop_left' rfl]
theorem rns_isR : ∀ (k : Nat) (l : List UInt8), l.length ≤ k → ∀ r ∈ rns l, IsR r
  | 0, l, h => by
    have : l = [] := List.eq_nil_of_length_eq_zero (by omega)
    subst this
    rw [rns_nil]
    simp
  | k + 1, l, h => by
    by_cases hr : runeL l = 0
    · rw [rns_bad l hr]; simp
    · rw [rns_step l hr]
      intro r hm
      rcases List.mem_cons.1 hm with rfl | hm
      · exact isR_take l hr
      · exact rns_isR k _ (by rw [List.length_drop]; have := (runeL_le l).1; omega) r hm
theorem flat_rns : ∀ (k : Nat) (l : List UInt8), l.length ≤ k → (runesL l).isSome = true → (rns l).flatten = l
  | 0, l, h, _ => by
    have : l = [] := List.eq_nil_of_length_eq_zero (by omega)
    subst this
    rfl
  | k + 1, l, h, hv => by
    by_cases hn : l = []
    · subst hn; rfl
    · rw [runesL_step l hn] at hv
      by_cases hr : runeL l = 0
      · rw [if_pos hr] at hv; cases hv
      · rw [if_neg hr, Option.isSome_map] at hv
        rw [rns_step l hr, List.flatten_cons, flat_rns k _ (by rw [List.length_drop]; have := (runeL_le l).1; omega) hv, List.take_append_drop]

end Go.Proofs.YtobcbffakldfcaaDoor

namespace Go.Proofs.YtobcbffakldfcaaDoor

end Go.Proofs.YtobcbffakldfcaaDoor
