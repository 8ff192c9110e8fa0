/-
  What round's toMultiple answers of any number that may be.
  What round's At, Digits and Step answer, whatever they are handed.
  Plain data of chapter 7: precisions, what is shown, and what the document says of them.
  Plain mathematics: the texts of numbers, their parts, and what they say.
  What dec's cutDigits and unsigned do.
-/
import Derived.Test.YtionbkmbhhlmjaaGreatDoorXB9
import Derived.Test.YtionbkmbhhlmjaaGreatDoorXB2
import Derived.Lib.Strings
import Derived.Lib.Atoi
import Derived.Test.YtionbkmbhhlmjaaGreatDoorXB6
namespace Go.Proofs.YtionbkmbhhlmjaaGreatDoor
open Go.RowKit

end Go.Proofs.YtionbkmbhhlmjaaGreatDoor

namespace Go.Proofs.YtionbkmbhhlmjaaGreatDoor
open Go.RowKit

def zeroD : DecT := ⟨0, false, [], 0⟩

end Go.Proofs.YtionbkmbhhlmjaaGreatDoor

namespace Go.Proofs.YtionbkmbhhlmjaaGreatDoor

structure ShownT where
  cls : Int
  neg : Bool
  int : List UInt8
  frac : List UInt8
  exp : Int
  compact : Bool

def MayS (s : ShownT) : Prop := (-2001 ≤ s.exp ∧ s.exp ≤ 2001) ∧ ((s.cls = 0 ∧ (s.int ≠ [] ∨ s.frac ≠ []) ∧ (s.int.length ≤ 4096 ∧ DigB s.int) ∧ (s.frac.length ≤ 4096 ∧ DigB s.frac)) ∨ (s.cls = 1 ∧ s.int = [] ∧ s.frac = []) ∨ (s.cls = 2 ∧ s.int = [] ∧ s.frac = [] ∧ s.neg = false))

noncomputable def valueS (s : ShownT) : DecT × Int := open Classical in
  if ¬ MayS s then (zeroD, 71) else if s.cls ≠ 0 then (⟨s.cls.toNat, s.neg, [], 0⟩, 0) else tellF s.neg (decV (s.int ++ s.frac)) (s.exp - s.frac.length)

end Go.Proofs.YtionbkmbhhlmjaaGreatDoor

namespace Go.Proofs.YtionbkmbhhlmjaaGreatDoor

def isDg (b : UInt8) : Bool := decide (48 ≤ b.toNat ∧ b.toNat ≤ 57)

def dgs (l : List UInt8) : List UInt8 := l.takeWhile isDg
def aft (l : List UInt8) : List UInt8 := l.dropWhile isDg

theorem dgs_aft (l : List UInt8) : dgs l ++ aft l = l := List.takeWhile_append_dropWhile
theorem dgs_len (l : List UInt8) : (dgs l).length ≤ l.length := by
  have := congrArg List.length (dgs_aft l)
  rw [List.length_append] at this; omega
theorem dgs_take (l : List UInt8) : l.take (dgs l).length = dgs l := by
  have h := congrArg (List.take (dgs l).length) (dgs_aft l)
  rw [List.take_left' rfl] at h; exact h.symm
theorem dgs_drop (l : List UInt8) : l.drop (dgs l).length = aft l := by
  have h := congrArg (List.drop (dgs l).length) (dgs_aft l)
  rw [List.drop_left' rfl] at h; exact h.symm

theorem dgs_digB : ∀ l : List UInt8, DigB (dgs l)
  | [] => fun k hk => by simp [dgs] at hk
  | b :: t => by
    unfold dgs
    by_cases h : isDg b = true
    · rw [List.takeWhile_cons_of_pos h]
      intro k hk
      rcases k with _ | k
      · rw [byt_cons0]; exact of_decide_eq_true h
      · rw [byt_consS]
        exact dgs_digB t k (by unfold dgs; simpa using hk)
    · rw [List.takeWhile_cons_of_neg h]
      intro k hk; simp at hk

theorem dgs_stop : ∀ l : List UInt8, (dgs l).length < l.length → ¬ (48 ≤ byt l (dgs l).length ∧ byt l (dgs l).length ≤ 57)
  | [], h => by simp at h
  | b :: t, h => by
    unfold dgs at *
    by_cases hb : isDg b = true
    · rw [List.takeWhile_cons_of_pos hb] at *
      simp only [List.length_cons] at *
      rw [byt_consS]
      exact dgs_stop t (by unfold dgs; omega)
    · rw [List.takeWhile_cons_of_neg hb]
      simp only [List.length_nil]
      rw [byt_cons0]
      exact fun e => hb (decide_eq_true e)

theorem dgs_at (l : List UInt8) {k : Nat} (h : k < (dgs l).length) : 48 ≤ byt l k ∧ byt l k ≤ 57 := by
  have h1 := dgs_digB l k h
  have h2 := byt_append_left (dgs l) (aft l) h
  rw [dgs_aft] at h2
  rwa [h2]

theorem dgs_all {l : List UInt8} (h : DigB l) : dgs l = l ∧ aft l = [] := by
  have h1 : (dgs l).length = l.length := by
    rcases Nat.lt_or_ge (dgs l).length l.length with e | e
    · exact absurd (h _ e) (dgs_stop l e)
    · have := dgs_len l; omega
  have h2 := dgs_take l
  have h3 := dgs_drop l
  rw [h1, List.take_length] at h2
  rw [h1, List.drop_length] at h3
  exact ⟨h2.symm, h3.symm⟩

theorem dgs_append {a b : List UInt8} (ha : DigB a) (hb : b = [] ∨ ¬ (48 ≤ byt b 0 ∧ byt b 0 ≤ 57)) : dgs (a ++ b) = a ∧ aft (a ++ b) = b := by
  induction a with
  | nil =>
    rcases hb with rfl | hb
    · exact ⟨rfl, rfl⟩
    · cases b with
      | nil => exact ⟨rfl, rfl⟩
      | cons x t =>
        rw [byt_cons0] at hb
        have : ¬ isDg x = true := fun e => hb (of_decide_eq_true e)
        unfold dgs aft
        rw [List.nil_append, List.takeWhile_cons_of_neg this, List.dropWhile_cons_of_neg this]
        exact ⟨rfl, rfl⟩
  | cons x t ih =>
    have h1 : isDg x = true := decide_eq_true ha.head
    obtain ⟨i1, i2⟩ := ih ha.tail
    unfold dgs aft at *
    rw [List.cons_append, List.takeWhile_cons_of_pos h1, List.dropWhile_cons_of_pos h1, i1, i2]
    exact ⟨rfl, rfl⟩

def unsg : List UInt8 → List UInt8
  | [] => []
  | b :: t => if b = 45 ∨ b = 43 then t else b :: t

def powV (l : List UInt8) : Int := if l.head? = some 45 then -(decV (unsg l) : Int) else (decV (unsg l) : Int)

theorem decFrom_val : ∀ (l : List UInt8) (a : Nat), DigB l → Lib.decFrom a l = some (a * 10 ^ l.length + decV l)
  | [], a, _ => by simp [Lib.decFrom, decV]
  | b :: t, a, h => by
    have hb := h.head
    rw [Lib.decFrom, show Lib.digitVal b = some (b.toNat - 48) by unfold Lib.digitVal; rw [if_pos hb]]
    simp only
    rw [decFrom_val t _ h.tail, decV_cons, List.length_cons]
    congr 1
    rw [Nat.add_mul, Nat.mul_assoc, Nat.pow_succ]
    have : 10 * 10 ^ t.length = 10 ^ t.length * 10 := Nat.mul_comm _ _
    rw [this]; omega

theorem decNat_val {l : List UInt8} (h0 : l ≠ []) (h : DigB l) : Lib.decNat l = some (decV l) := by
  unfold Lib.decNat
  have : l.isEmpty = false := by simpa using h0
  rw [this, decFrom_val l 0 h]
  simp

theorem atoi_val {l : List UInt8} (h0 : dgs (unsg l) ≠ []) (h1 : aft (unsg l) = []) : Lib.atoi l = some (powV l) := by
  have h2 : dgs (unsg l) = unsg l := by have := dgs_aft (unsg l); rwa [h1, List.append_nil] at this
  have hd : DigB (unsg l) := by rw [← h2]; exact dgs_digB _
  rw [h2] at h0
  cases l with
  | nil => exact absurd rfl h0
  | cons b t =>
    by_cases e1 : b = 45
    · subst e1
      have e : unsg (45 :: t) = t := rfl
      rw [e] at h0 hd
      unfold powV Lib.atoi
      rw [e]
      simp [decNat_val h0 hd]
    · by_cases e2 : b = 43
      · subst e2
        have e : unsg (43 :: t) = t := rfl
        rw [e] at h0 hd
        unfold powV Lib.atoi
        rw [e]
        simp [decNat_val h0 hd]
      · have e : unsg (b :: t) = b :: t := by simp [unsg, e1, e2]
        rw [e] at h0 hd
        unfold powV Lib.atoi
        rw [e]
        simp [e1, e2, decNat_val h0 hd]

structure Parts where
  neg : Bool
  ahead : List UInt8
  behind : List UInt8
  pow : Int

def p1 (s : List UInt8) : List UInt8 := Lib.trimPrefix s [45]
def p2 (s : List UInt8) : List UInt8 := aft (p1 s)
def pDot (s : List UInt8) : Bool := Lib.hasPrefix (p2 s) [46]
def pAhead (s : List UInt8) : List UInt8 := dgs (p1 s)
def pBehind (s : List UInt8) : List UInt8 := if pDot s then dgs (Lib.trimPrefix (p2 s) [46]) else []
def p3 (s : List UInt8) : List UInt8 := if pDot s then aft (Lib.trimPrefix (p2 s) [46]) else p2 s
def p4 (s : List UInt8) : List UInt8 := (p3 s).drop 1

def parseT (s : List UInt8) : Option Parts :=
  if pAhead s = [] ∧ pBehind s = [] then none
  else if p3 s = [] then some ⟨Lib.hasPrefix s [45], pAhead s, pBehind s, 0⟩
  else if ¬ (byt (p3 s) 0 = 101 ∨ byt (p3 s) 0 = 69) then none
  else if dgs (unsg (p4 s)) = [] ∨ 5 < (dgs (unsg (p4 s))).length ∨ aft (unsg (p4 s)) ≠ [] then none
  else some ⟨Lib.hasPrefix s [45], pAhead s, pBehind s, powV (p4 s)⟩

end Go.Proofs.YtionbkmbhhlmjaaGreatDoor

namespace Go.Proofs.YtionbkmbhhlmjaaGreatDoor
open Go.RowKit

theorem hp_one (l : List UInt8) (c : UInt8) : Lib.hasPrefix l [c] = decide (l.head? = some c) := by
  unfold Lib.hasPrefix
  cases l with
  | nil => rfl
  | cons b t =>
    by_cases h : b = c
    · subst h; simp
    · have h' : ¬ c = b := fun e => h e.symm
      show (c == b && List.isPrefixOf [] t) = _
      simp [h, h']

theorem head_pos {l : List UInt8} {c : UInt8} (h : l.head? = some c) : 0 < l.length := by
  cases l with
  | nil => simp at h
  | cons b t => simp

theorem unsg_drop {l : List UInt8} (h : l.head? = some 45 ∨ l.head? = some 43) : unsg l = l.drop 1 := by
  cases l with
  | nil => rfl
  | cons b t => simp at h; simp [unsg, h]

theorem unsg_same {l : List UInt8} (h1 : ¬ l.head? = some 45) (h2 : ¬ l.head? = some 43) : unsg l = l := by
  cases l with
  | nil => rfl
  | cons b t => simp at h1 h2; simp [unsg, h1, h2]

set_option maxHeartbeats 1000000 in
theorem dcut_any (s : ByteArray) (w : World) (hs : s.size ≤ 281474976710656) :
    Calls Tryz.prog 69 #[.string s] w fun e w' => e = .returned (.tuple #[.string ⟨(dgs (bys s)).toArray⟩, .string ⟨(aft (bys s)).toArray⟩]) ∧ Below w.heap.size w w' := by
  have H1 := hide (fun (k : Nat) (h : k < (dgs (bys s)).length) => dgs_at (bys s) h)
  have H2 := hide (dgs_stop (bys s))
  have H3 := hide (dgs_take (bys s))
  have H4 := hide (dgs_drop (bys s))
  have hle := dgs_len (bys s)
  rw [bys_len] at hle H2
  obtain ⟨n, hn⟩ : ∃ n, n = (dgs (bys s)).length := ⟨_, rfl⟩
  rw [← hn] at hle H1 H2 H3 H4
  obtain ⟨A, hA⟩ : ∃ A : ByteArray, A = ⟨(dgs (bys s)).toArray⟩ := ⟨_, rfl⟩
  obtain ⟨B, hB⟩ : ∃ B : ByteArray, B = ⟨(aft (bys s)).toArray⟩ := ⟨_, rfl⟩
  have HA : Hid (s.extract 0 n = A) := by rw [hA, ← H3.out, Lib.extract_upto]; rfl
  have HB : Hid (s.extract n s.size = B) := by rw [hB, ← H4.out, Lib.extract_from]; rfl
  rw [← hA, ← hB]
  clear hn hA hB H3 H4
  go_enter Tryz.func69, Tryz.ntmps69
  go_wp2
  go_loopw [4] (fun i wr => ∃ k : Nat, k ≤ n ∧ i = .int .i64 (k : Int) ∧ wr = w) (fun i _ => n - (intOf i).toNat)
  case atStart => exact ⟨0, Nat.zero_le _, rfl, rfl⟩
  case round =>
    obtain ⟨k, hk, rfl, rfl⟩ := hrel
    by_cases hlt : k < n
    · have hlt' : (k : Int) < (s.size : Int) := by omega
      have hks : k < s.size := by omega
      have hg : ∀ h : k < s.size, s[k].toNat = byt (bys s) k := fun h => byt_get s k h
      have hb := H1.out k hlt
      obtain ⟨b, hbb⟩ : ∃ b, b = byt (bys s) k := ⟨_, rfl⟩
      rw [← hbb] at hg hb
      have h1' : decide ((48 : Int) ≤ (b : Int)) = true := decide_eq_true (by omega)
      have h2' : decide ((b : Int) ≤ 57) = true := decide_eq_true (by omega)
      have h1'' : (48 : Int) ≤ (b : Int) := by omega
      have h2'' : (b : Int) ≤ 57 := by omega
      clear hbb
      go_wp2
      exact ⟨⟨k + 1, by omega, by go_num, trivial⟩, by simp [intOf]; omega⟩
    · have hkn : k = n := by omega
      by_cases hend : k < s.size
      · have hlt' : (k : Int) < (s.size : Int) := by omega
        have hg : ∀ h : k < s.size, s[k].toNat = byt (bys s) k := fun h => byt_get s k h
        have hb := H2.out (by omega)
        rw [← hkn] at hb
        obtain ⟨b, hbb⟩ : ∃ b, b = byt (bys s) k := ⟨_, rfl⟩
        rw [← hbb] at hg hb
        rw [← hkn] at HA HB
        clear hbb hkn hlt
        by_cases h1 : 48 ≤ b
        · have h1'' : (48 : Int) ≤ (b : Int) := by omega
          have h2'' : ¬ (b : Int) ≤ 57 := by omega
          go_wp2
          go_region
          go_wp2
          go_ret2
          rw [HA.out, HB.out]
          exact ⟨rfl, (Below.refl _ _).drew⟩
        · have h1'' : ¬ (48 : Int) ≤ (b : Int) := by omega
          go_wp2
          go_region
          go_wp2
          go_ret2
          rw [HA.out, HB.out]
          exact ⟨rfl, (Below.refl _ _).drew⟩
      · have hlt' : ¬ (k : Int) < (s.size : Int) := by omega
        rw [← hkn] at HA HB
        clear hkn hlt
        go_wp2
        go_region
        go_wp2
        go_ret2
        rw [HA.out, HB.out]
        exact ⟨rfl, (Below.refl _ _).drew⟩

set_option maxHeartbeats 1000000 in
theorem unsigned_any (s : ByteArray) (w : World) :
    Calls Tryz.prog 70 #[.string s] w fun e w' => e = .returned (.string ⟨(unsg (bys s)).toArray⟩) ∧ w = w' := by
  have P1 := hide (fun W => Tryz.strings_HasPrefix s ⟨#[45]⟩ W)
  have P2 := hide (fun W => Tryz.strings_HasPrefix s ⟨#[43]⟩ W)
  have hp1 : Lib.hasPrefix s.data.toList [45] = decide ((bys s).head? = some 45) := hp_one (bys s) 45
  have hp2 : Lib.hasPrefix s.data.toList [43] = decide ((bys s).head? = some 43) := hp_one (bys s) 43
  have e1 : (⟨#[45]⟩ : ByteArray).data.toList = [45] := rfl
  have e2 : (⟨#[43]⟩ : ByteArray).data.toList = [43] := rfl
  rw [e1, hp1] at P1
  rw [e2, hp2] at P2
  clear hp1 hp2 e1 e2
  by_cases h1 : (bys s).head? = some 45
  · rw [decide_eq_true h1] at P1
    have HU : Hid (s.extract 1 s.size = ⟨(unsg (bys s)).toArray⟩) := by rw [Lib.extract_from]; rw [unsg_drop (.inl h1)]; rfl
    have hs : (1 : Int) ≤ (s.size : Int) := by have := head_pos h1; rw [bys_len] at this; omega
    clear h1 P2
    go_enter Tryz.func70, Tryz.ntmps70
    go_wp2_with fail
    refine (P1.out _).mono ?_
    rintro e w' ⟨rfl, rfl⟩
    go_wp2
    go_ret
    rw [HU.out]
    exact ⟨rfl, rfl⟩
  · rw [decide_eq_false h1] at P1
    by_cases h2 : (bys s).head? = some 43
    · rw [decide_eq_true h2] at P2
      have HU : Hid (s.extract 1 s.size = ⟨(unsg (bys s)).toArray⟩) := by rw [Lib.extract_from]; rw [unsg_drop (.inr h2)]; rfl
      have hs : (1 : Int) ≤ (s.size : Int) := by have := head_pos h2; rw [bys_len] at this; omega
      clear h1 h2
      go_enter Tryz.func70, Tryz.ntmps70
      go_wp2_with fail
      refine (P1.out _).mono ?_
      rintro e w' ⟨rfl, rfl⟩
      go_wp2_with fail
      refine (P2.out _).mono ?_
      rintro e w' ⟨rfl, rfl⟩
      go_wp2
      go_ret
      rw [HU.out]
      exact ⟨rfl, rfl⟩
    · rw [decide_eq_false h2] at P2
      have HU : Hid (s = ⟨(unsg (bys s)).toArray⟩) := by rw [unsg_same h1 h2]; exact (mk_bys s).symm
      clear h1 h2
      go_enter Tryz.func70, Tryz.ntmps70
      go_wp2_with fail
      refine (P1.out _).mono ?_
      rintro e w' ⟨rfl, rfl⟩
      go_wp2_with fail
      refine (P2.out _).mono ?_
      rintro e w' ⟨rfl, rfl⟩
      go_wp2
      go_ret
      rw [← HU.out]
      exact ⟨rfl, rfl⟩

end Go.Proofs.YtionbkmbhhlmjaaGreatDoor
