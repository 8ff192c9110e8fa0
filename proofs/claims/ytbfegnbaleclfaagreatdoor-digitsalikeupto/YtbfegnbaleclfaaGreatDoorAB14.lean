/-
  Plain mathematics: the texts of numbers, their parts, and what they say.
  What dec's cutDigits and unsigned do.
  What dec's takeApart does: the parts of a text of a number.
  What dec's Parse does.
-/
import Derived.Test.YtbfegnbaleclfaaGreatDoorAB2
import Derived.Lib.Strings
import Derived.Lib.Atoi
import Derived.Test.YtbfegnbaleclfaaGreatDoorAB6
import Derived.WalkMore
import Derived.Lib.SmallJoins
import Derived.Test.YtbfegnbaleclfaaGreatDoorAB8
namespace Go.Proofs.YtbfegnbaleclfaaGreatDoor

def isDg (b : UInt8) : Bool := decide (48 ≤ b.toNat ∧ b.toNat ≤ 57)

def dgs (l : List UInt8) : List UInt8 := l.takeWhile isDg
def aft (l : List UInt8) : List UInt8 := l.dropWhile isDg

theorem dgs_aft (l : List UInt8) : dgs l ++ aft l = l := List.takeWhile_append_dropWhile
theorem dgs_len (l : List UInt8) : (dgs l).length ≤ l.length := by
  have := congrArg List.length (dgs_aft l)
  rw [List.length_append] at this; omega
theorem dgs_take (l : List UInt8) : l.take (dgs l).length = dgs l := by
  have h := congrArg (List.take (dgs l).length) (dgs_aft l)
  rw [List.take_left' rfl] at h; exact h.symm
theorem dgs_drop (l : List UInt8) : l.drop (dgs l).length = aft l := by
  have h := congrArg (List.drop (dgs l).length) (dgs_aft l)
  rw [List.drop_left' rfl] at h; exact h.symm

theorem dgs_digB : ∀ l : List UInt8, DigB (dgs l)
  | [] => fun k hk => by simp [dgs] at hk
  | b :: t => by
    unfold dgs
    by_cases h : isDg b = true
    · rw [List.takeWhile_cons_of_pos h]
      intro k hk
      rcases k with _ | k
      · rw [byt_cons0]; exact of_decide_eq_true h
      · rw [byt_consS]
        exact dgs_digB t k (by unfold dgs; simpa using hk)
    · rw [List.takeWhile_cons_of_neg h]
      intro k hk; simp at hk

theorem dgs_stop : ∀ l : List UInt8, (dgs l).length < l.length → ¬ (48 ≤ byt l (dgs l).length ∧ byt l (dgs l).length ≤ 57)
  | [], h => by simp at h
  | b :: t, h => by
    unfold dgs at *
    by_cases hb : isDg b = true
    · rw [List.takeWhile_cons_of_pos hb] at *
      simp only [List.length_cons] at *
      rw [byt_consS]
      exact dgs_stop t (by unfold dgs; omega)
    · rw [List.takeWhile_cons_of_neg hb]
      simp only [List.length_nil]
      rw [byt_cons0]
      exact fun e => hb (decide_eq_true e)

theorem dgs_at (l : List UInt8) {k : Nat} (h : k < (dgs l).length) : 48 ≤ byt l k ∧ byt l k ≤ 57 := by
  have h1 := dgs_digB l k h
  have h2 := byt_append_left (dgs l) (aft l) h
  rw [dgs_aft] at h2
  rwa [h2]

theorem dgs_all {l : List UInt8} (h : DigB l) : dgs l = l ∧ aft l = [] := by
  have h1 : (dgs l).length = l.length := by
    rcases Nat.lt_or_ge (dgs l).length l.length with e | e
    · exact absurd (h _ e) (dgs_stop l e)
    · have := dgs_len l; omega
  have h2 := dgs_take l
  have h3 := dgs_drop l
  rw [h1, List.take_length] at h2
  rw [h1, List.drop_length] at h3
  exact ⟨h2.symm, h3.symm⟩

theorem dgs_append {a b : List UInt8} (ha : DigB a) (hb : b = [] ∨ ¬ (48 ≤ byt b 0 ∧ byt b 0 ≤ 57)) : dgs (a ++ b) = a ∧ aft (a ++ b) = b := by
  induction a with
  | nil =>
    rcases hb with rfl | hb
    · exact ⟨rfl, rfl⟩
    · cases b with
      | nil => exact ⟨rfl, rfl⟩
      | cons x t =>
        rw [byt_cons0] at hb
        have : ¬ isDg x = true := fun e => hb (of_decide_eq_true e)
        unfold dgs aft
        rw [List.nil_append, List.takeWhile_cons_of_neg this, List.dropWhile_cons_of_neg this]
        exact ⟨rfl, rfl⟩
  | cons x t ih =>
    have h1 : isDg x = true := decide_eq_true ha.head
    obtain ⟨i1, i2⟩ := ih ha.tail
    unfold dgs aft at *
    rw [List.cons_append, List.takeWhile_cons_of_pos h1, List.dropWhile_cons_of_pos h1, i1, i2]
    exact ⟨rfl, rfl⟩

def unsg : List UInt8 → List UInt8
  | [] => []
  | b :: t => if b = 45 ∨ b = 43 then t else b :: t

def powV (l : List UInt8) : Int := if l.head? = some 45 then -(decV (unsg l) : Int) else (decV (unsg l) : Int)

theorem decFrom_val : ∀ (l : List UInt8) (a : Nat), DigB l → Lib.decFrom a l = some (a * 10 ^ l.length + decV l)
  | [], a, _ => by simp [Lib.decFrom, decV]
  | b :: t, a, h => by
    have hb := h.head
    rw [Lib.decFrom, show Lib.digitVal b = some (b.toNat - 48) by unfold Lib.digitVal; rw [if_pos hb]]
    simp only
    rw [decFrom_val t _ h.tail, decV_cons, List.length_cons]
    congr 1
    rw [Nat.add_mul, Nat.mul_assoc, Nat.pow_succ]
    have : 10 * 10 ^ t.length = 10 ^ t.length * 10 := Nat.mul_comm _ _
    rw [this]; omega

theorem decNat_val {l : List UInt8} (h0 : l ≠ []) (h : DigB l) : Lib.decNat l = some (decV l) := by
  unfold Lib.decNat
  have : l.isEmpty = false := by simpa using h0
  rw [this, decFrom_val l 0 h]
  simp

theorem atoi_val {l : List UInt8} (h0 : dgs (unsg l) ≠ []) (h1 : aft (unsg l) = []) : Lib.atoi l = some (powV l) := by
  have h2 : dgs (unsg l) = unsg l := by have := dgs_aft (unsg l); rwa [h1, List.append_nil] at this
  have hd : DigB (unsg l) := by rw [← h2]; exact dgs_digB _
  rw [h2] at h0
  cases l with
  | nil => exact absurd rfl h0
  | cons b t =>
    by_cases e1 : b = 45
    · subst e1
      have e : unsg (45 :: t) = t := rfl
      rw [e] at h0 hd
      unfold powV Lib.atoi
      rw [e]
      simp [decNat_val h0 hd]
    · by_cases e2 : b = 43
      · subst e2
        have e : unsg (43 :: t) = t := rfl
        rw [e] at h0 hd
        unfold powV Lib.atoi
        rw [e]
        simp [decNat_val h0 hd]
      · have e : unsg (b :: t) = b :: t := by simp [unsg, e1, e2]
        rw [e] at h0 hd
        unfold powV Lib.atoi
        rw [e]
        simp [e1, e2, decNat_val h0 hd]

structure Parts where
  neg : Bool
  ahead : List UInt8
  behind : List UInt8
  pow : Int

def p1 (s : List UInt8) : List UInt8 := Lib.trimPrefix s [45]
def p2 (s : List UInt8) : List UInt8 := aft (p1 s)
def pDot (s : List UInt8) : Bool := Lib.hasPrefix (p2 s) [46]
def pAhead (s : List UInt8) : List UInt8 := dgs (p1 s)
def pBehind (s : List UInt8) : List UInt8 := if pDot s then dgs (Lib.trimPrefix (p2 s) [46]) else []
def p3 (s : List UInt8) : List UInt8 := if pDot s then aft (Lib.trimPrefix (p2 s) [46]) else p2 s
def p4 (s : List UInt8) : List UInt8 := (p3 s).drop 1

def parseT (s : List UInt8) : Option Parts :=
  if pAhead s = [] ∧ pBehind s = [] then none
  else if p3 s = [] then some ⟨Lib.hasPrefix s [45], pAhead s, pBehind s, 0⟩
  else if ¬ (byt (p3 s) 0 = 101 ∨ byt (p3 s) 0 = 69) then none
  else if dgs (unsg (p4 s)) = [] ∨ 5 < (dgs (unsg (p4 s))).length ∨ aft (unsg (p4 s)) ≠ [] then none
  else some ⟨Lib.hasPrefix s [45], pAhead s, pBehind s, powV (p4 s)⟩

end Go.Proofs.YtbfegnbaleclfaaGreatDoor

namespace Go.Proofs.YtbfegnbaleclfaaGreatDoor
open Go.RowKit

theorem hp_one (l : List UInt8) (c : UInt8) : Lib.hasPrefix l [c] = decide (l.head? = some c) := by
  unfold Lib.hasPrefix
  cases l with
  | nil => rfl
  | cons b t =>
    by_cases h : b = c
    · subst h; simp
    · have h' : ¬ c = b := fun e => h e.symm
      show (c == b && List.isPrefixOf [] t) = _
      simp [h, h']

theorem head_pos {l : List UInt8} {c : UInt8} (h : l.head? = some c) : 0 < l.length := by
  cases l with
  | nil => simp at h
  | cons b t => simp

theorem unsg_drop {l : List UInt8} (h : l.head? = some 45 ∨ l.head? = some 43) : unsg l = l.drop 1 := by
  cases l with
  | nil => rfl
  | cons b t => simp at h; simp [unsg, h]

theorem unsg_same {l : List UInt8} (h1 : ¬ l.head? = some 45) (h2 : ¬ l.head? = some 43) : unsg l = l := by
  cases l with
  | nil => rfl
  | cons b t => simp at h1 h2; simp [unsg, h1, h2]

set_option maxHeartbeats 1000000 in
theorem dcut_any (s : ByteArray) (w : World) (hs : s.size ≤ 281474976710656) :
    Calls Tryz.prog 44 #[.string s] w fun e w' => e = .returned (.tuple #[.string ⟨(dgs (bys s)).toArray⟩, .string ⟨(aft (bys s)).toArray⟩]) ∧ Below w.heap.size w w' := by
  have H1 := hide (fun (k : Nat) (h : k < (dgs (bys s)).length) => dgs_at (bys s) h)
  have H2 := hide (dgs_stop (bys s))
  have H3 := hide (dgs_take (bys s))
  have H4 := hide (dgs_drop (bys s))
  have hle := dgs_len (bys s)
  rw [bys_len] at hle H2
  obtain ⟨n, hn⟩ : ∃ n, n = (dgs (bys s)).length := ⟨_, rfl⟩
  rw [← hn] at hle H1 H2 H3 H4
  obtain ⟨A, hA⟩ : ∃ A : ByteArray, A = ⟨(dgs (bys s)).toArray⟩ := ⟨_, rfl⟩
  obtain ⟨B, hB⟩ : ∃ B : ByteArray, B = ⟨(aft (bys s)).toArray⟩ := ⟨_, rfl⟩
  have HA : Hid (s.extract 0 n = A) := by rw [hA, ← H3.out, Lib.extract_upto]; rfl
  have HB : Hid (s.extract n s.size = B) := by rw [hB, ← H4.out, Lib.extract_from]; rfl
  rw [← hA, ← hB]
  clear hn hA hB H3 H4
  go_enter Tryz.func44, Tryz.ntmps44
  go_wp2
  go_loopw [4] (fun i wr => ∃ k : Nat, k ≤ n ∧ i = .int .i64 (k : Int) ∧ wr = w) (fun i _ => n - (intOf i).toNat)
  case atStart => exact ⟨0, Nat.zero_le _, rfl, rfl⟩
  case round =>
    obtain ⟨k, hk, rfl, rfl⟩ := hrel
    by_cases hlt : k < n
    · have hlt' : (k : Int) < (s.size : Int) := by omega
      have hks : k < s.size := by omega
      have hg : ∀ h : k < s.size, s[k].toNat = byt (bys s) k := fun h => byt_get s k h
      have hb := H1.out k hlt
      obtain ⟨b, hbb⟩ : ∃ b, b = byt (bys s) k := ⟨_, rfl⟩
      rw [← hbb] at hg hb
      have h1' : decide ((48 : Int) ≤ (b : Int)) = true := decide_eq_true (by omega)
      have h2' : decide ((b : Int) ≤ 57) = true := decide_eq_true (by omega)
      have h1'' : (48 : Int) ≤ (b : Int) := by omega
      have h2'' : (b : Int) ≤ 57 := by omega
      clear hbb
      go_wp2
      exact ⟨⟨k + 1, by omega, by go_num, trivial⟩, by simp [intOf]; omega⟩
    · have hkn : k = n := by omega
      by_cases hend : k < s.size
      · have hlt' : (k : Int) < (s.size : Int) := by omega
        have hg : ∀ h : k < s.size, s[k].toNat = byt (bys s) k := fun h => byt_get s k h
        have hb := H2.out (by omega)
        rw [← hkn] at hb
        obtain ⟨b, hbb⟩ : ∃ b, b = byt (bys s) k := ⟨_, rfl⟩
        rw [← hbb] at hg hb
        rw [← hkn] at HA HB
        clear hbb hkn hlt
        by_cases h1 : 48 ≤ b
        · have h1'' : (48 : Int) ≤ (b : Int) := by omega
          have h2'' : ¬ (b : Int) ≤ 57 := by omega
          go_wp2
          go_region
          go_wp2
          go_ret2
          rw [HA.out, HB.out]
          exact ⟨rfl, (Below.refl _ _).drew⟩
        · have h1'' : ¬ (48 : Int) ≤ (b : Int) := by omega
          go_wp2
          go_region
          go_wp2
          go_ret2
          rw [HA.out, HB.out]
          exact ⟨rfl, (Below.refl _ _).drew⟩
      · have hlt' : ¬ (k : Int) < (s.size : Int) := by omega
        rw [← hkn] at HA HB
        clear hkn hlt
        go_wp2
        go_region
        go_wp2
        go_ret2
        rw [HA.out, HB.out]
        exact ⟨rfl, (Below.refl _ _).drew⟩

set_option maxHeartbeats 1000000 in
theorem unsigned_any (s : ByteArray) (w : World) :
    Calls Tryz.prog 45 #[.string s] w fun e w' => e = .returned (.string ⟨(unsg (bys s)).toArray⟩) ∧ w = w' := by
  have P1 := hide (fun W => Tryz.strings_HasPrefix s ⟨#[45]⟩ W)
  have P2 := hide (fun W => Tryz.strings_HasPrefix s ⟨#[43]⟩ W)
  have hp1 : Lib.hasPrefix s.data.toList [45] = decide ((bys s).head? = some 45) := hp_one (bys s) 45
  have hp2 : Lib.hasPrefix s.data.toList [43] = decide ((bys s).head? = some 43) := hp_one (bys s) 43
  have e1 : (⟨#[45]⟩ : ByteArray).data.toList = [45] := rfl
  have e2 : (⟨#[43]⟩ : ByteArray).data.toList = [43] := rfl
  rw [e1, hp1] at P1
  rw [e2, hp2] at P2
  clear hp1 hp2 e1 e2
  by_cases h1 : (bys s).head? = some 45
  · rw [decide_eq_true h1] at P1
    have HU : Hid (s.extract 1 s.size = ⟨(unsg (bys s)).toArray⟩) := by rw [Lib.extract_from]; rw [unsg_drop (.inl h1)]; rfl
    have hs : (1 : Int) ≤ (s.size : Int) := by have := head_pos h1; rw [bys_len] at this; omega
    clear h1 P2
    go_enter Tryz.func45, Tryz.ntmps45
    go_wp2_with fail
    refine (P1.out _).mono ?_
    rintro e w' ⟨rfl, rfl⟩
    go_wp2
    go_ret
    rw [HU.out]
    exact ⟨rfl, rfl⟩
  · rw [decide_eq_false h1] at P1
    by_cases h2 : (bys s).head? = some 43
    · rw [decide_eq_true h2] at P2
      have HU : Hid (s.extract 1 s.size = ⟨(unsg (bys s)).toArray⟩) := by rw [Lib.extract_from]; rw [unsg_drop (.inr h2)]; rfl
      have hs : (1 : Int) ≤ (s.size : Int) := by have := head_pos h2; rw [bys_len] at this; omega
      clear h1 h2
      go_enter Tryz.func45, Tryz.ntmps45
      go_wp2_with fail
      refine (P1.out _).mono ?_
      rintro e w' ⟨rfl, rfl⟩
      go_wp2_with fail
      refine (P2.out _).mono ?_
      rintro e w' ⟨rfl, rfl⟩
      go_wp2
      go_ret
      rw [HU.out]
      exact ⟨rfl, rfl⟩
    · rw [decide_eq_false h2] at P2
      have HU : Hid (s = ⟨(unsg (bys s)).toArray⟩) := by rw [unsg_same h1 h2]; exact (mk_bys s).symm
      clear h1 h2
      go_enter Tryz.func45, Tryz.ntmps45
      go_wp2_with fail
      refine (P1.out _).mono ?_
      rintro e w' ⟨rfl, rfl⟩
      go_wp2_with fail
      refine (P2.out _).mono ?_
      rintro e w' ⟨rfl, rfl⟩
      go_wp2
      go_ret
      rw [← HU.out]
      exact ⟨rfl, rfl⟩

end Go.Proofs.YtbfegnbaleclfaaGreatDoor

namespace Go.Proofs.YtbfegnbaleclfaaGreatDoor
open Go.RowKit

section
variable {w : World} {b : Nat} {t : TypeId} {x0 x1 x2 x3 : Value}
theorem Blk.set0 (h : Blk w b #[x0, x1, x2, x3] t) (y : Value) : Blk (w.setCell ⟨b, 0, none⟩ y) b #[y, x1, x2, x3] t := by
  unfold Blk at *
  simp only [World.setCell, Array.getElem?_modify, if_true, h, Option.map_some]
  rfl
theorem Blk.set1 (h : Blk w b #[x0, x1, x2, x3] t) (y : Value) : Blk (w.setCell ⟨b, 1, none⟩ y) b #[x0, y, x2, x3] t := by
  unfold Blk at *
  simp only [World.setCell, Array.getElem?_modify, if_true, h, Option.map_some]
  rfl
theorem Blk.set2 (h : Blk w b #[x0, x1, x2, x3] t) (y : Value) : Blk (w.setCell ⟨b, 2, none⟩ y) b #[x0, x1, y, x3] t := by
  unfold Blk at *
  simp only [World.setCell, Array.getElem?_modify, if_true, h, Option.map_some]
  rfl
end

abbrev numV (neg : Bool) (a b : List UInt8) (p : Int) : Value := .agg #[.bool neg, .string ⟨a.toArray⟩, .string ⟨b.toArray⟩, .int .i64 p]
def partsV : Option Parts → Value
  | none => .tuple #[numV false [] [] 0, .bool false]
  | some p => .tuple #[numV p.neg p.ahead p.behind p.pow, .bool true]

theorem results_num2 {fn : Func} {a c : Tmp} (h : fn.results = #[.cell a 71, .tmp c]) (tmps : Array Value) (H : Nat) (x0 x1 x2 x3 : Value) (w : World) (ht : tmps.getD a undef = .pointer (some ⟨H, 0, none⟩)) (hp : Blk w H #[x0, x1, x2, x3] 71) :
    (results fn tmps).run Tryz.prog w = .ok (.tuple #[.agg #[x0, x1, x2, x3], tmps.getD c undef]) w := by
  have c0 := hp.cell 0
  have c1 := hp.cell 1
  have c2 := hp.cell 2
  have c3 := hp.cell 3
  simp at c0 c1 c2 c3
  rw [Array.getD_eq_getD_getElem?] at ht
  simp [results, h, ht, go_sem, c0, c1, c2, c3]

def restK (s : List UInt8) : Nat → List UInt8
  | 0 => s
  | 1 => p1 s
  | 2 => p2 s
  | 3 => p3 s
  | _ => p4 s
def negK (s : List UInt8) (k : Nat) : Bool := if k = 0 then false else Lib.hasPrefix s [45]
def aheadK (s : List UInt8) (k : Nat) : List UInt8 := if k ≤ 1 then [] else pAhead s
def behindK (s : List UInt8) (k : Nat) : List UInt8 := if k ≤ 2 then [] else pBehind s

structure TakeInv (s : List UInt8) (w : World) (k : Nat) (r : Value) (wr : World) : Prop where
  hk : k ≤ 4
  hr : r = .string ⟨(restK s k).toArray⟩
  low : Below w.heap.size w wr
  res : Blk wr w.heap.size #[.bool false, .string ⟨#[]⟩, .string ⟨#[]⟩, .int .i64 0] 71
  num : Blk wr (w.heap.size + 1) #[.bool (negK s k), .string ⟨(aheadK s k).toArray⟩, .string ⟨(behindK s k).toArray⟩, .int .i64 0] 71
  some : 3 ≤ k → ¬ (pAhead s = [] ∧ pBehind s = [])
  mark : 4 ≤ k → p3 s ≠ [] ∧ (byt (p3 s) 0 = 101 ∨ byt (p3 s) 0 = 69)

theorem mk_data0 (l : List UInt8) : (⟨l.toArray⟩ : ByteArray).data.toList = l := by simp

theorem cutp (L : List UInt8) (c : UInt8) (W : World) : Calls Tryz.prog 43 #[.string ⟨L.toArray⟩, .string ⟨#[c]⟩] W fun e w' => e = .returned (.tuple #[.string ⟨(Lib.trimPrefix L [c]).toArray⟩, .bool (Lib.hasPrefix L [c])]) ∧ w' = W := by
  have h := Tryz.strings_CutPrefix ⟨L.toArray⟩ ⟨#[c]⟩ W
  rw [mk_data0] at h
  exact h

theorem cutd (L : List UInt8) (W : World) (h : L.length ≤ 281474976710656) : Calls Tryz.prog 44 #[.string ⟨L.toArray⟩] W fun e w' => e = .returned (.tuple #[.string ⟨(dgs L).toArray⟩, .string ⟨(aft L).toArray⟩]) ∧ Below W.heap.size W w' := by
  have h := dcut_any ⟨L.toArray⟩ W (by rw [size_mk0]; exact h)
  rw [bys_mk] at h
  exact h

theorem unsd (L : List UInt8) (W : World) : Calls Tryz.prog 45 #[.string ⟨L.toArray⟩] W fun e w' => e = .returned (.string ⟨(unsg L).toArray⟩) ∧ W = w' := by
  have h := unsigned_any ⟨L.toArray⟩ W
  rw [bys_mk] at h
  exact h

theorem atoi_len {l : List UInt8} (h2 : ¬ 5 < (dgs (unsg l)).length) (h3 : aft (unsg l) = []) : l.length ≤ 18 := by
  have h4 := congrArg List.length (dgs_aft (unsg l))
  rw [List.length_append, h3, List.length_nil] at h4
  have h5 : l.length ≤ (unsg l).length + 1 := by
    cases l with
    | nil => simp
    | cons b t => by_cases h : b = 45 ∨ b = 43 <;> simp [unsg, h]
  omega

theorem bytes_below (w : World) (T : TypeId) (t : ByteArray) : Below w.heap.size w (Lib.bytesWorld w T t) := Joins.below_bytesWorld _ w T t (Nat.le_refl _)

theorem tp_len (l p : List UInt8) : (Lib.trimPrefix l p).length ≤ l.length := Lib.trimPrefix_le l p
theorem aft_len (l : List UInt8) : (aft l).length ≤ l.length := by
  have := congrArg List.length (dgs_aft l)
  rw [List.length_append] at this; omega
theorem p1_len (s : List UInt8) : (p1 s).length ≤ s.length := tp_len _ _
theorem p2_len (s : List UInt8) : (p2 s).length ≤ s.length := Nat.le_trans (aft_len _) (p1_len s)
theorem p3_len (s : List UInt8) : (p3 s).length ≤ s.length := by
  unfold p3; split
  · exact Nat.le_trans (aft_len _) (Nat.le_trans (tp_len _ _) (p2_len s))
  · exact p2_len s
theorem unsg_len (l : List UInt8) : (unsg l).length ≤ l.length := by
  cases l with
  | nil => simp [unsg]
  | cons b t => unfold unsg; simp only; split <;> simp
theorem p4_len (s : List UInt8) : (p4 s).length ≤ s.length := by
  unfold p4; rw [List.length_drop]; have := p3_len s; omega

set_option maxRecDepth 100000 in
set_option maxHeartbeats 2000000 in
theorem take_any (s : ByteArray) (w : World) (hs : s.size ≤ 281474976710656) :
    Calls Tryz.prog 30 #[.string s] w fun e w' => e = .returned (partsV (parseT (bys s))) ∧ Below w.heap.size w w' := by
  have START : Hid (TakeInv (bys s) w 0 (.string s) ((w.alloc (.cells #[.bool false, .string ⟨#[]⟩, .string ⟨#[]⟩, .int .i64 0] 71)).alloc (.cells #[.bool false, .string ⟨#[]⟩, .string ⟨#[]⟩, .int .i64 0] 71))) :=
    ⟨by omega, by rw [show restK (bys s) 0 = bys s from rfl, mk_bys], ((Below.refl _ _).alloc (Nat.le_refl _) _).alloc (by simp) _, (Blk.new _ _ _).alloc _, Blk.newAt _ _ (by simp) _ _, by omega, by omega⟩
  obtain ⟨L, hL⟩ : ∃ L, L = bys s := ⟨_, rfl⟩
  have HLEN : Hid (L.length ≤ 281474976710656) := by rw [hL, bys_len]; exact hs
  rw [← hL] at START ⊢
  clear hL hs
  go_enter Tryz.func30, Tryz.ntmps30
  go_wp2
  go_step3
  go_wp2
  go_step3
  go_wp2
  go_loopw [0, 10] (fun r i wr => ∃ (k : Nat) (z : Int), i = .int .i64 z ∧ z = (k : Int) ∧ Hid (TakeInv L w k r wr)) (fun _ i _ => 5 - (intOf i).toNat)
  case atStart => exact ⟨0, 0, rfl, rfl, START.out⟩
  case round =>
    clear START
    obtain ⟨k, z, rfl, hz, INV⟩ := hrel
    obtain rfl := INV.out.hr
    have hk := INV.out.hk
    obtain ⟨wq, hq⟩ : ∃ x, x = wr := ⟨_, rfl⟩
    subst hq
    rcases k with _ | _ | _ | _ | _ | k
    · obtain rfl : z = 0 := by omega
      have y0 : wq.cell? ⟨w.heap.size + 1, 0, none⟩ = some (.bool false) := INV.out.num.cell 0
      have f0 := INV.out.num.free 0
      have y1 : wq.cell? ⟨w.heap.size + 1, 1, none⟩ = some (.string ⟨#[]⟩) := INV.out.num.cell 1
      have f1 := INV.out.num.free 1
      have y2 : wq.cell? ⟨w.heap.size + 1, 2, none⟩ = some (.string ⟨#[]⟩) := INV.out.num.cell 2
      have f2 := INV.out.num.free 2
      have y3 : wq.cell? ⟨w.heap.size + 1, 3, none⟩ = some (.int .i64 0) := INV.out.num.cell 3
      have f3 := INV.out.num.free 3
      rw [show restK L 0 = L from rfl]
      clear hz hk
      go_wp2_with fail
      refine (cutp L 45 _).mono ?_
      rintro e w1 ⟨rfl, rfl⟩
      go_wp2
      exact ⟨⟨1, 1, rfl, rfl, by omega, rfl, INV.out.low.setCell (Nat.le_succ _) _, INV.out.res.other (by simp) _, INV.out.num.set0 _, by omega, by omega⟩, by simp [intOf]⟩
    · obtain rfl : z = 1 := by omega
      rw [show restK L 1 = p1 L from rfl]
      have CD := hide (fun W => cutd (p1 L) W (Nat.le_trans (p1_len L) HLEN.out))
      obtain ⟨R, hR⟩ : ∃ R : ByteArray, R = ⟨(p1 L).toArray⟩ := ⟨_, rfl⟩
      rw [← hR] at CD ⊢
      clear hz hk hR
      go_wp2_with fail
      refine (CD.out _).mono ?_
      rintro e w1 ⟨rfl, hb⟩
      have BN := hide (INV.out.num.below hb INV.out.num.lt)
      have BR := hide (INV.out.res.below hb INV.out.res.lt)
      have HB := hide (INV.out.low.trans (hb.mono INV.out.low.size))
      clear hb INV
      have y0 : w1.cell? ⟨w.heap.size + 1, 0, none⟩ = some (.bool (Lib.hasPrefix L [45])) := BN.out.cell 0
      have f0 := BN.out.free 0
      have y1 : w1.cell? ⟨w.heap.size + 1, 1, none⟩ = some (.string ⟨#[]⟩) := BN.out.cell 1
      have f1 := BN.out.free 1
      have y2 : w1.cell? ⟨w.heap.size + 1, 2, none⟩ = some (.string ⟨#[]⟩) := BN.out.cell 2
      have f2 := BN.out.free 2
      have y3 : w1.cell? ⟨w.heap.size + 1, 3, none⟩ = some (.int .i64 0) := BN.out.cell 3
      have f3 := BN.out.free 3
      go_wp2
      exact ⟨⟨2, 2, rfl, rfl, by omega, rfl, HB.out.setCell (Nat.le_succ _) _, BR.out.other (by simp) _, BN.out.set1 _, by omega, by omega⟩, by simp [intOf]⟩
    · obtain rfl : z = 2 := by omega
      rw [show restK L 2 = p2 L from rfl]
      have CP := hide (fun W => cutp (p2 L) 46 W)
      rw [show Lib.hasPrefix (p2 L) [46] = pDot L from rfl] at CP
      have HT := hide (Nat.le_trans (tp_len (p2 L) [46]) (Nat.le_trans (p2_len L) HLEN.out))
      have CD := hide (fun W => cutd (Lib.trimPrefix (p2 L) [46]) W HT.out)
      obtain ⟨R, hR⟩ : ∃ R : ByteArray, R = ⟨(p2 L).toArray⟩ := ⟨_, rfl⟩
      obtain ⟨T, hT⟩ : ∃ T : ByteArray, T = ⟨(Lib.trimPrefix (p2 L) [46]).toArray⟩ := ⟨_, rfl⟩
      rw [← hT] at CD
      rw [← hR] at CP ⊢
      rw [← hT] at CP
      have HR := hide hR
      clear hz hk hR hT HT
      by_cases hd : ¬ pDot L = true
      · rw [show pDot L = false by simpa using hd] at CP
        have EB : Hid (pBehind L = []) := by unfold pBehind; rw [if_neg hd]; rfl
        have E3 : Hid (p3 L = p2 L) := by unfold p3; rw [if_neg hd]; rfl
        clear CD hd
        by_cases ha : pAhead L = []
        · have PN : Hid (parseT L = none) := by unfold parseT; rw [if_pos ⟨ha, EB.out⟩]; rfl
          have y0 : wq.cell? ⟨w.heap.size + 1, 0, none⟩ = some (.bool (Lib.hasPrefix L [45])) := INV.out.num.cell 0
          have f0 := INV.out.num.free 0
          have y1 : wq.cell? ⟨w.heap.size + 1, 1, none⟩ = some (.string ⟨#[]⟩) := by have := INV.out.num.cell 1; rw [this]; show some (Value.string ⟨(pAhead L).toArray⟩) = _; rw [ha]
          have f1 := INV.out.num.free 1
          have y2 : wq.cell? ⟨w.heap.size + 1, 2, none⟩ = some (.string ⟨#[]⟩) := INV.out.num.cell 2
          have f2 := INV.out.num.free 2
          have y3 : wq.cell? ⟨w.heap.size + 1, 3, none⟩ = some (.int .i64 0) := INV.out.num.cell 3
          have f3 := INV.out.num.free 3
          have z0 : wq.cell? ⟨w.heap.size, 0, none⟩ = some (.bool false) := INV.out.res.cell 0
          have g0 := INV.out.res.free 0
          have z1 : wq.cell? ⟨w.heap.size, 1, none⟩ = some (.string ⟨#[]⟩) := INV.out.res.cell 1
          have g1 := INV.out.res.free 1
          have z2 : wq.cell? ⟨w.heap.size, 2, none⟩ = some (.string ⟨#[]⟩) := INV.out.res.cell 2
          have g2 := INV.out.res.free 2
          have z3 : wq.cell? ⟨w.heap.size, 3, none⟩ = some (.int .i64 0) := INV.out.res.cell 3
          have g3 := INV.out.res.free 3
          clear ha
          go_wp2_with fail
          refine (CP.out _).mono ?_
          rintro e w1 ⟨rfl, rfl⟩
          go_wp2
          rw [Exit.noGoto_ret]
          refine bodyPost_ret (results_num2 rfl _ _ _ _ _ _ _ rfl (INV.out.res.put4 _ _ _ _)) rfl ?_
          exact ⟨by rw [PN.out]; rfl, below_put4 (INV.out.low) (Nat.le_refl _) _ _ _ _⟩
        · obtain ⟨A, hA⟩ : ∃ A : ByteArray, A = ⟨(pAhead L).toArray⟩ := ⟨_, rfl⟩
          have hne : A.size ≠ 0 := by rw [hA, size_mk0]; exact fun e => ha (List.length_eq_zero_iff.1 e)
          have hA1 := toList_ne hne
          have HA := hide hA
          clear hne hA
          have y0 : wq.cell? ⟨w.heap.size + 1, 0, none⟩ = some (.bool (Lib.hasPrefix L [45])) := INV.out.num.cell 0
          have f0 := INV.out.num.free 0
          have y1 : wq.cell? ⟨w.heap.size + 1, 1, none⟩ = some (.string A) := by rw [HA.out]; exact INV.out.num.cell 1
          have f1 := INV.out.num.free 1
          have y2 : wq.cell? ⟨w.heap.size + 1, 2, none⟩ = some (.string ⟨#[]⟩) := INV.out.num.cell 2
          have f2 := INV.out.num.free 2
          have y3 : wq.cell? ⟨w.heap.size + 1, 3, none⟩ = some (.int .i64 0) := INV.out.num.cell 3
          have f3 := INV.out.num.free 3
          have NE : Hid (¬ (pAhead L = [] ∧ pBehind L = [])) := fun e => ha e.1
          clear ha
          go_wp2_with fail
          refine (CP.out _).mono ?_
          rintro e w1 ⟨rfl, rfl⟩
          go_wp2
          refine ⟨⟨3, 3, rfl, rfl, by omega, ?_, INV.out.low, INV.out.res, ?_, fun _ => NE.out, by omega⟩, by simp [intOf]⟩
          · rw [HR.out, ← E3.out]; rfl
          · have h := INV.out.num
            rw [show behindK L 3 = pBehind L from rfl, EB.out]
            exact h
      · have hd := Classical.not_not.1 hd
        rw [hd] at CP
        have EB : Hid (pBehind L = dgs (Lib.trimPrefix (p2 L) [46])) := by unfold pBehind; rw [if_pos hd]; rfl
        have E3 : Hid (p3 L = aft (Lib.trimPrefix (p2 L) [46])) := by unfold p3; rw [if_pos hd]; rfl
        rw [← EB.out, ← E3.out] at CD
        obtain ⟨P, hP⟩ : ∃ P : ByteArray, P = ⟨(p3 L).toArray⟩ := ⟨_, rfl⟩
        rw [← hP] at CD
        have HP := hide hP
        clear hd hP EB E3
        by_cases ha : pAhead L = []
        · by_cases hb0 : pBehind L = []
          · have PN : Hid (parseT L = none) := by unfold parseT; rw [if_pos ⟨ha, hb0⟩]; rfl
            rw [hb0] at CD
            go_wp2_with fail
            refine (CP.out _).mono ?_
            rintro e w1 ⟨rfl, rfl⟩
            go_wp2_with fail
            refine (CD.out _).mono ?_
            rintro e w1 ⟨rfl, hb⟩
            have BN := hide (INV.out.num.below hb INV.out.num.lt)
            have BR := hide (INV.out.res.below hb INV.out.res.lt)
            have HB := hide (INV.out.low.trans (hb.mono INV.out.low.size))
            clear hb INV
            have y0 : w1.cell? ⟨w.heap.size + 1, 0, none⟩ = some (.bool (Lib.hasPrefix L [45])) := BN.out.cell 0
            have f0 := BN.out.free 0
            have y1 : w1.cell? ⟨w.heap.size + 1, 1, none⟩ = some (.string ⟨#[]⟩) := by have := BN.out.cell 1; rw [this]; show some (Value.string ⟨(pAhead L).toArray⟩) = _; rw [ha]
            have f1 := BN.out.free 1
            have y2 : w1.cell? ⟨w.heap.size + 1, 2, none⟩ = some (.string ⟨#[]⟩) := BN.out.cell 2
            have f2 := BN.out.free 2
            have y3 : w1.cell? ⟨w.heap.size + 1, 3, none⟩ = some (.int .i64 0) := BN.out.cell 3
            have f3 := BN.out.free 3
            have z0 : w1.cell? ⟨w.heap.size, 0, none⟩ = some (.bool false) := BR.out.cell 0
            have g0 := BR.out.free 0
            have z1 : w1.cell? ⟨w.heap.size, 1, none⟩ = some (.string ⟨#[]⟩) := BR.out.cell 1
            have g1 := BR.out.free 1
            have z2 : w1.cell? ⟨w.heap.size, 2, none⟩ = some (.string ⟨#[]⟩) := BR.out.cell 2
            have g2 := BR.out.free 2
            have z3 : w1.cell? ⟨w.heap.size, 3, none⟩ = some (.int .i64 0) := BR.out.cell 3
            have g3 := BR.out.free 3
            clear ha hb0
            go_wp2
            rw [Exit.noGoto_ret]
            refine bodyPost_ret (results_num2 rfl _ _ _ _ _ _ _ rfl ((BR.out.other (by simp) _).put4 _ _ _ _)) rfl ?_
            exact ⟨by rw [PN.out]; rfl, below_put4 (HB.out.setCell (Nat.le_succ _) _) (Nat.le_refl _) _ _ _ _⟩
          · obtain ⟨B, hB⟩ : ∃ B : ByteArray, B = ⟨(pBehind L).toArray⟩ := ⟨_, rfl⟩
            have hne : B.size ≠ 0 := by rw [hB, size_mk0]; exact fun e => hb0 (List.length_eq_zero_iff.1 e)
            have hB1 := toList_ne hne
            have NE : Hid (¬ (pAhead L = [] ∧ pBehind L = [])) := fun e => hb0 e.2
            rw [← hB] at CD
            have HBB := hide hB
            clear hne hB
            go_wp2_with fail
            refine (CP.out _).mono ?_
            rintro e w1 ⟨rfl, rfl⟩
            go_wp2_with fail
            refine (CD.out _).mono ?_
            rintro e w1 ⟨rfl, hb⟩
            have BN := hide (INV.out.num.below hb INV.out.num.lt)
            have BR := hide (INV.out.res.below hb INV.out.res.lt)
            have HB := hide (INV.out.low.trans (hb.mono INV.out.low.size))
            clear hb INV
            have y0 : w1.cell? ⟨w.heap.size + 1, 0, none⟩ = some (.bool (Lib.hasPrefix L [45])) := BN.out.cell 0
            have f0 := BN.out.free 0
            have y1 : w1.cell? ⟨w.heap.size + 1, 1, none⟩ = some (.string ⟨#[]⟩) := by have := BN.out.cell 1; rw [this]; show some (Value.string ⟨(pAhead L).toArray⟩) = _; rw [ha]
            have f1 := BN.out.free 1
            have y2 : w1.cell? ⟨w.heap.size + 1, 2, none⟩ = some (.string ⟨#[]⟩) := BN.out.cell 2
            have f2 := BN.out.free 2
            have y3 : w1.cell? ⟨w.heap.size + 1, 3, none⟩ = some (.int .i64 0) := BN.out.cell 3
            have f3 := BN.out.free 3
            have EA := hide ha
            clear ha hb0
            go_wp2
            refine ⟨⟨3, 3, rfl, rfl, by omega, by rw [HP.out]; rfl, HB.out.setCell (Nat.le_succ _) _, BR.out.other (by simp) _, ?_, fun _ => NE.out, by omega⟩, by simp [intOf]⟩
            have h := BN.out.set2 (.string B)
            rw [HBB.out] at h ⊢
            exact h
        · obtain ⟨A, hA⟩ : ∃ A : ByteArray, A = ⟨(pAhead L).toArray⟩ := ⟨_, rfl⟩
          have hne : A.size ≠ 0 := by rw [hA, size_mk0]; exact fun e => ha (List.length_eq_zero_iff.1 e)
          have hA1 := toList_ne hne
          have HA := hide hA
          clear hne hA
          obtain ⟨B, hB⟩ : ∃ B : ByteArray, B = ⟨(pBehind L).toArray⟩ := ⟨_, rfl⟩
          have NE : Hid (¬ (pAhead L = [] ∧ pBehind L = [])) := fun e => ha e.1
          rw [← hB] at CD
          have HBB := hide hB
          clear hB ha
          go_wp2_with fail
          refine (CP.out _).mono ?_
          rintro e w1 ⟨rfl, rfl⟩
          go_wp2_with fail
          refine (CD.out _).mono ?_
          rintro e w1 ⟨rfl, hb⟩
          have BN := hide (INV.out.num.below hb INV.out.num.lt)
          have BR := hide (INV.out.res.below hb INV.out.res.lt)
          have HB := hide (INV.out.low.trans (hb.mono INV.out.low.size))
          clear hb INV
          have y0 : w1.cell? ⟨w.heap.size + 1, 0, none⟩ = some (.bool (Lib.hasPrefix L [45])) := BN.out.cell 0
          have f0 := BN.out.free 0
          have y1 : w1.cell? ⟨w.heap.size + 1, 1, none⟩ = some (.string A) := by rw [HA.out]; exact BN.out.cell 1
          have f1 := BN.out.free 1
          have y2 : w1.cell? ⟨w.heap.size + 1, 2, none⟩ = some (.string ⟨#[]⟩) := BN.out.cell 2
          have f2 := BN.out.free 2
          have y3 : w1.cell? ⟨w.heap.size + 1, 3, none⟩ = some (.int .i64 0) := BN.out.cell 3
          have f3 := BN.out.free 3
          go_wp2
          refine ⟨⟨3, 3, rfl, rfl, by omega, by rw [HP.out]; rfl, HB.out.setCell (Nat.le_succ _) _, BR.out.other (by simp) _, ?_, fun _ => NE.out, by omega⟩, by simp [intOf]⟩
          have h := BN.out.set2 (.string B)
          rw [HBB.out] at h ⊢
          exact h
    · obtain rfl : z = 3 := by omega
      rw [show restK L 3 = p3 L from rfl]
      have NE := hide (INV.out.some (by omega))
      obtain ⟨A, hA⟩ : ∃ A : ByteArray, A = ⟨(pAhead L).toArray⟩ := ⟨_, rfl⟩
      obtain ⟨B, hB⟩ : ∃ B : ByteArray, B = ⟨(pBehind L).toArray⟩ := ⟨_, rfl⟩
      obtain ⟨S, hS⟩ : ∃ S : Bool, S = Lib.hasPrefix L [45] := ⟨_, rfl⟩
      have NUM : Hid (Blk wq (w.heap.size + 1) #[.bool S, .string A, .string B, .int .i64 0] 71) := by rw [hA, hB, hS]; exact INV.out.num
      have HA := hide hA
      have HBB := hide hB
      have HSS := hide hS
      clear hA hB hS
      have y0 : wq.cell? ⟨w.heap.size + 1, 0, none⟩ = some (.bool S) := NUM.out.cell 0
      have f0 := NUM.out.free 0
      have y1 : wq.cell? ⟨w.heap.size + 1, 1, none⟩ = some (.string A) := NUM.out.cell 1
      have f1 := NUM.out.free 1
      have y2 : wq.cell? ⟨w.heap.size + 1, 2, none⟩ = some (.string B) := NUM.out.cell 2
      have f2 := NUM.out.free 2
      have y3 : wq.cell? ⟨w.heap.size + 1, 3, none⟩ = some (.int .i64 0) := NUM.out.cell 3
      have f3 := NUM.out.free 3
      have z0 : wq.cell? ⟨w.heap.size, 0, none⟩ = some (.bool false) := INV.out.res.cell 0
      have g0 := INV.out.res.free 0
      have z1 : wq.cell? ⟨w.heap.size, 1, none⟩ = some (.string ⟨#[]⟩) := INV.out.res.cell 1
      have g1 := INV.out.res.free 1
      have z2 : wq.cell? ⟨w.heap.size, 2, none⟩ = some (.string ⟨#[]⟩) := INV.out.res.cell 2
      have g2 := INV.out.res.free 2
      have z3 : wq.cell? ⟨w.heap.size, 3, none⟩ = some (.int .i64 0) := INV.out.res.cell 3
      have g3 := INV.out.res.free 3
      clear hz hk
      by_cases h3 : p3 L = []
      · have PN : Hid (parseT L = some ⟨Lib.hasPrefix L [45], pAhead L, pBehind L, 0⟩) := by unfold parseT; rw [if_neg NE.out, if_pos h3]; rfl
        rw [h3]
        clear h3
        go_wp2
        rw [Exit.noGoto_ret]
        refine bodyPost_ret (results_num2 rfl _ _ _ _ _ _ _ rfl (INV.out.res.put4 _ _ _ _)) rfl ?_
        exact ⟨by rw [PN.out]; unfold partsV; simp only; rw [HA.out, HBB.out, HSS.out]; rfl, below_put4 (INV.out.low) (Nat.le_refl _) _ _ _ _⟩
      · obtain ⟨P, hP⟩ : ∃ P : ByteArray, P = ⟨(p3 L).toArray⟩ := ⟨_, rfl⟩
        have hne : P.size ≠ 0 := by rw [hP, size_mk0]; exact fun e => h3 (List.length_eq_zero_iff.1 e)
        have hP1 := toList_ne hne
        have hp0 : 0 < P.size := by omega
        have hg : ∀ h : 0 < P.size, P[0].toNat = byt (p3 L) 0 := fun h => by rw [byt_get P 0 h, hP, bys_mk]
        have HX : Hid (P.extract 1 P.size = ⟨(p4 L).toArray⟩) := by rw [Lib.extract_from, hP, mk_data0]; rfl
        rw [← hP]
        obtain ⟨b, hb⟩ : ∃ b, b = byt (p3 L) 0 := ⟨_, rfl⟩
        rw [← hb] at hg
        have hp1 : (1 : Int) ≤ (P.size : Int) := by omega
        clear hne hP
        by_cases hm : b = 101
        · have e1 : ((b : Int) != 101) = false := by rw [show (b : Int) = 101 by omega]; rfl
          have MK : Hid (p3 L ≠ [] ∧ (byt (p3 L) 0 = 101 ∨ byt (p3 L) 0 = 69)) := ⟨h3, .inl (by omega)⟩
          clear h3 hb hm
          go_wp2
          refine ⟨⟨4, 4, rfl, rfl, by omega, by rw [HX.out]; rfl, INV.out.low, INV.out.res, INV.out.num, fun _ => NE.out, fun _ => MK.out⟩, by simp [intOf]⟩
        · have e1 : ((b : Int) != 101) = true := by
            have : ¬ (b : Int) = 101 := by omega
            simpa using this
          by_cases hm2 : b = 69
          · have e2 : ((b : Int) != 69) = false := by rw [show (b : Int) = 69 by omega]; rfl
            have MK : Hid (p3 L ≠ [] ∧ (byt (p3 L) 0 = 101 ∨ byt (p3 L) 0 = 69)) := ⟨h3, .inr (by omega)⟩
            clear h3 hb hm hm2
            go_wp2
            refine ⟨⟨4, 4, rfl, rfl, by omega, by rw [HX.out]; rfl, INV.out.low, INV.out.res, INV.out.num, fun _ => NE.out, fun _ => MK.out⟩, by simp [intOf]⟩
          · have e2 : ((b : Int) != 69) = true := by
              have : ¬ (b : Int) = 69 := by omega
              simpa using this
            have PN : Hid (parseT L = none) := by unfold parseT; rw [if_neg NE.out, if_neg h3, if_pos (by omega)]; rfl
            clear h3 hb hm hm2
            go_wp2
            rw [Exit.noGoto_ret]
            refine bodyPost_ret (results_num2 rfl _ _ _ _ _ _ _ rfl (INV.out.res.put4 _ _ _ _)) rfl ?_
            exact ⟨by rw [PN.out]; rfl, below_put4 (INV.out.low) (Nat.le_refl _) _ _ _ _⟩
    · obtain rfl : z = 4 := by omega
      rw [show restK L 4 = p4 L from rfl]
      have NE := hide (INV.out.some (by omega))
      have MK := hide (INV.out.mark (by omega))
      obtain ⟨A, hA⟩ : ∃ A : ByteArray, A = ⟨(pAhead L).toArray⟩ := ⟨_, rfl⟩
      obtain ⟨B, hB⟩ : ∃ B : ByteArray, B = ⟨(pBehind L).toArray⟩ := ⟨_, rfl⟩
      obtain ⟨S, hS⟩ : ∃ S : Bool, S = Lib.hasPrefix L [45] := ⟨_, rfl⟩
      have NUM : Hid (Blk wq (w.heap.size + 1) #[.bool S, .string A, .string B, .int .i64 0] 71) := by rw [hA, hB, hS]; exact INV.out.num
      have HA := hide hA
      have HBB := hide hB
      have HSS := hide hS
      clear hA hB hS
      clear hz hk
      have US := hide (fun W => unsd (p4 L) W)
      have HU := hide (Nat.le_trans (unsg_len (p4 L)) (Nat.le_trans (p4_len L) HLEN.out))
      have CD := hide (fun W => cutd (unsg (p4 L)) W HU.out)
      obtain ⟨U, hU⟩ : ∃ U : ByteArray, U = ⟨(unsg (p4 L)).toArray⟩ := ⟨_, rfl⟩
      rw [← hU] at US CD
      obtain ⟨P, hP⟩ : ∃ P : ByteArray, P = ⟨(p4 L).toArray⟩ := ⟨_, rfl⟩
      rw [← hP] at US ⊢
      obtain ⟨D, hD⟩ : ∃ D : ByteArray, D = ⟨(dgs (unsg (p4 L))).toArray⟩ := ⟨_, rfl⟩
      obtain ⟨F, hF⟩ : ∃ F : ByteArray, F = ⟨(aft (unsg (p4 L))).toArray⟩ := ⟨_, rfl⟩
      rw [← hD, ← hF] at CD
      have hDs : D.size = (dgs (unsg (p4 L))).length := by rw [hD, size_mk0]
      have hFs : F.size = (aft (unsg (p4 L))).length := by rw [hF, size_mk0]
      have HPP := hide hP
      have HDD := hide hD
      have HFF := hide hF
      clear hU HU hP hD hF
      by_cases h1 : dgs (unsg (p4 L)) = []
      · have PN : Hid (parseT L = none) := by unfold parseT; rw [if_neg NE.out, if_neg MK.out.1, if_neg (fun e => e MK.out.2), if_pos (.inl h1)]; rfl
        obtain rfl : D = ⟨#[]⟩ := by rw [HDD.out, h1]
        clear h1 HDD HFF hDs hFs
        go_wp2_with fail
        refine (US.out _).mono ?_
        rintro e w1 ⟨rfl, rfl⟩
        go_wp2_with fail
        refine (CD.out _).mono ?_
        rintro e w1 ⟨rfl, hb⟩
        have BN := hide (NUM.out.below hb NUM.out.lt)
        have BR := hide (INV.out.res.below hb INV.out.res.lt)
        have HB := hide (INV.out.low.trans (hb.mono INV.out.low.size))
        clear hb INV NUM
        have y0 : w1.cell? ⟨w.heap.size + 1, 0, none⟩ = some (.bool S) := BN.out.cell 0
        have f0 := BN.out.free 0
        have y1 : w1.cell? ⟨w.heap.size + 1, 1, none⟩ = some (.string A) := BN.out.cell 1
        have f1 := BN.out.free 1
        have y2 : w1.cell? ⟨w.heap.size + 1, 2, none⟩ = some (.string B) := BN.out.cell 2
        have f2 := BN.out.free 2
        have y3 : w1.cell? ⟨w.heap.size + 1, 3, none⟩ = some (.int .i64 0) := BN.out.cell 3
        have f3 := BN.out.free 3
        have z0 : w1.cell? ⟨w.heap.size, 0, none⟩ = some (.bool false) := BR.out.cell 0
        have g0 := BR.out.free 0
        have z1 : w1.cell? ⟨w.heap.size, 1, none⟩ = some (.string ⟨#[]⟩) := BR.out.cell 1
        have g1 := BR.out.free 1
        have z2 : w1.cell? ⟨w.heap.size, 2, none⟩ = some (.string ⟨#[]⟩) := BR.out.cell 2
        have g2 := BR.out.free 2
        have z3 : w1.cell? ⟨w.heap.size, 3, none⟩ = some (.int .i64 0) := BR.out.cell 3
        have g3 := BR.out.free 3
        go_wp2
        rw [Exit.noGoto_ret]
        refine bodyPost_ret (results_num2 rfl _ _ _ _ _ _ _ rfl (BR.out.put4 _ _ _ _)) rfl ?_
        exact ⟨by rw [PN.out]; rfl, below_put4 (HB.out) (Nat.le_refl _) _ _ _ _⟩
      · have hd0 : D.size ≠ 0 := by rw [hDs]; exact fun e => h1 (List.length_eq_zero_iff.1 e)
        have hd1 := toList_ne hd0
        by_cases h2 : 5 < (dgs (unsg (p4 L))).length
        · have PN : Hid (parseT L = none) := by unfold parseT; rw [if_neg NE.out, if_neg MK.out.1, if_neg (fun e => e MK.out.2), if_pos (.inr (.inl h2))]; rfl
          have h2' : decide ((5 : Int) < (D.size : Int)) = true := decide_eq_true (by omega)
          clear h1 h2 HDD HFF hDs hFs hd0
          go_wp2_with fail
          refine (US.out _).mono ?_
          rintro e w1 ⟨rfl, rfl⟩
          go_wp2_with fail
          refine (CD.out _).mono ?_
          rintro e w1 ⟨rfl, hb⟩
          have BN := hide (NUM.out.below hb NUM.out.lt)
          have BR := hide (INV.out.res.below hb INV.out.res.lt)
          have HB := hide (INV.out.low.trans (hb.mono INV.out.low.size))
          clear hb INV NUM
          have y0 : w1.cell? ⟨w.heap.size + 1, 0, none⟩ = some (.bool S) := BN.out.cell 0
          have f0 := BN.out.free 0
          have y1 : w1.cell? ⟨w.heap.size + 1, 1, none⟩ = some (.string A) := BN.out.cell 1
          have f1 := BN.out.free 1
          have y2 : w1.cell? ⟨w.heap.size + 1, 2, none⟩ = some (.string B) := BN.out.cell 2
          have f2 := BN.out.free 2
          have y3 : w1.cell? ⟨w.heap.size + 1, 3, none⟩ = some (.int .i64 0) := BN.out.cell 3
          have f3 := BN.out.free 3
          have z0 : w1.cell? ⟨w.heap.size, 0, none⟩ = some (.bool false) := BR.out.cell 0
          have g0 := BR.out.free 0
          have z1 : w1.cell? ⟨w.heap.size, 1, none⟩ = some (.string ⟨#[]⟩) := BR.out.cell 1
          have g1 := BR.out.free 1
          have z2 : w1.cell? ⟨w.heap.size, 2, none⟩ = some (.string ⟨#[]⟩) := BR.out.cell 2
          have g2 := BR.out.free 2
          have z3 : w1.cell? ⟨w.heap.size, 3, none⟩ = some (.int .i64 0) := BR.out.cell 3
          have g3 := BR.out.free 3
          go_wp2
          rw [Exit.noGoto_ret]
          refine bodyPost_ret (results_num2 rfl _ _ _ _ _ _ _ rfl (BR.out.put4 _ _ _ _)) rfl ?_
          exact ⟨by rw [PN.out]; rfl, below_put4 (HB.out) (Nat.le_refl _) _ _ _ _⟩
        · have h2' : decide ((5 : Int) < (D.size : Int)) = false := decide_eq_false (by omega)
          by_cases h3 : aft (unsg (p4 L)) ≠ []
          · have PN : Hid (parseT L = none) := by unfold parseT; rw [if_neg NE.out, if_neg MK.out.1, if_neg (fun e => e MK.out.2), if_pos (.inr (.inr h3))]; rfl
            have hf0 : F.size ≠ 0 := by rw [hFs]; exact fun e => h3 (List.length_eq_zero_iff.1 e)
            have hf1 := toList_ne hf0
            clear h1 h2 h3 HDD HFF hDs hFs hd0 hf0
            go_wp2_with fail
            refine (US.out _).mono ?_
            rintro e w1 ⟨rfl, rfl⟩
            go_wp2_with fail
            refine (CD.out _).mono ?_
            rintro e w1 ⟨rfl, hb⟩
            have BN := hide (NUM.out.below hb NUM.out.lt)
            have BR := hide (INV.out.res.below hb INV.out.res.lt)
            have HB := hide (INV.out.low.trans (hb.mono INV.out.low.size))
            clear hb INV NUM
            have y0 : w1.cell? ⟨w.heap.size + 1, 0, none⟩ = some (.bool S) := BN.out.cell 0
            have f0 := BN.out.free 0
            have y1 : w1.cell? ⟨w.heap.size + 1, 1, none⟩ = some (.string A) := BN.out.cell 1
            have f1 := BN.out.free 1
            have y2 : w1.cell? ⟨w.heap.size + 1, 2, none⟩ = some (.string B) := BN.out.cell 2
            have f2 := BN.out.free 2
            have y3 : w1.cell? ⟨w.heap.size + 1, 3, none⟩ = some (.int .i64 0) := BN.out.cell 3
            have f3 := BN.out.free 3
            have z0 : w1.cell? ⟨w.heap.size, 0, none⟩ = some (.bool false) := BR.out.cell 0
            have g0 := BR.out.free 0
            have z1 : w1.cell? ⟨w.heap.size, 1, none⟩ = some (.string ⟨#[]⟩) := BR.out.cell 1
            have g1 := BR.out.free 1
            have z2 : w1.cell? ⟨w.heap.size, 2, none⟩ = some (.string ⟨#[]⟩) := BR.out.cell 2
            have g2 := BR.out.free 2
            have z3 : w1.cell? ⟨w.heap.size, 3, none⟩ = some (.int .i64 0) := BR.out.cell 3
            have g3 := BR.out.free 3
            go_wp2
            rw [Exit.noGoto_ret]
            refine bodyPost_ret (results_num2 rfl _ _ _ _ _ _ _ rfl (BR.out.put4 _ _ _ _)) rfl ?_
            exact ⟨by rw [PN.out]; rfl, below_put4 (HB.out) (Nat.le_refl _) _ _ _ _⟩
          · have h3 := Classical.not_not.1 h3
            have PN : Hid (parseT L = some ⟨Lib.hasPrefix L [45], pAhead L, pBehind L, powV (p4 L)⟩) := by unfold parseT; rw [if_neg NE.out, if_neg MK.out.1, if_neg (fun e => e MK.out.2), if_neg (fun h => h.elim (fun e => h1 e) fun h => h.elim (fun e => h2 e) fun e => e h3)]; rfl
            obtain rfl : F = ⟨#[]⟩ := by rw [HFF.out, h3]
            have AT := hide (atoi_val h1 h3)
            have HLN : Hid (P.size ≤ 18) := by rw [HPP.out, size_mk0]; exact atoi_len h2 h3
            have AC := hide (fun W => Tryz.strconv_Atoi P (powV (p4 L)) HLN.out (by rw [HPP.out, mk_data0]; exact AT.out) W)
            obtain ⟨q, hq⟩ : ∃ q, q = powV (p4 L) := ⟨_, rfl⟩
            rw [← hq] at AC PN
            clear h1 h2 h3 HDD HFF hDs hFs hd0 AT HLN hq
            go_wp2_with fail
            refine (US.out _).mono ?_
            rintro e w1 ⟨rfl, rfl⟩
            go_wp2_with fail
            refine (CD.out _).mono ?_
            rintro e w1 ⟨rfl, hb⟩
            have BN := hide (NUM.out.below hb NUM.out.lt)
            have BR := hide (INV.out.res.below hb INV.out.res.lt)
            have HB := hide (INV.out.low.trans (hb.mono INV.out.low.size))
            clear hb INV NUM
            have y0 : w1.cell? ⟨w.heap.size + 1, 0, none⟩ = some (.bool S) := BN.out.cell 0
            have f0 := BN.out.free 0
            have y1 : w1.cell? ⟨w.heap.size + 1, 1, none⟩ = some (.string A) := BN.out.cell 1
            have f1 := BN.out.free 1
            have y2 : w1.cell? ⟨w.heap.size + 1, 2, none⟩ = some (.string B) := BN.out.cell 2
            have f2 := BN.out.free 2
            have y3 : w1.cell? ⟨w.heap.size + 1, 3, none⟩ = some (.int .i64 0) := BN.out.cell 3
            have f3 := BN.out.free 3
            have z0 : w1.cell? ⟨w.heap.size, 0, none⟩ = some (.bool false) := BR.out.cell 0
            have g0 := BR.out.free 0
            have z1 : w1.cell? ⟨w.heap.size, 1, none⟩ = some (.string ⟨#[]⟩) := BR.out.cell 1
            have g1 := BR.out.free 1
            have z2 : w1.cell? ⟨w.heap.size, 2, none⟩ = some (.string ⟨#[]⟩) := BR.out.cell 2
            have g2 := BR.out.free 2
            have z3 : w1.cell? ⟨w.heap.size, 3, none⟩ = some (.int .i64 0) := BR.out.cell 3
            have g3 := BR.out.free 3
            go_wp2_with fail
            refine (AC.out _).mono ?_
            rintro e w2 ⟨rfl, tq, hw⟩
            have hb : Below w1.heap.size w1 w2 := by rw [hw]; exact bytes_below _ _ _
            have BN2 := hide (BN.out.below hb BN.out.lt)
            have BR2 := hide (BR.out.below hb BR.out.lt)
            have HB2 := hide (HB.out.trans (hb.mono HB.out.size))
            clear hb hw BN BR HB y0 y1 y2 y3 f0 f1 f2 f3 z0 z1 z2 z3 g0 g1 g2 g3
            have y0 : w2.cell? ⟨w.heap.size + 1, 0, none⟩ = some (.bool S) := BN2.out.cell 0
            have f0 := BN2.out.free 0
            have y1 : w2.cell? ⟨w.heap.size + 1, 1, none⟩ = some (.string A) := BN2.out.cell 1
            have f1 := BN2.out.free 1
            have y2 : w2.cell? ⟨w.heap.size + 1, 2, none⟩ = some (.string B) := BN2.out.cell 2
            have f2 := BN2.out.free 2
            have y3 : w2.cell? ⟨w.heap.size + 1, 3, none⟩ = some (.int .i64 0) := BN2.out.cell 3
            have f3 := BN2.out.free 3
            have z0 : w2.cell? ⟨w.heap.size, 0, none⟩ = some (.bool false) := BR2.out.cell 0
            have g0 := BR2.out.free 0
            have z1 : w2.cell? ⟨w.heap.size, 1, none⟩ = some (.string ⟨#[]⟩) := BR2.out.cell 1
            have g1 := BR2.out.free 1
            have z2 : w2.cell? ⟨w.heap.size, 2, none⟩ = some (.string ⟨#[]⟩) := BR2.out.cell 2
            have g2 := BR2.out.free 2
            have z3 : w2.cell? ⟨w.heap.size, 3, none⟩ = some (.int .i64 0) := BR2.out.cell 3
            have g3 := BR2.out.free 3
            go_wp2
            rw [Exit.noGoto_ret]
            refine bodyPost_ret (results_num2 rfl _ _ _ _ _ _ _ rfl ((BR2.out.other (by simp) _).put4 _ _ _ _)) rfl ?_
            exact ⟨by rw [PN.out]; unfold partsV; simp only; rw [HA.out, HBB.out, HSS.out]; rfl, below_put4 (HB2.out.setCell (Nat.le_succ _) _) (Nat.le_refl _) _ _ _ _⟩
    · omega

end Go.Proofs.YtbfegnbaleclfaaGreatDoor

namespace Go.Proofs.YtbfegnbaleclfaaGreatDoor
open Go.RowKit

def tNan : List UInt8 := [110, 97, 110]
def tInf : List UInt8 := [105, 110, 102]
def tNeg : List UInt8 := [45, 105, 110, 102]

noncomputable def partsD : Option Parts → DecT × Int
  | none => (⟨0, false, [], 0⟩, 50)
  | some p => tellF p.neg (decV (p.ahead ++ p.behind)) (p.pow - p.behind.length)

noncomputable def parseD (l : List UInt8) : DecT × Int :=
  if l = tNan then (⟨2, false, [], 0⟩, 0) else if l = tInf then (⟨1, false, [], 0⟩, 0) else if l = tNeg then (⟨1, true, [], 0⟩, 0) else partsD (parseT l)

theorem clone_any (s : ByteArray) (w : World) (h : s.size ≤ 281474976710656) : Calls Tryz.prog 32 #[.string s] w fun e w' => e = .returned (.string s) ∧ Below w.heap.size w w' := by
  have C := hide (fun W => Tryz.stringslite_Clone s W h)
  go_enter Tryz.func32, Tryz.ntmps32
  go_wp2_with fail
  refine (C.out _).mono ?_
  rintro e w1 ⟨rfl, hb⟩
  go_wp2
  go_ret
  exact ⟨rfl, hb⟩

theorem sl_ne {s : ByteArray} {l : List UInt8} (h : bys s ≠ l) : (s.toList == l) = false := by
  rw [sl]
  exact beq_eq_false_iff_ne.2 h
theorem powV_lt {l : List UInt8} (h2 : ¬ 5 < (dgs (unsg l)).length) (h3 : aft (unsg l) = []) : -100000 ≤ powV l ∧ powV l ≤ 100000 := by
  have h4 : dgs (unsg l) = unsg l := by have := dgs_aft (unsg l); rwa [h3, List.append_nil] at this
  have h5 := decV_lt _ (unsg l) rfl (by rw [← h4]; exact dgs_digB _)
  rw [h4] at h2
  have h6 : 10 ^ (unsg l).length ≤ 10 ^ 5 := Nat.pow_le_pow_right (by omega) (by omega)
  have h7 : (10 : Nat) ^ 5 = 100000 := by decide
  unfold powV
  split <;> omega

structure PartsOk (s : List UInt8) (p : Parts) : Prop where
  ahead : DigB p.ahead
  behind : DigB p.behind
  al : p.ahead.length ≤ s.length
  bl : p.behind.length ≤ s.length
  lo : -100000 ≤ p.pow
  hi : p.pow ≤ 100000

theorem parts_ok {s : List UInt8} {p : Parts} (h : parseT s = some p) : PartsOk s p := by
  have da : DigB (pAhead s) := dgs_digB _
  have db : DigB (pBehind s) := by
    unfold pBehind; split
    · exact dgs_digB _
    · intro k hk; simp at hk
  have la : (pAhead s).length ≤ s.length := Nat.le_trans (dgs_len _) (p1_len s)
  have lb : (pBehind s).length ≤ s.length := by
    unfold pBehind; split
    · exact Nat.le_trans (dgs_len _) (Nat.le_trans (tp_len _ _) (p2_len s))
    · simp
  unfold parseT at h
  by_cases h1 : pAhead s = [] ∧ pBehind s = []
  · rw [if_pos h1] at h; cases h
  · rw [if_neg h1] at h
    by_cases h2 : p3 s = []
    · rw [if_pos h2] at h; cases h
      exact ⟨da, db, la, lb, by simp, by simp⟩
    · rw [if_neg h2] at h
      by_cases h3 : ¬ (byt (p3 s) 0 = 101 ∨ byt (p3 s) 0 = 69)
      · rw [if_pos h3] at h; cases h
      · rw [if_neg h3] at h
        by_cases h4 : dgs (unsg (p4 s)) = [] ∨ 5 < (dgs (unsg (p4 s))).length ∨ aft (unsg (p4 s)) ≠ []
        · rw [if_pos h4] at h; cases h
        · rw [if_neg h4] at h; cases h
          have h5 : ¬ 5 < (dgs (unsg (p4 s))).length := fun e => h4 (.inr (.inl e))
          have h6 : aft (unsg (p4 s)) = [] := Classical.not_not.1 fun e => h4 (.inr (.inr e))
          obtain ⟨b1, b2⟩ := powV_lt h5 h6
          exact ⟨da, db, la, lb, b1, b2⟩

theorem tellF_len (neg : Bool) (N : Nat) (e : Int) : (tellF neg N e).1.dig.length ≤ 1000 := by
  by_cases h : May (finD neg N e)
  · rw [tellF_yes h]
    rcases may_cases h with ⟨n, h⟩ | h | ⟨n, h⟩ | h
    · rw [h]; simp
    · exact h.len
    · rw [h]; simp
    · rw [h]; simp
  · rw [tellF_no h]; simp

set_option maxRecDepth 100000 in
set_option maxHeartbeats 1000000 in
theorem parse_nan (w : World) : Calls Tryz.prog 22 #[.string ⟨#[110, 97, 110]⟩] w fun e w' => e = .returned (decErr (⟨2, false, [], 0⟩, 0)) ∧ Below w.heap.size w w' := by
  have Br0 := hide (Blk.newAt w (w.heap.size) (rfl) #[.int .i64 0, .bool false, .string ⟨#[]⟩, .int .i64 0] 43)
  have HB0 : Hid (Below w.heap.size w (w.alloc (.cells #[.int .i64 0, .bool false, .string ⟨#[]⟩, .int .i64 0] 43))) := ((Below.refl _ _).alloc (Nat.le_refl _) _)
  go_enter Tryz.func22, Tryz.ntmps22
  go_wp2
  refine bodyPost_ret (results_dec2 rfl _ _ _ _ _ _ _ rfl (Blk.new _ _ _)) rfl ?_
  exact ⟨rfl, (Below.refl _ _).alloc (Nat.le_refl _) _⟩

set_option maxRecDepth 100000 in
set_option maxHeartbeats 1000000 in
theorem parse_inf (w : World) : Calls Tryz.prog 22 #[.string ⟨#[105, 110, 102]⟩] w fun e w' => e = .returned (decErr (⟨1, false, [], 0⟩, 0)) ∧ Below w.heap.size w w' := by
  have Br0 := hide (Blk.newAt w (w.heap.size) (rfl) #[.int .i64 0, .bool false, .string ⟨#[]⟩, .int .i64 0] 43)
  have HB0 : Hid (Below w.heap.size w (w.alloc (.cells #[.int .i64 0, .bool false, .string ⟨#[]⟩, .int .i64 0] 43))) := ((Below.refl _ _).alloc (Nat.le_refl _) _)
  go_enter Tryz.func22, Tryz.ntmps22
  go_wp2
  refine bodyPost_ret (results_dec2 rfl _ _ _ _ _ _ _ rfl (Blk.new _ _ _)) rfl ?_
  exact ⟨rfl, (Below.refl _ _).alloc (Nat.le_refl _) _⟩

set_option maxRecDepth 100000 in
set_option maxHeartbeats 1000000 in
theorem parse_neg (w : World) : Calls Tryz.prog 22 #[.string ⟨#[45, 105, 110, 102]⟩] w fun e w' => e = .returned (decErr (⟨1, true, [], 0⟩, 0)) ∧ Below w.heap.size w w' := by
  have Br0 := hide (Blk.newAt w (w.heap.size) (rfl) #[.int .i64 0, .bool false, .string ⟨#[]⟩, .int .i64 0] 43)
  have HB0 : Hid (Below w.heap.size w (w.alloc (.cells #[.int .i64 0, .bool false, .string ⟨#[]⟩, .int .i64 0] 43))) := ((Below.refl _ _).alloc (Nat.le_refl _) _)
  go_enter Tryz.func22, Tryz.ntmps22
  go_wp2
  refine bodyPost_ret (results_dec2 rfl _ _ _ _ _ _ _ rfl (Blk.new _ _ _)) rfl ?_
  exact ⟨rfl, (Below.refl _ _).alloc (Nat.le_refl _) _⟩

set_option maxRecDepth 100000 in
set_option maxHeartbeats 1000000 in
theorem parse_none (s : ByteArray) (w : World) (hs : s.size ≤ 281474976710656) (h1 : bys s ≠ tNan) (h2 : bys s ≠ tInf) (h3 : bys s ≠ tNeg) (hp : parseT (bys s) = none) : Calls Tryz.prog 22 #[.string s] w fun e w' => e = .returned (decErr (⟨0, false, [], 0⟩, 50)) ∧ Below w.heap.size w w' := by
  have e1 := sl_ne h1
  have e2 := sl_ne h2
  have e3 := sl_ne h3
  unfold tNan at e1
  unfold tInf at e2
  unfold tNeg at e3
  have TK := hide (fun W => take_any s W hs)
  rw [hp] at TK
  unfold partsV numV at TK
  clear h1 h2 h3 hs hp
  have Br0 := hide (Blk.newAt w (w.heap.size) (rfl) #[.int .i64 0, .bool false, .string ⟨#[]⟩, .int .i64 0] 43)
  have HB0 : Hid (Below w.heap.size w (w.alloc (.cells #[.int .i64 0, .bool false, .string ⟨#[]⟩, .int .i64 0] 43))) := ((Below.refl _ _).alloc (Nat.le_refl _) _)
  go_enter Tryz.func22, Tryz.ntmps22
  go_wp2_with fail
  refine (TK.out _).mono ?_
  rintro e w1 ⟨rfl, hb⟩
  have Br1 := hide (Br0.out.below hb Br0.out.lt)
  have HB1 := hide (HB0.out.trans (hb.mono HB0.out.size))
  clear hb Br0 HB0 
  obtain ⟨yr0, yr1, yr2, yr3⟩ := Br1.out.four
  have Br2 := hide ((Br1.out.alloc (.cells #[.bool false, .string ⟨#[]⟩, .string ⟨#[]⟩, .int .i64 0] 71)))
  have Bn2 := hide ((Blk.newAt w1 (w1.heap.size) (rfl) #[.bool false, .string ⟨#[]⟩, .string ⟨#[]⟩, .int .i64 0] 71))
  have HB2 : Hid (Below w.heap.size w (w1.alloc (.cells #[.bool false, .string ⟨#[]⟩, .string ⟨#[]⟩, .int .i64 0] 71))) := (HB1.out.alloc HB1.out.size _)
  clear Br1 HB1 yr0 yr1 yr2 yr3
  obtain ⟨yr0, yr1, yr2, yr3⟩ := Br2.out.four
  obtain ⟨yn0, yn1, yn2, yn3⟩ := Bn2.out.four
  have fr0 := Br2.out.free 0
  have fr1 := Br2.out.free 1
  have fr2 := Br2.out.free 2
  have fr3 := Br2.out.free 3
  go_wp2
  refine bodyPost_ret (results_dec2 rfl _ _ _ _ _ _ _ rfl (Br2.out.put4 _ _ _ _)) rfl ?_
  exact ⟨rfl, below_put4 (HB2.out) (by omega) _ _ _ _⟩

set_option maxRecDepth 100000 in
set_option maxHeartbeats 1000000 in
theorem parse_some (s : ByteArray) (w : World) (p : Parts) (hs : s.size ≤ 140737488355328) (h1 : bys s ≠ tNan) (h2 : bys s ≠ tInf) (h3 : bys s ≠ tNeg) (hp : parseT (bys s) = some p) : Calls Tryz.prog 22 #[.string s] w fun e w' => e = .returned (decErr (tellF p.neg (decV (p.ahead ++ p.behind)) (p.pow - p.behind.length))) ∧ Below w.heap.size w w' := by
  have e1 := sl_ne h1
  have e2 := sl_ne h2
  have e3 := sl_ne h3
  unfold tNan at e1
  unfold tInf at e2
  unfold tNeg at e3
  obtain ⟨pa, pb, pc, pd, pe, pf⟩ := parts_ok hp
  rw [bys_len] at pc pd
  have TK := hide (fun W => take_any s W (by omega))
  rw [hp] at TK
  unfold partsV numV at TK
  obtain ⟨S, a, b, q⟩ := p
  simp only at pa pb pc pd pe pf TK ⊢
  obtain ⟨A, hA⟩ : ∃ A : ByteArray, A = ⟨a.toArray⟩ := ⟨_, rfl⟩
  obtain ⟨B, hB⟩ : ∃ B : ByteArray, B = ⟨b.toArray⟩ := ⟨_, rfl⟩
  rw [← hA, ← hB] at TK
  have hAs : A.size = a.length := by rw [hA, size_mk0]
  have hBs : B.size = b.length := by rw [hB, size_mk0]
  have hAB : bys (A ++ B) = a ++ b := by rw [bys_append, hA, hB, bys_mk, bys_mk]
  have FI := hide (fun W => fin_any S (A ++ B) (q - (B.size : Int)) W (by rw [ByteArray.size_append]; omega) (by omega) (by omega) (by rw [hAB]; exact pa.append pb))
  rw [hAB] at FI
  rw [← hBs]
  have hsum : A.size + B.size ≤ 9223372036854775807 := by omega
  have hsum2 : ¬ 9223372036854775807 < A.size + B.size := by omega
  have hl := tellF_len S (decV (a ++ b)) (q - (B.size : Int))
  rcases hT : tellF S (decV (a ++ b)) (q - (B.size : Int)) with ⟨⟨c, n, l, e⟩, er⟩
  rw [hT] at FI hl
  unfold decErr decVal at FI ⊢
  simp only at FI hl ⊢
  obtain ⟨D, hD⟩ : ∃ D : ByteArray, D = ⟨l.toArray⟩ := ⟨_, rfl⟩
  rw [← hD] at FI ⊢
  have CL := hide (fun W => clone_any D W (by rw [hD, size_mk0]; omega))
  have hq1 : -9000000000000000000 ≤ q - (B.size : Int) := by omega
  have hq2 : q - (B.size : Int) ≤ 9000000000000000000 := by omega
  clear h1 h2 h3 hs hp hA hB hAB hT hl hD pa pb hAs hBs pc pd
  have Br0 := hide (Blk.newAt w (w.heap.size) (rfl) #[.int .i64 0, .bool false, .string ⟨#[]⟩, .int .i64 0] 43)
  have HB0 : Hid (Below w.heap.size w (w.alloc (.cells #[.int .i64 0, .bool false, .string ⟨#[]⟩, .int .i64 0] 43))) := ((Below.refl _ _).alloc (Nat.le_refl _) _)
  go_enter Tryz.func22, Tryz.ntmps22
  go_wp2_with fail
  refine (TK.out _).mono ?_
  rintro e w1 ⟨rfl, hb⟩
  have Br1 := hide (Br0.out.below hb Br0.out.lt)
  have HB1 := hide (HB0.out.trans (hb.mono HB0.out.size))
  clear hb Br0 HB0 
  obtain ⟨yr0, yr1, yr2, yr3⟩ := Br1.out.four
  have Br2 := hide ((Br1.out.alloc (.cells #[.bool S, .string A, .string B, .int .i64 q] 71)))
  have Bn2 := hide ((Blk.newAt w1 (w1.heap.size) (rfl) #[.bool S, .string A, .string B, .int .i64 q] 71))
  have HB2 : Hid (Below w.heap.size w (w1.alloc (.cells #[.bool S, .string A, .string B, .int .i64 q] 71))) := (HB1.out.alloc HB1.out.size _)
  clear Br1 HB1 yr0 yr1 yr2 yr3
  obtain ⟨yr0, yr1, yr2, yr3⟩ := Br2.out.four
  obtain ⟨yn0, yn1, yn2, yn3⟩ := Bn2.out.four
  go_wp2_with fail
  refine (FI.out _).mono ?_
  rintro e w3 ⟨rfl, hb⟩
  have Br3 := hide (Br2.out.below hb Br2.out.lt)
  have Bn3 := hide (Bn2.out.below hb Bn2.out.lt)
  have HB3 := hide (HB2.out.trans (hb.mono HB2.out.size))
  clear hb Br2 Bn2 HB2 yr0 yr1 yr2 yr3 yn0 yn1 yn2 yn3
  have hlt := Br3.out.lt
  obtain ⟨yr0, yr1, yr2, yr3⟩ := Br3.out.four
  obtain ⟨yn0, yn1, yn2, yn3⟩ := Bn3.out.four
  go_wp2_with fail
  refine (CL.out _).mono ?_
  rintro e w4 ⟨rfl, hb⟩
  have Br4 := hide ((Br3.out.alloc (.cells #[.int .i64 (c : Int), .bool n, .string D, .int .i64 e] 43)).below hb (Br3.out.alloc (.cells #[.int .i64 (c : Int), .bool n, .string D, .int .i64 e] 43)).lt)
  have Bn4 := hide ((Bn3.out.alloc (.cells #[.int .i64 (c : Int), .bool n, .string D, .int .i64 e] 43)).below hb (Bn3.out.alloc (.cells #[.int .i64 (c : Int), .bool n, .string D, .int .i64 e] 43)).lt)
  have Bd4 := hide ((Blk.newAt w3 (w3.heap.size) (rfl) #[.int .i64 (c : Int), .bool n, .string D, .int .i64 e] 43).below hb (Blk.newAt w3 (w3.heap.size) (rfl) #[.int .i64 (c : Int), .bool n, .string D, .int .i64 e] 43).lt)
  have HB4 := hide ((HB3.out.alloc HB3.out.size _).trans (hb.mono (HB3.out.alloc HB3.out.size _).size))
  clear hb Br3 Bn3 HB3 yr0 yr1 yr2 yr3 yn0 yn1 yn2 yn3
  have hn1 : ¬ w3.heap.size = w.heap.size := by omega
  have hn2 : ¬ w.heap.size = w3.heap.size := by omega
  have hge : w.heap.size ≤ w3.heap.size := by omega
  clear hlt
  have fd2 := Bd4.out.free 2
  obtain ⟨yr0, yr1, yr2, yr3⟩ := Br4.out.four
  obtain ⟨yn0, yn1, yn2, yn3⟩ := Bn4.out.four
  obtain ⟨yd0, yd1, yd2, yd3⟩ := Bd4.out.four
  have fr0 := Br4.out.free 0
  have fr1 := Br4.out.free 1
  have fr2 := Br4.out.free 2
  have fr3 := Br4.out.free 3
  go_wp2
  refine bodyPost_ret (results_dec2 rfl _ _ _ _ _ _ _ rfl ((Br4.out.other (by simpa using hn1) _).put4 _ _ _ _)) rfl ?_
  exact ⟨rfl, below_put4 (HB4.out.setCell hge _) (by omega) _ _ _ _⟩

theorem Parse_any (s : ByteArray) (w : World) (hs : s.size ≤ 140737488355328) : Calls Tryz.prog 22 #[.string s] w fun e w' => e = .returned (decErr (parseD (bys s))) ∧ Below w.heap.size w w' := by
  unfold parseD
  by_cases h1 : bys s = tNan
  · rw [if_pos h1, ← mk_bys s, h1]; exact parse_nan w
  · rw [if_neg h1]
    by_cases h2 : bys s = tInf
    · rw [if_pos h2, ← mk_bys s, h2]; exact parse_inf w
    · rw [if_neg h2]
      by_cases h3 : bys s = tNeg
      · rw [if_pos h3, ← mk_bys s, h3]; exact parse_neg w
      · rw [if_neg h3]
        rcases hp : parseT (bys s) with _ | p
        · exact parse_none s w (by omega) h1 h2 h3 hp
        · exact parse_some s w p hs h1 h2 h3 hp

end Go.Proofs.YtbfegnbaleclfaaGreatDoor
