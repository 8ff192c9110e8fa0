/-
  From what a row of the given statements hands over (readings of the arguments, the bound on their bulk) to the words of the walks.
  An argument that is an api.Dec, as a row of the given statements hands it over.
  Plain mathematics of adding and taking away with a carry, digit by digit.
  Plain mathematics: decimal digits, the numbers that they are, and texts behind texts.
  Plain mathematics: a float as a number and a power of 2, how far it reaches, and the fewest digits that are picked.
  Plain mathematics: Decs, the one of a number times a power of 10, and those that package shortest tells.
  Plain mathematics: the Decs that package shortest tells have a Dec's one form.
  Plain mathematics: which Decs may be.
  Plain mathematics: decimal numbers in their one form, what they are worth, and how they stand.
  How two numbers stand, by their values.
  Plain mathematics: a number, rounded to the multiples of a unit by one of eight modes.
-/
import Derived.Test.YtckijnlolmbdiaaGreatDoorRows
import Derived.Test.YtckijnlolmbdiaaGreatDoorZOwn
import Derived.ProofKit
import Derived.OpenShut
import Derived.JoinedCond
import Derived.ChangeSame
import Derived.Lib.SmallJoins
import Derived.Test.YtckijnlolmbdiaaGreatDoorZCarry
import Derived.Lib.ItoaNum
import Derived.Lib.TrimByte
import Derived.Lib.Bytealg
import Derived.Test.YtckijnlolmbdiaaGreatDoorZCmp
namespace Go.Proofs.YtckijnlolmbdiaaGreatDoor
open Go.ChangeShapes Go.WideShapes Go.ChangeAt Go.RowKit

theorem Tryz.own : ownKnob Tryz.prog.godebug = none := by kernel_rfl
theorem Tryz.laidOut : laidOutB Tryz.prog = true := by kernel_rfl
end Go.Proofs.YtckijnlolmbdiaaGreatDoor

namespace Go.Proofs.YtckijnlolmbdiaaGreatDoor
open Go.ChangeShapes Go.WideShapes Go.ChangeAt Go.RowKit

theorem Tryz.cellsD : Tryz.prog.cellsOf 23 = 4 := by kernel_rfl

set_option maxRecDepth 100000 in
theorem viewD {H : Type} {enc : TypeId × Value → H} {W : World} {base : Nat} {v : Value} {d : DataW H} {p : List MemPlace} (hval : Value.okWide Tryz.prog W .any base 23 v) (h : DataW.Trod enc Tryz.prog W 0 (fun _ => true) true 23 v d p) :
    ∃ (c : Int) (neg : Bool) (t : ByteArray) (ex : Int), v = .agg #[.int .i64 c, .bool neg, .string t, .int .i64 ex] := by
  obtain ⟨v0, v1, v2, v3, y0, y1, y2, y3, n, rfl, _, _, h0, h1, h2, h3⟩ := Joins.open_agg4 Tryz.underlying23 (by kernel_rfl) Tryz.cellsD hval h
  obtain ⟨c, e0, _⟩ := DataW.trod_int Tryz.underlying3 h0
  obtain ⟨neg, e1, _⟩ := DataW.trod_bool Tryz.underlying4 h1
  obtain ⟨t, e2, _⟩ := DataW.trod_string Tryz.underlying9 h2
  obtain ⟨ex, e3, _⟩ := DataW.trod_int Tryz.underlying3 h3
  simp at e0 e1 e2 e3
  subst e0 e1 e2 e3
  exact ⟨c, neg, t, ex, rfl⟩

end Go.Proofs.YtckijnlolmbdiaaGreatDoor

namespace Go.Proofs.YtckijnlolmbdiaaGreatDoor

/-- The carry behind i digits. -/
def addC (b : Nat) (x y : Nat → Nat) : Nat → Nat
  | 0 => 0
  | i + 1 => (x i + y i + addC b x y i) / b

def addD (b : Nat) (x y : Nat → Nat) (i : Nat) : Nat := (x i + y i + addC b x y i) % b

theorem addC_le {b : Nat} {x y : Nat → Nat} (hx : ∀ i, x i < b) (hy : ∀ i, y i < b) : ∀ i, addC b x y i ≤ 1
  | 0 => by simp [addC]
  | i + 1 => by
    have h := addC_le hx hy i
    have h1 := hx i
    have h2 := hy i
    simp only [addC]
    have : x i + y i + addC b x y i < 2 * b := by omega
    have := (Nat.div_lt_iff_lt_mul (by omega)).2 this
    omega

theorem addD_lt {b : Nat} (hb : 0 < b) (x y : Nat → Nat) (i : Nat) : addD b x y i < b := Nat.mod_lt _ hb

theorem add_val (b : Nat) (x y : Nat → Nat) : ∀ n, V b x n + V b y n = V b (addD b x y) n + addC b x y n * b ^ n
  | 0 => by simp [V, addC]
  | n + 1 => by
    have ih := add_val b x y n
    simp only [V, addC, addD]
    have h := Nat.div_add_mod (x n + y n + addC b x y n) b
    generalize (x n + y n + addC b x y n) / b = q at *
    generalize (x n + y n + addC b x y n) % b = r at *
    have h2 : (b * q + r) * b ^ n = (x n + y n + addC b x y n) * b ^ n := by rw [h]
    rw [Nat.add_mul, Nat.add_mul, Nat.add_mul] at h2
    have h3 : b * q * b ^ n = q * b ^ (n + 1) := by rw [Nat.pow_succ, Nat.mul_comm b q, Nat.mul_assoc, Nat.mul_comm b]
    generalize V b (addD b x y) n = d at *
    omega

/-- The borrow behind i digits. -/
def subC (b : Nat) (x y : Nat → Nat) : Nat → Nat
  | 0 => 0
  | i + 1 => if x i < y i + subC b x y i then 1 else 0

def subD (b : Nat) (x y : Nat → Nat) (i : Nat) : Nat := (x i + b - y i - subC b x y i) % b

theorem subC_le {b : Nat} {x y : Nat → Nat} : ∀ i, subC b x y i ≤ 1
  | 0 => by simp [subC]
  | i + 1 => by simp only [subC]; split <;> omega

theorem subD_eq {b : Nat} {x y : Nat → Nat} (hx : ∀ i, x i < b) (hy : ∀ i, y i < b) (i : Nat) : subD b x y i + y i + subC b x y i = x i + subC b x y (i + 1) * b := by
  have h1 := hx i
  have h2 := hy i
  have h3 := subC_le (b := b) (x := x) (y := y) i
  simp only [subD, subC]
  split
  · rw [Nat.mod_eq_of_lt (by omega)]; omega
  · rw [show x i + b - y i - subC b x y i = (x i - y i - subC b x y i) + b by omega, Nat.add_mod_right, Nat.mod_eq_of_lt (by omega)]; omega

end Go.Proofs.YtckijnlolmbdiaaGreatDoor

namespace Go.Proofs.YtckijnlolmbdiaaGreatDoor

/-- The bytes of a string. -/
def bys (s : ByteArray) : List UInt8 := s.data.toList

theorem bys_len (s : ByteArray) : (bys s).length = s.size := by simp [bys]

/-- The k-th byte, nought behind the end. -/
def byt (l : List UInt8) (k : Nat) : Nat := (l[k]?.map UInt8.toNat).getD 0

theorem byt_get (s : ByteArray) (k : Nat) (h : k < s.size) : s[k].toNat = byt (bys s) k := by
  unfold byt bys
  have : s.data.toList[k]? = some s[k] := by
    rw [Array.getElem?_toList, Array.getElem?_eq_getElem h]; rfl
  rw [this]; rfl

/-- The number of decimal digits, the first the highest. -/
def decV (l : List UInt8) : Nat := l.foldl (fun a b => a * 10 + (b.toNat - 48)) 0

theorem decV_foldl (l : List UInt8) : ∀ a, l.foldl (fun a b => a * 10 + (b.toNat - 48)) a = a * 10 ^ l.length + decV l := by
  unfold decV
  induction l with
  | nil => intro a; simp
  | cons b t ih =>
    intro a
    simp only [List.foldl_cons, List.length_cons]
    rw [ih (a * 10 + (b.toNat - 48)), ih (0 * 10 + (b.toNat - 48)), Nat.pow_succ, Nat.add_mul, Nat.add_mul]
    have : a * 10 * 10 ^ t.length = a * (10 ^ t.length * 10) := by rw [Nat.mul_assoc, Nat.mul_comm 10]
    rw [this]; omega

theorem decV_append (a b : List UInt8) : decV (a ++ b) = decV a * 10 ^ b.length + decV b := by
  unfold decV
  rw [List.foldl_append]
  exact decV_foldl b _

/-- All bytes are digits. -/
def DigB (l : List UInt8) : Prop := ∀ k, k < l.length → 48 ≤ byt l k ∧ byt l k ≤ 57

theorem byt_take (l : List UInt8) {k n : Nat} (h : k < n) : byt (l.take n) k = byt l k := by
  unfold byt; rw [List.getElem?_take_of_lt h]
theorem byt_drop (l : List UInt8) (n k : Nat) : byt (l.drop n) k = byt l (n + k) := by
  unfold byt; rw [List.getElem?_drop]

theorem DigB.take {l : List UInt8} (h : DigB l) (n : Nat) : DigB (l.take n) := by
  intro k hk
  rw [List.length_take] at hk
  rw [byt_take l (by omega)]; exact h k (by omega)
theorem DigB.drop {l : List UInt8} (h : DigB l) (n : Nat) : DigB (l.drop n) := by
  intro k hk
  rw [List.length_drop] at hk
  rw [byt_drop]; exact h _ (by omega)

theorem decV_succ (l : List UInt8) {k : Nat} (h : k < l.length) : decV (l.take (k + 1)) = decV (l.take k) * 10 + (byt l k - 48) := by
  rw [List.take_succ_eq_append_getElem h, decV_append]
  unfold byt
  rw [List.getElem?_eq_getElem h]
  simp [decV]

theorem decV_lt : ∀ (n : Nat) (l : List UInt8), l.length = n → DigB l → decV l < 10 ^ n
  | 0, l, h, _ => by rw [List.length_eq_zero_iff.1 h]; simp [decV]
  | n + 1, l, h, hd => by
    have h1 := decV_lt n (l.take n) (by simp; omega) (hd.take n)
    have h2 := decV_succ l (k := n) (by omega)
    rw [List.take_of_length_le (by omega)] at h2
    have h3 := hd n (by omega)
    rw [h2, Nat.pow_succ]; omega

/-- A text is the digits of a number: no nought ahead, but of 0 itself. -/
def OkT (l : List UInt8) : Prop := l ≠ [] ∧ (byt l 0 = 48 → l = [48]) ∧ DigB l

theorem sl (s : ByteArray) : s.toList = bys s := ByteArray.toList_eq s

theorem dd_big {u : Nat} (h : ¬ u < 10) : Lib.decDigits u = Lib.decDigits (u / 10) ++ [UInt8.ofNat (48 + u % 10)] := by rw [Lib.decDigits, dif_neg h]

theorem u8_digit {d : Nat} (h : d < 10) : (UInt8.ofNat (48 + d)).toNat = 48 + d := by
  rw [UInt8.toNat_ofNat']
  omega

theorem byt_append_left (a b : List UInt8) {k : Nat} (h : k < a.length) : byt (a ++ b) k = byt a k := by
  unfold byt; rw [List.getElem?_append_left h]

theorem byt_last (a : List UInt8) (x : UInt8) : byt (a ++ [x]) a.length = x.toNat := by
  unfold byt; simp

theorem decV_last (a : List UInt8) (x : UInt8) : decV (a ++ [x]) = decV a * 10 + (x.toNat - 48) := by
  rw [decV_append]; simp [decV]

theorem DigB.last {a : List UInt8} (h : DigB a) {d : Nat} (hd : d < 10) : DigB (a ++ [UInt8.ofNat (48 + d)]) := by
  intro k hk
  rw [List.length_append] at hk
  by_cases e : k < a.length
  · rw [byt_append_left _ _ e]; exact h k e
  · have : k = a.length := by simp at hk; omega
    subst this
    rw [byt_last, u8_digit hd]; omega

theorem dd_ne (u : Nat) : Lib.decDigits u ≠ [] := by
  intro e
  have h := Lib.decDigits_length u
  rw [e] at h
  have := Lib.nDigits_pos u
  simp at h; omega

theorem dd_all : ∀ n u : Nat, u ≤ n → DigB (Lib.decDigits u) ∧ decV (Lib.decDigits u) = u ∧ (byt (Lib.decDigits u) 0 = 48 → Lib.decDigits u = [48])
  | n, u, hn => by
    by_cases h : u < 10
    · rw [Lib.decDigits_one h]
      refine ⟨?_, ?_, ?_⟩
      · have := DigB.last (a := []) (fun k hk => by simp at hk) h
        simpa using this
      · simp [decV]; omega
      · intro e
        have e2 : (UInt8.ofNat (48 + u)).toNat = 48 := by simpa [byt] using e
        rw [u8_digit h] at e2
        have : u = 0 := by omega
        subst this; rfl
    · rcases n with _ | n
      · omega
      · obtain ⟨h1, h2, h3⟩ := dd_all n (u / 10) (by omega)
        have hm : u % 10 < 10 := Nat.mod_lt _ (by omega)
        rw [dd_big h]
        refine ⟨h1.last hm, ?_, ?_⟩
        · rw [decV_last, h2, u8_digit hm]; omega
        · intro e
          have hpos : 0 < (Lib.decDigits (u / 10)).length := List.length_pos_iff.2 (dd_ne _)
          rw [byt_append_left _ _ hpos] at e
          have e2 := h3 e
          rw [e2] at h2
          simp [decV] at h2
          omega

theorem dd_okT (u : Nat) : OkT (Lib.decDigits u) := ⟨dd_ne u, (dd_all u u (Nat.le_refl _)).2.2, (dd_all u u (Nat.le_refl _)).1⟩
theorem dd_val (u : Nat) : decV (Lib.decDigits u) = u := (dd_all u u (Nat.le_refl _)).2.1

theorem dd_back : ∀ (n : Nat) (l : List UInt8), l.length = n + 1 → OkT l → Lib.decDigits (decV l) = l
  | 0, l, hl, h => by
    obtain ⟨x, rfl⟩ : ∃ x, l = [x] := by
      rcases l with _ | ⟨x, _ | ⟨y, t⟩⟩
      · simp at hl
      · exact ⟨x, rfl⟩
      · simp at hl
    have h1 := h.2.2 0 (by simp)
    have h2 : byt [x] 0 = x.toNat := by simp [byt]
    rw [h2] at h1
    have h3 : decV [x] = x.toNat - 48 := by simp [decV]
    rw [h3, Lib.decDigits_one (by omega)]
    congr 1
    rw [show 48 + (x.toNat - 48) = x.toNat by omega]
    exact UInt8.ofNat_toNat
  | n + 1, l, hl, h => by
    obtain ⟨a, x, rfl⟩ : ∃ a x, l = a ++ [x] := ⟨l.dropLast, l.getLast h.1, (List.dropLast_concat_getLast h.1).symm⟩
    have ha : a.length = n + 1 := by simp at hl; omega
    have hx := h.2.2 a.length (by simp)
    rw [byt_last] at hx
    have hne : byt (a ++ [x]) 0 ≠ 48 := by
      intro e
      have := congrArg List.length (h.2.1 e)
      rw [List.length_append] at this
      simp only [List.length_cons, List.length_nil] at this
      omega
    have h0 : byt a 0 = byt (a ++ [x]) 0 := (byt_append_left _ _ (by omega)).symm
    have da : DigB a := by
      intro k hk
      have := h.2.2 k (by simp; omega)
      rwa [byt_append_left _ _ hk] at this
    have oka : OkT a := ⟨fun e => by rw [e] at ha; simp at ha, fun e => absurd (h0 ▸ e) hne, da⟩
    have hb := dd_back n a ha oka
    have hv1 : 1 ≤ decV a := by
      rcases Nat.eq_zero_or_pos (decV a) with e | e
      · exfalso
        rw [e] at hb
        have : Lib.decDigits 0 = [48] := by rw [Lib.decDigits_one (by omega)]; rfl
        rw [this] at hb
        apply hne
        rw [← h0, ← hb]; rfl
      · exact e
    have hge : ¬ decV a * 10 + (x.toNat - 48) < 10 := by omega
    rw [decV_last, dd_big hge, show (decV a * 10 + (x.toNat - 48)) / 10 = decV a by omega, show (decV a * 10 + (x.toNat - 48)) % 10 = x.toNat - 48 by omega, hb]
    congr 2
    rw [show 48 + (x.toNat - 48) = x.toNat by omega]
    exact UInt8.ofNat_toNat

theorem bys_append (a b : ByteArray) : bys (a ++ b) = bys a ++ bys b := by
  unfold bys; simp

theorem byt_append_right (a b : List UInt8) (k : Nat) : byt (a ++ b) (a.length + k) = byt b k := by
  unfold byt; rw [List.getElem?_append_right (by omega), Nat.add_sub_cancel_left]

theorem DigB.append {a b : List UInt8} (ha : DigB a) (hb : DigB b) : DigB (a ++ b) := by
  intro k hk
  by_cases e : k < a.length
  · rw [byt_append_left _ _ e]; exact ha k e
  · rw [List.length_append] at hk
    have h := hb (k - a.length) (by omega)
    have e2 : byt (a ++ b) k = byt b (k - a.length) := by
      have := byt_append_right a b (k - a.length)
      rwa [show a.length + (k - a.length) = k by omega] at this
    rw [e2]; exact h

theorem dd_lt : ∀ n u : Nat, u ≤ n → u < 10 ^ (Lib.decDigits u).length ∧ (u ≠ 0 → 10 ^ ((Lib.decDigits u).length - 1) ≤ u)
  | n, u, hn => by
    by_cases h : u < 10
    · rw [Lib.decDigits_one h]
      exact ⟨by simpa using h, fun h0 => by simp; omega⟩
    · rcases n with _ | n
      · omega
      · obtain ⟨h1, h2⟩ := dd_lt n (u / 10) (by omega)
        have h3 := h2 (by omega)
        have hl : 0 < (Lib.decDigits (u / 10)).length := List.length_pos_iff.2 (dd_ne _)
        rw [dd_big h, List.length_append, List.length_singleton, Nat.add_sub_cancel]
        obtain ⟨m, hm⟩ : ∃ m, (Lib.decDigits (u / 10)).length = m + 1 := ⟨(Lib.decDigits (u / 10)).length - 1, by omega⟩
        rw [hm] at h1 h3 ⊢
        rw [Nat.add_sub_cancel] at h3
        rw [Nat.pow_succ] at h1
        rw [Nat.pow_succ, Nat.pow_succ]
        generalize 10 ^ m = p at *
        exact ⟨by omega, fun _ => by omega⟩

end Go.Proofs.YtckijnlolmbdiaaGreatDoor

namespace Go.Proofs.YtckijnlolmbdiaaGreatDoor

/-- Great powers, by name. -/
def powT (b n : Nat) : Nat := b ^ n
theorem powT_ge {b k n : Nat} (hb : 0 < b) (h : k ≤ n) : b ^ k ≤ powT b n := Nat.pow_le_pow_right hb h

end Go.Proofs.YtckijnlolmbdiaaGreatDoor

namespace Go.Proofs.YtckijnlolmbdiaaGreatDoor

/-- A Dec: class, sign, digits, exponent. -/
structure DecT where
  cls : Nat
  neg : Bool
  dig : List UInt8
  exp : Int
deriving DecidableEq

/-- Digits without the noughts behind. -/
def cut0 (l : List UInt8) : List UInt8 := Lib.trimRightB l 48

def tellDec (neg : Bool) (d : List UInt8) (e : Int) : DecT := ⟨0, neg, cut0 d, e + d.length - (cut0 d).length⟩

/-- The Dec of N times 10^e. -/
def decA (neg : Bool) (N : Nat) (e : Int) : DecT := tellDec neg (Lib.decDigits N) e

def sizeN (N : Nat) : Nat := (Lib.decDigits N).length

theorem cut0_snoc0 (l : List UInt8) : cut0 (l ++ [48]) = cut0 l := by
  unfold cut0 Lib.trimRightB
  simp

theorem cut0_snoc (l : List UInt8) {d : UInt8} (h : d ≠ 48) : cut0 (l ++ [d]) = l ++ [d] := by
  unfold cut0 Lib.trimRightB
  simp [h]

theorem u8_ne48 {d : Nat} (h : d < 10) (h0 : d ≠ 0) : UInt8.ofNat (48 + d) ≠ 48 := by
  intro e
  have := congrArg UInt8.toNat e
  rw [u8_digit h] at this
  simp at this; omega

theorem dd_ten {N : Nat} (h : N ≠ 0) : Lib.decDigits (N * 10) = Lib.decDigits N ++ [48] := by
  rw [dd_big (by omega), Nat.mul_div_cancel _ (by omega), Nat.mul_mod_left]
  rfl

theorem decA_ten {neg : Bool} {N : Nat} {e : Int} (h : N ≠ 0) : decA neg (N * 10) e = decA neg N (e + 1) := by
  unfold decA tellDec
  rw [dd_ten h, cut0_snoc0, List.length_append, List.length_singleton]
  congr 1
  omega

theorem decA_tens {neg : Bool} {N : Nat} (h : N ≠ 0) : ∀ (k : Nat) (e : Int), decA neg (N * 10 ^ k) e = decA neg N (e + k)
  | 0, e => by simp
  | k + 1, e => by
    have hp : 0 < 10 ^ k := Nat.pow_pos (by omega)
    rw [Nat.pow_succ, ← Nat.mul_assoc, decA_ten (by have := Nat.mul_pos (Nat.pos_of_ne_zero h) hp; omega), decA_tens h k]
    congr 1
    push_cast; omega

/-- A number that does not end in a nought is told by just its digits. -/
theorem decA_plain {neg : Bool} {N : Nat} {e : Int} (h : N % 10 ≠ 0) : decA neg N e = ⟨0, neg, Lib.decDigits N, e⟩ := by
  have : cut0 (Lib.decDigits N) = Lib.decDigits N := by
    by_cases h10 : N < 10
    · rw [Lib.decDigits_one h10]
      exact cut0_snoc [] (u8_ne48 h10 (by omega))
    · rw [dd_big h10]
      exact cut0_snoc _ (u8_ne48 (Nat.mod_lt _ (by omega)) h)
  unfold decA tellDec
  rw [this]
  congr 1
  omega

/-- Every number above 0 is one that does not end in a nought, times a power of 10. -/
theorem tens_of : ∀ (n N : Nat), N ≤ n → N ≠ 0 → ∃ M k, N = M * 10 ^ k ∧ M % 10 ≠ 0
  | 0, N, h, h0 => absurd h0 (by omega)
  | n + 1, N, h, h0 => by
    by_cases hm : N % 10 = 0
    · obtain ⟨M, k, h1, h2⟩ := tens_of n (N / 10) (by omega) (by omega)
      refine ⟨M, k + 1, ?_, h2⟩
      rw [Nat.pow_succ, ← Nat.mul_assoc, ← h1]; omega
    · exact ⟨N, 0, by simp, hm⟩

/-- What a Dec of a number above 0 is: M does not end in a nought. -/
theorem decA_form (neg : Bool) {N : Nat} (e : Int) (h : N ≠ 0) : ∃ M k : Nat, N = M * 10 ^ k ∧ M % 10 ≠ 0 ∧ decA neg N e = ⟨0, neg, Lib.decDigits M, e + k⟩ := by
  obtain ⟨M, k, h1, h2⟩ := tens_of N N (Nat.le_refl _) h
  refine ⟨M, k, h1, h2, ?_⟩
  rw [h1, decA_tens (by omega), decA_plain h2]

theorem sizeN_eq {N s : Nat} (h1 : 10 ^ s ≤ N) (h2 : N < 10 ^ (s + 1)) : sizeN N = s + 1 := by
  have h0 : N ≠ 0 := by have := Nat.pow_pos (n := s) (show 0 < 10 by omega); omega
  have h3 := dd_lt N N (Nat.le_refl _)
  have h4 := h3.2 h0
  have l1 : s < (Lib.decDigits N).length := (Nat.pow_lt_pow_iff_right (by omega : 1 < 10)).1 (by omega)
  have l2 : (Lib.decDigits N).length - 1 < s + 1 := (Nat.pow_lt_pow_iff_right (by omega : 1 < 10)).1 (by omega)
  unfold sizeN; omega

theorem sizeN_pos (N : Nat) : 0 < sizeN N := List.length_pos_iff.2 (dd_ne N)

theorem sizeN_ge {N : Nat} (h : N ≠ 0) : 10 ^ (sizeN N - 1) ≤ N := (dd_lt N N (Nat.le_refl _)).2 h
theorem sizeN_le {N s : Nat} (h : N < 10 ^ s) (hs : 1 ≤ s) : sizeN N ≤ s := by
  by_cases h0 : N = 0
  · subst h0; unfold sizeN; rw [Lib.decDigits_one (by omega)]; simpa using hs
  · have := sizeN_ge h0
    have : sizeN N - 1 < s := (Nat.pow_lt_pow_iff_right (by omega : 1 < 10)).1 (by omega)
    have := sizeN_pos N
    omega

end Go.Proofs.YtckijnlolmbdiaaGreatDoor

namespace Go.Proofs.YtckijnlolmbdiaaGreatDoor

end Go.Proofs.YtckijnlolmbdiaaGreatDoor

namespace Go.Proofs.YtckijnlolmbdiaaGreatDoor

/-- Which Decs may be: class, sign, digits, exponent. -/
def MayD (c : Int) (neg : Bool) (dig : List UInt8) (e : Int) : Prop :=
  (c = 0 ∧ ((dig = [] ∧ e = 0) ∨ (dig ≠ [] ∧ dig.length ≤ 1000 ∧ -2000 ≤ e + dig.length ∧ e + dig.length ≤ 2000 ∧ byt dig 0 ≠ 48 ∧ byt dig (dig.length - 1) ≠ 48 ∧ DigB dig))) ∨
  (c = 1 ∧ dig = [] ∧ e = 0) ∨ (c = 2 ∧ neg = false ∧ dig = [] ∧ e = 0)

/-- Digits that do not begin with a nought are a number above 0. -/
theorem decV_ne {l : List UInt8} (h : l ≠ []) (h0 : byt l 0 ≠ 48) (hd : DigB l) : decV l ≠ 0 := by
  have ok : OkT l := ⟨h, fun e => absurd e h0, hd⟩
  rcases hl : l.length with _ | n
  · exact absurd (List.length_eq_zero_iff.1 hl) h
  · have hb := dd_back n l hl ok
    intro e
    rw [e, Lib.decDigits_one (by omega)] at hb
    apply h0
    rw [← hb]; rfl

end Go.Proofs.YtckijnlolmbdiaaGreatDoor

namespace Go.Proofs.YtckijnlolmbdiaaGreatDoor

/-- May a Dec be? -/
def May (d : DecT) : Prop := MayD (d.cls : Int) d.neg d.dig d.exp

/-- The Dec of N times 10^e, whatever N is. -/
def finD (neg : Bool) (N : Nat) (e : Int) : DecT := if N = 0 then ⟨0, neg, [], 0⟩ else decA neg N e

theorem cut0_cons (b : UInt8) (t : List UInt8) : cut0 (b :: t) = if cut0 t = [] then (if b = 48 then [] else [b]) else b :: cut0 t := by
  unfold cut0 Lib.trimRightB
  rw [List.reverse_cons, List.dropWhile_append]
  by_cases h : t.reverse.dropWhile (· == (48 : UInt8)) = []
  · rw [h]
    by_cases hb : b = 48
    · subst hb; simp
    · simp [hb]
  · have h2 : (t.reverse.dropWhile (· == (48 : UInt8))).isEmpty = false := by simpa using h
    rw [h2]
    have h3 : ¬ (t.reverse.dropWhile (· == (48 : UInt8))).reverse = [] := by simpa using h
    rw [if_neg h3]
    simp

theorem byt_cons0 (b : UInt8) (t : List UInt8) : byt (b :: t) 0 = b.toNat := by simp [byt]
theorem byt_consS (b : UInt8) (t : List UInt8) (k : Nat) : byt (b :: t) (k + 1) = byt t k := by simp [byt]

theorem DigB.tail {b : UInt8} {t : List UInt8} (h : DigB (b :: t)) : DigB t := fun k hk => by
  have := h (k + 1) (by simp; omega)
  rwa [byt_consS] at this

theorem DigB.head {b : UInt8} {t : List UInt8} (h : DigB (b :: t)) : 48 ≤ b.toNat ∧ b.toNat ≤ 57 := by
  have := h 0 (by simp)
  rwa [byt_cons0] at this

theorem decV_cons (b : UInt8) (t : List UInt8) : decV (b :: t) = (b.toNat - 48) * 10 ^ t.length + decV t := by
  have := decV_append [b] t
  rw [List.singleton_append] at this
  rw [this]; simp [decV]

theorem u8_48 {b : UInt8} (h : b.toNat = 48) : b = 48 := by
  rw [← UInt8.ofNat_toNat (x := b), h]; rfl

theorem decV_cut0 : ∀ (l : List UInt8), cut0 l = [] → decV l = 0
  | [], _ => rfl
  | b :: t, h => by
    rw [cut0_cons] at h
    by_cases h1 : cut0 t = []
    · rw [if_pos h1] at h
      by_cases h2 : b = 48
      · subst h2
        rw [decV_cons, decV_cut0 t h1]
        simp
      · rw [if_neg h2] at h; simp at h
    · rw [if_neg h1] at h; simp at h

/-- The digits without the noughts at both ends. -/
def mid0 (l : List UInt8) : List UInt8 := Lib.trimLeftB (cut0 l) 48

theorem mid0_zero : ∀ (l : List UInt8), DigB l → decV l = 0 → mid0 l = []
  | [], _, _ => rfl
  | b :: t, hd, h => by
    rw [decV_cons] at h
    have hb := hd.head
    have h1 : b.toNat - 48 = 0 := by
      rcases Nat.eq_zero_or_pos (b.toNat - 48) with e | e
      · exact e
      · exfalso
        have := Nat.mul_pos e (Nat.pow_pos (n := t.length) (show 0 < 10 by omega))
        omega
    have h2 : b = 48 := u8_48 (by omega)
    have ih := mid0_zero t hd.tail (by omega)
    subst h2
    unfold mid0 at *
    rw [cut0_cons]
    by_cases h3 : cut0 t = []
    · rw [if_pos h3, if_pos rfl]; rfl
    · rw [if_neg h3]
      unfold Lib.trimLeftB at *
      rw [List.dropWhile_cons_of_pos (by simp)]
      exact ih

theorem mid0_form (neg : Bool) : ∀ (l : List UInt8) (e : Int), DigB l → decV l ≠ 0 → mid0 l ≠ [] ∧ DecT.mk 0 neg (mid0 l) (e + l.length - (cut0 l).length) = decA neg (decV l) e
  | [], _, _, h => absurd rfl h
  | b :: t, e, hd, h => by
    by_cases hb : b = 48
    · subst hb
      have hv : decV (48 :: t) = decV t := by rw [decV_cons]; simp
      rw [hv] at h
      have hc : cut0 t ≠ [] := fun hc => h (decV_cut0 t hc)
      obtain ⟨h1, h2⟩ := mid0_form neg t e hd.tail h
      have e1 : cut0 (48 :: t) = 48 :: cut0 t := by rw [cut0_cons, if_neg hc]
      have e2 : mid0 (48 :: t) = mid0 t := by
        unfold mid0
        rw [e1]
        unfold Lib.trimLeftB
        rw [List.dropWhile_cons_of_pos (by simp)]
      rw [e2, hv, e1]
      refine ⟨h1, ?_⟩
      rw [← h2]
      congr 1
      simp only [List.length_cons]
      omega
    · have h48 : byt (b :: t) 0 ≠ 48 := by rw [byt_cons0]; exact fun e => hb (u8_48 e)
      have ok : OkT (b :: t) := ⟨by simp, fun e => absurd e h48, hd⟩
      have hb2 := dd_back t.length (b :: t) (by simp) ok
      have hc : ∃ u, cut0 (b :: t) = b :: u := by
        rw [cut0_cons]
        by_cases h3 : cut0 t = []
        · rw [if_pos h3, if_neg hb]; exact ⟨_, rfl⟩
        · rw [if_neg h3]; exact ⟨_, rfl⟩
      obtain ⟨u, hu⟩ := hc
      have e2 : mid0 (b :: t) = cut0 (b :: t) := by
        unfold mid0
        rw [hu]
        unfold Lib.trimLeftB
        rw [List.dropWhile_cons_of_neg (by simpa using hb)]
      refine ⟨by rw [e2, hu]; simp, ?_⟩
      unfold decA tellDec
      rw [hb2, e2]

/-- What decform's Of tells of digits. -/
def ofD (neg : Bool) (l : List UInt8) (e : Int) : DecT := if mid0 l = [] then ⟨0, neg, [], 0⟩ else ⟨0, neg, mid0 l, e + l.length - (cut0 l).length⟩

theorem ofD_fin (neg : Bool) (l : List UInt8) (e : Int) (hd : DigB l) : ofD neg l e = finD neg (decV l) e := by
  unfold ofD finD
  by_cases h : decV l = 0
  · rw [if_pos (mid0_zero l hd h), if_pos h]
  · obtain ⟨h1, h2⟩ := mid0_form neg l e hd h
    rw [if_neg h1, if_neg h, h2]

/-- What is told of a finite number: the Dec, or that it may not be. -/
noncomputable def tellF (neg : Bool) (N : Nat) (e : Int) : DecT × Int := open Classical in if May (finD neg N e) then (finD neg N e, 0) else (⟨0, false, [], 0⟩, 51)

theorem tellF_yes {neg : Bool} {N : Nat} {e : Int} (h : May (finD neg N e)) : tellF neg N e = (finD neg N e, 0) := by unfold tellF; rw [if_pos h]
theorem tellF_no {neg : Bool} {N : Nat} {e : Int} (h : ¬ May (finD neg N e)) : tellF neg N e = (⟨0, false, [], 0⟩, 51) := by unfold tellF; rw [if_neg h]

theorem may_zero (neg : Bool) : May ⟨0, neg, [], 0⟩ := .inl ⟨rfl, .inl ⟨rfl, rfl⟩⟩

/-- A finite Dec that is not 0, as it may be. -/
structure Fin (d : DecT) : Prop where
  cls : d.cls = 0
  ne : d.dig ≠ []
  len : d.dig.length ≤ 1000
  lo : -2000 ≤ d.exp + d.dig.length
  hi : d.exp + d.dig.length ≤ 2000
  first : byt d.dig 0 ≠ 48
  last : byt d.dig (d.dig.length - 1) ≠ 48
  dig : DigB d.dig

theorem Fin.may {d : DecT} (h : Fin d) : May d := .inl ⟨by rw [h.cls]; rfl, .inr ⟨h.ne, h.len, h.lo, h.hi, h.first, h.last, h.dig⟩⟩

theorem may_cases {d : DecT} (h : May d) : (∃ neg, d = ⟨0, neg, [], 0⟩) ∨ Fin d ∨ (∃ neg, d = ⟨1, neg, [], 0⟩) ∨ d = ⟨2, false, [], 0⟩ := by
  obtain ⟨c, n, l, e⟩ := d
  rcases h with ⟨h1, h2⟩ | ⟨h1, h2, h3⟩ | ⟨h1, h2, h3, h4⟩
  · have hc : c = 0 := by simpa using h1
    subst hc
    rcases h2 with ⟨h2, h3⟩ | ⟨h2, h3, h4, h5, h6, h7, h8⟩
    · simp only at h2 h3
      subst h2 h3
      exact .inl ⟨n, rfl⟩
    · exact .inr (.inl ⟨rfl, h2, h3, h4, h5, h6, h7, h8⟩)
  · have hc : c = 1 := by simp only at h1; omega
    simp only at h2 h3
    subst hc h2 h3
    exact .inr (.inr (.inl ⟨n, rfl⟩))
  · have hc : c = 2 := by simp only at h1; omega
    simp only at h2 h3 h4
    subst hc h2 h3 h4
    exact .inr (.inr (.inr rfl))

theorem Fin.okT {d : DecT} (h : Fin d) : OkT d.dig := ⟨h.ne, fun e => absurd e h.first, h.dig⟩
theorem Fin.val {d : DecT} (h : Fin d) : decV d.dig ≠ 0 := decV_ne h.ne h.first h.dig

theorem Fin.back {d : DecT} (h : Fin d) : Lib.decDigits (decV d.dig) = d.dig := by
  rcases hl : d.dig.length with _ | n
  · exact absurd (List.length_eq_zero_iff.1 hl) h.ne
  · exact dd_back n _ hl h.okT

theorem cut0_last {l : List UInt8} (h : l ≠ []) (h2 : byt l (l.length - 1) ≠ 48) : cut0 l = l := by
  obtain ⟨a, x, rfl⟩ : ∃ a x, l = a ++ [x] := ⟨l.dropLast, l.getLast h, (List.dropLast_concat_getLast h).symm⟩
  refine cut0_snoc a (fun e => h2 ?_)
  rw [show (a ++ [x]).length - 1 = a.length by simp, byt_last, e]; rfl

theorem Fin.fin {d : DecT} (h : Fin d) : finD d.neg (decV d.dig) d.exp = d := by
  unfold finD decA tellDec
  rw [if_neg h.val, h.back, cut0_last h.ne h.last]
  obtain ⟨c, n, l, e⟩ := d
  have := h.cls
  simp only at this
  subst this
  simp only
  congr 1
  omega

/-- What a Dec's digits are worth, counted in 10^-9000. -/
def amt (l : List UInt8) (e : Int) : Nat := decV l * 10 ^ (e + 9000).toNat

/-- Signed. -/
def zD (neg : Bool) (n : Nat) : Int := if neg then -(n : Int) else (n : Int)

def vD (d : DecT) : Int := zD d.neg (amt d.dig d.exp)

theorem zD_zero (neg : Bool) : zD neg 0 = 0 := by cases neg <;> rfl
theorem zD_mul (neg : Bool) (n k : Nat) : zD neg (n * k) = zD neg n * (k : Int) := by cases neg <;> simp [zD, Int.neg_mul]

theorem pow_toNat {e : Int} {k : Nat} (h : -9000 ≤ e) : 10 ^ (e + (k : Int) + 9000).toNat = 10 ^ k * 10 ^ (e + 9000).toNat := by
  rw [← Nat.pow_add]; congr 1; omega

theorem amt_decA {neg : Bool} {N : Nat} {e : Int} (h : N ≠ 0) (he : -9000 ≤ e) : amt (decA neg N e).dig (decA neg N e).exp = N * 10 ^ (e + 9000).toNat := by
  obtain ⟨M, k, h1, _, h3⟩ := decA_form neg e h
  rw [h3]
  simp only [amt]
  rw [dd_val, pow_toNat he, h1, Nat.mul_assoc]

theorem vD_fin {neg : Bool} {N : Nat} {e : Int} (he : -9000 ≤ e) : vD (finD neg N e) = zD neg N * ((10 ^ (e + 9000).toNat : Nat) : Int) := by
  unfold finD
  by_cases h : N = 0
  · subst h
    rw [if_pos rfl]
    simp only [vD, amt, decV, List.foldl_nil, Nat.zero_mul, zD_zero, Int.zero_mul]
  · rw [if_neg h]
    unfold vD
    rw [amt_decA h he, show (decA neg N e).neg = neg from rfl, zD_mul]

theorem finD_cls (neg : Bool) (N : Nat) (e : Int) : (finD neg N e).cls = 0 := by
  unfold finD; split <;> rfl

theorem Fin.amt_lt {d : DecT} (h : Fin d) : amt d.dig d.exp < 10 ^ (d.exp + d.dig.length + 9000).toNat := by
  unfold amt
  have h1 := decV_lt d.dig.length d.dig rfl h.dig
  have h2 := h.len
  have h3 := h.lo
  rw [show (d.exp + d.dig.length + 9000).toNat = d.dig.length + (d.exp + 9000).toNat by omega, Nat.pow_add]
  exact Nat.mul_lt_mul_of_pos_right h1 (Nat.pow_pos (by omega))

theorem Fin.amt_ge {d : DecT} (h : Fin d) : 10 ^ (d.exp + d.dig.length + 8999).toNat ≤ amt d.dig d.exp := by
  unfold amt
  have h1 := sizeN_ge h.val
  unfold sizeN at h1
  rw [h.back] at h1
  have h2 := h.len
  have h3 := h.lo
  have h4 := List.length_pos_iff.2 h.ne
  rw [show (d.exp + d.dig.length + 8999).toNat = (d.dig.length - 1) + (d.exp + 9000).toNat by omega, Nat.pow_add]
  exact Nat.mul_le_mul_right _ h1

end Go.Proofs.YtckijnlolmbdiaaGreatDoor

namespace Go.Proofs.YtckijnlolmbdiaaGreatDoor
open Go.RowKit

/-- How two numbers stand: -1, 0 or 1. -/
def cmpN (a b : Nat) : Int := if a < b then -1 else if b < a then 1 else 0

theorem cmpTo_V {b : Nat} {xs ys : List Nat} (hx : Ok b xs) (hy : Ok b ys) : ∀ n, cmpTo xs ys n = cmpN (V b (dg xs) n) (V b (dg ys) n)
  | 0 => rfl
  | n + 1 => by
    have ih := cmpTo_V hx hy n
    have h1 := V_lt (b := b) n (fun i _ => hx i)
    have h2 := V_lt (b := b) n (fun i _ => hy i)
    simp only [cmpTo, V]
    have key : ∀ (p q u v B : Nat), u < B → v < B → p < q → u + p * B < v + q * B := by
      intro p q u v B hu hv hpq
      have := Nat.mul_le_mul_right B (show p + 1 ≤ q from hpq)
      rw [Nat.add_mul, Nat.one_mul] at this
      omega
    show (if dg xs n < dg ys n then -1 else if dg ys n < dg xs n then 1 else cmpTo xs ys n) = _
    unfold cmpN
    rcases Nat.lt_trichotomy (dg xs n) (dg ys n) with h | h | h
    · have := key _ _ _ _ _ h1 h2 h
      rw [if_pos h, if_pos this]
    · rw [if_neg (by omega), if_neg (by omega), ih, h]
      unfold cmpN
      congr 1
      · simp
      · simp
    · have := key _ _ _ _ _ h2 h1 h
      rw [if_neg (by omega), if_pos h, if_neg (by omega), if_pos this]

theorem cmp_num (ao bo : Option Addr) (la ca lb cb : Nat) (xs ys : List Nat) (w : World) (hla : la ≤ 1000000000000) (hlb : lb ≤ 1000000000000) (hx : xs.length = la) (hy : ys.length = lb)
    (hax : At .u64 w ao xs) (hay : At .u64 w bo ys) (ox : Ok B64 xs) (oy : Ok B64 ys) (z : Int) (hz : cmpN (num B64 xs) (num B64 ys) = z) :
    Calls Tryz.prog 84 #[.slice ao la ca, .slice bo lb cb] w fun e w' => e = .returned (.int .i64 z) ∧ Below w.heap.size w w' := by
  have h := cmp_any ao bo la ca lb cb xs ys w hla hlb hx hy hax hay
  rw [cmpTo_V ox oy, num_eq (by omega), num_eq (by omega), hz] at h
  exact h

end Go.Proofs.YtckijnlolmbdiaaGreatDoor

namespace Go.Proofs.YtckijnlolmbdiaaGreatDoor

/-- Does a mode leave the inner neighbour for the outer one? -/
def leavesB (m : Nat) (neg odd : Bool) (half : Int) : Bool :=
  match m with
  | 0 => !neg
  | 1 => neg
  | 2 => false
  | 3 => true
  | 4 => decide (0 < half) || (decide (half = 0) && odd)
  | 5 => decide (0 < half)
  | 6 => decide (0 ≤ half)
  | _ => decide (0 < half) || (decide (half = 0) && !odd)

/-- How many units a number is rounded to. -/
def rndN (A U : Nat) (neg : Bool) (m : Nat) : Nat := A / U + (if A % U = 0 then 0 else if leavesB m neg (decide (A / U % 2 = 1)) (cmpN (A % U + A % U) U) then 1 else 0)

theorem cmpN_mul (x y c : Nat) (hc : 0 < c) : cmpN (x * c) (y * c) = cmpN x y := by
  unfold cmpN
  simp only [Nat.mul_lt_mul_right hc]

theorem rndN_mul (A U c : Nat) (neg : Bool) (m : Nat) (hc : 0 < c) : rndN (A * c) (U * c) neg m = rndN A U neg m := by
  unfold rndN
  have h1 : A * c / (U * c) = A / U := Nat.mul_div_mul_right _ _ hc
  have h2 : A * c % (U * c) = A % U * c := Nat.mul_mod_mul_right _ _ _
  have h3 : (A % U * c = 0) = (A % U = 0) := by
    apply propext
    constructor
    · intro h
      rcases Nat.mul_eq_zero.1 h with h | h
      · exact h
      · omega
    · intro h; rw [h, Nat.zero_mul]
  rw [h1, h2, ← Nat.add_mul, cmpN_mul _ _ _ hc]
  simp only [h3]

theorem rndN_exact {A U : Nat} (neg : Bool) (m : Nat) (h : A % U = 0) : rndN A U neg m = A / U := by
  unfold rndN
  rw [if_pos h, Nat.add_zero]

/-- What a Dec is rounded to: the multiples of N times 10^x. -/
noncomputable def rndD (d : DecT) (N : Nat) (x : Int) (m : Nat) : DecT × Int :=
  if d.dig = [] then (d, 0) else tellF d.neg (rndN (decV d.dig * 10 ^ (d.exp - min d.exp x).toNat) (N * 10 ^ (x - min d.exp x).toNat) d.neg m * N) x

theorem finD_tens (neg : Bool) (N k : Nat) (e : Int) : finD neg (N * 10 ^ k) e = finD neg N (e + k) := by
  unfold finD
  have hk : 0 < 10 ^ k := Nat.pow_pos (by omega)
  by_cases h : N = 0
  · subst h; rw [Nat.zero_mul, if_pos rfl, if_pos rfl]
  · rw [if_neg h, if_neg (Nat.mul_ne_zero h (by omega)), decA_tens h]

theorem finD_same (neg : Bool) {K D a b : Nat} {x y : Int} (h : K * 10 ^ a = D * 10 ^ b) (hxy : x - (a : Int) = y - (b : Int)) : finD neg K x = finD neg D y := by
  have h1 := finD_tens neg K a (x - a)
  have h2 := finD_tens neg D b (y - b)
  rw [show x - (a : Int) + a = x by omega] at h1
  rw [show y - (b : Int) + b = y by omega] at h2
  rw [← h1, ← h2, h, hxy]

theorem rndD_zero {d : DecT} (h : d.dig = []) (N : Nat) (x : Int) (m : Nat) : rndD d N x m = (d, 0) := by unfold rndD; rw [if_pos h]

theorem rndD_fin {d : DecT} (h : d.dig ≠ []) (N : Nat) (x : Int) (m : Nat) : rndD d N x m = tellF d.neg (rndN (decV d.dig * 10 ^ (d.exp - min d.exp x).toNat) (N * 10 ^ (x - min d.exp x).toNat) d.neg m * N) x := by unfold rndD; rw [if_neg h]

/-- What is a multiple already stays. -/
theorem rndD_exact {d : DecT} (hd : Fin d) {N : Nat} {x : Int} (m : Nat) (h : decV d.dig * 10 ^ (d.exp - min d.exp x).toNat % (N * 10 ^ (x - min d.exp x).toNat) = 0) : rndD d N x m = (d, 0) := by
  rw [rndD_fin hd.ne, rndN_exact _ _ h]
  have e : finD d.neg (decV d.dig * 10 ^ (d.exp - min d.exp x).toNat / (N * 10 ^ (x - min d.exp x).toNat) * N) x = d := by
    have := Nat.div_mul_cancel (Nat.dvd_of_mod_eq_zero h)
    refine Eq.trans (finD_same d.neg (a := (x - min d.exp x).toNat) (b := (d.exp - min d.exp x).toNat) (D := decV d.dig) (y := d.exp) ?_ (by omega)) hd.fin
    rw [Nat.mul_assoc]; exact this
  have hm : May (finD d.neg (decV d.dig * 10 ^ (d.exp - min d.exp x).toNat / (N * 10 ^ (x - min d.exp x).toNat) * N) x) := by rw [e]; exact hd.may
  rw [tellF_yes hm, e]

end Go.Proofs.YtckijnlolmbdiaaGreatDoor
