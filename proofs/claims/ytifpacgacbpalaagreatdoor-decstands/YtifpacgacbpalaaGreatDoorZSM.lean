/-
  Plain mathematics: decimal digits, the numbers that they are, and texts behind texts.
  Plain mathematics: a float as a number and a power of 2, how far it reaches, and the fewest digits that are picked.
  Plain mathematics: Decs, the one of a number times a power of 10, and those that package shortest tells.
  Plain mathematics: the Decs that package shortest tells have a Dec's one form.
-/
import Derived.Test.YtifpacgacbpalaaGreatDoorCarry
import Derived.Lib.ItoaNum
import Derived.Lib.TrimByte
namespace Go.Proofs.YtifpacgacbpalaaGreatDoor

/-- The bytes of a string. -/
def bys (s : ByteArray) : List UInt8 := s.data.toList

theorem bys_len (s : ByteArray) : (bys s).length = s.size := by simp [bys]

/-- The k-th byte, nought behind the end. -/
def byt (l : List UInt8) (k : Nat) : Nat := (l[k]?.map UInt8.toNat).getD 0

theorem byt_get (s : ByteArray) (k : Nat) (h : k < s.size) : s[k].toNat = byt (bys s) k := by
  unfold byt bys
  have : s.data.toList[k]? = some s[k] := by
    rw [Array.getElem?_toList, Array.getElem?_eq_getElem h]; rfl
  rw [this]; rfl

theorem byt_lt (l : List UInt8) (k : Nat) : byt l k < 256 := by
  unfold byt
  cases l[k]? with
  | none => simp
  | some b => simp; exact b.toNat_lt

/-- The number of decimal digits, the first the highest. -/
def decV (l : List UInt8) : Nat := l.foldl (fun a b => a * 10 + (b.toNat - 48)) 0

theorem decV_foldl (l : List UInt8) : ∀ a, l.foldl (fun a b => a * 10 + (b.toNat - 48)) a = a * 10 ^ l.length + decV l := by
  unfold decV
  induction l with
  | nil => intro a; simp
  | cons b t ih =>
    intro a
    simp only [List.foldl_cons, List.length_cons]
    rw [ih (a * 10 + (b.toNat - 48)), ih (0 * 10 + (b.toNat - 48)), Nat.pow_succ, Nat.add_mul, Nat.add_mul]
    have : a * 10 * 10 ^ t.length = a * (10 ^ t.length * 10) := by rw [Nat.mul_assoc, Nat.mul_comm 10]
    rw [this]; omega

theorem decV_append (a b : List UInt8) : decV (a ++ b) = decV a * 10 ^ b.length + decV b := by
  unfold decV
  rw [List.foldl_append]
  exact decV_foldl b _

/-- All bytes are digits. -/
def DigB (l : List UInt8) : Prop := ∀ k, k < l.length → 48 ≤ byt l k ∧ byt l k ≤ 57

theorem byt_take (l : List UInt8) {k n : Nat} (h : k < n) : byt (l.take n) k = byt l k := by
  unfold byt; rw [List.getElem?_take_of_lt h]
theorem byt_drop (l : List UInt8) (n k : Nat) : byt (l.drop n) k = byt l (n + k) := by
  unfold byt; rw [List.getElem?_drop]

theorem DigB.take {l : List UInt8} (h : DigB l) (n : Nat) : DigB (l.take n) := by
  intro k hk
  rw [List.length_take] at hk
  rw [byt_take l (by omega)]; exact h k (by omega)
theorem DigB.drop {l : List UInt8} (h : DigB l) (n : Nat) : DigB (l.drop n) := by
  intro k hk
  rw [List.length_drop] at hk
  rw [byt_drop]; exact h _ (by omega)

theorem decV_succ (l : List UInt8) {k : Nat} (h : k < l.length) : decV (l.take (k + 1)) = decV (l.take k) * 10 + (byt l k - 48) := by
  rw [List.take_succ_eq_append_getElem h, decV_append]
  unfold byt
  rw [List.getElem?_eq_getElem h]
  simp [decV]

theorem decV_lt : ∀ (n : Nat) (l : List UInt8), l.length = n → DigB l → decV l < 10 ^ n
  | 0, l, h, _ => by rw [List.length_eq_zero_iff.1 h]; simp [decV]
  | n + 1, l, h, hd => by
    have h1 := decV_lt n (l.take n) (by simp; omega) (hd.take n)
    have h2 := decV_succ l (k := n) (by omega)
    rw [List.take_of_length_le (by omega)] at h2
    have h3 := hd n (by omega)
    rw [h2, Nat.pow_succ]; omega

/-- A text is the digits of a number: no nought ahead, but of 0 itself. -/
def OkT (l : List UInt8) : Prop := l ≠ [] ∧ (byt l 0 = 48 → l = [48]) ∧ DigB l

theorem sl (s : ByteArray) : s.toList = bys s := ByteArray.toList_eq s

theorem dd_big {u : Nat} (h : ¬ u < 10) : Lib.decDigits u = Lib.decDigits (u / 10) ++ [UInt8.ofNat (48 + u % 10)] := by rw [Lib.decDigits, dif_neg h]

theorem u8_digit {d : Nat} (h : d < 10) : (UInt8.ofNat (48 + d)).toNat = 48 + d := by
  rw [UInt8.toNat_ofNat']
  omega

theorem byt_append_left (a b : List UInt8) {k : Nat} (h : k < a.length) : byt (a ++ b) k = byt a k := by
  unfold byt; rw [List.getElem?_append_left h]

theorem byt_last (a : List UInt8) (x : UInt8) : byt (a ++ [x]) a.length = x.toNat := by
  unfold byt; simp

theorem decV_last (a : List UInt8) (x : UInt8) : decV (a ++ [x]) = decV a * 10 + (x.toNat - 48) := by
  rw [decV_append]; simp [decV]

theorem DigB.last {a : List UInt8} (h : DigB a) {d : Nat} (hd : d < 10) : DigB (a ++ [UInt8.ofNat (48 + d)]) := by
  intro k hk
  rw [List.length_append] at hk
  by_cases e : k < a.length
  · rw [byt_append_left _ _ e]; exact h k e
  · have : k = a.length := by simp at hk; omega
    subst this
    rw [byt_last, u8_digit hd]; omega

theorem dd_ne (u : Nat) : Lib.decDigits u ≠ [] := by
  intro e
  have h := Lib.decDigits_length u
  rw [e] at h
  have := Lib.nDigits_pos u
  simp at h; omega

theorem dd_all : ∀ n u : Nat, u ≤ n → DigB (Lib.decDigits u) ∧ decV (Lib.decDigits u) = u ∧ (byt (Lib.decDigits u) 0 = 48 → Lib.decDigits u = [48])
  | n, u, hn => by
    by_cases h : u < 10
    · rw [Lib.decDigits_one h]
      refine ⟨?_, ?_, ?_⟩
      · have := DigB.last (a := []) (fun k hk => by simp at hk) h
        simpa using this
      · simp [decV]; omega
      · intro e
        have e2 : (UInt8.ofNat (48 + u)).toNat = 48 := by simpa [byt] using e
        rw [u8_digit h] at e2
        have : u = 0 := by omega
        subst this; rfl
    · rcases n with _ | n
      · omega
      · obtain ⟨h1, h2, h3⟩ := dd_all n (u / 10) (by omega)
        have hm : u % 10 < 10 := Nat.mod_lt _ (by omega)
        rw [dd_big h]
        refine ⟨h1.last hm, ?_, ?_⟩
        · rw [decV_last, h2, u8_digit hm]; omega
        · intro e
          have hpos : 0 < (Lib.decDigits (u / 10)).length := List.length_pos_iff.2 (dd_ne _)
          rw [byt_append_left _ _ hpos] at e
          have e2 := h3 e
          rw [e2] at h2
          simp [decV] at h2
          omega

theorem dd_okT (u : Nat) : OkT (Lib.decDigits u) := ⟨dd_ne u, (dd_all u u (Nat.le_refl _)).2.2, (dd_all u u (Nat.le_refl _)).1⟩
theorem dd_val (u : Nat) : decV (Lib.decDigits u) = u := (dd_all u u (Nat.le_refl _)).2.1

theorem dd_back : ∀ (n : Nat) (l : List UInt8), l.length = n + 1 → OkT l → Lib.decDigits (decV l) = l
  | 0, l, hl, h => by
    obtain ⟨x, rfl⟩ : ∃ x, l = [x] := by
      rcases l with _ | ⟨x, _ | ⟨y, t⟩⟩
      · simp at hl
      · exact ⟨x, rfl⟩
      · simp at hl
    have h1 := h.2.2 0 (by simp)
    have h2 : byt [x] 0 = x.toNat := by simp [byt]
    rw [h2] at h1
    have h3 : decV [x] = x.toNat - 48 := by simp [decV]
    rw [h3, Lib.decDigits_one (by omega)]
    congr 1
    rw [show 48 + (x.toNat - 48) = x.toNat by omega]
    exact UInt8.ofNat_toNat
  | n + 1, l, hl, h => by
    obtain ⟨a, x, rfl⟩ : ∃ a x, l = a ++ [x] := ⟨l.dropLast, l.getLast h.1, (List.dropLast_concat_getLast h.1).symm⟩
    have ha : a.length = n + 1 := by simp at hl; omega
    have hx := h.2.2 a.length (by simp)
    rw [byt_last] at hx
    have hne : byt (a ++ [x]) 0 ≠ 48 := by
      intro e
      have := congrArg List.length (h.2.1 e)
      rw [List.length_append] at this
      simp only [List.length_cons, List.length_nil] at this
      omega
    have h0 : byt a 0 = byt (a ++ [x]) 0 := (byt_append_left _ _ (by omega)).symm
    have da : DigB a := by
      intro k hk
      have := h.2.2 k (by simp; omega)
      rwa [byt_append_left _ _ hk] at this
    have oka : OkT a := ⟨fun e => by rw [e] at ha; simp at ha, fun e => absurd (h0 ▸ e) hne, da⟩
    have hb := dd_back n a ha oka
    have hv1 : 1 ≤ decV a := by
      rcases Nat.eq_zero_or_pos (decV a) with e | e
      · exfalso
        rw [e] at hb
        have : Lib.decDigits 0 = [48] := by rw [Lib.decDigits_one (by omega)]; rfl
        rw [this] at hb
        apply hne
        rw [← h0, ← hb]; rfl
      · exact e
    have hge : ¬ decV a * 10 + (x.toNat - 48) < 10 := by omega
    rw [decV_last, dd_big hge, show (decV a * 10 + (x.toNat - 48)) / 10 = decV a by omega, show (decV a * 10 + (x.toNat - 48)) % 10 = x.toNat - 48 by omega, hb]
    congr 2
    rw [show 48 + (x.toNat - 48) = x.toNat by omega]
    exact UInt8.ofNat_toNat

theorem text_of (s : ByteArray) (h : OkT (bys s)) : (⟨(Lib.decDigits (decV (bys s))).toArray⟩ : ByteArray) = s := by
  rcases hl : (bys s).length with _ | n
  · exact absurd (List.length_eq_zero_iff.1 hl) h.1
  · rw [dd_back n _ hl h]
    unfold bys
    simp

theorem bys_append (a b : ByteArray) : bys (a ++ b) = bys a ++ bys b := by
  unfold bys; simp

theorem byt_append_right (a b : List UInt8) (k : Nat) : byt (a ++ b) (a.length + k) = byt b k := by
  unfold byt; rw [List.getElem?_append_right (by omega), Nat.add_sub_cancel_left]

theorem DigB.append {a b : List UInt8} (ha : DigB a) (hb : DigB b) : DigB (a ++ b) := by
  intro k hk
  by_cases e : k < a.length
  · rw [byt_append_left _ _ e]; exact ha k e
  · rw [List.length_append] at hk
    have h := hb (k - a.length) (by omega)
    have e2 : byt (a ++ b) k = byt b (k - a.length) := by
      have := byt_append_right a b (k - a.length)
      rwa [show a.length + (k - a.length) = k by omega] at this
    rw [e2]; exact h

theorem OkT.append {a b : List UInt8} (ha : OkT a) (hn : a ≠ [48]) (hb : DigB b) : OkT (a ++ b) := by
  refine ⟨fun e => ha.1 (List.append_eq_nil_iff.1 e).1, fun e => ?_, ha.2.2.append hb⟩
  rw [byt_append_left _ _ (List.length_pos_iff.2 ha.1)] at e
  exact absurd (ha.2.1 e) hn

theorem not_okT_zero {b : List UInt8} (hb : b ≠ []) : ¬ OkT ([48] ++ b) := by
  intro h
  have h1 := congrArg List.length (h.2.1 rfl)
  rw [List.length_append] at h1
  have h2 := List.length_pos_iff.2 hb
  simp only [List.length_cons, List.length_nil] at h1
  omega

theorem dd_lt : ∀ n u : Nat, u ≤ n → u < 10 ^ (Lib.decDigits u).length ∧ (u ≠ 0 → 10 ^ ((Lib.decDigits u).length - 1) ≤ u)
  | n, u, hn => by
    by_cases h : u < 10
    · rw [Lib.decDigits_one h]
      exact ⟨by simpa using h, fun h0 => by simp; omega⟩
    · rcases n with _ | n
      · omega
      · obtain ⟨h1, h2⟩ := dd_lt n (u / 10) (by omega)
        have h3 := h2 (by omega)
        have hl : 0 < (Lib.decDigits (u / 10)).length := List.length_pos_iff.2 (dd_ne _)
        rw [dd_big h, List.length_append, List.length_singleton, Nat.add_sub_cancel]
        obtain ⟨m, hm⟩ : ∃ m, (Lib.decDigits (u / 10)).length = m + 1 := ⟨(Lib.decDigits (u / 10)).length - 1, by omega⟩
        rw [hm] at h1 h3 ⊢
        rw [Nat.add_sub_cancel] at h3
        rw [Nat.pow_succ] at h1
        rw [Nat.pow_succ, Nat.pow_succ]
        generalize 10 ^ m = p at *
        exact ⟨by omega, fun _ => by omega⟩

theorem dd_zero {u : Nat} (h : Lib.decDigits u = [48]) : u = 0 := by
  rw [← dd_val u, h]; rfl

theorem dd_short {u l : Nat} (h : u < B64 ^ l) : (Lib.decDigits u).length ≤ 20 * l + 1 := by
  by_cases h0 : u = 0
  · subst h0; rw [Lib.decDigits_one (by omega)]; simp
  · have h1 := (dd_lt u u (Nat.le_refl _)).2 h0
    have h2 : B64 ^ l ≤ 10 ^ (20 * l) := by
      rw [Nat.pow_mul]; exact Nat.pow_le_pow_left (by decide +kernel) l
    have h3 : 10 ^ ((Lib.decDigits u).length - 1) < 10 ^ (20 * l) := by omega
    have := (Nat.pow_lt_pow_iff_right (by omega : 1 < 10)).1 h3
    omega

end Go.Proofs.YtifpacgacbpalaaGreatDoor

namespace Go.Proofs.YtifpacgacbpalaaGreatDoor

/-- Great powers, by name. -/
def powT (b n : Nat) : Nat := b ^ n
theorem powT_ge {b k n : Nat} (hb : 0 < b) (h : k ≤ n) : b ^ k ≤ powT b n := Nat.pow_le_pow_right hb h

/-- The number that a float's fields tell, F bits of m, of the power of 2 that fPow says. -/
def fNum (F x m : Nat) : Nat := if x = 0 then m else 2 ^ F + m

def fPow (B x : Nat) : Int := if x = 0 then -(B : Int) else (x : Int) - 1 - B

/-- 2^n as a whole number of 10^p2E. -/
def p2N (n : Int) : Nat := if n < 0 then 5 ^ (-n).toNat else 2 ^ n.toNat
def p2E (n : Int) : Int := if n < 0 then n else 0

/-- A float's amount, how far it reaches down and up, and whether the ends are in reach. -/
structure Near where
  amt : Nat
  lo : Nat
  hi : Nat
  clo : Bool

def nearOf (F B x m : Nat) : Near :=
  ⟨p2N (fPow B x - 2) * (fNum F x m * 4), if m = 0 ∧ 1 < x then p2N (fPow B x - 2) else p2N (fPow B x - 2) * 2, p2N (fPow B x - 2) * 2, decide (m % 2 = 0)⟩

def heldN (c : Bool) (d far : Nat) : Bool := decide (d < far) || (decide (d = far) && c)

def pickN (r : Near) (number rest unit : Nat) : Option Nat :=
  if heldN r.clo rest r.lo = true ∧ (heldN r.clo (unit - rest) r.hi = true → rest < unit - rest ∨ rest = unit - rest ∧ number % 2 = 0) then some number
  else if heldN r.clo (unit - rest) r.hi = true then some (number + 1) else none

def pickAt (r : Near) (p : Nat) : Option Nat := pickN r (r.amt / 10 ^ p) (r.amt % 10 ^ p) (10 ^ p)

def fewN (r : Near) : Nat → Nat × Nat
  | 0 => (0, 0)
  | p + 1 => match pickAt r p with
    | some v => (v, p)
    | none => fewN r p

structure Near.Good (r : Near) : Prop where
  pos : 0 < r.lo
  le : r.lo ≤ r.hi
  amt : r.amt ≤ 2 ^ 54 * r.lo

theorem heldN_lt {c : Bool} {d far : Nat} (h : d < far) : heldN c d far = true := by simp [heldN, h]

theorem heldN_zero {c : Bool} {far : Nat} (h : 0 < far) : heldN c 0 far = true := heldN_lt h

theorem pickN_some {r : Near} {number rest unit : Nat} (hr : rest < unit) (h1 : unit < 2 * r.lo) (h2 : r.lo ≤ r.hi) : pickN r number rest unit ≠ none := by
  unfold pickN
  by_cases h : rest < r.lo
  · by_cases h' : heldN r.clo (unit - rest) r.hi = true
    · by_cases h3 : rest < unit - rest ∨ rest = unit - rest ∧ number % 2 = 0
      · rw [if_pos ⟨heldN_lt h, fun _ => h3⟩]; simp
      · rw [if_neg (fun e => h3 (e.2 h')), if_pos h']; simp
    · rw [if_pos ⟨heldN_lt h, fun e => absurd e h'⟩]; simp
  · have h' : heldN r.clo (unit - rest) r.hi = true := heldN_lt (by omega)
    rw [if_neg (fun e => by have := e.2 h'; omega), if_pos h']; simp

/-- Where the amount has 17 digits to this place one is picked. -/
theorem pickAt_some {r : Near} (g : r.Good) {p : Nat} (h : 10 ^ 16 * 10 ^ p ≤ r.amt) : pickAt r p ≠ none := by
  have hp : 0 < 10 ^ p := Nat.pow_pos (by omega)
  refine pickN_some (Nat.mod_lt _ hp) ?_ g.le
  have := g.amt
  have h1 : (2 : Nat) ^ 54 = 18014398509481984 := by decide
  have h2 : (10 : Nat) ^ 16 = 10000000000000000 := by decide
  rw [h1] at this
  rw [h2] at h
  omega

theorem pickAt_zero {r : Near} (g : r.Good) : pickAt r 0 = some r.amt := by
  unfold pickAt pickN
  rw [Nat.pow_zero, Nat.div_one, Nat.mod_one, if_pos ⟨heldN_zero g.pos, fun _ => .inl (by omega)⟩]

/-- Below a place where nothing is picked the amount has 16 digits at most. -/
theorem few_small {r : Near} (g : r.Good) {p : Nat} (h : pickAt r p = none) : r.amt / 10 ^ p < 10 ^ 16 := by
  rcases Nat.lt_or_ge (r.amt / 10 ^ p) (10 ^ 16) with h' | h'
  · exact h'
  · exact absurd h (pickAt_some g ((Nat.le_div_iff_mul_le (Nat.pow_pos (by omega))).1 h'))

theorem fewN_spec {r : Near} (g : r.Good) : ∀ s, 0 < s → ∃ v p, fewN r s = (v, p) ∧ p < s ∧ pickAt r p = some v ∧ ∀ q, p < q → q < s → pickAt r q = none
  | 0, h => absurd h (by omega)
  | s + 1, _ => by
    unfold fewN
    rcases hp : pickAt r s with _ | v
    · rcases Nat.eq_zero_or_pos s with h0 | h0
      · subst h0; rw [pickAt_zero g] at hp; cases hp
      · obtain ⟨v, p, h1, h2, h3, h4⟩ := fewN_spec g s h0
        refine ⟨v, p, h1, by omega, h3, fun q hq hs => ?_⟩
        rcases Nat.lt_or_ge q s with h5 | h5
        · exact h4 q hq h5
        · have : q = s := by omega
          subst this; exact hp
    · exact ⟨v, s, rfl, by omega, hp, fun q h1 h2 => by omega⟩

theorem p2N_pos (n : Int) : 0 < p2N n := by
  unfold p2N; split
  · exact Nat.pow_pos (by omega)
  · exact Nat.pow_pos (by omega)

theorem fNum_lt {F x m : Nat} (hm : m < 2 ^ F) : fNum F x m < 2 ^ (F + 1) := by
  unfold fNum; rw [Nat.pow_succ]; split <;> omega

theorem nearOf_good {F B x m : Nat} (hF : F ≤ 52) (hm : m < 2 ^ F) : (nearOf F B x m).Good := by
  have hq := p2N_pos (fPow B x - 2)
  have hn := fNum_lt (x := x) hm
  have h52 : (2 : Nat) ^ F ≤ 2 ^ 52 := Nat.pow_le_pow_right (by omega) hF
  rw [Nat.pow_succ] at hn
  have e1 : (2 : Nat) ^ 52 = 4503599627370496 := by decide
  have e2 : (2 : Nat) ^ 54 = 18014398509481984 := by decide
  refine ⟨?_, ?_, ?_⟩
  · simp only [nearOf]; split <;> omega
  · simp only [nearOf]; split <;> omega
  · show p2N (fPow B x - 2) * (fNum F x m * 4) ≤ 2 ^ 54 * _
    rw [Nat.mul_comm (p2N _) (fNum F x m * 4), e2]
    simp only [nearOf]
    split
    · next h =>
      have : fNum F x m = 2 ^ F := by unfold fNum; rw [if_neg (by omega), h.1]; rfl
      rw [this]
      exact Nat.mul_le_mul_right _ (by omega)
    · rw [Nat.mul_comm (p2N _) 2, ← Nat.mul_assoc]
      exact Nat.mul_le_mul_right _ (by omega)

end Go.Proofs.YtifpacgacbpalaaGreatDoor

namespace Go.Proofs.YtifpacgacbpalaaGreatDoor

/-- A Dec: class, sign, digits, exponent. -/
structure DecT where
  cls : Nat
  neg : Bool
  dig : List UInt8
  exp : Int
deriving DecidableEq

/-- Digits without the noughts behind. -/
def cut0 (l : List UInt8) : List UInt8 := Lib.trimRightB l 48

def tellDec (neg : Bool) (d : List UInt8) (e : Int) : DecT := ⟨0, neg, cut0 d, e + d.length - (cut0 d).length⟩

/-- The Dec of N times 10^e. -/
def decA (neg : Bool) (N : Nat) (e : Int) : DecT := tellDec neg (Lib.decDigits N) e

/-- All digits; the fewest digits: the number and the exponent. -/
def allD (F B x m : Nat) : Nat × Int := (fNum F x m * p2N (fPow B x), p2E (fPow B x))

def sizeN (N : Nat) : Nat := (Lib.decDigits N).length

def fewD (F B x m : Nat) : Nat × Int :=
  ((fewN (nearOf F B x m) (sizeN (nearOf F B x m).amt)).1, p2E (fPow B x - 2) + ((fewN (nearOf F B x m) (sizeN (nearOf F B x m).amt)).2 : Nat))

/-- The Dec of a float's bits, by what tells the digits of x and m. -/
def decOf (F X : Nat) (tell : Nat → Nat → Nat × Int) (b : Nat) : DecT :=
  if b / 2 ^ F % 2 ^ X = 2 ^ X - 1 then
    if b % 2 ^ F = 0 then ⟨1, decide (b / 2 ^ F / 2 ^ X ≠ 0), [], 0⟩ else ⟨2, false, [], 0⟩
  else if b / 2 ^ F % 2 ^ X = 0 ∧ b % 2 ^ F = 0 then ⟨0, decide (b / 2 ^ F / 2 ^ X ≠ 0), [], 0⟩
  else decA (decide (b / 2 ^ F / 2 ^ X ≠ 0)) (tell (b / 2 ^ F % 2 ^ X) (b % 2 ^ F)).1 (tell (b / 2 ^ F % 2 ^ X) (b % 2 ^ F)).2

theorem cut0_snoc0 (l : List UInt8) : cut0 (l ++ [48]) = cut0 l := by
  unfold cut0 Lib.trimRightB
  simp

theorem cut0_snoc (l : List UInt8) {d : UInt8} (h : d ≠ 48) : cut0 (l ++ [d]) = l ++ [d] := by
  unfold cut0 Lib.trimRightB
  simp [h]

theorem u8_ne48 {d : Nat} (h : d < 10) (h0 : d ≠ 0) : UInt8.ofNat (48 + d) ≠ 48 := by
  intro e
  have := congrArg UInt8.toNat e
  rw [u8_digit h] at this
  simp at this; omega

theorem dd_ten {N : Nat} (h : N ≠ 0) : Lib.decDigits (N * 10) = Lib.decDigits N ++ [48] := by
  rw [dd_big (by omega), Nat.mul_div_cancel _ (by omega), Nat.mul_mod_left]
  rfl

theorem decA_ten {neg : Bool} {N : Nat} {e : Int} (h : N ≠ 0) : decA neg (N * 10) e = decA neg N (e + 1) := by
  unfold decA tellDec
  rw [dd_ten h, cut0_snoc0, List.length_append, List.length_singleton]
  congr 1
  omega

theorem decA_tens {neg : Bool} {N : Nat} (h : N ≠ 0) : ∀ (k : Nat) (e : Int), decA neg (N * 10 ^ k) e = decA neg N (e + k)
  | 0, e => by simp
  | k + 1, e => by
    have hp : 0 < 10 ^ k := Nat.pow_pos (by omega)
    rw [Nat.pow_succ, ← Nat.mul_assoc, decA_ten (by have := Nat.mul_pos (Nat.pos_of_ne_zero h) hp; omega), decA_tens h k]
    congr 1
    push_cast; omega

/-- A number that does not end in a nought is told by just its digits. -/
theorem decA_plain {neg : Bool} {N : Nat} {e : Int} (h : N % 10 ≠ 0) : decA neg N e = ⟨0, neg, Lib.decDigits N, e⟩ := by
  have : cut0 (Lib.decDigits N) = Lib.decDigits N := by
    by_cases h10 : N < 10
    · rw [Lib.decDigits_one h10]
      exact cut0_snoc [] (u8_ne48 h10 (by omega))
    · rw [dd_big h10]
      exact cut0_snoc _ (u8_ne48 (Nat.mod_lt _ (by omega)) h)
  unfold decA tellDec
  rw [this]
  congr 1
  omega

/-- Every number above 0 is one that does not end in a nought, times a power of 10. -/
theorem tens_of : ∀ (n N : Nat), N ≤ n → N ≠ 0 → ∃ M k, N = M * 10 ^ k ∧ M % 10 ≠ 0
  | 0, N, h, h0 => absurd h0 (by omega)
  | n + 1, N, h, h0 => by
    by_cases hm : N % 10 = 0
    · obtain ⟨M, k, h1, h2⟩ := tens_of n (N / 10) (by omega) (by omega)
      refine ⟨M, k + 1, ?_, h2⟩
      rw [Nat.pow_succ, ← Nat.mul_assoc, ← h1]; omega
    · exact ⟨N, 0, by simp, hm⟩

/-- What a Dec of a number above 0 is: M does not end in a nought. -/
theorem decA_form (neg : Bool) {N : Nat} (e : Int) (h : N ≠ 0) : ∃ M k : Nat, N = M * 10 ^ k ∧ M % 10 ≠ 0 ∧ decA neg N e = ⟨0, neg, Lib.decDigits M, e + k⟩ := by
  obtain ⟨M, k, h1, h2⟩ := tens_of N N (Nat.le_refl _) h
  refine ⟨M, k, h1, h2, ?_⟩
  rw [h1, decA_tens (by omega), decA_plain h2]

theorem sizeN_eq {N s : Nat} (h1 : 10 ^ s ≤ N) (h2 : N < 10 ^ (s + 1)) : sizeN N = s + 1 := by
  have h0 : N ≠ 0 := by have := Nat.pow_pos (n := s) (show 0 < 10 by omega); omega
  have h3 := dd_lt N N (Nat.le_refl _)
  have h4 := h3.2 h0
  have l1 : s < (Lib.decDigits N).length := (Nat.pow_lt_pow_iff_right (by omega : 1 < 10)).1 (by omega)
  have l2 : (Lib.decDigits N).length - 1 < s + 1 := (Nat.pow_lt_pow_iff_right (by omega : 1 < 10)).1 (by omega)
  unfold sizeN; omega

theorem sizeN_pos (N : Nat) : 0 < sizeN N := List.length_pos_iff.2 (dd_ne N)

theorem sizeN_lt (N : Nat) : N < 10 ^ sizeN N := (dd_lt N N (Nat.le_refl _)).1
theorem sizeN_ge {N : Nat} (h : N ≠ 0) : 10 ^ (sizeN N - 1) ≤ N := (dd_lt N N (Nat.le_refl _)).2 h
theorem sizeN_le {N s : Nat} (h : N < 10 ^ s) (hs : 1 ≤ s) : sizeN N ≤ s := by
  by_cases h0 : N = 0
  · subst h0; unfold sizeN; rw [Lib.decDigits_one (by omega)]; simpa using hs
  · have := sizeN_ge h0
    have : sizeN N - 1 < s := (Nat.pow_lt_pow_iff_right (by omega : 1 < 10)).1 (by omega)
    have := sizeN_pos N
    omega

theorem fewD_eq {F B x m s v p : Nat} (h1 : 10 ^ s ≤ (nearOf F B x m).amt) (h2 : (nearOf F B x m).amt < 10 ^ (s + 1)) (h3 : fewN (nearOf F B x m) (s + 1) = (v, p)) : fewD F B x m = (v, p2E (fPow B x - 2) + (p : Nat)) := by
  unfold fewD
  rw [sizeN_eq h1 h2, h3]

theorem decA_digit {neg : Bool} {N : Nat} {e : Int} (h : N < 10) (h0 : N ≠ 0) : decA neg N e = ⟨0, neg, [UInt8.ofNat (48 + N)], e⟩ := by
  rw [decA_plain (by omega), Lib.decDigits_one h]

end Go.Proofs.YtifpacgacbpalaaGreatDoor

namespace Go.Proofs.YtifpacgacbpalaaGreatDoor

/-- A finite Dec in its one form, of at most so many digits. -/
structure Formed (d : DecT) (most : Nat) : Prop where
  cls : d.cls = 0
  len : d.dig.length ≤ most
  dig : DigB d.dig
  nil : d.dig = [] → d.exp = 0
  cons : d.dig ≠ [] → byt d.dig 0 ≠ 48 ∧ byt d.dig (d.dig.length - 1) ≠ 48 ∧ -1100 ≤ d.exp ∧ d.exp ≤ 400

theorem dd_last {M : Nat} (h : M % 10 ≠ 0) : byt (Lib.decDigits M) ((Lib.decDigits M).length - 1) ≠ 48 := by
  by_cases h10 : M < 10
  · rw [Lib.decDigits_one h10]
    simp only [byt, List.length_singleton]
    simp only [Nat.sub_self, List.getElem?_cons_zero, Option.map_some, Option.getD_some]
    rw [u8_digit h10]; omega
  · rw [dd_big h10, List.length_append, List.length_singleton, Nat.add_sub_cancel, byt_last, u8_digit (Nat.mod_lt _ (by omega))]
    omega

theorem dd_first {M : Nat} (h : M ≠ 0) : byt (Lib.decDigits M) 0 ≠ 48 := fun e => h (dd_zero ((dd_okT M).2.1 e))

theorem decA_formed (neg : Bool) {N most t : Nat} {e : Int} (h : N ≠ 0) (hl : N < 10 ^ most ∨ N = 10 ^ most) (h1 : 1 ≤ most) (he : -1100 ≤ e) (ht : N < 10 ^ t) (hu : e + t ≤ 401) :
    Formed (decA neg N e) most ∧ (decA neg N e).dig ≠ [] ∧ (decA neg N e).neg = neg := by
  obtain ⟨M, k, h2, h3, h4⟩ := decA_form neg e h
  have hk : 0 < 10 ^ k := Nat.pow_pos (by omega)
  have hM : M ≠ 0 := by omega
  have hMN : M ≤ N := by rw [h2]; exact Nat.le_mul_of_pos_right _ hk
  have hkN : 10 ^ k ≤ N := by rw [h2]; exact Nat.le_mul_of_pos_left _ (by omega)
  have hkt : k < t := (Nat.pow_lt_pow_iff_right (by omega : 1 < 10)).1 (by omega)
  have hsz : sizeN M ≤ most := by
    rcases hl with hl | hl
    · exact sizeN_le (by omega) h1
    · rcases Nat.lt_or_ge M (10 ^ most) with h5 | h5
      · exact sizeN_le h5 h1
      · exfalso
        have hM2 : M = 10 ^ most := by omega
        apply h3
        rw [hM2, show most = (most - 1) + 1 by omega, Nat.pow_succ, Nat.mul_mod_left]
  rw [h4]
  refine ⟨⟨rfl, hsz, (dd_okT M).2.2, fun e => absurd e (dd_ne M), fun _ => ⟨dd_first hM, dd_last h3, ?_, ?_⟩⟩, dd_ne M, rfl⟩
  · show -1100 ≤ e + (k : Int); omega
  · show e + (k : Int) ≤ 400; omega

theorem pick_or {r : Near} {a b c v : Nat} (h : pickN r a b c = some v) : v = a ∨ v = a + 1 := by
  unfold pickN at h
  split at h
  · left; simpa using h.symm
  · split at h
    · right; simpa using h.symm
    · cases h

/-- What the fewest digits are: at most 10^17, and not below 1. -/
theorem few_bound {r : Near} (g : r.Good) (h0 : r.amt ≠ 0) {v p : Nat} (h : fewN r (sizeN r.amt) = (v, p)) : p < sizeN r.amt ∧ 1 ≤ v ∧ v ≤ 10 ^ 17 ∧ pickAt r p = some v ∧ 10 ^ p ≤ r.amt ∧ r.amt / 10 ^ p < 10 ^ 17 ∧ ∀ q, p < q → q < sizeN r.amt → pickAt r q = none := by
  obtain ⟨v', p', h1, h2, h3, h4⟩ := fewN_spec g (sizeN r.amt) (sizeN_pos _)
  rw [h] at h1
  obtain ⟨rfl, rfl⟩ := Prod.mk.inj h1
  have hp : 0 < 10 ^ p := Nat.pow_pos (by omega)
  have hge : 10 ^ p ≤ r.amt := by
    have := sizeN_ge h0
    have := Nat.pow_le_pow_right (show 0 < 10 by omega) (show p ≤ sizeN r.amt - 1 by omega)
    omega
  have h1' : 1 ≤ r.amt / 10 ^ p := (Nat.le_div_iff_mul_le hp).2 (by omega)
  have hlt : r.amt / 10 ^ p < 10 ^ 17 := by
    rcases Nat.lt_or_ge (p + 1) (sizeN r.amt) with h5 | h5
    · have h6 := few_small g (h4 (p + 1) (by omega) h5)
      rw [Nat.pow_succ, ← Nat.div_div_eq_div_mul] at h6
      omega
    · have h7 := sizeN_lt r.amt
      rw [show sizeN r.amt = p + 1 by omega, Nat.pow_succ] at h7
      have : r.amt / 10 ^ p < 10 := (Nat.div_lt_iff_lt_mul hp).2 (by omega)
      omega
  have := pick_or h3
  exact ⟨h2, by omega, by omega, h3, hge, hlt, h4⟩

def T971 : Nat := powT 2 971
def T1074 : Nat := powT 5 1074
theorem t971_ge {k : Nat} (h : k ≤ 971) : 2 ^ k ≤ T971 := powT_ge (by omega) h
theorem t1074_ge {k : Nat} (h : k ≤ 1074) : 5 ^ k ≤ T1074 := powT_ge (by omega) h
theorem t971_pos : 0 < T971 := by decide +kernel
theorem t971_le : T971 ≤ T1074 := by decide +kernel

theorem p2_bound {n : Int} {c t : Nat} (hn : -1076 ≤ n) (hc : c < 10 ^ 17) (ht : c * T971 < 10 ^ t) (hn2 : n ≤ 971) {q : Nat} (hq : 10 ^ q ≤ p2N n * c) : p2E n + q < 17 ∨ p2E n + q < t := by
  unfold p2N at hq
  unfold p2E
  split at hq
  · next h =>
    rw [if_pos h]
    left
    obtain ⟨j, hj⟩ : ∃ j : Nat, n = -(j : Int) := ⟨(-n).toNat, by omega⟩
    subst hj
    rw [show (-(-(j : Int))).toNat = j by omega] at hq
    have h5 : (5 : Nat) ^ j ≤ 10 ^ j := Nat.pow_le_pow_left (by omega) j
    have h6 : 5 ^ j * c < 10 ^ (j + 17) := by
      rw [Nat.pow_add]
      have a1 : 5 ^ j * c < 5 ^ j * 10 ^ 17 := Nat.mul_lt_mul_of_pos_left hc (Nat.pow_pos (by omega))
      have a2 : 5 ^ j * 10 ^ 17 ≤ 10 ^ j * 10 ^ 17 := Nat.mul_le_mul_right _ h5
      exact Nat.lt_of_lt_of_le a1 a2
    have : q < j + 17 := (Nat.pow_lt_pow_iff_right (by omega : 1 < 10)).1 (by omega)
    omega
  · next h =>
    rw [if_neg h]
    right
    have h6 : 2 ^ n.toNat ≤ T971 := t971_ge (by omega)
    have h7 : 2 ^ n.toNat * c ≤ c * T971 := by rw [Nat.mul_comm]; exact Nat.mul_le_mul_left _ h6
    have : q < t := (Nat.pow_lt_pow_iff_right (by omega : 1 < 10)).1 (by omega)
    omega

theorem p2E_ge {n : Int} (hn : -1076 ≤ n) : -1076 ≤ p2E n := by unfold p2E; split <;> omega

theorem two_309 : 2 ^ 55 * T971 < 10 ^ 309 := by decide +kernel

theorem fewD_formed (neg : Bool) {F B x m : Nat} (hF : F ≤ 52) (hm : m < 2 ^ F) (h0 : ¬ (x = 0 ∧ m = 0)) (h1 : -1074 ≤ fPow B x) (h2 : fPow B x ≤ 971) :
    Formed (decA neg (fewD F B x m).1 (fewD F B x m).2) 17 ∧ (decA neg (fewD F B x m).1 (fewD F B x m).2).dig ≠ [] ∧ (decA neg (fewD F B x m).1 (fewD F B x m).2).neg = neg := by
  have g := nearOf_good (B := B) (x := x) hF hm
  have hn : fNum F x m ≠ 0 := by
    have := Nat.pow_pos (n := F) (show 0 < 2 by omega)
    unfold fNum; split <;> omega
  have hlt : fNum F x m * 4 < 2 ^ 55 := by
    have a := fNum_lt (x := x) hm
    have b : (2 : Nat) ^ (F + 1) ≤ 2 ^ 53 := Nat.pow_le_pow_right (by omega) (by omega)
    have e1 : (2 : Nat) ^ 53 * 4 = 2 ^ 55 := by decide
    omega
  have ha : (nearOf F B x m).amt ≠ 0 := by
    have := p2N_pos (fPow B x - 2)
    exact Nat.mul_ne_zero (by omega) (by omega)
  rcases hf : fewN (nearOf F B x m) (sizeN (nearOf F B x m).amt) with ⟨v, p⟩
  obtain ⟨b1, b2, b3, b4, b5, _, _⟩ := few_bound g ha hf
  have e : fewD F B x m = (v, p2E (fPow B x - 2) + (p : Nat)) := by unfold fewD; rw [hf]
  rw [e]
  have c55 : (2 : Nat) ^ 55 < 10 ^ 17 := by decide
  have hb := p2_bound (n := fPow B x - 2) (c := fNum F x m * 4) (t := 309) (by omega) (by omega) (by
    have a1 : fNum F x m * 4 * T971 < 2 ^ 55 * T971 := Nat.mul_lt_mul_of_pos_right hlt t971_pos
    exact Nat.lt_trans a1 two_309) (by omega) b5
  have hl := p2E_ge (n := fPow B x - 2) (by omega)
  exact decA_formed neg (most := 17) (t := 18) (by omega) (by omega) (by omega) (by omega) (by omega) (by omega)

theorem all_767 : 2 ^ 53 * T1074 < 10 ^ 767 := by decide +kernel

theorem p2N_767 {n : Int} {c : Nat} (h1 : -1074 ≤ n) (h2 : n ≤ 971) (hc : c < 2 ^ 53) : c * p2N n < 10 ^ 767 := by
  have key : ∀ z, z ≤ T1074 → c * z < 10 ^ 767 := fun z hz => by
    have a1 : c * z ≤ 2 ^ 53 * z := Nat.mul_le_mul_right _ (by omega)
    have a2 : 2 ^ 53 * z ≤ 2 ^ 53 * T1074 := Nat.mul_le_mul_left _ hz
    exact Nat.lt_of_le_of_lt (Nat.le_trans a1 a2) all_767
  apply key
  unfold p2N
  split
  · exact t1074_ge (by omega)
  · exact Nat.le_trans (t971_ge (by omega)) t971_le

theorem allD_formed (neg : Bool) {F B x m : Nat} (hF : F ≤ 52) (hm : m < 2 ^ F) (h0 : ¬ (x = 0 ∧ m = 0)) (h1 : -1074 ≤ fPow B x) (h2 : fPow B x ≤ 971) :
    Formed (decA neg (allD F B x m).1 (allD F B x m).2) 767 ∧ (decA neg (allD F B x m).1 (allD F B x m).2).dig ≠ [] ∧ (decA neg (allD F B x m).1 (allD F B x m).2).neg = neg := by
  have hn : fNum F x m ≠ 0 := by
    have := Nat.pow_pos (n := F) (show 0 < 2 by omega)
    unfold fNum; split <;> omega
  have hlt : fNum F x m < 2 ^ 53 := by
    have a := fNum_lt (x := x) hm
    have b : (2 : Nat) ^ (F + 1) ≤ 2 ^ 53 := Nat.pow_le_pow_right (by omega) (by omega)
    omega
  have hp := p2N_pos (fPow B x)
  obtain ⟨N, hN⟩ : ∃ N, N = fNum F x m * p2N (fPow B x) := ⟨_, rfl⟩
  have hN0 : N ≠ 0 := by rw [hN]; exact Nat.mul_ne_zero hn (by omega)
  have h767 := p2N_767 h1 h2 hlt
  rw [← hN] at h767
  have hs := sizeN_ge hN0
  have hsp := sizeN_pos N
  have c53 : (2 : Nat) ^ 53 < 10 ^ 17 := by decide
  have hb := p2_bound (n := fPow B x) (c := fNum F x m) (t := 309) (q := sizeN N - 1) (by omega) (by omega) (by
    have a1 : fNum F x m * T971 < 2 ^ 53 * T971 := Nat.mul_lt_mul_of_pos_right hlt t971_pos
    have a2 : 2 ^ 53 * T971 < 10 ^ 309 := by decide +kernel
    exact Nat.lt_trans a1 a2) h2 (by rw [Nat.mul_comm, ← hN]; exact hs)
  have hl := p2E_ge (n := fPow B x) (by omega)
  show Formed (decA neg (fNum F x m * p2N (fPow B x)) (p2E (fPow B x))) 767 ∧ (decA neg (fNum F x m * p2N (fPow B x)) (p2E (fPow B x))).dig ≠ [] ∧ (decA neg (fNum F x m * p2N (fPow B x)) (p2E (fPow B x))).neg = neg
  rw [← hN]
  exact decA_formed neg (most := 767) (t := sizeN N) hN0 (.inl h767) (by omega) (by omega) (sizeN_lt N) (by omega)

end Go.Proofs.YtifpacgacbpalaaGreatDoor
