/-
  From what a row of the given statements hands over (readings of the arguments, the bound on their bulk) to the words of the walks.
  An argument that is an api.Dec, as a row of the given statements hands it over.
  Plain mathematics of adding and taking away with a carry, digit by digit.
  Plain mathematics: decimal digits, the numbers that they are, and texts behind texts.
  Plain mathematics: which Decs may be.
-/
import Derived.Test.YtafljhfamjabeaaGreatDoorRows
import Derived.Test.YtafljhfamjabeaaGreatDoorZOwn
import Derived.ProofKit
import Derived.OpenShut
import Derived.JoinedCond
import Derived.ChangeSame
import Derived.Lib.SmallJoins
import Derived.Test.YtafljhfamjabeaaGreatDoorZCarry
import Derived.Lib.ItoaNum
namespace Go.Proofs.YtafljhfamjabeaaGreatDoor
open Go.ChangeShapes Go.WideShapes Go.ChangeAt Go.RowKit

theorem Tryz.own : ownKnob Tryz.prog.godebug = none := by kernel_rfl
theorem Tryz.laidOut : laidOutB Tryz.prog = true := by kernel_rfl
end Go.Proofs.YtafljhfamjabeaaGreatDoor

namespace Go.Proofs.YtafljhfamjabeaaGreatDoor
open Go.ChangeShapes Go.WideShapes Go.ChangeAt Go.RowKit

theorem Tryz.cellsD : Tryz.prog.cellsOf 23 = 4 := by kernel_rfl

set_option maxRecDepth 100000 in
theorem viewD {H : Type} {enc : TypeId × Value → H} {W : World} {base : Nat} {v : Value} {d : DataW H} {p : List MemPlace} (hval : Value.okWide Tryz.prog W .any base 23 v) (h : DataW.Trod enc Tryz.prog W 0 (fun _ => true) true 23 v d p) :
    ∃ (c : Int) (neg : Bool) (t : ByteArray) (ex : Int), v = .agg #[.int .i64 c, .bool neg, .string t, .int .i64 ex] := by
  obtain ⟨v0, v1, v2, v3, y0, y1, y2, y3, n, rfl, _, _, h0, h1, h2, h3⟩ := Joins.open_agg4 Tryz.underlying23 (by kernel_rfl) Tryz.cellsD hval h
  obtain ⟨c, e0, _⟩ := DataW.trod_int Tryz.underlying3 h0
  obtain ⟨neg, e1, _⟩ := DataW.trod_bool Tryz.underlying4 h1
  obtain ⟨t, e2, _⟩ := DataW.trod_string Tryz.underlying9 h2
  obtain ⟨ex, e3, _⟩ := DataW.trod_int Tryz.underlying3 h3
  simp at e0 e1 e2 e3
  subst e0 e1 e2 e3
  exact ⟨c, neg, t, ex, rfl⟩

end Go.Proofs.YtafljhfamjabeaaGreatDoor

namespace Go.Proofs.YtafljhfamjabeaaGreatDoor

/-- The carry behind i digits. -/
def addC (b : Nat) (x y : Nat → Nat) : Nat → Nat
  | 0 => 0
  | i + 1 => (x i + y i + addC b x y i) / b

def addD (b : Nat) (x y : Nat → Nat) (i : Nat) : Nat := (x i + y i + addC b x y i) % b

theorem addC_le {b : Nat} {x y : Nat → Nat} (hx : ∀ i, x i < b) (hy : ∀ i, y i < b) : ∀ i, addC b x y i ≤ 1
  | 0 => by simp [addC]
  | i + 1 => by
    have h := addC_le hx hy i
    have h1 := hx i
    have h2 := hy i
    simp only [addC]
    have : x i + y i + addC b x y i < 2 * b := by omega
    have := (Nat.div_lt_iff_lt_mul (by omega)).2 this
    omega

theorem addD_lt {b : Nat} (hb : 0 < b) (x y : Nat → Nat) (i : Nat) : addD b x y i < b := Nat.mod_lt _ hb

theorem add_val (b : Nat) (x y : Nat → Nat) : ∀ n, V b x n + V b y n = V b (addD b x y) n + addC b x y n * b ^ n
  | 0 => by simp [V, addC]
  | n + 1 => by
    have ih := add_val b x y n
    simp only [V, addC, addD]
    have h := Nat.div_add_mod (x n + y n + addC b x y n) b
    generalize (x n + y n + addC b x y n) / b = q at *
    generalize (x n + y n + addC b x y n) % b = r at *
    have h2 : (b * q + r) * b ^ n = (x n + y n + addC b x y n) * b ^ n := by rw [h]
    rw [Nat.add_mul, Nat.add_mul, Nat.add_mul] at h2
    have h3 : b * q * b ^ n = q * b ^ (n + 1) := by rw [Nat.pow_succ, Nat.mul_comm b q, Nat.mul_assoc, Nat.mul_comm b]
    generalize V b (addD b x y) n = d at *
    omega

/-- The borrow behind i digits. -/
def subC (b : Nat) (x y : Nat → Nat) : Nat → Nat
  | 0 => 0
  | i + 1 => if x i < y i + subC b x y i then 1 else 0

def subD (b : Nat) (x y : Nat → Nat) (i : Nat) : Nat := (x i + b - y i - subC b x y i) % b

theorem subC_le {b : Nat} {x y : Nat → Nat} : ∀ i, subC b x y i ≤ 1
  | 0 => by simp [subC]
  | i + 1 => by simp only [subC]; split <;> omega

theorem subD_eq {b : Nat} {x y : Nat → Nat} (hx : ∀ i, x i < b) (hy : ∀ i, y i < b) (i : Nat) : subD b x y i + y i + subC b x y i = x i + subC b x y (i + 1) * b := by
  have h1 := hx i
  have h2 := hy i
  have h3 := subC_le (b := b) (x := x) (y := y) i
  simp only [subD, subC]
  split
  · rw [Nat.mod_eq_of_lt (by omega)]; omega
  · rw [show x i + b - y i - subC b x y i = (x i - y i - subC b x y i) + b by omega, Nat.add_mod_right, Nat.mod_eq_of_lt (by omega)]; omega

theorem sub_val {b : Nat} {x y : Nat → Nat} (hx : ∀ i, x i < b) (hy : ∀ i, y i < b) : ∀ n, V b (subD b x y) n + V b y n = V b x n + subC b x y n * b ^ n
  | 0 => by simp [V, subC]
  | n + 1 => by
    have ih := sub_val hx hy n
    have h := subD_eq hx hy n
    simp only [V]
    have h2 : (subD b x y n + y n + subC b x y n) * b ^ n = (x n + subC b x y (n + 1) * b) * b ^ n := by rw [h]
    rw [Nat.add_mul, Nat.add_mul, Nat.add_mul] at h2
    have h3 : subC b x y (n + 1) * b * b ^ n = subC b x y (n + 1) * b ^ (n + 1) := by rw [Nat.pow_succ, Nat.mul_assoc, Nat.mul_comm b]
    generalize V b (subD b x y) n = d at *
    generalize subC b x y (n + 1) = c at *
    omega

theorem V_sub_lt {b : Nat} {x y : Nat → Nat} (hx : ∀ i, x i < b) (hy : ∀ i, y i < b) (n : Nat) : subC b x y n = 0 ↔ V b y n ≤ V b x n := by
  have h := sub_val hx hy n
  have h2 : V b (subD b x y) n < b ^ n := V_lt n (fun i _ => Nat.mod_lt _ (by have := hx 0; omega))
  have h3 := subC_le (b := b) (x := x) (y := y) n
  constructor
  · intro e; rw [e] at h; omega
  · intro hle
    rcases Nat.lt_or_ge 0 (subC b x y n) with e | e
    · have : subC b x y n = 1 := by omega
      rw [this] at h; omega
    · omega

end Go.Proofs.YtafljhfamjabeaaGreatDoor

namespace Go.Proofs.YtafljhfamjabeaaGreatDoor

/-- The bytes of a string. -/
def bys (s : ByteArray) : List UInt8 := s.data.toList

theorem bys_len (s : ByteArray) : (bys s).length = s.size := by simp [bys]

/-- The k-th byte, nought behind the end. -/
def byt (l : List UInt8) (k : Nat) : Nat := (l[k]?.map UInt8.toNat).getD 0

theorem byt_get (s : ByteArray) (k : Nat) (h : k < s.size) : s[k].toNat = byt (bys s) k := by
  unfold byt bys
  have : s.data.toList[k]? = some s[k] := by
    rw [Array.getElem?_toList, Array.getElem?_eq_getElem h]; rfl
  rw [this]; rfl

/-- The number of decimal digits, the first the highest. -/
def decV (l : List UInt8) : Nat := l.foldl (fun a b => a * 10 + (b.toNat - 48)) 0

theorem decV_foldl (l : List UInt8) : ∀ a, l.foldl (fun a b => a * 10 + (b.toNat - 48)) a = a * 10 ^ l.length + decV l := by
  unfold decV
  induction l with
  | nil => intro a; simp
  | cons b t ih =>
    intro a
    simp only [List.foldl_cons, List.length_cons]
    rw [ih (a * 10 + (b.toNat - 48)), ih (0 * 10 + (b.toNat - 48)), Nat.pow_succ, Nat.add_mul, Nat.add_mul]
    have : a * 10 * 10 ^ t.length = a * (10 ^ t.length * 10) := by rw [Nat.mul_assoc, Nat.mul_comm 10]
    rw [this]; omega

theorem decV_append (a b : List UInt8) : decV (a ++ b) = decV a * 10 ^ b.length + decV b := by
  unfold decV
  rw [List.foldl_append]
  exact decV_foldl b _

/-- All bytes are digits. -/
def DigB (l : List UInt8) : Prop := ∀ k, k < l.length → 48 ≤ byt l k ∧ byt l k ≤ 57

theorem byt_take (l : List UInt8) {k n : Nat} (h : k < n) : byt (l.take n) k = byt l k := by
  unfold byt; rw [List.getElem?_take_of_lt h]
theorem byt_drop (l : List UInt8) (n k : Nat) : byt (l.drop n) k = byt l (n + k) := by
  unfold byt; rw [List.getElem?_drop]

theorem DigB.take {l : List UInt8} (h : DigB l) (n : Nat) : DigB (l.take n) := by
  intro k hk
  rw [List.length_take] at hk
  rw [byt_take l (by omega)]; exact h k (by omega)
theorem DigB.drop {l : List UInt8} (h : DigB l) (n : Nat) : DigB (l.drop n) := by
  intro k hk
  rw [List.length_drop] at hk
  rw [byt_drop]; exact h _ (by omega)

theorem decV_succ (l : List UInt8) {k : Nat} (h : k < l.length) : decV (l.take (k + 1)) = decV (l.take k) * 10 + (byt l k - 48) := by
  rw [List.take_succ_eq_append_getElem h, decV_append]
  unfold byt
  rw [List.getElem?_eq_getElem h]
  simp [decV]

theorem decV_lt : ∀ (n : Nat) (l : List UInt8), l.length = n → DigB l → decV l < 10 ^ n
  | 0, l, h, _ => by rw [List.length_eq_zero_iff.1 h]; simp [decV]
  | n + 1, l, h, hd => by
    have h1 := decV_lt n (l.take n) (by simp; omega) (hd.take n)
    have h2 := decV_succ l (k := n) (by omega)
    rw [List.take_of_length_le (by omega)] at h2
    have h3 := hd n (by omega)
    rw [h2, Nat.pow_succ]; omega

/-- A text is the digits of a number: no nought ahead, but of 0 itself. -/
def OkT (l : List UInt8) : Prop := l ≠ [] ∧ (byt l 0 = 48 → l = [48]) ∧ DigB l

theorem sl (s : ByteArray) : s.toList = bys s := ByteArray.toList_eq s

theorem dd_big {u : Nat} (h : ¬ u < 10) : Lib.decDigits u = Lib.decDigits (u / 10) ++ [UInt8.ofNat (48 + u % 10)] := by rw [Lib.decDigits, dif_neg h]

theorem u8_digit {d : Nat} (h : d < 10) : (UInt8.ofNat (48 + d)).toNat = 48 + d := by
  rw [UInt8.toNat_ofNat']
  omega

theorem byt_append_left (a b : List UInt8) {k : Nat} (h : k < a.length) : byt (a ++ b) k = byt a k := by
  unfold byt; rw [List.getElem?_append_left h]

theorem byt_last (a : List UInt8) (x : UInt8) : byt (a ++ [x]) a.length = x.toNat := by
  unfold byt; simp

theorem decV_last (a : List UInt8) (x : UInt8) : decV (a ++ [x]) = decV a * 10 + (x.toNat - 48) := by
  rw [decV_append]; simp [decV]

theorem DigB.last {a : List UInt8} (h : DigB a) {d : Nat} (hd : d < 10) : DigB (a ++ [UInt8.ofNat (48 + d)]) := by
  intro k hk
  rw [List.length_append] at hk
  by_cases e : k < a.length
  · rw [byt_append_left _ _ e]; exact h k e
  · have : k = a.length := by simp at hk; omega
    subst this
    rw [byt_last, u8_digit hd]; omega

theorem dd_ne (u : Nat) : Lib.decDigits u ≠ [] := by
  intro e
  have h := Lib.decDigits_length u
  rw [e] at h
  have := Lib.nDigits_pos u
  simp at h; omega

theorem dd_all : ∀ n u : Nat, u ≤ n → DigB (Lib.decDigits u) ∧ decV (Lib.decDigits u) = u ∧ (byt (Lib.decDigits u) 0 = 48 → Lib.decDigits u = [48])
  | n, u, hn => by
    by_cases h : u < 10
    · rw [Lib.decDigits_one h]
      refine ⟨?_, ?_, ?_⟩
      · have := DigB.last (a := []) (fun k hk => by simp at hk) h
        simpa using this
      · simp [decV]; omega
      · intro e
        have e2 : (UInt8.ofNat (48 + u)).toNat = 48 := by simpa [byt] using e
        rw [u8_digit h] at e2
        have : u = 0 := by omega
        subst this; rfl
    · rcases n with _ | n
      · omega
      · obtain ⟨h1, h2, h3⟩ := dd_all n (u / 10) (by omega)
        have hm : u % 10 < 10 := Nat.mod_lt _ (by omega)
        rw [dd_big h]
        refine ⟨h1.last hm, ?_, ?_⟩
        · rw [decV_last, h2, u8_digit hm]; omega
        · intro e
          have hpos : 0 < (Lib.decDigits (u / 10)).length := List.length_pos_iff.2 (dd_ne _)
          rw [byt_append_left _ _ hpos] at e
          have e2 := h3 e
          rw [e2] at h2
          simp [decV] at h2
          omega

theorem dd_okT (u : Nat) : OkT (Lib.decDigits u) := ⟨dd_ne u, (dd_all u u (Nat.le_refl _)).2.2, (dd_all u u (Nat.le_refl _)).1⟩
theorem dd_val (u : Nat) : decV (Lib.decDigits u) = u := (dd_all u u (Nat.le_refl _)).2.1

theorem dd_back : ∀ (n : Nat) (l : List UInt8), l.length = n + 1 → OkT l → Lib.decDigits (decV l) = l
  | 0, l, hl, h => by
    obtain ⟨x, rfl⟩ : ∃ x, l = [x] := by
      rcases l with _ | ⟨x, _ | ⟨y, t⟩⟩
      · simp at hl
      · exact ⟨x, rfl⟩
      · simp at hl
    have h1 := h.2.2 0 (by simp)
    have h2 : byt [x] 0 = x.toNat := by simp [byt]
    rw [h2] at h1
    have h3 : decV [x] = x.toNat - 48 := by simp [decV]
    rw [h3, Lib.decDigits_one (by omega)]
    congr 1
    rw [show 48 + (x.toNat - 48) = x.toNat by omega]
    exact UInt8.ofNat_toNat
  | n + 1, l, hl, h => by
    obtain ⟨a, x, rfl⟩ : ∃ a x, l = a ++ [x] := ⟨l.dropLast, l.getLast h.1, (List.dropLast_concat_getLast h.1).symm⟩
    have ha : a.length = n + 1 := by simp at hl; omega
    have hx := h.2.2 a.length (by simp)
    rw [byt_last] at hx
    have hne : byt (a ++ [x]) 0 ≠ 48 := by
      intro e
      have := congrArg List.length (h.2.1 e)
      rw [List.length_append] at this
      simp only [List.length_cons, List.length_nil] at this
      omega
    have h0 : byt a 0 = byt (a ++ [x]) 0 := (byt_append_left _ _ (by omega)).symm
    have da : DigB a := by
      intro k hk
      have := h.2.2 k (by simp; omega)
      rwa [byt_append_left _ _ hk] at this
    have oka : OkT a := ⟨fun e => by rw [e] at ha; simp at ha, fun e => absurd (h0 ▸ e) hne, da⟩
    have hb := dd_back n a ha oka
    have hv1 : 1 ≤ decV a := by
      rcases Nat.eq_zero_or_pos (decV a) with e | e
      · exfalso
        rw [e] at hb
        have : Lib.decDigits 0 = [48] := by rw [Lib.decDigits_one (by omega)]; rfl
        rw [this] at hb
        apply hne
        rw [← h0, ← hb]; rfl
      · exact e
    have hge : ¬ decV a * 10 + (x.toNat - 48) < 10 := by omega
    rw [decV_last, dd_big hge, show (decV a * 10 + (x.toNat - 48)) / 10 = decV a by omega, show (decV a * 10 + (x.toNat - 48)) % 10 = x.toNat - 48 by omega, hb]
    congr 2
    rw [show 48 + (x.toNat - 48) = x.toNat by omega]
    exact UInt8.ofNat_toNat

theorem bys_append (a b : ByteArray) : bys (a ++ b) = bys a ++ bys b := by
  unfold bys; simp

theorem byt_append_right (a b : List UInt8) (k : Nat) : byt (a ++ b) (a.length + k) = byt b k := by
  unfold byt; rw [List.getElem?_append_right (by omega), Nat.add_sub_cancel_left]

theorem DigB.append {a b : List UInt8} (ha : DigB a) (hb : DigB b) : DigB (a ++ b) := by
  intro k hk
  by_cases e : k < a.length
  · rw [byt_append_left _ _ e]; exact ha k e
  · rw [List.length_append] at hk
    have h := hb (k - a.length) (by omega)
    have e2 : byt (a ++ b) k = byt b (k - a.length) := by
      have := byt_append_right a b (k - a.length)
      rwa [show a.length + (k - a.length) = k by omega] at this
    rw [e2]; exact h

theorem OkT.append {a b : List UInt8} (ha : OkT a) (hn : a ≠ [48]) (hb : DigB b) : OkT (a ++ b) := by
  refine ⟨fun e => ha.1 (List.append_eq_nil_iff.1 e).1, fun e => ?_, ha.2.2.append hb⟩
  rw [byt_append_left _ _ (List.length_pos_iff.2 ha.1)] at e
  exact absurd (ha.2.1 e) hn

theorem dd_lt : ∀ n u : Nat, u ≤ n → u < 10 ^ (Lib.decDigits u).length ∧ (u ≠ 0 → 10 ^ ((Lib.decDigits u).length - 1) ≤ u)
  | n, u, hn => by
    by_cases h : u < 10
    · rw [Lib.decDigits_one h]
      exact ⟨by simpa using h, fun h0 => by simp; omega⟩
    · rcases n with _ | n
      · omega
      · obtain ⟨h1, h2⟩ := dd_lt n (u / 10) (by omega)
        have h3 := h2 (by omega)
        have hl : 0 < (Lib.decDigits (u / 10)).length := List.length_pos_iff.2 (dd_ne _)
        rw [dd_big h, List.length_append, List.length_singleton, Nat.add_sub_cancel]
        obtain ⟨m, hm⟩ : ∃ m, (Lib.decDigits (u / 10)).length = m + 1 := ⟨(Lib.decDigits (u / 10)).length - 1, by omega⟩
        rw [hm] at h1 h3 ⊢
        rw [Nat.add_sub_cancel] at h3
        rw [Nat.pow_succ] at h1
        rw [Nat.pow_succ, Nat.pow_succ]
        generalize 10 ^ m = p at *
        exact ⟨by omega, fun _ => by omega⟩

theorem dd_zero {u : Nat} (h : Lib.decDigits u = [48]) : u = 0 := by
  rw [← dd_val u, h]; rfl

end Go.Proofs.YtafljhfamjabeaaGreatDoor

namespace Go.Proofs.YtafljhfamjabeaaGreatDoor

/-- Which Decs may be: class, sign, digits, exponent. -/
def MayD (c : Int) (neg : Bool) (dig : List UInt8) (e : Int) : Prop :=
  (c = 0 ∧ ((dig = [] ∧ e = 0) ∨ (dig ≠ [] ∧ dig.length ≤ 1000 ∧ -2000 ≤ e + dig.length ∧ e + dig.length ≤ 2000 ∧ byt dig 0 ≠ 48 ∧ byt dig (dig.length - 1) ≠ 48 ∧ DigB dig))) ∨
  (c = 1 ∧ dig = [] ∧ e = 0) ∨ (c = 2 ∧ neg = false ∧ dig = [] ∧ e = 0)

/-- Digits that do not begin with a nought are a number above 0. -/
theorem decV_ne {l : List UInt8} (h : l ≠ []) (h0 : byt l 0 ≠ 48) (hd : DigB l) : decV l ≠ 0 := by
  have ok : OkT l := ⟨h, fun e => absurd e h0, hd⟩
  rcases hl : l.length with _ | n
  · exact absurd (List.length_eq_zero_iff.1 hl) h
  · have hb := dd_back n l hl ok
    intro e
    rw [e, Lib.decDigits_one (by omega)] at hb
    apply h0
    rw [← hb]; rfl

end Go.Proofs.YtafljhfamjabeaaGreatDoor
