/-
  Plain mathematics: what is printed of a number is read as that number.
  Plain mathematics: digits with a point between and an exponent behind are read as the number that they show.
  Digits in groups, as pieces of text: the document's words as plain data; where groups end.
  Lists of pieces and of texts in memory; what the row's put does.
  Digits as they are written: what written and joined answer.
  Arguments that are an api.Symbols, a quipulaw16.Way, a quipulaw16.Groups, an api.Shown: as values; how long their texts are.
  An api.Symbols that is handed in: how long the texts of Inf and NaN are.
-/
import Derived.Test.YtbfegnbaleclfaaGreatDoorAB14
import Derived.Test.YtbfegnbaleclfaaGreatDoorAB6
import Derived.Test.YtbfegnbaleclfaaGreatDoorAB13
import Derived.Lib.SlTrimSet
import Derived.Test.YtbfegnbaleclfaaGreatDoorAB2
import Derived.Test.YtbfegnbaleclfaaGreatDoorAB5
import Derived.Laws.OwnMore
import Derived.Deep.RegionHeld3
import Derived.Deep.Upon
import Derived.Deep.RegionLaw
import Derived.Deep.AppendLies
import Derived.Laws.AppendOwnNone
import Derived.Test.YtbfegnbaleclfaaGreatDoorAB11
import Derived.Laws.RangeAny
import Derived.Lib.OthersKept
import Derived.Test.YtbfegnbaleclfaaGreatDoorAB1
import Derived.Test.YtbfegnbaleclfaaGreatDoorRows
import Derived.Lib.SmallJoins
namespace Go.Proofs.YtbfegnbaleclfaaGreatDoor

theorem p1_neg (l : List UInt8) : Lib.hasPrefix (45 :: l) [45] = true ∧ p1 (45 :: l) = l := by
  have h : Lib.hasPrefix (45 :: l) [45] = true := by rw [hp_one]; simp
  refine ⟨h, ?_⟩
  unfold p1 Lib.trimPrefix
  rw [if_pos h]; rfl

theorem p1_pos {s : List UInt8} (h : s.head? ≠ some 45) : Lib.hasPrefix s [45] = false ∧ p1 s = s := by
  have h1 : Lib.hasPrefix s [45] = false := by rw [hp_one]; simpa using h
  refine ⟨h1, ?_⟩
  unfold p1 Lib.trimPrefix
  rw [h1]; rfl

theorem dd_head (u : Nat) : ∃ b t, Lib.decDigits u = b :: t ∧ 48 ≤ b.toNat ∧ b.toNat ≤ 57 := by
  rcases h : Lib.decDigits u with _ | ⟨b, t⟩
  · exact absurd h (dd_ne u)
  · have := (dd_okT u).2.2
    rw [h] at this
    exact ⟨b, t, rfl, this.head⟩

theorem itoa_back (e : Int) : unsg (Lib.itoa e) = Lib.decDigits e.natAbs ∧ powV (Lib.itoa e) = e := by
  unfold Lib.itoa
  by_cases h : e < 0
  · rw [if_pos h]
    have e1 : unsg (45 :: Lib.decDigits e.natAbs) = Lib.decDigits e.natAbs := rfl
    refine ⟨e1, ?_⟩
    unfold powV
    rw [e1, dd_val]
    simp only [List.head?_cons, if_true]
    omega
  · rw [if_neg h]
    obtain ⟨b, t, hb, h1, h2⟩ := dd_head e.toNat
    have n1 : ¬ (Lib.decDigits e.toNat).head? = some 45 := by
      rw [hb]; simp only [List.head?_cons, Option.some.injEq]
      intro e; rw [e] at h1; exact absurd h1 (by decide)
    have n2 : ¬ (Lib.decDigits e.toNat).head? = some 43 := by
      rw [hb]; simp only [List.head?_cons, Option.some.injEq]
      intro e; rw [e] at h1; exact absurd h1 (by decide)
    have e0 : e.toNat = e.natAbs := by omega
    have e1 : unsg (Lib.decDigits e.toNat) = Lib.decDigits e.natAbs := by rw [unsg_same n1 n2, e0]
    refine ⟨e1, ?_⟩
    unfold powV
    rw [e1, if_neg n1, dd_val]
    omega

end Go.Proofs.YtbfegnbaleclfaaGreatDoor

namespace Go.Proofs.YtbfegnbaleclfaaGreatDoor

theorem parse_dot {s int frac : List UInt8} {neg : Bool} {e : Int} (hneg : Lib.hasPrefix s [45] = neg) (hp : p1 s = int ++ 46 :: (frac ++ 101 :: Lib.itoa e)) (hi : DigB int) (hf : DigB frac) (hne : ¬ (int = [] ∧ frac = [])) (h1 : -10000 ≤ e) (h2 : e ≤ 10000) : parseT s = some ⟨neg, int, frac, e⟩ := by
  have nd : ¬ (48 ≤ byt (46 :: (frac ++ 101 :: Lib.itoa e)) 0 ∧ byt (46 :: (frac ++ 101 :: Lib.itoa e)) 0 ≤ 57) := by rw [byt_cons0]; decide
  have ne : ¬ (48 ≤ byt (101 :: Lib.itoa e) 0 ∧ byt (101 :: Lib.itoa e) 0 ≤ 57) := by rw [byt_cons0]; decide
  have ea : pAhead s = int := by unfold pAhead; rw [hp]; exact (dgs_append hi (.inr nd)).1
  have e2 : p2 s = 46 :: (frac ++ 101 :: Lib.itoa e) := by unfold p2; rw [hp]; exact (dgs_append hi (.inr nd)).2
  have ed : Lib.hasPrefix (p2 s) [46] = true := by rw [e2, hp_one]; simp
  have et : Lib.trimPrefix (p2 s) [46] = frac ++ 101 :: Lib.itoa e := by unfold Lib.trimPrefix; rw [if_pos ed, e2]; rfl
  have ed2 : pDot s = true := ed
  have eb : pBehind s = frac := by unfold pBehind; rw [ed2, if_pos rfl, et]; exact (dgs_append hf (.inr ne)).1
  have e3 : p3 s = 101 :: Lib.itoa e := by unfold p3; rw [ed2, if_pos rfl, et]; exact (dgs_append hf (.inr ne)).2
  have e4 : p4 s = Lib.itoa e := by unfold p4; rw [e3]; rfl
  obtain ⟨u1, u2⟩ := itoa_back e
  obtain ⟨g1, g2⟩ := dgs_all (dd_okT e.natAbs).2.2
  have gl : (Lib.decDigits e.natAbs).length ≤ 5 := sizeN_le (Nat.lt_of_le_of_lt (show e.natAbs ≤ 10000 by omega) (by decide)) (by omega)
  unfold parseT
  rw [ea, eb, if_neg hne, e3, if_neg (by simp), if_neg (by rw [byt_cons0]; decide), e4, u1, g1, g2, if_neg (by
    rintro (h | h | h)
    · exact dd_ne _ h
    · omega
    · exact h rfl), hneg, u2]

theorem parseD_of {l : List UInt8} {p : Parts} (h : parseT l = some p) : parseD l = tellF p.neg (decV (p.ahead ++ p.behind)) (p.pow - p.behind.length) := by
  have n1 : parseT tNan = none := by decide +kernel
  have n2 : parseT tInf = none := by decide +kernel
  have n3 : parseT tNeg = none := by decide +kernel
  unfold parseD
  rw [if_neg (fun e => by rw [e, n1] at h; cases h), if_neg (fun e => by rw [e, n2] at h; cases h), if_neg (fun e => by rw [e, n3] at h; cases h), h]
  rfl

def shownT (neg : Bool) (int frac : List UInt8) (e : Int) : List UInt8 := (if neg then [45] else []) ++ (int ++ 46 :: (frac ++ 101 :: Lib.itoa e))

theorem parse_shown (neg : Bool) {int frac : List UInt8} {e : Int} (hi : DigB int) (hf : DigB frac) (hne : ¬ (int = [] ∧ frac = [])) (h1 : -10000 ≤ e) (h2 : e ≤ 10000) :
    parseD (shownT neg int frac e) = tellF neg (decV (int ++ frac)) (e - frac.length) := by
  cases neg
  · have hh : (int ++ 46 :: (frac ++ 101 :: Lib.itoa e)).head? ≠ some 45 := by
      cases int with
      | nil => simp
      | cons b t =>
        have := hi.head
        simp only [List.cons_append, List.head?_cons, ne_eq, Option.some.injEq]
        intro g
        rw [g] at this
        exact absurd this.1 (by decide)
    obtain ⟨q1, q2⟩ := p1_pos hh
    exact parseD_of (parse_dot q1 q2 hi hf hne h1 h2)
  · obtain ⟨q1, q2⟩ := p1_neg (int ++ 46 :: (frac ++ 101 :: Lib.itoa e))
    exact parseD_of (parse_dot q1 q2 hi hf hne h1 h2)

theorem mem_dropW {p : UInt8 → Bool} {x : UInt8} (hx : p x = false) : ∀ {l : List UInt8}, x ∈ l → x ∈ l.dropWhile p
  | b :: t, h => by
    rw [List.dropWhile_cons]
    split
    · rename_i hb
      rcases List.mem_cons.1 h with e | e
      · subst e; rw [hx] at hb; cases hb
      · exact mem_dropW hx e
    · exact h

theorem trimS_nil {l cs : List UInt8} : Lib.trimS l cs = [] ↔ ∀ x ∈ l, cs.contains x = true := by
  constructor
  · intro h x hx
    rcases hc : cs.contains x with _ | _
    · exfalso
      have m1 : x ∈ Lib.trimRightS l cs := by
        unfold Lib.trimRightS
        rw [List.mem_reverse]
        exact mem_dropW hc (List.mem_reverse.2 hx)
      have m2 : x ∈ Lib.trimS l cs := by
        unfold Lib.trimS Lib.trimLeftS
        exact mem_dropW hc m1
      rw [h] at m2; cases m2
    · rfl
  · intro h
    have e1 : Lib.trimRightS l cs = [] := by
      unfold Lib.trimRightS
      rw [List.reverse_eq_nil_iff]
      have : ∀ m : List UInt8, (∀ x ∈ m, cs.contains x = true) → m.dropWhile (cs.contains ·) = [] := by
        intro m
        induction m with
        | nil => intro _; rfl
        | cons b t ih =>
          intro hm
          rw [List.dropWhile_cons, if_pos (hm b (List.mem_cons_self ..))]
          exact ih fun x hx => hm x (List.mem_cons_of_mem _ hx)
      exact this _ fun x hx => h x (List.mem_reverse.1 hx)
    unfold Lib.trimS
    rw [e1]; rfl

def tenD : List UInt8 := [48, 49, 50, 51, 52, 53, 54, 55, 56, 57]

theorem tenD_has : ∀ b : UInt8, tenD.contains b = decide (48 ≤ b.toNat ∧ b.toNat ≤ 57) := by
  intro b
  have h : ∀ n : _root_.Fin 256, tenD.contains (UInt8.ofNat n.val) = decide (48 ≤ (UInt8.ofNat n.val).toNat ∧ (UInt8.ofNat n.val).toNat ≤ 57) := by decide +kernel
  have := h ⟨b.toNat, b.toNat_lt⟩
  simpa using this

theorem trim_digB {l : List UInt8} : Lib.trimS l tenD = [] ↔ DigB l := by
  rw [trimS_nil]
  constructor
  · intro h k hk
    have hm := h l[k] (List.getElem_mem hk)
    rw [tenD_has] at hm
    have := of_decide_eq_true hm
    unfold byt
    rw [List.getElem?_eq_getElem hk]
    exact this
  · intro h x hx
    obtain ⟨k, hk, rfl⟩ := List.getElem_of_mem hx
    have := h k hk
    unfold byt at this
    rw [List.getElem?_eq_getElem hk] at this
    rw [tenD_has]
    exact decide_eq_true this

end Go.Proofs.YtbfegnbaleclfaaGreatDoor

namespace Go.Proofs.YtbfegnbaleclfaaGreatDoor

structure Pc where
  text : ByteArray
  field : Int
deriving DecidableEq

structure Sy where
  (d0 d1 d2 d3 d4 d5 d6 d7 d8 d9 dec grp min plu pct pml exp inf nan app rng : ByteArray)

def Sy.dig (s : Sy) : Nat → ByteArray
  | 0 => s.d0
  | 1 => s.d1
  | 2 => s.d2
  | 3 => s.d3
  | 4 => s.d4
  | 5 => s.d5
  | 6 => s.d6
  | 7 => s.d7
  | 8 => s.d8
  | _ => s.d9

def mkP (l : List UInt8) : ByteArray := ⟨l.toArray⟩
theorem bys_mkP (l : List UInt8) : bys (mkP l) = l := rfl
theorem mkP_bys (s : ByteArray) : mkP (bys s) = s := rfl
theorem mkP_size (l : List UInt8) : (mkP l).size = l.length := by rw [← bys_len]; rfl
theorem mkP_app (a b : List UInt8) : mkP (a ++ b) = mkP a ++ mkP b := by
  have : bys (mkP a ++ mkP b) = a ++ b := by rw [bys_append]; rfl
  rw [← mkP_bys (mkP a ++ mkP b), this]

def digT (s : Sy) (c : UInt8) : ByteArray := s.dig (c.toNat - 48)
def wrL (s : Sy) (ds : List UInt8) : List UInt8 := (ds.map fun c => bys (digT s c)).flatten
theorem wrL_cons (s : Sy) (c : UInt8) (ds : List UInt8) : wrL s (c :: ds) = bys (digT s c) ++ wrL s ds := rfl
theorem wrL_app (s : Sy) (a b : List UInt8) : wrL s (a ++ b) = wrL s a ++ wrL s b := by unfold wrL; rw [List.map_append, List.flatten_append]

def oneP (t : ByteArray) (f : Int) : List Pc := if t.size = 0 then [] else [⟨t, f⟩]
theorem oneP_len (t : ByteArray) (f : Int) : (oneP t f).length ≤ 1 := by unfold oneP; split <;> simp

def furR (first further : Int) : Int := if further ≤ 0 then first else further
def Grp (n : Nat) (first least : Int) : Prop := 0 < first ∧ max 1 least ≤ (n : Int) - first
instance (n : Nat) (first least : Int) : Decidable (Grp n first least) := inferInstanceAs (Decidable (_ ∧ _))
def foreI (n : Nat) (first R : Int) : Int := if 0 < ((n : Int) - first) % R then ((n : Int) - first) % R else R
def tailS (R F k : Nat) : List Nat := List.replicate k R ++ [F]
theorem tailS_zero (R F : Nat) : tailS R F 0 = [F] := rfl
theorem tailS_succ (R F k : Nat) : tailS R F (k + 1) = R :: tailS R F k := rfl
theorem tailS_ne (R F k : Nat) : tailS R F k ≠ [] := by cases k <;> simp [tailS, List.replicate_succ]
def szG (n : Nat) (first further least : Int) : List Nat :=
  if n = 0 then [] else if Grp n first least then (foreI n first (furR first further)).toNat :: tailS (furR first further).toNat first.toNat (((n : Int) - first - foreI n first (furR first further)) / furR first further).toNat else [n]
def endI (n : Nat) (first further least : Int) (a : Nat) : Int :=
  if a = 0 then (if Grp n first least then foreI n first (furR first further) else n) else if first < (n : Int) - a then a + furR first further else n
def befB (n : Nat) (first further least k : Int) : Bool :=
  decide (Grp n first least) && (decide (first ≤ k) && (decide (k < n) && decide ((k - first) % furR first further = 0)))
def Rem (n : Nat) (first further least : Int) (a : Nat) (L : List Nat) : Prop :=
  a ≤ n ∧ ((a = 0 ∧ L = szG n first further least) ∨ (0 < a ∧ a = n ∧ L = []) ∨ (Grp n first least ∧ 0 < a ∧ ∃ k, L = tailS (furR first further).toNat first.toNat k ∧ (a : Int) + k * furR first further + first = n))

theorem furR_pos {first further : Int} (h : 0 < first) : 0 < furR first further := by unfold furR; split <;> omega

theorem fore_split {n : Nat} {first least : Int} (R : Int) (hR : 0 < R) (h : Grp n first least) : ∃ q : Nat, (n : Int) - first = foreI n first R + q * R ∧ 0 < foreI n first R ∧ foreI n first R ≤ R ∧ foreI n first R ≤ (n : Int) - first := by
  obtain ⟨h1, h2⟩ := h
  have h3 : 1 ≤ (n : Int) - first := by omega
  unfold foreI
  generalize (n : Int) - first = m at *
  have e := Int.mul_ediv_add_emod m R
  have b1 := Int.emod_nonneg m (show R ≠ 0 by omega)
  have b2 := Int.emod_lt_of_pos m hR
  have b3 : 0 ≤ m / R := Int.ediv_nonneg (by omega) (by omega)
  generalize m % R = r at *
  by_cases hr : 0 < r
  · rw [if_pos hr]
    refine ⟨(m / R).toNat, ?_, hr, by omega, ?_⟩
    · rw [Int.toNat_of_nonneg b3, Int.mul_comm (m / R)]; omega
    · have : 0 ≤ R * (m / R) := Int.mul_nonneg (by omega) b3
      omega
  · rw [if_neg hr]
    obtain rfl : r = 0 := by omega
    have b4 : 0 < m / R := by
      generalize m / R = Q at *
      by_cases h : 0 < Q
      · exact h
      · obtain rfl : Q = 0 := by omega
        rw [Int.mul_zero] at e; omega
    have e2 : m = R + (m / R - 1) * R := by
      rw [Int.sub_mul, Int.one_mul, Int.mul_comm (m / R)]; omega
    refine ⟨(m / R - 1).toNat, ?_, hR, Int.le_refl _, ?_⟩
    · rw [Int.toNat_of_nonneg (by omega)]; exact e2
    · have : 0 ≤ (m / R - 1) * R := Int.mul_nonneg (by omega) (by omega)
      omega

theorem emod_small {x R : Int} (h0 : 0 ≤ x) (h1 : x < R) (k : Nat) : (x + k * R) % R = x := by
  rw [Int.add_mul_emod_self_right, Int.emod_eq_of_lt h0 h1]

theorem Rem.step {n : Nat} {first further least : Int} {a : Nat} {L : List Nat} (h : Rem n first further least a L) (ha : a < n) :
    ∃ s L', L = s :: L' ∧ 0 < s ∧ a + s ≤ n ∧ endI n first further least a = ((a + s : Nat) : Int) ∧ Rem n first further least (a + s) L' ∧ (∀ i, a < i → i ≤ a + s → (decide (i = n) || befB n first further least ((n : Int) - i)) = decide (i = a + s)) ∧ (L' = [] ↔ a + s = n) := by
  obtain ⟨_, ⟨rfl, rfl⟩ | ⟨_, h2, _⟩ | ⟨hg, h0, k, rfl, hk⟩⟩ := h
  · by_cases hg : Grp n first least
    · have hR := furR_pos (further := further) hg.1
      obtain ⟨q, e1, e2, e3, e4⟩ := fore_split (furR first further) hR hg
      have ef : 0 < first := hg.1
      have eS : szG n first further least = (foreI n first (furR first further)).toNat :: tailS (furR first further).toNat first.toNat q := by
        unfold szG
        rw [if_neg (by omega), if_pos hg]
        congr 2
        have : (n : Int) - first - foreI n first (furR first further) = q * furR first further := by omega
        rw [this, Int.mul_ediv_cancel _ (by omega)]
        omega
      have eE : endI n first further least 0 = foreI n first (furR first further) := by unfold endI; rw [if_pos rfl, if_pos hg]
      have eB : ∀ k, befB n first further least k = (decide (first ≤ k) && (decide (k < n) && decide ((k - first) % furR first further = 0))) := by
        intro k; unfold befB; rw [decide_eq_true hg, Bool.true_and]
      generalize foreI n first (furR first further) = f at *
      generalize hRR : furR first further = R at *
      refine ⟨f.toNat, _, eS, by omega, by omega, by rw [eE]; omega, ⟨by omega, .inr (.inr ⟨hg, by omega, q, by rw [hRR], by rw [hRR]; omega⟩)⟩, ?_, ?_⟩
      · intro i hi1 hi2
        have hne : ¬ i = n := by omega
        rw [eB, decide_eq_false hne, Bool.false_or, decide_eq_true (show first ≤ (n : Int) - i by omega), decide_eq_true (show (n : Int) - i < n by omega), Bool.true_and, Bool.true_and]
        have : (n : Int) - i - first = (f - i) + q * R := by omega
        rw [this, decide_eq_decide]
        by_cases hie : (i : Int) = f
        · rw [show f - (i : Int) = 0 by omega, Int.zero_add, Int.mul_emod_left]
          exact ⟨fun _ => by omega, fun _ => rfl⟩
        · rw [emod_small (by omega) (by omega)]
          exact ⟨fun _ => by omega, fun _ => by omega⟩
      · exact ⟨fun h => absurd h (tailS_ne _ _ _), fun h => by omega⟩
    · refine ⟨n, [], by unfold szG; rw [if_neg (by omega), if_neg hg], ha, by omega, by unfold endI; rw [if_pos rfl, if_neg hg]; omega, ⟨by omega, .inr (.inl ⟨by omega, by omega, rfl⟩)⟩, ?_, ⟨fun _ => by omega, fun _ => rfl⟩⟩
      intro i hi1 hi2
      unfold befB
      rw [decide_eq_false hg, Bool.false_and, Bool.or_false, Nat.zero_add]
  · omega
  · have hR := furR_pos (further := further) hg.1
    have ef : 0 < first := hg.1
    have eE : endI n first further least a = if first < (n : Int) - a then (a : Int) + furR first further else n := by unfold endI; rw [if_neg (by omega)]
    have eB : ∀ k, befB n first further least k = (decide (first ≤ k) && (decide (k < n) && decide ((k - first) % furR first further = 0))) := by
      intro k; unfold befB; rw [decide_eq_true hg, Bool.true_and]
    generalize hRR : furR first further = R at *
    cases k with
    | zero =>
      rw [Int.natCast_zero, Int.zero_mul] at hk
      refine ⟨first.toNat, [], by rw [tailS_zero], by omega, by omega, by rw [eE, if_neg (by omega)]; omega, ⟨by omega, .inr (.inl ⟨by omega, by omega, rfl⟩)⟩, ?_, ⟨fun _ => by omega, fun _ => rfl⟩⟩
      intro i hi1 hi2
      by_cases hin : i = n
      · rw [decide_eq_true hin, decide_eq_true (show i = a + first.toNat by omega)]; rfl
      · rw [eB, decide_eq_false hin, decide_eq_false (show ¬ first ≤ (n : Int) - i by omega), decide_eq_false (show ¬ i = a + first.toNat by omega)]; rfl
    | succ k =>
      have hk' : (a : Int) + R + k * R + first = n := by
        rw [Int.natCast_add, Int.add_mul, show ((1 : Nat) : Int) * R = R by simp] at hk
        omega
      have hkR : 0 ≤ (k : Int) * R := Int.mul_nonneg (by omega) (by omega)
      generalize hkk : (k : Int) * R = KR at *
      refine ⟨R.toNat, _, tailS_succ _ _ _, by omega, by omega, by rw [eE, if_pos (by omega)]; omega, ⟨by omega, .inr (.inr ⟨hg, by omega, k, by rw [hRR], by rw [hRR, hkk]; omega⟩)⟩, ?_, ⟨fun h => absurd h (tailS_ne _ _ _), fun h => by omega⟩⟩
      intro i hi1 hi2
      rw [eB, decide_eq_false (show ¬ i = n by omega), Bool.false_or, decide_eq_true (show first ≤ (n : Int) - i by omega), decide_eq_true (show (n : Int) - i < n by omega), Bool.true_and, Bool.true_and]
      have : (n : Int) - i - first = ((a : Int) + R - i) + k * R := by omega
      rw [this, decide_eq_decide]
      by_cases hie : (i : Int) = a + R
      · rw [show (a : Int) + R - i = 0 by omega, Int.zero_add, Int.mul_emod_left]
        exact ⟨fun _ => by omega, fun _ => rfl⟩
      · rw [emod_small (by omega) (by omega)]
        exact ⟨fun _ => by omega, fun _ => by omega⟩

theorem Rem.start (n : Nat) (first further least : Int) : Rem n first further least 0 (szG n first further least) := ⟨Nat.zero_le _, .inl ⟨rfl, rfl⟩⟩
theorem Rem.done {n : Nat} {first further least : Int} {L : List Nat} (h : Rem n first further least n L) : L = [] := by
  obtain ⟨_, ⟨h1, h2⟩ | ⟨_, _, h2⟩ | ⟨hg, h0, k, _, hk⟩⟩ := h
  · rw [h2]
    unfold szG
    rw [if_pos h1]
  · exact h2
  · have hR := furR_pos (further := further) hg.1
    have := hg.1
    have hkR : 0 ≤ (k : Int) * furR first further := Int.mul_nonneg (by omega) (by omega)
    omega

def intT (s : Sy) : List Nat → List UInt8 → List Pc
  | [], _ => []
  | a :: t, ds => oneP s.grp 3 ++ (oneP (mkP (wrL s (ds.take a))) 2 ++ intT s t (ds.drop a))
def intP (s : Sy) : List Nat → List UInt8 → List Pc
  | [], _ => []
  | a :: t, ds => oneP (mkP (wrL s (ds.take a))) 2 ++ intT s t (ds.drop a)
theorem intT_len (s : Sy) : ∀ (L : List Nat) (ds : List UInt8), (intT s L ds).length ≤ 2 * L.length
  | [], _ => Nat.zero_le _
  | a :: t, ds => by
    have h1 := intT_len s t (ds.drop a)
    have h2 := oneP_len s.grp 3
    have h3 := oneP_len (mkP (wrL s (ds.take a))) 2
    simp only [intT, List.length_append, List.length_cons]
    omega
theorem intP_len (s : Sy) (L : List Nat) (ds : List UInt8) : (intP s L ds).length ≤ 2 * L.length := by
  cases L with
  | nil => exact Nat.zero_le _
  | cons a t =>
    have h1 := intT_len s t (ds.drop a)
    have h3 := oneP_len (mkP (wrL s (ds.take a))) 2
    simp only [intP, List.length_append, List.length_cons]
    omega

def fraP (s : Sy) (x : ShownT) (always : Bool) : List Pc := (if x.frac ≠ [] ∨ always = true then oneP s.dec 4 else []) ++ oneP (mkP (wrL s x.frac)) 5

noncomputable def pcsP (x : ShownT) (s : Sy) (first further least : Int) (always : Bool) : List Pc := open Classical in
  if ¬ MayS x then [] else if x.cls = 1 then oneP s.inf 2 else if x.cls = 2 then oneP s.nan 2 else intP s (szG x.int.length first further least) x.int ++ fraP s x always
def fillL (n : Nat) (least : Int) : List UInt8 := List.replicate (min 99 (least - (Lib.decDigits n).length)).toNat 48 ++ Lib.decDigits n
def sgnP (e : Int) (plus : Bool) (s : Sy) : List Pc := if e < 0 then oneP s.min 7 else if plus = true then oneP s.plu 7 else []
def expP (e least : Int) (plus : Bool) (s : Sy) : List Pc := oneP s.exp 6 ++ sgnP e plus s ++ oneP (mkP (wrL s (fillL e.natAbs least))) 8

end Go.Proofs.YtbfegnbaleclfaaGreatDoor

namespace Go.Proofs.YtbfegnbaleclfaaGreatDoor
open Go.RowKit

theorem infoPc : (Tryz.prog.info? 36).map (fun i => (i.zero, i.size, i.bytes)) = some (some (.agg #[.string ⟨#[]⟩, .int .i64 0]), 2, 24) := by kernel_rfl
theorem infoSt : (Tryz.prog.info? 9).map (fun i => (i.zero, i.size, i.bytes)) = some (some (.string ⟨#[]⟩), 1, 16) := by kernel_rfl
theorem infoLs : (Tryz.prog.info? 55).map (fun i => (i.zero, i.size, i.bytes)) = some (some (.slice none 0 0), 1, 24) := by kernel_rfl

def cellsP : List Pc → List Value
  | [] => []
  | p :: l => .string p.text :: .int .i64 p.field :: cellsP l
theorem cellsP_app : ∀ a b : List Pc, cellsP (a ++ b) = cellsP a ++ cellsP b
  | [], b => rfl
  | p :: a, b => by rw [List.cons_append, cellsP, cellsP_app a b, cellsP]; rfl
theorem cellsP_one : ∀ (l : List Pc) (u : Value), u ∈ cellsP l → u.oneCell' = true
  | [], u, h => by cases h
  | p :: l, u, h => by
    rw [cellsP] at h
    simp only [List.mem_cons] at h
    rcases h with rfl | rfl | h
    · rfl
    · rfl
    · exact cellsP_one l u h
def pcZ : Pc := ⟨⟨#[]⟩, 0⟩
def pcN (l : List Pc) (i : Nat) : Pc := l[i]?.getD pcZ
theorem pcN_some {l : List Pc} {i : Nat} (h : i < l.length) : l[i]? = some (pcN l i) := by unfold pcN; rw [List.getElem?_eq_getElem h]; rfl
theorem cellsP_at : ∀ (l : List Pc) (i : Nat), i < l.length → (cellsP l)[i * 2]? = some (.string (pcN l i).text) ∧ (cellsP l)[i * 2 + 1]? = some (.int .i64 (pcN l i).field)
  | [], i, h => by simp at h
  | p :: l, 0, _ => ⟨rfl, rfl⟩
  | p :: l, i + 1, h => by
    have q := cellsP_at l i (by simpa using h)
    have e : pcN (p :: l) (i + 1) = pcN l i := by simp [pcN]
    rw [cellsP, e, show (i + 1) * 2 = i * 2 + 1 + 1 by omega]
    simpa using q

theorem cellD_lt {w : World} {a : Addr} {v : Value} (hc : w.cell? a = some v) : a.block < w.heap.size := by
  rcases Nat.lt_or_ge a.block w.heap.size with h' | h'
  · exact h'
  · simp [World.cell?, Array.getElem?_eq_none h'] at hc
theorem cellD_on {w w' : World} {a b : Nat} {v : Value} (hb : Below w.heap.size w w') (hc : w.cell? ⟨a, b, none⟩ = some v) : w'.cell? ⟨a, b, none⟩ = some v := (hb.cell (cellD_lt hc)).trans hc
theorem ownD_below {w w' : World} {B n k : Nat} {e : TypeId} {v : Value} {xs : List Value} (h : w.ownsRow B e k v n xs) (hb : Below w.heap.size w w') : w'.ownsRow B e k v n xs :=
  World.ownsRow.kept h (row := none) ⟨hb.os, hb.tape, hb.output, hb.size, fun k hk _ => hb.block k hk⟩ (by cases v.ownBlock <;> simp)
theorem ownD_set {w : World} {B D i n k : Nat} {e : TypeId} {v u : Value} {xs : List Value} (h : w.ownsRow B e k v n xs) (hD : D < B) : (w.setCell ⟨D, i, none⟩ u).ownsRow B e k v n xs := ownsRow_setCell_below h (a := ⟨D, i, none⟩) hD u
theorem ownD_slice {w : World} {B n k : Nat} {e : TypeId} {v : Value} {xs : List Value} (h : w.ownsRow B e k v n xs) : ∃ ao cap, v = .slice ao n cap := by
  rcases h.2 with ⟨hv, hn⟩ | ⟨g, cap, cur, hv, _⟩
  · exact ⟨none, 0, by rw [hv, hn]⟩
  · exact ⟨_, cap, hv⟩
theorem ownD_some {w : World} {B n k : Nat} {e : TypeId} {v : Value} {xs : List Value} (h : w.ownsRow B e k v n xs) (hn : n ≠ 0) : ∃ g cap, v = .slice (some ⟨g, 0, none⟩) n cap ∧ B ≤ g ∧ g < w.heap.size ∧ n ≤ cap := by
  rcases h.2 with ⟨_, q⟩ | ⟨g, cap, cur, hv, hb, hg, hc, _⟩
  · exact absurd q hn
  · exact ⟨g, cap, hv, hb, (Array.getElem?_eq_some_iff.1 hg).1, hc⟩

def OthD (D : Nat) (r : Option Nat) (w w' : World) : Prop := w.heap.size ≤ w'.heap.size ∧ ∀ b, b < w.heap.size → b ≠ D → some b ≠ r → w'.heap[b]? = w.heap[b]?
theorem OthD.refl (D : Nat) (r : Option Nat) (w : World) : OthD D r w w := ⟨Nat.le_refl _, fun _ _ _ _ => rfl⟩
theorem OthD.below {D : Nat} {r : Option Nat} {w w' w'' : World} (h : OthD D r w w') (hb : Below w'.heap.size w' w'') : OthD D r w w'' :=
  ⟨Nat.le_trans h.1 hb.size, fun b h1 h2 h3 => (hb.block b (Nat.lt_of_lt_of_le h1 h.1)).trans (h.2 b h1 h2 h3)⟩
theorem OthD.set {D : Nat} {r : Option Nat} {w w' : World} (h : OthD D r w w') (c i : Nat) (v : Value) (hc : c = D ∨ w.heap.size ≤ c ∨ r = some c) : OthD D r w (w'.setCell ⟨c, i, none⟩ v) := by
  refine ⟨by rw [show (w'.setCell ⟨c, i, none⟩ v).heap.size = w'.heap.size by simp [World.setCell]]; exact h.1, fun b h1 h2 h3 => ?_⟩
  have hne : c ≠ b := by
    rintro rfl
    rcases hc with q | q | q
    · exact h2 q
    · omega
    · exact h3 q.symm
  rw [← h.2 b h1 h2 h3]
  simp [World.setCell, Array.getElem?_modify, hne]
theorem OthD.alloc {D : Nat} {r : Option Nat} {w w' : World} (h : OthD D r w w') (o : Obj) : OthD D r w (w'.alloc o) := h.below ((Below.refl _ _).alloc (Nat.le_refl _) _)
theorem OthD.grown {D : Nat} {r : Option Nat} {w w' w'' : World} (h : OthD D r w w') (hg : w'.grownBy w'' r) : OthD D r w w'' :=
  ⟨Nat.le_trans h.1 hg.size, fun b h1 h2 h3 => (hg.block b (Nat.lt_of_lt_of_le h1 h.1) h3).trans (h.2 b h1 h2 h3)⟩

theorem tlD_ne {s : ByteArray} (h : s.size ≠ 0) : ¬ s.toList = [] := fun e => h (by rw [sl] at e; rw [← bys_len, e]; rfl)
theorem tlD_ie {s : ByteArray} (h : s.size ≠ 0) : s.toList.isEmpty = false := by
  cases hh : s.toList with
  | nil => exact absurd hh (tlD_ne h)
  | cons a l => rfl
theorem tlD_nb {s : ByteArray} (h : s.size ≠ 0) : (s.toList == []) = false := by
  cases hh : s.toList with
  | nil => exact absurd hh (tlD_ne h)
  | cons a l => rfl
theorem emptyD {s : ByteArray} (h : s.size = 0) : s = ⟨#[]⟩ := by
  have e : bys s = [] := List.eq_nil_of_length_eq_zero (by rw [bys_len]; exact h)
  rw [← mkP_bys s, e]; rfl
theorem Blk.set0of1 {w : World} {b : Nat} {x0 : Value} {t : TypeId} (h : Blk w b #[x0] t) (v : Value) : Blk (w.setCell ⟨b, 0, none⟩ v) b #[v] t := by
  unfold Blk at *
  simp only [World.setCell, Array.getElem?_modify, if_true, h, Option.map_some]
  rfl

def RowV (w : World) (D : Nat) (v : Value) (ps : List Pc) : Prop := Blk w D #[v] 47 ∧ w.ownsRow (D + 1) 36 2 v ps.length (cellsP ps)
theorem RowV.below {w w' : World} {D : Nat} {v : Value} {ps : List Pc} (h : RowV w D v ps) (hb : Below w.heap.size w w') : RowV w' D v ps := ⟨h.1.below hb h.1.lt, ownD_below h.2 hb⟩
theorem wpP_append {w : World} {ops : Array Oper} {rest : List Oper} {o : Oper} {a : Act} {Q : Exit → Act → World → Prop} (hgd : o.guard = none) (s x : Operand) (T : TypeId)
    (ho : o.op = .call { callee := .builtin .append, args := #[s, x], argTypes := #[T, T] }) (hT : Tryz.prog.underlying T = some (.slice 36))
    (base : Nat) (v : Value) (n : Nat) (xs : List Value) (hs : a.eval s = v) (hown : w.ownsRow base 36 2 v n xs)
    (g : Nat) (t : ByteArray) (f : Int) (hx : a.eval x = .slice (some ⟨g, 0, none⟩) 1 1) (hsrc : Blk w g #[.string t, .int .i64 f] 36) (XS : List Value) (hX : xs ++ [.string t, .int .i64 f] = XS) (hb : (n + 1) * 24 ≤ 140737488355328) (hbase : base ≤ w.heap.size)
    (h : ∀ uo uc w', w'.ownsRow base 36 2 (.slice uo (n + 1) uc) (n + 1) XS → w.grownBy w' v.ownBlock → wpList Tryz.prog ops Q rest (a.put o.dst (.slice uo (n + 1) uc)) w') : wpList Tryz.prog ops Q (o :: rest) a w := by
  obtain ⟨i0, hi, hz0, hz1, hz2⟩ := info_parts infoPc
  subst hX
  refine wpList_append_own w hgd s x _ ho base _ i0 (.agg #[.string ⟨#[]⟩, .int .i64 0]) 2 24 hT hi hz0 hz1 hz2 rfl (by decide) v n xs hs hown ⟨g, 0, none⟩ 1 1 [.string t, .int .i64 f] hx rfl (fun j u hj => ?_) (fun u hu => ?_) (by unfold maxLen; omega) hb hbase (fun v' w' h3 h4 _ => ?_)
  · rw [Addr.add_lit, Nat.zero_add, hsrc.cell j]
    simpa using hj
  · simp only [List.mem_cons, List.not_mem_nil, or_false] at hu
    rcases hu with rfl | rfl <;> rfl
  · obtain ⟨uo, uc, rfl⟩ := ownD_slice h3
    exact h uo uc w' h3 h4

set_option maxRecDepth 100000 in
set_option maxHeartbeats 4000000 in
theorem put_more {w : World} {D : Nat} {v : Value} (ps : List Pc) (t : ByteArray) (f : Int) (h : RowV w D v ps) (hp : ps.length ≤ 1000000) (ht : t.size ≠ 0) :
    Calls Tryz.prog 12 #[.pointer (some ⟨D, 0, none⟩), .string t, .int .i64 f] w fun e w' => e = .returned (.tuple #[]) ∧ (∃ v', RowV w' D v' (ps ++ [⟨t, f⟩])) ∧ Below D w w' ∧ OthD D v.ownBlock w w' := by
  obtain ⟨h1, h2⟩ := h
  have hDw := h1.lt
  obtain ⟨ao, cap, rfl⟩ := ownD_slice h2
  obtain ⟨n, hn⟩ : ∃ n, n = ps.length := ⟨_, rfl⟩
  obtain ⟨xs, hxs⟩ : ∃ xs, xs = cellsP ps := ⟨_, rfl⟩
  rw [← hn] at hp h1 h2 ⊢
  rw [← hxs] at h2
  have i1 := tlD_ne ht
  have i2 := tlD_ie ht
  have i3 := tlD_nb ht
  have n1 : ¬ w.heap.size = D := by omega
  have n2 : ¬ D = w.heap.size := by omega
  have c0 := h1.cell 0
  have f0 := h1.free 0
  have BA : Hid (Below w.heap.size w (w.alloc (.cells #[.string t, .int .i64 f] 36))) := hide ((Below.refl _ _).alloc (Nat.le_refl _) _)
  have M1a := hide (h1.alloc (.cells #[.string t, .int .i64 f] 36))
  have OW : Hid ((w.alloc (.cells #[.string t, .int .i64 f] 36)).ownsRow (D + 1) 36 2 (.slice ao n cap) n xs) := hide (ownD_below h2 BA.out)
  have TB : Hid (Blk (w.alloc (.cells #[.string t, .int .i64 f] 36)) w.heap.size #[.string t, .int .i64 f] 36) := hide (Blk.newAt w w.heap.size rfl _ _)
  have BASE : Hid (D + 1 ≤ (w.alloc (.cells #[.string t, .int .i64 f] 36)).heap.size) := hide (by have := BA.out.size; omega)
  have GK : Hid (∀ w4, (w.alloc (.cells #[.string t, .int .i64 f] 36)).grownBy w4 (Value.slice ao n cap).ownBlock → Blk w4 D #[.slice ao n cap] 47) := hide (fun w4 hg => by
    have q := M1a.out
    unfold Blk at *
    rw [hg.block D (Nat.lt_of_succ_le BASE.out) (fun e => by have := (World.ownsRow.lt h2 _ e.symm).1; omega)]
    exact q)
  have FR : Hid (∀ w4, (w.alloc (.cells #[.string t, .int .i64 f] 36)).grownBy w4 (Value.slice ao n cap).ownBlock → Below D w w4) := hide (fun w4 hg => ((BA.out.mono (Nat.le_of_lt hDw))).grown hg (Nat.le_of_succ_le BASE.out) (fun q hq => Nat.le_of_lt (World.ownsRow.lt OW.out q hq).1))
  have OR : Hid (∀ w4, (w.alloc (.cells #[.string t, .int .i64 f] 36)).grownBy w4 (Value.slice ao n cap).ownBlock → OthD D (Value.slice ao n cap).ownBlock w w4) := hide (fun w4 hg => ((OthD.refl _ _ w).alloc _).grown hg)
  have G4 : Hid (n + 1 = (ps ++ [(⟨t, f⟩ : Pc)]).length) := hide (by rw [hn]; simp)
  have G5 : Hid (xs ++ [.string t, .int .i64 f] = cellsP (ps ++ [(⟨t, f⟩ : Pc)])) := hide (by rw [hxs, cellsP_app]; rfl)
  clear h1 h2 M1a BA hn hxs ht
  go_enter Tryz.func12, Tryz.ntmps12
  go_wp2_with (at_builtin; refine wpP_append rfl _ _ _ rfl Tryz.underlying47 (D + 1) (.slice ao n cap) n xs rfl OW.out w.heap.size t f rfl TB.out _ G5.out (by omega) BASE.out ?_; intro uo uc w4 hown hgr; have z0 := (GK.out w4 hgr).cell 0; have z2 := (GK.out w4 hgr).free 0)
  have BL := FR.out w4 hgr
  have OL := OR.out w4 hgr
  have BK := (GK.out w4 hgr).set0of1 (.slice uo (n + 1) uc)
  have OK := ownD_set (i := 0) (u := .slice uo (n + 1) uc) hown (Nat.lt_succ_self D)
  clear hgr z0 z2
  go_end0
  exact ⟨rfl, ⟨_, BK, by rw [← G4.out]; exact OK⟩, BL.setCell (p := ⟨D, 0, none⟩) (Nat.le_refl _) _, OL.set D 0 _ (.inl rfl)⟩

set_option maxHeartbeats 1000000 in
theorem put_none (a : Value) (f : Int) (w : World) : Calls Tryz.prog 12 #[a, .string ⟨#[]⟩, .int .i64 f] w fun e w' => e = .returned (.tuple #[]) ∧ w' = w := by
  go_enter Tryz.func12, Tryz.ntmps12
  go_wp2
  go_end0
  exact ⟨rfl, rfl⟩

theorem put_any {w : World} {D : Nat} {v : Value} (ps : List Pc) (t : ByteArray) (f : Int) (h : RowV w D v ps) (hp : ps.length ≤ 1000000) :
    Calls Tryz.prog 12 #[.pointer (some ⟨D, 0, none⟩), .string t, .int .i64 f] w fun e w' => e = .returned (.tuple #[]) ∧ (∃ v', RowV w' D v' (ps ++ oneP t f)) ∧ Below D w w' ∧ OthD D v.ownBlock w w' := by
  unfold oneP
  by_cases ht : t.size = 0
  · rw [if_pos ht, List.append_nil, emptyD ht]
    refine (put_none _ f w).mono ?_
    rintro e w' ⟨h1, rfl⟩
    exact ⟨h1, ⟨v, h⟩, Below.refl _ _, OthD.refl _ _ _⟩
  · rw [if_neg ht]
    exact put_more ps t f h hp ht

end Go.Proofs.YtbfegnbaleclfaaGreatDoor

namespace Go.Proofs.YtbfegnbaleclfaaGreatDoor
open Go.RowKit

def symC (s : Sy) : Array Value := #[.string s.d0, .string s.d1, .string s.d2, .string s.d3, .string s.d4, .string s.d5, .string s.d6, .string s.d7, .string s.d8, .string s.d9, .string s.dec, .string s.grp, .string s.min, .string s.plu, .string s.pct, .string s.pml, .string s.exp, .string s.inf, .string s.nan, .string s.app, .string s.rng]
def symV (s : Sy) : Value := .agg (symC s)
theorem symC_dig (s : Sy) (q : Nat) (h : q < 10) : (symC s)[q]? = some (.string (s.dig q)) := by
  have : q = 0 ∨ q = 1 ∨ q = 2 ∨ q = 3 ∨ q = 4 ∨ q = 5 ∨ q = 6 ∨ q = 7 ∨ q = 8 ∨ q = 9 := by omega
  rcases this with rfl | rfl | rfl | rfl | rfl | rfl | rfl | rfl | rfl | rfl <;> rfl
def cellsD (s : Sy) (ds : List UInt8) : List Value := ds.map fun c => .string (digT s c)
theorem wpD_append {w : World} {ops : Array Oper} {rest : List Oper} {o : Oper} {a : Act} {Q : Exit → Act → World → Prop} (hgd : o.guard = none) (s x : Operand)
    (ho : o.op = .call { callee := .builtin .append, args := #[s, x], argTypes := #[55, 55] })
    (base : Nat) (v : Value) (n : Nat) (xs : List Value) (hs : a.eval s = v) (hown : w.ownsRow base 9 1 v n xs)
    (g : Nat) (r : ByteArray) (hx : a.eval x = .slice (some ⟨g, 0, none⟩) 1 1) (hsrc : Blk w g #[.string r] 9) (XS : List Value) (hX : xs ++ [.string r] = XS) (hb : (n + 1) * 16 ≤ 140737488355328) (hbase : base ≤ w.heap.size)
    (h : ∀ uo uc w', w'.ownsRow base 9 1 (.slice uo (n + 1) uc) (n + 1) XS → w.grownBy w' v.ownBlock → wpList Tryz.prog ops Q rest (a.put o.dst (.slice uo (n + 1) uc)) w') : wpList Tryz.prog ops Q (o :: rest) a w := by
  obtain ⟨i0, hi, hz0, hz1, hz2⟩ := info_parts infoSt
  subst hX
  refine wpList_append_own w hgd s x _ ho base _ i0 (.string ⟨#[]⟩) 1 16 Tryz.underlying55 hi hz0 hz1 hz2 rfl (by decide) v n xs hs hown ⟨g, 0, none⟩ 1 1 [.string r] hx rfl (fun j u hj => ?_) (fun u hu => ?_) (by unfold maxLen; omega) hb hbase (fun v' w' h3 h4 _ => ?_)
  · rw [Addr.add_lit, Nat.zero_add, hsrc.cell j]
    simpa using hj
  · rw [List.mem_singleton.1 hu]; rfl
  · obtain ⟨uo, uc, rfl⟩ := ownD_slice h3
    exact h uo uc w' h3 h4

def ItAt (w : World) (I : Nat) (t : ByteArray) (k : Nat) : Prop := w.heap[I]? = some (.stringIter t k)
theorem ItAt.lt {w : World} {I k : Nat} {t : ByteArray} (h : ItAt w I t k) : I < w.heap.size := (Array.getElem?_eq_some_iff.1 h).1
theorem ItAt.below {w w' : World} {I k : Nat} {t : ByteArray} (h : ItAt w I t k) (hb : Below w.heap.size w w') : ItAt w' I t k := by
  unfold ItAt at *
  rw [hb.block I (ItAt.lt h)]; exact h
theorem ItAt.grown {w w' : World} {I k B n m : Nat} {e : TypeId} {v : Value} {xs : List Value} {t : ByteArray} (h : ItAt w I t k) (ho : w.ownsRow B e m v n xs) (hg : w.grownBy w' v.ownBlock) : ItAt w' I t k := by
  have hlt := ItAt.lt h
  unfold ItAt at *
  rw [hg.block I hlt (fun q => by
    rcases ho.2 with ⟨hv, _⟩ | ⟨g, cap, cur, hv, hb, hgg, _⟩
    · rw [hv] at q; simp [Value.ownBlock] at q
    · rw [hv] at q
      simp only [Value.ownBlock, Option.some.injEq] at q
      subst q
      rw [h] at hgg
      simp at hgg)]
  exact h
theorem ItAt.pos {w : World} {I k : Nat} {t : ByteArray} (h : ItAt w I t k) : w.iterPos I = k := by
  unfold ItAt at h
  unfold World.iterPos
  rw [h]
theorem ItAt.step {w : World} {I k j : Nat} {t : ByteArray} (h : ItAt w I t k) : ItAt (w.iterAt I t j) I t j := Lib.iterAt_heap w I t k j h
theorem iterAt_blk {w : World} {b I j : Nat} {t : ByteArray} {cs : Array Value} {T : TypeId} (h : Blk w b cs T) (hn : b ≠ I) : Blk (w.iterAt I t j) b cs T := by
  unfold Blk at *
  rw [Lib.iterAt_other w I b t j hn]; exact h
theorem ItAt.apart {w : World} {B n m I k : Nat} {e : TypeId} {v : Value} {xs : List Value} {t : ByteArray} (hi : ItAt w I t k) (h : w.ownsRow B e m v n xs) : v.ownBlock ≠ some I := by
  intro q
  rcases h.2 with ⟨hv, _⟩ | ⟨g, cap, cur, hv, hb, hgg, _⟩
  · rw [hv] at q; simp [Value.ownBlock] at q
  · rw [hv] at q
    simp only [Value.ownBlock, Option.some.injEq] at q
    subst q
    unfold ItAt at hi
    rw [hi] at hgg
    simp at hgg
theorem iterAt_own {w : World} {B n m I k j : Nat} {e : TypeId} {v : Value} {xs : List Value} {t : ByteArray} (hi : ItAt w I t k) (h : w.ownsRow B e m v n xs) : (w.iterAt I t j).ownsRow B e m v n xs :=
  World.ownsRow.kept h (row := some I) ⟨rfl, rfl, rfl, by rw [Lib.iterAt_size]; exact Nat.le_refl _, fun b _ hb => Lib.iterAt_other w I b t j (fun e => hb (by rw [e]))⟩ (.inr (ItAt.apart hi h))
theorem Blk.grownD {w w' : World} {b B n m : Nat} {cs : Array Value} {T e : TypeId} {v : Value} {xs : List Value} (h : Blk w b cs T) (ho : w.ownsRow B e m v n xs) (hb : b < B) (hg : w.grownBy w' v.ownBlock) : Blk w' b cs T := by
  have hlt := h.lt
  unfold Blk at *
  rw [hg.block b hlt (fun q => by have := (World.ownsRow.lt ho b q.symm).1; omega)]
  exact h
theorem ownD_mono {w : World} {B B' n k : Nat} {e : TypeId} {v : Value} {xs : List Value} (h : w.ownsRow B e k v n xs) (hB : B' ≤ B) : w.ownsRow B' e k v n xs := by
  refine ⟨h.1, ?_⟩
  rcases h.2 with q | ⟨g, cap, cur, hv, hb, rest⟩
  · exact .inl q
  · exact .inr ⟨g, cap, cur, hv, Nat.le_trans hB hb, rest⟩

theorem digB_at {l : List UInt8} (h : DigB l) (k : Nat) (hk : k < l.length) : ∃ q, q < 10 ∧ byt l k = 48 + q ∧ ∃ c, l[k]? = some c ∧ c.toNat = 48 + q := by
  obtain ⟨h1, h2⟩ := h k hk
  refine ⟨byt l k - 48, by omega, by omega, l[k], List.getElem?_eq_getElem hk, ?_⟩
  have : byt l k = l[k].toNat := by unfold byt; rw [List.getElem?_eq_getElem hk]; rfl
  omega

set_option maxRecDepth 100000 in
set_option maxHeartbeats 4000000 in
theorem written_any (ds : ByteArray) (s : Sy) (w : World) (hd : DigB (bys ds)) (hn : ds.size ≤ 100000) :
    Calls Tryz.prog 16 #[.string ds, symV s] w fun e w' => (∃ v, e = .returned v ∧ w'.ownsRow (w.heap.size + 1) 9 1 v ds.size (cellsD s (bys ds))) ∧ Below w.heap.size w w' := by
  have HD : Hid (∀ k, k < ds.size → ∃ q, q < 10 ∧ (∀ h : k < ds.size, ds[k].toNat = 48 + q) ∧ (bys ds)[k]? = some (UInt8.ofNat (48 + q)) ∧ digT s (UInt8.ofNat (48 + q)) = s.dig q) := hide (fun k hk => by
    obtain ⟨q, h1, h2, c, h3, h4⟩ := digB_at hd k (by rw [bys_len]; exact hk)
    have hc : c = UInt8.ofNat (48 + q) := by rw [← h4]; simp
    refine ⟨q, h1, fun h => by rw [byt_get ds k h, h2], by rw [h3, hc], ?_⟩
    unfold digT
    rw [← hc, h4]
    congr 1
    omega)
  clear hd
  obtain ⟨i0, hi, hz0, hz1, hz2⟩ := info_parts infoSt
  obtain ⟨W, hW⟩ : ∃ W, W = w.alloc (.cells (symC s) 26) := ⟨_, rfl⟩
  have BS0 : Blk W w.heap.size (symC s) 26 := by rw [hW]; exact Blk.newAt w w.heap.size rfl _ _
  have BW : Below w.heap.size w W ∧ W.heap.size = w.heap.size + 1 := by rw [hW]; exact ⟨(Below.refl _ _).alloc (Nat.le_refl _) _, by simp⟩
  obtain ⟨W2, hmk, hown, hgr⟩ := run_makeSlice_owned (P := Tryz.prog) W (w.heap.size + 1) 55 9 i0 (.string ⟨#[]⟩) 1 Tryz.underlying55 hi hz0 hz1 .i64 .i64 ds.size (by omega) (by rw [hz2]; omega) (by unfold maxLen; omega) (Nat.le_of_eq BW.2.symm)
  rw [BW.2] at hmk hown
  have B12 : Below W.heap.size W W2 := ⟨hgr.os, hgr.tape, hgr.output, hgr.size, fun k hk => hgr.block k hk (by simp)⟩
  have hIw : w.heap.size + 1 < W2.heap.size := by exact (World.ownsRow.lt hown _ rfl).2
  have BIt : Below W2.heap.size W2 (W2.iter ds 0) := (Below.refl _ _).alloc (Nat.le_refl _) _
  have B2 : Hid (Below w.heap.size w (W2.iter ds 0)) := hide (BW.1.trans ((B12.trans (BIt.mono B12.size)).mono BW.1.size))
  have S2 : Hid (Blk (W2.iter ds 0) w.heap.size (symC s) 26) := hide ((BS0.below B12 BS0.lt).below BIt (BS0.below B12 BS0.lt).lt)
  have O2 : Hid ((W2.iter ds 0).ownsRow (w.heap.size + 1) 9 1 (.slice (some ⟨w.heap.size + 1, 0, none⟩) 0 ds.size) 0 (cellsD s ((bys ds).take 0))) := hide (ownD_below hown BIt)
  have IT2 : Hid (ItAt (W2.iter ds 0) W2.heap.size ds 0) := hide (by unfold ItAt World.iter; exact heap_alloc_new _ _)
  unfold symC at hW
  have HW := hide hW.symm
  have HMK := hide hmk
  clear hW hmk BS0 BW hown hgr B12 BIt hi hz0 hz1 hz2
  unfold symV symC
  go_enter Tryz.func16, Tryz.ntmps16
  go_wp2_with (first | simp only [HW.out] | simp only [HMK.out])
  go_loopw [5] (fun x wr => ∃ (k : Nat) (uo : Option Addr) (uc : Nat), k ≤ ds.size ∧ x = .slice uo k uc ∧ Hid (ItAt wr W2.heap.size ds k) ∧ Hid (Blk wr w.heap.size (symC s) 26) ∧ Hid (wr.ownsRow (w.heap.size + 1) 9 1 (.slice uo k uc) k (cellsD s ((bys ds).take k))) ∧ Hid (Below w.heap.size w wr)) (fun _ wr => ds.size - wr.iterPos W2.heap.size)
  case atStart => exact ⟨0, _, _, Nat.zero_le _, rfl, IT2, S2, O2, B2⟩
  case round =>
    obtain ⟨k, uo, uc, hk, rfl, IT, S, OW, BB⟩ := hrel
    by_cases hlt : k < ds.size
    · obtain ⟨q, hq, hc, hcs, hdg⟩ := HD.out k hlt
      obtain ⟨x, hx⟩ : ∃ x, x = s.dig q := ⟨_, rfl⟩
      obtain ⟨wn, hwn⟩ : ∃ wn, wn = wr.iterAt W2.heap.size ds (k + 1) := ⟨_, rfl⟩
      have hnx : ∀ ty, (Instr.next (.pointer (some ⟨W2.heap.size, 0, none⟩)) true ty).run Tryz.prog wr = .ok (.tuple #[.bool true, .int .i64 (k : Int), .int .i32 ((48 + q : Nat) : Int)]) wn := fun ty => by
        have h := Lib.run_next_ascii_at (P := Tryz.prog) wr W2.heap.size ds k ty IT.out hlt (by rw [hc hlt]; omega)
        rw [hc hlt, ← hwn] at h
        exact h
      have ITn : Hid (ItAt wn W2.heap.size ds (k + 1)) := hide (by rw [hwn]; exact ItAt.step IT.out)
      have Sn : Hid (Blk wn w.heap.size (symC s) 26) := hide (by rw [hwn]; exact iterAt_blk S.out (by omega))
      have On : Hid (wn.ownsRow (w.heap.size + 1) 9 1 (.slice uo k uc) k (cellsD s ((bys ds).take k))) := hide (by rw [hwn]; exact iterAt_own IT.out OW.out)
      have Bn : Hid (Below w.heap.size w wn) := hide (by rw [hwn]; exact Lib.below_iterAt BB.out (by omega) ds (k + 1))
      have cq : wn.cell? ⟨w.heap.size, q, none⟩ = some (.string x) := by rw [Sn.out.cell q, symC_dig s q hq, hx]
      have q10 : (q : Int) < 10 := by omega
      have BA : Hid (Below wn.heap.size wn (wn.alloc (.cells #[.string x] 9))) := hide ((Below.refl _ _).alloc (Nat.le_refl _) _)
      have SR := hide (Blk.newAt wn wn.heap.size rfl #[.string x] 9)
      have OA := hide (ownD_below On.out BA.out)
      have EX : Hid (cellsD s ((bys ds).take k) ++ [.string x] = cellsD s ((bys ds).take (k + 1))) := hide (by
        rw [List.take_add_one, hcs]
        unfold cellsD
        rw [List.map_append, hx, ← hdg]
        rfl)
      have BS : Hid (w.heap.size + 1 ≤ (wn.alloc (.cells #[.string x] 9)).heap.size) := hide (by have := Bn.out.size; have := ITn.out.lt; have := BA.out.size; omega)
      have hkl : k ≤ 100000 := by omega
      have hwr : IntKind.i32.wrap (((48 + q : Nat) : Int) - 48) = (q : Int) := by rw [IntKind.wrap_i32]; omega
      have MS : Hid (wr.iterPos W2.heap.size = k) := hide IT.out.pos
      have HBA := hide (Bn.out.trans (BA.out.mono Bn.out.size))
      clear hx hwn HD hcs hdg hc IT S OW BB
      go_wp2_with (at_builtin; refine wpD_append rfl _ _ rfl (w.heap.size + 1) (.slice uo k uc) k (cellsD s ((bys ds).take k)) rfl OA.out wn.heap.size x rfl SR.out _ EX.out (by omega) BS.out ?_; intro uo2 uc2 w4 hown hgr)
      have IT4 := hide ((ITn.out.below BA.out).grown OA.out hgr)
      have S4 := hide ((Sn.out.below BA.out Sn.out.lt).grownD OA.out (Nat.lt_succ_self _) hgr)
      have B4 := hide (HBA.out.grown hgr HBA.out.size (fun q hq => Nat.le_of_succ_le (World.ownsRow.lt OA.out q hq).1))
      have O4 := hide hown
      exact ⟨⟨k + 1, uo2, uc2, by omega, rfl, IT4, S4, O4, B4⟩, by rw [MS.out, IT4.out.pos]; omega⟩
    · have hk0 : ¬ k < ds.size := by omega
      have hnx : ∀ ty, (Instr.next (.pointer (some ⟨W2.heap.size, 0, none⟩)) true ty).run Tryz.prog wr = _ := fun ty => Lib.run_next_end_at wr W2.heap.size ds k ty IT.out hk0
      obtain rfl : k = ds.size := by omega
      have OE : Hid (wr.ownsRow (w.heap.size + 1) 9 1 (.slice uo ds.size uc) ds.size (cellsD s (bys ds))) := hide (by
        have q := OW.out
        rw [List.take_of_length_le (by rw [bys_len]; exact Nat.le_refl _)] at q
        exact q)
      clear HD hlt hk OW
      go_wp2
      go_ret
      exact ⟨⟨_, rfl, OE.out⟩, BB.out⟩

end Go.Proofs.YtbfegnbaleclfaaGreatDoor

namespace Go.Proofs.YtbfegnbaleclfaaGreatDoor
open Go.ChangeShapes Go.WideShapes Go.ChangeAt Go.RowKit

theorem Tryz.cellsSy : Tryz.prog.cellsOf 26 = 21 := by kernel_rfl
theorem Tryz.cellsA10 : Tryz.prog.cellsOf 24 = 10 := by kernel_rfl

theorem array21 {α : Type} {cs : Array α} (h : cs.size = 21) : ∃ c0 c1 c2 c3 c4 c5 c6 c7 c8 c9 c10 c11 c12 c13 c14 c15 c16 c17 c18 c19 c20, cs = #[c0, c1, c2, c3, c4, c5, c6, c7, c8, c9, c10, c11, c12, c13, c14, c15, c16, c17, c18, c19, c20] := by
  rcases cs with ⟨l⟩
  match l, h with
  | [c0, c1, c2, c3, c4, c5, c6, c7, c8, c9, c10, c11, c12, c13, c14, c15, c16, c17, c18, c19, c20], _ => exact ⟨c0, c1, c2, c3, c4, c5, c6, c7, c8, c9, c10, c11, c12, c13, c14, c15, c16, c17, c18, c19, c20, rfl⟩
theorem list12 {α : Type} {l : List α} (h : l.length = 12) : ∃ y0 y1 y2 y3 y4 y5 y6 y7 y8 y9 y10 y11, l = [y0, y1, y2, y3, y4, y5, y6, y7, y8, y9, y10, y11] := by
  match l, h with
  | [y0, y1, y2, y3, y4, y5, y6, y7, y8, y9, y10, y11], _ => exact ⟨y0, y1, y2, y3, y4, y5, y6, y7, y8, y9, y10, y11, rfl⟩
theorem list10 {α : Type} {l : List α} (h : l.length = 10) : ∃ z0 z1 z2 z3 z4 z5 z6 z7 z8 z9, l = [z0, z1, z2, z3, z4, z5, z6, z7, z8, z9] := by
  match l, h with
  | [z0, z1, z2, z3, z4, z5, z6, z7, z8, z9], _ => exact ⟨z0, z1, z2, z3, z4, z5, z6, z7, z8, z9, rfl⟩

set_option maxRecDepth 100000 in
set_option maxHeartbeats 2000000 in
theorem symTrod {H : Type} {enc : TypeId × Value → H} {W : World} {n : Nat} {c0 c1 c2 c3 c4 c5 c6 c7 c8 c9 c10 c11 c12 c13 c14 c15 c16 c17 c18 c19 c20 : Value} {y : DataW H × List MemPlace} (hf : DataW.trod enc Tryz.prog W 0 (fun _ => true) true n 26 [c0, c1, c2, c3, c4, c5, c6, c7, c8, c9, c10, c11, c12, c13, c14, c15, c16, c17, c18, c19, c20] = some y) :
    ∃ s : Sy, #[c0, c1, c2, c3, c4, c5, c6, c7, c8, c9, c10, c11, c12, c13, c14, c15, c16, c17, c18, c19, c20] = symC s ∧ ∀ q, (s.dig q).size ≤ Rows.uptoBulk y.1 := by
  obtain ⟨xs, n, _, hx, _, hl, hg⟩ := DataW.trod_struct Tryz.underlying26 hf
  obtain ⟨y0, y1, y2, y3, y4, y5, y6, y7, y8, y9, y10, y11, rfl⟩ := list12 (l := xs) (by simpa using hl)
  have hd : y.1 = .agg [y0.1, y1.1, y2.1, y3.1, y4.1, y5.1, y6.1, y7.1, y8.1, y9.1, y10.1, y11.1] := by simpa using congrArg Prod.fst hx
  have k0 : DataW.trod enc Tryz.prog W 0 (fun _ => true) true n 24 [c0, c1, c2, c3, c4, c5, c6, c7, c8, c9] = some y0 := by simpa [Value.cells, Tryz.cellsA10] using hg 0 _ rfl
  obtain ⟨zs, m, _, hz, _, hlz, hgz⟩ := DataW.trod_array Tryz.underlying24 k0
  obtain ⟨z0, z1, z2, z3, z4, z5, z6, z7, z8, z9, rfl⟩ := list10 (l := zs) (by simpa using hlz)
  have hd0 : y0.1 = .agg [z0.1, z1.1, z2.1, z3.1, z4.1, z5.1, z6.1, z7.1, z8.1, z9.1] := by simpa using congrArg Prod.fst hz
  have r0 : DataW.trod enc Tryz.prog W 0 (fun _ => true) true m 9 [c0] = some z0 := by simpa [Tryz.cellsSt] using hgz 0 (by decide)
  obtain ⟨a0, e0, g0⟩ := DataW.trod_string Tryz.underlying9 r0
  have r1 : DataW.trod enc Tryz.prog W 0 (fun _ => true) true m 9 [c1] = some z1 := by simpa [Tryz.cellsSt] using hgz 1 (by decide)
  obtain ⟨a1, e1, g1⟩ := DataW.trod_string Tryz.underlying9 r1
  have r2 : DataW.trod enc Tryz.prog W 0 (fun _ => true) true m 9 [c2] = some z2 := by simpa [Tryz.cellsSt] using hgz 2 (by decide)
  obtain ⟨a2, e2, g2⟩ := DataW.trod_string Tryz.underlying9 r2
  have r3 : DataW.trod enc Tryz.prog W 0 (fun _ => true) true m 9 [c3] = some z3 := by simpa [Tryz.cellsSt] using hgz 3 (by decide)
  obtain ⟨a3, e3, g3⟩ := DataW.trod_string Tryz.underlying9 r3
  have r4 : DataW.trod enc Tryz.prog W 0 (fun _ => true) true m 9 [c4] = some z4 := by simpa [Tryz.cellsSt] using hgz 4 (by decide)
  obtain ⟨a4, e4, g4⟩ := DataW.trod_string Tryz.underlying9 r4
  have r5 : DataW.trod enc Tryz.prog W 0 (fun _ => true) true m 9 [c5] = some z5 := by simpa [Tryz.cellsSt] using hgz 5 (by decide)
  obtain ⟨a5, e5, g5⟩ := DataW.trod_string Tryz.underlying9 r5
  have r6 : DataW.trod enc Tryz.prog W 0 (fun _ => true) true m 9 [c6] = some z6 := by simpa [Tryz.cellsSt] using hgz 6 (by decide)
  obtain ⟨a6, e6, g6⟩ := DataW.trod_string Tryz.underlying9 r6
  have r7 : DataW.trod enc Tryz.prog W 0 (fun _ => true) true m 9 [c7] = some z7 := by simpa [Tryz.cellsSt] using hgz 7 (by decide)
  obtain ⟨a7, e7, g7⟩ := DataW.trod_string Tryz.underlying9 r7
  have r8 : DataW.trod enc Tryz.prog W 0 (fun _ => true) true m 9 [c8] = some z8 := by simpa [Tryz.cellsSt] using hgz 8 (by decide)
  obtain ⟨a8, e8, g8⟩ := DataW.trod_string Tryz.underlying9 r8
  have r9 : DataW.trod enc Tryz.prog W 0 (fun _ => true) true m 9 [c9] = some z9 := by simpa [Tryz.cellsSt] using hgz 9 (by decide)
  obtain ⟨a9, e9, g9⟩ := DataW.trod_string Tryz.underlying9 r9
  have k1 : DataW.trod enc Tryz.prog W 0 (fun _ => true) true n 9 [c10] = some y1 := by simpa [Value.cells, Tryz.cellsSt] using hg 1 _ rfl
  obtain ⟨a10, e10, _⟩ := DataW.trod_string Tryz.underlying9 k1
  have k2 : DataW.trod enc Tryz.prog W 0 (fun _ => true) true n 9 [c11] = some y2 := by simpa [Value.cells, Tryz.cellsSt] using hg 2 _ rfl
  obtain ⟨a11, e11, _⟩ := DataW.trod_string Tryz.underlying9 k2
  have k3 : DataW.trod enc Tryz.prog W 0 (fun _ => true) true n 9 [c12] = some y3 := by simpa [Value.cells, Tryz.cellsSt] using hg 3 _ rfl
  obtain ⟨a12, e12, _⟩ := DataW.trod_string Tryz.underlying9 k3
  have k4 : DataW.trod enc Tryz.prog W 0 (fun _ => true) true n 9 [c13] = some y4 := by simpa [Value.cells, Tryz.cellsSt] using hg 4 _ rfl
  obtain ⟨a13, e13, _⟩ := DataW.trod_string Tryz.underlying9 k4
  have k5 : DataW.trod enc Tryz.prog W 0 (fun _ => true) true n 9 [c14] = some y5 := by simpa [Value.cells, Tryz.cellsSt] using hg 5 _ rfl
  obtain ⟨a14, e14, _⟩ := DataW.trod_string Tryz.underlying9 k5
  have k6 : DataW.trod enc Tryz.prog W 0 (fun _ => true) true n 9 [c15] = some y6 := by simpa [Value.cells, Tryz.cellsSt] using hg 6 _ rfl
  obtain ⟨a15, e15, _⟩ := DataW.trod_string Tryz.underlying9 k6
  have k7 : DataW.trod enc Tryz.prog W 0 (fun _ => true) true n 9 [c16] = some y7 := by simpa [Value.cells, Tryz.cellsSt] using hg 7 _ rfl
  obtain ⟨a16, e16, _⟩ := DataW.trod_string Tryz.underlying9 k7
  have k8 : DataW.trod enc Tryz.prog W 0 (fun _ => true) true n 9 [c17] = some y8 := by simpa [Value.cells, Tryz.cellsSt] using hg 8 _ rfl
  obtain ⟨a17, e17, _⟩ := DataW.trod_string Tryz.underlying9 k8
  have k9 : DataW.trod enc Tryz.prog W 0 (fun _ => true) true n 9 [c18] = some y9 := by simpa [Value.cells, Tryz.cellsSt] using hg 9 _ rfl
  obtain ⟨a18, e18, _⟩ := DataW.trod_string Tryz.underlying9 k9
  have k10 : DataW.trod enc Tryz.prog W 0 (fun _ => true) true n 9 [c19] = some y10 := by simpa [Value.cells, Tryz.cellsSt] using hg 10 _ rfl
  obtain ⟨a19, e19, _⟩ := DataW.trod_string Tryz.underlying9 k10
  have k11 : DataW.trod enc Tryz.prog W 0 (fun _ => true) true n 9 [c20] = some y11 := by simpa [Value.cells, Tryz.cellsSt] using hg 11 _ rfl
  obtain ⟨a20, e20, _⟩ := DataW.trod_string Tryz.underlying9 k11
  simp at e0 e1 e2 e3 e4 e5 e6 e7 e8 e9 e10 e11 e12 e13 e14 e15 e16 e17 e18 e19 e20
  subst e0 e1 e2 e3 e4 e5 e6 e7 e8 e9 e10 e11 e12 e13 e14 e15 e16 e17 e18 e19 e20
  refine ⟨⟨a0, a1, a2, a3, a4, a5, a6, a7, a8, a9, a10, a11, a12, a13, a14, a15, a16, a17, a18, a19, a20⟩, rfl, fun q => ?_⟩
  have hb : Rows.uptoBulk y0.1 ≤ Rows.uptoBulk y.1 := by
    rw [hd]
    simp only [Rows.uptoBulk, Rows.uptoBulkAll]
    omega
  refine Nat.le_trans ?_ hb
  rw [hd0]
  simp only [Rows.uptoBulk, Rows.uptoBulkAll, g0, g1, g2, g3, g4, g5, g6, g7, g8, g9]
  have hq : q = 0 ∨ q = 1 ∨ q = 2 ∨ q = 3 ∨ q = 4 ∨ q = 5 ∨ q = 6 ∨ q = 7 ∨ q = 8 ∨ 9 ≤ q := by omega
  have l0 : a0.data.toList.length = a0.size := bys_len a0
  have l1 : a1.data.toList.length = a1.size := bys_len a1
  have l2 : a2.data.toList.length = a2.size := bys_len a2
  have l3 : a3.data.toList.length = a3.size := bys_len a3
  have l4 : a4.data.toList.length = a4.size := bys_len a4
  have l5 : a5.data.toList.length = a5.size := bys_len a5
  have l6 : a6.data.toList.length = a6.size := bys_len a6
  have l7 : a7.data.toList.length = a7.size := bys_len a7
  have l8 : a8.data.toList.length = a8.size := bys_len a8
  have l9 : a9.data.toList.length = a9.size := bys_len a9
  rcases hq with rfl | rfl | rfl | rfl | rfl | rfl | rfl | rfl | rfl | hq
  · show a0.size ≤ _
    omega
  · show a1.size ≤ _
    omega
  · show a2.size ≤ _
    omega
  · show a3.size ≤ _
    omega
  · show a4.size ≤ _
    omega
  · show a5.size ≤ _
    omega
  · show a6.size ≤ _
    omega
  · show a7.size ≤ _
    omega
  · show a8.size ≤ _
    omega
  · have e : Sy.dig ⟨a0, a1, a2, a3, a4, a5, a6, a7, a8, a9, a10, a11, a12, a13, a14, a15, a16, a17, a18, a19, a20⟩ q = a9 := by
      obtain ⟨k, rfl⟩ : ∃ k, q = k + 9 := ⟨q - 9, by omega⟩
      rfl
    rw [e]
    omega

set_option maxRecDepth 100000 in
theorem viewSy {H : Type} {enc : TypeId × Value → H} {W : World} {base : Nat} {v : Value} {d : DataW H} {p : List MemPlace} (hval : Value.okWide Tryz.prog W .any base 26 v) (h : DataW.Trod enc Tryz.prog W 0 (fun _ => true) true 26 v d p) :
    ∃ s : Sy, v = symV s ∧ ∀ q, (s.dig q).size ≤ Rows.uptoBulk d := by
  obtain ⟨cs, rfl, hsz⟩ := okWide_struct Tryz.underlying26 hval
  obtain ⟨c0, c1, c2, c3, c4, c5, c6, c7, c8, c9, c10, c11, c12, c13, c14, c15, c16, c17, c18, c19, c20, rfl⟩ := array21 (hsz.trans Tryz.cellsSy)
  obtain ⟨fuel, hf⟩ := h
  obtain ⟨s, h1, h2⟩ := symTrod hf
  exact ⟨s, by unfold symV; rw [← h1], h2⟩


theorem Tryz.cellsGr : Tryz.prog.cellsOf 28 = 4 := by kernel_rfl
def groupsV (a b c : Int) (al : Bool) : Value := .agg #[.int .i64 a, .int .i64 b, .int .i64 c, .bool al]
theorem wfN16 {z : Int} (h : (Lit.int .i64 z).wf = true) : -9223372036854775808 ≤ z ∧ z ≤ 9223372036854775807 := by
  have h2 : IntKind.i64.min ≤ z ∧ z ≤ IntKind.i64.max := by simpa [Lit.wf] using h
  rw [show IntKind.i64.min = -9223372036854775808 by decide, show IntKind.i64.max = 9223372036854775807 by decide] at h2
  exact h2

set_option maxRecDepth 100000 in
theorem viewGr {H : Type} {enc : TypeId × Value → H} {W : World} {base : Nat} {v : Value} {d : DataW H} {p : List MemPlace} (hval : Value.okWide Tryz.prog W .any base 28 v) (h : DataW.Trod enc Tryz.prog W 0 (fun _ => true) true 28 v d p) :
    ∃ (a b c : Int) (al : Bool), v = groupsV a b c al ∧ (a ≤ 9223372036854775807) ∧ (b ≤ 9223372036854775807) := by
  obtain ⟨v0, v1, v2, v3, y0, y1, y2, y3, n, rfl, _, _, h0, h1, h2, h3⟩ := Joins.open_agg4 Tryz.underlying28 (by kernel_rfl) Tryz.cellsGr hval h
  obtain ⟨a, e0, z0⟩ := DataW.trod_int Tryz.underlying3 h0
  obtain ⟨b, e1, z1⟩ := DataW.trod_int Tryz.underlying3 h1
  obtain ⟨c, e2, _⟩ := DataW.trod_int Tryz.underlying3 h2
  obtain ⟨al, e3, _⟩ := DataW.trod_bool Tryz.underlying4 h3
  simp at e0 e1 e2 e3
  subst e0 e1 e2 e3
  exact ⟨a, b, c, al, rfl, (wfN16 z0.2).2, (wfN16 z1.2).2⟩

set_option maxRecDepth 100000 in
theorem viewSh {H : Type} {enc : TypeId × Value → H} {W : World} {base : Nat} {v : Value} {d : DataW H} {p : List MemPlace} (hval : Value.okWide Tryz.prog W .any base 23 v) (h : DataW.Trod enc Tryz.prog W 0 (fun _ => true) true 23 v d p) :
    ∃ (c : Int) (n : Bool) (ti tf : ByteArray) (x : Int) (cm : Bool), v = .agg #[.int .i64 c, .bool n, .string ti, .string tf, .int .i64 x, .bool cm] ∧ ti.size ≤ Rows.uptoBulk d ∧ tf.size ≤ Rows.uptoBulk d := by
  obtain ⟨c, n, ti, tf, x, cm, rfl, rfl⟩ := viewH hval h
  have l1 : ti.data.toList.length = ti.size := bys_len ti
  have l2 : tf.data.toList.length = tf.size := bys_len tf
  refine ⟨c, n, ti, tf, x, cm, rfl, ?_, ?_⟩
  · simp only [Rows.uptoBulk, Rows.uptoBulkAll]; omega
  · simp only [Rows.uptoBulk, Rows.uptoBulkAll]; omega

theorem wrL_le (s : Sy) (N : Nat) (h : ∀ q, (s.dig q).size ≤ N) : ∀ ds : List UInt8, (wrL s ds).length ≤ ds.length * N
  | [] => by simp [wrL]
  | c :: ds => by
    have h1 := wrL_le s N h ds
    have h2 : (bys (digT s c)).length ≤ N := by rw [bys_len]; exact h _
    rw [wrL_cons, List.length_append, List.length_cons, Nat.add_mul]
    omega

end Go.Proofs.YtbfegnbaleclfaaGreatDoor

namespace Go.Proofs.YtbfegnbaleclfaaGreatDoor
open Go.ChangeShapes Go.WideShapes Go.ChangeAt Go.RowKit

set_option maxRecDepth 100000 in
set_option maxHeartbeats 2000000 in
theorem viewSyI {H : Type} {enc : TypeId × Value → H} {W : World} {s : Sy} {d : DataW H} {p : List MemPlace} (h : DataW.Trod enc Tryz.prog W 0 (fun _ => true) true 26 (symV s) d p) :
    s.inf.size ≤ Rows.uptoBulk d ∧ s.nan.size ≤ Rows.uptoBulk d := by
  obtain ⟨fuel, hf⟩ := h
  have hf' : DataW.trod enc Tryz.prog W 0 (fun _ => true) true fuel 26 [.string s.d0, .string s.d1, .string s.d2, .string s.d3, .string s.d4, .string s.d5, .string s.d6, .string s.d7, .string s.d8, .string s.d9, .string s.dec, .string s.grp, .string s.min, .string s.plu, .string s.pct, .string s.pml, .string s.exp, .string s.inf, .string s.nan, .string s.app, .string s.rng] = some (d, p) := hf
  obtain ⟨xs, n, _, hx, _, hl, hg⟩ := DataW.trod_struct Tryz.underlying26 hf'
  obtain ⟨y0, y1, y2, y3, y4, y5, y6, y7, y8, y9, y10, y11, rfl⟩ := list12 (l := xs) (by simpa using hl)
  have hd : d = .agg [y0.1, y1.1, y2.1, y3.1, y4.1, y5.1, y6.1, y7.1, y8.1, y9.1, y10.1, y11.1] := by simpa using congrArg Prod.fst hx
  have k8 : DataW.trod enc Tryz.prog W 0 (fun _ => true) true n 9 [.string s.inf] = some y8 := by simpa [Value.cells, Tryz.cellsSt, Tryz.cellsA10] using hg 8 _ rfl
  obtain ⟨a8, e8, g8⟩ := DataW.trod_string Tryz.underlying9 k8
  have k9 : DataW.trod enc Tryz.prog W 0 (fun _ => true) true n 9 [.string s.nan] = some y9 := by simpa [Value.cells, Tryz.cellsSt, Tryz.cellsA10] using hg 9 _ rfl
  obtain ⟨a9, e9, g9⟩ := DataW.trod_string Tryz.underlying9 k9
  simp at e8 e9
  subst e8 e9
  have l8 : s.inf.data.toList.length = s.inf.size := bys_len s.inf
  have l9 : s.nan.data.toList.length = s.nan.size := bys_len s.nan
  rw [hd]
  simp only [Rows.uptoBulk, Rows.uptoBulkAll, g8, g9]
  omega

end Go.Proofs.YtbfegnbaleclfaaGreatDoor
