/-
  A variable of several cells, in a block by itself.
  Decs as structs: what a function answers that hands back one, or one and an error.
  What whole.Pow5 and whole.Pow10 do.
  What shortest's binary64, binary32, split, amount and powerOfTwo do.
  nat's and whole's calls as package shortest makes them: over numbers, wherever their limbs lie.
-/
import Derived.Test.YtifpacgacbpalaaGreatDoorNorm
import Derived.Handy
import Derived.Test.YtifpacgacbpalaaGreatDoorZSM
import Derived.Test.YtifpacgacbpalaaGreatDoorZQ18
import Derived.Test.YtifpacgacbpalaaGreatDoorZMul
import Derived.Test.YtifpacgacbpalaaGreatDoorDown
import Derived.Laws.BitsLemmas
import Derived.Test.YtifpacgacbpalaaGreatDoorSub
import Derived.Test.YtifpacgacbpalaaGreatDoorUintF
import Derived.Test.YtifpacgacbpalaaGreatDoorZQ3
import Derived.Test.YtifpacgacbpalaaGreatDoorZQ16
namespace Go.Proofs.YtifpacgacbpalaaGreatDoor
open Go.RowKit

def Blk (w : World) (b : Nat) (cs : Array Value) (t : TypeId) : Prop := w.heap[b]? = some (.cells cs t (0, 0))

section
variable {w w' : World} {b : Nat} {cs : Array Value} {t : TypeId}

theorem Blk.cell (h : Blk w b cs t) (i : Nat) : w.cell? ⟨b, i, none⟩ = cs[i]? := by unfold Blk at h; simp [World.cell?, h]
theorem Blk.free (h : Blk w b cs t) (i : Nat) : w.frozen? ⟨b, i, none⟩ = false := by unfold Blk at h; simp [World.frozen?, h]
theorem Blk.new (w : World) (cs : Array Value) (t : TypeId) : Blk (w.alloc (.cells cs t)) w.heap.size cs t := heap_alloc_new _ _
theorem Blk.newAt (w : World) (n : Nat) (hn : w.heap.size = n) (cs : Array Value) (t : TypeId) : Blk (w.alloc (.cells cs t)) n cs t := by subst hn; exact Blk.new _ _ _
theorem Blk.lt (h : Blk w b cs t) : b < w.heap.size := lt_of_block h
theorem Blk.below (h : Blk w b cs t) {B : Nat} (hb : Below B w w') (hg : b < B) : Blk w' b cs t := by
  unfold Blk at *
  rw [hb.block b hg]; exact h
theorem Blk.alloc (h : Blk w b cs t) (o : Obj) : Blk (w.alloc o) b cs t := by
  have hlt := h.lt
  unfold Blk at *
  rw [Below.heap_alloc _ _ _ hlt]; exact h
theorem Blk.put4 {x0 x1 x2 x3 : Value} (h : Blk w b #[x0, x1, x2, x3] t) (y0 y1 y2 y3 : Value) : Blk ((((w.setCell ⟨b, 0, none⟩ y0).setCell ⟨b, 1, none⟩ y1).setCell ⟨b, 2, none⟩ y2).setCell ⟨b, 3, none⟩ y3) b #[y0, y1, y2, y3] t := by
  unfold Blk at *
  simp only [World.setCell, Array.getElem?_modify, if_true, h, Option.map_some]
  rfl
end

theorem Blk.other {w : World} {b : Nat} {t : TypeId} {cs : Array Value} (h : Blk w b cs t) {a : Addr} (ha : a.block ≠ b) (v : Value) : Blk (w.setCell a v) b cs t := by
  unfold Blk at *
  simp only [World.setCell, Array.getElem?_modify, if_neg ha, h]

end Go.Proofs.YtifpacgacbpalaaGreatDoor

namespace Go.Proofs.YtifpacgacbpalaaGreatDoor
open Go.RowKit

/-- A Dec, as a struct. -/
def decVal (d : DecT) : Value := .agg #[.int .i64 (d.cls : Int), .bool d.neg, .string ⟨d.dig.toArray⟩, .int .i64 d.exp]

theorem results_dec {fn : Func} {a : Tmp} (h : fn.results = #[.cell a 23]) (tmps : Array Value) (H : Nat) (x0 x1 x2 x3 : Value) (w : World) (ht : tmps.getD a undef = .pointer (some ⟨H, 0, none⟩)) (hp : Blk w H #[x0, x1, x2, x3] 23) :
    (results fn tmps).run Tryz.prog w = .ok (.agg #[x0, x1, x2, x3]) w := by
  have c0 := hp.cell 0
  have c1 := hp.cell 1
  have c2 := hp.cell 2
  have c3 := hp.cell 3
  simp at c0 c1 c2 c3
  rw [Array.getD_eq_getD_getElem?] at ht
  simp [results, h, ht, go_sem, c0, c1, c2, c3]

theorem below_put4 {w W : World} {H : Nat} (h : Below w.heap.size w W) (hH : w.heap.size ≤ H) (y0 y1 y2 y3 : Value) : Below w.heap.size w ((((W.setCell ⟨H, 0, none⟩ y0).setCell ⟨H, 1, none⟩ y1).setCell ⟨H, 2, none⟩ y2).setCell ⟨H, 3, none⟩ y3) :=
  (((h.setCell hH _).setCell hH _).setCell hH _).setCell hH _

theorem results_dec2 {fn : Func} {a c : Tmp} (h : fn.results = #[.cell a 23, .tmp c]) (tmps : Array Value) (H : Nat) (x0 x1 x2 x3 : Value) (w : World) (ht : tmps.getD a undef = .pointer (some ⟨H, 0, none⟩)) (hp : Blk w H #[x0, x1, x2, x3] 23) :
    (results fn tmps).run Tryz.prog w = .ok (.tuple #[.agg #[x0, x1, x2, x3], tmps.getD c undef]) w := by
  have c0 := hp.cell 0
  have c1 := hp.cell 1
  have c2 := hp.cell 2
  have c3 := hp.cell 3
  simp at c0 c1 c2 c3
  rw [Array.getD_eq_getD_getElem?] at ht
  simp [results, h, ht, go_sem, c0, c1, c2, c3]

theorem bdrewD (w : World) : Hid (Below w.heap.size w w.drew) := (Below.refl _ _).drew

end Go.Proofs.YtifpacgacbpalaaGreatDoor

namespace Go.Proofs.YtifpacgacbpalaaGreatDoor
open Go.RowKit

theorem i64_and1 (n : Int) : bits .and .i64 n 1 = n % 2 := by
  have h1 : (BitVec.ofInt 64 1).toNat = 2 ^ 1 - 1 := by decide
  have key : (BitVec.ofInt 64 n &&& BitVec.ofInt 64 1).toNat = (n % ((2 ^ 64 : Nat) : Int)).toNat % 2 ^ 1 := by
    rw [BitVec.toNat_and, BitVec.toNat_ofInt, h1, Nat.and_two_pow_sub_one_eq_mod]
  show IntKind.i64.wrap ((BitVec.ofInt 64 n &&& BitVec.ofInt 64 1).toNat : Nat) = n % 2
  rw [key, IntKind.wrap_i64]
  omega

theorem five_small : (5 : Nat) ^ 8192 < B64 ^ 400 := by decide +kernel

theorem five_len {r : List Nat} {e : Nat} (h : Is B64 r (5 ^ e)) (he : e ≤ 8192) : r.length ≤ 400 := by
  have h1 := Nat.pow_le_pow_right (show 0 < 5 by omega) he
  have h2 := five_small
  have h3 := trimmed_small (xs := r) (t := 400) (by rw [h.2.2]; omega)
  rw [trimmed_of_top h.2.1] at h3
  exact h3

/-- At the head of Pow5's loop, k bits of n being left. -/
structure PowInv (w : World) (n k : Nat) (v : Value) (wr : World) : Prop where
  bel : Below w.heap.size w wr
  own : ∃ r, Own .u64 76 wr w.heap.size 1000 v r ∧ Is B64 r (5 ^ (n / 2 ^ k))

theorem pow_bits (n k : Nat) : n / 2 ^ k = 2 * (n / 2 ^ (k + 1)) + n / 2 ^ k % 2 := by
  rw [Nat.pow_succ, ← Nat.div_div_eq_div_mul]; omega

end Go.Proofs.YtifpacgacbpalaaGreatDoor

namespace Go.Proofs.YtifpacgacbpalaaGreatDoor
open Go.RowKit

/-- The two widths. -/
abbrev w64 : Value := .agg #[.int .i64 52, .int .i64 11, .int .i64 (-1074)]
abbrev w32 : Value := .agg #[.int .i64 23, .int .i64 8, .int .i64 (-149)]

theorem mask (k n a : Nat) (hk : n + 1 = 2 ^ k) (ha : a < 18446744073709551616) (hn : n < 18446744073709551616) : bits .and .u64 (a : Int) (n : Int) = ((a % (n + 1) : Nat) : Int) := by
  have h := bits_and_u64_nat a n ha hn
  rw [show n = 2 ^ k - 1 by omega, Nat.and_two_pow_sub_one_eq_mod a k, ← hk] at h
  rw [← h, Nat.add_sub_cancel]

/-- What split answers. -/
def splitV (F X b : Nat) : Value := .tuple #[.bool (decide (b / 2 ^ F / 2 ^ X ≠ 0)), .int .u64 ((b / 2 ^ F % 2 ^ X : Nat) : Int), .int .u64 ((b % 2 ^ F : Nat) : Int)]

/-- A width. -/
abbrev widV (F X B : Nat) : Value := .agg #[.int .i64 (F : Int), .int .i64 (X : Int), .int .i64 (-(B : Int))]

theorem mask_w (k a : Nat) (hk : k ≤ 52) (ha : a < 18446744073709551616) : bits .and .u64 (a : Int) (IntKind.u64.wrap (IntKind.u64.wrap (2 ^ k) - 1)) = ((a % 2 ^ k : Nat) : Int) := by
  have h1 : (2 : Nat) ^ k ≤ 2 ^ 52 := Nat.pow_le_pow_right (by omega) hk
  have h2 : 0 < 2 ^ k := Nat.pow_pos (by omega)
  have e1 : (2 : Nat) ^ 52 = 4503599627370496 := by decide
  have h3 : ((2 : Int) ^ k) = ((2 ^ k : Nat) : Int) := by push_cast; rfl
  have h4 : IntKind.u64.wrap (IntKind.u64.wrap ((2 : Int) ^ k) - 1) = ((2 ^ k - 1 : Nat) : Int) := by
    rw [h3, IntKind.wrap_u64, IntKind.wrap_u64]; omega
  rw [h4, mask k (2 ^ k - 1) a (by omega) ha (by omega)]
  congr 2
  omega

/-- What amount answers. -/
def amountV (F B x m : Nat) : Value := .tuple #[.int .u64 ((fNum F x m : Nat) : Int), .int .i64 (fPow B x)]

theorem pow2_int (k : Nat) : ((2 : Int) ^ k) = ((2 ^ k : Nat) : Int) := by push_cast; rfl

end Go.Proofs.YtifpacgacbpalaaGreatDoor

namespace Go.Proofs.YtifpacgacbpalaaGreatDoor
open Go.RowKit

/-- v is a list of limbs without noughts on top, the number n. -/
def Nt (w : World) (v : Value) (n : Nat) : Prop := ∃ o c xs, v = .slice o (List.length xs) c ∧ xs.length ≤ c ∧ c ≤ 1000000 ∧ At .u64 w o xs ∧ Is B64 xs n

/-- A number that is not too great. -/
def Sm (n : Nat) : Prop := n < B64 ^ 10000

theorem ten8000 : powT 10 8000 < B64 ^ 10000 := by decide +kernel
theorem Sm.of {n k : Nat} (h : n < 10 ^ k) (hk : k ≤ 8000) : Sm n :=
  Nat.lt_trans (Nat.lt_of_lt_of_le h (powT_ge (by omega) hk)) ten8000

theorem Nt.below {w w' : World} {v : Value} {n : Nat} (h : Nt w v n) (hb : Below w.heap.size w w') : Nt w' v n := by
  obtain ⟨o, c, xs, h1, h2, h3, h4, h5⟩ := h
  exact ⟨o, c, xs, h1, h2, h3, h4.below hb, h5⟩

theorem Nt.of {w : World} {v : Value} {n base m : Nat} {r : List Nat} (h : Own .u64 76 w base m v r) (his : Is B64 r n) (hm : m ≤ 1000000) : Nt w v n := by
  obtain ⟨o, c, rfl, h1, h2, h3⟩ := h.shape
  exact ⟨o, c, r, rfl, h1, by omega, h3, his⟩

/-- v lies from block 'base' on, if it lies anywhere. -/
def Far (base : Nat) (v : Value) : Prop := ∀ o l c, v = .slice o l c → ∀ a, o = some a → base ≤ a.block

theorem Far.of {w : World} {v : Value} {base m : Nat} {r : List Nat} (h : Own .u64 76 w base m v r) : Far base v := by
  intro o l c hv a ha
  rcases h with ⟨rfl, _⟩ | ⟨g, full, rfl, h2, _⟩
  · cases hv; cases ha
  · cases hv; cases ha; exact h2

theorem Far.mono {i j : Nat} {v : Value} (h : Far j v) (hij : i ≤ j) : Far i v := fun o l c hv a ha => Nat.le_trans hij (h o l c hv a ha)

theorem Nt.put {w : World} {v : Value} {n base : Nat} (h : Nt w v n) (hf : Far base v) {a : Addr} (ha : a.block < base) (u : Value) : Nt (w.setCell a u) v n := by
  obtain ⟨o, c, xs, rfl, h2, h3, h4, h5⟩ := h
  refine ⟨o, c, xs, rfl, h2, h3, ?_, h5⟩
  rcases h4 with h4 | ⟨b, f, rfl, hb, hc⟩
  · exact .inl h4
  · have := hf _ _ _ rfl _ rfl
    have hne : a.block ≠ b := by simp at this; omega
    refine .inr ⟨b, f, rfl, by simpa using hb, fun i hi => ?_⟩
    rw [World.cell?_of_block (w := w) (w' := w.setCell a u) (by simp only [World.setCell]; rw [Array.getElem?_modify, if_neg hne])]
    exact hc i hi

theorem is_len {xs : List Nat} {n : Nat} (h : Is B64 xs n) (hs : Sm n) : xs.length ≤ 10000 := by
  have h3 := trimmed_small (xs := xs) (t := 10000) (by rw [h.2.2]; exact hs)
  rw [trimmed_of_top h.2.1] at h3
  exact h3

/-- A number is answered. -/
def NtPost (w : World) (n : Nat) (e : Ending) (w' : World) : Prop := ∃ v, e = .returned v ∧ Nt w' v n ∧ Below w.heap.size w w' ∧ Far w.heap.size v

theorem nt_of (x : Nat) (w : World) (hx : x < B64) : Calls Tryz.prog 122 #[.int .u64 (x : Int)] w (NtPost w x) := by
  refine (of_any x w hx).mono ?_
  rintro e w' ⟨v, r, rfl, h1, h2, h3⟩
  exact ⟨v, rfl, Nt.of h1 h2 (by omega), h3, Far.of h1⟩

theorem nt_mul (a b : Value) (x y : Nat) (w : World) (ha : Nt w a x) (hb : Nt w b y) (hx : Sm x) (hy : Sm y) : Calls Tryz.prog 72 #[a, b] w (NtPost w (x * y)) := by
  obtain ⟨o, c, xs, rfl, h1, h2, h3, h4⟩ := ha
  obtain ⟨o', c', ys, rfl, h1', h2', h3', h4'⟩ := hb
  have l1 := is_len h4 hx
  have l2 := is_len h4' hy
  refine (mul_any o o' _ c _ c' xs ys w h1 (by omega) h1' (by omega) rfl rfl h3 h3' h4.1 h4'.1).mono ?_
  rintro e w' ⟨v, r, rfl, g1, g2, g3⟩
  rw [h4.2.2, h4'.2.2] at g2
  exact ⟨v, rfl, Nt.of g1 g2 (by omega), g3, Far.of g1⟩

/-- Quotient and rest are answered. -/
def NtDiv (w : World) (q r : Nat) (e : Ending) (w' : World) : Prop := ∃ v1 v2, e = .returned (.tuple #[v1, v2, .int .i64 0]) ∧ Nt w' v1 q ∧ Nt w' v2 r ∧ Below w.heap.size w w'

theorem nt_div (a b : Value) (x y : Nat) (w : World) (ha : Nt w a x) (hb : Nt w b y) (hx : Sm x) (hy : Sm y) (h0 : y ≠ 0) : Calls Tryz.prog 129 #[a, b] w (NtDiv w (x / y) (x % y)) := by
  obtain ⟨o, c, xs, rfl, h1, h2, h3, h4⟩ := ha
  obtain ⟨o', c', ys, rfl, h1', h2', h3', h4'⟩ := hb
  have l1 := is_len h4 hx
  have l2 := is_len h4' hy
  refine (divmod_any o o' _ c _ c' xs ys w h1 (by omega) h1' (by omega) rfl rfl h3 h3' h4.1 h4'.1 (by rw [h4'.2.2]; exact h0)).mono ?_
  rintro e w' ⟨v1, r1, v2, r2, rfl, g1, g2, g3, g4, g5, _⟩
  rw [h4.2.2, h4'.2.2] at g3 g4
  exact ⟨v1, v2, rfl, Nt.of g1 g3 (by omega), Nt.of g2 g4 (by omega), g5⟩

/-- A difference is answered, and no error. -/
def NtErr (w : World) (n : Nat) (er : Int) (e : Ending) (w' : World) : Prop := ∃ v, e = .returned (.tuple #[v, .int .i64 er]) ∧ Nt w' v n ∧ Below w.heap.size w w' ∧ Far w.heap.size v

theorem nt_sub (a b : Value) (x y : Nat) (w : World) (ha : Nt w a x) (hb : Nt w b y) (hx : Sm x) (hy : Sm y) (hxy : y ≤ x) : Calls Tryz.prog 120 #[a, b] w (NtErr w (x - y) 0) := by
  obtain ⟨o, c, xs, rfl, h1, h2, h3, h4⟩ := ha
  obtain ⟨o', c', ys, rfl, h1', h2', h3', h4'⟩ := hb
  have l1 := is_len h4 hx
  have l2 := is_len h4' hy
  refine (sub_any o o' _ c _ c' xs ys w h1 (by omega) h1' (by omega) rfl rfl h3 h3' h4.1 h4'.1).mono ?_
  rintro e w' ⟨v, r, rfl, g1, g2, g3⟩
  rw [h4.2.2, h4'.2.2] at g2 ⊢
  rw [if_neg (by omega)]
  exact ⟨v, rfl, Nt.of g1 g2 (by omega), g3, Far.of g1⟩

theorem nt_uint (a : Value) (x : Nat) (w : World) (ha : Nt w a x) (hx : x < B64) : Calls Tryz.prog 130 #[a] w fun e w' => e = .returned (.tuple #[.int .u64 (x : Int), .bool true]) ∧ w = w' := by
  obtain ⟨o, c, xs, rfl, h1, h2, h3, h4⟩ := ha
  have h5 := trimmed_small (xs := xs) (t := 1) (by rw [h4.2.2, Nat.pow_one]; exact hx)
  have h := uint_any o _ c xs w h1 (by omega) rfl h3
  refine h.mono ?_
  rintro e w' ⟨rfl, rfl⟩
  rw [if_pos h5, decide_eq_true h5, h4.2.2]
  exact ⟨rfl, rfl⟩

theorem nt_text (a : Value) (x : Nat) (w : World) (ha : Nt w a x) (htab : Tab w) : Calls Tryz.prog 69 #[a] w fun e w' => e = .returned (.string ⟨(Lib.decDigits x).toArray⟩) ∧ Below w.heap.size w w' := by
  obtain ⟨o, c, xs, rfl, h1, h2, h3, h4⟩ := ha
  have h := text_any o _ c xs w h1 (by omega) rfl h3 h4.1 htab
  rw [h4.2.2] at h
  exact h

end Go.Proofs.YtifpacgacbpalaaGreatDoor
