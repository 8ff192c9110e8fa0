/-
  A variable of several cells, in a block by itself.
  What shortest's binary64, binary32, split, amount and powerOfTwo do.
  nat's and whole's calls as package shortest makes them: over numbers, wherever their limbs lie.
  What shortest's holds and pick do.
  What shortest's all and reachOf do.
-/
import Derived.Test.YtpiloigpncbccacGreatDoorNorm
import Derived.Handy
import Derived.Test.YtpiloigpncbccacGreatDoorWPow
import Derived.Test.YtpiloigpncbccacGreatDoorZSM
import Derived.Test.YtpiloigpncbccacGreatDoorZShort
import Derived.Test.YtpiloigpncbccacGreatDoorSub
import Derived.Test.YtpiloigpncbccacGreatDoorUintF
import Derived.Test.YtpiloigpncbccacGreatDoorZQ2
import Derived.Test.YtpiloigpncbccacGreatDoorWText
import Derived.Deep.RegionHeld3
namespace Go.Proofs.YtpiloigpncbccacGreatDoor
open Go.RowKit

def Blk (w : World) (b : Nat) (cs : Array Value) (t : TypeId) : Prop := w.heap[b]? = some (.cells cs t (0, 0))

section
variable {w w' : World} {b : Nat} {cs : Array Value} {t : TypeId}

theorem Blk.cell (h : Blk w b cs t) (i : Nat) : w.cell? ⟨b, i, none⟩ = cs[i]? := by unfold Blk at h; simp [World.cell?, h]
theorem Blk.free (h : Blk w b cs t) (i : Nat) : w.frozen? ⟨b, i, none⟩ = false := by unfold Blk at h; simp [World.frozen?, h]
theorem Blk.new (w : World) (cs : Array Value) (t : TypeId) : Blk (w.alloc (.cells cs t)) w.heap.size cs t := heap_alloc_new _ _
theorem Blk.newAt (w : World) (n : Nat) (hn : w.heap.size = n) (cs : Array Value) (t : TypeId) : Blk (w.alloc (.cells cs t)) n cs t := by subst hn; exact Blk.new _ _ _
theorem Blk.lt (h : Blk w b cs t) : b < w.heap.size := lt_of_block h
theorem Blk.below (h : Blk w b cs t) {B : Nat} (hb : Below B w w') (hg : b < B) : Blk w' b cs t := by
  unfold Blk at *
  rw [hb.block b hg]; exact h
theorem Blk.alloc (h : Blk w b cs t) (o : Obj) : Blk (w.alloc o) b cs t := by
  have hlt := h.lt
  unfold Blk at *
  rw [Below.heap_alloc _ _ _ hlt]; exact h
theorem Blk.put4 {x0 x1 x2 x3 : Value} (h : Blk w b #[x0, x1, x2, x3] t) (y0 y1 y2 y3 : Value) : Blk ((((w.setCell ⟨b, 0, none⟩ y0).setCell ⟨b, 1, none⟩ y1).setCell ⟨b, 2, none⟩ y2).setCell ⟨b, 3, none⟩ y3) b #[y0, y1, y2, y3] t := by
  unfold Blk at *
  simp only [World.setCell, Array.getElem?_modify, if_true, h, Option.map_some]
  rfl
end

end Go.Proofs.YtpiloigpncbccacGreatDoor

namespace Go.Proofs.YtpiloigpncbccacGreatDoor
open Go.RowKit

/-- The two widths. -/
abbrev w64 : Value := .agg #[.int .i64 52, .int .i64 11, .int .i64 (-1074)]
abbrev w32 : Value := .agg #[.int .i64 23, .int .i64 8, .int .i64 (-149)]

theorem binary64_any (w : World) : Calls Tryz.prog 21 #[] w fun e w' => e = .returned w64 ∧ Below w.heap.size w w' := by
  go_enter Tryz.func21, Tryz.ntmps21
  go_wp2
  go_returns
  exact ⟨rfl, (Below.refl _ _).alloc (Nat.le_refl _) _⟩

theorem binary32_any (w : World) : Calls Tryz.prog 75 #[] w fun e w' => e = .returned w32 ∧ Below w.heap.size w w' := by
  go_enter Tryz.func75, Tryz.ntmps75
  go_wp2
  go_returns
  exact ⟨rfl, (Below.refl _ _).alloc (Nat.le_refl _) _⟩

theorem mask (k n a : Nat) (hk : n + 1 = 2 ^ k) (ha : a < 18446744073709551616) (hn : n < 18446744073709551616) : bits .and .u64 (a : Int) (n : Int) = ((a % (n + 1) : Nat) : Int) := by
  have h := bits_and_u64_nat a n ha hn
  rw [show n = 2 ^ k - 1 by omega, Nat.and_two_pow_sub_one_eq_mod a k, ← hk] at h
  rw [← h, Nat.add_sub_cancel]

/-- What split answers. -/
def splitV (F X b : Nat) : Value := .tuple #[.bool (decide (b / 2 ^ F / 2 ^ X ≠ 0)), .int .u64 ((b / 2 ^ F % 2 ^ X : Nat) : Int), .int .u64 ((b % 2 ^ F : Nat) : Int)]

/-- A width. -/
abbrev widV (F X B : Nat) : Value := .agg #[.int .i64 (F : Int), .int .i64 (X : Int), .int .i64 (-(B : Int))]

theorem mask_w (k a : Nat) (hk : k ≤ 52) (ha : a < 18446744073709551616) : bits .and .u64 (a : Int) (IntKind.u64.wrap (IntKind.u64.wrap (2 ^ k) - 1)) = ((a % 2 ^ k : Nat) : Int) := by
  have h1 : (2 : Nat) ^ k ≤ 2 ^ 52 := Nat.pow_le_pow_right (by omega) hk
  have h2 : 0 < 2 ^ k := Nat.pow_pos (by omega)
  have e1 : (2 : Nat) ^ 52 = 4503599627370496 := by decide
  have h3 : ((2 : Int) ^ k) = ((2 ^ k : Nat) : Int) := by push_cast; rfl
  have h4 : IntKind.u64.wrap (IntKind.u64.wrap ((2 : Int) ^ k) - 1) = ((2 ^ k - 1 : Nat) : Int) := by
    rw [h3, IntKind.wrap_u64, IntKind.wrap_u64]; omega
  rw [h4, mask k (2 ^ k - 1) a (by omega) ha (by omega)]
  congr 2
  omega

set_option maxHeartbeats 400000 in
theorem split_any (F X B b : Nat) (w : World) (hF : F ≤ 52) (hX : X ≤ 52) (hb : b < 18446744073709551616) :
    Calls Tryz.prog 34 #[widV F X B, .int .u64 (b : Int)] w fun e w' => e = .returned (splitV F X b) ∧ Below w.heap.size w w' := by
  go_enter Tryz.func34, Tryz.ntmps34
  go_wp2
  go_returns
  refine ⟨?_, (Below.refl _ _).alloc (Nat.le_refl _) _⟩
  show Ending.returned (.tuple #[.bool ((b : Int) / 2 ^ F / 2 ^ X != 0), .int .u64 (bits .and .u64 ((b : Int) / 2 ^ F) (IntKind.u64.wrap (IntKind.u64.wrap (2 ^ X) - 1))), .int .u64 (bits .and .u64 (b : Int) (IntKind.u64.wrap (IntKind.u64.wrap (2 ^ F) - 1)))]) = _
  rw [mask_w F b hF hb, shr_nat, mask_w X (b / 2 ^ F) hX (Nat.lt_of_le_of_lt (Nat.div_le_self _ _) hb), shr_nat]
  unfold splitV
  congr 4
  by_cases h : b / 2 ^ F / 2 ^ X = 0
  · rw [h]; rfl
  · rw [decide_eq_true h]
    have : ((b / 2 ^ F / 2 ^ X : Nat) : Int) ≠ 0 := by omega
    simpa using this

/-- What amount answers. -/
def amountV (F B x m : Nat) : Value := .tuple #[.int .u64 ((fNum F x m : Nat) : Int), .int .i64 (fPow B x)]

theorem pow2_int (k : Nat) : ((2 : Int) ^ k) = ((2 ^ k : Nat) : Int) := by push_cast; rfl

set_option maxHeartbeats 400000 in
theorem amount_any (F X B x m : Nat) (w : World) (hF : F ≤ 52) (hB : B ≤ 2000) (hx : x ≤ 5000) (hm : m < 2 ^ F) :
    Calls Tryz.prog 52 #[widV F X B, .int .u64 (x : Int), .int .u64 (m : Int)] w fun e w' => e = .returned (amountV F B x m) ∧ Below w.heap.size w w' := by
  have h1 : (2 : Nat) ^ F ≤ 2 ^ 52 := Nat.pow_le_pow_right (by omega) hF
  have e1 : (2 : Nat) ^ 52 = 4503599627370496 := by decide
  rw [e1] at h1
  have HM := hide hm
  have H1 := hide h1
  clear hm h1 e1
  by_cases h0 : x = 0
  · subst h0
    go_enter Tryz.func52, Tryz.ntmps52
    go_wp2
    go_region
    go_wp2
    go_ret2
    exact ⟨rfl, ((Below.refl _ _).alloc (Nat.le_refl _) _).drew⟩
  · have h0' : ¬ (x : Int) = 0 := by omega
    go_enter Tryz.func52, Tryz.ntmps52
    go_wp2
    go_region
    go_wp2
    go_ret2
    refine ⟨?_, ((Below.refl _ _).alloc (Nat.le_refl _) _).drew⟩
    have hm := HM.out
    have h1 := H1.out
    unfold amountV fNum fPow
    rw [if_neg h0, if_neg h0, show IntKind.u64.wrap (IntKind.u64.wrap (2 ^ F) + (m : Int)) = ((2 ^ F + m : Nat) : Int) by rw [pow2_int, IntKind.wrap_u64, IntKind.wrap_u64]; omega, show -(B : Int) + (x : Int) - 1 = (x : Int) - 1 - B by omega]
    rfl

set_option maxHeartbeats 400000 in
theorem power_any (n : Int) (w : World) (h1 : -8192 ≤ n) (h2 : n ≤ 65536) :
    Calls Tryz.prog 53 #[.int .i64 n] w (ShPost w 3000 (p2N n) (p2E n)) := by
  by_cases h0 : n < 0
  · obtain ⟨k, rfl⟩ : ∃ k : Nat, n = -(k : Int) := ⟨(-n).toNat, by omega⟩
    have e1 : p2N (-(k : Int)) = 5 ^ k := by unfold p2N; rw [if_pos h0, show (-(-(k : Int))).toNat = k by omega]
    have e2 : p2E (-(k : Int)) = -(k : Int) := by unfold p2E; rw [if_pos h0]
    rw [e1, e2]
    clear e1 e2
    go_enter Tryz.func53, Tryz.ntmps53
    go_wp2_with fail
    refine (pow5_in k _ (by omega)).mono ?_
    rintro e w1 ⟨v, r, rfl, hown, his, hb⟩
    go_wp2
    go_ret2
    exact ⟨v, r, rfl, hown.mono (Nat.le_refl _) (by omega), his, hb⟩
  · obtain ⟨k, rfl⟩ : ∃ k : Nat, n = (k : Int) := ⟨n.toNat, by omega⟩
    have e1 : p2N (k : Int) = 2 ^ k := by unfold p2N; rw [if_neg h0, Int.toNat_natCast]
    have e2 : p2E (k : Int) = 0 := by unfold p2E; rw [if_neg h0]
    rw [e1, e2]
    clear e1 e2
    go_enter Tryz.func53, Tryz.ntmps53
    go_wp2_with fail
    refine (of_any 1 _ (by decide)).mono ?_
    rintro e w1 ⟨v, r, rfl, hown, his, hb⟩
    obtain ⟨o, c, rfl, hl, hm, hat⟩ := hown.shape
    have hr : r.length ≤ 1 := by omega
    go_wp2_with fail
    refine (shl_any o _ c k r _ (by omega) hl (by omega) rfl hat his.1).mono ?_
    rintro e w2 ⟨v2, r2, rfl, hown2, his2, hb2⟩
    rw [his.2.2, Nat.one_mul] at his2
    have hbw := hb.trans (hb2.mono hb.size)
    have hsz := hb.size
    clear hb hb2 his hat hown
    go_wp2
    go_ret2
    exact ⟨_, r2, rfl, hown2.mono hsz (by omega), his2, hbw⟩

end Go.Proofs.YtpiloigpncbccacGreatDoor

namespace Go.Proofs.YtpiloigpncbccacGreatDoor
open Go.RowKit

/-- v is a list of limbs without noughts on top, the number n. -/
def Nt (w : World) (v : Value) (n : Nat) : Prop := ∃ o c xs, v = .slice o (List.length xs) c ∧ xs.length ≤ c ∧ c ≤ 1000000 ∧ At .u64 w o xs ∧ Is B64 xs n

/-- A number that is not too great. -/
def Sm (n : Nat) : Prop := n < B64 ^ 10000

theorem ten8000 : powT 10 8000 < B64 ^ 10000 := by decide +kernel
theorem Sm.of {n k : Nat} (h : n < 10 ^ k) (hk : k ≤ 8000) : Sm n :=
  Nat.lt_trans (Nat.lt_of_lt_of_le h (powT_ge (by omega) hk)) ten8000

theorem Nt.below {w w' : World} {v : Value} {n : Nat} (h : Nt w v n) (hb : Below w.heap.size w w') : Nt w' v n := by
  obtain ⟨o, c, xs, h1, h2, h3, h4, h5⟩ := h
  exact ⟨o, c, xs, h1, h2, h3, h4.below hb, h5⟩

theorem Nt.of {w : World} {v : Value} {n base m : Nat} {r : List Nat} (h : Own .u64 22 w base m v r) (his : Is B64 r n) (hm : m ≤ 1000000) : Nt w v n := by
  obtain ⟨o, c, rfl, h1, h2, h3⟩ := h.shape
  exact ⟨o, c, r, rfl, h1, by omega, h3, his⟩

/-- v lies from block 'base' on, if it lies anywhere. -/
def Far (base : Nat) (v : Value) : Prop := ∀ o l c, v = .slice o l c → ∀ a, o = some a → base ≤ a.block

theorem Far.of {w : World} {v : Value} {base m : Nat} {r : List Nat} (h : Own .u64 22 w base m v r) : Far base v := by
  intro o l c hv a ha
  rcases h with ⟨rfl, _⟩ | ⟨g, full, rfl, h2, _⟩
  · cases hv; cases ha
  · cases hv; cases ha; exact h2

theorem Far.mono {i j : Nat} {v : Value} (h : Far j v) (hij : i ≤ j) : Far i v := fun o l c hv a ha => Nat.le_trans hij (h o l c hv a ha)

theorem Nt.put {w : World} {v : Value} {n base : Nat} (h : Nt w v n) (hf : Far base v) {a : Addr} (ha : a.block < base) (u : Value) : Nt (w.setCell a u) v n := by
  obtain ⟨o, c, xs, rfl, h2, h3, h4, h5⟩ := h
  refine ⟨o, c, xs, rfl, h2, h3, ?_, h5⟩
  rcases h4 with h4 | ⟨b, f, rfl, hb, hc⟩
  · exact .inl h4
  · have := hf _ _ _ rfl _ rfl
    have hne : a.block ≠ b := by simp at this; omega
    refine .inr ⟨b, f, rfl, by simpa using hb, fun i hi => ?_⟩
    rw [World.cell?_of_block (w := w) (w' := w.setCell a u) (by simp only [World.setCell]; rw [Array.getElem?_modify, if_neg hne])]
    exact hc i hi

theorem is_len {xs : List Nat} {n : Nat} (h : Is B64 xs n) (hs : Sm n) : xs.length ≤ 10000 := by
  have h3 := trimmed_small (xs := xs) (t := 10000) (by rw [h.2.2]; exact hs)
  rw [trimmed_of_top h.2.1] at h3
  exact h3

/-- A number is answered. -/
def NtPost (w : World) (n : Nat) (e : Ending) (w' : World) : Prop := ∃ v, e = .returned v ∧ Nt w' v n ∧ Below w.heap.size w w' ∧ Far w.heap.size v

theorem nt_of (x : Nat) (w : World) (hx : x < B64) : Calls Tryz.prog 43 #[.int .u64 (x : Int)] w (NtPost w x) := by
  refine (of_any x w hx).mono ?_
  rintro e w' ⟨v, r, rfl, h1, h2, h3⟩
  exact ⟨v, rfl, Nt.of h1 h2 (by omega), h3, Far.of h1⟩

theorem nt_mul (a b : Value) (x y : Nat) (w : World) (ha : Nt w a x) (hb : Nt w b y) (hx : Sm x) (hy : Sm y) : Calls Tryz.prog 54 #[a, b] w (NtPost w (x * y)) := by
  obtain ⟨o, c, xs, rfl, h1, h2, h3, h4⟩ := ha
  obtain ⟨o', c', ys, rfl, h1', h2', h3', h4'⟩ := hb
  have l1 := is_len h4 hx
  have l2 := is_len h4' hy
  refine (mul_any o o' _ c _ c' xs ys w h1 (by omega) h1' (by omega) rfl rfl h3 h3' h4.1 h4'.1).mono ?_
  rintro e w' ⟨v, r, rfl, g1, g2, g3⟩
  rw [h4.2.2, h4'.2.2] at g2
  exact ⟨v, rfl, Nt.of g1 g2 (by omega), g3, Far.of g1⟩

/-- Quotient and rest are answered. -/
def NtDiv (w : World) (q r : Nat) (e : Ending) (w' : World) : Prop := ∃ v1 v2, e = .returned (.tuple #[v1, v2, .int .i64 0]) ∧ Nt w' v1 q ∧ Nt w' v2 r ∧ Below w.heap.size w w'

theorem nt_div (a b : Value) (x y : Nat) (w : World) (ha : Nt w a x) (hb : Nt w b y) (hx : Sm x) (hy : Sm y) (h0 : y ≠ 0) : Calls Tryz.prog 39 #[a, b] w (NtDiv w (x / y) (x % y)) := by
  obtain ⟨o, c, xs, rfl, h1, h2, h3, h4⟩ := ha
  obtain ⟨o', c', ys, rfl, h1', h2', h3', h4'⟩ := hb
  have l1 := is_len h4 hx
  have l2 := is_len h4' hy
  refine (divmod_any o o' _ c _ c' xs ys w h1 (by omega) h1' (by omega) rfl rfl h3 h3' h4.1 h4'.1 (by rw [h4'.2.2]; exact h0)).mono ?_
  rintro e w' ⟨v1, r1, v2, r2, rfl, g1, g2, g3, g4, g5, _⟩
  rw [h4.2.2, h4'.2.2] at g3 g4
  exact ⟨v1, v2, rfl, Nt.of g1 g3 (by omega), Nt.of g2 g4 (by omega), g5⟩

/-- A difference is answered, and no error. -/
def NtErr (w : World) (n : Nat) (er : Int) (e : Ending) (w' : World) : Prop := ∃ v, e = .returned (.tuple #[v, .int .i64 er]) ∧ Nt w' v n ∧ Below w.heap.size w w' ∧ Far w.heap.size v

theorem nt_sub (a b : Value) (x y : Nat) (w : World) (ha : Nt w a x) (hb : Nt w b y) (hx : Sm x) (hy : Sm y) (hxy : y ≤ x) : Calls Tryz.prog 71 #[a, b] w (NtErr w (x - y) 0) := by
  obtain ⟨o, c, xs, rfl, h1, h2, h3, h4⟩ := ha
  obtain ⟨o', c', ys, rfl, h1', h2', h3', h4'⟩ := hb
  have l1 := is_len h4 hx
  have l2 := is_len h4' hy
  refine (sub_any o o' _ c _ c' xs ys w h1 (by omega) h1' (by omega) rfl rfl h3 h3' h4.1 h4'.1).mono ?_
  rintro e w' ⟨v, r, rfl, g1, g2, g3⟩
  rw [h4.2.2, h4'.2.2] at g2 ⊢
  rw [if_neg (by omega)]
  exact ⟨v, rfl, Nt.of g1 g2 (by omega), g3, Far.of g1⟩

theorem nt_cmp (a b : Value) (x y : Nat) (z : Int) (w : World) (ha : Nt w a x) (hb : Nt w b y) (hx : Sm x) (hy : Sm y) (hz : cmpN x y = z) : Calls Tryz.prog 73 #[a, b] w fun e w' => e = .returned (.int .i64 z) ∧ Below w.heap.size w w' := by
  obtain ⟨o, c, xs, rfl, h1, h2, h3, h4⟩ := ha
  obtain ⟨o', c', ys, rfl, h1', h2', h3', h4'⟩ := hb
  have l1 := is_len h4 hx
  have l2 := is_len h4' hy
  exact cmp_num o o' _ c _ c' xs ys w (by omega) (by omega) rfl rfl h3 h3' h4.1 h4'.1 z (by rw [h4.2.2, h4'.2.2]; exact hz)

theorem nt_uint (a : Value) (x : Nat) (w : World) (ha : Nt w a x) (hx : x < B64) : Calls Tryz.prog 40 #[a] w fun e w' => e = .returned (.tuple #[.int .u64 (x : Int), .bool true]) ∧ w = w' := by
  obtain ⟨o, c, xs, rfl, h1, h2, h3, h4⟩ := ha
  have h5 := trimmed_small (xs := xs) (t := 1) (by rw [h4.2.2, Nat.pow_one]; exact hx)
  have h := uint_any o _ c xs w h1 (by omega) rfl h3
  refine h.mono ?_
  rintro e w' ⟨rfl, rfl⟩
  rw [if_pos h5, decide_eq_true h5, h4.2.2]
  exact ⟨rfl, rfl⟩

theorem nt_text (a : Value) (x : Nat) (w : World) (ha : Nt w a x) (htab : Tab w) : Calls Tryz.prog 37 #[a] w fun e w' => e = .returned (.string ⟨(Lib.decDigits x).toArray⟩) ∧ Below w.heap.size w w' := by
  obtain ⟨o, c, xs, rfl, h1, h2, h3, h4⟩ := ha
  have h := text_any o _ c xs w h1 (by omega) rfl h3 h4.1 htab
  rw [h4.2.2] at h
  exact h

theorem nt_power (n : Int) (w : World) (h1 : -8192 ≤ n) (h2 : n ≤ 65536) : Calls Tryz.prog 53 #[.int .i64 n] w (NtErr w (p2N n) (p2E n)) := by
  refine (power_any n w h1 h2).mono ?_
  rintro e w' ⟨v, r, rfl, g1, g2, g3⟩
  exact ⟨v, rfl, Nt.of g1 g2 (by omega), g3, Far.of g1⟩

theorem nt_pow10 (n : Int) (k : Nat) (w : World) (hn : n = (k : Int)) (hk : k ≤ 8192) : Calls Tryz.prog 38 #[.int .i64 n] w (NtErr w (10 ^ k) 0) := by
  subst hn
  refine (pow10_in k w hk).mono ?_
  rintro e w' ⟨v, r, rfl, g1, g2, g3⟩
  exact ⟨v, rfl, Nt.of g1 g2 (by omega), g3, Far.of g1⟩

end Go.Proofs.YtpiloigpncbccacGreatDoor

namespace Go.Proofs.YtpiloigpncbccacGreatDoor
open Go.RowKit

theorem held_lt {c : Bool} {x y : Nat} (h : cmpN x y = -1) : heldN c x y = true := by
  unfold cmpN at h; unfold heldN
  split at h
  · next h1 => simp [h1]
  · split at h <;> simp at h
theorem held_eq {c : Bool} {x y : Nat} (h : cmpN x y = 0) : heldN c x y = c := by
  unfold cmpN at h; unfold heldN
  split at h
  · simp at h
  · split at h
    · simp at h
    · next h1 h2 =>
      have : x = y := by omega
      subst this
      simp
theorem held_gt {c : Bool} {x y : Nat} (h : cmpN x y = 1) : heldN c x y = false := by
  unfold cmpN at h; unfold heldN
  split at h
  · simp at h
  · split at h
    · next h1 h2 =>
      have h3 : ¬ x = y := by omega
      simp [h1, h3]
    · simp at h
theorem cmpN_or (x y : Nat) : cmpN x y = -1 ∨ cmpN x y = 0 ∨ cmpN x y = 1 := by
  unfold cmpN; split
  · exact .inl rfl
  · split
    · exact .inr (.inr rfl)
    · exact .inr (.inl rfl)

/-- A reach, as a struct. -/
abbrev reachV (va vl vh : Value) (clo : Bool) : Value := .agg #[va, vl, vh, .bool clo]

set_option maxHeartbeats 1000000 in
theorem holds_any (oa ol oh : Option Addr) (la ca ll cl lh ch : Nat) (clo : Bool) (d far : Value) (x y : Nat) (w : World) (hd : Nt w d x) (hf : Nt w far y) (hx : Sm x) (hy : Sm y) :
    Calls Tryz.prog 72 #[reachV (.slice oa la ca) (.slice ol ll cl) (.slice oh lh ch) clo, d, far] w fun e w' => e = .returned (.bool (heldN clo x y)) ∧ Below w.heap.size w w' := by
  have hb0 : Below w.heap.size w (w.alloc (.cells #[.slice oa la ca, .slice ol ll cl, .slice oh lh ch, .bool clo] 69)) := (Below.refl _ _).alloc (Nat.le_refl _) _
  have C := fun z hz => nt_cmp d far x y z _ (hd.below hb0) (hf.below hb0) hx hy hz
  have blk := Blk.new w #[.slice oa la ca, .slice ol ll cl, .slice oh lh ch, .bool clo] 69
  have BLK := hide blk
  have CC := hide C
  have HB0 := hide hb0
  clear C hd hf blk hb0
  rcases cmpN_or x y with hc | hc | hc
  · rw [held_lt hc]
    go_enter Tryz.func72, Tryz.ntmps72
    go_wp2_with fail
    refine (CC.out _ hc).mono ?_
    rintro e w1 ⟨rfl, hb⟩
    go_wp2
    go_ret
    exact ⟨rfl, HB0.out.trans (hb.mono (by simp))⟩
  · rw [held_eq hc]
    cases clo
    · go_enter Tryz.func72, Tryz.ntmps72
      go_wp2_with fail
      refine (CC.out _ hc).mono ?_
      rintro e w1 ⟨rfl, hb⟩
      have c3 := (BLK.out.below hb BLK.out.lt).cell 3
      simp only [List.getElem?_toArray, List.getElem?_cons_succ, List.getElem?_cons_zero] at c3
      go_wp2
      go_ret
      exact ⟨rfl, HB0.out.trans (hb.mono (by simp))⟩
    · go_enter Tryz.func72, Tryz.ntmps72
      go_wp2_with fail
      refine (CC.out _ hc).mono ?_
      rintro e w1 ⟨rfl, hb⟩
      have c3 := (BLK.out.below hb BLK.out.lt).cell 3
      simp only [List.getElem?_toArray, List.getElem?_cons_succ, List.getElem?_cons_zero] at c3
      go_wp2
      go_ret
      exact ⟨rfl, HB0.out.trans (hb.mono (by simp))⟩
  · rw [held_gt hc]
    go_enter Tryz.func72, Tryz.ntmps72
    go_wp2_with fail
    refine (CC.out _ hc).mono ?_
    rintro e w1 ⟨rfl, hb⟩
    go_wp2
    go_ret
    exact ⟨rfl, HB0.out.trans (hb.mono (by simp))⟩

section
variable {r : Near} {clo : Bool} {number rest unit : Nat} (hc : r.clo = clo)
include hc
theorem pick_ff (h1 : heldN clo rest r.lo = false) (h2 : heldN clo (unit - rest) r.hi = false) : pickN r number rest unit = none := by
  unfold pickN; rw [hc, h1, h2]; simp
theorem pick_tf (h1 : heldN clo rest r.lo = true) (h2 : heldN clo (unit - rest) r.hi = false) : pickN r number rest unit = some number := by
  unfold pickN; rw [hc, h1, h2]; simp
theorem pick_ft (h1 : heldN clo rest r.lo = false) (h2 : heldN clo (unit - rest) r.hi = true) : pickN r number rest unit = some (number + 1) := by
  unfold pickN; rw [hc, h1, h2]; simp
theorem pick_tt (h1 : heldN clo rest r.lo = true) (h2 : heldN clo (unit - rest) r.hi = true) (h3 : rest < unit - rest ∨ rest = unit - rest ∧ number % 2 = 0) : pickN r number rest unit = some number := by
  unfold pickN; rw [hc, h1, h2, if_pos ⟨rfl, fun _ => h3⟩]
theorem pick_tn (h1 : heldN clo rest r.lo = true) (h2 : heldN clo (unit - rest) r.hi = true) (h3 : ¬ (rest < unit - rest ∨ rest = unit - rest ∧ number % 2 = 0)) : pickN r number rest unit = some (number + 1) := by
  unfold pickN; rw [hc, h1, h2, if_neg (fun e => h3 (e.2 rfl))]; simp
end

theorem cmpN_lt {x y : Nat} (h : cmpN x y = -1) : x < y := by
  unfold cmpN at h; split at h
  · assumption
  · split at h <;> simp at h
theorem cmpN_eq {x y : Nat} (h : cmpN x y = 0) : x = y := by
  unfold cmpN at h; split at h
  · simp at h
  · split at h
    · simp at h
    · omega
theorem cmpN_gt {x y : Nat} (h : cmpN x y = 1) : y < x := by
  unfold cmpN at h; split at h
  · simp at h
  · split at h
    · assumption
    · simp at h

/-- What pick answers. -/
def pickV (o : Option Nat) : Value := .tuple #[.int .u64 ((o.getD 0 : Nat) : Int), .bool o.isSome]

theorem bdrew' (w : World) : Hid (Below w.heap.size w w.drew) := (Below.refl _ _).drew

set_option maxHeartbeats 2000000 in
theorem pick_any (oa ol oh : Option Addr) (la ca ll cl lh ch : Nat) (clo : Bool) (vr vu : Value) (r : Near) (number rest unit : Nat) (w : World) (hlo : Nt w (.slice ol ll cl) r.lo) (hhi : Nt w (.slice oh lh ch) r.hi) (hclo : r.clo = clo)
    (hvr : Nt w vr rest) (hvu : Nt w vu unit) (hr : Sm rest) (hu : Sm unit) (hsl : Sm r.lo) (hsh : Sm r.hi) (hle : rest ≤ unit) (hn : number < 9223372036854775808) :
    Calls Tryz.prog 41 #[reachV (.slice oa la ca) (.slice ol ll cl) (.slice oh lh ch) clo, .int .u64 (number : Int), vr, vu] w fun e w' => e = .returned (pickV (pickN r number rest unit)) ∧ Below w.heap.size w w' := by
  have hb0 : Below w.heap.size w (w.alloc (.cells #[.slice oa la ca, .slice ol ll cl, .slice oh lh ch, .bool clo] 69)) := (Below.refl _ _).alloc (Nat.le_refl _) _
  have SB := nt_sub vu vr unit rest _ (hvu.below hb0) (hvr.below hb0) hu hr hle
  have hvr0 := hvr.below hb0
  have hlo0 := hlo.below hb0
  have hhi0 := hhi.below hb0
  have hsg : Sm (unit - rest) := Nat.lt_of_le_of_lt (Nat.sub_le _ _) hu
  obtain ⟨ro, rc, rx, rfl, _⟩ := hvr
  obtain ⟨uo, uc, ux, rfl, _⟩ := hvu
  have blk := Blk.new w #[.slice oa la ca, .slice ol ll cl, .slice oh lh ch, .bool clo] 69
  obtain ⟨b, eb⟩ : ∃ b, b = w.heap.size := ⟨_, rfl⟩
  rw [← eb] at blk
  have EB := hide eb
  clear eb hlo hhi
  go_enter Tryz.func41, Tryz.ntmps41
  go_wp2_with fail
  refine SB.mono ?_
  rintro e w1 ⟨vg, rfl, hvg, hb1, _⟩
  have hvr1 := hvr0.below hb1
  have hlo1 := hlo0.below hb1
  have hhi1 := hhi0.below hb1
  have blk1 := blk.below hb1 blk.lt
  have hb01 : Below w.heap.size w w1 := hb0.trans (hb1.mono (by simp))
  obtain ⟨go, gc, gx, rfl, gl, gc2, gat, gis⟩ := hvg
  have hvg1 : Nt w1 (.slice go gx.length gc) (unit - rest) := ⟨go, gc, gx, rfl, gl, gc2, gat, gis⟩
  have H : Hid (∀ W (v far : Value) (x y : Nat), Hid (Below w1.heap.size w1 W) → Nt w1 v x → Nt w1 far y → Sm x → Sm y → Calls Tryz.prog 72 #[.agg #[.slice oa la ca, .slice ol ll cl, .slice oh lh ch, .bool clo], v, far] W fun e w' => e = .returned (.bool (heldN clo x y)) ∧ Hid (Below w1.heap.size w1 w') ∧
      w'.cell? ⟨b, 0, none⟩ = some (.slice oa la ca) ∧ w'.cell? ⟨b, 1, none⟩ = some (.slice ol ll cl) ∧ w'.cell? ⟨b, 2, none⟩ = some (.slice oh lh ch) ∧ w'.cell? ⟨b, 3, none⟩ = some (.bool clo)) := by
    intro W v far x y hW h1 h2 h3 h4
    refine (holds_any oa ol oh la ca ll cl lh ch clo v far x y W (h1.below hW.out) (h2.below hW.out) h3 h4).mono ?_
    rintro e w' ⟨rfl, hb⟩
    have hbb := hW.out.trans (hb.mono hW.out.size)
    have q := blk1.below hbb blk1.lt
    exact ⟨rfl, hbb, q.cell 0, q.cell 1, q.cell 2, q.cell 3⟩
  have c0 : w1.cell? ⟨b, 0, none⟩ = some (.slice oa la ca) := blk1.cell 0
  have c1 : w1.cell? ⟨b, 1, none⟩ = some (.slice ol ll cl) := blk1.cell 1
  have c2 : w1.cell? ⟨b, 2, none⟩ = some (.slice oh lh ch) := blk1.cell 2
  have c3 : w1.cell? ⟨b, 3, none⟩ = some (.bool clo) := blk1.cell 3
  have b0 : Hid (Below w1.heap.size w1 w1.drew) := bdrew' w1
  have A1 : Hid (Nt w1 (.slice ro rx.length rc) rest ∧ Nt w1 (.slice ol ll cl) r.lo ∧ Nt w1 (.slice go gx.length gc) (unit - rest) ∧ Nt w1 (.slice oh lh ch) r.hi) := ⟨hvr1, hlo1, hvg1, hhi1⟩
  have A2 : Hid (Sm rest ∧ Sm r.lo ∧ Sm (unit - rest) ∧ Sm r.hi) := ⟨hr, hsl, hsg, hsh⟩
  have HB := hide hb01
  have PN : Hid (r.clo = clo) := hclo
  clear hvr0 hlo0 hhi0 hvr1 hlo1 hhi1 hvg1 hr hu hsl hsh hsg blk blk1 hb0 hb1 hb01 gat gis gl gc2 SB hclo hle
  go_wp2_with fail
  simp only [← EB.out]
  have mk0 : True := trivial
  go_region_held3 (fun w' => w'.cell? ⟨b, 0, none⟩ = some (.slice oa la ca) ∧ w'.cell? ⟨b, 1, none⟩ = some (.slice ol ll cl) ∧ w'.cell? ⟨b, 2, none⟩ = some (.slice oh lh ch) ∧ w'.cell? ⟨b, 3, none⟩ = some (.bool clo)) (go_keep) (first
    | (clear mk0; go_at_call 72; refine (H.out _ _ _ rest r.lo b0 A1.out.1 A1.out.2.1 A2.out.1 A2.out.2.1).mono ?_; rintro e w2 ⟨rfl, b2, k0, k1, k2, k3⟩; have mk1 : True := trivial)
    | (clear mk1; go_at_call 72; refine (H.out _ _ _ (unit - rest) r.hi b2 A1.out.2.2.1 A1.out.2.2.2 A2.out.2.2.1 A2.out.2.2.2).mono ?_; rintro e w3 ⟨rfl, b3, m0, m1, m2, m3⟩; have mk2 : True := trivial))
  have HB3 : Hid (Below w.heap.size w w3) := HB.out.trans (b3.out.mono HB.out.size)
  have CM : Hid (∀ z, cmpN rest (unit - rest) = z → Calls Tryz.prog 73 #[.slice ro rx.length rc, .slice go gx.length gc] w3 fun e w' => e = .returned (.int .i64 z) ∧ Below w.heap.size w w') := by
    intro z hz
    refine (nt_cmp _ _ rest (unit - rest) z w3 (A1.out.1.below b3.out) (A1.out.2.2.1.below b3.out) A2.out.1 A2.out.2.2.1 hz).mono ?_
    rintro e w' ⟨rfl, hb⟩
    exact ⟨rfl, HB3.out.trans (hb.mono HB3.out.size)⟩
  clear H A1 A2 b0 b2 b3 mk2 c0 c1 c2 c3 k0 k1 k2 k3 m0 m1 m2 m3 HB EB
  generalize hd : heldN clo rest r.lo = d
  generalize hu : heldN clo (unit - rest) r.hi = u
  have HD := hide hd
  have HU := hide hu
  clear hd hu
  have fin : ∀ (o : Option Nat) (v : Value) (W : World), pickN r number rest unit = o → v = pickV o → Below w.heap.size w W → (Ending.returned v = Ending.returned (pickV (pickN r number rest unit)) ∧ Below w.heap.size w W) := fun o v W h1 h2 h3 => ⟨by rw [h1, h2], h3⟩
  have FIN := hide fin
  clear fin
  cases d <;> cases u
  · have PK := hide (pick_ff (number := number) PN.out HD.out HU.out)
    clear HD HU PN CM
    go_wp2
    go_ret2
    exact FIN.out _ _ _ PK.out rfl HB3.out
  · have PK := hide (pick_ft (number := number) PN.out HD.out HU.out)
    clear HD HU PN CM
    go_wp2
    go_ret2
    exact FIN.out _ _ _ PK.out rfl HB3.out
  · have PK := hide (pick_tf (number := number) PN.out HD.out HU.out)
    clear HD HU PN CM
    go_wp2
    go_ret2
    exact FIN.out _ _ _ PK.out rfl HB3.out
  · rcases cmpN_or rest (unit - rest) with hc | hc | hc
    · have PK := hide (pick_tt PN.out HD.out HU.out (number := number) (.inl (cmpN_lt hc)))
      have CZ := hide (CM.out _ hc)
      clear HD HU PN CM hc
      go_wp2_with fail
      refine CZ.out.mono ?_
      rintro e w4 ⟨rfl, hb4⟩
      have HB4 := hide hb4
      clear hb4 CZ
      go_wp2
      go_ret2
      exact FIN.out _ _ _ PK.out rfl HB4.out
    · have hq := cmpN_eq hc
      have CZ := hide (CM.out _ hc)
      by_cases he : number % 2 = 0
      · have PK := hide (pick_tt PN.out HD.out HU.out (.inr ⟨hq, he⟩))
        have he' : (number : Int) % 2 = 0 := by omega
        clear HD HU PN CM hc hq he
        go_wp2_with fail
        refine CZ.out.mono ?_
        rintro e w4 ⟨rfl, hb4⟩
        have HB4 := hide hb4
        clear hb4 CZ
        go_wp2
        go_ret2
        exact FIN.out _ _ _ PK.out rfl HB4.out
      · have PK := hide (pick_tn PN.out HD.out HU.out (show ¬ (rest < unit - rest ∨ rest = unit - rest ∧ number % 2 = 0) by omega))
        have he' : ¬ (number : Int) % 2 = 0 := by omega
        clear HD HU PN CM hc hq he
        go_wp2_with fail
        refine CZ.out.mono ?_
        rintro e w4 ⟨rfl, hb4⟩
        have HB4 := hide hb4
        clear hb4 CZ
        go_wp2
        go_ret2
        exact FIN.out _ _ _ PK.out rfl HB4.out
    · have hq := cmpN_gt hc
      have CZ := hide (CM.out _ hc)
      have PK := hide (pick_tn PN.out HD.out HU.out (number := number) (show ¬ (rest < unit - rest ∨ rest = unit - rest ∧ number % 2 = 0) by omega))
      clear HD HU PN CM hc hq
      go_wp2_with fail
      refine CZ.out.mono ?_
      rintro e w4 ⟨rfl, hb4⟩
      have HB4 := hide hb4
      clear hb4 CZ
      go_wp2
      go_ret2
      exact FIN.out _ _ _ PK.out rfl HB4.out

end Go.Proofs.YtpiloigpncbccacGreatDoor

namespace Go.Proofs.YtpiloigpncbccacGreatDoor
open Go.RowKit

theorem p2N_lt {n : Int} {j : Nat} (h1 : -(j : Int) < n) (h2 : n < j) : p2N n < 10 ^ j := by
  have key : ∀ k : Nat, k < j → 10 ^ k < 10 ^ j := fun k hk => (Nat.pow_lt_pow_iff_right (by omega : 1 < 10)).2 hk
  unfold p2N
  split
  · exact Nat.lt_of_le_of_lt (Nat.pow_le_pow_left (by omega) _) (key _ (by omega))
  · exact Nat.lt_of_le_of_lt (Nat.pow_le_pow_left (by omega) _) (key _ (by omega))

theorem p2N_sm {n : Int} (j : Nat) (h1 : -(j : Int) < n) (h2 : n < j) (hj : j ≤ 8000) : Sm (p2N n) := Sm.of (p2N_lt h1 h2) hj

theorem small17 {n : Nat} (h : n < 10 ^ 17) : n < B64 ∧ Sm n := by
  have : (10 : Nat) ^ 17 = 100000000000000000 := by decide
  exact ⟨by unfold B64; omega, Sm.of h (by omega)⟩

theorem mul_lt10 {a b i j : Nat} (h1 : a < 10 ^ i) (h2 : b < 10 ^ j) : a * b < 10 ^ (i + j) := by
  rw [Nat.pow_add]
  exact Nat.mul_lt_mul_of_lt_of_lt h1 h2

theorem fNum_lt17 {F x m : Nat} (hF : F ≤ 52) (hm : m < 2 ^ F) : fNum F x m * 4 < 10 ^ 17 := by
  have a := fNum_lt (x := x) hm
  have b : (2 : Nat) ^ (F + 1) ≤ 2 ^ 53 := Nat.pow_le_pow_right (by omega) (by omega)
  have e1 : (2 : Nat) ^ 53 * 4 < 10 ^ 17 := by decide
  omega

/-- Text and exponent are answered. -/
def TxtPost (w : World) (N : Nat) (ex : Int) (e : Ending) (w' : World) : Prop := e = .returned (.tuple #[.string ⟨(Lib.decDigits N).toArray⟩, .int .i64 ex]) ∧ Below w.heap.size w w'

set_option maxHeartbeats 1000000 in
theorem all_any (F X B x m : Nat) (w : World) (hF : F ≤ 52) (hB : B ≤ 2000) (hx : x ≤ 5000) (hm : m < 2 ^ F) (h1 : -1074 ≤ fPow B x) (h2 : fPow B x ≤ 971) (htab : Tab w) :
    Calls Tryz.prog 31 #[widV F X B, .int .u64 (x : Int), .int .u64 (m : Int)] w (TxtPost w (allD F B x m).1 (allD F B x m).2) := by
  have AM := fun W => amount_any F X B x m W hF hB hx hm
  have h17 := fNum_lt17 (x := x) hF hm
  have s17 := small17 (n := fNum F x m) (by omega)
  have hf : Hid (fNum F x m < B64 ∧ Sm (fNum F x m) ∧ Sm (p2N (fPow B x))) := ⟨s17.1, s17.2, p2N_sm 1081 (by omega) (by omega) (by omega)⟩
  clear s17
  obtain ⟨nn, hnn⟩ : ∃ nn, nn = fNum F x m := ⟨_, rfl⟩
  obtain ⟨pp, hpp⟩ : ∃ pp, pp = fPow B x := ⟨_, rfl⟩
  have AM' : Hid (∀ W, Calls Tryz.prog 52 #[widV F X B, .int .u64 (x : Int), .int .u64 (m : Int)] W fun e w' => e = .returned (.tuple #[.int .u64 (nn : Int), .int .i64 pp]) ∧ Below W.heap.size W w') := by rw [hnn, hpp]; exact AM
  unfold allD
  rw [← hpp] at h1 h2 hf ⊢
  rw [← hnn] at hf ⊢
  have HT := hide htab
  clear AM hnn hpp h17 hm htab
  go_enter Tryz.func31, Tryz.ntmps31
  go_wp2_with fail
  refine (AM'.out _).mono ?_
  rintro e w1 ⟨rfl, hb1⟩
  go_wp2_with fail
  refine (nt_power pp _ (by omega) (by omega)).mono ?_
  rintro e w2 ⟨v, rfl, hv, hb2, _⟩
  obtain ⟨o, c, xs, rfl, _⟩ := id hv
  have HV := hide hv
  have hbw : Below w.heap.size w w2 := ((Below.refl _ _).alloc (Nat.le_refl _) _).trans ((hb1.mono (by simp)).trans (hb2.mono (by have := hb1.size; simp at this; omega)))
  have HB := hide hbw
  clear hv hb1 hb2 hbw
  go_wp2_with fail
  refine (nt_of nn _ hf.out.1).mono ?_
  rintro e w3 ⟨v3, rfl, hv3, hb3, _⟩
  go_wp2_with fail
  refine (nt_mul v3 _ nn (p2N pp) _ hv3 (HV.out.below hb3) hf.out.2.1 hf.out.2.2).mono ?_
  rintro e w4 ⟨v4, rfl, hv4, hb4, _⟩
  have hb04 : Below w.heap.size w w4 := HB.out.trans ((hb3.mono HB.out.size).trans (hb4.mono (by have := HB.out.size; have := hb3.size; omega)))
  have HB4 := hide hb04
  clear hb3 hb4 hv3 hb04
  go_wp2_with fail
  refine (nt_text v4 _ _ hv4 (HT.out.below HB4.out)).mono ?_
  rintro e w5 ⟨rfl, hb5⟩
  have HB5 := hide (HB4.out.trans (hb5.mono HB4.out.size))
  clear hb5 hv4
  go_wp2
  go_ret2
  exact ⟨rfl, HB5.out⟩

/-- What reachOf answers: three numbers, whether the ends are in reach, and the exponent. -/
structure ReachAt (w' : World) (r : Near) (va vl vh : Value) : Prop where
  amt : Nt w' va r.amt
  lo : Nt w' vl r.lo
  hi : Nt w' vh r.hi

def ReachPost (w : World) (r : Near) (ex : Int) (e : Ending) (w' : World) : Prop :=
  ∃ oa la ca ol ll cl oh lh ch, e = .returned (.tuple #[reachV (.slice oa la ca) (.slice ol ll cl) (.slice oh lh ch) r.clo, .int .i64 ex]) ∧ ReachAt w' r (.slice oa la ca) (.slice ol ll cl) (.slice oh lh ch) ∧ Below w.heap.size w w'

theorem results_cell2 {fn : Func} {a b : Tmp} (h : fn.results = #[.cell a 69, .tmp b]) (tmps : Array Value) (H : Nat) (x0 x1 x2 x3 y : Value) (w : World) (ht : tmps.getD a undef = .pointer (some ⟨H, 0, none⟩)) (hy : tmps.getD b undef = y) (hp : Blk w H #[x0, x1, x2, x3] 69) :
    (results fn tmps).run Tryz.prog w = .ok (.tuple #[.agg #[x0, x1, x2, x3], y]) w := by
  have c0 := hp.cell 0
  have c1 := hp.cell 1
  have c2 := hp.cell 2
  have c3 := hp.cell 3
  simp at c0 c1 c2 c3
  rw [Array.getD_eq_getD_getElem?] at ht hy
  simp [results, h, ht, hy, go_sem, c0, c1, c2, c3]

set_option maxHeartbeats 2000000 in
theorem reach_any (F X B x m : Nat) (w : World) (hF : F ≤ 52) (hB : B ≤ 2000) (hx : x ≤ 5000) (hm : m < 2 ^ F) (h1 : -1074 ≤ fPow B x) (h2 : fPow B x ≤ 971) :
    Calls Tryz.prog 36 #[widV F X B, .int .u64 (x : Int), .int .u64 (m : Int)] w (ReachPost w (nearOf F B x m) (p2E (fPow B x - 2))) := by
  have AM := fun W => amount_any F X B x m W hF hB hx hm
  have h17 := fNum_lt17 (x := x) hF hm
  have s17 := small17 h17
  have hm64 : m < 4503599627370496 := Nat.lt_of_lt_of_le hm (Nat.pow_le_pow_right (by omega) hF)
  obtain ⟨nn, hnn⟩ : ∃ nn, nn = fNum F x m := ⟨_, rfl⟩
  obtain ⟨pp, hpp⟩ : ∃ pp, pp = fPow B x := ⟨_, rfl⟩
  obtain ⟨q, hq⟩ : ∃ q, q = p2N (pp - 2) := ⟨_, rfl⟩
  have hf : Hid (nn * 4 < B64 ∧ Sm (nn * 4) ∧ Sm q ∧ Sm 2) := ⟨by rw [hnn]; exact s17.1, by rw [hnn]; exact s17.2, by rw [hq]; exact p2N_sm 1081 (by omega) (by omega) (by omega), Sm.of (k := 1) (by omega) (by omega)⟩
  have PW : Hid (∀ W, Calls Tryz.prog 53 #[.int .i64 (pp - 2)] W (NtErr W q (p2E (pp - 2)))) := by
    intro W; rw [hq]; exact nt_power _ W (by omega) (by omega)
  have AM' : Hid (∀ W, Calls Tryz.prog 52 #[widV F X B, .int .u64 (x : Int), .int .u64 (m : Int)] W fun e w' => e = .returned (.tuple #[.int .u64 (nn : Int), .int .i64 pp]) ∧ Below W.heap.size W w') := by rw [hnn, hpp]; exact AM
  have NR : Hid (nearOf F B x m = ⟨q * (nn * 4), if m = 0 ∧ 1 < x then q else q * 2, q * 2, decide (m % 2 = 0)⟩) := by rw [hq, hnn, hpp]; rfl
  have h4 : nn < 4611686018427387904 := by
    have : (10 : Nat) ^ 17 = 100000000000000000 := by decide
    omega
  rw [← hpp] at h1 h2 ⊢
  clear AM hnn hpp h17 hm s17 hq hF
  have blk := Blk.newAt (w.alloc (.cells #[.int .i64 (F : Int), .int .i64 (X : Int), .int .i64 (-(B : Int))] 46)) (w.heap.size + 1) (by simp) #[.slice none 0 0, .slice none 0 0, .slice none 0 0, .bool false] 69
  have BLK := hide blk
  have hb0 : Below w.heap.size w ((w.alloc (.cells #[.int .i64 (F : Int), .int .i64 (X : Int), .int .i64 (-(B : Int))] 46)).alloc (.cells #[.slice none 0 0, .slice none 0 0, .slice none 0 0, .bool false] 69)) := ((Below.refl _ _).alloc (Nat.le_refl _) _).alloc (by simp) _
  have HB0 := hide hb0
  clear blk hb0
  go_enter Tryz.func36, Tryz.ntmps36
  go_wp2_with fail
  refine (AM'.out _).mono ?_
  rintro e w1 ⟨rfl, hb1⟩
  have BLK1 := hide (BLK.out.below hb1 BLK.out.lt)
  have HB1 := hide (HB0.out.trans (hb1.mono (by simp; omega)))
  clear hb1 BLK HB0 AM'
  go_wp2_with fail
  refine (PW.out _).mono ?_
  rintro e w2 ⟨vq, rfl, hvq, hb2, fq⟩
  obtain ⟨oq, cq, xq, rfl, _⟩ := id hvq
  have BLK2 := hide (BLK1.out.below hb2 BLK1.out.lt)
  have HB2 := hide (HB1.out.trans (hb2.mono HB1.out.size))
  have FQ : Hid (Far (w.heap.size + 2) (.slice oq xq.length cq)) := fq.mono (by have := BLK1.out.lt; omega)
  have HQ := hide hvq
  clear hb2 BLK1 HB1 PW fq hvq
  go_wp2_with fail
  refine (nt_of 2 _ (by decide)).mono ?_
  rintro e w3 ⟨v3, rfl, hv3, hb3, _⟩
  go_wp2_with fail
  refine (nt_mul _ v3 q 2 _ (HQ.out.below hb3) hv3 hf.out.2.2.1 hf.out.2.2.2).mono ?_
  rintro e w4 ⟨v4, rfl, hv4, hb4, f4⟩
  obtain ⟨o4, c4, x4, rfl, _⟩ := id hv4
  have hb34 := hb3.trans (hb4.mono hb3.size)
  have BLK4 := hide (BLK2.out.below hb34 BLK2.out.lt)
  have HB4 := hide (HB2.out.trans (hb34.mono HB2.out.size))
  have F4 : Hid (Far (w.heap.size + 2) (.slice o4 x4.length c4)) := f4.mono (by have := BLK2.out.lt; have := hb3.size; omega)
  have H4 := hide hv4
  have HQ4 := hide (HQ.out.below hb34)
  clear hb3 hb4 hb34 hv3 hv4 f4 BLK2 HB2 HQ
  have END : ∀ (ol : Option Addr) (ll cl : Nat) (lo : Nat), (if m = 0 ∧ 1 < x then q else q * 2) = lo → Nt w4 (.slice ol ll cl) lo → Far (w.heap.size + 2) (.slice ol ll cl) → ∀ (w5 : World) (o5 : Option Addr) (l5 c5 : Nat), Below w4.heap.size w4 w5 → Nt w5 (.slice o5 l5 c5) (q * (nn * 4)) → Far w4.heap.size (.slice o5 l5 c5) →
      ReachPost w (nearOf F B x m) (p2E (pp - 2)) (.returned (.tuple #[.agg #[.slice o5 l5 c5, .slice ol ll cl, .slice o4 x4.length c4, .bool (decide (m % 2 = 0))], .int .i64 (p2E (pp - 2))]))
        ((((w5.setCell ⟨w.heap.size + 1, 0, none⟩ (.slice o5 l5 c5)).setCell ⟨w.heap.size + 1, 1, none⟩ (.slice ol ll cl)).setCell ⟨w.heap.size + 1, 2, none⟩ (.slice o4 x4.length c4)).setCell ⟨w.heap.size + 1, 3, none⟩ (.bool (decide (m % 2 = 0)))) := by
    intro ol ll cl lo hlo n1 g1 w5 o5 l5 c5 hb5 n5 g5
    have hlt := BLK4.out.lt
    have hb := HB4.out.trans (hb5.mono HB4.out.size)
    have put : ∀ {v : Value} {n : Nat}, Nt w5 v n → Far (w.heap.size + 2) v → Nt ((((w5.setCell ⟨w.heap.size + 1, 0, none⟩ (.slice o5 l5 c5)).setCell ⟨w.heap.size + 1, 1, none⟩ (.slice ol ll cl)).setCell ⟨w.heap.size + 1, 2, none⟩ (.slice o4 x4.length c4)).setCell ⟨w.heap.size + 1, 3, none⟩ (.bool (decide (m % 2 = 0)))) v n := fun h g =>
      (((h.put g (by simp) _).put g (by simp) _).put g (by simp) _).put g (by simp) _
    refine ⟨o5, l5, c5, ol, ll, cl, o4, x4.length, c4, by rw [NR.out], ?_, (((hb.setCell (by simp) _).setCell (by simp) _).setCell (by simp) _).setCell (by simp) _⟩
    rw [NR.out]
    exact ⟨put n5 (g5.mono (by omega)), by rw [hlo]; exact put (n1.below hb5) g1, put (H4.out.below hb5) F4.out⟩
  have HE := hide END
  have OF : Hid (∀ W, Calls Tryz.prog 43 #[.int .u64 ((nn : Int) * 4)] W (NtPost W (nn * 4))) := by
    intro W
    rw [show (nn : Int) * 4 = ((nn * 4 : Nat) : Int) by omega]
    exact nt_of _ W hf.out.1
  have ODD : Hid (((m : Int) % 2 == 0) = decide (m % 2 = 0)) := by
    by_cases h : m % 2 = 0
    · have : (m : Int) % 2 = 0 := by omega
      show ((m : Int) % 2 == 0) = decide (m % 2 = 0)
      rw [this, decide_eq_true h]; rfl
    · have h' : ¬ (m : Int) % 2 = 0 := by omega
      show ((m : Int) % 2 == 0) = decide (m % 2 = 0)
      rw [decide_eq_false h]; simpa using h'
  clear END
  by_cases hmx : m = 0
  · by_cases hx1 : 1 < x
    · have e1 : (m : Int) = 0 := by omega
      have e2 : (1 : Int) < (x : Int) := by omega
      have IF : Hid ((if m = 0 ∧ 1 < x then q else q * 2) = q) := if_pos ⟨hmx, hx1⟩
      have EV : Hid (decide (m % 2 = 0) = true) := decide_eq_true (by rw [hmx])
      clear hmx hx1 ODD
      go_wp2_with fail
      refine (OF.out _).mono ?_
      rintro e w5 ⟨v5, rfl, hv5, hb5, _⟩
      go_wp2_with fail
      refine (nt_mul _ v5 q (nn * 4) _ (HQ4.out.below hb5) hv5 hf.out.2.2.1 hf.out.2.1).mono ?_
      rintro e w6 ⟨v6, rfl, hv6, hb6, f6⟩
      obtain ⟨o6, c6, x6, rfl, _⟩ := id hv6
      have hb46 := hb5.trans (hb6.mono hb5.size)
      have pr := BLK4.out.below hb46 BLK4.out.lt
      have PR := hide pr
      have k0 := pr.cell 0
      have f0r := pr.free 0
      have k1 := pr.cell 1
      have f1r := pr.free 1
      have k2 := pr.cell 2
      have f2r := pr.free 2
      have k3 := pr.cell 3
      have f3r := pr.free 3
      simp only [List.getElem?_toArray, List.getElem?_cons_succ, List.getElem?_cons_zero] at k0 k1 k2 k3
      have FIN := hide (HE.out oq xq.length cq q IF.out HQ4.out FQ.out w6 o6 x6.length c6 hb46 hv6 (f6.mono hb5.size))
      clear pr hb5 hb6 hb46 hv5 hv6 f6 HE
      go_wp2
      refine bodyPost_ret (results_cell2 rfl _ _ _ _ _ _ _ _ rfl rfl (PR.out.put4 _ _ _ _)) rfl ?_
      have fin := FIN.out
      rw [EV.out] at fin
      exact fin
    · have e1 : (m : Int) = 0 := by omega
      have e2 : ¬ (1 : Int) < (x : Int) := by omega
      have IF : Hid ((if m = 0 ∧ 1 < x then q else q * 2) = q * 2) := if_neg (fun h => hx1 h.2)
      have EV : Hid (decide (m % 2 = 0) = true) := decide_eq_true (by rw [hmx])
      clear hmx hx1 ODD
      go_wp2_with fail
      refine (OF.out _).mono ?_
      rintro e w5 ⟨v5, rfl, hv5, hb5, _⟩
      go_wp2_with fail
      refine (nt_mul _ v5 q (nn * 4) _ (HQ4.out.below hb5) hv5 hf.out.2.2.1 hf.out.2.1).mono ?_
      rintro e w6 ⟨v6, rfl, hv6, hb6, f6⟩
      obtain ⟨o6, c6, x6, rfl, _⟩ := id hv6
      have hb46 := hb5.trans (hb6.mono hb5.size)
      have pr := BLK4.out.below hb46 BLK4.out.lt
      have PR := hide pr
      have k0 := pr.cell 0
      have f0r := pr.free 0
      have k1 := pr.cell 1
      have f1r := pr.free 1
      have k2 := pr.cell 2
      have f2r := pr.free 2
      have k3 := pr.cell 3
      have f3r := pr.free 3
      simp only [List.getElem?_toArray, List.getElem?_cons_succ, List.getElem?_cons_zero] at k0 k1 k2 k3
      have FIN := hide (HE.out o4 x4.length c4 (q * 2) IF.out H4.out F4.out w6 o6 x6.length c6 hb46 hv6 (f6.mono hb5.size))
      clear pr hb5 hb6 hb46 hv5 hv6 f6 HE
      go_wp2
      refine bodyPost_ret (results_cell2 rfl _ _ _ _ _ _ _ _ rfl rfl (PR.out.put4 _ _ _ _)) rfl ?_
      have fin := FIN.out
      rw [EV.out] at fin
      exact fin
  · have e1 : ¬ (m : Int) = 0 := by omega
    have IF : Hid ((if m = 0 ∧ 1 < x then q else q * 2) = q * 2) := if_neg (fun h => hmx h.1)
    clear hmx
    go_wp2_with fail
    refine (OF.out _).mono ?_
    rintro e w5 ⟨v5, rfl, hv5, hb5, _⟩
    go_wp2_with fail
    refine (nt_mul _ v5 q (nn * 4) _ (HQ4.out.below hb5) hv5 hf.out.2.2.1 hf.out.2.1).mono ?_
    rintro e w6 ⟨v6, rfl, hv6, hb6, f6⟩
    obtain ⟨o6, c6, x6, rfl, _⟩ := id hv6
    have hb46 := hb5.trans (hb6.mono hb5.size)
    have pr := BLK4.out.below hb46 BLK4.out.lt
    have PR := hide pr
    have k0 := pr.cell 0
    have f0r := pr.free 0
    have k1 := pr.cell 1
    have f1r := pr.free 1
    have k2 := pr.cell 2
    have f2r := pr.free 2
    have k3 := pr.cell 3
    have f3r := pr.free 3
    simp only [List.getElem?_toArray, List.getElem?_cons_succ, List.getElem?_cons_zero] at k0 k1 k2 k3
    have FIN := hide (HE.out o4 x4.length c4 (q * 2) IF.out H4.out F4.out w6 o6 x6.length c6 hb46 hv6 (f6.mono hb5.size))
    clear pr hb5 hb6 hb46 hv5 hv6 f6 HE
    go_wp2
    rw [ODD.out]
    refine bodyPost_ret (results_cell2 rfl _ _ _ _ _ _ _ _ rfl rfl (PR.out.put4 _ _ _ _)) rfl ?_
    exact FIN.out

end Go.Proofs.YtpiloigpncbccacGreatDoor
