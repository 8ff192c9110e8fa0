/-
  What nat.divLong does.
  What whole.Pow5 and whole.Pow10 do.
  Plain mathematics: decimal digits, the numbers that they are, and texts behind texts.
  Plain mathematics: a float as a number and a power of 2, how far it reaches, and the fewest digits that are picked.
  Plain mathematics: Decs, the one of a number times a power of 10, and those that package shortest tells.
  A variable of several cells, in a block by itself.
  What shortest's binary64, binary32, split, amount and powerOfTwo do.
  What nat.divLong does: the walk.
  nat.DivMod by nought and by one limb, whatever the dividend; literal lists, and what the numbers in them are.
  What nat.DivMod does, whatever the two numbers.
  How two numbers stand, by their values.
  Digits that a function gives.
  Plain mathematics of the reference's shifts.
  Plain mathematics of dividing bit by bit, with digits to the base 65536.
  Lists of limbs that are being built by append.
  What whole.cut does: the number's digits to the base 10^19.
  (*strings.Builder).WriteString at this dump: what it leaves in a builder.
  strconv.FormatUint to the base 10 at this dump: the number's decimal digits.
  What whole.Text does: the number's decimal digits.
  nat's and whole's calls as package shortest makes them: over numbers, wherever their limbs lie.
  What shortest's holds and pick do.
  Plain mathematics: the Decs that package shortest tells have a Dec's one form.
  Plain mathematics: a narrow float taken as a wide one has the same digits, and never fewer of the fewest.
  Plain mathematics: the eight calls whose answers the document fixes.
  Plain mathematics: the digits that package shortest tells stand as the floats do, and the fewest lie nearer to their float than to its neighbours, or midway.
  Plain mathematics: the same for the narrow floats.
  Plain mathematics: the float that an amount is nearest to, midway the even one; there is just one; what is rounded in steps and joined is it.
  Plain mathematics: the bits that package nearest answers, and those of its reference, are the nearest float's.
  Plain mathematics: a float's digits, the fewest and all of them, are nearest to it; the bits that package nearest answers for a Dec.
-/
import Derived.Test.YtlhekeifffofjaaGreatDoorZB2
import Derived.Test.YtlhekeifffofjaaGreatDoorZGuess
import Derived.Test.YtlhekeifffofjaaGreatDoorZDown
import Derived.Test.YtlhekeifffofjaaGreatDoorZB3
import Derived.Laws.BitsLemmas
import Derived.Test.YtlhekeifffofjaaGreatDoorZCarry
import Derived.Lib.ItoaNum
import Derived.Lib.TrimByte
import Derived.Test.YtlhekeifffofjaaGreatDoorZNorm
import Derived.Handy
import Derived.Test.YtlhekeifffofjaaGreatDoorZSub
import Derived.Test.YtlhekeifffofjaaGreatDoorZSame
import Derived.Test.YtlhekeifffofjaaGreatDoorZCmp
import Derived.Test.YtlhekeifffofjaaGreatDoorZB1
import Derived.Test.YtlhekeifffofjaaGreatDoorZOwn
import Derived.Deep.AppendLies
import Derived.Test.YtlhekeifffofjaaGreatDoorZUintF
import Derived.Lib.Builder
import Derived.Lib.AppendStr
import Derived.Lib.UnsafeStr
import Derived.Laws.Externs
import Derived.Test.YtlhekeifffofjaaGreatDoorShelf
import Derived.Lib.AppendIntMem
import Derived.Laws.IdiomStrings
import Derived.Deep.RegionHeld3
namespace Go.Proofs.YtlhekeifffofjaaGreatDoor
open Go.RowKit

theorem hide {p : Prop} (h : p) : Hid p := h

theorem Row.gr {k : IntKind} {e : TypeId} {w w' : World} {g h : Nat} {xs : List Nat} (hr : Row k e w h xs) (hg : w.grownBy w' (some g)) (hne : h ≠ g) : Row k e w' h xs := by
  have hlt := hr.lt
  unfold Row at *
  rw [hg.block h hlt (by simp; exact hne)]; exact hr

theorem At.gr {k : IntKind} {w w' : World} {g b o : Nat} {xs : List Nat} (h : At k w (some ⟨b, o, none⟩) xs) (hg : w.grownBy w' (some g)) (hne : b ≠ g) : At k w' (some ⟨b, o, none⟩) xs := by
  rcases h with h | ⟨b', o', h1, h2, h3⟩
  · exact .inl h
  · simp only [Option.some.injEq, Addr.mk.injEq] at h1
    obtain ⟨rfl, rfl, _⟩ := h1
    refine .inr ⟨b, o, rfl, Nat.lt_of_lt_of_le h2 hg.size, fun i hi => ?_⟩
    rw [World.cell?_of_block (w := w) (hg.block b h2 (by simp; exact hne))]
    exact h3 i hi

theorem At.like {k : IntKind} {w w' : World} {ao : Option Addr} {xs : List Nat} (h : At k w ao xs) (hl : Like w' w) : At k w' ao xs := h.same hl.1

theorem Like.bel {w w' : World} (h : Like w' w) (B : Nat) : Below B w w' := h.below (Below.refl _ _)

theorem Like.trans {a b c : World} (h1 : Like c b) (h2 : Like b a) : Like c a := ⟨h1.1.trans h2.1, h1.2.1.trans h2.2.1, h1.2.2.1.trans h2.2.2.1, h1.2.2.2.trans h2.2.2.2⟩

theorem At.put {k : IntKind} {w : World} {b o : Nat} {xs : List Nat} (h : At k w (some ⟨b, o, none⟩) xs) {a : Addr} (ha : b ≠ a.block) (u : Value) : At k (w.setCell a u) (some ⟨b, o, none⟩) xs := by
  rcases h with h | ⟨b', o', h1, h2, h3⟩
  · exact .inl h
  · simp only [Option.some.injEq, Addr.mk.injEq] at h1
    obtain ⟨rfl, rfl, _⟩ := h1
    refine .inr ⟨b, o, rfl, by simpa [World.setCell] using h2, fun i hi => ?_⟩
    rw [World.cell?_of_block (w := w) (Below.heap_setCell _ _ _ _ ha)]
    exact h3 i hi

/-- At the head of divLong's loop, k limbs of the quotient being left: zs is the divisor in block Hd, the rest lies in Hr, the quotient in Hq. -/
structure LongInv (w : World) (Hd Hr Hq m c : Nat) (zs : List Nat) (A k : Nat) (wr : World) : Prop where
  bel : Below w.heap.size w wr
  div : At .u64 wr (some ⟨Hd, 0, none⟩) zs
  row : ∃ r q, Row .u64 24 wr Hr r ∧ r.length = m + 1 ∧ Ok B64 r ∧ num B64 r < num B64 zs * B64 ^ k ∧ Row .u64 24 wr Hq q ∧ q.length = c ∧ Ok B64 q ∧ (∀ j, j < k → dg q j = 0) ∧ num B64 r + num B64 zs * num B64 q = A

/-- The quotient's new limb, and the rest. -/
theorem long_put {r r1 q zs : List Nat} {g k A : Nat} (hk : k < q.length) (hq0 : dg q k = 0) (h1 : num B64 r1 + num B64 zs * g * B64 ^ k = num B64 r) (h : num B64 r + num B64 zs * num B64 q = A) :
    num B64 r1 + num B64 zs * num B64 (q.set k g) = A := by
  have e1 := num_set B64 q k g hk
  rw [hq0, Nat.zero_mul, Nat.add_zero] at e1
  rw [e1, Nat.mul_add, ← Nat.mul_assoc]
  omega

theorem LongInv.step {w w2 wr' : World} {Hd Hr Hq m c A k g : Nat} {zs r r1 q : List Nat} (hd : Hd ≠ Hq) (hrq : Hr ≠ Hq) (hq : w.heap.size ≤ Hq) (hbel : Below w.heap.size w w2) (hdiv : At .u64 w2 (some ⟨Hd, 0, none⟩) zs)
    (hr1 : Row .u64 24 w2 Hr r1) (hl1 : r1.length = m + 1) (ho1 : Ok B64 r1) (hlt : num B64 r1 < num B64 zs * B64 ^ k) (hsum : num B64 r1 + num B64 zs * g * B64 ^ k = num B64 r)
    (hrq' : Row .u64 24 w2 Hq q) (hlq : q.length = c) (hoq : Ok B64 q) (hz : ∀ j, j < k + 1 → dg q j = 0) (hA : num B64 r + num B64 zs * num B64 q = A) (hk : k < c) (hg : g < B64)
    (hw : Like wr' (w2.setCell ⟨Hq, k, none⟩ (.int .u64 (g : Int)))) : LongInv w Hd Hr Hq m c zs A k wr' := by
  refine ⟨hw.below (hbel.setCell hq _), (hdiv.put (by exact hd) _).like hw, r1, q.set k g, (hr1.other (by exact hrq) _).alike hw, hl1, ho1, hlt, (hrq'.set k _).alike hw, by simp [hlq], hoq.set (by omega) hg, ?_, ?_⟩
  · intro j hj
    rw [dg_set _ _ _ _ (by omega), if_neg (by omega)]
    exact hz j (by omega)
  · exact long_put (by omega) (hz k (by omega)) hsum hA

/-- What divLong answers. -/
def LongPost (w : World) (m q r : Nat) (e : Ending) (w' : World) : Prop :=
  ∃ v1 r1 v2 r2, e = .returned (.tuple #[v1, v2]) ∧ Own .u64 24 w' w.heap.size m v1 r1 ∧ Own .u64 24 w' w.heap.size m v2 r2 ∧ Is B64 r1 q ∧ Is B64 r2 r ∧ Below w.heap.size w w' ∧
    (v1.ownBlock = none ∨ v1.ownBlock ≠ v2.ownBlock)

/-- The shift that sets the divisor's highest bit. -/
theorem lead_shift {x : Nat} (h0 : x ≠ 0) (hx : x < B64) : ∃ s, s = 64 - Lib.bitLen x ∧ s ≤ 63 ∧ 2 ^ 63 ≤ x * 2 ^ s ∧ x * 2 ^ s < 2 ^ 64 := by
  obtain ⟨n, hn, hn1, hn2⟩ := bitsN_spec h0
  have hbl := bitLen_bits x (by rw [← B64_pow]; exact hx)
  have hle := bitsN_le hx
  refine ⟨63 - n, by omega, by omega, ?_, ?_⟩
  · have hp2 : 2 ^ n * 2 ^ (63 - n) = (2 : Nat) ^ 63 := by rw [← Nat.pow_add]; congr 1; omega
    rw [← hp2]; exact Nat.mul_le_mul_right _ hn1
  · have hp : 2 ^ (n + 1) * 2 ^ (63 - n) = (2 : Nat) ^ 64 := by rw [← Nat.pow_add]; congr 1; omega
    rw [← hp]; exact Nat.mul_lt_mul_of_pos_right hn2 (Nat.two_pow_pos _)

theorem num_top {b : Nat} {xs : List Nat} {n : Nat} (h : xs.length = n + 1) : num b xs = V b (dg xs) n + dg xs n * b ^ n := by unfold num; rw [h]; rfl

/-- The divisor behind the shift: as many limbs, and the highest bit set. -/
theorem long_divisor {ys yu : List Nat} {p s : Nat} (oy : Ok B64 ys) (hy : ys.length = p + 2) (ou : Ok B64 yu) (hs : 2 ^ 63 ≤ dg ys (p + 1) * 2 ^ s) (hs2 : dg ys (p + 1) * 2 ^ s < 2 ^ 64) (hn : num B64 yu = num B64 ys * 2 ^ s) :
    (trimmed yu).length = p + 2 ∧ B64 ≤ 2 * dg (trimmed yu) (p + 1) := by
  have hB : B64 = 2 ^ 64 := B64_pow
  have h63 : (2 : Nat) ^ 64 = 2 * 2 ^ 63 := by decide +kernel
  have hb : 0 < B64 := by decide
  have e1 := num_top (b := B64) hy
  have hV : V B64 (dg ys) (p + 1) < B64 ^ (p + 1) := V_lt _ (fun i _ => oy i)
  have hP : 0 < B64 ^ (p + 1) := Nat.pow_pos hb
  have lo : 2 ^ 63 * B64 ^ (p + 1) ≤ num B64 yu := by
    rw [hn, e1, Nat.add_mul]
    have := Nat.mul_le_mul_right (B64 ^ (p + 1)) hs
    rw [Nat.mul_right_comm] at this
    omega
  have hi : num B64 yu < B64 ^ (p + 2) := by
    rw [hn, e1]
    have a1 : (V B64 (dg ys) (p + 1) + dg ys (p + 1) * B64 ^ (p + 1)) < (dg ys (p + 1) + 1) * B64 ^ (p + 1) := by rw [Nat.add_mul]; omega
    have a2 := Nat.mul_lt_mul_of_pos_right a1 (Nat.two_pow_pos s)
    have hs64 : s ≤ 63 := by
      rcases Nat.lt_or_ge 63 s with h | h
      · have : 2 ^ 64 ≤ (2 : Nat) ^ s := Nat.pow_le_pow_right (by decide) h
        have : 1 * 2 ^ s ≤ dg ys (p + 1) * 2 ^ s := Nat.mul_le_mul_right _ (by
          rcases hd : dg ys (p + 1) with _ | d
          · rw [hd] at hs; simp at hs
          · omega)
        omega
      · exact h
    have a3 : (dg ys (p + 1) + 1) * 2 ^ s ≤ B64 := by
      have : 2 ^ 64 = 2 ^ (64 - s) * 2 ^ s := by rw [← Nat.pow_add]; congr 1; omega
      rw [hB]
      rw [this] at hs2 ⊢
      exact Nat.mul_le_mul_right _ (Nat.lt_of_mul_lt_mul_right hs2)
    have a4 := Nat.mul_le_mul_right (B64 ^ (p + 1)) a3
    rw [Nat.mul_right_comm] at a4
    rw [Nat.pow_succ B64 (p + 1), Nat.mul_comm (B64 ^ (p + 1))]
    exact Nat.lt_of_lt_of_le a2 a4
  have tt := trimmed_top yu
  have tn := num_trimmed B64 yu
  have tok1 := trimmed_ok ou
  have hlen : (trimmed yu).length = p + 2 := by
    have l1 := num_lt tok1
    rw [tn] at l1
    have a1 : p + 1 < (trimmed yu).length := by
      rcases Nat.lt_or_ge (p + 1) (trimmed yu).length with h | h
      · exact h
      · have := Nat.pow_le_pow_right hb h
        have : 1 * B64 ^ (p + 1) ≤ 2 ^ 63 * B64 ^ (p + 1) := Nat.mul_le_mul_right _ (by decide)
        omega
    rcases hl : (trimmed yu).length with _ | t
    · omega
    · have a2 := num_ge (b := B64) tt hl
      rw [tn] at a2
      have : t < p + 2 := by
        rcases Nat.lt_or_ge t (p + 2) with h | h
        · exact h
        · have := Nat.pow_le_pow_right hb h; omega
      omega
  refine ⟨hlen, ?_⟩
  have e2 := num_top (b := B64) hlen
  rw [tn] at e2
  have hV2 : V B64 (dg (trimmed yu)) (p + 1) < B64 ^ (p + 1) := V_lt _ (fun i _ => tok1 i)
  have : 2 ^ 63 * B64 ^ (p + 1) < (dg (trimmed yu) (p + 1) + 1) * B64 ^ (p + 1) := by rw [Nat.add_mul]; omega
  have := Nat.lt_of_mul_lt_mul_right this
  rw [hB, h63]
  omega

/-- At the start nothing is divided yet, and the dividend is small enough. -/
theorem long_start {xs zs : List Nat} {m p c s : Nat} (ox : Ok B64 xs) (hx : xs.length = m) (hz : zs.length = p + 2) (htop : B64 ≤ 2 * dg zs (p + 1)) (hc : c + (p + 2) = m + 1) (hs : s ≤ 63) : num B64 xs * 2 ^ s < num B64 zs * B64 ^ c := by
  have hB : B64 = 2 ^ 64 := B64_pow
  have h63 : (2 : Nat) ^ 64 = 2 * 2 ^ 63 := by decide +kernel
  have a1 := num_lt ox
  rw [hx] at a1
  have e1 := num_top (b := B64) hz
  have a2 : 2 ^ 63 * B64 ^ (p + 1) ≤ num B64 zs := by
    have := Nat.mul_le_mul_right (B64 ^ (p + 1)) (show 2 ^ 63 ≤ dg zs (p + 1) by omega)
    omega
  have a3 := Nat.mul_le_mul_right (B64 ^ c) a2
  rw [Nat.mul_assoc, ← Nat.pow_add, show p + 1 + c = m by omega] at a3
  have a4 : (2 : Nat) ^ s ≤ 2 ^ 63 := Nat.pow_le_pow_right (by decide) hs
  have a5 : num B64 xs * 2 ^ s < B64 ^ m * 2 ^ s := Nat.mul_lt_mul_of_pos_right a1 (Nat.two_pow_pos s)
  have a6 : B64 ^ m * 2 ^ s ≤ B64 ^ m * 2 ^ 63 := Nat.mul_le_mul_left _ a4
  rw [Nat.mul_comm (2 ^ 63)] at a3
  omega

/-- At the end quotient and rest are what they are without the shift. -/
theorem long_end {X Y q r s : Nat} (hr : r < Y * 2 ^ s) (h : r + Y * 2 ^ s * q = X * 2 ^ s) : q = X / Y ∧ r / 2 ^ s = X % Y ∧ 0 < Y := by
  have hs := Nat.two_pow_pos s
  have hY : 0 < Y := by rcases Y with _ | y; simp at hr; omega
  have hYs : 0 < Y * 2 ^ s := Nat.mul_pos hY hs
  have q1 : X * 2 ^ s / (Y * 2 ^ s) = q := by rw [← h, Nat.add_mul_div_left _ _ hYs, Nat.div_eq_of_lt hr, Nat.zero_add]
  have q2 : X * 2 ^ s % (Y * 2 ^ s) = r := by rw [← h, Nat.add_mul_mod_self_left, Nat.mod_eq_of_lt hr]
  rw [Nat.mul_div_mul_right _ _ hs] at q1
  rw [Nat.mul_mod_mul_right] at q2
  exact ⟨q1.symm, by rw [← q2, Nat.mul_div_cancel _ hs], hY⟩

theorem trimmed_small {xs : List Nat} {t : Nat} (h : num B64 xs < B64 ^ t) : (trimmed xs).length ≤ t := by
  rcases hl : (trimmed xs).length with _ | j
  · omega
  · have := num_ge (b := B64) (trimmed_top xs) hl
    rw [num_trimmed] at this
    rcases Nat.lt_or_ge j t with h' | h'
    · omega
    · have := Nat.pow_le_pow_right (show 0 < B64 by decide) h'; omega

end Go.Proofs.YtlhekeifffofjaaGreatDoor

namespace Go.Proofs.YtlhekeifffofjaaGreatDoor
open Go.RowKit

theorem i64_and1 (n : Int) : bits .and .i64 n 1 = n % 2 := by
  have h1 : (BitVec.ofInt 64 1).toNat = 2 ^ 1 - 1 := by decide
  have key : (BitVec.ofInt 64 n &&& BitVec.ofInt 64 1).toNat = (n % ((2 ^ 64 : Nat) : Int)).toNat % 2 ^ 1 := by
    rw [BitVec.toNat_and, BitVec.toNat_ofInt, h1, Nat.and_two_pow_sub_one_eq_mod]
  show IntKind.i64.wrap ((BitVec.ofInt 64 n &&& BitVec.ofInt 64 1).toNat : Nat) = n % 2
  rw [key, IntKind.wrap_i64]
  omega

set_option maxHeartbeats 400000 in
theorem blen_any (n : Nat) (w : World) (hn : n < 18446744073709551616) :
    Calls Tryz.prog 119 #[.int .u64 (n : Int)] w fun e w' => e = .returned (.int .i64 (bitsN n : Int)) ∧ w = w' := by
  have e : Lib.bitLen n = bitsN n := bitLen_bits n (by rw [show (2 : Nat) ^ 64 = 18446744073709551616 by decide +kernel]; exact hn)
  have L := len64 n
  rw [e] at L
  have HL := hide L
  clear L e
  go_enter Tryz.func119, Tryz.ntmps119
  go_wp2_with fail
  refine (HL.out _ hn).mono ?_
  rintro e w' ⟨rfl, rfl⟩
  go_wp2
  go_ret
  exact ⟨rfl, rfl⟩

theorem five_small : (5 : Nat) ^ 8192 < B64 ^ 400 := by decide +kernel

theorem five_len {r : List Nat} {e : Nat} (h : Is B64 r (5 ^ e)) (he : e ≤ 8192) : r.length ≤ 400 := by
  have h1 := Nat.pow_le_pow_right (show 0 < 5 by omega) he
  have h2 := five_small
  have h3 := trimmed_small (xs := r) (t := 400) (by rw [h.2.2]; omega)
  rw [trimmed_of_top h.2.1] at h3
  exact h3

/-- At the head of Pow5's loop, k bits of n being left. -/
structure PowInv (w : World) (n k : Nat) (v : Value) (wr : World) : Prop where
  bel : Below w.heap.size w wr
  own : ∃ r, Own .u64 24 wr w.heap.size 1000 v r ∧ Is B64 r (5 ^ (n / 2 ^ k))

theorem pow_bits (n k : Nat) : n / 2 ^ k = 2 * (n / 2 ^ (k + 1)) + n / 2 ^ k % 2 := by
  rw [Nat.pow_succ, ← Nat.div_div_eq_div_mul]; omega

set_option maxRecDepth 100000 in
set_option maxHeartbeats 1000000 in
theorem pow5_in (n : Nat) (w : World) (hn : n ≤ 8192) :
    Calls Tryz.prog 92 #[.int .i64 (n : Int)] w (ShPost w 1000 (5 ^ n) 0) := by
  have h0 : ¬ (n : Int) < 0 := by omega
  have h1 : ¬ 8192 < (n : Int) := by omega
  obtain ⟨m, hm⟩ : ∃ m, m = bitsN n := ⟨_, rfl⟩
  have hml : m ≤ 64 := by rw [hm]; exact bitsN_le (by show n < 18446744073709551616; omega)
  have HM : Hid (n / 2 ^ m = 0) := by
    show n / 2 ^ m = 0
    by_cases h : n = 0
    · subst h; exact Nat.zero_div _
    · obtain ⟨k, hk, _, h2⟩ := bitsN_spec h
      rw [hm, hk]; exact Nat.div_eq_of_lt h2
  have bl := fun w => blen_any n w (by omega)
  rw [← hm] at bl
  have BL := hide bl
  clear hm bl
  go_enter Tryz.func92, Tryz.ntmps92
  go_wp2_with fail
  refine (of_any 5 _ (by decide)).mono ?_
  rintro e w1 ⟨v, r5, rfl, ho5, io5, hb1⟩
  go_wp2_with fail
  refine (of_any 1 _ (by decide)).mono ?_
  rintro e w2 ⟨v2, r1, rfl, ho1, io1, hb2⟩
  have hb12 := hb1.trans (hb2.mono hb1.size)
  obtain ⟨o5, c5, rfl, hl5, hm5, at5⟩ := ho5.shape
  have at5' := at5.below hb2
  have hs1 : ∀ k, n / 2 ^ k = 0 → PowInv w n k v2 w2 := fun k hk => ⟨hb12, r1, ho1.mono hb1.size (by omega), by rw [hk]; exact io1⟩
  have HS1 := hide hs1
  have hsz := hb12.size
  have l5 : r5.length ≤ 1 := by omega
  clear hs1 ho5 ho1 at5 hb1 hb2
  go_wp2_with fail
  refine (BL.out _).mono ?_
  rintro e w' ⟨rfl, rfl⟩
  go_wp2
  go_loopw [5, 6] (fun v i wr => ∃ k : Nat, k ≤ 64 ∧ i = .int .i64 ((k : Int) - 1) ∧ PowInv w n k v wr ∧ At .u64 wr o5 r5) (fun _ i _ => (intOf i + 1).toNat)
  case atStart => exact ⟨m, hml, congrArg (Value.int IntKind.i64) (by omega), HS1.out _ HM.out, at5'⟩
  case round =>
    clear hb12 HS1 at5'
    obtain ⟨k, hk, rfl, hinv, hat5⟩ := hrel
    obtain ⟨r, hown, his⟩ := hinv.own
    have hbr := hinv.bel
    obtain ⟨op, cp, rfl, hlp, hmp, atp⟩ := hown.shape
    rcases k with _ | k
    · rw [Nat.pow_zero, Nat.div_one] at his
      clear hinv
      go_wp2
      go_ret2
      exact ⟨_, r, rfl, hown, his, hbr⟩
    · have hle : n / 2 ^ (k + 1) ≤ 8192 := Nat.le_trans (Nat.div_le_self _ _) hn
      have hrl := five_len his hle
      have pb := pow_bits n k
      have hlek : n / 2 ^ k ≤ 8192 := Nat.le_trans (Nat.div_le_self _ _) hn
      obtain ⟨u, hu⟩ : ∃ u, u = n / 2 ^ k := ⟨_, rfl⟩
      have m0 : (n : Int) / 2 ^ k = (u : Int) := by rw [hu]; push_cast; rfl
      have m1 : bits .and .i64 (u : Int) 1 = ((u % 2 : Nat) : Int) := by rw [i64_and1]; omega
      have hpw : ∀ (wr' : World) (v : Value) (r' : List Nat), Below wr.heap.size wr wr' → Own .u64 24 wr' wr.heap.size 1000 v r' → Is B64 r' (5 ^ u) → PowInv w n k v wr' := fun wr' v r' h1 h2 h3 =>
        ⟨hbr.trans (h1.mono hbr.size), r', h2.mono hbr.size (Nat.le_refl _), by rw [← hu]; exact h3⟩
      rw [← hu] at pb hlek
      have HPW := hide hpw
      have HPB : Hid (u = 2 * (n / 2 ^ (k + 1)) + u % 2) := pb
      have HU : Hid (u ≤ 8192) := hlek
      have hk63 : k ≤ 63 := by omega
      have h5k : 5 ^ (2 * (n / 2 ^ (k + 1))) = 5 ^ (n / 2 ^ (k + 1)) * 5 ^ (n / 2 ^ (k + 1)) := by rw [← Nat.pow_add]; congr 1; omega
      have H5 := hide h5k
      clear hinv hown hpw pb hu hlek h5k
      go_wp2_with fail
      refine (mul_any op op _ cp _ cp r r _ hlp (by omega) hlp (by omega) rfl rfl atp atp his.1 his.1).mono ?_
      rintro e w3 ⟨v3, r3, rfl, ho3, is3, hb3⟩
      rw [his.2.2, ← H5.out] at is3
      have hat3 := hat5.below hb3
      obtain ⟨o3, c3, rfl, hl3, hm3, at3⟩ := ho3.shape
      have hu2 : u % 2 = 0 ∨ u % 2 = 1 := by omega
      rcases hu2 with hu2 | hu2
      · rw [hu2] at m1
        have is3' : Is B64 r3 (5 ^ u) := by rw [HPB.out, hu2, Nat.add_zero]; exact is3
        have hst := HPW.out _ _ _ hb3 (ho3.mono (Nat.le_refl _) (by omega)) is3'
        have HST := hide hst
        have HAT := hide hat3
        clear hst hat3 hat5 at3 atp is3 is3' ho3 hb3 his hu2
        go_wp2
        go_roundw
        case rel => exact ⟨k, by omega, by go_num, HST.out, HAT.out⟩
        case measure => simp [intOf]
      · rw [hu2] at m1
        have hrl3 := five_len is3 (by have := HPB.out; have := HU.out; omega)
        clear hat5 atp his
        go_wp2_with fail
        refine (mul_any o3 o5 _ c3 _ c5 r3 r5 _ hl3 (by omega) hl5 (by omega) rfl rfl at3 hat3 is3.1 io5.1).mono ?_
        rintro e w4 ⟨v4, r4, rfl, ho4, is4, hb4⟩
        have is4' : Is B64 r4 (5 ^ u) := by
          rw [is3.2.2, io5.2.2, ← Nat.pow_succ] at is4
          rw [HPB.out, hu2]; exact is4
        have hst := HPW.out _ _ _ (hb3.trans (hb4.mono hb3.size)) (ho4.mono hb3.size (by omega)) is4'
        have HST := hide hst
        have HAT := hide (hat3.below hb4)
        clear hst hat3 at3 is3 is4 is4' ho3 ho4 hb3 hb4 hu2
        go_wp2
        go_roundw
        case rel => exact ⟨k, by omega, by go_num, HST.out, HAT.out⟩
        case measure => simp [intOf]

set_option maxHeartbeats 400000 in
theorem pow10_in (n : Nat) (w : World) (hn : n ≤ 8192) :
    Calls Tryz.prog 65 #[.int .i64 (n : Int)] w (ShPost w 3000 (10 ^ n) 0) := by
  go_enter Tryz.func65, Tryz.ntmps65
  go_wp2_with fail
  refine (pow5_in n _ hn).mono ?_
  rintro e w1 ⟨v, r, rfl, hown, his, hb⟩
  have hrl := five_len his hn
  obtain ⟨o, c, rfl, hl, hm, hat⟩ := hown.shape
  clear hown
  go_wp2_with fail
  refine (shl_any o _ c n r _ (by omega) hl (by omega) rfl hat his.1).mono ?_
  rintro e w2 ⟨v2, r2, rfl, hown2, his2, hb2⟩
  have h10 : 5 ^ n * 2 ^ n = 10 ^ n := by rw [← Nat.mul_pow]
  rw [his.2.2, h10] at his2
  have hbw := hb.trans (hb2.mono hb.size)
  have hsz := hb.size
  clear hb hb2 his hat h10
  go_wp2
  go_ret2
  exact ⟨_, r2, rfl, hown2.mono hsz (by omega), his2, hbw⟩

end Go.Proofs.YtlhekeifffofjaaGreatDoor

namespace Go.Proofs.YtlhekeifffofjaaGreatDoor

/-- The bytes of a string. -/
def bys (s : ByteArray) : List UInt8 := s.data.toList

theorem bys_len (s : ByteArray) : (bys s).length = s.size := by simp [bys]

/-- The k-th byte, nought behind the end. -/
def byt (l : List UInt8) (k : Nat) : Nat := (l[k]?.map UInt8.toNat).getD 0

theorem byt_get (s : ByteArray) (k : Nat) (h : k < s.size) : s[k].toNat = byt (bys s) k := by
  unfold byt bys
  have : s.data.toList[k]? = some s[k] := by
    rw [Array.getElem?_toList, Array.getElem?_eq_getElem h]; rfl
  rw [this]; rfl

/-- The number of decimal digits, the first the highest. -/
def decV (l : List UInt8) : Nat := l.foldl (fun a b => a * 10 + (b.toNat - 48)) 0

theorem decV_foldl (l : List UInt8) : ∀ a, l.foldl (fun a b => a * 10 + (b.toNat - 48)) a = a * 10 ^ l.length + decV l := by
  unfold decV
  induction l with
  | nil => intro a; simp
  | cons b t ih =>
    intro a
    simp only [List.foldl_cons, List.length_cons]
    rw [ih (a * 10 + (b.toNat - 48)), ih (0 * 10 + (b.toNat - 48)), Nat.pow_succ, Nat.add_mul, Nat.add_mul]
    have : a * 10 * 10 ^ t.length = a * (10 ^ t.length * 10) := by rw [Nat.mul_assoc, Nat.mul_comm 10]
    rw [this]; omega

theorem decV_append (a b : List UInt8) : decV (a ++ b) = decV a * 10 ^ b.length + decV b := by
  unfold decV
  rw [List.foldl_append]
  exact decV_foldl b _

/-- All bytes are digits. -/
def DigB (l : List UInt8) : Prop := ∀ k, k < l.length → 48 ≤ byt l k ∧ byt l k ≤ 57

theorem byt_take (l : List UInt8) {k n : Nat} (h : k < n) : byt (l.take n) k = byt l k := by
  unfold byt; rw [List.getElem?_take_of_lt h]
theorem byt_drop (l : List UInt8) (n k : Nat) : byt (l.drop n) k = byt l (n + k) := by
  unfold byt; rw [List.getElem?_drop]

theorem DigB.take {l : List UInt8} (h : DigB l) (n : Nat) : DigB (l.take n) := by
  intro k hk
  rw [List.length_take] at hk
  rw [byt_take l (by omega)]; exact h k (by omega)
theorem DigB.drop {l : List UInt8} (h : DigB l) (n : Nat) : DigB (l.drop n) := by
  intro k hk
  rw [List.length_drop] at hk
  rw [byt_drop]; exact h _ (by omega)

theorem decV_succ (l : List UInt8) {k : Nat} (h : k < l.length) : decV (l.take (k + 1)) = decV (l.take k) * 10 + (byt l k - 48) := by
  rw [List.take_succ_eq_append_getElem h, decV_append]
  unfold byt
  rw [List.getElem?_eq_getElem h]
  simp [decV]

theorem decV_lt : ∀ (n : Nat) (l : List UInt8), l.length = n → DigB l → decV l < 10 ^ n
  | 0, l, h, _ => by rw [List.length_eq_zero_iff.1 h]; simp [decV]
  | n + 1, l, h, hd => by
    have h1 := decV_lt n (l.take n) (by simp; omega) (hd.take n)
    have h2 := decV_succ l (k := n) (by omega)
    rw [List.take_of_length_le (by omega)] at h2
    have h3 := hd n (by omega)
    rw [h2, Nat.pow_succ]; omega

/-- A text is the digits of a number: no nought ahead, but of 0 itself. -/
def OkT (l : List UInt8) : Prop := l ≠ [] ∧ (byt l 0 = 48 → l = [48]) ∧ DigB l

theorem sl (s : ByteArray) : s.toList = bys s := ByteArray.toList_eq s

theorem dd_big {u : Nat} (h : ¬ u < 10) : Lib.decDigits u = Lib.decDigits (u / 10) ++ [UInt8.ofNat (48 + u % 10)] := by rw [Lib.decDigits, dif_neg h]

theorem u8_digit {d : Nat} (h : d < 10) : (UInt8.ofNat (48 + d)).toNat = 48 + d := by
  rw [UInt8.toNat_ofNat']
  omega

theorem byt_append_left (a b : List UInt8) {k : Nat} (h : k < a.length) : byt (a ++ b) k = byt a k := by
  unfold byt; rw [List.getElem?_append_left h]

theorem byt_last (a : List UInt8) (x : UInt8) : byt (a ++ [x]) a.length = x.toNat := by
  unfold byt; simp

theorem decV_last (a : List UInt8) (x : UInt8) : decV (a ++ [x]) = decV a * 10 + (x.toNat - 48) := by
  rw [decV_append]; simp [decV]

theorem DigB.last {a : List UInt8} (h : DigB a) {d : Nat} (hd : d < 10) : DigB (a ++ [UInt8.ofNat (48 + d)]) := by
  intro k hk
  rw [List.length_append] at hk
  by_cases e : k < a.length
  · rw [byt_append_left _ _ e]; exact h k e
  · have : k = a.length := by simp at hk; omega
    subst this
    rw [byt_last, u8_digit hd]; omega

theorem dd_ne (u : Nat) : Lib.decDigits u ≠ [] := by
  intro e
  have h := Lib.decDigits_length u
  rw [e] at h
  have := Lib.nDigits_pos u
  simp at h; omega

theorem dd_all : ∀ n u : Nat, u ≤ n → DigB (Lib.decDigits u) ∧ decV (Lib.decDigits u) = u ∧ (byt (Lib.decDigits u) 0 = 48 → Lib.decDigits u = [48])
  | n, u, hn => by
    by_cases h : u < 10
    · rw [Lib.decDigits_one h]
      refine ⟨?_, ?_, ?_⟩
      · have := DigB.last (a := []) (fun k hk => by simp at hk) h
        simpa using this
      · simp [decV]; omega
      · intro e
        have e2 : (UInt8.ofNat (48 + u)).toNat = 48 := by simpa [byt] using e
        rw [u8_digit h] at e2
        have : u = 0 := by omega
        subst this; rfl
    · rcases n with _ | n
      · omega
      · obtain ⟨h1, h2, h3⟩ := dd_all n (u / 10) (by omega)
        have hm : u % 10 < 10 := Nat.mod_lt _ (by omega)
        rw [dd_big h]
        refine ⟨h1.last hm, ?_, ?_⟩
        · rw [decV_last, h2, u8_digit hm]; omega
        · intro e
          have hpos : 0 < (Lib.decDigits (u / 10)).length := List.length_pos_iff.2 (dd_ne _)
          rw [byt_append_left _ _ hpos] at e
          have e2 := h3 e
          rw [e2] at h2
          simp [decV] at h2
          omega

theorem dd_okT (u : Nat) : OkT (Lib.decDigits u) := ⟨dd_ne u, (dd_all u u (Nat.le_refl _)).2.2, (dd_all u u (Nat.le_refl _)).1⟩
theorem dd_val (u : Nat) : decV (Lib.decDigits u) = u := (dd_all u u (Nat.le_refl _)).2.1

theorem dd_back : ∀ (n : Nat) (l : List UInt8), l.length = n + 1 → OkT l → Lib.decDigits (decV l) = l
  | 0, l, hl, h => by
    obtain ⟨x, rfl⟩ : ∃ x, l = [x] := by
      rcases l with _ | ⟨x, _ | ⟨y, t⟩⟩
      · simp at hl
      · exact ⟨x, rfl⟩
      · simp at hl
    have h1 := h.2.2 0 (by simp)
    have h2 : byt [x] 0 = x.toNat := by simp [byt]
    rw [h2] at h1
    have h3 : decV [x] = x.toNat - 48 := by simp [decV]
    rw [h3, Lib.decDigits_one (by omega)]
    congr 1
    rw [show 48 + (x.toNat - 48) = x.toNat by omega]
    exact UInt8.ofNat_toNat
  | n + 1, l, hl, h => by
    obtain ⟨a, x, rfl⟩ : ∃ a x, l = a ++ [x] := ⟨l.dropLast, l.getLast h.1, (List.dropLast_concat_getLast h.1).symm⟩
    have ha : a.length = n + 1 := by simp at hl; omega
    have hx := h.2.2 a.length (by simp)
    rw [byt_last] at hx
    have hne : byt (a ++ [x]) 0 ≠ 48 := by
      intro e
      have := congrArg List.length (h.2.1 e)
      rw [List.length_append] at this
      simp only [List.length_cons, List.length_nil] at this
      omega
    have h0 : byt a 0 = byt (a ++ [x]) 0 := (byt_append_left _ _ (by omega)).symm
    have da : DigB a := by
      intro k hk
      have := h.2.2 k (by simp; omega)
      rwa [byt_append_left _ _ hk] at this
    have oka : OkT a := ⟨fun e => by rw [e] at ha; simp at ha, fun e => absurd (h0 ▸ e) hne, da⟩
    have hb := dd_back n a ha oka
    have hv1 : 1 ≤ decV a := by
      rcases Nat.eq_zero_or_pos (decV a) with e | e
      · exfalso
        rw [e] at hb
        have : Lib.decDigits 0 = [48] := by rw [Lib.decDigits_one (by omega)]; rfl
        rw [this] at hb
        apply hne
        rw [← h0, ← hb]; rfl
      · exact e
    have hge : ¬ decV a * 10 + (x.toNat - 48) < 10 := by omega
    rw [decV_last, dd_big hge, show (decV a * 10 + (x.toNat - 48)) / 10 = decV a by omega, show (decV a * 10 + (x.toNat - 48)) % 10 = x.toNat - 48 by omega, hb]
    congr 2
    rw [show 48 + (x.toNat - 48) = x.toNat by omega]
    exact UInt8.ofNat_toNat

theorem byt_append_right (a b : List UInt8) (k : Nat) : byt (a ++ b) (a.length + k) = byt b k := by
  unfold byt; rw [List.getElem?_append_right (by omega), Nat.add_sub_cancel_left]

theorem DigB.append {a b : List UInt8} (ha : DigB a) (hb : DigB b) : DigB (a ++ b) := by
  intro k hk
  by_cases e : k < a.length
  · rw [byt_append_left _ _ e]; exact ha k e
  · rw [List.length_append] at hk
    have h := hb (k - a.length) (by omega)
    have e2 : byt (a ++ b) k = byt b (k - a.length) := by
      have := byt_append_right a b (k - a.length)
      rwa [show a.length + (k - a.length) = k by omega] at this
    rw [e2]; exact h

theorem OkT.append {a b : List UInt8} (ha : OkT a) (hn : a ≠ [48]) (hb : DigB b) : OkT (a ++ b) := by
  refine ⟨fun e => ha.1 (List.append_eq_nil_iff.1 e).1, fun e => ?_, ha.2.2.append hb⟩
  rw [byt_append_left _ _ (List.length_pos_iff.2 ha.1)] at e
  exact absurd (ha.2.1 e) hn

theorem dd_lt : ∀ n u : Nat, u ≤ n → u < 10 ^ (Lib.decDigits u).length ∧ (u ≠ 0 → 10 ^ ((Lib.decDigits u).length - 1) ≤ u)
  | n, u, hn => by
    by_cases h : u < 10
    · rw [Lib.decDigits_one h]
      exact ⟨by simpa using h, fun h0 => by simp; omega⟩
    · rcases n with _ | n
      · omega
      · obtain ⟨h1, h2⟩ := dd_lt n (u / 10) (by omega)
        have h3 := h2 (by omega)
        have hl : 0 < (Lib.decDigits (u / 10)).length := List.length_pos_iff.2 (dd_ne _)
        rw [dd_big h, List.length_append, List.length_singleton, Nat.add_sub_cancel]
        obtain ⟨m, hm⟩ : ∃ m, (Lib.decDigits (u / 10)).length = m + 1 := ⟨(Lib.decDigits (u / 10)).length - 1, by omega⟩
        rw [hm] at h1 h3 ⊢
        rw [Nat.add_sub_cancel] at h3
        rw [Nat.pow_succ] at h1
        rw [Nat.pow_succ, Nat.pow_succ]
        generalize 10 ^ m = p at *
        exact ⟨by omega, fun _ => by omega⟩

theorem dd_zero {u : Nat} (h : Lib.decDigits u = [48]) : u = 0 := by
  rw [← dd_val u, h]; rfl

end Go.Proofs.YtlhekeifffofjaaGreatDoor

namespace Go.Proofs.YtlhekeifffofjaaGreatDoor

/-- Great powers, by name. -/
def powT (b n : Nat) : Nat := b ^ n
theorem powT_ge {b k n : Nat} (hb : 0 < b) (h : k ≤ n) : b ^ k ≤ powT b n := Nat.pow_le_pow_right hb h

/-- The number that a float's fields tell, F bits of m, of the power of 2 that fPow says. -/
def fNum (F x m : Nat) : Nat := if x = 0 then m else 2 ^ F + m

def fPow (B x : Nat) : Int := if x = 0 then -(B : Int) else (x : Int) - 1 - B

/-- 2^n as a whole number of 10^p2E. -/
def p2N (n : Int) : Nat := if n < 0 then 5 ^ (-n).toNat else 2 ^ n.toNat
def p2E (n : Int) : Int := if n < 0 then n else 0

/-- A float's amount, how far it reaches down and up, and whether the ends are in reach. -/
structure Near where
  amt : Nat
  lo : Nat
  hi : Nat
  clo : Bool

def nearOf (F B x m : Nat) : Near :=
  ⟨p2N (fPow B x - 2) * (fNum F x m * 4), if m = 0 ∧ 1 < x then p2N (fPow B x - 2) else p2N (fPow B x - 2) * 2, p2N (fPow B x - 2) * 2, decide (m % 2 = 0)⟩

def heldN (c : Bool) (d far : Nat) : Bool := decide (d < far) || (decide (d = far) && c)

def pickN (r : Near) (number rest unit : Nat) : Option Nat :=
  if heldN r.clo rest r.lo = true ∧ (heldN r.clo (unit - rest) r.hi = true → rest < unit - rest ∨ rest = unit - rest ∧ number % 2 = 0) then some number
  else if heldN r.clo (unit - rest) r.hi = true then some (number + 1) else none

def pickAt (r : Near) (p : Nat) : Option Nat := pickN r (r.amt / 10 ^ p) (r.amt % 10 ^ p) (10 ^ p)

def fewN (r : Near) : Nat → Nat × Nat
  | 0 => (0, 0)
  | p + 1 => match pickAt r p with
    | some v => (v, p)
    | none => fewN r p

structure Near.Good (r : Near) : Prop where
  pos : 0 < r.lo
  le : r.lo ≤ r.hi
  amt : r.amt ≤ 2 ^ 54 * r.lo

theorem heldN_lt {c : Bool} {d far : Nat} (h : d < far) : heldN c d far = true := by simp [heldN, h]

theorem heldN_zero {c : Bool} {far : Nat} (h : 0 < far) : heldN c 0 far = true := heldN_lt h

theorem pickN_some {r : Near} {number rest unit : Nat} (hr : rest < unit) (h1 : unit < 2 * r.lo) (h2 : r.lo ≤ r.hi) : pickN r number rest unit ≠ none := by
  unfold pickN
  by_cases h : rest < r.lo
  · by_cases h' : heldN r.clo (unit - rest) r.hi = true
    · by_cases h3 : rest < unit - rest ∨ rest = unit - rest ∧ number % 2 = 0
      · rw [if_pos ⟨heldN_lt h, fun _ => h3⟩]; simp
      · rw [if_neg (fun e => h3 (e.2 h')), if_pos h']; simp
    · rw [if_pos ⟨heldN_lt h, fun e => absurd e h'⟩]; simp
  · have h' : heldN r.clo (unit - rest) r.hi = true := heldN_lt (by omega)
    rw [if_neg (fun e => by have := e.2 h'; omega), if_pos h']; simp

/-- Where the amount has 17 digits to this place one is picked. -/
theorem pickAt_some {r : Near} (g : r.Good) {p : Nat} (h : 10 ^ 16 * 10 ^ p ≤ r.amt) : pickAt r p ≠ none := by
  have hp : 0 < 10 ^ p := Nat.pow_pos (by omega)
  refine pickN_some (Nat.mod_lt _ hp) ?_ g.le
  have := g.amt
  have h1 : (2 : Nat) ^ 54 = 18014398509481984 := by decide
  have h2 : (10 : Nat) ^ 16 = 10000000000000000 := by decide
  rw [h1] at this
  rw [h2] at h
  omega

theorem pickAt_zero {r : Near} (g : r.Good) : pickAt r 0 = some r.amt := by
  unfold pickAt pickN
  rw [Nat.pow_zero, Nat.div_one, Nat.mod_one, if_pos ⟨heldN_zero g.pos, fun _ => .inl (by omega)⟩]

/-- Below a place where nothing is picked the amount has 16 digits at most. -/
theorem few_small {r : Near} (g : r.Good) {p : Nat} (h : pickAt r p = none) : r.amt / 10 ^ p < 10 ^ 16 := by
  rcases Nat.lt_or_ge (r.amt / 10 ^ p) (10 ^ 16) with h' | h'
  · exact h'
  · exact absurd h (pickAt_some g ((Nat.le_div_iff_mul_le (Nat.pow_pos (by omega))).1 h'))

theorem fewN_spec {r : Near} (g : r.Good) : ∀ s, 0 < s → ∃ v p, fewN r s = (v, p) ∧ p < s ∧ pickAt r p = some v ∧ ∀ q, p < q → q < s → pickAt r q = none
  | 0, h => absurd h (by omega)
  | s + 1, _ => by
    unfold fewN
    rcases hp : pickAt r s with _ | v
    · rcases Nat.eq_zero_or_pos s with h0 | h0
      · subst h0; rw [pickAt_zero g] at hp; cases hp
      · obtain ⟨v, p, h1, h2, h3, h4⟩ := fewN_spec g s h0
        refine ⟨v, p, h1, by omega, h3, fun q hq hs => ?_⟩
        rcases Nat.lt_or_ge q s with h5 | h5
        · exact h4 q hq h5
        · have : q = s := by omega
          subst this; exact hp
    · exact ⟨v, s, rfl, by omega, hp, fun q h1 h2 => by omega⟩

theorem p2N_pos (n : Int) : 0 < p2N n := by
  unfold p2N; split
  · exact Nat.pow_pos (by omega)
  · exact Nat.pow_pos (by omega)

theorem fNum_lt {F x m : Nat} (hm : m < 2 ^ F) : fNum F x m < 2 ^ (F + 1) := by
  unfold fNum; rw [Nat.pow_succ]; split <;> omega

theorem nearOf_good {F B x m : Nat} (hF : F ≤ 52) (hm : m < 2 ^ F) : (nearOf F B x m).Good := by
  have hq := p2N_pos (fPow B x - 2)
  have hn := fNum_lt (x := x) hm
  have h52 : (2 : Nat) ^ F ≤ 2 ^ 52 := Nat.pow_le_pow_right (by omega) hF
  rw [Nat.pow_succ] at hn
  have e1 : (2 : Nat) ^ 52 = 4503599627370496 := by decide
  have e2 : (2 : Nat) ^ 54 = 18014398509481984 := by decide
  refine ⟨?_, ?_, ?_⟩
  · simp only [nearOf]; split <;> omega
  · simp only [nearOf]; split <;> omega
  · show p2N (fPow B x - 2) * (fNum F x m * 4) ≤ 2 ^ 54 * _
    rw [Nat.mul_comm (p2N _) (fNum F x m * 4), e2]
    simp only [nearOf]
    split
    · next h =>
      have : fNum F x m = 2 ^ F := by unfold fNum; rw [if_neg (by omega), h.1]; rfl
      rw [this]
      exact Nat.mul_le_mul_right _ (by omega)
    · rw [Nat.mul_comm (p2N _) 2, ← Nat.mul_assoc]
      exact Nat.mul_le_mul_right _ (by omega)

end Go.Proofs.YtlhekeifffofjaaGreatDoor

namespace Go.Proofs.YtlhekeifffofjaaGreatDoor

/-- A Dec: class, sign, digits, exponent. -/
structure DecT where
  cls : Nat
  neg : Bool
  dig : List UInt8
  exp : Int
deriving DecidableEq

/-- Digits without the noughts behind. -/
def cut0 (l : List UInt8) : List UInt8 := Lib.trimRightB l 48

def tellDec (neg : Bool) (d : List UInt8) (e : Int) : DecT := ⟨0, neg, cut0 d, e + d.length - (cut0 d).length⟩

/-- The Dec of N times 10^e. -/
def decA (neg : Bool) (N : Nat) (e : Int) : DecT := tellDec neg (Lib.decDigits N) e

/-- All digits; the fewest digits: the number and the exponent. -/
def allD (F B x m : Nat) : Nat × Int := (fNum F x m * p2N (fPow B x), p2E (fPow B x))

def sizeN (N : Nat) : Nat := (Lib.decDigits N).length

def fewD (F B x m : Nat) : Nat × Int :=
  ((fewN (nearOf F B x m) (sizeN (nearOf F B x m).amt)).1, p2E (fPow B x - 2) + ((fewN (nearOf F B x m) (sizeN (nearOf F B x m).amt)).2 : Nat))

/-- The Dec of a float's bits, by what tells the digits of x and m. -/
def decOf (F X : Nat) (tell : Nat → Nat → Nat × Int) (b : Nat) : DecT :=
  if b / 2 ^ F % 2 ^ X = 2 ^ X - 1 then
    if b % 2 ^ F = 0 then ⟨1, decide (b / 2 ^ F / 2 ^ X ≠ 0), [], 0⟩ else ⟨2, false, [], 0⟩
  else if b / 2 ^ F % 2 ^ X = 0 ∧ b % 2 ^ F = 0 then ⟨0, decide (b / 2 ^ F / 2 ^ X ≠ 0), [], 0⟩
  else decA (decide (b / 2 ^ F / 2 ^ X ≠ 0)) (tell (b / 2 ^ F % 2 ^ X) (b % 2 ^ F)).1 (tell (b / 2 ^ F % 2 ^ X) (b % 2 ^ F)).2

theorem cut0_snoc0 (l : List UInt8) : cut0 (l ++ [48]) = cut0 l := by
  unfold cut0 Lib.trimRightB
  simp

theorem cut0_snoc (l : List UInt8) {d : UInt8} (h : d ≠ 48) : cut0 (l ++ [d]) = l ++ [d] := by
  unfold cut0 Lib.trimRightB
  simp [h]

theorem u8_ne48 {d : Nat} (h : d < 10) (h0 : d ≠ 0) : UInt8.ofNat (48 + d) ≠ 48 := by
  intro e
  have := congrArg UInt8.toNat e
  rw [u8_digit h] at this
  simp at this; omega

theorem dd_ten {N : Nat} (h : N ≠ 0) : Lib.decDigits (N * 10) = Lib.decDigits N ++ [48] := by
  rw [dd_big (by omega), Nat.mul_div_cancel _ (by omega), Nat.mul_mod_left]
  rfl

theorem decA_ten {neg : Bool} {N : Nat} {e : Int} (h : N ≠ 0) : decA neg (N * 10) e = decA neg N (e + 1) := by
  unfold decA tellDec
  rw [dd_ten h, cut0_snoc0, List.length_append, List.length_singleton]
  congr 1
  omega

theorem decA_tens {neg : Bool} {N : Nat} (h : N ≠ 0) : ∀ (k : Nat) (e : Int), decA neg (N * 10 ^ k) e = decA neg N (e + k)
  | 0, e => by simp
  | k + 1, e => by
    have hp : 0 < 10 ^ k := Nat.pow_pos (by omega)
    rw [Nat.pow_succ, ← Nat.mul_assoc, decA_ten (by have := Nat.mul_pos (Nat.pos_of_ne_zero h) hp; omega), decA_tens h k]
    congr 1
    push_cast; omega

/-- A number that does not end in a nought is told by just its digits. -/
theorem decA_plain {neg : Bool} {N : Nat} {e : Int} (h : N % 10 ≠ 0) : decA neg N e = ⟨0, neg, Lib.decDigits N, e⟩ := by
  have : cut0 (Lib.decDigits N) = Lib.decDigits N := by
    by_cases h10 : N < 10
    · rw [Lib.decDigits_one h10]
      exact cut0_snoc [] (u8_ne48 h10 (by omega))
    · rw [dd_big h10]
      exact cut0_snoc _ (u8_ne48 (Nat.mod_lt _ (by omega)) h)
  unfold decA tellDec
  rw [this]
  congr 1
  omega

/-- Every number above 0 is one that does not end in a nought, times a power of 10. -/
theorem tens_of : ∀ (n N : Nat), N ≤ n → N ≠ 0 → ∃ M k, N = M * 10 ^ k ∧ M % 10 ≠ 0
  | 0, N, h, h0 => absurd h0 (by omega)
  | n + 1, N, h, h0 => by
    by_cases hm : N % 10 = 0
    · obtain ⟨M, k, h1, h2⟩ := tens_of n (N / 10) (by omega) (by omega)
      refine ⟨M, k + 1, ?_, h2⟩
      rw [Nat.pow_succ, ← Nat.mul_assoc, ← h1]; omega
    · exact ⟨N, 0, by simp, hm⟩

/-- What a Dec of a number above 0 is: M does not end in a nought. -/
theorem decA_form (neg : Bool) {N : Nat} (e : Int) (h : N ≠ 0) : ∃ M k : Nat, N = M * 10 ^ k ∧ M % 10 ≠ 0 ∧ decA neg N e = ⟨0, neg, Lib.decDigits M, e + k⟩ := by
  obtain ⟨M, k, h1, h2⟩ := tens_of N N (Nat.le_refl _) h
  refine ⟨M, k, h1, h2, ?_⟩
  rw [h1, decA_tens (by omega), decA_plain h2]

theorem sizeN_eq {N s : Nat} (h1 : 10 ^ s ≤ N) (h2 : N < 10 ^ (s + 1)) : sizeN N = s + 1 := by
  have h0 : N ≠ 0 := by have := Nat.pow_pos (n := s) (show 0 < 10 by omega); omega
  have h3 := dd_lt N N (Nat.le_refl _)
  have h4 := h3.2 h0
  have l1 : s < (Lib.decDigits N).length := (Nat.pow_lt_pow_iff_right (by omega : 1 < 10)).1 (by omega)
  have l2 : (Lib.decDigits N).length - 1 < s + 1 := (Nat.pow_lt_pow_iff_right (by omega : 1 < 10)).1 (by omega)
  unfold sizeN; omega

theorem sizeN_pos (N : Nat) : 0 < sizeN N := List.length_pos_iff.2 (dd_ne N)

theorem sizeN_lt (N : Nat) : N < 10 ^ sizeN N := (dd_lt N N (Nat.le_refl _)).1
theorem sizeN_ge {N : Nat} (h : N ≠ 0) : 10 ^ (sizeN N - 1) ≤ N := (dd_lt N N (Nat.le_refl _)).2 h
theorem sizeN_le {N s : Nat} (h : N < 10 ^ s) (hs : 1 ≤ s) : sizeN N ≤ s := by
  by_cases h0 : N = 0
  · subst h0; unfold sizeN; rw [Lib.decDigits_one (by omega)]; simpa using hs
  · have := sizeN_ge h0
    have : sizeN N - 1 < s := (Nat.pow_lt_pow_iff_right (by omega : 1 < 10)).1 (by omega)
    have := sizeN_pos N
    omega

theorem fewD_eq {F B x m s v p : Nat} (h1 : 10 ^ s ≤ (nearOf F B x m).amt) (h2 : (nearOf F B x m).amt < 10 ^ (s + 1)) (h3 : fewN (nearOf F B x m) (s + 1) = (v, p)) : fewD F B x m = (v, p2E (fPow B x - 2) + (p : Nat)) := by
  unfold fewD
  rw [sizeN_eq h1 h2, h3]

theorem decA_digit {neg : Bool} {N : Nat} {e : Int} (h : N < 10) (h0 : N ≠ 0) : decA neg N e = ⟨0, neg, [UInt8.ofNat (48 + N)], e⟩ := by
  rw [decA_plain (by omega), Lib.decDigits_one h]

end Go.Proofs.YtlhekeifffofjaaGreatDoor

namespace Go.Proofs.YtlhekeifffofjaaGreatDoor
open Go.RowKit

def Blk (w : World) (b : Nat) (cs : Array Value) (t : TypeId) : Prop := w.heap[b]? = some (.cells cs t (0, 0))

section
variable {w w' : World} {b : Nat} {cs : Array Value} {t : TypeId}

theorem Blk.cell (h : Blk w b cs t) (i : Nat) : w.cell? ⟨b, i, none⟩ = cs[i]? := by unfold Blk at h; simp [World.cell?, h]
theorem Blk.free (h : Blk w b cs t) (i : Nat) : w.frozen? ⟨b, i, none⟩ = false := by unfold Blk at h; simp [World.frozen?, h]
theorem Blk.new (w : World) (cs : Array Value) (t : TypeId) : Blk (w.alloc (.cells cs t)) w.heap.size cs t := heap_alloc_new _ _
theorem Blk.newAt (w : World) (n : Nat) (hn : w.heap.size = n) (cs : Array Value) (t : TypeId) : Blk (w.alloc (.cells cs t)) n cs t := by subst hn; exact Blk.new _ _ _
theorem Blk.lt (h : Blk w b cs t) : b < w.heap.size := lt_of_block h
theorem Blk.below (h : Blk w b cs t) {B : Nat} (hb : Below B w w') (hg : b < B) : Blk w' b cs t := by
  unfold Blk at *
  rw [hb.block b hg]; exact h
theorem Blk.alloc (h : Blk w b cs t) (o : Obj) : Blk (w.alloc o) b cs t := by
  have hlt := h.lt
  unfold Blk at *
  rw [Below.heap_alloc _ _ _ hlt]; exact h
theorem Blk.put4 {x0 x1 x2 x3 : Value} (h : Blk w b #[x0, x1, x2, x3] t) (y0 y1 y2 y3 : Value) : Blk ((((w.setCell ⟨b, 0, none⟩ y0).setCell ⟨b, 1, none⟩ y1).setCell ⟨b, 2, none⟩ y2).setCell ⟨b, 3, none⟩ y3) b #[y0, y1, y2, y3] t := by
  unfold Blk at *
  simp only [World.setCell, Array.getElem?_modify, if_true, h, Option.map_some]
  rfl
end

theorem Blk.other {w : World} {b : Nat} {t : TypeId} {cs : Array Value} (h : Blk w b cs t) {a : Addr} (ha : a.block ≠ b) (v : Value) : Blk (w.setCell a v) b cs t := by
  unfold Blk at *
  simp only [World.setCell, Array.getElem?_modify, if_neg ha, h]

end Go.Proofs.YtlhekeifffofjaaGreatDoor

namespace Go.Proofs.YtlhekeifffofjaaGreatDoor
open Go.RowKit

/-- The two widths. -/
abbrev w64 : Value := .agg #[.int .i64 52, .int .i64 11, .int .i64 (-1074)]
abbrev w32 : Value := .agg #[.int .i64 23, .int .i64 8, .int .i64 (-149)]

theorem binary64_any (w : World) : Calls Tryz.prog 43 #[] w fun e w' => e = .returned w64 ∧ Below w.heap.size w w' := by
  go_enter Tryz.func43, Tryz.ntmps43
  go_wp2
  go_returns
  exact ⟨rfl, (Below.refl _ _).alloc (Nat.le_refl _) _⟩

theorem binary32_any (w : World) : Calls Tryz.prog 47 #[] w fun e w' => e = .returned w32 ∧ Below w.heap.size w w' := by
  go_enter Tryz.func47, Tryz.ntmps47
  go_wp2
  go_returns
  exact ⟨rfl, (Below.refl _ _).alloc (Nat.le_refl _) _⟩

theorem mask (k n a : Nat) (hk : n + 1 = 2 ^ k) (ha : a < 18446744073709551616) (hn : n < 18446744073709551616) : bits .and .u64 (a : Int) (n : Int) = ((a % (n + 1) : Nat) : Int) := by
  have h := bits_and_u64_nat a n ha hn
  rw [show n = 2 ^ k - 1 by omega, Nat.and_two_pow_sub_one_eq_mod a k, ← hk] at h
  rw [← h, Nat.add_sub_cancel]

/-- What split answers. -/
def splitV (F X b : Nat) : Value := .tuple #[.bool (decide (b / 2 ^ F / 2 ^ X ≠ 0)), .int .u64 ((b / 2 ^ F % 2 ^ X : Nat) : Int), .int .u64 ((b % 2 ^ F : Nat) : Int)]

/-- A width. -/
abbrev widV (F X B : Nat) : Value := .agg #[.int .i64 (F : Int), .int .i64 (X : Int), .int .i64 (-(B : Int))]

theorem mask_w (k a : Nat) (hk : k ≤ 52) (ha : a < 18446744073709551616) : bits .and .u64 (a : Int) (IntKind.u64.wrap (IntKind.u64.wrap (2 ^ k) - 1)) = ((a % 2 ^ k : Nat) : Int) := by
  have h1 : (2 : Nat) ^ k ≤ 2 ^ 52 := Nat.pow_le_pow_right (by omega) hk
  have h2 : 0 < 2 ^ k := Nat.pow_pos (by omega)
  have e1 : (2 : Nat) ^ 52 = 4503599627370496 := by decide
  have h3 : ((2 : Int) ^ k) = ((2 ^ k : Nat) : Int) := by push_cast; rfl
  have h4 : IntKind.u64.wrap (IntKind.u64.wrap ((2 : Int) ^ k) - 1) = ((2 ^ k - 1 : Nat) : Int) := by
    rw [h3, IntKind.wrap_u64, IntKind.wrap_u64]; omega
  rw [h4, mask k (2 ^ k - 1) a (by omega) ha (by omega)]
  congr 2
  omega

set_option maxHeartbeats 400000 in
theorem split_any (F X B b : Nat) (w : World) (hF : F ≤ 52) (hX : X ≤ 52) (hb : b < 18446744073709551616) :
    Calls Tryz.prog 61 #[widV F X B, .int .u64 (b : Int)] w fun e w' => e = .returned (splitV F X b) ∧ Below w.heap.size w w' := by
  go_enter Tryz.func61, Tryz.ntmps61
  go_wp2
  go_returns
  refine ⟨?_, (Below.refl _ _).alloc (Nat.le_refl _) _⟩
  show Ending.returned (.tuple #[.bool ((b : Int) / 2 ^ F / 2 ^ X != 0), .int .u64 (bits .and .u64 ((b : Int) / 2 ^ F) (IntKind.u64.wrap (IntKind.u64.wrap (2 ^ X) - 1))), .int .u64 (bits .and .u64 (b : Int) (IntKind.u64.wrap (IntKind.u64.wrap (2 ^ F) - 1)))]) = _
  rw [mask_w F b hF hb, shr_nat, mask_w X (b / 2 ^ F) hX (Nat.lt_of_le_of_lt (Nat.div_le_self _ _) hb), shr_nat]
  unfold splitV
  congr 4
  by_cases h : b / 2 ^ F / 2 ^ X = 0
  · rw [h]; rfl
  · rw [decide_eq_true h]
    have : ((b / 2 ^ F / 2 ^ X : Nat) : Int) ≠ 0 := by omega
    simpa using this

/-- What amount answers. -/
def amountV (F B x m : Nat) : Value := .tuple #[.int .u64 ((fNum F x m : Nat) : Int), .int .i64 (fPow B x)]

theorem pow2_int (k : Nat) : ((2 : Int) ^ k) = ((2 ^ k : Nat) : Int) := by push_cast; rfl

set_option maxHeartbeats 400000 in
theorem amount_any (F X B x m : Nat) (w : World) (hF : F ≤ 52) (hB : B ≤ 2000) (hx : x ≤ 5000) (hm : m < 2 ^ F) :
    Calls Tryz.prog 71 #[widV F X B, .int .u64 (x : Int), .int .u64 (m : Int)] w fun e w' => e = .returned (amountV F B x m) ∧ Below w.heap.size w w' := by
  have h1 : (2 : Nat) ^ F ≤ 2 ^ 52 := Nat.pow_le_pow_right (by omega) hF
  have e1 : (2 : Nat) ^ 52 = 4503599627370496 := by decide
  rw [e1] at h1
  have HM := hide hm
  have H1 := hide h1
  clear hm h1 e1
  by_cases h0 : x = 0
  · subst h0
    go_enter Tryz.func71, Tryz.ntmps71
    go_wp2
    go_region
    go_wp2
    go_ret2
    exact ⟨rfl, ((Below.refl _ _).alloc (Nat.le_refl _) _).drew⟩
  · have h0' : ¬ (x : Int) = 0 := by omega
    go_enter Tryz.func71, Tryz.ntmps71
    go_wp2
    go_region
    go_wp2
    go_ret2
    refine ⟨?_, ((Below.refl _ _).alloc (Nat.le_refl _) _).drew⟩
    have hm := HM.out
    have h1 := H1.out
    unfold amountV fNum fPow
    rw [if_neg h0, if_neg h0, show IntKind.u64.wrap (IntKind.u64.wrap (2 ^ F) + (m : Int)) = ((2 ^ F + m : Nat) : Int) by rw [pow2_int, IntKind.wrap_u64, IntKind.wrap_u64]; omega, show -(B : Int) + (x : Int) - 1 = (x : Int) - 1 - B by omega]
    rfl

set_option maxHeartbeats 400000 in
theorem power_any (n : Int) (w : World) (h1 : -8192 ≤ n) (h2 : n ≤ 65536) :
    Calls Tryz.prog 72 #[.int .i64 n] w (ShPost w 3000 (p2N n) (p2E n)) := by
  by_cases h0 : n < 0
  · obtain ⟨k, rfl⟩ : ∃ k : Nat, n = -(k : Int) := ⟨(-n).toNat, by omega⟩
    have e1 : p2N (-(k : Int)) = 5 ^ k := by unfold p2N; rw [if_pos h0, show (-(-(k : Int))).toNat = k by omega]
    have e2 : p2E (-(k : Int)) = -(k : Int) := by unfold p2E; rw [if_pos h0]
    rw [e1, e2]
    clear e1 e2
    go_enter Tryz.func72, Tryz.ntmps72
    go_wp2_with fail
    refine (pow5_in k _ (by omega)).mono ?_
    rintro e w1 ⟨v, r, rfl, hown, his, hb⟩
    go_wp2
    go_ret2
    exact ⟨v, r, rfl, hown.mono (Nat.le_refl _) (by omega), his, hb⟩
  · obtain ⟨k, rfl⟩ : ∃ k : Nat, n = (k : Int) := ⟨n.toNat, by omega⟩
    have e1 : p2N (k : Int) = 2 ^ k := by unfold p2N; rw [if_neg h0, Int.toNat_natCast]
    have e2 : p2E (k : Int) = 0 := by unfold p2E; rw [if_neg h0]
    rw [e1, e2]
    clear e1 e2
    go_enter Tryz.func72, Tryz.ntmps72
    go_wp2_with fail
    refine (of_any 1 _ (by decide)).mono ?_
    rintro e w1 ⟨v, r, rfl, hown, his, hb⟩
    obtain ⟨o, c, rfl, hl, hm, hat⟩ := hown.shape
    have hr : r.length ≤ 1 := by omega
    go_wp2_with fail
    refine (shl_any o _ c k r _ (by omega) hl (by omega) rfl hat his.1).mono ?_
    rintro e w2 ⟨v2, r2, rfl, hown2, his2, hb2⟩
    rw [his.2.2, Nat.one_mul] at his2
    have hbw := hb.trans (hb2.mono hb.size)
    have hsz := hb.size
    clear hb hb2 his hat hown
    go_wp2
    go_ret2
    exact ⟨_, r2, rfl, hown2.mono hsz (by omega), his2, hbw⟩

end Go.Proofs.YtlhekeifffofjaaGreatDoor

namespace Go.Proofs.YtlhekeifffofjaaGreatDoor
open Go.RowKit

theorem shiftUp0 (ao : Option Addr) (len cap sh : Nat) (xs : List Nat) (w : World) (hl : len ≤ 100000000000) (hsh : sh ≤ 63) (hx : xs.length = len) (hax : At .u64 w ao xs) (ox : Ok B64 xs) :
    Calls Tryz.prog 120 #[.slice ao len cap, .int .i64 0, .int .i64 (sh : Int)] w (UpPost w (len + 1) (num B64 xs * 2 ^ sh)) := by
  have := shiftUp_any ao len cap 0 sh xs w hl (by omega) hsh hx hax ox
  rw [Nat.zero_add, Nat.pow_zero, Nat.mul_one] at this
  exact this

theorem shiftDown0 (ao : Option Addr) (len cap sh : Nat) (xs : List Nat) (w : World) (hl : len ≤ 100000000000) (hsh : sh ≤ 63) (hx : xs.length = len) (hax : At .u64 w ao xs) (ox : Ok B64 xs) :
    Calls Tryz.prog 126 #[.slice ao len cap, .int .i64 0, .int .i64 (sh : Int)] w (NatPost w len (num B64 xs / 2 ^ sh)) := by
  have := shiftDown_any ao len cap 0 sh xs w hl (by omega) hsh hx hax ox
  rw [Nat.pow_zero, Nat.div_one] at this
  exact this

/-- One round where nothing went below nought. -/
theorem LongInv.fits {w wr : World} {Hd Hr Hq m c A k g p : Nat} {zs r q : List Nat} (hd : Hd ≠ Hq) (hrq : Hr ≠ Hq) (hdr : Hd ≠ Hr) (hq : w.heap.size ≤ Hq) (hrb : w.heap.size ≤ Hr) (hbel : Below w.heap.size w wr) (hdiv : At .u64 wr (some ⟨Hd, 0, none⟩) zs)
    (hl : r.length = m + 1) (hrq' : Row .u64 24 wr Hq q) (hlq : q.length = c) (hoq : Ok B64 q) (hz : ∀ j, j < k + 1 → dg q j = 0) (hA : num B64 r + num B64 zs * num B64 q = A) (hk : k < c)
    {U L : Nat} (hU : num B64 r = U * B64 ^ k + L) (hL : L < B64 ^ k) (hg : g < B64) (hlo : U < (g + 1) * num B64 zs) {w1 w2 : World} {r1 : List Nat} (h1 : Like w1 wr) (h2 : w1.grownBy w2 (some Hr)) (hr1 : Row .u64 24 w2 Hr r1) (hl1 : r1.length = r.length) (ho1 : Ok B64 r1)
    (hs : num B64 r1 + num B64 zs * g * B64 ^ k = num B64 r + 0 * B64 ^ (k + (p + 1))) {wr' : World} (hw : Like wr' (w2.setCell ⟨Hq, k, none⟩ (.int .u64 (g : Int)))) : LongInv w Hd Hr Hq m c zs A k wr' := by
  obtain ⟨a1, a2⟩ := round_fits hU hL hlo hs
  have hb1 := h1.below hbel
  exact LongInv.step hd hrq hq (hb1.grown h2 hb1.size (fun k hk => by simp only [Option.some.injEq] at hk; omega)) ((hdiv.like h1).gr h2 hdr) hr1 (by omega) ho1 a1 a2 ((hrq'.alike h1).gr h2 (Ne.symm hrq)) hlq hoq hz hA hk hg hw

theorem long_one {r r1 zs : List Nat} {g k t : Nat} (hr1 : num B64 r1 < B64 ^ t) (hs : num B64 r1 + num B64 zs * g * B64 ^ k = num B64 r + 1 * B64 ^ t) : 1 ≤ g := by
  rcases g with _ | g
  · simp at hs; omega
  · omega

/-- One round where it went below nought. -/
theorem LongInv.back {w wr : World} {Hd Hr Hq m c A k g g' p : Nat} {zs r q : List Nat} (hd : Hd ≠ Hq) (hrq : Hr ≠ Hq) (hdr : Hd ≠ Hr) (hq : w.heap.size ≤ Hq) (hrb : w.heap.size ≤ Hr) (hbel : Below w.heap.size w wr) (hdiv : At .u64 wr (some ⟨Hd, 0, none⟩) zs)
    (hl : r.length = m + 1) (hrq' : Row .u64 24 wr Hq q) (hlq : q.length = c) (hoq : Ok B64 q) (hz : ∀ j, j < k + 1 → dg q j = 0) (hA : num B64 r + num B64 zs * num B64 q = A) (hk : k < c)
    {U L : Nat} (hU : num B64 r = U * B64 ^ k + L) (hg : g < B64) (hgg : g' + 1 = g) (hhi : g * num B64 zs ≤ U + num B64 zs) {w1 w2 w3 : World} {r1 r2 : List Nat} {cc : Nat} (h1 : Like w1 wr) (h2 : w1.grownBy w2 (some Hr)) (h3 : w2.grownBy w3 (some Hr))
    (hr2 : Row .u64 24 w3 Hr r2) (hl2 : r2.length = r.length) (ho2 : Ok B64 r2) (hE1 : num B64 r1 < B64 ^ (k + (p + 1))) (hE2 : num B64 r2 < B64 ^ (k + (p + 1))) (hcc : cc ≤ 1)
    (hs : num B64 r1 + num B64 zs * g * B64 ^ k = num B64 r + 1 * B64 ^ (k + (p + 1))) (hs2 : num B64 r2 + cc * B64 ^ (k + (p + 1)) = num B64 r1 + num B64 zs * B64 ^ k) {wr' : World} (hw : Like wr' (w3.setCell ⟨Hq, k, none⟩ (.int .u64 (g' : Int)))) : LongInv w Hd Hr Hq m c zs A k wr' := by
  obtain ⟨_, a1, a2⟩ := round_back hU hhi hE1 hs hE2 hcc hs2
  obtain rfl : g' = g - 1 := by omega
  have hb1 := h1.below hbel
  have hb2 := hb1.grown h2 hb1.size (fun k hk => by simp only [Option.some.injEq] at hk; omega)
  exact LongInv.step hd hrq hq (hb2.grown h3 hb2.size (fun k hk => by simp only [Option.some.injEq] at hk; omega)) (((hdiv.like h1).gr h2 hdr).gr h3 hdr) hr2 (by omega) ho2 a1 a2 (((hrq'.alike h1).gr h2 (Ne.symm hrq)).gr h3 (Ne.symm hrq)) hlq hoq hz hA hk (by omega) hw

set_option maxHeartbeats 1000000 in
theorem divLong_at (ao bo : Option Addr) (m ca n cb p d : Nat) (xs ys : List Nat) (w : World) (hn : n = p + 2) (hd : n + d = m) (hm : m ≤ 1000000000) (hx : xs.length = m) (hy : ys.length = n) (hax : At .u64 w ao xs) (hay : At .u64 w bo ys)
    (ox : Ok B64 xs) (oy : Ok B64 ys) (htop : dg ys (p + 1) ≠ 0) :
    Calls Tryz.prog 97 #[.slice ao m ca, .slice bo n cb] w (LongPost w m (num B64 xs / num B64 ys) (num B64 xs % num B64 ys)) := by
  obtain ⟨i0, hi, hz0, hz1, hz2⟩ := info_parts Tryz.infoU
  obtain ⟨b, o, rfl, hb, hcell⟩ : ∃ b o, bo = some ⟨b, o, none⟩ ∧ b < w.heap.size ∧ ∀ i, i < ys.length → w.cell? ⟨b, o + i, none⟩ = some (.int .u64 ((dg ys i : Nat) : Int)) := by
    rcases hay with h | h
    · rw [h] at hy; simp at hy; omega
    · exact h
  have c0 := hcell (p + 1) (by omega)
  obtain ⟨s, hs, hs63, hs1, hs2⟩ := lead_shift htop (oy (p + 1))
  have ld := fun w => lead64 (dg ys (p + 1)) w (oy (p + 1))
  rw [← hs] at ld
  have hdv := fun yu ou hn' => long_divisor (ys := ys) (yu := yu) (p := p) (s := s) oy (by omega) ou hs1 hs2 hn'
  obtain ⟨top, ht⟩ : ∃ t, t = dg ys (p + 1) := ⟨_, rfl⟩
  rw [← ht] at ld c0
  have LD : Hid (∀ w, Calls Tryz.prog 122 #[.int .u64 (top : Int)] w fun e w' => e = .returned (.int .i64 (s : Int)) ∧ w = w') := ld
  have DV : Hid (∀ yu, Ok B64 yu → num B64 yu = num B64 ys * 2 ^ s → (trimmed yu).length = p + 2 ∧ B64 ≤ 2 * dg (trimmed yu) (p + 1)) := hdv
  have HN : Hid (n = p + 2) := hn
  have hn1 : (n : Int) - 1 = ((p + 1 : Nat) : Int) := by omega
  have hn2 : ((p + 1 : Nat) : Int) < (n : Int) := by omega
  have hmn : (m : Int) - (n : Int) = (d : Int) := by omega
  have hdm : d ≤ 1000000000 ∧ n ≤ 1000000000 := by omega
  have HD : Hid (n + d = m) := hd
  have HT : Hid (dg ys (p + 1) ≠ 0) := htop
  clear hcell hs hs1 hs2 ld ht hdv hn hd htop
  go_enter Tryz.func97, Tryz.ntmps97
  go_wp2_with fail
  refine (LD.out _).mono ?_
  rintro e w' ⟨rfl, rfl⟩
  go_wp2_with fail
  refine (shiftUp0 (some ⟨b, o, none⟩) n cb s ys _ (by omega) hs63 hy hay oy).mono ?_
  rintro e w1 ⟨yu, rfl, hyr, hyl, hyo, hyn, hb1⟩
  obtain ⟨hzl, hzt⟩ := DV.out yu hyo hyn
  have HZ : Hid ((trimmed yu).length = n) := hzl.trans HN.out.symm
  have HZT : Hid (B64 ≤ 2 * dg (trimmed yu) (p + 1)) := hzt
  have HYL : Hid (yu.length = n + 1) := hyl
  clear hzl hzt hyl
  go_wp2_with fail
  refine (trim_to _ (n + 1) (n + 1) n yu _ (Nat.le_refl _) (by omega) HYL.out hyr.at HZ.out).mono ?_
  rintro e w' ⟨rfl, rfl⟩
  go_wp2_with fail
  refine (shiftUp0 ao m ca s xs _ (by omega) hs63 hx (hax.below hb1) ox).mono ?_
  rintro e w2 ⟨ru, rfl, hrr, hrl, hro, hrn, hb2⟩
  have hzdiv : At .u64 w2 (some ⟨w.heap.size, 0, none⟩) (trimmed yu) := (hyr.at.below hb2).trimmed
  have hlt1 := hyr.lt
  have hlt2 := hrr.lt
  obtain ⟨zs, hzs⟩ : ∃ zs, zs = trimmed yu := ⟨_, rfl⟩
  have hzo : Ok B64 zs := by rw [hzs]; exact trimmed_ok hyo
  have hzn : num B64 zs = num B64 ys * 2 ^ s := by rw [hzs, num_trimmed]; exact hyn
  rw [← hzs] at hzdiv
  have HZ' : Hid (zs.length = n) := by rw [hzs]; exact HZ.out
  have HZT' : Hid (B64 ≤ 2 * dg zs (p + 1)) := by rw [hzs]; exact HZT.out
  have hb12 : Below w.heap.size w w2 := hb1.trans (hb2.mono hb1.size)
  have HST : Hid (num B64 ru < num B64 zs * B64 ^ (d + 1)) := by
    rw [hrn]
    exact long_start ox hx (HZ'.out.trans HN.out) HZT'.out (by have := HN.out; have := HD.out; omega) hs63
  have HZN : Hid (num B64 zs = num B64 ys * 2 ^ s) := hzn
  have HRN : Hid (num B64 ru = num B64 xs * 2 ^ s) := hrn
  have HRL : Hid (ru.length = m + 1) := hrl
  have hgrow1 := hb1.size
  have hgrow2 := hb2.size
  clear hzs HZ HZT HYL hyr hyo hyn hb1 hb2 hzn hrn hrl DV LD c0
  go_wp2_with (at_make; refine wpList_make_full _ rfl _ _ 62 rfl w2.heap.size 24 i0 (.int .u64 0) 1 Tryz.underlying62 hi hz0 hz1 _ _ _ _ (d + 1) rfl rfl (by omega) (by omega) (by rw [hz2]; omega) (by unfold maxLen; omega) (Nat.le_refl _) ?_)
  intro w3 hown hgrow
  have hr3 : Row .u64 24 w3 w2.heap.size (List.replicate (d + 1) 0) := Row.made hown
  have hb3 : Below w2.heap.size w2 w3 := (Below.refl _ _).grown hgrow (Nat.le_refl _) (fun k hk => by cases hk)
  have hrr3 := hrr.below hb3 hlt2
  have hzd3 := hzdiv.below hb3
  have hbel3 : Below w.heap.size w w3 := hb12.trans (hb3.mono hb12.size)
  obtain ⟨Hd, hHd⟩ : ∃ z, z = w.heap.size := ⟨_, rfl⟩
  obtain ⟨Hr, hHr⟩ : ∃ z, z = w1.heap.size := ⟨_, rfl⟩
  obtain ⟨Hq, hHq⟩ : ∃ z, z = w2.heap.size := ⟨_, rfl⟩
  rw [← hHq] at hr3
  rw [← hHr] at hrr3
  rw [← hHd] at hzd3
  have hdr : Hd ≠ Hr := by omega
  have hdq : Hd ≠ Hq := by omega
  have hrq : Hr ≠ Hq := by omega
  have hqb : w.heap.size ≤ Hq := by omega
  have hrb : w.heap.size ≤ Hr := by omega
  have hqr : Hr < Hq := by omega
  clear hown hgrow hrr hzdiv
  simp only [← hHd, ← hHr, ← hHq]
  clear hHd hHr hHq
  go_wp2
  go_loopw [11, 12, 13] (fun i _ _ wr => ∃ k : Nat, k ≤ d + 1 ∧ i = .int .i64 ((k : Int) - 1) ∧ LongInv w Hd Hr Hq m (d + 1) zs (num B64 xs * 2 ^ s) k wr) (fun i _ _ _ => (intOf i + 1).toNat)
  case atStart =>
    refine ⟨d + 1, Nat.le_refl _, congrArg (Value.int IntKind.i64) (by omega), hbel3, hzd3, ru, _, hrr3, HRL.out, hro, HST.out, hr3, by simp, Ok.replicate (by decide) _, fun j _ => dg_replicate _ j, ?_⟩
    rw [num_replicate, Nat.mul_zero, Nat.add_zero]; exact HRN.out
  case round =>
    obtain ⟨k, hk, rfl, hinv⟩ := hrel
    rcases k with _ | k
    · obtain ⟨r, q, hr, hrl, hro, hrlt, hq, hql, hqo, _, hA⟩ := hinv.row
      have hbel := hinv.bel
      rw [Nat.pow_zero, Nat.mul_one, HZN.out] at hrlt
      rw [HZN.out] at hA
      obtain ⟨e1, e2, hY⟩ := long_end hrlt hA
      have hsm : num B64 r < B64 ^ n := by
        refine Nat.lt_trans hrlt ?_
        rw [← HZN.out, ← HZ'.out]; exact num_lt hzo
      obtain ⟨t1, ht1⟩ : ∃ q', q' = (trimmed q).length := ⟨_, rfl⟩
      obtain ⟨t2, ht2⟩ : ∃ q', q' = (trimmed r).length := ⟨_, rfl⟩
      have T1 : Hid ((trimmed q).length = t1) := ht1.symm
      have T2 : Hid ((trimmed r).length = t2) := ht2.symm
      have ht2n : t2 ≤ n := by rw [ht2]; exact trimmed_small hsm
      have HL : Hid (r.length = m + 1) := hrl
      have HLq : Hid (q.length = d + 1) := hql
      have E1 : Hid (num B64 q = num B64 xs / num B64 ys) := e1
      have E2 : Hid (num B64 r / 2 ^ s = num B64 xs % num B64 ys) := e2
      clear ht1 ht2 hrl hql e1 e2 hA hrlt hsm hinv hY
      go_wp2_with fail
      refine (trim_to _ (d + 1) (d + 1) t1 q _ (Nat.le_refl _) (by omega) HLq.out hq.at T1.out).mono ?_
      rintro e w' ⟨rfl, rfl⟩
      go_wp2_with fail
      refine (trim_to _ (m + 1) (m + 1) t2 r _ (Nat.le_refl _) (by omega) HL.out hr.at T2.out).mono ?_
      rintro e w' ⟨rfl, rfl⟩
      go_wp2_with fail
      refine (shiftDown0 _ t2 _ s (trimmed r) _ (by omega) hs63 T2.out hr.at.trimmed (trimmed_ok hro)).mono ?_
      rintro e w5 ⟨v2, r2, rfl, hown2, his2, hbel2⟩
      go_wp2
      go_ret2
      rw [num_trimmed, E2.out] at his2
      refine ⟨.slice (some ⟨Hq, 0, none⟩) t1 (d + 1), trimmed q, v2, r2, rfl, .inr ⟨Hq, q, ?_, hqb, hq.below hbel2 hq.lt, ?_, ?_⟩, hown2.mono hbel.size (by omega), ?_, his2, hbel.trans (hbel2.mono hbel.size), ?_⟩
      · rw [HLq.out, T1.out]
      · rw [length_trimmed]; rfl
      · rw [HLq.out]; omega
      · rw [← E1.out]; exact Is.trimmed hqo
      · refine .inr ?_
        have := hq.lt
        rcases hown2 with ⟨rfl, _⟩ | ⟨g2, full2, rfl, hg2, _⟩
        · simp [Value.ownBlock]
        · simp [Value.ownBlock]; omega
    · obtain ⟨r, q, hr, hrl, hro, hrlt, hq, hql, hqo, hqz, hA⟩ := hinv.row
      have hbr := hinv.bel
      have hdv := hinv.div
      have np := HN.out
      have nd := HD.out
      have hkd : k ≤ d := by omega
      obtain ⟨g, U, L, hg, hU, hL, hgb, hlo, hhi', hbig⟩ := guess_good (b := B64) (m := p) (k := k) (r := r) (ys := zs) (by decide) hro hzo (HZ'.out.trans np) HZT'.out hrlt
      have hzc : ∀ i, i < zs.length → wr.cell? ⟨Hd, 0 + i, none⟩ = some (.int .u64 ((dg zs i : Nat) : Int)) := by
        rcases hdv with h | ⟨b1, o1, h1, _, h3⟩
        · intro i hi; rw [h] at hi; simp at hi
        · simp only [Option.some.injEq, Addr.mk.injEq] at h1
          obtain ⟨rfl, rfl, _⟩ := h1
          exact h3
      have zl : zs.length = p + 2 := HZ'.out.trans np
      have gu := guessLimb_any Hr k p (m + 1 - k) Hd 0 (n + 1) _ _ _ _ _ wr (by omega) (hr.cell (k + (p + 2)) (by omega)) (hr.cell (k + (p + 1)) (by omega)) (hr.cell (k + p) (by omega)) (hzc (p + 1) (by omega)) (hzc p (by omega)) (hro _) (hro _) (hzo _) (hzo _)
      rw [← hg, show p + 2 = n by omega, show p + 3 = n + 1 by omega] at gu
      have hng : ∀ b o, zs ≠ [] → some (⟨Hd, 0, none⟩ : Addr) = some ⟨b, o, none⟩ → b ≠ Hr := by
        intro b o _ e; simp only [Option.some.injEq, Addr.mk.injEq] at e; omega
      have su : ∀ w1, Like w1 wr → Calls Tryz.prog 124 #[.slice (some ⟨Hr, k, none⟩) (n + 1) (m + 1 - k), .slice (some ⟨Hd, 0, none⟩) n (n + 1), .int .u64 (g : Int)] w1 (SubtPost w1 Hr r (num B64 zs * g * B64 ^ k) (k + (n + 1))) :=
        fun w1 h1 => subTimes_any Hr k n (m + 1 - k) (n + 1) g (some ⟨Hd, 0, none⟩) r zs w1 (by omega) HZ'.out (hdv.like h1) hzo hgb (hr.alike h1) hro (by omega) hng
      have ab : ∀ w1 w2 r1, Like w1 wr → w1.grownBy w2 (some Hr) → Row .u64 24 w2 Hr r1 → r1.length = r.length → Ok B64 r1 → Calls Tryz.prog 125 #[.slice (some ⟨Hr, k, none⟩) (n + 1) (m + 1 - k), .slice (some ⟨Hd, 0, none⟩) n (n + 1)] w2 (BackPost w2 Hr r1 (num B64 zs * B64 ^ k) (k + (n + 1))) :=
        fun w1 w2 r1 h1 h2 h3 h4 h5 => addBack_any Hr k n (m + 1 - k) (n + 1) (some ⟨Hd, 0, none⟩) r1 zs w2 (by omega) HZ'.out ((hdv.like h1).gr h2 hdr) hzo h3 h5 (by omega) hng
      have fi : ∀ w1 w2 r1 wr', Like w1 wr → w1.grownBy w2 (some Hr) → Row .u64 24 w2 Hr r1 → r1.length = r.length → Ok B64 r1 → num B64 r1 + num B64 zs * g * B64 ^ k = num B64 r + 0 * B64 ^ (k + (n + 1)) →
          Like wr' (w2.setCell ⟨Hq, k, none⟩ (.int .u64 (g : Int))) → LongInv w Hd Hr Hq m (d + 1) zs (num B64 xs * 2 ^ s) k wr' :=
        fun w1 w2 r1 wr' h1 h2 h3 h4 h5 h6 h7 => LongInv.fits hdq hrq hdr hqb hrb hbr hdv hrl hq hql hqo hqz hA (by omega) hU hL hgb hlo h1 h2 h3 h4 h5 h6 h7
      have sml : ∀ r1, Ok B64 r1 → (∀ j, k + (n + 1) ≤ j → dg r1 j = dg r j) → num B64 r1 < B64 ^ (k + (n + 1)) := fun r1 h1 h2 =>
        num_below h1 (fun j hj => by rw [h2 j hj]; exact dg_small (by decide) hbig (by omega))
      have ba : ∀ w1 w2 w3 r1 r2 cc g' wr', g' + 1 = g → Like w1 wr → w1.grownBy w2 (some Hr) → w2.grownBy w3 (some Hr) → Row .u64 24 w3 Hr r2 → r1.length = r.length → r2.length = r1.length → Ok B64 r1 → Ok B64 r2 → (∀ j, k + (n + 1) ≤ j → dg r1 j = dg r j) → (∀ j, k + (n + 1) ≤ j → dg r2 j = dg r1 j) → cc ≤ 1 →
          num B64 r1 + num B64 zs * g * B64 ^ k = num B64 r + 1 * B64 ^ (k + (n + 1)) → num B64 r2 + cc * B64 ^ (k + (n + 1)) = num B64 r1 + num B64 zs * B64 ^ k →
          Like wr' (w3.setCell ⟨Hq, k, none⟩ (.int .u64 (g' : Int))) → LongInv w Hd Hr Hq m (d + 1) zs (num B64 xs * 2 ^ s) k wr' :=
        fun w1 w2 w3 r1 r2 cc g' wr' hgg h1 h2 h3 h4 hl1 hl2 ho1 ho2 hz1 hz2 hc hs1 hs2 hw => LongInv.back hdq hrq hdr hqb hrb hbr hdv hrl hq hql hqo hqz hA (by omega) hU hgb hgg hhi' h1 h2 h3 h4 (by omega) ho2 (sml r1 ho1 hz1) (sml r2 ho2 (fun j hj => (hz2 j hj).trans (hz1 j hj))) hc hs1 hs2 hw
      have po : ∀ r1, Ok B64 r1 → (∀ j, k + (n + 1) ≤ j → dg r1 j = dg r j) → num B64 r1 + num B64 zs * g * B64 ^ k = num B64 r + 1 * B64 ^ (k + (n + 1)) → 1 ≤ g := fun r1 h1 h2 h3 => long_one (sml r1 h1 h2) h3
      have GU : Hid (Calls Tryz.prog 123 #[.slice (some ⟨Hr, k, none⟩) (n + 1) (m + 1 - k), .slice (some ⟨Hd, 0, none⟩) n (n + 1)] wr fun e w' => e = .returned (.int .u64 (g : Int)) ∧ Like w' wr) := gu
      have SU : Hid (∀ w1, Like w1 wr → Calls Tryz.prog 124 #[.slice (some ⟨Hr, k, none⟩) (n + 1) (m + 1 - k), .slice (some ⟨Hd, 0, none⟩) n (n + 1), .int .u64 (g : Int)] w1 (SubtPost w1 Hr r (num B64 zs * g * B64 ^ k) (k + (n + 1)))) := su
      have AB := hide ab
      have FI := hide fi
      have BA := hide ba
      have PO := hide po
      have QR : Hid (∀ w1 w2, Like w1 wr → w1.grownBy w2 (some Hr) → Row .u64 24 w2 Hq q) := fun w1 w2 h1 h2 => (hq.alike h1).gr h2 (Ne.symm hrq)
      have hne : ¬ (m + 1 = k) := by omega
      have hle : (k : Int) + (n : Int) + 1 ≤ ((m + 1 : Nat) : Int) := by omega
      have hkq : (k : Int) < ((d + 1 : Nat) : Int) := by omega
      have hkq' : k < q.length := by omega
      have hgb' : Hid (g < B64) := hgb
      clear hbr hdv np nd hg hU hL hgb hlo hhi' hbig hzc zl gu hng su ab fi sml ba po hinv hr hrl hro hrlt hq hql hqo hqz hA
      go_wp2_with fail
      rw [show k + n + 1 - k = n + 1 by omega]
      refine GU.out.mono ?_
      rintro e w4 ⟨rfl, hlike⟩
      have HK : Hid (Like w4 wr) := hlike
      clear hlike
      go_wp2_with fail
      refine (SU.out _ HK.out).mono ?_
      rintro e w5 ⟨dd, rfl, hd1, hgr, r1, a1, a2, a3, a4, a5⟩
      have hq5 := QR.out _ _ HK.out hgr
      have c5 := hq5.cell k hkq'
      have f5 := hq5.free k
      have hdd : dd = 0 ∨ dd = 1 := by omega
      rcases hdd with rfl | rfl
      · have hnx := fun wr' hw => FI.out _ _ _ wr' HK.out hgr a1 a2 a3 a5 hw
        have NX := hide hnx
        clear hgr a1 a2 a3 a4 a5 hnx hd1 hq5
        go_wp2
        go_roundw
        case rel => exact ⟨k, by omega, by go_num, NX.out _ ⟨rfl, rfl, rfl, rfl⟩⟩
        case measure => simp [intOf]
      · obtain ⟨g', rfl⟩ : ∃ g', g = g' + 1 := ⟨g - 1, by have := PO.out _ a3 a4 a5; omega⟩
        have hwg : IntKind.u64.wrap (((g' + 1 : Nat) : Int) - 1) = (g' : Int) := by
          rw [show ((g' + 1 : Nat) : Int) - 1 = (g' : Int) by omega, wrapLt _ (by have := hgb'.out; unfold B64 at this; omega)]
        have hwg2 : IntKind.u64.wrap (g' : Int) = (g' : Int) := wrapLt _ (by have := hgb'.out; unfold B64 at this; omega)
        have hab := AB.out _ _ _ HK.out hgr a1 a2 a3
        have ABK := hide hab
        have hnx := fun w3 r2 cc wr' b1 b2 b3 b4 b5 b6 b7 hw => BA.out _ _ w3 _ r2 cc g' wr' rfl HK.out hgr b1 b2 a2 b3 a3 b4 a4 b5 b6 a5 b7 hw
        have NX := hide hnx
        clear a1 a2 a3 a4 a5 hnx hd1 hab c5 f5
        go_wp2_with fail
        refine ABK.out.mono ?_
        rintro e w6 ⟨rfl, hgr2, r2, cc, b1, b2, b3, b4, b5, b6⟩
        have hq6 := hq5.gr hgr2 (Ne.symm hrq)
        have c6 := hq6.cell k hkq'
        have f6 := hq6.free k
        have hny := fun wr' hw => NX.out _ _ _ wr' hgr2 b1 b2 b3 b4 b5 b6 hw
        have NY := hide hny
        clear hgr hgr2 b1 b2 b3 b4 b5 b6 hny hq5 hq6 NX
        go_wp2
        go_roundw
        case rel => exact ⟨k, by omega, by go_num, NY.out _ ⟨rfl, rfl, rfl, rfl⟩⟩
        case measure => simp [intOf]

end Go.Proofs.YtlhekeifffofjaaGreatDoor

namespace Go.Proofs.YtlhekeifffofjaaGreatDoor
open Go.RowKit

theorem num_one {b : Nat} {xs : List Nat} (h : xs.length = 1) : num b xs = dg xs 0 := by
  unfold num; rw [h]; simp [V]

theorem divmod_by_limb (ao bo : Option Addr) (la ca lb cb : Nat) (xs ys : List Nat) (w : World) (hla : la ≤ ca) (hca : la ≤ 10000000000 ∧ ca ≤ 9223372036854775807) (hlb : lb ≤ cb) (hcb : lb ≤ 10000000000 ∧ cb ≤ 9223372036854775807)
    (hx : xs.length = la) (hy : ys.length = lb) (hax : At .u64 w ao xs) (hay : At .u64 w bo ys) (ox : Ok B64 xs) (oy : Ok B64 ys) (h1 : (trimmed ys).length = 1) (h2 : 1 ≤ (trimmed xs).length) :
    Calls Tryz.prog 66 #[.slice ao la ca, .slice bo lb cb] w (DivPost w la (num B64 xs / num B64 ys) (num B64 xs % num B64 ys) 0) := by
  have l1 := length_trimmed_le xs
  rcases hay.trimmed with h | ⟨b, o, rfl, hb, hc⟩
  · rw [h] at h1; simp at h1
  · rcases hax.trimmed with h | ⟨b', o', rfl, hb', hc'⟩
    · rw [h] at h2; simp at h2
    · have hn : num B64 ys = dg (trimmed ys) 0 := by rw [← num_trimmed, num_one h1]
      have hpos : 0 < dg (trimmed ys) 0 := by
        have := trimmed_top ys 0 (by rw [h1]); omega
      have hlt : num B64 xs % num B64 ys < B64 := by
        rw [hn]; exact Nat.lt_trans (Nat.mod_lt _ hpos) (trimmed_ok oy 0)
      have c3 := divLimb_at b' o' (trimmed xs).length ca (dg (trimmed ys) 0) (trimmed xs) w (by omega) hpos (trimmed_ok oy 0) rfl hb' hc' (trimmed_ok ox)
      rw [num_trimmed, ← hn] at c3
      have hc0 := hc 0 (by omega)
      have hc0' : w.cell? ⟨b, o, none⟩ = some (.int .u64 ((num B64 ys : Nat) : Int)) := by rw [hn]; exact hc0
      have key := divmod_limb (some ⟨b', o', none⟩) b o la ca lb cb (trimmed xs).length _ _ (num B64 ys) w h2 (by omega) (fun w' h => trim_to _ la ca _ xs w' hla (by omega) hx (hax.same h) rfl)
        (fun w' h => trim_to _ lb cb 1 ys w' hlb (by omega) hy (hay.same h) h1) hc0' c3 hlt
      refine key.mono ?_
      rintro e w' ⟨v1, r1, v2, r2, e1, o1, o2, i1, i2, hb, hd⟩
      exact ⟨v1, r1, v2, r2, e1, o1.mono (Nat.le_refl _) (by omega), o2.mono (Nat.le_refl _) (by omega), i1, i2, hb, hd⟩

theorem At.alloc {k : IntKind} {w : World} {ao : Option Addr} {xs : List Nat} (h : At k w ao xs) (o : Obj) : At k (w.alloc o) ao xs := h.below ((Below.refl _ _).alloc (Nat.le_refl _) o)

end Go.Proofs.YtlhekeifffofjaaGreatDoor

namespace Go.Proofs.YtlhekeifffofjaaGreatDoor
open Go.RowKit

set_option maxHeartbeats 1000000 in
theorem divmod_long (ao bo : Option Addr) (la ca lb cb m p n q r : Nat) (w : World) (hpm : p ≤ m) (hp : 2 ≤ p) (_hm : m ≤ 10000000000)
    (c1 : ∀ w' : World, w'.heap = w.heap → Calls Tryz.prog 94 #[.slice ao la ca] w' fun e w'' => e = .returned (.slice ao m ca) ∧ w' = w'')
    (c2 : ∀ w' : World, w'.heap = w.heap → Calls Tryz.prog 94 #[.slice bo lb cb] w' fun e w'' => e = .returned (.slice bo p cb) ∧ w' = w'')
    (c3 : Calls Tryz.prog 97 #[.slice ao m ca, .slice bo p cb] w (LongPost w n q r)) :
    Calls Tryz.prog 66 #[.slice ao la ca, .slice bo lb cb] w (DivPost w n q r 0) := by
  have C1 : Hid (∀ w' : World, w'.heap = w.heap → Calls Tryz.prog 94 #[.slice ao la ca] w' fun e w'' => e = .returned (.slice ao m ca) ∧ w' = w'') := c1
  have C2 : Hid (∀ w' : World, w'.heap = w.heap → Calls Tryz.prog 94 #[.slice bo lb cb] w' fun e w'' => e = .returned (.slice bo p cb) ∧ w' = w'') := c2
  have C3 : Hid (Calls Tryz.prog 97 #[.slice ao m ca, .slice bo p cb] w (LongPost w n q r)) := c3
  have n1 : ((p : Int) == 0) = false := by rw [beq_eq_false_iff_ne]; omega
  have n2 : ¬ (m : Int) < (p : Int) := by omega
  have n3 : ((p : Int) == 1) = false := by rw [beq_eq_false_iff_ne]; omega
  clear c1 c2 c3
  go_enter Tryz.func66, Tryz.ntmps66
  go_wp2_with fail
  refine (C1.out _ rfl).mono ?_
  rintro e w' ⟨rfl, rfl⟩
  go_wp2_with fail
  refine (C2.out _ rfl).mono ?_
  rintro e w' ⟨rfl, rfl⟩
  go_wp2_with fail
  refine C3.out.mono ?_
  rintro e w1 ⟨v1, r1, v2, r2, rfl, o1, o2, i1, i2, hb, hne⟩
  go_wp2
  go_ret3
  exact ⟨v1, r1, v2, r2, rfl, o1, o2, i1, i2, hb, hne⟩

/-- Where the divisor is not nought: quotient and rest, in memory of their own. -/
theorem divmod_any (ao bo : Option Addr) (la ca lb cb : Nat) (xs ys : List Nat) (w : World) (hla : la ≤ ca) (hca : la ≤ 100000000 ∧ ca ≤ 9223372036854775807) (hlb : lb ≤ cb) (hcb : lb ≤ 100000000 ∧ cb ≤ 9223372036854775807)
    (hx : xs.length = la) (hy : ys.length = lb) (hax : At .u64 w ao xs) (hay : At .u64 w bo ys) (ox : Ok B64 xs) (oy : Ok B64 ys) (h0 : num B64 ys ≠ 0) :
    Calls Tryz.prog 66 #[.slice ao la ca, .slice bo lb cb] w (DivPost w la (num B64 xs / num B64 ys) (num B64 xs % num B64 ys) 0) := by
  have hb0 : 0 < B64 := by decide
  have l1 := length_trimmed_le xs
  have l2 := length_trimmed_le ys
  have c1 : ∀ w' : World, w'.heap = w.heap → Calls Tryz.prog 94 #[.slice ao la ca] w' fun e w'' => e = .returned (.slice ao (trimmed xs).length ca) ∧ w' = w'' := fun w' h => trim_to _ la ca _ xs w' hla (by omega) hx (hax.same h) rfl
  have c2 : ∀ w' : World, w'.heap = w.heap → Calls Tryz.prog 94 #[.slice bo lb cb] w' fun e w'' => e = .returned (.slice bo (trimmed ys).length cb) ∧ w' = w'' := fun w' h => trim_to _ lb cb _ ys w' hlb (by omega) hy (hay.same h) rfl
  have wide : ∀ {m q r : Nat}, m ≤ la → ∀ e w', DivPost w m q r 0 e w' → DivPost w la q r 0 e w' := by
    rintro m q r hm e w' ⟨v1, r1, v2, r2, e1, o1, o2, i1, i2, hb, hd⟩
    exact ⟨v1, r1, v2, r2, e1, o1.mono (Nat.le_refl _) hm, o2.mono (Nat.le_refl _) hm, i1, i2, hb, hd⟩
  have p0 : (trimmed ys).length ≠ 0 := fun h => h0 (by rw [← num_trimmed, List.length_eq_zero_iff.1 h]; rfl)
  by_cases hlt : (trimmed xs).length < (trimmed ys).length
  · have nl : num B64 xs < num B64 ys := by
      rcases hn : (trimmed ys).length with _ | n
      · exact absurd hn p0
      · have a1 := num_lt (trimmed_ok ox)
        have a2 := num_ge (b := B64) (trimmed_top ys) hn
        have a3 := Nat.pow_le_pow_right hb0 (show (trimmed xs).length ≤ n by omega)
        rw [num_trimmed] at a1 a2
        omega
    have c3 := norm_any ao (trimmed xs).length ca (trimmed xs) w (by omega) (by omega) rfl hax.trimmed (trimmed_ok ox)
    have key := divmod_less ao bo la ca lb cb _ _ (num B64 xs) w hlt (by omega) c1 c2 (by rw [num_trimmed] at c3; exact c3)
    rw [Nat.div_eq_of_lt nl, Nat.mod_eq_of_lt nl]
    exact key.mono (wide (by omega))
  · by_cases h1 : (trimmed ys).length = 1
    · exact divmod_by_limb ao bo la ca lb cb xs ys w hla (by omega) hlb (by omega) hx hy hax hay ox oy h1 (by omega)
    · obtain ⟨p, hp⟩ : ∃ p, (trimmed ys).length = p + 2 := ⟨(trimmed ys).length - 2, by omega⟩
      have c3 := divLong_at ao bo (trimmed xs).length ca (trimmed ys).length cb p ((trimmed xs).length - (trimmed ys).length) (trimmed xs) (trimmed ys) w hp (by omega) (by omega) rfl rfl hax.trimmed hay.trimmed (trimmed_ok ox) (trimmed_ok oy) (trimmed_top ys (p + 1) hp)
      rw [num_trimmed, num_trimmed] at c3
      exact (divmod_long ao bo la ca lb cb _ _ _ _ _ w (by omega) (by omega) (by omega) c1 c2 c3).mono (wide (by omega))

end Go.Proofs.YtlhekeifffofjaaGreatDoor

namespace Go.Proofs.YtlhekeifffofjaaGreatDoor
open Go.RowKit

/-- How two numbers stand: -1, 0 or 1. -/
def cmpN (a b : Nat) : Int := if a < b then -1 else if b < a then 1 else 0

theorem cmpTo_V {b : Nat} {xs ys : List Nat} (hx : Ok b xs) (hy : Ok b ys) : ∀ n, cmpTo xs ys n = cmpN (V b (dg xs) n) (V b (dg ys) n)
  | 0 => rfl
  | n + 1 => by
    have ih := cmpTo_V hx hy n
    have h1 := V_lt (b := b) n (fun i _ => hx i)
    have h2 := V_lt (b := b) n (fun i _ => hy i)
    simp only [cmpTo, V]
    have key : ∀ (p q u v B : Nat), u < B → v < B → p < q → u + p * B < v + q * B := by
      intro p q u v B hu hv hpq
      have := Nat.mul_le_mul_right B (show p + 1 ≤ q from hpq)
      rw [Nat.add_mul, Nat.one_mul] at this
      omega
    show (if dg xs n < dg ys n then -1 else if dg ys n < dg xs n then 1 else cmpTo xs ys n) = _
    unfold cmpN
    rcases Nat.lt_trichotomy (dg xs n) (dg ys n) with h | h | h
    · have := key _ _ _ _ _ h1 h2 h
      rw [if_pos h, if_pos this]
    · rw [if_neg (by omega), if_neg (by omega), ih, h]
      unfold cmpN
      congr 1
      · simp
      · simp
    · have := key _ _ _ _ _ h2 h1 h
      rw [if_neg (by omega), if_pos h, if_neg (by omega), if_pos this]

theorem cmp_num (ao bo : Option Addr) (la ca lb cb : Nat) (xs ys : List Nat) (w : World) (hla : la ≤ 1000000000000) (hlb : lb ≤ 1000000000000) (hx : xs.length = la) (hy : ys.length = lb)
    (hax : At .u64 w ao xs) (hay : At .u64 w bo ys) (ox : Ok B64 xs) (oy : Ok B64 ys) (z : Int) (hz : cmpN (num B64 xs) (num B64 ys) = z) :
    Calls Tryz.prog 80 #[.slice ao la ca, .slice bo lb cb] w fun e w' => e = .returned (.int .i64 z) ∧ Below w.heap.size w w' := by
  have h := cmp_any ao bo la ca lb cb xs ys w hla hlb hx hy hax hay
  rw [cmpTo_V ox oy, num_eq (by omega), num_eq (by omega), hz] at h
  exact h

end Go.Proofs.YtlhekeifffofjaaGreatDoor

namespace Go.Proofs.YtlhekeifffofjaaGreatDoor

/-- The first n digits that a function gives. -/
def mk (D : Nat → Nat) (n : Nat) : List Nat := (List.range n).map D
theorem mk_len (D : Nat → Nat) (n : Nat) : (mk D n).length = n := by simp [mk]
theorem mk_succ (D : Nat → Nat) (n : Nat) : mk D (n + 1) = mk D n ++ [D n] := by simp [mk, List.range_succ]
theorem dg_mk (D : Nat → Nat) (n j : Nat) (h : j < n) : dg (mk D n) j = D j := by simp [dg, mk, h]

theorem new_cell (w : World) (v : Value) (t : TypeId) : ∀ (j : Nat) (u : Value), [v][j]? = some u → (w.alloc (Obj.cells #[v] t)).cell? ((⟨w.heap.size, 0, none⟩ : Addr).add j) = some u := by
  intro j u hj
  match j, hj with
  | 0, hj =>
    simp at hj
    subst hj
    simp [Addr.add]

theorem one_one (k : IntKind) (n : Int) : ∀ u ∈ [Value.int k n], u.oneCell' = true := by
  intro u hu; simp at hu; subst hu; rfl

end Go.Proofs.YtlhekeifffofjaaGreatDoor

namespace Go.Proofs.YtlhekeifffofjaaGreatDoor

theorem mul_val (b : Nat) (f y : Nat → Nat) (n : Nat) : ∀ m, V b f m + V b y m * n = V b (mulD b f y n) m + mulC b f y n m * b ^ m
  | 0 => by simp [V, mulC]
  | m + 1 => by
    have ih := mul_val b f y n m
    have e := mulD_eq b f y n m
    simp only [V]
    have e2 : (mulD b f y n m + mulC b f y n (m + 1) * b) * b ^ m = (f m + y m * n + mulC b f y n m) * b ^ m := by rw [e]
    rw [Nat.add_mul, Nat.add_mul, Nat.add_mul] at e2
    have e3 : mulC b f y n (m + 1) * b * b ^ m = mulC b f y n (m + 1) * b ^ (m + 1) := by rw [Nat.pow_succ, Nat.mul_assoc, Nat.mul_comm b]
    have e4 : (V b y m + y m * b ^ m) * n = V b y m * n + y m * n * b ^ m := by rw [Nat.add_mul, Nat.mul_right_comm]
    rw [e4]
    generalize V b (mulD b f y n) m = d at *
    omega

theorem num_zeros (b lm : Nat) (l : List Nat) : num b (List.replicate lm 0 ++ l) = b ^ lm * num b l := by
  have h1 : ∀ j, j < lm → dg (List.replicate lm 0 ++ l) j = 0 := by
    intro j hj; unfold dg; rw [List.getElem?_append_left (by simpa using hj)]; simp [hj]
  have h2 : ∀ j, dg (List.replicate lm 0 ++ l) (lm + j) = dg l j := by
    intro j; unfold dg; rw [List.getElem?_append_right (by simp)]; simp
  unfold num
  have hll : (List.replicate lm 0 ++ l).length = lm + l.length := by simp
  rw [hll, V_split]
  have e1 : V b (dg (List.replicate lm 0 ++ l)) lm = 0 := by
    rw [V_congr (g := fun _ => 0) lm (fun i hi => h1 i hi)]
    have : ∀ n, V b (fun _ => 0) n = 0 := by
      intro n
      induction n with
      | zero => rfl
      | succ n ih => simp [V, ih]
    exact this lm
  rw [e1, Nat.zero_add]
  congr 1
  exact V_congr _ (fun i _ => h2 i)

/-- The digits of a number times 2^s, s below 16. -/
def shlD (s : Nat) (x : Nat → Nat) : Nat → Nat := mulD 65536 (fun _ => 0) x (2 ^ s)
def shlC (s : Nat) (x : Nat → Nat) : Nat → Nat := mulC 65536 (fun _ => 0) x (2 ^ s)

theorem pow_lt16 {s : Nat} (hs : s ≤ 15) : (2 : Nat) ^ s < 65536 := by
  have : (2 : Nat) ^ s ≤ 2 ^ 15 := Nat.pow_le_pow_right (by omega) hs
  have h : (2 : Nat) ^ 15 = 32768 := by decide
  omega

/-- The carry of a shift stays below 2^s. -/
theorem shlC_lt {s : Nat} {x : Nat → Nat} (hx : ∀ i, x i < 65536) : ∀ i, shlC s x i < 2 ^ s
  | 0 => Nat.two_pow_pos s
  | i + 1 => by
    have ih := shlC_lt (s := s) hx i
    unfold shlC at ih ⊢
    simp only [mulC, Nat.zero_add]
    rw [Nat.div_lt_iff_lt_mul (by omega)]
    have h1 : (x i + 1) * 2 ^ s ≤ 65536 * 2 ^ s := Nat.mul_le_mul_right _ (hx i)
    rw [Nat.add_mul, Nat.one_mul] at h1
    rw [Nat.mul_comm (2 ^ s)]
    omega

theorem shl_is {s m lm : Nat} {xs : List Nat} (ox : Ok 65536 xs) (hm : xs.length = m) (hs : s ≤ 15) :
    Ok 65536 (List.replicate lm 0 ++ mk (shlD s (dg xs)) m ++ [shlC s (dg xs) m]) ∧
    num 65536 (List.replicate lm 0 ++ mk (shlD s (dg xs)) m ++ [shlC s (dg xs) m]) = num 65536 xs * (65536 ^ lm * 2 ^ s) := by
  have hc := shlC_lt (s := s) (x := dg xs) ox m
  have hp := pow_lt16 hs
  have hl : (mk (shlD s (dg xs)) m ++ [shlC s (dg xs) m]).length = m + 1 := by simp [mk]
  have hd : ∀ j, j < m → dg (mk (shlD s (dg xs)) m ++ [shlC s (dg xs) m]) j = shlD s (dg xs) j := by
    intro j hj
    unfold dg
    rw [List.getElem?_append_left (by rw [mk_len]; exact hj)]
    exact dg_mk _ m j hj
  have hn : dg (mk (shlD s (dg xs)) m ++ [shlC s (dg xs) m]) m = shlC s (dg xs) m := by
    unfold dg
    rw [List.getElem?_append_right (by rw [mk_len]; exact Nat.le_refl _), mk_len]; simp
  rw [List.append_assoc]
  refine ⟨?_, ?_⟩
  · intro j
    by_cases h1 : j < lm
    · unfold dg; rw [List.getElem?_append_left (by simpa using h1)]; simp [h1]
    · obtain ⟨i, rfl⟩ : ∃ i, j = lm + i := ⟨j - lm, by omega⟩
      have : dg (List.replicate lm 0 ++ (mk (shlD s (dg xs)) m ++ [shlC s (dg xs) m])) (lm + i) = dg (mk (shlD s (dg xs)) m ++ [shlC s (dg xs) m]) i := by
        unfold dg; rw [List.getElem?_append_right (by simp)]; simp
      rw [this]
      rcases Nat.lt_trichotomy i m with h | h | h
      · rw [hd i h]; exact Nat.mod_lt _ (by omega)
      · rw [h, hn]; omega
      · rw [dg_out (by omega)]; omega
  · rw [num_zeros]
    have hv := mul_val 65536 (fun _ => 0) (dg xs) (2 ^ s) m
    have h0 : V 65536 (fun _ => 0) m = 0 := by
      have : ∀ n, V 65536 (fun _ => 0) n = 0 := by
        intro n
        induction n with
        | zero => rfl
        | succ n ih => simp [V, ih]
      exact this m
    rw [h0, Nat.zero_add, num_eq (by omega)] at hv
    have e : num 65536 (mk (shlD s (dg xs)) m ++ [shlC s (dg xs) m]) = num 65536 xs * 2 ^ s := by
      unfold num at hv ⊢
      rw [hl]
      simp only [V]
      rw [hn, V_congr m hd, hm] at *
      exact hv.symm
    rw [e, Nat.mul_left_comm]

end Go.Proofs.YtlhekeifffofjaaGreatDoor

namespace Go.Proofs.YtlhekeifffofjaaGreatDoor

theorem dig_at {b : Nat} {xs : List Nat} (hb : 0 < b) (ox : Ok b xs) (j : Nat) : num b xs / b ^ j % b = dg xs j := by
  by_cases hj : j < xs.length
  · obtain ⟨t, ht⟩ : ∃ t, xs.length = j + (1 + t) := ⟨xs.length - j - 1, by omega⟩
    have h1 := V_split b (dg xs) j (1 + t)
    have h2 := V_split b (fun i => dg xs (j + i)) 1 t
    have h3 : V b (dg xs) j < b ^ j := V_lt j (fun i _ => ox i)
    have hp : 0 < b ^ j := Nat.pow_pos hb
    unfold num
    rw [ht, h1, Nat.add_comm, Nat.mul_add_div hp, Nat.div_eq_of_lt h3, Nat.add_zero, h2]
    simp only [V, Nat.pow_zero, Nat.mul_one, Nat.zero_add, Nat.pow_one, Nat.add_zero]
    rw [Nat.add_mul_mod_self_left]
    exact Nat.mod_eq_of_lt (ox j)
  · have h1 := num_lt ox
    have h2 := Nat.pow_le_pow_right hb (show xs.length ≤ j by omega)
    rw [Nat.div_eq_of_lt (by omega), dg_out (by omega), Nat.zero_mod]

theorem pow16j (j : Nat) : (65536 : Nat) ^ j = 2 ^ (16 * j) := by rw [show (65536 : Nat) = 2 ^ 16 by decide +kernel, ← Nat.pow_mul]

theorem bit_at {xs : List Nat} (ox : Ok 65536 xs) {j s : Nat} (hs : s ≤ 15) : num 65536 xs / 2 ^ (16 * j + s) % 2 = dg xs j / 2 ^ s % 2 := by
  have h1 := dig_at (by omega) ox j
  rw [Nat.pow_add, ← pow16j, ← Nat.div_div_eq_div_mul]
  generalize num 65536 xs / 65536 ^ j = M at *
  have h2 := Nat.div_add_mod M 65536
  rw [h1] at h2
  generalize dg xs j = d at *
  generalize M / 65536 = h at *
  have h3 : (65536 : Nat) = 2 ^ s * (2 * 2 ^ (15 - s)) := by
    rw [show 2 * 2 ^ (15 - s) = 2 ^ (15 - s + 1) by rw [Nat.pow_succ]; omega, ← Nat.pow_add, show s + (15 - s + 1) = 16 by omega]
  rw [← h2, h3, Nat.mul_assoc, Nat.mul_add_div (Nat.two_pow_pos s), Nat.mul_assoc, Nat.mul_add_mod]

theorem low_zero {xs : List Nat} (ox : Ok 65536 xs) {j s t : Nat} (hs : s ≤ 15) (h : num 65536 xs = t * 2 ^ (16 * j + s + 1)) : dg xs j % 2 ^ (s + 1) = 0 := by
  rw [← dig_at (by omega) ox j, h]
  have e : t * 2 ^ (16 * j + s + 1) = 65536 ^ j * (t * 2 ^ (s + 1)) := by
    rw [pow16j, show 16 * j + s + 1 = 16 * j + (s + 1) by omega, Nat.pow_add, Nat.mul_left_comm]
  rw [e, Nat.mul_div_cancel_left _ (Nat.pow_pos (by omega))]
  have hd : 2 ^ (s + 1) ∣ (65536 : Nat) := by
    rw [show (65536 : Nat) = 2 ^ 16 by decide +kernel]
    exact Nat.pow_dvd_pow 2 (by omega)
  rw [Nat.mod_mod_of_dvd _ hd, Nat.mul_mod_left]

theorem set_bit {d s : Nat} (hd : d < 65536) (hs : s ≤ 15) (h : d % 2 ^ (s + 1) = 0) : d ||| 2 ^ s = d + 2 ^ s ∧ d + 2 ^ s < 65536 := by
  have h1 := Nat.div_add_mod d (2 ^ (s + 1))
  rw [h, Nat.add_zero] at h1
  have hlt : (2 : Nat) ^ s < 2 ^ (s + 1) := Nat.pow_lt_pow_right (by omega) (by omega)
  generalize d / 2 ^ (s + 1) = a at *
  have e : d ||| 2 ^ s = d + 2 ^ s := by
    rw [← h1, Nat.or_comm, Nat.mul_comm, or_low hlt, Nat.add_comm]
  refine ⟨e, ?_⟩
  have hp : (65536 : Nat) = 2 ^ (s + 1) * 2 ^ (15 - s) := by rw [← Nat.pow_add, show s + 1 + (15 - s) = 16 by omega]
  have ha : a < 2 ^ (15 - s) := by
    rw [hp, ← h1] at hd
    exact Nat.lt_of_mul_lt_mul_left hd
  have h2 : 2 ^ (s + 1) * (a + 1) ≤ 2 ^ (s + 1) * 2 ^ (15 - s) := Nat.mul_le_mul_left _ ha
  rw [Nat.mul_add, ← hp] at h2
  omega

theorem rdiv_next (A B k : Nat) (hB : 0 < B) : (B ≤ 2 * (A / 2 ^ (k + 1) % B) + A / 2 ^ k % 2 → A / 2 ^ k / B = 2 * (A / 2 ^ (k + 1) / B) + 1 ∧ A / 2 ^ k % B = 2 * (A / 2 ^ (k + 1) % B) + A / 2 ^ k % 2 - B) ∧
    (¬ B ≤ 2 * (A / 2 ^ (k + 1) % B) + A / 2 ^ k % 2 → A / 2 ^ k / B = 2 * (A / 2 ^ (k + 1) / B) ∧ A / 2 ^ k % B = 2 * (A / 2 ^ (k + 1) % B) + A / 2 ^ k % 2) := by
  have e1 : A / 2 ^ (k + 1) = A / 2 ^ k / 2 := by rw [Nat.pow_succ, Nat.div_div_eq_div_mul]
  rw [e1]
  generalize A / 2 ^ k = T at *
  have e2 := Nat.div_add_mod T 2
  have e3 := Nat.div_add_mod (T / 2) B
  have e4 := Nat.mod_lt (T / 2) hB
  have e5 := Nat.mod_lt T (show 0 < 2 by omega)
  generalize T % 2 = c at *
  generalize T / 2 = H at *
  generalize H % B = R at *
  generalize H / B = Q at *
  refine ⟨fun h => ?_, fun h => ?_⟩
  · refine (Nat.div_mod_unique hB).2 ⟨?_, by omega⟩
    rw [← e2, ← e3, Nat.mul_add B, Nat.mul_left_comm B 2]; omega
  · refine (Nat.div_mod_unique hB).2 ⟨?_, by omega⟩
    rw [← e2, ← e3, Nat.mul_left_comm B 2]; omega

end Go.Proofs.YtlhekeifffofjaaGreatDoor

namespace Go.Proofs.YtlhekeifffofjaaGreatDoor
open Go.RowKit

/-- A list of uint64 that is being built by append. -/
def Grw (w wr : World) (v : Value) (ys : List Nat) : Prop := Below w.heap.size w wr ∧ wr.ownsRow w.heap.size 24 1 v ys.length (vals .u64 ys)

theorem Grw.at {w wr : World} {v : Value} {ys : List Nat} (h : Grw w wr v ys) : ∃ ao cap, v = .slice ao ys.length cap ∧ ys.length ≤ cap ∧ At .u64 wr ao ys := by
  obtain ⟨hb, hl, ho⟩ := h
  rcases ho with ⟨rfl, h0⟩ | ⟨g, cap, cur, rfl, hg, hh, hn, _, hs, ht⟩
  · obtain rfl : ys = [] := List.length_eq_zero_iff.1 h0
    exact ⟨none, 0, rfl, Nat.le_refl _, At.nil _ _ _⟩
  · refine ⟨_, cap, rfl, hn, .inr ⟨g, 0, rfl, lt_of_block hh, fun i hi => ?_⟩⟩
    simp only [World.cell?, hh]
    have hc : cur[i]? = (vals .u64 ys)[i]? := by
      rw [← ht, List.getElem?_take_of_lt (by omega), Array.getElem?_toList]
    simp only [Option.isSome_none, Bool.false_eq_true, if_false, Nat.zero_add, hc]
    simp [vals, hi]

theorem Grw.step {w wr w1 : World} {v v' : Value} {ys : List Nat} {d : Nat} (o : Obj) (h : Grw w wr v ys) (ho : w1.ownsRow w.heap.size 24 1 v' (ys.length + 1) (vals .u64 ys ++ [.int .u64 (d : Int)])) (hg : (wr.alloc o).grownBy w1 v.ownBlock) :
    Grw w w1 v' (ys ++ [d]) := by
  have hb := h.1.alloc (h.1.size) o
  refine ⟨hb.grown hg hb.size ?_, ?_⟩
  · intro k hk
    rcases h.2.2 with ⟨rfl, _⟩ | ⟨g, cap, cur, rfl, hgb, _⟩
    · simp [Value.ownBlock] at hk
    · simp [Value.ownBlock] at hk; omega
  · rw [List.length_append]
    have : vals .u64 (ys ++ [d]) = vals .u64 ys ++ [.int .u64 (d : Int)] := by simp [vals]
    rw [this]; exact ho

/-- Other lists stay, where they lie ahead of what was laid last: the list that grows is changed alone. -/
theorem At.keep {wr w1 : World} {v : Value} {xs : List Nat} {ao : Option Addr} (o : Obj) (hg : (wr.alloc o).grownBy w1 v.ownBlock) (hat : At .u64 wr ao xs)
    (hne : ∀ b o, xs ≠ [] → ao = some ⟨b, o, none⟩ → v.ownBlock ≠ some b) : At .u64 w1 ao xs := by
  rcases hat with h' | ⟨b, o', h1, h2, h3⟩
  · exact .inl h'
  · by_cases hx : xs = []
    · exact .inl hx
    · refine .inr ⟨b, o', h1, Nat.lt_of_lt_of_le h2 (Nat.le_trans (by simp) hg.size), fun i hi => ?_⟩
      rw [World.cell?_of_block (w := wr) ((hg.block b (by simp; omega) (fun e => hne b o' hx h1 e.symm)).trans (Below.heap_alloc _ _ _ h2))]
      exact h3 i hi

theorem Grw.below {w wr w' : World} {v : Value} {ys : List Nat} (h : Grw w wr v ys) (hb : Below wr.heap.size wr w') : Grw w w' v ys := by
  refine ⟨h.1.trans (hb.mono h.1.size), h.2.kept (row := none) ⟨hb.os, hb.tape, hb.output, hb.size, fun k hk _ => hb.block k hk⟩ ?_⟩
  cases hv : v.ownBlock with
  | none => exact .inl rfl
  | some g => exact .inr (by simp)

end Go.Proofs.YtlhekeifffofjaaGreatDoor

namespace Go.Proofs.YtlhekeifffofjaaGreatDoor
open Go.RowKit

/-- The chunks' base. -/
def U19 : Nat := 10000000000000000000

def chunkD (N j : Nat) : Nat := N / U19 ^ j % U19
def chunksOf (N k : Nat) : List Nat := (List.range k).map (chunkD N)

theorem chunks_len (N k : Nat) : (chunksOf N k).length = k := by simp [chunksOf]
theorem chunks_succ (N k : Nat) : chunksOf N (k + 1) = chunksOf N k ++ [chunkD N k] := by simp [chunksOf, List.range_succ]
theorem dg_chunks (N k j : Nat) (h : j < k) : dg (chunksOf N k) j = chunkD N j := by simp [dg, chunksOf, h]

theorem chunks_ok (N k : Nat) : Ok U19 (chunksOf N k) := by
  intro j
  by_cases h : j < k
  · rw [dg_chunks N k j h]; exact Nat.mod_lt _ (by decide)
  · rw [dg_out (by rw [chunks_len]; omega)]; decide

theorem chunks_val (N : Nat) : ∀ k, V U19 (chunkD N) k + N / U19 ^ k * U19 ^ k = N
  | 0 => by simp [V]
  | k + 1 => by
    have h := chunks_val N k
    simp only [V]
    have e1 : N / U19 ^ (k + 1) = N / U19 ^ k / U19 := by rw [Nat.pow_succ, Nat.div_div_eq_div_mul]
    have e2 := Nat.div_add_mod (N / U19 ^ k) U19
    rw [e1, Nat.pow_succ]
    rw [show chunkD N k = N / U19 ^ k % U19 from rfl]
    generalize N / U19 ^ k = M at *
    have e3 : M / U19 * (U19 ^ k * U19) = U19 * (M / U19) * U19 ^ k := by
      rw [Nat.mul_comm (U19 ^ k), ← Nat.mul_assoc, Nat.mul_comm (M / U19) U19]
    rw [e3]
    have e4 : (U19 * (M / U19) + M % U19) * U19 ^ k = M * U19 ^ k := by rw [e2]
    rw [Nat.add_mul] at e4
    omega

theorem chunks_is {N k : Nat} (h0 : N / U19 ^ k = 0) (ht : ∀ j, k = j + 1 → N / U19 ^ j ≠ 0) : Is U19 (chunksOf N k) N := by
  refine ⟨chunks_ok N k, ?_, ?_⟩
  · intro j hj
    rw [chunks_len] at hj
    rw [dg_chunks N k j (by omega)]
    unfold chunkD
    have h1 := ht j hj
    rw [hj, Nat.pow_succ, ← Nat.div_div_eq_div_mul] at h0
    have h2 : N / U19 ^ j < U19 := by
      rcases Nat.lt_or_ge (N / U19 ^ j) U19 with h | h
      · exact h
      · have := Nat.div_pos h (by decide : 0 < U19); omega
    rw [Nat.mod_eq_of_lt h2]; exact h1
  · unfold num
    rw [chunks_len, V_congr k (fun j hj => dg_chunks N k j hj)]
    have := chunks_val N k
    rw [h0] at this; omega

theorem chunks_few {N k la : Nat} (hN : N < B64 ^ la) (ht : ∀ j, k = j + 1 → N / U19 ^ j ≠ 0) : k ≤ 2 * la + 1 := by
  rcases k with _ | j
  · omega
  · have h := ht j rfl
    have h1 : U19 ^ j ≤ N := by
      rcases Nat.lt_or_ge N (U19 ^ j) with h' | h'
      · exact absurd (Nat.div_eq_of_lt h') h
      · exact h'
    have h2 : B64 ≤ U19 ^ 2 := by decide +kernel
    have h3 : B64 ^ la ≤ (U19 ^ 2) ^ la := Nat.pow_le_pow_left h2 la
    rw [← Nat.pow_mul] at h3
    rcases Nat.lt_or_ge j (2 * la) with h' | h'
    · omega
    · have := Nat.pow_le_pow_right (show 0 < U19 by decide) h'; omega

/-- At the head of cut's loop, behind k rounds. -/
structure CutInv (w : World) (N la : Nat) (uo : Option Addr) (us : List Nat) (k : Nat) (av cv : Value) (wr : World) : Prop where
  gr : Grw w wr cv (chunksOf N k)
  rst : ∃ ao cap xs, av = .slice ao xs.length cap ∧ xs.length ≤ cap ∧ cap ≤ 10 * la + 100 ∧ At .u64 wr ao xs ∧ Ok B64 xs ∧ num B64 xs = N / U19 ^ k ∧ ∀ b o, xs ≠ [] → ao = some ⟨b, o, none⟩ → cv.ownBlock ≠ some b
  unit : At .u64 wr uo us ∧ ∀ b o, us ≠ [] → uo = some ⟨b, o, none⟩ → cv.ownBlock ≠ some b
  top : ∀ j, k = j + 1 → N / U19 ^ j ≠ 0

/-- What cut answers: the number's digits to the base 10^19, none of them a nought on top. -/
def CutPost (w : World) (m N : Nat) (e : Ending) (w' : World) : Prop :=
  ∃ ao cap cs, e = .returned (.slice ao (List.length cs) cap) ∧ cs.length ≤ cap ∧ At .u64 w' ao cs ∧ Is U19 cs N ∧ cs.length ≤ m ∧ Below w.heap.size w w'

theorem At.ne {w : World} {ao : Option Addr} {xs : List Nat} (h : At .u64 w ao xs) {g : Nat} (hg : w.heap.size ≤ g) : ∀ b o, xs ≠ [] → ao = some ⟨b, o, none⟩ → b ≠ g := by
  intro b o hx e
  rcases h with h | ⟨b', o', h1, h2, _⟩
  · exact absurd h hx
  · rw [e] at h1; simp only [Option.some.injEq, Addr.mk.injEq] at h1; omega

/-- A slice's length. -/
def lenV : Value → Nat
  | .slice _ n _ => n
  | _ => 0

theorem u19_lt : U19 < B64 := by decide

set_option maxRecDepth 100000 in
set_option maxHeartbeats 2000000 in
theorem cut_any (ao : Option Addr) (la ca : Nat) (xs : List Nat) (w : World) (hla : la ≤ ca) (hca : ca ≤ 5000000) (hx : xs.length = la) (hax : At .u64 w ao xs) (ox : Ok B64 xs) :
    Calls Tryz.prog 88 #[.slice ao la ca] w (CutPost w (2 * la + 1) (num B64 xs)) := by
  obtain ⟨i0, hi, hz0, hz1, hz2⟩ := info_parts Tryz.infoU
  obtain ⟨N, hN⟩ : ∃ N, N = num B64 xs := ⟨_, rfl⟩
  have HN : Hid (N < B64 ^ la) := by rw [hN, ← hx]; exact num_lt ox
  have HNN : Hid (num B64 xs = N) := hN.symm
  rw [← hN]
  clear hN
  go_enter Tryz.func88, Tryz.ntmps88
  go_wp2_with fail
  refine (of_any U19 _ u19_lt).mono ?_
  rintro e w1 ⟨v, us, rfl, hou, isu, hb1⟩
  obtain ⟨uo, uc, rfl, hlu, hmu, atu⟩ := hou.shape
  have hst : CutInv w N ca uo us 0 (.slice ao la ca) (.slice none 0 0) w1 := by
    refine ⟨⟨hb1, World.ownsRow_nil _ _ _ _⟩, ⟨ao, ca, xs, by rw [hx], by omega, by omega, hax.below hb1, ox, by rw [HNN.out]; simp, fun b o _ _ => by simp [Value.ownBlock]⟩, ⟨atu, fun b o _ _ => by simp [Value.ownBlock]⟩, fun j hj => by omega⟩
  have HST : Hid (CutInv w N ca uo us 0 (.slice ao la ca) (.slice none 0 0) w1) := hst
  have HU : Hid (Is B64 us U19) := isu
  have lu : us.length ≤ 1 := by omega
  clear hst hou isu atu hax ox
  go_wp2
  go_loopw [0, 3, 5, 6, 7, 8, 9] (fun a c _ _ _ _ _ wr => ∃ k : Nat, CutInv w N ca uo us k a c wr) (fun _ c _ _ _ _ _ _ => 2 * la + 10 - lenV c)
  case atStart => exact ⟨0, HST.out⟩
  case round =>
    clear HST hb1
    obtain ⟨k, hinv⟩ := hrel
    obtain ⟨hgr, ⟨ro, rc, rs, rfl, hrc, hrca, hrat, hrok, hrn, hrne⟩, ⟨hut, hune⟩, htop⟩ := hinv
    have hkl := chunks_few HN.out htop
    obtain ⟨co, cc, rfl, hcl, hcat⟩ := hgr.at
    rw [chunks_len] at *
    by_cases h0 : num B64 rs = 0
    · have his := chunks_is (N := N) (k := k) (by rw [← hrn]; exact h0) htop
      have HIS := hide his
      have HK : Hid (k ≤ 2 * la + 1) := hkl
      have hbel := hgr.1
      have hb0 : bitsN (num B64 rs) = 0 := by rw [h0]; rfl
      clear his hkl htop hut hune hgr hrne
      go_wp2_with fail
      refine (bits_any ro rs.length rc rs _ hrc (by omega) rfl hrat hrok).mono ?_
      rintro e w' ⟨rfl, rfl⟩
      rw [hb0]
      clear hrat
      go_wp2
      go_ret
      exact ⟨co, cc, chunksOf N k, by rw [chunks_len]; rfl, by rw [chunks_len]; exact hcl, hcat, HIS.out, by rw [chunks_len]; exact HK.out, hbel⟩
    · obtain ⟨p, hp, _⟩ := bitsN_spec h0
      have hn0 : N / U19 ^ k ≠ 0 := by rw [← hrn]; exact h0
      have HTOP : Hid (∀ j, k + 1 = j + 1 → N / U19 ^ j ≠ 0) := by
        intro j hj
        rw [show j = k by omega]
        exact hn0
      have HGR := hide hgr
      have HRN := hide hrn
      have HUNE := hide hune
      have hsz := hgr.1.size
      have hgl := hgr.2.lt
      have HGL := hide hgl
      have huu : num B64 us ≠ 0 := by rw [HU.out.2.2]; decide
      have HCAT := hide hcat
      clear htop hune hgr hrne h0 hgl hcat hn0
      go_wp2_with fail
      refine (bits_any ro rs.length rc rs _ hrc (by omega) rfl hrat hrok).mono ?_
      rintro e w' ⟨rfl, rfl⟩
      rw [hp]
      go_wp2_with fail
      refine (divmod_any ro uo rs.length rc us.length uc rs us _ hrc (by omega) hlu (by omega) rfl rfl hrat hut hrok HU.out.1 huu).mono ?_
      rintro e w4 ⟨v1, rq, v2, rr, rfl, hq, hr, iq, ir, hb4, _⟩
      rw [HU.out.2.2, HRN.out, Nat.div_div_eq_div_mul, ← Nat.pow_succ] at iq
      rw [HU.out.2.2, HRN.out] at ir
      obtain ⟨qo, qc, rfl, hlq, hmq, atq⟩ := hq.shape
      obtain ⟨eo, ec, rfl, hle, hme, ate⟩ := hr.shape
      have hu4 := hut.below hb4
      have hel : (trimmed rr).length ≤ 1 := by
        refine trimmed_small (t := 1) ?_
        rw [ir.2.2, Nat.pow_one]
        exact Nat.lt_trans (Nat.mod_lt _ (by decide)) u19_lt
      have HQB : Hid (∀ b o, rq ≠ [] → qo = some ⟨b, o, none⟩ → wr.heap.size ≤ b ∧ b < w4.heap.size) := by
        intro b o hx' e
        rcases hq with ⟨h1, h2⟩ | ⟨g, full, h1, h2, h3, _⟩
        · exact absurd h2 hx'
        · simp only [Value.slice.injEq] at h1
          rw [e] at h1
          simp only [Option.some.injEq, Addr.mk.injEq] at h1
          have := h3.lt
          omega
      clear hq hr hrat hut
      go_wp2_with fail
      refine (uint_any eo rr.length ec rr _ hle (by omega) rfl ate).mono ?_
      rintro e w' ⟨rfl, rfl⟩
      rw [if_pos hel, ir.2.2, show N / U19 ^ k % U19 = chunkD N k from rfl, decide_eq_true hel]
      obtain ⟨d, hd⟩ : ∃ d, d = chunkD N k := ⟨_, rfl⟩
      rw [← hd]
      have hg4 := HGR.out.below hb4
      have hown := hg4.2
      rw [chunks_len] at hown
      have HG4 := hide hg4
      have HD : Hid (d = chunkD N k) := hd
      have hs4 := hb4.size
      have HIQ := hide iq
      clear hd ir hel ate hle hme HGR hg4 iq
      go_wp2_with (at_builtin; refine wpList_append_lies _ rfl _ _ 62 rfl w.heap.size 24 i0 (.int .u64 0) 1 8 Tryz.underlying62 hi hz0 hz1 hz2 rfl (by decide) _ _ _ rfl (hown.alloc _) ⟨w4.heap.size, 0, none⟩ 1 1 [.int .u64 (d : Int)] rfl rfl ?c1A ?c2A (by omega) ?c3A ?c4A ?c5A (w4.heap.size + 1) (by simp) ?_)
      try case c1A => exact new_cell w4 _ _
      case c2A => first | exact one_one _ _ | rfl
      case c3A => unfold maxLen; omega
      case c4A => omega
      case c5A => first | (simp; omega) | omega
      intro g cap w5 hown' hgrow hlies hlt
      have hne4 : ∀ b, (b < wr.heap.size → (Value.slice co k cc).ownBlock ≠ some b) → b < w4.heap.size → g ≠ b := by
        intro b hb1 hb2 e
        subst e
        rcases hlies with h | h
        · have := (HGL.out g h).2
          exact hb1 this h
        · omega
      have hst : CutInv w N ca uo us (k + 1) (.slice qo rq.length qc) (.slice (some ⟨g, 0, none⟩) (k + 1) cap) w5 := by
        have hgs := HG4.out.step _ (by rw [chunks_len]; exact hown') hgrow
        rw [HD.out, ← chunks_succ] at hgs
        refine ⟨hgs, ⟨qo, qc, rq, rfl, hlq, by omega, ?_, HIQ.out.1, HIQ.out.2.2, ?_⟩, ⟨?_, ?_⟩, HTOP.out⟩
        · refine At.keep _ hgrow atq (fun b o hx' e h => ?_)
          have h1 := HQB.out b o hx' e
          have := (HGL.out b h).2
          omega
        · intro b o hx' e
          have h1 := HQB.out b o hx' e
          show some g ≠ some b
          intro h2
          injection h2 with h2
          exact hne4 b (fun h => absurd h1.1 (by omega)) h1.2 h2
        · exact At.keep _ hgrow hu4 (fun b o hx' e => HUNE.out b o hx' e)
        · intro b o hx' e
          show some g ≠ some b
          intro h2
          injection h2 with h2
          have h3 : b < w4.heap.size := by
            rcases hu4 with h | ⟨b', o', h1, h4, _⟩
            · exact absurd h hx'
            · rw [e] at h1; simp only [Option.some.injEq, Addr.mk.injEq] at h1; omega
          exact hne4 b (fun _ => HUNE.out b o hx' e) h3 h2
      have HST := hide hst
      clear hst hown hown' hgrow hlies hlt hne4 atq hu4
      go_wp2
      go_roundw
      case rel => exact ⟨k + 1, HST.out⟩
      case measure => simp [lenV]; omega

end Go.Proofs.YtlhekeifffofjaaGreatDoor

namespace Go.Proofs.YtlhekeifffofjaaGreatDoor
open Go.RowKit

theorem bld_size : (Tryz.prog.info? 125).map (·.size) = some 2 := by kernel_rfl
theorem bld_lies : liesAt Tryz.prog Tryz.prog.depth 125 (2 / Tryz.prog.cellsOf 125) 0 125 1 = true := by kernel_rfl
theorem byte_info : (Tryz.prog.info? 5).map (fun i => (i.zero, i.size, i.bytes)) = some (some (.int .u8 0), 1, 1) := by kernel_rfl

set_option maxRecDepth 100000 in
set_option maxHeartbeats 1000000 in
/-- A builder that was written before knows its own address already. -/
theorem ccheck_used (b : Nat) (w : World) (h0 : w.cell? ⟨b, 0, none⟩ = some (.pointer (some ⟨b, 0, none⟩))) :
    Calls Tryz.prog 114 #[.pointer (some ⟨b, 0, none⟩)] w fun e w' => e = .returned (.tuple #[]) ∧ w' = w := by
  obtain ⟨j, hj, _⟩ := Option.map_eq_some_iff.1 bld_size
  have key := Lib.run_neq_ptr_same (P := Tryz.prog) w ⟨b, 0, none⟩ Tryz.underlying123 hj
  go_enter Tryz.func114, Tryz.ntmps114
  go_wp2
  go_end0
  exact ⟨rfl, rfl⟩

set_option maxRecDepth 100000 in
set_option maxHeartbeats 1000000 in
/-- A fresh builder learns its own address. -/
theorem ccheck_fresh (b : Nat) (w : World) (h0 : w.cell? ⟨b, 0, none⟩ = some (.pointer none)) (hsh : w.shape? b = some (125, 2)) (hfz : w.frozen? ⟨b, 0, none⟩ = false) :
    Calls Tryz.prog 114 #[.pointer (some ⟨b, 0, none⟩)] w fun e w' => e = .returned (.tuple #[]) ∧ w' = w.setCell ⟨b, 0, none⟩ (.pointer (some ⟨b, 0, none⟩)) := by
  obtain ⟨j, hj, hjs⟩ := Option.map_eq_some_iff.1 bld_size
  have k1 := Lib.run_to_unsafe (P := Tryz.prog) w ⟨b, 0, none⟩ Tryz.underlying123 Tryz.underlying170 hj (by rw [hjs]; decide) hsh (Nat.zero_lt_succ 1)
  have k2 := Lib.run_from_unsafe (P := Tryz.prog) w ⟨b, 0, none⟩ Tryz.underlying170 Tryz.underlying123 hj hsh bld_lies
  go_enter Tryz.func114, Tryz.ntmps114
  go_wp2
  rw [run_callFunc_extern Tryz.func139 (by kernel_rfl) (by kernel_rfl) (by kernel_rfl) (e := Extern.AbiNoEscape.same) (by kernel_rfl), Lib.run_noEscape]
  simp only [Result.andThen]
  rw [Oper.upon_value]
  go_wp2
  go_end0
  exact ⟨rfl, rfl⟩

theorem ccheck_any (B b : Nat) (bs : List Value) (w : World) (h : Lib.IsBuilder 125 5 B b bs w) :
    Calls Tryz.prog 114 #[.pointer (some ⟨b, 0, none⟩)] w fun e w' => e = .returned (.tuple #[]) ∧ Lib.BuilderAt 125 5 B b (.pointer (some ⟨b, 0, none⟩)) bs w' ∧ Below B w w' := by
  rcases h with h | h
  · refine (ccheck_fresh b w h.cell0 h.shape h.frozen0).mono ?_
    rintro e w' ⟨rfl, rfl⟩
    exact ⟨rfl, h.used _, (Below.refl B w).setCell (p := ⟨b, 0, none⟩) h.1 _⟩
  · refine (ccheck_used b w h.cell0).mono ?_
    rintro e w' ⟨rfl, rfl⟩
    exact ⟨rfl, h, Below.refl B _⟩

set_option maxRecDepth 100000 in
set_option maxHeartbeats 2000000 in
theorem writeString_any (B b : Nat) (bs : List Value) (s : ByteArray) (w : World) (h : Lib.IsBuilder 125 5 B b bs w) (hlen : bs.length + s.size ≤ 140737488355328) (hBw : B ≤ w.heap.size) :
    Calls Tryz.prog 89 #[.pointer (some ⟨b, 0, none⟩), .string s] w fun e w' => e = .returned (.tuple #[.int .i64 s.size, .nilIface]) ∧ Lib.BuilderAt 125 5 B b (.pointer (some ⟨b, 0, none⟩)) (bs ++ Lib.strCells s) w' ∧ Below B w w' := by
  obtain ⟨i0, hi, hz0, hz1, hz2⟩ := info_parts byte_info
  go_enter Tryz.func89, Tryz.ntmps89
  go_wp2_with fail
  refine (ccheck_any B b bs _ h).mono ?_
  rintro e w1 ⟨rfl, h1, hb1⟩
  have c0 := h1.cell0
  obtain ⟨hB, v, hbk, hown, hne⟩ := h1
  have c1 : w1.cell? ⟨b, 1, none⟩ = some v := by rw [Lib.cell_of_heap hbk]; rfl
  have hlt := lt_of_block hbk
  have hsz := hb1.size
  go_wp2_with (at_builtin; refine Lib.wpList_append_own_string _ rfl _ _ 106 9 rfl B 5 i0 Tryz.underlying106 Tryz.underlying9 hi hz0 hz1 hz2 _ _ _ rfl hown s rfl ?c3 ?c4 ?c5 ?_)
  case c3 => unfold maxLen; omega
  case c4 => omega
  case c5 => omega
  intro v' w2 hown' hgrow _
  have hb2 : w2.heap[b]? = some (.cells #[.pointer (some ⟨b, 0, none⟩), v] 125 (0, 0)) := by
    rw [hgrow.block b hlt (fun e => hne e.symm)]; exact hbk
  have d0 : w2.cell? ⟨b, 0, none⟩ = some (.pointer (some ⟨b, 0, none⟩)) := by rw [Lib.cell_of_heap hb2]; rfl
  have d1 : w2.cell? ⟨b, 1, none⟩ = some v := by rw [Lib.cell_of_heap hb2]; rfl
  have f1 : w2.frozen? ⟨b, 1, none⟩ = false := Lib.frozen_of_heap hb2 1
  obtain ⟨ao, n', cap, rfl⟩ : ∃ ao n' cap, v' = .slice ao n' cap := by
    rcases hown'.2 with ⟨hv, _⟩ | ⟨g, cap, cur, hv, _⟩
    · exact ⟨_, _, _, hv⟩
    · exact ⟨_, _, _, hv⟩
  go_wp2
  go_ret2
  refine ⟨rfl, Lib.BuilderAt.put hB hb2 (bs' := bs ++ Lib.strCells s) (by simpa [Lib.strCells_length] using hown') (by decide), ?_⟩
  exact (hb1.grown hgrow (by omega) (fun k hk => (hown.lt k hk).1)).setCell (p := ⟨b, 1, none⟩) hB _

end Go.Proofs.YtlhekeifffofjaaGreatDoor

namespace Go.Proofs.YtlhekeifffofjaaGreatDoor
open Go.RowKit Go.Sort Go.Lib

/-- The library's table of powers of 10 holds what its text lays. -/
def Tab (w : World) : Prop := Lib.TabIs Tryz.prog w "internal/strconv.uint64pow10" .u64 Lib.pow10Tab

theorem tab_some : (Tryz.prog.globalNamed "internal/strconv.uint64pow10").isSome = true := by kernel_rfl
theorem tab_glob : ∃ g, Tryz.prog.globalNamed "internal/strconv.uint64pow10" = some g := Option.isSome_iff_exists.1 tab_some

theorem Tab.below {w w' : World} (h : Tab w) (hb : Below w.heap.size w w') : Tab w' := by
  obtain ⟨g, hg⟩ := tab_glob
  unfold Tab Lib.TabIs World.var? at *
  rw [hg] at h ⊢
  simp only [Option.bind_some] at h ⊢
  have hlt : g < w.heap.size := by
    rcases Nat.lt_or_ge g w.heap.size with h' | h'
    · exact h'
    · rw [Array.getElem?_eq_none h'] at h; cases h
  rw [hb.block g hlt]
  exact h

theorem Tab.alloc {w : World} (h : Tab w) (o : Obj) : Tab (w.alloc o) := h.below ((Below.refl _ _).alloc (Nat.le_refl _) o)

theorem below_grow (w : World) (n : Nat) (os : Array Obj) : Below w.heap.size w (grow (w.drewN n) os) := by
  refine ⟨rfl, rfl, rfl, ?_, fun k hk => ?_⟩
  · show w.heap.size ≤ (w.heap ++ os).size
    rw [Array.size_append]; omega
  · show (w.heap ++ os)[k]? = w.heap[k]?
    rw [Array.getElem?_append_left hk]

theorem arr24 : Tryz.prog.arrayLen 164 = 24 := by simp [Program.arrayLen, Tryz.underlying164]

set_option maxRecDepth 100000 in
set_option maxHeartbeats 2000000 in
theorem ifmt_big (u : Nat) (h1 : 100 ≤ u) (hu : u < 18446744073709551616) (w : World) (htab : Tab w) :
    Calls Tryz.prog 101 #[.int .u64 (u : Int), .int .i64 10] w fun e w' => e = .returned (.string ⟨(Lib.decDigits u).toArray⟩) ∧ Below w.heap.size w w' := by
  have hnd : Lib.nDigits u ≤ 20 := by have := Lib.numDigits_eq u (by omega) hu; split at this <;> omega
  have hH0 := Lib.holds_zero0 w 164 (Lib.nDigits u) (by omega)
  have hfmt := Tryz.internal_strconv_formatBase10 w.heap.size 0 24 u (Array.replicate (Lib.nDigits u) 0) (w.alloc (.cells Lib.zeros24 164)) hH0 (by rw [Array.size_replicate]; exact Lib.lt_pow_nDigits u) hu (by rw [Array.size_replicate]; omega)
  rw [Array.size_replicate] at hfmt
  have nd := Tryz.internal_strconv_numDigits u (by omega) hu (w.alloc (.cells Lib.zeros24 164)) (htab.alloc _)
  have hsl : ∀ W, (Instr.sliceAt 164 (.pointer (some ⟨w.heap.size, 0, none⟩)) none (some (.int .i64 (Lib.nDigits u : Int))) none).run Tryz.prog W = .ok (.slice (some ⟨w.heap.size, 0, none⟩) (Lib.nDigits u) 24) W := fun W => by
    rw [run_sliceAt_array_h W 164 ⟨w.heap.size, 0, none⟩ (by simp [Program.arrayLen, Program.elem, Tryz.underlying164]) .i64 (Lib.nDigits u : Int) (by omega) (by rw [arr24]; omega)]
    go_simp
  have hlt : ¬ (u : Int) < 100 := by omega
  have HH : Hid (Holds (fun (b : UInt8) => Value.int .u8 (b.toNat : Int)) (w.alloc (.cells Lib.zeros24 164)) w.heap.size 0 (Array.replicate (Lib.nDigits u) (0 : UInt8))) := hH0
  have HF : Hid (Calls Tryz.prog 131 #[.slice (some ⟨w.heap.size, 0, none⟩) (Lib.nDigits u) 24, .int .u64 (u : Int)] (w.alloc (.cells Lib.zeros24 164)) fun e w' =>
      e = .returned (.tuple #[]) ∧ ∃ (n v' : Nat) (dk : Array UInt8), w' = (putRow (fun (b : UInt8) => Value.int .u8 (b.toNat : Int)) (w.alloc (.cells Lib.zeros24 164)) w.heap.size 0 dk).drewN n ∧ Lib.FmtInv (Lib.nDigits u) u 0 v' dk) := hfmt
  have HN : Hid (Calls Tryz.prog 130 #[.int .u64 (u : Int)] (w.alloc (.cells Lib.zeros24 164)) fun e w' => e = .returned (.int .i64 (Lib.nDigits u)) ∧ w' = (w.alloc (.cells Lib.zeros24 164))) := nd
  clear hH0 hfmt nd htab
  go_enter Tryz.func101, Tryz.ntmps101
  go_wp2_with fail
  refine HN.out.mono ?_
  rintro e w' ⟨rfl, rfl⟩
  go_wp2_with fail
  refine HF.out.mono ?_
  rintro e w' ⟨rfl, n, v', dk, rfl, hF⟩
  have hcv : (convert 106 9 (.slice (some ⟨w.heap.size, 0, none⟩) (Lib.nDigits u) 24)).run Tryz.prog ((putRow (fun (b : UInt8) => Value.int .u8 (b.toNat : Int)) (w.alloc (.cells Lib.zeros24 164)) w.heap.size 0 dk).drewN n) = .ok (.string ⟨(Lib.decDigits u).toArray⟩) ((putRow (fun (b : UInt8) => Value.int .u8 (b.toNat : Int)) (w.alloc (.cells Lib.zeros24 164)) w.heap.size 0 dk).drewN n) := by
    have h := run_convert_bytes_back (P := Tryz.prog) ((putRow (fun (b : UInt8) => Value.int .u8 (b.toNat : Int)) (w.alloc (.cells Lib.zeros24 164)) w.heap.size 0 dk).drewN n) 106 9 5 ⟨w.heap.size, 0, none⟩ 24 (Lib.decDigits u) Tryz.underlying106 Tryz.underlying5 Tryz.underlying9 (fun j hj => by
      rw [Lib.row_is_numeral hF j hj, Lib.add_plain, World.cell?_drewN]
      exact cell?_putRow (fun (b : UInt8) => Value.int .u8 (b.toNat : Int)) _ w.heap.size 0 _ dk HH.out (by rw [hF.size, Array.size_replicate]) j (by rw [hF.size]; rw [Lib.decDigits_length] at hj; exact hj))
    rw [Lib.decDigits_length] at h
    exact h
  obtain ⟨os, he⟩ : ∃ os, (putRow (fun (b : UInt8) => Value.int .u8 (b.toNat : Int)) (w.alloc (.cells Lib.zeros24 164)) w.heap.size 0 dk).drewN n = grow (w.drewN n) os := by
    rw [alloc_eq_grow]
    obtain ⟨os', _, e⟩ := putRow_grow_new (fun (b : UInt8) => Value.int .u8 (b.toNat : Int)) w #[.cells Lib.zeros24 164] w.heap.size 0 dk (Nat.le_refl _)
    exact ⟨os', by rw [e]; rfl⟩
  have HE := @id (Hid _) he
  clear he
  go_wp2
  go_ret
  refine ⟨rfl, ?_⟩
  rw [show (putRow (fun (b : UInt8) => Value.int .u8 (b.toNat : Int)) (w.alloc (.cells Lib.zeros24 164)) w.heap.size 0 dk).drewN n = grow (w.drewN n) os from HE]
  exact below_grow w n os

set_option maxRecDepth 100000 in
set_option maxHeartbeats 400000 in
theorem ifmt_small (u : Nat) (h1 : u < 100) (w : World) :
    Calls Tryz.prog 101 #[.int .u64 (u : Int), .int .i64 10] w fun e w' => e = .returned (.string ⟨(Lib.decDigits u).toArray⟩) ∧ Below w.heap.size w w' := by
  have hlt : (u : Int) < 100 := by omega
  have S := Tryz.internal_strconv_small u h1
  go_enter Tryz.func101, Tryz.ntmps101
  go_wp2_with fail
  refine (S _).mono ?_
  rintro e w' ⟨rfl, rfl⟩
  go_wp2
  go_ret
  exact ⟨rfl, Below.refl _ _⟩

/-- strconv.FormatUint at the base 10. -/
theorem fmtUint_any (u : Nat) (hu : u < 18446744073709551616) (w : World) (htab : Tab w) :
    Calls Tryz.prog 69 #[.int .u64 (u : Int), .int .i64 10] w fun e w' => e = .returned (.string ⟨(Lib.decDigits u).toArray⟩) ∧ Below w.heap.size w w' := by
  have I : Calls Tryz.prog 101 #[.int .u64 (u : Int), .int .i64 10] w fun e w' => e = .returned (.string ⟨(Lib.decDigits u).toArray⟩) ∧ Below w.heap.size w w' := by
    by_cases h : u < 100
    · exact ifmt_small u h w
    · exact ifmt_big u (by omega) hu w htab
  go_enter Tryz.func69, Tryz.ntmps69
  go_wp2_with fail
  refine I.mono ?_
  rintro e w' ⟨rfl, hb⟩
  go_wp2
  go_ret
  exact ⟨rfl, hb⟩

end Go.Proofs.YtlhekeifffofjaaGreatDoor

namespace Go.Proofs.YtlhekeifffofjaaGreatDoor
open Go.RowKit

/-- The m lowest decimal digits of r, noughts ahead of them too. -/
def padD : Nat → Nat → List UInt8
  | 0, _ => []
  | m + 1, r => padD m (r / 10) ++ [UInt8.ofNat (48 + r % 10)]

theorem dd_append : ∀ (m q r : Nat), q ≠ 0 → r < 10 ^ m → Lib.decDigits (q * 10 ^ m + r) = Lib.decDigits q ++ padD m r
  | 0, q, r, _, hr => by
    have : r = 0 := by simpa using hr
    subst this; simp [padD]
  | m + 1, q, r, hq, hr => by
    have hp : 0 < 10 ^ m := Nat.pow_pos (by omega)
    have h1 : 1 * 10 ^ m ≤ q * 10 ^ m := Nat.mul_le_mul_right _ (by omega)
    have e0 : q * 10 ^ (m + 1) = q * 10 ^ m * 10 := by rw [Nat.pow_succ, Nat.mul_assoc]
    have e1 : (q * 10 ^ (m + 1) + r) / 10 = q * 10 ^ m + r / 10 := by rw [e0]; omega
    have e2 : (q * 10 ^ (m + 1) + r) % 10 = r % 10 := by rw [e0]; omega
    have hb : ¬ q * 10 ^ (m + 1) + r < 10 := by rw [e0]; omega
    rw [dd_big hb, e1, e2, dd_append m q (r / 10) hq (by rw [Nat.pow_succ] at hr; omega)]
    simp [padD]

theorem padD_zero : ∀ m, padD m 0 = List.replicate m (48 : UInt8)
  | 0 => rfl
  | m + 1 => by
    show padD m (0 / 10) ++ [UInt8.ofNat (48 + 0 % 10)] = _
    rw [Nat.zero_div, padD_zero m, List.replicate_succ']
    rfl

theorem padD_eq : ∀ (m r : Nat), 1 ≤ m → r < 10 ^ m → padD m r = List.replicate (m - (Lib.decDigits r).length) (48 : UInt8) ++ Lib.decDigits r
  | 0, _, h, _ => absurd h (by omega)
  | m + 1, r, _, hr => by
    by_cases h : r < 10
    · show padD m (r / 10) ++ [UInt8.ofNat (48 + r % 10)] = _
      rw [Nat.div_eq_of_lt h, padD_zero, Nat.mod_eq_of_lt h, Lib.decDigits_one h]
      simp
    · have hm : 1 ≤ m := by
        rcases m with _ | m
        · simp at hr; omega
        · omega
      show padD m (r / 10) ++ [UInt8.ofNat (48 + r % 10)] = _
      rw [padD_eq m (r / 10) hm (by rw [Nat.pow_succ] at hr; omega), dd_big h]
      simp

theorem nd_lower : ∀ k u : Nat, 1 ≤ u → Lib.nDigits u = k + 1 → 10 ^ k ≤ u
  | 0, u, h, _ => by simpa using h
  | k + 1, u, h, hn => by
    by_cases h10 : u < 10
    · rw [Lib.nDigits_small h10] at hn; omega
    · rw [Lib.nDigits_big h10] at hn
      have := nd_lower k (u / 10) (by omega) (by omega)
      rw [Nat.pow_succ]; omega

theorem nd_le {u t : Nat} (h : u < 10 ^ t) (ht : 1 ≤ t) : Lib.nDigits u ≤ t := by
  by_cases h0 : u = 0
  · subst h0; rw [Lib.nDigits_small (by omega)]; exact ht
  · rcases hn : Lib.nDigits u with _ | k
    · omega
    · have := nd_lower k u (by omega) hn
      rcases Nat.lt_or_ge k t with h' | h'
      · omega
      · have := Nat.pow_le_pow_right (show 0 < 10 by omega) h'; omega

theorem text_len {N la : Nat} (h : N < B64 ^ la) (j : Nat) : (Lib.decDigits (N / U19 ^ j)).length ≤ 20 * la + 1 := by
  rw [Lib.decDigits_length]
  refine nd_le (t := 20 * la + 1) ?_ (by omega)
  have h1 : B64 ^ la ≤ (10 ^ 20) ^ la := Nat.pow_le_pow_left (by decide +kernel) la
  rw [← Nat.pow_mul] at h1
  have h2 := Nat.div_le_self N (U19 ^ j)
  have h3 : (10 : Nat) ^ (20 * la) ≤ 10 ^ (20 * la + 1) := Nat.pow_le_pow_right (by omega) (by omega)
  omega

theorem repeat0 (c : Nat) : Lib.repeatL [48] c = List.replicate c (48 : UInt8) := by
  induction c with
  | zero => rfl
  | succ c ih => rw [Lib.repeatL, ih]; rfl

theorem chunk_text {N k : Nat} (h : N / U19 ^ (k + 1) ≠ 0) : Lib.decDigits (N / U19 ^ k) = Lib.decDigits (N / U19 ^ (k + 1)) ++ (List.replicate (19 - (Lib.decDigits (chunkD N k)).length) (48 : UInt8) ++ Lib.decDigits (chunkD N k)) := by
  have hU : U19 = 10 ^ 19 := by decide +kernel
  have e : N / U19 ^ k = N / U19 ^ (k + 1) * 10 ^ 19 + chunkD N k := by
    unfold chunkD
    rw [Nat.pow_succ, ← Nat.div_div_eq_div_mul]
    have := Nat.div_add_mod (N / U19 ^ k) U19
    rw [← hU, Nat.mul_comm]; omega
  have hlt : chunkD N k < 10 ^ 19 := by rw [← hU]; exact Nat.mod_lt _ (by decide)
  rw [← padD_eq 19 _ (by omega) hlt, ← dd_append 19 _ _ h hlt, ← e]

theorem chunk_dd {N k : Nat} : (Lib.decDigits (chunkD N k)).length ≤ 19 := by
  rw [Lib.decDigits_length]
  refine nd_le ?_ (by omega)
  have hU : U19 = 10 ^ 19 := by decide +kernel
  rw [← hU]; exact Nat.mod_lt _ (by decide)

theorem chunk_lt (N k : Nat) : chunkD N k < 18446744073709551616 := Nat.lt_trans (Nat.mod_lt _ (by decide)) (show U19 < 18446744073709551616 by decide)

/-- A builder stays, where what it lies in stays. -/
theorem bld_below {T e : TypeId} {B b : Nat} {p : Value} {bs : List Value} {w w' : World} (h : Lib.BuilderAt T e B b p bs w) (hb : Below w.heap.size w w') : Lib.BuilderAt T e B b p bs w' := by
  obtain ⟨h1, v, h2, h3, h4⟩ := h
  refine ⟨h1, v, ?_, h3.kept (row := none) ⟨hb.os, hb.tape, hb.output, hb.size, fun k hk _ => hb.block k hk⟩ ?_, h4⟩
  · rw [hb.block b (lt_of_block h2)]; exact h2
  · cases hv : v.ownBlock with
    | none => exact .inl rfl
    | some g => exact .inr (by simp)

theorem bld_new (w : World) : Lib.IsBuilder 125 5 w.heap.size w.heap.size [] (w.alloc (.cells #[.pointer none, .slice none 0 0] 125)) :=
  .inl ⟨Nat.le_refl _, .slice none 0 0, heap_alloc_new _ _, World.ownsRow_nil _ _ _ _, by simp [Value.ownBlock]⟩

set_option maxRecDepth 100000 in
set_option maxHeartbeats 2000000 in
theorem text_any (ao : Option Addr) (la ca : Nat) (xs : List Nat) (w : World) (hla : la ≤ ca) (hca : ca ≤ 5000000) (hx : xs.length = la) (hax : At .u64 w ao xs) (ox : Ok B64 xs) (htab : Tab w) :
    Calls Tryz.prog 64 #[.slice ao la ca] w fun e w' => e = .returned (.string ⟨(Lib.decDigits (num B64 xs)).toArray⟩) ∧ Below w.heap.size w w' := by
  obtain ⟨N, hN⟩ : ∃ N, N = num B64 xs := ⟨_, rfl⟩
  have HN : Hid (N < B64 ^ la) := by rw [hN, ← hx]; exact num_lt ox
  have cu := cut_any ao la ca xs w hla hca hx hax ox
  rw [← hN] at cu ⊢
  have CU := hide cu
  have HTAB : Hid (Tab w) := htab
  clear cu hN hax ox htab
  go_enter Tryz.func64, Tryz.ntmps64
  go_wp2_with fail
  refine CU.out.mono ?_
  rintro e w1 ⟨co, cc, cs, rfl, hcl, hcat, his, hcm, hb1⟩
  rcases hcs : cs.length with _ | t
  · have hz : cs = [] := List.length_eq_zero_iff.1 hcs
    have hN0 : N = 0 := by rw [hz] at his; exact his.2.2.symm
    clear hcat his hcl hcm hz HN
    subst hN0
    go_wp2
    go_ret
    exact ⟨by rw [Lib.decDigits_one (by omega)]; rfl, hb1⟩
  · obtain ⟨cb, cf, rfl, hcb, hcell⟩ : ∃ cb cf, co = some ⟨cb, cf, none⟩ ∧ cb < w1.heap.size ∧ ∀ i, i < cs.length → w1.cell? ⟨cb, cf + i, none⟩ = some (.int .u64 ((dg cs i : Nat) : Int)) := by
      rcases hcat with h | h
      · rw [h] at hcs; simp at hcs
      · exact h
    have hdig : ∀ j, dg cs j = chunkD N j := fun j => by rw [← dig_at (by decide) his.1 j, his.2.2]; rfl
    have hcell' : ∀ j, j ≤ t → w1.cell? ⟨cb, cf + j, none⟩ = some (.int .u64 ((chunkD N j : Nat) : Int)) := fun j hj => by rw [hcell j (by omega), hdig]
    have htop : N / U19 ^ t ≠ 0 := by
      intro e
      have h1 := his.2.1 t hcs
      rw [hdig t] at h1
      unfold chunkD at h1
      rw [e, Nat.zero_mod] at h1
      exact h1 rfl
    have hall : ∀ j, j ≤ t → N / U19 ^ j ≠ 0 := by
      intro j hj e
      refine htop (Nat.div_eq_of_lt ?_)
      have h1 : N < U19 ^ j := by
        rcases Nat.lt_or_ge N (U19 ^ j) with h | h
        · exact h
        · have := Nat.div_pos h (Nat.pow_pos (show 0 < U19 by decide)); omega
      exact Nat.lt_of_lt_of_le h1 (Nat.pow_le_pow_right (by decide) hj)
    have hfirst : Lib.decDigits (chunkD N t) = Lib.decDigits (N / U19 ^ t) := by
      have h1 := num_lt his.1
      rw [his.2.2, hcs, Nat.pow_succ] at h1
      unfold chunkD
      rw [Nat.mod_eq_of_lt ((Nat.div_lt_iff_lt_mul (Nat.pow_pos (by decide))).2 (by rw [Nat.mul_comm]; exact h1))]
    have HC := hide hcell'
    have HALL := hide hall
    have htl : t ≤ 2 * la := by omega
    have c0 := HC.out t (Nat.le_refl _)
    have hlt : (t : Int) < ((t + 1 : Nat) : Int) := by omega
    have hnt : ¬ (t : Int) < 0 := by omega
    have c0' : (w1.alloc (Obj.cells #[Value.pointer none, Value.slice none 0 0] 125)).cell? ⟨cb, cf + t, none⟩ = some (.int .u64 ((chunkD N t : Nat) : Int)) := by
      rw [World.cell?_of_block (w := w1) (Below.heap_alloc _ _ _ hcb)]; exact c0
    obtain ⟨d0, hd0⟩ : ∃ d, d = chunkD N t := ⟨_, rfl⟩
    have fm := fun W hT => fmtUint_any (chunkD N t) (chunk_lt N t) W hT
    rw [← hd0] at c0' fm hfirst
    obtain ⟨ds, hds⟩ : ∃ ds : ByteArray, ds = ⟨(Lib.decDigits d0).toArray⟩ := ⟨_, rfl⟩
    rw [← hds] at fm
    have FM := hide fm
    have HDS := hide hds
    have HF := hide hfirst
    have hbn := bld_new w1
    have hT2 : Tab (w1.alloc (Obj.cells #[Value.pointer none, Value.slice none 0 0] 125)) := (HTAB.out.below hb1).alloc _
    have HT2 := hide hT2
    have HBN := hide hbn
    have hb12 : Below w1.heap.size w1 (w1.alloc (Obj.cells #[Value.pointer none, Value.slice none 0 0] 125)) := (Below.refl _ _).alloc (Nat.le_refl _) _
    have HB12 := hide hb12
    have HB1 := hide hb1
    have hlen : ∀ j, (Lib.decDigits (N / U19 ^ j)).length ≤ 20 * la + 1 := text_len HN.out
    have HLEN := hide hlen
    clear hcat hcell hdig hcell' htop hall hfirst fm hd0 hds c0 his hcl hcm hbn hT2 hb12 hb1 hlen hcs
    go_wp2_with fail
    refine (FM.out _ HT2.out).mono ?_
    rintro e w3 ⟨rfl, hb3⟩
    have hbu3 : Lib.IsBuilder 125 5 w1.heap.size w1.heap.size [] w3 := by
      rcases HBN.out with h | h
      · exact .inl (bld_below h hb3)
      · exact .inr (bld_below h hb3)
    have hb13 := HB12.out.trans (hb3.mono HB12.out.size)
    have hsz3 := hb13.size
    have hds0 : ds.size ≤ 200000000 := by
      rw [HDS.out]
      show (Lib.decDigits d0).length ≤ _
      rw [HF.out]
      have := HLEN.out t
      omega
    clear hb3 c0'
    go_wp2_with fail
    refine (writeString_any w1.heap.size w1.heap.size [] ds _ hbu3 (by simp; omega) hsz3).mono ?_
    rintro e w4 ⟨rfl, hbu4, hb4⟩
    have hbt : Lib.BuilderAt 125 5 w1.heap.size w1.heap.size (.pointer (some ⟨w1.heap.size, 0, none⟩)) (Lib.byteCells (Lib.decDigits (N / U19 ^ t))) w4 := by
      rw [← HF.out, ← Lib.strCells_toArray, ← HDS.out]; simpa using hbu4
    have hb14 := hb13.trans hb4
    have HBT := hide hbt
    have HB14 := hide hb14
    clear hbu3 hbu4 hb13 hb4 hsz3 hbt hb14
    go_wp2
    go_loopw [6, 7] (fun i _ wr => ∃ k : Nat, k ≤ t ∧ i = .int .i64 ((k : Int) - 1) ∧ Below w1.heap.size w1 wr ∧ Lib.BuilderAt 125 5 w1.heap.size w1.heap.size (.pointer (some ⟨w1.heap.size, 0, none⟩)) (Lib.byteCells (Lib.decDigits (N / U19 ^ k))) wr) (fun i _ _ => (intOf i + 1).toNat)
    case atStart => exact ⟨t, Nat.le_refl _, rfl, HB14.out, HBT.out⟩
    case round =>
      clear HBT HB14
      obtain ⟨k, hk, rfl, hbr, hbu⟩ := hrel
      have hszr := hbr.size
      rcases k with _ | k
      · rw [Nat.pow_zero, Nat.div_one] at hbu
        have hI : Lib.IsBuilder 125 5 w1.heap.size w1.heap.size (Lib.byteCells (Lib.decDigits N)) wr := .inr hbu
        clear hbu
        go_wp2_with fail
        refine (Tryz.Builder_String_any w1.heap.size w1.heap.size (Lib.decDigits N) _ hI hszr).mono ?_
        rintro e w5 ⟨rfl, hb5⟩
        have hbw := HB1.out.trans ((hbr.trans hb5).mono HB1.out.size)
        clear hI hb5 hbr
        go_wp2
        go_ret
        exact ⟨rfl, hbw⟩
      · have c0 : wr.cell? ⟨cb, cf + k, none⟩ = some (.int .u64 ((chunkD N k : Nat) : Int)) := (hbr.cell hcb).trans (HC.out k (by omega))
        have hct := chunk_text (N := N) (k := k) (HALL.out (k + 1) (by omega))
        have hd19 := chunk_dd (N := N) (k := k)
        have hlenk := HLEN.out k
        have hT : Tab wr := HTAB.out.below (HB1.out.trans (hbr.mono HB1.out.size))
        have fm := fun W hT => fmtUint_any (chunkD N k) (chunk_lt N k) W hT
        obtain ⟨d, hd⟩ : ∃ d, d = chunkD N k := ⟨_, rfl⟩
        rw [← hd] at c0 fm hct hd19
        obtain ⟨dz, hdz⟩ : ∃ dz : ByteArray, dz = ⟨(Lib.decDigits d).toArray⟩ := ⟨_, rfl⟩
        rw [← hdz] at fm
        obtain ⟨m, hm⟩ : ∃ m, m = (Lib.decDigits d).length := ⟨_, rfl⟩
        have hzs : dz.size = m := by rw [hdz, hm]; rfl
        obtain ⟨c, hc⟩ : ∃ c, c + m = 19 := ⟨19 - m, by omega⟩
        have hc1 : (19 : Int) - (m : Int) = (c : Int) := by omega
        have hcn : 19 - (Lib.decDigits d).length = c := by omega
        rw [hcn] at hct
        have FMk := hide fm
        have HDZ := hide hdz
        have HCT := hide hct
        have HZS := hide hzs
        have hkt : (k : Int) < ((t + 1 : Nat) : Int) := by omega
        have hbl : (Lib.decDigits (N / U19 ^ (k + 1))).length ≤ 20 * la + 1 := HLEN.out (k + 1)
        have HT := hide hT
        clear hct hd19 hlenk hd hdz hm hzs fm hcn hT
        go_wp2_with fail
        refine (FMk.out _ HT.out).mono ?_
        rintro e w5 ⟨rfl, hb5⟩
        have hbu5 := bld_below hbu hb5
        have hbr5 := hbr.trans (hb5.mono hszr)
        have hsz5 := hbr5.size
        have hzi : ((dz.size : Nat) : Int) = (m : Int) := by rw [HZS.out]
        clear hb5 hbu hbr c0 hszr
        obtain ⟨zs, hzs⟩ : ∃ zs : ByteArray, zs = ⟨(List.replicate c (48 : UInt8)).toArray⟩ := ⟨_, rfl⟩
        have rp : Calls Tryz.prog 90 #[.string ⟨#[48]⟩, .int .i64 (c : Int)] w5 fun e w' => e = .returned (.string zs) ∧ Below w5.heap.size w5 w' := by
          have h := Tryz.strings_Repeat ⟨#[48]⟩ c w5 (by omega) (by show 1 * c ≤ _; omega)
          rw [show (⟨#[48]⟩ : ByteArray).data.toList = [48] from rfl, repeat0, ← hzs] at h
          exact h
        have RP := hide rp
        have HZ0 := hide hzs
        have hz0 : zs.size = c := by rw [hzs]; show (List.replicate c (48 : UInt8)).length = c; simp
        clear rp hzs
        go_wp2_with fail
        refine RP.out.mono ?_
        rintro e w6 ⟨rfl, hb6⟩
        have hbu6 := bld_below hbu5 hb6
        have hbr6 := hbr5.trans (hb6.mono hsz5)
        have hsz6 := hbr6.size
        clear hb6 hbu5 hbr5 hsz5
        go_wp2_with fail
        refine (writeString_any w1.heap.size w1.heap.size _ zs _ (.inr hbu6) (by rw [Lib.byteCells_length]; omega) hsz6).mono ?_
        rintro e w7 ⟨rfl, hbu7, hb7⟩
        have hbr7 := hbr6.trans hb7
        have hsz7 := hbr7.size
        clear hb7 hbu6 hbr6 hsz6
        go_wp2_with fail
        refine (writeString_any w1.heap.size w1.heap.size _ dz _ (.inr hbu7) (by rw [List.length_append, Lib.byteCells_length, Lib.strCells_length, HZS.out]; omega) hsz7).mono ?_
        rintro e w8 ⟨rfl, hbu8, hb8⟩
        have hbr8 := hbr7.trans hb8
        rw [HZ0.out, HDZ.out, Lib.strCells_toArray, Lib.strCells_toArray, List.append_assoc, ← Lib.byteCells_append, ← Lib.byteCells_append, ← HCT.out] at hbu8
        have HB8 := hide hbu8
        have HBR8 := hide hbr8
        clear hb8 hbu7 hbr7 hsz7 hbu8 hbr8
        go_wp2
        go_roundw
        case rel => exact ⟨k, by omega, by go_num, HBR8.out, HB8.out⟩
        case measure => simp [intOf]

end Go.Proofs.YtlhekeifffofjaaGreatDoor

namespace Go.Proofs.YtlhekeifffofjaaGreatDoor
open Go.RowKit

/-- v is a list of limbs without noughts on top, the number n. -/
def Nt (w : World) (v : Value) (n : Nat) : Prop := ∃ o c xs, v = .slice o (List.length xs) c ∧ xs.length ≤ c ∧ c ≤ 1000000 ∧ At .u64 w o xs ∧ Is B64 xs n

/-- A number that is not too great. -/
def Sm (n : Nat) : Prop := n < B64 ^ 10000

theorem ten8000 : powT 10 8000 < B64 ^ 10000 := by decide +kernel
theorem Sm.of {n k : Nat} (h : n < 10 ^ k) (hk : k ≤ 8000) : Sm n :=
  Nat.lt_trans (Nat.lt_of_lt_of_le h (powT_ge (by omega) hk)) ten8000

theorem Nt.below {w w' : World} {v : Value} {n : Nat} (h : Nt w v n) (hb : Below w.heap.size w w') : Nt w' v n := by
  obtain ⟨o, c, xs, h1, h2, h3, h4, h5⟩ := h
  exact ⟨o, c, xs, h1, h2, h3, h4.below hb, h5⟩

theorem Nt.of {w : World} {v : Value} {n base m : Nat} {r : List Nat} (h : Own .u64 24 w base m v r) (his : Is B64 r n) (hm : m ≤ 1000000) : Nt w v n := by
  obtain ⟨o, c, rfl, h1, h2, h3⟩ := h.shape
  exact ⟨o, c, r, rfl, h1, by omega, h3, his⟩

/-- v lies from block 'base' on, if it lies anywhere. -/
def Far (base : Nat) (v : Value) : Prop := ∀ o l c, v = .slice o l c → ∀ a, o = some a → base ≤ a.block

theorem Far.of {w : World} {v : Value} {base m : Nat} {r : List Nat} (h : Own .u64 24 w base m v r) : Far base v := by
  intro o l c hv a ha
  rcases h with ⟨rfl, _⟩ | ⟨g, full, rfl, h2, _⟩
  · cases hv; cases ha
  · cases hv; cases ha; exact h2

theorem Far.mono {i j : Nat} {v : Value} (h : Far j v) (hij : i ≤ j) : Far i v := fun o l c hv a ha => Nat.le_trans hij (h o l c hv a ha)

theorem Nt.put {w : World} {v : Value} {n base : Nat} (h : Nt w v n) (hf : Far base v) {a : Addr} (ha : a.block < base) (u : Value) : Nt (w.setCell a u) v n := by
  obtain ⟨o, c, xs, rfl, h2, h3, h4, h5⟩ := h
  refine ⟨o, c, xs, rfl, h2, h3, ?_, h5⟩
  rcases h4 with h4 | ⟨b, f, rfl, hb, hc⟩
  · exact .inl h4
  · have := hf _ _ _ rfl _ rfl
    have hne : a.block ≠ b := by simp at this; omega
    refine .inr ⟨b, f, rfl, by simpa using hb, fun i hi => ?_⟩
    rw [World.cell?_of_block (w := w) (w' := w.setCell a u) (by simp only [World.setCell]; rw [Array.getElem?_modify, if_neg hne])]
    exact hc i hi

theorem is_len {xs : List Nat} {n : Nat} (h : Is B64 xs n) (hs : Sm n) : xs.length ≤ 10000 := by
  have h3 := trimmed_small (xs := xs) (t := 10000) (by rw [h.2.2]; exact hs)
  rw [trimmed_of_top h.2.1] at h3
  exact h3

/-- A number is answered. -/
def NtPost (w : World) (n : Nat) (e : Ending) (w' : World) : Prop := ∃ v, e = .returned v ∧ Nt w' v n ∧ Below w.heap.size w w' ∧ Far w.heap.size v

theorem nt_of (x : Nat) (w : World) (hx : x < B64) : Calls Tryz.prog 70 #[.int .u64 (x : Int)] w (NtPost w x) := by
  refine (of_any x w hx).mono ?_
  rintro e w' ⟨v, r, rfl, h1, h2, h3⟩
  exact ⟨v, rfl, Nt.of h1 h2 (by omega), h3, Far.of h1⟩

theorem nt_mul (a b : Value) (x y : Nat) (w : World) (ha : Nt w a x) (hb : Nt w b y) (hx : Sm x) (hy : Sm y) : Calls Tryz.prog 73 #[a, b] w (NtPost w (x * y)) := by
  obtain ⟨o, c, xs, rfl, h1, h2, h3, h4⟩ := ha
  obtain ⟨o', c', ys, rfl, h1', h2', h3', h4'⟩ := hb
  have l1 := is_len h4 hx
  have l2 := is_len h4' hy
  refine (mul_any o o' _ c _ c' xs ys w h1 (by omega) h1' (by omega) rfl rfl h3 h3' h4.1 h4'.1).mono ?_
  rintro e w' ⟨v, r, rfl, g1, g2, g3⟩
  rw [h4.2.2, h4'.2.2] at g2
  exact ⟨v, rfl, Nt.of g1 g2 (by omega), g3, Far.of g1⟩

/-- Quotient and rest are answered. -/
def NtDiv (w : World) (q r : Nat) (e : Ending) (w' : World) : Prop := ∃ v1 v2, e = .returned (.tuple #[v1, v2, .int .i64 0]) ∧ Nt w' v1 q ∧ Nt w' v2 r ∧ Below w.heap.size w w'

theorem nt_div (a b : Value) (x y : Nat) (w : World) (ha : Nt w a x) (hb : Nt w b y) (hx : Sm x) (hy : Sm y) (h0 : y ≠ 0) : Calls Tryz.prog 66 #[a, b] w (NtDiv w (x / y) (x % y)) := by
  obtain ⟨o, c, xs, rfl, h1, h2, h3, h4⟩ := ha
  obtain ⟨o', c', ys, rfl, h1', h2', h3', h4'⟩ := hb
  have l1 := is_len h4 hx
  have l2 := is_len h4' hy
  refine (divmod_any o o' _ c _ c' xs ys w h1 (by omega) h1' (by omega) rfl rfl h3 h3' h4.1 h4'.1 (by rw [h4'.2.2]; exact h0)).mono ?_
  rintro e w' ⟨v1, r1, v2, r2, rfl, g1, g2, g3, g4, g5, _⟩
  rw [h4.2.2, h4'.2.2] at g3 g4
  exact ⟨v1, v2, rfl, Nt.of g1 g3 (by omega), Nt.of g2 g4 (by omega), g5⟩

/-- A difference is answered, and no error. -/
def NtErr (w : World) (n : Nat) (er : Int) (e : Ending) (w' : World) : Prop := ∃ v, e = .returned (.tuple #[v, .int .i64 er]) ∧ Nt w' v n ∧ Below w.heap.size w w' ∧ Far w.heap.size v

theorem nt_sub (a b : Value) (x y : Nat) (w : World) (ha : Nt w a x) (hb : Nt w b y) (hx : Sm x) (hy : Sm y) (hxy : y ≤ x) : Calls Tryz.prog 99 #[a, b] w (NtErr w (x - y) 0) := by
  obtain ⟨o, c, xs, rfl, h1, h2, h3, h4⟩ := ha
  obtain ⟨o', c', ys, rfl, h1', h2', h3', h4'⟩ := hb
  have l1 := is_len h4 hx
  have l2 := is_len h4' hy
  refine (sub_any o o' _ c _ c' xs ys w h1 (by omega) h1' (by omega) rfl rfl h3 h3' h4.1 h4'.1).mono ?_
  rintro e w' ⟨v, r, rfl, g1, g2, g3⟩
  rw [h4.2.2, h4'.2.2] at g2 ⊢
  rw [if_neg (by omega)]
  exact ⟨v, rfl, Nt.of g1 g2 (by omega), g3, Far.of g1⟩

theorem nt_cmp (a b : Value) (x y : Nat) (z : Int) (w : World) (ha : Nt w a x) (hb : Nt w b y) (hx : Sm x) (hy : Sm y) (hz : cmpN x y = z) : Calls Tryz.prog 80 #[a, b] w fun e w' => e = .returned (.int .i64 z) ∧ Below w.heap.size w w' := by
  obtain ⟨o, c, xs, rfl, h1, h2, h3, h4⟩ := ha
  obtain ⟨o', c', ys, rfl, h1', h2', h3', h4'⟩ := hb
  have l1 := is_len h4 hx
  have l2 := is_len h4' hy
  exact cmp_num o o' _ c _ c' xs ys w (by omega) (by omega) rfl rfl h3 h3' h4.1 h4'.1 z (by rw [h4.2.2, h4'.2.2]; exact hz)

theorem nt_uint (a : Value) (x : Nat) (w : World) (ha : Nt w a x) (hx : x < B64) : Calls Tryz.prog 67 #[a] w fun e w' => e = .returned (.tuple #[.int .u64 (x : Int), .bool true]) ∧ w = w' := by
  obtain ⟨o, c, xs, rfl, h1, h2, h3, h4⟩ := ha
  have h5 := trimmed_small (xs := xs) (t := 1) (by rw [h4.2.2, Nat.pow_one]; exact hx)
  have h := uint_any o _ c xs w h1 (by omega) rfl h3
  refine h.mono ?_
  rintro e w' ⟨rfl, rfl⟩
  rw [if_pos h5, decide_eq_true h5, h4.2.2]
  exact ⟨rfl, rfl⟩

theorem nt_text (a : Value) (x : Nat) (w : World) (ha : Nt w a x) (htab : Tab w) : Calls Tryz.prog 64 #[a] w fun e w' => e = .returned (.string ⟨(Lib.decDigits x).toArray⟩) ∧ Below w.heap.size w w' := by
  obtain ⟨o, c, xs, rfl, h1, h2, h3, h4⟩ := ha
  have h := text_any o _ c xs w h1 (by omega) rfl h3 h4.1 htab
  rw [h4.2.2] at h
  exact h

theorem nt_power (n : Int) (w : World) (h1 : -8192 ≤ n) (h2 : n ≤ 65536) : Calls Tryz.prog 72 #[.int .i64 n] w (NtErr w (p2N n) (p2E n)) := by
  refine (power_any n w h1 h2).mono ?_
  rintro e w' ⟨v, r, rfl, g1, g2, g3⟩
  exact ⟨v, rfl, Nt.of g1 g2 (by omega), g3, Far.of g1⟩

theorem nt_pow10 (n : Int) (k : Nat) (w : World) (hn : n = (k : Int)) (hk : k ≤ 8192) : Calls Tryz.prog 65 #[.int .i64 n] w (NtErr w (10 ^ k) 0) := by
  subst hn
  refine (pow10_in k w hk).mono ?_
  rintro e w' ⟨v, r, rfl, g1, g2, g3⟩
  exact ⟨v, rfl, Nt.of g1 g2 (by omega), g3, Far.of g1⟩

end Go.Proofs.YtlhekeifffofjaaGreatDoor

namespace Go.Proofs.YtlhekeifffofjaaGreatDoor
open Go.RowKit

theorem held_lt {c : Bool} {x y : Nat} (h : cmpN x y = -1) : heldN c x y = true := by
  unfold cmpN at h; unfold heldN
  split at h
  · next h1 => simp [h1]
  · split at h <;> simp at h
theorem held_eq {c : Bool} {x y : Nat} (h : cmpN x y = 0) : heldN c x y = c := by
  unfold cmpN at h; unfold heldN
  split at h
  · simp at h
  · split at h
    · simp at h
    · next h1 h2 =>
      have : x = y := by omega
      subst this
      simp
theorem held_gt {c : Bool} {x y : Nat} (h : cmpN x y = 1) : heldN c x y = false := by
  unfold cmpN at h; unfold heldN
  split at h
  · simp at h
  · split at h
    · next h1 h2 =>
      have h3 : ¬ x = y := by omega
      simp [h1, h3]
    · simp at h
theorem cmpN_or (x y : Nat) : cmpN x y = -1 ∨ cmpN x y = 0 ∨ cmpN x y = 1 := by
  unfold cmpN; split
  · exact .inl rfl
  · split
    · exact .inr (.inr rfl)
    · exact .inr (.inl rfl)

/-- A reach, as a struct. -/
abbrev reachV (va vl vh : Value) (clo : Bool) : Value := .agg #[va, vl, vh, .bool clo]

set_option maxHeartbeats 1000000 in
theorem holds_any (oa ol oh : Option Addr) (la ca ll cl lh ch : Nat) (clo : Bool) (d far : Value) (x y : Nat) (w : World) (hd : Nt w d x) (hf : Nt w far y) (hx : Sm x) (hy : Sm y) :
    Calls Tryz.prog 100 #[reachV (.slice oa la ca) (.slice ol ll cl) (.slice oh lh ch) clo, d, far] w fun e w' => e = .returned (.bool (heldN clo x y)) ∧ Below w.heap.size w w' := by
  have hb0 : Below w.heap.size w (w.alloc (.cells #[.slice oa la ca, .slice ol ll cl, .slice oh lh ch, .bool clo] 88)) := (Below.refl _ _).alloc (Nat.le_refl _) _
  have C := fun z hz => nt_cmp d far x y z _ (hd.below hb0) (hf.below hb0) hx hy hz
  have blk := Blk.new w #[.slice oa la ca, .slice ol ll cl, .slice oh lh ch, .bool clo] 88
  have BLK := hide blk
  have CC := hide C
  have HB0 := hide hb0
  clear C hd hf blk hb0
  rcases cmpN_or x y with hc | hc | hc
  · rw [held_lt hc]
    go_enter Tryz.func100, Tryz.ntmps100
    go_wp2_with fail
    refine (CC.out _ hc).mono ?_
    rintro e w1 ⟨rfl, hb⟩
    go_wp2
    go_ret
    exact ⟨rfl, HB0.out.trans (hb.mono (by simp))⟩
  · rw [held_eq hc]
    cases clo
    · go_enter Tryz.func100, Tryz.ntmps100
      go_wp2_with fail
      refine (CC.out _ hc).mono ?_
      rintro e w1 ⟨rfl, hb⟩
      have c3 := (BLK.out.below hb BLK.out.lt).cell 3
      simp only [List.getElem?_toArray, List.getElem?_cons_succ, List.getElem?_cons_zero] at c3
      go_wp2
      go_ret
      exact ⟨rfl, HB0.out.trans (hb.mono (by simp))⟩
    · go_enter Tryz.func100, Tryz.ntmps100
      go_wp2_with fail
      refine (CC.out _ hc).mono ?_
      rintro e w1 ⟨rfl, hb⟩
      have c3 := (BLK.out.below hb BLK.out.lt).cell 3
      simp only [List.getElem?_toArray, List.getElem?_cons_succ, List.getElem?_cons_zero] at c3
      go_wp2
      go_ret
      exact ⟨rfl, HB0.out.trans (hb.mono (by simp))⟩
  · rw [held_gt hc]
    go_enter Tryz.func100, Tryz.ntmps100
    go_wp2_with fail
    refine (CC.out _ hc).mono ?_
    rintro e w1 ⟨rfl, hb⟩
    go_wp2
    go_ret
    exact ⟨rfl, HB0.out.trans (hb.mono (by simp))⟩

section
variable {r : Near} {clo : Bool} {number rest unit : Nat} (hc : r.clo = clo)
include hc
theorem pick_ff (h1 : heldN clo rest r.lo = false) (h2 : heldN clo (unit - rest) r.hi = false) : pickN r number rest unit = none := by
  unfold pickN; rw [hc, h1, h2]; simp
theorem pick_tf (h1 : heldN clo rest r.lo = true) (h2 : heldN clo (unit - rest) r.hi = false) : pickN r number rest unit = some number := by
  unfold pickN; rw [hc, h1, h2]; simp
theorem pick_ft (h1 : heldN clo rest r.lo = false) (h2 : heldN clo (unit - rest) r.hi = true) : pickN r number rest unit = some (number + 1) := by
  unfold pickN; rw [hc, h1, h2]; simp
theorem pick_tt (h1 : heldN clo rest r.lo = true) (h2 : heldN clo (unit - rest) r.hi = true) (h3 : rest < unit - rest ∨ rest = unit - rest ∧ number % 2 = 0) : pickN r number rest unit = some number := by
  unfold pickN; rw [hc, h1, h2, if_pos ⟨rfl, fun _ => h3⟩]
theorem pick_tn (h1 : heldN clo rest r.lo = true) (h2 : heldN clo (unit - rest) r.hi = true) (h3 : ¬ (rest < unit - rest ∨ rest = unit - rest ∧ number % 2 = 0)) : pickN r number rest unit = some (number + 1) := by
  unfold pickN; rw [hc, h1, h2, if_neg (fun e => h3 (e.2 rfl))]; simp
end

theorem cmpN_lt {x y : Nat} (h : cmpN x y = -1) : x < y := by
  unfold cmpN at h; split at h
  · assumption
  · split at h <;> simp at h
theorem cmpN_eq {x y : Nat} (h : cmpN x y = 0) : x = y := by
  unfold cmpN at h; split at h
  · simp at h
  · split at h
    · simp at h
    · omega
theorem cmpN_gt {x y : Nat} (h : cmpN x y = 1) : y < x := by
  unfold cmpN at h; split at h
  · simp at h
  · split at h
    · assumption
    · simp at h

/-- What pick answers. -/
def pickV (o : Option Nat) : Value := .tuple #[.int .u64 ((o.getD 0 : Nat) : Int), .bool o.isSome]

theorem bdrew' (w : World) : Hid (Below w.heap.size w w.drew) := (Below.refl _ _).drew

set_option maxHeartbeats 2000000 in
theorem pick_any (oa ol oh : Option Addr) (la ca ll cl lh ch : Nat) (clo : Bool) (vr vu : Value) (r : Near) (number rest unit : Nat) (w : World) (hlo : Nt w (.slice ol ll cl) r.lo) (hhi : Nt w (.slice oh lh ch) r.hi) (hclo : r.clo = clo)
    (hvr : Nt w vr rest) (hvu : Nt w vu unit) (hr : Sm rest) (hu : Sm unit) (hsl : Sm r.lo) (hsh : Sm r.hi) (hle : rest ≤ unit) (hn : number < 9223372036854775808) :
    Calls Tryz.prog 68 #[reachV (.slice oa la ca) (.slice ol ll cl) (.slice oh lh ch) clo, .int .u64 (number : Int), vr, vu] w fun e w' => e = .returned (pickV (pickN r number rest unit)) ∧ Below w.heap.size w w' := by
  have hb0 : Below w.heap.size w (w.alloc (.cells #[.slice oa la ca, .slice ol ll cl, .slice oh lh ch, .bool clo] 88)) := (Below.refl _ _).alloc (Nat.le_refl _) _
  have SB := nt_sub vu vr unit rest _ (hvu.below hb0) (hvr.below hb0) hu hr hle
  have hvr0 := hvr.below hb0
  have hlo0 := hlo.below hb0
  have hhi0 := hhi.below hb0
  have hsg : Sm (unit - rest) := Nat.lt_of_le_of_lt (Nat.sub_le _ _) hu
  obtain ⟨ro, rc, rx, rfl, _⟩ := hvr
  obtain ⟨uo, uc, ux, rfl, _⟩ := hvu
  have blk := Blk.new w #[.slice oa la ca, .slice ol ll cl, .slice oh lh ch, .bool clo] 88
  obtain ⟨b, eb⟩ : ∃ b, b = w.heap.size := ⟨_, rfl⟩
  rw [← eb] at blk
  have EB := hide eb
  clear eb hlo hhi
  go_enter Tryz.func68, Tryz.ntmps68
  go_wp2_with fail
  refine SB.mono ?_
  rintro e w1 ⟨vg, rfl, hvg, hb1, _⟩
  have hvr1 := hvr0.below hb1
  have hlo1 := hlo0.below hb1
  have hhi1 := hhi0.below hb1
  have blk1 := blk.below hb1 blk.lt
  have hb01 : Below w.heap.size w w1 := hb0.trans (hb1.mono (by simp))
  obtain ⟨go, gc, gx, rfl, gl, gc2, gat, gis⟩ := hvg
  have hvg1 : Nt w1 (.slice go gx.length gc) (unit - rest) := ⟨go, gc, gx, rfl, gl, gc2, gat, gis⟩
  have H : Hid (∀ W (v far : Value) (x y : Nat), Hid (Below w1.heap.size w1 W) → Nt w1 v x → Nt w1 far y → Sm x → Sm y → Calls Tryz.prog 100 #[.agg #[.slice oa la ca, .slice ol ll cl, .slice oh lh ch, .bool clo], v, far] W fun e w' => e = .returned (.bool (heldN clo x y)) ∧ Hid (Below w1.heap.size w1 w') ∧
      w'.cell? ⟨b, 0, none⟩ = some (.slice oa la ca) ∧ w'.cell? ⟨b, 1, none⟩ = some (.slice ol ll cl) ∧ w'.cell? ⟨b, 2, none⟩ = some (.slice oh lh ch) ∧ w'.cell? ⟨b, 3, none⟩ = some (.bool clo)) := by
    intro W v far x y hW h1 h2 h3 h4
    refine (holds_any oa ol oh la ca ll cl lh ch clo v far x y W (h1.below hW.out) (h2.below hW.out) h3 h4).mono ?_
    rintro e w' ⟨rfl, hb⟩
    have hbb := hW.out.trans (hb.mono hW.out.size)
    have q := blk1.below hbb blk1.lt
    exact ⟨rfl, hbb, q.cell 0, q.cell 1, q.cell 2, q.cell 3⟩
  have c0 : w1.cell? ⟨b, 0, none⟩ = some (.slice oa la ca) := blk1.cell 0
  have c1 : w1.cell? ⟨b, 1, none⟩ = some (.slice ol ll cl) := blk1.cell 1
  have c2 : w1.cell? ⟨b, 2, none⟩ = some (.slice oh lh ch) := blk1.cell 2
  have c3 : w1.cell? ⟨b, 3, none⟩ = some (.bool clo) := blk1.cell 3
  have b0 : Hid (Below w1.heap.size w1 w1.drew) := bdrew' w1
  have A1 : Hid (Nt w1 (.slice ro rx.length rc) rest ∧ Nt w1 (.slice ol ll cl) r.lo ∧ Nt w1 (.slice go gx.length gc) (unit - rest) ∧ Nt w1 (.slice oh lh ch) r.hi) := ⟨hvr1, hlo1, hvg1, hhi1⟩
  have A2 : Hid (Sm rest ∧ Sm r.lo ∧ Sm (unit - rest) ∧ Sm r.hi) := ⟨hr, hsl, hsg, hsh⟩
  have HB := hide hb01
  have PN : Hid (r.clo = clo) := hclo
  clear hvr0 hlo0 hhi0 hvr1 hlo1 hhi1 hvg1 hr hu hsl hsh hsg blk blk1 hb0 hb1 hb01 gat gis gl gc2 SB hclo hle
  go_wp2_with fail
  simp only [← EB.out]
  have mk0 : True := trivial
  go_region_held3 (fun w' => w'.cell? ⟨b, 0, none⟩ = some (.slice oa la ca) ∧ w'.cell? ⟨b, 1, none⟩ = some (.slice ol ll cl) ∧ w'.cell? ⟨b, 2, none⟩ = some (.slice oh lh ch) ∧ w'.cell? ⟨b, 3, none⟩ = some (.bool clo)) (go_keep) (first
    | (clear mk0; go_at_call 100; refine (H.out _ _ _ rest r.lo b0 A1.out.1 A1.out.2.1 A2.out.1 A2.out.2.1).mono ?_; rintro e w2 ⟨rfl, b2, k0, k1, k2, k3⟩; have mk1 : True := trivial)
    | (clear mk1; go_at_call 100; refine (H.out _ _ _ (unit - rest) r.hi b2 A1.out.2.2.1 A1.out.2.2.2 A2.out.2.2.1 A2.out.2.2.2).mono ?_; rintro e w3 ⟨rfl, b3, m0, m1, m2, m3⟩; have mk2 : True := trivial))
  have HB3 : Hid (Below w.heap.size w w3) := HB.out.trans (b3.out.mono HB.out.size)
  have CM : Hid (∀ z, cmpN rest (unit - rest) = z → Calls Tryz.prog 80 #[.slice ro rx.length rc, .slice go gx.length gc] w3 fun e w' => e = .returned (.int .i64 z) ∧ Below w.heap.size w w') := by
    intro z hz
    refine (nt_cmp _ _ rest (unit - rest) z w3 (A1.out.1.below b3.out) (A1.out.2.2.1.below b3.out) A2.out.1 A2.out.2.2.1 hz).mono ?_
    rintro e w' ⟨rfl, hb⟩
    exact ⟨rfl, HB3.out.trans (hb.mono HB3.out.size)⟩
  clear H A1 A2 b0 b2 b3 mk2 c0 c1 c2 c3 k0 k1 k2 k3 m0 m1 m2 m3 HB EB
  generalize hd : heldN clo rest r.lo = d
  generalize hu : heldN clo (unit - rest) r.hi = u
  have HD := hide hd
  have HU := hide hu
  clear hd hu
  have fin : ∀ (o : Option Nat) (v : Value) (W : World), pickN r number rest unit = o → v = pickV o → Below w.heap.size w W → (Ending.returned v = Ending.returned (pickV (pickN r number rest unit)) ∧ Below w.heap.size w W) := fun o v W h1 h2 h3 => ⟨by rw [h1, h2], h3⟩
  have FIN := hide fin
  clear fin
  cases d <;> cases u
  · have PK := hide (pick_ff (number := number) PN.out HD.out HU.out)
    clear HD HU PN CM
    go_wp2
    go_ret2
    exact FIN.out _ _ _ PK.out rfl HB3.out
  · have PK := hide (pick_ft (number := number) PN.out HD.out HU.out)
    clear HD HU PN CM
    go_wp2
    go_ret2
    exact FIN.out _ _ _ PK.out rfl HB3.out
  · have PK := hide (pick_tf (number := number) PN.out HD.out HU.out)
    clear HD HU PN CM
    go_wp2
    go_ret2
    exact FIN.out _ _ _ PK.out rfl HB3.out
  · rcases cmpN_or rest (unit - rest) with hc | hc | hc
    · have PK := hide (pick_tt PN.out HD.out HU.out (number := number) (.inl (cmpN_lt hc)))
      have CZ := hide (CM.out _ hc)
      clear HD HU PN CM hc
      go_wp2_with fail
      refine CZ.out.mono ?_
      rintro e w4 ⟨rfl, hb4⟩
      have HB4 := hide hb4
      clear hb4 CZ
      go_wp2
      go_ret2
      exact FIN.out _ _ _ PK.out rfl HB4.out
    · have hq := cmpN_eq hc
      have CZ := hide (CM.out _ hc)
      by_cases he : number % 2 = 0
      · have PK := hide (pick_tt PN.out HD.out HU.out (.inr ⟨hq, he⟩))
        have he' : (number : Int) % 2 = 0 := by omega
        clear HD HU PN CM hc hq he
        go_wp2_with fail
        refine CZ.out.mono ?_
        rintro e w4 ⟨rfl, hb4⟩
        have HB4 := hide hb4
        clear hb4 CZ
        go_wp2
        go_ret2
        exact FIN.out _ _ _ PK.out rfl HB4.out
      · have PK := hide (pick_tn PN.out HD.out HU.out (show ¬ (rest < unit - rest ∨ rest = unit - rest ∧ number % 2 = 0) by omega))
        have he' : ¬ (number : Int) % 2 = 0 := by omega
        clear HD HU PN CM hc hq he
        go_wp2_with fail
        refine CZ.out.mono ?_
        rintro e w4 ⟨rfl, hb4⟩
        have HB4 := hide hb4
        clear hb4 CZ
        go_wp2
        go_ret2
        exact FIN.out _ _ _ PK.out rfl HB4.out
    · have hq := cmpN_gt hc
      have CZ := hide (CM.out _ hc)
      have PK := hide (pick_tn PN.out HD.out HU.out (number := number) (show ¬ (rest < unit - rest ∨ rest = unit - rest ∧ number % 2 = 0) by omega))
      clear HD HU PN CM hc hq
      go_wp2_with fail
      refine CZ.out.mono ?_
      rintro e w4 ⟨rfl, hb4⟩
      have HB4 := hide hb4
      clear hb4 CZ
      go_wp2
      go_ret2
      exact FIN.out _ _ _ PK.out rfl HB4.out

end Go.Proofs.YtlhekeifffofjaaGreatDoor

namespace Go.Proofs.YtlhekeifffofjaaGreatDoor

/-- A finite Dec in its one form, of at most so many digits. -/
structure Formed (d : DecT) (most : Nat) : Prop where
  cls : d.cls = 0
  len : d.dig.length ≤ most
  dig : DigB d.dig
  nil : d.dig = [] → d.exp = 0
  cons : d.dig ≠ [] → byt d.dig 0 ≠ 48 ∧ byt d.dig (d.dig.length - 1) ≠ 48 ∧ -1100 ≤ d.exp ∧ d.exp ≤ 400

theorem dd_last {M : Nat} (h : M % 10 ≠ 0) : byt (Lib.decDigits M) ((Lib.decDigits M).length - 1) ≠ 48 := by
  by_cases h10 : M < 10
  · rw [Lib.decDigits_one h10]
    simp only [byt, List.length_singleton]
    simp only [Nat.sub_self, List.getElem?_cons_zero, Option.map_some, Option.getD_some]
    rw [u8_digit h10]; omega
  · rw [dd_big h10, List.length_append, List.length_singleton, Nat.add_sub_cancel, byt_last, u8_digit (Nat.mod_lt _ (by omega))]
    omega

theorem dd_first {M : Nat} (h : M ≠ 0) : byt (Lib.decDigits M) 0 ≠ 48 := fun e => h (dd_zero ((dd_okT M).2.1 e))

theorem decA_formed (neg : Bool) {N most t : Nat} {e : Int} (h : N ≠ 0) (hl : N < 10 ^ most ∨ N = 10 ^ most) (h1 : 1 ≤ most) (he : -1100 ≤ e) (ht : N < 10 ^ t) (hu : e + t ≤ 401) :
    Formed (decA neg N e) most ∧ (decA neg N e).dig ≠ [] ∧ (decA neg N e).neg = neg := by
  obtain ⟨M, k, h2, h3, h4⟩ := decA_form neg e h
  have hk : 0 < 10 ^ k := Nat.pow_pos (by omega)
  have hM : M ≠ 0 := by omega
  have hMN : M ≤ N := by rw [h2]; exact Nat.le_mul_of_pos_right _ hk
  have hkN : 10 ^ k ≤ N := by rw [h2]; exact Nat.le_mul_of_pos_left _ (by omega)
  have hkt : k < t := (Nat.pow_lt_pow_iff_right (by omega : 1 < 10)).1 (by omega)
  have hsz : sizeN M ≤ most := by
    rcases hl with hl | hl
    · exact sizeN_le (by omega) h1
    · rcases Nat.lt_or_ge M (10 ^ most) with h5 | h5
      · exact sizeN_le h5 h1
      · exfalso
        have hM2 : M = 10 ^ most := by omega
        apply h3
        rw [hM2, show most = (most - 1) + 1 by omega, Nat.pow_succ, Nat.mul_mod_left]
  rw [h4]
  refine ⟨⟨rfl, hsz, (dd_okT M).2.2, fun e => absurd e (dd_ne M), fun _ => ⟨dd_first hM, dd_last h3, ?_, ?_⟩⟩, dd_ne M, rfl⟩
  · show -1100 ≤ e + (k : Int); omega
  · show e + (k : Int) ≤ 400; omega

theorem pick_or {r : Near} {a b c v : Nat} (h : pickN r a b c = some v) : v = a ∨ v = a + 1 := by
  unfold pickN at h
  split at h
  · left; simpa using h.symm
  · split at h
    · right; simpa using h.symm
    · cases h

/-- What the fewest digits are: at most 10^17, and not below 1. -/
theorem few_bound {r : Near} (g : r.Good) (h0 : r.amt ≠ 0) {v p : Nat} (h : fewN r (sizeN r.amt) = (v, p)) : p < sizeN r.amt ∧ 1 ≤ v ∧ v ≤ 10 ^ 17 ∧ pickAt r p = some v ∧ 10 ^ p ≤ r.amt ∧ r.amt / 10 ^ p < 10 ^ 17 ∧ ∀ q, p < q → q < sizeN r.amt → pickAt r q = none := by
  obtain ⟨v', p', h1, h2, h3, h4⟩ := fewN_spec g (sizeN r.amt) (sizeN_pos _)
  rw [h] at h1
  obtain ⟨rfl, rfl⟩ := Prod.mk.inj h1
  have hp : 0 < 10 ^ p := Nat.pow_pos (by omega)
  have hge : 10 ^ p ≤ r.amt := by
    have := sizeN_ge h0
    have := Nat.pow_le_pow_right (show 0 < 10 by omega) (show p ≤ sizeN r.amt - 1 by omega)
    omega
  have h1' : 1 ≤ r.amt / 10 ^ p := (Nat.le_div_iff_mul_le hp).2 (by omega)
  have hlt : r.amt / 10 ^ p < 10 ^ 17 := by
    rcases Nat.lt_or_ge (p + 1) (sizeN r.amt) with h5 | h5
    · have h6 := few_small g (h4 (p + 1) (by omega) h5)
      rw [Nat.pow_succ, ← Nat.div_div_eq_div_mul] at h6
      omega
    · have h7 := sizeN_lt r.amt
      rw [show sizeN r.amt = p + 1 by omega, Nat.pow_succ] at h7
      have : r.amt / 10 ^ p < 10 := (Nat.div_lt_iff_lt_mul hp).2 (by omega)
      omega
  have := pick_or h3
  exact ⟨h2, by omega, by omega, h3, hge, hlt, h4⟩

def T971 : Nat := powT 2 971
def T1074 : Nat := powT 5 1074
theorem t971_ge {k : Nat} (h : k ≤ 971) : 2 ^ k ≤ T971 := powT_ge (by omega) h
theorem t1074_ge {k : Nat} (h : k ≤ 1074) : 5 ^ k ≤ T1074 := powT_ge (by omega) h
theorem t971_pos : 0 < T971 := by decide +kernel
theorem t971_le : T971 ≤ T1074 := by decide +kernel

theorem p2_bound {n : Int} {c t : Nat} (hn : -1076 ≤ n) (hc : c < 10 ^ 17) (ht : c * T971 < 10 ^ t) (hn2 : n ≤ 971) {q : Nat} (hq : 10 ^ q ≤ p2N n * c) : p2E n + q < 17 ∨ p2E n + q < t := by
  unfold p2N at hq
  unfold p2E
  split at hq
  · next h =>
    rw [if_pos h]
    left
    obtain ⟨j, hj⟩ : ∃ j : Nat, n = -(j : Int) := ⟨(-n).toNat, by omega⟩
    subst hj
    rw [show (-(-(j : Int))).toNat = j by omega] at hq
    have h5 : (5 : Nat) ^ j ≤ 10 ^ j := Nat.pow_le_pow_left (by omega) j
    have h6 : 5 ^ j * c < 10 ^ (j + 17) := by
      rw [Nat.pow_add]
      have a1 : 5 ^ j * c < 5 ^ j * 10 ^ 17 := Nat.mul_lt_mul_of_pos_left hc (Nat.pow_pos (by omega))
      have a2 : 5 ^ j * 10 ^ 17 ≤ 10 ^ j * 10 ^ 17 := Nat.mul_le_mul_right _ h5
      exact Nat.lt_of_lt_of_le a1 a2
    have : q < j + 17 := (Nat.pow_lt_pow_iff_right (by omega : 1 < 10)).1 (by omega)
    omega
  · next h =>
    rw [if_neg h]
    right
    have h6 : 2 ^ n.toNat ≤ T971 := t971_ge (by omega)
    have h7 : 2 ^ n.toNat * c ≤ c * T971 := by rw [Nat.mul_comm]; exact Nat.mul_le_mul_left _ h6
    have : q < t := (Nat.pow_lt_pow_iff_right (by omega : 1 < 10)).1 (by omega)
    omega

theorem p2E_ge {n : Int} (hn : -1076 ≤ n) : -1076 ≤ p2E n := by unfold p2E; split <;> omega

theorem two_309 : 2 ^ 55 * T971 < 10 ^ 309 := by decide +kernel

theorem fewD_formed (neg : Bool) {F B x m : Nat} (hF : F ≤ 52) (hm : m < 2 ^ F) (h0 : ¬ (x = 0 ∧ m = 0)) (h1 : -1074 ≤ fPow B x) (h2 : fPow B x ≤ 971) :
    Formed (decA neg (fewD F B x m).1 (fewD F B x m).2) 17 ∧ (decA neg (fewD F B x m).1 (fewD F B x m).2).dig ≠ [] ∧ (decA neg (fewD F B x m).1 (fewD F B x m).2).neg = neg := by
  have g := nearOf_good (B := B) (x := x) hF hm
  have hn : fNum F x m ≠ 0 := by
    have := Nat.pow_pos (n := F) (show 0 < 2 by omega)
    unfold fNum; split <;> omega
  have hlt : fNum F x m * 4 < 2 ^ 55 := by
    have a := fNum_lt (x := x) hm
    have b : (2 : Nat) ^ (F + 1) ≤ 2 ^ 53 := Nat.pow_le_pow_right (by omega) (by omega)
    have e1 : (2 : Nat) ^ 53 * 4 = 2 ^ 55 := by decide
    omega
  have ha : (nearOf F B x m).amt ≠ 0 := by
    have := p2N_pos (fPow B x - 2)
    exact Nat.mul_ne_zero (by omega) (by omega)
  rcases hf : fewN (nearOf F B x m) (sizeN (nearOf F B x m).amt) with ⟨v, p⟩
  obtain ⟨b1, b2, b3, b4, b5, _, _⟩ := few_bound g ha hf
  have e : fewD F B x m = (v, p2E (fPow B x - 2) + (p : Nat)) := by unfold fewD; rw [hf]
  rw [e]
  have c55 : (2 : Nat) ^ 55 < 10 ^ 17 := by decide
  have hb := p2_bound (n := fPow B x - 2) (c := fNum F x m * 4) (t := 309) (by omega) (by omega) (by
    have a1 : fNum F x m * 4 * T971 < 2 ^ 55 * T971 := Nat.mul_lt_mul_of_pos_right hlt t971_pos
    exact Nat.lt_trans a1 two_309) (by omega) b5
  have hl := p2E_ge (n := fPow B x - 2) (by omega)
  exact decA_formed neg (most := 17) (t := 18) (by omega) (by omega) (by omega) (by omega) (by omega) (by omega)

theorem all_767 : 2 ^ 53 * T1074 < 10 ^ 767 := by decide +kernel

theorem p2N_767 {n : Int} {c : Nat} (h1 : -1074 ≤ n) (h2 : n ≤ 971) (hc : c < 2 ^ 53) : c * p2N n < 10 ^ 767 := by
  have key : ∀ z, z ≤ T1074 → c * z < 10 ^ 767 := fun z hz => by
    have a1 : c * z ≤ 2 ^ 53 * z := Nat.mul_le_mul_right _ (by omega)
    have a2 : 2 ^ 53 * z ≤ 2 ^ 53 * T1074 := Nat.mul_le_mul_left _ hz
    exact Nat.lt_of_le_of_lt (Nat.le_trans a1 a2) all_767
  apply key
  unfold p2N
  split
  · exact t1074_ge (by omega)
  · exact Nat.le_trans (t971_ge (by omega)) t971_le

theorem allD_formed (neg : Bool) {F B x m : Nat} (hF : F ≤ 52) (hm : m < 2 ^ F) (h0 : ¬ (x = 0 ∧ m = 0)) (h1 : -1074 ≤ fPow B x) (h2 : fPow B x ≤ 971) :
    Formed (decA neg (allD F B x m).1 (allD F B x m).2) 767 ∧ (decA neg (allD F B x m).1 (allD F B x m).2).dig ≠ [] ∧ (decA neg (allD F B x m).1 (allD F B x m).2).neg = neg := by
  have hn : fNum F x m ≠ 0 := by
    have := Nat.pow_pos (n := F) (show 0 < 2 by omega)
    unfold fNum; split <;> omega
  have hlt : fNum F x m < 2 ^ 53 := by
    have a := fNum_lt (x := x) hm
    have b : (2 : Nat) ^ (F + 1) ≤ 2 ^ 53 := Nat.pow_le_pow_right (by omega) (by omega)
    omega
  have hp := p2N_pos (fPow B x)
  obtain ⟨N, hN⟩ : ∃ N, N = fNum F x m * p2N (fPow B x) := ⟨_, rfl⟩
  have hN0 : N ≠ 0 := by rw [hN]; exact Nat.mul_ne_zero hn (by omega)
  have h767 := p2N_767 h1 h2 hlt
  rw [← hN] at h767
  have hs := sizeN_ge hN0
  have hsp := sizeN_pos N
  have c53 : (2 : Nat) ^ 53 < 10 ^ 17 := by decide
  have hb := p2_bound (n := fPow B x) (c := fNum F x m) (t := 309) (q := sizeN N - 1) (by omega) (by omega) (by
    have a1 : fNum F x m * T971 < 2 ^ 53 * T971 := Nat.mul_lt_mul_of_pos_right hlt t971_pos
    have a2 : 2 ^ 53 * T971 < 10 ^ 309 := by decide +kernel
    exact Nat.lt_trans a1 a2) h2 (by rw [Nat.mul_comm, ← hN]; exact hs)
  have hl := p2E_ge (n := fPow B x) (by omega)
  show Formed (decA neg (fNum F x m * p2N (fPow B x)) (p2E (fPow B x))) 767 ∧ (decA neg (fNum F x m * p2N (fPow B x)) (p2E (fPow B x))).dig ≠ [] ∧ (decA neg (fNum F x m * p2N (fPow B x)) (p2E (fPow B x))).neg = neg
  rw [← hN]
  exact decA_formed neg (most := 767) (t := sizeN N) hN0 (.inl h767) (by omega) (by omega) (sizeN_lt N) (by omega)

end Go.Proofs.YtlhekeifffofjaaGreatDoor

namespace Go.Proofs.YtlhekeifffofjaaGreatDoor

theorem p2_shift (n : Int) (k : Nat) : ∃ j : Nat, 2 ^ k * p2N (n - k) = p2N n * 10 ^ j ∧ p2E (n - k) + j = p2E n := by
  unfold p2N p2E
  by_cases h1 : n < 0
  · rw [if_pos h1, if_pos h1, if_pos (by omega), if_pos (by omega)]
    refine ⟨k, ?_, by omega⟩
    rw [show (-(n - (k : Int))).toNat = (-n).toNat + k by omega, Nat.pow_add, Nat.mul_comm (5 ^ _) (5 ^ k), ← Nat.mul_assoc, ← Nat.mul_pow, Nat.mul_comm]
  · rw [if_neg h1, if_neg h1]
    by_cases h2 : n - (k : Int) < 0
    · rw [if_pos h2, if_pos h2]
      refine ⟨k - n.toNat, ?_, by omega⟩
      obtain ⟨a, ha⟩ : ∃ a, a = n.toNat := ⟨_, rfl⟩
      obtain ⟨c, hc⟩ : ∃ c, c = k - n.toNat := ⟨_, rfl⟩
      have hk : k = a + c := by omega
      rw [← ha] at hc
      rw [show (-(n - (k : Int))).toNat = c by omega, ← ha, ← hc, hk, Nat.pow_add, Nat.mul_assoc, ← Nat.mul_pow]
    · rw [if_neg h2, if_neg h2]
      refine ⟨0, ?_, by omega⟩
      rw [Nat.pow_zero, Nat.mul_one, ← Nat.pow_add]
      congr 1
      omega

/-- What is picked lies in reach. -/
theorem pick_near {r : Near} {p v : Nat} (h : pickAt r p = some v) : (v * 10 ^ p ≤ r.amt ∧ r.amt - v * 10 ^ p ≤ r.lo) ∨ (r.amt ≤ v * 10 ^ p ∧ v * 10 ^ p - r.amt ≤ r.hi) := by
  have hp : 0 < 10 ^ p := Nat.pow_pos (by omega)
  have hdm := Nat.div_add_mod r.amt (10 ^ p)
  have hlt := Nat.mod_lt r.amt hp
  have hle : ∀ {c : Bool} {d far : Nat}, heldN c d far = true → d ≤ far := by
    intro c d far h
    unfold heldN at h
    by_cases h1 : d < far
    · omega
    · simp [h1] at h; omega
  unfold pickAt pickN at h
  split at h
  · next hc =>
    left
    obtain rfl : r.amt / 10 ^ p = v := by simpa using h
    have := hle hc.1
    rw [Nat.mul_comm (r.amt / 10 ^ p)]
    generalize 10 ^ p * (r.amt / 10 ^ p) = z at *
    omega
  · split at h
    · next hc =>
      right
      obtain rfl : r.amt / 10 ^ p + 1 = v := by simpa using h
      have := hle hc
      rw [Nat.add_mul, Nat.one_mul, Nat.mul_comm (r.amt / 10 ^ p)]
      generalize 10 ^ p * (r.amt / 10 ^ p) = z at *
      omega
    · cases h

/-- Where one is picked at a place, no lower place is looked at. -/
theorem few_ge {r : Near} (g : r.Good) (h0 : r.amt ≠ 0) {v p P : Nat} (h : fewN r (sizeN r.amt) = (v, p)) (hP : P < sizeN r.amt) (hk : pickAt r P ≠ none) : P ≤ p := by
  obtain ⟨_, _, _, _, _, _, b7⟩ := few_bound g h0 h
  rcases Nat.lt_or_ge p P with h1 | h1
  · exact absurd (b7 P h1 hP) hk
  · exact h1

end Go.Proofs.YtlhekeifffofjaaGreatDoor

namespace Go.Proofs.YtlhekeifffofjaaGreatDoor

abbrev of64D (b : Nat) : DecT := decOf 52 11 (fewD 52 1074) b
abbrev of32D (b : Nat) : DecT := decOf 23 8 (fewD 23 149) b
abbrev ex64D (b : Nat) : DecT := decOf 52 11 (allD 52 1074) b
abbrev ex32D (b : Nat) : DecT := decOf 23 8 (allD 23 149) b

theorem few_one {F B x m s v p : Nat} {e e2 : Int} (neg : Bool) (h1 : 10 ^ s ≤ (nearOf F B x m).amt) (h2 : (nearOf F B x m).amt < 10 ^ (s + 1)) (h3 : fewN (nearOf F B x m) (s + 1) = (v, p)) (hv : v < 10) (h0 : v ≠ 0) (he : p2E (fPow B x - 2) + (p : Nat) = e) (hee : e = e2) :
    decA neg (fewD F B x m).1 (fewD F B x m).2 = ⟨0, neg, [UInt8.ofNat (48 + v)], e2⟩ := by
  rw [fewD_eq h1 h2 h3, decA_digit hv h0, he, hee]

theorem awk1 : of64D 0x3fb999999999999a = ⟨0, false, [49], -1⟩ := by
  have h : of64D 0x3fb999999999999a = decA false (fewD 52 1074 1019 0x999999999999a).1 (fewD 52 1074 1019 0x999999999999a).2 := by unfold of64D decOf; rw [if_neg (by decide), if_neg (by decide)]; rfl
  rw [h]
  exact few_one (s := 57) (v := 1) (p := 57) false (by decide +kernel) (by decide +kernel) (by decide +kernel) (by decide) (by decide) rfl (by decide +kernel)

theorem awk3 : of32D 0x3dcccccd = ⟨0, false, [49], -1⟩ := by
  have h : of32D 0x3dcccccd = decA false (fewD 23 149 123 0x4ccccd).1 (fewD 23 149 123 0x4ccccd).2 := by unfold of32D decOf; rw [if_neg (by decide), if_neg (by decide)]; rfl
  rw [h]
  exact few_one (s := 28) (v := 1) (p := 28) false (by decide +kernel) (by decide +kernel) (by decide +kernel) (by decide) (by decide) rfl (by decide +kernel)

end Go.Proofs.YtlhekeifffofjaaGreatDoor

namespace Go.Proofs.YtlhekeifffofjaaGreatDoor

/-- 2^n times 10^1100. -/
def Tn (n : Int) : Nat := p2N n * 10 ^ (p2E n + 1100).toNat

theorem Tn_succ {n : Int} (h : -1100 ≤ n) : Tn (n + 1) = 2 * Tn n := by
  obtain ⟨j, h1, h2⟩ := p2_shift (n + 1) 1
  unfold Tn
  rw [show n + 1 - ((1 : Nat) : Int) = n by omega, Nat.pow_one] at h1
  rw [show n + 1 - ((1 : Nat) : Int) = n by omega] at h2
  have hE : -1100 ≤ p2E n := by unfold p2E; split <;> omega
  rw [← Nat.mul_assoc, h1, Nat.mul_assoc, ← Nat.pow_add]
  congr 2
  omega

theorem Tn_pow (k : Nat) : Tn (-1076 + (k : Int)) = 2 ^ k * Tn (-1076) := by
  induction k with
  | zero => simp
  | succ k ih =>
    rw [show -1076 + ((k + 1 : Nat) : Int) = -1076 + (k : Int) + 1 by omega, Tn_succ (by omega), ih, Nat.pow_succ, ← Nat.mul_assoc, Nat.mul_comm 2]

def T0 : Nat := Tn (-1076)
theorem T0_pos : 0 < T0 := Nat.mul_pos (p2N_pos _) (Nat.pow_pos (by omega))

/-- A float's amount in units of 2^-1074. -/
def fAmt (a : Nat) : Nat := fNum 52 (a / 2 ^ 52) (a % 2 ^ 52) * 2 ^ (a / 2 ^ 52 - 1)

theorem fPow_nat (x : Nat) : fPow 1074 x = -1076 + ((x - 1 + 2 : Nat) : Int) := by
  unfold fPow; split <;> omega

theorem fAmt_succ (a : Nat) : fAmt (a + 1) = fAmt a + 2 ^ (a / 2 ^ 52 - 1) := by
  have e1 : (2 : Nat) ^ 52 = 4503599627370496 := by decide
  unfold fAmt fNum
  rw [e1]
  by_cases h : a % 4503599627370496 + 1 < 4503599627370496
  · have h1 : (a + 1) / 4503599627370496 = a / 4503599627370496 := by omega
    have h2 : (a + 1) % 4503599627370496 = a % 4503599627370496 + 1 := by omega
    rw [h1, h2]
    split
    · rw [Nat.add_mul, Nat.one_mul]
    · rw [← Nat.add_assoc, Nat.add_mul _ 1, Nat.one_mul]
  · have h1 : (a + 1) / 4503599627370496 = a / 4503599627370496 + 1 := by omega
    have h2 : (a + 1) % 4503599627370496 = 0 := by omega
    have h3 : a % 4503599627370496 = 4503599627370495 := by omega
    rw [h1, h2, h3, if_neg (by omega), Nat.add_sub_cancel, Nat.add_zero]
    by_cases h0 : a / 4503599627370496 = 0
    · rw [h0]; simp
    · rw [if_neg h0]
      obtain ⟨i, hi⟩ : ∃ i, a / 4503599627370496 = i + 1 := ⟨a / 4503599627370496 - 1, by omega⟩
      rw [hi, Nat.add_sub_cancel, Nat.pow_succ]
      omega

theorem fAmt_mono {a b : Nat} (h : a ≤ b) : fAmt a ≤ fAmt b := by
  induction b with
  | zero => rw [show a = 0 by omega]; exact Nat.le_refl _
  | succ b ih =>
    by_cases e : a = b + 1
    · rw [e]; exact Nat.le_refl _
    · have := ih (by omega)
      rw [fAmt_succ]; exact Nat.le_trans this (Nat.le_add_right _ _)

theorem fAmt_lt {a b : Nat} (h : a < b) : fAmt a < fAmt b := by
  have h1 := fAmt_mono (show a + 1 ≤ b from h)
  have h2 := fAmt_succ a
  have h3 : 0 < 2 ^ (a / 2 ^ 52 - 1) := Nat.pow_pos (by omega)
  omega

/-- A finite Dec's amount, times 10^1100. -/
def valD (d : DecT) : Nat := decV d.dig * 10 ^ (d.exp + 1100).toNat

theorem valD_nil {d : DecT} (h : d.dig = []) : valD d = 0 := by unfold valD; rw [h]; exact Nat.zero_mul _

theorem val_decA (neg : Bool) {N : Nat} {e : Int} (h : N ≠ 0) (he : -1100 ≤ e) : valD (decA neg N e) = N * 10 ^ (e + 1100).toNat := by
  obtain ⟨M, k, h1, _, h3⟩ := decA_form neg e h
  rw [h3]
  unfold valD
  simp only
  rw [dd_val, h1, Nat.mul_assoc, ← Nat.pow_add]
  congr 2
  omega

/-- The fields of a float that is not below 0 and finite. -/
theorem pos_fields {a : Nat} (h : a < 9218868437227405312) : a / 2 ^ 52 % 2 ^ 11 = a / 2 ^ 52 ∧ a / 2 ^ 52 < 2047 ∧ a / 2 ^ 52 / 2 ^ 11 = 0 := by
  have e1 : (2 : Nat) ^ 52 = 4503599627370496 := by decide
  have e2 : (2 : Nat) ^ 11 = 2048 := by decide
  rw [e1, e2]; omega

theorem pos_dec {a : Nat} (h : a < 9218868437227405312) (h0 : a ≠ 0) (tell : Nat → Nat → Nat × Int) : decOf 52 11 tell a = decA false (tell (a / 2 ^ 52) (a % 2 ^ 52)).1 (tell (a / 2 ^ 52) (a % 2 ^ 52)).2 := by
  have e1 : (2 : Nat) ^ 52 = 4503599627370496 := by decide
  obtain ⟨g1, g2, g3⟩ := pos_fields h
  unfold decOf
  rw [g1, g3, if_neg (by rw [show (2 : Nat) ^ 11 = 2048 by decide]; omega), if_neg (by rw [e1]; omega)]
  rfl

theorem zero_dec (tell : Nat → Nat → Nat × Int) : decOf 52 11 tell 0 = ⟨0, false, [], 0⟩ := by
  unfold decOf
  rw [if_neg (by decide), if_pos (by decide)]
  rfl

theorem fNum_pos {a : Nat} (h0 : a ≠ 0) : fNum 52 (a / 2 ^ 52) (a % 2 ^ 52) ≠ 0 := by
  have e1 : (2 : Nat) ^ 52 = 4503599627370496 := by decide
  unfold fNum
  rw [e1]
  split <;> omega

theorem fPow_bounds {a : Nat} (h : a < 9218868437227405312) : -1074 ≤ fPow 1074 (a / 2 ^ 52) ∧ fPow 1074 (a / 2 ^ 52) ≤ 971 := by
  have := (pos_fields h).2.1
  unfold fPow; split <;> omega

theorem val_ex {a : Nat} (h : a < 9218868437227405312) : valD (ex64D a) = 4 * fAmt a * T0 := by
  by_cases h0 : a = 0
  · subst h0
    have : fAmt 0 = 0 := by decide +kernel
    rw [valD_nil (by rw [show ex64D 0 = _ from zero_dec _]), this, Nat.mul_zero, Nat.zero_mul]
  · have hb := fPow_bounds h
    have hp := p2N_pos (fPow 1074 (a / 2 ^ 52))
    have hE : -1100 ≤ p2E (fPow 1074 (a / 2 ^ 52)) := by unfold p2E; split <;> omega
    rw [show ex64D a = _ from pos_dec h h0 _, val_decA false (N := (allD 52 1074 (a / 2 ^ 52) (a % 2 ^ 52)).1) (e := (allD 52 1074 (a / 2 ^ 52) (a % 2 ^ 52)).2) (Nat.mul_ne_zero (fNum_pos h0) (by omega)) hE]
    show fNum 52 (a / 2 ^ 52) (a % 2 ^ 52) * p2N (fPow 1074 (a / 2 ^ 52)) * 10 ^ (p2E (fPow 1074 (a / 2 ^ 52)) + 1100).toNat = _
    rw [Nat.mul_assoc]
    show fNum 52 (a / 2 ^ 52) (a % 2 ^ 52) * Tn (fPow 1074 (a / 2 ^ 52)) = _
    rw [fPow_nat, Tn_pow, Nat.pow_add]
    unfold fAmt T0
    rw [show (2 : Nat) ^ 2 = 4 by decide]
    generalize fNum 52 (a / 2 ^ 52) (a % 2 ^ 52) = A
    generalize 2 ^ (a / 2 ^ 52 - 1) = B
    simp only [Nat.mul_comm, Nat.mul_assoc]

/-- The fewest digits lie from midway below to midway above, and at an end only of an even float. -/
theorem val_of {a : Nat} (h : a < 9218868437227405312) :
    (2 * valD (of64D a) ≤ (4 * fAmt a + 4 * fAmt (a + 1)) * T0 ∧ (2 * valD (of64D a) = (4 * fAmt a + 4 * fAmt (a + 1)) * T0 → a % 2 = 0)) ∧
    (a ≠ 0 → (4 * fAmt (a - 1) + 4 * fAmt a) * T0 ≤ 2 * valD (of64D a) ∧ ((4 * fAmt (a - 1) + 4 * fAmt a) * T0 = 2 * valD (of64D a) → a % 2 = 0)) := by
  obtain ⟨T, hTe⟩ : ∃ T, T = T0 := ⟨_, rfl⟩
  have hT : 0 < T := by rw [hTe]; exact T0_pos
  rw [← hTe]
  by_cases h0 : a = 0
  · subst h0
    have hz : valD (of64D 0) = 0 := valD_nil (by rw [show of64D 0 = _ from zero_dec _])
    rw [hz]
    exact ⟨⟨by omega, fun _ => rfl⟩, fun e => absurd rfl e⟩
  · have e1 : (2 : Nat) ^ 52 = 4503599627370496 := by decide
    have hb := fPow_bounds h
    obtain ⟨x, hx⟩ : ∃ x, x = a / 2 ^ 52 := ⟨_, rfl⟩
    obtain ⟨m, hm⟩ : ∃ m, m = a % 2 ^ 52 := ⟨_, rfl⟩
    have hm2 : m < 2 ^ 52 := by rw [hm]; exact Nat.mod_lt _ (by omega)
    have hnum := fNum_pos h0
    have hs := fAmt_succ a
    have hs' := fAmt_succ (a - 1)
    rw [show a - 1 + 1 = a by omega] at hs'
    have hdec := pos_dec h h0 (fewD 52 1074)
    have hAm : fAmt a = fNum 52 x m * 2 ^ (x - 1) := by rw [hx, hm]; rfl
    rw [← hx] at hb hs hdec hnum
    rw [← hm] at hdec hnum
    have g := nearOf_good (F := 52) (B := 1074) (x := x) (m := m) (by omega) hm2
    have ha0 : (nearOf 52 1074 x m).amt ≠ 0 := by
      have := p2N_pos (fPow 1074 x - 2)
      exact Nat.mul_ne_zero (by omega) (by omega)
    rcases hf : fewN (nearOf 52 1074 x m) (sizeN (nearOf 52 1074 x m).amt) with ⟨v, p⟩
    obtain ⟨b1, b2, b3, b4, b5, _, _⟩ := few_bound g ha0 hf
    have near := pick_near b4
    have hclo : ∀ {d far : Nat}, heldN (nearOf 52 1074 x m).clo d far = true → d = far → m % 2 = 0 := by
      intro d far hh e
      subst e
      unfold heldN at hh
      simp at hh
      simpa [nearOf] using hh
    -- at an end only if the ends belong to it
    have tie : (v * 10 ^ p ≤ (nearOf 52 1074 x m).amt ∧ (nearOf 52 1074 x m).amt - v * 10 ^ p = (nearOf 52 1074 x m).lo → m % 2 = 0) ∧ ((nearOf 52 1074 x m).amt ≤ v * 10 ^ p ∧ v * 10 ^ p - (nearOf 52 1074 x m).amt = (nearOf 52 1074 x m).hi → m % 2 = 0) := by
      have hp : 0 < 10 ^ p := Nat.pow_pos (by omega)
      have hdm := Nat.div_add_mod (nearOf 52 1074 x m).amt (10 ^ p)
      have hlt := Nat.mod_lt (nearOf 52 1074 x m).amt hp
      have hlo := g.pos
      have hhi := g.le
      unfold pickAt pickN at b4
      split at b4
      · next hc =>
        obtain rfl : (nearOf 52 1074 x m).amt / 10 ^ p = v := by simpa using b4
        rw [Nat.mul_comm ((nearOf 52 1074 x m).amt / 10 ^ p)]
        refine ⟨fun e => hclo hc.1 (by omega), fun e => ?_⟩
        exfalso; omega
      · split at b4
        · next hc =>
          obtain rfl : (nearOf 52 1074 x m).amt / 10 ^ p + 1 = v := by simpa using b4
          rw [Nat.add_mul, Nat.one_mul, Nat.mul_comm ((nearOf 52 1074 x m).amt / 10 ^ p)]
          refine ⟨fun e => ?_, fun e => hclo hc (by omega)⟩
          exfalso; omega
        · cases b4
    have par : m % 2 = a % 2 := by rw [hm, e1]; omega
    have e : fewD 52 1074 x m = (v, p2E (fPow 1074 x - 2) + (p : Nat)) := by unfold fewD; rw [hf]
    have hE : -1100 ≤ p2E (fPow 1074 x - 2) := by unfold p2E; split <;> omega
    obtain ⟨t, ht⟩ : ∃ t, t = 10 ^ (p2E (fPow 1074 x - 2) + 1100).toNat := ⟨_, rfl⟩
    have ht0 : 0 < t := by rw [ht]; exact Nat.pow_pos (by omega)
    have hval : valD (of64D a) = v * 10 ^ p * t := by
      rw [show of64D a = _ from hdec, e, val_decA false (by omega) (by omega), ht, Nat.mul_assoc, ← Nat.pow_add]
      congr 2
      omega
    -- the quarter, in these units
    have hq : p2N (fPow 1074 x - 2) * t = 2 ^ (x - 1) * T := by
      have h1 : Tn (fPow 1074 x - 2) = 2 ^ (x - 1) * Tn (-1076) := by rw [← Tn_pow]; congr 1; have := fPow_nat x; omega
      rw [ht, hTe]; exact h1
    obtain ⟨Q, hQ⟩ : ∃ Q, Q = 2 ^ (x - 1) := ⟨_, rfl⟩
    rw [← hQ] at hs hAm hq
    have A1 : (nearOf 52 1074 x m).amt * t = 4 * fAmt a * T := by
      show p2N (fPow 1074 x - 2) * (fNum 52 x m * 4) * t = _
      rw [Nat.mul_right_comm, hq, hAm]
      simp only [Nat.mul_comm, Nat.mul_left_comm, Nat.mul_assoc]
    have H1 : (nearOf 52 1074 x m).hi * t = 2 * Q * T := by
      show p2N (fPow 1074 x - 2) * 2 * t = _
      rw [Nat.mul_right_comm, hq]
      simp only [Nat.mul_comm, Nat.mul_assoc]
    -- the step down
    have L1 : 2 * ((nearOf 52 1074 x m).lo * t) = 4 * 2 ^ ((a - 1) / 2 ^ 52 - 1) * T := by
      show 2 * ((if m = 0 ∧ 1 < x then p2N (fPow 1074 x - 2) else p2N (fPow 1074 x - 2) * 2) * t) = _
      by_cases hc : m = 0 ∧ 1 < x
      · rw [if_pos hc, hq, hQ]
        have h1 : (a - 1) / 2 ^ 52 = x - 1 := by rw [e1] at *; omega
        rw [h1]
        obtain ⟨i, hi⟩ : ∃ i, x = i + 2 := ⟨x - 2, by omega⟩
        rw [hi, show i + 2 - 1 = i + 1 by omega, show i + 1 - 1 = i by omega, Nat.pow_succ]
        generalize 2 ^ i = R
        have i1 : R * 2 * T = 2 * (R * T) := by rw [Nat.mul_comm R 2, Nat.mul_assoc]
        have i2 : 4 * R * T = 4 * (R * T) := Nat.mul_assoc _ _ _
        omega
      · rw [if_neg hc, Nat.mul_right_comm, hq, hQ]
        have h1 : (a - 1) / 2 ^ 52 - 1 = x - 1 := by rw [e1] at *; omega
        rw [h1, Nat.mul_assoc 4]
        generalize 2 ^ (x - 1) * T = R
        omega
    obtain ⟨q', hq'⟩ : ∃ q', q' = 2 ^ ((a - 1) / 2 ^ 52 - 1) := ⟨_, rfl⟩
    rw [← hq'] at hs' L1
    obtain ⟨V, hV⟩ : ∃ V, V = v * 10 ^ p := ⟨_, rfl⟩
    rw [← hV] at near tie hval
    obtain ⟨n, hn⟩ : ∃ n, n = nearOf 52 1074 x m := ⟨_, rfl⟩
    rw [← hn] at near tie A1 H1 L1
    -- multiplied out
    have s1 : (4 * fAmt a + 4 * fAmt (a + 1)) * T = 2 * (n.amt * t) + 2 * (n.hi * t) := by
      rw [hs, A1, H1, Nat.mul_add 4, Nat.add_mul, Nat.add_mul]
      generalize fAmt a = X
      have i1 : 2 * Q * T = 2 * (Q * T) := Nat.mul_assoc _ _ _
      have i2 : 4 * Q * T = 4 * (Q * T) := Nat.mul_assoc _ _ _
      omega
    have s2 : (4 * fAmt (a - 1) + 4 * fAmt a) * T + 2 * (n.lo * t) = 2 * (n.amt * t) := by
      rw [L1, A1, hs', Nat.mul_add 4, Nat.add_mul, Nat.add_mul]
      generalize fAmt (a - 1) = X
      omega
    rw [hval, s1]
    have cmpT : ∀ y z : Nat, y ≤ z ↔ y * t ≤ z * t := fun y z => ⟨fun hh => Nat.mul_le_mul_right _ hh, fun hh => Nat.le_of_mul_le_mul_right hh ht0⟩
    have eqT : ∀ y z : Nat, y * t = z * t → y = z := fun y z hh => Nat.eq_of_mul_eq_mul_right ht0 hh
    have up : V ≤ n.amt + n.hi ∧ (V = n.amt + n.hi → m % 2 = 0) := by
      refine ⟨by omega, fun hh => ?_⟩
      exact tie.2 ⟨by omega, by omega⟩
    have dn : n.amt ≤ V + n.lo ∧ (n.amt = V + n.lo → m % 2 = 0) := by
      refine ⟨by omega, fun hh => ?_⟩
      exact tie.1 ⟨by omega, by omega⟩
    have u1 := (cmpT _ _).1 up.1
    have u2 := (cmpT _ _).1 dn.1
    rw [Nat.add_mul] at u1 u2
    refine ⟨⟨by omega, fun hh => ?_⟩, fun _ => ⟨by omega, fun hh => ?_⟩⟩
    · rw [← par]
      apply up.2
      apply eqT
      rw [Nat.add_mul]; omega
    · rw [← par]
      apply dn.2
      apply eqT
      rw [Nat.add_mul]; omega

theorem ex_lt {a b : Nat} (h : a < b) (hb : b < 9218868437227405312) : valD (ex64D a) < valD (ex64D b) := by
  have hT := T0_pos
  rw [val_ex (by omega), val_ex hb]
  have := fAmt_lt h
  exact Nat.mul_lt_mul_of_pos_right (by omega) hT

end Go.Proofs.YtlhekeifffofjaaGreatDoor

namespace Go.Proofs.YtlhekeifffofjaaGreatDoor

theorem Tn_powN (k : Nat) : Tn (-151 + (k : Int)) = 2 ^ k * Tn (-151) := by
  induction k with
  | zero => simp
  | succ k ih =>
    rw [show -151 + ((k + 1 : Nat) : Int) = -151 + (k : Int) + 1 by omega, Tn_succ (by omega), ih, Nat.pow_succ, ← Nat.mul_assoc, Nat.mul_comm 2]

def T0N : Nat := Tn (-151)
theorem T0_posN : 0 < T0N := Nat.mul_pos (p2N_pos _) (Nat.pow_pos (by omega))

/-- A float's amount in units of 2^-149. -/
def fAmtN (a : Nat) : Nat := fNum 23 (a / 2 ^ 23) (a % 2 ^ 23) * 2 ^ (a / 2 ^ 23 - 1)

theorem fPow_natN (x : Nat) : fPow 149 x = -151 + ((x - 1 + 2 : Nat) : Int) := by
  unfold fPow; split <;> omega

theorem fAmt_succN (a : Nat) : fAmtN (a + 1) = fAmtN a + 2 ^ (a / 2 ^ 23 - 1) := by
  have e1 : (2 : Nat) ^ 23 = 8388608 := by decide
  unfold fAmtN fNum
  rw [e1]
  by_cases h : a % 8388608 + 1 < 8388608
  · have h1 : (a + 1) / 8388608 = a / 8388608 := by omega
    have h2 : (a + 1) % 8388608 = a % 8388608 + 1 := by omega
    rw [h1, h2]
    split
    · rw [Nat.add_mul, Nat.one_mul]
    · rw [← Nat.add_assoc, Nat.add_mul _ 1, Nat.one_mul]
  · have h1 : (a + 1) / 8388608 = a / 8388608 + 1 := by omega
    have h2 : (a + 1) % 8388608 = 0 := by omega
    have h3 : a % 8388608 = 8388607 := by omega
    rw [h1, h2, h3, if_neg (by omega), Nat.add_sub_cancel, Nat.add_zero]
    by_cases h0 : a / 8388608 = 0
    · rw [h0]; simp
    · rw [if_neg h0]
      obtain ⟨i, hi⟩ : ∃ i, a / 8388608 = i + 1 := ⟨a / 8388608 - 1, by omega⟩
      rw [hi, Nat.add_sub_cancel, Nat.pow_succ]
      omega

theorem fAmt_monoN {a b : Nat} (h : a ≤ b) : fAmtN a ≤ fAmtN b := by
  induction b with
  | zero => rw [show a = 0 by omega]; exact Nat.le_refl _
  | succ b ih =>
    by_cases e : a = b + 1
    · rw [e]; exact Nat.le_refl _
    · have := ih (by omega)
      rw [fAmt_succN]; exact Nat.le_trans this (Nat.le_add_right _ _)

theorem fAmt_ltN {a b : Nat} (h : a < b) : fAmtN a < fAmtN b := by
  have h1 := fAmt_monoN (show a + 1 ≤ b from h)
  have h2 := fAmt_succN a
  have h3 : 0 < 2 ^ (a / 2 ^ 23 - 1) := Nat.pow_pos (by omega)
  omega

/-- The fields of a float that is not below 0 and finite. -/
theorem pos_fieldsN {a : Nat} (h : a < 2139095040) : a / 2 ^ 23 % 2 ^ 8 = a / 2 ^ 23 ∧ a / 2 ^ 23 < 255 ∧ a / 2 ^ 23 / 2 ^ 8 = 0 := by
  have e1 : (2 : Nat) ^ 23 = 8388608 := by decide
  have e2 : (2 : Nat) ^ 8 = 256 := by decide
  rw [e1, e2]; omega

theorem pos_decN {a : Nat} (h : a < 2139095040) (h0 : a ≠ 0) (tell : Nat → Nat → Nat × Int) : decOf 23 8 tell a = decA false (tell (a / 2 ^ 23) (a % 2 ^ 23)).1 (tell (a / 2 ^ 23) (a % 2 ^ 23)).2 := by
  have e1 : (2 : Nat) ^ 23 = 8388608 := by decide
  obtain ⟨g1, g2, g3⟩ := pos_fieldsN h
  unfold decOf
  rw [g1, g3, if_neg (by rw [show (2 : Nat) ^ 8 = 256 by decide]; omega), if_neg (by rw [e1]; omega)]
  rfl

theorem zero_decN (tell : Nat → Nat → Nat × Int) : decOf 23 8 tell 0 = ⟨0, false, [], 0⟩ := by
  unfold decOf
  rw [if_neg (by decide), if_pos (by decide)]
  rfl

theorem fNum_posN {a : Nat} (h0 : a ≠ 0) : fNum 23 (a / 2 ^ 23) (a % 2 ^ 23) ≠ 0 := by
  have e1 : (2 : Nat) ^ 23 = 8388608 := by decide
  unfold fNum
  rw [e1]
  split <;> omega

theorem fPow_boundsN {a : Nat} (h : a < 2139095040) : -149 ≤ fPow 149 (a / 2 ^ 23) ∧ fPow 149 (a / 2 ^ 23) ≤ 104 := by
  have := (pos_fieldsN h).2.1
  unfold fPow; split <;> omega

theorem val_exN {a : Nat} (h : a < 2139095040) : valD (ex32D a) = 4 * fAmtN a * T0N := by
  by_cases h0 : a = 0
  · subst h0
    have : fAmtN 0 = 0 := by decide +kernel
    rw [valD_nil (by rw [show ex32D 0 = _ from zero_decN _]), this, Nat.mul_zero, Nat.zero_mul]
  · have hb := fPow_boundsN h
    have hp := p2N_pos (fPow 149 (a / 2 ^ 23))
    have hE : -1100 ≤ p2E (fPow 149 (a / 2 ^ 23)) := by unfold p2E; split <;> omega
    rw [show ex32D a = _ from pos_decN h h0 _, val_decA false (N := (allD 23 149 (a / 2 ^ 23) (a % 2 ^ 23)).1) (e := (allD 23 149 (a / 2 ^ 23) (a % 2 ^ 23)).2) (Nat.mul_ne_zero (fNum_posN h0) (by omega)) hE]
    show fNum 23 (a / 2 ^ 23) (a % 2 ^ 23) * p2N (fPow 149 (a / 2 ^ 23)) * 10 ^ (p2E (fPow 149 (a / 2 ^ 23)) + 1100).toNat = _
    rw [Nat.mul_assoc]
    show fNum 23 (a / 2 ^ 23) (a % 2 ^ 23) * Tn (fPow 149 (a / 2 ^ 23)) = _
    rw [fPow_natN, Tn_powN, Nat.pow_add]
    unfold fAmtN T0N
    rw [show (2 : Nat) ^ 2 = 4 by decide]
    generalize fNum 23 (a / 2 ^ 23) (a % 2 ^ 23) = A
    generalize 2 ^ (a / 2 ^ 23 - 1) = B
    simp only [Nat.mul_comm, Nat.mul_assoc]

/-- The fewest digits lie from midway below to midway above, and at an end only of an even float. -/
theorem val_ofN {a : Nat} (h : a < 2139095040) :
    (2 * valD (of32D a) ≤ (4 * fAmtN a + 4 * fAmtN (a + 1)) * T0N ∧ (2 * valD (of32D a) = (4 * fAmtN a + 4 * fAmtN (a + 1)) * T0N → a % 2 = 0)) ∧
    (a ≠ 0 → (4 * fAmtN (a - 1) + 4 * fAmtN a) * T0N ≤ 2 * valD (of32D a) ∧ ((4 * fAmtN (a - 1) + 4 * fAmtN a) * T0N = 2 * valD (of32D a) → a % 2 = 0)) := by
  obtain ⟨T, hTe⟩ : ∃ T, T = T0N := ⟨_, rfl⟩
  have hT : 0 < T := by rw [hTe]; exact T0_posN
  rw [← hTe]
  by_cases h0 : a = 0
  · subst h0
    have hz : valD (of32D 0) = 0 := valD_nil (by rw [show of32D 0 = _ from zero_decN _])
    rw [hz]
    exact ⟨⟨by omega, fun _ => rfl⟩, fun e => absurd rfl e⟩
  · have e1 : (2 : Nat) ^ 23 = 8388608 := by decide
    have hb := fPow_boundsN h
    obtain ⟨x, hx⟩ : ∃ x, x = a / 2 ^ 23 := ⟨_, rfl⟩
    obtain ⟨m, hm⟩ : ∃ m, m = a % 2 ^ 23 := ⟨_, rfl⟩
    have hm2 : m < 2 ^ 23 := by rw [hm]; exact Nat.mod_lt _ (by omega)
    have hnum := fNum_posN h0
    have hs := fAmt_succN a
    have hs' := fAmt_succN (a - 1)
    rw [show a - 1 + 1 = a by omega] at hs'
    have hdec := pos_decN h h0 (fewD 23 149)
    have hAm : fAmtN a = fNum 23 x m * 2 ^ (x - 1) := by rw [hx, hm]; rfl
    rw [← hx] at hb hs hdec hnum
    rw [← hm] at hdec hnum
    have g := nearOf_good (F := 23) (B := 149) (x := x) (m := m) (by omega) hm2
    have ha0 : (nearOf 23 149 x m).amt ≠ 0 := by
      have := p2N_pos (fPow 149 x - 2)
      exact Nat.mul_ne_zero (by omega) (by omega)
    rcases hf : fewN (nearOf 23 149 x m) (sizeN (nearOf 23 149 x m).amt) with ⟨v, p⟩
    obtain ⟨b1, b2, b3, b4, b5, _, _⟩ := few_bound g ha0 hf
    have near := pick_near b4
    have hclo : ∀ {d far : Nat}, heldN (nearOf 23 149 x m).clo d far = true → d = far → m % 2 = 0 := by
      intro d far hh e
      subst e
      unfold heldN at hh
      simp at hh
      simpa [nearOf] using hh
    -- at an end only if the ends belong to it
    have tie : (v * 10 ^ p ≤ (nearOf 23 149 x m).amt ∧ (nearOf 23 149 x m).amt - v * 10 ^ p = (nearOf 23 149 x m).lo → m % 2 = 0) ∧ ((nearOf 23 149 x m).amt ≤ v * 10 ^ p ∧ v * 10 ^ p - (nearOf 23 149 x m).amt = (nearOf 23 149 x m).hi → m % 2 = 0) := by
      have hp : 0 < 10 ^ p := Nat.pow_pos (by omega)
      have hdm := Nat.div_add_mod (nearOf 23 149 x m).amt (10 ^ p)
      have hlt := Nat.mod_lt (nearOf 23 149 x m).amt hp
      have hlo := g.pos
      have hhi := g.le
      unfold pickAt pickN at b4
      split at b4
      · next hc =>
        obtain rfl : (nearOf 23 149 x m).amt / 10 ^ p = v := by simpa using b4
        rw [Nat.mul_comm ((nearOf 23 149 x m).amt / 10 ^ p)]
        refine ⟨fun e => hclo hc.1 (by omega), fun e => ?_⟩
        exfalso; omega
      · split at b4
        · next hc =>
          obtain rfl : (nearOf 23 149 x m).amt / 10 ^ p + 1 = v := by simpa using b4
          rw [Nat.add_mul, Nat.one_mul, Nat.mul_comm ((nearOf 23 149 x m).amt / 10 ^ p)]
          refine ⟨fun e => ?_, fun e => hclo hc (by omega)⟩
          exfalso; omega
        · cases b4
    have par : m % 2 = a % 2 := by rw [hm, e1]; omega
    have e : fewD 23 149 x m = (v, p2E (fPow 149 x - 2) + (p : Nat)) := by unfold fewD; rw [hf]
    have hE : -1100 ≤ p2E (fPow 149 x - 2) := by unfold p2E; split <;> omega
    obtain ⟨t, ht⟩ : ∃ t, t = 10 ^ (p2E (fPow 149 x - 2) + 1100).toNat := ⟨_, rfl⟩
    have ht0 : 0 < t := by rw [ht]; exact Nat.pow_pos (by omega)
    have hval : valD (of32D a) = v * 10 ^ p * t := by
      rw [show of32D a = _ from hdec, e, val_decA false (by omega) (by omega), ht, Nat.mul_assoc, ← Nat.pow_add]
      congr 2
      omega
    -- the quarter, in these units
    have hq : p2N (fPow 149 x - 2) * t = 2 ^ (x - 1) * T := by
      have h1 : Tn (fPow 149 x - 2) = 2 ^ (x - 1) * Tn (-151) := by rw [← Tn_powN]; congr 1; have := fPow_natN x; omega
      rw [ht, hTe]; exact h1
    obtain ⟨Q, hQ⟩ : ∃ Q, Q = 2 ^ (x - 1) := ⟨_, rfl⟩
    rw [← hQ] at hs hAm hq
    have A1 : (nearOf 23 149 x m).amt * t = 4 * fAmtN a * T := by
      show p2N (fPow 149 x - 2) * (fNum 23 x m * 4) * t = _
      rw [Nat.mul_right_comm, hq, hAm]
      simp only [Nat.mul_comm, Nat.mul_left_comm, Nat.mul_assoc]
    have H1 : (nearOf 23 149 x m).hi * t = 2 * Q * T := by
      show p2N (fPow 149 x - 2) * 2 * t = _
      rw [Nat.mul_right_comm, hq]
      simp only [Nat.mul_comm, Nat.mul_assoc]
    -- the step down
    have L1 : 2 * ((nearOf 23 149 x m).lo * t) = 4 * 2 ^ ((a - 1) / 2 ^ 23 - 1) * T := by
      show 2 * ((if m = 0 ∧ 1 < x then p2N (fPow 149 x - 2) else p2N (fPow 149 x - 2) * 2) * t) = _
      by_cases hc : m = 0 ∧ 1 < x
      · rw [if_pos hc, hq, hQ]
        have h1 : (a - 1) / 2 ^ 23 = x - 1 := by rw [e1] at *; omega
        rw [h1]
        obtain ⟨i, hi⟩ : ∃ i, x = i + 2 := ⟨x - 2, by omega⟩
        rw [hi, show i + 2 - 1 = i + 1 by omega, show i + 1 - 1 = i by omega, Nat.pow_succ]
        generalize 2 ^ i = R
        have i1 : R * 2 * T = 2 * (R * T) := by rw [Nat.mul_comm R 2, Nat.mul_assoc]
        have i2 : 4 * R * T = 4 * (R * T) := Nat.mul_assoc _ _ _
        omega
      · rw [if_neg hc, Nat.mul_right_comm, hq, hQ]
        have h1 : (a - 1) / 2 ^ 23 - 1 = x - 1 := by rw [e1] at *; omega
        rw [h1, Nat.mul_assoc 4]
        generalize 2 ^ (x - 1) * T = R
        omega
    obtain ⟨q', hq'⟩ : ∃ q', q' = 2 ^ ((a - 1) / 2 ^ 23 - 1) := ⟨_, rfl⟩
    rw [← hq'] at hs' L1
    obtain ⟨V, hV⟩ : ∃ V, V = v * 10 ^ p := ⟨_, rfl⟩
    rw [← hV] at near tie hval
    obtain ⟨n, hn⟩ : ∃ n, n = nearOf 23 149 x m := ⟨_, rfl⟩
    rw [← hn] at near tie A1 H1 L1
    -- multiplied out
    have s1 : (4 * fAmtN a + 4 * fAmtN (a + 1)) * T = 2 * (n.amt * t) + 2 * (n.hi * t) := by
      rw [hs, A1, H1, Nat.mul_add 4, Nat.add_mul, Nat.add_mul]
      generalize fAmtN a = X
      have i1 : 2 * Q * T = 2 * (Q * T) := Nat.mul_assoc _ _ _
      have i2 : 4 * Q * T = 4 * (Q * T) := Nat.mul_assoc _ _ _
      omega
    have s2 : (4 * fAmtN (a - 1) + 4 * fAmtN a) * T + 2 * (n.lo * t) = 2 * (n.amt * t) := by
      rw [L1, A1, hs', Nat.mul_add 4, Nat.add_mul, Nat.add_mul]
      generalize fAmtN (a - 1) = X
      omega
    rw [hval, s1]
    have cmpT : ∀ y z : Nat, y ≤ z ↔ y * t ≤ z * t := fun y z => ⟨fun hh => Nat.mul_le_mul_right _ hh, fun hh => Nat.le_of_mul_le_mul_right hh ht0⟩
    have eqT : ∀ y z : Nat, y * t = z * t → y = z := fun y z hh => Nat.eq_of_mul_eq_mul_right ht0 hh
    have up : V ≤ n.amt + n.hi ∧ (V = n.amt + n.hi → m % 2 = 0) := by
      refine ⟨by omega, fun hh => ?_⟩
      exact tie.2 ⟨by omega, by omega⟩
    have dn : n.amt ≤ V + n.lo ∧ (n.amt = V + n.lo → m % 2 = 0) := by
      refine ⟨by omega, fun hh => ?_⟩
      exact tie.1 ⟨by omega, by omega⟩
    have u1 := (cmpT _ _).1 up.1
    have u2 := (cmpT _ _).1 dn.1
    rw [Nat.add_mul] at u1 u2
    refine ⟨⟨by omega, fun hh => ?_⟩, fun _ => ⟨by omega, fun hh => ?_⟩⟩
    · rw [← par]
      apply up.2
      apply eqT
      rw [Nat.add_mul]; omega
    · rw [← par]
      apply dn.2
      apply eqT
      rw [Nat.add_mul]; omega

end Go.Proofs.YtlhekeifffofjaaGreatDoor

namespace Go.Proofs.YtlhekeifffofjaaGreatDoor

/-- A float's amount, in steps of the least one. -/
def fA (F a : Nat) : Nat := fNum F (a / 2 ^ F) (a % 2 ^ F) * 2 ^ (a / 2 ^ F - 1)

theorem fA_at {F x m : Nat} (hm : m < 2 ^ F) : fA F (x * 2 ^ F + m) = fNum F x m * 2 ^ (x - 1) := by
  have hK : 0 < 2 ^ F := Nat.pow_pos (by omega)
  have h1 : (x * 2 ^ F + m) / 2 ^ F = x := by
    rw [Nat.mul_comm, Nat.mul_add_div hK, Nat.div_eq_of_lt hm, Nat.add_zero]
  have h2 : (x * 2 ^ F + m) % 2 ^ F = m := by
    rw [Nat.mul_comm, Nat.mul_add_mod, Nat.mod_eq_of_lt hm]
  unfold fA; rw [h1, h2]

theorem split_at (F a : Nat) : ∃ x m, m < 2 ^ F ∧ a = x * 2 ^ F + m ∧ a / 2 ^ F = x :=
  ⟨a / 2 ^ F, a % 2 ^ F, Nat.mod_lt _ (Nat.pow_pos (by omega)), by have := Nat.div_add_mod a (2 ^ F); rw [Nat.mul_comm] at this; exact this.symm, rfl⟩

theorem fA_succ (F a : Nat) : fA F (a + 1) = fA F a + 2 ^ (a / 2 ^ F - 1) := by
  obtain ⟨x, m, hm, ha, hx⟩ := split_at F a
  rw [hx, ha, fA_at hm]
  by_cases h : m + 1 < 2 ^ F
  · rw [Nat.add_assoc, fA_at h]
    unfold fNum
    split
    · rw [Nat.add_mul, Nat.one_mul]
    · rw [← Nat.add_assoc, Nat.add_mul _ 1, Nat.one_mul]
  · have e : x * 2 ^ F + m + 1 = (x + 1) * 2 ^ F + 0 := by rw [Nat.add_mul, Nat.one_mul]; omega
    rw [e, fA_at (by omega)]
    unfold fNum
    rw [if_neg (by omega), Nat.add_zero, Nat.add_sub_cancel]
    by_cases h0 : x = 0
    · subst h0
      rw [if_pos rfl]; simp; omega
    · rw [if_neg h0]
      obtain ⟨i, rfl⟩ : ∃ i, x = i + 1 := ⟨x - 1, by omega⟩
      rw [Nat.add_sub_cancel, Nat.pow_succ, show 2 ^ F + m = 2 * 2 ^ F - 1 by omega, Nat.sub_mul, Nat.one_mul]
      have : 0 < 2 ^ F * 2 ^ i := Nat.mul_pos (Nat.pow_pos (by omega)) (Nat.pow_pos (by omega))
      have h2 : 2 ^ i ≤ 2 * 2 ^ F * 2 ^ i := Nat.le_mul_of_pos_left _ (by omega)
      rw [Nat.sub_add_cancel h2, ← Nat.mul_assoc, Nat.mul_comm (2 ^ F * 2 ^ i) 2, Nat.mul_assoc]

theorem fA_mono {F a b : Nat} (h : a ≤ b) : fA F a ≤ fA F b := by
  induction b with
  | zero => rw [show a = 0 by omega]; exact Nat.le_refl _
  | succ b ih =>
    by_cases e : a = b + 1
    · rw [e]; exact Nat.le_refl _
    · have := ih (by omega)
      rw [fA_succ]; exact Nat.le_trans this (Nat.le_add_right _ _)

theorem fA_lt {F a b : Nat} (h : a < b) : fA F a < fA F b := by
  have h1 := fA_mono (F := F) (show a + 1 ≤ b from h)
  have h2 := fA_succ F a
  have h3 : 0 < 2 ^ (a / 2 ^ F - 1) := Nat.pow_pos (by omega)
  omega

/-- The amount p/q, in steps of the least float, is nearest to the float b, of those up to I; midway it is the even one's. -/
structure Lies (F I b p q : Nat) : Prop where
  le : b ≤ I
  lo : b ≠ 0 → (fA F (b - 1) + fA F b) * q ≤ 2 * p ∧ ((fA F (b - 1) + fA F b) * q = 2 * p → b % 2 = 0)
  hi : b ≠ I → 2 * p ≤ (fA F b + fA F (b + 1)) * q ∧ (2 * p = (fA F b + fA F (b + 1)) * q → b % 2 = 0)

theorem Lies.mono {F I b p q b' p' q' : Nat} (h : Lies F I b p q) (h' : Lies F I b' p' q') (hq : 0 < q) (hq' : 0 < q') (hpq : p * q' ≤ p' * q) : b ≤ b' := by
  rcases Nat.lt_or_ge b' b with hlt | hge
  · exfalso
    obtain ⟨l1, l2⟩ := h.lo (by omega)
    have := h.le
    obtain ⟨u1, u2⟩ := h'.hi (by omega)
    have m1 := fA_mono (F := F) (show b' ≤ b - 1 by omega)
    have m2 := fA_mono (F := F) (show b' + 1 ≤ b by omega)
    have a1 := Nat.mul_le_mul_right q' l1
    have a2 := Nat.mul_le_mul_right q u1
    have a3 : (fA F b' + fA F (b' + 1)) * (q * q') ≤ (fA F (b - 1) + fA F b) * (q * q') := Nat.mul_le_mul_right _ (by omega)
    have e1 : (fA F (b - 1) + fA F b) * q * q' = (fA F (b - 1) + fA F b) * (q * q') := Nat.mul_assoc _ _ _
    have e2 : (fA F b' + fA F (b' + 1)) * q' * q = (fA F b' + fA F (b' + 1)) * (q * q') := by rw [Nat.mul_assoc, Nat.mul_comm q' q]
    have e3 : 2 * p * q' = 2 * (p * q') := Nat.mul_assoc _ _ _
    have e4 : 2 * p' * q = 2 * (p' * q) := Nat.mul_assoc _ _ _
    have hqq : 0 < q * q' := Nat.mul_pos hq hq'
    have s := Nat.eq_of_mul_eq_mul_right hqq (show (fA F b' + fA F (b' + 1)) * (q * q') = (fA F (b - 1) + fA F b) * (q * q') by omega)
    have hb : b = b' + 1 := by
      rcases Nat.lt_or_ge (b' + 1) b with h3 | h3
      · have := fA_lt (F := F) h3; omega
      · omega
    have p1 := l2 (Nat.eq_of_mul_eq_mul_right hq' (by omega))
    have p2 := u2 (Nat.eq_of_mul_eq_mul_right hq (by omega))
    omega
  · exact hge

theorem Lies.uniq {F I b p q b' p' q' : Nat} (h : Lies F I b p q) (h' : Lies F I b' p' q') (hq : 0 < q) (hq' : 0 < q') (hpq : p * q' = p' * q) : b = b' :=
  Nat.le_antisymm (h.mono h' hq hq' (by omega)) (h'.mono h hq' hq (by omega))

/-- To the nearest whole number, of two as near the even one. -/
def rne (p q : Nat) : Nat := if q < 2 * (p % q) ∨ (2 * (p % q) = q ∧ p / q % 2 = 1) then p / q + 1 else p / q

theorem rne_spec {p q : Nat} (hq : 0 < q) : 2 * (rne p q * q) ≤ 2 * p + q ∧ (2 * (rne p q * q) = 2 * p + q → rne p q % 2 = 0) ∧ 2 * p ≤ 2 * (rne p q * q) + q ∧ (2 * p = 2 * (rne p q * q) + q → rne p q % 2 = 0) := by
  have h1 := Nat.div_add_mod p q
  have h2 := Nat.mod_lt p hq
  unfold rne
  split
  · next h =>
    rw [Nat.add_mul, Nat.one_mul, Nat.mul_comm (p / q) q]
    generalize q * (p / q) = z at *
    refine ⟨by omega, fun e => by omega, by omega, fun e => by omega⟩
  · next h =>
    rw [Nat.mul_comm (p / q) q]
    generalize q * (p / q) = z at *
    refine ⟨by omega, fun e => by omega, by omega, fun e => by omega⟩

theorem rne_scale {p q k : Nat} (hk : 0 < k) : rne (p * k) (q * k) = rne p q := by
  unfold rne
  rw [Nat.mul_div_mul_right _ _ hk, Nat.mul_mod_mul_right, ← Nat.mul_assoc]
  have h1 : (q * k < 2 * (p % q) * k) ↔ (q < 2 * (p % q)) := Nat.mul_lt_mul_right hk
  have h2 : (2 * (p % q) * k = q * k) ↔ (2 * (p % q) = q) := ⟨fun h => Nat.eq_of_mul_eq_mul_right hk h, fun h => by rw [h]⟩
  simp only [h1, h2]

/-- Only the ratio counts. -/
theorem rne_ratio {p q p' q' : Nat} (hq : 0 < q) (hq' : 0 < q') (h : p * q' = p' * q) : rne p q = rne p' q' := by
  rw [← rne_scale hq', h, Nat.mul_comm q q', rne_scale hq]

theorem rne_le {p q N : Nat} (hq : 0 < q) (h : p ≤ N * q) : rne p q ≤ N := by
  have s := (rne_spec (p := p) hq)
  rcases Nat.lt_or_ge N (rne p q) with hlt | hge
  · exfalso
    have a1 := Nat.mul_le_mul_right q (show N + 1 ≤ rne p q from hlt)
    rw [Nat.add_mul, Nat.one_mul] at a1
    omega
  · exact hge

theorem rne_ge {p q N : Nat} (hq : 0 < q) (h : 2 * (N * q) < 2 * p + q) : N ≤ rne p q := by
  have s := (rne_spec (p := p) hq)
  rcases Nat.lt_or_ge (rne p q) N with hlt | hge
  · exfalso
    have a1 := Nat.mul_le_mul_right q (show rne p q + 1 ≤ N from hlt)
    rw [Nat.add_mul, Nat.one_mul] at a1
    omega
  · exact hge

theorem fA_join {F s N : Nat} (h : N ≤ 2 * 2 ^ F) (hs : s ≠ 0 → 2 ^ F ≤ N) : fA F (s * 2 ^ F + N) = N * 2 ^ s := by
  have hK : 0 < 2 ^ F := Nat.pow_pos (by omega)
  by_cases h1 : N < 2 ^ F
  · have : s = 0 := by
      rcases Nat.eq_zero_or_pos s with e | e
      · exact e
      · have := hs (by omega); omega
    subst this
    rw [fA_at h1]; unfold fNum; rw [if_pos rfl]
  · by_cases h2 : N < 2 * 2 ^ F
    · rw [show s * 2 ^ F + N = (s + 1) * 2 ^ F + (N - 2 ^ F) by rw [Nat.add_mul, Nat.one_mul]; omega, fA_at (by omega)]
      unfold fNum
      rw [if_neg (by omega), Nat.add_sub_cancel, show 2 ^ F + (N - 2 ^ F) = N by omega]
    · obtain rfl : N = 2 * 2 ^ F := by omega
      rw [show s * 2 ^ F + 2 * 2 ^ F = (s + 2) * 2 ^ F + 0 by rw [Nat.add_mul]; rfl, fA_at hK]
      unfold fNum
      rw [if_neg (by omega), show s + 2 - 1 = s + 1 by omega, Nat.pow_succ, Nat.add_zero, Nat.mul_comm 2, Nat.mul_assoc, Nat.mul_comm 2]

theorem even_join {F s N : Nat} (hF : 1 ≤ F) : (s * 2 ^ F + N) % 2 = N % 2 := by
  obtain ⟨i, rfl⟩ : ∃ i, F = i + 1 := ⟨F - 1, by omega⟩
  rw [Nat.pow_succ, ← Nat.mul_assoc]; omega

/-- What is rounded in steps of 2^s, and joined, is the nearest float. -/
theorem lies_join {F I s N p q : Nat} (hF : 1 ≤ F) (hI : I % 2 = 0) (_hq : 0 < q) (h : N ≤ 2 * 2 ^ F) (hs : s ≠ 0 → 2 ^ F ≤ N)
    (r1 : 2 * (N * (q * 2 ^ s)) ≤ 2 * p + q * 2 ^ s) (r2 : 2 * (N * (q * 2 ^ s)) = 2 * p + q * 2 ^ s → N % 2 = 0) (r3 : 2 * p ≤ 2 * (N * (q * 2 ^ s)) + q * 2 ^ s) (r4 : 2 * p = 2 * (N * (q * 2 ^ s)) + q * 2 ^ s → N % 2 = 0)
    (low : s ≠ 0 → N = 2 ^ F → 4 * (N * (q * 2 ^ s)) ≤ 4 * p + q * 2 ^ s) : Lies F I (min (s * 2 ^ F + N) I) p q := by
  have hK : 0 < 2 ^ F := Nat.pow_pos (by omega)
  have hpar := even_join (F := F) (s := s) (N := N) hF
  have hA := fA_join h hs
  have hup := fA_succ F (s * 2 ^ F + N)
  obtain ⟨b, hb⟩ : ∃ b, b = s * 2 ^ F + N := ⟨_, rfl⟩
  have hS : 0 < 2 ^ s := Nat.pow_pos (by omega)
  have eA : fA F b * q = N * (q * 2 ^ s) := by rw [hb, hA, Nat.mul_assoc, Nat.mul_comm (2 ^ s)]
  -- the step up
  have stepUp : 2 ^ s ≤ 2 ^ (b / 2 ^ F - 1) ∧ (N < 2 * 2 ^ F → 2 ^ (b / 2 ^ F - 1) = 2 ^ s) := by
    have hd : b / 2 ^ F = s + N / 2 ^ F := by rw [hb, Nat.mul_comm, Nat.mul_add_div hK]
    by_cases h1 : N < 2 ^ F
    · have h0 : s = 0 := by
        rcases Nat.eq_zero_or_pos s with e | e
        · exact e
        · have := hs (by omega); omega
      rw [hd, Nat.div_eq_of_lt h1, h0]; simp
    · by_cases h2 : N < 2 * 2 ^ F
      · have : N / 2 ^ F = 1 := Nat.div_eq_of_lt_le (by omega) (by omega)
        rw [hd, this]; exact ⟨Nat.le_refl _, fun _ => rfl⟩
      · have : N / 2 ^ F = 2 := Nat.div_eq_of_lt_le (by omega) (by omega)
        rw [hd, this]
        exact ⟨Nat.pow_le_pow_right (by omega) (by omega), fun e => absurd e h2⟩
  rw [← hb] at hup hpar ⊢
  have upper : 2 * p ≤ (fA F b + fA F (b + 1)) * q ∧ (2 * p = (fA F b + fA F (b + 1)) * q → b % 2 = 0) := by
    rw [hup, Nat.add_mul, Nat.add_mul, eA]
    have k1 : q * 2 ^ s ≤ 2 ^ (b / 2 ^ F - 1) * q := by rw [Nat.mul_comm q]; exact Nat.mul_le_mul_right _ stepUp.1
    generalize N * (q * 2 ^ s) = z at *
    exact ⟨by omega, fun e => by rw [hpar]; exact r4 (by omega)⟩
  have lower : b ≠ 0 → (fA F (b - 1) + fA F b) * q ≤ 2 * p ∧ ((fA F (b - 1) + fA F b) * q = 2 * p → b % 2 = 0) := by
    intro hb0
    have hdn := fA_succ F (b - 1)
    rw [show b - 1 + 1 = b by omega] at hdn
    by_cases hc : s ≠ 0 ∧ N = 2 ^ F
    · -- a power of 2: the next lesser one is nearer
      obtain ⟨hs0, rfl⟩ := hc
      obtain ⟨i, rfl⟩ : ∃ i, s = i + 1 := ⟨s - 1, by omega⟩
      have hd : (b - 1) / 2 ^ F = i + 1 := by
        rw [hb, show (i + 1) * 2 ^ F + 2 ^ F - 1 = 2 ^ F * (i + 1) + (2 ^ F - 1) by rw [Nat.mul_comm]; omega, Nat.mul_add_div hK, Nat.div_eq_of_lt (by omega), Nat.add_zero]
      rw [hd, Nat.add_sub_cancel] at hdn
      have l := low hs0 rfl
      have e1 : q * 2 ^ (i + 1) = 2 * (2 ^ i * q) := by rw [Nat.pow_succ, Nat.mul_comm q, Nat.mul_comm (2 ^ i) 2, Nat.mul_assoc]
      have e2 : fA F b * q = fA F (b - 1) * q + 2 ^ i * q := by rw [hdn, Nat.add_mul]
      rw [Nat.add_mul]
      have hev : b % 2 = 0 := by
        rw [hpar]
        obtain ⟨j, rfl⟩ : ∃ j, F = j + 1 := ⟨F - 1, by omega⟩
        rw [Nat.pow_succ]; omega
      refine ⟨by omega, fun _ => hev⟩
    · have hd : (b - 1) / 2 ^ F - 1 = s := by
        by_cases h1 : N ≤ 2 ^ F
        · have h0 : s = 0 := by
            rcases Nat.eq_zero_or_pos s with e | e
            · exact e
            · have := hs (by omega)
              exact absurd ⟨by omega, by omega⟩ hc
          subst h0
          rw [hb, Nat.zero_mul, Nat.zero_add, Nat.div_eq_of_lt (by omega)]
        · have : (b - 1) / 2 ^ F = s + 1 := by
            rw [hb, show s * 2 ^ F + N - 1 = 2 ^ F * (s + 1) + (N - 1 - 2 ^ F) by rw [Nat.mul_add, Nat.mul_one, Nat.mul_comm s]; omega, Nat.mul_add_div hK, Nat.div_eq_of_lt (by omega), Nat.add_zero]
          rw [this]; rfl
      rw [hd] at hdn
      have e2 : fA F b * q = fA F (b - 1) * q + q * 2 ^ s := by rw [hdn, Nat.add_mul, Nat.mul_comm q]
      rw [Nat.add_mul]
      generalize N * (q * 2 ^ s) = z at *
      exact ⟨by omega, fun e => by rw [hpar]; exact r2 (by omega)⟩
  rcases Nat.lt_or_ge b I with hI1 | hI1
  · rw [Nat.min_eq_left (by omega)]
    exact ⟨by omega, lower, fun _ => upper⟩
  · rw [Nat.min_eq_right hI1]
    refine ⟨Nat.le_refl _, fun hI0 => ?_, fun e => absurd rfl e⟩
    have m1 := fA_mono (F := F) (show I - 1 ≤ b - 1 by omega)
    have m2 := fA_mono (F := F) hI1
    exact ⟨Nat.le_trans (Nat.mul_le_mul_right _ (by omega)) (lower (by omega)).1, fun _ => hI⟩

end Go.Proofs.YtlhekeifffofjaaGreatDoor

namespace Go.Proofs.YtlhekeifffofjaaGreatDoor

/-- over/under is below 2^e. -/
def LtP (o u : Nat) (e : Int) : Prop := o * 2 ^ (-e).toNat < u * 2 ^ e.toNat

theorem LtP.iff {o u : Nat} {e : Int} {C : Nat} (h : 0 ≤ e + C) : LtP o u e ↔ o * 2 ^ C < u * 2 ^ (e + C).toNat := by
  unfold LtP
  by_cases he : 0 ≤ e
  · obtain ⟨k, rfl⟩ : ∃ k : Nat, e = k := ⟨e.toNat, by omega⟩
    rw [show (-(k : Int)).toNat = 0 by omega, show ((k : Int)).toNat = k by omega, show ((k : Int) + C).toNat = k + C by omega, Nat.pow_zero, Nat.mul_one, Nat.pow_add, ← Nat.mul_assoc]
    exact (Nat.mul_lt_mul_right (Nat.pow_pos (by omega))).symm
  · obtain ⟨k, rfl⟩ : ∃ k : Nat, e = -(k : Int) := ⟨(-e).toNat, by omega⟩
    obtain ⟨j, rfl⟩ : ∃ j, C = k + j := ⟨C - k, by omega⟩
    rw [show (- -(k : Int)).toNat = k by omega, show (-(k : Int)).toNat = 0 by omega, show (-(k : Int) + (k + j : Nat)).toNat = j by omega, Nat.pow_zero, Nat.mul_one, Nat.pow_add, ← Nat.mul_assoc]
    constructor
    · intro hh; exact (Nat.mul_lt_mul_right (Nat.pow_pos (by omega))).2 hh
    · intro hh; exact (Nat.mul_lt_mul_right (Nat.pow_pos (by omega))).1 hh

theorem LtP.up {o u : Nat} {e e' : Int} (h : LtP o u e) (he : e ≤ e') : LtP o u e' := by
  rw [LtP.iff (C := e.natAbs) (by omega)] at h ⊢
  exact Nat.lt_of_lt_of_le h (Nat.mul_le_mul_left _ (Nat.pow_le_pow_right (by omega) (by omega)))

/-- The power of 2 of the highest bit of over/under, as package nearest finds it. -/
def highN (o u : Nat) : Int := if o * 2 ^ (-((bitsN o : Int) - bitsN u)).toNat < u * 2 ^ ((bitsN o : Int) - bitsN u).toNat then (bitsN o : Int) - bitsN u - 1 else (bitsN o : Int) - bitsN u

theorem bits_ltP {o u : Nat} (ho : o ≠ 0) (hu : u ≠ 0) : LtP o u ((bitsN o : Int) - bitsN u + 1) ∧ ¬ LtP o u ((bitsN o : Int) - bitsN u - 1) := by
  obtain ⟨a, ea, a1, a2⟩ := bitsN_spec ho
  obtain ⟨c, ec, c1, c2⟩ := bitsN_spec hu
  rw [ea, ec]
  constructor
  · rw [LtP.iff (C := c) (by omega), show (((a + 1 : Nat) : Int) - ((c + 1 : Nat) : Int) + 1 + c).toNat = a + 1 by omega]
    calc o * 2 ^ c < 2 ^ (a + 1) * 2 ^ c := (Nat.mul_lt_mul_right (Nat.pow_pos (by omega))).2 a2
      _ ≤ u * 2 ^ (a + 1) := by rw [Nat.mul_comm]; exact Nat.mul_le_mul_right _ c1
  · rw [LtP.iff (C := c + 1) (by omega), show (((a + 1 : Nat) : Int) - ((c + 1 : Nat) : Int) - 1 + (c + 1 : Nat)).toNat = a by omega]
    have h1 : u * 2 ^ a < 2 ^ (c + 1) * 2 ^ a := (Nat.mul_lt_mul_right (Nat.pow_pos (by omega))).2 c2
    have h2 : 2 ^ (c + 1) * 2 ^ a ≤ o * 2 ^ (c + 1) := by rw [Nat.mul_comm]; exact Nat.mul_le_mul_right _ a1
    omega

theorem highN_spec {o u : Nat} (ho : o ≠ 0) (hu : u ≠ 0) : LtP o u (highN o u + 1) ∧ ¬ LtP o u (highN o u) := by
  obtain ⟨h1, h2⟩ := bits_ltP ho hu
  unfold highN
  split
  · next h => exact ⟨by rw [Int.sub_add_cancel]; exact h, h2⟩
  · next h => exact ⟨h1, h⟩

/-- The bits that package nearest answers. -/
def powN (F B o u : Nat) : Int := max (highN o u - F) (-(B : Int))
def numN (F B o u : Nat) : Nat := rne (o * 2 ^ (-(powN F B o u)).toNat) (u * 2 ^ (powN F B o u).toNat)
def bitsOf (F B I o u : Nat) : Nat := min ((powN F B o u + B).toNat * 2 ^ F + numN F B o u) I

theorem ratio_at {o u B : Nat} {pw : Int} (h : -(B : Int) ≤ pw) : o * 2 ^ (-pw).toNat * (u * 2 ^ (pw + B).toNat) = o * 2 ^ B * (u * 2 ^ pw.toNat) := by
  have e : 2 ^ (-pw).toNat * 2 ^ (pw + B).toNat = 2 ^ B * 2 ^ pw.toNat := by
    rw [← Nat.pow_add, ← Nat.pow_add]; congr 1; omega
  have : ∀ x y z t : Nat, x * y * (z * t) = x * z * (y * t) := fun x y z t => by
    rw [Nat.mul_assoc, Nat.mul_assoc, Nat.mul_left_comm y]
  rw [this, e, this]

theorem numN_eq {F B o u : Nat} (hu : u ≠ 0) : numN F B o u = rne (o * 2 ^ B) (u * 2 ^ (powN F B o u + B).toNat) :=
  rne_ratio (Nat.mul_pos (by omega) (Nat.pow_pos (by omega))) (Nat.mul_pos (by omega) (Nat.pow_pos (by omega))) (ratio_at (by unfold powN; omega))

/-- Where the number to be rounded lies. -/
theorem numN_bounds {F B o u : Nat} (ho : o ≠ 0) (hu : u ≠ 0) : o * 2 ^ B < u * 2 ^ (powN F B o u + B).toNat * (2 * 2 ^ F) ∧ ((powN F B o u + B).toNat ≠ 0 → u * 2 ^ (powN F B o u + B).toNat * 2 ^ F ≤ o * 2 ^ B) := by
  obtain ⟨h1, h2⟩ := highN_spec ho hu
  have hp : powN F B o u = highN o u - F ∨ (powN F B o u = -(B : Int) ∧ highN o u - F ≤ -(B : Int)) := by unfold powN; omega
  have hb : -(B : Int) ≤ powN F B o u := by unfold powN; omega
  rcases hp with hp | ⟨hp, hh⟩
  · have hC : 0 ≤ highN o u + 1 + B := by omega
    rw [LtP.iff (C := B) hC] at h1
    rw [LtP.iff (C := B) (by omega)] at h2
    have e1 : (highN o u + 1 + B).toNat = (powN F B o u + B).toNat + (1 + F) := by omega
    have e2 : (highN o u + B).toNat = (powN F B o u + B).toNat + F := by omega
    rw [e1, Nat.pow_add, Nat.pow_add 2 1, Nat.pow_one, ← Nat.mul_assoc] at h1
    rw [e2, Nat.pow_add, ← Nat.mul_assoc] at h2
    exact ⟨h1, fun _ => by omega⟩
  · have e : (powN F B o u + B).toNat = 0 := by omega
    rw [e]
    have h3 := h1.up (e' := (F : Int) + 1 - B) (by omega)
    rw [LtP.iff (C := B) (by omega), show ((F : Int) + 1 - B + B).toNat = 1 + F by omega, Nat.pow_add, Nat.pow_one] at h3
    exact ⟨by rw [Nat.pow_zero, Nat.mul_one]; exact h3, fun h => absurd rfl h⟩

theorem numN_le {F B o u : Nat} (ho : o ≠ 0) (hu : u ≠ 0) : numN F B o u ≤ 2 * 2 ^ F ∧ ((powN F B o u + B).toNat ≠ 0 → 2 ^ F ≤ numN F B o u) := by
  obtain ⟨h1, h2⟩ := numN_bounds (F := F) (B := B) ho hu
  have hq : 0 < u * 2 ^ (powN F B o u + B).toNat := Nat.mul_pos (by omega) (Nat.pow_pos (by omega))
  rw [numN_eq hu]
  rw [Nat.mul_comm _ (2 * 2 ^ F)] at h1
  refine ⟨rne_le hq (by omega), fun h => rne_ge hq ?_⟩
  have := h2 h
  rw [Nat.mul_comm _ (2 ^ F)] at this
  omega

theorem bitsOf_lies {F B I o u : Nat} (hF : 1 ≤ F) (hI : I % 2 = 0) (ho : o ≠ 0) (hu : u ≠ 0) : Lies F I (bitsOf F B I o u) (o * 2 ^ B) u := by
  have hq : 0 < u * 2 ^ (powN F B o u + B).toNat := Nat.mul_pos (by omega) (Nat.pow_pos (by omega))
  obtain ⟨r1, r2, r3, r4⟩ := rne_spec (p := o * 2 ^ B) hq
  obtain ⟨n1, n2⟩ := numN_le (F := F) (B := B) ho hu
  have e := numN_eq (F := F) (B := B) (o := o) hu
  rw [← e] at r1 r2 r3 r4
  unfold bitsOf
  refine lies_join hF hI (by omega) n1 n2 r1 r2 r3 r4 (fun hs hN => ?_)
  have := (numN_bounds (F := F) (B := B) ho hu).2 hs
  rw [hN, Nat.mul_comm (2 ^ F)]
  omega

/-- The reference's rounding of num by den at the exponent e: while it has too many bits the exponent rises. -/
def RInv (F B o u : Nat) (e : Int) : Prop := -(B : Int) ≤ e ∧ (e ≠ -(B : Int) → 4 * (2 ^ F * (u * 2 ^ (e + B).toNat)) ≤ 4 * (o * 2 ^ B) + u * 2 ^ (e + B).toNat)

def rnd (o u : Nat) (e : Int) : Nat := rne (o * 2 ^ (-e).toNat) (u * 2 ^ e.toNat)

theorem rnd_eq {B o u : Nat} {e : Int} (hu : u ≠ 0) (h : -(B : Int) ≤ e) : rnd o u e = rne (o * 2 ^ B) (u * 2 ^ (e + B).toNat) :=
  rne_ratio (Nat.mul_pos (by omega) (Nat.pow_pos (by omega))) (Nat.mul_pos (by omega) (Nat.pow_pos (by omega))) (ratio_at h)

theorem RInv.start {F B o u : Nat} (ho : o ≠ 0) (hu : u ≠ 0) : RInv F B o u (max ((bitsN o : Int) - bitsN u - F - 2) (-(B : Int))) := by
  refine ⟨by omega, fun h => ?_⟩
  obtain ⟨_, h2⟩ := bits_ltP ho hu
  obtain ⟨e, he⟩ : ∃ e, e = max ((bitsN o : Int) - bitsN u - F - 2) (-(B : Int)) := ⟨_, rfl⟩
  rw [← he] at h ⊢
  rw [LtP.iff (C := B) (by omega), show ((bitsN o : Int) - bitsN u - 1 + B).toNat = (e + B).toNat + (1 + F) by omega, Nat.pow_add, Nat.pow_add 2 1, Nat.pow_one, ← Nat.mul_assoc, Nat.mul_comm _ (2 * 2 ^ F), Nat.mul_assoc 2] at h2
  omega

theorem RInv.step {F B o u : Nat} {e : Int} (hu : u ≠ 0) (h : RInv F B o u e) (hm : 2 * 2 ^ F ≤ rnd o u e) : RInv F B o u (e + 1) := by
  refine ⟨by have := h.1; omega, fun _ => ?_⟩
  have hq : 0 < u * 2 ^ (e + B).toNat := Nat.mul_pos (by omega) (Nat.pow_pos (by omega))
  rw [rnd_eq hu h.1] at hm
  obtain ⟨r1, _⟩ := rne_spec (p := o * 2 ^ B) hq
  have h1 := Nat.mul_le_mul_right (u * 2 ^ (e + B).toNat) hm
  have e1 : u * 2 ^ (e + 1 + B).toNat = 2 * (u * 2 ^ (e + B).toNat) := by
    rw [show (e + 1 + B).toNat = (e + B).toNat + 1 by have := h.1; omega, Nat.pow_succ, Nat.mul_comm (2 ^ _) 2, Nat.mul_left_comm]
  rw [e1, Nat.mul_left_comm (2 ^ F) 2]
  rw [Nat.mul_assoc 2] at h1
  omega

theorem RInv.lies {F B I o u : Nat} {e : Int} (hF : 1 ≤ F) (hI : I % 2 = 0) (hu : u ≠ 0) (h : RInv F B o u e) (hm : rnd o u e < 2 * 2 ^ F) : Lies F I (min ((e + B).toNat * 2 ^ F + rnd o u e) I) (o * 2 ^ B) u ∧ ((e + B).toNat ≠ 0 → 2 ^ F ≤ rnd o u e) := by
  have hq : 0 < u * 2 ^ (e + B).toNat := Nat.mul_pos (by omega) (Nat.pow_pos (by omega))
  obtain ⟨r1, r2, r3, r4⟩ := rne_spec (p := o * 2 ^ B) hq
  rw [rnd_eq hu h.1] at hm ⊢
  have hge : (e + B).toNat ≠ 0 → 2 ^ F ≤ rne (o * 2 ^ B) (u * 2 ^ (e + B).toNat) := fun hs => rne_ge hq (by
    have := h.2 (by omega)
    omega)
  exact ⟨lies_join hF hI (by omega) (by omega) hge r1 r2 r3 r4 (fun hs hN => by
    rw [hN]; exact h.2 (by omega)), hge⟩

/-- The reference's exponent has an end. -/
theorem rnd_end {F B o u : Nat} {e : Int} (ho : o ≠ 0) (hu : u ≠ 0) (h : -(B : Int) ≤ e) (he : (bitsN o : Int) - bitsN u + 1 - F ≤ e) : rnd o u e ≤ 2 ^ F := by
  obtain ⟨h1, _⟩ := bits_ltP ho hu
  have hq : 0 < u * 2 ^ (e + B).toNat := Nat.mul_pos (by omega) (Nat.pow_pos (by omega))
  rw [rnd_eq hu h]
  have h3 := h1.up (e' := e + F) (by omega)
  rw [LtP.iff (C := B) (by omega), show (e + F + B).toNat = (e + B).toNat + F by omega, Nat.pow_add, ← Nat.mul_assoc, Nat.mul_comm _ (2 ^ F)] at h3
  exact rne_le hq (by omega)

end Go.Proofs.YtlhekeifffofjaaGreatDoor

namespace Go.Proofs.YtlhekeifffofjaaGreatDoor

/-- An infinity's bits; a sign's. -/
def infN (F X : Nat) : Nat := (2 ^ X - 1) * 2 ^ F
def sigN (F X : Nat) (neg : Bool) : Nat := if neg then 2 ^ (X + F) else 0

theorem inf64 : infN 52 11 = 9218868437227405312 := by decide
theorem inf32 : infN 23 8 = 2139095040 := by decide

/-- A Dec's amount as one number by another. -/
def dOver (d : DecT) : Nat := decV d.dig * 10 ^ d.exp.toNat
def dUnder (d : DecT) : Nat := 10 ^ (-d.exp).toNat

/-- The bits of the nearest float of a Dec that may be. -/
def toD (F X B : Nat) (d : DecT) : Nat :=
  if d.cls = 2 then infN F X + 2 ^ (F - 1) + 1
  else if d.cls = 1 then infN F X + sigN F X d.neg
  else if d.dig = [] then sigN F X d.neg
  else bitsOf F B (infN F X) (dOver d) (dUnder d) + sigN F X d.neg

theorem dUnder_ne (d : DecT) : dUnder d ≠ 0 := by
  have : 0 < 10 ^ (-d.exp).toNat := Nat.pow_pos (by omega)
  unfold dUnder; omega

theorem lies64_of {a : Nat} (h : a < 9218868437227405312) : Lies 52 (infN 52 11) a (valD (of64D a)) (4 * T0) := by
  obtain ⟨⟨u1, u2⟩, l⟩ := val_of h
  have e : ∀ x y : Nat, (4 * x + 4 * y) * T0 = (x + y) * (4 * T0) := fun x y => by rw [← Nat.mul_add, Nat.mul_comm 4 (x + y), Nat.mul_assoc]
  rw [e] at u1 u2
  rw [e] at l
  rw [inf64]
  exact ⟨by omega, fun h0 => l h0, fun _ => ⟨u1, u2⟩⟩

theorem lies64_ex {a : Nat} (h : a < 9218868437227405312) : Lies 52 (infN 52 11) a (valD (ex64D a)) (4 * T0) := by
  rw [val_ex h, inf64, show 4 * fAmt a * T0 = fAmt a * (4 * T0) by rw [Nat.mul_comm 4 (fAmt a), Nat.mul_assoc]]
  have hT : 0 < 4 * T0 := by have := T0_pos; omega
  refine ⟨by omega, fun h0 => ?_, fun _ => ?_⟩
  · have m := fAmt_lt (show a - 1 < a by omega)
    have k := Nat.mul_lt_mul_of_pos_right (show fAmt (a - 1) + fAmt a < 2 * fAmt a by omega) hT
    rw [Nat.mul_assoc] at k
    show (fAmt (a - 1) + fAmt a) * (4 * T0) ≤ _ ∧ ((fAmt (a - 1) + fAmt a) * (4 * T0) = _ → _)
    exact ⟨by omega, fun e => by omega⟩
  · have m := fAmt_lt (show a < a + 1 by omega)
    have k := Nat.mul_lt_mul_of_pos_right (show 2 * fAmt a < fAmt a + fAmt (a + 1) by omega) hT
    rw [Nat.mul_assoc] at k
    show _ ≤ (fAmt a + fAmt (a + 1)) * (4 * T0) ∧ (_ = (fAmt a + fAmt (a + 1)) * (4 * T0) → _)
    exact ⟨by omega, fun e => by omega⟩

theorem lies32_of {a : Nat} (h : a < 2139095040) : Lies 23 (infN 23 8) a (valD (of32D a)) (4 * T0N) := by
  obtain ⟨⟨u1, u2⟩, l⟩ := val_ofN h
  have e : ∀ x y : Nat, (4 * x + 4 * y) * T0N = (x + y) * (4 * T0N) := fun x y => by rw [← Nat.mul_add, Nat.mul_comm 4 (x + y), Nat.mul_assoc]
  rw [e] at u1 u2
  rw [e] at l
  rw [inf32]
  exact ⟨by omega, fun h0 => l h0, fun _ => ⟨u1, u2⟩⟩

theorem lies32_ex {a : Nat} (h : a < 2139095040) : Lies 23 (infN 23 8) a (valD (ex32D a)) (4 * T0N) := by
  rw [val_exN h, inf32, show 4 * fAmtN a * T0N = fAmtN a * (4 * T0N) by rw [Nat.mul_comm 4 (fAmtN a), Nat.mul_assoc]]
  have hT : 0 < 4 * T0N := by have := T0_posN; omega
  refine ⟨by omega, fun h0 => ?_, fun _ => ?_⟩
  · have m := fAmt_ltN (show a - 1 < a by omega)
    have k := Nat.mul_lt_mul_of_pos_right (show fAmtN (a - 1) + fAmtN a < 2 * fAmtN a by omega) hT
    rw [Nat.mul_assoc] at k
    show (fAmtN (a - 1) + fAmtN a) * (4 * T0N) ≤ _ ∧ ((fAmtN (a - 1) + fAmtN a) * (4 * T0N) = _ → _)
    exact ⟨by omega, fun e => by omega⟩
  · have m := fAmt_ltN (show a < a + 1 by omega)
    have k := Nat.mul_lt_mul_of_pos_right (show 2 * fAmtN a < fAmtN a + fAmtN (a + 1) by omega) hT
    rw [Nat.mul_assoc] at k
    show _ ≤ (fAmtN a + fAmtN (a + 1)) * (4 * T0N) ∧ (_ = (fAmtN a + fAmtN (a + 1)) * (4 * T0N) → _)
    exact ⟨by omega, fun e => by omega⟩

theorem t0_ten : powT 2 1074 * (4 * T0) = powT 10 1100 := by decide +kernel
theorem t0_tenN : powT 2 149 * (4 * T0N) = powT 10 1100 := by decide +kernel

theorem dec_ratio {d : DecT} {B T : Nat} (hT : powT 2 B * (4 * T) = powT 10 1100) (h : -1100 ≤ d.exp) : dOver d * 2 ^ B * (4 * T) = valD d * dUnder d := by
  obtain ⟨E, hE⟩ : ∃ E, E = 1100 := ⟨_, rfl⟩
  rw [← hE] at hT
  unfold powT at hT
  unfold dOver dUnder valD
  rw [Nat.mul_assoc, hT, Nat.mul_assoc, Nat.mul_assoc, ← Nat.pow_add, ← Nat.pow_add]
  congr 2
  omega

theorem decA_dig {neg : Bool} {N : Nat} {e : Int} (h : N ≠ 0) : (decA neg N e).dig ≠ [] ∧ dOver (decA neg N e) ≠ 0 ∧ e ≤ (decA neg N e).exp ∧ (decA neg N e).cls = 0 ∧ (decA neg N e).neg = neg := by
  obtain ⟨M, k, h1, h2, h3⟩ := decA_form neg e h
  rw [h3]
  refine ⟨dd_ne M, ?_, by simp only; omega, rfl, rfl⟩
  unfold dOver
  simp only [dd_val]
  exact Nat.mul_ne_zero (by omega) (by have : 0 < 10 ^ (e + k).toNat := Nat.pow_pos (by omega); omega)

/-- The bits of a number's digits, where they lie nearest to a float. -/
theorem toD_decA {F X B T a N : Nat} {e : Int} (neg : Bool) (hF : 1 ≤ F) (hI : infN F X % 2 = 0) (hT : powT 2 B * (4 * T) = powT 10 1100) (hT0 : 0 < T) (hN : N ≠ 0) (he : -1100 ≤ e) (h : Lies F (infN F X) a (valD (decA false N e)) (4 * T)) : toD F X B (decA neg N e) = a + sigN F X neg := by
  obtain ⟨d1, d2, d3, d4, d5⟩ := decA_dig (neg := neg) (e := e) hN
  unfold toD
  rw [if_neg (by omega), if_neg (by omega), if_neg d1, d5]
  congr 1
  have hv : valD (decA neg N e) = valD (decA false N e) := rfl
  rw [← hv] at h
  exact (bitsOf_lies (B := B) hF hI d2 (dUnder_ne _)).uniq h (Nat.pos_of_ne_zero (dUnder_ne _)) (by omega) (dec_ratio hT (by omega))

theorem few_ne {F B x m : Nat} (hF : F ≤ 52) (hm : m < 2 ^ F) (h0 : fNum F x m ≠ 0) : (fewD F B x m).1 ≠ 0 := by
  have g := nearOf_good (F := F) (B := B) (x := x) (m := m) hF hm
  have ha : (nearOf F B x m).amt ≠ 0 := by
    have := p2N_pos (fPow B x - 2)
    exact Nat.mul_ne_zero (by omega) (by omega)
  rcases hf : fewN (nearOf F B x m) (sizeN (nearOf F B x m).amt) with ⟨v, p⟩
  have := (few_bound g ha hf).2.1
  have e : (fewD F B x m).1 = v := by unfold fewD; rw [hf]
  omega

theorem few_exp {F B x m : Nat} (h1 : -1074 ≤ fPow B x) : -1100 ≤ (fewD F B x m).2 := by
  unfold fewD p2E; simp only; split <;> omega

theorem all_ne {F B x m : Nat} (h0 : fNum F x m ≠ 0) : (allD F B x m).1 ≠ 0 := by
  have := p2N_pos (fPow B x)
  exact Nat.mul_ne_zero h0 (by omega)

theorem all_exp {F B x m : Nat} (h1 : -1074 ≤ fPow B x) : -1100 ≤ (allD F B x m).2 := by
  unfold allD p2E; simp only; split <;> omega

/-- What a float's bits are read as: itself, but all NaNs as one. -/
def same64 (b : Nat) : Nat := if 9218868437227405312 < b % 9223372036854775808 then 9221120237041090561 else b
def same32 (b : Nat) : Nat := if 2139095040 < b % 2147483648 then 2143289345 else b

theorem back64 (tell : Nat → Nat → Nat × Int) (lies : ∀ a, a < 9218868437227405312 → a ≠ 0 → Lies 52 (infN 52 11) a (valD (decOf 52 11 tell a)) (4 * T0)) (ne : ∀ a, a < 9218868437227405312 → a ≠ 0 → (tell (a / 2 ^ 52) (a % 2 ^ 52)).1 ≠ 0 ∧ -1100 ≤ (tell (a / 2 ^ 52) (a % 2 ^ 52)).2) (b : Nat) (hb : b < 18446744073709551616) : toD 52 11 1074 (decOf 52 11 tell b) = same64 b := by
  have e1 : (2 : Nat) ^ 52 = 4503599627370496 := by decide
  have e2 : (2 : Nat) ^ 11 = 2048 := by decide
  have hs : ∀ neg : Bool, neg = decide (b / 4503599627370496 / 2048 ≠ 0) → sigN 52 11 neg = b / 9223372036854775808 * 9223372036854775808 := by
    intro neg hn
    unfold sigN
    by_cases hz : b / 4503599627370496 / 2048 = 0
    · rw [hn, decide_eq_false (by omega)]; simp; omega
    · rw [hn, decide_eq_true hz, if_pos rfl, show (2 : Nat) ^ (11 + 52) = 9223372036854775808 by decide]; omega
  unfold same64
  by_cases hx : b / 4503599627370496 % 2048 = 2047
  · by_cases hm : b % 4503599627370496 = 0
    · have hd : decOf 52 11 tell b = ⟨1, decide (b / 4503599627370496 / 2048 ≠ 0), [], 0⟩ := by
        unfold decOf; rw [e1, e2, if_pos hx, if_pos hm]
      rw [hd, if_neg (by omega)]
      unfold toD
      rw [if_neg (by simp), if_pos rfl, inf64, hs _ rfl]
      omega
    · have hd : decOf 52 11 tell b = ⟨2, false, [], 0⟩ := by
        unfold decOf; rw [e1, e2, if_pos hx, if_neg hm]
      rw [hd, if_pos (by omega)]
      unfold toD
      rw [if_pos rfl, inf64]
  · obtain ⟨a, ha⟩ : ∃ a, a = b % 9223372036854775808 := ⟨_, rfl⟩
    have ha2 : a < 9218868437227405312 := by omega
    rw [if_neg (by omega)]
    by_cases h0 : a = 0
    · have hd : decOf 52 11 tell b = ⟨0, decide (b / 4503599627370496 / 2048 ≠ 0), [], 0⟩ := by
        unfold decOf; rw [e1, e2, if_neg (by omega), if_pos (by omega)]
      rw [hd]
      unfold toD
      rw [if_neg (by simp), if_neg (by simp), if_pos rfl, hs _ rfl]
      omega
    · have hd : decOf 52 11 tell b = decA (decide (b / 4503599627370496 / 2048 ≠ 0)) (tell (a / 2 ^ 52) (a % 2 ^ 52)).1 (tell (a / 2 ^ 52) (a % 2 ^ 52)).2 := by
        unfold decOf
        rw [e1, e2, if_neg (by omega), if_neg (by omega), show b / 4503599627370496 % 2048 = a / 4503599627370496 by omega, show b % 4503599627370496 = a % 4503599627370496 by omega]
      have hl := lies a ha2 h0
      rw [pos_dec ha2 h0 tell] at hl
      obtain ⟨n1, n2⟩ := ne a ha2 h0
      rw [hd, toD_decA _ (by omega) (by rw [inf64]) t0_ten T0_pos n1 n2 hl, hs _ rfl]
      omega

theorem back32 (tell : Nat → Nat → Nat × Int) (lies : ∀ a, a < 2139095040 → a ≠ 0 → Lies 23 (infN 23 8) a (valD (decOf 23 8 tell a)) (4 * T0N)) (ne : ∀ a, a < 2139095040 → a ≠ 0 → (tell (a / 2 ^ 23) (a % 2 ^ 23)).1 ≠ 0 ∧ -1100 ≤ (tell (a / 2 ^ 23) (a % 2 ^ 23)).2) (b : Nat) (hb : b < 4294967296) : toD 23 8 149 (decOf 23 8 tell b) = same32 b := by
  have e1 : (2 : Nat) ^ 23 = 8388608 := by decide
  have e2 : (2 : Nat) ^ 8 = 256 := by decide
  have hs : ∀ neg : Bool, neg = decide (b / 8388608 / 256 ≠ 0) → sigN 23 8 neg = b / 2147483648 * 2147483648 := by
    intro neg hn
    unfold sigN
    by_cases hz : b / 8388608 / 256 = 0
    · rw [hn, decide_eq_false (by omega)]; simp; omega
    · rw [hn, decide_eq_true hz, if_pos rfl, show (2 : Nat) ^ (8 + 23) = 2147483648 by decide]; omega
  unfold same32
  by_cases hx : b / 8388608 % 256 = 255
  · by_cases hm : b % 8388608 = 0
    · have hd : decOf 23 8 tell b = ⟨1, decide (b / 8388608 / 256 ≠ 0), [], 0⟩ := by
        unfold decOf; rw [e1, e2, if_pos hx, if_pos hm]
      rw [hd, if_neg (by omega)]
      unfold toD
      rw [if_neg (by simp), if_pos rfl, inf32, hs _ rfl]
      omega
    · have hd : decOf 23 8 tell b = ⟨2, false, [], 0⟩ := by
        unfold decOf; rw [e1, e2, if_pos hx, if_neg hm]
      rw [hd, if_pos (by omega)]
      unfold toD
      rw [if_pos rfl, inf32]
  · obtain ⟨a, ha⟩ : ∃ a, a = b % 2147483648 := ⟨_, rfl⟩
    have ha2 : a < 2139095040 := by omega
    rw [if_neg (by omega)]
    by_cases h0 : a = 0
    · have hd : decOf 23 8 tell b = ⟨0, decide (b / 8388608 / 256 ≠ 0), [], 0⟩ := by
        unfold decOf; rw [e1, e2, if_neg (by omega), if_pos (by omega)]
      rw [hd]
      unfold toD
      rw [if_neg (by simp), if_neg (by simp), if_pos rfl, hs _ rfl]
      omega
    · have hd : decOf 23 8 tell b = decA (decide (b / 8388608 / 256 ≠ 0)) (tell (a / 2 ^ 23) (a % 2 ^ 23)).1 (tell (a / 2 ^ 23) (a % 2 ^ 23)).2 := by
        unfold decOf
        rw [e1, e2, if_neg (by omega), if_neg (by omega), show b / 8388608 % 256 = a / 8388608 by omega, show b % 8388608 = a % 8388608 by omega]
      have hl := lies a ha2 h0
      rw [pos_decN ha2 h0 tell] at hl
      obtain ⟨n1, n2⟩ := ne a ha2 h0
      rw [hd, toD_decA _ (by omega) (by rw [inf32]) t0_tenN T0_posN n1 n2 hl, hs _ rfl]
      omega

theorem back64_of (b : Nat) (hb : b < 18446744073709551616) : toD 52 11 1074 (of64D b) = same64 b :=
  back64 _ (fun _ h _ => lies64_of h) (fun _ h h0 => ⟨few_ne (by omega) (Nat.mod_lt _ (Nat.pow_pos (by omega))) (fNum_pos h0), few_exp (fPow_bounds h).1⟩) b hb
theorem back64_ex (b : Nat) (hb : b < 18446744073709551616) : toD 52 11 1074 (ex64D b) = same64 b :=
  back64 _ (fun _ h _ => lies64_ex h) (fun _ h h0 => ⟨all_ne (fNum_pos h0), all_exp (fPow_bounds h).1⟩) b hb
theorem back32_of (b : Nat) (hb : b < 4294967296) : toD 23 8 149 (of32D b) = same32 b :=
  back32 _ (fun _ h _ => lies32_of h) (fun _ h h0 => ⟨few_ne (by omega) (Nat.mod_lt _ (Nat.pow_pos (by omega))) (fNum_posN h0), few_exp (by have := (fPow_boundsN h).1; omega)⟩) b hb
theorem back32_ex (b : Nat) (hb : b < 4294967296) : toD 23 8 149 (ex32D b) = same32 b :=
  back32 _ (fun _ h _ => lies32_ex h) (fun _ h h0 => ⟨all_ne (fNum_posN h0), all_exp (by have := (fPow_boundsN h).1; omega)⟩) b hb

end Go.Proofs.YtlhekeifffofjaaGreatDoor
