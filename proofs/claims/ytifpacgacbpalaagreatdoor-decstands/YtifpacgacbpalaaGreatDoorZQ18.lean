/-
  What nat.divLong does.
  What nat.divLong does: the walk.
  nat.DivMod by nought and by one limb, whatever the dividend; literal lists, and what the numbers in them are.
  What nat.DivMod does, whatever the two numbers.
-/
import Derived.Test.YtifpacgacbpalaaGreatDoorZMul
import Derived.Test.YtifpacgacbpalaaGreatDoorGuess
import Derived.Test.YtifpacgacbpalaaGreatDoorDown
import Derived.Test.YtifpacgacbpalaaGreatDoorZQ19
import Derived.Test.YtifpacgacbpalaaGreatDoorSub
import Derived.Test.YtifpacgacbpalaaGreatDoorSame
namespace Go.Proofs.YtifpacgacbpalaaGreatDoor
open Go.RowKit

theorem hide {p : Prop} (h : p) : Hid p := h

theorem Row.gr {k : IntKind} {e : TypeId} {w w' : World} {g h : Nat} {xs : List Nat} (hr : Row k e w h xs) (hg : w.grownBy w' (some g)) (hne : h ≠ g) : Row k e w' h xs := by
  have hlt := hr.lt
  unfold Row at *
  rw [hg.block h hlt (by simp; exact hne)]; exact hr

theorem At.gr {k : IntKind} {w w' : World} {g b o : Nat} {xs : List Nat} (h : At k w (some ⟨b, o, none⟩) xs) (hg : w.grownBy w' (some g)) (hne : b ≠ g) : At k w' (some ⟨b, o, none⟩) xs := by
  rcases h with h | ⟨b', o', h1, h2, h3⟩
  · exact .inl h
  · simp only [Option.some.injEq, Addr.mk.injEq] at h1
    obtain ⟨rfl, rfl, _⟩ := h1
    refine .inr ⟨b, o, rfl, Nat.lt_of_lt_of_le h2 hg.size, fun i hi => ?_⟩
    rw [World.cell?_of_block (w := w) (hg.block b h2 (by simp; exact hne))]
    exact h3 i hi

theorem At.like {k : IntKind} {w w' : World} {ao : Option Addr} {xs : List Nat} (h : At k w ao xs) (hl : Like w' w) : At k w' ao xs := h.same hl.1

theorem Like.bel {w w' : World} (h : Like w' w) (B : Nat) : Below B w w' := h.below (Below.refl _ _)

theorem Like.trans {a b c : World} (h1 : Like c b) (h2 : Like b a) : Like c a := ⟨h1.1.trans h2.1, h1.2.1.trans h2.2.1, h1.2.2.1.trans h2.2.2.1, h1.2.2.2.trans h2.2.2.2⟩

theorem At.put {k : IntKind} {w : World} {b o : Nat} {xs : List Nat} (h : At k w (some ⟨b, o, none⟩) xs) {a : Addr} (ha : b ≠ a.block) (u : Value) : At k (w.setCell a u) (some ⟨b, o, none⟩) xs := by
  rcases h with h | ⟨b', o', h1, h2, h3⟩
  · exact .inl h
  · simp only [Option.some.injEq, Addr.mk.injEq] at h1
    obtain ⟨rfl, rfl, _⟩ := h1
    refine .inr ⟨b, o, rfl, by simpa [World.setCell] using h2, fun i hi => ?_⟩
    rw [World.cell?_of_block (w := w) (Below.heap_setCell _ _ _ _ ha)]
    exact h3 i hi

/-- At the head of divLong's loop, k limbs of the quotient being left: zs is the divisor in block Hd, the rest lies in Hr, the quotient in Hq. -/
structure LongInv (w : World) (Hd Hr Hq m c : Nat) (zs : List Nat) (A k : Nat) (wr : World) : Prop where
  bel : Below w.heap.size w wr
  div : At .u64 wr (some ⟨Hd, 0, none⟩) zs
  row : ∃ r q, Row .u64 76 wr Hr r ∧ r.length = m + 1 ∧ Ok B64 r ∧ num B64 r < num B64 zs * B64 ^ k ∧ Row .u64 76 wr Hq q ∧ q.length = c ∧ Ok B64 q ∧ (∀ j, j < k → dg q j = 0) ∧ num B64 r + num B64 zs * num B64 q = A

/-- The quotient's new limb, and the rest. -/
theorem long_put {r r1 q zs : List Nat} {g k A : Nat} (hk : k < q.length) (hq0 : dg q k = 0) (h1 : num B64 r1 + num B64 zs * g * B64 ^ k = num B64 r) (h : num B64 r + num B64 zs * num B64 q = A) :
    num B64 r1 + num B64 zs * num B64 (q.set k g) = A := by
  have e1 := num_set B64 q k g hk
  rw [hq0, Nat.zero_mul, Nat.add_zero] at e1
  rw [e1, Nat.mul_add, ← Nat.mul_assoc]
  omega

theorem LongInv.step {w w2 wr' : World} {Hd Hr Hq m c A k g : Nat} {zs r r1 q : List Nat} (hd : Hd ≠ Hq) (hrq : Hr ≠ Hq) (hq : w.heap.size ≤ Hq) (hbel : Below w.heap.size w w2) (hdiv : At .u64 w2 (some ⟨Hd, 0, none⟩) zs)
    (hr1 : Row .u64 76 w2 Hr r1) (hl1 : r1.length = m + 1) (ho1 : Ok B64 r1) (hlt : num B64 r1 < num B64 zs * B64 ^ k) (hsum : num B64 r1 + num B64 zs * g * B64 ^ k = num B64 r)
    (hrq' : Row .u64 76 w2 Hq q) (hlq : q.length = c) (hoq : Ok B64 q) (hz : ∀ j, j < k + 1 → dg q j = 0) (hA : num B64 r + num B64 zs * num B64 q = A) (hk : k < c) (hg : g < B64)
    (hw : Like wr' (w2.setCell ⟨Hq, k, none⟩ (.int .u64 (g : Int)))) : LongInv w Hd Hr Hq m c zs A k wr' := by
  refine ⟨hw.below (hbel.setCell hq _), (hdiv.put (by exact hd) _).like hw, r1, q.set k g, (hr1.other (by exact hrq) _).alike hw, hl1, ho1, hlt, (hrq'.set k _).alike hw, by simp [hlq], hoq.set (by omega) hg, ?_, ?_⟩
  · intro j hj
    rw [dg_set _ _ _ _ (by omega), if_neg (by omega)]
    exact hz j (by omega)
  · exact long_put (by omega) (hz k (by omega)) hsum hA

/-- What divLong answers. -/
def LongPost (w : World) (m q r : Nat) (e : Ending) (w' : World) : Prop :=
  ∃ v1 r1 v2 r2, e = .returned (.tuple #[v1, v2]) ∧ Own .u64 76 w' w.heap.size m v1 r1 ∧ Own .u64 76 w' w.heap.size m v2 r2 ∧ Is B64 r1 q ∧ Is B64 r2 r ∧ Below w.heap.size w w' ∧
    (v1.ownBlock = none ∨ v1.ownBlock ≠ v2.ownBlock)

/-- The shift that sets the divisor's highest bit. -/
theorem lead_shift {x : Nat} (h0 : x ≠ 0) (hx : x < B64) : ∃ s, s = 64 - Lib.bitLen x ∧ s ≤ 63 ∧ 2 ^ 63 ≤ x * 2 ^ s ∧ x * 2 ^ s < 2 ^ 64 := by
  obtain ⟨n, hn, hn1, hn2⟩ := bitsN_spec h0
  have hbl := bitLen_bits x (by rw [← B64_pow]; exact hx)
  have hle := bitsN_le hx
  refine ⟨63 - n, by omega, by omega, ?_, ?_⟩
  · have hp2 : 2 ^ n * 2 ^ (63 - n) = (2 : Nat) ^ 63 := by rw [← Nat.pow_add]; congr 1; omega
    rw [← hp2]; exact Nat.mul_le_mul_right _ hn1
  · have hp : 2 ^ (n + 1) * 2 ^ (63 - n) = (2 : Nat) ^ 64 := by rw [← Nat.pow_add]; congr 1; omega
    rw [← hp]; exact Nat.mul_lt_mul_of_pos_right hn2 (Nat.two_pow_pos _)

theorem num_top {b : Nat} {xs : List Nat} {n : Nat} (h : xs.length = n + 1) : num b xs = V b (dg xs) n + dg xs n * b ^ n := by unfold num; rw [h]; rfl

/-- The divisor behind the shift: as many limbs, and the highest bit set. -/
theorem long_divisor {ys yu : List Nat} {p s : Nat} (oy : Ok B64 ys) (hy : ys.length = p + 2) (ou : Ok B64 yu) (hs : 2 ^ 63 ≤ dg ys (p + 1) * 2 ^ s) (hs2 : dg ys (p + 1) * 2 ^ s < 2 ^ 64) (hn : num B64 yu = num B64 ys * 2 ^ s) :
    (trimmed yu).length = p + 2 ∧ B64 ≤ 2 * dg (trimmed yu) (p + 1) := by
  have hB : B64 = 2 ^ 64 := B64_pow
  have h63 : (2 : Nat) ^ 64 = 2 * 2 ^ 63 := by decide +kernel
  have hb : 0 < B64 := by decide
  have e1 := num_top (b := B64) hy
  have hV : V B64 (dg ys) (p + 1) < B64 ^ (p + 1) := V_lt _ (fun i _ => oy i)
  have hP : 0 < B64 ^ (p + 1) := Nat.pow_pos hb
  have lo : 2 ^ 63 * B64 ^ (p + 1) ≤ num B64 yu := by
    rw [hn, e1, Nat.add_mul]
    have := Nat.mul_le_mul_right (B64 ^ (p + 1)) hs
    rw [Nat.mul_right_comm] at this
    omega
  have hi : num B64 yu < B64 ^ (p + 2) := by
    rw [hn, e1]
    have a1 : (V B64 (dg ys) (p + 1) + dg ys (p + 1) * B64 ^ (p + 1)) < (dg ys (p + 1) + 1) * B64 ^ (p + 1) := by rw [Nat.add_mul]; omega
    have a2 := Nat.mul_lt_mul_of_pos_right a1 (Nat.two_pow_pos s)
    have hs64 : s ≤ 63 := by
      rcases Nat.lt_or_ge 63 s with h | h
      · have : 2 ^ 64 ≤ (2 : Nat) ^ s := Nat.pow_le_pow_right (by decide) h
        have : 1 * 2 ^ s ≤ dg ys (p + 1) * 2 ^ s := Nat.mul_le_mul_right _ (by
          rcases hd : dg ys (p + 1) with _ | d
          · rw [hd] at hs; simp at hs
          · omega)
        omega
      · exact h
    have a3 : (dg ys (p + 1) + 1) * 2 ^ s ≤ B64 := by
      have : 2 ^ 64 = 2 ^ (64 - s) * 2 ^ s := by rw [← Nat.pow_add]; congr 1; omega
      rw [hB]
      rw [this] at hs2 ⊢
      exact Nat.mul_le_mul_right _ (Nat.lt_of_mul_lt_mul_right hs2)
    have a4 := Nat.mul_le_mul_right (B64 ^ (p + 1)) a3
    rw [Nat.mul_right_comm] at a4
    rw [Nat.pow_succ B64 (p + 1), Nat.mul_comm (B64 ^ (p + 1))]
    exact Nat.lt_of_lt_of_le a2 a4
  have tt := trimmed_top yu
  have tn := num_trimmed B64 yu
  have to := trimmed_ok ou
  have hlen : (trimmed yu).length = p + 2 := by
    have l1 := num_lt to
    rw [tn] at l1
    have a1 : p + 1 < (trimmed yu).length := by
      rcases Nat.lt_or_ge (p + 1) (trimmed yu).length with h | h
      · exact h
      · have := Nat.pow_le_pow_right hb h
        have : 1 * B64 ^ (p + 1) ≤ 2 ^ 63 * B64 ^ (p + 1) := Nat.mul_le_mul_right _ (by decide)
        omega
    rcases hl : (trimmed yu).length with _ | t
    · omega
    · have a2 := num_ge (b := B64) tt hl
      rw [tn] at a2
      have : t < p + 2 := by
        rcases Nat.lt_or_ge t (p + 2) with h | h
        · exact h
        · have := Nat.pow_le_pow_right hb h; omega
      omega
  refine ⟨hlen, ?_⟩
  have e2 := num_top (b := B64) hlen
  rw [tn] at e2
  have hV2 : V B64 (dg (trimmed yu)) (p + 1) < B64 ^ (p + 1) := V_lt _ (fun i _ => to i)
  have : 2 ^ 63 * B64 ^ (p + 1) < (dg (trimmed yu) (p + 1) + 1) * B64 ^ (p + 1) := by rw [Nat.add_mul]; omega
  have := Nat.lt_of_mul_lt_mul_right this
  rw [hB, h63]
  omega

/-- At the start nothing is divided yet, and the dividend is small enough. -/
theorem long_start {xs zs : List Nat} {m p c s : Nat} (ox : Ok B64 xs) (hx : xs.length = m) (hz : zs.length = p + 2) (htop : B64 ≤ 2 * dg zs (p + 1)) (hc : c + (p + 2) = m + 1) (hs : s ≤ 63) : num B64 xs * 2 ^ s < num B64 zs * B64 ^ c := by
  have hB : B64 = 2 ^ 64 := B64_pow
  have h63 : (2 : Nat) ^ 64 = 2 * 2 ^ 63 := by decide +kernel
  have a1 := num_lt ox
  rw [hx] at a1
  have e1 := num_top (b := B64) hz
  have a2 : 2 ^ 63 * B64 ^ (p + 1) ≤ num B64 zs := by
    have := Nat.mul_le_mul_right (B64 ^ (p + 1)) (show 2 ^ 63 ≤ dg zs (p + 1) by omega)
    omega
  have a3 := Nat.mul_le_mul_right (B64 ^ c) a2
  rw [Nat.mul_assoc, ← Nat.pow_add, show p + 1 + c = m by omega] at a3
  have a4 : (2 : Nat) ^ s ≤ 2 ^ 63 := Nat.pow_le_pow_right (by decide) hs
  have a5 : num B64 xs * 2 ^ s < B64 ^ m * 2 ^ s := Nat.mul_lt_mul_of_pos_right a1 (Nat.two_pow_pos s)
  have a6 : B64 ^ m * 2 ^ s ≤ B64 ^ m * 2 ^ 63 := Nat.mul_le_mul_left _ a4
  rw [Nat.mul_comm (2 ^ 63)] at a3
  omega

/-- At the end quotient and rest are what they are without the shift. -/
theorem long_end {X Y q r s : Nat} (hr : r < Y * 2 ^ s) (h : r + Y * 2 ^ s * q = X * 2 ^ s) : q = X / Y ∧ r / 2 ^ s = X % Y ∧ 0 < Y := by
  have hs := Nat.two_pow_pos s
  have hY : 0 < Y := by rcases Y with _ | y; simp at hr; omega
  have hYs : 0 < Y * 2 ^ s := Nat.mul_pos hY hs
  have q1 : X * 2 ^ s / (Y * 2 ^ s) = q := by rw [← h, Nat.add_mul_div_left _ _ hYs, Nat.div_eq_of_lt hr, Nat.zero_add]
  have q2 : X * 2 ^ s % (Y * 2 ^ s) = r := by rw [← h, Nat.add_mul_mod_self_left, Nat.mod_eq_of_lt hr]
  rw [Nat.mul_div_mul_right _ _ hs] at q1
  rw [Nat.mul_mod_mul_right] at q2
  exact ⟨q1.symm, by rw [← q2, Nat.mul_div_cancel _ hs], hY⟩

theorem trimmed_small {xs : List Nat} {t : Nat} (h : num B64 xs < B64 ^ t) : (trimmed xs).length ≤ t := by
  rcases hl : (trimmed xs).length with _ | j
  · omega
  · have := num_ge (b := B64) (trimmed_top xs) hl
    rw [num_trimmed] at this
    rcases Nat.lt_or_ge j t with h' | h'
    · omega
    · have := Nat.pow_le_pow_right (show 0 < B64 by decide) h'; omega

end Go.Proofs.YtifpacgacbpalaaGreatDoor

namespace Go.Proofs.YtifpacgacbpalaaGreatDoor
open Go.RowKit

theorem shiftUp0 (ao : Option Addr) (len cap sh : Nat) (xs : List Nat) (w : World) (hl : len ≤ 100000000000) (hsh : sh ≤ 63) (hx : xs.length = len) (hax : At .u64 w ao xs) (ox : Ok B64 xs) :
    Calls Tryz.prog 169 #[.slice ao len cap, .int .i64 0, .int .i64 (sh : Int)] w (UpPost w (len + 1) (num B64 xs * 2 ^ sh)) := by
  have := shiftUp_any ao len cap 0 sh xs w hl (by omega) hsh hx hax ox
  rw [Nat.zero_add, Nat.pow_zero, Nat.mul_one] at this
  exact this

theorem shiftDown0 (ao : Option Addr) (len cap sh : Nat) (xs : List Nat) (w : World) (hl : len ≤ 100000000000) (hsh : sh ≤ 63) (hx : xs.length = len) (hax : At .u64 w ao xs) (ox : Ok B64 xs) :
    Calls Tryz.prog 173 #[.slice ao len cap, .int .i64 0, .int .i64 (sh : Int)] w (NatPost w len (num B64 xs / 2 ^ sh)) := by
  have := shiftDown_any ao len cap 0 sh xs w hl (by omega) hsh hx hax ox
  rw [Nat.pow_zero, Nat.div_one] at this
  exact this

/-- One round where nothing went below nought. -/
theorem LongInv.fits {w wr : World} {Hd Hr Hq m c A k g p : Nat} {zs r q : List Nat} (hd : Hd ≠ Hq) (hrq : Hr ≠ Hq) (hdr : Hd ≠ Hr) (hq : w.heap.size ≤ Hq) (hrb : w.heap.size ≤ Hr) (hbel : Below w.heap.size w wr) (hdiv : At .u64 wr (some ⟨Hd, 0, none⟩) zs)
    (hl : r.length = m + 1) (hrq' : Row .u64 76 wr Hq q) (hlq : q.length = c) (hoq : Ok B64 q) (hz : ∀ j, j < k + 1 → dg q j = 0) (hA : num B64 r + num B64 zs * num B64 q = A) (hk : k < c)
    {U L : Nat} (hU : num B64 r = U * B64 ^ k + L) (hL : L < B64 ^ k) (hg : g < B64) (hlo : U < (g + 1) * num B64 zs) {w1 w2 : World} {r1 : List Nat} (h1 : Like w1 wr) (h2 : w1.grownBy w2 (some Hr)) (hr1 : Row .u64 76 w2 Hr r1) (hl1 : r1.length = r.length) (ho1 : Ok B64 r1)
    (hs : num B64 r1 + num B64 zs * g * B64 ^ k = num B64 r + 0 * B64 ^ (k + (p + 1))) {wr' : World} (hw : Like wr' (w2.setCell ⟨Hq, k, none⟩ (.int .u64 (g : Int)))) : LongInv w Hd Hr Hq m c zs A k wr' := by
  obtain ⟨a1, a2⟩ := round_fits hU hL hlo hs
  have hb1 := h1.below hbel
  exact LongInv.step hd hrq hq (hb1.grown h2 hb1.size (fun k hk => by simp only [Option.some.injEq] at hk; omega)) ((hdiv.like h1).gr h2 hdr) hr1 (by omega) ho1 a1 a2 ((hrq'.alike h1).gr h2 (Ne.symm hrq)) hlq hoq hz hA hk hg hw

theorem long_one {r r1 zs : List Nat} {g k t : Nat} (hr1 : num B64 r1 < B64 ^ t) (hs : num B64 r1 + num B64 zs * g * B64 ^ k = num B64 r + 1 * B64 ^ t) : 1 ≤ g := by
  rcases g with _ | g
  · simp at hs; omega
  · omega

/-- One round where it went below nought. -/
theorem LongInv.back {w wr : World} {Hd Hr Hq m c A k g g' p : Nat} {zs r q : List Nat} (hd : Hd ≠ Hq) (hrq : Hr ≠ Hq) (hdr : Hd ≠ Hr) (hq : w.heap.size ≤ Hq) (hrb : w.heap.size ≤ Hr) (hbel : Below w.heap.size w wr) (hdiv : At .u64 wr (some ⟨Hd, 0, none⟩) zs)
    (hl : r.length = m + 1) (hrq' : Row .u64 76 wr Hq q) (hlq : q.length = c) (hoq : Ok B64 q) (hz : ∀ j, j < k + 1 → dg q j = 0) (hA : num B64 r + num B64 zs * num B64 q = A) (hk : k < c)
    {U L : Nat} (hU : num B64 r = U * B64 ^ k + L) (hg : g < B64) (hgg : g' + 1 = g) (hhi : g * num B64 zs ≤ U + num B64 zs) {w1 w2 w3 : World} {r1 r2 : List Nat} {cc : Nat} (h1 : Like w1 wr) (h2 : w1.grownBy w2 (some Hr)) (h3 : w2.grownBy w3 (some Hr))
    (hr2 : Row .u64 76 w3 Hr r2) (hl2 : r2.length = r.length) (ho2 : Ok B64 r2) (hE1 : num B64 r1 < B64 ^ (k + (p + 1))) (hE2 : num B64 r2 < B64 ^ (k + (p + 1))) (hcc : cc ≤ 1)
    (hs : num B64 r1 + num B64 zs * g * B64 ^ k = num B64 r + 1 * B64 ^ (k + (p + 1))) (hs2 : num B64 r2 + cc * B64 ^ (k + (p + 1)) = num B64 r1 + num B64 zs * B64 ^ k) {wr' : World} (hw : Like wr' (w3.setCell ⟨Hq, k, none⟩ (.int .u64 (g' : Int)))) : LongInv w Hd Hr Hq m c zs A k wr' := by
  obtain ⟨_, a1, a2⟩ := round_back hU hhi hE1 hs hE2 hcc hs2
  obtain rfl : g' = g - 1 := by omega
  have hb1 := h1.below hbel
  have hb2 := hb1.grown h2 hb1.size (fun k hk => by simp only [Option.some.injEq] at hk; omega)
  exact LongInv.step hd hrq hq (hb2.grown h3 hb2.size (fun k hk => by simp only [Option.some.injEq] at hk; omega)) (((hdiv.like h1).gr h2 hdr).gr h3 hdr) hr2 (by omega) ho2 a1 a2 (((hrq'.alike h1).gr h2 (Ne.symm hrq)).gr h3 (Ne.symm hrq)) hlq hoq hz hA hk (by omega) hw

set_option maxHeartbeats 1000000 in
theorem divLong_at (ao bo : Option Addr) (m ca n cb p d : Nat) (xs ys : List Nat) (w : World) (hn : n = p + 2) (hd : n + d = m) (hm : m ≤ 1000000000) (hx : xs.length = m) (hy : ys.length = n) (hax : At .u64 w ao xs) (hay : At .u64 w bo ys)
    (ox : Ok B64 xs) (oy : Ok B64 ys) (htop : dg ys (p + 1) ≠ 0) :
    Calls Tryz.prog 154 #[.slice ao m ca, .slice bo n cb] w (LongPost w m (num B64 xs / num B64 ys) (num B64 xs % num B64 ys)) := by
  obtain ⟨i0, hi, hz0, hz1, hz2⟩ := info_parts Tryz.infoU
  obtain ⟨b, o, rfl, hb, hcell⟩ : ∃ b o, bo = some ⟨b, o, none⟩ ∧ b < w.heap.size ∧ ∀ i, i < ys.length → w.cell? ⟨b, o + i, none⟩ = some (.int .u64 ((dg ys i : Nat) : Int)) := by
    rcases hay with h | h
    · rw [h] at hy; simp at hy; omega
    · exact h
  have c0 := hcell (p + 1) (by omega)
  obtain ⟨s, hs, hs63, hs1, hs2⟩ := lead_shift htop (oy (p + 1))
  have ld := fun w => lead64 (dg ys (p + 1)) w (oy (p + 1))
  rw [← hs] at ld
  have hdv := fun yu ou hn' => long_divisor (ys := ys) (yu := yu) (p := p) (s := s) oy (by omega) ou hs1 hs2 hn'
  obtain ⟨top, ht⟩ : ∃ t, t = dg ys (p + 1) := ⟨_, rfl⟩
  rw [← ht] at ld c0
  have LD : Hid (∀ w, Calls Tryz.prog 168 #[.int .u64 (top : Int)] w fun e w' => e = .returned (.int .i64 (s : Int)) ∧ w = w') := ld
  have DV : Hid (∀ yu, Ok B64 yu → num B64 yu = num B64 ys * 2 ^ s → (trimmed yu).length = p + 2 ∧ B64 ≤ 2 * dg (trimmed yu) (p + 1)) := hdv
  have HN : Hid (n = p + 2) := hn
  have hn1 : (n : Int) - 1 = ((p + 1 : Nat) : Int) := by omega
  have hn2 : ((p + 1 : Nat) : Int) < (n : Int) := by omega
  have hmn : (m : Int) - (n : Int) = (d : Int) := by omega
  have hdm : d ≤ 1000000000 ∧ n ≤ 1000000000 := by omega
  have HD : Hid (n + d = m) := hd
  have HT : Hid (dg ys (p + 1) ≠ 0) := htop
  clear hcell hs hs1 hs2 ld ht hdv hn hd htop
  go_enter Tryz.func154, Tryz.ntmps154
  go_wp2_with fail
  refine (LD.out _).mono ?_
  rintro e w' ⟨rfl, rfl⟩
  go_wp2_with fail
  refine (shiftUp0 (some ⟨b, o, none⟩) n cb s ys _ (by omega) hs63 hy hay oy).mono ?_
  rintro e w1 ⟨yu, rfl, hyr, hyl, hyo, hyn, hb1⟩
  obtain ⟨hzl, hzt⟩ := DV.out yu hyo hyn
  have HZ : Hid ((trimmed yu).length = n) := hzl.trans HN.out.symm
  have HZT : Hid (B64 ≤ 2 * dg (trimmed yu) (p + 1)) := hzt
  have HYL : Hid (yu.length = n + 1) := hyl
  clear hzl hzt hyl
  go_wp2_with fail
  refine (trim_to _ (n + 1) (n + 1) n yu _ (Nat.le_refl _) (by omega) HYL.out hyr.at HZ.out).mono ?_
  rintro e w' ⟨rfl, rfl⟩
  go_wp2_with fail
  refine (shiftUp0 ao m ca s xs _ (by omega) hs63 hx (hax.below hb1) ox).mono ?_
  rintro e w2 ⟨ru, rfl, hrr, hrl, hro, hrn, hb2⟩
  have hzdiv : At .u64 w2 (some ⟨w.heap.size, 0, none⟩) (trimmed yu) := (hyr.at.below hb2).trimmed
  have hlt1 := hyr.lt
  have hlt2 := hrr.lt
  obtain ⟨zs, hzs⟩ : ∃ zs, zs = trimmed yu := ⟨_, rfl⟩
  have hzo : Ok B64 zs := by rw [hzs]; exact trimmed_ok hyo
  have hzn : num B64 zs = num B64 ys * 2 ^ s := by rw [hzs, num_trimmed]; exact hyn
  rw [← hzs] at hzdiv
  have HZ' : Hid (zs.length = n) := by rw [hzs]; exact HZ.out
  have HZT' : Hid (B64 ≤ 2 * dg zs (p + 1)) := by rw [hzs]; exact HZT.out
  have hb12 : Below w.heap.size w w2 := hb1.trans (hb2.mono hb1.size)
  have HST : Hid (num B64 ru < num B64 zs * B64 ^ (d + 1)) := by
    rw [hrn]
    exact long_start ox hx (HZ'.out.trans HN.out) HZT'.out (by have := HN.out; have := HD.out; omega) hs63
  have HZN : Hid (num B64 zs = num B64 ys * 2 ^ s) := hzn
  have HRN : Hid (num B64 ru = num B64 xs * 2 ^ s) := hrn
  have HRL : Hid (ru.length = m + 1) := hrl
  have hgrow1 := hb1.size
  have hgrow2 := hb2.size
  clear hzs HZ HZT HYL hyr hyo hyn hb1 hb2 hzn hrn hrl DV LD c0
  go_wp2_with (at_make; refine wpList_make_full _ rfl _ _ 77 rfl w2.heap.size 76 i0 (.int .u64 0) 1 Tryz.underlying77 hi hz0 hz1 _ _ _ _ (d + 1) rfl rfl (by omega) (by omega) (by rw [hz2]; omega) (by unfold maxLen; omega) (Nat.le_refl _) ?_)
  intro w3 hown hgrow
  have hr3 : Row .u64 76 w3 w2.heap.size (List.replicate (d + 1) 0) := Row.made hown
  have hb3 : Below w2.heap.size w2 w3 := (Below.refl _ _).grown hgrow (Nat.le_refl _) (fun k hk => by cases hk)
  have hrr3 := hrr.below hb3 hlt2
  have hzd3 := hzdiv.below hb3
  have hbel3 : Below w.heap.size w w3 := hb12.trans (hb3.mono hb12.size)
  obtain ⟨Hd, hHd⟩ : ∃ z, z = w.heap.size := ⟨_, rfl⟩
  obtain ⟨Hr, hHr⟩ : ∃ z, z = w1.heap.size := ⟨_, rfl⟩
  obtain ⟨Hq, hHq⟩ : ∃ z, z = w2.heap.size := ⟨_, rfl⟩
  rw [← hHq] at hr3
  rw [← hHr] at hrr3
  rw [← hHd] at hzd3
  have hdr : Hd ≠ Hr := by omega
  have hdq : Hd ≠ Hq := by omega
  have hrq : Hr ≠ Hq := by omega
  have hqb : w.heap.size ≤ Hq := by omega
  have hrb : w.heap.size ≤ Hr := by omega
  have hqr : Hr < Hq := by omega
  clear hown hgrow hrr hzdiv
  simp only [← hHd, ← hHr, ← hHq]
  clear hHd hHr hHq
  go_wp2
  go_loopw [11, 12, 13] (fun i _ _ wr => ∃ k : Nat, k ≤ d + 1 ∧ i = .int .i64 ((k : Int) - 1) ∧ LongInv w Hd Hr Hq m (d + 1) zs (num B64 xs * 2 ^ s) k wr) (fun i _ _ _ => (intOf i + 1).toNat)
  case atStart =>
    refine ⟨d + 1, Nat.le_refl _, congrArg (Value.int IntKind.i64) (by omega), hbel3, hzd3, ru, _, hrr3, HRL.out, hro, HST.out, hr3, by simp, Ok.replicate (by decide) _, fun j _ => dg_replicate _ j, ?_⟩
    rw [num_replicate, Nat.mul_zero, Nat.add_zero]; exact HRN.out
  case round =>
    obtain ⟨k, hk, rfl, hinv⟩ := hrel
    rcases k with _ | k
    · obtain ⟨r, q, hr, hrl, hro, hrlt, hq, hql, hqo, _, hA⟩ := hinv.row
      have hbel := hinv.bel
      rw [Nat.pow_zero, Nat.mul_one, HZN.out] at hrlt
      rw [HZN.out] at hA
      obtain ⟨e1, e2, hY⟩ := long_end hrlt hA
      have hsm : num B64 r < B64 ^ n := by
        refine Nat.lt_trans hrlt ?_
        rw [← HZN.out, ← HZ'.out]; exact num_lt hzo
      obtain ⟨t1, ht1⟩ : ∃ q', q' = (trimmed q).length := ⟨_, rfl⟩
      obtain ⟨t2, ht2⟩ : ∃ q', q' = (trimmed r).length := ⟨_, rfl⟩
      have T1 : Hid ((trimmed q).length = t1) := ht1.symm
      have T2 : Hid ((trimmed r).length = t2) := ht2.symm
      have ht2n : t2 ≤ n := by rw [ht2]; exact trimmed_small hsm
      have HL : Hid (r.length = m + 1) := hrl
      have HLq : Hid (q.length = d + 1) := hql
      have E1 : Hid (num B64 q = num B64 xs / num B64 ys) := e1
      have E2 : Hid (num B64 r / 2 ^ s = num B64 xs % num B64 ys) := e2
      clear ht1 ht2 hrl hql e1 e2 hA hrlt hsm hinv hY
      go_wp2_with fail
      refine (trim_to _ (d + 1) (d + 1) t1 q _ (Nat.le_refl _) (by omega) HLq.out hq.at T1.out).mono ?_
      rintro e w' ⟨rfl, rfl⟩
      go_wp2_with fail
      refine (trim_to _ (m + 1) (m + 1) t2 r _ (Nat.le_refl _) (by omega) HL.out hr.at T2.out).mono ?_
      rintro e w' ⟨rfl, rfl⟩
      go_wp2_with fail
      refine (shiftDown0 _ t2 _ s (trimmed r) _ (by omega) hs63 T2.out hr.at.trimmed (trimmed_ok hro)).mono ?_
      rintro e w5 ⟨v2, r2, rfl, hown2, his2, hbel2⟩
      go_wp2
      go_ret2
      rw [num_trimmed, E2.out] at his2
      refine ⟨.slice (some ⟨Hq, 0, none⟩) t1 (d + 1), trimmed q, v2, r2, rfl, .inr ⟨Hq, q, ?_, hqb, hq.below hbel2 hq.lt, ?_, ?_⟩, hown2.mono hbel.size (by omega), ?_, his2, hbel.trans (hbel2.mono hbel.size), ?_⟩
      · rw [HLq.out, T1.out]
      · rw [length_trimmed]; rfl
      · rw [HLq.out]; omega
      · rw [← E1.out]; exact Is.trimmed hqo
      · refine .inr ?_
        have := hq.lt
        rcases hown2 with ⟨rfl, _⟩ | ⟨g2, full2, rfl, hg2, _⟩
        · simp [Value.ownBlock]
        · simp [Value.ownBlock]; omega
    · obtain ⟨r, q, hr, hrl, hro, hrlt, hq, hql, hqo, hqz, hA⟩ := hinv.row
      have hbr := hinv.bel
      have hdv := hinv.div
      have np := HN.out
      have nd := HD.out
      have hkd : k ≤ d := by omega
      obtain ⟨g, U, L, hg, hU, hL, hgb, hlo, hhi', hbig⟩ := guess_good (b := B64) (m := p) (k := k) (r := r) (ys := zs) (by decide) hro hzo (HZ'.out.trans np) HZT'.out hrlt
      have hzc : ∀ i, i < zs.length → wr.cell? ⟨Hd, 0 + i, none⟩ = some (.int .u64 ((dg zs i : Nat) : Int)) := by
        rcases hdv with h | ⟨b1, o1, h1, _, h3⟩
        · intro i hi; rw [h] at hi; simp at hi
        · simp only [Option.some.injEq, Addr.mk.injEq] at h1
          obtain ⟨rfl, rfl, _⟩ := h1
          exact h3
      have zl : zs.length = p + 2 := HZ'.out.trans np
      have gu := guessLimb_any Hr k p (m + 1 - k) Hd 0 (n + 1) _ _ _ _ _ wr (by omega) (hr.cell (k + (p + 2)) (by omega)) (hr.cell (k + (p + 1)) (by omega)) (hr.cell (k + p) (by omega)) (hzc (p + 1) (by omega)) (hzc p (by omega)) (hro _) (hro _) (hzo _) (hzo _)
      rw [← hg, show p + 2 = n by omega, show p + 3 = n + 1 by omega] at gu
      have hng : ∀ b o, zs ≠ [] → some (⟨Hd, 0, none⟩ : Addr) = some ⟨b, o, none⟩ → b ≠ Hr := by
        intro b o _ e; simp only [Option.some.injEq, Addr.mk.injEq] at e; omega
      have su : ∀ w1, Like w1 wr → Calls Tryz.prog 171 #[.slice (some ⟨Hr, k, none⟩) (n + 1) (m + 1 - k), .slice (some ⟨Hd, 0, none⟩) n (n + 1), .int .u64 (g : Int)] w1 (SubtPost w1 Hr r (num B64 zs * g * B64 ^ k) (k + (n + 1))) :=
        fun w1 h1 => subTimes_any Hr k n (m + 1 - k) (n + 1) g (some ⟨Hd, 0, none⟩) r zs w1 (by omega) HZ'.out (hdv.like h1) hzo hgb (hr.alike h1) hro (by omega) hng
      have ab : ∀ w1 w2 r1, Like w1 wr → w1.grownBy w2 (some Hr) → Row .u64 76 w2 Hr r1 → r1.length = r.length → Ok B64 r1 → Calls Tryz.prog 172 #[.slice (some ⟨Hr, k, none⟩) (n + 1) (m + 1 - k), .slice (some ⟨Hd, 0, none⟩) n (n + 1)] w2 (BackPost w2 Hr r1 (num B64 zs * B64 ^ k) (k + (n + 1))) :=
        fun w1 w2 r1 h1 h2 h3 h4 h5 => addBack_any Hr k n (m + 1 - k) (n + 1) (some ⟨Hd, 0, none⟩) r1 zs w2 (by omega) HZ'.out ((hdv.like h1).gr h2 hdr) hzo h3 h5 (by omega) hng
      have fi : ∀ w1 w2 r1 wr', Like w1 wr → w1.grownBy w2 (some Hr) → Row .u64 76 w2 Hr r1 → r1.length = r.length → Ok B64 r1 → num B64 r1 + num B64 zs * g * B64 ^ k = num B64 r + 0 * B64 ^ (k + (n + 1)) →
          Like wr' (w2.setCell ⟨Hq, k, none⟩ (.int .u64 (g : Int))) → LongInv w Hd Hr Hq m (d + 1) zs (num B64 xs * 2 ^ s) k wr' :=
        fun w1 w2 r1 wr' h1 h2 h3 h4 h5 h6 h7 => LongInv.fits hdq hrq hdr hqb hrb hbr hdv hrl hq hql hqo hqz hA (by omega) hU hL hgb hlo h1 h2 h3 h4 h5 h6 h7
      have sml : ∀ r1, Ok B64 r1 → (∀ j, k + (n + 1) ≤ j → dg r1 j = dg r j) → num B64 r1 < B64 ^ (k + (n + 1)) := fun r1 h1 h2 =>
        num_below h1 (fun j hj => by rw [h2 j hj]; exact dg_small (by decide) hbig (by omega))
      have ba : ∀ w1 w2 w3 r1 r2 cc g' wr', g' + 1 = g → Like w1 wr → w1.grownBy w2 (some Hr) → w2.grownBy w3 (some Hr) → Row .u64 76 w3 Hr r2 → r1.length = r.length → r2.length = r1.length → Ok B64 r1 → Ok B64 r2 → (∀ j, k + (n + 1) ≤ j → dg r1 j = dg r j) → (∀ j, k + (n + 1) ≤ j → dg r2 j = dg r1 j) → cc ≤ 1 →
          num B64 r1 + num B64 zs * g * B64 ^ k = num B64 r + 1 * B64 ^ (k + (n + 1)) → num B64 r2 + cc * B64 ^ (k + (n + 1)) = num B64 r1 + num B64 zs * B64 ^ k →
          Like wr' (w3.setCell ⟨Hq, k, none⟩ (.int .u64 (g' : Int))) → LongInv w Hd Hr Hq m (d + 1) zs (num B64 xs * 2 ^ s) k wr' :=
        fun w1 w2 w3 r1 r2 cc g' wr' hgg h1 h2 h3 h4 hl1 hl2 ho1 ho2 hz1 hz2 hc hs1 hs2 hw => LongInv.back hdq hrq hdr hqb hrb hbr hdv hrl hq hql hqo hqz hA (by omega) hU hgb hgg hhi' h1 h2 h3 h4 (by omega) ho2 (sml r1 ho1 hz1) (sml r2 ho2 (fun j hj => (hz2 j hj).trans (hz1 j hj))) hc hs1 hs2 hw
      have po : ∀ r1, Ok B64 r1 → (∀ j, k + (n + 1) ≤ j → dg r1 j = dg r j) → num B64 r1 + num B64 zs * g * B64 ^ k = num B64 r + 1 * B64 ^ (k + (n + 1)) → 1 ≤ g := fun r1 h1 h2 h3 => long_one (sml r1 h1 h2) h3
      have GU : Hid (Calls Tryz.prog 170 #[.slice (some ⟨Hr, k, none⟩) (n + 1) (m + 1 - k), .slice (some ⟨Hd, 0, none⟩) n (n + 1)] wr fun e w' => e = .returned (.int .u64 (g : Int)) ∧ Like w' wr) := gu
      have SU : Hid (∀ w1, Like w1 wr → Calls Tryz.prog 171 #[.slice (some ⟨Hr, k, none⟩) (n + 1) (m + 1 - k), .slice (some ⟨Hd, 0, none⟩) n (n + 1), .int .u64 (g : Int)] w1 (SubtPost w1 Hr r (num B64 zs * g * B64 ^ k) (k + (n + 1)))) := su
      have AB := hide ab
      have FI := hide fi
      have BA := hide ba
      have PO := hide po
      have QR : Hid (∀ w1 w2, Like w1 wr → w1.grownBy w2 (some Hr) → Row .u64 76 w2 Hq q) := fun w1 w2 h1 h2 => (hq.alike h1).gr h2 (Ne.symm hrq)
      have hne : ¬ (m + 1 = k) := by omega
      have hle : (k : Int) + (n : Int) + 1 ≤ ((m + 1 : Nat) : Int) := by omega
      have hkq : (k : Int) < ((d + 1 : Nat) : Int) := by omega
      have hkq' : k < q.length := by omega
      have hgb' : Hid (g < B64) := hgb
      clear hbr hdv np nd hg hU hL hgb hlo hhi' hbig hzc zl gu hng su ab fi sml ba po hinv hr hrl hro hrlt hq hql hqo hqz hA
      go_wp2_with fail
      rw [show k + n + 1 - k = n + 1 by omega]
      refine GU.out.mono ?_
      rintro e w4 ⟨rfl, hlike⟩
      have HK : Hid (Like w4 wr) := hlike
      clear hlike
      go_wp2_with fail
      refine (SU.out _ HK.out).mono ?_
      rintro e w5 ⟨dd, rfl, hd1, hgr, r1, a1, a2, a3, a4, a5⟩
      have hq5 := QR.out _ _ HK.out hgr
      have c5 := hq5.cell k hkq'
      have f5 := hq5.free k
      have hdd : dd = 0 ∨ dd = 1 := by omega
      rcases hdd with rfl | rfl
      · have hnx := fun wr' hw => FI.out _ _ _ wr' HK.out hgr a1 a2 a3 a5 hw
        have NX := hide hnx
        clear hgr a1 a2 a3 a4 a5 hnx hd1 hq5
        go_wp2
        go_roundw
        case rel => exact ⟨k, by omega, by go_num, NX.out _ ⟨rfl, rfl, rfl, rfl⟩⟩
        case measure => simp [intOf]
      · obtain ⟨g', rfl⟩ : ∃ g', g = g' + 1 := ⟨g - 1, by have := PO.out _ a3 a4 a5; omega⟩
        have hwg : IntKind.u64.wrap (((g' + 1 : Nat) : Int) - 1) = (g' : Int) := by
          rw [show ((g' + 1 : Nat) : Int) - 1 = (g' : Int) by omega, wrapLt _ (by have := hgb'.out; unfold B64 at this; omega)]
        have hwg2 : IntKind.u64.wrap (g' : Int) = (g' : Int) := wrapLt _ (by have := hgb'.out; unfold B64 at this; omega)
        have hab := AB.out _ _ _ HK.out hgr a1 a2 a3
        have ABK := hide hab
        have hnx := fun w3 r2 cc wr' b1 b2 b3 b4 b5 b6 b7 hw => BA.out _ _ w3 _ r2 cc g' wr' rfl HK.out hgr b1 b2 a2 b3 a3 b4 a4 b5 b6 a5 b7 hw
        have NX := hide hnx
        clear a1 a2 a3 a4 a5 hnx hd1 hab c5 f5
        go_wp2_with fail
        refine ABK.out.mono ?_
        rintro e w6 ⟨rfl, hgr2, r2, cc, b1, b2, b3, b4, b5, b6⟩
        have hq6 := hq5.gr hgr2 (Ne.symm hrq)
        have c6 := hq6.cell k hkq'
        have f6 := hq6.free k
        have hny := fun wr' hw => NX.out _ _ _ wr' hgr2 b1 b2 b3 b4 b5 b6 hw
        have NY := hide hny
        clear hgr hgr2 b1 b2 b3 b4 b5 b6 hny hq5 hq6 NX
        go_wp2
        go_roundw
        case rel => exact ⟨k, by omega, by go_num, NY.out _ ⟨rfl, rfl, rfl, rfl⟩⟩
        case measure => simp [intOf]

end Go.Proofs.YtifpacgacbpalaaGreatDoor

namespace Go.Proofs.YtifpacgacbpalaaGreatDoor
open Go.RowKit

theorem num_one {b : Nat} {xs : List Nat} (h : xs.length = 1) : num b xs = dg xs 0 := by
  unfold num; rw [h]; simp [V]

theorem divmod_by_zero (ao bo : Option Addr) (la ca lb cb : Nat) (xs ys : List Nat) (w : World) (hla : la ≤ ca) (hca : la ≤ 10000000000 ∧ ca ≤ 9223372036854775807) (hlb : lb ≤ cb) (hcb : lb ≤ 10000000000 ∧ cb ≤ 9223372036854775807)
    (hx : xs.length = la) (hy : ys.length = lb) (hax : At .u64 w ao xs) (hay : At .u64 w bo ys) (h0 : num B64 ys = 0) :
    Calls Tryz.prog 129 #[.slice ao la ca, .slice bo lb cb] w (DivPost w 0 0 0 11) := by
  have hz : trimmed ys = [] := num_zero (b := B64) (by decide) (trimmed_top ys) (by rw [num_trimmed]; exact h0)
  exact divmod_zero ao bo la ca lb cb (trimmed xs).length w (fun w' h => trim_to ao la ca _ xs w' hla (by omega) hx (hax.same h) rfl) (fun w' h => trim_to bo lb cb 0 ys w' hlb (by omega) hy (hay.same h) (by rw [hz]; rfl))

theorem divmod_by_limb (ao bo : Option Addr) (la ca lb cb : Nat) (xs ys : List Nat) (w : World) (hla : la ≤ ca) (hca : la ≤ 10000000000 ∧ ca ≤ 9223372036854775807) (hlb : lb ≤ cb) (hcb : lb ≤ 10000000000 ∧ cb ≤ 9223372036854775807)
    (hx : xs.length = la) (hy : ys.length = lb) (hax : At .u64 w ao xs) (hay : At .u64 w bo ys) (ox : Ok B64 xs) (oy : Ok B64 ys) (h1 : (trimmed ys).length = 1) (h2 : 1 ≤ (trimmed xs).length) :
    Calls Tryz.prog 129 #[.slice ao la ca, .slice bo lb cb] w (DivPost w la (num B64 xs / num B64 ys) (num B64 xs % num B64 ys) 0) := by
  have l1 := length_trimmed_le xs
  rcases hay.trimmed with h | ⟨b, o, rfl, hb, hc⟩
  · rw [h] at h1; simp at h1
  · rcases hax.trimmed with h | ⟨b', o', rfl, hb', hc'⟩
    · rw [h] at h2; simp at h2
    · have hn : num B64 ys = dg (trimmed ys) 0 := by rw [← num_trimmed, num_one h1]
      have hpos : 0 < dg (trimmed ys) 0 := by
        have := trimmed_top ys 0 (by rw [h1]); omega
      have hlt : num B64 xs % num B64 ys < B64 := by
        rw [hn]; exact Nat.lt_trans (Nat.mod_lt _ hpos) (trimmed_ok oy 0)
      have c3 := divLimb_at b' o' (trimmed xs).length ca (dg (trimmed ys) 0) (trimmed xs) w (by omega) hpos (trimmed_ok oy 0) rfl hb' hc' (trimmed_ok ox)
      rw [num_trimmed, ← hn] at c3
      have hc0 := hc 0 (by omega)
      have hc0' : w.cell? ⟨b, o, none⟩ = some (.int .u64 ((num B64 ys : Nat) : Int)) := by rw [hn]; exact hc0
      have key := divmod_limb (some ⟨b', o', none⟩) b o la ca lb cb (trimmed xs).length _ _ (num B64 ys) w h2 (by omega) (fun w' h => trim_to _ la ca _ xs w' hla (by omega) hx (hax.same h) rfl)
        (fun w' h => trim_to _ lb cb 1 ys w' hlb (by omega) hy (hay.same h) h1) hc0' c3 hlt
      refine key.mono ?_
      rintro e w' ⟨v1, r1, v2, r2, e1, o1, o2, i1, i2, hb, hd⟩
      exact ⟨v1, r1, v2, r2, e1, o1.mono (Nat.le_refl _) (by omega), o2.mono (Nat.le_refl _) (by omega), i1, i2, hb, hd⟩

def okB (xs : List Nat) : Bool := xs.all fun x => decide (x < B64)

theorem ok_of {xs : List Nat} (h : okB xs = true) : Ok B64 xs := by
  intro i
  by_cases hi : i < xs.length
  · have := List.all_eq_true.1 h (xs[i]) (List.getElem_mem hi)
    simpa [dg, hi] using this
  · rw [dg_out (by omega)]; decide

theorem is_of (xs : List Nat) {n : Nat} (h : okB xs = true) (ht : trimmed xs = xs) (hn : num B64 xs = n) : Is B64 xs n := ⟨ok_of h, by rw [← ht]; exact trimmed_top xs, hn⟩

theorem own_lit {e : TypeId} {w : World} {base m n : Nat} {v : Value} {r : List Nat} (zs : List Nat) (L : Nat) (hL : zs.length = L) (h : Own .u64 e w base m v r) (his : Is B64 r n) (hz : Is B64 zs n) :
    ∃ ao cap, v = .slice ao L cap ∧ L ≤ cap ∧ cap ≤ m ∧ At .u64 w ao zs := by
  have e := his.uniq (by decide) hz
  subst e hL
  exact h.shape

theorem At.alloc {k : IntKind} {w : World} {ao : Option Addr} {xs : List Nat} (h : At k w ao xs) (o : Obj) : At k (w.alloc o) ao xs := h.below ((Below.refl _ _).alloc (Nat.le_refl _) o)

theorem lit_new (w : World) (n : Nat) (hn : w.heap.size = n) (xs : List Nat) : At .u64 (w.alloc (.cells (vals .u64 xs).toArray 76)) (some ⟨n, 0, none⟩) xs := by
  subst hn
  exact Row.at (k := .u64) (e := 76) (heap_alloc_new w _)

end Go.Proofs.YtifpacgacbpalaaGreatDoor

namespace Go.Proofs.YtifpacgacbpalaaGreatDoor
open Go.RowKit

set_option maxHeartbeats 1000000 in
theorem divmod_long (ao bo : Option Addr) (la ca lb cb m p n q r : Nat) (w : World) (hpm : p ≤ m) (hp : 2 ≤ p) (_hm : m ≤ 10000000000)
    (c1 : ∀ w' : World, w'.heap = w.heap → Calls Tryz.prog 100 #[.slice ao la ca] w' fun e w'' => e = .returned (.slice ao m ca) ∧ w' = w'')
    (c2 : ∀ w' : World, w'.heap = w.heap → Calls Tryz.prog 100 #[.slice bo lb cb] w' fun e w'' => e = .returned (.slice bo p cb) ∧ w' = w'')
    (c3 : Calls Tryz.prog 154 #[.slice ao m ca, .slice bo p cb] w (LongPost w n q r)) :
    Calls Tryz.prog 129 #[.slice ao la ca, .slice bo lb cb] w (DivPost w n q r 0) := by
  have C1 : Hid (∀ w' : World, w'.heap = w.heap → Calls Tryz.prog 100 #[.slice ao la ca] w' fun e w'' => e = .returned (.slice ao m ca) ∧ w' = w'') := c1
  have C2 : Hid (∀ w' : World, w'.heap = w.heap → Calls Tryz.prog 100 #[.slice bo lb cb] w' fun e w'' => e = .returned (.slice bo p cb) ∧ w' = w'') := c2
  have C3 : Hid (Calls Tryz.prog 154 #[.slice ao m ca, .slice bo p cb] w (LongPost w n q r)) := c3
  have n1 : ((p : Int) == 0) = false := by rw [beq_eq_false_iff_ne]; omega
  have n2 : ¬ (m : Int) < (p : Int) := by omega
  have n3 : ((p : Int) == 1) = false := by rw [beq_eq_false_iff_ne]; omega
  clear c1 c2 c3
  go_enter Tryz.func129, Tryz.ntmps129
  go_wp2_with fail
  refine (C1.out _ rfl).mono ?_
  rintro e w' ⟨rfl, rfl⟩
  go_wp2_with fail
  refine (C2.out _ rfl).mono ?_
  rintro e w' ⟨rfl, rfl⟩
  go_wp2_with fail
  refine C3.out.mono ?_
  rintro e w1 ⟨v1, r1, v2, r2, rfl, o1, o2, i1, i2, hb, hne⟩
  go_wp2
  go_ret3
  exact ⟨v1, r1, v2, r2, rfl, o1, o2, i1, i2, hb, hne⟩

/-- Where the divisor is not nought: quotient and rest, in memory of their own. -/
theorem divmod_any (ao bo : Option Addr) (la ca lb cb : Nat) (xs ys : List Nat) (w : World) (hla : la ≤ ca) (hca : la ≤ 100000000 ∧ ca ≤ 9223372036854775807) (hlb : lb ≤ cb) (hcb : lb ≤ 100000000 ∧ cb ≤ 9223372036854775807)
    (hx : xs.length = la) (hy : ys.length = lb) (hax : At .u64 w ao xs) (hay : At .u64 w bo ys) (ox : Ok B64 xs) (oy : Ok B64 ys) (h0 : num B64 ys ≠ 0) :
    Calls Tryz.prog 129 #[.slice ao la ca, .slice bo lb cb] w (DivPost w la (num B64 xs / num B64 ys) (num B64 xs % num B64 ys) 0) := by
  have hb0 : 0 < B64 := by decide
  have l1 := length_trimmed_le xs
  have l2 := length_trimmed_le ys
  have c1 : ∀ w' : World, w'.heap = w.heap → Calls Tryz.prog 100 #[.slice ao la ca] w' fun e w'' => e = .returned (.slice ao (trimmed xs).length ca) ∧ w' = w'' := fun w' h => trim_to _ la ca _ xs w' hla (by omega) hx (hax.same h) rfl
  have c2 : ∀ w' : World, w'.heap = w.heap → Calls Tryz.prog 100 #[.slice bo lb cb] w' fun e w'' => e = .returned (.slice bo (trimmed ys).length cb) ∧ w' = w'' := fun w' h => trim_to _ lb cb _ ys w' hlb (by omega) hy (hay.same h) rfl
  have wide : ∀ {m q r : Nat}, m ≤ la → ∀ e w', DivPost w m q r 0 e w' → DivPost w la q r 0 e w' := by
    rintro m q r hm e w' ⟨v1, r1, v2, r2, e1, o1, o2, i1, i2, hb, hd⟩
    exact ⟨v1, r1, v2, r2, e1, o1.mono (Nat.le_refl _) hm, o2.mono (Nat.le_refl _) hm, i1, i2, hb, hd⟩
  have p0 : (trimmed ys).length ≠ 0 := fun h => h0 (by rw [← num_trimmed, List.length_eq_zero_iff.1 h]; rfl)
  by_cases hlt : (trimmed xs).length < (trimmed ys).length
  · have nl : num B64 xs < num B64 ys := by
      rcases hn : (trimmed ys).length with _ | n
      · exact absurd hn p0
      · have a1 := num_lt (trimmed_ok ox)
        have a2 := num_ge (b := B64) (trimmed_top ys) hn
        have a3 := Nat.pow_le_pow_right hb0 (show (trimmed xs).length ≤ n by omega)
        rw [num_trimmed] at a1 a2
        omega
    have c3 := norm_any ao (trimmed xs).length ca (trimmed xs) w (by omega) (by omega) rfl hax.trimmed (trimmed_ok ox)
    have key := divmod_less ao bo la ca lb cb _ _ (num B64 xs) w hlt (by omega) c1 c2 (by rw [num_trimmed] at c3; exact c3)
    rw [Nat.div_eq_of_lt nl, Nat.mod_eq_of_lt nl]
    exact key.mono (wide (by omega))
  · by_cases h1 : (trimmed ys).length = 1
    · exact divmod_by_limb ao bo la ca lb cb xs ys w hla (by omega) hlb (by omega) hx hy hax hay ox oy h1 (by omega)
    · obtain ⟨p, hp⟩ : ∃ p, (trimmed ys).length = p + 2 := ⟨(trimmed ys).length - 2, by omega⟩
      have c3 := divLong_at ao bo (trimmed xs).length ca (trimmed ys).length cb p ((trimmed xs).length - (trimmed ys).length) (trimmed xs) (trimmed ys) w hp (by omega) (by omega) rfl rfl hax.trimmed hay.trimmed (trimmed_ok ox) (trimmed_ok oy) (trimmed_top ys (p + 1) hp)
      rw [num_trimmed, num_trimmed] at c3
      exact (divmod_long ao bo la ca lb cb _ _ _ _ _ w (by omega) (by omega) (by omega) c1 c2 c3).mono (wide (by omega))

end Go.Proofs.YtifpacgacbpalaaGreatDoor
