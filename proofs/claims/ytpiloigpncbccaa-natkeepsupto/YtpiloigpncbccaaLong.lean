/-
  What nat.divLong does.
-/
import Derived.Test.YtpiloigpncbccaaSubT
import Derived.Test.YtpiloigpncbccaaGuess
import Derived.Test.YtpiloigpncbccaaDown
import Derived.Test.YtpiloigpncbccaaDivMod
namespace Go.Proofs.Ytpiloigpncbccaa
open Go.RowKit

theorem hide {p : Prop} (h : p) : Hid p := h

theorem Row.gr {k : IntKind} {e : TypeId} {w w' : World} {g h : Nat} {xs : List Nat} (hr : Row k e w h xs) (hg : w.grownBy w' (some g)) (hne : h ≠ g) : Row k e w' h xs := by
  have hlt := hr.lt
  unfold Row at *
  rw [hg.block h hlt (by simp; exact hne)]; exact hr

theorem At.gr {k : IntKind} {w w' : World} {g b o : Nat} {xs : List Nat} (h : At k w (some ⟨b, o, none⟩) xs) (hg : w.grownBy w' (some g)) (hne : b ≠ g) : At k w' (some ⟨b, o, none⟩) xs := by
  rcases h with h | ⟨b', o', h1, h2, h3⟩
  · exact .inl h
  · simp only [Option.some.injEq, Addr.mk.injEq] at h1
    obtain ⟨rfl, rfl, _⟩ := h1
    refine .inr ⟨b, o, rfl, Nat.lt_of_lt_of_le h2 hg.size, fun i hi => ?_⟩
    rw [World.cell?_of_block (w := w) (hg.block b h2 (by simp; exact hne))]
    exact h3 i hi

theorem At.like {k : IntKind} {w w' : World} {ao : Option Addr} {xs : List Nat} (h : At k w ao xs) (hl : Like w' w) : At k w' ao xs := h.same hl.1

theorem Like.bel {w w' : World} (h : Like w' w) (B : Nat) : Below B w w' := h.below (Below.refl _ _)

theorem Like.trans {a b c : World} (h1 : Like c b) (h2 : Like b a) : Like c a := ⟨h1.1.trans h2.1, h1.2.1.trans h2.2.1, h1.2.2.1.trans h2.2.2.1, h1.2.2.2.trans h2.2.2.2⟩

theorem At.put {k : IntKind} {w : World} {b o : Nat} {xs : List Nat} (h : At k w (some ⟨b, o, none⟩) xs) {a : Addr} (ha : b ≠ a.block) (u : Value) : At k (w.setCell a u) (some ⟨b, o, none⟩) xs := by
  rcases h with h | ⟨b', o', h1, h2, h3⟩
  · exact .inl h
  · simp only [Option.some.injEq, Addr.mk.injEq] at h1
    obtain ⟨rfl, rfl, _⟩ := h1
    refine .inr ⟨b, o, rfl, by simpa [World.setCell] using h2, fun i hi => ?_⟩
    rw [World.cell?_of_block (w := w) (Below.heap_setCell _ _ _ _ ha)]
    exact h3 i hi

/-- At the head of divLong's loop, k limbs of the quotient being left: zs is the divisor in block Hd, the rest lies in Hr, the quotient in Hq. -/
structure LongInv (w : World) (Hd Hr Hq m c : Nat) (zs : List Nat) (A k : Nat) (wr : World) : Prop where
  bel : Below w.heap.size w wr
  div : At .u64 wr (some ⟨Hd, 0, none⟩) zs
  row : ∃ r q, Row .u64 33 wr Hr r ∧ r.length = m + 1 ∧ Ok B64 r ∧ num B64 r < num B64 zs * B64 ^ k ∧ Row .u64 33 wr Hq q ∧ q.length = c ∧ Ok B64 q ∧ (∀ j, j < k → dg q j = 0) ∧ num B64 r + num B64 zs * num B64 q = A

/-- The quotient's new limb, and the rest. -/
theorem long_put {r r1 q zs : List Nat} {g k A : Nat} (hk : k < q.length) (hq0 : dg q k = 0) (h1 : num B64 r1 + num B64 zs * g * B64 ^ k = num B64 r) (h : num B64 r + num B64 zs * num B64 q = A) :
    num B64 r1 + num B64 zs * num B64 (q.set k g) = A := by
  have e1 := num_set B64 q k g hk
  rw [hq0, Nat.zero_mul, Nat.add_zero] at e1
  rw [e1, Nat.mul_add, ← Nat.mul_assoc]
  omega

theorem LongInv.step {w w2 wr' : World} {Hd Hr Hq m c A k g : Nat} {zs r r1 q : List Nat} (hd : Hd ≠ Hq) (hrq : Hr ≠ Hq) (hq : w.heap.size ≤ Hq) (hbel : Below w.heap.size w w2) (hdiv : At .u64 w2 (some ⟨Hd, 0, none⟩) zs)
    (hr1 : Row .u64 33 w2 Hr r1) (hl1 : r1.length = m + 1) (ho1 : Ok B64 r1) (hlt : num B64 r1 < num B64 zs * B64 ^ k) (hsum : num B64 r1 + num B64 zs * g * B64 ^ k = num B64 r)
    (hrq' : Row .u64 33 w2 Hq q) (hlq : q.length = c) (hoq : Ok B64 q) (hz : ∀ j, j < k + 1 → dg q j = 0) (hA : num B64 r + num B64 zs * num B64 q = A) (hk : k < c) (hg : g < B64)
    (hw : Like wr' (w2.setCell ⟨Hq, k, none⟩ (.int .u64 (g : Int)))) : LongInv w Hd Hr Hq m c zs A k wr' := by
  refine ⟨hw.below (hbel.setCell hq _), (hdiv.put (by exact hd) _).like hw, r1, q.set k g, (hr1.other (by exact hrq) _).alike hw, hl1, ho1, hlt, (hrq'.set k _).alike hw, by simp [hlq], hoq.set (by omega) hg, ?_, ?_⟩
  · intro j hj
    rw [dg_set _ _ _ _ (by omega), if_neg (by omega)]
    exact hz j (by omega)
  · exact long_put (by omega) (hz k (by omega)) hsum hA

/-- What divLong answers. -/
def LongPost (w : World) (m q r : Nat) (e : Ending) (w' : World) : Prop :=
  ∃ v1 r1 v2 r2, e = .returned (.tuple #[v1, v2]) ∧ Own .u64 33 w' w.heap.size m v1 r1 ∧ Own .u64 33 w' w.heap.size m v2 r2 ∧ Is B64 r1 q ∧ Is B64 r2 r ∧ Below w.heap.size w w' ∧
    (v1.ownBlock = none ∨ v1.ownBlock ≠ v2.ownBlock)

/-- The shift that sets the divisor's highest bit. -/
theorem lead_shift {x : Nat} (h0 : x ≠ 0) (hx : x < B64) : ∃ s, s = 64 - Lib.bitLen x ∧ s ≤ 63 ∧ 2 ^ 63 ≤ x * 2 ^ s ∧ x * 2 ^ s < 2 ^ 64 := by
  obtain ⟨n, hn, hn1, hn2⟩ := bitsN_spec h0
  have hbl := bitLen_bits x (by rw [← B64_pow]; exact hx)
  have hle := bitsN_le hx
  refine ⟨63 - n, by omega, by omega, ?_, ?_⟩
  · have hp2 : 2 ^ n * 2 ^ (63 - n) = (2 : Nat) ^ 63 := by rw [← Nat.pow_add]; congr 1; omega
    rw [← hp2]; exact Nat.mul_le_mul_right _ hn1
  · have hp : 2 ^ (n + 1) * 2 ^ (63 - n) = (2 : Nat) ^ 64 := by rw [← Nat.pow_add]; congr 1; omega
    rw [← hp]; exact Nat.mul_lt_mul_of_pos_right hn2 (Nat.two_pow_pos _)

theorem num_top {b : Nat} {xs : List Nat} {n : Nat} (h : xs.length = n + 1) : num b xs = V b (dg xs) n + dg xs n * b ^ n := by unfold num; rw [h]; rfl

/-- The divisor behind the shift: as many limbs, and the highest bit set. -/
theorem long_divisor {ys yu : List Nat} {p s : Nat} (oy : Ok B64 ys) (hy : ys.length = p + 2) (ou : Ok B64 yu) (hs : 2 ^ 63 ≤ dg ys (p + 1) * 2 ^ s) (hs2 : dg ys (p + 1) * 2 ^ s < 2 ^ 64) (hn : num B64 yu = num B64 ys * 2 ^ s) :
    (trimmed yu).length = p + 2 ∧ B64 ≤ 2 * dg (trimmed yu) (p + 1) := by
  have hB : B64 = 2 ^ 64 := B64_pow
  have h63 : (2 : Nat) ^ 64 = 2 * 2 ^ 63 := by decide +kernel
  have hb : 0 < B64 := by decide
  have e1 := num_top (b := B64) hy
  have hV : V B64 (dg ys) (p + 1) < B64 ^ (p + 1) := V_lt _ (fun i _ => oy i)
  have hP : 0 < B64 ^ (p + 1) := Nat.pow_pos hb
  have lo : 2 ^ 63 * B64 ^ (p + 1) ≤ num B64 yu := by
    rw [hn, e1, Nat.add_mul]
    have := Nat.mul_le_mul_right (B64 ^ (p + 1)) hs
    rw [Nat.mul_right_comm] at this
    omega
  have hi : num B64 yu < B64 ^ (p + 2) := by
    rw [hn, e1]
    have a1 : (V B64 (dg ys) (p + 1) + dg ys (p + 1) * B64 ^ (p + 1)) < (dg ys (p + 1) + 1) * B64 ^ (p + 1) := by rw [Nat.add_mul]; omega
    have a2 := Nat.mul_lt_mul_of_pos_right a1 (Nat.two_pow_pos s)
    have hs64 : s ≤ 63 := by
      rcases Nat.lt_or_ge 63 s with h | h
      · have : 2 ^ 64 ≤ (2 : Nat) ^ s := Nat.pow_le_pow_right (by decide) h
        have : 1 * 2 ^ s ≤ dg ys (p + 1) * 2 ^ s := Nat.mul_le_mul_right _ (by
          rcases hd : dg ys (p + 1) with _ | d
          · rw [hd] at hs; simp at hs
          · omega)
        omega
      · exact h
    have a3 : (dg ys (p + 1) + 1) * 2 ^ s ≤ B64 := by
      have : 2 ^ 64 = 2 ^ (64 - s) * 2 ^ s := by rw [← Nat.pow_add]; congr 1; omega
      rw [hB]
      rw [this] at hs2 ⊢
      exact Nat.mul_le_mul_right _ (Nat.lt_of_mul_lt_mul_right hs2)
    have a4 := Nat.mul_le_mul_right (B64 ^ (p + 1)) a3
    rw [Nat.mul_right_comm] at a4
    rw [Nat.pow_succ B64 (p + 1), Nat.mul_comm (B64 ^ (p + 1))]
    exact Nat.lt_of_lt_of_le a2 a4
  have tt := trimmed_top yu
  have tn := num_trimmed B64 yu
  have to := trimmed_ok ou
  have hlen : (trimmed yu).length = p + 2 := by
    have l1 := num_lt to
    rw [tn] at l1
    have a1 : p + 1 < (trimmed yu).length := by
      rcases Nat.lt_or_ge (p + 1) (trimmed yu).length with h | h
      · exact h
      · have := Nat.pow_le_pow_right hb h
        have : 1 * B64 ^ (p + 1) ≤ 2 ^ 63 * B64 ^ (p + 1) := Nat.mul_le_mul_right _ (by decide)
        omega
    rcases hl : (trimmed yu).length with _ | t
    · omega
    · have a2 := num_ge (b := B64) tt hl
      rw [tn] at a2
      have : t < p + 2 := by
        rcases Nat.lt_or_ge t (p + 2) with h | h
        · exact h
        · have := Nat.pow_le_pow_right hb h; omega
      omega
  refine ⟨hlen, ?_⟩
  have e2 := num_top (b := B64) hlen
  rw [tn] at e2
  have hV2 : V B64 (dg (trimmed yu)) (p + 1) < B64 ^ (p + 1) := V_lt _ (fun i _ => to i)
  have : 2 ^ 63 * B64 ^ (p + 1) < (dg (trimmed yu) (p + 1) + 1) * B64 ^ (p + 1) := by rw [Nat.add_mul]; omega
  have := Nat.lt_of_mul_lt_mul_right this
  rw [hB, h63]
  omega

/-- At the start nothing is divided yet, and the dividend is small enough. -/
theorem long_start {xs zs : List Nat} {m p c s : Nat} (ox : Ok B64 xs) (hx : xs.length = m) (hz : zs.length = p + 2) (htop : B64 ≤ 2 * dg zs (p + 1)) (hc : c + (p + 2) = m + 1) (hs : s ≤ 63) : num B64 xs * 2 ^ s < num B64 zs * B64 ^ c := by
  have hB : B64 = 2 ^ 64 := B64_pow
  have h63 : (2 : Nat) ^ 64 = 2 * 2 ^ 63 := by decide +kernel
  have a1 := num_lt ox
  rw [hx] at a1
  have e1 := num_top (b := B64) hz
  have a2 : 2 ^ 63 * B64 ^ (p + 1) ≤ num B64 zs := by
    have := Nat.mul_le_mul_right (B64 ^ (p + 1)) (show 2 ^ 63 ≤ dg zs (p + 1) by omega)
    omega
  have a3 := Nat.mul_le_mul_right (B64 ^ c) a2
  rw [Nat.mul_assoc, ← Nat.pow_add, show p + 1 + c = m by omega] at a3
  have a4 : (2 : Nat) ^ s ≤ 2 ^ 63 := Nat.pow_le_pow_right (by decide) hs
  have a5 : num B64 xs * 2 ^ s < B64 ^ m * 2 ^ s := Nat.mul_lt_mul_of_pos_right a1 (Nat.two_pow_pos s)
  have a6 : B64 ^ m * 2 ^ s ≤ B64 ^ m * 2 ^ 63 := Nat.mul_le_mul_left _ a4
  rw [Nat.mul_comm (2 ^ 63)] at a3
  omega

/-- At the end quotient and rest are what they are without the shift. -/
theorem long_end {X Y q r s : Nat} (hr : r < Y * 2 ^ s) (h : r + Y * 2 ^ s * q = X * 2 ^ s) : q = X / Y ∧ r / 2 ^ s = X % Y ∧ 0 < Y := by
  have hs := Nat.two_pow_pos s
  have hY : 0 < Y := by rcases Y with _ | y; simp at hr; omega
  have hYs : 0 < Y * 2 ^ s := Nat.mul_pos hY hs
  have q1 : X * 2 ^ s / (Y * 2 ^ s) = q := by rw [← h, Nat.add_mul_div_left _ _ hYs, Nat.div_eq_of_lt hr, Nat.zero_add]
  have q2 : X * 2 ^ s % (Y * 2 ^ s) = r := by rw [← h, Nat.add_mul_mod_self_left, Nat.mod_eq_of_lt hr]
  rw [Nat.mul_div_mul_right _ _ hs] at q1
  rw [Nat.mul_mod_mul_right] at q2
  exact ⟨q1.symm, by rw [← q2, Nat.mul_div_cancel _ hs], hY⟩

theorem trimmed_small {xs : List Nat} {t : Nat} (h : num B64 xs < B64 ^ t) : (trimmed xs).length ≤ t := by
  rcases hl : (trimmed xs).length with _ | j
  · omega
  · have := num_ge (b := B64) (trimmed_top xs) hl
    rw [num_trimmed] at this
    rcases Nat.lt_or_ge j t with h' | h'
    · omega
    · have := Nat.pow_le_pow_right (show 0 < B64 by decide) h'; omega

end Go.Proofs.Ytpiloigpncbccaa
