/-
  What nat.divLong does.
  Decs as structs: what a function answers that hands back one, or one and an error.
  What the rounding modes' own functions do, and which of them leaves hands out.
  What decform's bare, areDigits, mayDigits and May do.
  What dec's May, place, Place, Neg, Scale, isZero, signed and rank do.
  What decform's Of and dec's finite do.
-/
import Derived.Test.YtobloamnaemfnaaGreatDoorVB3
import Derived.Test.YtobloamnaemfnaaGreatDoorVGuess
import Derived.Test.YtobloamnaemfnaaGreatDoorVDown
import Derived.Test.YtobloamnaemfnaaGreatDoorVB4
import Derived.Test.YtobloamnaemfnaaGreatDoorVB2
import Derived.Laws.EntriesVeiled
import Derived.Test.YtobloamnaemfnaaGreatDoorVShelf
namespace Go.Proofs.YtobloamnaemfnaaGreatDoor
open Go.RowKit

theorem hide {p : Prop} (h : p) : Hid p := h

theorem Row.gr {k : IntKind} {e : TypeId} {w w' : World} {g h : Nat} {xs : List Nat} (hr : Row k e w h xs) (hg : w.grownBy w' (some g)) (hne : h ≠ g) : Row k e w' h xs := by
  have hlt := hr.lt
  unfold Row at *
  rw [hg.block h hlt (by simp; exact hne)]; exact hr

theorem At.gr {k : IntKind} {w w' : World} {g b o : Nat} {xs : List Nat} (h : At k w (some ⟨b, o, none⟩) xs) (hg : w.grownBy w' (some g)) (hne : b ≠ g) : At k w' (some ⟨b, o, none⟩) xs := by
  rcases h with h | ⟨b', o', h1, h2, h3⟩
  · exact .inl h
  · simp only [Option.some.injEq, Addr.mk.injEq] at h1
    obtain ⟨rfl, rfl, _⟩ := h1
    refine .inr ⟨b, o, rfl, Nat.lt_of_lt_of_le h2 hg.size, fun i hi => ?_⟩
    rw [World.cell?_of_block (w := w) (hg.block b h2 (by simp; exact hne))]
    exact h3 i hi

theorem At.like {k : IntKind} {w w' : World} {ao : Option Addr} {xs : List Nat} (h : At k w ao xs) (hl : Like w' w) : At k w' ao xs := h.same hl.1

theorem Like.bel {w w' : World} (h : Like w' w) (B : Nat) : Below B w w' := h.below (Below.refl _ _)

theorem At.put {k : IntKind} {w : World} {b o : Nat} {xs : List Nat} (h : At k w (some ⟨b, o, none⟩) xs) {a : Addr} (ha : b ≠ a.block) (u : Value) : At k (w.setCell a u) (some ⟨b, o, none⟩) xs := by
  rcases h with h | ⟨b', o', h1, h2, h3⟩
  · exact .inl h
  · simp only [Option.some.injEq, Addr.mk.injEq] at h1
    obtain ⟨rfl, rfl, _⟩ := h1
    refine .inr ⟨b, o, rfl, by simpa [World.setCell] using h2, fun i hi => ?_⟩
    rw [World.cell?_of_block (w := w) (Below.heap_setCell _ _ _ _ ha)]
    exact h3 i hi

structure LongInv (w : World) (Hd Hr Hq m c : Nat) (zs : List Nat) (A k : Nat) (wr : World) : Prop where
  bel : Below w.heap.size w wr
  div : At .u64 wr (some ⟨Hd, 0, none⟩) zs
  row : ∃ r q, Row .u64 134 wr Hr r ∧ r.length = m + 1 ∧ Ok B64 r ∧ num B64 r < num B64 zs * B64 ^ k ∧ Row .u64 134 wr Hq q ∧ q.length = c ∧ Ok B64 q ∧ (∀ j, j < k → dg q j = 0) ∧ num B64 r + num B64 zs * num B64 q = A

theorem long_put {r r1 q zs : List Nat} {g k A : Nat} (hk : k < q.length) (hq0 : dg q k = 0) (h1 : num B64 r1 + num B64 zs * g * B64 ^ k = num B64 r) (h : num B64 r + num B64 zs * num B64 q = A) :
    num B64 r1 + num B64 zs * num B64 (q.set k g) = A := by
  have e1 := num_set B64 q k g hk
  rw [hq0, Nat.zero_mul, Nat.add_zero] at e1
  rw [e1, Nat.mul_add, ← Nat.mul_assoc]
  omega

theorem LongInv.step {w w2 wr' : World} {Hd Hr Hq m c A k g : Nat} {zs r r1 q : List Nat} (hd : Hd ≠ Hq) (hrq : Hr ≠ Hq) (hq : w.heap.size ≤ Hq) (hbel : Below w.heap.size w w2) (hdiv : At .u64 w2 (some ⟨Hd, 0, none⟩) zs)
    (hr1 : Row .u64 134 w2 Hr r1) (hl1 : r1.length = m + 1) (ho1 : Ok B64 r1) (hlt : num B64 r1 < num B64 zs * B64 ^ k) (hsum : num B64 r1 + num B64 zs * g * B64 ^ k = num B64 r)
    (hrq' : Row .u64 134 w2 Hq q) (hlq : q.length = c) (hoq : Ok B64 q) (hz : ∀ j, j < k + 1 → dg q j = 0) (hA : num B64 r + num B64 zs * num B64 q = A) (hk : k < c) (hg : g < B64)
    (hw : Like wr' (w2.setCell ⟨Hq, k, none⟩ (.int .u64 (g : Int)))) : LongInv w Hd Hr Hq m c zs A k wr' := by
  refine ⟨hw.below (hbel.setCell hq _), (hdiv.put (by exact hd) _).like hw, r1, q.set k g, (hr1.other (by exact hrq) _).alike hw, hl1, ho1, hlt, (hrq'.set k _).alike hw, by simp [hlq], hoq.set (by omega) hg, ?_, ?_⟩
  · intro j hj
    rw [dg_set _ _ _ _ (by omega), if_neg (by omega)]
    exact hz j (by omega)
  · exact long_put (by omega) (hz k (by omega)) hsum hA

def LongPost (w : World) (m q r : Nat) (e : Ending) (w' : World) : Prop :=
  ∃ v1 r1 v2 r2, e = .returned (.tuple #[v1, v2]) ∧ Own .u64 134 w' w.heap.size m v1 r1 ∧ Own .u64 134 w' w.heap.size m v2 r2 ∧ Is B64 r1 q ∧ Is B64 r2 r ∧ Below w.heap.size w w' ∧
    (v1.ownBlock = none ∨ v1.ownBlock ≠ v2.ownBlock)

theorem lead_shift {x : Nat} (h0 : x ≠ 0) (hx : x < B64) : ∃ s, s = 64 - Lib.bitLen x ∧ s ≤ 63 ∧ 2 ^ 63 ≤ x * 2 ^ s ∧ x * 2 ^ s < 2 ^ 64 := by
  obtain ⟨n, hn, hn1, hn2⟩ := bitsN_spec h0
  have hbl := bitLen_bits x (by rw [← B64_pow]; exact hx)
  have hle := bitsN_le hx
  refine ⟨63 - n, by omega, by omega, ?_, ?_⟩
  · have hp2 : 2 ^ n * 2 ^ (63 - n) = (2 : Nat) ^ 63 := by rw [← Nat.pow_add]; congr 1; omega
    rw [← hp2]; exact Nat.mul_le_mul_right _ hn1
  · have hp : 2 ^ (n + 1) * 2 ^ (63 - n) = (2 : Nat) ^ 64 := by rw [← Nat.pow_add]; congr 1; omega
    rw [← hp]; exact Nat.mul_lt_mul_of_pos_right hn2 (Nat.two_pow_pos _)

theorem num_top {b : Nat} {xs : List Nat} {n : Nat} (h : xs.length = n + 1) : num b xs = V b (dg xs) n + dg xs n * b ^ n := by unfold num; rw [h]; rfl

theorem long_divisor {ys yu : List Nat} {p s : Nat} (oy : Ok B64 ys) (hy : ys.length = p + 2) (ou : Ok B64 yu) (hs : 2 ^ 63 ≤ dg ys (p + 1) * 2 ^ s) (hs2 : dg ys (p + 1) * 2 ^ s < 2 ^ 64) (hn : num B64 yu = num B64 ys * 2 ^ s) :
    (trimmed yu).length = p + 2 ∧ B64 ≤ 2 * dg (trimmed yu) (p + 1) := by
  have hB : B64 = 2 ^ 64 := B64_pow
  have h63 : (2 : Nat) ^ 64 = 2 * 2 ^ 63 := by decide +kernel
  have hb : 0 < B64 := by decide
  have e1 := num_top (b := B64) hy
  have hV : V B64 (dg ys) (p + 1) < B64 ^ (p + 1) := V_lt _ (fun i _ => oy i)
  have hP : 0 < B64 ^ (p + 1) := Nat.pow_pos hb
  have lo : 2 ^ 63 * B64 ^ (p + 1) ≤ num B64 yu := by
    rw [hn, e1, Nat.add_mul]
    have := Nat.mul_le_mul_right (B64 ^ (p + 1)) hs
    rw [Nat.mul_right_comm] at this
    omega
  have hi : num B64 yu < B64 ^ (p + 2) := by
    rw [hn, e1]
    have a1 : (V B64 (dg ys) (p + 1) + dg ys (p + 1) * B64 ^ (p + 1)) < (dg ys (p + 1) + 1) * B64 ^ (p + 1) := by rw [Nat.add_mul]; omega
    have a2 := Nat.mul_lt_mul_of_pos_right a1 (Nat.two_pow_pos s)
    have hs64 : s ≤ 63 := by
      rcases Nat.lt_or_ge 63 s with h | h
      · have : 2 ^ 64 ≤ (2 : Nat) ^ s := Nat.pow_le_pow_right (by decide) h
        have : 1 * 2 ^ s ≤ dg ys (p + 1) * 2 ^ s := Nat.mul_le_mul_right _ (by
          rcases hd : dg ys (p + 1) with _ | d
          · rw [hd] at hs; simp at hs
          · omega)
        omega
      · exact h
    have a3 : (dg ys (p + 1) + 1) * 2 ^ s ≤ B64 := by
      have : 2 ^ 64 = 2 ^ (64 - s) * 2 ^ s := by rw [← Nat.pow_add]; congr 1; omega
      rw [hB]
      rw [this] at hs2 ⊢
      exact Nat.mul_le_mul_right _ (Nat.lt_of_mul_lt_mul_right hs2)
    have a4 := Nat.mul_le_mul_right (B64 ^ (p + 1)) a3
    rw [Nat.mul_right_comm] at a4
    rw [Nat.pow_succ B64 (p + 1), Nat.mul_comm (B64 ^ (p + 1))]
    exact Nat.lt_of_lt_of_le a2 a4
  have tt := trimmed_top yu
  have tn := num_trimmed B64 yu
  have tok1 := trimmed_ok ou
  have hlen : (trimmed yu).length = p + 2 := by
    have l1 := num_lt tok1
    rw [tn] at l1
    have a1 : p + 1 < (trimmed yu).length := by
      rcases Nat.lt_or_ge (p + 1) (trimmed yu).length with h | h
      · exact h
      · have := Nat.pow_le_pow_right hb h
        have : 1 * B64 ^ (p + 1) ≤ 2 ^ 63 * B64 ^ (p + 1) := Nat.mul_le_mul_right _ (by decide)
        omega
    rcases hl : (trimmed yu).length with _ | t
    · omega
    · have a2 := num_ge (b := B64) tt hl
      rw [tn] at a2
      have : t < p + 2 := by
        rcases Nat.lt_or_ge t (p + 2) with h | h
        · exact h
        · have := Nat.pow_le_pow_right hb h; omega
      omega
  refine ⟨hlen, ?_⟩
  have e2 := num_top (b := B64) hlen
  rw [tn] at e2
  have hV2 : V B64 (dg (trimmed yu)) (p + 1) < B64 ^ (p + 1) := V_lt _ (fun i _ => tok1 i)
  have : 2 ^ 63 * B64 ^ (p + 1) < (dg (trimmed yu) (p + 1) + 1) * B64 ^ (p + 1) := by rw [Nat.add_mul]; omega
  have := Nat.lt_of_mul_lt_mul_right this
  rw [hB, h63]
  omega

theorem long_start {xs zs : List Nat} {m p c s : Nat} (ox : Ok B64 xs) (hx : xs.length = m) (hz : zs.length = p + 2) (htop : B64 ≤ 2 * dg zs (p + 1)) (hc : c + (p + 2) = m + 1) (hs : s ≤ 63) : num B64 xs * 2 ^ s < num B64 zs * B64 ^ c := by
  have hB : B64 = 2 ^ 64 := B64_pow
  have h63 : (2 : Nat) ^ 64 = 2 * 2 ^ 63 := by decide +kernel
  have a1 := num_lt ox
  rw [hx] at a1
  have e1 := num_top (b := B64) hz
  have a2 : 2 ^ 63 * B64 ^ (p + 1) ≤ num B64 zs := by
    have := Nat.mul_le_mul_right (B64 ^ (p + 1)) (show 2 ^ 63 ≤ dg zs (p + 1) by omega)
    omega
  have a3 := Nat.mul_le_mul_right (B64 ^ c) a2
  rw [Nat.mul_assoc, ← Nat.pow_add, show p + 1 + c = m by omega] at a3
  have a4 : (2 : Nat) ^ s ≤ 2 ^ 63 := Nat.pow_le_pow_right (by decide) hs
  have a5 : num B64 xs * 2 ^ s < B64 ^ m * 2 ^ s := Nat.mul_lt_mul_of_pos_right a1 (Nat.two_pow_pos s)
  have a6 : B64 ^ m * 2 ^ s ≤ B64 ^ m * 2 ^ 63 := Nat.mul_le_mul_left _ a4
  rw [Nat.mul_comm (2 ^ 63)] at a3
  omega

theorem long_end {X Y q r s : Nat} (hr : r < Y * 2 ^ s) (h : r + Y * 2 ^ s * q = X * 2 ^ s) : q = X / Y ∧ r / 2 ^ s = X % Y ∧ 0 < Y := by
  have hs := Nat.two_pow_pos s
  have hY : 0 < Y := by rcases Y with _ | y; simp at hr; omega
  have hYs : 0 < Y * 2 ^ s := Nat.mul_pos hY hs
  have q1 : X * 2 ^ s / (Y * 2 ^ s) = q := by rw [← h, Nat.add_mul_div_left _ _ hYs, Nat.div_eq_of_lt hr, Nat.zero_add]
  have q2 : X * 2 ^ s % (Y * 2 ^ s) = r := by rw [← h, Nat.add_mul_mod_self_left, Nat.mod_eq_of_lt hr]
  rw [Nat.mul_div_mul_right _ _ hs] at q1
  rw [Nat.mul_mod_mul_right] at q2
  exact ⟨q1.symm, by rw [← q2, Nat.mul_div_cancel _ hs], hY⟩

theorem trimmed_small {xs : List Nat} {t : Nat} (h : num B64 xs < B64 ^ t) : (trimmed xs).length ≤ t := by
  rcases hl : (trimmed xs).length with _ | j
  · omega
  · have := num_ge (b := B64) (trimmed_top xs) hl
    rw [num_trimmed] at this
    rcases Nat.lt_or_ge j t with h' | h'
    · omega
    · have := Nat.pow_le_pow_right (show 0 < B64 by decide) h'; omega

end Go.Proofs.YtobloamnaemfnaaGreatDoor

namespace Go.Proofs.YtobloamnaemfnaaGreatDoor
open Go.RowKit

def decVal (d : DecT) : Value := .agg #[.int .i64 (d.cls : Int), .bool d.neg, .string ⟨d.dig.toArray⟩, .int .i64 d.exp]

theorem results_dec {fn : Func} {a : Tmp} (h : fn.results = #[.cell a 23]) (tmps : Array Value) (H : Nat) (x0 x1 x2 x3 : Value) (w : World) (ht : tmps.getD a undef = .pointer (some ⟨H, 0, none⟩)) (hp : Blk w H #[x0, x1, x2, x3] 23) :
    (results fn tmps).run Tryz.prog w = .ok (.agg #[x0, x1, x2, x3]) w := by
  have c0 := hp.cell 0
  have c1 := hp.cell 1
  have c2 := hp.cell 2
  have c3 := hp.cell 3
  simp at c0 c1 c2 c3
  rw [Array.getD_eq_getD_getElem?] at ht
  simp [results, h, ht, go_sem, c0, c1, c2, c3]

theorem below_put4 {w W : World} {H : Nat} (h : Below w.heap.size w W) (hH : w.heap.size ≤ H) (y0 y1 y2 y3 : Value) : Below w.heap.size w ((((W.setCell ⟨H, 0, none⟩ y0).setCell ⟨H, 1, none⟩ y1).setCell ⟨H, 2, none⟩ y2).setCell ⟨H, 3, none⟩ y3) :=
  (((h.setCell hH _).setCell hH _).setCell hH _).setCell hH _

theorem results_dec2 {fn : Func} {a c : Tmp} (h : fn.results = #[.cell a 23, .tmp c]) (tmps : Array Value) (H : Nat) (x0 x1 x2 x3 : Value) (w : World) (ht : tmps.getD a undef = .pointer (some ⟨H, 0, none⟩)) (hp : Blk w H #[x0, x1, x2, x3] 23) :
    (results fn tmps).run Tryz.prog w = .ok (.tuple #[.agg #[x0, x1, x2, x3], tmps.getD c undef]) w := by
  have c0 := hp.cell 0
  have c1 := hp.cell 1
  have c2 := hp.cell 2
  have c3 := hp.cell 3
  simp at c0 c1 c2 c3
  rw [Array.getD_eq_getD_getElem?] at ht
  simp [results, h, ht, go_sem, c0, c1, c2, c3]

theorem bdrewD (w : World) : Hid (Below w.heap.size w w.drew) := (Below.refl _ _).drew

end Go.Proofs.YtobloamnaemfnaaGreatDoor

namespace Go.Proofs.YtobloamnaemfnaaGreatDoor
open Go.RowKit

set_option maxHeartbeats 1000000 in
theorem mode_0 (ng od : Bool) (hf : Int) (w : World) (hh : hf = -1 ∨ hf = 0 ∨ hf = 1) : Calls Tryz.prog 232 #[.int .i64 0, .agg #[.bool ng, .bool od, .int .i64 hf]] w fun e w' => e = .returned (.bool (leavesB 0 ng od hf)) ∧ Below w.heap.size w w' := by
  rcases hh with rfl | rfl | rfl <;> cases ng <;> cases od
  all_goals
    go_enter Tryz.func232, Tryz.ntmps232
    go_wp2
    go_ret
    exact ⟨rfl, (Below.refl _ _).alloc (Nat.le_refl _) _⟩

set_option maxHeartbeats 1000000 in
theorem mode_1 (ng od : Bool) (hf : Int) (w : World) (hh : hf = -1 ∨ hf = 0 ∨ hf = 1) : Calls Tryz.prog 232 #[.int .i64 1, .agg #[.bool ng, .bool od, .int .i64 hf]] w fun e w' => e = .returned (.bool (leavesB 1 ng od hf)) ∧ Below w.heap.size w w' := by
  rcases hh with rfl | rfl | rfl <;> cases ng <;> cases od
  all_goals
    go_enter Tryz.func232, Tryz.ntmps232
    go_wp2
    go_ret
    exact ⟨rfl, (Below.refl _ _).alloc (Nat.le_refl _) _⟩

set_option maxHeartbeats 1000000 in
theorem mode_2 (ng od : Bool) (hf : Int) (w : World) (hh : hf = -1 ∨ hf = 0 ∨ hf = 1) : Calls Tryz.prog 233 #[.int .i64 2, .agg #[.bool ng, .bool od, .int .i64 hf]] w fun e w' => e = .returned (.bool (leavesB 2 ng od hf)) ∧ Below w.heap.size w w' := by
  rcases hh with rfl | rfl | rfl <;> cases ng <;> cases od
  all_goals
    go_enter Tryz.func233, Tryz.ntmps233
    go_wp2
    go_ret
    exact ⟨rfl, (Below.refl _ _).alloc (Nat.le_refl _) _⟩

set_option maxHeartbeats 1000000 in
theorem mode_3 (ng od : Bool) (hf : Int) (w : World) (hh : hf = -1 ∨ hf = 0 ∨ hf = 1) : Calls Tryz.prog 233 #[.int .i64 3, .agg #[.bool ng, .bool od, .int .i64 hf]] w fun e w' => e = .returned (.bool (leavesB 3 ng od hf)) ∧ Below w.heap.size w w' := by
  rcases hh with rfl | rfl | rfl <;> cases ng <;> cases od
  all_goals
    go_enter Tryz.func233, Tryz.ntmps233
    go_wp2
    go_ret
    exact ⟨rfl, (Below.refl _ _).alloc (Nat.le_refl _) _⟩

set_option maxHeartbeats 1000000 in
theorem mode_4 (ng od : Bool) (hf : Int) (w : World) (hh : hf = -1 ∨ hf = 0 ∨ hf = 1) : Calls Tryz.prog 234 #[.int .i64 4, .agg #[.bool ng, .bool od, .int .i64 hf]] w fun e w' => e = .returned (.bool (leavesB 4 ng od hf)) ∧ Below w.heap.size w w' := by
  rcases hh with rfl | rfl | rfl <;> cases ng <;> cases od
  all_goals
    go_enter Tryz.func234, Tryz.ntmps234
    go_wp2
    go_ret
    exact ⟨rfl, (Below.refl _ _).alloc (Nat.le_refl _) _⟩

set_option maxHeartbeats 1000000 in
theorem mode_5 (ng od : Bool) (hf : Int) (w : World) (hh : hf = -1 ∨ hf = 0 ∨ hf = 1) : Calls Tryz.prog 235 #[.int .i64 5, .agg #[.bool ng, .bool od, .int .i64 hf]] w fun e w' => e = .returned (.bool (leavesB 5 ng od hf)) ∧ Below w.heap.size w w' := by
  rcases hh with rfl | rfl | rfl <;> cases ng <;> cases od
  all_goals
    go_enter Tryz.func235, Tryz.ntmps235
    go_wp2
    go_ret
    exact ⟨rfl, (Below.refl _ _).alloc (Nat.le_refl _) _⟩

set_option maxHeartbeats 1000000 in
theorem mode_6 (ng od : Bool) (hf : Int) (w : World) (hh : hf = -1 ∨ hf = 0 ∨ hf = 1) : Calls Tryz.prog 235 #[.int .i64 6, .agg #[.bool ng, .bool od, .int .i64 hf]] w fun e w' => e = .returned (.bool (leavesB 6 ng od hf)) ∧ Below w.heap.size w w' := by
  rcases hh with rfl | rfl | rfl <;> cases ng <;> cases od
  all_goals
    go_enter Tryz.func235, Tryz.ntmps235
    go_wp2
    go_ret
    exact ⟨rfl, (Below.refl _ _).alloc (Nat.le_refl _) _⟩

set_option maxHeartbeats 1000000 in
theorem mode_7 (ng od : Bool) (hf : Int) (w : World) (hh : hf = -1 ∨ hf = 0 ∨ hf = 1) : Calls Tryz.prog 234 #[.int .i64 7, .agg #[.bool ng, .bool od, .int .i64 hf]] w fun e w' => e = .returned (.bool (leavesB 7 ng od hf)) ∧ Below w.heap.size w w' := by
  rcases hh with rfl | rfl | rfl <;> cases ng <;> cases od
  all_goals
    go_enter Tryz.func234, Tryz.ntmps234
    go_wp2
    go_ret
    exact ⟨rfl, (Below.refl _ _).alloc (Nat.le_refl _) _⟩

set_option maxHeartbeats 1000000 in
theorem leaves_0 (w : World) : Calls Tryz.prog 207 #[.int .i64 0] w fun e w' => e = .returned (.func (.func 232) #[.int .i64 0] #[]) ∧ Below w.heap.size w w' := by
  go_enter Tryz.func207, Tryz.ntmps207
  go_wp2
  go_ret
  exact ⟨rfl, (Below.refl _ _).alloc (Nat.le_refl _) _⟩

set_option maxHeartbeats 1000000 in
theorem leaves_1 (w : World) : Calls Tryz.prog 207 #[.int .i64 1] w fun e w' => e = .returned (.func (.func 232) #[.int .i64 1] #[]) ∧ Below w.heap.size w w' := by
  go_enter Tryz.func207, Tryz.ntmps207
  go_wp2
  go_ret
  exact ⟨rfl, (Below.refl _ _).alloc (Nat.le_refl _) _⟩

set_option maxHeartbeats 1000000 in
theorem leaves_2 (w : World) : Calls Tryz.prog 207 #[.int .i64 2] w fun e w' => e = .returned (.func (.func 233) #[.int .i64 2] #[]) ∧ Below w.heap.size w w' := by
  go_enter Tryz.func207, Tryz.ntmps207
  go_wp2
  go_ret
  exact ⟨rfl, (Below.refl _ _).alloc (Nat.le_refl _) _⟩

set_option maxHeartbeats 1000000 in
theorem leaves_3 (w : World) : Calls Tryz.prog 207 #[.int .i64 3] w fun e w' => e = .returned (.func (.func 233) #[.int .i64 3] #[]) ∧ Below w.heap.size w w' := by
  go_enter Tryz.func207, Tryz.ntmps207
  go_wp2
  go_ret
  exact ⟨rfl, (Below.refl _ _).alloc (Nat.le_refl _) _⟩

set_option maxHeartbeats 1000000 in
theorem leaves_4 (w : World) : Calls Tryz.prog 207 #[.int .i64 4] w fun e w' => e = .returned (.func (.func 234) #[.int .i64 4] #[]) ∧ Below w.heap.size w w' := by
  go_enter Tryz.func207, Tryz.ntmps207
  go_wp2
  go_ret
  exact ⟨rfl, (Below.refl _ _).alloc (Nat.le_refl _) _⟩

set_option maxHeartbeats 1000000 in
theorem leaves_5 (w : World) : Calls Tryz.prog 207 #[.int .i64 5] w fun e w' => e = .returned (.func (.func 235) #[.int .i64 5] #[]) ∧ Below w.heap.size w w' := by
  go_enter Tryz.func207, Tryz.ntmps207
  go_wp2
  go_ret
  exact ⟨rfl, (Below.refl _ _).alloc (Nat.le_refl _) _⟩

set_option maxHeartbeats 1000000 in
theorem leaves_6 (w : World) : Calls Tryz.prog 207 #[.int .i64 6] w fun e w' => e = .returned (.func (.func 235) #[.int .i64 6] #[]) ∧ Below w.heap.size w w' := by
  go_enter Tryz.func207, Tryz.ntmps207
  go_wp2
  go_ret
  exact ⟨rfl, (Below.refl _ _).alloc (Nat.le_refl _) _⟩

set_option maxHeartbeats 1000000 in
theorem leaves_7 (w : World) : Calls Tryz.prog 207 #[.int .i64 7] w fun e w' => e = .returned (.func (.func 234) #[.int .i64 7] #[]) ∧ Below w.heap.size w w' := by
  go_enter Tryz.func207, Tryz.ntmps207
  go_wp2
  go_ret
  exact ⟨rfl, (Below.refl _ _).alloc (Nat.le_refl _) _⟩

end Go.Proofs.YtobloamnaemfnaaGreatDoor

namespace Go.Proofs.YtobloamnaemfnaaGreatDoor
open Go.RowKit

abbrev dcV (c : Int) (neg : Bool) (t : ByteArray) (e : Int) : Value := .agg #[.int .i64 c, .bool neg, .string t, .int .i64 e]

theorem size_nil {t : ByteArray} (h : t.size = 0) : t = ⟨#[]⟩ := by
  cases t with | mk d => simp [ByteArray.size] at h; rw [h]

theorem toList_ne {t : ByteArray} (h : t.size ≠ 0) : (t.toList == []) = false := by
  have : t.toList ≠ [] := fun e => h (by
    rw [ByteArray.toList_eq] at e
    have h1 := congrArg List.length e
    rw [← bys_len]
    exact h1)
  cases hl : t.toList with
  | nil => exact absurd hl this
  | cons a l => rfl

theorem bare_yes (c : Int) (neg : Bool) (w : World) : Calls Tryz.prog 108 #[dcV c neg ⟨#[]⟩ 0] w fun e w' => e = .returned (.bool true) ∧ Below w.heap.size w w' := by
  go_enter Tryz.func108, Tryz.ntmps108
  go_wp2
  go_ret
  exact ⟨rfl, (Below.refl _ _).alloc (Nat.le_refl _) _⟩

theorem bare_exp (c ex : Int) (neg : Bool) (w : World) (h : ¬ ex = 0) : Calls Tryz.prog 108 #[dcV c neg ⟨#[]⟩ ex] w fun e w' => e = .returned (.bool false) ∧ Below w.heap.size w w' := by
  have h' : (ex == 0) = false := by simpa using h
  go_enter Tryz.func108, Tryz.ntmps108
  go_wp2
  go_ret
  exact ⟨rfl, (Below.refl _ _).alloc (Nat.le_refl _) _⟩

theorem bare_dig (c ex : Int) (neg : Bool) (t : ByteArray) (w : World) (h : t.size ≠ 0) : Calls Tryz.prog 108 #[dcV c neg t ex] w fun e w' => e = .returned (.bool false) ∧ Below w.heap.size w w' := by
  have h2 := toList_ne h
  clear h
  go_enter Tryz.func108, Tryz.ntmps108
  go_wp2
  go_ret
  exact ⟨rfl, (Below.refl _ _).alloc (Nat.le_refl _) _⟩

theorem bare_no (c ex : Int) (neg : Bool) (t : ByteArray) (w : World) (h : ¬ (t.size = 0 ∧ ex = 0)) : Calls Tryz.prog 108 #[dcV c neg t ex] w fun e w' => e = .returned (.bool false) ∧ Below w.heap.size w w' := by
  by_cases h0 : t.size = 0
  · rw [size_nil h0]; exact bare_exp c ex neg w (fun e => h ⟨h0, e⟩)
  · exact bare_dig c ex neg t w h0

set_option maxHeartbeats 1000000 in
theorem digits_yes (t : ByteArray) (n : Nat) (w : World) (hn : t.size = n) (hm : n ≤ 1000) (hd : DigB (bys t)) : Calls Tryz.prog 150 #[.string t] w fun e w' => e = .returned (.bool true) ∧ w = w' := by
  have HD := hide hd
  have HL : Hid ((bys t).length = n) := by rw [← hn]; exact bys_len t
  clear hd
  go_enter Tryz.func150, Tryz.ntmps150
  go_wp2
  go_loopw [6] (fun i wr => ∃ k : Nat, k ≤ n ∧ i = .int .i64 (k : Int) ∧ wr = w) (fun i _ => n - (intOf i).toNat)
  case atStart => exact ⟨0, Nat.zero_le _, rfl, rfl⟩
  case round =>
    obtain ⟨k, hk, rfl, rfl⟩ := hrel
    by_cases hlt : k < n
    · have hlt' : (k : Int) < (t.size : Int) := by omega
      have hks : k < t.size := by omega
      have hg : ∀ h : k < t.size, t[k].toNat = byt (bys t) k := fun h => byt_get t k h
      have hb := HD.out k (by rw [HL.out]; exact hlt)
      obtain ⟨b, hbb⟩ : ∃ b, b = byt (bys t) k := ⟨_, rfl⟩
      rw [← hbb] at hg hb
      have h1' : ¬ (b : Int) < 48 := by omega
      have h2' : ¬ (57 : Int) < (b : Int) := by omega
      clear hbb
      go_wp2
      exact ⟨⟨k + 1, by omega, by go_num, trivial⟩, by simp [intOf]; omega⟩
    · have hlt' : ¬ (k : Int) < (t.size : Int) := by omega
      go_wp2
      go_ret
      exact ⟨rfl, rfl⟩

set_option maxHeartbeats 1000000 in
theorem digits_no (t : ByteArray) (n j : Nat) (w : World) (hn : t.size = n) (hm : n ≤ 1000) (hj : j < n) (hd : ¬ (48 ≤ byt (bys t) j ∧ byt (bys t) j ≤ 57)) : Calls Tryz.prog 150 #[.string t] w fun e w' => e = .returned (.bool false) ∧ w = w' := by
  have HD := hide hd
  clear hd
  go_enter Tryz.func150, Tryz.ntmps150
  go_wp2
  go_loopw [6] (fun i wr => ∃ k : Nat, k ≤ j ∧ i = .int .i64 (k : Int) ∧ wr = w) (fun i _ => n - (intOf i).toNat)
  case atStart => exact ⟨0, Nat.zero_le _, rfl, rfl⟩
  case round =>
    obtain ⟨k, hk, rfl, rfl⟩ := hrel
    have hlt' : (k : Int) < (t.size : Int) := by omega
    have hks : k < t.size := by omega
    have hg : ∀ h : k < t.size, t[k].toNat = byt (bys t) k := fun h => byt_get t k h
    obtain ⟨b, hbb⟩ : ∃ b, b = byt (bys t) k := ⟨_, rfl⟩
    rw [← hbb] at hg
    have HBB := hide hbb
    clear hbb
    by_cases h1 : b < 48
    · have h1' : (b : Int) < 48 := by omega
      go_wp2
      go_ret
      exact ⟨rfl, rfl⟩
    · have h1' : ¬ (b : Int) < 48 := by omega
      by_cases h2 : 57 < b
      · have h2' : (57 : Int) < (b : Int) := by omega
        go_wp2
        go_ret
        exact ⟨rfl, rfl⟩
      · have h2' : ¬ (57 : Int) < (b : Int) := by omega
        have hne : k ≠ j := fun e => HD.out (by rw [← e, ← HBB.out]; omega)
        go_wp2
        exact ⟨⟨k + 1, by omega, by go_num, trivial⟩, by simp [intOf]; omega⟩

def DigD (dig : List UInt8) (e : Int) : Prop :=
  dig ≠ [] ∧ dig.length ≤ 1000 ∧ -2000 ≤ e + dig.length ∧ e + dig.length ≤ 2000 ∧ byt dig 0 ≠ 48 ∧ byt dig (dig.length - 1) ≠ 48 ∧ DigB dig

theorem bys_nil {t : ByteArray} : bys t = [] ↔ t.size = 0 := by
  rw [← bys_len]; exact List.length_eq_zero_iff.symm

set_option maxRecDepth 100000 in
set_option maxHeartbeats 1000000 in
theorem mdig_yes (t : ByteArray) (ex : Int) (w : World) (h : DigD (bys t) ex) : Calls Tryz.prog 109 #[.string t, .int .i64 ex] w fun e w' => e = .returned (.bool true) ∧ w = w' := by
  obtain ⟨h0, h1, h2, h3, h4, h5, h6⟩ := h
  rw [bys_len] at h1 h2 h3 h5
  have hn0 : t.size ≠ 0 := fun e => h0 (bys_nil.2 e)
  obtain ⟨j, hj⟩ : ∃ j, t.size = j + 1 := ⟨t.size - 1, by omega⟩
  have DG := hide (digits_yes t (j + 1) w hj (by omega) h6)
  have hg0 : ∀ h : 0 < t.size, t[0].toNat = byt (bys t) 0 := fun h => byt_get t 0 h
  have hgz : ∀ h : j < t.size, t[j].toNat = byt (bys t) j := fun h => byt_get t j h
  rw [show t.size - 1 = j by omega] at h5
  obtain ⟨a, ha⟩ : ∃ b, b = byt (bys t) 0 := ⟨_, rfl⟩
  obtain ⟨z, hz⟩ : ∃ b, b = byt (bys t) j := ⟨_, rfl⟩
  rw [← ha] at hg0 h4
  rw [← hz] at hgz h5
  have hp0 : 0 < t.size := by omega
  have hp1 : j < t.size := by omega
  have hp1' : (j : Int) < (t.size : Int) := by omega
  have e0 : ((j : Int) + 1 == 0) = false := by
    have : ¬ (j : Int) + 1 = 0 := by omega
    simpa using this
  have e1 : decide ((1000 : Int) < (j : Int) + 1) = false := decide_eq_false (by omega)
  have e2 : decide (ex < -2000 - ((j : Int) + 1)) = false := decide_eq_false (by omega)
  have e3 : decide (2000 - ((j : Int) + 1) < ex) = false := decide_eq_false (by omega)
  have c1 : ((a : Int) != 48) = true := by
    have : ¬ (a : Int) = 48 := by omega
    simpa using this
  have c2 : ((z : Int) != 48) = true := by
    have : ¬ (z : Int) = 48 := by omega
    simpa using this
  clear ha hz h4 h5 h0 h6
  go_enter Tryz.func109, Tryz.ntmps109
  go_wp2_with fail
  refine DG.out.mono ?_
  rintro e w1 ⟨rfl, rfl⟩
  clear DG
  go_wp2
  go_ret
  exact ⟨rfl, rfl⟩

theorem mdig_nil (ex : Int) (w : World) : Calls Tryz.prog 109 #[.string ⟨#[]⟩, .int .i64 ex] w fun e w' => e = .returned (.bool false) ∧ w = w' := by
  go_enter Tryz.func109, Tryz.ntmps109
  go_wp2
  go_ret
  exact ⟨rfl, rfl⟩

set_option maxRecDepth 100000 in
set_option maxHeartbeats 1000000 in
theorem mdig_long (t : ByteArray) (ex : Int) (w : World) (h : 1000 < t.size) : Calls Tryz.prog 109 #[.string t, .int .i64 ex] w fun e w' => e = .returned (.bool false) ∧ w = w' := by
  have e0 : ((t.size : Int) == 0) = false := by
    have : ¬ (t.size : Int) = 0 := by omega
    simpa using this
  have e1 : decide ((1000 : Int) < (t.size : Int)) = true := decide_eq_true (by omega)
  go_enter Tryz.func109, Tryz.ntmps109
  go_wp2
  go_ret
  exact ⟨rfl, rfl⟩

set_option maxRecDepth 100000 in
set_option maxHeartbeats 1000000 in
theorem mdig_low (t : ByteArray) (ex : Int) (w : World) (j : Nat) (hj : t.size = j + 1) (h : j + 1 ≤ 1000) (he : ex < -2000 - ((j : Int) + 1)) : Calls Tryz.prog 109 #[.string t, .int .i64 ex] w fun e w' => e = .returned (.bool false) ∧ w = w' := by
  have e0 : ((j : Int) + 1 == 0) = false := by
    have : ¬ (j : Int) + 1 = 0 := by omega
    simpa using this
  have e1 : decide ((1000 : Int) < (j : Int) + 1) = false := decide_eq_false (by omega)
  have e2 : decide (ex < -2000 - ((j : Int) + 1)) = true := decide_eq_true (by omega)
  go_enter Tryz.func109, Tryz.ntmps109
  go_wp2
  go_ret
  exact ⟨rfl, rfl⟩

set_option maxRecDepth 100000 in
set_option maxHeartbeats 1000000 in
theorem mdig_high (t : ByteArray) (ex : Int) (w : World) (j : Nat) (hj : t.size = j + 1) (h : j + 1 ≤ 1000) (he : 2000 - ((j : Int) + 1) < ex) : Calls Tryz.prog 109 #[.string t, .int .i64 ex] w fun e w' => e = .returned (.bool false) ∧ w = w' := by
  have e0 : ((j : Int) + 1 == 0) = false := by
    have : ¬ (j : Int) + 1 = 0 := by omega
    simpa using this
  have e1 : decide ((1000 : Int) < (j : Int) + 1) = false := decide_eq_false (by omega)
  have e2 : decide (ex < -2000 - ((j : Int) + 1)) = false := decide_eq_false (by omega)
  have e3 : decide (2000 - ((j : Int) + 1) < ex) = true := decide_eq_true (by omega)
  go_enter Tryz.func109, Tryz.ntmps109
  go_wp2
  go_ret
  exact ⟨rfl, rfl⟩

set_option maxRecDepth 100000 in
set_option maxHeartbeats 1000000 in
theorem mdig_first (t : ByteArray) (ex : Int) (w : World) (j : Nat) (hj : t.size = j + 1) (h : j + 1 ≤ 1000) (hl : -2000 - ((j : Int) + 1) ≤ ex) (he : ex ≤ 2000 - ((j : Int) + 1)) (hf : byt (bys t) 0 = 48) : Calls Tryz.prog 109 #[.string t, .int .i64 ex] w fun e w' => e = .returned (.bool false) ∧ w = w' := by
  have e0 : ((j : Int) + 1 == 0) = false := by
    have : ¬ (j : Int) + 1 = 0 := by omega
    simpa using this
  have e1 : decide ((1000 : Int) < (j : Int) + 1) = false := decide_eq_false (by omega)
  have e2 : decide (ex < -2000 - ((j : Int) + 1)) = false := decide_eq_false (by omega)
  have e3 : decide (2000 - ((j : Int) + 1) < ex) = false := decide_eq_false (by omega)
  have hg0 : ∀ h : 0 < t.size, t[0].toNat = byt (bys t) 0 := fun h => byt_get t 0 h
  have hgz : ∀ h : j < t.size, t[j].toNat = byt (bys t) j := fun h => byt_get t j h
  have hp0 : 0 < t.size := by omega
  have hp1 : j < t.size := by omega
  have hp1' : (j : Int) < (t.size : Int) := by omega
  obtain ⟨a, ha⟩ : ∃ b, b = byt (bys t) 0 := ⟨_, rfl⟩
  obtain ⟨z, hz⟩ : ∃ b, b = byt (bys t) j := ⟨_, rfl⟩
  rw [← ha] at hg0
  rw [← hz] at hgz
  rw [← ha] at hf
  have ca : ((a : Int) != 48) = false := by
    have : (a : Int) = 48 := by omega
    rw [this]; rfl
  clear ha hz hf
  go_enter Tryz.func109, Tryz.ntmps109
  go_wp2
  go_ret
  exact ⟨rfl, rfl⟩

set_option maxRecDepth 100000 in
set_option maxHeartbeats 1000000 in
theorem mdig_last (t : ByteArray) (ex : Int) (w : World) (j : Nat) (hj : t.size = j + 1) (h : j + 1 ≤ 1000) (hl : -2000 - ((j : Int) + 1) ≤ ex) (he : ex ≤ 2000 - ((j : Int) + 1)) (hf : byt (bys t) 0 ≠ 48) (hla : byt (bys t) j = 48) : Calls Tryz.prog 109 #[.string t, .int .i64 ex] w fun e w' => e = .returned (.bool false) ∧ w = w' := by
  have e0 : ((j : Int) + 1 == 0) = false := by
    have : ¬ (j : Int) + 1 = 0 := by omega
    simpa using this
  have e1 : decide ((1000 : Int) < (j : Int) + 1) = false := decide_eq_false (by omega)
  have e2 : decide (ex < -2000 - ((j : Int) + 1)) = false := decide_eq_false (by omega)
  have e3 : decide (2000 - ((j : Int) + 1) < ex) = false := decide_eq_false (by omega)
  have hg0 : ∀ h : 0 < t.size, t[0].toNat = byt (bys t) 0 := fun h => byt_get t 0 h
  have hgz : ∀ h : j < t.size, t[j].toNat = byt (bys t) j := fun h => byt_get t j h
  have hp0 : 0 < t.size := by omega
  have hp1 : j < t.size := by omega
  have hp1' : (j : Int) < (t.size : Int) := by omega
  obtain ⟨a, ha⟩ : ∃ b, b = byt (bys t) 0 := ⟨_, rfl⟩
  obtain ⟨z, hz⟩ : ∃ b, b = byt (bys t) j := ⟨_, rfl⟩
  rw [← ha] at hg0
  rw [← hz] at hgz
  rw [← ha] at hf
  rw [← hz] at hla
  have ca : ((a : Int) != 48) = true := by
    have : ¬ (a : Int) = 48 := by omega
    simpa using this
  have cz : ((z : Int) != 48) = false := by
    have : (z : Int) = 48 := by omega
    rw [this]; rfl
  clear ha hz hf hla
  go_enter Tryz.func109, Tryz.ntmps109
  go_wp2
  go_ret
  exact ⟨rfl, rfl⟩

set_option maxRecDepth 100000 in
set_option maxHeartbeats 1000000 in
theorem mdig_bad (t : ByteArray) (ex : Int) (w : World) (j : Nat) (hj : t.size = j + 1) (h : j + 1 ≤ 1000) (hl : -2000 - ((j : Int) + 1) ≤ ex) (he : ex ≤ 2000 - ((j : Int) + 1)) (k : Nat) (hk : k < j + 1) (hf : byt (bys t) 0 ≠ 48) (hla : byt (bys t) j ≠ 48) (hd : ¬ (48 ≤ byt (bys t) k ∧ byt (bys t) k ≤ 57)) : Calls Tryz.prog 109 #[.string t, .int .i64 ex] w fun e w' => e = .returned (.bool false) ∧ w = w' := by
  have DG := hide (digits_no t (j + 1) k w hj h hk hd)
  have e0 : ((j : Int) + 1 == 0) = false := by
    have : ¬ (j : Int) + 1 = 0 := by omega
    simpa using this
  have e1 : decide ((1000 : Int) < (j : Int) + 1) = false := decide_eq_false (by omega)
  have e2 : decide (ex < -2000 - ((j : Int) + 1)) = false := decide_eq_false (by omega)
  have e3 : decide (2000 - ((j : Int) + 1) < ex) = false := decide_eq_false (by omega)
  have hg0 : ∀ h : 0 < t.size, t[0].toNat = byt (bys t) 0 := fun h => byt_get t 0 h
  have hgz : ∀ h : j < t.size, t[j].toNat = byt (bys t) j := fun h => byt_get t j h
  have hp0 : 0 < t.size := by omega
  have hp1 : j < t.size := by omega
  have hp1' : (j : Int) < (t.size : Int) := by omega
  obtain ⟨a, ha⟩ : ∃ b, b = byt (bys t) 0 := ⟨_, rfl⟩
  obtain ⟨z, hz⟩ : ∃ b, b = byt (bys t) j := ⟨_, rfl⟩
  rw [← ha] at hg0
  rw [← hz] at hgz
  rw [← ha] at hf
  rw [← hz] at hla
  have ca : ((a : Int) != 48) = true := by
    have : ¬ (a : Int) = 48 := by omega
    simpa using this
  have cz : ((z : Int) != 48) = true := by
    have : ¬ (z : Int) = 48 := by omega
    simpa using this
  clear ha hz hf hla hd
  go_enter Tryz.func109, Tryz.ntmps109
  go_wp2_with fail
  refine DG.out.mono ?_
  rintro e w1 ⟨rfl, rfl⟩
  clear DG
  go_wp2
  go_ret
  exact ⟨rfl, rfl⟩

theorem mdig_no (t : ByteArray) (ex : Int) (w : World) (h : ¬ DigD (bys t) ex) : Calls Tryz.prog 109 #[.string t, .int .i64 ex] w fun e w' => e = .returned (.bool false) ∧ w = w' := by
  by_cases h0 : t.size = 0
  · rw [size_nil h0]; exact mdig_nil ex w
  · obtain ⟨j, hj⟩ : ∃ j, t.size = j + 1 := ⟨t.size - 1, by omega⟩
    rcases Nat.lt_or_ge 1000 t.size with h1 | h1
    · exact mdig_long t ex w h1
    · by_cases h2 : ex < -2000 - ((j : Int) + 1)
      · exact mdig_low t ex w j hj (by omega) h2
      · by_cases h3 : 2000 - ((j : Int) + 1) < ex
        · exact mdig_high t ex w j hj (by omega) h3
        · by_cases h4 : byt (bys t) 0 = 48
          · exact mdig_first t ex w j hj (by omega) (by omega) (by omega) h4
          · by_cases h5 : byt (bys t) j = 48
            · exact mdig_last t ex w j hj (by omega) (by omega) (by omega) h4 h5
            · have hd : ¬ DigB (bys t) := by
                intro hd
                apply h
                unfold DigD
                rw [bys_len, hj]
                exact ⟨fun e => h0 (bys_nil.1 e), by omega, by omega, by omega, h4, by rw [Nat.add_sub_cancel]; exact h5, hd⟩
              obtain ⟨k, hk⟩ := Classical.not_forall.1 hd
              obtain ⟨hk1, hk2⟩ := Classical.not_imp.1 hk
              rw [bys_len, hj] at hk1
              exact mdig_bad t ex w j hj (by omega) (by omega) (by omega) k hk1 h4 h5 hk2

theorem mayD_0 (neg : Bool) (t : ByteArray) (ex : Int) : MayD 0 neg (bys t) ex ↔ ((t.size = 0 ∧ ex = 0) ∨ DigD (bys t) ex) := by
  unfold MayD DigD
  rw [bys_nil]
  constructor
  · rintro (⟨_, h⟩ | ⟨h, _⟩ | ⟨h, _⟩)
    · exact h
    · omega
    · omega
  · intro h; exact .inl ⟨rfl, h⟩

set_option maxHeartbeats 1000000 in
theorem may0_bare (neg : Bool) (w : World) : Calls Tryz.prog 60 #[dcV 0 neg ⟨#[]⟩ 0] w fun e w' => e = .returned (.bool true) ∧ Below w.heap.size w w' := by
  have HB0 : Hid (Below w.heap.size w (w.alloc (.cells #[.int .i64 0, .bool neg, .string ⟨#[]⟩, .int .i64 0] 23))) := (Below.refl _ _).alloc (Nat.le_refl _) _
  have BLK := hide (Blk.new w #[.int .i64 0, .bool neg, .string ⟨#[]⟩, .int .i64 0] 23)
  go_enter Tryz.func60, Tryz.ntmps60
  go_wp2_with fail
  refine (bare_yes 0 neg _).mono ?_
  rintro e w1 ⟨rfl, hb⟩
  have q := BLK.out.below hb BLK.out.lt
  have k1 : w1.cell? ⟨w.heap.size, 1, none⟩ = some (.bool neg) := q.cell 1
  have k2 : w1.cell? ⟨w.heap.size, 2, none⟩ = some (.string ⟨#[]⟩) := q.cell 2
  have k3 : w1.cell? ⟨w.heap.size, 3, none⟩ = some (.int .i64 0) := q.cell 3
  have HB1 : Hid (Below w.heap.size w w1) := HB0.out.trans (hb.mono HB0.out.size)
  clear q hb BLK HB0
  go_wp2
  go_ret
  exact ⟨rfl, HB1.out⟩

set_option maxHeartbeats 1000000 in
theorem may0_yes (neg : Bool) (t : ByteArray) (ex : Int) (w : World) (hb : ¬ (t.size = 0 ∧ ex = 0)) (hd : DigD (bys t) ex) : Calls Tryz.prog 60 #[dcV 0 neg t ex] w fun e w' => e = .returned (.bool true) ∧ Below w.heap.size w w' := by
  have BA := hide (fun W => bare_no 0 ex neg t W hb)
  have MD := hide (fun W => mdig_yes t ex W hd)
  clear hb hd
  have HB0 : Hid (Below w.heap.size w (w.alloc (.cells #[.int .i64 0, .bool neg, .string t, .int .i64 ex] 23))) := (Below.refl _ _).alloc (Nat.le_refl _) _
  have BLK := hide (Blk.new w #[.int .i64 0, .bool neg, .string t, .int .i64 ex] 23)
  go_enter Tryz.func60, Tryz.ntmps60
  go_wp2_with fail
  refine (BA.out _).mono ?_
  rintro e w1 ⟨rfl, hb⟩
  have q := BLK.out.below hb BLK.out.lt
  have k1 : w1.cell? ⟨w.heap.size, 1, none⟩ = some (.bool neg) := q.cell 1
  have k2 : w1.cell? ⟨w.heap.size, 2, none⟩ = some (.string t) := q.cell 2
  have k3 : w1.cell? ⟨w.heap.size, 3, none⟩ = some (.int .i64 ex) := q.cell 3
  have HB1 : Hid (Below w.heap.size w w1) := HB0.out.trans (hb.mono HB0.out.size)
  clear q hb BLK HB0
  go_wp2_with fail
  refine (MD.out _).mono ?_
  rintro e w2 ⟨rfl, rfl⟩
  go_wp2
  go_ret
  exact ⟨rfl, HB1.out⟩

set_option maxHeartbeats 1000000 in
theorem may0_no (neg : Bool) (t : ByteArray) (ex : Int) (w : World) (hb : ¬ (t.size = 0 ∧ ex = 0)) (hd : ¬ DigD (bys t) ex) : Calls Tryz.prog 60 #[dcV 0 neg t ex] w fun e w' => e = .returned (.bool false) ∧ Below w.heap.size w w' := by
  have BA := hide (fun W => bare_no 0 ex neg t W hb)
  have MD := hide (fun W => mdig_no t ex W hd)
  clear hb hd
  have HB0 : Hid (Below w.heap.size w (w.alloc (.cells #[.int .i64 0, .bool neg, .string t, .int .i64 ex] 23))) := (Below.refl _ _).alloc (Nat.le_refl _) _
  have BLK := hide (Blk.new w #[.int .i64 0, .bool neg, .string t, .int .i64 ex] 23)
  go_enter Tryz.func60, Tryz.ntmps60
  go_wp2_with fail
  refine (BA.out _).mono ?_
  rintro e w1 ⟨rfl, hb⟩
  have q := BLK.out.below hb BLK.out.lt
  have k1 : w1.cell? ⟨w.heap.size, 1, none⟩ = some (.bool neg) := q.cell 1
  have k2 : w1.cell? ⟨w.heap.size, 2, none⟩ = some (.string t) := q.cell 2
  have k3 : w1.cell? ⟨w.heap.size, 3, none⟩ = some (.int .i64 ex) := q.cell 3
  have HB1 : Hid (Below w.heap.size w w1) := HB0.out.trans (hb.mono HB0.out.size)
  clear q hb BLK HB0
  go_wp2_with fail
  refine (MD.out _).mono ?_
  rintro e w2 ⟨rfl, rfl⟩
  go_wp2
  go_ret
  exact ⟨rfl, HB1.out⟩

set_option maxHeartbeats 1000000 in
theorem may1_yes (neg : Bool) (w : World) : Calls Tryz.prog 60 #[dcV 1 neg ⟨#[]⟩ 0] w fun e w' => e = .returned (.bool true) ∧ Below w.heap.size w w' := by
  have HB0 : Hid (Below w.heap.size w (w.alloc (.cells #[.int .i64 1, .bool neg, .string ⟨#[]⟩, .int .i64 0] 23))) := (Below.refl _ _).alloc (Nat.le_refl _) _
  have BLK := hide (Blk.new w #[.int .i64 1, .bool neg, .string ⟨#[]⟩, .int .i64 0] 23)
  go_enter Tryz.func60, Tryz.ntmps60
  go_wp2_with fail
  refine (bare_yes 1 neg _).mono ?_
  rintro e w1 ⟨rfl, hb⟩
  have q := BLK.out.below hb BLK.out.lt
  have k1 : w1.cell? ⟨w.heap.size, 1, none⟩ = some (.bool neg) := q.cell 1
  have k2 : w1.cell? ⟨w.heap.size, 2, none⟩ = some (.string ⟨#[]⟩) := q.cell 2
  have k3 : w1.cell? ⟨w.heap.size, 3, none⟩ = some (.int .i64 0) := q.cell 3
  have HB1 : Hid (Below w.heap.size w w1) := HB0.out.trans (hb.mono HB0.out.size)
  clear q hb BLK HB0
  go_wp2
  go_ret
  exact ⟨rfl, HB1.out⟩

set_option maxHeartbeats 1000000 in
theorem may1_no (neg : Bool) (t : ByteArray) (ex : Int) (w : World) (hb : ¬ (t.size = 0 ∧ ex = 0)) : Calls Tryz.prog 60 #[dcV 1 neg t ex] w fun e w' => e = .returned (.bool false) ∧ Below w.heap.size w w' := by
  have BA := hide (fun W => bare_no 1 ex neg t W hb)
  clear hb
  have HB0 : Hid (Below w.heap.size w (w.alloc (.cells #[.int .i64 1, .bool neg, .string t, .int .i64 ex] 23))) := (Below.refl _ _).alloc (Nat.le_refl _) _
  have BLK := hide (Blk.new w #[.int .i64 1, .bool neg, .string t, .int .i64 ex] 23)
  go_enter Tryz.func60, Tryz.ntmps60
  go_wp2_with fail
  refine (BA.out _).mono ?_
  rintro e w1 ⟨rfl, hb⟩
  have q := BLK.out.below hb BLK.out.lt
  have k1 : w1.cell? ⟨w.heap.size, 1, none⟩ = some (.bool neg) := q.cell 1
  have k2 : w1.cell? ⟨w.heap.size, 2, none⟩ = some (.string t) := q.cell 2
  have k3 : w1.cell? ⟨w.heap.size, 3, none⟩ = some (.int .i64 ex) := q.cell 3
  have HB1 : Hid (Below w.heap.size w w1) := HB0.out.trans (hb.mono HB0.out.size)
  clear q hb BLK HB0
  go_wp2
  go_ret
  exact ⟨rfl, HB1.out⟩

set_option maxHeartbeats 1000000 in
theorem may2_yes (w : World) : Calls Tryz.prog 60 #[dcV 2 false ⟨#[]⟩ 0] w fun e w' => e = .returned (.bool true) ∧ Below w.heap.size w w' := by
  have HB0 : Hid (Below w.heap.size w (w.alloc (.cells #[.int .i64 2, .bool false, .string ⟨#[]⟩, .int .i64 0] 23))) := (Below.refl _ _).alloc (Nat.le_refl _) _
  have BLK := hide (Blk.new w #[.int .i64 2, .bool false, .string ⟨#[]⟩, .int .i64 0] 23)
  go_enter Tryz.func60, Tryz.ntmps60
  go_wp2_with fail
  refine (bare_yes 2 false _).mono ?_
  rintro e w1 ⟨rfl, hb⟩
  have q := BLK.out.below hb BLK.out.lt
  have k1 : w1.cell? ⟨w.heap.size, 1, none⟩ = some (.bool false) := q.cell 1
  have k2 : w1.cell? ⟨w.heap.size, 2, none⟩ = some (.string ⟨#[]⟩) := q.cell 2
  have k3 : w1.cell? ⟨w.heap.size, 3, none⟩ = some (.int .i64 0) := q.cell 3
  have HB1 : Hid (Below w.heap.size w w1) := HB0.out.trans (hb.mono HB0.out.size)
  clear q hb BLK HB0
  go_wp2
  go_ret
  exact ⟨rfl, HB1.out⟩

set_option maxHeartbeats 1000000 in
theorem may2_neg (w : World) : Calls Tryz.prog 60 #[dcV 2 true ⟨#[]⟩ 0] w fun e w' => e = .returned (.bool false) ∧ Below w.heap.size w w' := by
  have HB0 : Hid (Below w.heap.size w (w.alloc (.cells #[.int .i64 2, .bool true, .string ⟨#[]⟩, .int .i64 0] 23))) := (Below.refl _ _).alloc (Nat.le_refl _) _
  have BLK := hide (Blk.new w #[.int .i64 2, .bool true, .string ⟨#[]⟩, .int .i64 0] 23)
  go_enter Tryz.func60, Tryz.ntmps60
  go_wp2_with fail
  refine (bare_yes 2 true _).mono ?_
  rintro e w1 ⟨rfl, hb⟩
  have q := BLK.out.below hb BLK.out.lt
  have k1 : w1.cell? ⟨w.heap.size, 1, none⟩ = some (.bool true) := q.cell 1
  have k2 : w1.cell? ⟨w.heap.size, 2, none⟩ = some (.string ⟨#[]⟩) := q.cell 2
  have k3 : w1.cell? ⟨w.heap.size, 3, none⟩ = some (.int .i64 0) := q.cell 3
  have HB1 : Hid (Below w.heap.size w w1) := HB0.out.trans (hb.mono HB0.out.size)
  clear q hb BLK HB0
  go_wp2
  go_ret
  exact ⟨rfl, HB1.out⟩

set_option maxHeartbeats 1000000 in
theorem may2_no (neg : Bool) (t : ByteArray) (ex : Int) (w : World) (hb : ¬ (t.size = 0 ∧ ex = 0)) : Calls Tryz.prog 60 #[dcV 2 neg t ex] w fun e w' => e = .returned (.bool false) ∧ Below w.heap.size w w' := by
  have BA := hide (fun W => bare_no 2 ex neg t W hb)
  clear hb
  have HB0 : Hid (Below w.heap.size w (w.alloc (.cells #[.int .i64 2, .bool neg, .string t, .int .i64 ex] 23))) := (Below.refl _ _).alloc (Nat.le_refl _) _
  have BLK := hide (Blk.new w #[.int .i64 2, .bool neg, .string t, .int .i64 ex] 23)
  go_enter Tryz.func60, Tryz.ntmps60
  go_wp2_with fail
  refine (BA.out _).mono ?_
  rintro e w1 ⟨rfl, hb⟩
  have q := BLK.out.below hb BLK.out.lt
  have k1 : w1.cell? ⟨w.heap.size, 1, none⟩ = some (.bool neg) := q.cell 1
  have k2 : w1.cell? ⟨w.heap.size, 2, none⟩ = some (.string t) := q.cell 2
  have k3 : w1.cell? ⟨w.heap.size, 3, none⟩ = some (.int .i64 ex) := q.cell 3
  have HB1 : Hid (Below w.heap.size w w1) := HB0.out.trans (hb.mono HB0.out.size)
  clear q hb BLK HB0
  go_wp2
  go_ret
  exact ⟨rfl, HB1.out⟩

set_option maxHeartbeats 1000000 in
theorem may9_no (c : Int) (neg : Bool) (t : ByteArray) (ex : Int) (w : World) (h0 : ¬ c = 0) (h1 : ¬ c = 1) (h2 : ¬ c = 2) : Calls Tryz.prog 60 #[dcV c neg t ex] w fun e w' => e = .returned (.bool false) ∧ Below w.heap.size w w' := by
  have HB0 : Hid (Below w.heap.size w (w.alloc (.cells #[.int .i64 c, .bool neg, .string t, .int .i64 ex] 23))) := (Below.refl _ _).alloc (Nat.le_refl _) _
  have BLK := hide (Blk.new w #[.int .i64 c, .bool neg, .string t, .int .i64 ex] 23)
  go_enter Tryz.func60, Tryz.ntmps60
  go_wp2
  go_ret
  exact ⟨rfl, HB0.out⟩

theorem may_yes (c : Int) (neg : Bool) (t : ByteArray) (ex : Int) (w : World) (h : MayD c neg (bys t) ex) : Calls Tryz.prog 60 #[dcV c neg t ex] w fun e w' => e = .returned (.bool true) ∧ Below w.heap.size w w' := by
  have h' := h
  rcases h with ⟨rfl, _⟩ | ⟨rfl, h1, rfl⟩ | ⟨rfl, rfl, h1, rfl⟩
  · rcases (mayD_0 neg t ex).1 h' with h1 | h1
    · obtain ⟨h1, rfl⟩ := h1
      rw [size_nil h1]; exact may0_bare neg w
    · exact may0_yes neg t ex w (fun e => h1.1 (bys_nil.2 e.1)) h1
  · rw [size_nil (bys_nil.1 h1)]; exact may1_yes neg w
  · rw [size_nil (bys_nil.1 h1)]; exact may2_yes w

theorem may_no (c : Int) (neg : Bool) (t : ByteArray) (ex : Int) (w : World) (h : ¬ MayD c neg (bys t) ex) : Calls Tryz.prog 60 #[dcV c neg t ex] w fun e w' => e = .returned (.bool false) ∧ Below w.heap.size w w' := by
  by_cases h0 : c = 0
  · subst h0
    rw [mayD_0] at h
    exact may0_no neg t ex w (fun e => h (.inl e)) (fun e => h (.inr e))
  · by_cases h1 : c = 1
    · subst h1
      exact may1_no neg t ex w (fun e => h (.inr (.inl ⟨rfl, bys_nil.2 e.1, e.2⟩)))
    · by_cases h2 : c = 2
      · subst h2
        by_cases hb : t.size = 0 ∧ ex = 0
        · obtain ⟨hb1, rfl⟩ := hb
          cases neg with
          | false => exact absurd (.inr (.inr ⟨rfl, rfl, bys_nil.2 hb1, rfl⟩)) h
          | true => rw [size_nil hb1]; exact may2_neg w
        · exact may2_no neg t ex w hb
      · exact may9_no c neg t ex w h0 h1 h2

end Go.Proofs.YtobloamnaemfnaaGreatDoor

namespace Go.Proofs.YtobloamnaemfnaaGreatDoor
open Go.RowKit

set_option maxHeartbeats 1000000 in
theorem dmay_yes (ca : Int) (na : Bool) (ta : ByteArray) (ea : Int) (w : World) (h : MayD ca na (bys ta) ea) : Calls Tryz.prog 32 #[dcV ca na ta ea] w fun e w' => e = .returned (.bool true) ∧ Below w.heap.size w w' := by
  have MY := hide (fun W => may_yes ca na ta ea W h)
  clear h
  have Ba0 := hide (Blk.newAt w (w.heap.size) (rfl) #[.int .i64 ca, .bool na, .string ta, .int .i64 ea] 23)
  have HB0 : Hid (Below w.heap.size w (w.alloc (.cells #[.int .i64 ca, .bool na, .string ta, .int .i64 ea] 23))) := ((Below.refl _ _).alloc (Nat.le_refl _) _)
  go_enter Tryz.func32, Tryz.ntmps32
  go_wp2_with fail
  refine (MY.out _).mono ?_
  rintro e w1 ⟨rfl, hb⟩
  have Ba1 := hide (Ba0.out.below hb Ba0.out.lt)
  have HB1 := hide (HB0.out.trans (hb.mono HB0.out.size))
  clear hb Ba0 HB0 
  obtain ⟨ya0, ya1, ya2, ya3⟩ := Ba1.out.four
  go_wp2
  go_ret
  exact ⟨rfl, HB1.out⟩

set_option maxHeartbeats 1000000 in
theorem dmay_no (ca : Int) (na : Bool) (ta : ByteArray) (ea : Int) (w : World) (h : ¬ MayD ca na (bys ta) ea) : Calls Tryz.prog 32 #[dcV ca na ta ea] w fun e w' => e = .returned (.bool false) ∧ Below w.heap.size w w' := by
  have MY := hide (fun W => may_no ca na ta ea W h)
  clear h
  have Ba0 := hide (Blk.newAt w (w.heap.size) (rfl) #[.int .i64 ca, .bool na, .string ta, .int .i64 ea] 23)
  have HB0 : Hid (Below w.heap.size w (w.alloc (.cells #[.int .i64 ca, .bool na, .string ta, .int .i64 ea] 23))) := ((Below.refl _ _).alloc (Nat.le_refl _) _)
  go_enter Tryz.func32, Tryz.ntmps32
  go_wp2_with fail
  refine (MY.out _).mono ?_
  rintro e w1 ⟨rfl, hb⟩
  have Ba1 := hide (Ba0.out.below hb Ba0.out.lt)
  have HB1 := hide (HB0.out.trans (hb.mono HB0.out.size))
  clear hb Ba0 HB0 
  obtain ⟨ya0, ya1, ya2, ya3⟩ := Ba1.out.four
  go_wp2
  go_ret
  exact ⟨rfl, HB1.out⟩

set_option maxHeartbeats 1000000 in
theorem place_any (ca : Int) (na : Bool) (ta : ByteArray) (ea : Int) (w : World) (h1 : ta.size ≤ 10000) (h2 : -10000 ≤ ea) (h3 : ea ≤ 10000) : Calls Tryz.prog 66 #[dcV ca na ta ea] w fun e w' => e = .returned (.int .i64 ((ta.size : Int) + ea)) ∧ Below w.heap.size w w' := by
  have Ba0 := hide (Blk.newAt w (w.heap.size) (rfl) #[.int .i64 ca, .bool na, .string ta, .int .i64 ea] 23)
  have HB0 : Hid (Below w.heap.size w (w.alloc (.cells #[.int .i64 ca, .bool na, .string ta, .int .i64 ea] 23))) := ((Below.refl _ _).alloc (Nat.le_refl _) _)
  go_enter Tryz.func66, Tryz.ntmps66
  go_wp2
  go_ret
  exact ⟨rfl, HB0.out⟩

theorem may_bounds {c : Int} {n : Bool} {t : ByteArray} {e : Int} (h : MayD c n (bys t) e) : t.size ≤ 10000 ∧ -10000 ≤ e ∧ e ≤ 10000 := by
  rcases h with ⟨_, ⟨h1, h2⟩ | ⟨_, h1, h2, h3, _⟩⟩ | ⟨_, h1, h2⟩ | ⟨_, _, h1, h2⟩
  · rw [bys_nil] at h1; omega
  · rw [bys_len] at h1 h2 h3; omega
  · rw [bys_nil] at h1; omega
  · rw [bys_nil] at h1; omega

set_option maxHeartbeats 1000000 in
theorem Place_yes (ca : Int) (na : Bool) (ta : ByteArray) (ea : Int) (w : World) (h : MayD ca na (bys ta) ea) : Calls Tryz.prog 33 #[dcV ca na ta ea] w fun e w' => e = .returned (.int .i64 ((ta.size : Int) + ea)) ∧ Below w.heap.size w w' := by
  obtain ⟨b1, b2, b3⟩ := may_bounds h
  have MY := hide (fun W => dmay_yes ca na ta ea W h)
  have PL := hide (fun W => place_any ca na ta ea W b1 b2 b3)
  clear h b1 b2 b3
  have Ba0 := hide (Blk.newAt w (w.heap.size) (rfl) #[.int .i64 ca, .bool na, .string ta, .int .i64 ea] 23)
  have HB0 : Hid (Below w.heap.size w (w.alloc (.cells #[.int .i64 ca, .bool na, .string ta, .int .i64 ea] 23))) := ((Below.refl _ _).alloc (Nat.le_refl _) _)
  go_enter Tryz.func33, Tryz.ntmps33
  go_wp2_with fail
  refine (MY.out _).mono ?_
  rintro e w1 ⟨rfl, hb⟩
  have Ba1 := hide (Ba0.out.below hb Ba0.out.lt)
  have HB1 := hide (HB0.out.trans (hb.mono HB0.out.size))
  clear hb Ba0 HB0 
  obtain ⟨ya0, ya1, ya2, ya3⟩ := Ba1.out.four
  go_wp2_with fail
  refine (PL.out _).mono ?_
  rintro e w2 ⟨rfl, hb⟩
  have Ba2 := hide (Ba1.out.below hb Ba1.out.lt)
  have HB2 := hide (HB1.out.trans (hb.mono HB1.out.size))
  clear hb Ba1 HB1 ya0 ya1 ya2 ya3
  obtain ⟨ya0, ya1, ya2, ya3⟩ := Ba2.out.four
  go_wp2
  go_ret
  exact ⟨rfl, HB2.out⟩

end Go.Proofs.YtobloamnaemfnaaGreatDoor

namespace Go.Proofs.YtobloamnaemfnaaGreatDoor
open Go.RowKit

theorem bys_mk (l : List UInt8) : bys ⟨l.toArray⟩ = l := by simp [bys]
theorem mk_bys (t : ByteArray) : (⟨(bys t).toArray⟩ : ByteArray) = t := by cases t; simp [bys]
theorem size_mk0 (l : List UInt8) : (⟨l.toArray⟩ : ByteArray).size = l.length := by simp [ByteArray.size]

theorem cut0_len (l : List UInt8) : (cut0 l).length ≤ l.length := by
  unfold cut0 Lib.trimRightB
  rw [List.length_reverse]
  have := (List.dropWhile_sublist (p := (· == (48 : UInt8))) (l := l.reverse)).length_le
  rw [List.length_reverse] at this
  exact this

set_option maxHeartbeats 1000000 in
theorem dof_nil (neg : Bool) (t : ByteArray) (ex : Int) (w : World) (hs : t.size ≤ 281474976710656) (h1 : -100000000000000000 ≤ ex) (h2 : ex ≤ 100000000000000000) (h : mid0 (bys t) = []) : Calls Tryz.prog 59 #[.bool neg, .string t, .int .i64 ex] w fun e w' => e = .returned (decVal (ofD neg (bys t) ex)) ∧ Below w.heap.size w w' := by
  have TR := hide (fun W => Tryz.strings_TrimRight_one t 48 (by decide) W (by omega))
  have TL := hide (fun W => Tryz.strings_TrimLeft_one ⟨(cut0 (bys t)).toArray⟩ 48 (by decide) W)
  have hl1 := cut0_len (bys t)
  rw [bys_len] at hl1
  have hsz : (⟨(cut0 (bys t)).toArray⟩ : ByteArray).size = (cut0 (bys t)).length := size_mk0 _
  have HM : Hid (mid0 (bys t) = Lib.trimLeftB (cut0 (bys t)) 48) := rfl
  obtain ⟨C, hC⟩ : ∃ C : ByteArray, C = ⟨(cut0 (bys t)).toArray⟩ := ⟨_, rfl⟩
  obtain ⟨m, hm⟩ : ∃ m, m = (cut0 (bys t)).length := ⟨_, rfl⟩
  have TR' : Hid (∀ W, Calls Tryz.prog 106 #[.string t, .string ⟨#[48]⟩] W fun e w' => e = .returned (.string C) ∧ w' = W) := by rw [hC]; exact TR.out
  have TL' : Hid (∀ W, Calls Tryz.prog 107 #[.string C, .string ⟨#[48]⟩] W fun e w' => e = .returned (.string ⟨(mid0 (bys t)).toArray⟩) ∧ w' = W) := by rw [hC]; exact TL.out
  rw [← hC, ← hm] at hsz
  rw [← hm] at hl1
  obtain ⟨D, hD⟩ : ∃ D : ByteArray, D = ⟨(mid0 (bys t)).toArray⟩ := ⟨_, rfl⟩
  rw [← hD] at TL'
  have hDs : D.size = (mid0 (bys t)).length := by rw [hD]; exact size_mk0 _
  have hD0 : D = ⟨#[]⟩ := by rw [hD, h]
  subst hD0
  clear TR TL HM hD hDs hC hm
  have Br0 := hide (Blk.newAt w (w.heap.size) (rfl) #[.int .i64 0, .bool false, .string ⟨#[]⟩, .int .i64 0] 23)
  have HB0 : Hid (Below w.heap.size w (w.alloc (.cells #[.int .i64 0, .bool false, .string ⟨#[]⟩, .int .i64 0] 23))) := ((Below.refl _ _).alloc (Nat.le_refl _) _)
  go_enter Tryz.func59, Tryz.ntmps59
  go_wp2_with fail
  refine (TR'.out _).mono ?_
  rintro e w1 ⟨rfl, rfl⟩
  go_wp2_with fail
  refine (TL'.out _).mono ?_
  rintro e w1 ⟨rfl, rfl⟩
  go_wp2
  refine bodyPost_ret (results_dec rfl _ _ _ _ _ _ _ rfl (Blk.new _ _ _)) rfl ?_
  exact ⟨by unfold ofD decVal; rw [if_pos h]; rfl, (Below.refl _ _).alloc (Nat.le_refl _) _⟩

set_option maxHeartbeats 1000000 in
theorem dof_some (neg : Bool) (t : ByteArray) (ex : Int) (w : World) (hs : t.size ≤ 281474976710656) (h1 : -100000000000000000 ≤ ex) (h2 : ex ≤ 100000000000000000) (h : mid0 (bys t) ≠ []) : Calls Tryz.prog 59 #[.bool neg, .string t, .int .i64 ex] w fun e w' => e = .returned (decVal (ofD neg (bys t) ex)) ∧ Below w.heap.size w w' := by
  have TR := hide (fun W => Tryz.strings_TrimRight_one t 48 (by decide) W (by omega))
  have TL := hide (fun W => Tryz.strings_TrimLeft_one ⟨(cut0 (bys t)).toArray⟩ 48 (by decide) W)
  have hl1 := cut0_len (bys t)
  rw [bys_len] at hl1
  have hsz : (⟨(cut0 (bys t)).toArray⟩ : ByteArray).size = (cut0 (bys t)).length := size_mk0 _
  have HM : Hid (mid0 (bys t) = Lib.trimLeftB (cut0 (bys t)) 48) := rfl
  obtain ⟨C, hC⟩ : ∃ C : ByteArray, C = ⟨(cut0 (bys t)).toArray⟩ := ⟨_, rfl⟩
  obtain ⟨m, hm⟩ : ∃ m, m = (cut0 (bys t)).length := ⟨_, rfl⟩
  have TR' : Hid (∀ W, Calls Tryz.prog 106 #[.string t, .string ⟨#[48]⟩] W fun e w' => e = .returned (.string C) ∧ w' = W) := by rw [hC]; exact TR.out
  have TL' : Hid (∀ W, Calls Tryz.prog 107 #[.string C, .string ⟨#[48]⟩] W fun e w' => e = .returned (.string ⟨(mid0 (bys t)).toArray⟩) ∧ w' = W) := by rw [hC]; exact TL.out
  rw [← hC, ← hm] at hsz
  rw [← hm] at hl1
  obtain ⟨D, hD⟩ : ∃ D : ByteArray, D = ⟨(mid0 (bys t)).toArray⟩ := ⟨_, rfl⟩
  rw [← hD] at TL'
  have hDs : D.size = (mid0 (bys t)).length := by rw [hD]; exact size_mk0 _
  have hD0 : D.size ≠ 0 := by rw [hDs]; exact fun e => h (List.length_eq_zero_iff.1 e)
  have hD1 := toList_ne hD0
  have HDD := hide hD
  have HMM := hide hm
  clear TR TL HM hD hDs hC hD0 hm
  have Br0 := hide (Blk.newAt w (w.heap.size) (rfl) #[.int .i64 0, .bool false, .string ⟨#[]⟩, .int .i64 0] 23)
  have HB0 : Hid (Below w.heap.size w (w.alloc (.cells #[.int .i64 0, .bool false, .string ⟨#[]⟩, .int .i64 0] 23))) := ((Below.refl _ _).alloc (Nat.le_refl _) _)
  go_enter Tryz.func59, Tryz.ntmps59
  go_wp2_with fail
  refine (TR'.out _).mono ?_
  rintro e w1 ⟨rfl, rfl⟩
  go_wp2_with fail
  refine (TL'.out _).mono ?_
  rintro e w1 ⟨rfl, rfl⟩
  go_wp2
  refine bodyPost_ret (results_dec rfl _ _ _ _ _ _ _ rfl (Blk.new _ _ _)) rfl ?_
  exact ⟨by unfold ofD decVal; rw [if_neg h, ← HMM.out, bys_len, HDD.out, show ex + ((t.size : Int) - (m : Int)) = ex + (t.size : Int) - (m : Int) by omega]; rfl, (Below.refl _ _).alloc (Nat.le_refl _) _⟩

theorem dof_any (neg : Bool) (t : ByteArray) (ex : Int) (w : World) (hs : t.size ≤ 281474976710656) (h1 : -100000000000000000 ≤ ex) (h2 : ex ≤ 100000000000000000) : Calls Tryz.prog 59 #[.bool neg, .string t, .int .i64 ex] w fun e w' => e = .returned (decVal (ofD neg (bys t) ex)) ∧ Below w.heap.size w w' := by
  by_cases h : mid0 (bys t) = []
  · exact dof_nil neg t ex w hs h1 h2 h
  · exact dof_some neg t ex w hs h1 h2 h

theorem fmay_d_yes (d : DecT) (w : World) (h : May d) : Calls Tryz.prog 60 #[decVal d] w fun e w' => e = .returned (.bool true) ∧ Below w.heap.size w w' :=
  may_yes (d.cls : Int) d.neg ⟨d.dig.toArray⟩ d.exp w (by rw [bys_mk]; exact h)
theorem fmay_d_no (d : DecT) (w : World) (h : ¬ May d) : Calls Tryz.prog 60 #[decVal d] w fun e w' => e = .returned (.bool false) ∧ Below w.heap.size w w' :=
  may_no (d.cls : Int) d.neg ⟨d.dig.toArray⟩ d.exp w (by rw [bys_mk]; exact h)

def decErr (r : DecT × Int) : Value := .tuple #[decVal r.1, .int .i64 r.2]

set_option maxHeartbeats 1000000 in
theorem fin_yes (neg : Bool) (t : ByteArray) (ex : Int) (w : World) (hs : t.size ≤ 281474976710656) (h1 : -100000000000000000 ≤ ex) (h2 : ex ≤ 100000000000000000) (hd : DigB (bys t)) (h : May (finD neg (decV (bys t)) ex)) : Calls Tryz.prog 22 #[.bool neg, .string t, .int .i64 ex] w fun e w' => e = .returned (decErr (tellF neg (decV (bys t)) ex)) ∧ Below w.heap.size w w' := by
  have OF := hide (fun W => dof_any neg t ex W hs h1 h2)
  rw [ofD_fin neg _ ex hd] at OF
  obtain ⟨d, hdd⟩ : ∃ d, d = finD neg (decV (bys t)) ex := ⟨_, rfl⟩
  rw [← hdd] at OF h
  have MY := hide (fun W => fmay_d_yes d W h)
  have TF : Hid (tellF neg (decV (bys t)) ex = (d, 0)) := by rw [hdd] at h ⊢; exact tellF_yes h
  clear hdd h hs h1 h2 hd
  obtain ⟨c, n, l, e⟩ := d
  unfold decVal at OF MY
  simp only at OF MY
  have Br0 := hide (Blk.newAt w (w.heap.size) (rfl) #[.int .i64 0, .bool false, .string ⟨#[]⟩, .int .i64 0] 23)
  have HB0 : Hid (Below w.heap.size w (w.alloc (.cells #[.int .i64 0, .bool false, .string ⟨#[]⟩, .int .i64 0] 23))) := ((Below.refl _ _).alloc (Nat.le_refl _) _)
  go_enter Tryz.func22, Tryz.ntmps22
  go_wp2_with fail
  refine (OF.out _).mono ?_
  rintro e w1 ⟨rfl, hb⟩
  have Br1 := hide (Br0.out.below hb Br0.out.lt)
  have HB1 := hide (HB0.out.trans (hb.mono HB0.out.size))
  clear hb Br0 HB0 
  obtain ⟨yr0, yr1, yr2, yr3⟩ := Br1.out.four
  go_wp2_with fail
  refine (MY.out _).mono ?_
  rintro e w2 ⟨rfl, hb⟩
  have Br2 := hide ((Br1.out.alloc (.cells #[.int .i64 (c : Int), .bool n, .string ⟨l.toArray⟩, .int .i64 e] 23)).below hb (Br1.out.alloc (.cells #[.int .i64 (c : Int), .bool n, .string ⟨l.toArray⟩, .int .i64 e] 23)).lt)
  have Bd2 := hide ((Blk.newAt w1 (w1.heap.size) (rfl) #[.int .i64 (c : Int), .bool n, .string ⟨l.toArray⟩, .int .i64 e] 23).below hb (Blk.newAt w1 (w1.heap.size) (rfl) #[.int .i64 (c : Int), .bool n, .string ⟨l.toArray⟩, .int .i64 e] 23).lt)
  have HB2 := hide ((HB1.out.alloc HB1.out.size _).trans (hb.mono (HB1.out.alloc HB1.out.size _).size))
  clear hb Br1 HB1 yr0 yr1 yr2 yr3
  obtain ⟨yr0, yr1, yr2, yr3⟩ := Br2.out.four
  obtain ⟨yd0, yd1, yd2, yd3⟩ := Bd2.out.four
  have fr0 := Br2.out.free 0
  have fr1 := Br2.out.free 1
  have fr2 := Br2.out.free 2
  have fr3 := Br2.out.free 3
  go_wp2
  refine bodyPost_ret (results_dec2 rfl _ _ _ _ _ _ _ rfl (Br2.out.put4 _ _ _ _)) rfl ?_
  exact ⟨by rw [TF.out]; rfl, below_put4 (HB2.out) (by omega) _ _ _ _⟩

set_option maxHeartbeats 1000000 in
theorem fin_no (neg : Bool) (t : ByteArray) (ex : Int) (w : World) (hs : t.size ≤ 281474976710656) (h1 : -100000000000000000 ≤ ex) (h2 : ex ≤ 100000000000000000) (hd : DigB (bys t)) (h : ¬ May (finD neg (decV (bys t)) ex)) : Calls Tryz.prog 22 #[.bool neg, .string t, .int .i64 ex] w fun e w' => e = .returned (decErr (tellF neg (decV (bys t)) ex)) ∧ Below w.heap.size w w' := by
  have OF := hide (fun W => dof_any neg t ex W hs h1 h2)
  rw [ofD_fin neg _ ex hd] at OF
  obtain ⟨d, hdd⟩ : ∃ d, d = finD neg (decV (bys t)) ex := ⟨_, rfl⟩
  rw [← hdd] at OF h
  have MY := hide (fun W => fmay_d_no d W h)
  have TF : Hid (tellF neg (decV (bys t)) ex = (⟨0, false, [], 0⟩, 51)) := by rw [hdd] at h; exact tellF_no h
  clear hdd h hs h1 h2 hd
  obtain ⟨c, n, l, e⟩ := d
  unfold decVal at OF MY
  simp only at OF MY
  have Br0 := hide (Blk.newAt w (w.heap.size) (rfl) #[.int .i64 0, .bool false, .string ⟨#[]⟩, .int .i64 0] 23)
  have HB0 : Hid (Below w.heap.size w (w.alloc (.cells #[.int .i64 0, .bool false, .string ⟨#[]⟩, .int .i64 0] 23))) := ((Below.refl _ _).alloc (Nat.le_refl _) _)
  go_enter Tryz.func22, Tryz.ntmps22
  go_wp2_with fail
  refine (OF.out _).mono ?_
  rintro e w1 ⟨rfl, hb⟩
  have Br1 := hide (Br0.out.below hb Br0.out.lt)
  have HB1 := hide (HB0.out.trans (hb.mono HB0.out.size))
  clear hb Br0 HB0 
  obtain ⟨yr0, yr1, yr2, yr3⟩ := Br1.out.four
  go_wp2_with fail
  refine (MY.out _).mono ?_
  rintro e w2 ⟨rfl, hb⟩
  have Br2 := hide ((Br1.out.alloc (.cells #[.int .i64 (c : Int), .bool n, .string ⟨l.toArray⟩, .int .i64 e] 23)).below hb (Br1.out.alloc (.cells #[.int .i64 (c : Int), .bool n, .string ⟨l.toArray⟩, .int .i64 e] 23)).lt)
  have Bd2 := hide ((Blk.newAt w1 (w1.heap.size) (rfl) #[.int .i64 (c : Int), .bool n, .string ⟨l.toArray⟩, .int .i64 e] 23).below hb (Blk.newAt w1 (w1.heap.size) (rfl) #[.int .i64 (c : Int), .bool n, .string ⟨l.toArray⟩, .int .i64 e] 23).lt)
  have HB2 := hide ((HB1.out.alloc HB1.out.size _).trans (hb.mono (HB1.out.alloc HB1.out.size _).size))
  clear hb Br1 HB1 yr0 yr1 yr2 yr3
  obtain ⟨yr0, yr1, yr2, yr3⟩ := Br2.out.four
  obtain ⟨yd0, yd1, yd2, yd3⟩ := Bd2.out.four
  have fr0 := Br2.out.free 0
  have fr1 := Br2.out.free 1
  have fr2 := Br2.out.free 2
  have fr3 := Br2.out.free 3
  go_wp2
  refine bodyPost_ret (results_dec2 rfl _ _ _ _ _ _ _ rfl (Br2.out.put4 _ _ _ _)) rfl ?_
  exact ⟨by rw [TF.out]; rfl, below_put4 (HB2.out) (by omega) _ _ _ _⟩

theorem fin_any (neg : Bool) (t : ByteArray) (ex : Int) (w : World) (hs : t.size ≤ 281474976710656) (h1 : -100000000000000000 ≤ ex) (h2 : ex ≤ 100000000000000000) (hd : DigB (bys t)) : Calls Tryz.prog 22 #[.bool neg, .string t, .int .i64 ex] w fun e w' => e = .returned (decErr (tellF neg (decV (bys t)) ex)) ∧ Below w.heap.size w w' := by
  by_cases h : May (finD neg (decV (bys t)) ex)
  · exact fin_yes neg t ex w hs h1 h2 hd h
  · exact fin_no neg t ex w hs h1 h2 hd h

end Go.Proofs.YtobloamnaemfnaaGreatDoor
