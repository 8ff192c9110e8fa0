/-
  Arguments that are an api.Precision or an api.Shown, as a row of the given statements hands them over.
  A variable's cells, all at once; a variable behind what was laid and called.
  What nat.divLong does.
  Decs as structs: what a function answers that hands back one, or one and an error.
  What the rounding modes' own functions do, and which of them leaves hands out.
  What decform's bare, areDigits, mayDigits and May do.
  What dec's May, place, Place, Neg, Scale, isZero, signed and rank do.
  What decform's Of and dec's finite do.
  strconv.FormatUint to the base 10 at this dump: the number's decimal digits.
  What dec's amountText and Print do.
  What whole.Pow5 and whole.Pow10 do.
  What shortest's binary64, binary32, split, amount and powerOfTwo do.
  What nat.divLong does: the walk.
  nat.DivMod by nought and by one limb, whatever the dividend; literal lists, and what the numbers in them are.
  What nat.DivMod does, whatever the two numbers.
  Digits that a function gives.
  Plain mathematics of the reference's shifts.
  Plain mathematics of dividing bit by bit, with digits to the base 65536.
  Lists of limbs that are being built by append.
  What whole.cut does: the number's digits to the base 10^19.
  (*strings.Builder).WriteString at this dump: what it leaves in a builder.
  What whole.Text does: the number's decimal digits.
  nat's and whole's calls as package shortest makes them: over numbers, wherever their limbs lie.
  What whole.signed, whole.Make and whole.Neg do.
-/
import Derived.Test.YtckijnlolmbdiaaGreatDoorZB1
import Derived.ChangeArms
import Derived.Test.YtckijnlolmbdiaaGreatDoorZB2
import Derived.Test.YtckijnlolmbdiaaGreatDoorZGuess
import Derived.Test.YtckijnlolmbdiaaGreatDoorZDown
import Derived.Test.YtckijnlolmbdiaaGreatDoorZB3
import Derived.Laws.EntriesVeiled
import Derived.Test.YtckijnlolmbdiaaGreatDoorZShelf
import Derived.Test.YtckijnlolmbdiaaGreatDoorZOwn
import Derived.Lib.AppendIntMem
import Derived.Laws.IdiomStrings
import Derived.Deep.RegionHeld3
import Derived.Laws.BitsLemmas
import Derived.Test.YtckijnlolmbdiaaGreatDoorZSub
import Derived.Test.YtckijnlolmbdiaaGreatDoorZSame
import Derived.Deep.AppendLies
import Derived.Test.YtckijnlolmbdiaaGreatDoorZUintF
import Derived.Lib.Builder
import Derived.Lib.AppendStr
import Derived.Lib.UnsafeStr
import Derived.Laws.Externs
import Derived.Test.YtckijnlolmbdiaaGreatDoorZNorm
import Derived.Handy
namespace Go.Proofs.YtckijnlolmbdiaaGreatDoor
open Go.ChangeShapes Go.WideShapes Go.ChangeAt Go.RowKit

theorem array14 {α : Type} {cs : Array α} (h : cs.size = 14) : ∃ c0 c1 c2 c3 c4 c5 c6 c7 c8 c9 c10 c11 c12 c13, cs = #[c0, c1, c2, c3, c4, c5, c6, c7, c8, c9, c10, c11, c12, c13] := by
  obtain ⟨l⟩ := cs
  match l, h with
  | [c0, c1, c2, c3, c4, c5, c6, c7, c8, c9, c10, c11, c12, c13], _ => exact ⟨c0, c1, c2, c3, c4, c5, c6, c7, c8, c9, c10, c11, c12, c13, rfl⟩

theorem field_at {H : Type} {enc : TypeId × Value → H} {P : Program} {w : World} {base : Nat} {spare : Nat → Bool} {held : Bool} {t : TypeId} {fs : Array Field} {fuel : Nat} {cs : List Value} {x : DataW H × List MemPlace} (hs : P.underlying t = some (.struct fs)) (hf : DataW.trod enc P w base spare held fuel t cs = some x) (i : Nat) (f : Field) (hi : fs[i]? = some f) :
    ∃ n y, DataW.trod enc P w base spare held n f.type ((cs.drop f.offset).take (P.cellsOf f.type)) = some y := by
  obtain ⟨xs, n, _, _, _, hl, h⟩ := DataW.trod_struct hs hf
  have hlt : i < xs.length := by
    rcases Nat.lt_or_ge i fs.size with g | g
    · omega
    · rw [Array.getElem?_eq_none g] at hi; cases hi
  exact ⟨n, xs[i], by rw [h i f hi, List.getElem?_eq_getElem hlt]⟩

theorem Tryz.cellsPr : Tryz.prog.cellsOf 32 = 14 := by kernel_rfl
theorem Tryz.cellsIn : Tryz.prog.cellsOf 3 = 1 := by kernel_rfl
theorem Tryz.cellsBo : Tryz.prog.cellsOf 4 = 1 := by kernel_rfl
theorem Tryz.cellsSt : Tryz.prog.cellsOf 9 = 1 := by kernel_rfl

set_option maxRecDepth 100000 in
theorem viewP {H : Type} {enc : TypeId × Value → H} {W : World} {base : Nat} {v : Value} {d : DataW H} {p : List MemPlace} (hval : Value.okWide Tryz.prog W .any base 32 v) (h : DataW.Trod enc Tryz.prog W 0 (fun _ => true) true 32 v d p) :
    ∃ (k : Int) (mf : Int) (xf : Int) (ms : Int) (xs : Int) (st : Bool) (cs : Int) (ns : Bool) (ts : ByteArray) (es : Int) (md : Int) (hd : Bool) (im : Int) (ix : Int), v = .agg #[.int .i64 k, .int .i64 mf, .int .i64 xf, .int .i64 ms, .int .i64 xs, .bool st, .int .i64 cs, .bool ns, .string ts, .int .i64 es, .int .i64 md, .bool hd, .int .i64 im, .int .i64 ix] := by
  obtain ⟨cs, rfl, hsz⟩ := okWide_struct Tryz.underlying32 hval
  obtain ⟨c0, c1, c2, c3, c4, c5, c6, c7, c8, c9, c10, c11, c12, c13, rfl⟩ := array14 (hsz.trans Tryz.cellsPr)
  clear hsz hval
  obtain ⟨fuel, hf⟩ := h
  obtain ⟨n0, y0, g0⟩ := field_at Tryz.underlying32 hf 0 _ rfl
  have k0 : DataW.trod enc Tryz.prog W 0 (fun _ => true) true n0 3 [c0] = some y0 := by simpa [Value.cells, Tryz.cellsIn] using g0
  obtain ⟨a0, e0, _⟩ := DataW.trod_int Tryz.underlying3 k0
  obtain ⟨n1, y1, g1⟩ := field_at Tryz.underlying32 hf 1 _ rfl
  have k1 : DataW.trod enc Tryz.prog W 0 (fun _ => true) true n1 3 [c1] = some y1 := by simpa [Value.cells, Tryz.cellsIn] using g1
  obtain ⟨a1, e1, _⟩ := DataW.trod_int Tryz.underlying3 k1
  obtain ⟨n2, y2, g2⟩ := field_at Tryz.underlying32 hf 2 _ rfl
  have k2 : DataW.trod enc Tryz.prog W 0 (fun _ => true) true n2 3 [c2] = some y2 := by simpa [Value.cells, Tryz.cellsIn] using g2
  obtain ⟨a2, e2, _⟩ := DataW.trod_int Tryz.underlying3 k2
  obtain ⟨n3, y3, g3⟩ := field_at Tryz.underlying32 hf 3 _ rfl
  have k3 : DataW.trod enc Tryz.prog W 0 (fun _ => true) true n3 3 [c3] = some y3 := by simpa [Value.cells, Tryz.cellsIn] using g3
  obtain ⟨a3, e3, _⟩ := DataW.trod_int Tryz.underlying3 k3
  obtain ⟨n4, y4, g4⟩ := field_at Tryz.underlying32 hf 4 _ rfl
  have k4 : DataW.trod enc Tryz.prog W 0 (fun _ => true) true n4 3 [c4] = some y4 := by simpa [Value.cells, Tryz.cellsIn] using g4
  obtain ⟨a4, e4, _⟩ := DataW.trod_int Tryz.underlying3 k4
  obtain ⟨n5, y5, g5⟩ := field_at Tryz.underlying32 hf 5 _ rfl
  have k5 : DataW.trod enc Tryz.prog W 0 (fun _ => true) true n5 4 [c5] = some y5 := by simpa [Value.cells, Tryz.cellsBo] using g5
  obtain ⟨a5, e5, _⟩ := DataW.trod_bool Tryz.underlying4 k5
  obtain ⟨n6, y6, g6⟩ := field_at Tryz.underlying32 hf 6 _ rfl
  have k6 : DataW.trod enc Tryz.prog W 0 (fun _ => true) true n6 23 [c6, c7, c8, c9] = some y6 := by simpa [Value.cells, Tryz.cellsD] using g6
  obtain ⟨m0, z0, q0⟩ := field_at Tryz.underlying23 k6 0 _ rfl
  have r0 : DataW.trod enc Tryz.prog W 0 (fun _ => true) true m0 3 [c6] = some z0 := by simpa [Value.cells, Tryz.cellsIn] using q0
  obtain ⟨a6, e6, _⟩ := DataW.trod_int Tryz.underlying3 r0
  obtain ⟨m1, z1, q1⟩ := field_at Tryz.underlying23 k6 1 _ rfl
  have r1 : DataW.trod enc Tryz.prog W 0 (fun _ => true) true m1 4 [c7] = some z1 := by simpa [Value.cells, Tryz.cellsBo] using q1
  obtain ⟨a7, e7, _⟩ := DataW.trod_bool Tryz.underlying4 r1
  obtain ⟨m2, z2, q2⟩ := field_at Tryz.underlying23 k6 2 _ rfl
  have r2 : DataW.trod enc Tryz.prog W 0 (fun _ => true) true m2 9 [c8] = some z2 := by simpa [Value.cells, Tryz.cellsSt] using q2
  obtain ⟨a8, e8, _⟩ := DataW.trod_string Tryz.underlying9 r2
  obtain ⟨m3, z3, q3⟩ := field_at Tryz.underlying23 k6 3 _ rfl
  have r3 : DataW.trod enc Tryz.prog W 0 (fun _ => true) true m3 3 [c9] = some z3 := by simpa [Value.cells, Tryz.cellsIn] using q3
  obtain ⟨a9, e9, _⟩ := DataW.trod_int Tryz.underlying3 r3
  obtain ⟨n7, y7, g7⟩ := field_at Tryz.underlying32 hf 7 _ rfl
  have k7 : DataW.trod enc Tryz.prog W 0 (fun _ => true) true n7 3 [c10] = some y7 := by simpa [Value.cells, Tryz.cellsIn] using g7
  obtain ⟨a10, e10, _⟩ := DataW.trod_int Tryz.underlying3 k7
  obtain ⟨n8, y8, g8⟩ := field_at Tryz.underlying32 hf 8 _ rfl
  have k8 : DataW.trod enc Tryz.prog W 0 (fun _ => true) true n8 4 [c11] = some y8 := by simpa [Value.cells, Tryz.cellsBo] using g8
  obtain ⟨a11, e11, _⟩ := DataW.trod_bool Tryz.underlying4 k8
  obtain ⟨n9, y9, g9⟩ := field_at Tryz.underlying32 hf 9 _ rfl
  have k9 : DataW.trod enc Tryz.prog W 0 (fun _ => true) true n9 3 [c12] = some y9 := by simpa [Value.cells, Tryz.cellsIn] using g9
  obtain ⟨a12, e12, _⟩ := DataW.trod_int Tryz.underlying3 k9
  obtain ⟨n10, y10, g10⟩ := field_at Tryz.underlying32 hf 10 _ rfl
  have k10 : DataW.trod enc Tryz.prog W 0 (fun _ => true) true n10 3 [c13] = some y10 := by simpa [Value.cells, Tryz.cellsIn] using g10
  obtain ⟨a13, e13, _⟩ := DataW.trod_int Tryz.underlying3 k10
  simp at e0 e1 e2 e3 e4 e5 e6 e7 e8 e9 e10 e11 e12 e13
  subst e0 e1 e2 e3 e4 e5 e6 e7 e8 e9 e10 e11 e12 e13
  exact ⟨a0, a1, a2, a3, a4, a5, a6, a7, a8, a9, a10, a11, a12, a13, rfl⟩

end Go.Proofs.YtckijnlolmbdiaaGreatDoor

namespace Go.Proofs.YtckijnlolmbdiaaGreatDoor
open Go.RowKit

theorem Blk.four {w : World} {b : Nat} {x0 x1 x2 x3 : Value} {t : TypeId} (h : Blk w b #[x0, x1, x2, x3] t) : w.cell? ⟨b, 0, none⟩ = some x0 ∧ w.cell? ⟨b, 1, none⟩ = some x1 ∧ w.cell? ⟨b, 2, none⟩ = some x2 ∧ w.cell? ⟨b, 3, none⟩ = some x3 := ⟨h.cell 0, h.cell 1, h.cell 2, h.cell 3⟩
theorem Blk.on {w w' : World} {b : Nat} {cs : Array Value} {t : TypeId} (h : Hid (Blk w b cs t)) (hb : Below w.heap.size w w') : Hid (Blk w' b cs t) := h.out.below hb h.out.lt
theorem Blk.up {w : World} {b : Nat} {cs : Array Value} {t : TypeId} (h : Hid (Blk w b cs t)) (o : Obj) : Hid (Blk (w.alloc o) b cs t) := h.out.alloc o

end Go.Proofs.YtckijnlolmbdiaaGreatDoor

namespace Go.Proofs.YtckijnlolmbdiaaGreatDoor
open Go.RowKit

theorem hide {p : Prop} (h : p) : Hid p := h

theorem Row.gr {k : IntKind} {e : TypeId} {w w' : World} {g h : Nat} {xs : List Nat} (hr : Row k e w h xs) (hg : w.grownBy w' (some g)) (hne : h ≠ g) : Row k e w' h xs := by
  have hlt := hr.lt
  unfold Row at *
  rw [hg.block h hlt (by simp; exact hne)]; exact hr

theorem At.gr {k : IntKind} {w w' : World} {g b o : Nat} {xs : List Nat} (h : At k w (some ⟨b, o, none⟩) xs) (hg : w.grownBy w' (some g)) (hne : b ≠ g) : At k w' (some ⟨b, o, none⟩) xs := by
  rcases h with h | ⟨b', o', h1, h2, h3⟩
  · exact .inl h
  · simp only [Option.some.injEq, Addr.mk.injEq] at h1
    obtain ⟨rfl, rfl, _⟩ := h1
    refine .inr ⟨b, o, rfl, Nat.lt_of_lt_of_le h2 hg.size, fun i hi => ?_⟩
    rw [World.cell?_of_block (w := w) (hg.block b h2 (by simp; exact hne))]
    exact h3 i hi

theorem At.like {k : IntKind} {w w' : World} {ao : Option Addr} {xs : List Nat} (h : At k w ao xs) (hl : Like w' w) : At k w' ao xs := h.same hl.1

theorem Like.bel {w w' : World} (h : Like w' w) (B : Nat) : Below B w w' := h.below (Below.refl _ _)

theorem At.put {k : IntKind} {w : World} {b o : Nat} {xs : List Nat} (h : At k w (some ⟨b, o, none⟩) xs) {a : Addr} (ha : b ≠ a.block) (u : Value) : At k (w.setCell a u) (some ⟨b, o, none⟩) xs := by
  rcases h with h | ⟨b', o', h1, h2, h3⟩
  · exact .inl h
  · simp only [Option.some.injEq, Addr.mk.injEq] at h1
    obtain ⟨rfl, rfl, _⟩ := h1
    refine .inr ⟨b, o, rfl, by simpa [World.setCell] using h2, fun i hi => ?_⟩
    rw [World.cell?_of_block (w := w) (Below.heap_setCell _ _ _ _ ha)]
    exact h3 i hi

/-- At the head of divLong's loop, k limbs of the quotient being left: zs is the divisor in block Hd, the rest lies in Hr, the quotient in Hq. -/
structure LongInv (w : World) (Hd Hr Hq m c : Nat) (zs : List Nat) (A k : Nat) (wr : World) : Prop where
  bel : Below w.heap.size w wr
  div : At .u64 wr (some ⟨Hd, 0, none⟩) zs
  row : ∃ r q, Row .u64 120 wr Hr r ∧ r.length = m + 1 ∧ Ok B64 r ∧ num B64 r < num B64 zs * B64 ^ k ∧ Row .u64 120 wr Hq q ∧ q.length = c ∧ Ok B64 q ∧ (∀ j, j < k → dg q j = 0) ∧ num B64 r + num B64 zs * num B64 q = A

/-- The quotient's new limb, and the rest. -/
theorem long_put {r r1 q zs : List Nat} {g k A : Nat} (hk : k < q.length) (hq0 : dg q k = 0) (h1 : num B64 r1 + num B64 zs * g * B64 ^ k = num B64 r) (h : num B64 r + num B64 zs * num B64 q = A) :
    num B64 r1 + num B64 zs * num B64 (q.set k g) = A := by
  have e1 := num_set B64 q k g hk
  rw [hq0, Nat.zero_mul, Nat.add_zero] at e1
  rw [e1, Nat.mul_add, ← Nat.mul_assoc]
  omega

theorem LongInv.step {w w2 wr' : World} {Hd Hr Hq m c A k g : Nat} {zs r r1 q : List Nat} (hd : Hd ≠ Hq) (hrq : Hr ≠ Hq) (hq : w.heap.size ≤ Hq) (hbel : Below w.heap.size w w2) (hdiv : At .u64 w2 (some ⟨Hd, 0, none⟩) zs)
    (hr1 : Row .u64 120 w2 Hr r1) (hl1 : r1.length = m + 1) (ho1 : Ok B64 r1) (hlt : num B64 r1 < num B64 zs * B64 ^ k) (hsum : num B64 r1 + num B64 zs * g * B64 ^ k = num B64 r)
    (hrq' : Row .u64 120 w2 Hq q) (hlq : q.length = c) (hoq : Ok B64 q) (hz : ∀ j, j < k + 1 → dg q j = 0) (hA : num B64 r + num B64 zs * num B64 q = A) (hk : k < c) (hg : g < B64)
    (hw : Like wr' (w2.setCell ⟨Hq, k, none⟩ (.int .u64 (g : Int)))) : LongInv w Hd Hr Hq m c zs A k wr' := by
  refine ⟨hw.below (hbel.setCell hq _), (hdiv.put (by exact hd) _).like hw, r1, q.set k g, (hr1.other (by exact hrq) _).alike hw, hl1, ho1, hlt, (hrq'.set k _).alike hw, by simp [hlq], hoq.set (by omega) hg, ?_, ?_⟩
  · intro j hj
    rw [dg_set _ _ _ _ (by omega), if_neg (by omega)]
    exact hz j (by omega)
  · exact long_put (by omega) (hz k (by omega)) hsum hA

/-- What divLong answers. -/
def LongPost (w : World) (m q r : Nat) (e : Ending) (w' : World) : Prop :=
  ∃ v1 r1 v2 r2, e = .returned (.tuple #[v1, v2]) ∧ Own .u64 120 w' w.heap.size m v1 r1 ∧ Own .u64 120 w' w.heap.size m v2 r2 ∧ Is B64 r1 q ∧ Is B64 r2 r ∧ Below w.heap.size w w' ∧
    (v1.ownBlock = none ∨ v1.ownBlock ≠ v2.ownBlock)

/-- The shift that sets the divisor's highest bit. -/
theorem lead_shift {x : Nat} (h0 : x ≠ 0) (hx : x < B64) : ∃ s, s = 64 - Lib.bitLen x ∧ s ≤ 63 ∧ 2 ^ 63 ≤ x * 2 ^ s ∧ x * 2 ^ s < 2 ^ 64 := by
  obtain ⟨n, hn, hn1, hn2⟩ := bitsN_spec h0
  have hbl := bitLen_bits x (by rw [← B64_pow]; exact hx)
  have hle := bitsN_le hx
  refine ⟨63 - n, by omega, by omega, ?_, ?_⟩
  · have hp2 : 2 ^ n * 2 ^ (63 - n) = (2 : Nat) ^ 63 := by rw [← Nat.pow_add]; congr 1; omega
    rw [← hp2]; exact Nat.mul_le_mul_right _ hn1
  · have hp : 2 ^ (n + 1) * 2 ^ (63 - n) = (2 : Nat) ^ 64 := by rw [← Nat.pow_add]; congr 1; omega
    rw [← hp]; exact Nat.mul_lt_mul_of_pos_right hn2 (Nat.two_pow_pos _)

theorem num_top {b : Nat} {xs : List Nat} {n : Nat} (h : xs.length = n + 1) : num b xs = V b (dg xs) n + dg xs n * b ^ n := by unfold num; rw [h]; rfl

/-- The divisor behind the shift: as many limbs, and the highest bit set. -/
theorem long_divisor {ys yu : List Nat} {p s : Nat} (oy : Ok B64 ys) (hy : ys.length = p + 2) (ou : Ok B64 yu) (hs : 2 ^ 63 ≤ dg ys (p + 1) * 2 ^ s) (hs2 : dg ys (p + 1) * 2 ^ s < 2 ^ 64) (hn : num B64 yu = num B64 ys * 2 ^ s) :
    (trimmed yu).length = p + 2 ∧ B64 ≤ 2 * dg (trimmed yu) (p + 1) := by
  have hB : B64 = 2 ^ 64 := B64_pow
  have h63 : (2 : Nat) ^ 64 = 2 * 2 ^ 63 := by decide +kernel
  have hb : 0 < B64 := by decide
  have e1 := num_top (b := B64) hy
  have hV : V B64 (dg ys) (p + 1) < B64 ^ (p + 1) := V_lt _ (fun i _ => oy i)
  have hP : 0 < B64 ^ (p + 1) := Nat.pow_pos hb
  have lo : 2 ^ 63 * B64 ^ (p + 1) ≤ num B64 yu := by
    rw [hn, e1, Nat.add_mul]
    have := Nat.mul_le_mul_right (B64 ^ (p + 1)) hs
    rw [Nat.mul_right_comm] at this
    omega
  have hi : num B64 yu < B64 ^ (p + 2) := by
    rw [hn, e1]
    have a1 : (V B64 (dg ys) (p + 1) + dg ys (p + 1) * B64 ^ (p + 1)) < (dg ys (p + 1) + 1) * B64 ^ (p + 1) := by rw [Nat.add_mul]; omega
    have a2 := Nat.mul_lt_mul_of_pos_right a1 (Nat.two_pow_pos s)
    have hs64 : s ≤ 63 := by
      rcases Nat.lt_or_ge 63 s with h | h
      · have : 2 ^ 64 ≤ (2 : Nat) ^ s := Nat.pow_le_pow_right (by decide) h
        have : 1 * 2 ^ s ≤ dg ys (p + 1) * 2 ^ s := Nat.mul_le_mul_right _ (by
          rcases hd : dg ys (p + 1) with _ | d
          · rw [hd] at hs; simp at hs
          · omega)
        omega
      · exact h
    have a3 : (dg ys (p + 1) + 1) * 2 ^ s ≤ B64 := by
      have : 2 ^ 64 = 2 ^ (64 - s) * 2 ^ s := by rw [← Nat.pow_add]; congr 1; omega
      rw [hB]
      rw [this] at hs2 ⊢
      exact Nat.mul_le_mul_right _ (Nat.lt_of_mul_lt_mul_right hs2)
    have a4 := Nat.mul_le_mul_right (B64 ^ (p + 1)) a3
    rw [Nat.mul_right_comm] at a4
    rw [Nat.pow_succ B64 (p + 1), Nat.mul_comm (B64 ^ (p + 1))]
    exact Nat.lt_of_lt_of_le a2 a4
  have tt := trimmed_top yu
  have tn := num_trimmed B64 yu
  have tok1 := trimmed_ok ou
  have hlen : (trimmed yu).length = p + 2 := by
    have l1 := num_lt tok1
    rw [tn] at l1
    have a1 : p + 1 < (trimmed yu).length := by
      rcases Nat.lt_or_ge (p + 1) (trimmed yu).length with h | h
      · exact h
      · have := Nat.pow_le_pow_right hb h
        have : 1 * B64 ^ (p + 1) ≤ 2 ^ 63 * B64 ^ (p + 1) := Nat.mul_le_mul_right _ (by decide)
        omega
    rcases hl : (trimmed yu).length with _ | t
    · omega
    · have a2 := num_ge (b := B64) tt hl
      rw [tn] at a2
      have : t < p + 2 := by
        rcases Nat.lt_or_ge t (p + 2) with h | h
        · exact h
        · have := Nat.pow_le_pow_right hb h; omega
      omega
  refine ⟨hlen, ?_⟩
  have e2 := num_top (b := B64) hlen
  rw [tn] at e2
  have hV2 : V B64 (dg (trimmed yu)) (p + 1) < B64 ^ (p + 1) := V_lt _ (fun i _ => tok1 i)
  have : 2 ^ 63 * B64 ^ (p + 1) < (dg (trimmed yu) (p + 1) + 1) * B64 ^ (p + 1) := by rw [Nat.add_mul]; omega
  have := Nat.lt_of_mul_lt_mul_right this
  rw [hB, h63]
  omega

/-- At the start nothing is divided yet, and the dividend is small enough. -/
theorem long_start {xs zs : List Nat} {m p c s : Nat} (ox : Ok B64 xs) (hx : xs.length = m) (hz : zs.length = p + 2) (htop : B64 ≤ 2 * dg zs (p + 1)) (hc : c + (p + 2) = m + 1) (hs : s ≤ 63) : num B64 xs * 2 ^ s < num B64 zs * B64 ^ c := by
  have hB : B64 = 2 ^ 64 := B64_pow
  have h63 : (2 : Nat) ^ 64 = 2 * 2 ^ 63 := by decide +kernel
  have a1 := num_lt ox
  rw [hx] at a1
  have e1 := num_top (b := B64) hz
  have a2 : 2 ^ 63 * B64 ^ (p + 1) ≤ num B64 zs := by
    have := Nat.mul_le_mul_right (B64 ^ (p + 1)) (show 2 ^ 63 ≤ dg zs (p + 1) by omega)
    omega
  have a3 := Nat.mul_le_mul_right (B64 ^ c) a2
  rw [Nat.mul_assoc, ← Nat.pow_add, show p + 1 + c = m by omega] at a3
  have a4 : (2 : Nat) ^ s ≤ 2 ^ 63 := Nat.pow_le_pow_right (by decide) hs
  have a5 : num B64 xs * 2 ^ s < B64 ^ m * 2 ^ s := Nat.mul_lt_mul_of_pos_right a1 (Nat.two_pow_pos s)
  have a6 : B64 ^ m * 2 ^ s ≤ B64 ^ m * 2 ^ 63 := Nat.mul_le_mul_left _ a4
  rw [Nat.mul_comm (2 ^ 63)] at a3
  omega

/-- At the end quotient and rest are what they are without the shift. -/
theorem long_end {X Y q r s : Nat} (hr : r < Y * 2 ^ s) (h : r + Y * 2 ^ s * q = X * 2 ^ s) : q = X / Y ∧ r / 2 ^ s = X % Y ∧ 0 < Y := by
  have hs := Nat.two_pow_pos s
  have hY : 0 < Y := by rcases Y with _ | y; simp at hr; omega
  have hYs : 0 < Y * 2 ^ s := Nat.mul_pos hY hs
  have q1 : X * 2 ^ s / (Y * 2 ^ s) = q := by rw [← h, Nat.add_mul_div_left _ _ hYs, Nat.div_eq_of_lt hr, Nat.zero_add]
  have q2 : X * 2 ^ s % (Y * 2 ^ s) = r := by rw [← h, Nat.add_mul_mod_self_left, Nat.mod_eq_of_lt hr]
  rw [Nat.mul_div_mul_right _ _ hs] at q1
  rw [Nat.mul_mod_mul_right] at q2
  exact ⟨q1.symm, by rw [← q2, Nat.mul_div_cancel _ hs], hY⟩

theorem trimmed_small {xs : List Nat} {t : Nat} (h : num B64 xs < B64 ^ t) : (trimmed xs).length ≤ t := by
  rcases hl : (trimmed xs).length with _ | j
  · omega
  · have := num_ge (b := B64) (trimmed_top xs) hl
    rw [num_trimmed] at this
    rcases Nat.lt_or_ge j t with h' | h'
    · omega
    · have := Nat.pow_le_pow_right (show 0 < B64 by decide) h'; omega

end Go.Proofs.YtckijnlolmbdiaaGreatDoor

namespace Go.Proofs.YtckijnlolmbdiaaGreatDoor
open Go.RowKit

/-- A Dec, as a struct. -/
def decVal (d : DecT) : Value := .agg #[.int .i64 (d.cls : Int), .bool d.neg, .string ⟨d.dig.toArray⟩, .int .i64 d.exp]

theorem results_dec {fn : Func} {a : Tmp} (h : fn.results = #[.cell a 23]) (tmps : Array Value) (H : Nat) (x0 x1 x2 x3 : Value) (w : World) (ht : tmps.getD a undef = .pointer (some ⟨H, 0, none⟩)) (hp : Blk w H #[x0, x1, x2, x3] 23) :
    (results fn tmps).run Tryz.prog w = .ok (.agg #[x0, x1, x2, x3]) w := by
  have c0 := hp.cell 0
  have c1 := hp.cell 1
  have c2 := hp.cell 2
  have c3 := hp.cell 3
  simp at c0 c1 c2 c3
  rw [Array.getD_eq_getD_getElem?] at ht
  simp [results, h, ht, go_sem, c0, c1, c2, c3]

theorem below_put4 {w W : World} {H : Nat} (h : Below w.heap.size w W) (hH : w.heap.size ≤ H) (y0 y1 y2 y3 : Value) : Below w.heap.size w ((((W.setCell ⟨H, 0, none⟩ y0).setCell ⟨H, 1, none⟩ y1).setCell ⟨H, 2, none⟩ y2).setCell ⟨H, 3, none⟩ y3) :=
  (((h.setCell hH _).setCell hH _).setCell hH _).setCell hH _

theorem results_dec2 {fn : Func} {a c : Tmp} (h : fn.results = #[.cell a 23, .tmp c]) (tmps : Array Value) (H : Nat) (x0 x1 x2 x3 : Value) (w : World) (ht : tmps.getD a undef = .pointer (some ⟨H, 0, none⟩)) (hp : Blk w H #[x0, x1, x2, x3] 23) :
    (results fn tmps).run Tryz.prog w = .ok (.tuple #[.agg #[x0, x1, x2, x3], tmps.getD c undef]) w := by
  have c0 := hp.cell 0
  have c1 := hp.cell 1
  have c2 := hp.cell 2
  have c3 := hp.cell 3
  simp at c0 c1 c2 c3
  rw [Array.getD_eq_getD_getElem?] at ht
  simp [results, h, ht, go_sem, c0, c1, c2, c3]

theorem bdrewD (w : World) : Hid (Below w.heap.size w w.drew) := (Below.refl _ _).drew

end Go.Proofs.YtckijnlolmbdiaaGreatDoor

namespace Go.Proofs.YtckijnlolmbdiaaGreatDoor
open Go.RowKit

set_option maxHeartbeats 1000000 in
theorem mode_0 (ng od : Bool) (hf : Int) (w : World) (hh : hf = -1 ∨ hf = 0 ∨ hf = 1) : Calls Tryz.prog 144 #[.int .i64 0, .agg #[.bool ng, .bool od, .int .i64 hf]] w fun e w' => e = .returned (.bool (leavesB 0 ng od hf)) ∧ Below w.heap.size w w' := by
  rcases hh with rfl | rfl | rfl <;> cases ng <;> cases od
  all_goals
    go_enter Tryz.func144, Tryz.ntmps144
    go_wp2
    go_ret
    exact ⟨rfl, (Below.refl _ _).alloc (Nat.le_refl _) _⟩

set_option maxHeartbeats 1000000 in
theorem mode_1 (ng od : Bool) (hf : Int) (w : World) (hh : hf = -1 ∨ hf = 0 ∨ hf = 1) : Calls Tryz.prog 144 #[.int .i64 1, .agg #[.bool ng, .bool od, .int .i64 hf]] w fun e w' => e = .returned (.bool (leavesB 1 ng od hf)) ∧ Below w.heap.size w w' := by
  rcases hh with rfl | rfl | rfl <;> cases ng <;> cases od
  all_goals
    go_enter Tryz.func144, Tryz.ntmps144
    go_wp2
    go_ret
    exact ⟨rfl, (Below.refl _ _).alloc (Nat.le_refl _) _⟩

set_option maxHeartbeats 1000000 in
theorem mode_2 (ng od : Bool) (hf : Int) (w : World) (hh : hf = -1 ∨ hf = 0 ∨ hf = 1) : Calls Tryz.prog 145 #[.int .i64 2, .agg #[.bool ng, .bool od, .int .i64 hf]] w fun e w' => e = .returned (.bool (leavesB 2 ng od hf)) ∧ Below w.heap.size w w' := by
  rcases hh with rfl | rfl | rfl <;> cases ng <;> cases od
  all_goals
    go_enter Tryz.func145, Tryz.ntmps145
    go_wp2
    go_ret
    exact ⟨rfl, (Below.refl _ _).alloc (Nat.le_refl _) _⟩

set_option maxHeartbeats 1000000 in
theorem mode_3 (ng od : Bool) (hf : Int) (w : World) (hh : hf = -1 ∨ hf = 0 ∨ hf = 1) : Calls Tryz.prog 145 #[.int .i64 3, .agg #[.bool ng, .bool od, .int .i64 hf]] w fun e w' => e = .returned (.bool (leavesB 3 ng od hf)) ∧ Below w.heap.size w w' := by
  rcases hh with rfl | rfl | rfl <;> cases ng <;> cases od
  all_goals
    go_enter Tryz.func145, Tryz.ntmps145
    go_wp2
    go_ret
    exact ⟨rfl, (Below.refl _ _).alloc (Nat.le_refl _) _⟩

set_option maxHeartbeats 1000000 in
theorem mode_4 (ng od : Bool) (hf : Int) (w : World) (hh : hf = -1 ∨ hf = 0 ∨ hf = 1) : Calls Tryz.prog 146 #[.int .i64 4, .agg #[.bool ng, .bool od, .int .i64 hf]] w fun e w' => e = .returned (.bool (leavesB 4 ng od hf)) ∧ Below w.heap.size w w' := by
  rcases hh with rfl | rfl | rfl <;> cases ng <;> cases od
  all_goals
    go_enter Tryz.func146, Tryz.ntmps146
    go_wp2
    go_ret
    exact ⟨rfl, (Below.refl _ _).alloc (Nat.le_refl _) _⟩

set_option maxHeartbeats 1000000 in
theorem mode_5 (ng od : Bool) (hf : Int) (w : World) (hh : hf = -1 ∨ hf = 0 ∨ hf = 1) : Calls Tryz.prog 147 #[.int .i64 5, .agg #[.bool ng, .bool od, .int .i64 hf]] w fun e w' => e = .returned (.bool (leavesB 5 ng od hf)) ∧ Below w.heap.size w w' := by
  rcases hh with rfl | rfl | rfl <;> cases ng <;> cases od
  all_goals
    go_enter Tryz.func147, Tryz.ntmps147
    go_wp2
    go_ret
    exact ⟨rfl, (Below.refl _ _).alloc (Nat.le_refl _) _⟩

set_option maxHeartbeats 1000000 in
theorem mode_6 (ng od : Bool) (hf : Int) (w : World) (hh : hf = -1 ∨ hf = 0 ∨ hf = 1) : Calls Tryz.prog 147 #[.int .i64 6, .agg #[.bool ng, .bool od, .int .i64 hf]] w fun e w' => e = .returned (.bool (leavesB 6 ng od hf)) ∧ Below w.heap.size w w' := by
  rcases hh with rfl | rfl | rfl <;> cases ng <;> cases od
  all_goals
    go_enter Tryz.func147, Tryz.ntmps147
    go_wp2
    go_ret
    exact ⟨rfl, (Below.refl _ _).alloc (Nat.le_refl _) _⟩

set_option maxHeartbeats 1000000 in
theorem mode_7 (ng od : Bool) (hf : Int) (w : World) (hh : hf = -1 ∨ hf = 0 ∨ hf = 1) : Calls Tryz.prog 146 #[.int .i64 7, .agg #[.bool ng, .bool od, .int .i64 hf]] w fun e w' => e = .returned (.bool (leavesB 7 ng od hf)) ∧ Below w.heap.size w w' := by
  rcases hh with rfl | rfl | rfl <;> cases ng <;> cases od
  all_goals
    go_enter Tryz.func146, Tryz.ntmps146
    go_wp2
    go_ret
    exact ⟨rfl, (Below.refl _ _).alloc (Nat.le_refl _) _⟩

set_option maxHeartbeats 1000000 in
theorem leaves_0 (w : World) : Calls Tryz.prog 82 #[.int .i64 0] w fun e w' => e = .returned (.func (.func 144) #[.int .i64 0] #[]) ∧ Below w.heap.size w w' := by
  go_enter Tryz.func82, Tryz.ntmps82
  go_wp2
  go_ret
  exact ⟨rfl, (Below.refl _ _).alloc (Nat.le_refl _) _⟩

set_option maxHeartbeats 1000000 in
theorem leaves_1 (w : World) : Calls Tryz.prog 82 #[.int .i64 1] w fun e w' => e = .returned (.func (.func 144) #[.int .i64 1] #[]) ∧ Below w.heap.size w w' := by
  go_enter Tryz.func82, Tryz.ntmps82
  go_wp2
  go_ret
  exact ⟨rfl, (Below.refl _ _).alloc (Nat.le_refl _) _⟩

set_option maxHeartbeats 1000000 in
theorem leaves_2 (w : World) : Calls Tryz.prog 82 #[.int .i64 2] w fun e w' => e = .returned (.func (.func 145) #[.int .i64 2] #[]) ∧ Below w.heap.size w w' := by
  go_enter Tryz.func82, Tryz.ntmps82
  go_wp2
  go_ret
  exact ⟨rfl, (Below.refl _ _).alloc (Nat.le_refl _) _⟩

set_option maxHeartbeats 1000000 in
theorem leaves_3 (w : World) : Calls Tryz.prog 82 #[.int .i64 3] w fun e w' => e = .returned (.func (.func 145) #[.int .i64 3] #[]) ∧ Below w.heap.size w w' := by
  go_enter Tryz.func82, Tryz.ntmps82
  go_wp2
  go_ret
  exact ⟨rfl, (Below.refl _ _).alloc (Nat.le_refl _) _⟩

set_option maxHeartbeats 1000000 in
theorem leaves_4 (w : World) : Calls Tryz.prog 82 #[.int .i64 4] w fun e w' => e = .returned (.func (.func 146) #[.int .i64 4] #[]) ∧ Below w.heap.size w w' := by
  go_enter Tryz.func82, Tryz.ntmps82
  go_wp2
  go_ret
  exact ⟨rfl, (Below.refl _ _).alloc (Nat.le_refl _) _⟩

set_option maxHeartbeats 1000000 in
theorem leaves_5 (w : World) : Calls Tryz.prog 82 #[.int .i64 5] w fun e w' => e = .returned (.func (.func 147) #[.int .i64 5] #[]) ∧ Below w.heap.size w w' := by
  go_enter Tryz.func82, Tryz.ntmps82
  go_wp2
  go_ret
  exact ⟨rfl, (Below.refl _ _).alloc (Nat.le_refl _) _⟩

set_option maxHeartbeats 1000000 in
theorem leaves_6 (w : World) : Calls Tryz.prog 82 #[.int .i64 6] w fun e w' => e = .returned (.func (.func 147) #[.int .i64 6] #[]) ∧ Below w.heap.size w w' := by
  go_enter Tryz.func82, Tryz.ntmps82
  go_wp2
  go_ret
  exact ⟨rfl, (Below.refl _ _).alloc (Nat.le_refl _) _⟩

set_option maxHeartbeats 1000000 in
theorem leaves_7 (w : World) : Calls Tryz.prog 82 #[.int .i64 7] w fun e w' => e = .returned (.func (.func 146) #[.int .i64 7] #[]) ∧ Below w.heap.size w w' := by
  go_enter Tryz.func82, Tryz.ntmps82
  go_wp2
  go_ret
  exact ⟨rfl, (Below.refl _ _).alloc (Nat.le_refl _) _⟩

end Go.Proofs.YtckijnlolmbdiaaGreatDoor

namespace Go.Proofs.YtckijnlolmbdiaaGreatDoor
open Go.RowKit

/-- A Dec as a value. -/
abbrev dcV (c : Int) (neg : Bool) (t : ByteArray) (e : Int) : Value := .agg #[.int .i64 c, .bool neg, .string t, .int .i64 e]

theorem size_nil {t : ByteArray} (h : t.size = 0) : t = ⟨#[]⟩ := by
  cases t with | mk d => simp [ByteArray.size] at h; rw [h]

theorem toList_ne {t : ByteArray} (h : t.size ≠ 0) : (t.toList == []) = false := by
  have : t.toList ≠ [] := fun e => h (by
    rw [ByteArray.toList_eq] at e
    have h1 := congrArg List.length e
    rw [← bys_len]
    exact h1)
  cases hl : t.toList with
  | nil => exact absurd hl this
  | cons a l => rfl

theorem bare_yes (c : Int) (neg : Bool) (w : World) : Calls Tryz.prog 131 #[dcV c neg ⟨#[]⟩ 0] w fun e w' => e = .returned (.bool true) ∧ Below w.heap.size w w' := by
  go_enter Tryz.func131, Tryz.ntmps131
  go_wp2
  go_ret
  exact ⟨rfl, (Below.refl _ _).alloc (Nat.le_refl _) _⟩

theorem bare_exp (c ex : Int) (neg : Bool) (w : World) (h : ¬ ex = 0) : Calls Tryz.prog 131 #[dcV c neg ⟨#[]⟩ ex] w fun e w' => e = .returned (.bool false) ∧ Below w.heap.size w w' := by
  have h' : (ex == 0) = false := by simpa using h
  go_enter Tryz.func131, Tryz.ntmps131
  go_wp2
  go_ret
  exact ⟨rfl, (Below.refl _ _).alloc (Nat.le_refl _) _⟩

theorem bare_dig (c ex : Int) (neg : Bool) (t : ByteArray) (w : World) (h : t.size ≠ 0) : Calls Tryz.prog 131 #[dcV c neg t ex] w fun e w' => e = .returned (.bool false) ∧ Below w.heap.size w w' := by
  have h2 := toList_ne h
  clear h
  go_enter Tryz.func131, Tryz.ntmps131
  go_wp2
  go_ret
  exact ⟨rfl, (Below.refl _ _).alloc (Nat.le_refl _) _⟩

theorem bare_no (c ex : Int) (neg : Bool) (t : ByteArray) (w : World) (h : ¬ (t.size = 0 ∧ ex = 0)) : Calls Tryz.prog 131 #[dcV c neg t ex] w fun e w' => e = .returned (.bool false) ∧ Below w.heap.size w w' := by
  by_cases h0 : t.size = 0
  · rw [size_nil h0]; exact bare_exp c ex neg w (fun e => h ⟨h0, e⟩)
  · exact bare_dig c ex neg t w h0

set_option maxHeartbeats 1000000 in
theorem digits_yes (t : ByteArray) (n : Nat) (w : World) (hn : t.size = n) (hm : n ≤ 1000) (hd : DigB (bys t)) : Calls Tryz.prog 186 #[.string t] w fun e w' => e = .returned (.bool true) ∧ w = w' := by
  have HD := hide hd
  have HL : Hid ((bys t).length = n) := by rw [← hn]; exact bys_len t
  clear hd
  go_enter Tryz.func186, Tryz.ntmps186
  go_wp2
  go_loopw [6] (fun i wr => ∃ k : Nat, k ≤ n ∧ i = .int .i64 (k : Int) ∧ wr = w) (fun i _ => n - (intOf i).toNat)
  case atStart => exact ⟨0, Nat.zero_le _, rfl, rfl⟩
  case round =>
    obtain ⟨k, hk, rfl, rfl⟩ := hrel
    by_cases hlt : k < n
    · have hlt' : (k : Int) < (t.size : Int) := by omega
      have hks : k < t.size := by omega
      have hg : ∀ h : k < t.size, t[k].toNat = byt (bys t) k := fun h => byt_get t k h
      have hb := HD.out k (by rw [HL.out]; exact hlt)
      obtain ⟨b, hbb⟩ : ∃ b, b = byt (bys t) k := ⟨_, rfl⟩
      rw [← hbb] at hg hb
      have h1' : ¬ (b : Int) < 48 := by omega
      have h2' : ¬ (57 : Int) < (b : Int) := by omega
      clear hbb
      go_wp2
      exact ⟨⟨k + 1, by omega, by go_num, trivial⟩, by simp [intOf]; omega⟩
    · have hlt' : ¬ (k : Int) < (t.size : Int) := by omega
      go_wp2
      go_ret
      exact ⟨rfl, rfl⟩

set_option maxHeartbeats 1000000 in
theorem digits_no (t : ByteArray) (n j : Nat) (w : World) (hn : t.size = n) (hm : n ≤ 1000) (hj : j < n) (hd : ¬ (48 ≤ byt (bys t) j ∧ byt (bys t) j ≤ 57)) : Calls Tryz.prog 186 #[.string t] w fun e w' => e = .returned (.bool false) ∧ w = w' := by
  have HD := hide hd
  clear hd
  go_enter Tryz.func186, Tryz.ntmps186
  go_wp2
  go_loopw [6] (fun i wr => ∃ k : Nat, k ≤ j ∧ i = .int .i64 (k : Int) ∧ wr = w) (fun i _ => n - (intOf i).toNat)
  case atStart => exact ⟨0, Nat.zero_le _, rfl, rfl⟩
  case round =>
    obtain ⟨k, hk, rfl, rfl⟩ := hrel
    have hlt' : (k : Int) < (t.size : Int) := by omega
    have hks : k < t.size := by omega
    have hg : ∀ h : k < t.size, t[k].toNat = byt (bys t) k := fun h => byt_get t k h
    obtain ⟨b, hbb⟩ : ∃ b, b = byt (bys t) k := ⟨_, rfl⟩
    rw [← hbb] at hg
    have HBB := hide hbb
    clear hbb
    by_cases h1 : b < 48
    · have h1' : (b : Int) < 48 := by omega
      go_wp2
      go_ret
      exact ⟨rfl, rfl⟩
    · have h1' : ¬ (b : Int) < 48 := by omega
      by_cases h2 : 57 < b
      · have h2' : (57 : Int) < (b : Int) := by omega
        go_wp2
        go_ret
        exact ⟨rfl, rfl⟩
      · have h2' : ¬ (57 : Int) < (b : Int) := by omega
        have hne : k ≠ j := fun e => HD.out (by rw [← e, ← HBB.out]; omega)
        go_wp2
        exact ⟨⟨k + 1, by omega, by go_num, trivial⟩, by simp [intOf]; omega⟩

/-- The digits of a Dec that may be. -/
def DigD (dig : List UInt8) (e : Int) : Prop :=
  dig ≠ [] ∧ dig.length ≤ 1000 ∧ -2000 ≤ e + dig.length ∧ e + dig.length ≤ 2000 ∧ byt dig 0 ≠ 48 ∧ byt dig (dig.length - 1) ≠ 48 ∧ DigB dig

theorem bys_nil {t : ByteArray} : bys t = [] ↔ t.size = 0 := by
  rw [← bys_len]; exact List.length_eq_zero_iff.symm

set_option maxRecDepth 100000 in
set_option maxHeartbeats 1000000 in
theorem mdig_yes (t : ByteArray) (ex : Int) (w : World) (h : DigD (bys t) ex) : Calls Tryz.prog 132 #[.string t, .int .i64 ex] w fun e w' => e = .returned (.bool true) ∧ w = w' := by
  obtain ⟨h0, h1, h2, h3, h4, h5, h6⟩ := h
  rw [bys_len] at h1 h2 h3 h5
  have hn0 : t.size ≠ 0 := fun e => h0 (bys_nil.2 e)
  obtain ⟨j, hj⟩ : ∃ j, t.size = j + 1 := ⟨t.size - 1, by omega⟩
  have DG := hide (digits_yes t (j + 1) w hj (by omega) h6)
  have hg0 : ∀ h : 0 < t.size, t[0].toNat = byt (bys t) 0 := fun h => byt_get t 0 h
  have hgz : ∀ h : j < t.size, t[j].toNat = byt (bys t) j := fun h => byt_get t j h
  rw [show t.size - 1 = j by omega] at h5
  obtain ⟨a, ha⟩ : ∃ b, b = byt (bys t) 0 := ⟨_, rfl⟩
  obtain ⟨z, hz⟩ : ∃ b, b = byt (bys t) j := ⟨_, rfl⟩
  rw [← ha] at hg0 h4
  rw [← hz] at hgz h5
  have hp0 : 0 < t.size := by omega
  have hp1 : j < t.size := by omega
  have hp1' : (j : Int) < (t.size : Int) := by omega
  have e0 : ((j : Int) + 1 == 0) = false := by
    have : ¬ (j : Int) + 1 = 0 := by omega
    simpa using this
  have e1 : decide ((1000 : Int) < (j : Int) + 1) = false := decide_eq_false (by omega)
  have e2 : decide (ex < -2000 - ((j : Int) + 1)) = false := decide_eq_false (by omega)
  have e3 : decide (2000 - ((j : Int) + 1) < ex) = false := decide_eq_false (by omega)
  have c1 : ((a : Int) != 48) = true := by
    have : ¬ (a : Int) = 48 := by omega
    simpa using this
  have c2 : ((z : Int) != 48) = true := by
    have : ¬ (z : Int) = 48 := by omega
    simpa using this
  clear ha hz h4 h5 h0 h6
  go_enter Tryz.func132, Tryz.ntmps132
  go_wp2_with fail
  refine DG.out.mono ?_
  rintro e w1 ⟨rfl, rfl⟩
  clear DG
  go_wp2
  go_ret
  exact ⟨rfl, rfl⟩

theorem mdig_nil (ex : Int) (w : World) : Calls Tryz.prog 132 #[.string ⟨#[]⟩, .int .i64 ex] w fun e w' => e = .returned (.bool false) ∧ w = w' := by
  go_enter Tryz.func132, Tryz.ntmps132
  go_wp2
  go_ret
  exact ⟨rfl, rfl⟩

set_option maxRecDepth 100000 in
set_option maxHeartbeats 1000000 in
theorem mdig_long (t : ByteArray) (ex : Int) (w : World) (h : 1000 < t.size) : Calls Tryz.prog 132 #[.string t, .int .i64 ex] w fun e w' => e = .returned (.bool false) ∧ w = w' := by
  have e0 : ((t.size : Int) == 0) = false := by
    have : ¬ (t.size : Int) = 0 := by omega
    simpa using this
  have e1 : decide ((1000 : Int) < (t.size : Int)) = true := decide_eq_true (by omega)
  go_enter Tryz.func132, Tryz.ntmps132
  go_wp2
  go_ret
  exact ⟨rfl, rfl⟩

set_option maxRecDepth 100000 in
set_option maxHeartbeats 1000000 in
theorem mdig_low (t : ByteArray) (ex : Int) (w : World) (j : Nat) (hj : t.size = j + 1) (h : j + 1 ≤ 1000) (he : ex < -2000 - ((j : Int) + 1)) : Calls Tryz.prog 132 #[.string t, .int .i64 ex] w fun e w' => e = .returned (.bool false) ∧ w = w' := by
  have e0 : ((j : Int) + 1 == 0) = false := by
    have : ¬ (j : Int) + 1 = 0 := by omega
    simpa using this
  have e1 : decide ((1000 : Int) < (j : Int) + 1) = false := decide_eq_false (by omega)
  have e2 : decide (ex < -2000 - ((j : Int) + 1)) = true := decide_eq_true (by omega)
  go_enter Tryz.func132, Tryz.ntmps132
  go_wp2
  go_ret
  exact ⟨rfl, rfl⟩

set_option maxRecDepth 100000 in
set_option maxHeartbeats 1000000 in
theorem mdig_high (t : ByteArray) (ex : Int) (w : World) (j : Nat) (hj : t.size = j + 1) (h : j + 1 ≤ 1000) (he : 2000 - ((j : Int) + 1) < ex) : Calls Tryz.prog 132 #[.string t, .int .i64 ex] w fun e w' => e = .returned (.bool false) ∧ w = w' := by
  have e0 : ((j : Int) + 1 == 0) = false := by
    have : ¬ (j : Int) + 1 = 0 := by omega
    simpa using this
  have e1 : decide ((1000 : Int) < (j : Int) + 1) = false := decide_eq_false (by omega)
  have e2 : decide (ex < -2000 - ((j : Int) + 1)) = false := decide_eq_false (by omega)
  have e3 : decide (2000 - ((j : Int) + 1) < ex) = true := decide_eq_true (by omega)
  go_enter Tryz.func132, Tryz.ntmps132
  go_wp2
  go_ret
  exact ⟨rfl, rfl⟩

set_option maxRecDepth 100000 in
set_option maxHeartbeats 1000000 in
theorem mdig_first (t : ByteArray) (ex : Int) (w : World) (j : Nat) (hj : t.size = j + 1) (h : j + 1 ≤ 1000) (hl : -2000 - ((j : Int) + 1) ≤ ex) (he : ex ≤ 2000 - ((j : Int) + 1)) (hf : byt (bys t) 0 = 48) : Calls Tryz.prog 132 #[.string t, .int .i64 ex] w fun e w' => e = .returned (.bool false) ∧ w = w' := by
  have e0 : ((j : Int) + 1 == 0) = false := by
    have : ¬ (j : Int) + 1 = 0 := by omega
    simpa using this
  have e1 : decide ((1000 : Int) < (j : Int) + 1) = false := decide_eq_false (by omega)
  have e2 : decide (ex < -2000 - ((j : Int) + 1)) = false := decide_eq_false (by omega)
  have e3 : decide (2000 - ((j : Int) + 1) < ex) = false := decide_eq_false (by omega)
  have hg0 : ∀ h : 0 < t.size, t[0].toNat = byt (bys t) 0 := fun h => byt_get t 0 h
  have hgz : ∀ h : j < t.size, t[j].toNat = byt (bys t) j := fun h => byt_get t j h
  have hp0 : 0 < t.size := by omega
  have hp1 : j < t.size := by omega
  have hp1' : (j : Int) < (t.size : Int) := by omega
  obtain ⟨a, ha⟩ : ∃ b, b = byt (bys t) 0 := ⟨_, rfl⟩
  obtain ⟨z, hz⟩ : ∃ b, b = byt (bys t) j := ⟨_, rfl⟩
  rw [← ha] at hg0
  rw [← hz] at hgz
  rw [← ha] at hf
  have ca : ((a : Int) != 48) = false := by
    have : (a : Int) = 48 := by omega
    rw [this]; rfl
  clear ha hz hf
  go_enter Tryz.func132, Tryz.ntmps132
  go_wp2
  go_ret
  exact ⟨rfl, rfl⟩

set_option maxRecDepth 100000 in
set_option maxHeartbeats 1000000 in
theorem mdig_last (t : ByteArray) (ex : Int) (w : World) (j : Nat) (hj : t.size = j + 1) (h : j + 1 ≤ 1000) (hl : -2000 - ((j : Int) + 1) ≤ ex) (he : ex ≤ 2000 - ((j : Int) + 1)) (hf : byt (bys t) 0 ≠ 48) (hla : byt (bys t) j = 48) : Calls Tryz.prog 132 #[.string t, .int .i64 ex] w fun e w' => e = .returned (.bool false) ∧ w = w' := by
  have e0 : ((j : Int) + 1 == 0) = false := by
    have : ¬ (j : Int) + 1 = 0 := by omega
    simpa using this
  have e1 : decide ((1000 : Int) < (j : Int) + 1) = false := decide_eq_false (by omega)
  have e2 : decide (ex < -2000 - ((j : Int) + 1)) = false := decide_eq_false (by omega)
  have e3 : decide (2000 - ((j : Int) + 1) < ex) = false := decide_eq_false (by omega)
  have hg0 : ∀ h : 0 < t.size, t[0].toNat = byt (bys t) 0 := fun h => byt_get t 0 h
  have hgz : ∀ h : j < t.size, t[j].toNat = byt (bys t) j := fun h => byt_get t j h
  have hp0 : 0 < t.size := by omega
  have hp1 : j < t.size := by omega
  have hp1' : (j : Int) < (t.size : Int) := by omega
  obtain ⟨a, ha⟩ : ∃ b, b = byt (bys t) 0 := ⟨_, rfl⟩
  obtain ⟨z, hz⟩ : ∃ b, b = byt (bys t) j := ⟨_, rfl⟩
  rw [← ha] at hg0
  rw [← hz] at hgz
  rw [← ha] at hf
  rw [← hz] at hla
  have ca : ((a : Int) != 48) = true := by
    have : ¬ (a : Int) = 48 := by omega
    simpa using this
  have cz : ((z : Int) != 48) = false := by
    have : (z : Int) = 48 := by omega
    rw [this]; rfl
  clear ha hz hf hla
  go_enter Tryz.func132, Tryz.ntmps132
  go_wp2
  go_ret
  exact ⟨rfl, rfl⟩

set_option maxRecDepth 100000 in
set_option maxHeartbeats 1000000 in
theorem mdig_bad (t : ByteArray) (ex : Int) (w : World) (j : Nat) (hj : t.size = j + 1) (h : j + 1 ≤ 1000) (hl : -2000 - ((j : Int) + 1) ≤ ex) (he : ex ≤ 2000 - ((j : Int) + 1)) (k : Nat) (hk : k < j + 1) (hf : byt (bys t) 0 ≠ 48) (hla : byt (bys t) j ≠ 48) (hd : ¬ (48 ≤ byt (bys t) k ∧ byt (bys t) k ≤ 57)) : Calls Tryz.prog 132 #[.string t, .int .i64 ex] w fun e w' => e = .returned (.bool false) ∧ w = w' := by
  have DG := hide (digits_no t (j + 1) k w hj h hk hd)
  have e0 : ((j : Int) + 1 == 0) = false := by
    have : ¬ (j : Int) + 1 = 0 := by omega
    simpa using this
  have e1 : decide ((1000 : Int) < (j : Int) + 1) = false := decide_eq_false (by omega)
  have e2 : decide (ex < -2000 - ((j : Int) + 1)) = false := decide_eq_false (by omega)
  have e3 : decide (2000 - ((j : Int) + 1) < ex) = false := decide_eq_false (by omega)
  have hg0 : ∀ h : 0 < t.size, t[0].toNat = byt (bys t) 0 := fun h => byt_get t 0 h
  have hgz : ∀ h : j < t.size, t[j].toNat = byt (bys t) j := fun h => byt_get t j h
  have hp0 : 0 < t.size := by omega
  have hp1 : j < t.size := by omega
  have hp1' : (j : Int) < (t.size : Int) := by omega
  obtain ⟨a, ha⟩ : ∃ b, b = byt (bys t) 0 := ⟨_, rfl⟩
  obtain ⟨z, hz⟩ : ∃ b, b = byt (bys t) j := ⟨_, rfl⟩
  rw [← ha] at hg0
  rw [← hz] at hgz
  rw [← ha] at hf
  rw [← hz] at hla
  have ca : ((a : Int) != 48) = true := by
    have : ¬ (a : Int) = 48 := by omega
    simpa using this
  have cz : ((z : Int) != 48) = true := by
    have : ¬ (z : Int) = 48 := by omega
    simpa using this
  clear ha hz hf hla hd
  go_enter Tryz.func132, Tryz.ntmps132
  go_wp2_with fail
  refine DG.out.mono ?_
  rintro e w1 ⟨rfl, rfl⟩
  clear DG
  go_wp2
  go_ret
  exact ⟨rfl, rfl⟩

theorem mdig_no (t : ByteArray) (ex : Int) (w : World) (h : ¬ DigD (bys t) ex) : Calls Tryz.prog 132 #[.string t, .int .i64 ex] w fun e w' => e = .returned (.bool false) ∧ w = w' := by
  by_cases h0 : t.size = 0
  · rw [size_nil h0]; exact mdig_nil ex w
  · obtain ⟨j, hj⟩ : ∃ j, t.size = j + 1 := ⟨t.size - 1, by omega⟩
    rcases Nat.lt_or_ge 1000 t.size with h1 | h1
    · exact mdig_long t ex w h1
    · by_cases h2 : ex < -2000 - ((j : Int) + 1)
      · exact mdig_low t ex w j hj (by omega) h2
      · by_cases h3 : 2000 - ((j : Int) + 1) < ex
        · exact mdig_high t ex w j hj (by omega) h3
        · by_cases h4 : byt (bys t) 0 = 48
          · exact mdig_first t ex w j hj (by omega) (by omega) (by omega) h4
          · by_cases h5 : byt (bys t) j = 48
            · exact mdig_last t ex w j hj (by omega) (by omega) (by omega) h4 h5
            · have hd : ¬ DigB (bys t) := by
                intro hd
                apply h
                unfold DigD
                rw [bys_len, hj]
                exact ⟨fun e => h0 (bys_nil.1 e), by omega, by omega, by omega, h4, by rw [Nat.add_sub_cancel]; exact h5, hd⟩
              obtain ⟨k, hk⟩ := Classical.not_forall.1 hd
              obtain ⟨hk1, hk2⟩ := Classical.not_imp.1 hk
              rw [bys_len, hj] at hk1
              exact mdig_bad t ex w j hj (by omega) (by omega) (by omega) k hk1 h4 h5 hk2

theorem mayD_0 (neg : Bool) (t : ByteArray) (ex : Int) : MayD 0 neg (bys t) ex ↔ ((t.size = 0 ∧ ex = 0) ∨ DigD (bys t) ex) := by
  unfold MayD DigD
  rw [bys_nil]
  constructor
  · rintro (⟨_, h⟩ | ⟨h, _⟩ | ⟨h, _⟩)
    · exact h
    · omega
    · omega
  · intro h; exact .inl ⟨rfl, h⟩

set_option maxHeartbeats 1000000 in
theorem may0_bare (neg : Bool) (w : World) : Calls Tryz.prog 70 #[dcV 0 neg ⟨#[]⟩ 0] w fun e w' => e = .returned (.bool true) ∧ Below w.heap.size w w' := by
  have HB0 : Hid (Below w.heap.size w (w.alloc (.cells #[.int .i64 0, .bool neg, .string ⟨#[]⟩, .int .i64 0] 23))) := (Below.refl _ _).alloc (Nat.le_refl _) _
  have BLK := hide (Blk.new w #[.int .i64 0, .bool neg, .string ⟨#[]⟩, .int .i64 0] 23)
  go_enter Tryz.func70, Tryz.ntmps70
  go_wp2_with fail
  refine (bare_yes 0 neg _).mono ?_
  rintro e w1 ⟨rfl, hb⟩
  have q := BLK.out.below hb BLK.out.lt
  have k1 : w1.cell? ⟨w.heap.size, 1, none⟩ = some (.bool neg) := q.cell 1
  have k2 : w1.cell? ⟨w.heap.size, 2, none⟩ = some (.string ⟨#[]⟩) := q.cell 2
  have k3 : w1.cell? ⟨w.heap.size, 3, none⟩ = some (.int .i64 0) := q.cell 3
  have HB1 : Hid (Below w.heap.size w w1) := HB0.out.trans (hb.mono HB0.out.size)
  clear q hb BLK HB0
  go_wp2
  go_ret
  exact ⟨rfl, HB1.out⟩

set_option maxHeartbeats 1000000 in
theorem may0_yes (neg : Bool) (t : ByteArray) (ex : Int) (w : World) (hb : ¬ (t.size = 0 ∧ ex = 0)) (hd : DigD (bys t) ex) : Calls Tryz.prog 70 #[dcV 0 neg t ex] w fun e w' => e = .returned (.bool true) ∧ Below w.heap.size w w' := by
  have BA := hide (fun W => bare_no 0 ex neg t W hb)
  have MD := hide (fun W => mdig_yes t ex W hd)
  clear hb hd
  have HB0 : Hid (Below w.heap.size w (w.alloc (.cells #[.int .i64 0, .bool neg, .string t, .int .i64 ex] 23))) := (Below.refl _ _).alloc (Nat.le_refl _) _
  have BLK := hide (Blk.new w #[.int .i64 0, .bool neg, .string t, .int .i64 ex] 23)
  go_enter Tryz.func70, Tryz.ntmps70
  go_wp2_with fail
  refine (BA.out _).mono ?_
  rintro e w1 ⟨rfl, hb⟩
  have q := BLK.out.below hb BLK.out.lt
  have k1 : w1.cell? ⟨w.heap.size, 1, none⟩ = some (.bool neg) := q.cell 1
  have k2 : w1.cell? ⟨w.heap.size, 2, none⟩ = some (.string t) := q.cell 2
  have k3 : w1.cell? ⟨w.heap.size, 3, none⟩ = some (.int .i64 ex) := q.cell 3
  have HB1 : Hid (Below w.heap.size w w1) := HB0.out.trans (hb.mono HB0.out.size)
  clear q hb BLK HB0
  go_wp2_with fail
  refine (MD.out _).mono ?_
  rintro e w2 ⟨rfl, rfl⟩
  go_wp2
  go_ret
  exact ⟨rfl, HB1.out⟩

set_option maxHeartbeats 1000000 in
theorem may0_no (neg : Bool) (t : ByteArray) (ex : Int) (w : World) (hb : ¬ (t.size = 0 ∧ ex = 0)) (hd : ¬ DigD (bys t) ex) : Calls Tryz.prog 70 #[dcV 0 neg t ex] w fun e w' => e = .returned (.bool false) ∧ Below w.heap.size w w' := by
  have BA := hide (fun W => bare_no 0 ex neg t W hb)
  have MD := hide (fun W => mdig_no t ex W hd)
  clear hb hd
  have HB0 : Hid (Below w.heap.size w (w.alloc (.cells #[.int .i64 0, .bool neg, .string t, .int .i64 ex] 23))) := (Below.refl _ _).alloc (Nat.le_refl _) _
  have BLK := hide (Blk.new w #[.int .i64 0, .bool neg, .string t, .int .i64 ex] 23)
  go_enter Tryz.func70, Tryz.ntmps70
  go_wp2_with fail
  refine (BA.out _).mono ?_
  rintro e w1 ⟨rfl, hb⟩
  have q := BLK.out.below hb BLK.out.lt
  have k1 : w1.cell? ⟨w.heap.size, 1, none⟩ = some (.bool neg) := q.cell 1
  have k2 : w1.cell? ⟨w.heap.size, 2, none⟩ = some (.string t) := q.cell 2
  have k3 : w1.cell? ⟨w.heap.size, 3, none⟩ = some (.int .i64 ex) := q.cell 3
  have HB1 : Hid (Below w.heap.size w w1) := HB0.out.trans (hb.mono HB0.out.size)
  clear q hb BLK HB0
  go_wp2_with fail
  refine (MD.out _).mono ?_
  rintro e w2 ⟨rfl, rfl⟩
  go_wp2
  go_ret
  exact ⟨rfl, HB1.out⟩

set_option maxHeartbeats 1000000 in
theorem may1_yes (neg : Bool) (w : World) : Calls Tryz.prog 70 #[dcV 1 neg ⟨#[]⟩ 0] w fun e w' => e = .returned (.bool true) ∧ Below w.heap.size w w' := by
  have HB0 : Hid (Below w.heap.size w (w.alloc (.cells #[.int .i64 1, .bool neg, .string ⟨#[]⟩, .int .i64 0] 23))) := (Below.refl _ _).alloc (Nat.le_refl _) _
  have BLK := hide (Blk.new w #[.int .i64 1, .bool neg, .string ⟨#[]⟩, .int .i64 0] 23)
  go_enter Tryz.func70, Tryz.ntmps70
  go_wp2_with fail
  refine (bare_yes 1 neg _).mono ?_
  rintro e w1 ⟨rfl, hb⟩
  have q := BLK.out.below hb BLK.out.lt
  have k1 : w1.cell? ⟨w.heap.size, 1, none⟩ = some (.bool neg) := q.cell 1
  have k2 : w1.cell? ⟨w.heap.size, 2, none⟩ = some (.string ⟨#[]⟩) := q.cell 2
  have k3 : w1.cell? ⟨w.heap.size, 3, none⟩ = some (.int .i64 0) := q.cell 3
  have HB1 : Hid (Below w.heap.size w w1) := HB0.out.trans (hb.mono HB0.out.size)
  clear q hb BLK HB0
  go_wp2
  go_ret
  exact ⟨rfl, HB1.out⟩

set_option maxHeartbeats 1000000 in
theorem may1_no (neg : Bool) (t : ByteArray) (ex : Int) (w : World) (hb : ¬ (t.size = 0 ∧ ex = 0)) : Calls Tryz.prog 70 #[dcV 1 neg t ex] w fun e w' => e = .returned (.bool false) ∧ Below w.heap.size w w' := by
  have BA := hide (fun W => bare_no 1 ex neg t W hb)
  clear hb
  have HB0 : Hid (Below w.heap.size w (w.alloc (.cells #[.int .i64 1, .bool neg, .string t, .int .i64 ex] 23))) := (Below.refl _ _).alloc (Nat.le_refl _) _
  have BLK := hide (Blk.new w #[.int .i64 1, .bool neg, .string t, .int .i64 ex] 23)
  go_enter Tryz.func70, Tryz.ntmps70
  go_wp2_with fail
  refine (BA.out _).mono ?_
  rintro e w1 ⟨rfl, hb⟩
  have q := BLK.out.below hb BLK.out.lt
  have k1 : w1.cell? ⟨w.heap.size, 1, none⟩ = some (.bool neg) := q.cell 1
  have k2 : w1.cell? ⟨w.heap.size, 2, none⟩ = some (.string t) := q.cell 2
  have k3 : w1.cell? ⟨w.heap.size, 3, none⟩ = some (.int .i64 ex) := q.cell 3
  have HB1 : Hid (Below w.heap.size w w1) := HB0.out.trans (hb.mono HB0.out.size)
  clear q hb BLK HB0
  go_wp2
  go_ret
  exact ⟨rfl, HB1.out⟩

set_option maxHeartbeats 1000000 in
theorem may2_yes (w : World) : Calls Tryz.prog 70 #[dcV 2 false ⟨#[]⟩ 0] w fun e w' => e = .returned (.bool true) ∧ Below w.heap.size w w' := by
  have HB0 : Hid (Below w.heap.size w (w.alloc (.cells #[.int .i64 2, .bool false, .string ⟨#[]⟩, .int .i64 0] 23))) := (Below.refl _ _).alloc (Nat.le_refl _) _
  have BLK := hide (Blk.new w #[.int .i64 2, .bool false, .string ⟨#[]⟩, .int .i64 0] 23)
  go_enter Tryz.func70, Tryz.ntmps70
  go_wp2_with fail
  refine (bare_yes 2 false _).mono ?_
  rintro e w1 ⟨rfl, hb⟩
  have q := BLK.out.below hb BLK.out.lt
  have k1 : w1.cell? ⟨w.heap.size, 1, none⟩ = some (.bool false) := q.cell 1
  have k2 : w1.cell? ⟨w.heap.size, 2, none⟩ = some (.string ⟨#[]⟩) := q.cell 2
  have k3 : w1.cell? ⟨w.heap.size, 3, none⟩ = some (.int .i64 0) := q.cell 3
  have HB1 : Hid (Below w.heap.size w w1) := HB0.out.trans (hb.mono HB0.out.size)
  clear q hb BLK HB0
  go_wp2
  go_ret
  exact ⟨rfl, HB1.out⟩

set_option maxHeartbeats 1000000 in
theorem may2_neg (w : World) : Calls Tryz.prog 70 #[dcV 2 true ⟨#[]⟩ 0] w fun e w' => e = .returned (.bool false) ∧ Below w.heap.size w w' := by
  have HB0 : Hid (Below w.heap.size w (w.alloc (.cells #[.int .i64 2, .bool true, .string ⟨#[]⟩, .int .i64 0] 23))) := (Below.refl _ _).alloc (Nat.le_refl _) _
  have BLK := hide (Blk.new w #[.int .i64 2, .bool true, .string ⟨#[]⟩, .int .i64 0] 23)
  go_enter Tryz.func70, Tryz.ntmps70
  go_wp2_with fail
  refine (bare_yes 2 true _).mono ?_
  rintro e w1 ⟨rfl, hb⟩
  have q := BLK.out.below hb BLK.out.lt
  have k1 : w1.cell? ⟨w.heap.size, 1, none⟩ = some (.bool true) := q.cell 1
  have k2 : w1.cell? ⟨w.heap.size, 2, none⟩ = some (.string ⟨#[]⟩) := q.cell 2
  have k3 : w1.cell? ⟨w.heap.size, 3, none⟩ = some (.int .i64 0) := q.cell 3
  have HB1 : Hid (Below w.heap.size w w1) := HB0.out.trans (hb.mono HB0.out.size)
  clear q hb BLK HB0
  go_wp2
  go_ret
  exact ⟨rfl, HB1.out⟩

set_option maxHeartbeats 1000000 in
theorem may2_no (neg : Bool) (t : ByteArray) (ex : Int) (w : World) (hb : ¬ (t.size = 0 ∧ ex = 0)) : Calls Tryz.prog 70 #[dcV 2 neg t ex] w fun e w' => e = .returned (.bool false) ∧ Below w.heap.size w w' := by
  have BA := hide (fun W => bare_no 2 ex neg t W hb)
  clear hb
  have HB0 : Hid (Below w.heap.size w (w.alloc (.cells #[.int .i64 2, .bool neg, .string t, .int .i64 ex] 23))) := (Below.refl _ _).alloc (Nat.le_refl _) _
  have BLK := hide (Blk.new w #[.int .i64 2, .bool neg, .string t, .int .i64 ex] 23)
  go_enter Tryz.func70, Tryz.ntmps70
  go_wp2_with fail
  refine (BA.out _).mono ?_
  rintro e w1 ⟨rfl, hb⟩
  have q := BLK.out.below hb BLK.out.lt
  have k1 : w1.cell? ⟨w.heap.size, 1, none⟩ = some (.bool neg) := q.cell 1
  have k2 : w1.cell? ⟨w.heap.size, 2, none⟩ = some (.string t) := q.cell 2
  have k3 : w1.cell? ⟨w.heap.size, 3, none⟩ = some (.int .i64 ex) := q.cell 3
  have HB1 : Hid (Below w.heap.size w w1) := HB0.out.trans (hb.mono HB0.out.size)
  clear q hb BLK HB0
  go_wp2
  go_ret
  exact ⟨rfl, HB1.out⟩

set_option maxHeartbeats 1000000 in
theorem may9_no (c : Int) (neg : Bool) (t : ByteArray) (ex : Int) (w : World) (h0 : ¬ c = 0) (h1 : ¬ c = 1) (h2 : ¬ c = 2) : Calls Tryz.prog 70 #[dcV c neg t ex] w fun e w' => e = .returned (.bool false) ∧ Below w.heap.size w w' := by
  have HB0 : Hid (Below w.heap.size w (w.alloc (.cells #[.int .i64 c, .bool neg, .string t, .int .i64 ex] 23))) := (Below.refl _ _).alloc (Nat.le_refl _) _
  have BLK := hide (Blk.new w #[.int .i64 c, .bool neg, .string t, .int .i64 ex] 23)
  go_enter Tryz.func70, Tryz.ntmps70
  go_wp2
  go_ret
  exact ⟨rfl, HB0.out⟩

theorem may_yes (c : Int) (neg : Bool) (t : ByteArray) (ex : Int) (w : World) (h : MayD c neg (bys t) ex) : Calls Tryz.prog 70 #[dcV c neg t ex] w fun e w' => e = .returned (.bool true) ∧ Below w.heap.size w w' := by
  have h' := h
  rcases h with ⟨rfl, _⟩ | ⟨rfl, h1, rfl⟩ | ⟨rfl, rfl, h1, rfl⟩
  · rcases (mayD_0 neg t ex).1 h' with h1 | h1
    · obtain ⟨h1, rfl⟩ := h1
      rw [size_nil h1]; exact may0_bare neg w
    · exact may0_yes neg t ex w (fun e => h1.1 (bys_nil.2 e.1)) h1
  · rw [size_nil (bys_nil.1 h1)]; exact may1_yes neg w
  · rw [size_nil (bys_nil.1 h1)]; exact may2_yes w

theorem may_no (c : Int) (neg : Bool) (t : ByteArray) (ex : Int) (w : World) (h : ¬ MayD c neg (bys t) ex) : Calls Tryz.prog 70 #[dcV c neg t ex] w fun e w' => e = .returned (.bool false) ∧ Below w.heap.size w w' := by
  by_cases h0 : c = 0
  · subst h0
    rw [mayD_0] at h
    exact may0_no neg t ex w (fun e => h (.inl e)) (fun e => h (.inr e))
  · by_cases h1 : c = 1
    · subst h1
      exact may1_no neg t ex w (fun e => h (.inr (.inl ⟨rfl, bys_nil.2 e.1, e.2⟩)))
    · by_cases h2 : c = 2
      · subst h2
        by_cases hb : t.size = 0 ∧ ex = 0
        · obtain ⟨hb1, rfl⟩ := hb
          cases neg with
          | false => exact absurd (.inr (.inr ⟨rfl, rfl, bys_nil.2 hb1, rfl⟩)) h
          | true => rw [size_nil hb1]; exact may2_neg w
        · exact may2_no neg t ex w hb
      · exact may9_no c neg t ex w h0 h1 h2

end Go.Proofs.YtckijnlolmbdiaaGreatDoor

namespace Go.Proofs.YtckijnlolmbdiaaGreatDoor
open Go.RowKit

set_option maxHeartbeats 1000000 in
theorem dmay_yes (ca : Int) (na : Bool) (ta : ByteArray) (ea : Int) (w : World) (h : MayD ca na (bys ta) ea) : Calls Tryz.prog 38 #[dcV ca na ta ea] w fun e w' => e = .returned (.bool true) ∧ Below w.heap.size w w' := by
  have MY := hide (fun W => may_yes ca na ta ea W h)
  clear h
  have Ba0 := hide (Blk.newAt w (w.heap.size) (rfl) #[.int .i64 ca, .bool na, .string ta, .int .i64 ea] 23)
  have HB0 : Hid (Below w.heap.size w (w.alloc (.cells #[.int .i64 ca, .bool na, .string ta, .int .i64 ea] 23))) := ((Below.refl _ _).alloc (Nat.le_refl _) _)
  go_enter Tryz.func38, Tryz.ntmps38
  go_wp2_with fail
  refine (MY.out _).mono ?_
  rintro e w1 ⟨rfl, hb⟩
  have Ba1 := hide (Ba0.out.below hb Ba0.out.lt)
  have HB1 := hide (HB0.out.trans (hb.mono HB0.out.size))
  clear hb Ba0 HB0 
  obtain ⟨ya0, ya1, ya2, ya3⟩ := Ba1.out.four
  go_wp2
  go_ret
  exact ⟨rfl, HB1.out⟩

set_option maxHeartbeats 1000000 in
theorem dmay_no (ca : Int) (na : Bool) (ta : ByteArray) (ea : Int) (w : World) (h : ¬ MayD ca na (bys ta) ea) : Calls Tryz.prog 38 #[dcV ca na ta ea] w fun e w' => e = .returned (.bool false) ∧ Below w.heap.size w w' := by
  have MY := hide (fun W => may_no ca na ta ea W h)
  clear h
  have Ba0 := hide (Blk.newAt w (w.heap.size) (rfl) #[.int .i64 ca, .bool na, .string ta, .int .i64 ea] 23)
  have HB0 : Hid (Below w.heap.size w (w.alloc (.cells #[.int .i64 ca, .bool na, .string ta, .int .i64 ea] 23))) := ((Below.refl _ _).alloc (Nat.le_refl _) _)
  go_enter Tryz.func38, Tryz.ntmps38
  go_wp2_with fail
  refine (MY.out _).mono ?_
  rintro e w1 ⟨rfl, hb⟩
  have Ba1 := hide (Ba0.out.below hb Ba0.out.lt)
  have HB1 := hide (HB0.out.trans (hb.mono HB0.out.size))
  clear hb Ba0 HB0 
  obtain ⟨ya0, ya1, ya2, ya3⟩ := Ba1.out.four
  go_wp2
  go_ret
  exact ⟨rfl, HB1.out⟩

set_option maxHeartbeats 1000000 in
theorem place_any (ca : Int) (na : Bool) (ta : ByteArray) (ea : Int) (w : World) (h1 : ta.size ≤ 10000) (h2 : -10000 ≤ ea) (h3 : ea ≤ 10000) : Calls Tryz.prog 76 #[dcV ca na ta ea] w fun e w' => e = .returned (.int .i64 ((ta.size : Int) + ea)) ∧ Below w.heap.size w w' := by
  have Ba0 := hide (Blk.newAt w (w.heap.size) (rfl) #[.int .i64 ca, .bool na, .string ta, .int .i64 ea] 23)
  have HB0 : Hid (Below w.heap.size w (w.alloc (.cells #[.int .i64 ca, .bool na, .string ta, .int .i64 ea] 23))) := ((Below.refl _ _).alloc (Nat.le_refl _) _)
  go_enter Tryz.func76, Tryz.ntmps76
  go_wp2
  go_ret
  exact ⟨rfl, HB0.out⟩

theorem may_bounds {c : Int} {n : Bool} {t : ByteArray} {e : Int} (h : MayD c n (bys t) e) : t.size ≤ 10000 ∧ -10000 ≤ e ∧ e ≤ 10000 := by
  rcases h with ⟨_, ⟨h1, h2⟩ | ⟨_, h1, h2, h3, _⟩⟩ | ⟨_, h1, h2⟩ | ⟨_, _, h1, h2⟩
  · rw [bys_nil] at h1; omega
  · rw [bys_len] at h1 h2 h3; omega
  · rw [bys_nil] at h1; omega
  · rw [bys_nil] at h1; omega

set_option maxHeartbeats 1000000 in
theorem Place_yes (ca : Int) (na : Bool) (ta : ByteArray) (ea : Int) (w : World) (h : MayD ca na (bys ta) ea) : Calls Tryz.prog 39 #[dcV ca na ta ea] w fun e w' => e = .returned (.int .i64 ((ta.size : Int) + ea)) ∧ Below w.heap.size w w' := by
  obtain ⟨b1, b2, b3⟩ := may_bounds h
  have MY := hide (fun W => dmay_yes ca na ta ea W h)
  have PL := hide (fun W => place_any ca na ta ea W b1 b2 b3)
  clear h b1 b2 b3
  have Ba0 := hide (Blk.newAt w (w.heap.size) (rfl) #[.int .i64 ca, .bool na, .string ta, .int .i64 ea] 23)
  have HB0 : Hid (Below w.heap.size w (w.alloc (.cells #[.int .i64 ca, .bool na, .string ta, .int .i64 ea] 23))) := ((Below.refl _ _).alloc (Nat.le_refl _) _)
  go_enter Tryz.func39, Tryz.ntmps39
  go_wp2_with fail
  refine (MY.out _).mono ?_
  rintro e w1 ⟨rfl, hb⟩
  have Ba1 := hide (Ba0.out.below hb Ba0.out.lt)
  have HB1 := hide (HB0.out.trans (hb.mono HB0.out.size))
  clear hb Ba0 HB0 
  obtain ⟨ya0, ya1, ya2, ya3⟩ := Ba1.out.four
  go_wp2_with fail
  refine (PL.out _).mono ?_
  rintro e w2 ⟨rfl, hb⟩
  have Ba2 := hide (Ba1.out.below hb Ba1.out.lt)
  have HB2 := hide (HB1.out.trans (hb.mono HB1.out.size))
  clear hb Ba1 HB1 ya0 ya1 ya2 ya3
  obtain ⟨ya0, ya1, ya2, ya3⟩ := Ba2.out.four
  go_wp2
  go_ret
  exact ⟨rfl, HB2.out⟩

end Go.Proofs.YtckijnlolmbdiaaGreatDoor

namespace Go.Proofs.YtckijnlolmbdiaaGreatDoor
open Go.RowKit

theorem bys_mk (l : List UInt8) : bys ⟨l.toArray⟩ = l := by simp [bys]
theorem mk_bys (t : ByteArray) : (⟨(bys t).toArray⟩ : ByteArray) = t := by cases t; simp [bys]
theorem size_mk0 (l : List UInt8) : (⟨l.toArray⟩ : ByteArray).size = l.length := by simp [ByteArray.size]

theorem cut0_len (l : List UInt8) : (cut0 l).length ≤ l.length := by
  unfold cut0 Lib.trimRightB
  rw [List.length_reverse]
  have := (List.dropWhile_sublist (p := (· == (48 : UInt8))) (l := l.reverse)).length_le
  rw [List.length_reverse] at this
  exact this

set_option maxHeartbeats 1000000 in
theorem dof_nil (neg : Bool) (t : ByteArray) (ex : Int) (w : World) (hs : t.size ≤ 281474976710656) (h1 : -100000000000000000 ≤ ex) (h2 : ex ≤ 100000000000000000) (h : mid0 (bys t) = []) : Calls Tryz.prog 69 #[.bool neg, .string t, .int .i64 ex] w fun e w' => e = .returned (decVal (ofD neg (bys t) ex)) ∧ Below w.heap.size w w' := by
  have TR := hide (fun W => Tryz.strings_TrimRight_one t 48 (by decide) W (by omega))
  have TL := hide (fun W => Tryz.strings_TrimLeft_one ⟨(cut0 (bys t)).toArray⟩ 48 (by decide) W)
  have hl1 := cut0_len (bys t)
  rw [bys_len] at hl1
  have hsz : (⟨(cut0 (bys t)).toArray⟩ : ByteArray).size = (cut0 (bys t)).length := size_mk0 _
  have HM : Hid (mid0 (bys t) = Lib.trimLeftB (cut0 (bys t)) 48) := rfl
  obtain ⟨C, hC⟩ : ∃ C : ByteArray, C = ⟨(cut0 (bys t)).toArray⟩ := ⟨_, rfl⟩
  obtain ⟨m, hm⟩ : ∃ m, m = (cut0 (bys t)).length := ⟨_, rfl⟩
  have TR' : Hid (∀ W, Calls Tryz.prog 129 #[.string t, .string ⟨#[48]⟩] W fun e w' => e = .returned (.string C) ∧ w' = W) := by rw [hC]; exact TR.out
  have TL' : Hid (∀ W, Calls Tryz.prog 130 #[.string C, .string ⟨#[48]⟩] W fun e w' => e = .returned (.string ⟨(mid0 (bys t)).toArray⟩) ∧ w' = W) := by rw [hC]; exact TL.out
  rw [← hC, ← hm] at hsz
  rw [← hm] at hl1
  obtain ⟨D, hD⟩ : ∃ D : ByteArray, D = ⟨(mid0 (bys t)).toArray⟩ := ⟨_, rfl⟩
  rw [← hD] at TL'
  have hDs : D.size = (mid0 (bys t)).length := by rw [hD]; exact size_mk0 _
  have hD0 : D = ⟨#[]⟩ := by rw [hD, h]
  subst hD0
  clear TR TL HM hD hDs hC hm
  have Br0 := hide (Blk.newAt w (w.heap.size) (rfl) #[.int .i64 0, .bool false, .string ⟨#[]⟩, .int .i64 0] 23)
  have HB0 : Hid (Below w.heap.size w (w.alloc (.cells #[.int .i64 0, .bool false, .string ⟨#[]⟩, .int .i64 0] 23))) := ((Below.refl _ _).alloc (Nat.le_refl _) _)
  go_enter Tryz.func69, Tryz.ntmps69
  go_wp2_with fail
  refine (TR'.out _).mono ?_
  rintro e w1 ⟨rfl, rfl⟩
  go_wp2_with fail
  refine (TL'.out _).mono ?_
  rintro e w1 ⟨rfl, rfl⟩
  go_wp2
  refine bodyPost_ret (results_dec rfl _ _ _ _ _ _ _ rfl (Blk.new _ _ _)) rfl ?_
  exact ⟨by unfold ofD decVal; rw [if_pos h]; rfl, (Below.refl _ _).alloc (Nat.le_refl _) _⟩

set_option maxHeartbeats 1000000 in
theorem dof_some (neg : Bool) (t : ByteArray) (ex : Int) (w : World) (hs : t.size ≤ 281474976710656) (h1 : -100000000000000000 ≤ ex) (h2 : ex ≤ 100000000000000000) (h : mid0 (bys t) ≠ []) : Calls Tryz.prog 69 #[.bool neg, .string t, .int .i64 ex] w fun e w' => e = .returned (decVal (ofD neg (bys t) ex)) ∧ Below w.heap.size w w' := by
  have TR := hide (fun W => Tryz.strings_TrimRight_one t 48 (by decide) W (by omega))
  have TL := hide (fun W => Tryz.strings_TrimLeft_one ⟨(cut0 (bys t)).toArray⟩ 48 (by decide) W)
  have hl1 := cut0_len (bys t)
  rw [bys_len] at hl1
  have hsz : (⟨(cut0 (bys t)).toArray⟩ : ByteArray).size = (cut0 (bys t)).length := size_mk0 _
  have HM : Hid (mid0 (bys t) = Lib.trimLeftB (cut0 (bys t)) 48) := rfl
  obtain ⟨C, hC⟩ : ∃ C : ByteArray, C = ⟨(cut0 (bys t)).toArray⟩ := ⟨_, rfl⟩
  obtain ⟨m, hm⟩ : ∃ m, m = (cut0 (bys t)).length := ⟨_, rfl⟩
  have TR' : Hid (∀ W, Calls Tryz.prog 129 #[.string t, .string ⟨#[48]⟩] W fun e w' => e = .returned (.string C) ∧ w' = W) := by rw [hC]; exact TR.out
  have TL' : Hid (∀ W, Calls Tryz.prog 130 #[.string C, .string ⟨#[48]⟩] W fun e w' => e = .returned (.string ⟨(mid0 (bys t)).toArray⟩) ∧ w' = W) := by rw [hC]; exact TL.out
  rw [← hC, ← hm] at hsz
  rw [← hm] at hl1
  obtain ⟨D, hD⟩ : ∃ D : ByteArray, D = ⟨(mid0 (bys t)).toArray⟩ := ⟨_, rfl⟩
  rw [← hD] at TL'
  have hDs : D.size = (mid0 (bys t)).length := by rw [hD]; exact size_mk0 _
  have hD0 : D.size ≠ 0 := by rw [hDs]; exact fun e => h (List.length_eq_zero_iff.1 e)
  have hD1 := toList_ne hD0
  have HDD := hide hD
  have HMM := hide hm
  clear TR TL HM hD hDs hC hD0 hm
  have Br0 := hide (Blk.newAt w (w.heap.size) (rfl) #[.int .i64 0, .bool false, .string ⟨#[]⟩, .int .i64 0] 23)
  have HB0 : Hid (Below w.heap.size w (w.alloc (.cells #[.int .i64 0, .bool false, .string ⟨#[]⟩, .int .i64 0] 23))) := ((Below.refl _ _).alloc (Nat.le_refl _) _)
  go_enter Tryz.func69, Tryz.ntmps69
  go_wp2_with fail
  refine (TR'.out _).mono ?_
  rintro e w1 ⟨rfl, rfl⟩
  go_wp2_with fail
  refine (TL'.out _).mono ?_
  rintro e w1 ⟨rfl, rfl⟩
  go_wp2
  refine bodyPost_ret (results_dec rfl _ _ _ _ _ _ _ rfl (Blk.new _ _ _)) rfl ?_
  exact ⟨by unfold ofD decVal; rw [if_neg h, ← HMM.out, bys_len, HDD.out, show ex + ((t.size : Int) - (m : Int)) = ex + (t.size : Int) - (m : Int) by omega]; rfl, (Below.refl _ _).alloc (Nat.le_refl _) _⟩

theorem dof_any (neg : Bool) (t : ByteArray) (ex : Int) (w : World) (hs : t.size ≤ 281474976710656) (h1 : -100000000000000000 ≤ ex) (h2 : ex ≤ 100000000000000000) : Calls Tryz.prog 69 #[.bool neg, .string t, .int .i64 ex] w fun e w' => e = .returned (decVal (ofD neg (bys t) ex)) ∧ Below w.heap.size w w' := by
  by_cases h : mid0 (bys t) = []
  · exact dof_nil neg t ex w hs h1 h2 h
  · exact dof_some neg t ex w hs h1 h2 h

theorem fmay_d_yes (d : DecT) (w : World) (h : May d) : Calls Tryz.prog 70 #[decVal d] w fun e w' => e = .returned (.bool true) ∧ Below w.heap.size w w' :=
  may_yes (d.cls : Int) d.neg ⟨d.dig.toArray⟩ d.exp w (by rw [bys_mk]; exact h)
theorem fmay_d_no (d : DecT) (w : World) (h : ¬ May d) : Calls Tryz.prog 70 #[decVal d] w fun e w' => e = .returned (.bool false) ∧ Below w.heap.size w w' :=
  may_no (d.cls : Int) d.neg ⟨d.dig.toArray⟩ d.exp w (by rw [bys_mk]; exact h)

/-- A Dec and an error, as they are handed back. -/
def decErr (r : DecT × Int) : Value := .tuple #[decVal r.1, .int .i64 r.2]

set_option maxHeartbeats 1000000 in
theorem fin_yes (neg : Bool) (t : ByteArray) (ex : Int) (w : World) (hs : t.size ≤ 281474976710656) (h1 : -100000000000000000 ≤ ex) (h2 : ex ≤ 100000000000000000) (hd : DigB (bys t)) (h : May (finD neg (decV (bys t)) ex)) : Calls Tryz.prog 29 #[.bool neg, .string t, .int .i64 ex] w fun e w' => e = .returned (decErr (tellF neg (decV (bys t)) ex)) ∧ Below w.heap.size w w' := by
  have OF := hide (fun W => dof_any neg t ex W hs h1 h2)
  rw [ofD_fin neg _ ex hd] at OF
  obtain ⟨d, hdd⟩ : ∃ d, d = finD neg (decV (bys t)) ex := ⟨_, rfl⟩
  rw [← hdd] at OF h
  have MY := hide (fun W => fmay_d_yes d W h)
  have TF : Hid (tellF neg (decV (bys t)) ex = (d, 0)) := by rw [hdd] at h ⊢; exact tellF_yes h
  clear hdd h hs h1 h2 hd
  obtain ⟨c, n, l, e⟩ := d
  unfold decVal at OF MY
  simp only at OF MY
  have Br0 := hide (Blk.newAt w (w.heap.size) (rfl) #[.int .i64 0, .bool false, .string ⟨#[]⟩, .int .i64 0] 23)
  have HB0 : Hid (Below w.heap.size w (w.alloc (.cells #[.int .i64 0, .bool false, .string ⟨#[]⟩, .int .i64 0] 23))) := ((Below.refl _ _).alloc (Nat.le_refl _) _)
  go_enter Tryz.func29, Tryz.ntmps29
  go_wp2_with fail
  refine (OF.out _).mono ?_
  rintro e w1 ⟨rfl, hb⟩
  have Br1 := hide (Br0.out.below hb Br0.out.lt)
  have HB1 := hide (HB0.out.trans (hb.mono HB0.out.size))
  clear hb Br0 HB0 
  obtain ⟨yr0, yr1, yr2, yr3⟩ := Br1.out.four
  go_wp2_with fail
  refine (MY.out _).mono ?_
  rintro e w2 ⟨rfl, hb⟩
  have Br2 := hide ((Br1.out.alloc (.cells #[.int .i64 (c : Int), .bool n, .string ⟨l.toArray⟩, .int .i64 e] 23)).below hb (Br1.out.alloc (.cells #[.int .i64 (c : Int), .bool n, .string ⟨l.toArray⟩, .int .i64 e] 23)).lt)
  have Bd2 := hide ((Blk.newAt w1 (w1.heap.size) (rfl) #[.int .i64 (c : Int), .bool n, .string ⟨l.toArray⟩, .int .i64 e] 23).below hb (Blk.newAt w1 (w1.heap.size) (rfl) #[.int .i64 (c : Int), .bool n, .string ⟨l.toArray⟩, .int .i64 e] 23).lt)
  have HB2 := hide ((HB1.out.alloc HB1.out.size _).trans (hb.mono (HB1.out.alloc HB1.out.size _).size))
  clear hb Br1 HB1 yr0 yr1 yr2 yr3
  obtain ⟨yr0, yr1, yr2, yr3⟩ := Br2.out.four
  obtain ⟨yd0, yd1, yd2, yd3⟩ := Bd2.out.four
  have fr0 := Br2.out.free 0
  have fr1 := Br2.out.free 1
  have fr2 := Br2.out.free 2
  have fr3 := Br2.out.free 3
  go_wp2
  refine bodyPost_ret (results_dec2 rfl _ _ _ _ _ _ _ rfl (Br2.out.put4 _ _ _ _)) rfl ?_
  exact ⟨by rw [TF.out]; rfl, below_put4 (HB2.out) (by omega) _ _ _ _⟩

set_option maxHeartbeats 1000000 in
theorem fin_no (neg : Bool) (t : ByteArray) (ex : Int) (w : World) (hs : t.size ≤ 281474976710656) (h1 : -100000000000000000 ≤ ex) (h2 : ex ≤ 100000000000000000) (hd : DigB (bys t)) (h : ¬ May (finD neg (decV (bys t)) ex)) : Calls Tryz.prog 29 #[.bool neg, .string t, .int .i64 ex] w fun e w' => e = .returned (decErr (tellF neg (decV (bys t)) ex)) ∧ Below w.heap.size w w' := by
  have OF := hide (fun W => dof_any neg t ex W hs h1 h2)
  rw [ofD_fin neg _ ex hd] at OF
  obtain ⟨d, hdd⟩ : ∃ d, d = finD neg (decV (bys t)) ex := ⟨_, rfl⟩
  rw [← hdd] at OF h
  have MY := hide (fun W => fmay_d_no d W h)
  have TF : Hid (tellF neg (decV (bys t)) ex = (⟨0, false, [], 0⟩, 51)) := by rw [hdd] at h; exact tellF_no h
  clear hdd h hs h1 h2 hd
  obtain ⟨c, n, l, e⟩ := d
  unfold decVal at OF MY
  simp only at OF MY
  have Br0 := hide (Blk.newAt w (w.heap.size) (rfl) #[.int .i64 0, .bool false, .string ⟨#[]⟩, .int .i64 0] 23)
  have HB0 : Hid (Below w.heap.size w (w.alloc (.cells #[.int .i64 0, .bool false, .string ⟨#[]⟩, .int .i64 0] 23))) := ((Below.refl _ _).alloc (Nat.le_refl _) _)
  go_enter Tryz.func29, Tryz.ntmps29
  go_wp2_with fail
  refine (OF.out _).mono ?_
  rintro e w1 ⟨rfl, hb⟩
  have Br1 := hide (Br0.out.below hb Br0.out.lt)
  have HB1 := hide (HB0.out.trans (hb.mono HB0.out.size))
  clear hb Br0 HB0 
  obtain ⟨yr0, yr1, yr2, yr3⟩ := Br1.out.four
  go_wp2_with fail
  refine (MY.out _).mono ?_
  rintro e w2 ⟨rfl, hb⟩
  have Br2 := hide ((Br1.out.alloc (.cells #[.int .i64 (c : Int), .bool n, .string ⟨l.toArray⟩, .int .i64 e] 23)).below hb (Br1.out.alloc (.cells #[.int .i64 (c : Int), .bool n, .string ⟨l.toArray⟩, .int .i64 e] 23)).lt)
  have Bd2 := hide ((Blk.newAt w1 (w1.heap.size) (rfl) #[.int .i64 (c : Int), .bool n, .string ⟨l.toArray⟩, .int .i64 e] 23).below hb (Blk.newAt w1 (w1.heap.size) (rfl) #[.int .i64 (c : Int), .bool n, .string ⟨l.toArray⟩, .int .i64 e] 23).lt)
  have HB2 := hide ((HB1.out.alloc HB1.out.size _).trans (hb.mono (HB1.out.alloc HB1.out.size _).size))
  clear hb Br1 HB1 yr0 yr1 yr2 yr3
  obtain ⟨yr0, yr1, yr2, yr3⟩ := Br2.out.four
  obtain ⟨yd0, yd1, yd2, yd3⟩ := Bd2.out.four
  have fr0 := Br2.out.free 0
  have fr1 := Br2.out.free 1
  have fr2 := Br2.out.free 2
  have fr3 := Br2.out.free 3
  go_wp2
  refine bodyPost_ret (results_dec2 rfl _ _ _ _ _ _ _ rfl (Br2.out.put4 _ _ _ _)) rfl ?_
  exact ⟨by rw [TF.out]; rfl, below_put4 (HB2.out) (by omega) _ _ _ _⟩

theorem fin_any (neg : Bool) (t : ByteArray) (ex : Int) (w : World) (hs : t.size ≤ 281474976710656) (h1 : -100000000000000000 ≤ ex) (h2 : ex ≤ 100000000000000000) (hd : DigB (bys t)) : Calls Tryz.prog 29 #[.bool neg, .string t, .int .i64 ex] w fun e w' => e = .returned (decErr (tellF neg (decV (bys t)) ex)) ∧ Below w.heap.size w w' := by
  by_cases h : May (finD neg (decV (bys t)) ex)
  · exact fin_yes neg t ex w hs h1 h2 hd h
  · exact fin_no neg t ex w hs h1 h2 hd h

end Go.Proofs.YtckijnlolmbdiaaGreatDoor

namespace Go.Proofs.YtckijnlolmbdiaaGreatDoor
open Go.RowKit Go.Sort Go.Lib

/-- The library's table of powers of 10 holds what its text lays. -/
def Tab (w : World) : Prop := Lib.TabIs Tryz.prog w "internal/strconv.uint64pow10" .u64 Lib.pow10Tab

theorem tab_some : (Tryz.prog.globalNamed "internal/strconv.uint64pow10").isSome = true := by kernel_rfl
theorem tab_glob : ∃ g, Tryz.prog.globalNamed "internal/strconv.uint64pow10" = some g := Option.isSome_iff_exists.1 tab_some

theorem Tab.below {w w' : World} (h : Tab w) (hb : Below w.heap.size w w') : Tab w' := by
  obtain ⟨g, hg⟩ := tab_glob
  unfold Tab Lib.TabIs World.var? at *
  rw [hg] at h ⊢
  simp only [Option.bind_some] at h ⊢
  have hlt : g < w.heap.size := by
    rcases Nat.lt_or_ge g w.heap.size with h' | h'
    · exact h'
    · rw [Array.getElem?_eq_none h'] at h; cases h
  rw [hb.block g hlt]
  exact h

theorem Tab.alloc {w : World} (h : Tab w) (o : Obj) : Tab (w.alloc o) := h.below ((Below.refl _ _).alloc (Nat.le_refl _) o)

theorem below_grow (w : World) (n : Nat) (os : Array Obj) : Below w.heap.size w (grow (w.drewN n) os) := by
  refine ⟨rfl, rfl, rfl, ?_, fun k hk => ?_⟩
  · show w.heap.size ≤ (w.heap ++ os).size
    rw [Array.size_append]; omega
  · show (w.heap ++ os)[k]? = w.heap[k]?
    rw [Array.getElem?_append_left hk]

theorem arr24 : Tryz.prog.arrayLen 208 = 24 := by simp [Program.arrayLen, Tryz.underlying208]

set_option maxRecDepth 100000 in
set_option maxHeartbeats 2000000 in
theorem ifmt_big (u : Nat) (h1 : 100 ≤ u) (hu : u < 18446744073709551616) (w : World) (htab : Tab w) :
    Calls Tryz.prog 204 #[.int .u64 (u : Int), .int .i64 10] w fun e w' => e = .returned (.string ⟨(Lib.decDigits u).toArray⟩) ∧ Below w.heap.size w w' := by
  have hnd : Lib.nDigits u ≤ 20 := by have := Lib.numDigits_eq u (by omega) hu; split at this <;> omega
  have hH0 := Lib.holds_zero0 w 208 (Lib.nDigits u) (by omega)
  have hfmt := Tryz.internal_strconv_formatBase10 w.heap.size 0 24 u (Array.replicate (Lib.nDigits u) 0) (w.alloc (.cells Lib.zeros24 208)) hH0 (by rw [Array.size_replicate]; exact Lib.lt_pow_nDigits u) hu (by rw [Array.size_replicate]; omega)
  rw [Array.size_replicate] at hfmt
  have nd := Tryz.internal_strconv_numDigits u (by omega) hu (w.alloc (.cells Lib.zeros24 208)) (htab.alloc _)
  have hsl : ∀ W, (Instr.sliceAt 208 (.pointer (some ⟨w.heap.size, 0, none⟩)) none (some (.int .i64 (Lib.nDigits u : Int))) none).run Tryz.prog W = .ok (.slice (some ⟨w.heap.size, 0, none⟩) (Lib.nDigits u) 24) W := fun W => by
    rw [run_sliceAt_array_h W 208 ⟨w.heap.size, 0, none⟩ (by simp [Program.arrayLen, Program.elem, Tryz.underlying208]) .i64 (Lib.nDigits u : Int) (by omega) (by rw [arr24]; omega)]
    go_simp
  have hlt : ¬ (u : Int) < 100 := by omega
  have HH : Hid (Holds (fun (b : UInt8) => Value.int .u8 (b.toNat : Int)) (w.alloc (.cells Lib.zeros24 208)) w.heap.size 0 (Array.replicate (Lib.nDigits u) (0 : UInt8))) := hH0
  have HF : Hid (Calls Tryz.prog 215 #[.slice (some ⟨w.heap.size, 0, none⟩) (Lib.nDigits u) 24, .int .u64 (u : Int)] (w.alloc (.cells Lib.zeros24 208)) fun e w' =>
      e = .returned (.tuple #[]) ∧ ∃ (n v' : Nat) (dk : Array UInt8), w' = (putRow (fun (b : UInt8) => Value.int .u8 (b.toNat : Int)) (w.alloc (.cells Lib.zeros24 208)) w.heap.size 0 dk).drewN n ∧ Lib.FmtInv (Lib.nDigits u) u 0 v' dk) := hfmt
  have HN : Hid (Calls Tryz.prog 214 #[.int .u64 (u : Int)] (w.alloc (.cells Lib.zeros24 208)) fun e w' => e = .returned (.int .i64 (Lib.nDigits u)) ∧ w' = (w.alloc (.cells Lib.zeros24 208))) := nd
  clear hH0 hfmt nd htab
  go_enter Tryz.func204, Tryz.ntmps204
  go_wp2_with fail
  refine HN.out.mono ?_
  rintro e w' ⟨rfl, rfl⟩
  go_wp2_with fail
  refine HF.out.mono ?_
  rintro e w' ⟨rfl, n, v', dk, rfl, hF⟩
  have hcv : (convert 51 9 (.slice (some ⟨w.heap.size, 0, none⟩) (Lib.nDigits u) 24)).run Tryz.prog ((putRow (fun (b : UInt8) => Value.int .u8 (b.toNat : Int)) (w.alloc (.cells Lib.zeros24 208)) w.heap.size 0 dk).drewN n) = .ok (.string ⟨(Lib.decDigits u).toArray⟩) ((putRow (fun (b : UInt8) => Value.int .u8 (b.toNat : Int)) (w.alloc (.cells Lib.zeros24 208)) w.heap.size 0 dk).drewN n) := by
    have h := run_convert_bytes_back (P := Tryz.prog) ((putRow (fun (b : UInt8) => Value.int .u8 (b.toNat : Int)) (w.alloc (.cells Lib.zeros24 208)) w.heap.size 0 dk).drewN n) 51 9 5 ⟨w.heap.size, 0, none⟩ 24 (Lib.decDigits u) Tryz.underlying51 Tryz.underlying5 Tryz.underlying9 (fun j hj => by
      rw [Lib.row_is_numeral hF j hj, Lib.add_plain, World.cell?_drewN]
      exact cell?_putRow (fun (b : UInt8) => Value.int .u8 (b.toNat : Int)) _ w.heap.size 0 _ dk HH.out (by rw [hF.size, Array.size_replicate]) j (by rw [hF.size]; rw [Lib.decDigits_length] at hj; exact hj))
    rw [Lib.decDigits_length] at h
    exact h
  obtain ⟨os, he⟩ : ∃ os, (putRow (fun (b : UInt8) => Value.int .u8 (b.toNat : Int)) (w.alloc (.cells Lib.zeros24 208)) w.heap.size 0 dk).drewN n = grow (w.drewN n) os := by
    rw [alloc_eq_grow]
    obtain ⟨os', _, e⟩ := putRow_grow_new (fun (b : UInt8) => Value.int .u8 (b.toNat : Int)) w #[.cells Lib.zeros24 208] w.heap.size 0 dk (Nat.le_refl _)
    exact ⟨os', by rw [e]; rfl⟩
  have HE := @id (Hid _) he
  clear he
  go_wp2
  go_ret
  refine ⟨rfl, ?_⟩
  rw [show (putRow (fun (b : UInt8) => Value.int .u8 (b.toNat : Int)) (w.alloc (.cells Lib.zeros24 208)) w.heap.size 0 dk).drewN n = grow (w.drewN n) os from HE]
  exact below_grow w n os

set_option maxRecDepth 100000 in
set_option maxHeartbeats 400000 in
theorem ifmt_small (u : Nat) (h1 : u < 100) (w : World) :
    Calls Tryz.prog 204 #[.int .u64 (u : Int), .int .i64 10] w fun e w' => e = .returned (.string ⟨(Lib.decDigits u).toArray⟩) ∧ Below w.heap.size w w' := by
  have hlt : (u : Int) < 100 := by omega
  have S := Tryz.internal_strconv_small u h1
  go_enter Tryz.func204, Tryz.ntmps204
  go_wp2_with fail
  refine (S _).mono ?_
  rintro e w' ⟨rfl, rfl⟩
  go_wp2
  go_ret
  exact ⟨rfl, Below.refl _ _⟩

/-- strconv.FormatUint at the base 10. -/
theorem fmtUint_any (u : Nat) (hu : u < 18446744073709551616) (w : World) (htab : Tab w) :
    Calls Tryz.prog 154 #[.int .u64 (u : Int), .int .i64 10] w fun e w' => e = .returned (.string ⟨(Lib.decDigits u).toArray⟩) ∧ Below w.heap.size w w' := by
  have I : Calls Tryz.prog 204 #[.int .u64 (u : Int), .int .i64 10] w fun e w' => e = .returned (.string ⟨(Lib.decDigits u).toArray⟩) ∧ Below w.heap.size w w' := by
    by_cases h : u < 100
    · exact ifmt_small u h w
    · exact ifmt_big u (by omega) hu w htab
  go_enter Tryz.func154, Tryz.ntmps154
  go_wp2_with fail
  refine I.mono ?_
  rintro e w' ⟨rfl, hb⟩
  go_wp2
  go_ret
  exact ⟨rfl, hb⟩

end Go.Proofs.YtckijnlolmbdiaaGreatDoor

namespace Go.Proofs.YtckijnlolmbdiaaGreatDoor
open Go.RowKit

theorem itoa_len {e : Int} (h1 : -10000 ≤ e) (h2 : e ≤ 10000) : (Lib.itoa e).length ≤ 6 := by
  have h : ∀ n : Nat, n ≤ 10000 → (Lib.decDigits n).length ≤ 5 := fun n hn => sizeN_le (Nat.lt_of_le_of_lt hn (by decide)) (by omega)
  unfold Lib.itoa
  split
  · have := h e.natAbs (by omega); simp only [List.length_cons]; omega
  · have := h e.toNat (by omega); omega

theorem itoa_any (e : Int) (w : World) (h1 : -10000 ≤ e) (h2 : e ≤ 10000) (htab : Tab w) : Calls Tryz.prog 62 #[.int .i64 e] w fun e' w' => e' = .returned (.string ⟨(Lib.itoa e).toArray⟩) ∧ Below w.heap.size w w' := by
  refine (Tryz.strconv_Itoa e (by omega) (by omega) w htab).mono ?_
  rintro e' w' ⟨rfl, k, os, rfl⟩
  exact ⟨rfl, below_grow w k os⟩

end Go.Proofs.YtckijnlolmbdiaaGreatDoor

namespace Go.Proofs.YtckijnlolmbdiaaGreatDoor
open Go.RowKit

theorem i64_and1 (n : Int) : bits .and .i64 n 1 = n % 2 := by
  have h1 : (BitVec.ofInt 64 1).toNat = 2 ^ 1 - 1 := by decide
  have key : (BitVec.ofInt 64 n &&& BitVec.ofInt 64 1).toNat = (n % ((2 ^ 64 : Nat) : Int)).toNat % 2 ^ 1 := by
    rw [BitVec.toNat_and, BitVec.toNat_ofInt, h1, Nat.and_two_pow_sub_one_eq_mod]
  show IntKind.i64.wrap ((BitVec.ofInt 64 n &&& BitVec.ofInt 64 1).toNat : Nat) = n % 2
  rw [key, IntKind.wrap_i64]
  omega

set_option maxHeartbeats 400000 in
theorem blen_any (n : Nat) (w : World) (hn : n < 18446744073709551616) :
    Calls Tryz.prog 226 #[.int .u64 (n : Int)] w fun e w' => e = .returned (.int .i64 (bitsN n : Int)) ∧ w = w' := by
  have e : Lib.bitLen n = bitsN n := bitLen_bits n (by rw [show (2 : Nat) ^ 64 = 18446744073709551616 by decide +kernel]; exact hn)
  have L := len64 n
  rw [e] at L
  have HL := hide L
  clear L e
  go_enter Tryz.func226, Tryz.ntmps226
  go_wp2_with fail
  refine (HL.out _ hn).mono ?_
  rintro e w' ⟨rfl, rfl⟩
  go_wp2
  go_ret
  exact ⟨rfl, rfl⟩

theorem five_small : (5 : Nat) ^ 8192 < B64 ^ 400 := by decide +kernel

theorem five_len {r : List Nat} {e : Nat} (h : Is B64 r (5 ^ e)) (he : e ≤ 8192) : r.length ≤ 400 := by
  have h1 := Nat.pow_le_pow_right (show 0 < 5 by omega) he
  have h2 := five_small
  have h3 := trimmed_small (xs := r) (t := 400) (by rw [h.2.2]; omega)
  rw [trimmed_of_top h.2.1] at h3
  exact h3

/-- At the head of Pow5's loop, k bits of n being left. -/
structure PowInv (w : World) (n k : Nat) (v : Value) (wr : World) : Prop where
  bel : Below w.heap.size w wr
  own : ∃ r, Own .u64 120 wr w.heap.size 1000 v r ∧ Is B64 r (5 ^ (n / 2 ^ k))

theorem pow_bits (n k : Nat) : n / 2 ^ k = 2 * (n / 2 ^ (k + 1)) + n / 2 ^ k % 2 := by
  rw [Nat.pow_succ, ← Nat.div_div_eq_div_mul]; omega

set_option maxRecDepth 100000 in
set_option maxHeartbeats 1000000 in
theorem pow5_in (n : Nat) (w : World) (hn : n ≤ 8192) :
    Calls Tryz.prog 191 #[.int .i64 (n : Int)] w (ShPost w 1000 (5 ^ n) 0) := by
  have h0 : ¬ (n : Int) < 0 := by omega
  have h1 : ¬ 8192 < (n : Int) := by omega
  obtain ⟨m, hm⟩ : ∃ m, m = bitsN n := ⟨_, rfl⟩
  have hml : m ≤ 64 := by rw [hm]; exact bitsN_le (by show n < 18446744073709551616; omega)
  have HM : Hid (n / 2 ^ m = 0) := by
    show n / 2 ^ m = 0
    by_cases h : n = 0
    · subst h; exact Nat.zero_div _
    · obtain ⟨k, hk, _, h2⟩ := bitsN_spec h
      rw [hm, hk]; exact Nat.div_eq_of_lt h2
  have bl := fun w => blen_any n w (by omega)
  rw [← hm] at bl
  have BL := hide bl
  clear hm bl
  go_enter Tryz.func191, Tryz.ntmps191
  go_wp2_with fail
  refine (of_any 5 _ (by decide)).mono ?_
  rintro e w1 ⟨v, r5, rfl, ho5, io5, hb1⟩
  go_wp2_with fail
  refine (of_any 1 _ (by decide)).mono ?_
  rintro e w2 ⟨v2, r1, rfl, ho1, io1, hb2⟩
  have hb12 := hb1.trans (hb2.mono hb1.size)
  obtain ⟨o5, c5, rfl, hl5, hm5, at5⟩ := ho5.shape
  have at5' := at5.below hb2
  have hs1 : ∀ k, n / 2 ^ k = 0 → PowInv w n k v2 w2 := fun k hk => ⟨hb12, r1, ho1.mono hb1.size (by omega), by rw [hk]; exact io1⟩
  have HS1 := hide hs1
  have hsz := hb12.size
  have l5 : r5.length ≤ 1 := by omega
  clear hs1 ho5 ho1 at5 hb1 hb2
  go_wp2_with fail
  refine (BL.out _).mono ?_
  rintro e w' ⟨rfl, rfl⟩
  go_wp2
  go_loopw [5, 6] (fun v i wr => ∃ k : Nat, k ≤ 64 ∧ i = .int .i64 ((k : Int) - 1) ∧ PowInv w n k v wr ∧ At .u64 wr o5 r5) (fun _ i _ => (intOf i + 1).toNat)
  case atStart => exact ⟨m, hml, congrArg (Value.int IntKind.i64) (by omega), HS1.out _ HM.out, at5'⟩
  case round =>
    clear hb12 HS1 at5'
    obtain ⟨k, hk, rfl, hinv, hat5⟩ := hrel
    obtain ⟨r, hown, his⟩ := hinv.own
    have hbr := hinv.bel
    obtain ⟨op, cp, rfl, hlp, hmp, atp⟩ := hown.shape
    rcases k with _ | k
    · rw [Nat.pow_zero, Nat.div_one] at his
      clear hinv
      go_wp2
      go_ret2
      exact ⟨_, r, rfl, hown, his, hbr⟩
    · have hle : n / 2 ^ (k + 1) ≤ 8192 := Nat.le_trans (Nat.div_le_self _ _) hn
      have hrl := five_len his hle
      have pb := pow_bits n k
      have hlek : n / 2 ^ k ≤ 8192 := Nat.le_trans (Nat.div_le_self _ _) hn
      obtain ⟨u, hu⟩ : ∃ u, u = n / 2 ^ k := ⟨_, rfl⟩
      have m0 : (n : Int) / 2 ^ k = (u : Int) := by rw [hu]; push_cast; rfl
      have m1 : bits .and .i64 (u : Int) 1 = ((u % 2 : Nat) : Int) := by rw [i64_and1]; omega
      have hpw : ∀ (wr' : World) (v : Value) (r' : List Nat), Below wr.heap.size wr wr' → Own .u64 120 wr' wr.heap.size 1000 v r' → Is B64 r' (5 ^ u) → PowInv w n k v wr' := fun wr' v r' h1 h2 h3 =>
        ⟨hbr.trans (h1.mono hbr.size), r', h2.mono hbr.size (Nat.le_refl _), by rw [← hu]; exact h3⟩
      rw [← hu] at pb hlek
      have HPW := hide hpw
      have HPB : Hid (u = 2 * (n / 2 ^ (k + 1)) + u % 2) := pb
      have HU : Hid (u ≤ 8192) := hlek
      have hk63 : k ≤ 63 := by omega
      have h5k : 5 ^ (2 * (n / 2 ^ (k + 1))) = 5 ^ (n / 2 ^ (k + 1)) * 5 ^ (n / 2 ^ (k + 1)) := by rw [← Nat.pow_add]; congr 1; omega
      have H5 := hide h5k
      clear hinv hown hpw pb hu hlek h5k
      go_wp2_with fail
      refine (mul_any op op _ cp _ cp r r _ hlp (by omega) hlp (by omega) rfl rfl atp atp his.1 his.1).mono ?_
      rintro e w3 ⟨v3, r3, rfl, ho3, is3, hb3⟩
      rw [his.2.2, ← H5.out] at is3
      have hat3 := hat5.below hb3
      obtain ⟨o3, c3, rfl, hl3, hm3, at3⟩ := ho3.shape
      have hu2 : u % 2 = 0 ∨ u % 2 = 1 := by omega
      rcases hu2 with hu2 | hu2
      · rw [hu2] at m1
        have is3' : Is B64 r3 (5 ^ u) := by rw [HPB.out, hu2, Nat.add_zero]; exact is3
        have hst := HPW.out _ _ _ hb3 (ho3.mono (Nat.le_refl _) (by omega)) is3'
        have HST := hide hst
        have HAT := hide hat3
        clear hst hat3 hat5 at3 atp is3 is3' ho3 hb3 his hu2
        go_wp2
        go_roundw
        case rel => exact ⟨k, by omega, by go_num, HST.out, HAT.out⟩
        case measure => simp [intOf]
      · rw [hu2] at m1
        have hrl3 := five_len is3 (by have := HPB.out; have := HU.out; omega)
        clear hat5 atp his
        go_wp2_with fail
        refine (mul_any o3 o5 _ c3 _ c5 r3 r5 _ hl3 (by omega) hl5 (by omega) rfl rfl at3 hat3 is3.1 io5.1).mono ?_
        rintro e w4 ⟨v4, r4, rfl, ho4, is4, hb4⟩
        have is4' : Is B64 r4 (5 ^ u) := by
          rw [is3.2.2, io5.2.2, ← Nat.pow_succ] at is4
          rw [HPB.out, hu2]; exact is4
        have hst := HPW.out _ _ _ (hb3.trans (hb4.mono hb3.size)) (ho4.mono hb3.size (by omega)) is4'
        have HST := hide hst
        have HAT := hide (hat3.below hb4)
        clear hst hat3 at3 is3 is4 is4' ho3 ho4 hb3 hb4 hu2
        go_wp2
        go_roundw
        case rel => exact ⟨k, by omega, by go_num, HST.out, HAT.out⟩
        case measure => simp [intOf]

set_option maxHeartbeats 400000 in
theorem pow10_in (n : Nat) (w : World) (hn : n ≤ 8192) :
    Calls Tryz.prog 139 #[.int .i64 (n : Int)] w (ShPost w 3000 (10 ^ n) 0) := by
  go_enter Tryz.func139, Tryz.ntmps139
  go_wp2_with fail
  refine (pow5_in n _ hn).mono ?_
  rintro e w1 ⟨v, r, rfl, hown, his, hb⟩
  have hrl := five_len his hn
  obtain ⟨o, c, rfl, hl, hm, hat⟩ := hown.shape
  clear hown
  go_wp2_with fail
  refine (shl_any o _ c n r _ (by omega) hl (by omega) rfl hat his.1).mono ?_
  rintro e w2 ⟨v2, r2, rfl, hown2, his2, hb2⟩
  have h10 : 5 ^ n * 2 ^ n = 10 ^ n := by rw [← Nat.mul_pow]
  rw [his.2.2, h10] at his2
  have hbw := hb.trans (hb2.mono hb.size)
  have hsz := hb.size
  clear hb hb2 his hat h10
  go_wp2
  go_ret2
  exact ⟨_, r2, rfl, hown2.mono hsz (by omega), his2, hbw⟩

end Go.Proofs.YtckijnlolmbdiaaGreatDoor

namespace Go.Proofs.YtckijnlolmbdiaaGreatDoor
open Go.RowKit

end Go.Proofs.YtckijnlolmbdiaaGreatDoor

namespace Go.Proofs.YtckijnlolmbdiaaGreatDoor
open Go.RowKit

theorem shiftUp0 (ao : Option Addr) (len cap sh : Nat) (xs : List Nat) (w : World) (hl : len ≤ 100000000000) (hsh : sh ≤ 63) (hx : xs.length = len) (hax : At .u64 w ao xs) (ox : Ok B64 xs) :
    Calls Tryz.prog 195 #[.slice ao len cap, .int .i64 0, .int .i64 (sh : Int)] w (UpPost w (len + 1) (num B64 xs * 2 ^ sh)) := by
  have := shiftUp_any ao len cap 0 sh xs w hl (by omega) hsh hx hax ox
  rw [Nat.zero_add, Nat.pow_zero, Nat.mul_one] at this
  exact this

theorem shiftDown0 (ao : Option Addr) (len cap sh : Nat) (xs : List Nat) (w : World) (hl : len ≤ 100000000000) (hsh : sh ≤ 63) (hx : xs.length = len) (hax : At .u64 w ao xs) (ox : Ok B64 xs) :
    Calls Tryz.prog 199 #[.slice ao len cap, .int .i64 0, .int .i64 (sh : Int)] w (NatPost w len (num B64 xs / 2 ^ sh)) := by
  have := shiftDown_any ao len cap 0 sh xs w hl (by omega) hsh hx hax ox
  rw [Nat.pow_zero, Nat.div_one] at this
  exact this

/-- One round where nothing went below nought. -/
theorem LongInv.fits {w wr : World} {Hd Hr Hq m c A k g p : Nat} {zs r q : List Nat} (hd : Hd ≠ Hq) (hrq : Hr ≠ Hq) (hdr : Hd ≠ Hr) (hq : w.heap.size ≤ Hq) (hrb : w.heap.size ≤ Hr) (hbel : Below w.heap.size w wr) (hdiv : At .u64 wr (some ⟨Hd, 0, none⟩) zs)
    (hl : r.length = m + 1) (hrq' : Row .u64 120 wr Hq q) (hlq : q.length = c) (hoq : Ok B64 q) (hz : ∀ j, j < k + 1 → dg q j = 0) (hA : num B64 r + num B64 zs * num B64 q = A) (hk : k < c)
    {U L : Nat} (hU : num B64 r = U * B64 ^ k + L) (hL : L < B64 ^ k) (hg : g < B64) (hlo : U < (g + 1) * num B64 zs) {w1 w2 : World} {r1 : List Nat} (h1 : Like w1 wr) (h2 : w1.grownBy w2 (some Hr)) (hr1 : Row .u64 120 w2 Hr r1) (hl1 : r1.length = r.length) (ho1 : Ok B64 r1)
    (hs : num B64 r1 + num B64 zs * g * B64 ^ k = num B64 r + 0 * B64 ^ (k + (p + 1))) {wr' : World} (hw : Like wr' (w2.setCell ⟨Hq, k, none⟩ (.int .u64 (g : Int)))) : LongInv w Hd Hr Hq m c zs A k wr' := by
  obtain ⟨a1, a2⟩ := round_fits hU hL hlo hs
  have hb1 := h1.below hbel
  exact LongInv.step hd hrq hq (hb1.grown h2 hb1.size (fun k hk => by simp only [Option.some.injEq] at hk; omega)) ((hdiv.like h1).gr h2 hdr) hr1 (by omega) ho1 a1 a2 ((hrq'.alike h1).gr h2 (Ne.symm hrq)) hlq hoq hz hA hk hg hw

theorem long_one {r r1 zs : List Nat} {g k t : Nat} (hr1 : num B64 r1 < B64 ^ t) (hs : num B64 r1 + num B64 zs * g * B64 ^ k = num B64 r + 1 * B64 ^ t) : 1 ≤ g := by
  rcases g with _ | g
  · simp at hs; omega
  · omega

/-- One round where it went below nought. -/
theorem LongInv.back {w wr : World} {Hd Hr Hq m c A k g g' p : Nat} {zs r q : List Nat} (hd : Hd ≠ Hq) (hrq : Hr ≠ Hq) (hdr : Hd ≠ Hr) (hq : w.heap.size ≤ Hq) (hrb : w.heap.size ≤ Hr) (hbel : Below w.heap.size w wr) (hdiv : At .u64 wr (some ⟨Hd, 0, none⟩) zs)
    (hl : r.length = m + 1) (hrq' : Row .u64 120 wr Hq q) (hlq : q.length = c) (hoq : Ok B64 q) (hz : ∀ j, j < k + 1 → dg q j = 0) (hA : num B64 r + num B64 zs * num B64 q = A) (hk : k < c)
    {U L : Nat} (hU : num B64 r = U * B64 ^ k + L) (hg : g < B64) (hgg : g' + 1 = g) (hhi : g * num B64 zs ≤ U + num B64 zs) {w1 w2 w3 : World} {r1 r2 : List Nat} {cc : Nat} (h1 : Like w1 wr) (h2 : w1.grownBy w2 (some Hr)) (h3 : w2.grownBy w3 (some Hr))
    (hr2 : Row .u64 120 w3 Hr r2) (hl2 : r2.length = r.length) (ho2 : Ok B64 r2) (hE1 : num B64 r1 < B64 ^ (k + (p + 1))) (hE2 : num B64 r2 < B64 ^ (k + (p + 1))) (hcc : cc ≤ 1)
    (hs : num B64 r1 + num B64 zs * g * B64 ^ k = num B64 r + 1 * B64 ^ (k + (p + 1))) (hs2 : num B64 r2 + cc * B64 ^ (k + (p + 1)) = num B64 r1 + num B64 zs * B64 ^ k) {wr' : World} (hw : Like wr' (w3.setCell ⟨Hq, k, none⟩ (.int .u64 (g' : Int)))) : LongInv w Hd Hr Hq m c zs A k wr' := by
  obtain ⟨_, a1, a2⟩ := round_back hU hhi hE1 hs hE2 hcc hs2
  obtain rfl : g' = g - 1 := by omega
  have hb1 := h1.below hbel
  have hb2 := hb1.grown h2 hb1.size (fun k hk => by simp only [Option.some.injEq] at hk; omega)
  exact LongInv.step hd hrq hq (hb2.grown h3 hb2.size (fun k hk => by simp only [Option.some.injEq] at hk; omega)) (((hdiv.like h1).gr h2 hdr).gr h3 hdr) hr2 (by omega) ho2 a1 a2 (((hrq'.alike h1).gr h2 (Ne.symm hrq)).gr h3 (Ne.symm hrq)) hlq hoq hz hA hk (by omega) hw

set_option maxHeartbeats 1000000 in
theorem divLong_at (ao bo : Option Addr) (m ca n cb p d : Nat) (xs ys : List Nat) (w : World) (hn : n = p + 2) (hd : n + d = m) (hm : m ≤ 1000000000) (hx : xs.length = m) (hy : ys.length = n) (hax : At .u64 w ao xs) (hay : At .u64 w bo ys)
    (ox : Ok B64 xs) (oy : Ok B64 ys) (htop : dg ys (p + 1) ≠ 0) :
    Calls Tryz.prog 143 #[.slice ao m ca, .slice bo n cb] w (LongPost w m (num B64 xs / num B64 ys) (num B64 xs % num B64 ys)) := by
  obtain ⟨i0, hi, hz0, hz1, hz2⟩ := info_parts Tryz.infoU
  obtain ⟨b, o, rfl, hb, hcell⟩ : ∃ b o, bo = some ⟨b, o, none⟩ ∧ b < w.heap.size ∧ ∀ i, i < ys.length → w.cell? ⟨b, o + i, none⟩ = some (.int .u64 ((dg ys i : Nat) : Int)) := by
    rcases hay with h | h
    · rw [h] at hy; simp at hy; omega
    · exact h
  have c0 := hcell (p + 1) (by omega)
  obtain ⟨s, hs, hs63, hs1, hs2⟩ := lead_shift htop (oy (p + 1))
  have ld := fun w => lead64 (dg ys (p + 1)) w (oy (p + 1))
  rw [← hs] at ld
  have hdv := fun yu ou hn' => long_divisor (ys := ys) (yu := yu) (p := p) (s := s) oy (by omega) ou hs1 hs2 hn'
  obtain ⟨top, ht⟩ : ∃ t, t = dg ys (p + 1) := ⟨_, rfl⟩
  rw [← ht] at ld c0
  have LD : Hid (∀ w, Calls Tryz.prog 194 #[.int .u64 (top : Int)] w fun e w' => e = .returned (.int .i64 (s : Int)) ∧ w = w') := ld
  have DV : Hid (∀ yu, Ok B64 yu → num B64 yu = num B64 ys * 2 ^ s → (trimmed yu).length = p + 2 ∧ B64 ≤ 2 * dg (trimmed yu) (p + 1)) := hdv
  have HN : Hid (n = p + 2) := hn
  have hn1 : (n : Int) - 1 = ((p + 1 : Nat) : Int) := by omega
  have hn2 : ((p + 1 : Nat) : Int) < (n : Int) := by omega
  have hmn : (m : Int) - (n : Int) = (d : Int) := by omega
  have hdm : d ≤ 1000000000 ∧ n ≤ 1000000000 := by omega
  have HD : Hid (n + d = m) := hd
  have HT : Hid (dg ys (p + 1) ≠ 0) := htop
  clear hcell hs hs1 hs2 ld ht hdv hn hd htop
  go_enter Tryz.func143, Tryz.ntmps143
  go_wp2_with fail
  refine (LD.out _).mono ?_
  rintro e w' ⟨rfl, rfl⟩
  go_wp2_with fail
  refine (shiftUp0 (some ⟨b, o, none⟩) n cb s ys _ (by omega) hs63 hy hay oy).mono ?_
  rintro e w1 ⟨yu, rfl, hyr, hyl, hyo, hyn, hb1⟩
  obtain ⟨hzl, hzt⟩ := DV.out yu hyo hyn
  have HZ : Hid ((trimmed yu).length = n) := hzl.trans HN.out.symm
  have HZT : Hid (B64 ≤ 2 * dg (trimmed yu) (p + 1)) := hzt
  have HYL : Hid (yu.length = n + 1) := hyl
  clear hzl hzt hyl
  go_wp2_with fail
  refine (trim_to _ (n + 1) (n + 1) n yu _ (Nat.le_refl _) (by omega) HYL.out hyr.at HZ.out).mono ?_
  rintro e w' ⟨rfl, rfl⟩
  go_wp2_with fail
  refine (shiftUp0 ao m ca s xs _ (by omega) hs63 hx (hax.below hb1) ox).mono ?_
  rintro e w2 ⟨ru, rfl, hrr, hrl, hro, hrn, hb2⟩
  have hzdiv : At .u64 w2 (some ⟨w.heap.size, 0, none⟩) (trimmed yu) := (hyr.at.below hb2).trimmed
  have hlt1 := hyr.lt
  have hlt2 := hrr.lt
  obtain ⟨zs, hzs⟩ : ∃ zs, zs = trimmed yu := ⟨_, rfl⟩
  have hzo : Ok B64 zs := by rw [hzs]; exact trimmed_ok hyo
  have hzn : num B64 zs = num B64 ys * 2 ^ s := by rw [hzs, num_trimmed]; exact hyn
  rw [← hzs] at hzdiv
  have HZ' : Hid (zs.length = n) := by rw [hzs]; exact HZ.out
  have HZT' : Hid (B64 ≤ 2 * dg zs (p + 1)) := by rw [hzs]; exact HZT.out
  have hb12 : Below w.heap.size w w2 := hb1.trans (hb2.mono hb1.size)
  have HST : Hid (num B64 ru < num B64 zs * B64 ^ (d + 1)) := by
    rw [hrn]
    exact long_start ox hx (HZ'.out.trans HN.out) HZT'.out (by have := HN.out; have := HD.out; omega) hs63
  have HZN : Hid (num B64 zs = num B64 ys * 2 ^ s) := hzn
  have HRN : Hid (num B64 ru = num B64 xs * 2 ^ s) := hrn
  have HRL : Hid (ru.length = m + 1) := hrl
  have hgrow1 := hb1.size
  have hgrow2 := hb2.size
  clear hzs HZ HZT HYL hyr hyo hyn hb1 hb2 hzn hrn hrl DV LD c0
  go_wp2_with (at_make; refine wpList_make_full _ rfl _ _ 108 rfl w2.heap.size 120 i0 (.int .u64 0) 1 Tryz.underlying108 hi hz0 hz1 _ _ _ _ (d + 1) rfl rfl (by omega) (by omega) (by rw [hz2]; omega) (by unfold maxLen; omega) (Nat.le_refl _) ?_)
  intro w3 hown hgrow
  have hr3 : Row .u64 120 w3 w2.heap.size (List.replicate (d + 1) 0) := Row.made hown
  have hb3 : Below w2.heap.size w2 w3 := (Below.refl _ _).grown hgrow (Nat.le_refl _) (fun k hk => by cases hk)
  have hrr3 := hrr.below hb3 hlt2
  have hzd3 := hzdiv.below hb3
  have hbel3 : Below w.heap.size w w3 := hb12.trans (hb3.mono hb12.size)
  obtain ⟨Hd, hHd⟩ : ∃ z, z = w.heap.size := ⟨_, rfl⟩
  obtain ⟨Hr, hHr⟩ : ∃ z, z = w1.heap.size := ⟨_, rfl⟩
  obtain ⟨Hq, hHq⟩ : ∃ z, z = w2.heap.size := ⟨_, rfl⟩
  rw [← hHq] at hr3
  rw [← hHr] at hrr3
  rw [← hHd] at hzd3
  have hdr : Hd ≠ Hr := by omega
  have hdq : Hd ≠ Hq := by omega
  have hrq : Hr ≠ Hq := by omega
  have hqb : w.heap.size ≤ Hq := by omega
  have hrb : w.heap.size ≤ Hr := by omega
  have hqr : Hr < Hq := by omega
  clear hown hgrow hrr hzdiv
  simp only [← hHd, ← hHr, ← hHq]
  clear hHd hHr hHq
  go_wp2
  go_loopw [11, 12, 13] (fun i _ _ wr => ∃ k : Nat, k ≤ d + 1 ∧ i = .int .i64 ((k : Int) - 1) ∧ LongInv w Hd Hr Hq m (d + 1) zs (num B64 xs * 2 ^ s) k wr) (fun i _ _ _ => (intOf i + 1).toNat)
  case atStart =>
    refine ⟨d + 1, Nat.le_refl _, congrArg (Value.int IntKind.i64) (by omega), hbel3, hzd3, ru, _, hrr3, HRL.out, hro, HST.out, hr3, by simp, Ok.replicate (by decide) _, fun j _ => dg_replicate _ j, ?_⟩
    rw [num_replicate, Nat.mul_zero, Nat.add_zero]; exact HRN.out
  case round =>
    obtain ⟨k, hk, rfl, hinv⟩ := hrel
    rcases k with _ | k
    · obtain ⟨r, q, hr, hrl, hro, hrlt, hq, hql, hqo, _, hA⟩ := hinv.row
      have hbel := hinv.bel
      rw [Nat.pow_zero, Nat.mul_one, HZN.out] at hrlt
      rw [HZN.out] at hA
      obtain ⟨e1, e2, hY⟩ := long_end hrlt hA
      have hsm : num B64 r < B64 ^ n := by
        refine Nat.lt_trans hrlt ?_
        rw [← HZN.out, ← HZ'.out]; exact num_lt hzo
      obtain ⟨t1, ht1⟩ : ∃ q', q' = (trimmed q).length := ⟨_, rfl⟩
      obtain ⟨t2, ht2⟩ : ∃ q', q' = (trimmed r).length := ⟨_, rfl⟩
      have T1 : Hid ((trimmed q).length = t1) := ht1.symm
      have T2 : Hid ((trimmed r).length = t2) := ht2.symm
      have ht2n : t2 ≤ n := by rw [ht2]; exact trimmed_small hsm
      have HL : Hid (r.length = m + 1) := hrl
      have HLq : Hid (q.length = d + 1) := hql
      have E1 : Hid (num B64 q = num B64 xs / num B64 ys) := e1
      have E2 : Hid (num B64 r / 2 ^ s = num B64 xs % num B64 ys) := e2
      clear ht1 ht2 hrl hql e1 e2 hA hrlt hsm hinv hY
      go_wp2_with fail
      refine (trim_to _ (d + 1) (d + 1) t1 q _ (Nat.le_refl _) (by omega) HLq.out hq.at T1.out).mono ?_
      rintro e w' ⟨rfl, rfl⟩
      go_wp2_with fail
      refine (trim_to _ (m + 1) (m + 1) t2 r _ (Nat.le_refl _) (by omega) HL.out hr.at T2.out).mono ?_
      rintro e w' ⟨rfl, rfl⟩
      go_wp2_with fail
      refine (shiftDown0 _ t2 _ s (trimmed r) _ (by omega) hs63 T2.out hr.at.trimmed (trimmed_ok hro)).mono ?_
      rintro e w5 ⟨v2, r2, rfl, hown2, his2, hbel2⟩
      go_wp2
      go_ret2
      rw [num_trimmed, E2.out] at his2
      refine ⟨.slice (some ⟨Hq, 0, none⟩) t1 (d + 1), trimmed q, v2, r2, rfl, .inr ⟨Hq, q, ?_, hqb, hq.below hbel2 hq.lt, ?_, ?_⟩, hown2.mono hbel.size (by omega), ?_, his2, hbel.trans (hbel2.mono hbel.size), ?_⟩
      · rw [HLq.out, T1.out]
      · rw [length_trimmed]; rfl
      · rw [HLq.out]; omega
      · rw [← E1.out]; exact Is.trimmed hqo
      · refine .inr ?_
        have := hq.lt
        rcases hown2 with ⟨rfl, _⟩ | ⟨g2, full2, rfl, hg2, _⟩
        · simp [Value.ownBlock]
        · simp [Value.ownBlock]; omega
    · obtain ⟨r, q, hr, hrl, hro, hrlt, hq, hql, hqo, hqz, hA⟩ := hinv.row
      have hbr := hinv.bel
      have hdv := hinv.div
      have np := HN.out
      have nd := HD.out
      have hkd : k ≤ d := by omega
      obtain ⟨g, U, L, hg, hU, hL, hgb, hlo, hhi', hbig⟩ := guess_good (b := B64) (m := p) (k := k) (r := r) (ys := zs) (by decide) hro hzo (HZ'.out.trans np) HZT'.out hrlt
      have hzc : ∀ i, i < zs.length → wr.cell? ⟨Hd, 0 + i, none⟩ = some (.int .u64 ((dg zs i : Nat) : Int)) := by
        rcases hdv with h | ⟨b1, o1, h1, _, h3⟩
        · intro i hi; rw [h] at hi; simp at hi
        · simp only [Option.some.injEq, Addr.mk.injEq] at h1
          obtain ⟨rfl, rfl, _⟩ := h1
          exact h3
      have zl : zs.length = p + 2 := HZ'.out.trans np
      have gu := guessLimb_any Hr k p (m + 1 - k) Hd 0 (n + 1) _ _ _ _ _ wr (by omega) (hr.cell (k + (p + 2)) (by omega)) (hr.cell (k + (p + 1)) (by omega)) (hr.cell (k + p) (by omega)) (hzc (p + 1) (by omega)) (hzc p (by omega)) (hro _) (hro _) (hzo _) (hzo _)
      rw [← hg, show p + 2 = n by omega, show p + 3 = n + 1 by omega] at gu
      have hng : ∀ b o, zs ≠ [] → some (⟨Hd, 0, none⟩ : Addr) = some ⟨b, o, none⟩ → b ≠ Hr := by
        intro b o _ e; simp only [Option.some.injEq, Addr.mk.injEq] at e; omega
      have su : ∀ w1, Like w1 wr → Calls Tryz.prog 197 #[.slice (some ⟨Hr, k, none⟩) (n + 1) (m + 1 - k), .slice (some ⟨Hd, 0, none⟩) n (n + 1), .int .u64 (g : Int)] w1 (SubtPost w1 Hr r (num B64 zs * g * B64 ^ k) (k + (n + 1))) :=
        fun w1 h1 => subTimes_any Hr k n (m + 1 - k) (n + 1) g (some ⟨Hd, 0, none⟩) r zs w1 (by omega) HZ'.out (hdv.like h1) hzo hgb (hr.alike h1) hro (by omega) hng
      have ab : ∀ w1 w2 r1, Like w1 wr → w1.grownBy w2 (some Hr) → Row .u64 120 w2 Hr r1 → r1.length = r.length → Ok B64 r1 → Calls Tryz.prog 198 #[.slice (some ⟨Hr, k, none⟩) (n + 1) (m + 1 - k), .slice (some ⟨Hd, 0, none⟩) n (n + 1)] w2 (BackPost w2 Hr r1 (num B64 zs * B64 ^ k) (k + (n + 1))) :=
        fun w1 w2 r1 h1 h2 h3 h4 h5 => addBack_any Hr k n (m + 1 - k) (n + 1) (some ⟨Hd, 0, none⟩) r1 zs w2 (by omega) HZ'.out ((hdv.like h1).gr h2 hdr) hzo h3 h5 (by omega) hng
      have fi : ∀ w1 w2 r1 wr', Like w1 wr → w1.grownBy w2 (some Hr) → Row .u64 120 w2 Hr r1 → r1.length = r.length → Ok B64 r1 → num B64 r1 + num B64 zs * g * B64 ^ k = num B64 r + 0 * B64 ^ (k + (n + 1)) →
          Like wr' (w2.setCell ⟨Hq, k, none⟩ (.int .u64 (g : Int))) → LongInv w Hd Hr Hq m (d + 1) zs (num B64 xs * 2 ^ s) k wr' :=
        fun w1 w2 r1 wr' h1 h2 h3 h4 h5 h6 h7 => LongInv.fits hdq hrq hdr hqb hrb hbr hdv hrl hq hql hqo hqz hA (by omega) hU hL hgb hlo h1 h2 h3 h4 h5 h6 h7
      have sml : ∀ r1, Ok B64 r1 → (∀ j, k + (n + 1) ≤ j → dg r1 j = dg r j) → num B64 r1 < B64 ^ (k + (n + 1)) := fun r1 h1 h2 =>
        num_below h1 (fun j hj => by rw [h2 j hj]; exact dg_small (by decide) hbig (by omega))
      have ba : ∀ w1 w2 w3 r1 r2 cc g' wr', g' + 1 = g → Like w1 wr → w1.grownBy w2 (some Hr) → w2.grownBy w3 (some Hr) → Row .u64 120 w3 Hr r2 → r1.length = r.length → r2.length = r1.length → Ok B64 r1 → Ok B64 r2 → (∀ j, k + (n + 1) ≤ j → dg r1 j = dg r j) → (∀ j, k + (n + 1) ≤ j → dg r2 j = dg r1 j) → cc ≤ 1 →
          num B64 r1 + num B64 zs * g * B64 ^ k = num B64 r + 1 * B64 ^ (k + (n + 1)) → num B64 r2 + cc * B64 ^ (k + (n + 1)) = num B64 r1 + num B64 zs * B64 ^ k →
          Like wr' (w3.setCell ⟨Hq, k, none⟩ (.int .u64 (g' : Int))) → LongInv w Hd Hr Hq m (d + 1) zs (num B64 xs * 2 ^ s) k wr' :=
        fun w1 w2 w3 r1 r2 cc g' wr' hgg h1 h2 h3 h4 hl1 hl2 ho1 ho2 hz1 hz2 hc hs1 hs2 hw => LongInv.back hdq hrq hdr hqb hrb hbr hdv hrl hq hql hqo hqz hA (by omega) hU hgb hgg hhi' h1 h2 h3 h4 (by omega) ho2 (sml r1 ho1 hz1) (sml r2 ho2 (fun j hj => (hz2 j hj).trans (hz1 j hj))) hc hs1 hs2 hw
      have po : ∀ r1, Ok B64 r1 → (∀ j, k + (n + 1) ≤ j → dg r1 j = dg r j) → num B64 r1 + num B64 zs * g * B64 ^ k = num B64 r + 1 * B64 ^ (k + (n + 1)) → 1 ≤ g := fun r1 h1 h2 h3 => long_one (sml r1 h1 h2) h3
      have GU : Hid (Calls Tryz.prog 196 #[.slice (some ⟨Hr, k, none⟩) (n + 1) (m + 1 - k), .slice (some ⟨Hd, 0, none⟩) n (n + 1)] wr fun e w' => e = .returned (.int .u64 (g : Int)) ∧ Like w' wr) := gu
      have SU : Hid (∀ w1, Like w1 wr → Calls Tryz.prog 197 #[.slice (some ⟨Hr, k, none⟩) (n + 1) (m + 1 - k), .slice (some ⟨Hd, 0, none⟩) n (n + 1), .int .u64 (g : Int)] w1 (SubtPost w1 Hr r (num B64 zs * g * B64 ^ k) (k + (n + 1)))) := su
      have AB := hide ab
      have FI := hide fi
      have BA := hide ba
      have PO := hide po
      have QR : Hid (∀ w1 w2, Like w1 wr → w1.grownBy w2 (some Hr) → Row .u64 120 w2 Hq q) := fun w1 w2 h1 h2 => (hq.alike h1).gr h2 (Ne.symm hrq)
      have hne : ¬ (m + 1 = k) := by omega
      have hle : (k : Int) + (n : Int) + 1 ≤ ((m + 1 : Nat) : Int) := by omega
      have hkq : (k : Int) < ((d + 1 : Nat) : Int) := by omega
      have hkq' : k < q.length := by omega
      have hgb' : Hid (g < B64) := hgb
      clear hbr hdv np nd hg hU hL hgb hlo hhi' hbig hzc zl gu hng su ab fi sml ba po hinv hr hrl hro hrlt hq hql hqo hqz hA
      go_wp2_with fail
      rw [show k + n + 1 - k = n + 1 by omega]
      refine GU.out.mono ?_
      rintro e w4 ⟨rfl, hlike⟩
      have HK : Hid (Like w4 wr) := hlike
      clear hlike
      go_wp2_with fail
      refine (SU.out _ HK.out).mono ?_
      rintro e w5 ⟨dd, rfl, hd1, hgr, r1, a1, a2, a3, a4, a5⟩
      have hq5 := QR.out _ _ HK.out hgr
      have c5 := hq5.cell k hkq'
      have f5 := hq5.free k
      have hdd : dd = 0 ∨ dd = 1 := by omega
      rcases hdd with rfl | rfl
      · have hnx := fun wr' hw => FI.out _ _ _ wr' HK.out hgr a1 a2 a3 a5 hw
        have NX := hide hnx
        clear hgr a1 a2 a3 a4 a5 hnx hd1 hq5
        go_wp2
        go_roundw
        case rel => exact ⟨k, by omega, by go_num, NX.out _ ⟨rfl, rfl, rfl, rfl⟩⟩
        case measure => simp [intOf]
      · obtain ⟨g', rfl⟩ : ∃ g', g = g' + 1 := ⟨g - 1, by have := PO.out _ a3 a4 a5; omega⟩
        have hwg : IntKind.u64.wrap (((g' + 1 : Nat) : Int) - 1) = (g' : Int) := by
          rw [show ((g' + 1 : Nat) : Int) - 1 = (g' : Int) by omega, wrapLt _ (by have := hgb'.out; unfold B64 at this; omega)]
        have hwg2 : IntKind.u64.wrap (g' : Int) = (g' : Int) := wrapLt _ (by have := hgb'.out; unfold B64 at this; omega)
        have hab := AB.out _ _ _ HK.out hgr a1 a2 a3
        have ABK := hide hab
        have hnx := fun w3 r2 cc wr' b1 b2 b3 b4 b5 b6 b7 hw => BA.out _ _ w3 _ r2 cc g' wr' rfl HK.out hgr b1 b2 a2 b3 a3 b4 a4 b5 b6 a5 b7 hw
        have NX := hide hnx
        clear a1 a2 a3 a4 a5 hnx hd1 hab c5 f5
        go_wp2_with fail
        refine ABK.out.mono ?_
        rintro e w6 ⟨rfl, hgr2, r2, cc, b1, b2, b3, b4, b5, b6⟩
        have hq6 := hq5.gr hgr2 (Ne.symm hrq)
        have c6 := hq6.cell k hkq'
        have f6 := hq6.free k
        have hny := fun wr' hw => NX.out _ _ _ wr' hgr2 b1 b2 b3 b4 b5 b6 hw
        have NY := hide hny
        clear hgr hgr2 b1 b2 b3 b4 b5 b6 hny hq5 hq6 NX
        go_wp2
        go_roundw
        case rel => exact ⟨k, by omega, by go_num, NY.out _ ⟨rfl, rfl, rfl, rfl⟩⟩
        case measure => simp [intOf]

end Go.Proofs.YtckijnlolmbdiaaGreatDoor

namespace Go.Proofs.YtckijnlolmbdiaaGreatDoor
open Go.RowKit

theorem num_one {b : Nat} {xs : List Nat} (h : xs.length = 1) : num b xs = dg xs 0 := by
  unfold num; rw [h]; simp [V]

theorem divmod_by_limb (ao bo : Option Addr) (la ca lb cb : Nat) (xs ys : List Nat) (w : World) (hla : la ≤ ca) (hca : la ≤ 10000000000 ∧ ca ≤ 9223372036854775807) (hlb : lb ≤ cb) (hcb : lb ≤ 10000000000 ∧ cb ≤ 9223372036854775807)
    (hx : xs.length = la) (hy : ys.length = lb) (hax : At .u64 w ao xs) (hay : At .u64 w bo ys) (ox : Ok B64 xs) (oy : Ok B64 ys) (h1 : (trimmed ys).length = 1) (h2 : 1 ≤ (trimmed xs).length) :
    Calls Tryz.prog 81 #[.slice ao la ca, .slice bo lb cb] w (DivPost w la (num B64 xs / num B64 ys) (num B64 xs % num B64 ys) 0) := by
  have l1 := length_trimmed_le xs
  rcases hay.trimmed with h | ⟨b, o, rfl, hb, hc⟩
  · rw [h] at h1; simp at h1
  · rcases hax.trimmed with h | ⟨b', o', rfl, hb', hc'⟩
    · rw [h] at h2; simp at h2
    · have hn : num B64 ys = dg (trimmed ys) 0 := by rw [← num_trimmed, num_one h1]
      have hpos : 0 < dg (trimmed ys) 0 := by
        have := trimmed_top ys 0 (by rw [h1]); omega
      have hlt : num B64 xs % num B64 ys < B64 := by
        rw [hn]; exact Nat.lt_trans (Nat.mod_lt _ hpos) (trimmed_ok oy 0)
      have c3 := divLimb_at b' o' (trimmed xs).length ca (dg (trimmed ys) 0) (trimmed xs) w (by omega) hpos (trimmed_ok oy 0) rfl hb' hc' (trimmed_ok ox)
      rw [num_trimmed, ← hn] at c3
      have hc0 := hc 0 (by omega)
      have hc0' : w.cell? ⟨b, o, none⟩ = some (.int .u64 ((num B64 ys : Nat) : Int)) := by rw [hn]; exact hc0
      have key := divmod_limb (some ⟨b', o', none⟩) b o la ca lb cb (trimmed xs).length _ _ (num B64 ys) w h2 (by omega) (fun w' h => trim_to _ la ca _ xs w' hla (by omega) hx (hax.same h) rfl)
        (fun w' h => trim_to _ lb cb 1 ys w' hlb (by omega) hy (hay.same h) h1) hc0' c3 hlt
      refine key.mono ?_
      rintro e w' ⟨v1, r1, v2, r2, e1, o1, o2, i1, i2, hb, hd⟩
      exact ⟨v1, r1, v2, r2, e1, o1.mono (Nat.le_refl _) (by omega), o2.mono (Nat.le_refl _) (by omega), i1, i2, hb, hd⟩

end Go.Proofs.YtckijnlolmbdiaaGreatDoor

namespace Go.Proofs.YtckijnlolmbdiaaGreatDoor
open Go.RowKit

set_option maxHeartbeats 1000000 in
theorem divmod_long (ao bo : Option Addr) (la ca lb cb m p n q r : Nat) (w : World) (hpm : p ≤ m) (hp : 2 ≤ p) (_hm : m ≤ 10000000000)
    (c1 : ∀ w' : World, w'.heap = w.heap → Calls Tryz.prog 140 #[.slice ao la ca] w' fun e w'' => e = .returned (.slice ao m ca) ∧ w' = w'')
    (c2 : ∀ w' : World, w'.heap = w.heap → Calls Tryz.prog 140 #[.slice bo lb cb] w' fun e w'' => e = .returned (.slice bo p cb) ∧ w' = w'')
    (c3 : Calls Tryz.prog 143 #[.slice ao m ca, .slice bo p cb] w (LongPost w n q r)) :
    Calls Tryz.prog 81 #[.slice ao la ca, .slice bo lb cb] w (DivPost w n q r 0) := by
  have C1 : Hid (∀ w' : World, w'.heap = w.heap → Calls Tryz.prog 140 #[.slice ao la ca] w' fun e w'' => e = .returned (.slice ao m ca) ∧ w' = w'') := c1
  have C2 : Hid (∀ w' : World, w'.heap = w.heap → Calls Tryz.prog 140 #[.slice bo lb cb] w' fun e w'' => e = .returned (.slice bo p cb) ∧ w' = w'') := c2
  have C3 : Hid (Calls Tryz.prog 143 #[.slice ao m ca, .slice bo p cb] w (LongPost w n q r)) := c3
  have n1 : ((p : Int) == 0) = false := by rw [beq_eq_false_iff_ne]; omega
  have n2 : ¬ (m : Int) < (p : Int) := by omega
  have n3 : ((p : Int) == 1) = false := by rw [beq_eq_false_iff_ne]; omega
  clear c1 c2 c3
  go_enter Tryz.func81, Tryz.ntmps81
  go_wp2_with fail
  refine (C1.out _ rfl).mono ?_
  rintro e w' ⟨rfl, rfl⟩
  go_wp2_with fail
  refine (C2.out _ rfl).mono ?_
  rintro e w' ⟨rfl, rfl⟩
  go_wp2_with fail
  refine C3.out.mono ?_
  rintro e w1 ⟨v1, r1, v2, r2, rfl, o1, o2, i1, i2, hb, hne⟩
  go_wp2
  go_ret3
  exact ⟨v1, r1, v2, r2, rfl, o1, o2, i1, i2, hb, hne⟩

/-- Where the divisor is not nought: quotient and rest, in memory of their own. -/
theorem divmod_any (ao bo : Option Addr) (la ca lb cb : Nat) (xs ys : List Nat) (w : World) (hla : la ≤ ca) (hca : la ≤ 100000000 ∧ ca ≤ 9223372036854775807) (hlb : lb ≤ cb) (hcb : lb ≤ 100000000 ∧ cb ≤ 9223372036854775807)
    (hx : xs.length = la) (hy : ys.length = lb) (hax : At .u64 w ao xs) (hay : At .u64 w bo ys) (ox : Ok B64 xs) (oy : Ok B64 ys) (h0 : num B64 ys ≠ 0) :
    Calls Tryz.prog 81 #[.slice ao la ca, .slice bo lb cb] w (DivPost w la (num B64 xs / num B64 ys) (num B64 xs % num B64 ys) 0) := by
  have hb0 : 0 < B64 := by decide
  have l1 := length_trimmed_le xs
  have l2 := length_trimmed_le ys
  have c1 : ∀ w' : World, w'.heap = w.heap → Calls Tryz.prog 140 #[.slice ao la ca] w' fun e w'' => e = .returned (.slice ao (trimmed xs).length ca) ∧ w' = w'' := fun w' h => trim_to _ la ca _ xs w' hla (by omega) hx (hax.same h) rfl
  have c2 : ∀ w' : World, w'.heap = w.heap → Calls Tryz.prog 140 #[.slice bo lb cb] w' fun e w'' => e = .returned (.slice bo (trimmed ys).length cb) ∧ w' = w'' := fun w' h => trim_to _ lb cb _ ys w' hlb (by omega) hy (hay.same h) rfl
  have wide : ∀ {m q r : Nat}, m ≤ la → ∀ e w', DivPost w m q r 0 e w' → DivPost w la q r 0 e w' := by
    rintro m q r hm e w' ⟨v1, r1, v2, r2, e1, o1, o2, i1, i2, hb, hd⟩
    exact ⟨v1, r1, v2, r2, e1, o1.mono (Nat.le_refl _) hm, o2.mono (Nat.le_refl _) hm, i1, i2, hb, hd⟩
  have p0 : (trimmed ys).length ≠ 0 := fun h => h0 (by rw [← num_trimmed, List.length_eq_zero_iff.1 h]; rfl)
  by_cases hlt : (trimmed xs).length < (trimmed ys).length
  · have nl : num B64 xs < num B64 ys := by
      rcases hn : (trimmed ys).length with _ | n
      · exact absurd hn p0
      · have a1 := num_lt (trimmed_ok ox)
        have a2 := num_ge (b := B64) (trimmed_top ys) hn
        have a3 := Nat.pow_le_pow_right hb0 (show (trimmed xs).length ≤ n by omega)
        rw [num_trimmed] at a1 a2
        omega
    have c3 := norm_any ao (trimmed xs).length ca (trimmed xs) w (by omega) (by omega) rfl hax.trimmed (trimmed_ok ox)
    have key := divmod_less ao bo la ca lb cb _ _ (num B64 xs) w hlt (by omega) c1 c2 (by rw [num_trimmed] at c3; exact c3)
    rw [Nat.div_eq_of_lt nl, Nat.mod_eq_of_lt nl]
    exact key.mono (wide (by omega))
  · by_cases h1 : (trimmed ys).length = 1
    · exact divmod_by_limb ao bo la ca lb cb xs ys w hla (by omega) hlb (by omega) hx hy hax hay ox oy h1 (by omega)
    · obtain ⟨p, hp⟩ : ∃ p, (trimmed ys).length = p + 2 := ⟨(trimmed ys).length - 2, by omega⟩
      have c3 := divLong_at ao bo (trimmed xs).length ca (trimmed ys).length cb p ((trimmed xs).length - (trimmed ys).length) (trimmed xs) (trimmed ys) w hp (by omega) (by omega) rfl rfl hax.trimmed hay.trimmed (trimmed_ok ox) (trimmed_ok oy) (trimmed_top ys (p + 1) hp)
      rw [num_trimmed, num_trimmed] at c3
      exact (divmod_long ao bo la ca lb cb _ _ _ _ _ w (by omega) (by omega) (by omega) c1 c2 c3).mono (wide (by omega))

end Go.Proofs.YtckijnlolmbdiaaGreatDoor

namespace Go.Proofs.YtckijnlolmbdiaaGreatDoor

theorem new_cell (w : World) (v : Value) (t : TypeId) : ∀ (j : Nat) (u : Value), [v][j]? = some u → (w.alloc (Obj.cells #[v] t)).cell? ((⟨w.heap.size, 0, none⟩ : Addr).add j) = some u := by
  intro j u hj
  match j, hj with
  | 0, hj =>
    simp at hj
    subst hj
    simp [Addr.add]

theorem one_one (k : IntKind) (n : Int) : ∀ u ∈ [Value.int k n], u.oneCell' = true := by
  intro u hu; simp at hu; subst hu; rfl

end Go.Proofs.YtckijnlolmbdiaaGreatDoor

namespace Go.Proofs.YtckijnlolmbdiaaGreatDoor

end Go.Proofs.YtckijnlolmbdiaaGreatDoor

namespace Go.Proofs.YtckijnlolmbdiaaGreatDoor

theorem dig_at {b : Nat} {xs : List Nat} (hb : 0 < b) (ox : Ok b xs) (j : Nat) : num b xs / b ^ j % b = dg xs j := by
  by_cases hj : j < xs.length
  · obtain ⟨t, ht⟩ : ∃ t, xs.length = j + (1 + t) := ⟨xs.length - j - 1, by omega⟩
    have h1 := V_split b (dg xs) j (1 + t)
    have h2 := V_split b (fun i => dg xs (j + i)) 1 t
    have h3 : V b (dg xs) j < b ^ j := V_lt j (fun i _ => ox i)
    have hp : 0 < b ^ j := Nat.pow_pos hb
    unfold num
    rw [ht, h1, Nat.add_comm, Nat.mul_add_div hp, Nat.div_eq_of_lt h3, Nat.add_zero, h2]
    simp only [V, Nat.pow_zero, Nat.mul_one, Nat.zero_add, Nat.pow_one, Nat.add_zero]
    rw [Nat.add_mul_mod_self_left]
    exact Nat.mod_eq_of_lt (ox j)
  · have h1 := num_lt ox
    have h2 := Nat.pow_le_pow_right hb (show xs.length ≤ j by omega)
    rw [Nat.div_eq_of_lt (by omega), dg_out (by omega), Nat.zero_mod]

end Go.Proofs.YtckijnlolmbdiaaGreatDoor

namespace Go.Proofs.YtckijnlolmbdiaaGreatDoor
open Go.RowKit

/-- A list of uint64 that is being built by append. -/
def Grw (w wr : World) (v : Value) (ys : List Nat) : Prop := Below w.heap.size w wr ∧ wr.ownsRow w.heap.size 120 1 v ys.length (vals .u64 ys)

theorem Grw.at {w wr : World} {v : Value} {ys : List Nat} (h : Grw w wr v ys) : ∃ ao cap, v = .slice ao ys.length cap ∧ ys.length ≤ cap ∧ At .u64 wr ao ys := by
  obtain ⟨hb, hl, ho⟩ := h
  rcases ho with ⟨rfl, h0⟩ | ⟨g, cap, cur, rfl, hg, hh, hn, _, hs, ht⟩
  · obtain rfl : ys = [] := List.length_eq_zero_iff.1 h0
    exact ⟨none, 0, rfl, Nat.le_refl _, At.nil _ _ _⟩
  · refine ⟨_, cap, rfl, hn, .inr ⟨g, 0, rfl, lt_of_block hh, fun i hi => ?_⟩⟩
    simp only [World.cell?, hh]
    have hc : cur[i]? = (vals .u64 ys)[i]? := by
      rw [← ht, List.getElem?_take_of_lt (by omega), Array.getElem?_toList]
    simp only [Option.isSome_none, Bool.false_eq_true, if_false, Nat.zero_add, hc]
    simp [vals, hi]

theorem Grw.step {w wr w1 : World} {v v' : Value} {ys : List Nat} {d : Nat} (o : Obj) (h : Grw w wr v ys) (ho : w1.ownsRow w.heap.size 120 1 v' (ys.length + 1) (vals .u64 ys ++ [.int .u64 (d : Int)])) (hg : (wr.alloc o).grownBy w1 v.ownBlock) :
    Grw w w1 v' (ys ++ [d]) := by
  have hb := h.1.alloc (h.1.size) o
  refine ⟨hb.grown hg hb.size ?_, ?_⟩
  · intro k hk
    rcases h.2.2 with ⟨rfl, _⟩ | ⟨g, cap, cur, rfl, hgb, _⟩
    · simp [Value.ownBlock] at hk
    · simp [Value.ownBlock] at hk; omega
  · rw [List.length_append]
    have : vals .u64 (ys ++ [d]) = vals .u64 ys ++ [.int .u64 (d : Int)] := by simp [vals]
    rw [this]; exact ho

/-- Other lists stay, where they lie ahead of what was laid last: the list that grows is changed alone. -/
theorem At.keep {wr w1 : World} {v : Value} {xs : List Nat} {ao : Option Addr} (o : Obj) (hg : (wr.alloc o).grownBy w1 v.ownBlock) (hat : At .u64 wr ao xs)
    (hne : ∀ b o, xs ≠ [] → ao = some ⟨b, o, none⟩ → v.ownBlock ≠ some b) : At .u64 w1 ao xs := by
  rcases hat with h' | ⟨b, o', h1, h2, h3⟩
  · exact .inl h'
  · by_cases hx : xs = []
    · exact .inl hx
    · refine .inr ⟨b, o', h1, Nat.lt_of_lt_of_le h2 (Nat.le_trans (by simp) hg.size), fun i hi => ?_⟩
      rw [World.cell?_of_block (w := wr) ((hg.block b (by simp; omega) (fun e => hne b o' hx h1 e.symm)).trans (Below.heap_alloc _ _ _ h2))]
      exact h3 i hi

theorem Grw.below {w wr w' : World} {v : Value} {ys : List Nat} (h : Grw w wr v ys) (hb : Below wr.heap.size wr w') : Grw w w' v ys := by
  refine ⟨h.1.trans (hb.mono h.1.size), h.2.kept (row := none) ⟨hb.os, hb.tape, hb.output, hb.size, fun k hk _ => hb.block k hk⟩ ?_⟩
  cases hv : v.ownBlock with
  | none => exact .inl rfl
  | some g => exact .inr (by simp)

end Go.Proofs.YtckijnlolmbdiaaGreatDoor

namespace Go.Proofs.YtckijnlolmbdiaaGreatDoor
open Go.RowKit

/-- The chunks' base. -/
def U19 : Nat := 10000000000000000000

def chunkD (N j : Nat) : Nat := N / U19 ^ j % U19
def chunksOf (N k : Nat) : List Nat := (List.range k).map (chunkD N)

theorem chunks_len (N k : Nat) : (chunksOf N k).length = k := by simp [chunksOf]
theorem chunks_succ (N k : Nat) : chunksOf N (k + 1) = chunksOf N k ++ [chunkD N k] := by simp [chunksOf, List.range_succ]
theorem dg_chunks (N k j : Nat) (h : j < k) : dg (chunksOf N k) j = chunkD N j := by simp [dg, chunksOf, h]

theorem chunks_ok (N k : Nat) : Ok U19 (chunksOf N k) := by
  intro j
  by_cases h : j < k
  · rw [dg_chunks N k j h]; exact Nat.mod_lt _ (by decide)
  · rw [dg_out (by rw [chunks_len]; omega)]; decide

theorem chunks_val (N : Nat) : ∀ k, V U19 (chunkD N) k + N / U19 ^ k * U19 ^ k = N
  | 0 => by simp [V]
  | k + 1 => by
    have h := chunks_val N k
    simp only [V]
    have e1 : N / U19 ^ (k + 1) = N / U19 ^ k / U19 := by rw [Nat.pow_succ, Nat.div_div_eq_div_mul]
    have e2 := Nat.div_add_mod (N / U19 ^ k) U19
    rw [e1, Nat.pow_succ]
    rw [show chunkD N k = N / U19 ^ k % U19 from rfl]
    generalize N / U19 ^ k = M at *
    have e3 : M / U19 * (U19 ^ k * U19) = U19 * (M / U19) * U19 ^ k := by
      rw [Nat.mul_comm (U19 ^ k), ← Nat.mul_assoc, Nat.mul_comm (M / U19) U19]
    rw [e3]
    have e4 : (U19 * (M / U19) + M % U19) * U19 ^ k = M * U19 ^ k := by rw [e2]
    rw [Nat.add_mul] at e4
    omega

theorem chunks_is {N k : Nat} (h0 : N / U19 ^ k = 0) (ht : ∀ j, k = j + 1 → N / U19 ^ j ≠ 0) : Is U19 (chunksOf N k) N := by
  refine ⟨chunks_ok N k, ?_, ?_⟩
  · intro j hj
    rw [chunks_len] at hj
    rw [dg_chunks N k j (by omega)]
    unfold chunkD
    have h1 := ht j hj
    rw [hj, Nat.pow_succ, ← Nat.div_div_eq_div_mul] at h0
    have h2 : N / U19 ^ j < U19 := by
      rcases Nat.lt_or_ge (N / U19 ^ j) U19 with h | h
      · exact h
      · have := Nat.div_pos h (by decide : 0 < U19); omega
    rw [Nat.mod_eq_of_lt h2]; exact h1
  · unfold num
    rw [chunks_len, V_congr k (fun j hj => dg_chunks N k j hj)]
    have := chunks_val N k
    rw [h0] at this; omega

theorem chunks_few {N k la : Nat} (hN : N < B64 ^ la) (ht : ∀ j, k = j + 1 → N / U19 ^ j ≠ 0) : k ≤ 2 * la + 1 := by
  rcases k with _ | j
  · omega
  · have h := ht j rfl
    have h1 : U19 ^ j ≤ N := by
      rcases Nat.lt_or_ge N (U19 ^ j) with h' | h'
      · exact absurd (Nat.div_eq_of_lt h') h
      · exact h'
    have h2 : B64 ≤ U19 ^ 2 := by decide +kernel
    have h3 : B64 ^ la ≤ (U19 ^ 2) ^ la := Nat.pow_le_pow_left h2 la
    rw [← Nat.pow_mul] at h3
    rcases Nat.lt_or_ge j (2 * la) with h' | h'
    · omega
    · have := Nat.pow_le_pow_right (show 0 < U19 by decide) h'; omega

/-- At the head of cut's loop, behind k rounds. -/
structure CutInv (w : World) (N la : Nat) (uo : Option Addr) (us : List Nat) (k : Nat) (av cv : Value) (wr : World) : Prop where
  gr : Grw w wr cv (chunksOf N k)
  rst : ∃ ao cap xs, av = .slice ao xs.length cap ∧ xs.length ≤ cap ∧ cap ≤ 10 * la + 100 ∧ At .u64 wr ao xs ∧ Ok B64 xs ∧ num B64 xs = N / U19 ^ k ∧ ∀ b o, xs ≠ [] → ao = some ⟨b, o, none⟩ → cv.ownBlock ≠ some b
  unit : At .u64 wr uo us ∧ ∀ b o, us ≠ [] → uo = some ⟨b, o, none⟩ → cv.ownBlock ≠ some b
  top : ∀ j, k = j + 1 → N / U19 ^ j ≠ 0

/-- What cut answers: the number's digits to the base 10^19, none of them a nought on top. -/
def CutPost (w : World) (m N : Nat) (e : Ending) (w' : World) : Prop :=
  ∃ ao cap cs, e = .returned (.slice ao (List.length cs) cap) ∧ cs.length ≤ cap ∧ At .u64 w' ao cs ∧ Is U19 cs N ∧ cs.length ≤ m ∧ Below w.heap.size w w'

/-- A slice's length. -/
def lenV : Value → Nat
  | .slice _ n _ => n
  | _ => 0

theorem u19_lt : U19 < B64 := by decide

set_option maxRecDepth 100000 in
set_option maxHeartbeats 2000000 in
theorem cut_any (ao : Option Addr) (la ca : Nat) (xs : List Nat) (w : World) (hla : la ≤ ca) (hca : ca ≤ 5000000) (hx : xs.length = la) (hax : At .u64 w ao xs) (ox : Ok B64 xs) :
    Calls Tryz.prog 152 #[.slice ao la ca] w (CutPost w (2 * la + 1) (num B64 xs)) := by
  obtain ⟨i0, hi, hz0, hz1, hz2⟩ := info_parts Tryz.infoU
  obtain ⟨N, hN⟩ : ∃ N, N = num B64 xs := ⟨_, rfl⟩
  have HN : Hid (N < B64 ^ la) := by rw [hN, ← hx]; exact num_lt ox
  have HNN : Hid (num B64 xs = N) := hN.symm
  rw [← hN]
  clear hN
  go_enter Tryz.func152, Tryz.ntmps152
  go_wp2_with fail
  refine (of_any U19 _ u19_lt).mono ?_
  rintro e w1 ⟨v, us, rfl, hou, isu, hb1⟩
  obtain ⟨uo, uc, rfl, hlu, hmu, atu⟩ := hou.shape
  have hst : CutInv w N ca uo us 0 (.slice ao la ca) (.slice none 0 0) w1 := by
    refine ⟨⟨hb1, World.ownsRow_nil _ _ _ _⟩, ⟨ao, ca, xs, by rw [hx], by omega, by omega, hax.below hb1, ox, by rw [HNN.out]; simp, fun b o _ _ => by simp [Value.ownBlock]⟩, ⟨atu, fun b o _ _ => by simp [Value.ownBlock]⟩, fun j hj => by omega⟩
  have HST : Hid (CutInv w N ca uo us 0 (.slice ao la ca) (.slice none 0 0) w1) := hst
  have HU : Hid (Is B64 us U19) := isu
  have lu : us.length ≤ 1 := by omega
  clear hst hou isu atu hax ox
  go_wp2
  go_loopw [0, 3, 5, 6, 7, 8, 9] (fun a c _ _ _ _ _ wr => ∃ k : Nat, CutInv w N ca uo us k a c wr) (fun _ c _ _ _ _ _ _ => 2 * la + 10 - lenV c)
  case atStart => exact ⟨0, HST.out⟩
  case round =>
    clear HST hb1
    obtain ⟨k, hinv⟩ := hrel
    obtain ⟨hgr, ⟨ro, rc, rs, rfl, hrc, hrca, hrat, hrok, hrn, hrne⟩, ⟨hut, hune⟩, htop⟩ := hinv
    have hkl := chunks_few HN.out htop
    obtain ⟨co, cc, rfl, hcl, hcat⟩ := hgr.at
    rw [chunks_len] at *
    by_cases h0 : num B64 rs = 0
    · have his := chunks_is (N := N) (k := k) (by rw [← hrn]; exact h0) htop
      have HIS := hide his
      have HK : Hid (k ≤ 2 * la + 1) := hkl
      have hbel := hgr.1
      have hb0 : bitsN (num B64 rs) = 0 := by rw [h0]; rfl
      clear his hkl htop hut hune hgr hrne
      go_wp2_with fail
      refine (bits_any ro rs.length rc rs _ hrc (by omega) rfl hrat hrok).mono ?_
      rintro e w' ⟨rfl, rfl⟩
      rw [hb0]
      clear hrat
      go_wp2
      go_ret
      exact ⟨co, cc, chunksOf N k, by rw [chunks_len]; rfl, by rw [chunks_len]; exact hcl, hcat, HIS.out, by rw [chunks_len]; exact HK.out, hbel⟩
    · obtain ⟨p, hp, _⟩ := bitsN_spec h0
      have hn0 : N / U19 ^ k ≠ 0 := by rw [← hrn]; exact h0
      have HTOP : Hid (∀ j, k + 1 = j + 1 → N / U19 ^ j ≠ 0) := by
        intro j hj
        rw [show j = k by omega]
        exact hn0
      have HGR := hide hgr
      have HRN := hide hrn
      have HUNE := hide hune
      have hsz := hgr.1.size
      have hgl := hgr.2.lt
      have HGL := hide hgl
      have huu : num B64 us ≠ 0 := by rw [HU.out.2.2]; decide
      have HCAT := hide hcat
      clear htop hune hgr hrne h0 hgl hcat hn0
      go_wp2_with fail
      refine (bits_any ro rs.length rc rs _ hrc (by omega) rfl hrat hrok).mono ?_
      rintro e w' ⟨rfl, rfl⟩
      rw [hp]
      go_wp2_with fail
      refine (divmod_any ro uo rs.length rc us.length uc rs us _ hrc (by omega) hlu (by omega) rfl rfl hrat hut hrok HU.out.1 huu).mono ?_
      rintro e w4 ⟨v1, rq, v2, rr, rfl, hq, hr, iq, ir, hb4, _⟩
      rw [HU.out.2.2, HRN.out, Nat.div_div_eq_div_mul, ← Nat.pow_succ] at iq
      rw [HU.out.2.2, HRN.out] at ir
      obtain ⟨qo, qc, rfl, hlq, hmq, atq⟩ := hq.shape
      obtain ⟨eo, ec, rfl, hle, hme, ate⟩ := hr.shape
      have hu4 := hut.below hb4
      have hel : (trimmed rr).length ≤ 1 := by
        refine trimmed_small (t := 1) ?_
        rw [ir.2.2, Nat.pow_one]
        exact Nat.lt_trans (Nat.mod_lt _ (by decide)) u19_lt
      have HQB : Hid (∀ b o, rq ≠ [] → qo = some ⟨b, o, none⟩ → wr.heap.size ≤ b ∧ b < w4.heap.size) := by
        intro b o hx' e
        rcases hq with ⟨h1, h2⟩ | ⟨g, full, h1, h2, h3, _⟩
        · exact absurd h2 hx'
        · simp only [Value.slice.injEq] at h1
          rw [e] at h1
          simp only [Option.some.injEq, Addr.mk.injEq] at h1
          have := h3.lt
          omega
      clear hq hr hrat hut
      go_wp2_with fail
      refine (uint_any eo rr.length ec rr _ hle (by omega) rfl ate).mono ?_
      rintro e w' ⟨rfl, rfl⟩
      rw [if_pos hel, ir.2.2, show N / U19 ^ k % U19 = chunkD N k from rfl, decide_eq_true hel]
      obtain ⟨d, hd⟩ : ∃ d, d = chunkD N k := ⟨_, rfl⟩
      rw [← hd]
      have hg4 := HGR.out.below hb4
      have hown := hg4.2
      rw [chunks_len] at hown
      have HG4 := hide hg4
      have HD : Hid (d = chunkD N k) := hd
      have hs4 := hb4.size
      have HIQ := hide iq
      clear hd ir hel ate hle hme HGR hg4 iq
      go_wp2_with (at_builtin; refine wpList_append_lies _ rfl _ _ 108 rfl w.heap.size 120 i0 (.int .u64 0) 1 8 Tryz.underlying108 hi hz0 hz1 hz2 rfl (by decide) _ _ _ rfl (hown.alloc _) ⟨w4.heap.size, 0, none⟩ 1 1 [.int .u64 (d : Int)] rfl rfl ?c1A ?c2A (by omega) ?c3A ?c4A ?c5A (w4.heap.size + 1) (by simp) ?_)
      try case c1A => exact new_cell w4 _ _
      case c2A => first | exact one_one _ _ | rfl
      case c3A => unfold maxLen; omega
      case c4A => omega
      case c5A => first | (simp; omega) | omega
      intro g cap w5 hown' hgrow hlies hlt
      have hne4 : ∀ b, (b < wr.heap.size → (Value.slice co k cc).ownBlock ≠ some b) → b < w4.heap.size → g ≠ b := by
        intro b hb1 hb2 e
        subst e
        rcases hlies with h | h
        · have := (HGL.out g h).2
          exact hb1 this h
        · omega
      have hst : CutInv w N ca uo us (k + 1) (.slice qo rq.length qc) (.slice (some ⟨g, 0, none⟩) (k + 1) cap) w5 := by
        have hgs := HG4.out.step _ (by rw [chunks_len]; exact hown') hgrow
        rw [HD.out, ← chunks_succ] at hgs
        refine ⟨hgs, ⟨qo, qc, rq, rfl, hlq, by omega, ?_, HIQ.out.1, HIQ.out.2.2, ?_⟩, ⟨?_, ?_⟩, HTOP.out⟩
        · refine At.keep _ hgrow atq (fun b o hx' e h => ?_)
          have h1 := HQB.out b o hx' e
          have := (HGL.out b h).2
          omega
        · intro b o hx' e
          have h1 := HQB.out b o hx' e
          show some g ≠ some b
          intro h2
          injection h2 with h2
          exact hne4 b (fun h => absurd h1.1 (by omega)) h1.2 h2
        · exact At.keep _ hgrow hu4 (fun b o hx' e => HUNE.out b o hx' e)
        · intro b o hx' e
          show some g ≠ some b
          intro h2
          injection h2 with h2
          have h3 : b < w4.heap.size := by
            rcases hu4 with h | ⟨b', o', h1, h4, _⟩
            · exact absurd h hx'
            · rw [e] at h1; simp only [Option.some.injEq, Addr.mk.injEq] at h1; omega
          exact hne4 b (fun _ => HUNE.out b o hx' e) h3 h2
      have HST := hide hst
      clear hst hown hown' hgrow hlies hlt hne4 atq hu4
      go_wp2
      go_roundw
      case rel => exact ⟨k + 1, HST.out⟩
      case measure => simp [lenV]; omega

end Go.Proofs.YtckijnlolmbdiaaGreatDoor

namespace Go.Proofs.YtckijnlolmbdiaaGreatDoor
open Go.RowKit

theorem bld_size : (Tryz.prog.info? 162).map (·.size) = some 2 := by kernel_rfl
theorem bld_lies : liesAt Tryz.prog Tryz.prog.depth 162 (2 / Tryz.prog.cellsOf 162) 0 162 1 = true := by kernel_rfl
theorem byte_info : (Tryz.prog.info? 5).map (fun i => (i.zero, i.size, i.bytes)) = some (some (.int .u8 0), 1, 1) := by kernel_rfl

set_option maxRecDepth 100000 in
set_option maxHeartbeats 1000000 in
/-- A builder that was written before knows its own address already. -/
theorem ccheck_used (b : Nat) (w : World) (h0 : w.cell? ⟨b, 0, none⟩ = some (.pointer (some ⟨b, 0, none⟩))) :
    Calls Tryz.prog 203 #[.pointer (some ⟨b, 0, none⟩)] w fun e w' => e = .returned (.tuple #[]) ∧ w' = w := by
  obtain ⟨j, hj, _⟩ := Option.map_eq_some_iff.1 bld_size
  have key := Lib.run_neq_ptr_same (P := Tryz.prog) w ⟨b, 0, none⟩ Tryz.underlying160 hj
  go_enter Tryz.func203, Tryz.ntmps203
  go_wp2
  go_end0
  exact ⟨rfl, rfl⟩

set_option maxRecDepth 100000 in
set_option maxHeartbeats 1000000 in
/-- A fresh builder learns its own address. -/
theorem ccheck_fresh (b : Nat) (w : World) (h0 : w.cell? ⟨b, 0, none⟩ = some (.pointer none)) (hsh : w.shape? b = some (162, 2)) (hfz : w.frozen? ⟨b, 0, none⟩ = false) :
    Calls Tryz.prog 203 #[.pointer (some ⟨b, 0, none⟩)] w fun e w' => e = .returned (.tuple #[]) ∧ w' = w.setCell ⟨b, 0, none⟩ (.pointer (some ⟨b, 0, none⟩)) := by
  obtain ⟨j, hj, hjs⟩ := Option.map_eq_some_iff.1 bld_size
  have k1 := Lib.run_to_unsafe (P := Tryz.prog) w ⟨b, 0, none⟩ Tryz.underlying160 Tryz.underlying222 hj (by rw [hjs]; decide) hsh (Nat.zero_lt_succ 1)
  have k2 := Lib.run_from_unsafe (P := Tryz.prog) w ⟨b, 0, none⟩ Tryz.underlying222 Tryz.underlying160 hj hsh bld_lies
  go_enter Tryz.func203, Tryz.ntmps203
  go_wp2
  rw [run_callFunc_extern Tryz.func231 (by kernel_rfl) (by kernel_rfl) (by kernel_rfl) (e := Extern.AbiNoEscape.same) (by kernel_rfl), Lib.run_noEscape]
  simp only [Result.andThen]
  rw [Oper.upon_value]
  go_wp2
  go_end0
  exact ⟨rfl, rfl⟩

theorem ccheck_any (B b : Nat) (bs : List Value) (w : World) (h : Lib.IsBuilder 162 5 B b bs w) :
    Calls Tryz.prog 203 #[.pointer (some ⟨b, 0, none⟩)] w fun e w' => e = .returned (.tuple #[]) ∧ Lib.BuilderAt 162 5 B b (.pointer (some ⟨b, 0, none⟩)) bs w' ∧ Below B w w' := by
  rcases h with h | h
  · refine (ccheck_fresh b w h.cell0 h.shape h.frozen0).mono ?_
    rintro e w' ⟨rfl, rfl⟩
    exact ⟨rfl, h.used _, (Below.refl B w).setCell (p := ⟨b, 0, none⟩) h.1 _⟩
  · refine (ccheck_used b w h.cell0).mono ?_
    rintro e w' ⟨rfl, rfl⟩
    exact ⟨rfl, h, Below.refl B _⟩

set_option maxRecDepth 100000 in
set_option maxHeartbeats 2000000 in
theorem writeString_any (B b : Nat) (bs : List Value) (s : ByteArray) (w : World) (h : Lib.IsBuilder 162 5 B b bs w) (hlen : bs.length + s.size ≤ 140737488355328) (hBw : B ≤ w.heap.size) :
    Calls Tryz.prog 153 #[.pointer (some ⟨b, 0, none⟩), .string s] w fun e w' => e = .returned (.tuple #[.int .i64 s.size, .nilIface]) ∧ Lib.BuilderAt 162 5 B b (.pointer (some ⟨b, 0, none⟩)) (bs ++ Lib.strCells s) w' ∧ Below B w w' := by
  obtain ⟨i0, hi, hz0, hz1, hz2⟩ := info_parts byte_info
  go_enter Tryz.func153, Tryz.ntmps153
  go_wp2_with fail
  refine (ccheck_any B b bs _ h).mono ?_
  rintro e w1 ⟨rfl, h1, hb1⟩
  have c0 := h1.cell0
  obtain ⟨hB, v, hbk, hown, hne⟩ := h1
  have c1 : w1.cell? ⟨b, 1, none⟩ = some v := by rw [Lib.cell_of_heap hbk]; rfl
  have hlt := lt_of_block hbk
  have hsz := hb1.size
  go_wp2_with (at_builtin; refine Lib.wpList_append_own_string _ rfl _ _ 51 9 rfl B 5 i0 Tryz.underlying51 Tryz.underlying9 hi hz0 hz1 hz2 _ _ _ rfl hown s rfl ?c3 ?c4 ?c5 ?_)
  case c3 => unfold maxLen; omega
  case c4 => omega
  case c5 => omega
  intro v' w2 hown' hgrow _
  have hb2 : w2.heap[b]? = some (.cells #[.pointer (some ⟨b, 0, none⟩), v] 162 (0, 0)) := by
    rw [hgrow.block b hlt (fun e => hne e.symm)]; exact hbk
  have d0 : w2.cell? ⟨b, 0, none⟩ = some (.pointer (some ⟨b, 0, none⟩)) := by rw [Lib.cell_of_heap hb2]; rfl
  have d1 : w2.cell? ⟨b, 1, none⟩ = some v := by rw [Lib.cell_of_heap hb2]; rfl
  have f1 : w2.frozen? ⟨b, 1, none⟩ = false := Lib.frozen_of_heap hb2 1
  obtain ⟨ao, n', cap, rfl⟩ : ∃ ao n' cap, v' = .slice ao n' cap := by
    rcases hown'.2 with ⟨hv, _⟩ | ⟨g, cap, cur, hv, _⟩
    · exact ⟨_, _, _, hv⟩
    · exact ⟨_, _, _, hv⟩
  go_wp2
  go_ret2
  refine ⟨rfl, Lib.BuilderAt.put hB hb2 (bs' := bs ++ Lib.strCells s) (by simpa [Lib.strCells_length] using hown') (by decide), ?_⟩
  exact (hb1.grown hgrow (by omega) (fun k hk => (hown.lt k hk).1)).setCell (p := ⟨b, 1, none⟩) hB _

end Go.Proofs.YtckijnlolmbdiaaGreatDoor

namespace Go.Proofs.YtckijnlolmbdiaaGreatDoor
open Go.RowKit

/-- The m lowest decimal digits of r, noughts ahead of them too. -/
def padD : Nat → Nat → List UInt8
  | 0, _ => []
  | m + 1, r => padD m (r / 10) ++ [UInt8.ofNat (48 + r % 10)]

theorem dd_append : ∀ (m q r : Nat), q ≠ 0 → r < 10 ^ m → Lib.decDigits (q * 10 ^ m + r) = Lib.decDigits q ++ padD m r
  | 0, q, r, _, hr => by
    have : r = 0 := by simpa using hr
    subst this; simp [padD]
  | m + 1, q, r, hq, hr => by
    have hp : 0 < 10 ^ m := Nat.pow_pos (by omega)
    have h1 : 1 * 10 ^ m ≤ q * 10 ^ m := Nat.mul_le_mul_right _ (by omega)
    have e0 : q * 10 ^ (m + 1) = q * 10 ^ m * 10 := by rw [Nat.pow_succ, Nat.mul_assoc]
    have e1 : (q * 10 ^ (m + 1) + r) / 10 = q * 10 ^ m + r / 10 := by rw [e0]; omega
    have e2 : (q * 10 ^ (m + 1) + r) % 10 = r % 10 := by rw [e0]; omega
    have hb : ¬ q * 10 ^ (m + 1) + r < 10 := by rw [e0]; omega
    rw [dd_big hb, e1, e2, dd_append m q (r / 10) hq (by rw [Nat.pow_succ] at hr; omega)]
    simp [padD]

theorem padD_zero : ∀ m, padD m 0 = List.replicate m (48 : UInt8)
  | 0 => rfl
  | m + 1 => by
    show padD m (0 / 10) ++ [UInt8.ofNat (48 + 0 % 10)] = _
    rw [Nat.zero_div, padD_zero m, List.replicate_succ']
    rfl

theorem padD_eq : ∀ (m r : Nat), 1 ≤ m → r < 10 ^ m → padD m r = List.replicate (m - (Lib.decDigits r).length) (48 : UInt8) ++ Lib.decDigits r
  | 0, _, h, _ => absurd h (by omega)
  | m + 1, r, _, hr => by
    by_cases h : r < 10
    · show padD m (r / 10) ++ [UInt8.ofNat (48 + r % 10)] = _
      rw [Nat.div_eq_of_lt h, padD_zero, Nat.mod_eq_of_lt h, Lib.decDigits_one h]
      simp
    · have hm : 1 ≤ m := by
        rcases m with _ | m
        · simp at hr; omega
        · omega
      show padD m (r / 10) ++ [UInt8.ofNat (48 + r % 10)] = _
      rw [padD_eq m (r / 10) hm (by rw [Nat.pow_succ] at hr; omega), dd_big h]
      simp

theorem nd_lower : ∀ k u : Nat, 1 ≤ u → Lib.nDigits u = k + 1 → 10 ^ k ≤ u
  | 0, u, h, _ => by simpa using h
  | k + 1, u, h, hn => by
    by_cases h10 : u < 10
    · rw [Lib.nDigits_small h10] at hn; omega
    · rw [Lib.nDigits_big h10] at hn
      have := nd_lower k (u / 10) (by omega) (by omega)
      rw [Nat.pow_succ]; omega

theorem nd_le {u t : Nat} (h : u < 10 ^ t) (ht : 1 ≤ t) : Lib.nDigits u ≤ t := by
  by_cases h0 : u = 0
  · subst h0; rw [Lib.nDigits_small (by omega)]; exact ht
  · rcases hn : Lib.nDigits u with _ | k
    · omega
    · have := nd_lower k u (by omega) hn
      rcases Nat.lt_or_ge k t with h' | h'
      · omega
      · have := Nat.pow_le_pow_right (show 0 < 10 by omega) h'; omega

theorem text_len {N la : Nat} (h : N < B64 ^ la) (j : Nat) : (Lib.decDigits (N / U19 ^ j)).length ≤ 20 * la + 1 := by
  rw [Lib.decDigits_length]
  refine nd_le (t := 20 * la + 1) ?_ (by omega)
  have h1 : B64 ^ la ≤ (10 ^ 20) ^ la := Nat.pow_le_pow_left (by decide +kernel) la
  rw [← Nat.pow_mul] at h1
  have h2 := Nat.div_le_self N (U19 ^ j)
  have h3 : (10 : Nat) ^ (20 * la) ≤ 10 ^ (20 * la + 1) := Nat.pow_le_pow_right (by omega) (by omega)
  omega

theorem repeat0 (c : Nat) : Lib.repeatL [48] c = List.replicate c (48 : UInt8) := by
  induction c with
  | zero => rfl
  | succ c ih => rw [Lib.repeatL, ih]; rfl

theorem chunk_text {N k : Nat} (h : N / U19 ^ (k + 1) ≠ 0) : Lib.decDigits (N / U19 ^ k) = Lib.decDigits (N / U19 ^ (k + 1)) ++ (List.replicate (19 - (Lib.decDigits (chunkD N k)).length) (48 : UInt8) ++ Lib.decDigits (chunkD N k)) := by
  have hU : U19 = 10 ^ 19 := by decide +kernel
  have e : N / U19 ^ k = N / U19 ^ (k + 1) * 10 ^ 19 + chunkD N k := by
    unfold chunkD
    rw [Nat.pow_succ, ← Nat.div_div_eq_div_mul]
    have := Nat.div_add_mod (N / U19 ^ k) U19
    rw [← hU, Nat.mul_comm]; omega
  have hlt : chunkD N k < 10 ^ 19 := by rw [← hU]; exact Nat.mod_lt _ (by decide)
  rw [← padD_eq 19 _ (by omega) hlt, ← dd_append 19 _ _ h hlt, ← e]

theorem chunk_dd {N k : Nat} : (Lib.decDigits (chunkD N k)).length ≤ 19 := by
  rw [Lib.decDigits_length]
  refine nd_le ?_ (by omega)
  have hU : U19 = 10 ^ 19 := by decide +kernel
  rw [← hU]; exact Nat.mod_lt _ (by decide)

theorem chunk_lt (N k : Nat) : chunkD N k < 18446744073709551616 := Nat.lt_trans (Nat.mod_lt _ (by decide)) (show U19 < 18446744073709551616 by decide)

/-- A builder stays, where what it lies in stays. -/
theorem bld_below {T e : TypeId} {B b : Nat} {p : Value} {bs : List Value} {w w' : World} (h : Lib.BuilderAt T e B b p bs w) (hb : Below w.heap.size w w') : Lib.BuilderAt T e B b p bs w' := by
  obtain ⟨h1, v, h2, h3, h4⟩ := h
  refine ⟨h1, v, ?_, h3.kept (row := none) ⟨hb.os, hb.tape, hb.output, hb.size, fun k hk _ => hb.block k hk⟩ ?_, h4⟩
  · rw [hb.block b (lt_of_block h2)]; exact h2
  · cases hv : v.ownBlock with
    | none => exact .inl rfl
    | some g => exact .inr (by simp)

theorem bld_new (w : World) : Lib.IsBuilder 162 5 w.heap.size w.heap.size [] (w.alloc (.cells #[.pointer none, .slice none 0 0] 162)) :=
  .inl ⟨Nat.le_refl _, .slice none 0 0, heap_alloc_new _ _, World.ownsRow_nil _ _ _ _, by simp [Value.ownBlock]⟩

set_option maxRecDepth 100000 in
set_option maxHeartbeats 2000000 in
theorem text_any (ao : Option Addr) (la ca : Nat) (xs : List Nat) (w : World) (hla : la ≤ ca) (hca : ca ≤ 5000000) (hx : xs.length = la) (hax : At .u64 w ao xs) (ox : Ok B64 xs) (htab : Tab w) :
    Calls Tryz.prog 87 #[.slice ao la ca] w fun e w' => e = .returned (.string ⟨(Lib.decDigits (num B64 xs)).toArray⟩) ∧ Below w.heap.size w w' := by
  obtain ⟨N, hN⟩ : ∃ N, N = num B64 xs := ⟨_, rfl⟩
  have HN : Hid (N < B64 ^ la) := by rw [hN, ← hx]; exact num_lt ox
  have cu := cut_any ao la ca xs w hla hca hx hax ox
  rw [← hN] at cu ⊢
  have CU := hide cu
  have HTAB : Hid (Tab w) := htab
  clear cu hN hax ox htab
  go_enter Tryz.func87, Tryz.ntmps87
  go_wp2_with fail
  refine CU.out.mono ?_
  rintro e w1 ⟨co, cc, cs, rfl, hcl, hcat, his, hcm, hb1⟩
  rcases hcs : cs.length with _ | t
  · have hz : cs = [] := List.length_eq_zero_iff.1 hcs
    have hN0 : N = 0 := by rw [hz] at his; exact his.2.2.symm
    clear hcat his hcl hcm hz HN
    subst hN0
    go_wp2
    go_ret
    exact ⟨by rw [Lib.decDigits_one (by omega)]; rfl, hb1⟩
  · obtain ⟨cb, cf, rfl, hcb, hcell⟩ : ∃ cb cf, co = some ⟨cb, cf, none⟩ ∧ cb < w1.heap.size ∧ ∀ i, i < cs.length → w1.cell? ⟨cb, cf + i, none⟩ = some (.int .u64 ((dg cs i : Nat) : Int)) := by
      rcases hcat with h | h
      · rw [h] at hcs; simp at hcs
      · exact h
    have hdig : ∀ j, dg cs j = chunkD N j := fun j => by rw [← dig_at (by decide) his.1 j, his.2.2]; rfl
    have hcell' : ∀ j, j ≤ t → w1.cell? ⟨cb, cf + j, none⟩ = some (.int .u64 ((chunkD N j : Nat) : Int)) := fun j hj => by rw [hcell j (by omega), hdig]
    have htop : N / U19 ^ t ≠ 0 := by
      intro e
      have h1 := his.2.1 t hcs
      rw [hdig t] at h1
      unfold chunkD at h1
      rw [e, Nat.zero_mod] at h1
      exact h1 rfl
    have hall : ∀ j, j ≤ t → N / U19 ^ j ≠ 0 := by
      intro j hj e
      refine htop (Nat.div_eq_of_lt ?_)
      have h1 : N < U19 ^ j := by
        rcases Nat.lt_or_ge N (U19 ^ j) with h | h
        · exact h
        · have := Nat.div_pos h (Nat.pow_pos (show 0 < U19 by decide)); omega
      exact Nat.lt_of_lt_of_le h1 (Nat.pow_le_pow_right (by decide) hj)
    have hfirst : Lib.decDigits (chunkD N t) = Lib.decDigits (N / U19 ^ t) := by
      have h1 := num_lt his.1
      rw [his.2.2, hcs, Nat.pow_succ] at h1
      unfold chunkD
      rw [Nat.mod_eq_of_lt ((Nat.div_lt_iff_lt_mul (Nat.pow_pos (by decide))).2 (by rw [Nat.mul_comm]; exact h1))]
    have HC := hide hcell'
    have HALL := hide hall
    have htl : t ≤ 2 * la := by omega
    have c0 := HC.out t (Nat.le_refl _)
    have hlt : (t : Int) < ((t + 1 : Nat) : Int) := by omega
    have hnt : ¬ (t : Int) < 0 := by omega
    have c0' : (w1.alloc (Obj.cells #[Value.pointer none, Value.slice none 0 0] 162)).cell? ⟨cb, cf + t, none⟩ = some (.int .u64 ((chunkD N t : Nat) : Int)) := by
      rw [World.cell?_of_block (w := w1) (Below.heap_alloc _ _ _ hcb)]; exact c0
    obtain ⟨d0, hd0⟩ : ∃ d, d = chunkD N t := ⟨_, rfl⟩
    have fm := fun W hT => fmtUint_any (chunkD N t) (chunk_lt N t) W hT
    rw [← hd0] at c0' fm hfirst
    obtain ⟨ds, hds⟩ : ∃ ds : ByteArray, ds = ⟨(Lib.decDigits d0).toArray⟩ := ⟨_, rfl⟩
    rw [← hds] at fm
    have FM := hide fm
    have HDS := hide hds
    have HF := hide hfirst
    have hbn := bld_new w1
    have hT2 : Tab (w1.alloc (Obj.cells #[Value.pointer none, Value.slice none 0 0] 162)) := (HTAB.out.below hb1).alloc _
    have HT2 := hide hT2
    have HBN := hide hbn
    have hb12 : Below w1.heap.size w1 (w1.alloc (Obj.cells #[Value.pointer none, Value.slice none 0 0] 162)) := (Below.refl _ _).alloc (Nat.le_refl _) _
    have HB12 := hide hb12
    have HB1 := hide hb1
    have hlen : ∀ j, (Lib.decDigits (N / U19 ^ j)).length ≤ 20 * la + 1 := text_len HN.out
    have HLEN := hide hlen
    clear hcat hcell hdig hcell' htop hall hfirst fm hd0 hds c0 his hcl hcm hbn hT2 hb12 hb1 hlen hcs
    go_wp2_with fail
    refine (FM.out _ HT2.out).mono ?_
    rintro e w3 ⟨rfl, hb3⟩
    have hbu3 : Lib.IsBuilder 162 5 w1.heap.size w1.heap.size [] w3 := by
      rcases HBN.out with h | h
      · exact .inl (bld_below h hb3)
      · exact .inr (bld_below h hb3)
    have hb13 := HB12.out.trans (hb3.mono HB12.out.size)
    have hsz3 := hb13.size
    have hds0 : ds.size ≤ 200000000 := by
      rw [HDS.out]
      show (Lib.decDigits d0).length ≤ _
      rw [HF.out]
      have := HLEN.out t
      omega
    clear hb3 c0'
    go_wp2_with fail
    refine (writeString_any w1.heap.size w1.heap.size [] ds _ hbu3 (by simp; omega) hsz3).mono ?_
    rintro e w4 ⟨rfl, hbu4, hb4⟩
    have hbt : Lib.BuilderAt 162 5 w1.heap.size w1.heap.size (.pointer (some ⟨w1.heap.size, 0, none⟩)) (Lib.byteCells (Lib.decDigits (N / U19 ^ t))) w4 := by
      rw [← HF.out, ← Lib.strCells_toArray, ← HDS.out]; simpa using hbu4
    have hb14 := hb13.trans hb4
    have HBT := hide hbt
    have HB14 := hide hb14
    clear hbu3 hbu4 hb13 hb4 hsz3 hbt hb14
    go_wp2
    go_loopw [6, 7] (fun i _ wr => ∃ k : Nat, k ≤ t ∧ i = .int .i64 ((k : Int) - 1) ∧ Below w1.heap.size w1 wr ∧ Lib.BuilderAt 162 5 w1.heap.size w1.heap.size (.pointer (some ⟨w1.heap.size, 0, none⟩)) (Lib.byteCells (Lib.decDigits (N / U19 ^ k))) wr) (fun i _ _ => (intOf i + 1).toNat)
    case atStart => exact ⟨t, Nat.le_refl _, rfl, HB14.out, HBT.out⟩
    case round =>
      clear HBT HB14
      obtain ⟨k, hk, rfl, hbr, hbu⟩ := hrel
      have hszr := hbr.size
      rcases k with _ | k
      · rw [Nat.pow_zero, Nat.div_one] at hbu
        have hI : Lib.IsBuilder 162 5 w1.heap.size w1.heap.size (Lib.byteCells (Lib.decDigits N)) wr := .inr hbu
        clear hbu
        go_wp2_with fail
        refine (Tryz.Builder_String_any w1.heap.size w1.heap.size (Lib.decDigits N) _ hI hszr).mono ?_
        rintro e w5 ⟨rfl, hb5⟩
        have hbw := HB1.out.trans ((hbr.trans hb5).mono HB1.out.size)
        clear hI hb5 hbr
        go_wp2
        go_ret
        exact ⟨rfl, hbw⟩
      · have c0 : wr.cell? ⟨cb, cf + k, none⟩ = some (.int .u64 ((chunkD N k : Nat) : Int)) := (hbr.cell hcb).trans (HC.out k (by omega))
        have hct := chunk_text (N := N) (k := k) (HALL.out (k + 1) (by omega))
        have hd19 := chunk_dd (N := N) (k := k)
        have hlenk := HLEN.out k
        have hT : Tab wr := HTAB.out.below (HB1.out.trans (hbr.mono HB1.out.size))
        have fm := fun W hT => fmtUint_any (chunkD N k) (chunk_lt N k) W hT
        obtain ⟨d, hd⟩ : ∃ d, d = chunkD N k := ⟨_, rfl⟩
        rw [← hd] at c0 fm hct hd19
        obtain ⟨dz, hdz⟩ : ∃ dz : ByteArray, dz = ⟨(Lib.decDigits d).toArray⟩ := ⟨_, rfl⟩
        rw [← hdz] at fm
        obtain ⟨m, hm⟩ : ∃ m, m = (Lib.decDigits d).length := ⟨_, rfl⟩
        have hzs : dz.size = m := by rw [hdz, hm]; rfl
        obtain ⟨c, hc⟩ : ∃ c, c + m = 19 := ⟨19 - m, by omega⟩
        have hc1 : (19 : Int) - (m : Int) = (c : Int) := by omega
        have hcn : 19 - (Lib.decDigits d).length = c := by omega
        rw [hcn] at hct
        have FMk := hide fm
        have HDZ := hide hdz
        have HCT := hide hct
        have HZS := hide hzs
        have hkt : (k : Int) < ((t + 1 : Nat) : Int) := by omega
        have hbl : (Lib.decDigits (N / U19 ^ (k + 1))).length ≤ 20 * la + 1 := HLEN.out (k + 1)
        have HT := hide hT
        clear hct hd19 hlenk hd hdz hm hzs fm hcn hT
        go_wp2_with fail
        refine (FMk.out _ HT.out).mono ?_
        rintro e w5 ⟨rfl, hb5⟩
        have hbu5 := bld_below hbu hb5
        have hbr5 := hbr.trans (hb5.mono hszr)
        have hsz5 := hbr5.size
        have hzi : ((dz.size : Nat) : Int) = (m : Int) := by rw [HZS.out]
        clear hb5 hbu hbr c0 hszr
        obtain ⟨zs, hzs⟩ : ∃ zs : ByteArray, zs = ⟨(List.replicate c (48 : UInt8)).toArray⟩ := ⟨_, rfl⟩
        have rp : Calls Tryz.prog 155 #[.string ⟨#[48]⟩, .int .i64 (c : Int)] w5 fun e w' => e = .returned (.string zs) ∧ Below w5.heap.size w5 w' := by
          have h := Tryz.strings_Repeat ⟨#[48]⟩ c w5 (by omega) (by show 1 * c ≤ _; omega)
          rw [show (⟨#[48]⟩ : ByteArray).data.toList = [48] from rfl, repeat0, ← hzs] at h
          exact h
        have RP := hide rp
        have HZ0 := hide hzs
        have hz0 : zs.size = c := by rw [hzs]; show (List.replicate c (48 : UInt8)).length = c; simp
        clear rp hzs
        go_wp2_with fail
        refine RP.out.mono ?_
        rintro e w6 ⟨rfl, hb6⟩
        have hbu6 := bld_below hbu5 hb6
        have hbr6 := hbr5.trans (hb6.mono hsz5)
        have hsz6 := hbr6.size
        clear hb6 hbu5 hbr5 hsz5
        go_wp2_with fail
        refine (writeString_any w1.heap.size w1.heap.size _ zs _ (.inr hbu6) (by rw [Lib.byteCells_length]; omega) hsz6).mono ?_
        rintro e w7 ⟨rfl, hbu7, hb7⟩
        have hbr7 := hbr6.trans hb7
        have hsz7 := hbr7.size
        clear hb7 hbu6 hbr6 hsz6
        go_wp2_with fail
        refine (writeString_any w1.heap.size w1.heap.size _ dz _ (.inr hbu7) (by rw [List.length_append, Lib.byteCells_length, Lib.strCells_length, HZS.out]; omega) hsz7).mono ?_
        rintro e w8 ⟨rfl, hbu8, hb8⟩
        have hbr8 := hbr7.trans hb8
        rw [HZ0.out, HDZ.out, Lib.strCells_toArray, Lib.strCells_toArray, List.append_assoc, ← Lib.byteCells_append, ← Lib.byteCells_append, ← HCT.out] at hbu8
        have HB8 := hide hbu8
        have HBR8 := hide hbr8
        clear hb8 hbu7 hbr7 hsz7 hbu8 hbr8
        go_wp2
        go_roundw
        case rel => exact ⟨k, by omega, by go_num, HBR8.out, HB8.out⟩
        case measure => simp [intOf]

end Go.Proofs.YtckijnlolmbdiaaGreatDoor

namespace Go.Proofs.YtckijnlolmbdiaaGreatDoor
open Go.RowKit

/-- v is a list of limbs without noughts on top, the number n. -/
def Nt (w : World) (v : Value) (n : Nat) : Prop := ∃ o c xs, v = .slice o (List.length xs) c ∧ xs.length ≤ c ∧ c ≤ 1000000 ∧ At .u64 w o xs ∧ Is B64 xs n

/-- A number that is not too great. -/
def Sm (n : Nat) : Prop := n < B64 ^ 10000

theorem ten8000 : powT 10 8000 < B64 ^ 10000 := by decide +kernel
theorem Sm.of {n k : Nat} (h : n < 10 ^ k) (hk : k ≤ 8000) : Sm n :=
  Nat.lt_trans (Nat.lt_of_lt_of_le h (powT_ge (by omega) hk)) ten8000

theorem Nt.below {w w' : World} {v : Value} {n : Nat} (h : Nt w v n) (hb : Below w.heap.size w w') : Nt w' v n := by
  obtain ⟨o, c, xs, h1, h2, h3, h4, h5⟩ := h
  exact ⟨o, c, xs, h1, h2, h3, h4.below hb, h5⟩

theorem Nt.of {w : World} {v : Value} {n base m : Nat} {r : List Nat} (h : Own .u64 120 w base m v r) (his : Is B64 r n) (hm : m ≤ 1000000) : Nt w v n := by
  obtain ⟨o, c, rfl, h1, h2, h3⟩ := h.shape
  exact ⟨o, c, r, rfl, h1, by omega, h3, his⟩

/-- v lies from block 'base' on, if it lies anywhere. -/
def Far (base : Nat) (v : Value) : Prop := ∀ o l c, v = .slice o l c → ∀ a, o = some a → base ≤ a.block

theorem Far.of {w : World} {v : Value} {base m : Nat} {r : List Nat} (h : Own .u64 120 w base m v r) : Far base v := by
  intro o l c hv a ha
  rcases h with ⟨rfl, _⟩ | ⟨g, full, rfl, h2, _⟩
  · cases hv; cases ha
  · cases hv; cases ha; exact h2

theorem is_len {xs : List Nat} {n : Nat} (h : Is B64 xs n) (hs : Sm n) : xs.length ≤ 10000 := by
  have h3 := trimmed_small (xs := xs) (t := 10000) (by rw [h.2.2]; exact hs)
  rw [trimmed_of_top h.2.1] at h3
  exact h3

/-- A number is answered. -/
def NtPost (w : World) (n : Nat) (e : Ending) (w' : World) : Prop := ∃ v, e = .returned v ∧ Nt w' v n ∧ Below w.heap.size w w' ∧ Far w.heap.size v

theorem nt_of (x : Nat) (w : World) (hx : x < B64) : Calls Tryz.prog 86 #[.int .u64 (x : Int)] w (NtPost w x) := by
  refine (of_any x w hx).mono ?_
  rintro e w' ⟨v, r, rfl, h1, h2, h3⟩
  exact ⟨v, rfl, Nt.of h1 h2 (by omega), h3, Far.of h1⟩

theorem nt_mul (a b : Value) (x y : Nat) (w : World) (ha : Nt w a x) (hb : Nt w b y) (hx : Sm x) (hy : Sm y) : Calls Tryz.prog 88 #[a, b] w (NtPost w (x * y)) := by
  obtain ⟨o, c, xs, rfl, h1, h2, h3, h4⟩ := ha
  obtain ⟨o', c', ys, rfl, h1', h2', h3', h4'⟩ := hb
  have l1 := is_len h4 hx
  have l2 := is_len h4' hy
  refine (mul_any o o' _ c _ c' xs ys w h1 (by omega) h1' (by omega) rfl rfl h3 h3' h4.1 h4'.1).mono ?_
  rintro e w' ⟨v, r, rfl, g1, g2, g3⟩
  rw [h4.2.2, h4'.2.2] at g2
  exact ⟨v, rfl, Nt.of g1 g2 (by omega), g3, Far.of g1⟩

/-- Quotient and rest are answered. -/
def NtDiv (w : World) (q r : Nat) (e : Ending) (w' : World) : Prop := ∃ v1 v2, e = .returned (.tuple #[v1, v2, .int .i64 0]) ∧ Nt w' v1 q ∧ Nt w' v2 r ∧ Below w.heap.size w w'

theorem nt_div (a b : Value) (x y : Nat) (w : World) (ha : Nt w a x) (hb : Nt w b y) (hx : Sm x) (hy : Sm y) (h0 : y ≠ 0) : Calls Tryz.prog 81 #[a, b] w (NtDiv w (x / y) (x % y)) := by
  obtain ⟨o, c, xs, rfl, h1, h2, h3, h4⟩ := ha
  obtain ⟨o', c', ys, rfl, h1', h2', h3', h4'⟩ := hb
  have l1 := is_len h4 hx
  have l2 := is_len h4' hy
  refine (divmod_any o o' _ c _ c' xs ys w h1 (by omega) h1' (by omega) rfl rfl h3 h3' h4.1 h4'.1 (by rw [h4'.2.2]; exact h0)).mono ?_
  rintro e w' ⟨v1, r1, v2, r2, rfl, g1, g2, g3, g4, g5, _⟩
  rw [h4.2.2, h4'.2.2] at g3 g4
  exact ⟨v1, v2, rfl, Nt.of g1 g3 (by omega), Nt.of g2 g4 (by omega), g5⟩

/-- A difference is answered, and no error. -/
def NtErr (w : World) (n : Nat) (er : Int) (e : Ending) (w' : World) : Prop := ∃ v, e = .returned (.tuple #[v, .int .i64 er]) ∧ Nt w' v n ∧ Below w.heap.size w w' ∧ Far w.heap.size v

theorem nt_cmp (a b : Value) (x y : Nat) (z : Int) (w : World) (ha : Nt w a x) (hb : Nt w b y) (hx : Sm x) (hy : Sm y) (hz : cmpN x y = z) : Calls Tryz.prog 84 #[a, b] w fun e w' => e = .returned (.int .i64 z) ∧ Below w.heap.size w w' := by
  obtain ⟨o, c, xs, rfl, h1, h2, h3, h4⟩ := ha
  obtain ⟨o', c', ys, rfl, h1', h2', h3', h4'⟩ := hb
  have l1 := is_len h4 hx
  have l2 := is_len h4' hy
  exact cmp_num o o' _ c _ c' xs ys w (by omega) (by omega) rfl rfl h3 h3' h4.1 h4'.1 z (by rw [h4.2.2, h4'.2.2]; exact hz)

theorem nt_text (a : Value) (x : Nat) (w : World) (ha : Nt w a x) (htab : Tab w) : Calls Tryz.prog 87 #[a] w fun e w' => e = .returned (.string ⟨(Lib.decDigits x).toArray⟩) ∧ Below w.heap.size w w' := by
  obtain ⟨o, c, xs, rfl, h1, h2, h3, h4⟩ := ha
  have h := text_any o _ c xs w h1 (by omega) rfl h3 h4.1 htab
  rw [h4.2.2] at h
  exact h

theorem nt_pow10 (n : Int) (k : Nat) (w : World) (hn : n = (k : Int)) (hk : k ≤ 8192) : Calls Tryz.prog 139 #[.int .i64 n] w (NtErr w (10 ^ k) 0) := by
  subst hn
  refine (pow10_in k w hk).mono ?_
  rintro e w' ⟨v, r, rfl, g1, g2, g3⟩
  exact ⟨v, rfl, Nt.of g1 g2 (by omega), g3, Far.of g1⟩

end Go.Proofs.YtckijnlolmbdiaaGreatDoor

namespace Go.Proofs.YtckijnlolmbdiaaGreatDoor
open Go.RowKit

/-- The whole number of a sign and an amount. -/
def zv (neg : Bool) (n : Nat) : Int := if neg then -(n : Int) else (n : Int)

section
variable {w w' : World} {b : Nat} {x y : Value} {t : TypeId}
end

end Go.Proofs.YtckijnlolmbdiaaGreatDoor
