/-
  Plain mathematics: ranks, places and bytes tell how two numbers stand.
  What cmp.Or, dec's cmpAmounts and Cmp do.
  quipulaw06's less; RoundOrder where At refuses the number.
  The walk of RoundRises.
  Plain mathematics: what a rounded number is worth, and that rounding keeps the order.
  RoundRises: of two numbers the greater one is not rounded to the lesser.
  Numbers that calls answer in a region that draws its order: where they lie, and what stays.
  A variable's cells, all at once; a variable behind what was laid and called.
-/
import Derived.Test.YtcclbcnmkaobpaaGreatDoorZB1
import Derived.Lib.Small
import Derived.Test.YtcclbcnmkaobpaaGreatDoorZB9
import Derived.Deep.RegionHeld3
import Derived.Test.YtcclbcnmkaobpaaGreatDoorZB6
import Derived.Test.YtcclbcnmkaobpaaGreatDoorZB11
import Derived.Test.YtcclbcnmkaobpaaGreatDoorZB5
import Derived.Deep.DeepCutAuto
import Derived.Test.YtcclbcnmkaobpaaGreatDoorZB2
namespace Go.Proofs.YtcclbcnmkaobpaaGreatDoor

/-- The first of two that is not 0. -/
def orI (x y : Int) : Int := if x = 0 then y else x

/-- What rank answers. -/
def rankI (d : DecT) : Int := if d.cls = 2 then 3 else if d.cls = 1 then (if d.neg then -2 else 2) else if d.dig = [] then 0 else if d.neg then -1 else 1

theorem cmpI_lt {x y : Int} (h : x < y) : cmpI x y = -1 := by unfold cmpI; rw [if_pos h]
theorem cmpI_gt {x y : Int} (h : y < x) : cmpI x y = 1 := by unfold cmpI; rw [if_neg (by omega), if_pos h]
theorem cmpI_self (x : Int) : cmpI x x = 0 := by unfold cmpI; rw [if_neg (by omega), if_neg (by omega)]
theorem cI_lt {x y : Int} (h : x < y) : Lib.compareInt x y = -1 := by unfold Lib.compareInt; rw [if_pos h]
theorem cI_gt {x y : Int} (h : y < x) : Lib.compareInt x y = 1 := by unfold Lib.compareInt; rw [if_neg (by omega), if_pos (by omega)]
theorem cI_eq {x y : Int} (h : x = y) : Lib.compareInt x y = 0 := by unfold Lib.compareInt; rw [if_neg (by omega), if_neg (by omega)]

theorem fin_cmp {a b : DecT} (ha : Fin a) (hb : Fin b) : orI (Lib.compareInt ((a.dig.length : Int) + a.exp) ((b.dig.length : Int) + b.exp)) (Lib.compareBytes a.dig b.dig) = cmpI (amt a.dig a.exp : Int) (amt b.dig b.exp : Int) := by
  have far : ∀ {x y : DecT}, Fin x → Fin y → (x.dig.length : Int) + x.exp < (y.dig.length : Int) + y.exp → amt x.dig x.exp < amt y.dig y.exp := by
    intro x y hx hy h
    refine Nat.lt_of_lt_of_le hx.amt_lt (Nat.le_trans ?_ hy.amt_ge)
    have := hx.lo
    exact Nat.pow_le_pow_right (by omega) (by omega)
  rcases Int.lt_trichotomy ((a.dig.length : Int) + a.exp) ((b.dig.length : Int) + b.exp) with h | h | h
  · have := far ha hb h
    rw [cI_lt h, cmpI_lt (by omega)]; rfl
  · rw [cI_eq h, show orI 0 (Lib.compareBytes a.dig b.dig) = Lib.compareBytes a.dig b.dig from rfl]
    rw [cmp_bytes a.dig b.dig 1000 ha.dig hb.dig (fun _ => ha.last) (fun _ => hb.last) ha.len hb.len]
    have la := ha.len
    have lb := hb.len
    have lo := ha.lo
    have ea : amt a.dig a.exp = decV a.dig * 10 ^ (1000 - a.dig.length) * 10 ^ ((a.dig.length : Int) + a.exp + 8000).toNat := by
      unfold amt
      rw [Nat.mul_assoc, ← Nat.pow_add]
      congr 2; omega
    have eb : amt b.dig b.exp = decV b.dig * 10 ^ (1000 - b.dig.length) * 10 ^ ((a.dig.length : Int) + a.exp + 8000).toNat := by
      unfold amt
      rw [Nat.mul_assoc, ← Nat.pow_add]
      congr 2; omega
    rw [ea, eb, Int.natCast_mul (decV a.dig * 10 ^ (1000 - a.dig.length)), Int.natCast_mul (decV b.dig * 10 ^ (1000 - b.dig.length)), cmpI_mul _ _ (Nat.pow_pos (by omega))]
  · have := far hb ha h
    rw [cI_gt h, cmpI_gt (by omega)]; rfl

/-- Where a Dec stands, by its rank. -/
theorem rank_w {d : DecT} (h : May d) : (rankI d = 3 ∧ wD d = (topNN : Int)) ∨ (rankI d = 2 ∧ wD d = (topN : Int)) ∨ (rankI d = -2 ∧ wD d = -(topN : Int)) ∨ (rankI d = 0 ∧ wD d = 0) ∨ (rankI d = 1 ∧ 0 < wD d ∧ wD d < (topN : Int)) ∨ (rankI d = -1 ∧ -(topN : Int) < wD d ∧ wD d < 0) := by
  rcases may_cases h with ⟨n, rfl⟩ | h | ⟨n, rfl⟩ | rfl
  · refine .inr (.inr (.inr (.inl ⟨by simp [rankI], ?_⟩)))
    simp only [wD, vD, amt, decV, List.foldl_nil, Nat.zero_mul, zD_zero]
    simp
  · have h1 := h.amt_pos
    have h2 := h.amt_top
    have hw : wD d = zD d.neg (amt d.dig d.exp) := by unfold wD vD; rw [h.cls]; simp
    cases hn : d.neg
    · rw [hn] at hw
      refine .inr (.inr (.inr (.inr (.inl ⟨by simp [rankI, h.cls, h.ne, hn], ?_⟩))))
      rw [hw]; simp only [zD]; simp; omega
    · rw [hn] at hw
      refine .inr (.inr (.inr (.inr (.inr ⟨by simp [rankI, h.cls, h.ne, hn], ?_⟩))))
      rw [hw]; simp only [zD]; simp; omega
  · cases n
    · exact .inr (.inl ⟨by simp [rankI], by simp [wD, zD]⟩)
    · exact .inr (.inr (.inl ⟨by simp [rankI], by simp [wD, zD]⟩))
  · exact .inl ⟨by simp [rankI], by simp [wD]⟩

theorem top_pos : 0 < topN := by decide +kernel

theorem rank_lt {a b : DecT} (ha : May a) (hb : May b) (h : rankI a < rankI b) : wD a < wD b := by
  have h1 := rank_w ha
  have h2 := rank_w hb
  have t1 := top_lt
  have t2 := top_pos
  generalize rankI a = ra at *
  generalize rankI b = rb at *
  generalize wD a = x at *
  generalize wD b = y at *
  generalize topN = T at *
  generalize topNN = U at *
  omega

theorem rank_cmp {a b : DecT} (ha : May a) (hb : May b) (h : Lib.compareInt (rankI a) (rankI b) ≠ 0) : Lib.compareInt (rankI a) (rankI b) = cmpI (wD a) (wD b) := by
  rcases Int.lt_trichotomy (rankI a) (rankI b) with e | e | e
  · rw [cI_lt e, cmpI_lt (rank_lt ha hb e)]
  · exact absurd (cI_eq e) h
  · rw [cI_gt e, cmpI_gt (rank_lt hb ha e)]

theorem rank_same {a b : DecT} (h : Lib.compareInt (rankI a) (rankI b) = 0) : rankI a = rankI b := by
  rcases Int.lt_trichotomy (rankI a) (rankI b) with e | e | e
  · rw [cI_lt e] at h; cases h
  · exact e
  · rw [cI_gt e] at h; cases h

/-- What cmpAmounts answers. -/
def amtI (a b : DecT) : Int := orI (Lib.compareInt ((a.dig.length : Int) + a.exp) ((b.dig.length : Int) + b.exp)) (Lib.compareBytes a.dig b.dig)

theorem same_cmp {a b : DecT} (ha : May a) (hb : May b) (h : rankI a = rankI b) : (if a.neg then amtI b a else amtI a b) = cmpI (wD a) (wD b) := by
  have nil : ∀ {x : DecT}, May x → ¬ Fin x → x.dig = [] ∧ x.exp = 0 := by
    intro x hx hn
    rcases may_cases hx with ⟨n, rfl⟩ | h | ⟨n, rfl⟩ | rfl
    · exact ⟨rfl, rfl⟩
    · exact absurd h hn
    · exact ⟨rfl, rfl⟩
    · exact ⟨rfl, rfl⟩
  have fr : ∀ {x : DecT}, Fin x → rankI x = if x.neg then -1 else 1 := by
    intro x hx; simp [rankI, hx.cls, hx.ne]
  have nr : ∀ {x : DecT}, May x → ¬ Fin x → rankI x ≠ 1 ∧ rankI x ≠ -1 := by
    intro x hx hn
    rcases may_cases hx with ⟨n, rfl⟩ | h | ⟨n, rfl⟩ | rfl
    · simp [rankI]
    · exact absurd h hn
    · cases n <;> simp [rankI]
    · simp [rankI]
  by_cases fa : Fin a
  · by_cases fb : Fin b
    · rw [fr fa, fr fb] at h
      have wa : wD a = zD a.neg (amt a.dig a.exp) := by unfold wD vD; rw [fa.cls]; simp
      have wb : wD b = zD b.neg (amt b.dig b.exp) := by unfold wD vD; rw [fb.cls]; simp
      cases hn : a.neg <;> cases hm : b.neg <;> rw [hn, hm] at h
      · rw [wa, wb, hn, hm]
        exact fin_cmp fa fb
      · simp at h
      · simp at h
      · rw [wa, wb, hn, hm]
        simp only [if_true, zD]
        rw [cmpI_neg]
        exact fin_cmp fb fa
    · have h1 := nr hb fb
      rw [fr fa] at h
      cases hn : a.neg <;> rw [hn] at h <;> simp at h <;> omega
  · by_cases fb : Fin b
    · have h1 := nr ha fa
      rw [fr fb] at h
      cases hn : b.neg <;> rw [hn] at h <;> simp at h <;> omega
    · obtain ⟨e1, e2⟩ := nil ha fa
      obtain ⟨e3, e4⟩ := nil hb fb
      have hw : wD a = wD b := by
        have h1 := rank_w ha
        have h2 := rank_w hb
        have h3 := nr ha fa
        have h4 := nr hb fb
        generalize rankI a = ra at *
        generalize rankI b = rb at *
        omega
      rw [hw, cmpI_self]
      unfold amtI
      rw [e1, e2, e3, e4]
      simp [orI, Lib.compareInt, Lib.compareBytes]

end Go.Proofs.YtcclbcnmkaobpaaGreatDoor

namespace Go.Proofs.YtcclbcnmkaobpaaGreatDoor
open Go.RowKit

set_option maxHeartbeats 1000000 in
theorem or_any (b : Nat) (x y : Int) (w : World) (h0 : w.cell? ⟨b, 0, none⟩ = some (.int .i64 x)) (h1 : w.cell? ⟨b, 1, none⟩ = some (.int .i64 y)) :
    Calls Tryz.prog 69 #[.slice (some ⟨b, 0, none⟩) 2 2] w fun e w' => e = .returned (.int .i64 (orI x y)) ∧ w = w' := by
  go_enter Tryz.func69, Tryz.ntmps69
  go_wp2
  go_loopw [8] (fun i wr => wr = w ∧ (i = .int .i64 0 ∨ (i = .int .i64 1 ∧ x = 0) ∨ (i = .int .i64 2 ∧ x = 0 ∧ y = 0))) (fun i _ => 2 - (intOf i).toNat)
  case atStart => exact ⟨rfl, .inl rfl⟩
  case round =>
    obtain ⟨rfl, rfl | ⟨rfl, rfl⟩ | ⟨rfl, rfl, rfl⟩⟩ := hrel
    · by_cases hx : x = 0
      · subst hx
        go_wp2
        exact ⟨by simp, by simp [intOf]⟩
      · have hx' : (x != 0) = true := by simpa using hx
        have HR : Hid (orI x y = x) := if_neg hx
        go_wp2
        go_ret
        exact ⟨by rw [HR.out]; rfl, rfl⟩
    · by_cases hy : y = 0
      · subst hy
        go_wp2
        exact ⟨by simp, by simp [intOf]⟩
      · have hy' : (y != 0) = true := by simpa using hy
        go_wp2
        go_ret
        exact ⟨rfl, rfl⟩
    · go_wp2
      go_ret
      exact ⟨rfl, rfl⟩

theorem or_alloc (X : World) (x y : Int) (T : TypeId) : Calls Tryz.prog 69 #[.slice (some ⟨X.heap.size, 0, none⟩) 2 2] (X.alloc (.cells #[.int .i64 x, .int .i64 y] T)) fun e w' => e = .returned (.int .i64 (orI x y)) ∧ Below X.heap.size X w' := by
  have b := Blk.new X #[.int .i64 x, .int .i64 y] T
  refine (or_any X.heap.size x y _ (b.cell 0) (b.cell 1)).mono ?_
  rintro e w' ⟨rfl, rfl⟩
  exact ⟨rfl, (Below.refl _ _).alloc (Nat.le_refl _) _⟩

set_option maxRecDepth 100000 in
set_option maxHeartbeats 2000000 in
theorem cmpA_any (ca : Int) (na : Bool) (ta : ByteArray) (ea : Int) (cb : Int) (nb : Bool) (tb : ByteArray) (eb : Int) (w : World) (a1 : ta.size ≤ 10000) (a2 : -10000 ≤ ea) (a3 : ea ≤ 10000) (b1 : tb.size ≤ 10000) (b2 : -10000 ≤ eb) (b3 : eb ≤ 10000) : Calls Tryz.prog 41 #[dcV ca na ta ea, dcV cb nb tb eb] w fun e w' => e = .returned (.int .i64 (orI (Lib.compareInt ((ta.size : Int) + ea) ((tb.size : Int) + eb)) (Lib.compareBytes (bys ta) (bys tb)))) ∧ Below w.heap.size w w' := by
  have PA := hide (fun W => place_any ca na ta ea W a1 a2 a3)
  have PB := hide (fun W => place_any cb nb tb eb W b1 b2 b3)
  obtain ⟨pa, hpa⟩ : ∃ p, p = (ta.size : Int) + ea := ⟨_, rfl⟩
  obtain ⟨pb, hpb⟩ : ∃ p, p = (tb.size : Int) + eb := ⟨_, rfl⟩
  rw [← hpa] at PA
  rw [← hpb] at PB
  have CI := hide (fun W => Tryz.cmp_Compare_int pa pb W)
  have CS := hide (fun W => Tryz.strings_Compare ta tb W)
  rw [← hpa, ← hpb]
  obtain ⟨x, hx⟩ : ∃ x, x = Lib.compareInt pa pb := ⟨_, rfl⟩
  obtain ⟨y, hy⟩ : ∃ y, y = Lib.compareBytes ta.data.toList tb.data.toList := ⟨_, rfl⟩
  rw [← hx] at CI
  rw [← hy] at CS
  have hy2 : Lib.compareBytes (bys ta) (bys tb) = y := hy.symm
  rw [hy2, ← hx]
  clear hpa hpb hx hy hy2 a1 a2 a3 b1 b2 b3
  have Ba0 := hide ((Blk.newAt w (w.heap.size) (rfl) #[.int .i64 ca, .bool na, .string ta, .int .i64 ea] 23).alloc (.cells #[.int .i64 cb, .bool nb, .string tb, .int .i64 eb] 23))
  have Bb0 := hide (Blk.newAt (w.alloc (.cells #[.int .i64 ca, .bool na, .string ta, .int .i64 ea] 23)) (w.heap.size + 1) (by simp) #[.int .i64 cb, .bool nb, .string tb, .int .i64 eb] 23)
  have HB0 : Hid (Below w.heap.size w ((w.alloc (.cells #[.int .i64 ca, .bool na, .string ta, .int .i64 ea] 23)).alloc (.cells #[.int .i64 cb, .bool nb, .string tb, .int .i64 eb] 23))) := (((Below.refl _ _).alloc (Nat.le_refl _) _).alloc (by simp <;> omega) _)
  obtain ⟨W, hW⟩ : ∃ W, W = ((w.alloc (.cells #[.int .i64 ca, .bool na, .string ta, .int .i64 ea] 23)).alloc (.cells #[.int .i64 cb, .bool nb, .string tb, .int .i64 eb] 23)) := ⟨_, rfl⟩
  rw [← hW] at HB0 Ba0 Bb0 
  have HW := hide hW
  clear hW
  have ya0 : W.cell? ⟨w.heap.size, 0, none⟩ = some (.int .i64 ca) := Ba0.out.cell 0
  have ya1 : W.cell? ⟨w.heap.size, 1, none⟩ = some (.bool na) := Ba0.out.cell 1
  have ya2 : W.cell? ⟨w.heap.size, 2, none⟩ = some (.string ta) := Ba0.out.cell 2
  have ya3 : W.cell? ⟨w.heap.size, 3, none⟩ = some (.int .i64 ea) := Ba0.out.cell 3
  have yb0 : W.cell? ⟨w.heap.size + 1, 0, none⟩ = some (.int .i64 cb) := Bb0.out.cell 0
  have yb1 : W.cell? ⟨w.heap.size + 1, 1, none⟩ = some (.bool nb) := Bb0.out.cell 1
  have yb2 : W.cell? ⟨w.heap.size + 1, 2, none⟩ = some (.string tb) := Bb0.out.cell 2
  have yb3 : W.cell? ⟨w.heap.size + 1, 3, none⟩ = some (.int .i64 eb) := Bb0.out.cell 3
  go_enter Tryz.func41, Tryz.ntmps41
  have b0 : Hid (Below W.heap.size W W.drew) := bdrewD W
  have C0 : Hid (∀ X, Hid (Below W.heap.size W X) → Calls Tryz.prog 42 #[dcV ca na ta ea] X fun e w' => e = .returned (.int .i64 pa) ∧ Hid (Below W.heap.size W w') ∧ w'.cell? ⟨w.heap.size, 0, none⟩ = some (.int .i64 ca) ∧ w'.cell? ⟨w.heap.size, 1, none⟩ = some (.bool na) ∧ w'.cell? ⟨w.heap.size, 2, none⟩ = some (.string ta) ∧ w'.cell? ⟨w.heap.size, 3, none⟩ = some (.int .i64 ea) ∧ w'.cell? ⟨w.heap.size + 1, 0, none⟩ = some (.int .i64 cb) ∧ w'.cell? ⟨w.heap.size + 1, 1, none⟩ = some (.bool nb) ∧ w'.cell? ⟨w.heap.size + 1, 2, none⟩ = some (.string tb) ∧ w'.cell? ⟨w.heap.size + 1, 3, none⟩ = some (.int .i64 eb)) := by
    intro X bX
    refine (PA.out X).mono ?_
    rintro e w' ⟨rfl, hb⟩
    have bb := bX.out.trans (hb.mono bX.out.size)
    have Baq := Ba0.out.below bb Ba0.out.lt
    have Bbq := Bb0.out.below bb Bb0.out.lt
    exact ⟨rfl, bb, Baq.cell 0, Baq.cell 1, Baq.cell 2, Baq.cell 3, Bbq.cell 0, Bbq.cell 1, Bbq.cell 2, Bbq.cell 3⟩
  have C1 : Hid (∀ X, Hid (Below W.heap.size W X) → Calls Tryz.prog 42 #[dcV cb nb tb eb] X fun e w' => e = .returned (.int .i64 pb) ∧ Hid (Below W.heap.size W w') ∧ w'.cell? ⟨w.heap.size, 0, none⟩ = some (.int .i64 ca) ∧ w'.cell? ⟨w.heap.size, 1, none⟩ = some (.bool na) ∧ w'.cell? ⟨w.heap.size, 2, none⟩ = some (.string ta) ∧ w'.cell? ⟨w.heap.size, 3, none⟩ = some (.int .i64 ea) ∧ w'.cell? ⟨w.heap.size + 1, 0, none⟩ = some (.int .i64 cb) ∧ w'.cell? ⟨w.heap.size + 1, 1, none⟩ = some (.bool nb) ∧ w'.cell? ⟨w.heap.size + 1, 2, none⟩ = some (.string tb) ∧ w'.cell? ⟨w.heap.size + 1, 3, none⟩ = some (.int .i64 eb)) := by
    intro X bX
    refine (PB.out X).mono ?_
    rintro e w' ⟨rfl, hb⟩
    have bb := bX.out.trans (hb.mono bX.out.size)
    have Baq := Ba0.out.below bb Ba0.out.lt
    have Bbq := Bb0.out.below bb Bb0.out.lt
    exact ⟨rfl, bb, Baq.cell 0, Baq.cell 1, Baq.cell 2, Baq.cell 3, Bbq.cell 0, Bbq.cell 1, Bbq.cell 2, Bbq.cell 3⟩
  have C2 : Hid (∀ X, Hid (Below W.heap.size W X) → Calls Tryz.prog 39 #[.int .i64 pa, .int .i64 pb] X fun e w' => e = .returned (.int .i64 x) ∧ Hid (Below W.heap.size W w') ∧ w'.cell? ⟨w.heap.size, 0, none⟩ = some (.int .i64 ca) ∧ w'.cell? ⟨w.heap.size, 1, none⟩ = some (.bool na) ∧ w'.cell? ⟨w.heap.size, 2, none⟩ = some (.string ta) ∧ w'.cell? ⟨w.heap.size, 3, none⟩ = some (.int .i64 ea) ∧ w'.cell? ⟨w.heap.size + 1, 0, none⟩ = some (.int .i64 cb) ∧ w'.cell? ⟨w.heap.size + 1, 1, none⟩ = some (.bool nb) ∧ w'.cell? ⟨w.heap.size + 1, 2, none⟩ = some (.string tb) ∧ w'.cell? ⟨w.heap.size + 1, 3, none⟩ = some (.int .i64 eb)) := by
    intro X bX
    refine (Calls.mono (CI.out X) (fun e w' h => (⟨h.1, h.2 ▸ Below.refl _ _⟩ : _ ∧ Below X.heap.size X w'))).mono ?_
    rintro e w' ⟨rfl, hb⟩
    have bb := bX.out.trans (hb.mono bX.out.size)
    have Baq := Ba0.out.below bb Ba0.out.lt
    have Bbq := Bb0.out.below bb Bb0.out.lt
    exact ⟨rfl, bb, Baq.cell 0, Baq.cell 1, Baq.cell 2, Baq.cell 3, Bbq.cell 0, Bbq.cell 1, Bbq.cell 2, Bbq.cell 3⟩
  have C3 : Hid (∀ X, Hid (Below W.heap.size W X) → Calls Tryz.prog 70 #[.string ta, .string tb] X fun e w' => e = .returned (.int .i64 y) ∧ Hid (Below W.heap.size W w') ∧ w'.cell? ⟨w.heap.size, 0, none⟩ = some (.int .i64 ca) ∧ w'.cell? ⟨w.heap.size, 1, none⟩ = some (.bool na) ∧ w'.cell? ⟨w.heap.size, 2, none⟩ = some (.string ta) ∧ w'.cell? ⟨w.heap.size, 3, none⟩ = some (.int .i64 ea) ∧ w'.cell? ⟨w.heap.size + 1, 0, none⟩ = some (.int .i64 cb) ∧ w'.cell? ⟨w.heap.size + 1, 1, none⟩ = some (.bool nb) ∧ w'.cell? ⟨w.heap.size + 1, 2, none⟩ = some (.string tb) ∧ w'.cell? ⟨w.heap.size + 1, 3, none⟩ = some (.int .i64 eb)) := by
    intro X bX
    refine (Calls.mono (CS.out X) (fun e w' h => (⟨h.1, h.2 ▸ Below.refl _ _⟩ : _ ∧ Below X.heap.size X w'))).mono ?_
    rintro e w' ⟨rfl, hb⟩
    have bb := bX.out.trans (hb.mono bX.out.size)
    have Baq := Ba0.out.below bb Ba0.out.lt
    have Bbq := Bb0.out.below bb Bb0.out.lt
    exact ⟨rfl, bb, Baq.cell 0, Baq.cell 1, Baq.cell 2, Baq.cell 3, Bbq.cell 0, Bbq.cell 1, Bbq.cell 2, Bbq.cell 3⟩
  have C4 : Hid (∀ X T, Hid (Below W.heap.size W X) → Calls Tryz.prog 69 #[.slice (some ⟨X.heap.size, 0, none⟩) 2 2] (X.alloc (.cells #[.int .i64 x, .int .i64 y] T)) fun e w' => e = .returned (.int .i64 (orI x y)) ∧ Hid (Below W.heap.size W w') ∧ w'.cell? ⟨w.heap.size, 0, none⟩ = some (.int .i64 ca) ∧ w'.cell? ⟨w.heap.size, 1, none⟩ = some (.bool na) ∧ w'.cell? ⟨w.heap.size, 2, none⟩ = some (.string ta) ∧ w'.cell? ⟨w.heap.size, 3, none⟩ = some (.int .i64 ea) ∧ w'.cell? ⟨w.heap.size + 1, 0, none⟩ = some (.int .i64 cb) ∧ w'.cell? ⟨w.heap.size + 1, 1, none⟩ = some (.bool nb) ∧ w'.cell? ⟨w.heap.size + 1, 2, none⟩ = some (.string tb) ∧ w'.cell? ⟨w.heap.size + 1, 3, none⟩ = some (.int .i64 eb)) := by
    intro X T bX
    refine (or_alloc X x y T).mono ?_
    rintro e w' ⟨rfl, hb⟩
    have bb := bX.out.trans (hb.mono bX.out.size)
    have Baq := Ba0.out.below bb Ba0.out.lt
    have Bbq := Bb0.out.below bb Bb0.out.lt
    exact ⟨rfl, bb, Baq.cell 0, Baq.cell 1, Baq.cell 2, Baq.cell 3, Bbq.cell 0, Bbq.cell 1, Bbq.cell 2, Bbq.cell 3⟩
  go_wp2_with fail
  simp only [← HW.out]
  have mk0 : True := trivial
  go_region_held3 (fun w' => w'.cell? ⟨w.heap.size, 0, none⟩ = some (.int .i64 ca) ∧ w'.cell? ⟨w.heap.size, 1, none⟩ = some (.bool na) ∧ w'.cell? ⟨w.heap.size, 2, none⟩ = some (.string ta) ∧ w'.cell? ⟨w.heap.size, 3, none⟩ = some (.int .i64 ea) ∧ w'.cell? ⟨w.heap.size + 1, 0, none⟩ = some (.int .i64 cb) ∧ w'.cell? ⟨w.heap.size + 1, 1, none⟩ = some (.bool nb) ∧ w'.cell? ⟨w.heap.size + 1, 2, none⟩ = some (.string tb) ∧ w'.cell? ⟨w.heap.size + 1, 3, none⟩ = some (.int .i64 eb)) (go_keep) (first
    | (clear mk0; go_at_call 42; refine (C0.out _ b0).mono ?_; rintro e w1 ⟨rfl, b1, q0_0, q0_1, q0_2, q0_3, q0_4, q0_5, q0_6, q0_7⟩; have mk1 : True := trivial)
    | (clear mk1; go_at_call 42; refine (C1.out _ b1).mono ?_; rintro e w2 ⟨rfl, b2, q1_0, q1_1, q1_2, q1_3, q1_4, q1_5, q1_6, q1_7⟩; have mk2 : True := trivial)
    | (clear mk2; go_at_call 39; refine (C2.out _ b2).mono ?_; rintro e w3 ⟨rfl, b3, q2_0, q2_1, q2_2, q2_3, q2_4, q2_5, q2_6, q2_7⟩; have mk3 : True := trivial)
    | (clear mk3; go_at_call 70; refine (C3.out _ b3).mono ?_; rintro e w4 ⟨rfl, b4, q3_0, q3_1, q3_2, q3_3, q3_4, q3_5, q3_6, q3_7⟩; have mk4 : True := trivial)
    | (clear mk4; go_at_call 69; refine (C4.out _ _ b4).mono ?_; rintro e w5 ⟨rfl, b5, q4_0, q4_1, q4_2, q4_3, q4_4, q4_5, q4_6, q4_7⟩; have mk5 : True := trivial))
  have FIN := hide (HB0.out.trans (b5.out.mono HB0.out.size))
  clear b5
  go_wp2
  go_ret
  exact ⟨rfl, FIN.out⟩

theorem rank_d (d : DecT) (w : World) (h : May d) : Calls Tryz.prog 40 #[decVal d] w fun e w' => e = .returned (.int .i64 (rankI d)) ∧ Below w.heap.size w w' := by
  rcases may_cases h with ⟨n, rfl⟩ | h | ⟨n, rfl⟩ | rfl
  · cases n
    · exact rank_zero_false w
    · exact rank_zero_true w
  · have h1 : (⟨d.dig.toArray⟩ : ByteArray).size ≠ 0 := by rw [size_mk0]; exact fun e => h.ne (List.length_eq_zero_iff.1 e)
    obtain ⟨c, n, l, e⟩ := d
    have hc := h.cls
    have hn := h.ne
    simp only at hc hn h1
    subst hc
    cases n
    · have g := rank_fin_false ⟨l.toArray⟩ e h1 w
      have e1 : rankI ⟨0, false, l, e⟩ = 1 := by simp [rankI, hn]
      rw [e1]; exact g
    · have g := rank_fin_true ⟨l.toArray⟩ e h1 w
      have e1 : rankI ⟨0, true, l, e⟩ = -1 := by simp [rankI, hn]
      rw [e1]; exact g
  · cases n
    · exact rank_inf_false w
    · exact rank_inf_true w
  · exact rank_nan w

set_option maxRecDepth 100000 in
set_option maxHeartbeats 2000000 in
theorem Cmp_rank (ca : Int) (na : Bool) (ta : ByteArray) (ea : Int) (cb : Int) (nb : Bool) (tb : ByteArray) (eb : Int) (w : World) (ra rb : Int) (ha : MayD ca na (bys ta) ea) (hb0 : MayD cb nb (bys tb) eb) (hra : ∀ W, Calls Tryz.prog 40 #[dcV ca na ta ea] W fun e w' => e = .returned (.int .i64 ra) ∧ Below W.heap.size W w') (hrb : ∀ W, Calls Tryz.prog 40 #[dcV cb nb tb eb] W fun e w' => e = .returned (.int .i64 rb) ∧ Below W.heap.size W w') (h : Lib.compareInt ra rb ≠ 0) : Calls Tryz.prog 21 #[dcV ca na ta ea, dcV cb nb tb eb] w fun e w' => e = .returned (.tuple #[.int .i64 (Lib.compareInt ra rb), .int .i64 0]) ∧ Below w.heap.size w w' := by
  have MA := hide (fun W => dmay_yes ca na ta ea W ha)
  have MB := hide (fun W => dmay_yes cb nb tb eb W hb0)
  have RA := hide hra
  have RB := hide hrb
  have CI := hide (fun W => Tryz.cmp_Compare_int ra rb W)
  obtain ⟨o, ho⟩ : ∃ o, o = Lib.compareInt ra rb := ⟨_, rfl⟩
  rw [← ho] at CI h ⊢
  have h' : (o != 0) = true := by simpa using h
  clear ha hb0 hra hrb ho h
  have Ba0 := hide ((Blk.newAt w (w.heap.size) (rfl) #[.int .i64 ca, .bool na, .string ta, .int .i64 ea] 23).alloc (.cells #[.int .i64 cb, .bool nb, .string tb, .int .i64 eb] 23))
  have Bb0 := hide (Blk.newAt (w.alloc (.cells #[.int .i64 ca, .bool na, .string ta, .int .i64 ea] 23)) (w.heap.size + 1) (by simp) #[.int .i64 cb, .bool nb, .string tb, .int .i64 eb] 23)
  have HB0 : Hid (Below w.heap.size w ((w.alloc (.cells #[.int .i64 ca, .bool na, .string ta, .int .i64 ea] 23)).alloc (.cells #[.int .i64 cb, .bool nb, .string tb, .int .i64 eb] 23))) := (((Below.refl _ _).alloc (Nat.le_refl _) _).alloc (by simp <;> omega) _)
  go_enter Tryz.func21, Tryz.ntmps21
  go_wp2_with fail
  refine (MA.out _).mono ?_
  rintro e w1 ⟨rfl, hb⟩
  have Ba1 := hide (Ba0.out.below hb Ba0.out.lt)
  have Bb1 := hide (Bb0.out.below hb Bb0.out.lt)
  have HB1 := hide (HB0.out.trans (hb.mono HB0.out.size))
  clear hb Ba0 Bb0 HB0 
  have ya0 : w1.cell? ⟨w.heap.size, 0, none⟩ = some (.int .i64 ca) := Ba1.out.cell 0
  have ya1 : w1.cell? ⟨w.heap.size, 1, none⟩ = some (.bool na) := Ba1.out.cell 1
  have ya2 : w1.cell? ⟨w.heap.size, 2, none⟩ = some (.string ta) := Ba1.out.cell 2
  have ya3 : w1.cell? ⟨w.heap.size, 3, none⟩ = some (.int .i64 ea) := Ba1.out.cell 3
  have yb0 : w1.cell? ⟨w.heap.size + 1, 0, none⟩ = some (.int .i64 cb) := Bb1.out.cell 0
  have yb1 : w1.cell? ⟨w.heap.size + 1, 1, none⟩ = some (.bool nb) := Bb1.out.cell 1
  have yb2 : w1.cell? ⟨w.heap.size + 1, 2, none⟩ = some (.string tb) := Bb1.out.cell 2
  have yb3 : w1.cell? ⟨w.heap.size + 1, 3, none⟩ = some (.int .i64 eb) := Bb1.out.cell 3
  go_wp2_with fail
  refine (MB.out _).mono ?_
  rintro e w2 ⟨rfl, hb⟩
  have Ba2 := hide (Ba1.out.below hb Ba1.out.lt)
  have Bb2 := hide (Bb1.out.below hb Bb1.out.lt)
  have HB2 := hide (HB1.out.trans (hb.mono HB1.out.size))
  clear hb Ba1 Bb1 HB1 ya0 ya1 ya2 ya3 yb0 yb1 yb2 yb3
  have ya0 : w2.cell? ⟨w.heap.size, 0, none⟩ = some (.int .i64 ca) := Ba2.out.cell 0
  have ya1 : w2.cell? ⟨w.heap.size, 1, none⟩ = some (.bool na) := Ba2.out.cell 1
  have ya2 : w2.cell? ⟨w.heap.size, 2, none⟩ = some (.string ta) := Ba2.out.cell 2
  have ya3 : w2.cell? ⟨w.heap.size, 3, none⟩ = some (.int .i64 ea) := Ba2.out.cell 3
  have yb0 : w2.cell? ⟨w.heap.size + 1, 0, none⟩ = some (.int .i64 cb) := Bb2.out.cell 0
  have yb1 : w2.cell? ⟨w.heap.size + 1, 1, none⟩ = some (.bool nb) := Bb2.out.cell 1
  have yb2 : w2.cell? ⟨w.heap.size + 1, 2, none⟩ = some (.string tb) := Bb2.out.cell 2
  have yb3 : w2.cell? ⟨w.heap.size + 1, 3, none⟩ = some (.int .i64 eb) := Bb2.out.cell 3
  have b0 : Hid (Below w2.heap.size w2 w2.drew) := bdrewD w2
  have C0 : Hid (∀ X, Hid (Below w2.heap.size w2 X) → Calls Tryz.prog 40 #[dcV ca na ta ea] X fun e w' => e = .returned (.int .i64 ra) ∧ Hid (Below w2.heap.size w2 w') ∧ w'.cell? ⟨w.heap.size, 0, none⟩ = some (.int .i64 ca) ∧ w'.cell? ⟨w.heap.size, 1, none⟩ = some (.bool na) ∧ w'.cell? ⟨w.heap.size, 2, none⟩ = some (.string ta) ∧ w'.cell? ⟨w.heap.size, 3, none⟩ = some (.int .i64 ea) ∧ w'.cell? ⟨w.heap.size + 1, 0, none⟩ = some (.int .i64 cb) ∧ w'.cell? ⟨w.heap.size + 1, 1, none⟩ = some (.bool nb) ∧ w'.cell? ⟨w.heap.size + 1, 2, none⟩ = some (.string tb) ∧ w'.cell? ⟨w.heap.size + 1, 3, none⟩ = some (.int .i64 eb)) := by
    intro X bX
    refine (RA.out X).mono ?_
    rintro e w' ⟨rfl, hb⟩
    have bb := bX.out.trans (hb.mono bX.out.size)
    have Baq := Ba2.out.below bb Ba2.out.lt
    have Bbq := Bb2.out.below bb Bb2.out.lt
    exact ⟨rfl, bb, Baq.cell 0, Baq.cell 1, Baq.cell 2, Baq.cell 3, Bbq.cell 0, Bbq.cell 1, Bbq.cell 2, Bbq.cell 3⟩
  have C1 : Hid (∀ X, Hid (Below w2.heap.size w2 X) → Calls Tryz.prog 40 #[dcV cb nb tb eb] X fun e w' => e = .returned (.int .i64 rb) ∧ Hid (Below w2.heap.size w2 w') ∧ w'.cell? ⟨w.heap.size, 0, none⟩ = some (.int .i64 ca) ∧ w'.cell? ⟨w.heap.size, 1, none⟩ = some (.bool na) ∧ w'.cell? ⟨w.heap.size, 2, none⟩ = some (.string ta) ∧ w'.cell? ⟨w.heap.size, 3, none⟩ = some (.int .i64 ea) ∧ w'.cell? ⟨w.heap.size + 1, 0, none⟩ = some (.int .i64 cb) ∧ w'.cell? ⟨w.heap.size + 1, 1, none⟩ = some (.bool nb) ∧ w'.cell? ⟨w.heap.size + 1, 2, none⟩ = some (.string tb) ∧ w'.cell? ⟨w.heap.size + 1, 3, none⟩ = some (.int .i64 eb)) := by
    intro X bX
    refine (RB.out X).mono ?_
    rintro e w' ⟨rfl, hb⟩
    have bb := bX.out.trans (hb.mono bX.out.size)
    have Baq := Ba2.out.below bb Ba2.out.lt
    have Bbq := Bb2.out.below bb Bb2.out.lt
    exact ⟨rfl, bb, Baq.cell 0, Baq.cell 1, Baq.cell 2, Baq.cell 3, Bbq.cell 0, Bbq.cell 1, Bbq.cell 2, Bbq.cell 3⟩
  have C2 : Hid (∀ X, Hid (Below w2.heap.size w2 X) → Calls Tryz.prog 39 #[.int .i64 ra, .int .i64 rb] X fun e w' => e = .returned (.int .i64 o) ∧ Hid (Below w2.heap.size w2 w') ∧ w'.cell? ⟨w.heap.size, 0, none⟩ = some (.int .i64 ca) ∧ w'.cell? ⟨w.heap.size, 1, none⟩ = some (.bool na) ∧ w'.cell? ⟨w.heap.size, 2, none⟩ = some (.string ta) ∧ w'.cell? ⟨w.heap.size, 3, none⟩ = some (.int .i64 ea) ∧ w'.cell? ⟨w.heap.size + 1, 0, none⟩ = some (.int .i64 cb) ∧ w'.cell? ⟨w.heap.size + 1, 1, none⟩ = some (.bool nb) ∧ w'.cell? ⟨w.heap.size + 1, 2, none⟩ = some (.string tb) ∧ w'.cell? ⟨w.heap.size + 1, 3, none⟩ = some (.int .i64 eb)) := by
    intro X bX
    refine (Calls.mono (CI.out X) (fun e w' h => (⟨h.1, h.2 ▸ Below.refl _ _⟩ : _ ∧ Below X.heap.size X w'))).mono ?_
    rintro e w' ⟨rfl, hb⟩
    have bb := bX.out.trans (hb.mono bX.out.size)
    have Baq := Ba2.out.below bb Ba2.out.lt
    have Bbq := Bb2.out.below bb Bb2.out.lt
    exact ⟨rfl, bb, Baq.cell 0, Baq.cell 1, Baq.cell 2, Baq.cell 3, Bbq.cell 0, Bbq.cell 1, Bbq.cell 2, Bbq.cell 3⟩
  go_wp2_with fail
  have mk0 : True := trivial
  go_region_held3 (fun w' => w'.cell? ⟨w.heap.size, 0, none⟩ = some (.int .i64 ca) ∧ w'.cell? ⟨w.heap.size, 1, none⟩ = some (.bool na) ∧ w'.cell? ⟨w.heap.size, 2, none⟩ = some (.string ta) ∧ w'.cell? ⟨w.heap.size, 3, none⟩ = some (.int .i64 ea) ∧ w'.cell? ⟨w.heap.size + 1, 0, none⟩ = some (.int .i64 cb) ∧ w'.cell? ⟨w.heap.size + 1, 1, none⟩ = some (.bool nb) ∧ w'.cell? ⟨w.heap.size + 1, 2, none⟩ = some (.string tb) ∧ w'.cell? ⟨w.heap.size + 1, 3, none⟩ = some (.int .i64 eb)) (go_keep) (first
    | (clear mk0; go_at_call 40; refine (C0.out _ b0).mono ?_; rintro e w3 ⟨rfl, b1, q0_0, q0_1, q0_2, q0_3, q0_4, q0_5, q0_6, q0_7⟩; have mk1 : True := trivial)
    | (clear mk1; go_at_call 40; refine (C1.out _ b1).mono ?_; rintro e w4 ⟨rfl, b2, q1_0, q1_1, q1_2, q1_3, q1_4, q1_5, q1_6, q1_7⟩; have mk2 : True := trivial)
    | (clear mk2; go_at_call 39; refine (C2.out _ b2).mono ?_; rintro e w5 ⟨rfl, b3, q2_0, q2_1, q2_2, q2_3, q2_4, q2_5, q2_6, q2_7⟩; have mk3 : True := trivial))
  have Ba5 := hide (Ba2.out.below b3.out Ba2.out.lt)
  have Bb5 := hide (Bb2.out.below b3.out Bb2.out.lt)
  have HB5 := hide (HB2.out.trans (b3.out.mono HB2.out.size))
  clear mk3 b0 b1 b2 b3 C0 C1 C2 q0_0 q0_1 q0_2 q0_3 q0_4 q0_5 q0_6 q0_7 q1_0 q1_1 q1_2 q1_3 q1_4 q1_5 q1_6 q1_7 q2_0 q2_1 q2_2 q2_3 q2_4 q2_5 q2_6 q2_7 Ba2 Bb2 HB2 ya0 ya1 ya2 ya3 yb0 yb1 yb2 yb3
  have ya0 : w5.cell? ⟨w.heap.size, 0, none⟩ = some (.int .i64 ca) := Ba5.out.cell 0
  have ya1 : w5.cell? ⟨w.heap.size, 1, none⟩ = some (.bool na) := Ba5.out.cell 1
  have ya2 : w5.cell? ⟨w.heap.size, 2, none⟩ = some (.string ta) := Ba5.out.cell 2
  have ya3 : w5.cell? ⟨w.heap.size, 3, none⟩ = some (.int .i64 ea) := Ba5.out.cell 3
  have yb0 : w5.cell? ⟨w.heap.size + 1, 0, none⟩ = some (.int .i64 cb) := Bb5.out.cell 0
  have yb1 : w5.cell? ⟨w.heap.size + 1, 1, none⟩ = some (.bool nb) := Bb5.out.cell 1
  have yb2 : w5.cell? ⟨w.heap.size + 1, 2, none⟩ = some (.string tb) := Bb5.out.cell 2
  have yb3 : w5.cell? ⟨w.heap.size + 1, 3, none⟩ = some (.int .i64 eb) := Bb5.out.cell 3
  go_wp2
  go_ret2
  exact ⟨rfl, HB5.out⟩

set_option maxRecDepth 100000 in
set_option maxHeartbeats 2000000 in
theorem Cmp_false (ca : Int) (ta : ByteArray) (ea : Int) (cb : Int) (nb : Bool) (tb : ByteArray) (eb : Int) (w : World) (ra rb : Int) (ha : MayD ca false (bys ta) ea) (hb0 : MayD cb nb (bys tb) eb) (hra : ∀ W, Calls Tryz.prog 40 #[dcV ca false ta ea] W fun e w' => e = .returned (.int .i64 ra) ∧ Below W.heap.size W w') (hrb : ∀ W, Calls Tryz.prog 40 #[dcV cb nb tb eb] W fun e w' => e = .returned (.int .i64 rb) ∧ Below W.heap.size W w') (h : Lib.compareInt ra rb = 0) : Calls Tryz.prog 21 #[dcV ca false ta ea, dcV cb nb tb eb] w fun e w' => e = .returned (.tuple #[.int .i64 (orI (Lib.compareInt ((ta.size : Int) + ea) ((tb.size : Int) + eb)) (Lib.compareBytes (bys ta) (bys tb))), .int .i64 0]) ∧ Below w.heap.size w w' := by
  have MA := hide (fun W => dmay_yes ca false ta ea W ha)
  have MB := hide (fun W => dmay_yes cb nb tb eb W hb0)
  have RA := hide hra
  have RB := hide hrb
  have CI := hide (fun W => Tryz.cmp_Compare_int ra rb W)
  rw [h] at CI
  obtain ⟨o, ho⟩ : ∃ o : Int, o = 0 := ⟨_, rfl⟩
  obtain ⟨a1, a2, a3⟩ := may_bounds ha
  obtain ⟨b1, b2, b3⟩ := may_bounds hb0
  have CA := hide (fun W => cmpA_any ca false ta ea cb nb tb eb W a1 a2 a3 b1 b2 b3)
  obtain ⟨v, hv⟩ : ∃ v, v = orI (Lib.compareInt ((ta.size : Int) + ea) ((tb.size : Int) + eb)) (Lib.compareBytes (bys ta) (bys tb)) := ⟨_, rfl⟩
  rw [← hv] at CA ⊢
  clear ha hb0 hra hrb h hv ho a1 a2 a3 b1 b2 b3
  have Ba0 := hide ((Blk.newAt w (w.heap.size) (rfl) #[.int .i64 ca, .bool false, .string ta, .int .i64 ea] 23).alloc (.cells #[.int .i64 cb, .bool nb, .string tb, .int .i64 eb] 23))
  have Bb0 := hide (Blk.newAt (w.alloc (.cells #[.int .i64 ca, .bool false, .string ta, .int .i64 ea] 23)) (w.heap.size + 1) (by simp) #[.int .i64 cb, .bool nb, .string tb, .int .i64 eb] 23)
  have HB0 : Hid (Below w.heap.size w ((w.alloc (.cells #[.int .i64 ca, .bool false, .string ta, .int .i64 ea] 23)).alloc (.cells #[.int .i64 cb, .bool nb, .string tb, .int .i64 eb] 23))) := (((Below.refl _ _).alloc (Nat.le_refl _) _).alloc (by simp <;> omega) _)
  go_enter Tryz.func21, Tryz.ntmps21
  go_wp2_with fail
  refine (MA.out _).mono ?_
  rintro e w1 ⟨rfl, hb⟩
  have Ba1 := hide (Ba0.out.below hb Ba0.out.lt)
  have Bb1 := hide (Bb0.out.below hb Bb0.out.lt)
  have HB1 := hide (HB0.out.trans (hb.mono HB0.out.size))
  clear hb Ba0 Bb0 HB0 
  have ya0 : w1.cell? ⟨w.heap.size, 0, none⟩ = some (.int .i64 ca) := Ba1.out.cell 0
  have ya1 : w1.cell? ⟨w.heap.size, 1, none⟩ = some (.bool false) := Ba1.out.cell 1
  have ya2 : w1.cell? ⟨w.heap.size, 2, none⟩ = some (.string ta) := Ba1.out.cell 2
  have ya3 : w1.cell? ⟨w.heap.size, 3, none⟩ = some (.int .i64 ea) := Ba1.out.cell 3
  have yb0 : w1.cell? ⟨w.heap.size + 1, 0, none⟩ = some (.int .i64 cb) := Bb1.out.cell 0
  have yb1 : w1.cell? ⟨w.heap.size + 1, 1, none⟩ = some (.bool nb) := Bb1.out.cell 1
  have yb2 : w1.cell? ⟨w.heap.size + 1, 2, none⟩ = some (.string tb) := Bb1.out.cell 2
  have yb3 : w1.cell? ⟨w.heap.size + 1, 3, none⟩ = some (.int .i64 eb) := Bb1.out.cell 3
  go_wp2_with fail
  refine (MB.out _).mono ?_
  rintro e w2 ⟨rfl, hb⟩
  have Ba2 := hide (Ba1.out.below hb Ba1.out.lt)
  have Bb2 := hide (Bb1.out.below hb Bb1.out.lt)
  have HB2 := hide (HB1.out.trans (hb.mono HB1.out.size))
  clear hb Ba1 Bb1 HB1 ya0 ya1 ya2 ya3 yb0 yb1 yb2 yb3
  have ya0 : w2.cell? ⟨w.heap.size, 0, none⟩ = some (.int .i64 ca) := Ba2.out.cell 0
  have ya1 : w2.cell? ⟨w.heap.size, 1, none⟩ = some (.bool false) := Ba2.out.cell 1
  have ya2 : w2.cell? ⟨w.heap.size, 2, none⟩ = some (.string ta) := Ba2.out.cell 2
  have ya3 : w2.cell? ⟨w.heap.size, 3, none⟩ = some (.int .i64 ea) := Ba2.out.cell 3
  have yb0 : w2.cell? ⟨w.heap.size + 1, 0, none⟩ = some (.int .i64 cb) := Bb2.out.cell 0
  have yb1 : w2.cell? ⟨w.heap.size + 1, 1, none⟩ = some (.bool nb) := Bb2.out.cell 1
  have yb2 : w2.cell? ⟨w.heap.size + 1, 2, none⟩ = some (.string tb) := Bb2.out.cell 2
  have yb3 : w2.cell? ⟨w.heap.size + 1, 3, none⟩ = some (.int .i64 eb) := Bb2.out.cell 3
  have b0 : Hid (Below w2.heap.size w2 w2.drew) := bdrewD w2
  have C0 : Hid (∀ X, Hid (Below w2.heap.size w2 X) → Calls Tryz.prog 40 #[dcV ca false ta ea] X fun e w' => e = .returned (.int .i64 ra) ∧ Hid (Below w2.heap.size w2 w') ∧ w'.cell? ⟨w.heap.size, 0, none⟩ = some (.int .i64 ca) ∧ w'.cell? ⟨w.heap.size, 1, none⟩ = some (.bool false) ∧ w'.cell? ⟨w.heap.size, 2, none⟩ = some (.string ta) ∧ w'.cell? ⟨w.heap.size, 3, none⟩ = some (.int .i64 ea) ∧ w'.cell? ⟨w.heap.size + 1, 0, none⟩ = some (.int .i64 cb) ∧ w'.cell? ⟨w.heap.size + 1, 1, none⟩ = some (.bool nb) ∧ w'.cell? ⟨w.heap.size + 1, 2, none⟩ = some (.string tb) ∧ w'.cell? ⟨w.heap.size + 1, 3, none⟩ = some (.int .i64 eb)) := by
    intro X bX
    refine (RA.out X).mono ?_
    rintro e w' ⟨rfl, hb⟩
    have bb := bX.out.trans (hb.mono bX.out.size)
    have Baq := Ba2.out.below bb Ba2.out.lt
    have Bbq := Bb2.out.below bb Bb2.out.lt
    exact ⟨rfl, bb, Baq.cell 0, Baq.cell 1, Baq.cell 2, Baq.cell 3, Bbq.cell 0, Bbq.cell 1, Bbq.cell 2, Bbq.cell 3⟩
  have C1 : Hid (∀ X, Hid (Below w2.heap.size w2 X) → Calls Tryz.prog 40 #[dcV cb nb tb eb] X fun e w' => e = .returned (.int .i64 rb) ∧ Hid (Below w2.heap.size w2 w') ∧ w'.cell? ⟨w.heap.size, 0, none⟩ = some (.int .i64 ca) ∧ w'.cell? ⟨w.heap.size, 1, none⟩ = some (.bool false) ∧ w'.cell? ⟨w.heap.size, 2, none⟩ = some (.string ta) ∧ w'.cell? ⟨w.heap.size, 3, none⟩ = some (.int .i64 ea) ∧ w'.cell? ⟨w.heap.size + 1, 0, none⟩ = some (.int .i64 cb) ∧ w'.cell? ⟨w.heap.size + 1, 1, none⟩ = some (.bool nb) ∧ w'.cell? ⟨w.heap.size + 1, 2, none⟩ = some (.string tb) ∧ w'.cell? ⟨w.heap.size + 1, 3, none⟩ = some (.int .i64 eb)) := by
    intro X bX
    refine (RB.out X).mono ?_
    rintro e w' ⟨rfl, hb⟩
    have bb := bX.out.trans (hb.mono bX.out.size)
    have Baq := Ba2.out.below bb Ba2.out.lt
    have Bbq := Bb2.out.below bb Bb2.out.lt
    exact ⟨rfl, bb, Baq.cell 0, Baq.cell 1, Baq.cell 2, Baq.cell 3, Bbq.cell 0, Bbq.cell 1, Bbq.cell 2, Bbq.cell 3⟩
  have C2 : Hid (∀ X, Hid (Below w2.heap.size w2 X) → Calls Tryz.prog 39 #[.int .i64 ra, .int .i64 rb] X fun e w' => e = .returned (.int .i64 0) ∧ Hid (Below w2.heap.size w2 w') ∧ w'.cell? ⟨w.heap.size, 0, none⟩ = some (.int .i64 ca) ∧ w'.cell? ⟨w.heap.size, 1, none⟩ = some (.bool false) ∧ w'.cell? ⟨w.heap.size, 2, none⟩ = some (.string ta) ∧ w'.cell? ⟨w.heap.size, 3, none⟩ = some (.int .i64 ea) ∧ w'.cell? ⟨w.heap.size + 1, 0, none⟩ = some (.int .i64 cb) ∧ w'.cell? ⟨w.heap.size + 1, 1, none⟩ = some (.bool nb) ∧ w'.cell? ⟨w.heap.size + 1, 2, none⟩ = some (.string tb) ∧ w'.cell? ⟨w.heap.size + 1, 3, none⟩ = some (.int .i64 eb)) := by
    intro X bX
    refine (Calls.mono (CI.out X) (fun e w' h => (⟨h.1, h.2 ▸ Below.refl _ _⟩ : _ ∧ Below X.heap.size X w'))).mono ?_
    rintro e w' ⟨rfl, hb⟩
    have bb := bX.out.trans (hb.mono bX.out.size)
    have Baq := Ba2.out.below bb Ba2.out.lt
    have Bbq := Bb2.out.below bb Bb2.out.lt
    exact ⟨rfl, bb, Baq.cell 0, Baq.cell 1, Baq.cell 2, Baq.cell 3, Bbq.cell 0, Bbq.cell 1, Bbq.cell 2, Bbq.cell 3⟩
  go_wp2_with fail
  have mk0 : True := trivial
  go_region_held3 (fun w' => w'.cell? ⟨w.heap.size, 0, none⟩ = some (.int .i64 ca) ∧ w'.cell? ⟨w.heap.size, 1, none⟩ = some (.bool false) ∧ w'.cell? ⟨w.heap.size, 2, none⟩ = some (.string ta) ∧ w'.cell? ⟨w.heap.size, 3, none⟩ = some (.int .i64 ea) ∧ w'.cell? ⟨w.heap.size + 1, 0, none⟩ = some (.int .i64 cb) ∧ w'.cell? ⟨w.heap.size + 1, 1, none⟩ = some (.bool nb) ∧ w'.cell? ⟨w.heap.size + 1, 2, none⟩ = some (.string tb) ∧ w'.cell? ⟨w.heap.size + 1, 3, none⟩ = some (.int .i64 eb)) (go_keep) (first
    | (clear mk0; go_at_call 40; refine (C0.out _ b0).mono ?_; rintro e w3 ⟨rfl, b1, q0_0, q0_1, q0_2, q0_3, q0_4, q0_5, q0_6, q0_7⟩; have mk1 : True := trivial)
    | (clear mk1; go_at_call 40; refine (C1.out _ b1).mono ?_; rintro e w4 ⟨rfl, b2, q1_0, q1_1, q1_2, q1_3, q1_4, q1_5, q1_6, q1_7⟩; have mk2 : True := trivial)
    | (clear mk2; go_at_call 39; refine (C2.out _ b2).mono ?_; rintro e w5 ⟨rfl, b3, q2_0, q2_1, q2_2, q2_3, q2_4, q2_5, q2_6, q2_7⟩; have mk3 : True := trivial))
  have Ba5 := hide (Ba2.out.below b3.out Ba2.out.lt)
  have Bb5 := hide (Bb2.out.below b3.out Bb2.out.lt)
  have HB5 := hide (HB2.out.trans (b3.out.mono HB2.out.size))
  clear mk3 b0 b1 b2 b3 C0 C1 C2 q0_0 q0_1 q0_2 q0_3 q0_4 q0_5 q0_6 q0_7 q1_0 q1_1 q1_2 q1_3 q1_4 q1_5 q1_6 q1_7 q2_0 q2_1 q2_2 q2_3 q2_4 q2_5 q2_6 q2_7 Ba2 Bb2 HB2 ya0 ya1 ya2 ya3 yb0 yb1 yb2 yb3
  have ya0 : w5.cell? ⟨w.heap.size, 0, none⟩ = some (.int .i64 ca) := Ba5.out.cell 0
  have ya1 : w5.cell? ⟨w.heap.size, 1, none⟩ = some (.bool false) := Ba5.out.cell 1
  have ya2 : w5.cell? ⟨w.heap.size, 2, none⟩ = some (.string ta) := Ba5.out.cell 2
  have ya3 : w5.cell? ⟨w.heap.size, 3, none⟩ = some (.int .i64 ea) := Ba5.out.cell 3
  have yb0 : w5.cell? ⟨w.heap.size + 1, 0, none⟩ = some (.int .i64 cb) := Bb5.out.cell 0
  have yb1 : w5.cell? ⟨w.heap.size + 1, 1, none⟩ = some (.bool nb) := Bb5.out.cell 1
  have yb2 : w5.cell? ⟨w.heap.size + 1, 2, none⟩ = some (.string tb) := Bb5.out.cell 2
  have yb3 : w5.cell? ⟨w.heap.size + 1, 3, none⟩ = some (.int .i64 eb) := Bb5.out.cell 3
  go_wp2_with fail
  refine (CA.out _).mono ?_
  rintro e w6 ⟨rfl, hb⟩
  have Ba6 := hide (Ba5.out.below hb Ba5.out.lt)
  have Bb6 := hide (Bb5.out.below hb Bb5.out.lt)
  have HB6 := hide (HB5.out.trans (hb.mono HB5.out.size))
  clear hb Ba5 Bb5 HB5 ya0 ya1 ya2 ya3 yb0 yb1 yb2 yb3
  have ya0 : w6.cell? ⟨w.heap.size, 0, none⟩ = some (.int .i64 ca) := Ba6.out.cell 0
  have ya1 : w6.cell? ⟨w.heap.size, 1, none⟩ = some (.bool false) := Ba6.out.cell 1
  have ya2 : w6.cell? ⟨w.heap.size, 2, none⟩ = some (.string ta) := Ba6.out.cell 2
  have ya3 : w6.cell? ⟨w.heap.size, 3, none⟩ = some (.int .i64 ea) := Ba6.out.cell 3
  have yb0 : w6.cell? ⟨w.heap.size + 1, 0, none⟩ = some (.int .i64 cb) := Bb6.out.cell 0
  have yb1 : w6.cell? ⟨w.heap.size + 1, 1, none⟩ = some (.bool nb) := Bb6.out.cell 1
  have yb2 : w6.cell? ⟨w.heap.size + 1, 2, none⟩ = some (.string tb) := Bb6.out.cell 2
  have yb3 : w6.cell? ⟨w.heap.size + 1, 3, none⟩ = some (.int .i64 eb) := Bb6.out.cell 3
  go_wp2
  go_ret2
  exact ⟨rfl, HB6.out⟩

set_option maxRecDepth 100000 in
set_option maxHeartbeats 2000000 in
theorem Cmp_true (ca : Int) (ta : ByteArray) (ea : Int) (cb : Int) (nb : Bool) (tb : ByteArray) (eb : Int) (w : World) (ra rb : Int) (ha : MayD ca true (bys ta) ea) (hb0 : MayD cb nb (bys tb) eb) (hra : ∀ W, Calls Tryz.prog 40 #[dcV ca true ta ea] W fun e w' => e = .returned (.int .i64 ra) ∧ Below W.heap.size W w') (hrb : ∀ W, Calls Tryz.prog 40 #[dcV cb nb tb eb] W fun e w' => e = .returned (.int .i64 rb) ∧ Below W.heap.size W w') (h : Lib.compareInt ra rb = 0) : Calls Tryz.prog 21 #[dcV ca true ta ea, dcV cb nb tb eb] w fun e w' => e = .returned (.tuple #[.int .i64 (orI (Lib.compareInt ((tb.size : Int) + eb) ((ta.size : Int) + ea)) (Lib.compareBytes (bys tb) (bys ta))), .int .i64 0]) ∧ Below w.heap.size w w' := by
  have MA := hide (fun W => dmay_yes ca true ta ea W ha)
  have MB := hide (fun W => dmay_yes cb nb tb eb W hb0)
  have RA := hide hra
  have RB := hide hrb
  have CI := hide (fun W => Tryz.cmp_Compare_int ra rb W)
  rw [h] at CI
  obtain ⟨o, ho⟩ : ∃ o : Int, o = 0 := ⟨_, rfl⟩
  obtain ⟨a1, a2, a3⟩ := may_bounds ha
  obtain ⟨b1, b2, b3⟩ := may_bounds hb0
  have CA := hide (fun W => cmpA_any cb nb tb eb ca true ta ea W b1 b2 b3 a1 a2 a3)
  obtain ⟨v, hv⟩ : ∃ v, v = orI (Lib.compareInt ((tb.size : Int) + eb) ((ta.size : Int) + ea)) (Lib.compareBytes (bys tb) (bys ta)) := ⟨_, rfl⟩
  rw [← hv] at CA ⊢
  clear ha hb0 hra hrb h hv ho a1 a2 a3 b1 b2 b3
  have Ba0 := hide ((Blk.newAt w (w.heap.size) (rfl) #[.int .i64 ca, .bool true, .string ta, .int .i64 ea] 23).alloc (.cells #[.int .i64 cb, .bool nb, .string tb, .int .i64 eb] 23))
  have Bb0 := hide (Blk.newAt (w.alloc (.cells #[.int .i64 ca, .bool true, .string ta, .int .i64 ea] 23)) (w.heap.size + 1) (by simp) #[.int .i64 cb, .bool nb, .string tb, .int .i64 eb] 23)
  have HB0 : Hid (Below w.heap.size w ((w.alloc (.cells #[.int .i64 ca, .bool true, .string ta, .int .i64 ea] 23)).alloc (.cells #[.int .i64 cb, .bool nb, .string tb, .int .i64 eb] 23))) := (((Below.refl _ _).alloc (Nat.le_refl _) _).alloc (by simp <;> omega) _)
  go_enter Tryz.func21, Tryz.ntmps21
  go_wp2_with fail
  refine (MA.out _).mono ?_
  rintro e w1 ⟨rfl, hb⟩
  have Ba1 := hide (Ba0.out.below hb Ba0.out.lt)
  have Bb1 := hide (Bb0.out.below hb Bb0.out.lt)
  have HB1 := hide (HB0.out.trans (hb.mono HB0.out.size))
  clear hb Ba0 Bb0 HB0 
  have ya0 : w1.cell? ⟨w.heap.size, 0, none⟩ = some (.int .i64 ca) := Ba1.out.cell 0
  have ya1 : w1.cell? ⟨w.heap.size, 1, none⟩ = some (.bool true) := Ba1.out.cell 1
  have ya2 : w1.cell? ⟨w.heap.size, 2, none⟩ = some (.string ta) := Ba1.out.cell 2
  have ya3 : w1.cell? ⟨w.heap.size, 3, none⟩ = some (.int .i64 ea) := Ba1.out.cell 3
  have yb0 : w1.cell? ⟨w.heap.size + 1, 0, none⟩ = some (.int .i64 cb) := Bb1.out.cell 0
  have yb1 : w1.cell? ⟨w.heap.size + 1, 1, none⟩ = some (.bool nb) := Bb1.out.cell 1
  have yb2 : w1.cell? ⟨w.heap.size + 1, 2, none⟩ = some (.string tb) := Bb1.out.cell 2
  have yb3 : w1.cell? ⟨w.heap.size + 1, 3, none⟩ = some (.int .i64 eb) := Bb1.out.cell 3
  go_wp2_with fail
  refine (MB.out _).mono ?_
  rintro e w2 ⟨rfl, hb⟩
  have Ba2 := hide (Ba1.out.below hb Ba1.out.lt)
  have Bb2 := hide (Bb1.out.below hb Bb1.out.lt)
  have HB2 := hide (HB1.out.trans (hb.mono HB1.out.size))
  clear hb Ba1 Bb1 HB1 ya0 ya1 ya2 ya3 yb0 yb1 yb2 yb3
  have ya0 : w2.cell? ⟨w.heap.size, 0, none⟩ = some (.int .i64 ca) := Ba2.out.cell 0
  have ya1 : w2.cell? ⟨w.heap.size, 1, none⟩ = some (.bool true) := Ba2.out.cell 1
  have ya2 : w2.cell? ⟨w.heap.size, 2, none⟩ = some (.string ta) := Ba2.out.cell 2
  have ya3 : w2.cell? ⟨w.heap.size, 3, none⟩ = some (.int .i64 ea) := Ba2.out.cell 3
  have yb0 : w2.cell? ⟨w.heap.size + 1, 0, none⟩ = some (.int .i64 cb) := Bb2.out.cell 0
  have yb1 : w2.cell? ⟨w.heap.size + 1, 1, none⟩ = some (.bool nb) := Bb2.out.cell 1
  have yb2 : w2.cell? ⟨w.heap.size + 1, 2, none⟩ = some (.string tb) := Bb2.out.cell 2
  have yb3 : w2.cell? ⟨w.heap.size + 1, 3, none⟩ = some (.int .i64 eb) := Bb2.out.cell 3
  have b0 : Hid (Below w2.heap.size w2 w2.drew) := bdrewD w2
  have C0 : Hid (∀ X, Hid (Below w2.heap.size w2 X) → Calls Tryz.prog 40 #[dcV ca true ta ea] X fun e w' => e = .returned (.int .i64 ra) ∧ Hid (Below w2.heap.size w2 w') ∧ w'.cell? ⟨w.heap.size, 0, none⟩ = some (.int .i64 ca) ∧ w'.cell? ⟨w.heap.size, 1, none⟩ = some (.bool true) ∧ w'.cell? ⟨w.heap.size, 2, none⟩ = some (.string ta) ∧ w'.cell? ⟨w.heap.size, 3, none⟩ = some (.int .i64 ea) ∧ w'.cell? ⟨w.heap.size + 1, 0, none⟩ = some (.int .i64 cb) ∧ w'.cell? ⟨w.heap.size + 1, 1, none⟩ = some (.bool nb) ∧ w'.cell? ⟨w.heap.size + 1, 2, none⟩ = some (.string tb) ∧ w'.cell? ⟨w.heap.size + 1, 3, none⟩ = some (.int .i64 eb)) := by
    intro X bX
    refine (RA.out X).mono ?_
    rintro e w' ⟨rfl, hb⟩
    have bb := bX.out.trans (hb.mono bX.out.size)
    have Baq := Ba2.out.below bb Ba2.out.lt
    have Bbq := Bb2.out.below bb Bb2.out.lt
    exact ⟨rfl, bb, Baq.cell 0, Baq.cell 1, Baq.cell 2, Baq.cell 3, Bbq.cell 0, Bbq.cell 1, Bbq.cell 2, Bbq.cell 3⟩
  have C1 : Hid (∀ X, Hid (Below w2.heap.size w2 X) → Calls Tryz.prog 40 #[dcV cb nb tb eb] X fun e w' => e = .returned (.int .i64 rb) ∧ Hid (Below w2.heap.size w2 w') ∧ w'.cell? ⟨w.heap.size, 0, none⟩ = some (.int .i64 ca) ∧ w'.cell? ⟨w.heap.size, 1, none⟩ = some (.bool true) ∧ w'.cell? ⟨w.heap.size, 2, none⟩ = some (.string ta) ∧ w'.cell? ⟨w.heap.size, 3, none⟩ = some (.int .i64 ea) ∧ w'.cell? ⟨w.heap.size + 1, 0, none⟩ = some (.int .i64 cb) ∧ w'.cell? ⟨w.heap.size + 1, 1, none⟩ = some (.bool nb) ∧ w'.cell? ⟨w.heap.size + 1, 2, none⟩ = some (.string tb) ∧ w'.cell? ⟨w.heap.size + 1, 3, none⟩ = some (.int .i64 eb)) := by
    intro X bX
    refine (RB.out X).mono ?_
    rintro e w' ⟨rfl, hb⟩
    have bb := bX.out.trans (hb.mono bX.out.size)
    have Baq := Ba2.out.below bb Ba2.out.lt
    have Bbq := Bb2.out.below bb Bb2.out.lt
    exact ⟨rfl, bb, Baq.cell 0, Baq.cell 1, Baq.cell 2, Baq.cell 3, Bbq.cell 0, Bbq.cell 1, Bbq.cell 2, Bbq.cell 3⟩
  have C2 : Hid (∀ X, Hid (Below w2.heap.size w2 X) → Calls Tryz.prog 39 #[.int .i64 ra, .int .i64 rb] X fun e w' => e = .returned (.int .i64 0) ∧ Hid (Below w2.heap.size w2 w') ∧ w'.cell? ⟨w.heap.size, 0, none⟩ = some (.int .i64 ca) ∧ w'.cell? ⟨w.heap.size, 1, none⟩ = some (.bool true) ∧ w'.cell? ⟨w.heap.size, 2, none⟩ = some (.string ta) ∧ w'.cell? ⟨w.heap.size, 3, none⟩ = some (.int .i64 ea) ∧ w'.cell? ⟨w.heap.size + 1, 0, none⟩ = some (.int .i64 cb) ∧ w'.cell? ⟨w.heap.size + 1, 1, none⟩ = some (.bool nb) ∧ w'.cell? ⟨w.heap.size + 1, 2, none⟩ = some (.string tb) ∧ w'.cell? ⟨w.heap.size + 1, 3, none⟩ = some (.int .i64 eb)) := by
    intro X bX
    refine (Calls.mono (CI.out X) (fun e w' h => (⟨h.1, h.2 ▸ Below.refl _ _⟩ : _ ∧ Below X.heap.size X w'))).mono ?_
    rintro e w' ⟨rfl, hb⟩
    have bb := bX.out.trans (hb.mono bX.out.size)
    have Baq := Ba2.out.below bb Ba2.out.lt
    have Bbq := Bb2.out.below bb Bb2.out.lt
    exact ⟨rfl, bb, Baq.cell 0, Baq.cell 1, Baq.cell 2, Baq.cell 3, Bbq.cell 0, Bbq.cell 1, Bbq.cell 2, Bbq.cell 3⟩
  go_wp2_with fail
  have mk0 : True := trivial
  go_region_held3 (fun w' => w'.cell? ⟨w.heap.size, 0, none⟩ = some (.int .i64 ca) ∧ w'.cell? ⟨w.heap.size, 1, none⟩ = some (.bool true) ∧ w'.cell? ⟨w.heap.size, 2, none⟩ = some (.string ta) ∧ w'.cell? ⟨w.heap.size, 3, none⟩ = some (.int .i64 ea) ∧ w'.cell? ⟨w.heap.size + 1, 0, none⟩ = some (.int .i64 cb) ∧ w'.cell? ⟨w.heap.size + 1, 1, none⟩ = some (.bool nb) ∧ w'.cell? ⟨w.heap.size + 1, 2, none⟩ = some (.string tb) ∧ w'.cell? ⟨w.heap.size + 1, 3, none⟩ = some (.int .i64 eb)) (go_keep) (first
    | (clear mk0; go_at_call 40; refine (C0.out _ b0).mono ?_; rintro e w3 ⟨rfl, b1, q0_0, q0_1, q0_2, q0_3, q0_4, q0_5, q0_6, q0_7⟩; have mk1 : True := trivial)
    | (clear mk1; go_at_call 40; refine (C1.out _ b1).mono ?_; rintro e w4 ⟨rfl, b2, q1_0, q1_1, q1_2, q1_3, q1_4, q1_5, q1_6, q1_7⟩; have mk2 : True := trivial)
    | (clear mk2; go_at_call 39; refine (C2.out _ b2).mono ?_; rintro e w5 ⟨rfl, b3, q2_0, q2_1, q2_2, q2_3, q2_4, q2_5, q2_6, q2_7⟩; have mk3 : True := trivial))
  have Ba5 := hide (Ba2.out.below b3.out Ba2.out.lt)
  have Bb5 := hide (Bb2.out.below b3.out Bb2.out.lt)
  have HB5 := hide (HB2.out.trans (b3.out.mono HB2.out.size))
  clear mk3 b0 b1 b2 b3 C0 C1 C2 q0_0 q0_1 q0_2 q0_3 q0_4 q0_5 q0_6 q0_7 q1_0 q1_1 q1_2 q1_3 q1_4 q1_5 q1_6 q1_7 q2_0 q2_1 q2_2 q2_3 q2_4 q2_5 q2_6 q2_7 Ba2 Bb2 HB2 ya0 ya1 ya2 ya3 yb0 yb1 yb2 yb3
  have ya0 : w5.cell? ⟨w.heap.size, 0, none⟩ = some (.int .i64 ca) := Ba5.out.cell 0
  have ya1 : w5.cell? ⟨w.heap.size, 1, none⟩ = some (.bool true) := Ba5.out.cell 1
  have ya2 : w5.cell? ⟨w.heap.size, 2, none⟩ = some (.string ta) := Ba5.out.cell 2
  have ya3 : w5.cell? ⟨w.heap.size, 3, none⟩ = some (.int .i64 ea) := Ba5.out.cell 3
  have yb0 : w5.cell? ⟨w.heap.size + 1, 0, none⟩ = some (.int .i64 cb) := Bb5.out.cell 0
  have yb1 : w5.cell? ⟨w.heap.size + 1, 1, none⟩ = some (.bool nb) := Bb5.out.cell 1
  have yb2 : w5.cell? ⟨w.heap.size + 1, 2, none⟩ = some (.string tb) := Bb5.out.cell 2
  have yb3 : w5.cell? ⟨w.heap.size + 1, 3, none⟩ = some (.int .i64 eb) := Bb5.out.cell 3
  have fa0 := Ba5.out.free 0
  have fa1 := Ba5.out.free 1
  have fa2 := Ba5.out.free 2
  have fa3 := Ba5.out.free 3
  have fb0 := Bb5.out.free 0
  have fb1 := Bb5.out.free 1
  have fb2 := Bb5.out.free 2
  have fb3 := Bb5.out.free 3
  go_wp2_with fail
  refine (CA.out _).mono ?_
  rintro e w6 ⟨rfl, hb⟩
  have HB6 : Hid (Below w.heap.size w w6) := (below_put4 (below_put4 HB5.out (Nat.le_refl _) _ _ _ _) (Nat.le_succ _) _ _ _ _).trans (hb.mono (below_put4 (below_put4 HB5.out (Nat.le_refl _) _ _ _ _) (Nat.le_succ _) _ _ _ _).size)
  clear hb HB5
  go_wp2
  go_ret2
  exact ⟨rfl, HB6.out⟩

theorem Cmp_d (a b : DecT) (w : World) (ha : May a) (hb : May b) : Calls Tryz.prog 21 #[decVal a, decVal b] w fun e w' => e = .returned (.tuple #[.int .i64 (cmpI (wD a) (wD b)), .int .i64 0]) ∧ Below w.heap.size w w' := by
  have hra := fun W => rank_d a W ha
  have hrb := fun W => rank_d b W hb
  have ha' : MayD (a.cls : Int) a.neg (bys ⟨a.dig.toArray⟩) a.exp := by rw [bys_mk]; exact ha
  have hb' : MayD (b.cls : Int) b.neg (bys ⟨b.dig.toArray⟩) b.exp := by rw [bys_mk]; exact hb
  by_cases h : Lib.compareInt (rankI a) (rankI b) = 0
  · have e := same_cmp ha hb (rank_same h)
    have sa : (⟨a.dig.toArray⟩ : ByteArray).size = a.dig.length := size_mk0 _
    have sb : (⟨b.dig.toArray⟩ : ByteArray).size = b.dig.length := size_mk0 _
    rw [← e]
    unfold amtI
    obtain ⟨c, n, l, x⟩ := a
    cases n
    · have g := Cmp_false (c : Int) ⟨l.toArray⟩ x (b.cls : Int) b.neg ⟨b.dig.toArray⟩ b.exp w _ _ ha' hb' hra hrb h
      rw [sa, sb, bys_mk, bys_mk] at g
      exact g
    · have g := Cmp_true (c : Int) ⟨l.toArray⟩ x (b.cls : Int) b.neg ⟨b.dig.toArray⟩ b.exp w _ _ ha' hb' hra hrb h
      rw [sa, sb, bys_mk, bys_mk] at g
      exact g
  · rw [← rank_cmp ha hb h]
    exact Cmp_rank (a.cls : Int) a.neg ⟨a.dig.toArray⟩ a.exp (b.cls : Int) b.neg ⟨b.dig.toArray⟩ b.exp w _ _ ha' hb' hra hrb h

end Go.Proofs.YtcclbcnmkaobpaaGreatDoor

namespace Go.Proofs.YtcclbcnmkaobpaaGreatDoor
open Go.RowKit

set_option maxHeartbeats 1000000 in
theorem less_gen (ca : Int) (na : Bool) (ta : ByteArray) (ea : Int) (cb : Int) (nb : Bool) (tb : ByteArray) (eb : Int) (x k : Int) (w : World) (g0 : ∀ W, Calls Tryz.prog 21 #[dcV ca na ta ea, dcV cb nb tb eb] W fun e w' => e = .returned (.tuple #[.int .i64 x, .int .i64 k]) ∧ Below W.heap.size W w') : Calls Tryz.prog 20 #[dcV ca na ta ea, dcV cb nb tb eb] w fun e w' => e = .returned (.bool (decide (x < 0))) ∧ Below w.heap.size w w' := by
  have H0 := hide g0
  clear g0
  have Ba0 := hide ((Blk.newAt w (w.heap.size) (rfl) #[.int .i64 ca, .bool na, .string ta, .int .i64 ea] 23).alloc (.cells #[.int .i64 cb, .bool nb, .string tb, .int .i64 eb] 23))
  have Bb0 := hide (Blk.newAt (w.alloc (.cells #[.int .i64 ca, .bool na, .string ta, .int .i64 ea] 23)) (w.heap.size + 1) (by simp) #[.int .i64 cb, .bool nb, .string tb, .int .i64 eb] 23)
  have HB0 : Hid (Below w.heap.size w ((w.alloc (.cells #[.int .i64 ca, .bool na, .string ta, .int .i64 ea] 23)).alloc (.cells #[.int .i64 cb, .bool nb, .string tb, .int .i64 eb] 23))) := (((Below.refl _ _).alloc (Nat.le_refl _) _).alloc (by simp <;> omega) _)
  go_enter Tryz.func20, Tryz.ntmps20
  go_wp2_with fail
  refine (H0.out _).mono ?_
  rintro e w1 ⟨rfl, hb⟩
  have Ba1 := hide (Ba0.out.below hb Ba0.out.lt)
  have Bb1 := hide (Bb0.out.below hb Bb0.out.lt)
  have HB1 := hide (HB0.out.trans (hb.mono HB0.out.size))
  clear hb Ba0 Bb0 HB0 
  have ya0 : w1.cell? ⟨w.heap.size, 0, none⟩ = some (.int .i64 ca) := Ba1.out.cell 0
  have ya1 : w1.cell? ⟨w.heap.size, 1, none⟩ = some (.bool na) := Ba1.out.cell 1
  have ya2 : w1.cell? ⟨w.heap.size, 2, none⟩ = some (.string ta) := Ba1.out.cell 2
  have ya3 : w1.cell? ⟨w.heap.size, 3, none⟩ = some (.int .i64 ea) := Ba1.out.cell 3
  have yb0 : w1.cell? ⟨w.heap.size + 1, 0, none⟩ = some (.int .i64 cb) := Bb1.out.cell 0
  have yb1 : w1.cell? ⟨w.heap.size + 1, 1, none⟩ = some (.bool nb) := Bb1.out.cell 1
  have yb2 : w1.cell? ⟨w.heap.size + 1, 2, none⟩ = some (.string tb) := Bb1.out.cell 2
  have yb3 : w1.cell? ⟨w.heap.size + 1, 3, none⟩ = some (.int .i64 eb) := Bb1.out.cell 3
  go_wp2
  go_ret
  exact ⟨rfl, HB1.out⟩

theorem less_d (a b : DecT) (ha : May a) (hb : May b) (w : World) : Calls Tryz.prog 20 #[decVal a, decVal b] w fun e w' => e = .returned (.bool (decide (wD a < wD b))) ∧ Below w.heap.size w w' := by
  have g := less_gen (a.cls : Int) a.neg ⟨a.dig.toArray⟩ a.exp (b.cls : Int) b.neg ⟨b.dig.toArray⟩ b.exp (cmpI (wD a) (wD b)) 0 w (fun W => Cmp_d a b W ha hb)
  have e : decide (cmpI (wD a) (wD b) < 0) = decide (wD a < wD b) := by
    congr 1
    apply propext
    unfold cmpI
    constructor
    · intro h
      by_cases h1 : wD a < wD b
      · exact h1
      · rw [if_neg h1] at h
        split at h <;> omega
    · intro h
      rw [if_pos h]
      omega
  rw [e] at g
  exact g

set_option maxRecDepth 100000 in
set_option maxHeartbeats 2000000 in
theorem order_bad_e (ca : Int) (na : Bool) (ta : ByteArray) (ea : Int) (p : Int) (cx : Int) (nx : Bool) (tx : ByteArray) (ex : Int) (cy : Int) (ny : Bool) (ty : ByteArray) (ey : Int) (re rf : Int) (w : World) (htab : Tab w) (he : ¬ re = 0) (g0 : ∀ W, Tab W → Calls Tryz.prog 11 #[dcV ca na ta ea, .int .i64 p, .int .i64 1] W fun e w' => e = .returned (.tuple #[.agg #[.int .i64 cx, .bool nx, .string tx, .int .i64 ex], .int .i64 re]) ∧ Below W.heap.size W w') (g1 : ∀ W, Tab W → Calls Tryz.prog 11 #[dcV ca na ta ea, .int .i64 p, .int .i64 0] W fun e w' => e = .returned (.tuple #[.agg #[.int .i64 cy, .bool ny, .string ty, .int .i64 ey], .int .i64 rf]) ∧ Below W.heap.size W w') : Calls Tryz.prog 10 #[dcV ca na ta ea, .int .i64 p] w fun e w' => e = .returned (.bool true) ∧ Below w.heap.size w w' := by
  have H0 := hide g0
  have H1 := hide g1
  have q2 : (re != 0) = true := by simpa using he
  have HT := hide htab
  clear htab he g0 g1
  have Ba0 := hide (Blk.newAt w (w.heap.size) (rfl) #[.int .i64 ca, .bool na, .string ta, .int .i64 ea] 23)
  have HB0 : Hid (Below w.heap.size w (w.alloc (.cells #[.int .i64 ca, .bool na, .string ta, .int .i64 ea] 23))) := ((Below.refl _ _).alloc (Nat.le_refl _) _)
  go_enter Tryz.func10, Tryz.ntmps10
  go_wp2_with fail
  refine (rawake_any _ (HT.out.below HB0.out)).mono ?_
  rintro e w1 ⟨rfl, hb⟩
  have Ba1 := hide (Ba0.out.below hb Ba0.out.lt)
  have HB1 := hide (HB0.out.trans (hb.mono HB0.out.size))
  clear hb Ba0 HB0 
  have ya0 : w1.cell? ⟨w.heap.size, 0, none⟩ = some (.int .i64 ca) := Ba1.out.cell 0
  have ya1 : w1.cell? ⟨w.heap.size, 1, none⟩ = some (.bool na) := Ba1.out.cell 1
  have ya2 : w1.cell? ⟨w.heap.size, 2, none⟩ = some (.string ta) := Ba1.out.cell 2
  have ya3 : w1.cell? ⟨w.heap.size, 3, none⟩ = some (.int .i64 ea) := Ba1.out.cell 3
  go_wp2_with fail
  refine (H0.out _ (HT.out.below HB1.out)).mono ?_
  rintro e w2 ⟨rfl, hb⟩
  have Ba2 := hide (Ba1.out.below hb Ba1.out.lt)
  have HB2 := hide (HB1.out.trans (hb.mono HB1.out.size))
  clear hb Ba1 HB1 ya0 ya1 ya2 ya3
  have ya0 : w2.cell? ⟨w.heap.size, 0, none⟩ = some (.int .i64 ca) := Ba2.out.cell 0
  have ya1 : w2.cell? ⟨w.heap.size, 1, none⟩ = some (.bool na) := Ba2.out.cell 1
  have ya2 : w2.cell? ⟨w.heap.size, 2, none⟩ = some (.string ta) := Ba2.out.cell 2
  have ya3 : w2.cell? ⟨w.heap.size, 3, none⟩ = some (.int .i64 ea) := Ba2.out.cell 3
  have Ba3 := hide ((Ba2.out.alloc (.cells #[.int .i64 cx, .bool nx, .string tx, .int .i64 ex] 23)))
  have Bx3 := hide ((Blk.newAt w2 (w2.heap.size) (rfl) #[.int .i64 cx, .bool nx, .string tx, .int .i64 ex] 23))
  have HB3 : Hid (Below w.heap.size w (w2.alloc (.cells #[.int .i64 cx, .bool nx, .string tx, .int .i64 ex] 23))) := (HB2.out.alloc HB2.out.size _)
  clear Ba2 HB2 ya0 ya1 ya2 ya3
  have ya0 : (w2.alloc (.cells #[.int .i64 cx, .bool nx, .string tx, .int .i64 ex] 23)).cell? ⟨w.heap.size, 0, none⟩ = some (.int .i64 ca) := Ba3.out.cell 0
  have ya1 : (w2.alloc (.cells #[.int .i64 cx, .bool nx, .string tx, .int .i64 ex] 23)).cell? ⟨w.heap.size, 1, none⟩ = some (.bool na) := Ba3.out.cell 1
  have ya2 : (w2.alloc (.cells #[.int .i64 cx, .bool nx, .string tx, .int .i64 ex] 23)).cell? ⟨w.heap.size, 2, none⟩ = some (.string ta) := Ba3.out.cell 2
  have ya3 : (w2.alloc (.cells #[.int .i64 cx, .bool nx, .string tx, .int .i64 ex] 23)).cell? ⟨w.heap.size, 3, none⟩ = some (.int .i64 ea) := Ba3.out.cell 3
  have yx0 : (w2.alloc (.cells #[.int .i64 cx, .bool nx, .string tx, .int .i64 ex] 23)).cell? ⟨w2.heap.size, 0, none⟩ = some (.int .i64 cx) := Bx3.out.cell 0
  have yx1 : (w2.alloc (.cells #[.int .i64 cx, .bool nx, .string tx, .int .i64 ex] 23)).cell? ⟨w2.heap.size, 1, none⟩ = some (.bool nx) := Bx3.out.cell 1
  have yx2 : (w2.alloc (.cells #[.int .i64 cx, .bool nx, .string tx, .int .i64 ex] 23)).cell? ⟨w2.heap.size, 2, none⟩ = some (.string tx) := Bx3.out.cell 2
  have yx3 : (w2.alloc (.cells #[.int .i64 cx, .bool nx, .string tx, .int .i64 ex] 23)).cell? ⟨w2.heap.size, 3, none⟩ = some (.int .i64 ex) := Bx3.out.cell 3
  go_wp2_with fail
  refine (H1.out _ (HT.out.below HB3.out)).mono ?_
  rintro e w4 ⟨rfl, hb⟩
  have Ba4 := hide (Ba3.out.below hb Ba3.out.lt)
  have Bx4 := hide (Bx3.out.below hb Bx3.out.lt)
  have HB4 := hide (HB3.out.trans (hb.mono HB3.out.size))
  clear hb Ba3 Bx3 HB3 ya0 ya1 ya2 ya3 yx0 yx1 yx2 yx3
  have ya0 : w4.cell? ⟨w.heap.size, 0, none⟩ = some (.int .i64 ca) := Ba4.out.cell 0
  have ya1 : w4.cell? ⟨w.heap.size, 1, none⟩ = some (.bool na) := Ba4.out.cell 1
  have ya2 : w4.cell? ⟨w.heap.size, 2, none⟩ = some (.string ta) := Ba4.out.cell 2
  have ya3 : w4.cell? ⟨w.heap.size, 3, none⟩ = some (.int .i64 ea) := Ba4.out.cell 3
  have yx0 : w4.cell? ⟨w2.heap.size, 0, none⟩ = some (.int .i64 cx) := Bx4.out.cell 0
  have yx1 : w4.cell? ⟨w2.heap.size, 1, none⟩ = some (.bool nx) := Bx4.out.cell 1
  have yx2 : w4.cell? ⟨w2.heap.size, 2, none⟩ = some (.string tx) := Bx4.out.cell 2
  have yx3 : w4.cell? ⟨w2.heap.size, 3, none⟩ = some (.int .i64 ex) := Bx4.out.cell 3
  have Ba5 := hide ((Ba4.out.alloc (.cells #[.int .i64 cy, .bool ny, .string ty, .int .i64 ey] 23)))
  have Bx5 := hide ((Bx4.out.alloc (.cells #[.int .i64 cy, .bool ny, .string ty, .int .i64 ey] 23)))
  have By5 := hide ((Blk.newAt w4 (w4.heap.size) (rfl) #[.int .i64 cy, .bool ny, .string ty, .int .i64 ey] 23))
  have HB5 : Hid (Below w.heap.size w (w4.alloc (.cells #[.int .i64 cy, .bool ny, .string ty, .int .i64 ey] 23))) := (HB4.out.alloc HB4.out.size _)
  clear Ba4 Bx4 HB4 ya0 ya1 ya2 ya3 yx0 yx1 yx2 yx3
  have ya0 : (w4.alloc (.cells #[.int .i64 cy, .bool ny, .string ty, .int .i64 ey] 23)).cell? ⟨w.heap.size, 0, none⟩ = some (.int .i64 ca) := Ba5.out.cell 0
  have ya1 : (w4.alloc (.cells #[.int .i64 cy, .bool ny, .string ty, .int .i64 ey] 23)).cell? ⟨w.heap.size, 1, none⟩ = some (.bool na) := Ba5.out.cell 1
  have ya2 : (w4.alloc (.cells #[.int .i64 cy, .bool ny, .string ty, .int .i64 ey] 23)).cell? ⟨w.heap.size, 2, none⟩ = some (.string ta) := Ba5.out.cell 2
  have ya3 : (w4.alloc (.cells #[.int .i64 cy, .bool ny, .string ty, .int .i64 ey] 23)).cell? ⟨w.heap.size, 3, none⟩ = some (.int .i64 ea) := Ba5.out.cell 3
  have yx0 : (w4.alloc (.cells #[.int .i64 cy, .bool ny, .string ty, .int .i64 ey] 23)).cell? ⟨w2.heap.size, 0, none⟩ = some (.int .i64 cx) := Bx5.out.cell 0
  have yx1 : (w4.alloc (.cells #[.int .i64 cy, .bool ny, .string ty, .int .i64 ey] 23)).cell? ⟨w2.heap.size, 1, none⟩ = some (.bool nx) := Bx5.out.cell 1
  have yx2 : (w4.alloc (.cells #[.int .i64 cy, .bool ny, .string ty, .int .i64 ey] 23)).cell? ⟨w2.heap.size, 2, none⟩ = some (.string tx) := Bx5.out.cell 2
  have yx3 : (w4.alloc (.cells #[.int .i64 cy, .bool ny, .string ty, .int .i64 ey] 23)).cell? ⟨w2.heap.size, 3, none⟩ = some (.int .i64 ex) := Bx5.out.cell 3
  have yy0 : (w4.alloc (.cells #[.int .i64 cy, .bool ny, .string ty, .int .i64 ey] 23)).cell? ⟨w4.heap.size, 0, none⟩ = some (.int .i64 cy) := By5.out.cell 0
  have yy1 : (w4.alloc (.cells #[.int .i64 cy, .bool ny, .string ty, .int .i64 ey] 23)).cell? ⟨w4.heap.size, 1, none⟩ = some (.bool ny) := By5.out.cell 1
  have yy2 : (w4.alloc (.cells #[.int .i64 cy, .bool ny, .string ty, .int .i64 ey] 23)).cell? ⟨w4.heap.size, 2, none⟩ = some (.string ty) := By5.out.cell 2
  have yy3 : (w4.alloc (.cells #[.int .i64 cy, .bool ny, .string ty, .int .i64 ey] 23)).cell? ⟨w4.heap.size, 3, none⟩ = some (.int .i64 ey) := By5.out.cell 3
  go_wp2
  go_ret
  exact ⟨rfl, HB5.out⟩

set_option maxRecDepth 100000 in
set_option maxHeartbeats 2000000 in
theorem order_bad_f (ca : Int) (na : Bool) (ta : ByteArray) (ea : Int) (p : Int) (cx : Int) (nx : Bool) (tx : ByteArray) (ex : Int) (cy : Int) (ny : Bool) (ty : ByteArray) (ey : Int) (rf : Int) (w : World) (htab : Tab w) (he : ¬ rf = 0) (g0 : ∀ W, Tab W → Calls Tryz.prog 11 #[dcV ca na ta ea, .int .i64 p, .int .i64 1] W fun e w' => e = .returned (.tuple #[.agg #[.int .i64 cx, .bool nx, .string tx, .int .i64 ex], .int .i64 0]) ∧ Below W.heap.size W w') (g1 : ∀ W, Tab W → Calls Tryz.prog 11 #[dcV ca na ta ea, .int .i64 p, .int .i64 0] W fun e w' => e = .returned (.tuple #[.agg #[.int .i64 cy, .bool ny, .string ty, .int .i64 ey], .int .i64 rf]) ∧ Below W.heap.size W w') : Calls Tryz.prog 10 #[dcV ca na ta ea, .int .i64 p] w fun e w' => e = .returned (.bool true) ∧ Below w.heap.size w w' := by
  have H0 := hide g0
  have H1 := hide g1
  have q2 : (rf != 0) = true := by simpa using he
  have HT := hide htab
  clear htab he g0 g1
  have Ba0 := hide (Blk.newAt w (w.heap.size) (rfl) #[.int .i64 ca, .bool na, .string ta, .int .i64 ea] 23)
  have HB0 : Hid (Below w.heap.size w (w.alloc (.cells #[.int .i64 ca, .bool na, .string ta, .int .i64 ea] 23))) := ((Below.refl _ _).alloc (Nat.le_refl _) _)
  go_enter Tryz.func10, Tryz.ntmps10
  go_wp2_with fail
  refine (rawake_any _ (HT.out.below HB0.out)).mono ?_
  rintro e w1 ⟨rfl, hb⟩
  have Ba1 := hide (Ba0.out.below hb Ba0.out.lt)
  have HB1 := hide (HB0.out.trans (hb.mono HB0.out.size))
  clear hb Ba0 HB0 
  have ya0 : w1.cell? ⟨w.heap.size, 0, none⟩ = some (.int .i64 ca) := Ba1.out.cell 0
  have ya1 : w1.cell? ⟨w.heap.size, 1, none⟩ = some (.bool na) := Ba1.out.cell 1
  have ya2 : w1.cell? ⟨w.heap.size, 2, none⟩ = some (.string ta) := Ba1.out.cell 2
  have ya3 : w1.cell? ⟨w.heap.size, 3, none⟩ = some (.int .i64 ea) := Ba1.out.cell 3
  go_wp2_with fail
  refine (H0.out _ (HT.out.below HB1.out)).mono ?_
  rintro e w2 ⟨rfl, hb⟩
  have Ba2 := hide (Ba1.out.below hb Ba1.out.lt)
  have HB2 := hide (HB1.out.trans (hb.mono HB1.out.size))
  clear hb Ba1 HB1 ya0 ya1 ya2 ya3
  have ya0 : w2.cell? ⟨w.heap.size, 0, none⟩ = some (.int .i64 ca) := Ba2.out.cell 0
  have ya1 : w2.cell? ⟨w.heap.size, 1, none⟩ = some (.bool na) := Ba2.out.cell 1
  have ya2 : w2.cell? ⟨w.heap.size, 2, none⟩ = some (.string ta) := Ba2.out.cell 2
  have ya3 : w2.cell? ⟨w.heap.size, 3, none⟩ = some (.int .i64 ea) := Ba2.out.cell 3
  have Ba3 := hide ((Ba2.out.alloc (.cells #[.int .i64 cx, .bool nx, .string tx, .int .i64 ex] 23)))
  have Bx3 := hide ((Blk.newAt w2 (w2.heap.size) (rfl) #[.int .i64 cx, .bool nx, .string tx, .int .i64 ex] 23))
  have HB3 : Hid (Below w.heap.size w (w2.alloc (.cells #[.int .i64 cx, .bool nx, .string tx, .int .i64 ex] 23))) := (HB2.out.alloc HB2.out.size _)
  clear Ba2 HB2 ya0 ya1 ya2 ya3
  have ya0 : (w2.alloc (.cells #[.int .i64 cx, .bool nx, .string tx, .int .i64 ex] 23)).cell? ⟨w.heap.size, 0, none⟩ = some (.int .i64 ca) := Ba3.out.cell 0
  have ya1 : (w2.alloc (.cells #[.int .i64 cx, .bool nx, .string tx, .int .i64 ex] 23)).cell? ⟨w.heap.size, 1, none⟩ = some (.bool na) := Ba3.out.cell 1
  have ya2 : (w2.alloc (.cells #[.int .i64 cx, .bool nx, .string tx, .int .i64 ex] 23)).cell? ⟨w.heap.size, 2, none⟩ = some (.string ta) := Ba3.out.cell 2
  have ya3 : (w2.alloc (.cells #[.int .i64 cx, .bool nx, .string tx, .int .i64 ex] 23)).cell? ⟨w.heap.size, 3, none⟩ = some (.int .i64 ea) := Ba3.out.cell 3
  have yx0 : (w2.alloc (.cells #[.int .i64 cx, .bool nx, .string tx, .int .i64 ex] 23)).cell? ⟨w2.heap.size, 0, none⟩ = some (.int .i64 cx) := Bx3.out.cell 0
  have yx1 : (w2.alloc (.cells #[.int .i64 cx, .bool nx, .string tx, .int .i64 ex] 23)).cell? ⟨w2.heap.size, 1, none⟩ = some (.bool nx) := Bx3.out.cell 1
  have yx2 : (w2.alloc (.cells #[.int .i64 cx, .bool nx, .string tx, .int .i64 ex] 23)).cell? ⟨w2.heap.size, 2, none⟩ = some (.string tx) := Bx3.out.cell 2
  have yx3 : (w2.alloc (.cells #[.int .i64 cx, .bool nx, .string tx, .int .i64 ex] 23)).cell? ⟨w2.heap.size, 3, none⟩ = some (.int .i64 ex) := Bx3.out.cell 3
  go_wp2_with fail
  refine (H1.out _ (HT.out.below HB3.out)).mono ?_
  rintro e w4 ⟨rfl, hb⟩
  have Ba4 := hide (Ba3.out.below hb Ba3.out.lt)
  have Bx4 := hide (Bx3.out.below hb Bx3.out.lt)
  have HB4 := hide (HB3.out.trans (hb.mono HB3.out.size))
  clear hb Ba3 Bx3 HB3 ya0 ya1 ya2 ya3 yx0 yx1 yx2 yx3
  have ya0 : w4.cell? ⟨w.heap.size, 0, none⟩ = some (.int .i64 ca) := Ba4.out.cell 0
  have ya1 : w4.cell? ⟨w.heap.size, 1, none⟩ = some (.bool na) := Ba4.out.cell 1
  have ya2 : w4.cell? ⟨w.heap.size, 2, none⟩ = some (.string ta) := Ba4.out.cell 2
  have ya3 : w4.cell? ⟨w.heap.size, 3, none⟩ = some (.int .i64 ea) := Ba4.out.cell 3
  have yx0 : w4.cell? ⟨w2.heap.size, 0, none⟩ = some (.int .i64 cx) := Bx4.out.cell 0
  have yx1 : w4.cell? ⟨w2.heap.size, 1, none⟩ = some (.bool nx) := Bx4.out.cell 1
  have yx2 : w4.cell? ⟨w2.heap.size, 2, none⟩ = some (.string tx) := Bx4.out.cell 2
  have yx3 : w4.cell? ⟨w2.heap.size, 3, none⟩ = some (.int .i64 ex) := Bx4.out.cell 3
  have Ba5 := hide ((Ba4.out.alloc (.cells #[.int .i64 cy, .bool ny, .string ty, .int .i64 ey] 23)))
  have Bx5 := hide ((Bx4.out.alloc (.cells #[.int .i64 cy, .bool ny, .string ty, .int .i64 ey] 23)))
  have By5 := hide ((Blk.newAt w4 (w4.heap.size) (rfl) #[.int .i64 cy, .bool ny, .string ty, .int .i64 ey] 23))
  have HB5 : Hid (Below w.heap.size w (w4.alloc (.cells #[.int .i64 cy, .bool ny, .string ty, .int .i64 ey] 23))) := (HB4.out.alloc HB4.out.size _)
  clear Ba4 Bx4 HB4 ya0 ya1 ya2 ya3 yx0 yx1 yx2 yx3
  have ya0 : (w4.alloc (.cells #[.int .i64 cy, .bool ny, .string ty, .int .i64 ey] 23)).cell? ⟨w.heap.size, 0, none⟩ = some (.int .i64 ca) := Ba5.out.cell 0
  have ya1 : (w4.alloc (.cells #[.int .i64 cy, .bool ny, .string ty, .int .i64 ey] 23)).cell? ⟨w.heap.size, 1, none⟩ = some (.bool na) := Ba5.out.cell 1
  have ya2 : (w4.alloc (.cells #[.int .i64 cy, .bool ny, .string ty, .int .i64 ey] 23)).cell? ⟨w.heap.size, 2, none⟩ = some (.string ta) := Ba5.out.cell 2
  have ya3 : (w4.alloc (.cells #[.int .i64 cy, .bool ny, .string ty, .int .i64 ey] 23)).cell? ⟨w.heap.size, 3, none⟩ = some (.int .i64 ea) := Ba5.out.cell 3
  have yx0 : (w4.alloc (.cells #[.int .i64 cy, .bool ny, .string ty, .int .i64 ey] 23)).cell? ⟨w2.heap.size, 0, none⟩ = some (.int .i64 cx) := Bx5.out.cell 0
  have yx1 : (w4.alloc (.cells #[.int .i64 cy, .bool ny, .string ty, .int .i64 ey] 23)).cell? ⟨w2.heap.size, 1, none⟩ = some (.bool nx) := Bx5.out.cell 1
  have yx2 : (w4.alloc (.cells #[.int .i64 cy, .bool ny, .string ty, .int .i64 ey] 23)).cell? ⟨w2.heap.size, 2, none⟩ = some (.string tx) := Bx5.out.cell 2
  have yx3 : (w4.alloc (.cells #[.int .i64 cy, .bool ny, .string ty, .int .i64 ey] 23)).cell? ⟨w2.heap.size, 3, none⟩ = some (.int .i64 ex) := Bx5.out.cell 3
  have yy0 : (w4.alloc (.cells #[.int .i64 cy, .bool ny, .string ty, .int .i64 ey] 23)).cell? ⟨w4.heap.size, 0, none⟩ = some (.int .i64 cy) := By5.out.cell 0
  have yy1 : (w4.alloc (.cells #[.int .i64 cy, .bool ny, .string ty, .int .i64 ey] 23)).cell? ⟨w4.heap.size, 1, none⟩ = some (.bool ny) := By5.out.cell 1
  have yy2 : (w4.alloc (.cells #[.int .i64 cy, .bool ny, .string ty, .int .i64 ey] 23)).cell? ⟨w4.heap.size, 2, none⟩ = some (.string ty) := By5.out.cell 2
  have yy3 : (w4.alloc (.cells #[.int .i64 cy, .bool ny, .string ty, .int .i64 ey] 23)).cell? ⟨w4.heap.size, 3, none⟩ = some (.int .i64 ey) := By5.out.cell 3
  go_wp2
  go_ret
  exact ⟨rfl, HB5.out⟩

end Go.Proofs.YtcclbcnmkaobpaaGreatDoor

namespace Go.Proofs.YtcclbcnmkaobpaaGreatDoor
open Go.RowKit

end Go.Proofs.YtcclbcnmkaobpaaGreatDoor

namespace Go.Proofs.YtcclbcnmkaobpaaGreatDoor

theorem rndN_zero (u : Nat) (neg : Bool) (m : Nat) : rndN 0 u neg m = 0 := by
  rw [rndN_exact neg m (Nat.zero_mod _), Nat.zero_div]

/-- A unit, counted in 10^-9000. -/
def unitA (N : Nat) (x : Int) : Nat := N * 10 ^ (x + 9000).toNat

theorem unitA_pos {N : Nat} (h : N ≠ 0) (x : Int) : 0 < unitA N x := Nat.mul_pos (Nat.pos_of_ne_zero h) (Nat.pow_pos (by omega))

theorem pow_join {e k : Int} (h1 : k ≤ e) (h2 : -9000 ≤ k) : 10 ^ (e - k).toNat * 10 ^ (k + 9000).toNat = 10 ^ (e + 9000).toNat := by
  rw [← Nat.pow_add]; congr 1; omega

theorem rndN_amt (D N : Nat) {e x : Int} (he : -9000 ≤ e) (hx : -9000 ≤ x) (neg : Bool) (m : Nat) :
    rndN (D * 10 ^ (e - min e x).toNat) (N * 10 ^ (x - min e x).toNat) neg m = rndN (D * 10 ^ (e + 9000).toNat) (unitA N x) neg m := by
  rw [← rndN_mul _ _ (10 ^ (min e x + 9000).toNat) neg m (Nat.pow_pos (by omega)), Nat.mul_assoc, Nat.mul_assoc, pow_join (by omega) (by omega), pow_join (by omega) (by omega)]
  rfl

theorem tellF_valR {neg : Bool} {N : Nat} {e : Int} (he : -9000 ≤ e) (h : (tellF neg N e).2 = 0) : vD (tellF neg N e).1 = zD neg N * ((10 ^ (e + 9000).toNat : Nat) : Int) ∧ (tellF neg N e).1.cls = 0 ∧ (tellF neg N e).1.neg = neg := by
  by_cases hm : May (finD neg N e)
  · rw [tellF_yes hm]
    refine ⟨vD_fin he, finD_cls _ _ _, ?_⟩
    unfold finD; split <;> rfl
  · rw [tellF_no hm] at h
    exact absurd h (by decide)

/-- What a finite number is rounded to, by its worth. -/
theorem rndD_val {d : DecT} (hd : May d) (hc : d.cls = 0) (N : Nat) {x : Int} (m : Nat) (hx : -9000 ≤ x) (h : (rndD d N x m).2 = 0) :
    vD (rndD d N x m).1 = zD d.neg (rndN (amt d.dig d.exp) (unitA N x) d.neg m * unitA N x) ∧ (rndD d N x m).1.cls = 0 ∧ (rndD d N x m).1.neg = d.neg := by
  by_cases hz : d.dig = []
  · rw [rndD_zero hz]
    refine ⟨?_, hc, rfl⟩
    have e0 : amt d.dig d.exp = 0 := by rw [hz]; simp [amt, decV]
    unfold vD
    rw [e0, rndN_zero, Nat.zero_mul]
  · have hf : Fin d := by
      rcases may_cases hd with ⟨n, rfl⟩ | h | ⟨n, rfl⟩ | rfl
      · exact absurd rfl hz
      · exact h
      · exact absurd rfl hz
      · exact absurd rfl hz
    have l1 := hf.len
    have l2 := hf.lo
    rw [rndD_fin hz] at h ⊢
    obtain ⟨h1, h2, h3⟩ := tellF_valR hx h
    refine ⟨?_, h2, h3⟩
    rw [h1, rndN_amt _ _ (by omega) hx, ← zD_mul, Nat.mul_assoc]
    rfl

theorem zD_le_zero (n : Nat) : zD true n ≤ 0 := by simp only [zD, if_true]; omega
theorem zD_ge_zero (n : Nat) : 0 ≤ zD false n := by simp [zD]

theorem wD_fin0 {d : DecT} (h : d.cls = 0) : wD d = vD d := by unfold wD; rw [h]; simp

end Go.Proofs.YtcclbcnmkaobpaaGreatDoor

namespace Go.Proofs.YtcclbcnmkaobpaaGreatDoor
open Go.RowKit

theorem decVal_raw {c : Int} {n : Bool} {t : ByteArray} {e : Int} (h : MayD c n (bys t) e) : decVal ⟨c.toNat, n, bys t, e⟩ = dcV c n t e := by
  unfold decVal
  simp only
  rw [← may_cls h, mk_bys]

theorem atR_ok {ca : Int} {na : Bool} {l : List UInt8} {ea p m : Int} (h : (atR ca na l ea p m).2 = 0) : MayD ca na l ea ∧ ¬ (m < 0 ∨ 8 ≤ m) ∧ ¬ (p < -4000 ∨ 4000 < p) := by
  by_cases h0 : MayD ca na l ea
  · by_cases h1 : m < 0 ∨ 8 ≤ m
    · rw [atR_mode h0 h1] at h; exact absurd h (by decide)
    · by_cases h2 : p < -4000 ∨ 4000 < p
      · rw [atR_place h0 h1 h2] at h; exact absurd h (by decide)
      · exact ⟨h0, h1, h2⟩
  · rw [atR_no h0] at h; exact absurd h (by decide)

end Go.Proofs.YtcclbcnmkaobpaaGreatDoor

namespace Go.Proofs.YtcclbcnmkaobpaaGreatDoor
open Go.RowKit

/-- The numbers x lie at o, in a block from lo on and below hi. -/
def Res (k : IntKind) (W : World) (o : Option Addr) (x : List Nat) (lo hi : Nat) : Prop := At k W o x ∧ ∀ b f, x ≠ [] → o = some ⟨b, f, none⟩ → lo ≤ b ∧ b < hi

theorem Res.below {k : IntKind} {W W' : World} {o : Option Addr} {x : List Nat} {lo hi : Nat} (h : Res k W o x lo hi) (hb : Below W.heap.size W W') : Res k W' o x lo hi := ⟨h.1.below hb, h.2⟩

theorem Res.set {k : IntKind} {W : World} {o : Option Addr} {x : List Nat} {lo hi H i : Nat} (h : Res k W o x lo hi) (hH : H < lo ∨ hi ≤ H) (v : Value) : Res k (W.setCell ⟨H, i, none⟩ v) o x lo hi := by
  refine ⟨?_, h.2⟩
  rcases h.1 with h' | ⟨b, f, h1, h2, h3⟩
  · exact .inl h'
  · by_cases hx : x = []
    · exact .inl hx
    · have h4 := h.2 b f hx h1
      refine .inr ⟨b, f, h1, by simpa [World.setCell] using h2, fun j hj => ?_⟩
      rw [← h3 j hj]
      have hne : H ≠ b := by omega
      refine World.cell?_of_block ?_
      simp [World.setCell, Array.getElem?_modify, hne]

theorem Res.of_own {k : IntKind} {e : TypeId} {W : World} {base m cap : Nat} {o : Option Addr} {x : List Nat} (h : Own k e W base m (.slice o x.length cap) x) (hat : At k W o x) : Res k W o x base W.heap.size := by
  refine ⟨hat, fun b f hx e => ?_⟩
  rcases h with ⟨_, h2⟩ | ⟨g, full, h1, h2, h3, _⟩
  · exact absurd h2 hx
  · simp only [Value.slice.injEq] at h1
    rw [e] at h1
    simp only [Option.some.injEq, Addr.mk.injEq] at h1
    have := h3.lt
    omega

theorem bal {w W : World} (h : Hid (Below w.heap.size w W)) (o : Obj) : Hid (Below w.heap.size w (W.alloc o)) := h.out.alloc h.out.size o

/-- What a call of whole answers in a region: the number z, in its one form. -/
structure WR (W W' : World) (m : Nat) (z : Int) (s : Bool) (o : Option Addr) (c : Nat) (r : List Nat) : Prop where
  ni : NI s r z
  le : r.length ≤ c
  few : c ≤ m
  res : Res .u64 W' o r W.heap.size W'.heap.size
  bel : Below W.heap.size W W'

theorem WR.of {W W' : World} {m : Nat} {z : Int} {e : Ending} (h : WPost W m z e W') : ∃ s o c r, e = .returned (.agg #[.bool s, .slice o (List.length r) c]) ∧ Hid (WR W W' m z s o c r) := by
  obtain ⟨s, v, r, hs, rfl, hown, his, hb⟩ := h
  obtain ⟨o, c, rfl, h1, h2, h3⟩ := hown.shape
  exact ⟨s, o, c, r, rfl, NI.mk hs his, h1, h2, Res.of_own hown h3, hb⟩

/-- Behind a region that calls twice and lays both answers in variables: block H holds the first, block K the second. -/
structure Both (w W : World) (T : TypeId) (H K : Nat) (x1 y1 x2 y2 : Value) (o1 : Option Addr) (r1 : List Nat) (o2 : Option Addr) (r2 : List Nat) (k : IntKind) : Prop where
  bel : Below w.heap.size w W
  p1 : Pair W H x1 y1 T
  p2 : Pair W K x2 y2 T
  at1 : At k W o1 r1
  at2 : At k W o2 r2

theorem both {w W : World} {T : TypeId} {H K : Nat} {a b c d x1 y1 x2 y2 : Value} {o1 o2 : Option Addr} {r1 r2 : List Nat} {k : IntKind} {l1 h1 l2 h2 : Nat} (hb : Below w.heap.size w W) (p1 : Pair W H a b T) (p2 : Pair W K c d T) (hH : w.heap.size ≤ H) (hK : w.heap.size ≤ K) (hne : H ≠ K)
    (f1 : Res k W o1 r1 l1 h1) (f2 : Res k W o2 r2 l2 h2) (e1 : (H < l1 ∨ h1 ≤ H) ∧ (K < l1 ∨ h1 ≤ K)) (e2 : (H < l2 ∨ h2 ≤ H) ∧ (K < l2 ∨ h2 ≤ K)) :
    Both w ((((W.setCell ⟨H, 0, none⟩ x1).setCell ⟨H, 1, none⟩ y1).setCell ⟨K, 0, none⟩ x2).setCell ⟨K, 1, none⟩ y2) T H K x1 y1 x2 y2 o1 r1 o2 r2 k := by
  refine ⟨(((hb.setCell hH _).setCell hH _).setCell hK _).setCell hK _, ?_, ?_, ?_, ?_⟩
  · exact ((p1.put _ _).other (by exact hne) _).other (by exact hne) _
  · exact ((p2.other (by exact Ne.symm hne) _).other (by exact Ne.symm hne) _).put _ _
  · exact ((((f1.set e1.1 _).set e1.1 _).set e1.2 _).set e1.2 _).1
  · exact ((((f2.set e2.1 _).set e2.1 _).set e2.2 _).set e2.2 _).1

section
variable {w W : World} {T : TypeId} {H : Nat} {a b x1 y1 x2 y2 : Value} {o1 o2 : Option Addr} {r1 r2 : List Nat} {k : IntKind} {l1 h1 l2 h2 : Nat}
end

end Go.Proofs.YtcclbcnmkaobpaaGreatDoor

namespace Go.Proofs.YtcclbcnmkaobpaaGreatDoor
open Go.RowKit

theorem Blk.four {w : World} {b : Nat} {x0 x1 x2 x3 : Value} {t : TypeId} (h : Blk w b #[x0, x1, x2, x3] t) : w.cell? ⟨b, 0, none⟩ = some x0 ∧ w.cell? ⟨b, 1, none⟩ = some x1 ∧ w.cell? ⟨b, 2, none⟩ = some x2 ∧ w.cell? ⟨b, 3, none⟩ = some x3 := ⟨h.cell 0, h.cell 1, h.cell 2, h.cell 3⟩
theorem Blk.two {w : World} {b : Nat} {x0 x1 : Value} {t : TypeId} (h : Blk w b #[x0, x1] t) : w.cell? ⟨b, 0, none⟩ = some x0 ∧ w.cell? ⟨b, 1, none⟩ = some x1 := ⟨h.cell 0, h.cell 1⟩
theorem Blk.on {w w' : World} {b : Nat} {cs : Array Value} {t : TypeId} (h : Hid (Blk w b cs t)) (hb : Below w.heap.size w w') : Hid (Blk w' b cs t) := h.out.below hb h.out.lt
theorem Blk.up {w : World} {b : Nat} {cs : Array Value} {t : TypeId} (h : Hid (Blk w b cs t)) (o : Obj) : Hid (Blk (w.alloc o) b cs t) := h.out.alloc o

end Go.Proofs.YtcclbcnmkaobpaaGreatDoor
